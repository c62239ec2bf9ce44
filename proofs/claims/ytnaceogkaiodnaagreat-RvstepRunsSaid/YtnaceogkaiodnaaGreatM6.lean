/- A map from numbers to functions that a call has made: what it reads as, and what is looked up in it. Plain lemmas; no condition but what each names. -/
import Derived.Test.YtnaceogkaiodnaaGreatRows
import Derived.WalkKit
import Derived.Maps.Own
import Derived.Maps.OwnSet
import Derived.Maps.Views
import Derived.ProofKit
import Derived.Lib.Hide
import Derived.Test.YtnaceogkaiodnaaGreatM1
import Derived.Test.YtnaceogkaiodnaaGreatM2
import Derived.Test.YtnaceogkaiodnaaGreatM3
import Derived.Deep.RegionHeld3
import Derived.StillTailTactics
namespace Go.Proofs.YtnaceogkaiodnaaGreat
open Go.RowKit
open Go.Maps (Keyed)
set_option linter.unusedVariables false

/-- A function reads as its number; none as a number below 0. -/
def fnElem (v : Value) : Option (DataW Unit × List MemPlace) :=
  match v with
  | .func (.func n) a b => if a.size = 0 ∧ b.size = 0 then some (.lit (.int .i64 n), []) else none
  | .nilFunc => some (.lit (.int .i64 (-1)), [])
  | _ => none
def litN (d : DataW Unit) : Int := match d with | .lit (.int _ n) => n | _ => -2
theorem fnElem_mk (n : Nat) : fnElem (.func (.func n) #[] #[]) = some (.lit (.int .i64 n), []) := by simp [fnElem]
theorem fnElem_nil : fnElem .nilFunc = some (.lit (.int .i64 (-1)), []) := rfl
theorem fnElem_inv {v : Value} {d : DataW Unit} {ps : List MemPlace} {n : Nat} (h : fnElem v = some (d, ps)) (hn : litN d = n) : v = .func (.func n) #[] #[] := by
  unfold fnElem at h
  split at h
  · rename_i m a b
    split at h
    · rename_i hab
      injection h with h
      injection h with h1 h2
      subst h1
      have hm : (m : Int) = n := hn
      obtain ⟨ha, hb⟩ := hab
      have hm : m = n := Int.ofNat.inj hm
      subst hm
      have ea : a = #[] := Array.eq_empty_of_size_eq_zero ha
      have eb : b = #[] := Array.eq_empty_of_size_eq_zero hb
      rw [ea, eb]
    · cases h
  · injection h with h
    injection h with h1 h2
    subst h1
    have hm : (-1 : Int) = n := hn
    omega
  · cases h

/-- Which function an operation has. -/
def effF (op : Int) : Nat :=
  if op = 1 then 93 else if op = 2 then 94 else if op = 3 then 95 else if op = 4 then 96
  else if op = 5 then 97 else if op = 6 then 98 else if op = 7 then 99 else if op = 8 then 100
  else if op = 9 then 101 else if op = 10 then 102 else if op = 11 then 103 else if op = 12 then 104
  else if op = 13 then 105 else if op = 14 then 106 else if op = 15 then 107 else if op = 16 then 108
  else if op = 17 then 109 else if op = 18 then 110 else if op = 19 then 111 else if op = 20 then 112
  else if op = 21 then 113 else if op = 63 then 114 else if op ≤ 34 then 115 else 116
def effBase : List (Int × Nat) := [(1, 93), (2, 94), (3, 95), (4, 96),
  (5, 97), (6, 98), (7, 99), (8, 100), (9, 101), (10, 102),
  (11, 103), (12, 104), (13, 105), (14, 106), (15, 107), (16, 108), (17, 109),
  (18, 110), (19, 111), (20, 112), (21, 113), (63, 114)]
def fnPut (D : DataW Unit) (p : Int × Nat) : DataW Unit := D.put (.int .i64 p.1) (.lit (.int .i64 p.2))
def someFrom (a : Int) (f k : Nat) : List (Int × Nat) := (List.range k).map fun j : Nat => (a + (j : Int), f)
theorem someFrom_snoc (a : Int) (f k : Nat) : someFrom a f (k + 1) = someFrom a f k ++ [(a + k, f)] := by simp [someFrom, List.range_succ]
def effD1 (k : Nat) : DataW Unit := (effBase ++ someFrom 22 115 k).foldl fnPut (.map [])
def effD2 (k : Nat) : DataW Unit := (someFrom 35 116 k).foldl fnPut (effD1 13)
theorem effD1_snoc (k : Nat) : effD1 (k + 1) = (effD1 k).put (.int .i64 (22 + k)) (.lit (.int .i64 115)) := by
  unfold effD1
  rw [someFrom_snoc, ← List.append_assoc, List.foldl_append]
  rfl
theorem effD2_zero : effD2 0 = effD1 13 := rfl
theorem effD2_snoc (k : Nat) : effD2 (k + 1) = (effD2 k).put (.int .i64 (35 + k)) (.lit (.int .i64 116)) := by
  unfold effD2
  rw [someFrom_snoc, List.foldl_append]
  rfl
theorem effD_at : ∀ k : Fin 63, litN ((effD2 28).atKey (.int .i64 (((k : Nat) + 1 : Nat) : Int)) (.lit (.int .i64 (-1)))) = (effF (((k : Nat) + 1 : Nat) : Int) : Int) := by decide +kernel
/-- A block holds the map from operations to what they do. -/
def EffAt (w : World) (eb : Nat) : Prop := ∃ n, w.ownsMap Tryz.prog 3 fnElem eb n (effD2 28)
theorem EffAt.heap {w w' : World} {eb : Nat} (h : EffAt w eb) (he : eb < w.heap.size → w'.heap[eb]? = w.heap[eb]?) : EffAt w' eb := by
  obtain ⟨n, h⟩ := h
  have hlt := h.lt
  obtain ⟨es, clock, hb, hr⟩ := h
  exact ⟨n, es, clock, (he hlt).trans hb, hr⟩
theorem EffAt.lt {w : World} {eb : Nat} (h : EffAt w eb) : eb < w.heap.size := by
  obtain ⟨n, h⟩ := h
  exact h.lt
theorem EffAt.is_map {w : World} {eb : Nat} (h : EffAt w eb) : ∃ es clock, w.heap[eb]? = some (.map es clock) := by
  obtain ⟨n, es, clock, hb, _⟩ := h
  exact ⟨es, clock, hb⟩
theorem eff_zero (w : World) : (zeroValue 78).run Tryz.prog w = .ok .nilFunc w := by
  kernel_rfl
theorem wf_small {a : Int} (h : -9223372036854775808 ≤ a) (h' : a < 9223372036854775808) : (Lit.int .i64 a).wf = true := by
  simp [Lit.wf, IntKind.min, IntKind.max, IntKind.signed, IntKind.bits]
  omega
theorem EffAt.look {w : World} {eb : Nat} (h : EffAt w eb) {op : Int} (h1 : 1 ≤ op) (h2 : op ≤ 63) : (Instr.lookup 92 (.map (some eb)) (.int .i64 op) false).run Tryz.prog w = .ok (.func (.func (effF op)) #[] #[]) w := by
  obtain ⟨n, h⟩ := h
  obtain ⟨v, ps, hr, hv⟩ := h.lookup (Maps.int_keyed Tryz.underlying3) Tryz.underlying92 (eff_zero w) fnElem_nil (Maps.keyOf_int_mk Tryz.underlying3 (wf_small (a := op) (by omega) (by omega)))
  have hk := effD_at ⟨op.toNat - 1, by omega⟩
  have e : (((op.toNat - 1 : Nat) + 1 : Nat) : Int) = op := by omega
  simp only [e] at hk
  rw [hr, fnElem_inv hv hk]
end Go.Proofs.YtnaceogkaiodnaaGreat

namespace Go.Proofs.YtnaceogkaiodnaaGreat
open Go.RowKit
set_option linter.unusedVariables false

theorem ty_ne {w : World} {a b : Nat} {c c' : Array Value} {t t' : TypeId} {f f' : Nat × Nat} (h : w.heap[a]? = some (.cells c t f)) (h' : w.heap[b]? = some (.cells c' t' f')) (ht : t ≠ t') : a ≠ b := by
  intro e
  subst e
  rw [h] at h'
  injection h' with h'
  injection h' with _ h' _
  exact ht h'
theorem map_ne {w : World} {a b : Nat} {c : Array Value} {t : TypeId} {f : Nat × Nat} {es : Array MapEntry} {k : Nat} (h : w.heap[a]? = some (.cells c t f)) (h' : w.heap[b]? = some (.map es k)) : a ≠ b := by
  intro e
  subst e
  rw [h] at h'
  injection h' with h'
  cases h'
/-- The cells of a machine. -/
structure MCells (cur : Array Value) (xb mb eb : Nat) (V : Value) (s : MSt) : Prop where
  size : cur.size = 37
  self : cur[0]? = some (.pointer (some ⟨xb, 0, none⟩))
  reg : ∀ k : Nat, k < 32 → cur[1 + k]? = some (.int .u64 (s.r k))
  pc : cur[33]? = some (.int .u64 s.pc)
  mem : cur[34]? = some (.pointer (some ⟨mb, 0, none⟩))
  code : cur[35]? = some V
  eff : cur[36]? = some (.map (some eb))
/-- The cells of its code: each word, and beside it nothing yet, or what it is decoded as. -/
structure Spots (cur : Array Value) (code : List Int) : Prop where
  size : cur.size = code.length * 7
  word : ∀ j, j < code.length → cur[j * 7]? = some (.int .u32 (code.getD j 0))
  rest : ∀ j, j < code.length → cur[j * 7 + 6]? = some .nilFunc ∨ ∃ y : RvV, IsWord y (code.getD j 0) ∧ cur[j * 7 + 1]? = some (.int .i64 y.op) ∧ cur[j * 7 + 2]? = some (.int .i64 y.rd) ∧ cur[j * 7 + 3]? = some (.int .i64 y.rs1) ∧
    cur[j * 7 + 4]? = some (.int .i64 y.rs2) ∧ cur[j * 7 + 5]? = some (.int .i64 y.imm) ∧ cur[j * 7 + 6]? = some (.func (.func (effF y.op)) #[] #[])
def IsCode (w : World) (V : Value) (code : List Int) : Prop :=
  (code = [] ∧ ∃ a c, V = .slice a 0 c) ∨ ∃ cb cap cur, V = .slice (some ⟨cb, 0, none⟩) code.length cap ∧ w.heap[cb]? = some (.cells cur 80 (0, 0)) ∧ Spots cur code
/-- The block that code lies in. -/
def CodeIn (V : Value) (k : Nat) : Prop := ∃ o n c, V = .slice (some ⟨k, o, none⟩) n c
theorem IsCode.heap {w w' : World} {V : Value} {code : List Int} (h : IsCode w V code) (hb : ∀ k, CodeIn V k → k < w.heap.size → w'.heap[k]? = w.heap[k]?) : IsCode w' V code := by
  rcases h with h | ⟨cb, cap, cur, rfl, h1, h2⟩
  · exact .inl h
  · exact .inr ⟨cb, cap, cur, rfl, (hb cb ⟨0, _, _, rfl⟩ (heap_lt h1)).trans h1, h2⟩
/-- A machine in the model. -/
structure Mach (w : World) (xb mb bb c eb : Nat) (V : Value) (code : List Int) (s : MSt) : Prop where
  head : ∃ cur, w.heap[xb]? = some (.cells cur 94 (0, 0)) ∧ MCells cur xb mb eb V s
  iscode : IsCode w V code
  mem : MemAt w mb bb c s.xs
  eff : EffAt w eb
  ok : s.ok
  words : ∀ x ∈ code, 0 ≤ x ∧ x < 4294967296
  len : code.length ≤ 65536
section
variable {w w' : World} {xb mb bb c eb : Nat} {V : Value} {code : List Int} {s : MSt}
theorem Mach.cell (h : Mach w xb mb bb c eb V code s) {j : Nat} {v : Value} (hv : ∀ cur, MCells cur xb mb eb V s → cur[j]? = some v) : w.cell? ⟨xb, j, none⟩ = some v := by
  obtain ⟨cur, h1, h2⟩ := h.head
  rw [cell_of_row w xb j _ _ _ h1]
  exact hv cur h2
theorem Mach.self (h : Mach w xb mb bb c eb V code s) : w.cell? ⟨xb, 0, none⟩ = some (.pointer (some ⟨xb, 0, none⟩)) := h.cell fun _ k => k.self
theorem Mach.reg (h : Mach w xb mb bb c eb V code s) {k : Nat} (hk : k < 32) : w.cell? ⟨xb, 1 + k, none⟩ = some (.int .u64 (s.r k)) := h.cell fun _ q => q.reg k hk
theorem Mach.pc (h : Mach w xb mb bb c eb V code s) : w.cell? ⟨xb, 33, none⟩ = some (.int .u64 s.pc) := h.cell fun _ k => k.pc
theorem Mach.memc (h : Mach w xb mb bb c eb V code s) : w.cell? ⟨xb, 34, none⟩ = some (.pointer (some ⟨mb, 0, none⟩)) := h.cell fun _ k => k.mem
theorem Mach.codec (h : Mach w xb mb bb c eb V code s) : w.cell? ⟨xb, 35, none⟩ = some V := h.cell fun _ k => k.code
theorem Mach.effc (h : Mach w xb mb bb c eb V code s) : w.cell? ⟨xb, 36, none⟩ = some (.map (some eb)) := h.cell fun _ k => k.eff
theorem Mach.free (h : Mach w xb mb bb c eb V code s) (j : Nat) : w.frozen? ⟨xb, j, none⟩ = false := by
  obtain ⟨cur, h1, h2⟩ := h.head
  exact frozen_of_row w xb j cur _ h1
theorem Mach.lt (h : Mach w xb mb bb c eb V code s) : xb < w.heap.size ∧ mb < w.heap.size ∧ bb < w.heap.size ∧ eb < w.heap.size := by
  obtain ⟨cur, h1, h2⟩ := h.head
  exact ⟨heap_lt h1, h.mem.lt.1, h.mem.lt.2, h.eff.lt⟩
theorem IsCode.lt (h : IsCode w V code) (hne : code ≠ []) {k : Nat} (hk : CodeIn V k) : k < w.heap.size := by
  rcases h with h | ⟨cb, cap, cur, rfl, h1, h2⟩
  · exact absurd h.1 hne
  · obtain ⟨o, n, c, e⟩ := hk
    injection e with e _ _
    injection e with e
    injection e with e _ _
    subst e
    exact heap_lt h1
theorem Mach.apart (h : Mach w xb mb bb c eb V code s) : mb ≠ xb ∧ bb ≠ xb ∧ eb ≠ xb := by
  obtain ⟨cur, h1, h2⟩ := h.head
  obtain ⟨cr, h3, _⟩ := h.mem.row
  obtain ⟨es, k, h4⟩ := h.eff.is_map
  exact ⟨(ty_ne h1 h.mem.head (by decide)).symm, (ty_ne h1 h3 (by decide)).symm, (map_ne h1 h4).symm⟩
/-- The code lies in no block of the others. -/
theorem Mach.code_apart (h : Mach w xb mb bb c eb V code s) (hne : code ≠ []) {k : Nat} (hk : CodeIn V k) : k ≠ xb ∧ k ≠ mb ∧ k ≠ bb ∧ k ≠ eb := by
  rcases h.iscode with h' | ⟨cb, cap, cur, rfl, h1, h2⟩
  · exact absurd h'.1 hne
  · obtain ⟨o, n, c, e⟩ := hk
    injection e with e _ _
    injection e with e
    injection e with e _ _
    subst e
    obtain ⟨cu, q1, q2⟩ := h.head
    obtain ⟨cr, q3, _⟩ := h.mem.row
    obtain ⟨es, k, q4⟩ := h.eff.is_map
    exact ⟨ty_ne h1 q1 (by decide), ty_ne h1 h.mem.head (by decide), ty_ne h1 q3 (by decide), map_ne h1 q4⟩
theorem Mach.but {R : Nat → Prop} (h : Mach w xb mb bb c eb V code s) (hb : But R w w') (h1 : ¬ R xb) (h2 : ¬ R mb) (h3 : ¬ R bb) (h4 : ¬ R eb) (h5 : code ≠ [] → ∀ k, CodeIn V k → ¬ R k) : Mach w' xb mb bb c eb V code s := by
  obtain ⟨cur, q1, q2⟩ := h.head
  refine ⟨⟨cur, hb.heap q1 h1, q2⟩, ?_, h.mem.but hb h2 h3, h.eff.heap fun hl => hb.block _ hl h4, h.ok, h.words, h.len⟩
  by_cases hne : code = []
  · rcases h.iscode with h' | ⟨cb, cap, cur, e, q3, q4⟩
    · exact .inl h'
    · exact .inl ⟨hne, _, _, by rw [e, hne]; rfl⟩
  · exact h.iscode.heap fun k hk hl => hb.block k hl (h5 hne k hk)
theorem Mach.quiet (h : Mach w xb mb bb c eb V code s) (hb : But NoBlock w w') : Mach w' xb mb bb c eb V code s := h.but hb (noBlock_not _) (noBlock_not _) (noBlock_not _) (noBlock_not _) fun _ k _ => noBlock_not k
theorem Mach.below (h : Mach w xb mb bb c eb V code s) (hb : Below w.heap.size w w') : Mach w' xb mb bb c eb V code s := h.quiet (But.of_below hb)
theorem Mach.alloc (h : Mach w xb mb bb c eb V code s) (o : Obj) : Mach (w.alloc o) xb mb bb c eb V code s := h.quiet ((But.refl NoBlock w).alloc o)
theorem Mach.drewN (h : Mach w xb mb bb c eb V code s) (n : Nat) : Mach (w.drewN n) xb mb bb c eb V code s := h.quiet ((But.refl NoBlock w).drewN n)
/-- The machine's own block is another one, of the same kind. -/
theorem Mach.head' (h : Mach w xb mb bb c eb V code s) {cur : Array Value} {s' : MSt} (hb : But (OneBlock xb) w w') (h1 : w'.heap[xb]? = some (.cells cur 94 (0, 0))) (h2 : MCells cur xb mb eb V s') (hx : s'.xs = s.xs) (hok : s'.ok) : Mach w' xb mb bb c eb V code s' := by
  have ha := h.apart
  refine ⟨⟨cur, h1, h2⟩, ?_, ?_, h.eff.heap fun hl => hb.block _ hl (oneBlock_not ha.2.2), hok, h.words, h.len⟩
  · by_cases hne : code = []
    · rcases h.iscode with h' | ⟨cb, cap, cur, e, q3, q4⟩
      · exact .inl h'
      · exact .inl ⟨hne, _, _, by rw [e, hne]; rfl⟩
    · exact h.iscode.heap fun k hk hl => hb.block k hl (oneBlock_not (h.code_apart hne hk).1)
  · rw [hx]
    exact h.mem.but hb (oneBlock_not ha.1) (oneBlock_not ha.2.1)
theorem MCells.setReg {cur : Array Value} (h : MCells cur xb mb eb V s) {n : Nat} (hn : n < 32) (v : Int) (h0 : s.r 0 = 0) : MCells ((cur.setIfInBounds (1 + n) (.int .u64 v)).setIfInBounds 1 (.int .u64 0)) xb mb eb V (s.set n v) := by
  have hs := h.size
  have hother : ∀ j : Nat, j ≠ 1 → j ≠ 1 + n → ((cur.setIfInBounds (1 + n) (.int .u64 v)).setIfInBounds 1 (.int .u64 0))[j]? = cur[j]? := fun j h1 h2 => by
    rw [Array.getElem?_setIfInBounds_ne (by omega), Array.getElem?_setIfInBounds_ne (by omega)]
  refine ⟨by simpa using hs, (hother 0 (by omega) (by omega)).trans h.self, fun k hk => ?_, (hother 33 (by omega) (by omega)).trans (by rw [set_pc]; exact h.pc), (hother 34 (by omega) (by omega)).trans h.mem, (hother 35 (by omega) (by omega)).trans h.code, (hother 36 (by omega) (by omega)).trans h.eff⟩
  by_cases k0 : k = 0
  · subst k0
    rw [Array.getElem?_setIfInBounds_self_of_lt (by simp; omega), set_zero s n v (by omega) h0]
  · rw [Array.getElem?_setIfInBounds_ne (by omega)]
    by_cases kn : k = n
    · subst kn
      rw [Array.getElem?_setIfInBounds_self_of_lt (by omega)]
      have : (s.set k v).r k = v := by
        unfold MSt.set
        rw [if_neg (by omega)]
        simp
      rw [this]
    · rw [Array.getElem?_setIfInBounds_ne (by omega), h.reg k hk, set_other s n v k (by omega)]
theorem Mach.setReg (h : Mach w xb mb bb c eb V code s) {n : Nat} (hn : n < 32) {v : Int} (hv : InW v) : Mach ((w.setCell ⟨xb, 1 + n, none⟩ (.int .u64 v)).setCell ⟨xb, 1, none⟩ (.int .u64 0)) xb mb bb c eb V code (s.set n v) := by
  obtain ⟨cur, h1, h2⟩ := h.head
  have e1 := heap_setCell_same w xb (1 + n) cur _ (.int .u64 v) h1
  have e2 := heap_setCell_same _ xb 1 _ _ (.int .u64 0) e1
  exact h.head' (((But.refl (OneBlock xb) w).setCell (p := ⟨xb, 1 + n, none⟩) (.inl rfl) _).setCell (p := ⟨xb, 1, none⟩) (.inl rfl) _) e2 (h2.setReg hn v h.ok.zero) (set_xs s n v) (h.ok.set (by omega) hv)
theorem MCells.setPc {cur : Array Value} (h : MCells cur xb mb eb V s) (p : Int) : MCells (cur.setIfInBounds 33 (.int .u64 p)) xb mb eb V (s.at' p) := by
  have hs := h.size
  have hother : ∀ j : Nat, j ≠ 33 → (cur.setIfInBounds 33 (.int .u64 p))[j]? = cur[j]? := fun j h1 => by rw [Array.getElem?_setIfInBounds_ne (by omega)]
  exact ⟨by simpa using hs, (hother 0 (by omega)).trans h.self, fun k hk => (hother (1 + k) (by omega)).trans (h.reg k hk), by rw [Array.getElem?_setIfInBounds_self_of_lt (by omega)]; rfl, (hother 34 (by omega)).trans h.mem, (hother 35 (by omega)).trans h.code, (hother 36 (by omega)).trans h.eff⟩
theorem Mach.setPc (h : Mach w xb mb bb c eb V code s) {p : Int} (hp : InW p) : Mach (w.setCell ⟨xb, 33, none⟩ (.int .u64 p)) xb mb bb c eb V code (s.at' p) := by
  obtain ⟨cur, h1, h2⟩ := h.head
  exact h.head' ((But.refl (OneBlock xb) w).setCell (p := ⟨xb, 33, none⟩) (.inl rfl) _) (heap_setCell_same w xb 33 cur _ _ h1) (h2.setPc p) rfl (h.ok.at' hp)
/-- Its memory has turned. -/
theorem Mach.setMem (h : Mach w xb mb bb c eb V code s) {xs' : List Int} (hb : But (OneBlock bb) w w') (hm : MemAt w' mb bb c xs') : Mach w' xb mb bb c eb V code { s with xs := xs' } := by
  have ha := h.apart
  obtain ⟨cur, q1, q2⟩ := h.head
  obtain ⟨cr, q3, _⟩ := h.mem.row
  obtain ⟨es, k, q4⟩ := h.eff.is_map
  refine ⟨⟨cur, hb.heap q1 (oneBlock_not ha.2.1.symm), ⟨q2.size, q2.self, q2.reg, q2.pc, q2.mem, q2.code, q2.eff⟩⟩, ?_, hm, h.eff.heap fun hl => hb.block _ hl (oneBlock_not (map_ne q3 q4).symm), ⟨h.ok.r, h.ok.zero, h.ok.pc, hm.bd⟩, h.words, h.len⟩
  by_cases hne : code = []
  · rcases h.iscode with h' | ⟨cb, cap, cur, e, q3, q4⟩
    · exact .inl h'
    · exact .inl ⟨hne, _, _, by rw [e, hne]; rfl⟩
  · exact h.iscode.heap fun k hk hl => hb.block k hl (oneBlock_not (h.code_apart hne hk).2.2.1)
end
/-- What is read of memory is a word. -/
theorem loadBd : LoadBd := by
  intro xs a n h
  unfold loadV
  split
  · rename_i he
    have hn := numE_in he
    have hs := sized_cases hn.1
    have hb := numV_bd (partL_bd h a n)
    have hlen : (partL xs a n).length = n.toNat := by unfold partL; simp; omega
    refine ⟨hb.1, Int.lt_of_lt_of_le hb.2 ?_⟩
    rw [hlen]
    rcases hs with rfl | rfl | rfl | rfl <;> decide
  · exact ⟨by omega, by omega⟩
end Go.Proofs.YtnaceogkaiodnaaGreat

namespace Go.Proofs.YtnaceogkaiodnaaGreat
open Go.RowKit
set_option linter.unusedVariables false

theorem wrap_w64 (a : Int) : IntKind.u64.wrap a = w64 a := IntKind.wrap_u64 a
theorem wrap_add (a b : Int) : IntKind.u64.wrap (a + IntKind.u64.wrap b) = w64 (a + b) := by
  rw [wrap_w64, wrap_w64]; unfold w64; omega
section
variable {w w' : World} {xb mb bb c eb : Nat} {V : Value} {code : List Int} {s : MSt}
theorem write_any (h : Mach w xb mb bb c eb V code s) (n : Nat) (hn : n < 32) (v : Int) (hv : InW v) :
    Calls Tryz.prog 47 #[.pointer (some ⟨xb, 0, none⟩), .int .i64 n, .int .u64 v] w fun e w' => e = .returned (.tuple #[]) ∧ Mach w' xb mb bb c eb V code (s.set n v) ∧ But (OneBlock xb) w w' := by
  have f0 := h.free 1
  have f1 := h.free (1 + n)
  have c1 := h.reg hn
  obtain ⟨u, c2⟩ : ∃ u, (w.setCell ⟨xb, 1 + n, none⟩ (.int .u64 v)).cell? ⟨xb, 1, none⟩ = some u := by
    obtain ⟨cur, h1, h2⟩ := h.head
    have e1 := heap_setCell_same w xb (1 + n) cur _ (.int .u64 v) h1
    rw [cell_of_row _ xb 1 _ _ _ e1]
    exact ⟨_, Array.getElem?_eq_getElem (by have := h2.size; simp; omega)⟩
  have HM := Lib.hid h
  have hi : (n : Int) < 32 := by omega
  clear h
  go_enter Tryz.func47, Tryz.ntmps47
  go_wp2
  go_end0
  exact ⟨rfl, HM.out.setReg hn hv, ((But.refl (OneBlock xb) w).setCell (p := ⟨xb, 1 + n, none⟩) (.inl rfl) _).setCell (p := ⟨xb, 1, none⟩) (.inl rfl) _⟩
theorem next_any (h : Mach w xb mb bb c eb V code s) :
    Calls Tryz.prog 146 #[.pointer (some ⟨xb, 0, none⟩)] w fun e w' => e = .returned (.int .i64 0) ∧ Mach w' xb mb bb c eb V code (s.at' (nextV s)) ∧ But (OneBlock xb) w w' := by
  have f1 := h.free 33
  have c1 := h.pc
  have HM := Lib.hid h
  clear h
  go_enter Tryz.func146, Tryz.ntmps146
  go_wp2
  go_ret
  exact ⟨rfl, HM.out.setPc (w64_bd _), (But.refl (OneBlock xb) w).setCell (p := ⟨xb, 33, none⟩) (.inl rfl) _⟩
/-- What an effect leaves: how the step ends, the machine; all else as it was. -/
def EffDone (xb mb bb c eb : Nat) (V : Value) (code : List Int) (w : World) (r : Int × MSt) (e : Ending) (w' : World) : Prop :=
  e = .returned (.int .i64 r.1) ∧ Mach w' xb mb bb c eb V code r.2 ∧ But (TwoBlocks xb bb) w w'
theorem upperR_any (op rd rs1 rs2 imm : Int) (w : World) (h1 : -1048576 ≤ imm) (h2 : imm ≤ 1048576) :
    Calls Tryz.prog 127 #[.agg #[.int .i64 op, .int .i64 rd, .int .i64 rs1, .int .i64 rs2, .int .i64 imm]] w fun e w' => e = .returned (.int .u64 (w64 (imm * 4096))) ∧ Below w.heap.size w w' := by
  go_enter Tryz.func127, Tryz.ntmps127
  go_wp2
  go_ret
  exact ⟨ret_int (by rw [wrap_w64, wrap_w64]; unfold w64; omega), (Below.refl _ _).alloc (Nat.le_refl _) _⟩
theorem address_any (h : Mach w xb mb bb c eb V code s) (op rd rs2 imm : Int) (a : Nat) (ha : a < 32) (h1 : -1048576 ≤ imm) (h2 : imm ≤ 1048576) :
    Calls Tryz.prog 147 #[.pointer (some ⟨xb, 0, none⟩), .agg #[.int .i64 op, .int .i64 rd, .int .i64 a, .int .i64 rs2, .int .i64 imm]] w fun e w' => e = .returned (.int .u64 (w64 (s.r a + imm))) ∧ Below w.heap.size w w' := by
  have HW := Lib.hid (h.alloc (.cells #[.int .i64 op, .int .i64 rd, .int .i64 a, .int .i64 rs2, .int .i64 imm] 76))
  have c1 := HW.out.reg ha
  have hi : (a : Int) < 32 := by omega
  clear h
  go_enter Tryz.func147, Tryz.ntmps147
  go_wp2_with fail
  go_quiet (fail)
  go_wp2
  go_ret
  exact ⟨ret_int (wrap_add _ _), below_drewN ((Below.refl _ _).alloc (Nat.le_refl _) _) _⟩
end
end Go.Proofs.YtnaceogkaiodnaaGreat

namespace Go.Proofs.YtnaceogkaiodnaaGreat
open Go.RowKit
set_option linter.unusedVariables false

/-- A slice of numbers of a kind: nil, or it leads to the numbers xs. -/
def IsNums (K : IntKind) (w : World) (B : Nat) (X : Value) (xs : List Int) : Prop :=
  xs.length ≤ maxLen ∧ ((X = .slice none 0 0 ∧ xs = []) ∨
    ∃ ad cap, X = .slice (some ad) xs.length cap ∧ xs.length ≤ cap ∧ (0 < xs.length → ad.block < B) ∧ ∀ i, i < xs.length → w.cell? (ad.add i) = some (.int K (xs.getD i 0)))
theorem add_block (ad : Addr) (i : Nat) : (ad.add i).block = ad.block := by unfold Addr.add; split <;> rfl
theorem IsNums.of_block {K : IntKind} {w w' : World} {B : Nat} {X : Value} {xs : List Int} (h : IsNums K w B X xs) (hb : ∀ b, b < B → w'.heap[b]? = w.heap[b]?) : IsNums K w' B X xs := by
  refine ⟨h.1, ?_⟩
  rcases h.2 with h0 | ⟨ad, cap, h1, h2, h3, h4⟩
  · exact .inl h0
  · refine .inr ⟨ad, cap, h1, h2, h3, fun i hi => ?_⟩
    rw [World.cell?_of_block (hb (ad.add i).block (by rw [add_block]; exact h3 (by omega)))]
    exact h4 i hi
theorem IsNums.below {K : IntKind} {w w' : World} {B B' : Nat} {X : Value} {xs : List Int} (h : IsNums K w B X xs) (hb : Below B' w w') (hB : B ≤ B') : IsNums K w' B X xs :=
  h.of_block fun b h => hb.block b (Nat.lt_of_lt_of_le h hB)
theorem IsNums.but {K : IntKind} {w w' : World} {B : Nat} {R : Nat → Prop} {X : Value} {xs : List Int} (h : IsNums K w B X xs) (hb : But R w w') (hB : B ≤ w.heap.size) (hr : ∀ k, k < B → ¬ R k) : IsNums K w' B X xs :=
  h.of_block fun b h => hb.block b (by omega) (hr b h)
theorem IsNums.more {K : IntKind} {w : World} {B B' : Nat} {X : Value} {xs : List Int} (h : IsNums K w B X xs) (hB : B ≤ B') : IsNums K w B' X xs := by
  refine ⟨h.1, ?_⟩
  rcases h.2 with h0 | ⟨ad, cap, h1, h2, h3, h4⟩
  · exact .inl h0
  · exact .inr ⟨ad, cap, h1, h2, fun hn => Nat.lt_of_lt_of_le (h3 hn) hB, h4⟩
theorem IsNums.len {K : IntKind} {w : World} {B : Nat} {X : Value} {xs : List Int} (h : IsNums K w B X xs) : ∃ A cap, X = .slice A xs.length cap := by
  rcases h.2 with ⟨h0, rfl⟩ | ⟨ad, cap, h1, _⟩
  · exact ⟨none, 0, h0⟩
  · exact ⟨_, cap, h1⟩
theorem IsNums.plain {K : IntKind} {w : World} {B : Nat} {X : Value} {xs : List Int} (h : IsNums K w B X xs) (hn : 0 < xs.length) :
    ∃ b off cap, X = .slice (some ⟨b, off, none⟩) xs.length cap ∧ xs.length ≤ cap ∧ b < B ∧ ∀ i, i < xs.length → w.cell? ⟨b, off + i, none⟩ = some (.int K (xs.getD i 0)) := by
  rcases h.2 with ⟨_, rfl⟩ | ⟨⟨b, off, spot⟩, cap, h1, h2, h3, h4⟩
  · simp at hn
  · have hspot : spot = none := by simpa [Addr.add] using World.cell?_spot (h4 0 hn)
    subst hspot
    refine ⟨b, off, cap, h1, h2, h3 hn, fun i hi => ?_⟩
    have := h4 i hi
    by_cases h0 : i = 0
    · subst h0
      simpa [Addr.add] using this
    · simpa [Addr.add, h0] using this
theorem IsNums.of_owns {K : IntKind} {w : World} {base B : Nat} {e : TypeId} {Q : Value → Prop} {v : Value} {n : Nat} {xs : List Int} (h : Owns w base e 1 Q v n (xs.map (Value.int K))) (hB : w.heap.size ≤ B) : IsNums K w B v xs := by
  have hn : xs.length = n := by simpa using h.1.1
  subst hn
  rcases h.1.2 with ⟨rfl, h0⟩ | ⟨g, cap, cur, rfl, h1, h2, h3, h4, h5, h6⟩
  · have : xs = [] := List.eq_nil_of_length_eq_zero h0
    subst this
    exact ⟨by simp, .inl ⟨rfl, rfl⟩⟩
  · refine ⟨by omega, .inr ⟨⟨g, 0, none⟩, cap, rfl, h3, fun _ => ?_, fun i hi => ?_⟩⟩
    · have := (h.lt (g := g) (by simp [Value.ownBlock])).2
      show g < B
      omega
    · exact h.1.cells (g := g) rfl i _ (by simp [List.getElem?_eq_getElem hi, List.getD])
def IsNum (K : IntKind) (u : Value) : Prop := ∃ n : Int, u = .int K n
theorem num_cells (K : IntKind) (xs : List Int) : ∀ u ∈ xs.map (Value.int K), IsNum K u := by
  intro u hu
  obtain ⟨x, hx, rfl⟩ := List.mem_map.1 hu
  exact ⟨x, rfl⟩
theorem u32_info : (Tryz.prog.info? 74).map (fun i => (i.zero, i.size, i.bytes)) = some (some (.int .u32 0), 1, 4) := by kernel_rfl
theorem zero_num (K : IntKind) : ∀ u ∈ (Value.int K 0).cells.toList, IsNum K u := by
  intro u hu
  simp [Value.cells] at hu
  subst hu
  exact ⟨0, rfl⟩
set_option maxHeartbeats 2000000 in
theorem sameWords_yes (X Y : Value) (xs : List Int) (w : World) (B C : Nat) (hX : IsNums .u32 w B X xs) (hY : IsNums .u32 w C Y xs) :
    Calls Tryz.prog 32 #[X, Y] w fun e w' => e = .returned (.bool true) ∧ ∃ n, w' = w.drewN n := by
  by_cases hp : 0 < xs.length
  · obtain ⟨b1, o1, c1, rfl, r1, _, g1⟩ := hX.plain hp
    obtain ⟨b2, o2, c2, rfl, r2, _, g2⟩ := hY.plain hp
    have hm := hX.1
    unfold maxLen at hm
    have H1 := Lib.hid g1
    have H2 := Lib.hid g2
    generalize xs.length = n at *
    clear g1 g2 hX hY hp
    go_enter Tryz.func32, Tryz.ntmps32
    go_wp2
    go_loopw [5] (fun i wr => ∃ k q : Nat, k ≤ n ∧ i = .int .i64 k ∧ wr = w.drewN q) (fun i _ => n - (intOf i).toNat)
    case atStart => exact ⟨0, 0, by omega, rfl, rfl⟩
    case round =>
      obtain ⟨k, q, hk, rfl, rfl⟩ := hrel
      by_cases hlt : k < n
      · have g1 := H1.out k hlt
        have g2 := H2.out k hlt
        generalize xs.getD k 0 = x at g1 g2
        have k0 : (0 : Int) ≤ (k : Int) := by omega
        have k1 : (k : Int) < (n : Int) := by omega
        go_wp2
        go_quiet (fail)
        go_wp2
        go_roundw
        case rel => exact ⟨k + 1, _, by omega, by go_num, rfl⟩
        case measure => simp [intOf]; omega
      · obtain rfl : k = n := by omega
        go_wp2
        go_ret
        exact ⟨rfl, q, rfl⟩
  · have h0 : xs.length = 0 := by omega
    obtain ⟨A1, c1, rfl⟩ := hX.len
    obtain ⟨A2, c2, rfl⟩ := hY.len
    rw [h0]
    clear hX hY hp h0
    go_enter Tryz.func32, Tryz.ntmps32
    go_wp2
    go_loopw [5] (fun i wr => i = .int .i64 0 ∧ wr = w) (fun i _ => 0)
    case atStart => exact ⟨rfl, rfl⟩
    case round =>
      obtain ⟨rfl, rfl⟩ := hrel
      go_wp2
      go_ret
      exact ⟨rfl, 0, rfl⟩
/-- A block of so many numbers of 32 bits. -/
def FullW (w : World) (g cap : Nat) : Prop := ∃ cur, w.heap[g]? = some (.cells cur 74 (0, 0)) ∧ cur.size = cap ∧ ∀ u ∈ cur.toList, IsNum .u32 u
theorem FullW.cell {w : World} {g cap : Nat} (h : FullW w g cap) {k : Nat} (hk : k < cap) : ∃ y : Int, w.cell? ⟨g, k, none⟩ = some (.int .u32 y) ∧ w.frozen? ⟨g, k, none⟩ = false := by
  obtain ⟨cur, h1, h2, h3⟩ := h
  obtain ⟨y, hy⟩ := h3 (cur[k]'(by omega)) (by simp)
  refine ⟨y, ?_, frozen_of_row w g k cur _ h1⟩
  rw [cell_of_row w g k cur _ _ h1, Array.getElem?_eq_getElem (by omega), hy]
theorem FullW.set {w : World} {g cap : Nat} (h : FullW w g cap) (k : Nat) {u : Value} (hu : IsNum .u32 u) : FullW (w.setCell ⟨g, k, none⟩ u) g cap := by
  obtain ⟨cur, h1, h2, h3⟩ := h
  refine ⟨cur.setIfInBounds k u, heap_setCell_same w g k cur _ u h1, by simpa using h2, fun x hx => ?_⟩
  rw [Array.toList_setIfInBounds] at hx
  rcases List.mem_or_eq_of_mem_set hx with h | h
  · exact h3 x h
  · subst h; exact hu
theorem FullW.drew {w : World} {g cap : Nat} (h : FullW w g cap) : FullW w.drew g cap := h
set_option maxHeartbeats 2000000 in
set_option maxRecDepth 100000 in
theorem overWords_any (v : Value) (n base : Nat) (xs : List Value) (w : World) (h : Owns w base 74 1 (IsNum .u32) v n xs) :
    Calls Tryz.prog 33 #[v] w fun e w' => e = .returned (.tuple #[]) ∧ Below base w w' := by
  rcases h.1.2 with ⟨rfl, _⟩ | ⟨g, cap, cur, rfl, h1, h2, h3, h4, h5, _⟩
  · clear h
    go_enter Tryz.func33, Tryz.ntmps33
    go_wp2
    go_loopw [3] (fun i wr => i = .int .i64 0 ∧ wr = w) (fun _ _ => 0)
    case atStart => exact ⟨rfl, rfl⟩
    case round =>
      obtain ⟨rfl, rfl⟩ := hrel
      go_wp2
      go_end0
      exact ⟨rfl, Below.refl _ _⟩
  · have hF : FullW w g cap := ⟨cur, h2, by simpa using h5, h.2 g cur _ _ (by simp [Value.ownBlock]) h2⟩
    have HF := Lib.hid hF
    unfold maxLen at h4
    clear h h2 h5 hF
    go_enter Tryz.func33, Tryz.ntmps33
    go_wp2
    go_loopw [3] (fun i wr => ∃ k : Nat, k ≤ cap ∧ i = .int .i64 k ∧ FullW wr g cap ∧ Below base w wr) (fun i _ => cap - (intOf i).toNat)
    case atStart => exact ⟨0, by omega, rfl, HF.out, Below.refl _ _⟩
    case round =>
      obtain ⟨k, hk, rfl, hf, hb⟩ := hrel
      have HF2 := Lib.hid hf
      have HB := Lib.hid hb
      clear hf hb
      by_cases hlt : k < cap
      · obtain ⟨y, hcell, hfro⟩ := HF2.out.cell hlt
        go_wp2
        go_roundw
        case rel => exact ⟨k + 1, by omega, by go_num, HF2.out.set k ⟨_, rfl⟩, HB.out.setCell h1 _⟩
        case measure => simp [intOf]; omega
      · go_wp2
        go_end0
        exact ⟨rfl, HB.out⟩
end Go.Proofs.YtnaceogkaiodnaaGreat

