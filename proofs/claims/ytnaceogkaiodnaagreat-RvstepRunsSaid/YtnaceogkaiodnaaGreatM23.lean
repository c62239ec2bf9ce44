/- A machine of the document's own way of layer 4: what it is in the model; Reg, Set, fetch: contracts for any such machine, in whatever memory of the program. -/
import Derived.Test.YtnaceogkaiodnaaGreatM14
import Derived.Test.YtnaceogkaiodnaaGreatM10
import Derived.Test.YtnaceogkaiodnaaGreatM22
import Derived.Test.YtnaceogkaiodnaaGreatM2
import Derived.Test.YtnaceogkaiodnaaGreatM6
import Derived.Test.YtnaceogkaiodnaaGreatM15
import Derived.Test.YtnaceogkaiodnaaGreatM21
namespace Go.Proofs.YtnaceogkaiodnaaGreat
open Go.RowKit
set_option linter.unusedVariables false

/-- The cells of such a machine. -/
structure RCells (cur : Array Value) (rm : Nat) (V : Value) (s : MSt) : Prop where
  size : cur.size = 35
  reg : ∀ k : Nat, k < 32 → cur[k]? = some (.int .u64 (s.r k))
  pc : cur[32]? = some (.int .u64 s.pc)
  mem : cur[33]? = some (.pointer (some ⟨rm, 0, none⟩))
  code : cur[34]? = some V
def RCode (w : World) (V : Value) (code : List Int) : Prop :=
  (code = [] ∧ ∃ a c, V = .slice a 0 c) ∨ ∃ cb cap cur, V = .slice (some ⟨cb, 0, none⟩) code.length cap ∧ w.heap[cb]? = some (.cells cur 74 (0, 0)) ∧ ∀ i, i < code.length → cur[i]? = some (.int .u32 (code.getD i 0))
structure RMach (w : World) (rx rm rb rc : Nat) (V : Value) (code : List Int) (s : MSt) : Prop where
  head : ∃ cur, w.heap[rx]? = some (.cells cur 49 (0, 0)) ∧ RCells cur rm V s
  iscode : RCode w V code
  mem : RefAt w rm rb rc s.xs
  ok : s.ok
  words : ∀ x ∈ code, 0 ≤ x ∧ x < 4294967296
  len : code.length ≤ 65536
section
variable {w w' : World} {rx rm rb rc : Nat} {V : Value} {code : List Int} {s : MSt}
theorem RMach.cell (h : RMach w rx rm rb rc V code s) {j : Nat} {v : Value} (hv : ∀ cur, RCells cur rm V s → cur[j]? = some v) : w.cell? ⟨rx, j, none⟩ = some v := by
  obtain ⟨cur, h1, h2⟩ := h.head
  rw [cell_of_row w rx j _ _ _ h1]
  exact hv cur h2
theorem RMach.reg (h : RMach w rx rm rb rc V code s) {k : Nat} (hk : k < 32) : w.cell? ⟨rx, k, none⟩ = some (.int .u64 (s.r k)) := h.cell fun _ q => q.reg k hk
theorem RMach.pc (h : RMach w rx rm rb rc V code s) : w.cell? ⟨rx, 32, none⟩ = some (.int .u64 s.pc) := h.cell fun _ k => k.pc
theorem RMach.memc (h : RMach w rx rm rb rc V code s) : w.cell? ⟨rx, 33, none⟩ = some (.pointer (some ⟨rm, 0, none⟩)) := h.cell fun _ k => k.mem
theorem RMach.codec (h : RMach w rx rm rb rc V code s) : w.cell? ⟨rx, 34, none⟩ = some V := h.cell fun _ k => k.code
theorem RMach.free (h : RMach w rx rm rb rc V code s) (j : Nat) : w.frozen? ⟨rx, j, none⟩ = false := by
  obtain ⟨cur, h1, h2⟩ := h.head
  exact frozen_of_row w rx j cur _ h1
theorem RMach.lt (h : RMach w rx rm rb rc V code s) : rx < w.heap.size ∧ rm < w.heap.size ∧ rb < w.heap.size := by
  obtain ⟨cur, h1, h2⟩ := h.head
  exact ⟨heap_lt h1, h.mem.lt.1, h.mem.lt.2⟩
theorem RCode.heap (h : RCode w V code) (hb : ∀ k, CodeIn V k → k < w.heap.size → w'.heap[k]? = w.heap[k]?) : RCode w' V code := by
  rcases h with h | ⟨cb, cap, cur, rfl, h1, h2⟩
  · exact .inl h
  · exact .inr ⟨cb, cap, cur, rfl, (hb cb ⟨0, _, _, rfl⟩ (heap_lt h1)).trans h1, h2⟩
theorem RMach.apart (h : RMach w rx rm rb rc V code s) : rm ≠ rx ∧ rb ≠ rx := by
  obtain ⟨cur, h1, h2⟩ := h.head
  obtain ⟨cr, h3, _⟩ := h.mem.row
  exact ⟨(ty_ne h1 h.mem.head (by decide)).symm, (ty_ne h1 h3 (by decide)).symm⟩
theorem RMach.code_apart (h : RMach w rx rm rb rc V code s) (hne : code ≠ []) {k : Nat} (hk : CodeIn V k) : k ≠ rx ∧ k ≠ rb := by
  rcases h.iscode with h' | ⟨cb, cap, cur, rfl, h1, h2⟩
  · exact absurd h'.1 hne
  · obtain ⟨o, n, c, e⟩ := hk
    injection e with e _ _
    injection e with e
    injection e with e _ _
    subst e
    obtain ⟨cu, q1, q2⟩ := h.head
    obtain ⟨cr, q3, _⟩ := h.mem.row
    exact ⟨ty_ne h1 q1 (by decide), ty_ne h1 q3 (by decide)⟩
theorem RCode.none (h : RCode w V code) (hne : code = []) (w' : World) : RCode w' V code := by
  rcases h with h' | ⟨cb, cap, cur, e, q3, q4⟩
  · exact .inl h'
  · exact .inl ⟨hne, _, _, by rw [e, hne]; rfl⟩
theorem RMach.but {R : Nat → Prop} (h : RMach w rx rm rb rc V code s) (hb : But R w w') (h1 : ¬ R rx) (h2 : ¬ R rm) (h3 : ¬ R rb) (h5 : code ≠ [] → ∀ k, CodeIn V k → ¬ R k) : RMach w' rx rm rb rc V code s := by
  obtain ⟨cur, q1, q2⟩ := h.head
  refine ⟨⟨cur, hb.heap q1 h1, q2⟩, ?_, h.mem.but hb h2 h3, h.ok, h.words, h.len⟩
  by_cases hne : code = []
  · exact h.iscode.none hne w'
  · exact h.iscode.heap fun k hk hl => hb.block k hl (h5 hne k hk)
theorem RMach.quiet (h : RMach w rx rm rb rc V code s) (hb : But NoBlock w w') : RMach w' rx rm rb rc V code s := h.but hb (noBlock_not _) (noBlock_not _) (noBlock_not _) fun _ k _ => noBlock_not k
theorem RMach.below (h : RMach w rx rm rb rc V code s) (hb : Below w.heap.size w w') : RMach w' rx rm rb rc V code s := h.quiet (But.of_below hb)
theorem RMach.alloc (h : RMach w rx rm rb rc V code s) (o : Obj) : RMach (w.alloc o) rx rm rb rc V code s := h.quiet ((But.refl NoBlock w).alloc o)
theorem RMach.drewN (h : RMach w rx rm rb rc V code s) (n : Nat) : RMach (w.drewN n) rx rm rb rc V code s := h.quiet ((But.refl NoBlock w).drewN n)
theorem RMach.head' (h : RMach w rx rm rb rc V code s) {cur : Array Value} {s' : MSt} (hb : But (OneBlock rx) w w') (h1 : w'.heap[rx]? = some (.cells cur 49 (0, 0))) (h2 : RCells cur rm V s') (hx : s'.xs = s.xs) (hok : s'.ok) : RMach w' rx rm rb rc V code s' := by
  have ha := h.apart
  refine ⟨⟨cur, h1, h2⟩, ?_, ?_, hok, h.words, h.len⟩
  · by_cases hne : code = []
    · exact h.iscode.none hne w'
    · exact h.iscode.heap fun k hk hl => hb.block k hl (oneBlock_not (h.code_apart hne hk).1)
  · rw [hx]
    exact h.mem.but hb (oneBlock_not ha.1) (oneBlock_not ha.2)
theorem RMach.setReg (h : RMach w rx rm rb rc V code s) {n : Nat} (hn : n < 32) (h0 : 0 < n) {v : Int} (hv : InW v) : RMach (w.setCell ⟨rx, n, none⟩ (.int .u64 v)) rx rm rb rc V code (s.set n v) := by
  obtain ⟨cur, h1, h2⟩ := h.head
  have hs := h2.size
  have ho : ∀ j : Nat, j ≠ n → (cur.setIfInBounds n (.int .u64 v))[j]? = cur[j]? := fun j hj => by rw [Array.getElem?_setIfInBounds_ne (by omega)]
  refine h.head' ((But.refl (OneBlock rx) w).setCell (p := ⟨rx, n, none⟩) (.inl rfl) _) (heap_setCell_same w rx n cur _ (.int .u64 v) h1) ⟨by simpa using hs, fun k hk => ?_, (ho 32 (by omega)).trans (by rw [set_pc]; exact h2.pc), (ho 33 (by omega)).trans h2.mem, (ho 34 (by omega)).trans h2.code⟩ (set_xs s n v) (h.ok.set (by omega) hv)
  by_cases kn : k = n
  · subst kn
    rw [Array.getElem?_setIfInBounds_self_of_lt (by omega)]
    have : (s.set k v).r k = v := by
      unfold MSt.set
      rw [if_neg (by omega)]
      simp
    rw [this]
  · rw [ho k kn, h2.reg k hk, set_other s n v k (by omega)]
theorem RMach.setPc (h : RMach w rx rm rb rc V code s) {p : Int} (hp : InW p) : RMach (w.setCell ⟨rx, 32, none⟩ (.int .u64 p)) rx rm rb rc V code (s.at' p) := by
  obtain ⟨cur, h1, h2⟩ := h.head
  have hs := h2.size
  have ho : ∀ j : Nat, j ≠ 32 → (cur.setIfInBounds 32 (.int .u64 p))[j]? = cur[j]? := fun j hj => by rw [Array.getElem?_setIfInBounds_ne (by omega)]
  exact h.head' ((But.refl (OneBlock rx) w).setCell (p := ⟨rx, 32, none⟩) (.inl rfl) _) (heap_setCell_same w rx 32 cur _ _ h1) ⟨by simpa using hs, fun k hk => (ho k (by omega)).trans (h2.reg k hk), by rw [Array.getElem?_setIfInBounds_self_of_lt (by omega)]; rfl, (ho 33 (by omega)).trans h2.mem, (ho 34 (by omega)).trans h2.code⟩ rfl (h.ok.at' hp)
theorem RMach.setMem (h : RMach w rx rm rb rc V code s) {xs' : List Int} (hb : But (OneBlock rb) w w') (hm : RefAt w' rm rb rc xs') : RMach w' rx rm rb rc V code { s with xs := xs' } := by
  have ha := h.apart
  obtain ⟨cur, q1, q2⟩ := h.head
  refine ⟨⟨cur, hb.heap q1 (oneBlock_not ha.2.symm), ⟨q2.size, q2.reg, q2.pc, q2.mem, q2.code⟩⟩, ?_, hm, ⟨h.ok.r, h.ok.zero, h.ok.pc, hm.bd⟩, h.words, h.len⟩
  by_cases hne : code = []
  · exact h.iscode.none hne w'
  · exact h.iscode.heap fun k hk hl => hb.block k hl (oneBlock_not (h.code_apart hne hk).2)
theorem rReg_any (h : RMach w rx rm rb rc V code s) (n : Int) : Calls Tryz.prog 34 #[.pointer (some ⟨rx, 0, none⟩), .int .i64 n] w fun e w' => e = .returned (.int .u64 (if 0 ≤ n ∧ n < 32 then s.r n.toNat else 0)) ∧ w = w' := by
  by_cases h0 : 0 ≤ n
  · by_cases hn : n < 32
    · rw [if_pos ⟨h0, hn⟩]
      obtain ⟨k, rfl⟩ := nat_of h0
      have hk : k < 32 := by omega
      have c1 := h.reg hk
      clear h h0
      go_enter Tryz.func34, Tryz.ntmps34
      go_wp2
      go_ret
      exact ⟨rfl, rfl⟩
    · rw [if_neg (fun q => hn q.2)]
      have hn' : 31 < n := by omega
      clear h hn
      go_enter Tryz.func34, Tryz.ntmps34
      go_wp2
      go_ret
      exact ⟨rfl, rfl⟩
  · rw [if_neg (fun q => h0 q.1)]
    have hn' : n < 0 := by omega
    clear h h0
    go_enter Tryz.func34, Tryz.ntmps34
    go_wp2
    go_ret
    exact ⟨rfl, rfl⟩
def RSetDone (rx rm rb rc : Nat) (V : Value) (code : List Int) (w : World) (r : Int × MSt) (e : Ending) (w' : World) : Prop :=
  e = .returned (.int .i64 r.1) ∧ RMach w' rx rm rb rc V code r.2 ∧ But (OneBlock rx) w w'
theorem rSet_any (h : RMach w rx rm rb rc V code s) (n v : Int) (hv : InW v) : Calls Tryz.prog 18 #[.pointer (some ⟨rx, 0, none⟩), .int .i64 n, .int .u64 v] w (RSetDone rx rm rb rc V code w (if 0 ≤ n ∧ n < 32 then (0, s.set n v) else (2, s))) := by
  have HM := Lib.hid h
  by_cases h0 : 0 ≤ n
  · by_cases hn : n < 32
    · rw [if_pos ⟨h0, hn⟩]
      obtain ⟨k, rfl⟩ := nat_of h0
      have hk : k < 32 := by omega
      by_cases k0 : k = 0
      · subst k0
        clear h h0 hn hv hk
        go_enter Tryz.func18, Tryz.ntmps18
        go_wp2
        go_ret
        exact ⟨rfl, HM.out, But.refl _ _⟩
      · have k1 : (0 : Int) < (k : Int) := by omega
        have HV := Lib.hid hv
        have c1 := h.reg hk
        have f1 := h.free k
        clear h h0 hv
        go_enter Tryz.func18, Tryz.ntmps18
        go_wp2
        go_ret
        exact ⟨rfl, HM.out.setReg hk (by omega) HV.out, (But.refl (OneBlock rx) w).setCell (p := ⟨rx, k, none⟩) (.inl rfl) _⟩
    · rw [if_neg (fun q => hn q.2)]
      have hn' : 31 < n := by omega
      clear h hn hv
      go_enter Tryz.func18, Tryz.ntmps18
      go_wp2
      go_ret
      exact ⟨rfl, HM.out, But.refl _ _⟩
  · rw [if_neg (fun q => h0 q.1)]
    have hn' : n < 0 := by omega
    clear h h0 hv
    go_enter Tryz.func18, Tryz.ntmps18
    go_wp2
    go_ret
    exact ⟨rfl, HM.out, But.refl _ _⟩
end
end Go.Proofs.YtnaceogkaiodnaaGreat

namespace Go.Proofs.YtnaceogkaiodnaaGreat
open Go.RowKit
set_option linter.unusedVariables false

section
variable {w w' : World} {rx rm rb rc : Nat} {V : Value} {code : List Int} {s : MSt}
theorem rtakes_any {op s t : Int} (h : 5 ≤ op ∧ op ≤ 10) (hs : InW s) (ht : InW t) (w : World) : Calls Tryz.prog 69 #[.int .i64 op, .int .u64 s, .int .u64 t] w fun e w' => e = .returned (.bool (takesV op s t)) ∧ w = w' := by
  have hd := fun u => rdo_any 17 s t u hs.1 hs.2 ht.1 ht.2
  rw [show doV 17 s t = bitV (decide (sg s < sg t)) by simp [doV], show doE 17 = 0 by decide] at hd
  have HD := Lib.hid hd
  clear hd
  rcases (by omega : op = 5 ∨ op = 6 ∨ op = 7 ∨ op = 8 ∨ op = 9 ∨ op = 10) with rfl | rfl | rfl | rfl | rfl | rfl
  · have e : takesV 5 s t = (s == t) := by simp [takesV, beq_eq_decide']
    rw [e]
    clear hs ht h e
    go_enter Tryz.func69, Tryz.ntmps69
    go_wp2_with (go_at_call 44; (with_reducible refine (HD.out _).mono ?_); rintro e w' ⟨rfl, rfl⟩)
    go_ret
    exact ⟨rfl, rfl⟩
  · have e : takesV 6 s t = (s != t) := by simp [takesV, bne, beq_eq_decide']
    rw [e]
    clear hs ht h e
    go_enter Tryz.func69, Tryz.ntmps69
    go_wp2_with (go_at_call 44; (with_reducible refine (HD.out _).mono ?_); rintro e w' ⟨rfl, rfl⟩)
    go_ret
    exact ⟨rfl, rfl⟩
  · have e : takesV 7 s t = (bitV (decide (sg s < sg t)) == 1) := by
      show decide (sg s < sg t) = _
      cases decide (sg s < sg t) <;> rfl
    rw [e]
    generalize bitV (decide (sg s < sg t)) = x at *
    clear hs ht h e
    go_enter Tryz.func69, Tryz.ntmps69
    go_wp2_with (go_at_call 44; (with_reducible refine (HD.out _).mono ?_); rintro e w' ⟨rfl, rfl⟩)
    go_ret
    exact ⟨rfl, rfl⟩
  · have e : takesV 8 s t = (bitV (decide (sg s < sg t)) == 0) := by
      show decide (¬ sg s < sg t) = _
      rw [decide_not]
      cases decide (sg s < sg t) <;> rfl
    rw [e]
    generalize bitV (decide (sg s < sg t)) = x at *
    clear hs ht h e
    go_enter Tryz.func69, Tryz.ntmps69
    go_wp2_with (go_at_call 44; (with_reducible refine (HD.out _).mono ?_); rintro e w' ⟨rfl, rfl⟩)
    go_ret
    exact ⟨rfl, rfl⟩
  · have e : takesV 9 s t = decide (s < t) := by simp [takesV]
    rw [e]
    clear hs ht h e
    go_enter Tryz.func69, Tryz.ntmps69
    go_wp2_with (go_at_call 44; (with_reducible refine (HD.out _).mono ?_); rintro e w' ⟨rfl, rfl⟩)
    go_ret
    exact ⟨rfl, rfl⟩
  · have e : takesV 10 s t = decide (t ≤ s) := by simp [takesV]
    rw [e]
    clear hs ht h e
    go_enter Tryz.func69, Tryz.ntmps69
    go_wp2_with (go_at_call 44; (with_reducible refine (HD.out _).mono ?_); rintro e w' ⟨rfl, rfl⟩)
    go_ret
    exact ⟨rfl, rfl⟩
def RFetchDone (w : World) (v : Value) (E : Int) (e : Ending) (w' : World) : Prop := e = .returned (.tuple #[v, .int .i64 E]) ∧ Below w.heap.size w w'
set_option maxRecDepth 100000 in
set_option maxHeartbeats 4000000 in
theorem rfetch_odd (h : RMach w rx rm rb rc V code s) (hp : s.pc % 4 ≠ 0) : Calls Tryz.prog 38 #[.pointer (some ⟨rx, 0, none⟩)] w (RFetchDone w (.agg #[.int .i64 0, .int .i64 0, .int .i64 0, .int .i64 0, .int .i64 0]) 3) := by
  have HW := Lib.hid (h.alloc (.cells #[.int .i64 0, .int .i64 0, .int .i64 0, .int .i64 0, .int .i64 0] 76))
  have c0 := HW.out.pc
  have hb := h.ok.pc
  have b1 := hb.1
  have b2 := hb.2
  clear h hb
  generalize s.pc = p at *
  go_enter Tryz.func38, Tryz.ntmps38
  go_wp2
  exact bodyPost_ret (v := .tuple #[.agg #[.int .i64 0, .int .i64 0, .int .i64 0, .int .i64 0, .int .i64 0], .int .i64 3]) (results_cell_slot (fn := Tryz.f38) Tryz.results38 _ _ w.heap.size 76 _ (0, 0) _ rfl (heap_alloc_new w _) Tryz.underlying76 rfl rvD_size) rfl ⟨rfl, (Below.refl _ _).alloc (Nat.le_refl _) _⟩
set_option maxRecDepth 100000 in
set_option maxHeartbeats 4000000 in
theorem rfetch_out (h : RMach w rx rm rb rc V code s) (hp : s.pc % 4 = 0) (ho : s.pc < 4294967296 ∨ (code.length : Int) ≤ (s.pc - 4294967296) / 4) : Calls Tryz.prog 38 #[.pointer (some ⟨rx, 0, none⟩)] w (RFetchDone w (.agg #[.int .i64 0, .int .i64 0, .int .i64 0, .int .i64 0, .int .i64 0]) 4) := by
  have HW := Lib.hid (h.alloc (.cells #[.int .i64 0, .int .i64 0, .int .i64 0, .int .i64 0, .int .i64 0] 76))
  have c0 := HW.out.pc
  have c1 := HW.out.codec
  have hb := h.ok.pc
  have hl := h.len
  obtain ⟨ad, cap, hV⟩ : ∃ ad cap, V = .slice ad code.length cap := by
    rcases h.iscode with ⟨rfl, a, q, rfl⟩ | ⟨cb, cap, cur, rfl, _⟩
    · exact ⟨a, q, rfl⟩
    · exact ⟨_, _, rfl⟩
  rw [hV] at c1
  have b1 := hb.1
  have b2 := hb.2
  clear h hb hV
  generalize s.pc = p at *
  generalize code.length = L at *
  have t1 : p.tmod 4 = 0 := by rw [Int.tmod_eq_emod_of_nonneg b1]; exact hp
  have t2 : IntKind.u64.wrap (L : Int) = (L : Int) := by rw [wrap_w64]; unfold w64; omega
  have hL := place_out b1 b2 hl ho
  have HZB := Lib.hid (heap_alloc_new w (.cells #[.int .i64 0, .int .i64 0, .int .i64 0, .int .i64 0, .int .i64 0] 76))
  have HBW := Lib.hid ((Below.refl w.heap.size w).alloc (Nat.le_refl _) (.cells #[.int .i64 0, .int .i64 0, .int .i64 0, .int .i64 0, .int .i64 0] 76))
  by_cases hq : p < 4294967296
  · clear b2 ho hp b1 hL
    go_enter Tryz.func38, Tryz.ntmps38
    go_wp2_with fail
    generalize w.alloc (.cells #[.int .i64 0, .int .i64 0, .int .i64 0, .int .i64 0, .int .i64 0] 76) = W at *
    have z0 := cell_of_row W w.heap.size 0 _ _ _ HZB.out
    have f0 := frozen_of_row W w.heap.size 0 _ _ HZB.out
    have z1 := cell_of_row W w.heap.size 1 _ _ _ HZB.out
    have f1 := frozen_of_row W w.heap.size 1 _ _ HZB.out
    have z2 := cell_of_row W w.heap.size 2 _ _ _ HZB.out
    have f2 := frozen_of_row W w.heap.size 2 _ _ HZB.out
    have z3 := cell_of_row W w.heap.size 3 _ _ _ HZB.out
    have f3 := frozen_of_row W w.heap.size 3 _ _ HZB.out
    have z4 := cell_of_row W w.heap.size 4 _ _ _ HZB.out
    have f4 := frozen_of_row W w.heap.size 4 _ _ HZB.out
    simp at z0 z1 z2 z3 z4
    go_quiet (fail)
    go_wp2
    exact bodyPost_ret (v := .tuple #[.agg #[.int .i64 0, .int .i64 0, .int .i64 0, .int .i64 0, .int .i64 0], .int .i64 4]) (results_cell_slot (fn := Tryz.f38) Tryz.results38 _ _ w.heap.size 76 _ (0, 0) _ rfl (fiveD_set (w1 := W.drewN nq) HZB.out) Tryz.underlying76 rfl rvD_size) rfl ⟨rfl, fiveD_below (below_drewN HBW.out _) (Nat.le_refl _)⟩
  · obtain ⟨q, hq2⟩ : ∃ q, IntKind.u64.wrap ((IntKind.u64.wrap (p - 4294967296)).tdiv 4) = q := ⟨_, rfl⟩
    rw [hq2] at hL
    clear b2 ho hp b1
    go_enter Tryz.func38, Tryz.ntmps38
    go_wp2_with fail
    generalize w.alloc (.cells #[.int .i64 0, .int .i64 0, .int .i64 0, .int .i64 0, .int .i64 0] 76) = W at *
    have z0 := cell_of_row W w.heap.size 0 _ _ _ HZB.out
    have f0 := frozen_of_row W w.heap.size 0 _ _ HZB.out
    have z1 := cell_of_row W w.heap.size 1 _ _ _ HZB.out
    have f1 := frozen_of_row W w.heap.size 1 _ _ HZB.out
    have z2 := cell_of_row W w.heap.size 2 _ _ _ HZB.out
    have f2 := frozen_of_row W w.heap.size 2 _ _ HZB.out
    have z3 := cell_of_row W w.heap.size 3 _ _ _ HZB.out
    have f3 := frozen_of_row W w.heap.size 3 _ _ HZB.out
    have z4 := cell_of_row W w.heap.size 4 _ _ _ HZB.out
    have f4 := frozen_of_row W w.heap.size 4 _ _ HZB.out
    simp at z0 z1 z2 z3 z4
    go_quiet (fail)
    go_wp2
    exact bodyPost_ret (v := .tuple #[.agg #[.int .i64 0, .int .i64 0, .int .i64 0, .int .i64 0, .int .i64 0], .int .i64 4]) (results_cell_slot (fn := Tryz.f38) Tryz.results38 _ _ w.heap.size 76 _ (0, 0) _ rfl (fiveD_set (w1 := W.drewN nq) HZB.out) Tryz.underlying76 rfl rvD_size) rfl ⟨rfl, fiveD_below (below_drewN HBW.out _) (Nat.le_refl _)⟩
end
end Go.Proofs.YtnaceogkaiodnaaGreat

