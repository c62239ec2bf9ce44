/- The queue's Push and Pop, and how its methods are found behind the library's interface. Contracts; no condition but what each names. -/
import Derived.Test.YtjoiocjnffaogaaGreatHeap11A
import Derived.Deep.RegionLaw
namespace Go.Proofs.YtjoiocjnffaogaaGreat
open Go.RowKit Go.Shelf
set_option linter.unusedVariables false
set_option linter.unusedSimpArgs false

/-- An append of one number to a queue's, as a step of a region that draws. -/
theorem step_outQ {W : World} {ops : Array Oper} {o : Oper} {a : Act} {K : Act → World → Prop} {Q : Exit → Act → World → Prop} {E : Prop} (hgd : o.guard = none) (s x : Operand)
    (ho : o.op = .call { callee := .builtin .append, args := #[s, x], argTypes := #[60, 60] }) {V : Value} {xs : List Int} {z : Int} {base : Nat} (hs : a.eval s = V) (hx : a.eval x = .slice (some ⟨W.heap.size, 0, none⟩) 1 1) (h : OutN base W V xs)
    (hb : base ≤ W.heap.size) (hl : xs.length ≤ 1000000)
    (hK : ∀ V' W', OutN base W' V' (xs ++ [z]) → Below base W W' → (∀ i, i < W.heap.size → some i ≠ V.ownBlock → W'.heap[i]? = W.heap[i]?) → W.heap.size ≤ W'.heap.size → K (a.put o.dst V') W') :
    if Region.wanted o (yielded ops a.tmps) = true then Oper.wp Tryz.prog o a (W.alloc (.cells #[.int .i64 z] 3)) K Q else E := by
  rw [if_pos (by simp [Region.wanted, hgd])]
  obtain ⟨i, hi, h1, h2, h3⟩ := info_parts int_info
  have ha : Below W.heap.size W (W.alloc (.cells #[.int .i64 z] 3)) := (Below.refl W.heap.size W).alloc (Nat.le_refl _) (.cells #[.int .i64 z] 3)
  have hg := Owns.below h ha (Nat.le_refl _)
  obtain ⟨V', W', hr, ho', hg'⟩ := run_append_q (P := Tryz.prog) _ base 60 o.type 3 i _ 1 8 Tryz.underlying60 hi h1 h2 h3 rfl (by decide) (IsNum .i64) (zero_num .i64) V xs.length (xs.map (Value.int .i64)) hg ⟨W.heap.size, 0, none⟩ 1 1 [.int .i64 z] rfl (news_one _ _ _) (by intro u hu; simp at hu; subst hu; rfl) (by intro u hu; simp at hu; subst hu; exact ⟨_, rfl⟩) (by unfold maxLen; omega) (by omega) (by simp; omega)
  have e : World.grownBy (W.alloc (.cells #[.int .i64 z] 3)) W' V.ownBlock := hg'
  unfold Oper.wp execOp
  simp only [ho, resolve, invoke, builtin, Sem.run_bind, Sem.run_pure, Result.andThen_ok, List.map_toArray, List.map_cons, List.map_nil, hs, hx, hr]
  exact hK V' W' (by rw [OutN, List.length_append, List.map_append]; exact ho') ((ha.mono hb).grown e (by simp; omega) fun j hj => (h.lt hj).1) (fun i hi hn => (e.block i (by simp; omega) hn).trans (ha.block i hi)) (Nat.le_trans (by simp) e.size)
section
variable {B qb wb n : Nat} {w w' : World} {V V' : Value} {f : Nat → Bool} {xs ys : List Int}
theorem QAt.blk (h : QAt B w qb wb n V f xs) : B ≤ qb ∧ qb < w.heap.size := ⟨h.qge, h.box.lt⟩
/-- The numbers are appended to, and the box is still as it was. -/
theorem QAt.mid (h : QAt B w qb wb n V f xs) (hb : Below B w w') (hk : ∀ i, i < w.heap.size → some i ≠ V.ownBlock → w'.heap[i]? = w.heap[i]?) (ho : OutN B w' V' ys) :
    RowAt w' qb 2 62 (fun i => if i = 0 then V else .slice (some ⟨wb, 0, none⟩) n n) ∧ QAt B (w'.setCell ⟨qb, 0, none⟩ V') qb wb n V' f ys := by
  have hbx := h.box.heap (hk qb h.box.lt (fun e => h.ownq e.symm))
  have hrw := h.row.heap (hk wb h.row.lt (fun e => h.ownw e.symm))
  exact ⟨hbx, QAt.lay hbx hrw h.qge h.wge ho⟩
theorem QAt.below (h : QAt B w qb wb n V f xs) (k : Nat) (u : Value) : Below B w (w.setCell ⟨qb, k, none⟩ u) := (Below.refl B w).setCell (p := ⟨qb, k, none⟩) h.qge _
end
def PushDone (B qb wb n : Nat) (f : Nat → Bool) (xs : List Int) (w : World) (e : Ending) (w' : World) : Prop := e = .returned (.tuple #[]) ∧ ∃ V', QAt B w' qb wb n V' f xs ∧ Below B w w'
set_option maxRecDepth 100000 in
set_option maxHeartbeats 8000000 in
theorem push11 {B qb wb n : Nat} {w : World} {V : Value} {f : Nat → Bool} {xs : List Int} (h : QAt B w qb wb n V f xs) (hl : xs.length ≤ 100000) (z : Int) :
    Calls Tryz.prog 138 #[.pointer (some ⟨qb, 0, none⟩), .iface 3 (.int .i64 z)] w (PushDone B qb wb n f (xs ++ [z]) w) := by
  have HQ := Lib.hid h
  have c0 := h.c0
  have f0 := h.box.frozen 0
  have HQd := Lib.hid h.drew
  have HQa := Lib.hid (h.grow ((Below.refl w.heap.size w).alloc (Nat.le_refl _) (.cells #[.int .i64 z] 3)))
  have ca := HQa.out.c0
  have fa := HQa.out.box.frozen 0
  have hsz : B ≤ w.heap.size := by have := h.blk; omega
  obtain ⟨vA, vc, hve, _⟩ := out_len h.own
  obtain ⟨L, hL⟩ : ∃ L, L = xs.length := ⟨_, rfl⟩
  rw [← hL] at hve
  subst hve
  have HL := Lib.hid (show xs.length ≤ 1000000 by omega)
  have hta : ∀ W : World, (Instr.typeAssert (.iface 3 (.int .i64 z)) 20 3 false).run Tryz.prog W = .ok (.int .i64 z) W := fun _ => by kernel_rfl
  clear h hL hl
  go_enter Tryz.func138, Tryz.ntmps138
  go_wp2
  go_region_law ((refine step_outQ (W := w.drew) (V := .slice vA L vc) (xs := xs) (z := z) (base := B) rfl (.tmp 8) (.tmp 11) rfl rfl rfl HQd.out.own (by simpa using hsz) HL.out ?_; intro V8 w8 ho hb hk8 hs8; obtain ⟨a8, c8, h8, _⟩ := out_len ho; generalize (xs ++ [z]).length = q8 at h8; subst h8; obtain ⟨m1, m2⟩ := HQd.out.mid hb hk8 ho; have p8 := m1.cell (i := 0) (by omega); rw [if_pos rfl] at p8; have q8 := m1.frozen 0; have HM8 := Lib.hid m2; have HB8 := Lib.hid hb; have hqq := HQ.out.qge; clear ho hb hk8 hs8 m1 m2))
  all_goals
    go_wp2
    go_end0
    exact ⟨rfl, _, HM8.out, ((Below.refl B w).drew.trans HB8.out).setCell (p := ⟨qb, 0, none⟩) hqq _⟩
theorem cut11 {base q cap : Nat} {wr : World} {ws : List Int} {p : Int} (h : OutN base wr (.slice (some ⟨q, 0, none⟩) (ws.length + 1) cap) (ws ++ [p])) : OutN base wr (.slice (some ⟨q, 0, none⟩) ws.length cap) ws := by
  have hv : Value.slice (some ⟨q, 0, none⟩) (ws.length + 1) cap ≠ .slice none 0 0 := fun e => by cases e
  obtain ⟨g', cap', cur, he, h1, h2, h3, h4, h5, h6, h7, h8⟩ := h.parts hv
  simp only [Value.slice.injEq, Option.some.injEq, Addr.mk.injEq, true_and, and_true] at he
  obtain ⟨rfl, _, rfl⟩ := he
  simp only [List.length_append, List.length_cons, List.length_nil, Nat.zero_add] at h4 h7
  have ht : cur.toList.take ws.length = ws.map (Value.int .i64) := by
    have := congrArg (List.take ws.length) h7
    rw [List.take_take, Nat.min_eq_left (by omega), List.map_append, List.take_append_of_le_length (by simp)] at this
    rw [this, List.take_of_length_le (by simp)]
  exact OutN.of_block (cap := cap) h1 h3 (by omega) h5 h6 ht h8
def PopDone (B qb wb n : Nat) (f : Nat → Bool) (xs : List Int) (z : Int) (w : World) (e : Ending) (w' : World) : Prop := e = .returned (.iface 3 (.int .i64 z)) ∧ ∃ V', QAt B w' qb wb n V' f xs ∧ Below B w w'
set_option maxRecDepth 100000 in
set_option maxHeartbeats 8000000 in
theorem pop11 {B qb wb n : Nat} {w : World} {V : Value} {f : Nat → Bool} {xs : List Int} {z : Int} (h : QAt B w qb wb n V f (xs ++ [z])) (hl : xs.length ≤ 100000) :
    Calls Tryz.prog 137 #[.pointer (some ⟨qb, 0, none⟩)] w (PopDone B qb wb n f xs z w) := by
  have HQ := Lib.hid h
  obtain ⟨g, cap, rfl, hg, hc, hcl⟩ := h.shape (by simp)
  have c0 := h.c0
  have f0 := h.box.frozen 0
  rw [List.length_append, List.length_cons, List.length_nil, Nat.zero_add] at c0 hc hcl HQ
  have cz := hcl xs.length (by omega)
  have e0 : (xs ++ [z]).getD xs.length 0 = z := by simp
  rw [e0] at cz
  have HO := Lib.hid (cut11 HQ.out.own)
  have HN := Lib.hid (QAt.lay HQ.out.box HQ.out.row HQ.out.qge HQ.out.wge HO.out)
  have HB := Lib.hid (HQ.out.below 0 (.slice (some ⟨g, 0, none⟩) xs.length cap))
  generalize xs.length = L at *
  have h1 : wrap64 (((L + 1 : Nat) : Int) - 1) = (L : Int) := by unfold wrap64; omega
  have h1' : wrap64 ((L : Int) + 1 - 1) = (L : Int) := by unfold wrap64; omega
  have h2 : (0 : Int) ≤ (L : Int) := by omega
  have h3 : (L : Int) < (L : Int) + 1 := by omega
  have h4 : (L : Int) ≤ (cap : Int) := by omega
  clear h hcl e0
  go_enter Tryz.func137, Tryz.ntmps137
  go_wp2
  go_ret
  exact ⟨rfl, _, HN.out, HB.out⟩
end Go.Proofs.YtjoiocjnffaogaaGreat
