/- The library's Push and Pop over the queue; the queue as a set of numbers: newQueue, add, take. Contracts; no condition but what each names. -/
import Derived.Test.YtjoiocjnffaogaaGreatHeap11D
namespace Go.Proofs.YtjoiocjnffaogaaGreat
open Go.RowKit Go.Shelf
set_option linter.unusedVariables false
set_option linter.unusedSimpArgs false

/-- The queue, with some numbers in some order. -/
def Queued (B qb wb n : Nat) (f : Nat → Bool) (xs : List Int) (w w' : World) : Prop := ∃ V' xs', xs'.Perm xs ∧ QAt B w' qb wb n V' f xs' ∧ Below B w w'
theorem Turned.queued {B qb wb n : Nat} {V : Value} {f : Nat → Bool} {xs ys : List Int} {w w1 w' : World} (h : Turned B qb wb n V f ys w1 w') (hp : ys.Perm xs) (hb : Below B w w1) : Queued B qb wb n f xs w w' := by
  obtain ⟨xs', h1, h2, h3⟩ := h
  exact ⟨V, xs', h1.trans hp, h2, hb.trans h3⟩
set_option maxRecDepth 100000 in
set_option maxHeartbeats 8000000 in
theorem heapPush11 {B qb wb n : Nat} {w : World} {V : Value} {f : Nat → Bool} {xs : List Int} (h : QAt B w qb wb n V f xs) (hl : xs.length ≤ 90000) (z : Int) :
    Calls Tryz.prog 50 #[.iface 56 (.pointer (some ⟨qb, 0, none⟩)), .iface 3 (.int .i64 z)] w fun e w' => e = .returned (.tuple #[]) ∧ Queued B qb wb n f (xs ++ [z]) w w' := by
  have HP := Lib.hid (push11 h (by omega) z)
  have hf := find_push qb w
  obtain ⟨m, hm⟩ : ∃ m, m = xs.length := ⟨_, rfl⟩
  have HM : Hid ((xs ++ [z]).length = m + 1) := Lib.hid (by simp [hm])
  have e1 : wrap64 ((m : Int) + 1 - 1) = (m : Int) := by unfold wrap64; omega
  have e3 : wrap64 (m : Int) = (m : Int) := by unfold wrap64; omega
  have HL := Lib.hid (show m + 1 ≤ 100000 by omega)
  clear h hm hl
  go_enter Tryz.func50, Tryz.ntmps50
  go_wp2_with (first
    | (go_at_call 138; (with_reducible refine HP.out.mono ?_); rintro e w1 ⟨rfl, V1, hq, hb⟩; have HQ1 := Lib.hid hq; have HB1 := Lib.hid hb; have hf1 := find_len qb w1 V1 hq.c0; obtain ⟨A1, c1, h1, _⟩ := out_len hq.own; rw [HM.out] at h1; subst h1; have HU := Lib.hid (up11 (j := m) hq (by rw [HM.out]; omega) (by rw [HM.out]; exact HL.out)); clear hq hb)
    | (go_at_call 30; (with_reducible refine (len11 A1 (m + 1) c1 w1).mono ?_); rintro e w2 ⟨rfl, rfl⟩)
    | (go_at_call 66; (with_reducible refine HU.out.mono ?_); rintro e w3 ⟨rfl, ht⟩; have HT := Lib.hid ht; clear ht))
  go_end0
  exact ⟨rfl, HT.out.queued (.refl _) HB1.out⟩
set_option maxRecDepth 100000 in
set_option maxHeartbeats 8000000 in
theorem heapPop11 {B qb wb n : Nat} {w : World} {V : Value} {f : Nat → Bool} {xs : List Int} (h : QAt B w qb wb n V f xs) (h0 : 0 < xs.length) (hl : xs.length ≤ 90000) :
    Calls Tryz.prog 51 #[.iface 56 (.pointer (some ⟨qb, 0, none⟩))] w fun e w' => ∃ z ys, e = .returned (.iface 3 (.int .i64 z)) ∧ (z :: ys).Perm xs ∧ ∃ V', QAt B w' qb wb n V' f ys ∧ Below B w w' := by
  obtain ⟨m, hm⟩ : ∃ m, xs.length = m + 1 := ⟨xs.length - 1, by omega⟩
  have HM := Lib.hid hm
  have hf := find_len qb w V h.c0
  have hs := find_swap qb w V h.c0
  have HS := Lib.hid (swap_at (i := 0) (j := m) h h0 (by omega))
  rw [show ((0 : Nat) : Int) = 0 from rfl] at HS
  obtain ⟨A, cap, hv, _⟩ := out_len h.own
  rw [hm] at hv
  subst hv
  have e1 : wrap64 ((m : Int) + 1 - 1) = (m : Int) := by unfold wrap64; omega
  have e3 : wrap64 (m : Int) = (m : Int) := by unfold wrap64; omega
  have HL := Lib.hid (show m + 1 ≤ 90000 by omega)
  clear h hm hl h0
  go_enter Tryz.func51, Tryz.ntmps51
  go_wp2_with (first
    | (go_at_call 30; (with_reducible refine (len11 A (m + 1) cap w).mono ?_); rintro e w2 ⟨rfl, rfl⟩)
    | (go_at_call 140; (with_reducible refine HS.out.mono ?_); rintro e w1 ⟨rfl, xs1, p1, q1, b1⟩; have HP1 := Lib.hid p1; have HQ1 := Lib.hid q1; have HB1 := Lib.hid b1; have HD := Lib.hid (down11 (N := m) q1 (by rw [p1.length_eq, HM.out]; omega) (by rw [p1.length_eq, HM.out]; have := HL.out; omega)); clear p1 q1 b1)
    | (go_at_call 67; (with_reducible refine HD.out.mono ?_); rintro e w2 ⟨c, rfl, xs2, p2, q2, b2⟩; obtain ⟨ys, z, hys⟩ : ∃ ys z, xs2 = ys ++ [z] := (List.eq_nil_or_concat xs2).elim (fun hn => absurd (p2.trans HP1.out).length_eq (by rw [hn, HM.out]; simp)) (fun ⟨ys, z, h⟩ => ⟨ys, z, by rw [h, List.concat_eq_append]⟩); have HY := Lib.hid hys; rw [hys] at q2; have HB2 := Lib.hid (HB1.out.trans b2); have HP2 := Lib.hid (p2.trans HP1.out); have hp2 := find_pop qb w2; have HPP := Lib.hid (pop11 q2 (by have h1 := HP2.out.length_eq; rw [hys, HM.out] at h1; simp at h1; have := HL.out; omega)); clear p2 q2 b2 hys)
    | (go_at_call 137; (with_reducible refine HPP.out.mono ?_); rintro e w3 ⟨rfl, V3, q3, b3⟩; have HQ3 := Lib.hid q3; have HB3 := Lib.hid (HB2.out.trans b3); clear q3 b3))
  go_ret
  refine ⟨z, ys, rfl, ?_, V3, HQ3.out, HB3.out⟩
  have := HP2.out
  rw [HY.out] at this
  exact (List.perm_append_comm (l₁ := [z]) (l₂ := ys)).trans this
/-- Who waits: those that are in the queue. -/
def wf (xs : List Int) : Nat → Bool := fun i => decide ((i : Int) ∈ xs)
theorem wf_perm {xs ys : List Int} (h : ys.Perm xs) : wf ys = wf xs := by
  funext i
  unfold wf
  exact decide_eq_decide.2 h.mem_iff
theorem wf_take {z : Nat} {xs ys : List Int} (h : ((z : Int) :: ys).Perm xs) (hn : xs.Nodup) : (fun i => if i = z then false else wf xs i) = wf ys := by
  funext i
  have hn' := List.nodup_cons.1 (h.nodup_iff.2 hn)
  unfold wf
  by_cases e : i = z
  · subst e
    rw [if_pos rfl]
    exact (decide_eq_false hn'.1).symm
  · rw [if_neg e]
    refine decide_eq_decide.2 ⟨fun hm => ?_, fun hm => h.mem_iff.1 (List.mem_cons_of_mem _ hm)⟩
    rcases List.mem_cons.1 (h.mem_iff.2 hm) with h1 | h1
    · exact absurd h1 (by omega)
    · exact h1
theorem wf_add {z : Nat} {xs : List Int} : (fun i => if i = z then true else wf xs i) = wf (xs ++ [(z : Int)]) := by
  funext i
  unfold wf
  by_cases e : i = z
  · subst e
    rw [if_pos rfl]
    exact (decide_eq_true (by simp)).symm
  · rw [if_neg e]
    exact decide_eq_decide.2 ⟨fun hm => by simp [hm], fun hm => by
      rcases List.mem_append.1 hm with h1 | h1
      · exact h1
      · simp at h1; exact absurd h1 (by omega)⟩
set_option maxRecDepth 100000 in
set_option maxHeartbeats 8000000 in
theorem take11 {B qb wb n : Nat} {w : World} {V : Value} {xs : List Int} (h : QAt B w qb wb n V (wf xs) xs) (hn : xs.Nodup) (hb : ∀ x ∈ xs, 0 ≤ x ∧ x < n) (h0 : 0 < xs.length) (hn2 : n ≤ 5000) (hl : xs.length ≤ 90000) :
    Calls Tryz.prog 31 #[.pointer (some ⟨qb, 0, none⟩)] w fun e w' => ∃ (z : Nat) (ys : List Int), e = .returned (.int .i64 z) ∧ z < n ∧ ((z : Int) :: ys).Perm xs ∧ ∃ V', QAt B w' qb wb n V' (wf ys) ys ∧ Below B w w' := by
  have HP := Lib.hid (heapPop11 h h0 hl)
  have HN := Lib.hid hn
  have HB := Lib.hid hb
  clear h hn hb h0 hl
  go_enter Tryz.func31, Tryz.ntmps31
  go_wp2_with (go_at_call 51; (with_reducible refine HP.out.mono ?_); rintro e w1 ⟨z, ys, rfl, hp, V1, hq, hb1⟩; obtain ⟨k, hk⟩ : ∃ k : Nat, z = k := ⟨z.toNat, by have := HB.out z (hp.mem_iff.1 (by simp)); omega⟩; subst hk; have HK : Hid (k < n) := Lib.hid (by have := HB.out _ (hp.mem_iff.1 (List.mem_cons_self (a := (k : Int)) (l := ys))); omega); have hta : ∀ W : World, (Instr.typeAssert (.iface 3 (.int .i64 (k : Int))) 20 3 false).run Tryz.prog W = .ok (.int .i64 (k : Int)) W := (fun _ => by kernel_rfl); have c1 := hq.c1; have r1 := hq.row.cell HK.out; unfold boolsV at r1; have f1 := hq.row.frozen k; have k0 : (0 : Int) ≤ (k : Int) := (by omega); have k1 : (k : Int) < (n : Int) := (by have := HK.out; omega); have HQ1 := Lib.hid hq; have HB1 := Lib.hid hb1; have HPP := Lib.hid hp; clear hq hb1 hp)
  go_ret
  refine ⟨k, ys, rfl, HK.out, HPP.out, V1, ?_, HB1.out.setCell (p := ⟨wb, k, none⟩) HQ1.out.wge _⟩
  have := HQ1.out.mark k false
  rwa [wf_take HPP.out HN.out] at this
set_option maxRecDepth 100000 in
set_option maxHeartbeats 8000000 in
theorem add11 {B qb wb n : Nat} {w : World} {V : Value} {xs : List Int} {k : Nat} (h : QAt B w qb wb n V (wf xs) xs) (hk : k < n) (hn2 : n ≤ 5000) (hl : xs.length ≤ 80000) :
    Calls Tryz.prog 29 #[.pointer (some ⟨qb, 0, none⟩), .int .i64 k] w fun e w' => e = .returned (.tuple #[]) ∧ ∃ V' ys, QAt B w' qb wb n V' (wf ys) ys ∧ Below B w w' ∧ (((k : Int) ∈ xs ∧ ys = xs) ∨ ((k : Int) ∉ xs ∧ ys.Perm (xs ++ [(k : Int)]))) := by
  have c1 := h.c1
  have r1 := h.row.cell hk
  unfold boolsV at r1
  have f1 := h.row.frozen k
  have k0 : (0 : Int) ≤ (k : Int) := by omega
  have k1 : (k : Int) < (n : Int) := by omega
  have HQ := Lib.hid h
  by_cases hm : (k : Int) ∈ xs
  · have hw : wf xs k = true := decide_eq_true hm
    rw [hw] at r1
    have HM := Lib.hid hm
    clear h hl hw hm
    go_enter Tryz.func29, Tryz.ntmps29
    go_wp2
    go_end0
    exact ⟨rfl, V, xs, HQ.out, Below.refl _ _, .inl ⟨HM.out, rfl⟩⟩
  · have hw : wf xs k = false := decide_eq_false hm
    rw [hw] at r1
    have HM := Lib.hid hm
    have hq := h.mark k true
    rw [wf_add] at hq
    have HP := Lib.hid (heapPush11 hq (by omega) (k : Int))
    have HB := Lib.hid ((Below.refl B w).setCell (p := ⟨wb, k, none⟩) h.wge (.bool true))
    clear h hl hw hm hq
    go_enter Tryz.func29, Tryz.ntmps29
    go_wp2_with (go_at_call 50; (with_reducible refine HP.out.mono ?_); rintro e w1 ⟨rfl, V1, ys, hp, hq, hb⟩; have HP1 := Lib.hid hp; have HQ1 := Lib.hid hq; have HB1 := Lib.hid (HB.out.trans hb); clear hp hq hb)
    go_end0
    refine ⟨rfl, V1, ys, ?_, HB1.out, .inr ⟨HM.out, HP1.out⟩⟩
    have := HQ1.out
    rwa [← wf_perm HP1.out] at this
set_option maxRecDepth 100000 in
set_option maxHeartbeats 8000000 in
theorem newQueue11 (n : Nat) (hn : n ≤ 5000) (w : World) :
    Calls Tryz.prog 28 #[.int .i64 n] w fun e w' => ∃ qb wb, e = .returned (.pointer (some ⟨qb, 0, none⟩)) ∧ QAt w.heap.size w' qb wb n (.slice none 0 0) (wf []) [] ∧ Below w.heap.size w w' := by
  have hmk := make_bools n (by omega)
  have HB := Lib.hid (bools_made n w)
  have n0 : (0 : Int) ≤ (n : Int) := by omega
  have n1 : (n : Int) ≤ 5000 := by omega
  generalize madeCells (Value.bool false).cells (n * 1) = mb at *
  go_enter Tryz.func28, Tryz.ntmps28
  go_wp2
  go_ret
  have hx := heap_alloc_new (w.alloc (.cells mb 4)) (.cells #[.slice none 0 0, .slice (some ⟨w.heap.size, 0, none⟩) n n] 62)
  rw [World.size_alloc] at hx
  have ha := (Below.refl (w.alloc (.cells mb 4)).heap.size _).alloc (Nat.le_refl _) (.cells #[.slice none 0 0, .slice (some ⟨w.heap.size, 0, none⟩) n n] 62)
  refine ⟨w.heap.size + 1, w.heap.size, rfl, ⟨⟨_, hx, rfl, fun i hi => ?_⟩, Owns.nil _ _ _ _ _, (HB.out.congr fun i hi => by unfold boolsV wf; simp).below ha (by simp), by omega, Nat.le_refl _⟩, ((Below.refl _ _).alloc (Nat.le_refl _) _).alloc (by simp) _⟩
  rcases (show i = 0 ∨ i = 1 by omega) with rfl | rfl <;> rfl
end Go.Proofs.YtjoiocjnffaogaaGreat
