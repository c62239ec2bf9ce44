/- Which fields each form has: the contract of rvcode.fields, for any letter. No condition. -/
import Derived.Test.YtcglfbjfllohjaaFld03
import Derived.Test.YtcglfbjfllohjaaRv03Math
import Derived.Deep.RegionHeld3
import Derived.Laws.EntriesVeiled
namespace Go.Proofs.Ytcglfbjfllohjaa
open Go.RowKit
set_option linter.unusedVariables false

def Fd.zero : Fd := ⟨0, 0, 0, 0⟩
/-- The fields of a form, by its letter. -/
def fdsV (c : Int) : List Fd :=
  if c = 82 then [⟨0, 0, 5, 7⟩, ⟨1, 0, 5, 15⟩, ⟨2, 0, 5, 20⟩]
  else if c = 73 then [⟨0, 0, 5, 7⟩, ⟨1, 0, 5, 15⟩, ⟨3, 0, 0, 20⟩]
  else if c = 88 then [⟨0, 0, 5, 7⟩, ⟨1, 0, 5, 15⟩, ⟨3, 0, 6, 20⟩]
  else if c = 89 then [⟨0, 0, 5, 7⟩, ⟨1, 0, 5, 15⟩, ⟨3, 0, 5, 20⟩]
  else if c = 83 then [⟨3, 0, 5, 7⟩, ⟨1, 0, 5, 15⟩, ⟨2, 0, 5, 20⟩, ⟨3, 5, 0, 25⟩]
  else if c = 66 then [⟨3, 11, 1, 7⟩, ⟨3, 1, 4, 8⟩, ⟨1, 0, 5, 15⟩, ⟨2, 0, 5, 20⟩, ⟨3, 5, 6, 25⟩, ⟨3, 12, 0, 31⟩]
  else if c = 85 then [⟨0, 0, 5, 7⟩, ⟨3, 0, 0, 12⟩]
  else if c = 74 then [⟨0, 0, 5, 7⟩, ⟨3, 12, 8, 12⟩, ⟨3, 11, 1, 20⟩, ⟨3, 1, 10, 21⟩, ⟨3, 20, 0, 31⟩]
  else []
/-- Fields in a row. -/
def IsFds (w : World) (A B : Nat) (V : Value) (l : List Fd) : Prop :=
  (V = .slice none 0 0 ∧ l = []) ∨ ∃ b cap, V = .slice (some ⟨b, 0, none⟩) l.length cap ∧ l.length ≤ cap ∧ (A ≤ b ∧ b < B) ∧ ∀ i, i < l.length → ∃ v1 v2, IsFd w A B (l.getD i .zero) v1 v2 ∧
    w.cell? ⟨b, i * 3, none⟩ = some (.int .i64 (l.getD i .zero).of) ∧ w.cell? ⟨b, i * 3 + 1, none⟩ = some v1 ∧ w.cell? ⟨b, i * 3 + 2, none⟩ = some v2
theorem IsFds.of_blocks {w w' : World} {A B : Nat} {V : Value} {l : List Fd} (h : IsFds w A B V l) (hc : ∀ k, A ≤ k → k < B → w'.heap[k]? = w.heap[k]?) : IsFds w' A B V l := by
  rcases h with h | ⟨b, cap, h1, h2, h3, h4⟩
  · exact .inl h
  · refine .inr ⟨b, cap, h1, h2, h3, fun i hi => ?_⟩
    obtain ⟨v1, v2, q, c0, c1, c2⟩ := h4 i hi
    have hcell : ∀ o, w'.cell? ⟨b, o, none⟩ = w.cell? ⟨b, o, none⟩ := fun o => World.cell?_of_block (hc b h3.1 h3.2)
    exact ⟨v1, v2, q.of_cells (fun k hk hk' => World.cell?_of_block (hc k hk hk')), by rw [hcell]; exact c0, by rw [hcell]; exact c1, by rw [hcell]; exact c2⟩
theorem IsFds.below {w w' : World} {A B B' : Nat} {V : Value} {l : List Fd} (h : IsFds w A B V l) (hb : Below B' w w') (hB : B ≤ B') : IsFds w' A B V l :=
  h.of_blocks fun k _ hk => hb.block k (by omega)
theorem IsFds.more {w : World} {A A' B B' : Nat} {V : Value} {l : List Fd} (h : IsFds w A B V l) (hB : B ≤ B') (hA : A' ≤ A) : IsFds w A' B' V l := by
  rcases h with h | ⟨b, cap, h1, h2, h3, h4⟩
  · exact .inl h
  · refine .inr ⟨b, cap, h1, h2, by omega, fun i hi => ?_⟩
    obtain ⟨v1, v2, q, c0, c1, c2⟩ := h4 i hi
    exact ⟨v1, v2, q.more hB hA, c0, c1, c2⟩
def FdsDone (w : World) (l : List Fd) (e : Ending) (w' : World) : Prop :=
  ∃ V, e = .returned V ∧ IsFds w' w.heap.size w'.heap.size V l ∧ Below w.heap.size w w'
/-- What a call of part, or top, leaves. -/
structure FdAt (w : World) (F : Fd) (v1 v2 : Value) (w' : World) : Prop where
  fd : IsFd w' w.heap.size w'.heap.size F v1 v2
  bel : Below w.heap.size w w'
theorem new_cell (w : World) (cs : Array Value) (t : TypeId) (p j : Nat) (v : Value) (hp : p = w.heap.size) (hv : cs[j]? = some v) : (w.alloc (.cells cs t)).cell? ⟨p, j, none⟩ = some v := by
  subst hp
  rw [cell_of_row _ _ _ _ _ _ (heap_alloc_new w _)]
  exact hv
theorem old_cell {w : World} (o : Obj) {p j : Nat} {v : Value} (h : w.cell? ⟨p, j, none⟩ = some v) : (w.alloc o).cell? ⟨p, j, none⟩ = some v := by
  rw [((Below.refl _ w).alloc (Nat.le_refl _) o).cell (p := ⟨p, j, none⟩) (block_lt_of_cell h)]
  exact h
theorem below_of_drew {B : Nat} {w w' : World} (h : Below B w.drew w') : Below B w w' := ⟨h.os, h.tape, h.output, h.size, h.block⟩
def Storable (v : Value) : Prop := ∀ (w : World) (a : Addr) (m : Mode), (store a v m).run Try.prog w = stored Try.prog w a v m
theorem IsFd.st {w : World} {A B : Nat} {F : Fd} {v1 v2 : Value} (h : IsFd w A B F v1 v2) : Storable v1 ∧ Storable v2 := by
  rcases h.how with ⟨h0, pf, pm, pa, l1, l2, l3, rfl, rfl, c1, c2, c3⟩ | ⟨h0, pf, pa, l1, l3, rfl, rfl, c1, c3⟩
  · exact ⟨fun w a m => run_store_func _ w a m _ _ _, fun w a m => run_store_func _ w a m _ _ _⟩
  · exact ⟨fun w a m => run_store_func _ w a m _ _ _, fun w a m => run_store_func _ w a m _ _ _⟩
theorem FdDone.out {w : World} {F : Fd} {e : Ending} {w' : World} (h : FdDone w F e w') : ∃ v1 v2, e = .returned (.agg #[.int .i64 F.of, v1, v2]) ∧ FdAt w F v1 v2 w' := by
  obtain ⟨v1, v2, he, h1, h2⟩ := h
  exact ⟨v1, v2, he, h1, h2⟩

theorem fd_0_0_5_7 (w : World) : Calls Try.prog 36 #[.int .i64 0, .int .i64 0, .int .i64 5, .int .i64 7] w (FdDone w ⟨0, 0, 5, 7⟩) := part_any ⟨0, 0, 5, 7⟩ w ⟨by decide, by decide, by decide, by decide, by decide⟩ (by decide)
theorem fd_1_0_5_15 (w : World) : Calls Try.prog 36 #[.int .i64 1, .int .i64 0, .int .i64 5, .int .i64 15] w (FdDone w ⟨1, 0, 5, 15⟩) := part_any ⟨1, 0, 5, 15⟩ w ⟨by decide, by decide, by decide, by decide, by decide⟩ (by decide)
theorem fd_2_0_5_20 (w : World) : Calls Try.prog 36 #[.int .i64 2, .int .i64 0, .int .i64 5, .int .i64 20] w (FdDone w ⟨2, 0, 5, 20⟩) := part_any ⟨2, 0, 5, 20⟩ w ⟨by decide, by decide, by decide, by decide, by decide⟩ (by decide)
theorem fd_3_0_0_20 (w : World) : Calls Try.prog 37 #[.int .i64 0, .int .i64 20] w (FdDone w ⟨3, 0, 0, 20⟩) := top_any ⟨3, 0, 0, 20⟩ w ⟨by decide, by decide, by decide, by decide, by decide⟩ rfl rfl
theorem fd_3_0_6_20 (w : World) : Calls Try.prog 36 #[.int .i64 3, .int .i64 0, .int .i64 6, .int .i64 20] w (FdDone w ⟨3, 0, 6, 20⟩) := part_any ⟨3, 0, 6, 20⟩ w ⟨by decide, by decide, by decide, by decide, by decide⟩ (by decide)
theorem fd_3_0_5_20 (w : World) : Calls Try.prog 36 #[.int .i64 3, .int .i64 0, .int .i64 5, .int .i64 20] w (FdDone w ⟨3, 0, 5, 20⟩) := part_any ⟨3, 0, 5, 20⟩ w ⟨by decide, by decide, by decide, by decide, by decide⟩ (by decide)
theorem fd_3_0_5_7 (w : World) : Calls Try.prog 36 #[.int .i64 3, .int .i64 0, .int .i64 5, .int .i64 7] w (FdDone w ⟨3, 0, 5, 7⟩) := part_any ⟨3, 0, 5, 7⟩ w ⟨by decide, by decide, by decide, by decide, by decide⟩ (by decide)
theorem fd_3_5_0_25 (w : World) : Calls Try.prog 37 #[.int .i64 5, .int .i64 25] w (FdDone w ⟨3, 5, 0, 25⟩) := top_any ⟨3, 5, 0, 25⟩ w ⟨by decide, by decide, by decide, by decide, by decide⟩ rfl rfl
theorem fd_3_11_1_7 (w : World) : Calls Try.prog 36 #[.int .i64 3, .int .i64 11, .int .i64 1, .int .i64 7] w (FdDone w ⟨3, 11, 1, 7⟩) := part_any ⟨3, 11, 1, 7⟩ w ⟨by decide, by decide, by decide, by decide, by decide⟩ (by decide)
theorem fd_3_1_4_8 (w : World) : Calls Try.prog 36 #[.int .i64 3, .int .i64 1, .int .i64 4, .int .i64 8] w (FdDone w ⟨3, 1, 4, 8⟩) := part_any ⟨3, 1, 4, 8⟩ w ⟨by decide, by decide, by decide, by decide, by decide⟩ (by decide)
theorem fd_3_5_6_25 (w : World) : Calls Try.prog 36 #[.int .i64 3, .int .i64 5, .int .i64 6, .int .i64 25] w (FdDone w ⟨3, 5, 6, 25⟩) := part_any ⟨3, 5, 6, 25⟩ w ⟨by decide, by decide, by decide, by decide, by decide⟩ (by decide)
theorem fd_3_12_0_31 (w : World) : Calls Try.prog 37 #[.int .i64 12, .int .i64 31] w (FdDone w ⟨3, 12, 0, 31⟩) := top_any ⟨3, 12, 0, 31⟩ w ⟨by decide, by decide, by decide, by decide, by decide⟩ rfl rfl
theorem fd_3_0_0_12 (w : World) : Calls Try.prog 37 #[.int .i64 0, .int .i64 12] w (FdDone w ⟨3, 0, 0, 12⟩) := top_any ⟨3, 0, 0, 12⟩ w ⟨by decide, by decide, by decide, by decide, by decide⟩ rfl rfl
theorem fd_3_12_8_12 (w : World) : Calls Try.prog 36 #[.int .i64 3, .int .i64 12, .int .i64 8, .int .i64 12] w (FdDone w ⟨3, 12, 8, 12⟩) := part_any ⟨3, 12, 8, 12⟩ w ⟨by decide, by decide, by decide, by decide, by decide⟩ (by decide)
theorem fd_3_11_1_20 (w : World) : Calls Try.prog 36 #[.int .i64 3, .int .i64 11, .int .i64 1, .int .i64 20] w (FdDone w ⟨3, 11, 1, 20⟩) := part_any ⟨3, 11, 1, 20⟩ w ⟨by decide, by decide, by decide, by decide, by decide⟩ (by decide)
theorem fd_3_1_10_21 (w : World) : Calls Try.prog 36 #[.int .i64 3, .int .i64 1, .int .i64 10, .int .i64 21] w (FdDone w ⟨3, 1, 10, 21⟩) := part_any ⟨3, 1, 10, 21⟩ w ⟨by decide, by decide, by decide, by decide, by decide⟩ (by decide)
theorem fd_3_20_0_31 (w : World) : Calls Try.prog 37 #[.int .i64 20, .int .i64 31] w (FdDone w ⟨3, 20, 0, 31⟩) := top_any ⟨3, 20, 0, 31⟩ w ⟨by decide, by decide, by decide, by decide, by decide⟩ rfl rfl

set_option maxHeartbeats 4000000 in
theorem fields_R (w : World) : Calls Try.prog 24 #[.int .u8 82] w (FdsDone w (fdsV 82)) := by
  go_enter Try.func24, Try.ntmps24
  go_wp2_with (first
    | (go_at_call 36; (with_reducible refine (fd_0_0_5_7 _).mono ?_); intro e w1 hq; obtain ⟨a1, b1, rfl, hh⟩ := hq.out; have H1 := Lib.hid hh; have s1 := hh.fd.st.1; have t1 := hh.fd.st.2; unfold Storable at s1 t1; have z1 := hh.bel.size; clear hq hh)
    | (go_at_call 36; (with_reducible refine (fd_1_0_5_15 _).mono ?_); intro e w2 hq; obtain ⟨a2, b2, rfl, hh⟩ := hq.out; have H2 := Lib.hid hh; have s2 := hh.fd.st.1; have t2 := hh.fd.st.2; unfold Storable at s2 t2; have z2 := hh.bel.size; clear hq hh)
    | (go_at_call 36; (with_reducible refine (fd_2_0_5_20 _).mono ?_); intro e w3 hq; obtain ⟨a3, b3, rfl, hh⟩ := hq.out; have H3 := Lib.hid hh; have s3 := hh.fd.st.1; have t3 := hh.fd.st.2; unfold Storable at s3 t3; have z3 := hh.bel.size; clear hq hh))
  go_ret
  have hf : fdsV 82 = [⟨0, 0, 5, 7⟩, ⟨1, 0, 5, 15⟩, ⟨2, 0, 5, 20⟩] := rfl
  have C3 : Below w3.heap.size w3 ((((w3.alloc (.cells #[.int .i64 0, a1, b1] 68)).alloc (.cells #[.int .i64 1, a2, b2] 68)).alloc (.cells #[.int .i64 2, a3, b3] 68)).alloc (.cells #[.int .i64 0, a1, b1, .int .i64 1, a2, b2, .int .i64 2, a3, b3] 68)) := (((((Below.refl _ _).alloc (Nat.le_refl _) _).alloc (by simp) _).alloc (by simp <;> omega) _)).alloc (by simp <;> omega) _
  have C2 : Below w2.heap.size w2 ((((w3.alloc (.cells #[.int .i64 0, a1, b1] 68)).alloc (.cells #[.int .i64 1, a2, b2] 68)).alloc (.cells #[.int .i64 2, a3, b3] 68)).alloc (.cells #[.int .i64 0, a1, b1, .int .i64 1, a2, b2, .int .i64 2, a3, b3] 68)) := H3.out.bel.trans (C3.mono z3)
  have C1 : Below w1.heap.size w1 ((((w3.alloc (.cells #[.int .i64 0, a1, b1] 68)).alloc (.cells #[.int .i64 1, a2, b2] 68)).alloc (.cells #[.int .i64 2, a3, b3] 68)).alloc (.cells #[.int .i64 0, a1, b1, .int .i64 1, a2, b2, .int .i64 2, a3, b3] 68)) := H2.out.bel.trans (C2.mono z2)
  have C0 : Below w.heap.size w ((((w3.alloc (.cells #[.int .i64 0, a1, b1] 68)).alloc (.cells #[.int .i64 1, a2, b2] 68)).alloc (.cells #[.int .i64 2, a3, b3] 68)).alloc (.cells #[.int .i64 0, a1, b1, .int .i64 1, a2, b2, .int .i64 2, a3, b3] 68)) := H1.out.bel.trans (C1.mono z1)
  refine ⟨_, rfl, .inr ⟨w3.heap.size + 1 + 1 + 1, 3, rfl, Nat.le_refl _, ⟨by omega, by simp⟩, fun i hi => ?_⟩, C0⟩
  rw [hf] at hi ⊢
  rcases i with _ | _ | _ | i
  · exact ⟨a1, b1, (H1.out.fd.below C1 (Nat.le_refl _)).more C1.size (by first | omega | (show w.heap.size ≤ W.heap.size; omega)), by go_simp <;> rfl, by go_simp, by go_simp⟩
  · exact ⟨a2, b2, (H2.out.fd.below C2 (Nat.le_refl _)).more C2.size (by first | omega | (show w.heap.size ≤ W.heap.size; omega)), by go_simp <;> rfl, by go_simp, by go_simp⟩
  · exact ⟨a3, b3, (H3.out.fd.below C3 (Nat.le_refl _)).more C3.size (by first | omega | (show w.heap.size ≤ W.heap.size; omega)), by go_simp <;> rfl, by go_simp, by go_simp⟩
  · simp at hi; omega

set_option maxHeartbeats 4000000 in
theorem fields_I (w : World) : Calls Try.prog 24 #[.int .u8 73] w (FdsDone w (fdsV 73)) := by
  go_enter Try.func24, Try.ntmps24
  go_wp2_with (first
    | (go_at_call 36; (with_reducible refine (fd_0_0_5_7 _).mono ?_); intro e w1 hq; obtain ⟨a1, b1, rfl, hh⟩ := hq.out; have H1 := Lib.hid hh; have s1 := hh.fd.st.1; have t1 := hh.fd.st.2; unfold Storable at s1 t1; have z1 := hh.bel.size; clear hq hh)
    | (go_at_call 36; (with_reducible refine (fd_1_0_5_15 _).mono ?_); intro e w2 hq; obtain ⟨a2, b2, rfl, hh⟩ := hq.out; have H2 := Lib.hid hh; have s2 := hh.fd.st.1; have t2 := hh.fd.st.2; unfold Storable at s2 t2; have z2 := hh.bel.size; clear hq hh)
    | (go_at_call 36; (with_reducible refine (fd_2_0_5_20 _).mono ?_); intro e w3 hq; obtain ⟨a3, b3, rfl, hh⟩ := hq.out; have H3 := Lib.hid hh; have s3 := hh.fd.st.1; have t3 := hh.fd.st.2; unfold Storable at s3 t3; have z3 := hh.bel.size; clear hq hh))
  have hk3 : (((w3.alloc (.cells #[.int .i64 0, a1, b1] 68)).alloc (.cells #[.int .i64 1, a2, b2] 68)).alloc (.cells #[.int .i64 2, a3, b3] 68)).cell? ⟨w3.heap.size, 0, none⟩ = some (.int .i64 0) ∧ (((w3.alloc (.cells #[.int .i64 0, a1, b1] 68)).alloc (.cells #[.int .i64 1, a2, b2] 68)).alloc (.cells #[.int .i64 2, a3, b3] 68)).cell? ⟨w3.heap.size, 1, none⟩ = some (a1) ∧ (((w3.alloc (.cells #[.int .i64 0, a1, b1] 68)).alloc (.cells #[.int .i64 1, a2, b2] 68)).alloc (.cells #[.int .i64 2, a3, b3] 68)).cell? ⟨w3.heap.size, 2, none⟩ = some (b1) ∧ (((w3.alloc (.cells #[.int .i64 0, a1, b1] 68)).alloc (.cells #[.int .i64 1, a2, b2] 68)).alloc (.cells #[.int .i64 2, a3, b3] 68)).cell? ⟨w3.heap.size + 1, 0, none⟩ = some (.int .i64 1) ∧ (((w3.alloc (.cells #[.int .i64 0, a1, b1] 68)).alloc (.cells #[.int .i64 1, a2, b2] 68)).alloc (.cells #[.int .i64 2, a3, b3] 68)).cell? ⟨w3.heap.size + 1, 1, none⟩ = some (a2) ∧ (((w3.alloc (.cells #[.int .i64 0, a1, b1] 68)).alloc (.cells #[.int .i64 1, a2, b2] 68)).alloc (.cells #[.int .i64 2, a3, b3] 68)).cell? ⟨w3.heap.size + 1, 2, none⟩ = some (b2) := ⟨old_cell _ (old_cell _ (new_cell _ _ _ _ _ _ (by simp) rfl)), old_cell _ (old_cell _ (new_cell _ _ _ _ _ _ (by simp) rfl)), old_cell _ (old_cell _ (new_cell _ _ _ _ _ _ (by simp) rfl)), old_cell _ (new_cell _ _ _ _ _ _ (by simp) rfl), old_cell _ (new_cell _ _ _ _ _ _ (by simp) rfl), old_cell _ (new_cell _ _ _ _ _ _ (by simp) rfl)⟩
  have bW : Below w3.heap.size w3 (((w3.alloc (.cells #[.int .i64 0, a1, b1] 68)).alloc (.cells #[.int .i64 1, a2, b2] 68)).alloc (.cells #[.int .i64 2, a3, b3] 68)) := (((Below.refl _ _).alloc (Nat.le_refl _) _).alloc (by simp) _).alloc (by simp <;> omega) _
  have zW : w3.heap.size + 1 + 1 < (((w3.alloc (.cells #[.int .i64 0, a1, b1] 68)).alloc (.cells #[.int .i64 1, a2, b2] 68)).alloc (.cells #[.int .i64 2, a3, b3] 68)).heap.size := by simp
  generalize ((w3.alloc (.cells #[.int .i64 0, a1, b1] 68)).alloc (.cells #[.int .i64 1, a2, b2] 68)).alloc (.cells #[.int .i64 2, a3, b3] 68) = W at hk3 bW zW ⊢
  have HK3 := Lib.hid hk3
  go_region_held3 (fun w' => w'.cell? ⟨w3.heap.size, 0, none⟩ = some (.int .i64 0) ∧ w'.cell? ⟨w3.heap.size, 1, none⟩ = some (a1) ∧ w'.cell? ⟨w3.heap.size, 2, none⟩ = some (b1) ∧ w'.cell? ⟨w3.heap.size + 1, 0, none⟩ = some (.int .i64 1) ∧ w'.cell? ⟨w3.heap.size + 1, 1, none⟩ = some (a2) ∧ w'.cell? ⟨w3.heap.size + 1, 2, none⟩ = some (b2)) (first | go_keep | exact HK4.out | exact HK3.out)
    (first
      | (go_at_call 37; (with_reducible refine (fd_3_0_0_20 _).mono ?_); intro e w4 hq; obtain ⟨a4, b4, rfl, hh⟩ := hq.out; have H4 := Lib.hid hh; have z4 : W.heap.size ≤ w4.heap.size := hh.bel.size; have HK4 := Lib.hid (⟨(hh.bel.cell (p := ⟨w3.heap.size, 0, none⟩) (show w3.heap.size < W.heap.size by omega)).trans HK3.out.1, (hh.bel.cell (p := ⟨w3.heap.size, 1, none⟩) (show w3.heap.size < W.heap.size by omega)).trans HK3.out.2.1, (hh.bel.cell (p := ⟨w3.heap.size, 2, none⟩) (show w3.heap.size < W.heap.size by omega)).trans HK3.out.2.2.1, (hh.bel.cell (p := ⟨w3.heap.size + 1, 0, none⟩) (show w3.heap.size + 1 < W.heap.size by omega)).trans HK3.out.2.2.2.1, (hh.bel.cell (p := ⟨w3.heap.size + 1, 1, none⟩) (show w3.heap.size + 1 < W.heap.size by omega)).trans HK3.out.2.2.2.2.1, (hh.bel.cell (p := ⟨w3.heap.size + 1, 2, none⟩) (show w3.heap.size + 1 < W.heap.size by omega)).trans HK3.out.2.2.2.2.2⟩ : w4.cell? ⟨w3.heap.size, 0, none⟩ = some (.int .i64 0) ∧ w4.cell? ⟨w3.heap.size, 1, none⟩ = some (a1) ∧ w4.cell? ⟨w3.heap.size, 2, none⟩ = some (b1) ∧ w4.cell? ⟨w3.heap.size + 1, 0, none⟩ = some (.int .i64 1) ∧ w4.cell? ⟨w3.heap.size + 1, 1, none⟩ = some (a2) ∧ w4.cell? ⟨w3.heap.size + 1, 2, none⟩ = some (b2)); clear hq hh))
  go_wp2
  go_ret
  have hf : fdsV 73 = [⟨0, 0, 5, 7⟩, ⟨1, 0, 5, 15⟩, ⟨3, 0, 0, 20⟩] := rfl
  have C4 : Below w4.heap.size w4 (w4.alloc (.cells #[.int .i64 0, a1, b1, .int .i64 1, a2, b2, .int .i64 3, a4, b4] 68)) := (Below.refl _ _).alloc (Nat.le_refl _) _
  have C3 : Below w3.heap.size w3 (w4.alloc (.cells #[.int .i64 0, a1, b1, .int .i64 1, a2, b2, .int .i64 3, a4, b4] 68)) := bW.trans ((below_of_drew (H4.out.bel.trans (C4.mono z4))).mono (show _ ≤ W.heap.size by omega))
  have C2 : Below w2.heap.size w2 (w4.alloc (.cells #[.int .i64 0, a1, b1, .int .i64 1, a2, b2, .int .i64 3, a4, b4] 68)) := H3.out.bel.trans (C3.mono z3)
  have C1 : Below w1.heap.size w1 (w4.alloc (.cells #[.int .i64 0, a1, b1, .int .i64 1, a2, b2, .int .i64 3, a4, b4] 68)) := H2.out.bel.trans (C2.mono z2)
  have C0 : Below w.heap.size w (w4.alloc (.cells #[.int .i64 0, a1, b1, .int .i64 1, a2, b2, .int .i64 3, a4, b4] 68)) := H1.out.bel.trans (C1.mono z1)
  refine ⟨_, rfl, .inr ⟨w4.heap.size, 3, rfl, Nat.le_refl _, ⟨by omega, by simp⟩, fun i hi => ?_⟩, C0⟩
  rw [hf] at hi ⊢
  rcases i with _ | _ | _ | i
  · exact ⟨a1, b1, (H1.out.fd.below C1 (Nat.le_refl _)).more C1.size (by first | omega | (show w.heap.size ≤ W.heap.size; omega)), by go_simp <;> rfl, by go_simp, by go_simp⟩
  · exact ⟨a2, b2, (H2.out.fd.below C2 (Nat.le_refl _)).more C2.size (by first | omega | (show w.heap.size ≤ W.heap.size; omega)), by go_simp <;> rfl, by go_simp, by go_simp⟩
  · exact ⟨a4, b4, (H4.out.fd.below C4 (Nat.le_refl _)).more C4.size (by first | omega | (show w.heap.size ≤ W.heap.size; omega)), by go_simp <;> rfl, by go_simp, by go_simp⟩
  · simp at hi; omega

set_option maxHeartbeats 4000000 in
theorem fields_X (w : World) : Calls Try.prog 24 #[.int .u8 88] w (FdsDone w (fdsV 88)) := by
  go_enter Try.func24, Try.ntmps24
  go_wp2_with (first
    | (go_at_call 36; (with_reducible refine (fd_0_0_5_7 _).mono ?_); intro e w1 hq; obtain ⟨a1, b1, rfl, hh⟩ := hq.out; have H1 := Lib.hid hh; have s1 := hh.fd.st.1; have t1 := hh.fd.st.2; unfold Storable at s1 t1; have z1 := hh.bel.size; clear hq hh)
    | (go_at_call 36; (with_reducible refine (fd_1_0_5_15 _).mono ?_); intro e w2 hq; obtain ⟨a2, b2, rfl, hh⟩ := hq.out; have H2 := Lib.hid hh; have s2 := hh.fd.st.1; have t2 := hh.fd.st.2; unfold Storable at s2 t2; have z2 := hh.bel.size; clear hq hh)
    | (go_at_call 36; (with_reducible refine (fd_2_0_5_20 _).mono ?_); intro e w3 hq; obtain ⟨a3, b3, rfl, hh⟩ := hq.out; have H3 := Lib.hid hh; have s3 := hh.fd.st.1; have t3 := hh.fd.st.2; unfold Storable at s3 t3; have z3 := hh.bel.size; clear hq hh))
  have hk3 : (((w3.alloc (.cells #[.int .i64 0, a1, b1] 68)).alloc (.cells #[.int .i64 1, a2, b2] 68)).alloc (.cells #[.int .i64 2, a3, b3] 68)).cell? ⟨w3.heap.size, 0, none⟩ = some (.int .i64 0) ∧ (((w3.alloc (.cells #[.int .i64 0, a1, b1] 68)).alloc (.cells #[.int .i64 1, a2, b2] 68)).alloc (.cells #[.int .i64 2, a3, b3] 68)).cell? ⟨w3.heap.size, 1, none⟩ = some (a1) ∧ (((w3.alloc (.cells #[.int .i64 0, a1, b1] 68)).alloc (.cells #[.int .i64 1, a2, b2] 68)).alloc (.cells #[.int .i64 2, a3, b3] 68)).cell? ⟨w3.heap.size, 2, none⟩ = some (b1) ∧ (((w3.alloc (.cells #[.int .i64 0, a1, b1] 68)).alloc (.cells #[.int .i64 1, a2, b2] 68)).alloc (.cells #[.int .i64 2, a3, b3] 68)).cell? ⟨w3.heap.size + 1, 0, none⟩ = some (.int .i64 1) ∧ (((w3.alloc (.cells #[.int .i64 0, a1, b1] 68)).alloc (.cells #[.int .i64 1, a2, b2] 68)).alloc (.cells #[.int .i64 2, a3, b3] 68)).cell? ⟨w3.heap.size + 1, 1, none⟩ = some (a2) ∧ (((w3.alloc (.cells #[.int .i64 0, a1, b1] 68)).alloc (.cells #[.int .i64 1, a2, b2] 68)).alloc (.cells #[.int .i64 2, a3, b3] 68)).cell? ⟨w3.heap.size + 1, 2, none⟩ = some (b2) := ⟨old_cell _ (old_cell _ (new_cell _ _ _ _ _ _ (by simp) rfl)), old_cell _ (old_cell _ (new_cell _ _ _ _ _ _ (by simp) rfl)), old_cell _ (old_cell _ (new_cell _ _ _ _ _ _ (by simp) rfl)), old_cell _ (new_cell _ _ _ _ _ _ (by simp) rfl), old_cell _ (new_cell _ _ _ _ _ _ (by simp) rfl), old_cell _ (new_cell _ _ _ _ _ _ (by simp) rfl)⟩
  have bW : Below w3.heap.size w3 (((w3.alloc (.cells #[.int .i64 0, a1, b1] 68)).alloc (.cells #[.int .i64 1, a2, b2] 68)).alloc (.cells #[.int .i64 2, a3, b3] 68)) := (((Below.refl _ _).alloc (Nat.le_refl _) _).alloc (by simp) _).alloc (by simp <;> omega) _
  have zW : w3.heap.size + 1 + 1 < (((w3.alloc (.cells #[.int .i64 0, a1, b1] 68)).alloc (.cells #[.int .i64 1, a2, b2] 68)).alloc (.cells #[.int .i64 2, a3, b3] 68)).heap.size := by simp
  generalize ((w3.alloc (.cells #[.int .i64 0, a1, b1] 68)).alloc (.cells #[.int .i64 1, a2, b2] 68)).alloc (.cells #[.int .i64 2, a3, b3] 68) = W at hk3 bW zW ⊢
  have HK3 := Lib.hid hk3
  go_region_held3 (fun w' => w'.cell? ⟨w3.heap.size, 0, none⟩ = some (.int .i64 0) ∧ w'.cell? ⟨w3.heap.size, 1, none⟩ = some (a1) ∧ w'.cell? ⟨w3.heap.size, 2, none⟩ = some (b1) ∧ w'.cell? ⟨w3.heap.size + 1, 0, none⟩ = some (.int .i64 1) ∧ w'.cell? ⟨w3.heap.size + 1, 1, none⟩ = some (a2) ∧ w'.cell? ⟨w3.heap.size + 1, 2, none⟩ = some (b2)) (first | go_keep | exact HK4.out | exact HK3.out)
    (first
      | (go_at_call 36; (with_reducible refine (fd_3_0_6_20 _).mono ?_); intro e w4 hq; obtain ⟨a4, b4, rfl, hh⟩ := hq.out; have H4 := Lib.hid hh; have z4 : W.heap.size ≤ w4.heap.size := hh.bel.size; have HK4 := Lib.hid (⟨(hh.bel.cell (p := ⟨w3.heap.size, 0, none⟩) (show w3.heap.size < W.heap.size by omega)).trans HK3.out.1, (hh.bel.cell (p := ⟨w3.heap.size, 1, none⟩) (show w3.heap.size < W.heap.size by omega)).trans HK3.out.2.1, (hh.bel.cell (p := ⟨w3.heap.size, 2, none⟩) (show w3.heap.size < W.heap.size by omega)).trans HK3.out.2.2.1, (hh.bel.cell (p := ⟨w3.heap.size + 1, 0, none⟩) (show w3.heap.size + 1 < W.heap.size by omega)).trans HK3.out.2.2.2.1, (hh.bel.cell (p := ⟨w3.heap.size + 1, 1, none⟩) (show w3.heap.size + 1 < W.heap.size by omega)).trans HK3.out.2.2.2.2.1, (hh.bel.cell (p := ⟨w3.heap.size + 1, 2, none⟩) (show w3.heap.size + 1 < W.heap.size by omega)).trans HK3.out.2.2.2.2.2⟩ : w4.cell? ⟨w3.heap.size, 0, none⟩ = some (.int .i64 0) ∧ w4.cell? ⟨w3.heap.size, 1, none⟩ = some (a1) ∧ w4.cell? ⟨w3.heap.size, 2, none⟩ = some (b1) ∧ w4.cell? ⟨w3.heap.size + 1, 0, none⟩ = some (.int .i64 1) ∧ w4.cell? ⟨w3.heap.size + 1, 1, none⟩ = some (a2) ∧ w4.cell? ⟨w3.heap.size + 1, 2, none⟩ = some (b2)); clear hq hh))
  go_wp2
  go_ret
  have hf : fdsV 88 = [⟨0, 0, 5, 7⟩, ⟨1, 0, 5, 15⟩, ⟨3, 0, 6, 20⟩] := rfl
  have C4 : Below w4.heap.size w4 (w4.alloc (.cells #[.int .i64 0, a1, b1, .int .i64 1, a2, b2, .int .i64 3, a4, b4] 68)) := (Below.refl _ _).alloc (Nat.le_refl _) _
  have C3 : Below w3.heap.size w3 (w4.alloc (.cells #[.int .i64 0, a1, b1, .int .i64 1, a2, b2, .int .i64 3, a4, b4] 68)) := bW.trans ((below_of_drew (H4.out.bel.trans (C4.mono z4))).mono (show _ ≤ W.heap.size by omega))
  have C2 : Below w2.heap.size w2 (w4.alloc (.cells #[.int .i64 0, a1, b1, .int .i64 1, a2, b2, .int .i64 3, a4, b4] 68)) := H3.out.bel.trans (C3.mono z3)
  have C1 : Below w1.heap.size w1 (w4.alloc (.cells #[.int .i64 0, a1, b1, .int .i64 1, a2, b2, .int .i64 3, a4, b4] 68)) := H2.out.bel.trans (C2.mono z2)
  have C0 : Below w.heap.size w (w4.alloc (.cells #[.int .i64 0, a1, b1, .int .i64 1, a2, b2, .int .i64 3, a4, b4] 68)) := H1.out.bel.trans (C1.mono z1)
  refine ⟨_, rfl, .inr ⟨w4.heap.size, 3, rfl, Nat.le_refl _, ⟨by omega, by simp⟩, fun i hi => ?_⟩, C0⟩
  rw [hf] at hi ⊢
  rcases i with _ | _ | _ | i
  · exact ⟨a1, b1, (H1.out.fd.below C1 (Nat.le_refl _)).more C1.size (by first | omega | (show w.heap.size ≤ W.heap.size; omega)), by go_simp <;> rfl, by go_simp, by go_simp⟩
  · exact ⟨a2, b2, (H2.out.fd.below C2 (Nat.le_refl _)).more C2.size (by first | omega | (show w.heap.size ≤ W.heap.size; omega)), by go_simp <;> rfl, by go_simp, by go_simp⟩
  · exact ⟨a4, b4, (H4.out.fd.below C4 (Nat.le_refl _)).more C4.size (by first | omega | (show w.heap.size ≤ W.heap.size; omega)), by go_simp <;> rfl, by go_simp, by go_simp⟩
  · simp at hi; omega

set_option maxHeartbeats 4000000 in
theorem fields_Y (w : World) : Calls Try.prog 24 #[.int .u8 89] w (FdsDone w (fdsV 89)) := by
  go_enter Try.func24, Try.ntmps24
  go_wp2_with (first
    | (go_at_call 36; (with_reducible refine (fd_0_0_5_7 _).mono ?_); intro e w1 hq; obtain ⟨a1, b1, rfl, hh⟩ := hq.out; have H1 := Lib.hid hh; have s1 := hh.fd.st.1; have t1 := hh.fd.st.2; unfold Storable at s1 t1; have z1 := hh.bel.size; clear hq hh)
    | (go_at_call 36; (with_reducible refine (fd_1_0_5_15 _).mono ?_); intro e w2 hq; obtain ⟨a2, b2, rfl, hh⟩ := hq.out; have H2 := Lib.hid hh; have s2 := hh.fd.st.1; have t2 := hh.fd.st.2; unfold Storable at s2 t2; have z2 := hh.bel.size; clear hq hh)
    | (go_at_call 36; (with_reducible refine (fd_2_0_5_20 _).mono ?_); intro e w3 hq; obtain ⟨a3, b3, rfl, hh⟩ := hq.out; have H3 := Lib.hid hh; have s3 := hh.fd.st.1; have t3 := hh.fd.st.2; unfold Storable at s3 t3; have z3 := hh.bel.size; clear hq hh))
  have hk3 : (((w3.alloc (.cells #[.int .i64 0, a1, b1] 68)).alloc (.cells #[.int .i64 1, a2, b2] 68)).alloc (.cells #[.int .i64 2, a3, b3] 68)).cell? ⟨w3.heap.size, 0, none⟩ = some (.int .i64 0) ∧ (((w3.alloc (.cells #[.int .i64 0, a1, b1] 68)).alloc (.cells #[.int .i64 1, a2, b2] 68)).alloc (.cells #[.int .i64 2, a3, b3] 68)).cell? ⟨w3.heap.size, 1, none⟩ = some (a1) ∧ (((w3.alloc (.cells #[.int .i64 0, a1, b1] 68)).alloc (.cells #[.int .i64 1, a2, b2] 68)).alloc (.cells #[.int .i64 2, a3, b3] 68)).cell? ⟨w3.heap.size, 2, none⟩ = some (b1) ∧ (((w3.alloc (.cells #[.int .i64 0, a1, b1] 68)).alloc (.cells #[.int .i64 1, a2, b2] 68)).alloc (.cells #[.int .i64 2, a3, b3] 68)).cell? ⟨w3.heap.size + 1, 0, none⟩ = some (.int .i64 1) ∧ (((w3.alloc (.cells #[.int .i64 0, a1, b1] 68)).alloc (.cells #[.int .i64 1, a2, b2] 68)).alloc (.cells #[.int .i64 2, a3, b3] 68)).cell? ⟨w3.heap.size + 1, 1, none⟩ = some (a2) ∧ (((w3.alloc (.cells #[.int .i64 0, a1, b1] 68)).alloc (.cells #[.int .i64 1, a2, b2] 68)).alloc (.cells #[.int .i64 2, a3, b3] 68)).cell? ⟨w3.heap.size + 1, 2, none⟩ = some (b2) := ⟨old_cell _ (old_cell _ (new_cell _ _ _ _ _ _ (by simp) rfl)), old_cell _ (old_cell _ (new_cell _ _ _ _ _ _ (by simp) rfl)), old_cell _ (old_cell _ (new_cell _ _ _ _ _ _ (by simp) rfl)), old_cell _ (new_cell _ _ _ _ _ _ (by simp) rfl), old_cell _ (new_cell _ _ _ _ _ _ (by simp) rfl), old_cell _ (new_cell _ _ _ _ _ _ (by simp) rfl)⟩
  have bW : Below w3.heap.size w3 (((w3.alloc (.cells #[.int .i64 0, a1, b1] 68)).alloc (.cells #[.int .i64 1, a2, b2] 68)).alloc (.cells #[.int .i64 2, a3, b3] 68)) := (((Below.refl _ _).alloc (Nat.le_refl _) _).alloc (by simp) _).alloc (by simp <;> omega) _
  have zW : w3.heap.size + 1 + 1 < (((w3.alloc (.cells #[.int .i64 0, a1, b1] 68)).alloc (.cells #[.int .i64 1, a2, b2] 68)).alloc (.cells #[.int .i64 2, a3, b3] 68)).heap.size := by simp
  generalize ((w3.alloc (.cells #[.int .i64 0, a1, b1] 68)).alloc (.cells #[.int .i64 1, a2, b2] 68)).alloc (.cells #[.int .i64 2, a3, b3] 68) = W at hk3 bW zW ⊢
  have HK3 := Lib.hid hk3
  go_region_held3 (fun w' => w'.cell? ⟨w3.heap.size, 0, none⟩ = some (.int .i64 0) ∧ w'.cell? ⟨w3.heap.size, 1, none⟩ = some (a1) ∧ w'.cell? ⟨w3.heap.size, 2, none⟩ = some (b1) ∧ w'.cell? ⟨w3.heap.size + 1, 0, none⟩ = some (.int .i64 1) ∧ w'.cell? ⟨w3.heap.size + 1, 1, none⟩ = some (a2) ∧ w'.cell? ⟨w3.heap.size + 1, 2, none⟩ = some (b2)) (first | go_keep | exact HK4.out | exact HK3.out)
    (first
      | (go_at_call 36; (with_reducible refine (fd_3_0_5_20 _).mono ?_); intro e w4 hq; obtain ⟨a4, b4, rfl, hh⟩ := hq.out; have H4 := Lib.hid hh; have z4 : W.heap.size ≤ w4.heap.size := hh.bel.size; have HK4 := Lib.hid (⟨(hh.bel.cell (p := ⟨w3.heap.size, 0, none⟩) (show w3.heap.size < W.heap.size by omega)).trans HK3.out.1, (hh.bel.cell (p := ⟨w3.heap.size, 1, none⟩) (show w3.heap.size < W.heap.size by omega)).trans HK3.out.2.1, (hh.bel.cell (p := ⟨w3.heap.size, 2, none⟩) (show w3.heap.size < W.heap.size by omega)).trans HK3.out.2.2.1, (hh.bel.cell (p := ⟨w3.heap.size + 1, 0, none⟩) (show w3.heap.size + 1 < W.heap.size by omega)).trans HK3.out.2.2.2.1, (hh.bel.cell (p := ⟨w3.heap.size + 1, 1, none⟩) (show w3.heap.size + 1 < W.heap.size by omega)).trans HK3.out.2.2.2.2.1, (hh.bel.cell (p := ⟨w3.heap.size + 1, 2, none⟩) (show w3.heap.size + 1 < W.heap.size by omega)).trans HK3.out.2.2.2.2.2⟩ : w4.cell? ⟨w3.heap.size, 0, none⟩ = some (.int .i64 0) ∧ w4.cell? ⟨w3.heap.size, 1, none⟩ = some (a1) ∧ w4.cell? ⟨w3.heap.size, 2, none⟩ = some (b1) ∧ w4.cell? ⟨w3.heap.size + 1, 0, none⟩ = some (.int .i64 1) ∧ w4.cell? ⟨w3.heap.size + 1, 1, none⟩ = some (a2) ∧ w4.cell? ⟨w3.heap.size + 1, 2, none⟩ = some (b2)); clear hq hh))
  go_wp2
  go_ret
  have hf : fdsV 89 = [⟨0, 0, 5, 7⟩, ⟨1, 0, 5, 15⟩, ⟨3, 0, 5, 20⟩] := rfl
  have C4 : Below w4.heap.size w4 (w4.alloc (.cells #[.int .i64 0, a1, b1, .int .i64 1, a2, b2, .int .i64 3, a4, b4] 68)) := (Below.refl _ _).alloc (Nat.le_refl _) _
  have C3 : Below w3.heap.size w3 (w4.alloc (.cells #[.int .i64 0, a1, b1, .int .i64 1, a2, b2, .int .i64 3, a4, b4] 68)) := bW.trans ((below_of_drew (H4.out.bel.trans (C4.mono z4))).mono (show _ ≤ W.heap.size by omega))
  have C2 : Below w2.heap.size w2 (w4.alloc (.cells #[.int .i64 0, a1, b1, .int .i64 1, a2, b2, .int .i64 3, a4, b4] 68)) := H3.out.bel.trans (C3.mono z3)
  have C1 : Below w1.heap.size w1 (w4.alloc (.cells #[.int .i64 0, a1, b1, .int .i64 1, a2, b2, .int .i64 3, a4, b4] 68)) := H2.out.bel.trans (C2.mono z2)
  have C0 : Below w.heap.size w (w4.alloc (.cells #[.int .i64 0, a1, b1, .int .i64 1, a2, b2, .int .i64 3, a4, b4] 68)) := H1.out.bel.trans (C1.mono z1)
  refine ⟨_, rfl, .inr ⟨w4.heap.size, 3, rfl, Nat.le_refl _, ⟨by omega, by simp⟩, fun i hi => ?_⟩, C0⟩
  rw [hf] at hi ⊢
  rcases i with _ | _ | _ | i
  · exact ⟨a1, b1, (H1.out.fd.below C1 (Nat.le_refl _)).more C1.size (by first | omega | (show w.heap.size ≤ W.heap.size; omega)), by go_simp <;> rfl, by go_simp, by go_simp⟩
  · exact ⟨a2, b2, (H2.out.fd.below C2 (Nat.le_refl _)).more C2.size (by first | omega | (show w.heap.size ≤ W.heap.size; omega)), by go_simp <;> rfl, by go_simp, by go_simp⟩
  · exact ⟨a4, b4, (H4.out.fd.below C4 (Nat.le_refl _)).more C4.size (by first | omega | (show w.heap.size ≤ W.heap.size; omega)), by go_simp <;> rfl, by go_simp, by go_simp⟩
  · simp at hi; omega

set_option maxHeartbeats 4000000 in
theorem fields_S (w : World) : Calls Try.prog 24 #[.int .u8 83] w (FdsDone w (fdsV 83)) := by
  go_enter Try.func24, Try.ntmps24
  go_wp2_with (first
    | (go_at_call 36; (with_reducible refine (fd_0_0_5_7 _).mono ?_); intro e w1 hq; obtain ⟨a1, b1, rfl, hh⟩ := hq.out; have H1 := Lib.hid hh; have s1 := hh.fd.st.1; have t1 := hh.fd.st.2; unfold Storable at s1 t1; have z1 := hh.bel.size; clear hq hh)
    | (go_at_call 36; (with_reducible refine (fd_1_0_5_15 _).mono ?_); intro e w2 hq; obtain ⟨a2, b2, rfl, hh⟩ := hq.out; have H2 := Lib.hid hh; have s2 := hh.fd.st.1; have t2 := hh.fd.st.2; unfold Storable at s2 t2; have z2 := hh.bel.size; clear hq hh)
    | (go_at_call 36; (with_reducible refine (fd_2_0_5_20 _).mono ?_); intro e w3 hq; obtain ⟨a3, b3, rfl, hh⟩ := hq.out; have H3 := Lib.hid hh; have s3 := hh.fd.st.1; have t3 := hh.fd.st.2; unfold Storable at s3 t3; have z3 := hh.bel.size; clear hq hh))
  have hk3 : (((w3.alloc (.cells #[.int .i64 0, a1, b1] 68)).alloc (.cells #[.int .i64 1, a2, b2] 68)).alloc (.cells #[.int .i64 2, a3, b3] 68)).cell? ⟨w3.heap.size + 1, 0, none⟩ = some (.int .i64 1) ∧ (((w3.alloc (.cells #[.int .i64 0, a1, b1] 68)).alloc (.cells #[.int .i64 1, a2, b2] 68)).alloc (.cells #[.int .i64 2, a3, b3] 68)).cell? ⟨w3.heap.size + 1, 1, none⟩ = some (a2) ∧ (((w3.alloc (.cells #[.int .i64 0, a1, b1] 68)).alloc (.cells #[.int .i64 1, a2, b2] 68)).alloc (.cells #[.int .i64 2, a3, b3] 68)).cell? ⟨w3.heap.size + 1, 2, none⟩ = some (b2) ∧ (((w3.alloc (.cells #[.int .i64 0, a1, b1] 68)).alloc (.cells #[.int .i64 1, a2, b2] 68)).alloc (.cells #[.int .i64 2, a3, b3] 68)).cell? ⟨w3.heap.size + 1 + 1, 0, none⟩ = some (.int .i64 2) ∧ (((w3.alloc (.cells #[.int .i64 0, a1, b1] 68)).alloc (.cells #[.int .i64 1, a2, b2] 68)).alloc (.cells #[.int .i64 2, a3, b3] 68)).cell? ⟨w3.heap.size + 1 + 1, 1, none⟩ = some (a3) ∧ (((w3.alloc (.cells #[.int .i64 0, a1, b1] 68)).alloc (.cells #[.int .i64 1, a2, b2] 68)).alloc (.cells #[.int .i64 2, a3, b3] 68)).cell? ⟨w3.heap.size + 1 + 1, 2, none⟩ = some (b3) := ⟨old_cell _ (new_cell _ _ _ _ _ _ (by simp) rfl), old_cell _ (new_cell _ _ _ _ _ _ (by simp) rfl), old_cell _ (new_cell _ _ _ _ _ _ (by simp) rfl), (new_cell _ _ _ _ _ _ (by simp) rfl), (new_cell _ _ _ _ _ _ (by simp) rfl), (new_cell _ _ _ _ _ _ (by simp) rfl)⟩
  have bW : Below w3.heap.size w3 (((w3.alloc (.cells #[.int .i64 0, a1, b1] 68)).alloc (.cells #[.int .i64 1, a2, b2] 68)).alloc (.cells #[.int .i64 2, a3, b3] 68)) := (((Below.refl _ _).alloc (Nat.le_refl _) _).alloc (by simp) _).alloc (by simp <;> omega) _
  have zW : w3.heap.size + 1 + 1 < (((w3.alloc (.cells #[.int .i64 0, a1, b1] 68)).alloc (.cells #[.int .i64 1, a2, b2] 68)).alloc (.cells #[.int .i64 2, a3, b3] 68)).heap.size := by simp
  generalize ((w3.alloc (.cells #[.int .i64 0, a1, b1] 68)).alloc (.cells #[.int .i64 1, a2, b2] 68)).alloc (.cells #[.int .i64 2, a3, b3] 68) = W at hk3 bW zW ⊢
  have HK3 := Lib.hid hk3
  go_region_held3 (fun w' => w'.cell? ⟨w3.heap.size + 1, 0, none⟩ = some (.int .i64 1) ∧ w'.cell? ⟨w3.heap.size + 1, 1, none⟩ = some (a2) ∧ w'.cell? ⟨w3.heap.size + 1, 2, none⟩ = some (b2) ∧ w'.cell? ⟨w3.heap.size + 1 + 1, 0, none⟩ = some (.int .i64 2) ∧ w'.cell? ⟨w3.heap.size + 1 + 1, 1, none⟩ = some (a3) ∧ w'.cell? ⟨w3.heap.size + 1 + 1, 2, none⟩ = some (b3)) (first | go_keep | exact HK5.out | exact HK4.out | exact HK3.out)
    (first
      | (go_at_call 36; (with_reducible refine (fd_3_0_5_7 _).mono ?_); intro e w4 hq; obtain ⟨a4, b4, rfl, hh⟩ := hq.out; have H4 := Lib.hid hh; have z4 : W.heap.size ≤ w4.heap.size := hh.bel.size; have HK4 := Lib.hid (⟨(hh.bel.cell (p := ⟨w3.heap.size + 1, 0, none⟩) (show w3.heap.size + 1 < W.heap.size by omega)).trans HK3.out.1, (hh.bel.cell (p := ⟨w3.heap.size + 1, 1, none⟩) (show w3.heap.size + 1 < W.heap.size by omega)).trans HK3.out.2.1, (hh.bel.cell (p := ⟨w3.heap.size + 1, 2, none⟩) (show w3.heap.size + 1 < W.heap.size by omega)).trans HK3.out.2.2.1, (hh.bel.cell (p := ⟨w3.heap.size + 1 + 1, 0, none⟩) (show w3.heap.size + 1 + 1 < W.heap.size by omega)).trans HK3.out.2.2.2.1, (hh.bel.cell (p := ⟨w3.heap.size + 1 + 1, 1, none⟩) (show w3.heap.size + 1 + 1 < W.heap.size by omega)).trans HK3.out.2.2.2.2.1, (hh.bel.cell (p := ⟨w3.heap.size + 1 + 1, 2, none⟩) (show w3.heap.size + 1 + 1 < W.heap.size by omega)).trans HK3.out.2.2.2.2.2⟩ : w4.cell? ⟨w3.heap.size + 1, 0, none⟩ = some (.int .i64 1) ∧ w4.cell? ⟨w3.heap.size + 1, 1, none⟩ = some (a2) ∧ w4.cell? ⟨w3.heap.size + 1, 2, none⟩ = some (b2) ∧ w4.cell? ⟨w3.heap.size + 1 + 1, 0, none⟩ = some (.int .i64 2) ∧ w4.cell? ⟨w3.heap.size + 1 + 1, 1, none⟩ = some (a3) ∧ w4.cell? ⟨w3.heap.size + 1 + 1, 2, none⟩ = some (b3)); clear hq hh)
      | (go_at_call 37; (with_reducible refine (fd_3_5_0_25 _).mono ?_); intro e w5 hq; obtain ⟨a5, b5, rfl, hh⟩ := hq.out; have H5 := Lib.hid hh; have z5 : w4.heap.size ≤ w5.heap.size := hh.bel.size; have HK5 := Lib.hid (⟨(hh.bel.cell (p := ⟨w3.heap.size + 1, 0, none⟩) (show w3.heap.size + 1 < w4.heap.size by omega)).trans HK4.out.1, (hh.bel.cell (p := ⟨w3.heap.size + 1, 1, none⟩) (show w3.heap.size + 1 < w4.heap.size by omega)).trans HK4.out.2.1, (hh.bel.cell (p := ⟨w3.heap.size + 1, 2, none⟩) (show w3.heap.size + 1 < w4.heap.size by omega)).trans HK4.out.2.2.1, (hh.bel.cell (p := ⟨w3.heap.size + 1 + 1, 0, none⟩) (show w3.heap.size + 1 + 1 < w4.heap.size by omega)).trans HK4.out.2.2.2.1, (hh.bel.cell (p := ⟨w3.heap.size + 1 + 1, 1, none⟩) (show w3.heap.size + 1 + 1 < w4.heap.size by omega)).trans HK4.out.2.2.2.2.1, (hh.bel.cell (p := ⟨w3.heap.size + 1 + 1, 2, none⟩) (show w3.heap.size + 1 + 1 < w4.heap.size by omega)).trans HK4.out.2.2.2.2.2⟩ : w5.cell? ⟨w3.heap.size + 1, 0, none⟩ = some (.int .i64 1) ∧ w5.cell? ⟨w3.heap.size + 1, 1, none⟩ = some (a2) ∧ w5.cell? ⟨w3.heap.size + 1, 2, none⟩ = some (b2) ∧ w5.cell? ⟨w3.heap.size + 1 + 1, 0, none⟩ = some (.int .i64 2) ∧ w5.cell? ⟨w3.heap.size + 1 + 1, 1, none⟩ = some (a3) ∧ w5.cell? ⟨w3.heap.size + 1 + 1, 2, none⟩ = some (b3)); clear hq hh))
  go_wp2
  go_ret
  have hf : fdsV 83 = [⟨3, 0, 5, 7⟩, ⟨1, 0, 5, 15⟩, ⟨2, 0, 5, 20⟩, ⟨3, 5, 0, 25⟩] := rfl
  have C5 : Below w5.heap.size w5 (w5.alloc (.cells #[.int .i64 3, a4, b4, .int .i64 1, a2, b2, .int .i64 2, a3, b3, .int .i64 3, a5, b5] 68)) := (Below.refl _ _).alloc (Nat.le_refl _) _
  have C4 : Below w4.heap.size w4 (w5.alloc (.cells #[.int .i64 3, a4, b4, .int .i64 1, a2, b2, .int .i64 2, a3, b3, .int .i64 3, a5, b5] 68)) := H5.out.bel.trans (C5.mono z5)
  have C3 : Below w3.heap.size w3 (w5.alloc (.cells #[.int .i64 3, a4, b4, .int .i64 1, a2, b2, .int .i64 2, a3, b3, .int .i64 3, a5, b5] 68)) := bW.trans ((below_of_drew (H4.out.bel.trans (C4.mono z4))).mono (show _ ≤ W.heap.size by omega))
  have C2 : Below w2.heap.size w2 (w5.alloc (.cells #[.int .i64 3, a4, b4, .int .i64 1, a2, b2, .int .i64 2, a3, b3, .int .i64 3, a5, b5] 68)) := H3.out.bel.trans (C3.mono z3)
  have C1 : Below w1.heap.size w1 (w5.alloc (.cells #[.int .i64 3, a4, b4, .int .i64 1, a2, b2, .int .i64 2, a3, b3, .int .i64 3, a5, b5] 68)) := H2.out.bel.trans (C2.mono z2)
  have C0 : Below w.heap.size w (w5.alloc (.cells #[.int .i64 3, a4, b4, .int .i64 1, a2, b2, .int .i64 2, a3, b3, .int .i64 3, a5, b5] 68)) := H1.out.bel.trans (C1.mono z1)
  refine ⟨_, rfl, .inr ⟨w5.heap.size, 4, rfl, Nat.le_refl _, ⟨by omega, by simp⟩, fun i hi => ?_⟩, C0⟩
  rw [hf] at hi ⊢
  rcases i with _ | _ | _ | _ | i
  · exact ⟨a4, b4, (H4.out.fd.below C4 (Nat.le_refl _)).more C4.size (by first | omega | (show w.heap.size ≤ W.heap.size; omega)), by go_simp <;> rfl, by go_simp, by go_simp⟩
  · exact ⟨a2, b2, (H2.out.fd.below C2 (Nat.le_refl _)).more C2.size (by first | omega | (show w.heap.size ≤ W.heap.size; omega)), by go_simp <;> rfl, by go_simp, by go_simp⟩
  · exact ⟨a3, b3, (H3.out.fd.below C3 (Nat.le_refl _)).more C3.size (by first | omega | (show w.heap.size ≤ W.heap.size; omega)), by go_simp <;> rfl, by go_simp, by go_simp⟩
  · exact ⟨a5, b5, (H5.out.fd.below C5 (Nat.le_refl _)).more C5.size (by first | omega | (show w.heap.size ≤ W.heap.size; omega)), by go_simp <;> rfl, by go_simp, by go_simp⟩
  · simp at hi; omega

set_option maxHeartbeats 4000000 in
theorem fields_B (w : World) : Calls Try.prog 24 #[.int .u8 66] w (FdsDone w (fdsV 66)) := by
  go_enter Try.func24, Try.ntmps24
  go_wp2_with (first
    | (go_at_call 36; (with_reducible refine (fd_0_0_5_7 _).mono ?_); intro e w1 hq; obtain ⟨a1, b1, rfl, hh⟩ := hq.out; have H1 := Lib.hid hh; have s1 := hh.fd.st.1; have t1 := hh.fd.st.2; unfold Storable at s1 t1; have z1 := hh.bel.size; clear hq hh)
    | (go_at_call 36; (with_reducible refine (fd_1_0_5_15 _).mono ?_); intro e w2 hq; obtain ⟨a2, b2, rfl, hh⟩ := hq.out; have H2 := Lib.hid hh; have s2 := hh.fd.st.1; have t2 := hh.fd.st.2; unfold Storable at s2 t2; have z2 := hh.bel.size; clear hq hh)
    | (go_at_call 36; (with_reducible refine (fd_2_0_5_20 _).mono ?_); intro e w3 hq; obtain ⟨a3, b3, rfl, hh⟩ := hq.out; have H3 := Lib.hid hh; have s3 := hh.fd.st.1; have t3 := hh.fd.st.2; unfold Storable at s3 t3; have z3 := hh.bel.size; clear hq hh))
  have hk3 : (((w3.alloc (.cells #[.int .i64 0, a1, b1] 68)).alloc (.cells #[.int .i64 1, a2, b2] 68)).alloc (.cells #[.int .i64 2, a3, b3] 68)).cell? ⟨w3.heap.size + 1, 0, none⟩ = some (.int .i64 1) ∧ (((w3.alloc (.cells #[.int .i64 0, a1, b1] 68)).alloc (.cells #[.int .i64 1, a2, b2] 68)).alloc (.cells #[.int .i64 2, a3, b3] 68)).cell? ⟨w3.heap.size + 1, 1, none⟩ = some (a2) ∧ (((w3.alloc (.cells #[.int .i64 0, a1, b1] 68)).alloc (.cells #[.int .i64 1, a2, b2] 68)).alloc (.cells #[.int .i64 2, a3, b3] 68)).cell? ⟨w3.heap.size + 1, 2, none⟩ = some (b2) ∧ (((w3.alloc (.cells #[.int .i64 0, a1, b1] 68)).alloc (.cells #[.int .i64 1, a2, b2] 68)).alloc (.cells #[.int .i64 2, a3, b3] 68)).cell? ⟨w3.heap.size + 1 + 1, 0, none⟩ = some (.int .i64 2) ∧ (((w3.alloc (.cells #[.int .i64 0, a1, b1] 68)).alloc (.cells #[.int .i64 1, a2, b2] 68)).alloc (.cells #[.int .i64 2, a3, b3] 68)).cell? ⟨w3.heap.size + 1 + 1, 1, none⟩ = some (a3) ∧ (((w3.alloc (.cells #[.int .i64 0, a1, b1] 68)).alloc (.cells #[.int .i64 1, a2, b2] 68)).alloc (.cells #[.int .i64 2, a3, b3] 68)).cell? ⟨w3.heap.size + 1 + 1, 2, none⟩ = some (b3) := ⟨old_cell _ (new_cell _ _ _ _ _ _ (by simp) rfl), old_cell _ (new_cell _ _ _ _ _ _ (by simp) rfl), old_cell _ (new_cell _ _ _ _ _ _ (by simp) rfl), (new_cell _ _ _ _ _ _ (by simp) rfl), (new_cell _ _ _ _ _ _ (by simp) rfl), (new_cell _ _ _ _ _ _ (by simp) rfl)⟩
  have bW : Below w3.heap.size w3 (((w3.alloc (.cells #[.int .i64 0, a1, b1] 68)).alloc (.cells #[.int .i64 1, a2, b2] 68)).alloc (.cells #[.int .i64 2, a3, b3] 68)) := (((Below.refl _ _).alloc (Nat.le_refl _) _).alloc (by simp) _).alloc (by simp <;> omega) _
  have zW : w3.heap.size + 1 + 1 < (((w3.alloc (.cells #[.int .i64 0, a1, b1] 68)).alloc (.cells #[.int .i64 1, a2, b2] 68)).alloc (.cells #[.int .i64 2, a3, b3] 68)).heap.size := by simp
  generalize ((w3.alloc (.cells #[.int .i64 0, a1, b1] 68)).alloc (.cells #[.int .i64 1, a2, b2] 68)).alloc (.cells #[.int .i64 2, a3, b3] 68) = W at hk3 bW zW ⊢
  have HK3 := Lib.hid hk3
  go_region_held3 (fun w' => w'.cell? ⟨w3.heap.size + 1, 0, none⟩ = some (.int .i64 1) ∧ w'.cell? ⟨w3.heap.size + 1, 1, none⟩ = some (a2) ∧ w'.cell? ⟨w3.heap.size + 1, 2, none⟩ = some (b2) ∧ w'.cell? ⟨w3.heap.size + 1 + 1, 0, none⟩ = some (.int .i64 2) ∧ w'.cell? ⟨w3.heap.size + 1 + 1, 1, none⟩ = some (a3) ∧ w'.cell? ⟨w3.heap.size + 1 + 1, 2, none⟩ = some (b3)) (first | go_keep | exact HK7.out | exact HK6.out | exact HK5.out | exact HK4.out | exact HK3.out)
    (first
      | (go_at_call 36; (with_reducible refine (fd_3_11_1_7 _).mono ?_); intro e w4 hq; obtain ⟨a4, b4, rfl, hh⟩ := hq.out; have H4 := Lib.hid hh; have z4 : W.heap.size ≤ w4.heap.size := hh.bel.size; have HK4 := Lib.hid (⟨(hh.bel.cell (p := ⟨w3.heap.size + 1, 0, none⟩) (show w3.heap.size + 1 < W.heap.size by omega)).trans HK3.out.1, (hh.bel.cell (p := ⟨w3.heap.size + 1, 1, none⟩) (show w3.heap.size + 1 < W.heap.size by omega)).trans HK3.out.2.1, (hh.bel.cell (p := ⟨w3.heap.size + 1, 2, none⟩) (show w3.heap.size + 1 < W.heap.size by omega)).trans HK3.out.2.2.1, (hh.bel.cell (p := ⟨w3.heap.size + 1 + 1, 0, none⟩) (show w3.heap.size + 1 + 1 < W.heap.size by omega)).trans HK3.out.2.2.2.1, (hh.bel.cell (p := ⟨w3.heap.size + 1 + 1, 1, none⟩) (show w3.heap.size + 1 + 1 < W.heap.size by omega)).trans HK3.out.2.2.2.2.1, (hh.bel.cell (p := ⟨w3.heap.size + 1 + 1, 2, none⟩) (show w3.heap.size + 1 + 1 < W.heap.size by omega)).trans HK3.out.2.2.2.2.2⟩ : w4.cell? ⟨w3.heap.size + 1, 0, none⟩ = some (.int .i64 1) ∧ w4.cell? ⟨w3.heap.size + 1, 1, none⟩ = some (a2) ∧ w4.cell? ⟨w3.heap.size + 1, 2, none⟩ = some (b2) ∧ w4.cell? ⟨w3.heap.size + 1 + 1, 0, none⟩ = some (.int .i64 2) ∧ w4.cell? ⟨w3.heap.size + 1 + 1, 1, none⟩ = some (a3) ∧ w4.cell? ⟨w3.heap.size + 1 + 1, 2, none⟩ = some (b3)); clear hq hh)
      | (go_at_call 36; (with_reducible refine (fd_3_1_4_8 _).mono ?_); intro e w5 hq; obtain ⟨a5, b5, rfl, hh⟩ := hq.out; have H5 := Lib.hid hh; have z5 : w4.heap.size ≤ w5.heap.size := hh.bel.size; have HK5 := Lib.hid (⟨(hh.bel.cell (p := ⟨w3.heap.size + 1, 0, none⟩) (show w3.heap.size + 1 < w4.heap.size by omega)).trans HK4.out.1, (hh.bel.cell (p := ⟨w3.heap.size + 1, 1, none⟩) (show w3.heap.size + 1 < w4.heap.size by omega)).trans HK4.out.2.1, (hh.bel.cell (p := ⟨w3.heap.size + 1, 2, none⟩) (show w3.heap.size + 1 < w4.heap.size by omega)).trans HK4.out.2.2.1, (hh.bel.cell (p := ⟨w3.heap.size + 1 + 1, 0, none⟩) (show w3.heap.size + 1 + 1 < w4.heap.size by omega)).trans HK4.out.2.2.2.1, (hh.bel.cell (p := ⟨w3.heap.size + 1 + 1, 1, none⟩) (show w3.heap.size + 1 + 1 < w4.heap.size by omega)).trans HK4.out.2.2.2.2.1, (hh.bel.cell (p := ⟨w3.heap.size + 1 + 1, 2, none⟩) (show w3.heap.size + 1 + 1 < w4.heap.size by omega)).trans HK4.out.2.2.2.2.2⟩ : w5.cell? ⟨w3.heap.size + 1, 0, none⟩ = some (.int .i64 1) ∧ w5.cell? ⟨w3.heap.size + 1, 1, none⟩ = some (a2) ∧ w5.cell? ⟨w3.heap.size + 1, 2, none⟩ = some (b2) ∧ w5.cell? ⟨w3.heap.size + 1 + 1, 0, none⟩ = some (.int .i64 2) ∧ w5.cell? ⟨w3.heap.size + 1 + 1, 1, none⟩ = some (a3) ∧ w5.cell? ⟨w3.heap.size + 1 + 1, 2, none⟩ = some (b3)); clear hq hh)
      | (go_at_call 36; (with_reducible refine (fd_3_5_6_25 _).mono ?_); intro e w6 hq; obtain ⟨a6, b6, rfl, hh⟩ := hq.out; have H6 := Lib.hid hh; have z6 : w5.heap.size ≤ w6.heap.size := hh.bel.size; have HK6 := Lib.hid (⟨(hh.bel.cell (p := ⟨w3.heap.size + 1, 0, none⟩) (show w3.heap.size + 1 < w5.heap.size by omega)).trans HK5.out.1, (hh.bel.cell (p := ⟨w3.heap.size + 1, 1, none⟩) (show w3.heap.size + 1 < w5.heap.size by omega)).trans HK5.out.2.1, (hh.bel.cell (p := ⟨w3.heap.size + 1, 2, none⟩) (show w3.heap.size + 1 < w5.heap.size by omega)).trans HK5.out.2.2.1, (hh.bel.cell (p := ⟨w3.heap.size + 1 + 1, 0, none⟩) (show w3.heap.size + 1 + 1 < w5.heap.size by omega)).trans HK5.out.2.2.2.1, (hh.bel.cell (p := ⟨w3.heap.size + 1 + 1, 1, none⟩) (show w3.heap.size + 1 + 1 < w5.heap.size by omega)).trans HK5.out.2.2.2.2.1, (hh.bel.cell (p := ⟨w3.heap.size + 1 + 1, 2, none⟩) (show w3.heap.size + 1 + 1 < w5.heap.size by omega)).trans HK5.out.2.2.2.2.2⟩ : w6.cell? ⟨w3.heap.size + 1, 0, none⟩ = some (.int .i64 1) ∧ w6.cell? ⟨w3.heap.size + 1, 1, none⟩ = some (a2) ∧ w6.cell? ⟨w3.heap.size + 1, 2, none⟩ = some (b2) ∧ w6.cell? ⟨w3.heap.size + 1 + 1, 0, none⟩ = some (.int .i64 2) ∧ w6.cell? ⟨w3.heap.size + 1 + 1, 1, none⟩ = some (a3) ∧ w6.cell? ⟨w3.heap.size + 1 + 1, 2, none⟩ = some (b3)); clear hq hh)
      | (go_at_call 37; (with_reducible refine (fd_3_12_0_31 _).mono ?_); intro e w7 hq; obtain ⟨a7, b7, rfl, hh⟩ := hq.out; have H7 := Lib.hid hh; have z7 : w6.heap.size ≤ w7.heap.size := hh.bel.size; have HK7 := Lib.hid (⟨(hh.bel.cell (p := ⟨w3.heap.size + 1, 0, none⟩) (show w3.heap.size + 1 < w6.heap.size by omega)).trans HK6.out.1, (hh.bel.cell (p := ⟨w3.heap.size + 1, 1, none⟩) (show w3.heap.size + 1 < w6.heap.size by omega)).trans HK6.out.2.1, (hh.bel.cell (p := ⟨w3.heap.size + 1, 2, none⟩) (show w3.heap.size + 1 < w6.heap.size by omega)).trans HK6.out.2.2.1, (hh.bel.cell (p := ⟨w3.heap.size + 1 + 1, 0, none⟩) (show w3.heap.size + 1 + 1 < w6.heap.size by omega)).trans HK6.out.2.2.2.1, (hh.bel.cell (p := ⟨w3.heap.size + 1 + 1, 1, none⟩) (show w3.heap.size + 1 + 1 < w6.heap.size by omega)).trans HK6.out.2.2.2.2.1, (hh.bel.cell (p := ⟨w3.heap.size + 1 + 1, 2, none⟩) (show w3.heap.size + 1 + 1 < w6.heap.size by omega)).trans HK6.out.2.2.2.2.2⟩ : w7.cell? ⟨w3.heap.size + 1, 0, none⟩ = some (.int .i64 1) ∧ w7.cell? ⟨w3.heap.size + 1, 1, none⟩ = some (a2) ∧ w7.cell? ⟨w3.heap.size + 1, 2, none⟩ = some (b2) ∧ w7.cell? ⟨w3.heap.size + 1 + 1, 0, none⟩ = some (.int .i64 2) ∧ w7.cell? ⟨w3.heap.size + 1 + 1, 1, none⟩ = some (a3) ∧ w7.cell? ⟨w3.heap.size + 1 + 1, 2, none⟩ = some (b3)); clear hq hh))
  go_wp2
  go_ret
  have hf : fdsV 66 = [⟨3, 11, 1, 7⟩, ⟨3, 1, 4, 8⟩, ⟨1, 0, 5, 15⟩, ⟨2, 0, 5, 20⟩, ⟨3, 5, 6, 25⟩, ⟨3, 12, 0, 31⟩] := rfl
  have C7 : Below w7.heap.size w7 (w7.alloc (.cells #[.int .i64 3, a4, b4, .int .i64 3, a5, b5, .int .i64 1, a2, b2, .int .i64 2, a3, b3, .int .i64 3, a6, b6, .int .i64 3, a7, b7] 68)) := (Below.refl _ _).alloc (Nat.le_refl _) _
  have C6 : Below w6.heap.size w6 (w7.alloc (.cells #[.int .i64 3, a4, b4, .int .i64 3, a5, b5, .int .i64 1, a2, b2, .int .i64 2, a3, b3, .int .i64 3, a6, b6, .int .i64 3, a7, b7] 68)) := H7.out.bel.trans (C7.mono z7)
  have C5 : Below w5.heap.size w5 (w7.alloc (.cells #[.int .i64 3, a4, b4, .int .i64 3, a5, b5, .int .i64 1, a2, b2, .int .i64 2, a3, b3, .int .i64 3, a6, b6, .int .i64 3, a7, b7] 68)) := H6.out.bel.trans (C6.mono z6)
  have C4 : Below w4.heap.size w4 (w7.alloc (.cells #[.int .i64 3, a4, b4, .int .i64 3, a5, b5, .int .i64 1, a2, b2, .int .i64 2, a3, b3, .int .i64 3, a6, b6, .int .i64 3, a7, b7] 68)) := H5.out.bel.trans (C5.mono z5)
  have C3 : Below w3.heap.size w3 (w7.alloc (.cells #[.int .i64 3, a4, b4, .int .i64 3, a5, b5, .int .i64 1, a2, b2, .int .i64 2, a3, b3, .int .i64 3, a6, b6, .int .i64 3, a7, b7] 68)) := bW.trans ((below_of_drew (H4.out.bel.trans (C4.mono z4))).mono (show _ ≤ W.heap.size by omega))
  have C2 : Below w2.heap.size w2 (w7.alloc (.cells #[.int .i64 3, a4, b4, .int .i64 3, a5, b5, .int .i64 1, a2, b2, .int .i64 2, a3, b3, .int .i64 3, a6, b6, .int .i64 3, a7, b7] 68)) := H3.out.bel.trans (C3.mono z3)
  have C1 : Below w1.heap.size w1 (w7.alloc (.cells #[.int .i64 3, a4, b4, .int .i64 3, a5, b5, .int .i64 1, a2, b2, .int .i64 2, a3, b3, .int .i64 3, a6, b6, .int .i64 3, a7, b7] 68)) := H2.out.bel.trans (C2.mono z2)
  have C0 : Below w.heap.size w (w7.alloc (.cells #[.int .i64 3, a4, b4, .int .i64 3, a5, b5, .int .i64 1, a2, b2, .int .i64 2, a3, b3, .int .i64 3, a6, b6, .int .i64 3, a7, b7] 68)) := H1.out.bel.trans (C1.mono z1)
  refine ⟨_, rfl, .inr ⟨w7.heap.size, 6, rfl, Nat.le_refl _, ⟨by omega, by simp⟩, fun i hi => ?_⟩, C0⟩
  rw [hf] at hi ⊢
  rcases i with _ | _ | _ | _ | _ | _ | i
  · exact ⟨a4, b4, (H4.out.fd.below C4 (Nat.le_refl _)).more C4.size (by first | omega | (show w.heap.size ≤ W.heap.size; omega)), by go_simp <;> rfl, by go_simp, by go_simp⟩
  · exact ⟨a5, b5, (H5.out.fd.below C5 (Nat.le_refl _)).more C5.size (by first | omega | (show w.heap.size ≤ W.heap.size; omega)), by go_simp <;> rfl, by go_simp, by go_simp⟩
  · exact ⟨a2, b2, (H2.out.fd.below C2 (Nat.le_refl _)).more C2.size (by first | omega | (show w.heap.size ≤ W.heap.size; omega)), by go_simp <;> rfl, by go_simp, by go_simp⟩
  · exact ⟨a3, b3, (H3.out.fd.below C3 (Nat.le_refl _)).more C3.size (by first | omega | (show w.heap.size ≤ W.heap.size; omega)), by go_simp <;> rfl, by go_simp, by go_simp⟩
  · exact ⟨a6, b6, (H6.out.fd.below C6 (Nat.le_refl _)).more C6.size (by first | omega | (show w.heap.size ≤ W.heap.size; omega)), by go_simp <;> rfl, by go_simp, by go_simp⟩
  · exact ⟨a7, b7, (H7.out.fd.below C7 (Nat.le_refl _)).more C7.size (by first | omega | (show w.heap.size ≤ W.heap.size; omega)), by go_simp <;> rfl, by go_simp, by go_simp⟩
  · simp at hi; omega

set_option maxHeartbeats 4000000 in
theorem fields_U (w : World) : Calls Try.prog 24 #[.int .u8 85] w (FdsDone w (fdsV 85)) := by
  go_enter Try.func24, Try.ntmps24
  go_wp2_with (first
    | (go_at_call 36; (with_reducible refine (fd_0_0_5_7 _).mono ?_); intro e w1 hq; obtain ⟨a1, b1, rfl, hh⟩ := hq.out; have H1 := Lib.hid hh; have s1 := hh.fd.st.1; have t1 := hh.fd.st.2; unfold Storable at s1 t1; have z1 := hh.bel.size; clear hq hh)
    | (go_at_call 36; (with_reducible refine (fd_1_0_5_15 _).mono ?_); intro e w2 hq; obtain ⟨a2, b2, rfl, hh⟩ := hq.out; have H2 := Lib.hid hh; have s2 := hh.fd.st.1; have t2 := hh.fd.st.2; unfold Storable at s2 t2; have z2 := hh.bel.size; clear hq hh)
    | (go_at_call 36; (with_reducible refine (fd_2_0_5_20 _).mono ?_); intro e w3 hq; obtain ⟨a3, b3, rfl, hh⟩ := hq.out; have H3 := Lib.hid hh; have s3 := hh.fd.st.1; have t3 := hh.fd.st.2; unfold Storable at s3 t3; have z3 := hh.bel.size; clear hq hh))
  have hk3 : (((w3.alloc (.cells #[.int .i64 0, a1, b1] 68)).alloc (.cells #[.int .i64 1, a2, b2] 68)).alloc (.cells #[.int .i64 2, a3, b3] 68)).cell? ⟨w3.heap.size, 0, none⟩ = some (.int .i64 0) ∧ (((w3.alloc (.cells #[.int .i64 0, a1, b1] 68)).alloc (.cells #[.int .i64 1, a2, b2] 68)).alloc (.cells #[.int .i64 2, a3, b3] 68)).cell? ⟨w3.heap.size, 1, none⟩ = some (a1) ∧ (((w3.alloc (.cells #[.int .i64 0, a1, b1] 68)).alloc (.cells #[.int .i64 1, a2, b2] 68)).alloc (.cells #[.int .i64 2, a3, b3] 68)).cell? ⟨w3.heap.size, 2, none⟩ = some (b1) := ⟨old_cell _ (old_cell _ (new_cell _ _ _ _ _ _ (by simp) rfl)), old_cell _ (old_cell _ (new_cell _ _ _ _ _ _ (by simp) rfl)), old_cell _ (old_cell _ (new_cell _ _ _ _ _ _ (by simp) rfl))⟩
  have bW : Below w3.heap.size w3 (((w3.alloc (.cells #[.int .i64 0, a1, b1] 68)).alloc (.cells #[.int .i64 1, a2, b2] 68)).alloc (.cells #[.int .i64 2, a3, b3] 68)) := (((Below.refl _ _).alloc (Nat.le_refl _) _).alloc (by simp) _).alloc (by simp <;> omega) _
  have zW : w3.heap.size + 1 + 1 < (((w3.alloc (.cells #[.int .i64 0, a1, b1] 68)).alloc (.cells #[.int .i64 1, a2, b2] 68)).alloc (.cells #[.int .i64 2, a3, b3] 68)).heap.size := by simp
  generalize ((w3.alloc (.cells #[.int .i64 0, a1, b1] 68)).alloc (.cells #[.int .i64 1, a2, b2] 68)).alloc (.cells #[.int .i64 2, a3, b3] 68) = W at hk3 bW zW ⊢
  have HK3 := Lib.hid hk3
  go_region_held3 (fun w' => w'.cell? ⟨w3.heap.size, 0, none⟩ = some (.int .i64 0) ∧ w'.cell? ⟨w3.heap.size, 1, none⟩ = some (a1) ∧ w'.cell? ⟨w3.heap.size, 2, none⟩ = some (b1)) (first | go_keep | exact HK4.out | exact HK3.out)
    (first
      | (go_at_call 37; (with_reducible refine (fd_3_0_0_12 _).mono ?_); intro e w4 hq; obtain ⟨a4, b4, rfl, hh⟩ := hq.out; have H4 := Lib.hid hh; have z4 : W.heap.size ≤ w4.heap.size := hh.bel.size; have HK4 := Lib.hid (⟨(hh.bel.cell (p := ⟨w3.heap.size, 0, none⟩) (show w3.heap.size < W.heap.size by omega)).trans HK3.out.1, (hh.bel.cell (p := ⟨w3.heap.size, 1, none⟩) (show w3.heap.size < W.heap.size by omega)).trans HK3.out.2.1, (hh.bel.cell (p := ⟨w3.heap.size, 2, none⟩) (show w3.heap.size < W.heap.size by omega)).trans HK3.out.2.2⟩ : w4.cell? ⟨w3.heap.size, 0, none⟩ = some (.int .i64 0) ∧ w4.cell? ⟨w3.heap.size, 1, none⟩ = some (a1) ∧ w4.cell? ⟨w3.heap.size, 2, none⟩ = some (b1)); clear hq hh))
  go_wp2
  go_ret
  have hf : fdsV 85 = [⟨0, 0, 5, 7⟩, ⟨3, 0, 0, 12⟩] := rfl
  have C4 : Below w4.heap.size w4 (w4.alloc (.cells #[.int .i64 0, a1, b1, .int .i64 3, a4, b4] 68)) := (Below.refl _ _).alloc (Nat.le_refl _) _
  have C3 : Below w3.heap.size w3 (w4.alloc (.cells #[.int .i64 0, a1, b1, .int .i64 3, a4, b4] 68)) := bW.trans ((below_of_drew (H4.out.bel.trans (C4.mono z4))).mono (show _ ≤ W.heap.size by omega))
  have C2 : Below w2.heap.size w2 (w4.alloc (.cells #[.int .i64 0, a1, b1, .int .i64 3, a4, b4] 68)) := H3.out.bel.trans (C3.mono z3)
  have C1 : Below w1.heap.size w1 (w4.alloc (.cells #[.int .i64 0, a1, b1, .int .i64 3, a4, b4] 68)) := H2.out.bel.trans (C2.mono z2)
  have C0 : Below w.heap.size w (w4.alloc (.cells #[.int .i64 0, a1, b1, .int .i64 3, a4, b4] 68)) := H1.out.bel.trans (C1.mono z1)
  refine ⟨_, rfl, .inr ⟨w4.heap.size, 2, rfl, Nat.le_refl _, ⟨by omega, by simp⟩, fun i hi => ?_⟩, C0⟩
  rw [hf] at hi ⊢
  rcases i with _ | _ | i
  · exact ⟨a1, b1, (H1.out.fd.below C1 (Nat.le_refl _)).more C1.size (by first | omega | (show w.heap.size ≤ W.heap.size; omega)), by go_simp <;> rfl, by go_simp, by go_simp⟩
  · exact ⟨a4, b4, (H4.out.fd.below C4 (Nat.le_refl _)).more C4.size (by first | omega | (show w.heap.size ≤ W.heap.size; omega)), by go_simp <;> rfl, by go_simp, by go_simp⟩
  · simp at hi; omega

set_option maxHeartbeats 4000000 in
theorem fields_J (w : World) : Calls Try.prog 24 #[.int .u8 74] w (FdsDone w (fdsV 74)) := by
  go_enter Try.func24, Try.ntmps24
  go_wp2_with (first
    | (go_at_call 36; (with_reducible refine (fd_0_0_5_7 _).mono ?_); intro e w1 hq; obtain ⟨a1, b1, rfl, hh⟩ := hq.out; have H1 := Lib.hid hh; have s1 := hh.fd.st.1; have t1 := hh.fd.st.2; unfold Storable at s1 t1; have z1 := hh.bel.size; clear hq hh)
    | (go_at_call 36; (with_reducible refine (fd_1_0_5_15 _).mono ?_); intro e w2 hq; obtain ⟨a2, b2, rfl, hh⟩ := hq.out; have H2 := Lib.hid hh; have s2 := hh.fd.st.1; have t2 := hh.fd.st.2; unfold Storable at s2 t2; have z2 := hh.bel.size; clear hq hh)
    | (go_at_call 36; (with_reducible refine (fd_2_0_5_20 _).mono ?_); intro e w3 hq; obtain ⟨a3, b3, rfl, hh⟩ := hq.out; have H3 := Lib.hid hh; have s3 := hh.fd.st.1; have t3 := hh.fd.st.2; unfold Storable at s3 t3; have z3 := hh.bel.size; clear hq hh))
  have hk3 : (((w3.alloc (.cells #[.int .i64 0, a1, b1] 68)).alloc (.cells #[.int .i64 1, a2, b2] 68)).alloc (.cells #[.int .i64 2, a3, b3] 68)).cell? ⟨w3.heap.size, 0, none⟩ = some (.int .i64 0) ∧ (((w3.alloc (.cells #[.int .i64 0, a1, b1] 68)).alloc (.cells #[.int .i64 1, a2, b2] 68)).alloc (.cells #[.int .i64 2, a3, b3] 68)).cell? ⟨w3.heap.size, 1, none⟩ = some (a1) ∧ (((w3.alloc (.cells #[.int .i64 0, a1, b1] 68)).alloc (.cells #[.int .i64 1, a2, b2] 68)).alloc (.cells #[.int .i64 2, a3, b3] 68)).cell? ⟨w3.heap.size, 2, none⟩ = some (b1) := ⟨old_cell _ (old_cell _ (new_cell _ _ _ _ _ _ (by simp) rfl)), old_cell _ (old_cell _ (new_cell _ _ _ _ _ _ (by simp) rfl)), old_cell _ (old_cell _ (new_cell _ _ _ _ _ _ (by simp) rfl))⟩
  have bW : Below w3.heap.size w3 (((w3.alloc (.cells #[.int .i64 0, a1, b1] 68)).alloc (.cells #[.int .i64 1, a2, b2] 68)).alloc (.cells #[.int .i64 2, a3, b3] 68)) := (((Below.refl _ _).alloc (Nat.le_refl _) _).alloc (by simp) _).alloc (by simp <;> omega) _
  have zW : w3.heap.size + 1 + 1 < (((w3.alloc (.cells #[.int .i64 0, a1, b1] 68)).alloc (.cells #[.int .i64 1, a2, b2] 68)).alloc (.cells #[.int .i64 2, a3, b3] 68)).heap.size := by simp
  generalize ((w3.alloc (.cells #[.int .i64 0, a1, b1] 68)).alloc (.cells #[.int .i64 1, a2, b2] 68)).alloc (.cells #[.int .i64 2, a3, b3] 68) = W at hk3 bW zW ⊢
  have HK3 := Lib.hid hk3
  go_region_held3 (fun w' => w'.cell? ⟨w3.heap.size, 0, none⟩ = some (.int .i64 0) ∧ w'.cell? ⟨w3.heap.size, 1, none⟩ = some (a1) ∧ w'.cell? ⟨w3.heap.size, 2, none⟩ = some (b1)) (first | go_keep | exact HK7.out | exact HK6.out | exact HK5.out | exact HK4.out | exact HK3.out)
    (first
      | (go_at_call 36; (with_reducible refine (fd_3_12_8_12 _).mono ?_); intro e w4 hq; obtain ⟨a4, b4, rfl, hh⟩ := hq.out; have H4 := Lib.hid hh; have z4 : W.heap.size ≤ w4.heap.size := hh.bel.size; have HK4 := Lib.hid (⟨(hh.bel.cell (p := ⟨w3.heap.size, 0, none⟩) (show w3.heap.size < W.heap.size by omega)).trans HK3.out.1, (hh.bel.cell (p := ⟨w3.heap.size, 1, none⟩) (show w3.heap.size < W.heap.size by omega)).trans HK3.out.2.1, (hh.bel.cell (p := ⟨w3.heap.size, 2, none⟩) (show w3.heap.size < W.heap.size by omega)).trans HK3.out.2.2⟩ : w4.cell? ⟨w3.heap.size, 0, none⟩ = some (.int .i64 0) ∧ w4.cell? ⟨w3.heap.size, 1, none⟩ = some (a1) ∧ w4.cell? ⟨w3.heap.size, 2, none⟩ = some (b1)); clear hq hh)
      | (go_at_call 36; (with_reducible refine (fd_3_11_1_20 _).mono ?_); intro e w5 hq; obtain ⟨a5, b5, rfl, hh⟩ := hq.out; have H5 := Lib.hid hh; have z5 : w4.heap.size ≤ w5.heap.size := hh.bel.size; have HK5 := Lib.hid (⟨(hh.bel.cell (p := ⟨w3.heap.size, 0, none⟩) (show w3.heap.size < w4.heap.size by omega)).trans HK4.out.1, (hh.bel.cell (p := ⟨w3.heap.size, 1, none⟩) (show w3.heap.size < w4.heap.size by omega)).trans HK4.out.2.1, (hh.bel.cell (p := ⟨w3.heap.size, 2, none⟩) (show w3.heap.size < w4.heap.size by omega)).trans HK4.out.2.2⟩ : w5.cell? ⟨w3.heap.size, 0, none⟩ = some (.int .i64 0) ∧ w5.cell? ⟨w3.heap.size, 1, none⟩ = some (a1) ∧ w5.cell? ⟨w3.heap.size, 2, none⟩ = some (b1)); clear hq hh)
      | (go_at_call 36; (with_reducible refine (fd_3_1_10_21 _).mono ?_); intro e w6 hq; obtain ⟨a6, b6, rfl, hh⟩ := hq.out; have H6 := Lib.hid hh; have z6 : w5.heap.size ≤ w6.heap.size := hh.bel.size; have HK6 := Lib.hid (⟨(hh.bel.cell (p := ⟨w3.heap.size, 0, none⟩) (show w3.heap.size < w5.heap.size by omega)).trans HK5.out.1, (hh.bel.cell (p := ⟨w3.heap.size, 1, none⟩) (show w3.heap.size < w5.heap.size by omega)).trans HK5.out.2.1, (hh.bel.cell (p := ⟨w3.heap.size, 2, none⟩) (show w3.heap.size < w5.heap.size by omega)).trans HK5.out.2.2⟩ : w6.cell? ⟨w3.heap.size, 0, none⟩ = some (.int .i64 0) ∧ w6.cell? ⟨w3.heap.size, 1, none⟩ = some (a1) ∧ w6.cell? ⟨w3.heap.size, 2, none⟩ = some (b1)); clear hq hh)
      | (go_at_call 37; (with_reducible refine (fd_3_20_0_31 _).mono ?_); intro e w7 hq; obtain ⟨a7, b7, rfl, hh⟩ := hq.out; have H7 := Lib.hid hh; have z7 : w6.heap.size ≤ w7.heap.size := hh.bel.size; have HK7 := Lib.hid (⟨(hh.bel.cell (p := ⟨w3.heap.size, 0, none⟩) (show w3.heap.size < w6.heap.size by omega)).trans HK6.out.1, (hh.bel.cell (p := ⟨w3.heap.size, 1, none⟩) (show w3.heap.size < w6.heap.size by omega)).trans HK6.out.2.1, (hh.bel.cell (p := ⟨w3.heap.size, 2, none⟩) (show w3.heap.size < w6.heap.size by omega)).trans HK6.out.2.2⟩ : w7.cell? ⟨w3.heap.size, 0, none⟩ = some (.int .i64 0) ∧ w7.cell? ⟨w3.heap.size, 1, none⟩ = some (a1) ∧ w7.cell? ⟨w3.heap.size, 2, none⟩ = some (b1)); clear hq hh))
  go_wp2
  go_ret
  have hf : fdsV 74 = [⟨0, 0, 5, 7⟩, ⟨3, 12, 8, 12⟩, ⟨3, 11, 1, 20⟩, ⟨3, 1, 10, 21⟩, ⟨3, 20, 0, 31⟩] := rfl
  have C7 : Below w7.heap.size w7 (w7.alloc (.cells #[.int .i64 0, a1, b1, .int .i64 3, a4, b4, .int .i64 3, a5, b5, .int .i64 3, a6, b6, .int .i64 3, a7, b7] 68)) := (Below.refl _ _).alloc (Nat.le_refl _) _
  have C6 : Below w6.heap.size w6 (w7.alloc (.cells #[.int .i64 0, a1, b1, .int .i64 3, a4, b4, .int .i64 3, a5, b5, .int .i64 3, a6, b6, .int .i64 3, a7, b7] 68)) := H7.out.bel.trans (C7.mono z7)
  have C5 : Below w5.heap.size w5 (w7.alloc (.cells #[.int .i64 0, a1, b1, .int .i64 3, a4, b4, .int .i64 3, a5, b5, .int .i64 3, a6, b6, .int .i64 3, a7, b7] 68)) := H6.out.bel.trans (C6.mono z6)
  have C4 : Below w4.heap.size w4 (w7.alloc (.cells #[.int .i64 0, a1, b1, .int .i64 3, a4, b4, .int .i64 3, a5, b5, .int .i64 3, a6, b6, .int .i64 3, a7, b7] 68)) := H5.out.bel.trans (C5.mono z5)
  have C3 : Below w3.heap.size w3 (w7.alloc (.cells #[.int .i64 0, a1, b1, .int .i64 3, a4, b4, .int .i64 3, a5, b5, .int .i64 3, a6, b6, .int .i64 3, a7, b7] 68)) := bW.trans ((below_of_drew (H4.out.bel.trans (C4.mono z4))).mono (show _ ≤ W.heap.size by omega))
  have C2 : Below w2.heap.size w2 (w7.alloc (.cells #[.int .i64 0, a1, b1, .int .i64 3, a4, b4, .int .i64 3, a5, b5, .int .i64 3, a6, b6, .int .i64 3, a7, b7] 68)) := H3.out.bel.trans (C3.mono z3)
  have C1 : Below w1.heap.size w1 (w7.alloc (.cells #[.int .i64 0, a1, b1, .int .i64 3, a4, b4, .int .i64 3, a5, b5, .int .i64 3, a6, b6, .int .i64 3, a7, b7] 68)) := H2.out.bel.trans (C2.mono z2)
  have C0 : Below w.heap.size w (w7.alloc (.cells #[.int .i64 0, a1, b1, .int .i64 3, a4, b4, .int .i64 3, a5, b5, .int .i64 3, a6, b6, .int .i64 3, a7, b7] 68)) := H1.out.bel.trans (C1.mono z1)
  refine ⟨_, rfl, .inr ⟨w7.heap.size, 5, rfl, Nat.le_refl _, ⟨by omega, by simp⟩, fun i hi => ?_⟩, C0⟩
  rw [hf] at hi ⊢
  rcases i with _ | _ | _ | _ | _ | i
  · exact ⟨a1, b1, (H1.out.fd.below C1 (Nat.le_refl _)).more C1.size (by first | omega | (show w.heap.size ≤ W.heap.size; omega)), by go_simp <;> rfl, by go_simp, by go_simp⟩
  · exact ⟨a4, b4, (H4.out.fd.below C4 (Nat.le_refl _)).more C4.size (by first | omega | (show w.heap.size ≤ W.heap.size; omega)), by go_simp <;> rfl, by go_simp, by go_simp⟩
  · exact ⟨a5, b5, (H5.out.fd.below C5 (Nat.le_refl _)).more C5.size (by first | omega | (show w.heap.size ≤ W.heap.size; omega)), by go_simp <;> rfl, by go_simp, by go_simp⟩
  · exact ⟨a6, b6, (H6.out.fd.below C6 (Nat.le_refl _)).more C6.size (by first | omega | (show w.heap.size ≤ W.heap.size; omega)), by go_simp <;> rfl, by go_simp, by go_simp⟩
  · exact ⟨a7, b7, (H7.out.fd.below C7 (Nat.le_refl _)).more C7.size (by first | omega | (show w.heap.size ≤ W.heap.size; omega)), by go_simp <;> rfl, by go_simp, by go_simp⟩
  · simp at hi; omega

theorem fields_E (w : World) : Calls Try.prog 24 #[.int .u8 69] w (FdsDone w (fdsV 69)) := by
  go_enter Try.func24, Try.ntmps24
  go_wp2_with (first
    | (go_at_call 36; (with_reducible refine (fd_0_0_5_7 _).mono ?_); intro e w1 hq; obtain ⟨a1, b1, rfl, hh⟩ := hq.out; have H1 := Lib.hid hh; have s1 := hh.fd.st.1; have t1 := hh.fd.st.2; unfold Storable at s1 t1; have z1 := hh.bel.size; clear hq hh)
    | (go_at_call 36; (with_reducible refine (fd_1_0_5_15 _).mono ?_); intro e w2 hq; obtain ⟨a2, b2, rfl, hh⟩ := hq.out; have H2 := Lib.hid hh; have s2 := hh.fd.st.1; have t2 := hh.fd.st.2; unfold Storable at s2 t2; have z2 := hh.bel.size; clear hq hh)
    | (go_at_call 36; (with_reducible refine (fd_2_0_5_20 _).mono ?_); intro e w3 hq; obtain ⟨a3, b3, rfl, hh⟩ := hq.out; have H3 := Lib.hid hh; have s3 := hh.fd.st.1; have t3 := hh.fd.st.2; unfold Storable at s3 t3; have z3 := hh.bel.size; clear hq hh))
  go_ret
  have C3 : Below w3.heap.size w3 (((w3.alloc (.cells #[.int .i64 0, a1, b1] 68)).alloc (.cells #[.int .i64 1, a2, b2] 68)).alloc (.cells #[.int .i64 2, a3, b3] 68)) := (((Below.refl _ _).alloc (Nat.le_refl _) _).alloc (by simp) _).alloc (by simp <;> omega) _
  exact ⟨_, rfl, .inl ⟨rfl, rfl⟩, H1.out.bel.trans ((H2.out.bel.trans ((H3.out.bel.trans (C3.mono z3)).mono z2)).mono z1)⟩
/-- A form's letter. -/
def RvForm.letter : RvForm → Int
  | .R => 82 | .I => 73 | .X => 88 | .Y => 89 | .S => 83 | .B => 66 | .U => 85 | .J => 74 | .E => 69
theorem fields_any (f : RvForm) (w : World) : Calls Try.prog 24 #[.int .u8 f.letter] w (FdsDone w (fdsV f.letter)) := by
  cases f
  · exact fields_R w
  · exact fields_I w
  · exact fields_X w
  · exact fields_Y w
  · exact fields_S w
  · exact fields_B w
  · exact fields_U w
  · exact fields_J w
  · exact fields_E w

end Go.Proofs.Ytcglfbjfllohjaa