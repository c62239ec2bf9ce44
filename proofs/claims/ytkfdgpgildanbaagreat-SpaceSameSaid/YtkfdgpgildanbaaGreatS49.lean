import Derived.Test.YtkfdgpgildanbaaGreatS48
import Derived.Deep.RegionHeld3
namespace Go.Proofs.YtkfdgpgildanbaaGreat
open Go.RowKit Go.Shelf
set_option linter.unusedVariables false
set_option linter.unusedSimpArgs false
def RowIn (w : World) (X : Value) (n : Nat) (xs : List Value) : Prop :=
  n ≤ maxLen ∧ ((n = 0 ∧ xs = [] ∧ ∃ a cap, X = .slice a 0 cap) ∨ ∃ b off cap, X = .slice (some ⟨b, off, none⟩) n cap ∧ n ≤ cap ∧ b < w.heap.size ∧ ∀ j u, xs[j]? = some u → w.cell? ⟨b, off + j, none⟩ = some u)
theorem RowIn.of_owns {w : World} {base : Nat} {e : TypeId} {size : Nat} {K : Value → Prop} {v : Value} {n : Nat} {xs : List Value} (h : Owns w base e size K v n xs) : RowIn w v n xs := by
  rcases h.1.2 with ⟨rfl, h0⟩ | ⟨g, cap, cur, rfl, h1, h2, h3, h4, h5, h6⟩
  · refine ⟨by unfold maxLen; omega, .inl ⟨h0, ?_, none, 0, rfl⟩⟩
    have := h.1.1
    rw [h0] at this
    exact List.eq_nil_of_length_eq_zero (by omega)
  · refine ⟨Nat.le_trans h3 h4, .inr ⟨g, 0, cap, rfl, h3, heap_lt h2, fun j u hj => ?_⟩⟩
    rw [cell_of_row _ _ _ _ _ _ h2, Nat.zero_add]
    rw [← h6, List.getElem?_take] at hj
    split at hj
    · simpa using hj
    · cases hj
theorem RowIn.grow {w w' : World} {X : Value} {n : Nat} {xs : List Value} (h : RowIn w X n xs) (hb : Below w.heap.size w w') : RowIn w' X n xs := by
  refine ⟨h.1, h.2.imp id ?_⟩
  rintro ⟨b, off, cap, h1, h2, h3, h4⟩
  exact ⟨b, off, cap, h1, h2, Nat.lt_of_lt_of_le h3 hb.size, fun j u hj => (hb.cell (p := ⟨b, off + j, none⟩) h3).trans (h4 j u hj)⟩
def CloneDone (w : World) (T : TypeId) (size : Nat) (K : Value → Prop) (n : Nat) (xs : List Value) (e : Ending) (w' : World) : Prop :=
  ∃ V, e = .returned V ∧ Owns w' w.heap.size T size K V n xs ∧ Below w.heap.size w w'
theorem eqlNI15 (a : Option Addr) (n c : Nat) (w : World) : (binOp .eql 43 (.slice a n c) (.slice none 0 0)).run Tryz.prog w = .ok (.bool a.isNone) w := Lib.run_eql_slice_nil w 43 3 a n c 0 0 Tryz.underlying43
set_option maxRecDepth 100000 in
set_option maxHeartbeats 4000000 in
theorem cloneI15 (X : Value) (n : Nat) (xs : List Value) (w : World) (h : RowIn w X n xs) (hl : xs.length = n * 1) (h1 : ∀ u ∈ xs, u.oneCell' = true) (hK : ∀ u ∈ xs, (IsNum .i64) u) (hm : n ≤ 1000000000000) :
    Calls Tryz.prog 121 #[X] w (CloneDone w 3 1 (IsNum .i64) n xs) := by
  have hsn := eqlNI15
  obtain ⟨i0, hi, hz0, hz1, hz2⟩ := info_parts int_info
  have HI := Lib.hid hi
  have HZ0 := Lib.hid hz0
  have HZ1 := Lib.hid hz1
  have HZ2 := Lib.hid hz2
  have HM := Lib.hid (Owns.made w w.heap.size 3 1 (IsNum .i64) (Nat.le_refl _))
  have HMX := Lib.hid hm
  have HLL := Lib.hid hl
  have HON := Lib.hid h1
  have HKK := Lib.hid hK
  rcases h.2 with ⟨rfl, rfl, a, cap, rfl⟩ | ⟨b, off, cap, rfl, h2, h3, h4⟩
  · cases a with
    | none =>
      clear h hi hz0 hz1 hz2 hl h1 hK hm
      go_enter Tryz.func121, Tryz.ntmps121
      go_wp2
      go_ret
      exact ⟨_, rfl, Owns.nil _ _ _ _ _, Below.refl _ _⟩
    | some ad =>
      clear h hi hz0 hz1 hz2 hl h1 hK hm
      go_enter Tryz.func121, Tryz.ntmps121
      go_wp2_with (at_builtin; refine wpList_append_q _ rfl (.tmp 5) (.tmp 6) 43 rfl w.heap.size 3 i0 _ 1 8 Tryz.underlying43 HI.out HZ0.out HZ1.out HZ2.out rfl (by decide) (IsNum .i64) (zero_num .i64) _ 0 [] rfl HM.out ad 0 cap [] rfl (by simp) (by intro j u hj; simp at hj) (by simp) (by simp) (by simp only [maxLen]; omega) (by omega) (by simp) ?_; intro v' w1 hown' hgrow; have R0 := Lib.hid hown'; have R1 := Lib.hid hgrow; clear hown' hgrow)
      go_ret
      refine ⟨_, rfl, ?_, ((Below.refl _ _).alloc (Nat.le_refl _) _).grown R1.out (by simp) (fun g hg => (HM.out.lt hg).1)⟩
      have h := R0.out
      simpa using h
  · have HN : Hid (∀ j u, xs[j]? = some u → (w.alloc (.cells #[] 3)).cell? ((⟨b, off, none⟩ : Addr).add j) = some u) := Lib.hid (fun j u hj => by
      have e : (⟨b, off, none⟩ : Addr).add j = ⟨b, off + j, none⟩ := by unfold Addr.add; split <;> simp_all
      rw [e, World.cell?_alloc_lt w _ _ h3]
      exact h4 j u hj)
    clear h hi hz0 hz1 hz2 hl h1 hK hm h2 h3 h4
    go_enter Tryz.func121, Tryz.ntmps121
    go_wp2_with (at_builtin; refine wpList_append_q _ rfl (.tmp 5) (.tmp 6) 43 rfl w.heap.size 3 i0 _ 1 8 Tryz.underlying43 HI.out HZ0.out HZ1.out HZ2.out rfl (by decide) (IsNum .i64) (zero_num .i64) _ 0 [] rfl HM.out ⟨b, off, none⟩ n cap xs rfl HLL.out HN.out HON.out HKK.out (by have := HMX.out; simp only [maxLen]; omega) (by have := HMX.out; omega) (by simp) ?_; intro v' w1 hown' hgrow; have R0 := Lib.hid hown'; have R1 := Lib.hid hgrow; clear hown' hgrow)
    go_ret
    refine ⟨_, rfl, ?_, ((Below.refl _ _).alloc (Nat.le_refl _) _).grown R1.out (by simp) (fun g hg => (HM.out.lt hg).1)⟩
    have h := R0.out
    simpa using h
theorem eqlNC15 (a : Option Addr) (n c : Nat) (w : World) : (binOp .eql 110 (.slice a n c) (.slice none 0 0)).run Tryz.prog w = .ok (.bool a.isNone) w := Lib.run_eql_slice_nil w 110 115 a n c 0 0 Tryz.underlying110
set_option maxRecDepth 100000 in
set_option maxHeartbeats 4000000 in
theorem cloneC15 (X : Value) (n : Nat) (xs : List Value) (w : World) (h : RowIn w X n xs) (hl : xs.length = n * 6) (h1 : ∀ u ∈ xs, u.oneCell' = true) (hK : ∀ u ∈ xs, (AnyCell) u) (hm : n ≤ 1000000000000) :
    Calls Tryz.prog 120 #[X] w (CloneDone w 115 6 (AnyCell) n xs) := by
  have hsn := eqlNC15
  obtain ⟨i0, hi, hz0, hz1, hz2⟩ := info_parts ins_info
  have HI := Lib.hid hi
  have HZ0 := Lib.hid hz0
  have HZ1 := Lib.hid hz1
  have HZ2 := Lib.hid hz2
  have HM := Lib.hid (Owns.made w w.heap.size 115 6 (AnyCell) (Nat.le_refl _))
  have HMX := Lib.hid hm
  have HLL := Lib.hid hl
  have HON := Lib.hid h1
  have HKK := Lib.hid hK
  rcases h.2 with ⟨rfl, rfl, a, cap, rfl⟩ | ⟨b, off, cap, rfl, h2, h3, h4⟩
  · cases a with
    | none =>
      clear h hi hz0 hz1 hz2 hl h1 hK hm
      go_enter Tryz.func120, Tryz.ntmps120
      go_wp2
      go_ret
      exact ⟨_, rfl, Owns.nil _ _ _ _ _, Below.refl _ _⟩
    | some ad =>
      clear h hi hz0 hz1 hz2 hl h1 hK hm
      go_enter Tryz.func120, Tryz.ntmps120
      go_wp2_with (at_builtin; refine wpList_append_q _ rfl (.tmp 5) (.tmp 6) 110 rfl w.heap.size 115 i0 _ 6 64 Tryz.underlying110 HI.out HZ0.out HZ1.out HZ2.out rfl (by decide) (AnyCell) (fun _ _ => trivial) _ 0 [] rfl HM.out ad 0 cap [] rfl (by simp) (by intro j u hj; simp at hj) (by simp) (by simp) (by simp only [maxLen]; omega) (by omega) (by simp) ?_; intro v' w1 hown' hgrow; have R0 := Lib.hid hown'; have R1 := Lib.hid hgrow; clear hown' hgrow)
      go_ret
      refine ⟨_, rfl, ?_, ((Below.refl _ _).alloc (Nat.le_refl _) _).grown R1.out (by simp) (fun g hg => (HM.out.lt hg).1)⟩
      have h := R0.out
      simpa using h
  · have HN : Hid (∀ j u, xs[j]? = some u → (w.alloc (.cells #[] 115)).cell? ((⟨b, off, none⟩ : Addr).add j) = some u) := Lib.hid (fun j u hj => by
      have e : (⟨b, off, none⟩ : Addr).add j = ⟨b, off + j, none⟩ := by unfold Addr.add; split <;> simp_all
      rw [e, World.cell?_alloc_lt w _ _ h3]
      exact h4 j u hj)
    clear h hi hz0 hz1 hz2 hl h1 hK hm h2 h3 h4
    go_enter Tryz.func120, Tryz.ntmps120
    go_wp2_with (at_builtin; refine wpList_append_q _ rfl (.tmp 5) (.tmp 6) 110 rfl w.heap.size 115 i0 _ 6 64 Tryz.underlying110 HI.out HZ0.out HZ1.out HZ2.out rfl (by decide) (AnyCell) (fun _ _ => trivial) _ 0 [] rfl HM.out ⟨b, off, none⟩ n cap xs rfl HLL.out HN.out HON.out HKK.out (by have := HMX.out; simp only [maxLen]; omega) (by have := HMX.out; omega) (by simp) ?_; intro v' w1 hown' hgrow; have R0 := Lib.hid hown'; have R1 := Lib.hid hgrow; clear hown' hgrow)
    go_ret
    refine ⟨_, rfl, ?_, ((Below.refl _ _).alloc (Nat.le_refl _) _).grown R1.out (by simp) (fun g hg => (HM.out.lt hg).1)⟩
    have h := R0.out
    simpa using h
theorem eqlNF15 (a : Option Addr) (n c : Nat) (w : World) : (binOp .eql 23 (.slice a n c) (.slice none 0 0)).run Tryz.prog w = .ok (.bool a.isNone) w := Lib.run_eql_slice_nil w 23 112 a n c 0 0 Tryz.underlying23
set_option maxRecDepth 100000 in
set_option maxHeartbeats 4000000 in
theorem cloneF15 (X : Value) (n : Nat) (xs : List Value) (w : World) (h : RowIn w X n xs) (hl : xs.length = n * 4) (h1 : ∀ u ∈ xs, u.oneCell' = true) (hK : ∀ u ∈ xs, (AnyCell) u) (hm : n ≤ 1000000000000) :
    Calls Tryz.prog 119 #[X] w (CloneDone w 112 4 (AnyCell) n xs) := by
  have hsn := eqlNF15
  obtain ⟨i0, hi, hz0, hz1, hz2⟩ := info_parts func_info
  have HI := Lib.hid hi
  have HZ0 := Lib.hid hz0
  have HZ1 := Lib.hid hz1
  have HZ2 := Lib.hid hz2
  have HM := Lib.hid (Owns.made w w.heap.size 112 4 (AnyCell) (Nat.le_refl _))
  have HMX := Lib.hid hm
  have HLL := Lib.hid hl
  have HON := Lib.hid h1
  have HKK := Lib.hid hK
  rcases h.2 with ⟨rfl, rfl, a, cap, rfl⟩ | ⟨b, off, cap, rfl, h2, h3, h4⟩
  · cases a with
    | none =>
      clear h hi hz0 hz1 hz2 hl h1 hK hm
      go_enter Tryz.func119, Tryz.ntmps119
      go_wp2
      go_ret
      exact ⟨_, rfl, Owns.nil _ _ _ _ _, Below.refl _ _⟩
    | some ad =>
      clear h hi hz0 hz1 hz2 hl h1 hK hm
      go_enter Tryz.func119, Tryz.ntmps119
      go_wp2_with (at_builtin; refine wpList_append_q _ rfl (.tmp 5) (.tmp 6) 23 rfl w.heap.size 112 i0 _ 4 48 Tryz.underlying23 HI.out HZ0.out HZ1.out HZ2.out rfl (by decide) (AnyCell) (fun _ _ => trivial) _ 0 [] rfl HM.out ad 0 cap [] rfl (by simp) (by intro j u hj; simp at hj) (by simp) (by simp) (by simp only [maxLen]; omega) (by omega) (by simp) ?_; intro v' w1 hown' hgrow; have R0 := Lib.hid hown'; have R1 := Lib.hid hgrow; clear hown' hgrow)
      go_ret
      refine ⟨_, rfl, ?_, ((Below.refl _ _).alloc (Nat.le_refl _) _).grown R1.out (by simp) (fun g hg => (HM.out.lt hg).1)⟩
      have h := R0.out
      simpa using h
  · have HN : Hid (∀ j u, xs[j]? = some u → (w.alloc (.cells #[] 112)).cell? ((⟨b, off, none⟩ : Addr).add j) = some u) := Lib.hid (fun j u hj => by
      have e : (⟨b, off, none⟩ : Addr).add j = ⟨b, off + j, none⟩ := by unfold Addr.add; split <;> simp_all
      rw [e, World.cell?_alloc_lt w _ _ h3]
      exact h4 j u hj)
    clear h hi hz0 hz1 hz2 hl h1 hK hm h2 h3 h4
    go_enter Tryz.func119, Tryz.ntmps119
    go_wp2_with (at_builtin; refine wpList_append_q _ rfl (.tmp 5) (.tmp 6) 23 rfl w.heap.size 112 i0 _ 4 48 Tryz.underlying23 HI.out HZ0.out HZ1.out HZ2.out rfl (by decide) (AnyCell) (fun _ _ => trivial) _ 0 [] rfl HM.out ⟨b, off, none⟩ n cap xs rfl HLL.out HN.out HON.out HKK.out (by have := HMX.out; simp only [maxLen]; omega) (by have := HMX.out; omega) (by simp) ?_; intro v' w1 hown' hgrow; have R0 := Lib.hid hown'; have R1 := Lib.hid hgrow; clear hown' hgrow)
    go_ret
    refine ⟨_, rfl, ?_, ((Below.refl _ _).alloc (Nat.le_refl _) _).grown R1.out (by simp) (fun g hg => (HM.out.lt hg).1)⟩
    have h := R0.out
    simpa using h
theorem cellsC_set : ∀ (l : List InsV) (Xs : List Value) (i : Nat) (X : Value), Xs.length = l.length → cellsC l (Xs.set i X) = (cellsC l Xs).set (i * 6 + 5) X
  | [], [], i, X, _ => by simp [cellsC]
  | y :: l, Z :: Xs, 0, X, h => by simp [cellsC, insList]
  | y :: l, Z :: Xs, i + 1, X, h => by
    simp only [List.set_cons_succ, cellsC]
    rw [cellsC_set l Xs i X (by simpa using h), List.set_append_right _ _ (by simp [insList]; omega)]
    congr 2
    simp [insList]
    omega
theorem cellsF_set : ∀ (l : List FunV) (Cs : List Value) (i : Nat) (C : Value), Cs.length = l.length → cellsF l (Cs.set i C) = (cellsF l Cs).set (i * 4 + 3) C
  | [], [], i, X, _ => by simp [cellsF]
  | y :: l, Z :: Xs, 0, X, h => by simp [cellsF, funList]
  | y :: l, Z :: Xs, i + 1, X, h => by
    simp only [List.set_cons_succ, cellsF]
    rw [cellsF_set l Xs i X (by simpa using h), List.set_append_right _ _ (by simp [funList]; omega)]
    congr 2
    simp [funList]
    omega
theorem set_take15 (xs : List Value) (p k : Nat) (u : Value) : (xs.set p u).take k = (xs.take k).set p u := by rw [List.take_set]
theorem Owns.setAt15 {w : World} {base : Nat} {e : TypeId} {size : Nat} {n cap g p : Nat} {xs : List Value} (h : Owns w base e size AnyCell (.slice (some ⟨g, 0, none⟩) n cap) n xs) (u : Value) :
    Owns (w.setCell ⟨g, p, none⟩ u) base e size AnyCell (.slice (some ⟨g, 0, none⟩) n cap) n (xs.set p u) := by
  refine ⟨⟨by rw [List.length_set]; exact h.1.1, ?_⟩, fun _ _ _ _ _ _ _ _ => trivial⟩
  rcases h.1.2 with ⟨h0, _⟩ | ⟨g', cap', cur, he, h1, h2, h3, h4, h5, h6⟩
  · cases h0
  · simp only [Value.slice.injEq, Option.some.injEq, Addr.mk.injEq, and_true, true_and] at he
    obtain ⟨rfl, rfl⟩ := he
    refine .inr ⟨g, cap, cur.setIfInBounds p u, rfl, h1, heap_setCell_same w g p cur _ u h2, h3, h4, by simpa using h5, ?_⟩
    rw [Array.toList_setIfInBounds, set_take15, h6]
theorem list_of15 (n : Nat) (Q : Nat → Value → Prop) (h : ∀ i, i < n → ∃ X, Q i X) : ∃ Xs : List Value, Xs.length = n ∧ ∀ i, i < n → Q i (Xs.getD i (.slice none 0 0)) := by
  classical
  refine ⟨(List.range n).map (fun i => if hi : i < n then Classical.choose (h i hi) else .slice none 0 0), by simp, fun i hi => ?_⟩
  have e : ((List.range n).map (fun i => if hi : i < n then Classical.choose (h i hi) else .slice none 0 0)).getD i (.slice none 0 0) = Classical.choose (h i hi) := by
    rw [List.getD_eq_getElem?_getD, List.getElem?_map, List.getElem?_range hi]
    simp [hi]
  rw [e]
  exact Classical.choose_spec (h i hi)
theorem code_row15 {w : World} {V : Value} {l : List InsV} (h : IsCode w w.heap.size V l) : ∃ Xs : List Value, Xs.length = l.length ∧ (∀ i, i < l.length → IsNums .i64 w w.heap.size (Xs.getD i (.slice none 0 0)) (l.getD i .zero).args) ∧ RowIn w V l.length (cellsC l Xs) := by
  rcases h.2.2 with ⟨rfl, a, cap, rfl⟩ | ⟨b, off, cap, h1, h2, h3, h4⟩
  · exact ⟨[], rfl, fun i hi => absurd hi (by simp), by simp [maxLen], .inl ⟨rfl, rfl, a, cap, rfl⟩⟩
  · obtain ⟨Xs, hl, hx⟩ := list_of15 l.length _ h4
    refine ⟨Xs, hl, fun i hi => (hx i hi).1, h.1, .inr ⟨b, off, cap, h1, h2, h3, fun j u hj => ?_⟩⟩
    have hjl : j < l.length * 6 := by
      rcases Nat.lt_or_ge j (l.length * 6) with h | h
      · exact h
      · rw [List.getElem?_eq_none (by rw [cellsC_length l Xs hl]; exact h)] at hj; cases hj
    have h5 := cellsC_at l Xs (i := j / 6) (j := j % 6) hl (by omega) (by omega)
    rw [show j / 6 * 6 + j % 6 = j by omega] at h5
    rw [h5] at hj
    injection hj with hj
    have h6 := (hx (j / 6) (by omega)).2 (j % 6) (by omega)
    rw [show off + j / 6 * 6 + j % 6 = off + j by omega] at h6
    rw [h6, hj]
theorem fun_row15 {w : World} {V : Value} {l : List FunV} (h : IsFuns w w.heap.size V l) : ∃ Cs : List Value, Cs.length = l.length ∧ (∀ i, i < l.length → IsCode w w.heap.size (Cs.getD i (.slice none 0 0)) (l.getD i .zero).code) ∧ RowIn w V l.length (cellsF l Cs) := by
  rcases h.2.2 with ⟨rfl, a, cap, rfl⟩ | ⟨b, off, cap, h1, h2, h3, h4⟩
  · exact ⟨[], rfl, fun i hi => absurd hi (by simp), by simp [maxLen], .inl ⟨rfl, rfl, a, cap, rfl⟩⟩
  · obtain ⟨Xs, hl, hx⟩ := list_of15 l.length _ h4
    refine ⟨Xs, hl, fun i hi => (hx i hi).1, h.1, .inr ⟨b, off, cap, h1, h2, h3, fun j u hj => ?_⟩⟩
    have hjl : j < l.length * 4 := by
      rcases Nat.lt_or_ge j (l.length * 4) with h | h
      · exact h
      · rw [List.getElem?_eq_none (by rw [cellsF_length l Xs hl]; exact h)] at hj; cases hj
    have h5 := cellsF_at l Xs (i := j / 4) (j := j % 4) hl (by omega) (by omega)
    rw [show j / 4 * 4 + j % 4 = j by omega] at h5
    rw [h5] at hj
    injection hj with hj
    have h6 := (hx (j / 4) (by omega)).2 (j % 4) (by omega)
    rw [show off + j / 4 * 4 + j % 4 = off + j by omega] at h6
    rw [h6, hj]
theorem nums_row15 {w : World} {X : Value} {xs : List Int} (h : IsNums .i64 w w.heap.size X xs) : RowIn w X xs.length (xs.map (Value.int .i64)) := by
  refine ⟨h.1, ?_⟩
  by_cases hn : 0 < xs.length
  · obtain ⟨b, off, cap, h1, h2, h3, h4⟩ := h.plain hn
    refine .inr ⟨b, off, cap, h1, h2, h3, fun j u hj => ?_⟩
    have hjl : j < xs.length := by
      rcases Nat.lt_or_ge j xs.length with h | h
      · exact h
      · rw [List.getElem?_eq_none (by simpa using h)] at hj; cases hj
    rw [h4 j hjl]
    simp [List.getElem?_eq_getElem hjl] at hj
    rw [← hj]
    simp [List.getD, List.getElem?_eq_getElem hjl]
  · have h0 : xs = [] := List.eq_nil_of_length_eq_zero (by omega)
    subst h0
    obtain ⟨a, cap, h1⟩ := h.len
    exact .inl ⟨rfl, rfl, a, cap, h1⟩
end Go.Proofs.YtkfdgpgildanbaaGreat
namespace Go.Proofs.YtkfdgpgildanbaaGreat
open Go.RowKit Go.Shelf
set_option linter.unusedVariables false
set_option linter.unusedSimpArgs false
theorem cellsF_one15 (fs : List FunV) (Cs : List Value) (hl : Cs.length = fs.length) (h : ∀ i, i < fs.length → (Cs.getD i (.slice none 0 0)).oneCell' = true) : ∀ u ∈ cellsF fs Cs, u.oneCell' = true := by
  intro u hu
  obtain ⟨j, hj⟩ := List.mem_iff_getElem?.1 hu
  have hjl : j < fs.length * 4 := by
    rcases Nat.lt_or_ge j (fs.length * 4) with h | h
    · exact h
    · rw [List.getElem?_eq_none (by rw [cellsF_length fs Cs hl]; exact h)] at hj; cases hj
  have h5 := cellsF_at fs Cs (i := j / 4) (j := j % 4) hl (by omega) (by omega)
  rw [show j / 4 * 4 + j % 4 = j by omega, hj] at h5
  injection h5 with h5
  rw [h5]
  rcases (show j % 4 = 0 ∨ j % 4 = 1 ∨ j % 4 = 2 ∨ j % 4 = 3 by omega) with e | e | e | e <;> rw [e]
  · rfl
  · rfl
  · rfl
  · exact h _ (by omega)
theorem cellsC_one15 (fs : List InsV) (Cs : List Value) (hl : Cs.length = fs.length) (h : ∀ i, i < fs.length → (Cs.getD i (.slice none 0 0)).oneCell' = true) : ∀ u ∈ cellsC fs Cs, u.oneCell' = true := by
  intro u hu
  obtain ⟨j, hj⟩ := List.mem_iff_getElem?.1 hu
  have hjl : j < fs.length * 6 := by
    rcases Nat.lt_or_ge j (fs.length * 6) with h | h
    · exact h
    · rw [List.getElem?_eq_none (by rw [cellsC_length fs Cs hl]; exact h)] at hj; cases hj
  have h5 := cellsC_at fs Cs (i := j / 6) (j := j % 6) hl (by omega) (by omega)
  rw [show j / 6 * 6 + j % 6 = j by omega, hj] at h5
  injection h5 with h5
  rw [h5]
  rcases (show j % 6 = 0 ∨ j % 6 = 1 ∨ j % 6 = 2 ∨ j % 6 = 3 ∨ j % 6 = 4 ∨ j % 6 = 5 by omega) with e | e | e | e | e | e <;> rw [e]
  · rfl
  · rfl
  · rfl
  · rfl
  · rfl
  · exact h _ (by omega)
structure Cl15 (w W : World) (ob : Nat) (DV FV : Value) (data : List Int) (fs : List FunV) (Cs : List Value) : Prop where
  box : W.heap[ob]? = some (.cells #[DV, FV] 25 (0, 0))
  res : W.heap[w.heap.size + 1]? = some (.cells #[.slice none 0 0, .slice none 0 0] 25 (0, 0))
  dat : OwnB w.heap.size W DV data
  row : Owns W w.heap.size 112 4 AnyCell FV fs.length (cellsF fs Cs)
  ob : w.heap.size + 2 ≤ ob
  bel : Below w.heap.size w W
theorem cl_end15 {w w2 : World} {ob : Nat} {v1 v2 : Value} {data : List Int} {fs : List FunV} {Cs : List Value} (hx : w2.heap[ob]? = some (.cells #[.slice none 0 0, .slice none 0 0] 25 (0, 0))) (hr : w2.heap[w.heap.size + 1]? = some (.cells #[.slice none 0 0, .slice none 0 0] 25 (0, 0)))
    (h1 : OwnB w.heap.size w2 v1 data) (h2 : Owns w2 w.heap.size 112 4 AnyCell v2 fs.length (cellsF fs Cs)) (ho : w.heap.size + 2 ≤ ob) (hb : Below w.heap.size w w2) : Cl15 w ((w2.setCell ⟨ob, 0, none⟩ v1).setCell ⟨ob, 1, none⟩ v2) ob v1 v2 data fs Cs := by
  have hb2 := but_box15 (one_but15 w2 ob 0 v1) 1 v2
  refine ⟨heap_setCell_same _ ob 1 _ _ v2 (heap_setCell_same w2 ob 0 _ _ v1 hx), hb2.heap hr (fun e => by have e' : w.heap.size + 1 = ob := e; omega), h1.but' hb2 (fun g hg e => ?_), h2.but hb2 (fun g hg e => ?_), ho, hb2.below hb (Nat.le_of_lt (Nat.lt_of_le_of_lt (by omega) (heap_lt hr))) (fun k hk => by have e' : k = ob := hk; omega)⟩
  · have e' : g = ob := e
    subst e'
    obtain ⟨c, hc⟩ := h1.blk hg
    exact types14 hc hx (by decide)
  · have e' : g = ob := e
    subst e'
    obtain ⟨_, c, hc⟩ := typed14 h2 hg
    exact types14 hc hx (by decide)
theorem cl_new15 {w w2 : World} {v1 v2 : Value} {data : List Int} {fs : List FunV} {Cs : List Value} (hr : w2.heap[w.heap.size + 1]? = some (.cells #[.slice none 0 0, .slice none 0 0] 25 (0, 0)))
    (h1 : OwnB w.heap.size w2 v1 data) (h2 : Owns w2 w.heap.size 112 4 AnyCell v2 fs.length (cellsF fs Cs)) (hb : Below w.heap.size w w2) : Cl15 w (w2.alloc (.cells #[v1, v2] 25)) w2.heap.size v1 v2 data fs Cs := by
  have hb2 := below_one14 w2 (.cells #[v1, v2] 25)
  have hb3 := But.of_below (R := NoBlock) hb2
  exact ⟨heap_alloc_new _ _, hb3.heap hr (fun h => h), h1.but' hb3 (fun _ _ h => h), h2.but hb3 (fun _ _ h => h), by have := heap_lt hr; omega, hb.trans (hb2.mono hb.size)⟩
theorem ownC_fun15 {W W' : World} {V : Value} {l : List InsV} {Xs : List Value} {g : Nat} {c : Array Value} {T : TypeId} (h : OwnC 0 W V l Xs) (hb : But (OneBlock g) W W') (hx : W.heap[g]? = some (.cells c T (0, 0))) (h1 : 115 ≠ T) (h2 : 3 ≠ T) : OwnC 0 W' V l Xs :=
  h.but hb (fun k hk e => by
    have e' : k = g := e
    subst e'
    obtain ⟨_, c', hc⟩ := typed14 h.own hk
    exact types14 hc hx h1) (fun i hi k hk e => by
    have e' : k = g := e
    subst e'
    obtain ⟨_, c', hc⟩ := typed14 (h.nums i hi) hk
    exact types14 hc hx h2)
theorem Cl15.grow {w W W' : World} {ob : Nat} {DV FV : Value} {data : List Int} {fs : List FunV} {Cs : List Value} (h : Cl15 w W ob DV FV data fs Cs) (hb : Below W.heap.size W W') : Cl15 w W' ob DV FV data fs Cs :=
  ⟨(hb.block _ (heap_lt h.box)).trans h.box, (hb.block _ (heap_lt h.res)).trans h.res, h.dat.but' (But.of_below (R := NoBlock) hb) (fun _ _ h => h), h.row.below hb (Nat.le_refl _), h.ob, h.bel.trans (hb.mono h.bel.size)⟩
theorem Cl15.put {w W : World} {ob f g n cap : Nat} {DV C : Value} {data : List Int} {fs : List FunV} {Cs : List Value} (h : Cl15 w W ob DV (.slice (some ⟨g, 0, none⟩) fs.length cap) data fs Cs) (hl : Cs.length = fs.length) : Cl15 w (W.setCell ⟨g, f * 4 + 3, none⟩ C) ob DV (.slice (some ⟨g, 0, none⟩) fs.length cap) data fs (Cs.set f C) := by
  have hb := one_but15 W g (f * 4 + 3) C
  obtain ⟨hg, c, hc⟩ := typed14 h.row (g := g) rfl
  refine ⟨hb.heap h.box (fun e => ?_), hb.heap h.res (fun e => ?_), h.dat.but' hb (fun k hk e => ?_), ?_, h.ob, hb.below h.bel h.bel.size (fun k hk => by have e' : k = g := hk; omega)⟩
  · have e' : ob = g := e
    subst e'
    exact types14 hc h.box (by decide)
  · have e' : w.heap.size + 1 = g := e
    rw [← e'] at hc
    exact types14 hc h.res (by decide)
  · have e' : k = g := e
    subst e'
    obtain ⟨c', hc'⟩ := h.dat.blk hk
    exact types14 hc hc' (by decide)
  · rw [cellsF_set fs Cs f C hl]
    exact h.row.setAt15 C
def ClDone (w : World) (data : List Int) (fs : List FunV) (e : Ending) (w' : World) : Prop :=
  ∃ D' F' Cs, e = .returned (.agg #[D', F']) ∧ OwnB w.heap.size w' D' data ∧ OwnF 112 0 w' F' fs Cs ∧ (∀ g, F'.ownBlock = some g → w.heap.size ≤ g) ∧ Below w.heap.size w w'
set_option maxRecDepth 100000 in
set_option maxHeartbeats 8000000 in
theorem cloned15 (D F : Value) (data : List Int) (fs : List FunV) (w : World) (hD : IsBytes w w.heap.size D data) (hF : IsFuns w w.heap.size F fs) (hl : data.length ≤ 1000000) (hfl : fs.length ≤ 1000000) (hcl : ∀ f ∈ fs, f.code.length ≤ 1000000 ∧ ∀ y ∈ f.code, y.args.length ≤ 1000000) :
    Calls Tryz.prog 57 #[.agg #[D, F]] w (ClDone w data fs) := by
  obtain ⟨Cs0, hC0, hC1, hC2⟩ := fun_row15 hF
  obtain ⟨DA, dc, rfl⟩ := hD.len
  obtain ⟨FA, fc, rfl⟩ := hF.len
  obtain ⟨W0, hW0⟩ : ∃ W0, W0 = (w.alloc (.cells #[.slice DA data.length dc, .slice FA fs.length fc] 25)).alloc (.cells #[.slice none 0 0, .slice none 0 0] 25) := ⟨_, rfl⟩
  have HW := Lib.hid hW0
  obtain ⟨hB, hx, hy⟩ := two_alloc14 w #[.slice DA data.length dc, .slice FA fs.length fc] #[.slice none 0 0, .slice none 0 0] 25 25
  rw [← hW0] at hB hx hy
  have HB := Lib.hid hB
  have HX := Lib.hid hx
  have HY := Lib.hid hy
  have HCB := Lib.hid (fun W (hb : Below w.heap.size w W) => cloneB14 _ data W (hD.grow hb) (by omega))
  have HCF := Lib.hid (fun W (hb : Below w.heap.size w W) => cloneF15 _ fs.length (cellsF fs Cs0) W (hC2.grow hb) (cellsF_length fs Cs0 hC0) (cellsF_one15 fs Cs0 hC0 (fun i hi => by obtain ⟨a, c, h⟩ := (hC1 i hi).len; rw [h]; rfl)) (fun _ _ => trivial) (by omega))
  obtain ⟨n, hn⟩ : ∃ n, n = fs.length := ⟨_, rfl⟩
  have HN := Lib.hid hn
  obtain ⟨x0, x1⟩ := cells2_14 hx
  have HLT : Hid (w.heap.size + 2 = W0.heap.size) := Lib.hid (by rw [hW0]; simp)
  have HC1 := Lib.hid hC1
  have HCC := Lib.hid hcl
  have HFB := Lib.hid hF.2.1
  have HC0 := Lib.hid hC0
  obtain ⟨Wd, hWd⟩ : ∃ Wd, Wd = W0.drew := ⟨_, rfl⟩
  have HBd : Hid (Below w.heap.size w Wd) := Lib.hid (by rw [hWd]; exact hB.trans ((Below.refl _ W0).drew.mono hB.size))
  have HYd : Hid (Wd.heap[w.heap.size + 1]? = some (.cells #[.slice none 0 0, .slice none 0 0] 25 (0, 0))) := Lib.hid (by rw [hWd]; exact hy)
  have HXd : Hid (Wd.heap[w.heap.size]? = some (.cells #[.slice DA data.length dc, .slice FA fs.length fc] 25 (0, 0))) := Lib.hid (by rw [hWd]; exact hx)
  have HDB := Lib.hid hD.1
  have HDL := Lib.hid hl
  have HSZ : Hid (Wd.heap.size = w.heap.size + 2) := Lib.hid (by rw [hWd, hW0]; simp)
  have HWD := Lib.hid hWd
  have HBa : Hid (Below w.heap.size w ((W0.alloc (.cells #[.slice none 0 0, .slice none 0 0] 25)).drew) ∧ Below Wd.heap.size Wd ((W0.alloc (.cells #[.slice none 0 0, .slice none 0 0] 25)).drew)) := Lib.hid (by
    have h1 := (below_one14 W0 (.cells #[.slice none 0 0, .slice none 0 0] 25)).trans ((Below.refl _ (W0.alloc (.cells #[.slice none 0 0, .slice none 0 0] 25))).drew.mono (below_one14 W0 (.cells #[.slice none 0 0, .slice none 0 0] 25)).size)
    refine ⟨hB.trans (h1.mono hB.size), ?_⟩
    rw [hWd]
    exact ⟨h1.os, h1.tape, h1.output, h1.size, h1.block⟩)
  have KC : Hid (∀ W, Below Wd.heap.size Wd W → W.cell? ⟨w.heap.size, 0, none⟩ = some (.slice DA data.length dc) ∧ W.cell? ⟨w.heap.size, 1, none⟩ = some (.slice FA fs.length fc) ∧ W.heap[w.heap.size + 1]? = some (.cells #[.slice none 0 0, .slice none 0 0] 25 (0, 0))) := Lib.hid (fun W hb => by
    have h1 := (hb.block _ (heap_lt HXd.out)).trans HXd.out
    exact ⟨(cells2_14 h1).1, (cells2_14 h1).2, (hb.block _ (heap_lt HYd.out)).trans HYd.out⟩)
  have hne : w.heap.size ≠ Wd.heap.size := by have := HSZ.out; omega
  clear hC0 hC1 hC2 hB hx hy hW0 hD hF hl hcl x0 x1 hWd hn
  go_enter Tryz.func57, Tryz.ntmps57
  go_upto_region 1 with fail
  rw [← HW.out]
  obtain ⟨x0, x1⟩ := cells2_14 HX.out
  go_cut [3] from 3 to 50 (fun s3 wx => ∃ ob DV FV, s3 = .pointer (some ⟨ob, 0, none⟩) ∧ Hid (Cl15 w wx ob DV FV data fs Cs0))
  case first =>
   go_region_held3 (fun W => W.cell? ⟨w.heap.size, 0, none⟩ = some (.slice DA data.length dc) ∧ W.cell? ⟨w.heap.size, 1, none⟩ = some (.slice FA fs.length fc))
    (first | with_reducible exact K2.out | with_reducible exact K1.out | (rw [← HWD.out]; exact ⟨(KC.out _ (Below.refl _ _)).1, (KC.out _ (Below.refl _ _)).2.1⟩) | go_keep)
    (first
      | (go_at_call 58; (rw [← HWD.out]; with_reducible refine (HCB.out _ HBd.out).mono ?_); rintro e w1 ⟨v1, rfl, ho, hb⟩; have O1 := Lib.hid (OwnB.of_owns (ho.base HBd.out.size) HDB.out (by have := HDL.out; omega)); obtain ⟨vA, va, hve⟩ := O1.out.len; subst hve; have B1 := Lib.hid hb; have C1 := Lib.hid (HBd.out.trans (hb.mono HBd.out.size)); have K1 := Lib.hid (KC.out _ hb); obtain ⟨x2, x3, x4⟩ := KC.out _ hb; have K1 : Hid (w1.cell? ⟨w.heap.size, 0, none⟩ = some (.slice DA data.length dc) ∧ w1.cell? ⟨w.heap.size, 1, none⟩ = some (.slice FA fs.length fc)) := Lib.hid ⟨x2, x3⟩; clear ho hb)
      | (go_at_call 58; (with_reducible refine (HCB.out ((W0.alloc (.cells #[.slice none 0 0, .slice none 0 0] 25)).drew) HBa.out.1).mono ?_); rintro e w1 ⟨v1, rfl, ho, hb⟩; have O1 := Lib.hid (OwnB.of_owns (ho.base HBa.out.1.size) HDB.out (by have := HDL.out; omega)); obtain ⟨vA, va, hve⟩ := O1.out.len; subst hve; have hb' := HBa.out.2.trans (hb.mono HBa.out.2.size); have B1 := Lib.hid hb'; have C1 := Lib.hid (HBd.out.trans (hb'.mono HBd.out.size)); obtain ⟨x2, x3, x4⟩ := KC.out _ hb'; have K1 : Hid (w1.cell? ⟨w.heap.size, 0, none⟩ = some (.slice DA data.length dc) ∧ w1.cell? ⟨w.heap.size, 1, none⟩ = some (.slice FA fs.length fc)) := Lib.hid ⟨x2, x3⟩; have QB1 : Hid (w1.heap[W0.heap.size]? = some (.cells #[.slice none 0 0, .slice none 0 0] 25 (0, 0))) := Lib.hid ((hb.block _ (heap_lt (show ((W0.alloc (.cells #[.slice none 0 0, .slice none 0 0] 25)).drew).heap[W0.heap.size]? = _ from heap_alloc_new W0 (.cells #[.slice none 0 0, .slice none 0 0] 25)))).trans (show ((W0.alloc (.cells #[.slice none 0 0, .slice none 0 0] 25)).drew).heap[W0.heap.size]? = _ from heap_alloc_new W0 (.cells #[.slice none 0 0, .slice none 0 0] 25))); clear ho hb hb')
      | (go_at_call 119; (have hqb := QB1.out; clear hqb; with_reducible refine (HCF.out _ C1.out).mono ?_); rintro e w2 ⟨v2, rfl, ho, hb⟩; have O2 := Lib.hid (ho.base C1.out.size); obtain ⟨vB, vb, hve⟩ := owns_len14 ho; subst hve; have B2 := Lib.hid hb; have C2 := Lib.hid (C1.out.trans (hb.mono C1.out.size)); have B02 := Lib.hid (B1.out.trans (hb.mono B1.out.size)); obtain ⟨x5, x6, x7⟩ := KC.out _ B02.out; have K2 : Hid (w2.cell? ⟨w.heap.size, 0, none⟩ = some (.slice DA data.length dc) ∧ w2.cell? ⟨w.heap.size, 1, none⟩ = some (.slice FA fs.length fc)) := Lib.hid ⟨x5, x6⟩; have Q2 := Lib.hid ((hb.block _ (heap_lt QB1.out)).trans QB1.out); obtain ⟨y0, y1⟩ := cells2_14 Q2.out; have f0 := frozen_of_row w2 W0.heap.size 0 _ _ Q2.out; have f1 := frozen_of_row w2 W0.heap.size 1 _ _ Q2.out; have hnw : W0.heap.size ≠ w.heap.size := by { have h2 := HLT.out; omega }; clear ho hb)
      | (go_at_call 119; (with_reducible refine (HCF.out _ C1.out).mono ?_); rintro e w2 ⟨v2, rfl, ho, hb⟩; have O2 := Lib.hid (ho.base C1.out.size); obtain ⟨vB, vb, hve⟩ := owns_len14 ho; subst hve; have B2 := Lib.hid hb; have C2 := Lib.hid (C1.out.trans (hb.mono C1.out.size)); have B02 := Lib.hid (B1.out.trans (hb.mono B1.out.size)); obtain ⟨x5, x6, x7⟩ := KC.out _ B02.out; have K2 : Hid (w2.cell? ⟨w.heap.size, 0, none⟩ = some (.slice DA data.length dc) ∧ w2.cell? ⟨w.heap.size, 1, none⟩ = some (.slice FA fs.length fc)) := Lib.hid ⟨x5, x6⟩; clear ho hb)
      | (go_at_call 119; (with_reducible refine (HCF.out (w1.alloc (.cells #[.slice none 0 0, .slice none 0 0] 25)) (C1.out.trans ((below_one14 w1 _).mono C1.out.size))).mono ?_); rintro e w2 ⟨v2, rfl, ho, hb⟩; have O2 := Lib.hid (ho.base (Nat.le_trans C1.out.size (below_one14 w1 (.cells #[.slice none 0 0, .slice none 0 0] 25)).size)); obtain ⟨vB, vb, hve⟩ := owns_len14 ho; subst hve; have hb' := (below_one14 w1 (.cells #[.slice none 0 0, .slice none 0 0] 25)).trans (hb.mono (below_one14 w1 _).size); have B2 := Lib.hid hb'; have C2 := Lib.hid (C1.out.trans (hb'.mono C1.out.size)); have B02 := Lib.hid (B1.out.trans (hb'.mono B1.out.size)); obtain ⟨x5, x6, x7⟩ := KC.out _ B02.out; have K2 : Hid (w2.cell? ⟨w.heap.size, 0, none⟩ = some (.slice DA data.length dc) ∧ w2.cell? ⟨w.heap.size, 1, none⟩ = some (.slice FA fs.length fc)) := Lib.hid ⟨x5, x6⟩; have Q2 := Lib.hid ((hb.block _ (heap_lt (heap_alloc_new w1 (.cells #[.slice none 0 0, .slice none 0 0] 25)))).trans (heap_alloc_new w1 (.cells #[.slice none 0 0, .slice none 0 0] 25))); obtain ⟨y0, y1⟩ := cells2_14 Q2.out; have f0 := frozen_of_row w2 w1.heap.size 0 _ _ Q2.out; have f1 := frozen_of_row w2 w1.heap.size 1 _ _ Q2.out; have hnw : w1.heap.size ≠ w.heap.size := by { have h1 := B1.out.size; have h2 := HSZ.out; omega }; clear ho hb hb'))
   all_goals
    have D2 := O1.out.but' (R := NoBlock) (But.of_below B2.out) (fun _ _ h => h)
    have hsz := HLT.out
    have hs1 := B1.out.size
    have hs0 := HSZ.out
    go_wp2
    go_meet
    case rel => first
      | exact ⟨_, _, _, rfl, Lib.hid (cl_new15 x7 D2 O2.out C2.out)⟩
      | exact ⟨_, _, _, rfl, Lib.hid (cl_end15 Q2.out x7 D2 O2.out (by omega) C2.out)⟩
  case rest =>
    obtain ⟨ob, DV, FV, rfl, HCL⟩ := hcut
    clear x0 x1 hne HSZ HWD HBd HYd HXd KC HBa HLT HX HY HCB HCF HB HW
    obtain ⟨vB, vb, hve⟩ := owns_len14 HCL.out.row
    obtain ⟨vA, va, hva⟩ := HCL.out.dat.len
    subst hve hva
    obtain ⟨z0, z1⟩ := cells2_14 HCL.out.box
    go_upto_region 3 with fail
    rw [← HN.out]
    clear z0 z1
    have HNN := Lib.hid hfl
    rw [← HN.out] at hfl
    go_loopw [4, 5, 6, 17] (fun _ _ _ v17 wr => ∃ (f : Nat) (Cs : List Value), v17 = .int .i64 f ∧ f ≤ n ∧ Hid (Cl15 w wr ob (.slice vA data.length va) (.slice vB fs.length vb) data fs Cs) ∧ Hid (Cs.length = fs.length ∧ (∀ i, i < f → ∃ Xs, OwnC 0 wr (Cs.getD i (.slice none 0 0)) (fs.getD i .zero).code Xs) ∧ (∀ i, f ≤ i → Cs.getD i (.slice none 0 0) = Cs0.getD i (.slice none 0 0)))) (fun _ _ _ v17 _ => n - (intOf v17).toNat)
    case atStart => exact ⟨0, Cs0, rfl, by omega, HCL, Lib.hid ⟨HC0.out, fun i hi => absurd hi (by omega), fun i _ => rfl⟩⟩
    case round =>
      obtain ⟨f, Cs, rfl, hf, HC, HQ⟩ := hrel
      clear HCL
      by_cases hlt : f < n
      · have hff : f < fs.length := by rw [← HN.out]; exact hlt
        obtain ⟨gF, hgF, kc⟩ : ∃ gF, vB = some ⟨gF, 0, none⟩ ∧ wr.cell? ⟨gF, f * 4 + 3, none⟩ = some (Cs0.getD f (.slice none 0 0)) := by
          rcases HC.out.row.1.2 with ⟨h1, h2⟩ | ⟨g, cap, cur, h1, h2, h3, h4, h5, h6, h7⟩
          · omega
          · injection h1 with h1 _ _
            have h8 := HC.out.row.1.cells (g := g) (by rw [h1]; rfl) (f * 4 + 3) _ (cellsF_at fs Cs HQ.out.1 hff (by decide))
            have e : (⟨g, 0, none⟩ : Addr).add (f * 4 + 3) = ⟨g, f * 4 + 3, none⟩ := by unfold Addr.add; split <;> simp_all
            rw [e] at h8
            exact ⟨g, h1, by rw [h8, ← HQ.out.2.2 f (Nat.le_refl _)]; rfl⟩
        subst hgF
        have hcode := HC1.out f hff
        have hcd := HCC.out (fs.getD f .zero) (by rw [List.getD_eq_getElem?_getD, List.getElem?_eq_getElem hff]; exact List.getElem_mem _)
        obtain ⟨cd, hcdd⟩ : ∃ cd, cd = (fs.getD f .zero).code := ⟨_, rfl⟩
        have HCD := Lib.hid hcdd
        rw [← hcdd] at hcode hcd
        obtain ⟨cA, cc, hce⟩ := hcode.len
        rw [hce] at kc
        have hcode2 := hcode.below HC.out.bel (Nat.le_refl _) (Nat.le_refl _)
        have hcode3 := hcode2.more HC.out.bel.size
        rw [hce] at hcode3
        obtain ⟨Xs0, hX0, hX1, hX2⟩ := code_row15 hcode3
        have HCLC := Lib.hid (cloneC15 _ cd.length (cellsC cd Xs0) wr hX2 (cellsC_length cd Xs0 hX0) (cellsC_one15 cd Xs0 hX0 (fun i hi => by obtain ⟨a, c, h⟩ := (hX1 i hi).len; rw [h]; rfl)) (fun _ _ => trivial) (by omega))
        have HX0 := Lib.hid hX0
        have HX1 := Lib.hid hX1
        have HCY := Lib.hid hcd
        obtain ⟨Wo, hWo⟩ : ∃ Wo, Wo = wr := ⟨_, rfl⟩
        obtain ⟨z0, z1⟩ := cells2_14 HC.out.box
        have hinn : ∀ y ∈ cd, InsB y := hcode.2.1
        have HINN := Lib.hid hinn
        obtain ⟨m, hm⟩ : ∃ m, m = cd.length := ⟨_, rfl⟩
        have HM := Lib.hid hm
        rw [← hm] at kc HCLC
        have hml : m ≤ 1000000 := by rw [hm]; exact hcd.1
        have i0 : (0 : Int) ≤ (f : Int) := by omega
        have i1 : (f : Int) < (fs.length : Int) := by omega
        have HFF := Lib.hid hlt
        have HLF := Lib.hid hff
        clear hcode hcd hcdd hce hcode2 hcode3 hX0 hX1 hX2 hinn hm hff hlt
        go_upto_region 7 with (go_at_call 120; (with_reducible refine HCLC.out.mono ?_); rintro e w2 ⟨CV, rfl, ho, hb⟩; obtain ⟨gA, gc, hge⟩ := owns_len14 ho; subst hge; have O2 := Lib.hid ho; have B2 := Lib.hid hb; clear ho hb)
        clear z0 z1 kc
        rw [← hWo] at O2 B2 HX1 HC HQ
        have HO2 := Lib.hid O2.out
        go_loopw [6, 29] (fun _ v29 wr => ∃ (i : Nat) (Xs : List Value), v29 = .int .i64 i ∧ i ≤ m ∧ Hid (Owns wr Wo.heap.size 115 6 AnyCell (.slice gA m gc) m (cellsC cd Xs) ∧ Xs.length = cd.length ∧ Below Wo.heap.size Wo wr) ∧ Hid ((∀ j, j < i → OutN 0 wr (Xs.getD j (.slice none 0 0)) (cd.getD j .zero).args) ∧ (∀ j, i ≤ j → Xs.getD j (.slice none 0 0) = Xs0.getD j (.slice none 0 0)))) (fun _ v29 _ => m - (intOf v29).toNat)
        case atStart => exact ⟨0, Xs0, rfl, by omega, Lib.hid ⟨O2.out, HX0.out, B2.out⟩, Lib.hid ⟨fun j hj => absurd hj (by omega), fun j _ => rfl⟩⟩
        case round =>
          obtain ⟨i, Xs, rfl, hi, HO, HR⟩ := hrel
          clear O2 B2 HO2
          by_cases hlt : i < m
          · have hic : i < cd.length := by rw [← HM.out]; exact hlt
            obtain ⟨gC, hgC, kx⟩ : ∃ gC, gA = some ⟨gC, 0, none⟩ ∧ wr.cell? ⟨gC, i * 6 + 5, none⟩ = some (Xs0.getD i (.slice none 0 0)) := by
              rcases HO.out.1.1.2 with ⟨h1, h2⟩ | ⟨g, cap, cur, h1, h2, h3, h4, h5, h6, h7⟩
              · omega
              · injection h1 with h1 _ _
                have h8 := HO.out.1.1.cells (g := g) (by rw [h1]; rfl) (i * 6 + 5) _ (cellsC_at cd Xs HO.out.2.1 hic (by decide))
                have e : (⟨g, 0, none⟩ : Addr).add (i * 6 + 5) = ⟨g, i * 6 + 5, none⟩ := by unfold Addr.add; split <;> simp_all
                rw [e] at h8
                exact ⟨g, h1, by rw [h8, ← HR.out.2 i (Nat.le_refl _)]; rfl⟩
            subst hgC
            have hnm := HX1.out i hic
            have hna := HCY.out.2 (cd.getD i .zero) (by rw [List.getD_eq_getElem?_getD, List.getElem?_eq_getElem hic]; exact List.getElem_mem _)
            obtain ⟨ar, har⟩ : ∃ ar, ar = (cd.getD i .zero).args := ⟨_, rfl⟩
            have HAR := Lib.hid har
            rw [← har] at hnm hna
            obtain ⟨xA, xc, hxe⟩ := hnm.len
            rw [hxe] at kx hnm
            have hnm2 := (hnm.below HO.out.2.2 (Nat.le_refl _)).more HO.out.2.2.size
            have HCI := Lib.hid (cloneI15 _ ar.length (ar.map (Value.int .i64)) wr (nums_row15 hnm2) (by simp) (ints_oneCell _ _) (num_cells .i64 ar) (by omega))
            have HIM := Lib.hid hlt
            have j0 : (0 : Int) ≤ (i : Int) := by omega
            have j1 : (i : Int) < (m : Int) := by omega
            obtain ⟨cur0, hcur⟩ : ∃ cur, wr.heap[gC]? = some (.cells cur 115 (0, 0)) := (typed14 HO.out.1 (g := gC) rfl).2
            have HCU := Lib.hid hcur
            obtain ⟨al, hal⟩ : ∃ al, al = ar.length := ⟨_, rfl⟩
            have HAL := Lib.hid hal
            rw [← hal] at HCI kx
            clear hnm hnm2 hna har hxe hic hcur hal
            go_wp2_with (go_at_call 121; (with_reducible refine HCI.out.mono ?_); rintro e w3 ⟨Y, rfl, ho, hb⟩; obtain ⟨yA, yc, hye⟩ := owns_len14 ho; subst hye; have OY := Lib.hid ho; have BY := Lib.hid hb; have hx3 := (hb.block _ (heap_lt HCU.out)).trans HCU.out; have HX3 := Lib.hid hx3; have hO3 := HO.out.1.below hb (Nat.le_refl _); have HO3 := Lib.hid hO3; have ky : ∃ u, w3.cell? ⟨gC, i * 6 + 5, none⟩ = some u := ⟨_, (hb.cell (p := ⟨gC, i * 6 + 5, none⟩) (heap_lt HCU.out)).trans kx⟩; obtain ⟨ku, hku⟩ := ky; have gz := frozen_of_row w3 gC (i * 6 + 5) _ _ hx3; clear ho hb hx3 hO3)
            have hset := HO3.out.setAt15 (p := i * 6 + 5) (.slice yA al yc)
            rw [← cellsC_set cd Xs i _ HO.out.2.1] at hset
            have hbb := one_but15 w3 gC (i * 6 + 5) (.slice yA al yc)
            have hnb : ∀ (V : Value) (xs : List Int), OutN 0 w3 V xs → OutN 0 (w3.setCell ⟨gC, i * 6 + 5, none⟩ (.slice yA al yc)) V xs := fun V xs h => Owns.but h hbb (fun g hg e => by
              have e' : g = gC := e
              subst e'
              obtain ⟨_, c, hc⟩ := typed14 h hg
              exact types14 hc HX3.out (by decide))
            have HN1 : Hid (∀ j, j < i + 1 → OutN 0 (w3.setCell ⟨gC, i * 6 + 5, none⟩ (.slice yA al yc)) ((Xs.set i (.slice yA al yc)).getD j (.slice none 0 0)) (cd.getD j .zero).args) := Lib.hid (fun j hj => by
              by_cases hji : j = i
              · subst hji
                rw [List.getD_eq_getElem?_getD, List.getElem?_set_self (by rw [HO.out.2.1, ← HM.out]; exact HIM.out)]
                refine hnb _ _ ?_
                rw [← HAR.out]
                have h := OY.out.base (Nat.zero_le _)
                unfold OutN
                rw [← HAL.out]
                exact h
              · rw [List.getD_eq_getElem?_getD, List.getElem?_set_ne (fun e => hji e.symm), ← List.getD_eq_getElem?_getD]
                exact hnb _ _ (Owns.below (HR.out.1 j (by omega)) BY.out (Nat.le_refl _)))
            have HN2 : Hid (∀ j, i + 1 ≤ j → (Xs.set i (.slice yA al yc)).getD j (.slice none 0 0) = Xs0.getD j (.slice none 0 0)) := Lib.hid (fun j hj => by
              rw [List.getD_eq_getElem?_getD, List.getElem?_set_ne (by omega), ← List.getD_eq_getElem?_getD]
              exact HR.out.2 j (by omega))
            have HN3 : Hid (Owns (w3.setCell ⟨gC, i * 6 + 5, none⟩ (.slice yA al yc)) Wo.heap.size 115 6 AnyCell (.slice (some ⟨gC, 0, none⟩) m gc) m (cellsC cd (Xs.set i (.slice yA al yc))) ∧ (Xs.set i (.slice yA al yc)).length = cd.length ∧ Below Wo.heap.size Wo (w3.setCell ⟨gC, i * 6 + 5, none⟩ (.slice yA al yc))) := Lib.hid ⟨hset, by rw [List.length_set]; exact HO.out.2.1, hbb.below (HO.out.2.2.trans (BY.out.mono HO.out.2.2.size)) (Nat.le_trans HO.out.2.2.size BY.out.size) (fun k hk => by have e' : k = gC := hk; rw [e']; exact (HO.out.1.lt rfl).1)⟩
            clear hset hbb hnb
            go_roundw
            case rel => exact ⟨i + 1, _, by first | rfl | go_num, by have := HIM.out; omega, HN3, Lib.hid ⟨HN1.out, HN2.out⟩⟩
            case measure => have := HIM.out; simp [intOf]; omega
          · have him : m = i := by omega
            have hown : OwnC 0 wr (.slice gA m gc) cd Xs := ⟨by rw [← HM.out]; exact HO.out.1.base (Nat.zero_le _), HO.out.2.1, HINN.out, fun j hj => HR.out.1 j (by rw [← him, HM.out]; exact hj)⟩
            have HOW := Lib.hid hown
            have HBW := Lib.hid HO.out.2.2
            obtain ⟨cur0, hcur⟩ : ∃ cur, Wo.heap[gF]? = some (.cells cur 112 (0, 0)) := (typed14 HC.out.row (g := gF) rfl).2
            have hcur2 := (HBW.out.block _ (heap_lt hcur)).trans hcur
            have HCU := Lib.hid hcur2
            have hbx := (HBW.out.block _ (heap_lt HC.out.box)).trans HC.out.box
            have HBX := Lib.hid hbx
            obtain ⟨z0, z1⟩ := cells2_14 hbx
            have gz := frozen_of_row wr gF (f * 4 + 3) _ _ hcur2
            have kz : ∃ u, wr.cell? ⟨gF, f * 4 + 3, none⟩ = some u := by
              have h8 := HC.out.row.1.cells (g := gF) rfl (f * 4 + 3) _ (cellsF_at fs Cs HQ.out.1 HLF.out (by decide))
              have e : (⟨gF, 0, none⟩ : Addr).add (f * 4 + 3) = ⟨gF, f * 4 + 3, none⟩ := by unfold Addr.add; split <;> simp_all
              rw [e] at h8
              exact ⟨_, (HBW.out.cell (p := ⟨gF, f * 4 + 3, none⟩) (heap_lt hcur)).trans h8⟩
            obtain ⟨ku, hku⟩ := kz
            clear hcur hcur2 hbx hown him
            go_wp2
            have HC4 := Lib.hid ((HC.out.grow HBW.out).put (n := n) (f := f) (C := .slice gA m gc) HQ.out.1)
            have hb1 := one_but15 wr gF (f * 4 + 3) (.slice gA m gc)
            have HQ4 : Hid ((Cs.set f (.slice gA m gc)).length = fs.length ∧ (∀ i, i < f + 1 → ∃ Xs, OwnC 0 (wr.setCell ⟨gF, f * 4 + 3, none⟩ (.slice gA m gc)) ((Cs.set f (.slice gA m gc)).getD i (.slice none 0 0)) (fs.getD i .zero).code Xs) ∧ (∀ i, f + 1 ≤ i → (Cs.set f (.slice gA m gc)).getD i (.slice none 0 0) = Cs0.getD i (.slice none 0 0))) := Lib.hid (by
              refine ⟨by rw [List.length_set]; exact HQ.out.1, fun i hi => ?_, fun i hi => ?_⟩
              · by_cases hif : i = f
                · subst hif
                  rw [List.getD_eq_getElem?_getD, List.getElem?_set_self (by rw [HQ.out.1]; exact HLF.out)]
                  exact ⟨Xs, by rw [← HCD.out]; exact ownC_fun15 HOW.out hb1 HCU.out (by decide) (by decide)⟩
                · rw [List.getD_eq_getElem?_getD, List.getElem?_set_ne (fun e => hif e.symm), ← List.getD_eq_getElem?_getD]
                  obtain ⟨Ys, hY⟩ := HQ.out.2.1 i (by omega)
                  exact ⟨Ys, ownC_fun15 (hY.below HBW.out (Nat.le_refl _)) hb1 HCU.out (by decide) (by decide)⟩
              · rw [List.getD_eq_getElem?_getD, List.getElem?_set_ne (by omega), ← List.getD_eq_getElem?_getD]
                exact HQ.out.2.2 i (by omega))
            clear hb1
            go_roundw
            case rel => exact ⟨f + 1, _, by first | rfl | go_num, by have := HFF.out; omega, HC4, HQ4⟩
            case measure => have := HFF.out; simp [intOf]; omega
      · have hfn : n = f := by omega
        have HFN := Lib.hid hfn
        obtain ⟨z0, z1⟩ := cells2_14 HC.out.box
        obtain ⟨r0, r1⟩ := cells2_14 HC.out.res
        have g0 := frozen_of_row wr (w.heap.size + 1) 0 _ _ HC.out.res
        have g1 := frozen_of_row wr (w.heap.size + 1) 1 _ _ HC.out.res
        clear hfn
        go_wp2
        have hb2 := but_box15 (one_but15 wr (w.heap.size + 1) 0 (.slice vA data.length va)) 1 (.slice vB fs.length vb)
        have hx2 := heap_setCell_same _ (w.heap.size + 1) 1 _ _ (.slice vB fs.length vb) (heap_setCell_same wr (w.heap.size + 1) 0 _ _ (.slice vA data.length va) HC.out.res)
        obtain ⟨W5, hW5⟩ : ∃ W5, W5 = (wr.setCell ⟨w.heap.size + 1, 0, none⟩ (.slice vA data.length va)).setCell ⟨w.heap.size + 1, 1, none⟩ (.slice vB fs.length vb) := ⟨_, rfl⟩
        rw [← hW5] at hb2 hx2 ⊢
        have hx3 : W5.heap[w.heap.size + 1]? = some (.cells #[.slice vA data.length va, .slice vB fs.length vb] 25 (0, 0)) := hx2
        obtain ⟨m0, m1⟩ := cells2_14 hx3
        refine bodyPost_ret (v := .agg #[.slice vA data.length va, .slice vB fs.length vb]) (by simp [results, Tryz.results57, go_sem, m0, m1]) rfl ⟨_, _, Cs, rfl, ?_, ?_, ?_, ?_⟩
        · exact HC.out.dat.but' hb2 (fun k hk e => by
            have e' : k = w.heap.size + 1 := e
            obtain ⟨c', hc'⟩ := HC.out.dat.blk hk
            rw [e'] at hc'
            exact types14 hc' HC.out.res (by decide))
        · refine ⟨(HC.out.row.base (Nat.zero_le _)).but hb2 (fun k hk e => ?_), HQ.out.1, HFB.out, fun i hi => .inr ?_⟩
          · have e' : k = w.heap.size + 1 := e
            obtain ⟨_, c', hc'⟩ := typed14 HC.out.row hk
            rw [e'] at hc'
            exact types14 hc' HC.out.res (by decide)
          · obtain ⟨Ys, hY⟩ := HQ.out.2.1 i (by rw [← HFN.out, HN.out]; exact hi)
            exact ⟨0, Ys, ownC_fun15 hY hb2 HC.out.res (by decide) (by decide), (HCC.out (fs.getD i .zero) (by rw [List.getD_eq_getElem?_getD, List.getElem?_eq_getElem hi]; exact List.getElem_mem _)).1⟩
        · intro g hg
          exact (HC.out.row.lt hg).1
        · exact hb2.below HC.out.bel HC.out.bel.size (fun k hk => by have e' : k = w.heap.size + 1 := hk; omega)
end Go.Proofs.YtkfdgpgildanbaaGreat
namespace Go.Proofs.YtkfdgpgildanbaaGreat
open Go.RowKit Go.Shelf
set_option linter.unusedVariables false
set_option linter.unusedSimpArgs false
theorem isSize15 (n : Int) (w : World) (hn : InI n) : Calls Tryz.prog 55 #[.int .i64 n] w fun e w' => e = .returned (.bool (sizeB n)) ∧ w = w' := by
  have HT := Lib.hid (top_any n w hn.1 hn.2)
  have n1 := hn.1
  have n2 := hn.2
  clear hn
  by_cases h : 16 ≤ n ∧ n ≤ 65536
  · have e1 : topV n = n - n % 16 := by unfold topV dnV; rw [if_pos h]
    have e2 : topE n = 0 := by unfold topE; rw [if_pos h]
    rw [e1, e2] at HT
    have hcv : IntKind.u64.wrap n = n := IntWalk.u64_in _ (by omega)
    by_cases h2 : n % 16 = 0
    · have hs : sizeB n = true := by unfold sizeB; rw [decide_eq_true h.1, decide_eq_true h.2, decide_eq_true h2]; rfl
      rw [hs]
      rw [h2, Int.sub_zero] at HT
      have hq : (n == n) = true := by simp
      clear e1 e2 h h2 hs n1 n2
      go_enter Tryz.func55, Tryz.ntmps55
      go_wp2_with (go_at_call 117; (with_reducible refine HT.out.mono ?_); rintro e w' ⟨rfl, rfl⟩)
      go_ret
      exact ⟨rfl, rfl⟩
    · have hs : sizeB n = false := by unfold sizeB; rw [decide_eq_false h2]; simp
      rw [hs]
      obtain ⟨z, hz⟩ : ∃ z, z = n - n % 16 := ⟨_, rfl⟩
      rw [← hz] at HT
      have hq : (z == n) = false := by simpa using (fun e : z = n => h2 (by omega))
      clear e1 e2 h h2 hs hz n1 n2
      go_enter Tryz.func55, Tryz.ntmps55
      go_wp2_with (go_at_call 117; (with_reducible refine HT.out.mono ?_); rintro e w' ⟨rfl, rfl⟩)
      go_ret
      exact ⟨rfl, rfl⟩
  · have e1 : topV n = 0 := by unfold topV; rw [if_neg h]
    have e2 : topE n = 2 := by unfold topE; rw [if_neg h]
    rw [e1, e2] at HT
    have hs : sizeB n = false := by
      unfold sizeB
      by_cases h1 : 16 ≤ n
      · rw [decide_eq_false (show ¬ n ≤ 65536 from fun h2 => h ⟨h1, h2⟩)]; simp
      · rw [decide_eq_false h1]; simp
    rw [hs]
    clear e1 e2 h hs n1 n2
    go_enter Tryz.func55, Tryz.ntmps55
    go_wp2_with (go_at_call 117; (with_reducible refine HT.out.mono ?_); rintro e w' ⟨rfl, rfl⟩)
    go_ret
    exact ⟨rfl, rfl⟩
def NewSp (w : World) (m : ModV) (n : Int) (inp : List Int) (fuel : Int) (e : Ending) (w' : World) : Prop :=
  Below w.heap.size w w' ∧ ((newE15 m n fuel ≠ 0 ∧ e = .returned (.tuple #[.pointer none, .int .i64 (newE15 m n fuel)])) ∨
    (newE15 m n fuel = 0 ∧ ∃ sb p, e = .returned (.tuple #[.pointer (some ⟨sb, 0, none⟩), .int .i64 0]) ∧ FreshAt w' sb p (newS m n.toNat inp fuel) ∧ w.heap.size ≤ sb ∧ ∀ k, ro15 p k → w.heap.size ≤ k))
set_option maxRecDepth 100000 in
set_option maxHeartbeats 8000000 in
theorem new15 (D F IN : Value) (data inp : List Int) (fs : List FunV) (w : World) (n fuel : Int) (hD : IsBytes w w.heap.size D data) (hF : IsFuns w w.heap.size F fs) (hI : IsBytes w w.heap.size IN inp) (hn : InI n) (hfu : InI fuel) (hil : inp.length ≤ 140737488355328) (hcl : ∀ f ∈ fs, f.code.length ≤ 1000000 ∧ ∀ y ∈ f.code, y.args.length ≤ 1000000) :
    Calls Tryz.prog 15 #[.agg #[D, F], .int .i64 n, IN, .int .i64 fuel] w (NewSp w ⟨data, fs⟩ n inp fuel) := by
  obtain ⟨DA, dc, rfl⟩ := hD.len
  obtain ⟨FA, fc, rfl⟩ := hF.len
  obtain ⟨IA, ic, rfl⟩ := hI.len
  have hB := below_one14 w (.cells #[.slice DA data.length dc, .slice FA fs.length fc] 25)
  obtain ⟨W0, hW0⟩ : ∃ W0, W0 = w.alloc (.cells #[.slice DA data.length dc, .slice FA fs.length fc] 25) := ⟨_, rfl⟩
  have hnew : W0.heap[w.heap.size]? = some (.cells #[.slice DA data.length dc, .slice FA fs.length fc] 25 (0, 0)) := by rw [hW0]; exact heap_alloc_new _ _
  rw [← hW0] at hB
  have HW := Lib.hid hW0
  have HB := Lib.hid hB
  have HN := Lib.hid hnew
  obtain ⟨x0, x1⟩ := cells2_14 hnew
  have HSZ := Lib.hid (fun w => isSize15 n w hn)
  have HCK := Lib.hid (check8_any _ _ data fs W0 (hD.grow hB) (hF.grow hB))
  have hld := hD.2.1
  obtain ⟨m, hm⟩ : ∃ m, m = ModV.mk data fs := ⟨_, rfl⟩
  rw [← hm] at HCK ⊢
  have HM := Lib.hid hm
  unfold NewSp
  by_cases h1 : fuel < 0
  · have hE : newE15 m n fuel = 2 := by unfold newE15; rw [if_pos (.inl h1)]
    rw [hE]
    have d0 : decide (fuel < 0) = true := decide_eq_true h1
    clear hD hF hI hn hfu hil hcl hB hnew hW0 hm h1 hE hld
    go_enter Tryz.func15, Tryz.ntmps15
    go_upto_region 1 with fail
    rw [← HW.out]
    go_wp2
    go_ret2
    exact ⟨HB.out, .inl ⟨by decide, rfl⟩⟩
  · have d0 : decide (fuel < 0) = false := decide_eq_false h1
    by_cases h2 : 10000000 < fuel
    · have hE : newE15 m n fuel = 2 := by unfold newE15; rw [if_pos (.inr (.inl h2))]
      rw [hE]
      have d1 : decide ((10000000 : Int) < fuel) = true := decide_eq_true h2
      clear hD hF hI hn hfu hil hcl hB hnew hW0 hm h1 h2 hE hld
      go_enter Tryz.func15, Tryz.ntmps15
      go_upto_region 1 with fail
      rw [← HW.out]
      go_wp2
      go_ret2
      exact ⟨HB.out, .inl ⟨by decide, rfl⟩⟩
    · have d1 : decide ((10000000 : Int) < fuel) = false := decide_eq_false h2
      cases h3 : sizeB n
      · have hE : newE15 m n fuel = 2 := by unfold newE15; rw [if_pos (.inr (.inr (.inl h3)))]
        rw [hE]
        rw [h3] at HSZ
        have hnot := not15
        clear hD hF hI hn hfu hil hcl hB hnew hW0 hm h1 h2 h3 hE hld
        go_enter Tryz.func15, Tryz.ntmps15
        go_upto_region 1 with fail
        rw [← HW.out]
        go_wp2_with (go_at_call 55; (with_reducible refine (HSZ.out _).mono ?_); rintro e w' ⟨rfl, rfl⟩)
        go_ret2
        exact ⟨HB.out, .inl ⟨by decide, rfl⟩⟩
      · rw [h3] at HSZ
        by_cases h4 : m.err = 0
        · rw [h4] at HCK
          obtain ⟨N, rfl⟩ : ∃ N : Nat, n = N := ⟨n.toNat, by simp [sizeB] at h3; omega⟩
          have hsz : 16 ≤ N ∧ N ≤ 65536 ∧ N % 16 = 0 := by simp [sizeB] at h3; omega
          have hdl : data.length ≤ 8192 := by have := (err_funs h4).1; rw [hm] at this; exact this
          have hflo := flo_bd h4
          have HFL := Lib.hid (fun w => floor_any data.length w (by omega) (by omega))
          have e1 : floorV (data.length : Int) = floV m := by rw [hm]; rfl
          have e2 : floorE (data.length : Int) = 0 := by unfold floorE; rw [if_pos (by omega)]
          rw [e1, e2] at HFL
          have hcv : IntKind.u64.wrap (N : Int) = (N : Int) := IntWalk.u64_in _ (by omega)
          have hnot := not15
          have HCL := Lib.hid (fun W (hb : Below w.heap.size w W) => cloned15 _ _ data fs W (hD.grow hb) (hF.grow hb) (by omega) (by have := (err_funs h4).2.2.1; rw [hm] at this; show fs.length ≤ 1000000; exact Nat.le_trans this (by decide)) hcl)
          have HCI := Lib.hid (fun W (hb : Below w.heap.size w W) => cloneB14 _ inp W (hI.grow hb) hil)
          have HIB := Lib.hid hI.1
          have HIL := Lib.hid hil
          obtain ⟨fl, hfl⟩ : ∃ fl, fl = floV m := ⟨_, rfl⟩
          have HFV := Lib.hid hfl
          have HX : Hid (∀ W, Below W0.heap.size W0 W → W.cell? ⟨w.heap.size, 0, none⟩ = some (.slice DA data.length dc) ∧ W.cell? ⟨w.heap.size, 1, none⟩ = some (.slice FA fs.length fc)) := Lib.hid (fun W hb => cells2_14 ((hb.block _ (heap_lt hnew)).trans hnew))
          by_cases h5 : (N : Int) < fl
          · have hE : newE15 m N fuel = 8 := by
              unfold newE15
              rw [if_neg (by simp only [not_or]; exact ⟨h1, h2, by rw [h3]; simp, fun h => h h4⟩), if_pos (by rw [← hfl]; exact h5)]
            rw [hE]
            have d5 : decide ((N : Int) < fl) = true := decide_eq_true h5
            rw [← hfl] at HFL
            clear hD hF hI hn hfu hil hcl hB hnew hW0 hm h1 h2 h3 h4 hE hld hsz hdl hflo e1 e2 hfl x0 x1
            go_enter Tryz.func15, Tryz.ntmps15
            go_upto_region 1 with fail
            rw [← HW.out]
            obtain ⟨x0, x1⟩ := cells2_14 HN.out
            go_wp2_with (first
              | (go_at_call 55; (with_reducible refine (HSZ.out _).mono ?_); rintro e w' ⟨rfl, rfl⟩)
              | (go_at_call 56; (with_reducible refine HCK.out.mono ?_); rintro e w4 ⟨rfl, hb⟩; have HB2 := Lib.hid (HB.out.trans (hb.mono HB.out.size)); obtain ⟨x2, x3⟩ := HX.out _ hb; clear hb)
              | (go_at_call 50; (with_reducible refine (HFL.out _).mono ?_); rintro e w' ⟨rfl, rfl⟩))
            go_ret2
            exact ⟨HB2.out, .inl ⟨by decide, rfl⟩⟩
          · have hE : newE15 m N fuel = 0 := by
              unfold newE15
              rw [if_neg (by simp only [not_or]; exact ⟨h1, h2, by rw [h3]; simp, fun h => h h4⟩), if_neg (by rw [← hfl]; exact h5)]
            have hok := newS_ok hE hI.1
            have HEE := Lib.hid hE
            have HOK := Lib.hid hok
            rw [hE]
            have d5 : decide ((N : Int) < fl) = false := decide_eq_false h5
            rw [← hfl] at HFL
            have HZ := Lib.hid hsz
            clear hD hF hI hn hfu hil hcl hB hnew hW0 hm h1 h2 h3 h4 hE hld hsz hdl hflo e1 e2 hfl x0 x1 hok
            go_enter Tryz.func15, Tryz.ntmps15
            go_upto_region 1 with fail
            rw [← HW.out]
            obtain ⟨x0, x1⟩ := cells2_14 HN.out
            go_wp2_with (first
              | (go_at_call 55; (with_reducible refine (HSZ.out _).mono ?_); rintro e w' ⟨rfl, rfl⟩)
              | (go_at_call 56; (with_reducible refine HCK.out.mono ?_); rintro e w4 ⟨rfl, hb⟩; have HB2 := Lib.hid (HB.out.trans (hb.mono HB.out.size)); obtain ⟨x2, x3⟩ := HX.out _ hb; clear hb)
              | (go_at_call 50; (with_reducible refine (HFL.out _).mono ?_); rintro e w' ⟨rfl, rfl⟩)
              | (go_at_call 57; (with_reducible refine (HCL.out _ HB2.out).mono ?_); rintro e w5 ⟨D', F', Cs, rfl, hcd, hcf, hcg, hb⟩; obtain ⟨dA, dC, hde⟩ := hcd.len; obtain ⟨fA, fC, hfe⟩ := owns_len14 hcf.own; subst hde hfe; have O5 := Lib.hid hcd; have F5 := Lib.hid hcf; have G5 := Lib.hid hcg; have B5 := Lib.hid (HB2.out.trans (hb.mono HB2.out.size)); have S5 := Lib.hid HB2.out.size; clear hcd hcf hcg hb)
              | (go_at_call 58; (with_reducible refine (HCI.out _ B5.out).mono ?_); rintro e w6 ⟨V, rfl, ho, hb⟩; have O6 := Lib.hid (OwnB.of_owns ho HIB.out HIL.out); obtain ⟨iA, iC, hie⟩ := O6.out.len; subst hie; have B6 := Lib.hid (B5.out.trans (hb.mono B5.out.size)); have O56 := Lib.hid (O5.out.but' (But.of_below (R := NoBlock) hb) (fun _ _ h => h)); have F56 := Lib.hid (F5.out.below hb (Nat.le_refl _)); have S6 := Lib.hid B5.out.size; have HSF := Lib.hid (setFuel15 ⟨w6.heap.size, 11, none⟩ (.int .i64 0) fuel (w6.alloc (.cells #[.pointer (some ⟨w6.heap.size, 0, none⟩), .int .u32 0, .int .i32 0, .int .u32 0, .slice dA data.length dC, .slice fA fs.length fC, .int .i64 N, .slice iA inp.length iC, .int .u64 fl, .pointer none, .pointer none, .int .i64 0, .int .i64 0, .int .u64 0, .int .i64 0, .slice none 0 0, .int .i64 0, .int .i64 0] 80)) (cells18 (heap_alloc_new w6 _)).2.1.2.2.2.2.2 (frozen_of_row _ _ 11 _ _ (heap_alloc_new w6 _))); clear ho hb)
              | (go_at_call 59; (with_reducible refine HSF.out.mono ?_); rintro e w7 ⟨rfl, hw7⟩; have HW7 := Lib.hid hw7; clear hw7))
            go_ret2
            have hx7 := heap_setCell_same _ w6.heap.size 11 _ _ (.int .i64 fuel) (heap_alloc_new w6 (.cells #[.pointer (some ⟨w6.heap.size, 0, none⟩), .int .u32 0, .int .i32 0, .int .u32 0, .slice dA data.length dC, .slice fA fs.length fC, .int .i64 N, .slice iA inp.length iC, .int .u64 fl, .pointer none, .pointer none, .int .i64 0, .int .i64 0, .int .u64 0, .int .i64 0, .slice none 0 0, .int .i64 0, .int .i64 0] 80))
            have hb7 : Below w6.heap.size w6 w7 := by
              rw [HW7.out]
              exact (below_one14 w6 _).setCell (p := ⟨w6.heap.size, 11, none⟩) (Nat.le_refl _) _
            rw [← HW7.out] at hx7
            obtain ⟨s1, s2, s3, s4⟩ := newS_same (m := m) (n := N) (inp := inp) (fuel := fuel)
            have hO7 := O56.out.but' (But.of_below (R := NoBlock) hb7) (fun _ _ h => h)
            have hI7 := O6.out.but' (But.of_below (R := NoBlock) hb7) (fun _ _ h => h)
            have hF7 := F56.out.below hb7 (Nat.le_refl _)
            refine ⟨B6.out.trans (hb7.mono B6.out.size), .inr ⟨(by first | trivial | rfl | exact HEE.out), w6.heap.size, ⟨w6.heap.size, w6.heap.size, 0, w6.heap.size, 0, 0, .slice none 0 0, .slice none 0 0, .slice none 0 0, .slice dA data.length dC, .slice fA fs.length fC, .slice iA inp.length iC, Cs⟩, rfl, ⟨?_, ?_, ?_, ?_, ?_, ?_, HOK.out, ?_, ⟨rfl, rfl, rfl, rfl, rfl, rfl⟩⟩, B6.out.size, ?_⟩⟩
            · rw [Int.toNat_natCast]
              unfold fresh15
              rw [s1, s2, s4, ← HFV.out]
              exact hx7
            · rw [Int.toNat_natCast, s1, HM.out]; exact hO7.base' (Nat.zero_le _)
            · rw [Int.toNat_natCast, s3]; exact hI7.base' (Nat.zero_le _)
            · rw [Int.toNat_natCast, s1, HM.out]; exact hF7
            · rw [Int.toNat_natCast, s1, s2, s3, s4]
            · rw [Int.toNat_natCast, s1, s2, s4]; exact HEE.out
            · intro k hk hr
              have hks : k = w6.heap.size := by
                rcases hk with e | e | e | e | e | e
                · exact e
                · exact e
                · exact e
                · exact e
                · simp [Value.ownBlock] at e
                · simp [Value.ownBlock] at e
              rcases hr with e | e | e | e
              · simp [Value.ownBlock] at e
              · have := ownB_lt O56.out e; omega
              · have := (F56.out.own.lt e).2; omega
              · have := ownB_lt O6.out e; omega
            · intro k hr
              rcases hr with e | e | e | e
              · simp [Value.ownBlock] at e
              · exact Nat.le_trans S5.out (O5.out.low e)
              · exact Nat.le_trans S5.out (G5.out k e)
              · exact Nat.le_trans S6.out (O6.out.low e)
        · have hE : newE15 m n fuel = 2 := by unfold newE15; rw [if_pos (.inr (.inr (.inr h4)))]
          rw [hE]
          obtain ⟨E, hEe⟩ : ∃ E, E = m.err := ⟨_, rfl⟩
          rw [← hEe] at HCK h4
          have d4 : (E != 0) = true := by simpa using h4
          have hnot := not15
          clear hD hF hI hn hfu hil hcl hB hnew hW0 hm h1 h2 h3 h4 hE hld hEe
          go_enter Tryz.func15, Tryz.ntmps15
          go_upto_region 1 with fail
          rw [← HW.out]
          go_wp2_with (first
            | (go_at_call 55; (with_reducible refine (HSZ.out _).mono ?_); rintro e w' ⟨rfl, rfl⟩)
            | (go_at_call 56; (with_reducible refine HCK.out.mono ?_); rintro e w' ⟨rfl, hb⟩; have HB2 := Lib.hid (HB.out.trans (hb.mono HB.out.size)); clear hb))
          go_ret2
          exact ⟨HB2.out, .inl ⟨by decide, rfl⟩⟩
end Go.Proofs.YtkfdgpgildanbaaGreat
namespace Go.Proofs.YtkfdgpgildanbaaGreat
open Go.RowKit Go.Shelf
set_option linter.unusedVariables false
set_option linter.unusedSimpArgs false
section
variable {w W W' : World} {lo : Nat} {l : List It} {a a' : It}
theorem Spaces.move2 (h : Spaces w lo W l) {i : Nat} (hi : l[i]? = some a) : ∃ p, a.at' w.heap.size W p ∧ (∀ k, a.foot p k → lo ≤ k) ∧ ∀ (a' : It) (p' : Loc) (W' : World), Mv w.heap.size a a' p p' W W' → Spaces w lo W' (l.set i a') := by
  obtain ⟨P, e1, e2, e3⟩ := h.ex
  have hw := Nat.le_trans h.low h.top
  have hil : i < l.length := (List.getElem?_eq_some_iff.1 hi).1
  refine ⟨P i, e1 i a hi, fun k hk => e2 i a k hi (.inl hk), fun a' p' W' m => ?_⟩
  have hset : ∀ j b, (l.set i a')[j]? = some b → (j = i ∧ b = a') ∨ (j ≠ i ∧ l[j]? = some b) := by
    intro j b hj
    rw [List.getElem?_set] at hj
    by_cases hji : i = j
    · subst hji
      rw [if_pos rfl, if_pos hil] at hj
      exact .inl ⟨rfl, (Option.some.inj hj).symm⟩
    · rw [if_neg hji] at hj
      exact .inr ⟨fun e => hji e.symm, hj⟩
  have hfar : ∀ j b, j ≠ i → l[j]? = some b → ∀ k, b.foot (P j) k ∨ b.ro (P j) k → ¬ a.foot (P i) k := fun j b hj hb k hk hf => e3 i j a b k (fun e => hj e.symm) hi hb hf hk
  refine ⟨⟨fun j => if j = i then p' else P j, ?_, ?_, ?_⟩, h.low, Nat.le_trans h.top m.but.size, ?_⟩
  · intro j b hj
    rcases hset j b hj with ⟨rfl, rfl⟩ | ⟨hji, hj⟩
    · simpa using m.at'
    · simp only [if_neg hji]
      exact It.but (e1 j b hj) m.but (hfar j b hji hj) (fun k hk _ => It.typ (e1 i a hi) hk) hw (fun k hk hf => by have := e2 i a k hi (.inl hf); have := h.low; omega)
  · intro j b k hj hk
    rcases hset j b hj with ⟨rfl, rfl⟩ | ⟨hji, hj⟩
    · simp only [if_true] at hk
      rcases hk with hk | hk
      · rcases m.foot k hk with hk | hk
        · exact e2 _ a k hi (.inl hk)
        · exact Nat.le_trans h.top hk
      · rcases m.ro k hk with hk | hk
        · exact e2 _ a k hi (.inr hk)
        · exact Nat.le_trans h.top hk
    · simp only [if_neg hji] at hk
      exact e2 j b k hj hk
  · intro j1 j2 b1 b2 k hne h1 h2 hk
    rcases hset j1 b1 h1 with ⟨rfl, rfl⟩ | ⟨hj1, g1⟩
    · rcases hset j2 b2 h2 with ⟨rfl, rfl⟩ | ⟨hj2, h2⟩
      · exact absurd rfl hne
      · simp only [if_true] at hk
        simp only [if_neg hj2]
        rcases m.foot k hk with hk | hk
        · exact e3 _ j2 a b2 k (fun e => hj2 e.symm) hi h2 hk
        · intro hc
          have := It.lt (e1 j2 b2 h2) hc
          omega
    · simp only [if_neg hj1] at hk
      rcases hset j2 b2 h2 with ⟨rfl, rfl⟩ | ⟨hj2, h2⟩
      · simp only [if_true]
        have hlt := It.lt (e1 j1 b1 g1) (.inl hk)
        rintro (hc | hc)
        · rcases m.foot k hc with hc | hc
          · exact e3 j1 _ b1 a k hj1 g1 hi hk (.inl hc)
          · omega
        · rcases m.ro k hc with hc | hc
          · exact e3 j1 _ b1 a k hj1 g1 hi hk (.inr hc)
          · omega
      · simp only [if_neg hj2]
        exact e3 j1 j2 b1 b2 k hne g1 h2 hk
  · exact m.but.below h.bel hw (fun k hk => Nat.le_trans h.low (e2 i a k hi (.inl hk)))
end
def SpsDone (w : World) (lo : Nat) (l : List It) (v : Value) (e : Ending) (W' : World) : Prop := e = .returned v ∧ Spaces w lo W' l
section
variable {w W W' : World} {lo i sb : Nat} {l : List It} {S : SpV}
theorem Spaces.lift (h : Spaces w lo W l) (hi : l[i]? = some (.sp sb S)) {S' : SpV} {v : Value} {f : FuncId} {args : Array Value} (hc : ∀ p, SpAt W sb p S → (∀ k, foot15 sb p k → lo ≤ k) → Calls Tryz.prog f args W (SpDone W sb p S S' v)) : Calls Tryz.prog f args W (SpsDone w lo (l.set i (.sp sb S')) v) := by
  obtain ⟨p, hp, hl, hm⟩ := h.move2 hi
  refine (hc p hp hl).mono ?_
  rintro e W' ⟨he, p', hv⟩
  exact ⟨he, hm _ _ _ hv.mv⟩
theorem sp_get (h : Spaces w lo W l) (hi : l[i]? = some (.sp sb S)) (r : Int) (hr : InI r) : Calls Tryz.prog 27 #[.pointer (some ⟨sb, 0, none⟩), .int .i64 r] W (SpsDone w lo (l.set i (.sp sb S)) (.tuple #[.int .u64 (S.getV r), .int .i64 (S.getE r)])) := h.lift hi (fun p hp _ => get15 hp r hr)
theorem sp_set (h : Spaces w lo W l) (hi : l[i]? = some (.sp sb S)) (r v : Int) (hr : InI r) (hv0 : 0 ≤ v) (hv1 : v < 18446744073709551616) : Calls Tryz.prog 37 #[.pointer (some ⟨sb, 0, none⟩), .int .i64 r, .int .u64 v] W (SpsDone w lo (l.set i (.sp sb (S.setS r v))) (.int .i64 (S.getE r))) := h.lift hi (fun p hp _ => set15 hp r v hr hv0 hv1)
theorem sp_go (h : Spaces w lo W l) (hi : l[i]? = some (.sp sb S)) (n : Int) (hn : InI n) : Calls Tryz.prog 38 #[.pointer (some ⟨sb, 0, none⟩), .int .i64 n] W (SpsDone w lo (l.set i (.sp sb (S.goS n))) (.int .i64 (S.goE n))) := h.lift hi (fun p hp _ => go15 hp n hn)
theorem sp_burn (h : Spaces w lo W l) (hi : l[i]? = some (.sp sb S)) (n : Int) (hn : InI n) : Calls Tryz.prog 39 #[.pointer (some ⟨sb, 0, none⟩), .int .i64 n] W (SpsDone w lo (l.set i (.sp sb (S.burnS n))) (.int .i64 (S.burnE n))) := h.lift hi (fun p hp _ => burn15 hp n hn)
theorem sp_ret (h : Spaces w lo W l) (hi : l[i]? = some (.sp sb S)) (v : Int) (hv0 : 0 ≤ v) (hv1 : v < 18446744073709551616) : Calls Tryz.prog 41 #[.pointer (some ⟨sb, 0, none⟩), .int .u64 v] W (SpsDone w lo (l.set i (.sp sb (S.retS v))) (.int .i64 S.refE)) := h.lift hi (fun p hp _ => ret15 hp v hv0 hv1)
theorem sp_stop (h : Spaces w lo W l) (hi : l[i]? = some (.sp sb S)) (k c : Int) : Calls Tryz.prog 22 #[.pointer (some ⟨sb, 0, none⟩), .agg #[.int .i64 k, .int .i64 c]] W (SpsDone w lo (l.set i (.sp sb (S.stopS k c))) (.int .i64 (S.stopE k c))) := h.lift hi (fun p hp _ => stop15 hp k c)
theorem sp_getb (h : Spaces w lo W l) (hi : l[i]? = some (.sp sb S)) (hf : S.done.length < 100000) : Calls Tryz.prog 28 #[.pointer (some ⟨sb, 0, none⟩)] W (SpsDone w lo (l.set i (.sp sb S.getbS)) (.tuple #[.int .i64 S.getbV, .int .i64 S.refE])) := h.lift hi (fun p hp _ => getb15 hp hf)
theorem sp_putb (h : Spaces w lo W l) (hi : l[i]? = some (.sp sb S)) (hf : S.done.length < 100000) (b : Int) : Calls Tryz.prog 42 #[.pointer (some ⟨sb, 0, none⟩), .int .i64 b] W (SpsDone w lo (l.set i (.sp sb (S.putbS b))) (.int .i64 S.refE)) := h.lift hi (fun p hp _ => putb15 hp hf b)
theorem sp_func (h : Spaces w lo W l) (hi : l[i]? = some (.sp sb S)) : Calls Tryz.prog 31 #[.pointer (some ⟨sb, 0, none⟩)] W (SpsDone w lo (l.set i (.sp sb S)) (.int .i64 S.f)) := h.lift hi (fun p hp _ => tellF15 hp)
theorem sp_place (h : Spaces w lo W l) (hi : l[i]? = some (.sp sb S)) : Calls Tryz.prog 32 #[.pointer (some ⟨sb, 0, none⟩)] W (SpsDone w lo (l.set i (.sp sb S)) (.int .i64 S.pc)) := h.lift hi (fun p hp _ => tellP15 hp)
theorem sp_at (h : Spaces w lo W l) (hi : l[i]? = some (.sp sb S)) : Calls Tryz.prog 35 #[.pointer (some ⟨sb, 0, none⟩)] W (SpsDone w lo (l.set i (.sp sb S)) (.int .u64 S.at_)) := h.lift hi (fun p hp _ => tellA15 hp)
theorem sp_depth (h : Spaces w lo W l) (hi : l[i]? = some (.sp sb S)) : Calls Tryz.prog 34 #[.pointer (some ⟨sb, 0, none⟩)] W (SpsDone w lo (l.set i (.sp sb S)) (.int .i64 S.links.length)) := h.lift hi (fun p hp _ => tellD15 hp)
def loc0 : Loc := ⟨0, 0, 0, 0, 0, 0, .slice none 0 0, .slice none 0 0, .slice none 0 0, .slice none 0 0, .slice none 0 0, .slice none 0 0, []⟩
theorem Spaces.addBox (h : Spaces w lo W l) (c : Array Value) (t : TypeId) : Spaces w lo (W.alloc (.cells c t)) (l ++ [.box W.heap.size c t]) :=
  h.add (p := loc0) (below_one14 W _) (show (W.alloc (.cells c t)).heap[W.heap.size]? = some (.cells c t (0, 0)) from heap_alloc_new W _) (fun k hk => hk.elim) (fun k hk => .inl (by obtain rfl : k = W.heap.size := hk; exact Nat.le_refl _))
theorem Spaces.addBoxAt (h : Spaces w lo W l) (hb : Below W.heap.size W W') {b : Nat} {c : Array Value} {t : TypeId} (hx : W'.heap[b]? = some (.cells c t (0, 0))) (hn : W.heap.size ≤ b) : Spaces w lo W' (l ++ [.box b c t]) :=
  h.add (p := loc0) hb (show W'.heap[b]? = some (.cells c t (0, 0)) from hx) (fun k hk => hk.elim) (fun k hk => .inl (by obtain rfl : k = b := hk; exact hn))
theorem Spaces.boxAt (h : Spaces w lo W l) {b : Nat} {c : Array Value} {t : TypeId} (hi : l[i]? = some (.box b c t)) : W.heap[b]? = some (.cells c t (0, 0)) := by
  obtain ⟨P, e1, e2, e3⟩ := h.ex
  exact e1 i _ hi
structure ArgsIn (lo : Nat) (W : World) (A : Value) (args : List Int) : Prop where
  inn : ∀ x ∈ args, InI x
  lies : IsNums .i64 W lo A args ∨ ∃ base n, Owns W base 3 1 (IsNum .i64) A n (args.map (Value.int .i64))
theorem ArgsIn.grow {A : Value} {args : List Int} (h : ArgsIn lo W A args) (hl : lo ≤ W.heap.size) (hb : Below W.heap.size W W') : ArgsIn lo W' A args :=
  ⟨h.inn, h.lies.imp (fun h => h.below hb hl) (fun ⟨b, n, h⟩ => ⟨b, n, h.below hb (Nat.le_refl _)⟩)⟩
theorem ArgsIn.args {A : Value} {args : List Int} {p : Loc} (h : ArgsIn lo W A args) (hl : lo ≤ W.heap.size) (hp : SpAt W sb p S) (hf : ∀ k, foot15 sb p k → lo ≤ k) : Args15 W (foot15 sb p) A args := by
  refine ⟨h.inn, fun W' hb => ?_⟩
  rcases h.lies with h | ⟨b, n, h⟩
  · exact (h.but hb hl (fun k hk e => by have := hf k e; omega)).more (Nat.le_trans hl hb.size)
  · exact IsNums.of_owns (h.but hb (fun g hg e => by
      obtain ⟨_, c, hc⟩ := typed14 h hg
      exact (It.typ (B := 0) (a := .sp sb S) hp e).not (.inr rfl) hc)) (Nat.le_refl _)
theorem sp_call (h : Spaces w lo W l) (hi : l[i]? = some (.sp sb S)) (f res back : Int) (A : Value) (args : List Int) (hf : InI f) (hr : InI res) (hbk : InI back) (hA : ArgsIn lo W A args) : Calls Tryz.prog 40 #[.pointer (some ⟨sb, 0, none⟩), .int .i64 f, A, .int .i64 res, .int .i64 back] W (SpsDone w lo (l.set i (.sp sb (S.callS f args res back))) (.int .i64 (S.callE f args res back))) := h.lift hi (fun p hp hl => call15 hp f res back A args hf hr hbk (hA.args h.top hp hl))
theorem sp_memory (h : Spaces w lo W l) (hi : l[i]? = some (.sp sb S)) : Calls Tryz.prog 30 #[.pointer (some ⟨sb, 0, none⟩)] W fun e W' => ∃ mb, e = .returned (.pointer (some ⟨mb, 0, none⟩)) ∧ Spaces w lo W' (l.set i (.sp sb S)) ∧ W'.cell? ⟨sb, 9, none⟩ = some (.pointer (some ⟨mb, 0, none⟩)) := by
  obtain ⟨p, hp, hl, hm⟩ := h.move2 hi
  refine (tellM15 hp).mono ?_
  rintro e W' ⟨p', he, hv⟩
  exact ⟨p'.mb, he, hm _ _ _ hv.mv, hv.laid.cells.1.2.1⟩
theorem laid_of15 {p : Loc} {mb : Nat} (h : SpAt W sb p S) (hc : W.cell? ⟨sb, 9, none⟩ = some (.pointer (some ⟨mb, 0, none⟩))) : LaidAt W sb p S ∧ p.mb = mb := by
  rcases h with h | h
  · have h9 := h.cells.1.2.1
    rw [hc] at h9
    injection h9 with h9
    injection h9 with h9
    injection h9 with h9
    injection h9 with h9
    exact ⟨h, h9.symm⟩
  · have h9 := (cells18 (show W.heap[sb]? = some (.cells #[_, _, _, _, _, _, _, _, _, _, _, _, _, _, _, _, _, _] 80 (0, 0)) from h.box)).2.1.2.2.2.1
    rw [hc] at h9
    injection h9 with h9
    injection h9 with h9
    cases h9
theorem sp_load {mb : Nat} (h : Spaces w lo W l) (hi : l[i]? = some (.sp sb S)) (hc : W.cell? ⟨sb, 9, none⟩ = some (.pointer (some ⟨mb, 0, none⟩))) (a n : Int) (ha : 0 ≤ a) (ha' : a < 18446744073709551616) (hn' : n < 9223372036854775808) :
    Calls Tryz.prog 52 #[.pointer (some ⟨mb, 0, none⟩), .int .u64 a, .int .i64 n] W fun e W' => e = .returned (.tuple #[.int .u64 (loadV S.mem a n), .int .i64 (numE S.mem.length a n)]) ∧ W = W' := by
  obtain ⟨p, hp, hl, hm⟩ := h.move2 hi
  obtain ⟨h1, rfl⟩ := laid_of15 hp hc
  exact load_any h1.mem a n ha ha' hn'
def NewSps (w : World) (lo : Nat) (W : World) (l : List It) (m : ModV) (n : Int) (inp : List Int) (fuel : Int) (e : Ending) (W' : World) : Prop :=
  Below W.heap.size W W' ∧ ((newE15 m n fuel ≠ 0 ∧ e = .returned (.tuple #[.pointer none, .int .i64 (newE15 m n fuel)]) ∧ Spaces w lo W' l) ∨
    (newE15 m n fuel = 0 ∧ ∃ sb, e = .returned (.tuple #[.pointer (some ⟨sb, 0, none⟩), .int .i64 0]) ∧ Spaces w lo W' (l ++ [.sp sb (newS m n.toNat inp fuel)])))
theorem sp_new (h : Spaces w lo W l) (D F IN : Value) (data inp : List Int) (fs : List FunV) (n fuel : Int) (hD : IsBytes W W.heap.size D data) (hF : IsFuns W W.heap.size F fs) (hI : IsBytes W W.heap.size IN inp) (hn : InI n) (hfu : InI fuel) (hil : inp.length ≤ 140737488355328) (hcl : ∀ f ∈ fs, f.code.length ≤ 1000000 ∧ ∀ y ∈ f.code, y.args.length ≤ 1000000) :
    Calls Tryz.prog 15 #[.agg #[D, F], .int .i64 n, IN, .int .i64 fuel] W (NewSps w lo W l ⟨data, fs⟩ n inp fuel) := by
  refine (new15 D F IN data inp fs W n fuel hD hF hI hn hfu hil hcl).mono ?_
  rintro e W' ⟨hb, ⟨h1, he⟩ | ⟨h1, sb, p, he, hf, hs, hr⟩⟩
  · exact ⟨hb, .inl ⟨h1, he, h.grow hb⟩⟩
  · refine ⟨hb, .inr ⟨h1, sb, he, h.add hb (show SpAt W' sb p _ from .inr hf) (fun k hk => ?_) (fun k hk => .inl (hr k hk))⟩⟩
    have : k = sb := hf.isSb hk
    omega
end
end Go.Proofs.YtkfdgpgildanbaaGreat
