/- Clones of rows: numbers, instructions, functions, links. Contracts; no condition but that the row lies in memory. -/
import Derived.Test.YtkfdgpgildanbaaGreatSp15L
namespace Go.Proofs.YtkfdgpgildanbaaGreat
open Go.RowKit Go.Shelf
set_option linter.unusedVariables false
set_option linter.unusedSimpArgs false

/-- A row in memory, by its cells. -/
def RowIn (w : World) (X : Value) (n : Nat) (xs : List Value) : Prop :=
  n ≤ maxLen ∧ ((n = 0 ∧ xs = [] ∧ ∃ a cap, X = .slice a 0 cap) ∨ ∃ b off cap, X = .slice (some ⟨b, off, none⟩) n cap ∧ n ≤ cap ∧ b < w.heap.size ∧ ∀ j u, xs[j]? = some u → w.cell? ⟨b, off + j, none⟩ = some u)
theorem RowIn.of_owns {w : World} {base : Nat} {e : TypeId} {size : Nat} {K : Value → Prop} {v : Value} {n : Nat} {xs : List Value} (h : Owns w base e size K v n xs) : RowIn w v n xs := by
  rcases h.1.2 with ⟨rfl, h0⟩ | ⟨g, cap, cur, rfl, h1, h2, h3, h4, h5, h6⟩
  · refine ⟨by unfold maxLen; omega, .inl ⟨h0, ?_, none, 0, rfl⟩⟩
    have := h.1.1
    rw [h0] at this
    exact List.eq_nil_of_length_eq_zero (by omega)
  · refine ⟨Nat.le_trans h3 h4, .inr ⟨g, 0, cap, rfl, h3, heap_lt h2, fun j u hj => ?_⟩⟩
    rw [cell_of_row _ _ _ _ _ _ h2, Nat.zero_add]
    rw [← h6, List.getElem?_take] at hj
    split at hj
    · simpa using hj
    · cases hj
theorem RowIn.grow {w w' : World} {X : Value} {n : Nat} {xs : List Value} (h : RowIn w X n xs) (hb : Below w.heap.size w w') : RowIn w' X n xs := by
  refine ⟨h.1, h.2.imp id ?_⟩
  rintro ⟨b, off, cap, h1, h2, h3, h4⟩
  exact ⟨b, off, cap, h1, h2, Nat.lt_of_lt_of_le h3 hb.size, fun j u hj => (hb.cell (p := ⟨b, off + j, none⟩) h3).trans (h4 j u hj)⟩
/-- A row of the call's own. -/
def CloneDone (w : World) (T : TypeId) (size : Nat) (K : Value → Prop) (n : Nat) (xs : List Value) (e : Ending) (w' : World) : Prop :=
  ∃ V, e = .returned V ∧ Owns w' w.heap.size T size K V n xs ∧ Below w.heap.size w w'
theorem eqlNI15 (a : Option Addr) (n c : Nat) (w : World) : (binOp .eql 43 (.slice a n c) (.slice none 0 0)).run Tryz.prog w = .ok (.bool a.isNone) w := Lib.run_eql_slice_nil w 43 3 a n c 0 0 Tryz.underlying43
set_option maxRecDepth 100000 in
set_option maxHeartbeats 4000000 in
theorem cloneI15 (X : Value) (n : Nat) (xs : List Value) (w : World) (h : RowIn w X n xs) (hl : xs.length = n * 1) (h1 : ∀ u ∈ xs, u.oneCell' = true) (hK : ∀ u ∈ xs, (IsNum .i64) u) (hm : n ≤ 1000000000000) :
    Calls Tryz.prog 121 #[X] w (CloneDone w 3 1 (IsNum .i64) n xs) := by
  have hsn := eqlNI15
  obtain ⟨i0, hi, hz0, hz1, hz2⟩ := info_parts int_info
  have HI := Lib.hid hi
  have HZ0 := Lib.hid hz0
  have HZ1 := Lib.hid hz1
  have HZ2 := Lib.hid hz2
  have HM := Lib.hid (Owns.made w w.heap.size 3 1 (IsNum .i64) (Nat.le_refl _))
  have HMX := Lib.hid hm
  have HLL := Lib.hid hl
  have HON := Lib.hid h1
  have HKK := Lib.hid hK
  rcases h.2 with ⟨rfl, rfl, a, cap, rfl⟩ | ⟨b, off, cap, rfl, h2, h3, h4⟩
  · cases a with
    | none =>
      clear h hi hz0 hz1 hz2 hl h1 hK hm
      go_enter Tryz.func121, Tryz.ntmps121
      go_wp2
      go_ret
      exact ⟨_, rfl, Owns.nil _ _ _ _ _, Below.refl _ _⟩
    | some ad =>
      clear h hi hz0 hz1 hz2 hl h1 hK hm
      go_enter Tryz.func121, Tryz.ntmps121
      go_wp2_with (at_builtin; refine wpList_append_q _ rfl (.tmp 5) (.tmp 6) 43 rfl w.heap.size 3 i0 _ 1 8 Tryz.underlying43 HI.out HZ0.out HZ1.out HZ2.out rfl (by decide) (IsNum .i64) (zero_num .i64) _ 0 [] rfl HM.out ad 0 cap [] rfl (by simp) (by intro j u hj; simp at hj) (by simp) (by simp) (by simp only [maxLen]; omega) (by omega) (by simp) ?_; intro v' w1 hown' hgrow; have R0 := Lib.hid hown'; have R1 := Lib.hid hgrow; clear hown' hgrow)
      go_ret
      refine ⟨_, rfl, ?_, ((Below.refl _ _).alloc (Nat.le_refl _) _).grown R1.out (by simp) (fun g hg => (HM.out.lt hg).1)⟩
      have h := R0.out
      simpa using h
  · have HN : Hid (∀ j u, xs[j]? = some u → (w.alloc (.cells #[] 3)).cell? ((⟨b, off, none⟩ : Addr).add j) = some u) := Lib.hid (fun j u hj => by
      have e : (⟨b, off, none⟩ : Addr).add j = ⟨b, off + j, none⟩ := by unfold Addr.add; split <;> simp_all
      rw [e, World.cell?_alloc_lt w _ _ h3]
      exact h4 j u hj)
    clear h hi hz0 hz1 hz2 hl h1 hK hm h2 h3 h4
    go_enter Tryz.func121, Tryz.ntmps121
    go_wp2_with (at_builtin; refine wpList_append_q _ rfl (.tmp 5) (.tmp 6) 43 rfl w.heap.size 3 i0 _ 1 8 Tryz.underlying43 HI.out HZ0.out HZ1.out HZ2.out rfl (by decide) (IsNum .i64) (zero_num .i64) _ 0 [] rfl HM.out ⟨b, off, none⟩ n cap xs rfl HLL.out HN.out HON.out HKK.out (by have := HMX.out; simp only [maxLen]; omega) (by have := HMX.out; omega) (by simp) ?_; intro v' w1 hown' hgrow; have R0 := Lib.hid hown'; have R1 := Lib.hid hgrow; clear hown' hgrow)
    go_ret
    refine ⟨_, rfl, ?_, ((Below.refl _ _).alloc (Nat.le_refl _) _).grown R1.out (by simp) (fun g hg => (HM.out.lt hg).1)⟩
    have h := R0.out
    simpa using h
theorem eqlNC15 (a : Option Addr) (n c : Nat) (w : World) : (binOp .eql 110 (.slice a n c) (.slice none 0 0)).run Tryz.prog w = .ok (.bool a.isNone) w := Lib.run_eql_slice_nil w 110 115 a n c 0 0 Tryz.underlying110
set_option maxRecDepth 100000 in
set_option maxHeartbeats 4000000 in
theorem cloneC15 (X : Value) (n : Nat) (xs : List Value) (w : World) (h : RowIn w X n xs) (hl : xs.length = n * 6) (h1 : ∀ u ∈ xs, u.oneCell' = true) (hK : ∀ u ∈ xs, (AnyCell) u) (hm : n ≤ 1000000000000) :
    Calls Tryz.prog 120 #[X] w (CloneDone w 115 6 (AnyCell) n xs) := by
  have hsn := eqlNC15
  obtain ⟨i0, hi, hz0, hz1, hz2⟩ := info_parts ins_info
  have HI := Lib.hid hi
  have HZ0 := Lib.hid hz0
  have HZ1 := Lib.hid hz1
  have HZ2 := Lib.hid hz2
  have HM := Lib.hid (Owns.made w w.heap.size 115 6 (AnyCell) (Nat.le_refl _))
  have HMX := Lib.hid hm
  have HLL := Lib.hid hl
  have HON := Lib.hid h1
  have HKK := Lib.hid hK
  rcases h.2 with ⟨rfl, rfl, a, cap, rfl⟩ | ⟨b, off, cap, rfl, h2, h3, h4⟩
  · cases a with
    | none =>
      clear h hi hz0 hz1 hz2 hl h1 hK hm
      go_enter Tryz.func120, Tryz.ntmps120
      go_wp2
      go_ret
      exact ⟨_, rfl, Owns.nil _ _ _ _ _, Below.refl _ _⟩
    | some ad =>
      clear h hi hz0 hz1 hz2 hl h1 hK hm
      go_enter Tryz.func120, Tryz.ntmps120
      go_wp2_with (at_builtin; refine wpList_append_q _ rfl (.tmp 5) (.tmp 6) 110 rfl w.heap.size 115 i0 _ 6 64 Tryz.underlying110 HI.out HZ0.out HZ1.out HZ2.out rfl (by decide) (AnyCell) (fun _ _ => trivial) _ 0 [] rfl HM.out ad 0 cap [] rfl (by simp) (by intro j u hj; simp at hj) (by simp) (by simp) (by simp only [maxLen]; omega) (by omega) (by simp) ?_; intro v' w1 hown' hgrow; have R0 := Lib.hid hown'; have R1 := Lib.hid hgrow; clear hown' hgrow)
      go_ret
      refine ⟨_, rfl, ?_, ((Below.refl _ _).alloc (Nat.le_refl _) _).grown R1.out (by simp) (fun g hg => (HM.out.lt hg).1)⟩
      have h := R0.out
      simpa using h
  · have HN : Hid (∀ j u, xs[j]? = some u → (w.alloc (.cells #[] 115)).cell? ((⟨b, off, none⟩ : Addr).add j) = some u) := Lib.hid (fun j u hj => by
      have e : (⟨b, off, none⟩ : Addr).add j = ⟨b, off + j, none⟩ := by unfold Addr.add; split <;> simp_all
      rw [e, World.cell?_alloc_lt w _ _ h3]
      exact h4 j u hj)
    clear h hi hz0 hz1 hz2 hl h1 hK hm h2 h3 h4
    go_enter Tryz.func120, Tryz.ntmps120
    go_wp2_with (at_builtin; refine wpList_append_q _ rfl (.tmp 5) (.tmp 6) 110 rfl w.heap.size 115 i0 _ 6 64 Tryz.underlying110 HI.out HZ0.out HZ1.out HZ2.out rfl (by decide) (AnyCell) (fun _ _ => trivial) _ 0 [] rfl HM.out ⟨b, off, none⟩ n cap xs rfl HLL.out HN.out HON.out HKK.out (by have := HMX.out; simp only [maxLen]; omega) (by have := HMX.out; omega) (by simp) ?_; intro v' w1 hown' hgrow; have R0 := Lib.hid hown'; have R1 := Lib.hid hgrow; clear hown' hgrow)
    go_ret
    refine ⟨_, rfl, ?_, ((Below.refl _ _).alloc (Nat.le_refl _) _).grown R1.out (by simp) (fun g hg => (HM.out.lt hg).1)⟩
    have h := R0.out
    simpa using h
theorem eqlNF15 (a : Option Addr) (n c : Nat) (w : World) : (binOp .eql 23 (.slice a n c) (.slice none 0 0)).run Tryz.prog w = .ok (.bool a.isNone) w := Lib.run_eql_slice_nil w 23 112 a n c 0 0 Tryz.underlying23
set_option maxRecDepth 100000 in
set_option maxHeartbeats 4000000 in
theorem cloneF15 (X : Value) (n : Nat) (xs : List Value) (w : World) (h : RowIn w X n xs) (hl : xs.length = n * 4) (h1 : ∀ u ∈ xs, u.oneCell' = true) (hK : ∀ u ∈ xs, (AnyCell) u) (hm : n ≤ 1000000000000) :
    Calls Tryz.prog 119 #[X] w (CloneDone w 112 4 (AnyCell) n xs) := by
  have hsn := eqlNF15
  obtain ⟨i0, hi, hz0, hz1, hz2⟩ := info_parts func_info
  have HI := Lib.hid hi
  have HZ0 := Lib.hid hz0
  have HZ1 := Lib.hid hz1
  have HZ2 := Lib.hid hz2
  have HM := Lib.hid (Owns.made w w.heap.size 112 4 (AnyCell) (Nat.le_refl _))
  have HMX := Lib.hid hm
  have HLL := Lib.hid hl
  have HON := Lib.hid h1
  have HKK := Lib.hid hK
  rcases h.2 with ⟨rfl, rfl, a, cap, rfl⟩ | ⟨b, off, cap, rfl, h2, h3, h4⟩
  · cases a with
    | none =>
      clear h hi hz0 hz1 hz2 hl h1 hK hm
      go_enter Tryz.func119, Tryz.ntmps119
      go_wp2
      go_ret
      exact ⟨_, rfl, Owns.nil _ _ _ _ _, Below.refl _ _⟩
    | some ad =>
      clear h hi hz0 hz1 hz2 hl h1 hK hm
      go_enter Tryz.func119, Tryz.ntmps119
      go_wp2_with (at_builtin; refine wpList_append_q _ rfl (.tmp 5) (.tmp 6) 23 rfl w.heap.size 112 i0 _ 4 48 Tryz.underlying23 HI.out HZ0.out HZ1.out HZ2.out rfl (by decide) (AnyCell) (fun _ _ => trivial) _ 0 [] rfl HM.out ad 0 cap [] rfl (by simp) (by intro j u hj; simp at hj) (by simp) (by simp) (by simp only [maxLen]; omega) (by omega) (by simp) ?_; intro v' w1 hown' hgrow; have R0 := Lib.hid hown'; have R1 := Lib.hid hgrow; clear hown' hgrow)
      go_ret
      refine ⟨_, rfl, ?_, ((Below.refl _ _).alloc (Nat.le_refl _) _).grown R1.out (by simp) (fun g hg => (HM.out.lt hg).1)⟩
      have h := R0.out
      simpa using h
  · have HN : Hid (∀ j u, xs[j]? = some u → (w.alloc (.cells #[] 112)).cell? ((⟨b, off, none⟩ : Addr).add j) = some u) := Lib.hid (fun j u hj => by
      have e : (⟨b, off, none⟩ : Addr).add j = ⟨b, off + j, none⟩ := by unfold Addr.add; split <;> simp_all
      rw [e, World.cell?_alloc_lt w _ _ h3]
      exact h4 j u hj)
    clear h hi hz0 hz1 hz2 hl h1 hK hm h2 h3 h4
    go_enter Tryz.func119, Tryz.ntmps119
    go_wp2_with (at_builtin; refine wpList_append_q _ rfl (.tmp 5) (.tmp 6) 23 rfl w.heap.size 112 i0 _ 4 48 Tryz.underlying23 HI.out HZ0.out HZ1.out HZ2.out rfl (by decide) (AnyCell) (fun _ _ => trivial) _ 0 [] rfl HM.out ⟨b, off, none⟩ n cap xs rfl HLL.out HN.out HON.out HKK.out (by have := HMX.out; simp only [maxLen]; omega) (by have := HMX.out; omega) (by simp) ?_; intro v' w1 hown' hgrow; have R0 := Lib.hid hown'; have R1 := Lib.hid hgrow; clear hown' hgrow)
    go_ret
    refine ⟨_, rfl, ?_, ((Below.refl _ _).alloc (Nat.le_refl _) _).grown R1.out (by simp) (fun g hg => (HM.out.lt hg).1)⟩
    have h := R0.out
    simpa using h
theorem eqlNL15 (a : Option Addr) (n c : Nat) (w : World) : (binOp .eql 78 (.slice a n c) (.slice none 0 0)).run Tryz.prog w = .ok (.bool a.isNone) w := Lib.run_eql_slice_nil w 78 136 a n c 0 0 Tryz.underlying78
set_option maxRecDepth 100000 in
set_option maxHeartbeats 4000000 in
theorem cloneL15 (X : Value) (n : Nat) (xs : List Value) (w : World) (h : RowIn w X n xs) (hl : xs.length = n * 4) (h1 : ∀ u ∈ xs, u.oneCell' = true) (hK : ∀ u ∈ xs, (AnyCell) u) (hm : n ≤ 1000000000000) :
    Calls Tryz.prog 71 #[X] w (CloneDone w 136 4 (AnyCell) n xs) := by
  have hsn := eqlNL15
  obtain ⟨i0, hi, hz0, hz1, hz2⟩ := info_parts link_info15
  have HI := Lib.hid hi
  have HZ0 := Lib.hid hz0
  have HZ1 := Lib.hid hz1
  have HZ2 := Lib.hid hz2
  have HM := Lib.hid (Owns.made w w.heap.size 136 4 (AnyCell) (Nat.le_refl _))
  have HMX := Lib.hid hm
  have HLL := Lib.hid hl
  have HON := Lib.hid h1
  have HKK := Lib.hid hK
  rcases h.2 with ⟨rfl, rfl, a, cap, rfl⟩ | ⟨b, off, cap, rfl, h2, h3, h4⟩
  · cases a with
    | none =>
      clear h hi hz0 hz1 hz2 hl h1 hK hm
      go_enter Tryz.func71, Tryz.ntmps71
      go_wp2
      go_ret
      exact ⟨_, rfl, Owns.nil _ _ _ _ _, Below.refl _ _⟩
    | some ad =>
      clear h hi hz0 hz1 hz2 hl h1 hK hm
      go_enter Tryz.func71, Tryz.ntmps71
      go_wp2_with (at_builtin; refine wpList_append_q _ rfl (.tmp 5) (.tmp 6) 78 rfl w.heap.size 136 i0 _ 4 32 Tryz.underlying78 HI.out HZ0.out HZ1.out HZ2.out rfl (by decide) (AnyCell) (fun _ _ => trivial) _ 0 [] rfl HM.out ad 0 cap [] rfl (by simp) (by intro j u hj; simp at hj) (by simp) (by simp) (by simp only [maxLen]; omega) (by omega) (by simp) ?_; intro v' w1 hown' hgrow; have R0 := Lib.hid hown'; have R1 := Lib.hid hgrow; clear hown' hgrow)
      go_ret
      refine ⟨_, rfl, ?_, ((Below.refl _ _).alloc (Nat.le_refl _) _).grown R1.out (by simp) (fun g hg => (HM.out.lt hg).1)⟩
      have h := R0.out
      simpa using h
  · have HN : Hid (∀ j u, xs[j]? = some u → (w.alloc (.cells #[] 136)).cell? ((⟨b, off, none⟩ : Addr).add j) = some u) := Lib.hid (fun j u hj => by
      have e : (⟨b, off, none⟩ : Addr).add j = ⟨b, off + j, none⟩ := by unfold Addr.add; split <;> simp_all
      rw [e, World.cell?_alloc_lt w _ _ h3]
      exact h4 j u hj)
    clear h hi hz0 hz1 hz2 hl h1 hK hm h2 h3 h4
    go_enter Tryz.func71, Tryz.ntmps71
    go_wp2_with (at_builtin; refine wpList_append_q _ rfl (.tmp 5) (.tmp 6) 78 rfl w.heap.size 136 i0 _ 4 32 Tryz.underlying78 HI.out HZ0.out HZ1.out HZ2.out rfl (by decide) (AnyCell) (fun _ _ => trivial) _ 0 [] rfl HM.out ⟨b, off, none⟩ n cap xs rfl HLL.out HN.out HON.out HKK.out (by have := HMX.out; simp only [maxLen]; omega) (by have := HMX.out; omega) (by simp) ?_; intro v' w1 hown' hgrow; have R0 := Lib.hid hown'; have R1 := Lib.hid hgrow; clear hown' hgrow)
    go_ret
    refine ⟨_, rfl, ?_, ((Below.refl _ _).alloc (Nat.le_refl _) _).grown R1.out (by simp) (fun g hg => (HM.out.lt hg).1)⟩
    have h := R0.out
    simpa using h
theorem cellsC_set : ∀ (l : List InsV) (Xs : List Value) (i : Nat) (X : Value), Xs.length = l.length → cellsC l (Xs.set i X) = (cellsC l Xs).set (i * 6 + 5) X
  | [], [], i, X, _ => by simp [cellsC]
  | y :: l, Z :: Xs, 0, X, h => by simp [cellsC, insList]
  | y :: l, Z :: Xs, i + 1, X, h => by
    simp only [List.set_cons_succ, cellsC]
    rw [cellsC_set l Xs i X (by simpa using h), List.set_append_right _ _ (by simp [insList]; omega)]
    congr 2
    simp [insList]
    omega
theorem cellsF_set : ∀ (l : List FunV) (Cs : List Value) (i : Nat) (C : Value), Cs.length = l.length → cellsF l (Cs.set i C) = (cellsF l Cs).set (i * 4 + 3) C
  | [], [], i, X, _ => by simp [cellsF]
  | y :: l, Z :: Xs, 0, X, h => by simp [cellsF, funList]
  | y :: l, Z :: Xs, i + 1, X, h => by
    simp only [List.set_cons_succ, cellsF]
    rw [cellsF_set l Xs i X (by simpa using h), List.set_append_right _ _ (by simp [funList]; omega)]
    congr 2
    simp [funList]
    omega
theorem set_take15 (xs : List Value) (p k : Nat) (u : Value) : (xs.set p u).take k = (xs.take k).set p u := by rw [List.take_set]
theorem Owns.setAt15 {w : World} {base : Nat} {e : TypeId} {size : Nat} {n cap g p : Nat} {xs : List Value} (h : Owns w base e size AnyCell (.slice (some ⟨g, 0, none⟩) n cap) n xs) (u : Value) :
    Owns (w.setCell ⟨g, p, none⟩ u) base e size AnyCell (.slice (some ⟨g, 0, none⟩) n cap) n (xs.set p u) := by
  refine ⟨⟨by rw [List.length_set]; exact h.1.1, ?_⟩, fun _ _ _ _ _ _ _ _ => trivial⟩
  rcases h.1.2 with ⟨h0, _⟩ | ⟨g', cap', cur, he, h1, h2, h3, h4, h5, h6⟩
  · cases h0
  · simp only [Value.slice.injEq, Option.some.injEq, Addr.mk.injEq, and_true, true_and] at he
    obtain ⟨rfl, rfl⟩ := he
    refine .inr ⟨g, cap, cur.setIfInBounds p u, rfl, h1, heap_setCell_same w g p cur _ u h2, h3, h4, by simpa using h5, ?_⟩
    rw [Array.toList_setIfInBounds, set_take15, h6]
theorem list_of15 (n : Nat) (Q : Nat → Value → Prop) (h : ∀ i, i < n → ∃ X, Q i X) : ∃ Xs : List Value, Xs.length = n ∧ ∀ i, i < n → Q i (Xs.getD i (.slice none 0 0)) := by
  classical
  refine ⟨(List.range n).map (fun i => if hi : i < n then Classical.choose (h i hi) else .slice none 0 0), by simp, fun i hi => ?_⟩
  have e : ((List.range n).map (fun i => if hi : i < n then Classical.choose (h i hi) else .slice none 0 0)).getD i (.slice none 0 0) = Classical.choose (h i hi) := by
    rw [List.getD_eq_getElem?_getD, List.getElem?_map, List.getElem?_range hi]
    simp [hi]
  rw [e]
  exact Classical.choose_spec (h i hi)
theorem code_row15 {w : World} {V : Value} {l : List InsV} (h : IsCode w w.heap.size V l) : ∃ Xs : List Value, Xs.length = l.length ∧ (∀ i, i < l.length → IsNums .i64 w w.heap.size (Xs.getD i (.slice none 0 0)) (l.getD i .zero).args) ∧ RowIn w V l.length (cellsC l Xs) := by
  rcases h.2.2 with ⟨rfl, a, cap, rfl⟩ | ⟨b, off, cap, h1, h2, h3, h4⟩
  · exact ⟨[], rfl, fun i hi => absurd hi (by simp), by simp [maxLen], .inl ⟨rfl, rfl, a, cap, rfl⟩⟩
  · obtain ⟨Xs, hl, hx⟩ := list_of15 l.length _ h4
    refine ⟨Xs, hl, fun i hi => (hx i hi).1, h.1, .inr ⟨b, off, cap, h1, h2, h3, fun j u hj => ?_⟩⟩
    have hjl : j < l.length * 6 := by
      rcases Nat.lt_or_ge j (l.length * 6) with h | h
      · exact h
      · rw [List.getElem?_eq_none (by rw [cellsC_length l Xs hl]; exact h)] at hj; cases hj
    have h5 := cellsC_at l Xs (i := j / 6) (j := j % 6) hl (by omega) (by omega)
    rw [show j / 6 * 6 + j % 6 = j by omega] at h5
    rw [h5] at hj
    injection hj with hj
    have h6 := (hx (j / 6) (by omega)).2 (j % 6) (by omega)
    rw [show off + j / 6 * 6 + j % 6 = off + j by omega] at h6
    rw [h6, hj]
theorem fun_row15 {w : World} {V : Value} {l : List FunV} (h : IsFuns w w.heap.size V l) : ∃ Cs : List Value, Cs.length = l.length ∧ (∀ i, i < l.length → IsCode w w.heap.size (Cs.getD i (.slice none 0 0)) (l.getD i .zero).code) ∧ RowIn w V l.length (cellsF l Cs) := by
  rcases h.2.2 with ⟨rfl, a, cap, rfl⟩ | ⟨b, off, cap, h1, h2, h3, h4⟩
  · exact ⟨[], rfl, fun i hi => absurd hi (by simp), by simp [maxLen], .inl ⟨rfl, rfl, a, cap, rfl⟩⟩
  · obtain ⟨Xs, hl, hx⟩ := list_of15 l.length _ h4
    refine ⟨Xs, hl, fun i hi => (hx i hi).1, h.1, .inr ⟨b, off, cap, h1, h2, h3, fun j u hj => ?_⟩⟩
    have hjl : j < l.length * 4 := by
      rcases Nat.lt_or_ge j (l.length * 4) with h | h
      · exact h
      · rw [List.getElem?_eq_none (by rw [cellsF_length l Xs hl]; exact h)] at hj; cases hj
    have h5 := cellsF_at l Xs (i := j / 4) (j := j % 4) hl (by omega) (by omega)
    rw [show j / 4 * 4 + j % 4 = j by omega] at h5
    rw [h5] at hj
    injection hj with hj
    have h6 := (hx (j / 4) (by omega)).2 (j % 4) (by omega)
    rw [show off + j / 4 * 4 + j % 4 = off + j by omega] at h6
    rw [h6, hj]
theorem nums_row15 {w : World} {X : Value} {xs : List Int} (h : IsNums .i64 w w.heap.size X xs) : RowIn w X xs.length (xs.map (Value.int .i64)) := by
  refine ⟨h.1, ?_⟩
  by_cases hn : 0 < xs.length
  · obtain ⟨b, off, cap, h1, h2, h3, h4⟩ := h.plain hn
    refine .inr ⟨b, off, cap, h1, h2, h3, fun j u hj => ?_⟩
    have hjl : j < xs.length := by
      rcases Nat.lt_or_ge j xs.length with h | h
      · exact h
      · rw [List.getElem?_eq_none (by simpa using h)] at hj; cases hj
    rw [h4 j hjl]
    simp [List.getElem?_eq_getElem hjl] at hj
    rw [← hj]
    simp [List.getD, List.getElem?_eq_getElem hjl]
  · have h0 : xs = [] := List.eq_nil_of_length_eq_zero (by omega)
    subst h0
    obtain ⟨a, cap, h1⟩ := h.len
    exact .inl ⟨rfl, rfl, a, cap, h1⟩
end Go.Proofs.YtkfdgpgildanbaaGreat
