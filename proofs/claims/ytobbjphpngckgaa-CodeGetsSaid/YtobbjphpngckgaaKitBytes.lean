/- What the helpers of the statements do with slices of bytes (the same, a copy, lent, kept, written over): contracts for all slices of bytes, in whatever memory. -/
import Derived.Test.YtobbjphpngckgaaRows
import Derived.Test.YtobbjphpngckgaaPutGet
import Derived.WalkKit
import Derived.WalkSpells
import Derived.WalkLawsBesides
import Derived.ProofKit
import Derived.Lib.Hide
namespace Go.Proofs.Ytobbjphpngckgaa
open Go.RowKit
set_option linter.unusedVariables false

theorem sameBytes_any (X Y : Value) (xs ys : List Int) (w : World) (B C : Nat) (hX : IsBytes w B X xs) (hY : IsBytes w C Y ys) :
    Calls Try.prog 14 #[X, Y] w fun e w' => e = .returned (.bool (xs == ys)) ∧ w = w' := by
  have cx := conv_bytes (P := Try.prog) hX Try.underlying26 Try.underlying5 Try.underlying9
  have cy := conv_bytes (P := Try.prog) hY Try.underlying26 Try.underlying5 Try.underlying9
  have e := beq_strOfNums hX.1 hY.1
  have E := Lib.hid e
  clear e hX hY
  go_enter Try.func14, Try.ntmps14
  go_wp2
  go_ret
  exact ⟨ret_bool E.out, rfl⟩
theorem sameBytes_yes (X Y : Value) (xs : List Int) (w : World) (B C : Nat) (hX : IsBytes w B X xs) (hY : IsBytes w C Y xs) :
    Calls Try.prog 14 #[X, Y] w fun e w' => e = .returned (.bool true) ∧ w = w' := by
  have h := sameBytes_any X Y xs xs w B C hX hY
  rw [beq_self_eq_true] at h
  exact h

/-- What CopyBytes and LentBytes leave. -/
def CopyDone (w : World) (xs : List Int) (e : Ending) (w' : World) : Prop :=
  ∃ v, e = .returned v ∧ Owns w' w.heap.size 5 1 IsU8 v xs.length (xs.map (Value.int .u8)) ∧ Below w.heap.size w w'
theorem copy_none (w : World) : Calls Try.prog 44 #[.slice none 0 0] w (CopyDone w []) := by
  go_enter Try.func44, Try.ntmps44
  go_wp2
  go_ret
  exact ⟨_, rfl, Owns.made w _ _ _ _ (Nat.le_refl _), (Below.refl _ _).alloc (Nat.le_refl _) _⟩
theorem copy_some (ad : Addr) (cap : Nat) (xs : List Int) (w : World) (hx : ∀ x ∈ xs, 0 ≤ x ∧ x < 256) (hm : xs.length ≤ 140737488355328) (hc : ∀ i, i < xs.length → w.cell? (ad.add i) = some (.int .u8 (xs.getD i 0))) (hb : 0 < xs.length → ad.block < w.heap.size) :
    Calls Try.prog 44 #[.slice (some ad) xs.length cap] w (CopyDone w xs) := by
  obtain ⟨i0, hi, hz0, hz1, hz2⟩ := info_parts u8_info
  have HI := Lib.hid hi
  have HZ0 := Lib.hid hz0
  have HZ1 := Lib.hid hz1
  have HZ2 := Lib.hid hz2
  have news : ∀ j u, (xs.map (Value.int .u8))[j]? = some u → (w.alloc (.cells #[] 5)).cell? (ad.add j) = some u := by
    intro j u hj
    have hl : j < xs.length := by
      rcases Nat.lt_or_ge j xs.length with h | h
      · exact h
      · rw [List.getElem?_eq_none (by simpa using h)] at hj
        cases hj
    have hbl : (ad.add j).block = ad.block := by unfold Addr.add; split <;> rfl
    rw [World.cell?_alloc_lt w _ _ (by rw [hbl]; exact hb (by omega)), hc j hl]
    simp [List.getElem?_eq_getElem hl] at hj
    subst hj
    simp [List.getD, List.getElem?_eq_getElem hl]
  have hmade := Owns.made w w.heap.size 5 1 IsU8 (Nat.le_refl _)
  have HN := Lib.hid news
  have HM := Lib.hid hmade
  have HK := Lib.hid (u8_cells hx)
  clear hi hz0 hz1 hz2 news hmade hc hb hx
  go_enter Try.func44, Try.ntmps44
  go_wp2_with (at_builtin; refine wpList_append_q _ rfl (.tmp 3) (.tmp 4) 26 rfl w.heap.size 5 i0 _ 1 1 Try.underlying26 HI.out HZ0.out HZ1.out HZ2.out rfl (by decide) IsU8 zero_u8 _ 0 [] rfl HM.out ad xs.length cap (xs.map (Value.int .u8)) rfl (by simp) HN.out (ints_oneCell _ _) HK.out (by simp only [maxLen]; omega) (by omega) (by simp) ?_; intro v' w1 hown' hgrow; have R0 := Lib.hid hown'; have R1 := Lib.hid hgrow; clear hown' hgrow)
  go_ret
  refine ⟨_, rfl, ?_, ((Below.refl _ _).alloc (Nat.le_refl _) _).grown R1.out (by simp) (fun g hg => (HM.out.lt hg).1)⟩
  have h := R0.out
  simpa using h
theorem copy_any (X : Value) (xs : List Int) (w : World) (hX : IsBytes w w.heap.size X xs) (hm : xs.length ≤ 140737488355328) : Calls Try.prog 44 #[X] w (CopyDone w xs) := by
  rcases hX.2.2 with ⟨rfl, rfl⟩ | ⟨ad, cap, rfl, h1, h2, h3⟩
  · exact copy_none w
  · exact copy_some ad cap xs w hX.1 hm h3 h2


/-- A list that is lent: in a block of its own, three marks behind it. -/
def Lent (w : World) (g : Nat) (xs : List Int) : Prop := ∃ cur, w.heap[g]? = some (.cells cur 5 (0, 0)) ∧ cur.toList.take (xs.length + 3) = (xs ++ [77, 201, 5]).map (Value.int .u8)
theorem Lent.below {w w' : World} {g B : Nat} {xs : List Int} (h : Lent w g xs) (hb : Below B w w') (hg : g < B) : Lent w' g xs := by
  obtain ⟨cur, h1, h2⟩ := h
  exact ⟨cur, (hb.block g hg).trans h1, h2⟩
theorem Lent.lt {w : World} {g : Nat} {xs : List Int} (h : Lent w g xs) : g < w.heap.size := by
  obtain ⟨cur, h1, _⟩ := h
  rcases Nat.lt_or_ge g w.heap.size with h | h
  · exact h
  · rw [Array.getElem?_eq_none h] at h1
    cases h1
theorem Lent.cell {w : World} {g : Nat} {xs : List Int} (h : Lent w g xs) {i : Nat} (hi : i < xs.length + 3) : w.cell? ⟨g, i, none⟩ = some (.int .u8 ((xs ++ [77, 201, 5]).getD i 0)) := by
  obtain ⟨cur, h1, h2⟩ := h
  have hl : i < (xs ++ [77, 201, 5]).length := by simp; omega
  have h3 : ((xs ++ [77, 201, 5]).map (Value.int .u8))[i]? = some (.int .u8 ((xs ++ [77, 201, 5]).getD i 0)) := by
    rw [List.getElem?_map, List.getElem?_eq_getElem hl]
    simp [List.getD, List.getElem?_eq_getElem hl]
  rw [← h2, List.getElem?_take] at h3
  rw [if_pos hi] at h3
  simp [World.cell?, h1]
  simpa using h3
theorem Lent.bytes {w : World} {g B cap : Nat} {xs : List Int} (h : Lent w g xs) (hx : ∀ x ∈ xs, 0 ≤ x ∧ x < 256) (hm : xs.length ≤ maxLen) (hB : g < B) (hc : xs.length ≤ cap) : IsBytes w B (.slice (some ⟨g, 0, none⟩) xs.length cap) xs := by
  refine ⟨hx, hm, .inr ⟨⟨g, 0, none⟩, cap, rfl, hc, fun _ => hB, fun i hi => ?_⟩⟩
  have e : (⟨g, 0, none⟩ : Addr).add i = ⟨g, i, none⟩ := by unfold Addr.add; split <;> simp_all
  rw [e, h.cell (by omega)]
  simp [List.getD, List.getElem?_append_left hi]
theorem Lent.marks {w : World} {g B cap : Nat} {xs : List Int} (h : Lent w g xs) (hB : g < B) (hc : 3 ≤ cap) : IsBytes w B (.slice (some ⟨g, xs.length, none⟩) 3 cap) [77, 201, 5] := by
  refine ⟨by intro x hx; simp at hx; omega, by simp [maxLen], .inr ⟨⟨g, xs.length, none⟩, cap, rfl, by simpa using hc, fun _ => hB, fun i hi => ?_⟩⟩
  have hi3 : i < 3 := by simpa using hi
  have e : (⟨g, xs.length, none⟩ : Addr).add i = ⟨g, xs.length + i, none⟩ := by unfold Addr.add; split <;> simp_all
  rw [e, h.cell (by omega)]
  simp [List.getD, List.getElem?_append_right]
def LentDone (w : World) (xs : List Int) (e : Ending) (w' : World) : Prop :=
  ∃ g, e = .returned (.slice (some ⟨g, 0, none⟩) xs.length (xs.length + 3)) ∧ w.heap.size ≤ g ∧ Lent w' g xs ∧ Below w.heap.size w w'
theorem marks_cells (w : World) : ∀ j u, ([77, 201, 5].map (Value.int .u8))[j]? = some u → (w.alloc (.cells #[.int .u8 77, .int .u8 201, .int .u8 5] 5)).cell? ((⟨w.heap.size, 0, none⟩ : Addr).add j) = some u :=
  World.news_of_block (cs := #[.int .u8 77, .int .u8 201, .int .u8 5]) (heap_alloc_new w _)
theorem lent_form {w : World} {base : Nat} {v : Value} {xs : List Int} (h : Owns w base 5 1 IsU8 v (xs.length + 3) (xs.map (Value.int .u8) ++ [77, 201, 5].map (Value.int .u8))) :
    ∃ g cap, v = .slice (some ⟨g, 0, none⟩) (xs.length + 3) cap ∧ base ≤ g ∧ xs.length + 3 ≤ cap ∧ cap ≤ 9223372036854775807 ∧ Lent w g xs := by
  rcases h.1.2 with ⟨_, h0⟩ | ⟨g, cap, cur, hv, h1, h2, h3, h4, _, h6⟩
  · omega
  · unfold maxLen at h4
    exact ⟨g, cap, hv, h1, h3, by omega, cur, h2, by rw [List.map_append, ← h6, Nat.mul_one]⟩
set_option maxHeartbeats 1000000 in
theorem lent_any (X : Value) (xs : List Int) (w : World) (hX : IsBytes w w.heap.size X xs) (hm : xs.length ≤ 140737488355000) : Calls Try.prog 21 #[X] w (LentDone w xs) := by
  obtain ⟨i0, hi, hz0, hz1, hz2⟩ := info_parts u8_info
  have HI := Lib.hid hi
  have HZ0 := Lib.hid hz0
  have HZ1 := Lib.hid hz1
  have HZ2 := Lib.hid hz2
  have HC := Lib.hid (copy_any X xs w hX (by omega))
  obtain ⟨A, cap, rfl⟩ := hX.len
  clear hi hz0 hz1 hz2 hX
  go_enter Try.func21, Try.ntmps21
  go_wp2_with (first
    | (go_at_call 44; refine HC.out.mono ?_; rintro e w1 ⟨v, rfl, hown, hbel⟩; have hsz := hbel.size; have HO := Lib.hid hown; have HB := Lib.hid hbel; clear hown hbel)
    | (at_builtin; refine wpList_append_q _ rfl (.tmp 5) (.tmp 6) 26 rfl w.heap.size 5 i0 _ 1 1 Try.underlying26 HI.out HZ0.out HZ1.out HZ2.out rfl (by decide) IsU8 zero_u8 _ xs.length (xs.map (Value.int .u8)) rfl (HO.out.alloc _) ⟨w1.heap.size, 0, none⟩ 3 3 ([77, 201, 5].map (Value.int .u8)) rfl (by simp) (marks_cells w1) (ints_oneCell _ _) (u8_cells (by intro x hx; simp at hx; omega)) (by simp only [maxLen]; omega) (by omega) (by simp; omega) ?_; intro v' w2 hown' hgrow; obtain ⟨g, cap2, rfl, q1, q2, q3, q4⟩ := lent_form hown'; have R0 := Lib.hid q4; have R1 := Lib.hid hgrow; clear hown' hgrow q4))
  go_ret
  exact ⟨g, rfl, q1, R0.out, ((HB.out.alloc hsz _).grown R1.out (by simp; omega) (fun k hk => (HO.out.lt hk).1))⟩


set_option maxHeartbeats 1000000 in
theorem kept_yes (Y : Value) (xs : List Int) (g : Nat) (w : World) (B : Nat) (hL : Lent w g xs) (hY : IsBytes w B Y xs) (hm : xs.length ≤ 140737488355000) :
    Calls Try.prog 29 #[.slice (some ⟨g, 0, none⟩) xs.length (xs.length + 3), Y] w fun e w' => e = .returned (.bool true) ∧ Below w.heap.size w w' := by
  have h1 : IsBytes w w.heap.size (.slice (some ⟨g, 0, none⟩) xs.length (xs.length + 3)) xs := hL.bytes hY.1 (by simp only [maxLen]; omega) hL.lt (by omega)
  have C1 := Lib.hid (sameBytes_yes _ _ xs w _ _ h1 hY)
  have h2 : ∀ cap, 3 ≤ cap → IsBytes (w.alloc (.cells #[.int .u8 77, .int .u8 201, .int .u8 5] 5)) (w.heap.size + 1) (.slice (some ⟨g, xs.length, none⟩) 3 cap) [77, 201, 5] := fun cap hc => (hL.below ((Below.refl _ _).alloc (Nat.le_refl _) _) hL.lt).marks (by have := hL.lt; omega) hc
  have h3 : IsBytes (w.alloc (.cells #[.int .u8 77, .int .u8 201, .int .u8 5] 5)) (w.heap.size + 1) (.slice (some ⟨w.heap.size, 0, none⟩) 3 3) [77, 201, 5] := by
    refine ⟨by intro x hx; simp at hx; omega, by simp [maxLen], .inr ⟨⟨w.heap.size, 0, none⟩, 3, rfl, by simp, fun _ => by simp, fun i hi => ?_⟩⟩
    have := marks_cells w i (.int .u8 ([77, 201, 5].getD i 0)) (by rw [List.getElem?_map, List.getElem?_eq_getElem hi]; simp [List.getD, List.getElem?_eq_getElem hi])
    exact this
  have C2 := Lib.hid (fun cap hc => sameBytes_yes _ _ [77, 201, 5] _ _ _ (h2 cap hc) h3)
  obtain ⟨A, cap, rfl⟩ := hY.len
  clear hL hY h1 h2 h3
  go_enter Try.func29, Try.ntmps29
  go_wp2_with (first
    | (go_at_call 14; (with_reducible refine C1.out.mono ?_); rintro e w' ⟨rfl, rfl⟩)
    | (go_at_call 14; refine (C2.out _ (by omega)).mono ?_; rintro e w' ⟨rfl, rfl⟩))
  go_ret
  exact ⟨rfl, (Below.refl _ _).alloc (Nat.le_refl _) _⟩


/-- A block of so many bytes. -/
def Full (w : World) (g cap : Nat) : Prop := ∃ cur, w.heap[g]? = some (.cells cur 5 (0, 0)) ∧ cur.size = cap ∧ ∀ u ∈ cur.toList, IsU8 u
theorem Full.cell {w : World} {g cap : Nat} (h : Full w g cap) {k : Nat} (hk : k < cap) : ∃ y : Int, 0 ≤ y ∧ y < 256 ∧ w.cell? ⟨g, k, none⟩ = some (.int .u8 y) ∧ w.frozen? ⟨g, k, none⟩ = false := by
  obtain ⟨cur, h1, h2, h3⟩ := h
  obtain ⟨y, y1, y2, hy⟩ := h3 (cur[k]'(by omega)) (by simp)
  refine ⟨y, y1, y2, ?_, frozen_of_row w g k cur _ h1⟩
  rw [cell_of_row w g k cur _ _ h1, Array.getElem?_eq_getElem (by omega), hy]
theorem Full.set {w : World} {g cap : Nat} (h : Full w g cap) (k : Nat) {u : Value} (hu : IsU8 u) : Full (w.setCell ⟨g, k, none⟩ u) g cap := by
  obtain ⟨cur, h1, h2, h3⟩ := h
  refine ⟨cur.setIfInBounds k u, heap_setCell_same w g k cur _ u h1, by simpa using h2, fun x hx => ?_⟩
  rw [Array.toList_setIfInBounds] at hx
  rcases List.mem_or_eq_of_mem_set hx with h | h
  · exact h3 x h
  · subst h; exact hu
set_option maxHeartbeats 1000000 in
theorem over_any (v : Value) (n base : Nat) (xs : List Value) (w : World) (h : Owns w base 5 1 IsU8 v n xs) :
    Calls Try.prog 15 #[v] w fun e w' => e = .returned (.tuple #[]) ∧ Below base w w' := by
  rcases h.1.2 with ⟨rfl, _⟩ | ⟨g, cap, cur, rfl, h1, h2, h3, h4, h5, _⟩
  · clear h
    go_enter Try.func15, Try.ntmps15
    go_wp2
    go_loopw [3] (fun i wr => i = .int .i64 0 ∧ wr = w) (fun _ _ => 0)
    case atStart => exact ⟨rfl, rfl⟩
    case round =>
      obtain ⟨rfl, rfl⟩ := hrel
      go_wp2
      go_end0
      exact ⟨rfl, Below.refl _ _⟩
  · have hF : Full w g cap := ⟨cur, h2, by simpa using h5, h.2 g cur _ _ (by simp [Value.ownBlock]) h2⟩
    have HF := Lib.hid hF
    unfold maxLen at h4
    clear h h2 h5 hF
    go_enter Try.func15, Try.ntmps15
    go_wp2
    go_loopw [3] (fun i wr => ∃ k : Nat, k ≤ cap ∧ i = .int .i64 k ∧ Full wr g cap ∧ Below base w wr) (fun i _ => cap - (intOf i).toNat)
    case atStart => exact ⟨0, by omega, rfl, HF.out, Below.refl _ _⟩
    case round =>
      obtain ⟨k, hk, rfl, hf, hb⟩ := hrel
      have HF2 := Lib.hid hf
      have HB := Lib.hid hb
      clear hf hb
      by_cases hlt : k < cap
      · obtain ⟨y, y1, y2, hcell, hfro⟩ := HF2.out.cell hlt
        go_wp2
        go_roundw
        case rel => exact ⟨k + 1, by omega, by go_num, HF2.out.set k ⟨_, by omega, by omega, rfl⟩, HB.out.setCell h1 _⟩
        case measure => simp [intOf]; omega
      · go_wp2
        go_end0
        exact ⟨rfl, HB.out⟩

end Go.Proofs.Ytobbjphpngckgaa
