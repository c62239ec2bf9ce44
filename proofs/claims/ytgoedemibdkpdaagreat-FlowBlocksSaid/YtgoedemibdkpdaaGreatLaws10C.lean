/- The chapter's examples: awake, and FlowKnown. Contracts; no condition. -/
import Derived.Test.YtgoedemibdkpdaaGreatLaws10B
namespace Go.Proofs.YtgoedemibdkpdaaGreat
open Go.RowKit
set_option linter.unusedVariables false
set_option linter.unusedSimpArgs false

theorem six_check : check10 sixV = 0 := by decide +kernel
def sixNext : List (List Int) := [[1], [2], [3], [0], [], []]
theorem six_next : ∀ i, i < 6 → nextV sixV i = sixNext.getD i [] := by decide +kernel
def sixReach : List Bool := [true, true, true, true, false, false]
theorem six_reach {r : List Bool} (h : IsReach 6 (nextV sixV) r) : r = sixReach := by
  refine h.uniq ⟨rfl, fun i hi => ?_⟩
  have h1 : Rch (nextV sixV) 1 := .step .zero (by rw [six_next 0 (by decide)]; decide)
  have h2 : Rch (nextV sixV) 2 := .step h1 (by rw [six_next 1 (by decide)]; decide)
  have h3 : Rch (nextV sixV) 3 := .step h2 (by rw [six_next 2 (by decide)]; decide)
  have hc : Closed 6 (nextV sixV) (fun i => sixReach.getD i false) := by
    intro i hi hr x hx
    rw [six_next i hi] at hx
    rcases (show i = 0 ∨ i = 1 ∨ i = 2 ∨ i = 3 ∨ i = 4 ∨ i = 5 by omega) with rfl | rfl | rfl | rfl | rfl | rfl <;> simp [sixNext] at hx <;> subst hx <;> rfl
  have hb : ∀ i, i < 6 → ∀ x ∈ nextV sixV i, 0 ≤ x ∧ x < (6 : Nat) := fun i hi => (good10 six_check).next (l := sixV) hi
  constructor
  · intro hr
    rcases (show i = 0 ∨ i = 1 ∨ i = 2 ∨ i = 3 ∨ i = 4 ∨ i = 5 by omega) with rfl | rfl | rfl | rfl | rfl | rfl
    · exact .zero
    · exact h1
    · exact h2
    · exact h3
    · cases hr
    · cases hr
  · intro hr
    exact (Rch.within (r := fun i => sixReach.getD i false) (by decide) hb rfl hc hr).2
theorem IsLs.congr {w : World} {B n : Nat} {V : Value} {ll ll' : Nat → List Int} (h : IsLs w B V n ll) (he : ∀ i, i < n → ll i = ll' i) : IsLs w B V n ll' := by
  refine ⟨h.1, ?_⟩
  rcases h.2 with h0 | ⟨b, off, cap, h1, h2, h3, h4⟩
  · exact .inl h0
  · exact .inr ⟨b, off, cap, h1, h2, h3, fun i hi => by rw [← he i hi]; exact h4 i hi⟩
theorem IsBools.congr {w : World} {B n : Nat} {V : Value} {r s : Nat → Bool} (h : IsBools w B V n r) (he : ∀ i, i < n → r i = s i) : IsBools w B V n s := by
  refine ⟨h.1, ?_⟩
  rcases h.2 with h0 | ⟨b, off, cap, h1, h2, h3, h4⟩
  · exact .inl h0
  · exact .inr ⟨b, off, cap, h1, h2, h3, fun i hi => by rw [← he i hi]; exact h4 i hi⟩
/-- One number in a block of its own, whatever is made behind it. -/
theorem num_one_at {w w' : World} (x : Int) {g B : Nat} (h : w'.heap[g]? = some (.cells #[.int .i64 x] 3 (0, 0))) (hB : g < B) : IsNums .i64 w' B (.slice (some ⟨g, 0, none⟩) 1 1) [x] :=
  IsNums.of_row (xs := [x]) h hB (by simp [maxLen]) (by simp)
theorem block_at {w w' : World} {o : Obj} (h : Below (w.alloc o).heap.size (w.alloc o) w') : w'.heap[w.heap.size]? = (w.alloc o).heap[w.heap.size]? := h.block _ (by simp)
theorem lit_lists (w : World) : IsLs (((((w.alloc (.cells #[.int .i64 1] 3)).alloc (.cells #[.int .i64 2] 3)).alloc (.cells #[.int .i64 3] 3)).alloc (.cells #[.int .i64 0] 3)).alloc (.cells #[.slice (some ⟨w.heap.size, 0, none⟩) 1 1, .slice (some ⟨w.heap.size + 1, 0, none⟩) 1 1, .slice (some ⟨w.heap.size + 2, 0, none⟩) 1 1, .slice (some ⟨w.heap.size + 3, 0, none⟩) 1 1, .slice none 0 0, .slice none 0 0] 32)) (w.heap.size + 5)
    (.slice (some ⟨w.heap.size + 4, 0, none⟩) 6 6) 6 (fun i => sixNext.getD i []) := by
  generalize hc : (.cells #[.slice (some ⟨w.heap.size, 0, none⟩) 1 1, .slice (some ⟨w.heap.size + 1, 0, none⟩) 1 1, .slice (some ⟨w.heap.size + 2, 0, none⟩) 1 1, .slice (some ⟨w.heap.size + 3, 0, none⟩) 1 1, .slice none 0 0, .slice none 0 0] 32 : Obj) = o
  have b0 : ((((w.alloc (.cells #[.int .i64 1] 3)).alloc (.cells #[.int .i64 2] 3)).alloc (.cells #[.int .i64 3] 3)).alloc (.cells #[.int .i64 0] 3) |>.alloc o).heap[w.heap.size]? = some (.cells #[.int .i64 1] 3 (0, 0)) := by
    rw [Below.heap_alloc _ _ _ (by simp <;> omega), Below.heap_alloc _ _ _ (by simp <;> omega), Below.heap_alloc _ _ _ (by simp <;> omega), Below.heap_alloc _ _ _ (by simp)]
    exact heap_alloc_new _ _
  have b1 : ((((w.alloc (.cells #[.int .i64 1] 3)).alloc (.cells #[.int .i64 2] 3)).alloc (.cells #[.int .i64 3] 3)).alloc (.cells #[.int .i64 0] 3) |>.alloc o).heap[w.heap.size + 1]? = some (.cells #[.int .i64 2] 3 (0, 0)) := by
    rw [Below.heap_alloc _ _ _ (by simp <;> omega), Below.heap_alloc _ _ _ (by simp <;> omega), Below.heap_alloc _ _ _ (by simp)]
    have := heap_alloc_new (w.alloc (.cells #[.int .i64 1] 3)) (.cells #[.int .i64 2] 3)
    simpa using this
  have b2 : ((((w.alloc (.cells #[.int .i64 1] 3)).alloc (.cells #[.int .i64 2] 3)).alloc (.cells #[.int .i64 3] 3)).alloc (.cells #[.int .i64 0] 3) |>.alloc o).heap[w.heap.size + 2]? = some (.cells #[.int .i64 3] 3 (0, 0)) := by
    rw [Below.heap_alloc _ _ _ (by simp <;> omega), Below.heap_alloc _ _ _ (by simp)]
    have := heap_alloc_new ((w.alloc (.cells #[.int .i64 1] 3)).alloc (.cells #[.int .i64 2] 3)) (.cells #[.int .i64 3] 3)
    simpa using this
  have b3 : ((((w.alloc (.cells #[.int .i64 1] 3)).alloc (.cells #[.int .i64 2] 3)).alloc (.cells #[.int .i64 3] 3)).alloc (.cells #[.int .i64 0] 3) |>.alloc o).heap[w.heap.size + 3]? = some (.cells #[.int .i64 0] 3 (0, 0)) := by
    rw [Below.heap_alloc _ _ _ (by simp)]
    have := heap_alloc_new (((w.alloc (.cells #[.int .i64 1] 3)).alloc (.cells #[.int .i64 2] 3)).alloc (.cells #[.int .i64 3] 3)) (.cells #[.int .i64 0] 3)
    simpa using this
  have b4 : ((((w.alloc (.cells #[.int .i64 1] 3)).alloc (.cells #[.int .i64 2] 3)).alloc (.cells #[.int .i64 3] 3)).alloc (.cells #[.int .i64 0] 3) |>.alloc o).heap[w.heap.size + 4]? = some o := by
    rw [← hc]
    have := heap_alloc_new ((((w.alloc (.cells #[.int .i64 1] 3)).alloc (.cells #[.int .i64 2] 3)).alloc (.cells #[.int .i64 3] 3)).alloc (.cells #[.int .i64 0] 3)) (.cells #[.slice (some ⟨w.heap.size, 0, none⟩) 1 1, .slice (some ⟨w.heap.size + 1, 0, none⟩) 1 1, .slice (some ⟨w.heap.size + 2, 0, none⟩) 1 1, .slice (some ⟨w.heap.size + 3, 0, none⟩) 1 1, .slice none 0 0, .slice none 0 0] 32)
    simpa using this
  subst hc
  refine ⟨by decide, .inr ⟨w.heap.size + 4, 0, 6, rfl, Nat.le_refl _, Nat.lt_succ_self _, fun i hi => ?_⟩⟩
  rw [cell_of_row _ _ _ _ _ _ b4, Nat.zero_add]
  rcases (show i = 0 ∨ i = 1 ∨ i = 2 ∨ i = 3 ∨ i = 4 ∨ i = 5 by omega) with rfl | rfl | rfl | rfl | rfl | rfl
  · exact ⟨_, num_one_at (w := w) 1 b0 (by omega), rfl⟩
  · exact ⟨_, num_one_at (w := w) 2 b1 (by omega), rfl⟩
  · exact ⟨_, num_one_at (w := w) 3 b2 (by omega), rfl⟩
  · exact ⟨_, num_one_at (w := w) 0 b3 (by omega), rfl⟩
  · exact ⟨.slice none 0 0, ⟨by decide, .inl ⟨rfl, rfl⟩⟩, rfl⟩
  · exact ⟨.slice none 0 0, ⟨by decide, .inl ⟨rfl, rfl⟩⟩, rfl⟩
theorem lit_bools (w : World) : IsBools (w.alloc (.cells #[.bool true, .bool true, .bool true, .bool true, .bool false, .bool false] 4)) (w.heap.size + 1) (.slice (some ⟨w.heap.size, 0, none⟩) 6 6) 6 (fun i => sixReach.getD i false) := by
  refine ⟨by decide, .inr ⟨w.heap.size, 0, 6, rfl, Nat.le_refl _, Nat.lt_succ_self _, fun i hi => ?_⟩⟩
  rw [cell_of_row _ _ _ _ _ _ (heap_alloc_new w _), Nat.zero_add]
  rcases (show i = 0 ∨ i = 1 ∨ i = 2 ∨ i = 3 ∨ i = 4 ∨ i = 5 by omega) with rfl | rfl | rfl | rfl | rfl | rfl <;> rfl
theorem six_nextN {w : World} {V : Value} (h : IsCode w w.heap.size V sixV) : Calls Tryz.prog 12 #[V] w fun e w' => Below w.heap.size w w' ∧ ∃ g, e = .returned (.tuple #[.slice (some ⟨g, 0, none⟩) 6 6, .int .i64 0]) ∧ IsLs w' w'.heap.size (.slice (some ⟨g, 0, none⟩) 6 6) 6 (fun i => sixNext.getD i []) :=
  (next_any V sixV w h).mono fun e w' ⟨hb, hh⟩ => by
    obtain ⟨_, g, Xs, he, hl⟩ := hh.resolve_left (fun h => h.1 six_check)
    exact ⟨hb, g, he, (hl.ls (by decide)).congr six_next⟩
theorem six_reachN {w : World} {V : Value} (h : IsCode w w.heap.size V sixV) : Calls Tryz.prog 14 #[V] w fun e w' => Below w.heap.size w w' ∧ ∃ g, e = .returned (.tuple #[.slice (some ⟨g, 0, none⟩) 6 6, .int .i64 0]) ∧ IsBools w' w'.heap.size (.slice (some ⟨g, 0, none⟩) 6 6) 6 (fun i => sixReach.getD i false) :=
  (reached10_any V sixV w h).mono fun e w' ⟨hb, hh⟩ => by
    obtain ⟨_, g, r, he, _, hr, hrow⟩ := hh.resolve_left (fun h => h.1 six_check)
    have := six_reach hr
    subst this
    exact ⟨hb, g, he, hrow.bools (by decide)⟩
set_option maxRecDepth 100000 in
set_option maxHeartbeats 8000000 in
theorem awake10_any (w : World) : Calls Tryz.prog 5 #[] w (Makes w (.bool true)) := by
  go_enter Tryz.func5, Tryz.ntmps5
  go_wp2_with (first
    | (go_at_call 13; (with_reducible refine (six_any w).mono ?_); rintro e w1 ⟨rfl, hb, hc⟩; have HB1 := Lib.hid hb; have HC1 := Lib.hid hc; clear hb hc)
    | (go_at_call 12; (with_reducible refine (six_nextN HC1.out).mono ?_); rintro e w2 ⟨hb, g, rfl, hl⟩; have HB2 := Lib.hid (HB1.out.trans (hb.mono HB1.out.size)); have HL2 := Lib.hid hl; clear hb hl)
    | (go_at_call 13; (with_reducible refine (six_any w2).mono ?_); rintro e w3 ⟨rfl, hb, hc⟩; have HB3 := Lib.hid (HB2.out.trans (hb.mono HB2.out.size)); have HL3 := Lib.hid (HL2.out.below hb (Nat.le_refl _)); have HS3 := Lib.hid hb.size; have HC3 := Lib.hid hc; clear hb hc)
    | (go_at_call 14; (with_reducible refine (six_reachN HC3.out).mono ?_); rintro e w4 ⟨hb, g4, rfl, hr⟩; have HB4 := Lib.hid (HB3.out.trans (hb.mono HB3.out.size)); have HL4 := Lib.hid ((HL3.out.below hb HS3.out)); have HR4 := Lib.hid hr; have HS4 := Lib.hid (Nat.le_trans HS3.out hb.size); clear hb hr)
    | (go_at_call 15; ((with_reducible refine (sameLists_yes _ _ 6 (fun i => sixNext.getD i []) _ _ _ (HL4.out.below ((((((Below.refl w4.heap.size w4).alloc (Nat.le_refl _) (.cells #[.int .i64 1] 3)).alloc (by simp) (.cells #[.int .i64 2] 3)).alloc (by simp <;> omega) (.cells #[.int .i64 3] 3)).alloc (by simp <;> omega) (.cells #[.int .i64 0] 3)).alloc (by simp <;> omega) _) HS4.out) (lit_lists w4)).mono ?_); rintro e w5 ⟨rfl, q5, hw5⟩; have hb5 : Below w4.heap.size w4 w5 := (by rw [hw5]; exact below_drewN ((((((Below.refl w4.heap.size w4).alloc (Nat.le_refl _) (.cells #[.int .i64 1] 3)).alloc (by simp) (.cells #[.int .i64 2] 3)).alloc (by simp <;> omega) (.cells #[.int .i64 3] 3)).alloc (by simp <;> omega) (.cells #[.int .i64 0] 3)).alloc (by simp <;> omega) _) q5); have HB5 := Lib.hid (HB4.out.trans (hb5.mono HB4.out.size)); have HR5 := Lib.hid (HR4.out.below hb5 (Nat.le_refl _)); have HS5 := Lib.hid hb5.size; clear hw5 hb5))
    | (go_at_call 16; ((with_reducible refine (sameBools_yes _ _ 6 (fun i => sixReach.getD i false) _ _ _ (HR5.out.below ((Below.refl w5.heap.size w5).alloc (Nat.le_refl _) _) HS5.out) (lit_bools w5)).mono ?_); rintro e w6 ⟨rfl, q6, rfl⟩)))
  go_ret
  exact ⟨rfl, HB5.out.trans ((below_drewN ((Below.refl w5.heap.size w5).alloc (Nat.le_refl _) _) q6).mono HB5.out.size)⟩
end Go.Proofs.YtgoedemibdkpdaaGreat
