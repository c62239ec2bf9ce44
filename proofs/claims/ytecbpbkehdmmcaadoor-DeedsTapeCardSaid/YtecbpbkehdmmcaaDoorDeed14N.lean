/- The landed Text. Contract; no condition but that the outcome lies in memory. -/
import Derived.Test.YtecbpbkehdmmcaaDoorDeed14M
namespace Go.Proofs.YtecbpbkehdmmcaaDoor
open Go.RowKit Go.Shelf
set_option linter.unusedVariables false
set_option linter.unusedSimpArgs false

def textQ (L : List (Int × Int)) (k c : Int) : ByteArray := if okO L k c = true then strOfNums (textO L k c) else ⟨#[]⟩
set_option maxRecDepth 100000 in
set_option maxHeartbeats 4000000 in
theorem text14 (V : Value) (L : List (Int × Int)) (k c : Int) (w : World) (hV : IsDeeds w w.heap.size V L) (hE : Env14 w) :
    Calls Tryd.prog 23 #[.agg #[V, .int .i64 k, .int .i64 c]] w (Makes w (.tuple #[.string (textQ L k c), .int .i64 (errO L k c)])) := by
  obtain ⟨A, cap, rfl, hc⟩ := hV.len
  have HB := Lib.hid (below_one14 w (.cells #[.slice A L.length cap, .int .i64 k, .int .i64 c] 47))
  have HX : Hid (∀ W, Below (w.alloc (.cells #[.slice A L.length cap, .int .i64 k, .int .i64 c] 47)).heap.size (w.alloc (.cells #[.slice A L.length cap, .int .i64 k, .int .i64 c] 47)) W → W.cell? ⟨w.heap.size, 0, none⟩ = some (.slice A L.length cap) ∧ W.cell? ⟨w.heap.size, 1, none⟩ = some (.int .i64 k) ∧ W.cell? ⟨w.heap.size, 2, none⟩ = some (.int .i64 c)) := Lib.hid (fun W hb => cells3_14 (box_below14 (heap_alloc_new w _) hb))
  have HC := Lib.hid (check14 _ L k c _ (hV.grow HB.out))
  obtain ⟨x0, x1, x2⟩ := HX.out _ (Below.refl _ _)
  by_cases hok : okO L k c = true
  · have HQ : Hid (textQ L k c = strOfNums (textO L k c) ∧ errO L k c = 0) := Lib.hid ⟨by unfold textQ; rw [if_pos hok], by unfold errO; rw [if_pos hok]⟩
    have hok2 := hok
    unfold okO at hok2
    simp only [Bool.and_eq_true, decide_eq_true_eq] at hok2
    have hd := good_mem L false hok2.2
    have HWr : Hid (∀ w1, Below w.heap.size w w1 → Calls Tryd.prog 44 #[.iface 69 (.pointer (some ⟨w1.heap.size, 0, none⟩)), .agg #[.slice A L.length cap, .int .i64 k, .int .i64 c]] (w1.alloc (.cells #[.pointer none, .slice none 0 0] 71)) fun e w' => e = .returned (.tuple #[]) ∧ Bld14 (w1.heap.size + 1) w1.heap.size (strOfNums (textO L k c)) w' ∧ Below w.heap.size w w' ∧ w1.heap.size + 1 ≤ w'.heap.size) := Lib.hid (fun w1 hb1 => by
      have hb2 := hb1.trans ((below_one14 w1 (.cells #[.pointer none, .slice none 0 0] 71)).mono hb1.size)
      have h := writeO14 (.slice A L.length cap) L k c (w1.heap.size + 1) w1.heap.size w (w1.alloc (.cells #[.pointer none, .slice none 0 0] 71)) hE hb2 (hV.below hb2 (Nat.le_refl _)) (bld_new14 w1 _) hb1.size (Nat.le_trans hb1.size (Nat.le_succ _)) (by simp) hd hok2.1.2 hok2.1.1
      simp only [World.size_alloc] at h
      exact h)
    rw [HQ.out.1]
    rw [HQ.out.2] at HC ⊢
    clear hV hE hok hok2 hd hc
    generalize L.length = n at *
    go_enter Tryd.func23, Tryd.ntmps23
    go_wp2_with (first
      | (go_at_call 25; (with_reducible refine HC.out.mono ?_); rintro e w1 ⟨rfl, hb⟩; have HB1 := Lib.hid (HB.out.trans (hb.mono HB.out.size)); obtain ⟨y0, y1, y2⟩ := HX.out _ hb; have hlt : w.heap.size < w1.heap.size := (by have := hb.size; simp at this; omega); clear hb)
      | (go_at_call 44; (with_reducible refine (HWr.out _ HB1.out).mono ?_); rintro e w2 ⟨rfl, hbl, hb, hs⟩; have HB2 := Lib.hid hb; have HL2 := Lib.hid hbl; clear hbl hb hs)
      | (go_at_call 45; (with_reducible refine (string14 w.heap.size _ _ _ _ HL2.out (Nat.le_trans HB1.out.size (Nat.le_succ _)) HB1.out.size HB2.out.size).mono ?_); rintro e w3 ⟨rfl, hb⟩; have HB3 := Lib.hid (HB2.out.trans hb); clear hb))
    go_ret2
    exact ⟨rfl, HB3.out⟩
  · have HQ : Hid (textQ L k c = ⟨#[]⟩ ∧ errO L k c = 2) := Lib.hid ⟨by unfold textQ; rw [if_neg hok], by unfold errO; rw [if_neg hok]⟩
    rw [HQ.out.1]
    rw [HQ.out.2] at HC ⊢
    clear hV hE hok hc
    generalize L.length = n at *
    go_enter Tryd.func23, Tryd.ntmps23
    go_wp2_with (go_at_call 25; (with_reducible refine HC.out.mono ?_); rintro e w1 ⟨rfl, hb⟩; have HB1 := Lib.hid (HB.out.trans (hb.mono HB.out.size)); clear hb)
    go_ret2
    exact ⟨rfl, HB1.out⟩
end Go.Proofs.YtecbpbkehdmmcaaDoor
