/- The landed Next, and reached with its stack. Contracts; no condition but what each names. -/
import Derived.Test.YtgoedemibdkpdaaGreatFlow10C
import Derived.Test.YtgoedemibdkpdaaGreatReach10
import Derived.Deep.LoopGhost
namespace Go.Proofs.YtgoedemibdkpdaaGreat
open Go.RowKit
set_option linter.unusedVariables false
set_option linter.unusedSimpArgs false

theorem take_none (wb : Nat) (a : Option Addr) (c : Nat) (w : World) (h : w.cell? ⟨wb, 0, none⟩ = some (.slice a 0 c)) :
    Calls Tryz.prog 43 #[.pointer (some ⟨wb, 0, none⟩)] w fun e w' => e = .returned (.tuple #[.int .i64 (-1), .bool false]) ∧ w = w' := by
  go_enter Tryz.func43, Tryz.ntmps43
  go_wp2
  go_ret2
  exact ⟨rfl, rfl⟩
theorem take_some (wb q cap : Nat) (ws : List Int) (p : Int) (w : World) (h : w.cell? ⟨wb, 0, none⟩ = some (.slice (some ⟨q, 0, none⟩) (ws.length + 1) cap)) (hf : w.frozen? ⟨wb, 0, none⟩ = false)
    (hc : w.cell? ⟨q, ws.length, none⟩ = some (.int .i64 p)) (hcap : ws.length + 1 ≤ cap) (hl : ws.length ≤ 1000000) :
    Calls Tryz.prog 43 #[.pointer (some ⟨wb, 0, none⟩)] w fun e w' => e = .returned (.tuple #[.int .i64 p, .bool true]) ∧ w' = w.setCell ⟨wb, 0, none⟩ (.slice (some ⟨q, 0, none⟩) ws.length cap) := by
  generalize ws.length = m at *
  have h1 : wrap64 (((m + 1 : Nat) : Int) - 1) = (m : Int) := by unfold wrap64; omega
  have h1' : wrap64 ((m : Int) + 1 - 1) = (m : Int) := by unfold wrap64; omega
  have h2 : (0 : Int) ≤ (m : Int) := by omega
  have h3 : (m : Int) < (m : Int) + 1 := by omega
  have h4 : (m : Int) ≤ (cap : Int) := by omega
  go_enter Tryz.func43, Tryz.ntmps43
  go_wp2
  go_ret2
  exact ⟨rfl, rfl⟩
def NextN (w : World) (l : List InsV) (n : Nat) (e : Ending) (w' : World) : Prop :=
  Below w.heap.size w w' ∧ ((check10 l ≠ 0 ∧ e = .returned (.tuple #[.slice none 0 0, .int .i64 (check10 l)])) ∨
    (check10 l = 0 ∧ ∃ g Xs, e = .returned (.tuple #[.slice (some ⟨g, 0, none⟩) n n, .int .i64 0]) ∧ Lists w.heap.size w' g n Xs (nextV l)))
theorem short10 {l : List InsV} (h : check10 l = 0) : l.length ≤ 4096 := by
  have hj := (good10 h).join
  have := all_length l
  have := (first_all hj).2
  omega
theorem Lists.base {base base' : Nat} {w : World} {g n : Nat} {Xs : Nat → Value} {ll : Nat → List Int} (h : Lists base w g n Xs ll) (hb : base' ≤ base) : Lists base' w g n Xs ll :=
  ⟨Nat.le_trans hb h.ge, h.row, fun i hi => (h.own i hi).base hb⟩
theorem next_any (V : Value) (l : List InsV) (w : World) (h : IsCode w w.heap.size V l) : Calls Tryz.prog 12 #[V] w (NextN w l l.length) := by
  have HT := Lib.hid (targets_any V l w h)
  by_cases h0 : check10 l = 0
  · have HT2 := Lib.hid (HT.out.mono fun e w' hh => And.intro hh.1 (hh.2.resolve_left (fun h => h.1 h0)).2)
    have HFO := Lib.hid (fun g0 W hb hg => followers_any V l g0 0 l.length W ((h.below hb (Nat.le_refl _) (Nat.le_refl _)).more hb.size) hg (short10 h0))
    have H0 := Lib.hid h0
    clear HT h h0
    go_enter Tryz.func12, Tryz.ntmps12
    go_wp2_with (first
      | (go_at_call 18; (with_reducible refine HT2.out.mono ?_); rintro e w1 ⟨hb, g, rfl, ho⟩; have HB := Lib.hid hb; have HI := Lib.hid (IsNums.of_owns ho (Nat.le_refl _)); clear hb ho)
      | (go_at_call 21; (with_reducible refine (HFO.out g w1 HB.out (by have := HI.out; simpa [goalsV] using this)).mono ?_); rintro e w2 ⟨hb, g2, Xs, rfl, hl⟩; have HB2 := Lib.hid (HB.out.trans (hb.mono HB.out.size)); have HL := Lib.hid (hl.base HB.out.size); clear hb hl))
    go_ret2
    exact ⟨HB2.out, .inr ⟨H0.out, _, _, rfl, HL.out⟩⟩
  · have HT2 := Lib.hid (HT.out.mono fun e w' hh => And.intro hh.1 (hh.2.resolve_right (fun h => h0 h.1)).2)
    have H0 := Lib.hid h0
    have hne : (check10 l != 0) = true := by simpa using h0
    unfold NextN
    generalize check10 l = z at *
    clear HT h h0
    go_enter Tryz.func12, Tryz.ntmps12
    go_wp2_with (go_at_call 18; (with_reducible refine HT2.out.mono ?_); rintro e w1 ⟨hb, rfl⟩; have HB := Lib.hid hb; clear hb)
    go_ret2
    exact ⟨HB.out, .inl ⟨H0.out, rfl⟩⟩
end Go.Proofs.YtgoedemibdkpdaaGreat
