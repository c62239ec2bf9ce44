/- The landed space: enter; how it is laid out; valid. Contracts; no condition but that the space lies in memory. -/
import Derived.Test.YtkfdgpgildanbaaGreatSp15B
import Derived.Deep.QuietTactic
import Derived.BigQuiet
import Derived.StillTailTactics
import Derived.Deep.CutRange
import Derived.Deep.DeepCutAuto
import Derived.Deep.RegionHeld3
namespace Go.Proofs.YtkfdgpgildanbaaGreat
open Go.RowKit Go.Shelf
set_option linter.unusedVariables false
set_option linter.unusedSimpArgs false

theorem cells18 {w : World} {b' : Nat} {v0 v1 v2 v3 v4 v5 v6 v7 v8 v9 v10 v11 v12 v13 v14 v15 v16 v17 : Value} {T : TypeId} (h : w.heap[b']? = some (.cells #[v0, v1, v2, v3, v4, v5, v6, v7, v8, v9, v10, v11, v12, v13, v14, v15, v16, v17] T (0, 0))) :
    (w.cell? ⟨b', 0, none⟩ = some v0 ∧ w.cell? ⟨b', 1, none⟩ = some v1 ∧ w.cell? ⟨b', 2, none⟩ = some v2 ∧ w.cell? ⟨b', 3, none⟩ = some v3 ∧ w.cell? ⟨b', 4, none⟩ = some v4 ∧ w.cell? ⟨b', 5, none⟩ = some v5) ∧
    (w.cell? ⟨b', 6, none⟩ = some v6 ∧ w.cell? ⟨b', 7, none⟩ = some v7 ∧ w.cell? ⟨b', 8, none⟩ = some v8 ∧ w.cell? ⟨b', 9, none⟩ = some v9 ∧ w.cell? ⟨b', 10, none⟩ = some v10 ∧ w.cell? ⟨b', 11, none⟩ = some v11) ∧
    (w.cell? ⟨b', 12, none⟩ = some v12 ∧ w.cell? ⟨b', 13, none⟩ = some v13 ∧ w.cell? ⟨b', 14, none⟩ = some v14 ∧ w.cell? ⟨b', 15, none⟩ = some v15 ∧ w.cell? ⟨b', 16, none⟩ = some v16 ∧ w.cell? ⟨b', 17, none⟩ = some v17) := by
  simp [World.cell?, h]
theorem one_but15 (w : World) (b o : Nat) (v : Value) : But (OneBlock b) w (w.setCell ⟨b, o, none⟩ v) := (But.refl (OneBlock b) w).setCell (p := ⟨b, o, none⟩) (.inl rfl) _
theorem but_box15 {sb : Nat} {w w' : World} (h : But (OneBlock sb) w w') (o : Nat) (v : Value) : But (OneBlock sb) w (w'.setCell ⟨sb, o, none⟩ v) := h.setCell (p := ⟨sb, o, none⟩) (.inl (show OneBlock sb sb from rfl)) v
/-- What entering a function leaves of the box. -/
def EntDone (w : World) (sb : Nat) (f : Nat) (x r a fl : Int) (v0 v1 v2 v3 v4 v5 v6 v7 v8 v9 v10 v11 v12 v13 v14 v15 v16 v17 : Value) (e : Ending) (w' : World) : Prop :=
  e = .returned (.bool (decide (pushE x r a fl = 0))) ∧ But (OneBlock sb) w w' ∧
    w'.heap[sb]? = some (.cells (if pushE x r a fl = 0 then #[v0, v1, v2, v3, v4, v5, v6, v7, v8, v9, v10, v11, .int .i64 f, .int .u64 (pushV x r a fl), .int .i64 0, v15, v16, v17] else #[v0, v1, v2, v3, v4, v5, v6, v7, v8, v9, v10, v11, v12, v13, v14, v15, v16, v17]) 80 (0, 0))
theorem funs_at15 {w : World} {V : Value} {fs : List FunV} (h : IsFuns w w.heap.size V fs) {f : Nat} (hf : f < fs.length) : ∃ b off cap CA cl cc, V = .slice (some ⟨b, off, none⟩) fs.length cap ∧ fs.length ≤ cap ∧ b < w.heap.size ∧
    w.cell? ⟨b, off + f * 4, none⟩ = some (.int .i64 (fs.getD f .zero).params) ∧ w.cell? ⟨b, off + f * 4 + 1, none⟩ = some (.int .i64 (fs.getD f .zero).regs) ∧ w.cell? ⟨b, off + f * 4 + 2, none⟩ = some (.int .i64 (fs.getD f .zero).area) ∧ w.cell? ⟨b, off + f * 4 + 3, none⟩ = some (.slice CA cl cc) := by
  obtain ⟨b, off, cap, h1, h2, h3, h4⟩ := h.plain (by omega)
  obtain ⟨C, hC, hc⟩ := h4 f hf
  obtain ⟨CA, cc, rfl⟩ := hC.len
  exact ⟨b, off, cap, CA, _, cc, h1, h2, h3, hc 0 (by omega), hc 1 (by omega), hc 2 (by omega), hc 3 (by omega)⟩
set_option maxRecDepth 100000 in
set_option maxHeartbeats 4000000 in
theorem enter15 {w : World} {sb : Nat} {f : Nat} {x fl : Int} {v0 v1 v2 v3 v4 v5 v6 v7 v9 v10 v11 v12 v14 v15 v16 v17 : Value} {fs : List FunV}
    (hbox : w.heap[sb]? = some (.cells #[v0, v1, v2, v3, v4, v5, v6, v7, .int .u64 fl, v9, v10, v11, v12, .int .u64 x, v14, v15, v16, v17] 80 (0, 0)))
    (hF : IsFuns w w.heap.size v5 fs) (hf : f < fs.length) (hx : 0 ≤ x ∧ x < 18446744073709551616) (hl : 0 ≤ fl ∧ fl < 18446744073709551616) :
    Calls Tryz.prog 106 #[.pointer (some ⟨sb, 0, none⟩), .int .i64 f] w (EntDone w sb f x (fs.getD f .zero).regs (fs.getD f .zero).area fl v0 v1 v2 v3 v4 v5 v6 v7 (.int .u64 fl) v9 v10 v11 v12 (.int .u64 x) v14 v15 v16 v17) := by
  obtain ⟨⟨c0, c1, c2, c3, c4, c5⟩, ⟨c6, c7, c8, c9, c10, c11⟩, c12, c13, c14, c15, c16, c17⟩ := cells18 hbox
  obtain ⟨b, off, cap, CA, cl, cc, hV, hcp, hbb, k0, k1, k2, k3⟩ := funs_at15 hF hf
  have hB := funs_getD hF hf
  have r1 := hB.regs
  have a1 := hB.area
  generalize (fs.getD f .zero).regs = r at *
  generalize (fs.getD f .zero).area = ar at *
  generalize (fs.getD f .zero).params = pp at *
  have hsb := heap_lt hbox
  subst hV
  have f0 : (0 : Int) ≤ (f : Int) := by omega
  have f1 : (f : Int) < (fs.length : Int) := by omega
  obtain ⟨W, hW⟩ : ∃ W, W = w.alloc (.cells #[.int .i64 pp, .int .i64 r, .int .i64 ar, .slice CA cl cc] 112) := ⟨_, rfl⟩
  have BW : Below w.heap.size w W := by rw [hW]; exact below_one14 w _
  have hbox' : W.heap[sb]? = some (.cells #[v0, v1, v2, v3, v4, .slice (some ⟨b, off, none⟩) fs.length cap, v6, v7, .int .u64 fl, v9, v10, v11, v12, .int .u64 x, v14, v15, v16, v17] 80 (0, 0)) := (BW.block _ hsb).trans hbox
  have HP := Lib.hid (fun n => push_any x r ar fl (W.drewN n) hx.1 hx.2 hl.1 hl.2 r1.1 r1.2 a1.1 a1.2)
  have HW := Lib.hid hW
  have HBW := Lib.hid BW
  have HBX := Lib.hid hbox'
  obtain ⟨⟨d0, d1, d2, d3, d4, d5⟩, ⟨d6, d7, d8, d9, d10, d11⟩, d12, d13, d14, d15, d16, d17⟩ := cells18 hbox'
  obtain ⟨n0, n1, n2, n3⟩ := cells4 (show W.heap[w.heap.size]? = some (.cells #[.int .i64 pp, .int .i64 r, .int .i64 ar, .slice CA cl cc] 112 (0, 0)) by rw [hW]; exact heap_alloc_new _ _)
  have g12 := frozen_of_row W sb 12 _ _ hbox'
  have g13 := frozen_of_row W sb 13 _ _ hbox'
  have g14 := frozen_of_row W sb 14 _ _ hbox'
  obtain ⟨E, hE⟩ : ∃ E, E = pushE x r ar fl := ⟨_, rfl⟩
  obtain ⟨Y, hY⟩ : ∃ Y, Y = pushV x r ar fl := ⟨_, rfl⟩
  unfold EntDone
  rw [← hE, ← hY]
  rw [← hE, ← hY] at HP
  clear hF hB hbox hbox' hE hY BW hW
  by_cases hz : E = 0
  · subst hz
    have hne : ((0 : Int) != 0) = false := by decide
    go_enter Tryz.func106, Tryz.ntmps106
    go_wp2_with fail
    rw [← HW.out]
    go_quiet ((go_at_call 160; with_reducible exact quiet_left (HP.out _)))
    go_wp2
    go_ret
    refine ⟨rfl, but_box15 (but_box15 (but_box15 ((But.of_below HBW.out).drewN nq) 12 _) 13 _) 14 _, ?_⟩
    have h0 : (W.drewN nq).heap[sb]? = _ := HBX.out
    have h1 := heap_setCell_same _ sb 12 _ _ (.int .i64 f) h0
    have h2 := heap_setCell_same _ sb 13 _ _ (.int .u64 Y) h1
    exact heap_setCell_same _ sb 14 _ _ (.int .i64 0) h2
  · have hne : (E != 0) = true := by simpa using hz
    go_enter Tryz.func106, Tryz.ntmps106
    go_wp2_with fail
    rw [← HW.out]
    go_quiet ((go_at_call 160; with_reducible exact quiet_left (HP.out _)))
    go_wp2
    go_ret
    exact ⟨rfl, (But.of_below HBW.out).drewN nq, HBX.out⟩
end Go.Proofs.YtkfdgpgildanbaaGreat
