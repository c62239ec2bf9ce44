/- The statements' own examples of layer 12: echo, and that a module with one instruction is answered as the chapter says (awake). Out of what is wanted of the landed Find and Check (Verify12); no other condition. -/
import Derived.Test.YtfdblmjgpoocpaaGreatS24
import Derived.Test.YtfdblmjgpoocpaaGreatS19
namespace Go.Proofs.YtfdblmjgpoocpaaGreat
open Go.RowKit Go.Shelf
set_option linter.unusedVariables false
set_option linter.unusedSimpArgs false

def echoV : List InsV := [⟨30, 0, 0, 0, 0, []⟩, ⟨32, 0, 0, 0, 0, []⟩]
theorem echo_in : ∀ y ∈ echoV, InsB y := by
  intro y hy
  simp [echoV] at hy
  rcases hy with rfl | rfl <;> exact ⟨by unfold InI; decide, by unfold InI; decide, by unfold InI; decide, by unfold InI; decide, by unfold InI; decide⟩
/-- Code of no arguments in a row that is there. -/
theorem code_row {w : World} {b : Nat} (l : List InsV) (cs : Array Value) (hrow : w.heap[b]? = some (.cells cs 37 (0, 0))) (hcs : cs.toList = cellsC l (List.replicate l.length (.slice none 0 0))) (hl : l.length ≤ 1000) (hi : ∀ y ∈ l, InsB y) (ha : ∀ y ∈ l, y.args = []) :
    IsCode w w.heap.size (.slice (some ⟨b, 0, none⟩) l.length l.length) l := by
  refine ⟨by unfold maxLen; omega, hi, .inr ⟨b, 0, l.length, rfl, Nat.le_refl _, heap_lt hrow, fun i hi => ⟨.slice none 0 0, ?_, fun j hj => ?_⟩⟩⟩
  · have : (l.getD i .zero).args = [] := ha _ (by simp [List.getD, List.getElem?_eq_getElem hi])
    rw [this]
    exact ⟨by simp, .inl ⟨rfl, rfl⟩⟩
  · rw [cell_of_row _ _ _ _ _ _ hrow, ← Array.getElem?_toList, hcs, Nat.zero_add, cellsC_at l _ (by simp) hi hj]
    simp [List.getD, hi]
def ecs : Array Value := #[.int .i64 30, .int .i64 0, .int .i64 0, .int .i64 0, .int .i64 0, .slice none 0 0, .int .i64 32, .int .i64 0, .int .i64 0, .int .i64 0, .int .i64 0, .slice none 0 0]
/-- The chapter's first module in memory. -/
structure EchoAt (w W : World) (p : Int) (g b : Nat) : Prop where
  row : W.heap[g]? = some (.cells #[.int .i64 p, .int .i64 1, .int .i64 0, .slice (some ⟨b, 0, none⟩) 2 2] 41 (0, 0))
  cod : W.heap[b]? = some (.cells ecs 37 (0, 0))
  hg : w.heap.size ≤ g
  hb : w.heap.size ≤ b
  bel : Below w.heap.size w W
theorem EchoAt.ne {w W : World} {p : Int} {g b : Nat} (h : EchoAt w W p g b) : g ≠ b := by
  intro e
  have h1 := h.row
  rw [e, h.cod] at h1
  injection h1 with h1
  injection h1 with _ h1
  exact absurd h1 (by decide)
theorem EchoAt.grow {w W W' : World} {p : Int} {g b : Nat} (h : EchoAt w W p g b) (hb : Below W.heap.size W W') : EchoAt w W' p g b := ⟨box_below h.row hb, box_below h.cod hb, h.hg, h.hb, h.bel.trans (hb.mono h.bel.size)⟩
theorem EchoAt.one {w W : World} {p : Int} {g b : Nat} (h : EchoAt w W p g b) : OneF W g p (.slice (some ⟨b, 0, none⟩) 2 2) echoV := ⟨h.row, code_row echoV ecs h.cod rfl (by decide) echo_in (by decide)⟩
theorem EchoAt.other {w W : World} {p : Int} {g b : Nat} (h : EchoAt w W p g b) {a : Addr} (h1 : g ≠ a.block) (h2 : b ≠ a.block) (h3 : w.heap.size ≤ a.block) (u : Value) : EchoAt w (W.setCell a u) p g b :=
  ⟨by rw [Below.heap_setCell _ _ _ _ h1]; exact h.row, by rw [Below.heap_setCell _ _ _ _ h2]; exact h.cod, h.hg, h.hb, h.bel.setCell h3 u⟩
theorem EchoAt.par {w W : World} {p q : Int} {g b : Nat} (h : EchoAt w W p g b) : EchoAt w (W.setCell ⟨g, 0, none⟩ (.int .i64 q)) q g b := by
  refine ⟨?_, by rw [Below.heap_setCell _ _ _ _ (fun e => h.ne e.symm)]; exact h.cod, h.hg, h.hb, h.bel.setCell h.hg _⟩
  exact heap_setCell_same W g 0 _ _ _ h.row
def EchoDone (w : World) (e : Ending) (w' : World) : Prop := ∃ g b, e = .returned (.agg #[.slice none 0 0, .slice (some ⟨g, 0, none⟩) 1 1]) ∧ EchoAt w w' 0 g b
set_option maxRecDepth 100000 in
set_option maxHeartbeats 4000000 in
theorem echo12_any (w : World) : Calls Tryz.prog 24 #[] w (EchoDone w) := by
  obtain ⟨W0, hW0⟩ : ∃ W0, W0 = w.alloc (.cells #[.slice none 0 0, .slice none 0 0] 25) := ⟨_, rfl⟩
  have HK0 := Lib.hid (show W0.heap[w.heap.size]? = some (.cells #[.slice none 0 0, .slice none 0 0] 25 (0, 0)) from by rw [hW0]; exact heap_alloc_new w _)
  have HB0 := Lib.hid (show Below w.heap.size w W0 from by rw [hW0]; exact (Below.refl _ w).alloc (Nat.le_refl _) _)
  have HR : Hid (∀ W : World, (W.alloc (.cells ecs 37)).heap[W.heap.size]? = some (.cells ecs 37 (0, 0)) ∧ Below W.heap.size W (W.alloc (.cells ecs 37))) := Lib.hid (fun W => ⟨heap_alloc_new W _, (Below.refl _ W).alloc (Nat.le_refl _) _⟩)
  have HO : Hid (∀ (W : World) (b : Nat), W.heap[b]? = some (.cells ecs 37 (0, 0)) → Calls Tryz.prog 15 #[.slice (some ⟨b, 0, none⟩) 2 2] W (OfDone W (.slice (some ⟨b, 0, none⟩) 2 2) echoV)) := Lib.hid (fun W b h => of12_any _ _ _ echoV W (code_row echoV ecs h rfl (by decide) echo_in (by decide)))
  go_enter Tryz.func24, Tryz.ntmps24
  go_wp2_with (first
    | (go_at_call 16; rw [← hW0]; (with_reducible refine (exit12_any _).mono ?_); rintro e w2 ⟨rfl, hb⟩; have HB2 := Lib.hid (HB0.out.trans (hb.mono HB0.out.size)); have HK2 := Lib.hid (box_below HK0.out hb); clear hb)
    | (go_at_call 15; (refine (HO.out _ _ (HR.out w2).1).mono ?_); rintro e w4 ⟨g, rfl, ho, hg, hb⟩; have hb3 := (HR.out w2).2; have hK4 := box_below (box_below HK2.out hb3) hb; have HE4 : Hid (EchoAt w w4 0 g w2.heap.size) := Lib.hid ⟨ho.row, box_below (HR.out w2).1 hb, Nat.le_trans HB2.out.size (Nat.le_trans hb3.size hg), HB2.out.size, (HB2.out.trans (hb3.mono HB2.out.size)).trans (hb.mono (Nat.le_trans HB2.out.size hb3.size))⟩; have HN4 := Lib.hid (And.intro (show g ≠ w.heap.size from fun e => absurd (heap_lt (box_below HK2.out hb3)) (by rw [← e]; exact Nat.not_lt.2 hg)) (show w2.heap.size ≠ w.heap.size from fun e => absurd (heap_lt HK2.out) (by rw [← e]; exact Nat.lt_irrefl _))); have HE5 := Lib.hid (fun u => (HE4.out.other (a := ⟨w.heap.size, 0, none⟩) HN4.out.1 HN4.out.2 (Nat.le_refl _) u)); obtain ⟨a0, a1⟩ := cells2 hK4; have z0 : w4.frozen? ⟨w.heap.size, 0, none⟩ = false := (by simp [World.frozen?, hK4]); have z1 : w4.frozen? ⟨w.heap.size, 1, none⟩ = false := (by simp [World.frozen?, hK4]); clear ho hg hb hb3))
  have hR1 := heap_setCell_same w4 w.heap.size 0 _ _ (.slice none 0 0) hK4
  have hR2 := heap_setCell_same _ w.heap.size 1 _ _ (.slice (some ⟨g, 0, none⟩) 1 1) hR1
  obtain ⟨d0, d1⟩ := cells2 hR2
  refine bodyPost_ret (v := .agg #[.slice none 0 0, .slice (some ⟨g, 0, none⟩) 1 1]) (by simp [results, Tryz.results24, go_sem, d0, d1]) rfl ?_
  exact ⟨g, w2.heap.size, rfl, (HE5.out _).other (a := ⟨w.heap.size, 1, none⟩) HN4.out.1 HN4.out.2 (Nat.le_refl _) _⟩
def exitV : List InsV := [⟨32, 0, 0, 0, 0, []⟩]
def zeroV : List InsV := [⟨0, 0, 0, 0, 0, []⟩]
theorem find_echo0 : findM ⟨[], [⟨0, 1, 0, echoV⟩]⟩ = (-1, -1, 0) := by decide +kernel
theorem find_echo1 : findM ⟨[], [⟨1, 1, 0, echoV⟩]⟩ = (0, -1, 2) := by decide +kernel
theorem find_exit : findM ⟨[], [⟨0, 1, 0, exitV⟩]⟩ = (0, 0, 14) := by decide +kernel
theorem find_zero : findM ⟨[], [⟨0, 1, 0, zeroV⟩]⟩ = (0, -1, 10) := by decide +kernel
theorem EchoAt.down {w W0 W : World} {p : Int} {g b : Nat} (h : EchoAt W0 W p g b) (hb : Below w.heap.size w W0) : EchoAt w W p g b := ⟨h.row, h.cod, Nat.le_trans hb.size h.hg, Nat.le_trans hb.size h.hb, hb.trans (h.bel.mono hb.size)⟩
theorem one_in (x : InsV) (h : InsB x) : ∀ y ∈ [x], InsB y := fun y hy => by simp at hy; subst hy; exact h
theorem exit_in : InsB (⟨32, 0, 0, 0, 0, []⟩ : InsV) := ⟨by unfold InI; decide, by unfold InI; decide, by unfold InI; decide, by unfold InI; decide, by unfold InI; decide⟩
theorem zero_in : InsB (⟨0, 0, 0, 0, 0, []⟩ : InsV) := ⟨by unfold InI; decide, by unfold InI; decide, by unfold InI; decide, by unfold InI; decide, by unfold InI; decide⟩
def xcs : Array Value := #[.int .i64 32, .int .i64 0, .int .i64 0, .int .i64 0, .int .i64 0, .slice none 0 0]
def zcs : Array Value := #[.int .i64 0, .int .i64 0, .int .i64 0, .int .i64 0, .int .i64 0, .slice none 0 0]
theorem int01 : InI 0 ∧ InI 1 := ⟨by unfold InI; decide, by unfold InI; decide⟩
set_option maxRecDepth 100000 in
set_option maxHeartbeats 8000000 in
theorem awake12_any (S : Verify12) (w : World) : Calls Tryz.prog 9 #[] w (Makes w (.bool true)) := by
  have HF0 := Lib.hid (fun W g C (h : OneF W g 0 C echoV) => h.found S int01.1 find_echo0)
  have HF1 := Lib.hid (fun W g C (h : OneF W g 1 C echoV) => h.found S int01.2 find_echo1)
  have HFX := Lib.hid (fun W g C (h : OneF W g 0 C exitV) => h.found S int01.1 find_exit)
  have HFZ := Lib.hid (fun W g C (h : OneF W g 0 C zeroV) => h.found S int01.1 find_zero)
  have HEc := Lib.hid echo12_any
  have HA : Hid (∀ (W : World) (cs : Array Value), Below W.heap.size W (W.alloc (.cells cs 37))) := Lib.hid (fun W cs => (Below.refl _ W).alloc (Nat.le_refl _) _)
  have HOX : Hid (∀ W : World, Calls Tryz.prog 15 #[.slice (some ⟨W.heap.size, 0, none⟩) 1 1] (W.alloc (.cells xcs 37)) (OfDone (W.alloc (.cells xcs 37)) (.slice (some ⟨W.heap.size, 0, none⟩) 1 1) exitV)) := Lib.hid (fun W => of12_any _ _ _ exitV _ (code_row exitV xcs (heap_alloc_new W _) rfl (by decide) (one_in _ exit_in) (by decide)))
  have HOZ : Hid (∀ W : World, Calls Tryz.prog 15 #[.slice (some ⟨W.heap.size, 0, none⟩) 1 1] (W.alloc (.cells zcs 37)) (OfDone (W.alloc (.cells zcs 37)) (.slice (some ⟨W.heap.size, 0, none⟩) 1 1) zeroV)) := Lib.hid (fun W => of12_any _ _ _ zeroV _ (code_row zeroV zcs (heap_alloc_new W _) rfl (by decide) (one_in _ zero_in) (by decide)))
  clear S
  go_enter Tryz.func9, Tryz.ntmps9
  go_wp2_with (first
    | (go_at_call 24; (with_reducible refine (HEc.out w).mono ?_); rintro e w1 ⟨g, b, rfl, hE⟩; have hA : Below w1.heap.size w1 (w1.alloc (.cells #[.slice none 0 0, .slice (some ⟨g, 0, none⟩) 1 1] 25)) := (Below.refl _ w1).alloc (Nat.le_refl _) _; have hne : g ≠ w1.heap.size := (fun e => absurd (heap_lt hE.row) (by rw [← e]; exact Nat.lt_irrefl _)); have hne' := hne.symm; have hE1 := hE.grow hA; have hr1 := hE1.row; have hk1 := heap_alloc_new w1 (.cells #[.slice none 0 0, .slice (some ⟨g, 0, none⟩) 1 1] 25); obtain ⟨a0, a1⟩ := cells2 hk1; obtain ⟨y0, _, _, _⟩ := cells4 hr1; have z2 : (w1.alloc (.cells #[.slice none 0 0, .slice (some ⟨g, 0, none⟩) 1 1] 25)).frozen? ⟨g, 0, none⟩ = false := (by simp [World.frozen?, hr1]); have HE2 := Lib.hid (hE1.par (q := 1)); have HK2 : Hid (((w1.alloc (.cells #[.slice none 0 0, .slice (some ⟨g, 0, none⟩) 1 1] 25)).setCell ⟨g, 0, none⟩ (.int .i64 1)).heap[w1.heap.size]? = some (.cells #[.slice none 0 0, .slice (some ⟨g, 0, none⟩) 1 1] 25 (0, 0))) := Lib.hid (by rw [Below.heap_setCell _ _ _ _ hne']; exact hk1); clear hE hE1 hr1 hk1 hA)
    | (go_at_call 24; (with_reducible refine (HEc.out _).mono ?_); rintro e w3 ⟨g3, b3, rfl, h3⟩; have HE3 := Lib.hid (HE2.out.grow h3.bel); have HK3 := Lib.hid (box_below HK2.out h3.bel); have HO3 := Lib.hid h3.one; clear h3)
    | (go_at_call 17; (with_reducible refine (HF0.out _ _ _ HO3.out).mono ?_); rintro e w4 ⟨rfl, hb⟩; have HE4 := Lib.hid (HE3.out.grow hb); obtain ⟨d0, d1⟩ := cells2 (box_below HK3.out hb); clear hb)
    | (go_at_call 17; (with_reducible refine (HF1.out _ _ _ HE4.out.one).mono ?_); rintro e w5 ⟨rfl, hb⟩; have HB5 := Lib.hid (HE4.out.bel.trans (hb.mono HE4.out.bel.size)); clear hb)
    | (go_at_call 16; (with_reducible refine (exit12_any _).mono ?_); rintro e w6 ⟨rfl, hb⟩; have HB6 := Lib.hid (HB5.out.trans (hb.mono HB5.out.size)); clear hb)
    | (go_at_call 15; (refine (HOX.out w6).mono ?_); rintro e w7 ⟨g7, rfl, ho, hg, hb⟩; have HO7 := Lib.hid ho; have HB7 := Lib.hid (HB6.out.trans (((HA.out w6 xcs).trans (hb.mono (HA.out w6 xcs).size)).mono HB6.out.size)); clear ho hg hb)
    | (go_at_call 17; (with_reducible refine (HFX.out _ _ _ HO7.out).mono ?_); rintro e w8 ⟨rfl, hb⟩; have HB8 := Lib.hid (HB7.out.trans (hb.mono HB7.out.size)); clear hb)
    | (go_at_call 15; (refine (HOZ.out w8).mono ?_); rintro e w9 ⟨g9, rfl, ho, hg, hb⟩; have HO9 := Lib.hid ho; have HB9 := Lib.hid (HB8.out.trans (((HA.out w8 zcs).trans (hb.mono (HA.out w8 zcs).size)).mono HB8.out.size)); clear ho hg hb)
    | (go_at_call 17; (with_reducible refine (HFZ.out _ _ _ HO9.out).mono ?_); rintro e wA ⟨rfl, hb⟩; have HBA := Lib.hid (HB9.out.trans (hb.mono HB9.out.size)); clear hb))
  go_ret
  exact ⟨by first | rfl | simp, HBA.out⟩
end Go.Proofs.YtfdblmjgpoocpaaGreat
