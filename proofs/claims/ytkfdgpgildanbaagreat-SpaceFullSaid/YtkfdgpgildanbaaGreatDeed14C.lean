/- The landed tape: Put, Get. Contracts; no condition but that the tape lies in memory. -/
import Derived.Test.YtkfdgpgildanbaaGreatDeed14B
namespace Go.Proofs.YtkfdgpgildanbaaGreat
open Go.RowKit
set_option linter.unusedVariables false
set_option linter.unusedSimpArgs false

set_option maxRecDepth 100000 in
set_option maxHeartbeats 4000000 in
theorem put14 {base tb : Nat} {w : World} {X V : Value} {xs : List Int} {L : List (Int × Int)} (h : Tape14 base w tb X V xs L) (hb : base ≤ w.heap.size) (hf : L.length < 100000) (b : Int) :
    Calls Tryz.prog 108 #[.pointer (some ⟨tb, 0, none⟩), .int .i64 b] w (TapeDone base tb w V (.int .i64 0) xs (L ++ [(2, b % 256)])) := by
  have hr := refusal14 h hf
  have HR := Lib.hid hr
  obtain ⟨c0, c1, c2⟩ := h.cells
  obtain ⟨A, cap, hVe⟩ := owns_len14 h.done
  subst hVe
  have H := Lib.hid h
  have HB := Lib.hid hb
  have HF := Lib.hid hf
  have hu := u8_mod14 b
  have HO : Hid (Owns w base 182 2 AnyC14 (.slice A L.length cap) L.length (cellsD L)) := Lib.hid h.done
  clear h hb hf hr
  go_enter Tryz.func108, Tryz.ntmps108
  go_wp2_with (first
    | (go_at_call 158; (with_reducible refine HR.out.mono ?_); rintro e w' ⟨rfl, rfl⟩)
    | (at_builtin; refine wpList_deed rfl (.tmp 15) (.tmp 20) rfl Tryz.underlying177 rfl rfl rfl HO.out HB.out (by have := HF.out; omega) ?_; intro V' W' hM; have HP := Lib.hid (H.out.more hM HF.out); have hbx := (hM.blk _ H.out.lt H.out.ne).trans H.out.box; obtain ⟨d0, d1, d2⟩ := cells3_14 hbx; have g2 := frozen_of_row W' tb 2 _ _ hbx; obtain ⟨A', cap', hVe⟩ := owns_len14 hM.own; subst hVe; clear hM hbx))
  go_ret
  exact ⟨_, _, rfl, HP.out.1, HP.out.2⟩
theorem putFull14 {base tb : Nat} {w : World} {X V : Value} {xs : List Int} {L : List (Int × Int)} (h : Tape14 base w tb X V xs L) (hf : ¬ L.length < 100000) (b : Int) :
    Calls Tryz.prog 108 #[.pointer (some ⟨tb, 0, none⟩), .int .i64 b] w fun e w' => e = .returned (.int .i64 8) ∧ w = w' := by
  have hr := refusalFull14 h hf
  have HR := Lib.hid hr
  clear h hf hr
  go_enter Tryz.func108, Tryz.ntmps108
  go_wp2_with (go_at_call 158; (with_reducible refine HR.out.mono ?_); rintro e w' ⟨rfl, rfl⟩)
  go_ret
  exact ⟨rfl, rfl⟩
theorem putNo14 {w : World} {p : Value} (h : NoTape w p) (b : Int) : Calls Tryz.prog 108 #[p, .int .i64 b] w fun e w' => e = .returned (.int .i64 1) ∧ w = w' := by
  have HR := Lib.hid (refusalNo14 h)
  clear h
  go_enter Tryz.func108, Tryz.ntmps108
  go_wp2_with (go_at_call 158; (with_reducible refine HR.out.mono ?_); rintro e w' ⟨rfl, rfl⟩)
  go_ret
  exact ⟨rfl, rfl⟩
theorem getFull14 {base tb : Nat} {w : World} {X V : Value} {xs : List Int} {L : List (Int × Int)} (h : Tape14 base w tb X V xs L) (hf : ¬ L.length < 100000) :
    Calls Tryz.prog 102 #[.pointer (some ⟨tb, 0, none⟩)] w fun e w' => e = .returned (.tuple #[.int .i64 0, .int .i64 8]) ∧ w = w' := by
  have hr := refusalFull14 h hf
  have HR := Lib.hid hr
  clear h hf hr
  go_enter Tryz.func102, Tryz.ntmps102
  go_wp2_with (go_at_call 158; (with_reducible refine HR.out.mono ?_); rintro e w' ⟨rfl, rfl⟩)
  go_ret2
  exact ⟨rfl, rfl⟩
theorem getNo14 {w : World} {p : Value} (h : NoTape w p) : Calls Tryz.prog 102 #[p] w fun e w' => e = .returned (.tuple #[.int .i64 0, .int .i64 1]) ∧ w = w' := by
  have HR := Lib.hid (refusalNo14 h)
  clear h
  go_enter Tryz.func102, Tryz.ntmps102
  go_wp2_with (go_at_call 158; (with_reducible refine HR.out.mono ?_); rintro e w' ⟨rfl, rfl⟩)
  go_ret2
  exact ⟨rfl, rfl⟩
/-- What is got of what is left. -/
def headV (xs : List Int) : Int := match xs with | [] => -1 | x :: _ => x
set_option maxRecDepth 100000 in
set_option maxHeartbeats 4000000 in
theorem getEnd14 {base tb : Nat} {w : World} {X V : Value} {L : List (Int × Int)} (h : Tape14 base w tb X V [] L) (hb : base ≤ w.heap.size) (hf : L.length < 100000) :
    Calls Tryz.prog 102 #[.pointer (some ⟨tb, 0, none⟩)] w (TapeDone base tb w V (.tuple #[.int .i64 (-1), .int .i64 0]) [] (L ++ [(1, -1)])) := by
  have hr := refusal14 h hf
  have HR := Lib.hid hr
  obtain ⟨c0, c1, c2⟩ := h.cells
  obtain ⟨A, cap, hVe⟩ := owns_len14 h.done
  obtain ⟨XA, xcap, hXe⟩ := h.left.len
  subst hVe hXe
  have H := Lib.hid h
  have HB := Lib.hid hb
  have HF := Lib.hid hf
  have HO : Hid (Owns w base 182 2 AnyC14 (.slice A L.length cap) L.length (cellsD L)) := Lib.hid h.done
  clear h hb hf hr
  simp only [List.length_nil] at c1
  go_enter Tryz.func102, Tryz.ntmps102
  go_wp2_with (first
    | (go_at_call 158; (with_reducible refine HR.out.mono ?_); rintro e w' ⟨rfl, rfl⟩)
    | (at_builtin; refine wpList_deed rfl (.tmp 36) (.tmp 39) rfl Tryz.underlying177 rfl rfl rfl HO.out HB.out (by have := HF.out; omega) ?_; intro V' W' hM; have HP := Lib.hid (H.out.more hM HF.out); have hbx := (hM.blk _ H.out.lt H.out.ne).trans H.out.box; obtain ⟨d0, d1, d2⟩ := cells3_14 hbx; have g2 := frozen_of_row W' tb 2 _ _ hbx; obtain ⟨A', cap', hVe⟩ := owns_len14 hM.own; subst hVe; clear hM hbx))
  go_ret2
  exact ⟨_, _, rfl, HP.out.1, HP.out.2⟩
/-- The tape behind the reading of a byte. -/
theorem Tape14.next {base tb : Nat} {w : World} {X V X' : Value} {xs ys : List Int} {L : List (Int × Int)} (h : Tape14 base w tb X V xs L) (hX : ∀ (W' : World), (∀ (g : Nat) (c : Array Value), w.heap[g]? = some (.cells c 5 (0, 0)) → W'.heap[g]? = some (.cells c 5 (0, 0))) → OwnB base W' X' ys) :
    Tape14 base (w.setCell ⟨tb, 1, none⟩ X') tb X' V ys L := by
  have hset := heap_setCell_same w tb 1 _ _ X' h.box
  have hbut : But (OneBlock tb) w (w.setCell ⟨tb, 1, none⟩ X') := (But.refl (OneBlock tb) w).setCell (p := ⟨tb, 1, none⟩) (.inl rfl) _
  refine ⟨hset, hX _ (fun g c hc => hbut.heap hc (fun e => ?_)), h.done.but hbut (fun g hg e => ?_), h.few⟩
  · have e' : g = tb := e
    subst e'
    exact types14 hc h.box (by decide)
  · have e' : g = tb := e
    subst e'
    exact h.ne hg.symm
theorem slice_one14 (g off n cap o' : Nat) (hc : n + 1 ≤ cap) (ho : o' = if cap = 1 then off else off + 1) : ∀ W, (Instr.slice 22 (.slice (some ⟨g, off, none⟩) (n + 1) cap) (some (.int .i64 1)) none none).run Tryz.prog W = .ok (.slice (some ⟨g, o', none⟩) n (cap - 1)) W := by
  intro W
  have h1 : ¬ cap = 0 := by omega
  by_cases h2 : cap = 1
  · subst h2
    obtain rfl : n = 0 := by omega
    rw [if_pos rfl] at ho
    subst ho
    simp [go_sem, Tryz.underlying22, Tryz.sizeOf5]
  · rw [if_neg h2] at ho
    subst ho
    have h3 : 1 ≤ cap := by omega
    have h4 : ¬ cap - 1 = 0 := by omega
    have h5 : ¬ (cap : Int) = 1 := by omega
    simp [go_sem, Tryz.underlying22, Tryz.sizeOf5, h1, h2, h3, h4, h5]
    intro h6
    exact absurd h6 (by omega)
set_option maxRecDepth 100000 in
set_option maxHeartbeats 4000000 in
theorem getMore14 {base tb : Nat} {w : World} {X V : Value} {x : Int} {ys : List Int} {L : List (Int × Int)} (h : Tape14 base w tb X V (x :: ys) L) (hb : base ≤ w.heap.size) (hf : L.length < 100000) :
    Calls Tryz.prog 102 #[.pointer (some ⟨tb, 0, none⟩)] w (TapeDone base tb w V (.tuple #[.int .i64 x, .int .i64 0]) ys (L ++ [(1, x)])) := by
  have hr := refusal14 h hf
  have HR := Lib.hid hr
  obtain ⟨c0, c1, c2⟩ := h.cells
  obtain ⟨A, cap, hVe⟩ := owns_len14 h.done
  obtain ⟨g, off, xcap, hXe, hcp, hx0, hnx⟩ := h.left.first
  obtain ⟨o', ho'⟩ : ∃ o', o' = if xcap = 1 then off else off + 1 := ⟨_, rfl⟩
  have hsl := slice_one14 g off ys.length xcap o' hcp ho'
  subst hVe hXe
  have hxb := h.left.2.1 x (List.mem_cons_self ..)
  have x0 : 0 ≤ x := hxb.1
  have x1 : x < 256 := hxb.2
  have H1 := Lib.hid (h.next (X' := .slice (some ⟨g, o', none⟩) ys.length (xcap - 1)) (fun W' hW => hnx W' o' (fun hc => by rw [ho', if_neg hc]) (hW g)))
  have HSZ : Hid (base ≤ (w.setCell ⟨tb, 1, none⟩ (.slice (some ⟨g, o', none⟩) ys.length (xcap - 1))).heap.size) := Lib.hid (by simpa [World.setCell] using hb)
  have HF := Lib.hid hf
  have HO : Hid (Owns (w.setCell ⟨tb, 1, none⟩ (.slice (some ⟨g, o', none⟩) ys.length (xcap - 1))) base 182 2 AnyC14 (.slice A L.length cap) L.length (cellsD L)) := Lib.hid H1.out.done
  have HW : Hid (But (fun k => k = tb ∨ (Value.slice A L.length cap).ownBlock = some k) w (w.setCell ⟨tb, 1, none⟩ (.slice (some ⟨g, o', none⟩) ys.length (xcap - 1)))) := Lib.hid ((But.refl _ w).setCell (p := ⟨tb, 1, none⟩) (.inl (.inl rfl)) _)
  obtain ⟨e0, e1, e2⟩ := H1.out.cells
  have g1 := h.free 1
  have hlen : (0 : Int) < ((ys.length + 1 : Nat) : Int) := by omega
  have hyl := h.left.1
  simp only [List.length_cons] at c1 hyl
  clear h hb hf hr hnx hcp ho' hxb
  generalize ys.length = n at *
  go_enter Tryz.func102, Tryz.ntmps102
  go_wp2_with (first
    | (go_at_call 158; (with_reducible refine HR.out.mono ?_); rintro e w' ⟨rfl, rfl⟩)
    | (at_builtin; refine wpList_deed rfl (.tmp 36) (.tmp 39) rfl Tryz.underlying177 rfl rfl (by simp [World.setCell]) HO.out HSZ.out (by have := HF.out; omega) ?_; intro V' W' hM; have HP := Lib.hid (H1.out.more hM HF.out); have hbx := (hM.blk _ H1.out.lt H1.out.ne).trans H1.out.box; obtain ⟨d0, d1, d2⟩ := cells3_14 hbx; have g2 := frozen_of_row W' tb 2 _ _ hbx; obtain ⟨A', cap', hVe⟩ := owns_len14 hM.own; subst hVe; clear hM hbx))
  go_ret2
  exact ⟨_, _, rfl, HP.out.1, HW.out.trans HP.out.2.but, by have h := HP.out.2.whr; simpa [World.setCell] using h⟩
end Go.Proofs.YtkfdgpgildanbaaGreat
