/- VerifyKnown: the chapter's examples are answered as it says. Out of what is wanted of the landed Find and Check (Verify12); no other condition. -/
import Derived.Test.YtfdblmjgpoocpaaGreatLaws12D
namespace Go.Proofs.YtfdblmjgpoocpaaGreat
open Go.RowKit Go.Shelf
set_option linter.unusedVariables false
set_option linter.unusedSimpArgs false

def callV : List InsV := [⟨28, 0, 0, 0, 1, []⟩, ⟨32, 0, 0, 0, 0, []⟩]
def dataV : List InsV := [⟨24, 0, 0, 0, 1, []⟩, ⟨32, 0, 0, 0, 0, []⟩]
def retV : List InsV := [⟨29, 0, 0, 0, 0, []⟩]
def ccs : Array Value := #[.int .i64 28, .int .i64 0, .int .i64 0, .int .i64 0, .int .i64 1, .slice none 0 0, .int .i64 32, .int .i64 0, .int .i64 0, .int .i64 0, .int .i64 0, .slice none 0 0]
def dcs : Array Value := #[.int .i64 24, .int .i64 0, .int .i64 0, .int .i64 0, .int .i64 1, .slice none 0 0, .int .i64 32, .int .i64 0, .int .i64 0, .int .i64 0, .int .i64 0, .slice none 0 0]
def rcs : Array Value := #[.int .i64 29, .int .i64 0, .int .i64 0, .int .i64 0, .int .i64 0, .slice none 0 0]
theorem kn_call : findM ⟨[], [⟨0, 1, 0, callV⟩]⟩ = (0, 0, 13) := by decide +kernel
theorem kn_none : findM ⟨[], []⟩ = (-1, -1, 2) := by decide +kernel
theorem kn_data : findM ⟨[], [⟨0, 1, 0, dataV⟩]⟩ = (0, 0, 5) := by decide +kernel
theorem kn_two : findM ⟨[], [⟨0, 1, 0, callV⟩, ⟨1, 1, 0, retV⟩]⟩ = (0, 0, 2) := by decide +kernel
theorem call_in : ∀ y ∈ callV, InsB y := by
  intro y hy
  simp [callV] at hy
  rcases hy with rfl | rfl <;> exact ⟨by unfold InI; decide, by unfold InI; decide, by unfold InI; decide, by unfold InI; decide, by unfold InI; decide⟩
theorem data_in : ∀ y ∈ dataV, InsB y := by
  intro y hy
  simp [dataV] at hy
  rcases hy with rfl | rfl <;> exact ⟨by unfold InI; decide, by unfold InI; decide, by unfold InI; decide, by unfold InI; decide, by unfold InI; decide⟩
theorem ret_in : ∀ y ∈ retV, InsB y := by
  intro y hy
  simp [retV] at hy
  subst hy
  exact ⟨by unfold InI; decide, by unfold InI; decide, by unfold InI; decide, by unfold InI; decide, by unfold InI; decide⟩
/-- Code of no arguments in a row of its own. -/
theorem ownC_row {w : World} {b : Nat} (l : List InsV) (cs : Array Value) (hrow : w.heap[b]? = some (.cells cs 37 (0, 0))) (hcs : cs.toList = cellsC l (List.replicate l.length (.slice none 0 0))) (hl : l.length ≤ 1000) (hi : ∀ y ∈ l, InsB y) (ha : ∀ y ∈ l, y.args = []) :
    OwnC 0 w (.slice (some ⟨b, 0, none⟩) l.length l.length) l (List.replicate l.length (.slice none 0 0)) := by
  have hsz : cs.size = l.length * 6 := by rw [← Array.length_toList, hcs, cellsC_length _ _ (by simp)]
  refine ⟨⟨⟨by rw [cellsC_length _ _ (by simp)], .inr ⟨b, l.length, cs, rfl, Nat.zero_le _, hrow, Nat.le_refl _, by unfold maxLen; omega, hsz, ?_⟩⟩, fun _ _ _ _ _ _ _ _ => trivial⟩, by simp, hi, fun i hi => ?_⟩
  · rw [List.take_of_length_le (by rw [Array.length_toList, hsz]; exact Nat.le_refl _), hcs]
  · have : (l.getD i .zero).args = [] := ha _ (by simp [List.getD, List.getElem?_eq_getElem hi])
    rw [this]
    simp [List.getD, hi]
    exact Owns.nil _ _ _ _ _
/-- One function in a row of its own. -/
theorem ownF_row {w : World} {g : Nat} {p : Int} {C : Value} {l : List InsV} (hrow : w.heap[g]? = some (.cells #[.int .i64 p, .int .i64 1, .int .i64 0, C] 41 (0, 0))) (hp : InI p) (hC : CodeAt 0 w C l) :
    OwnF 41 0 w (.slice (some ⟨g, 0, none⟩) 1 1) [⟨p, 1, 0, l⟩] [C] := by
  refine ⟨⟨⟨rfl, .inr ⟨g, 1, _, rfl, Nat.zero_le _, hrow, Nat.le_refl _, by unfold maxLen; omega, rfl, rfl⟩⟩, fun _ _ _ _ _ _ _ _ => trivial⟩, rfl, fun f hf => ?_, fun i hi => ?_⟩
  · simp at hf
    subst hf
    exact ⟨hp, int01.2, int01.1⟩
  · obtain rfl : i = 0 := by simpa using hi
    exact hC
/-- The chapter's module of two functions, in memory. -/
structure TwoAt (w W : World) (n : Nat) (A : Option Addr) (c : Nat) : Prop where
  fns : ∃ Cs, OwnF 41 0 W (.slice A 2 c) [⟨0, 1, 0, callV⟩, ⟨1, 1, 0, retV⟩] Cs
  box : W.heap[n]? = some (.cells #[.slice none 0 0, .slice A 2 c] 25 (0, 0))
  bel : Below w.heap.size w W
theorem TwoAt.grow {w W W' : World} {n : Nat} {A : Option Addr} {c : Nat} (h : TwoAt w W n A c) (hb : Below W.heap.size W W') : TwoAt w W' n A c := by
  obtain ⟨Cs, hf⟩ := h.fns
  exact ⟨⟨Cs, hf.below hb (Nat.le_refl _)⟩, box_below h.box hb, h.bel.trans (hb.mono h.bel.size)⟩
theorem TwoAt.found (S : Verify12) {w W : World} {n : Nat} {A : Option Addr} {c : Nat} (h : TwoAt w W n A c) :
    Calls Tryz.prog 17 #[.agg #[.slice none 0 0, .slice A 2 c], .int .i64 0, .int .i64 0, .int .i64 2] W (Makes W (.bool true)) := by
  obtain ⟨Cs, hf⟩ := h.fns
  exact found12_yes S kn_two W (bytes_none W) (hf.funs (by decide))
theorem same_ty {W : World} {g : Nat} {c c2 : Array Value} {t u : TypeId} (h1 : W.heap[g]? = some (.cells c u (0, 0))) (h2 : W.heap[g]? = some (.cells c2 t (0, 0))) : u = t := by
  rw [h1] at h2
  injection h2 with h2
  injection h2
/-- The function is appended, and stored in the module's box. -/
theorem two_store {w W W' : World} {g b r n : Nat} {A : Option Addr} {c : Nat} {C : Value} (hn : w.heap.size ≤ n) (hg : w.heap.size ≤ g) (hne : n ≠ g) (hb : Below w.heap.size w W)
    (hm : MoreF 41 0 W W' (.slice (some ⟨g, 0, none⟩) 1 1) (.slice A 2 c) [⟨0, 1, 0, callV⟩] [.slice (some ⟨b, 0, none⟩) 2 2] ⟨1, 1, 0, retV⟩ C) {V : Value}
    (hbox : W.heap[n]? = some (.cells #[.slice none 0 0, V] 25 (0, 0))) :
    W'.heap[n]? = some (.cells #[.slice none 0 0, V] 25 (0, 0)) ∧ TwoAt w (W'.setCell ⟨n, 1, none⟩ (.slice A 2 c)) n A c := by
  have h1 : W'.heap[n]? = some (.cells #[.slice none 0 0, V] 25 (0, 0)) := by
    rw [hm.blk n (heap_lt hbox) (fun e => hne (by simpa [Value.ownBlock] using e))]
    exact hbox
  have hB : Below w.heap.size w W' := by
    refine hb.trans ⟨hm.bel.os, hm.bel.tape, hm.bel.output, hm.size, fun k hk => hm.blk k (Nat.lt_of_lt_of_le hk hb.size) (fun e => ?_)⟩
    have : k = g := by simpa [Value.ownBlock] using e
    omega
  have hbut : But (fun k => k = n) W' (W'.setCell ⟨n, 1, none⟩ (.slice A 2 c)) := But.setCell (R := fun k => k = n) (But.refl _ W') (p := ⟨n, 1, none⟩) (.inl rfl) _
  have typ : ∀ (u : TypeId), u ≠ 25 → ∀ k cs, W'.heap[k]? = some (.cells cs u (0, 0)) → ¬ k = n := fun u hu k cs hc e => by
    subst e
    exact hu (same_ty hc h1)
  refine ⟨h1, ⟨⟨_, hm.own.but hbut (fun k hk => ?_) (fun k hk => absurd hk (Nat.not_lt_zero _)) (typ _ (by decide)) (typ _ (by decide))⟩, heap_setCell_same W' n 1 _ _ _ h1, hB.setCell hn _⟩⟩
  obtain ⟨cs, hc⟩ := hm.own.own.typed hk
  exact typ _ (by decide) k cs hc
/-- All that the append wants. -/
structure Ready12 (w W : World) (g b n r : Nat) : Prop where
  own : OwnF 41 0 W (.slice (some ⟨g, 0, none⟩) 1 1) [⟨0, 1, 0, callV⟩] [.slice (some ⟨b, 0, none⟩) 2 2]
  cod : CodeAt 0 W (.slice (some ⟨r, 0, none⟩) 1 1) retV
  box : W.heap[n]? = some (.cells #[.slice none 0 0, .slice (some ⟨g, 0, none⟩) 1 1] 25 (0, 0))
  bel : Below w.heap.size w W
  hn : w.heap.size ≤ n
  hg : w.heap.size ≤ g
  ne : n ≠ g
theorem ready12 {w w3 : World} {g b : Nat} (hr : w3.heap[g]? = some (.cells #[.int .i64 0, .int .i64 1, .int .i64 0, .slice (some ⟨b, 0, none⟩) 2 2] 41 (0, 0))) (hc : w3.heap[b]? = some (.cells ccs 37 (0, 0))) (hb : Below w.heap.size w w3) (hg : w.heap.size ≤ g) :
    Ready12 w ((w3.alloc (.cells #[.slice none 0 0, .slice (some ⟨g, 0, none⟩) 1 1] 25)).alloc (.cells rcs 37)) g b w3.heap.size (w3.heap.size + 1) := by
  have h4 : Below w3.heap.size w3 (w3.alloc (.cells #[.slice none 0 0, .slice (some ⟨g, 0, none⟩) 1 1] 25)) := (Below.refl _ _).alloc (Nat.le_refl _) _
  have k4 := heap_alloc_new w3 (.cells #[.slice none 0 0, .slice (some ⟨g, 0, none⟩) 1 1] 25)
  generalize hW : w3.alloc (.cells #[.slice none 0 0, .slice (some ⟨g, 0, none⟩) 1 1] 25) = W4 at *
  have hs : W4.heap.size = w3.heap.size + 1 := by rw [← hW]; simp
  have h5 : Below W4.heap.size W4 (W4.alloc (.cells rcs 37)) := (Below.refl _ _).alloc (Nat.le_refl _) _
  have k5 := heap_alloc_new W4 (.cells rcs 37)
  rw [hs] at k5
  have hne : w3.heap.size ≠ g := fun e => absurd (heap_lt hr) (by rw [← e]; exact Nat.lt_irrefl _)
  exact ⟨ownF_row (box_below (box_below hr h4) h5) int01.1 (.inr ⟨0, _, ownC_row callV ccs (box_below (box_below hc h4) h5) rfl (by decide) call_in (by decide), by decide⟩), .inr ⟨0, _, ownC_row retV rcs k5 rfl (by decide) ret_in (by decide), by decide⟩, box_below k4 h5, (hb.trans (h4.mono hb.size)).trans (h5.mono (Nat.le_trans hb.size h4.size)), hb.size, hg, hne⟩
set_option maxRecDepth 100000 in
set_option maxHeartbeats 16000000 in
theorem known12_any (S : Verify12) (w : World) : Calls Tryz.prog 4 #[] w (Makes w (.bool true)) := by
  have HFC := Lib.hid (fun W g C (h : OneF W g 0 C callV) => h.found S int01.1 kn_call)
  have HFD := Lib.hid (fun W g C (h : OneF W g 0 C dataV) => h.found S int01.1 kn_data)
  have HFN := Lib.hid (fun W : World => found12_yes S kn_none W (bytes_none W) (show IsFuns W W.heap.size (.slice none 0 0) [] from ⟨by simp, by simp, .inl ⟨rfl, none, 0, rfl⟩⟩))
  have HFT := Lib.hid (fun (w W : World) n A c (h : TwoAt w W n A c) => h.found S)
  have HAw := Lib.hid (awake12_any S)
  have HA : Hid (∀ (W : World) (cs : Array Value), Below W.heap.size W (W.alloc (.cells cs 37))) := Lib.hid (fun W cs => (Below.refl _ W).alloc (Nat.le_refl _) _)
  have HOC : Hid (∀ W : World, Calls Tryz.prog 15 #[.slice (some ⟨W.heap.size, 0, none⟩) 2 2] (W.alloc (.cells ccs 37)) (OfDone (W.alloc (.cells ccs 37)) (.slice (some ⟨W.heap.size, 0, none⟩) 2 2) callV)) := Lib.hid (fun W => of12_any _ _ _ callV _ (code_row callV ccs (heap_alloc_new W _) rfl (by decide) call_in (by decide)))
  have HOD : Hid (∀ W : World, Calls Tryz.prog 15 #[.slice (some ⟨W.heap.size, 0, none⟩) 2 2] (W.alloc (.cells dcs 37)) (OfDone (W.alloc (.cells dcs 37)) (.slice (some ⟨W.heap.size, 0, none⟩) 2 2) dataV)) := Lib.hid (fun W => of12_any _ _ _ dataV _ (code_row dataV dcs (heap_alloc_new W _) rfl (by decide) data_in (by decide)))
  clear S
  go_enter Tryz.func4, Tryz.ntmps4
  go_wp2_with (first
    | (go_at_call 16; (with_reducible refine (exit12_any w).mono ?_); rintro e w1 ⟨rfl, hb⟩; have HB1 := Lib.hid hb; clear hb)
    | (go_at_call 15; (refine (HOC.out w1).mono ?_); rintro e w3 ⟨g, rfl, ho, hg, hb⟩; have hr3 := ho.row; have hc3 := box_below (heap_alloc_new w1 (.cells ccs 37)) hb; have hb3 := HB1.out.trans (((HA.out w1 ccs).trans (hb.mono (HA.out w1 ccs).size)).mono HB1.out.size); have hg3 := Nat.le_trans HB1.out.size (Nat.le_trans (HA.out w1 ccs).size hg); clear ho hb hg; obtain ⟨a0, a1⟩ := cells2 (heap_alloc_new w3 (.cells #[.slice none 0 0, .slice (some ⟨g, 0, none⟩) 1 1] 25)); have HR := Lib.hid (ready12 hr3 hc3 hb3 hg3); clear hr3 hc3 hb3 hg3)
    | (at_builtin; (refine wpList_outF (W := (w3.alloc (.cells #[.slice none 0 0, .slice (some ⟨g, 0, none⟩) 1 1] 25)).alloc (.cells rcs 37)) (f := ⟨1, 1, 0, retV⟩) rfl (.tmp 8) (.tmp 12) rfl rfl rfl (by simp) HR.out.own HR.out.cod ⟨int01.2, int01.2, int01.1⟩ (Nat.zero_le _) (by decide) ?_); intro V8 w8 hm; obtain ⟨A8, c8, hV⟩ := owns_len hm.own.own; have hV : V8 = .slice A8 2 c8 := hV; subst hV; obtain ⟨hbx, hT⟩ := two_store HR.out.hn HR.out.hg HR.out.ne HR.out.bel (r := 0) hm HR.out.box; obtain ⟨d0, d1⟩ := cells2 hbx; have z1 : w8.frozen? ⟨w3.heap.size, 1, none⟩ = false := (by simp [World.frozen?, hbx]); have HT := Lib.hid hT; clear hT hm)
    | (go_at_call 16; (with_reducible refine (exit12_any (w8.setCell ⟨w3.heap.size, 1, none⟩ (.slice A8 2 c8))).mono ?_); rintro e wA ⟨rfl, hb⟩; have HTA := Lib.hid (HT.out.grow hb); clear hb)
    | (go_at_call 15; (refine (HOC.out wA).mono ?_); rintro e wB ⟨gB, rfl, ho, hg, hb⟩; have HOB := Lib.hid ho; have HTB := Lib.hid (HTA.out.grow ((HA.out wA ccs).trans (hb.mono (HA.out wA ccs).size))); clear ho hg hb)
    | (go_at_call 17; (with_reducible refine (HFC.out _ _ _ HOB.out).mono ?_); rintro e wC ⟨rfl, hb⟩; have HTC := Lib.hid (HTB.out.grow hb); clear hb)
    | (go_at_call 17; (with_reducible refine (HFN.out wC).mono ?_); rintro e wD ⟨rfl, hb⟩; have HTD := Lib.hid (HTC.out.grow hb); clear hb)
    | (go_at_call 16; (with_reducible refine (exit12_any wD).mono ?_); rintro e wE ⟨rfl, hb⟩; have HTE := Lib.hid (HTD.out.grow hb); clear hb)
    | (go_at_call 15; (refine (HOD.out wE).mono ?_); rintro e wF ⟨gF, rfl, ho, hg, hb⟩; have HOF := Lib.hid ho; have HTF := Lib.hid (HTE.out.grow ((HA.out wE dcs).trans (hb.mono (HA.out wE dcs).size))); clear ho hg hb)
    | (go_at_call 17; (with_reducible refine (HFD.out _ _ _ HOF.out).mono ?_); rintro e wG ⟨rfl, hb⟩; have HTG := Lib.hid (HTF.out.grow hb); clear hb)
    | (go_at_call 9; (with_reducible refine (HAw.out wG).mono ?_); rintro e wH ⟨rfl, hb⟩; have HTH := Lib.hid (HTG.out.grow hb); obtain ⟨f0, f1⟩ := cells2 HTH.out.box; clear hb)
    | (go_at_call 17; (with_reducible refine (HFT.out _ _ _ _ _ HTH.out).mono ?_); rintro e wI ⟨rfl, hb⟩; have HTI := Lib.hid (HTH.out.grow hb); clear hb))
  go_ret
  exact ⟨by first | rfl | simp, HTI.out.bel⟩
end Go.Proofs.YtfdblmjgpoocpaaGreat
