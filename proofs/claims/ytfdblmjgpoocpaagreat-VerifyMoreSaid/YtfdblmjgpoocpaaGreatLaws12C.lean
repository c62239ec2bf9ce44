/- VerifyFinds: which modules are accepted, and of any other one why it is not and where, beside the document's own answer. Out of what is wanted of the landed Find and Check (Verify12) and of the examples; no condition but these and that the module lies in memory. -/
import Derived.Test.YtfdblmjgpoocpaaGreatS24
import Derived.Test.YtfdblmjgpoocpaaGreatKit08A
import Derived.Test.YtfdblmjgpoocpaaGreatKit08B
import Derived.Test.YtfdblmjgpoocpaaGreatKit08C
namespace Go.Proofs.YtfdblmjgpoocpaaGreat
open Go.RowKit Go.Shelf
set_option linter.unusedVariables false
set_option linter.unusedSimpArgs false

/-- A module's box, first in memory. -/
structure One12 (w W : World) (D F : Value) : Prop where
  one : W.heap[w.heap.size]? = some (.cells #[D, F] 25 (0, 0))
  bel : Below w.heap.size w W
theorem One12.grow {w W W' : World} {D F : Value} (h : One12 w W D F) (hb : Below W.heap.size W W') : One12 w W' D F := ⟨box_below h.one hb, h.bel.trans (hb.mono h.bel.size)⟩
theorem one12_new (w : World) (D F : Value) : One12 w (w.alloc (.cells #[D, F] 25)) D F := ⟨heap_alloc_new _ _, (Below.refl _ w).alloc (Nat.le_refl _) _⟩
/-- A copy of a module. -/
structure MCpy (W : World) (D F : Value) (data : List Int) (fs : List FunV) : Prop where
  byt : IsBytes W W.heap.size D data
  fns : IsFuns W W.heap.size F fs
theorem MCpy.grow {W W' : World} {D F : Value} {data : List Int} {fs : List FunV} (h : MCpy W D F data fs) (hb : Below W.heap.size W W') : MCpy W' D F data fs := ⟨h.byt.grow hb, h.fns.grow hb⟩
theorem copy12_any (D F : Value) (data : List Int) (fs : List FunV) (W : World) (hD : IsBytes W W.heap.size D data) (hF : IsFuns W W.heap.size F fs) (hl : longM ⟨data, fs⟩ = false) :
    Calls Tryz.prog 10 #[.agg #[D, F]] W (fun e w' => ∃ S l c G m d, e = .returned (.agg #[.slice S l c, .slice G m d]) ∧ MCpy w' (.slice S l c) (.slice G m d) data fs ∧ Below W.heap.size W w') := by
  refine (copyModule_any D F data fs W hD hF hl).mono ?_
  rintro e w' ⟨D', F', Cs, rfl, ho, hf⟩
  obtain ⟨S, c, hde⟩ := owns_len ho.own
  obtain ⟨G, d, hfe⟩ := owns_len hf.own
  have h1 := IsBytes.of_owns (Owns.base ho.own (Nat.zero_le _)) hD.1 (Nat.le_refl _)
  have h2 := hf.funs (by have := (long_few hl).2.1; dsimp only at this; omega)
  subst hde hfe
  exact ⟨S, _, c, G, _, d, rfl, ⟨h1, h2⟩, ho.bel⟩
set_option maxRecDepth 100000 in
set_option maxHeartbeats 16000000 in
theorem finds12_law (S : Verify12) (HAw : ∀ W, Calls Tryz.prog 9 #[] W (Makes W (.bool true))) (D F : Value) (data : List Int) (fs : List FunV) (w : World) (hD : IsBytes w w.heap.size D data) (hF : IsFuns w w.heap.size F fs) : Calls Tryz.prog 3 #[.agg #[D, F]] w (Makes w (.bool true)) := by
  have HDw := Lib.hid (fun W (hb : Below w.heap.size w W) => hD.grow hb)
  have HFw := Lib.hid (fun W (hb : Below w.heap.size w W) => hF.grow hb)
  have HA := Lib.hid HAw
  have HM0 := Lib.hid (one12_new w D F)
  have HLg := Lib.hid (fun W (hb : Below w.heap.size w W) => longModule_any D F data fs W (hD.grow hb) (hF.grow hb))
  cases hlg : longM ⟨data, fs⟩
  case true =>
    rw [hlg] at HLg
    obtain ⟨DA, dc, hDe⟩ := hD.len
    obtain ⟨FA, fc, hFe⟩ := hF.len
    subst hDe hFe
    clear hlg hD hF HAw S
    go_enter Tryz.func3, Tryz.ntmps3
    go_wp2_with (first
      | (go_at_call 8; (with_reducible refine (HLg.out _ HM0.out.bel).mono ?_); rintro e w2 ⟨rfl, hb⟩; have H2 := Lib.hid (HM0.out.grow hb); clear hb)
      | (go_at_call 9; (with_reducible refine (HA.out w2).mono ?_); rintro e w3 ⟨rfl, hb⟩; have H3 := Lib.hid (H2.out.grow hb); clear hb))
    go_ret
    exact ⟨rfl, H3.out.bel⟩
  rw [hlg] at HLg
  obtain ⟨hl1, hl2, hl3⟩ := long_few hlg
  dsimp only at hl1 hl2 hl3
  have HCp := Lib.hid (fun W (hb : Below w.heap.size w W) => copy12_any D F data fs W (hD.grow hb) (hF.grow hb) hlg)
  have HFI := Lib.hid (fun W D' F' (hc : MCpy W D' F' data fs) => S.find D' F' data fs W hc.byt hc.fns)
  have HCH := Lib.hid (fun W D' F' (hc : MCpy W D' F' data fs) => S.check D' F' data fs W hc.byt hc.fns)
  have HRF := Lib.hid (fun W (hb : Below w.heap.size w W) => rfind12_any D F data fs W (hD.grow hb) (hF.grow hb) (fun f hf => by have := (hl3 f hf).1; omega) (by omega))
  have HSM := Lib.hid (fun W D' F' (hc : MCpy W D' F' data fs) (hb : Below w.heap.size w W) => sameModule_any D' F' D F data data fs fs W hc.byt hc.fns (hD.grow hb) (hF.grow hb))
  rw [sameM_refl] at HSM
  generalize findM ⟨data, fs⟩ = r at *
  obtain ⟨ra, rb, rc⟩ := r
  dsimp only at HFI HCH HRF
  have e1 : (ra == ra) = true := by simp
  have e2 : (rb == rb) = true := by simp
  have e3 : (rc == rc) = true := by simp
  obtain ⟨DA, dc, hDe⟩ := hD.len
  obtain ⟨FA, fc, hFe⟩ := hF.len
  subst hDe hFe
  clear hlg hD hF HAw S hl1 hl2 hl3
  generalize data.length = nd at *
  generalize fs.length = nf at *
  go_enter Tryz.func3, Tryz.ntmps3
  go_wp2_with (first
    | (go_at_call 8; (with_reducible refine (HLg.out _ HM0.out.bel).mono ?_); rintro e w2 ⟨rfl, hb⟩; have H2 := Lib.hid (HM0.out.grow hb); obtain ⟨a0, a1⟩ := cells2 H2.out.one; clear hb)
    | (go_at_call 10; (with_reducible refine (HCp.out _ H2.out.bel).mono ?_); rintro e w3 ⟨S3, l3, c3, G3, m3, d3, rfl, hc, hb⟩; obtain ⟨hB4⟩ : Nonempty (Below w3.heap.size w3 (w3.alloc (.cells #[.slice S3 l3 c3, .slice G3 m3 d3] 25))) := ⟨(Below.refl _ w3).alloc (Nat.le_refl _) _⟩; have HC4 := Lib.hid (hc.grow hB4); have H4 := Lib.hid ((H2.out.grow hb).grow hB4); have K4 := Lib.hid (heap_alloc_new w3 (.cells #[.slice S3 l3 c3, .slice G3 m3 d3] 25)); obtain ⟨b0, b1⟩ := cells2 H4.out.one; clear hc hb hB4)
    | (go_at_call 11; (with_reducible refine (HFI.out _ _ _ HC4.out).mono ?_); rintro e w5 ⟨hb, rfl⟩; have HC5 := Lib.hid (HC4.out.grow hb); have H5 := Lib.hid (H4.out.grow hb); have K5 := Lib.hid (box_below K4.out hb); obtain ⟨d0, d1⟩ := cells2 H5.out.one; clear hb)
    | (go_at_call 12; (with_reducible refine (HRF.out _ H5.out.bel).mono ?_); rintro e w6 ⟨hb, rfl⟩; have HC6 := Lib.hid (HC5.out.grow hb); have H6 := Lib.hid (H5.out.grow hb); have K6 := Lib.hid (box_below K5.out hb); obtain ⟨f0, f1⟩ := cells2 K6.out; clear hb)
    | (go_at_call 13; (with_reducible refine (HCH.out _ _ _ HC6.out).mono ?_); rintro e w7 ⟨rfl, hb⟩; have HC7 := Lib.hid (HC6.out.grow hb); have H7 := Lib.hid (H6.out.grow hb); have K7 := Lib.hid (box_below K6.out hb); obtain ⟨g0, g1⟩ := cells2 K7.out; obtain ⟨h0, h1⟩ := cells2 H7.out.one; clear hb)
    | (go_at_call 14; (with_reducible refine (HSM.out _ _ _ HC7.out H7.out.bel).mono ?_); rintro e w8 ⟨rfl, hb⟩; have H8 := Lib.hid (H7.out.grow hb); clear hb)
    | (go_at_call 9; (with_reducible refine (HA.out w8).mono ?_); rintro e w9 ⟨rfl, hb⟩; have H9 := Lib.hid (H8.out.grow hb); clear hb))
  go_ret
  exact ⟨by first | rfl | simp, H9.out.bel⟩
end Go.Proofs.YtfdblmjgpoocpaaGreat
