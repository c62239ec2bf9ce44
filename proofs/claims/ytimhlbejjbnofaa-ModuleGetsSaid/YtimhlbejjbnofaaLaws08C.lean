/- ModuleBack: a module's bytes are read as it. Contract; no condition but that the module lies in memory. -/
import Derived.Test.YtimhlbejjbnofaaLaws08B
import Derived.Test.YtimhlbejjbnofaaS13
namespace Go.Proofs.Ytimhlbejjbnofaa
open Go.RowKit Go.Shelf
set_option linter.unusedVariables false
set_option linter.unusedSimpArgs false

/-- A module's box. -/
structure OneM (w W : World) (D F : Value) : Prop where
  one : W.heap[w.heap.size]? = some (.cells #[D, F] 25 (0, 0))
  bel : Below w.heap.size w W
theorem OneM.grow {w W W' : World} {D F : Value} (h : OneM w W D F) (hb : Below W.heap.size W W') : OneM w W' D F := ⟨box_below h.one hb, h.bel.trans (hb.mono h.bel.size)⟩
theorem oneM_new (w : World) (D F : Value) : OneM w (w.alloc (.cells #[D, F] 25)) D F := ⟨heap_alloc_new _ _, (Below.refl _ w).alloc (Nat.le_refl _) _⟩
theorem bytes_okM {data : List Int} {fs : List FunV} (hd : ∀ x ∈ data, 0 ≤ x ∧ x < 256) : ∀ x ∈ (ModV.mk data fs).bytes, 0 ≤ x ∧ x < 256 := by
  intro x hx
  unfold ModV.bytes at hx
  rcases List.mem_append.1 hx with hx | hx
  · exact (show ∀ x ∈ markL, 0 ≤ x ∧ x < 256 by decide) x hx
  rcases List.mem_append.1 hx with hx | hx
  · exact bytesV_bd _ _ x hx
  rcases List.mem_append.1 hx with hx | hx
  · exact hd x hx
  rcases List.mem_append.1 hx with hx | hx
  · exact bytesV_bd _ _ x hx
  · obtain ⟨f, _, hf⟩ := List.mem_flatMap.1 hx
    unfold FunV.bytes at hf
    rcases List.mem_append.1 hf with hf | hf
    · exact bytesV_bd _ _ x hf
    rcases List.mem_append.1 hf with hf | hf
    · exact bytesV_bd _ _ x hf
    rcases List.mem_append.1 hf with hf | hf
    · exact bytesV_bd _ _ x hf
    rcases List.mem_append.1 hf with hf | hf
    · exact bytesV_bd _ _ x hf
    · exact allB_bd _ x hf
theorem bytes_fewM {data : List Int} {fs : List FunV} (h : (ModV.mk data fs).err = 0) : (ModV.mk data fs).bytes.length ≤ 300000 := by
  obtain ⟨h1, _, h3, h4⟩ := merr_ok h
  rw [← wrB_end]
  exact wrB_len h1 (few_of h4) h3
/-- A call of Put, as the laws meet it. -/
theorem put_law (D F : Value) (data : List Int) (fs : List FunV) (w : World) (hD : IsBytes w w.heap.size D data) (hF : IsFuns w w.heap.size F fs) :
    Calls Try.prog 12 #[.agg #[D, F]] w fun e w' => ∃ A n c xs, n = xs.length ∧ Hid (xs = goodB (ModV.mk data fs).err (ModV.mk data fs).bytes) ∧ e = .returned (.tuple #[.slice A n c, .int .i64 (ModV.mk data fs).err]) ∧ OutB w w' (.slice A n c) xs :=
  (put8_any D F data fs w hD hF).mono fun e w' ⟨V, he, ho⟩ => by
    obtain ⟨ys, A, c, hy, hV, hO⟩ := ho.name
    subst hV
    exact ⟨A, ys.length, c, ys, rfl, hy, he, hO.out⟩
set_option maxRecDepth 100000 in
set_option maxHeartbeats 16000000 in
theorem back8_law (D F : Value) (data : List Int) (fs : List FunV) (w : World) (hD : IsBytes w w.heap.size D data) (hF : IsFuns w w.heap.size F fs) : Calls Try.prog 6 #[.agg #[D, F]] w (Makes w (.bool true)) := by
  have HDw := Lib.hid (fun W (hb : Below w.heap.size w W) => hD.grow hb)
  have HFw := Lib.hid (fun W (hb : Below w.heap.size w W) => hF.grow hb)
  have HM0 := Lib.hid (oneM_new w D F)
  have HLg := Lib.hid (fun W (hb : Below w.heap.size w W) => longModule_any D F data fs W (hD.grow hb) (hF.grow hb))
  have HP := Lib.hid (fun W (hb : Below w.heap.size w W) => put_law D F data fs W (hD.grow hb) (hF.grow hb))
  have HC := Lib.hid (fun W (hb : Below w.heap.size w W) => check8_any D F data fs W (hD.grow hb) (hF.grow hb))
  have HBd := Lib.hid (bytes_okM (fs := fs) hD.1)
  have HDb := Lib.hid hD.1
  obtain ⟨DA, dc, hDe⟩ := hD.len
  obtain ⟨FA, fc, hFe⟩ := hF.len
  subst hDe hFe
  cases hlg : longM ⟨data, fs⟩
  case true =>
    rw [hlg] at HLg
    clear hlg hD hF
    go_enter Try.func6, Try.ntmps6
    go_wp2_with (first
      | (go_at_call 5; (with_reducible refine (known8_any _).mono ?_); rintro e w1 ⟨rfl, hb⟩; have H1 := Lib.hid (HM0.out.grow hb); obtain ⟨a0, a1⟩ := cells2 H1.out.one; clear hb)
      | (go_at_call 9; (with_reducible refine (HLg.out _ H1.out.bel).mono ?_); rintro e w2 ⟨rfl, hb⟩; have H2 := Lib.hid (H1.out.grow hb); clear hb))
    go_ret
    exact ⟨rfl, H2.out.bel⟩
  rw [hlg] at HLg
  obtain ⟨hl1, hl2, _⟩ := long_few hlg
  have HL2 := Lib.hid hl2
  dsimp only at hl1 hl2
  by_cases hz : (ModV.mk data fs).err = 0
  · have HZ := Lib.hid hz
    have HBL := Lib.hid (bytes_fewM hz)
    have hgo := get_of hz []
    rw [List.append_nil, if_pos rfl] at hgo
    have HG := Lib.hid hgo
    have HSm := Lib.hid (fun (W : World) (D' F' : Value) hD' hF' (hb : Below w.heap.size w W) => sameModule_any D' F' (.slice DA data.length dc) (.slice FA fs.length fc) data data fs fs W hD' hF' (HDw.out W hb) (HFw.out W hb))
    have HSa := Lib.hid (fun (W : World) (D' F' : Value) hD' hF' (hb : Below w.heap.size w W) => same8_any D' F' (.slice DA data.length dc) (.slice FA fs.length fc) data data fs fs W hD' hF' (HDw.out W hb) (HFw.out W hb) (by omega) (by omega))
    rw [sameM_refl] at HSm HSa
    rw [hz] at HP HC
    have hE := eqF_yes 0 0
    rw [show goodB 0 (ModV.mk data fs).bytes = (ModV.mk data fs).bytes from rfl] at HP
    clear hlg hD hF hz hgo
    generalize hmb : (ModV.mk data fs).bytes = mb at *
    have HMb := Lib.hid hmb
    clear hmb
    go_enter Try.func6, Try.ntmps6
    go_wp2_with (first
      | (go_at_call 5; (with_reducible refine (known8_any _).mono ?_); rintro e w1 ⟨rfl, hb⟩; have H1 := Lib.hid (HM0.out.grow hb); obtain ⟨a0, a1⟩ := cells2 H1.out.one; clear hb)
      | (go_at_call 9; (with_reducible refine (HLg.out _ H1.out.bel).mono ?_); rintro e w2 ⟨rfl, hb⟩; have H2 := Lib.hid (H1.out.grow hb); obtain ⟨b0, b1⟩ := cells2 H2.out.one; clear hb)
      | (go_at_call 12; (with_reducible refine (HP.out _ H2.out.bel).mono ?_); rintro e w3 ⟨A3, n3, c3, x3, hn3, hx3, rfl, ho⟩; have H3 := Lib.hid (H2.out.grow ho.bel); have HX3 := Lib.hid (And.intro hn3 hx3.out); have HO3 := Lib.hid ho; obtain ⟨d0, d1⟩ := cells2 H3.out.one; clear ho hn3 hx3)
      | (go_at_call 15; (with_reducible refine (HC.out _ H3.out.bel).mono ?_); rintro e w4 ⟨rfl, hb⟩; have H4 := Lib.hid (H3.out.grow hb); have HV4 := Lib.hid (named_is HX3.out.2 (outB_is (HO3.out.grow hb) (by rw [HX3.out.2]; exact HBd.out))); clear hb)
      | (go_at_call 22; (with_reducible refine (get8_any _ mb w4 HV4.out (by have := HBL.out; omega)).mono ?_); rintro e w5 ⟨D5, F5, Cs5, rfl, ho, hf⟩; rw [HG.out] at ho hf ⊢; obtain ⟨dA, dc5, hde⟩ := owns_len ho.own; subst hde; obtain ⟨fA, fc5, hfe⟩ := owns_len hf.own; subst hfe; obtain ⟨hG, hb⟩ := gotB_new (z := 0) (k := 0) ho HDb.out hf (by have := HL2.out; dsimp only at this ⊢; omega); have HG5 := Lib.hid hG; have H5 := Lib.hid (H4.out.grow hb); obtain ⟨e0, e1⟩ := cells2 H5.out.one; obtain ⟨g0, g1, g2, g3⟩ := hG.cells; clear ho hf hG hb)
      | (go_at_call 20; (with_reducible refine (HSm.out _ _ _ HG5.out.dat HG5.out.funs H5.out.bel).mono ?_); rintro e w6 ⟨rfl, hb⟩; have HG6 := Lib.hid (HG5.out.grow hb); have H6 := Lib.hid (H5.out.grow hb); obtain ⟨h0, h1⟩ := cells2 H6.out.one; obtain ⟨j0, j1, j2, j3⟩ := HG6.out.cells; clear hb)
      | (go_at_call 17; (with_reducible refine (HSa.out _ _ _ HG6.out.dat HG6.out.funs H6.out.bel).mono ?_); rintro e w7 ⟨rfl, hb⟩; have H7 := Lib.hid (H6.out.grow hb); clear hb))
    go_ret
    exact ⟨by first | rfl | simp, H7.out.bel⟩
  · have hb0 : ((ModV.mk data fs).err != 0) = true := by simpa using hz
    have hg0 : goodB (ModV.mk data fs).err (ModV.mk data fs).bytes = [] := by unfold goodB; rw [if_neg hz]
    rw [hg0] at HP
    generalize (ModV.mk data fs).err = z at *
    have hzz : (z != z) = false := by simp
    clear hlg hD hF hz hg0 HBd
    go_enter Try.func6, Try.ntmps6
    go_wp2_with (first
      | (go_at_call 5; (with_reducible refine (known8_any _).mono ?_); rintro e w1 ⟨rfl, hb⟩; have H1 := Lib.hid (HM0.out.grow hb); obtain ⟨a0, a1⟩ := cells2 H1.out.one; clear hb)
      | (go_at_call 9; (with_reducible refine (HLg.out _ H1.out.bel).mono ?_); rintro e w2 ⟨rfl, hb⟩; have H2 := Lib.hid (H1.out.grow hb); obtain ⟨b0, b1⟩ := cells2 H2.out.one; clear hb)
      | (go_at_call 12; (with_reducible refine (HP.out _ H2.out.bel).mono ?_); rintro e w3 ⟨A3, n3, c3, x3, hn3, hx3, rfl, ho⟩; have hn0 : n3 = 0 := (by rw [hn3, hx3.out]; rfl); subst hn0; have H3 := Lib.hid (H2.out.grow ho.bel); obtain ⟨d0, d1⟩ := cells2 H3.out.one; clear ho hn3 hx3)
      | (go_at_call 15; (with_reducible refine (HC.out _ H3.out.bel).mono ?_); rintro e w4 ⟨rfl, hb⟩; have H4 := Lib.hid (H3.out.grow hb); clear hb))
    go_ret
    exact ⟨by first | rfl | simp, H4.out.bel⟩
end Go.Proofs.Ytimhlbejjbnofaa
