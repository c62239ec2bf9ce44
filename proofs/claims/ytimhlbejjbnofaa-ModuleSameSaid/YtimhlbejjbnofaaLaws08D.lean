/- ModuleSame: two modules that may be have the same bytes just if they are the same. Contract; no condition but that the modules lie in memory. -/
import Derived.Test.YtimhlbejjbnofaaLaws08C
namespace Go.Proofs.Ytimhlbejjbnofaa
open Go.RowKit Go.Shelf
set_option linter.unusedVariables false
set_option linter.unusedSimpArgs false

theorem sameM_comm (m k : ModV) : sameM m k = sameM k m := by
  rw [Bool.eq_iff_iff, sameM_iff, sameM_iff]
  exact eq_comm
theorem bytes_sameM {m k : ModV} (hm : m.err = 0) (hk : k.err = 0) : (m.bytes == k.bytes) = sameM m k := by
  rw [Bool.eq_iff_iff, beq_iff_eq, sameM_iff]
  constructor
  · intro h
    have h1 := get_of hm []
    have h2 := get_of hk []
    rw [List.append_nil, if_pos rfl] at h1 h2
    rw [h, h2] at h1
    injection h1 with _ _ h1
    exact h1.symm
  · rintro rfl
    rfl
set_option maxRecDepth 100000 in
set_option maxHeartbeats 16000000 in
theorem same8_law (D F D' F' : Value) (data data' : List Int) (fs fs' : List FunV) (w : World) (hD : IsBytes w w.heap.size D data) (hF : IsFuns w w.heap.size F fs) (hD' : IsBytes w w.heap.size D' data') (hF' : IsFuns w w.heap.size F' fs') :
    Calls Try.prog 8 #[.agg #[D, F], .agg #[D', F']] w (Makes w (.bool true)) := by
  have HT := Lib.hid (twoM_new w D F D' F')
  have HLg := Lib.hid (fun W (hb : Below w.heap.size w W) => longModule_any D F data fs W (hD.grow hb) (hF.grow hb))
  have HLg' := Lib.hid (fun W (hb : Below w.heap.size w W) => longModule_any D' F' data' fs' W (hD'.grow hb) (hF'.grow hb))
  have HP := Lib.hid (fun W (hb : Below w.heap.size w W) => put_law D F data fs W (hD.grow hb) (hF.grow hb))
  have HP' := Lib.hid (fun W (hb : Below w.heap.size w W) => put_law D' F' data' fs' W (hD'.grow hb) (hF'.grow hb))
  have HDw := Lib.hid (fun W (hb : Below w.heap.size w W) => hD.grow hb)
  have HFw := Lib.hid (fun W (hb : Below w.heap.size w W) => hF.grow hb)
  have HDw' := Lib.hid (fun W (hb : Below w.heap.size w W) => hD'.grow hb)
  have HFw' := Lib.hid (fun W (hb : Below w.heap.size w W) => hF'.grow hb)
  have HBd := Lib.hid (bytes_okM (fs := fs) hD.1)
  have HBd' := Lib.hid (bytes_okM (fs := fs') hD'.1)
  obtain ⟨DA, dc, hDe⟩ := hD.len
  obtain ⟨FA, fc, hFe⟩ := hF.len
  obtain ⟨DA', dc', hDe'⟩ := hD'.len
  obtain ⟨FA', fc', hFe'⟩ := hF'.len
  subst hDe hFe hDe' hFe'
  clear hD hF hD' hF'
  cases hlg : longM ⟨data, fs⟩
  case true =>
    rw [hlg] at HLg
    clear hlg
    go_enter Try.func8, Try.ntmps8
    go_wp2_with (first
      | (go_at_call 10; (with_reducible refine (awake8_any _).mono ?_); rintro e w1 ⟨rfl, hb⟩; have H1 := Lib.hid (HT.out.grow hb); obtain ⟨a0, a1, a2, a3⟩ := H1.out.cells; clear hb)
      | (go_at_call 9; (with_reducible refine (HLg.out _ H1.out.bel).mono ?_); rintro e w2 ⟨rfl, hb⟩; have H2 := Lib.hid (H1.out.grow hb); clear hb))
    go_ret
    exact ⟨rfl, H2.out.bel⟩
  rw [hlg] at HLg
  cases hlg' : longM ⟨data', fs'⟩
  case true =>
    rw [hlg'] at HLg'
    clear hlg hlg'
    go_enter Try.func8, Try.ntmps8
    go_wp2_with (first
      | (go_at_call 10; (with_reducible refine (awake8_any _).mono ?_); rintro e w1 ⟨rfl, hb⟩; have H1 := Lib.hid (HT.out.grow hb); obtain ⟨a0, a1, a2, a3⟩ := H1.out.cells; clear hb)
      | (go_at_call 9; (with_reducible refine (HLg.out w1 H1.out.bel).mono ?_); rintro e w2 ⟨rfl, hb⟩; have H2 := Lib.hid (H1.out.grow hb); obtain ⟨b0, b1, b2, b3⟩ := H2.out.cells; clear hb)
      | (go_at_call 9; (with_reducible refine (HLg'.out w2 H2.out.bel).mono ?_); rintro e w3 ⟨rfl, hb⟩; have H3 := Lib.hid (H2.out.grow hb); clear hb))
    go_ret
    exact ⟨rfl, H3.out.bel⟩
  rw [hlg'] at HLg'
  have hl2 := (long_few hlg).2.1
  have hl2' := (long_few hlg').2.1
  dsimp only at hl2 hl2'
  obtain ⟨s, hs⟩ : ∃ s, s = sameM ⟨data, fs⟩ ⟨data', fs'⟩ := ⟨_, rfl⟩
  have hs2 : sameM ⟨data', fs'⟩ ⟨data, fs⟩ = s := by rw [hs]; exact sameM_comm _ _
  have HS1 := Lib.hid (fun W (hb : Below w.heap.size w W) => same8_any (.slice DA data.length dc) (.slice FA fs.length fc) (.slice DA' data'.length dc') (.slice FA' fs'.length fc') data data' fs fs' W (HDw.out W hb) (HFw.out W hb) (HDw'.out W hb) (HFw'.out W hb) (by omega) (by omega))
  have HS2 := Lib.hid (fun W (hb : Below w.heap.size w W) => same8_any (.slice DA' data'.length dc') (.slice FA' fs'.length fc') (.slice DA data.length dc) (.slice FA fs.length fc) data' data fs' fs W (HDw'.out W hb) (HFw'.out W hb) (HDw.out W hb) (HFw.out W hb) (by omega) (by omega))
  have HS3 := Lib.hid (fun W (hb : Below w.heap.size w W) => same8_any (.slice DA data.length dc) (.slice FA fs.length fc) (.slice DA data.length dc) (.slice FA fs.length fc) data data fs fs W (HDw.out W hb) (HFw.out W hb) (HDw.out W hb) (HFw.out W hb) (by omega) (by omega))
  rw [← hs] at HS1
  rw [hs2] at HS2
  rw [sameM_refl] at HS3
  have HBS : Hid ((ModV.mk data fs).err = 0 → (ModV.mk data' fs').err = 0 → ((ModV.mk data fs).bytes == (ModV.mk data' fs').bytes) = s) := Lib.hid (fun h1 h2 => by rw [hs]; exact bytes_sameM h1 h2)
  have hss : (s != s) = false := by cases s <;> rfl
  have hse : (s == s) = true := by cases s <;> rfl
  clear hlg hlg' hs hs2 hl2 hl2' HDw HFw HDw' HFw'
  by_cases hz : (ModV.mk data fs).err = 0
  case neg =>
    have hb0 : ((ModV.mk data fs).err != 0) = true := by simpa using hz
    generalize (ModV.mk data fs).err = z at *
    generalize (ModV.mk data' fs').err = z' at *
    clear HBS hz HBd HBd'
    go_enter Try.func8, Try.ntmps8
    go_wp2_with (first
      | (go_at_call 10; (with_reducible refine (awake8_any _).mono ?_); rintro e w1 ⟨rfl, hb⟩; have H1 := Lib.hid (HT.out.grow hb); obtain ⟨a0, a1, a2, a3⟩ := H1.out.cells; clear hb)
      | (go_at_call 9; (with_reducible refine (HLg.out w1 H1.out.bel).mono ?_); rintro e w2 ⟨rfl, hb⟩; have H2 := Lib.hid (H1.out.grow hb); obtain ⟨b0, b1, b2, b3⟩ := H2.out.cells; clear hb)
      | (go_at_call 9; (with_reducible refine (HLg'.out w2 H2.out.bel).mono ?_); rintro e w3 ⟨rfl, hb⟩; have H3 := Lib.hid (H2.out.grow hb); obtain ⟨c0, c1, c2, c3⟩ := H3.out.cells; clear hb)
      | (go_at_call 12; (with_reducible refine (HP.out w3 H3.out.bel).mono ?_); rintro e w4 ⟨A4, n4, c4, x4, hn4, hx4, rfl, ho⟩; have H4 := Lib.hid (H3.out.grow ho.bel); obtain ⟨d0, d1, d2, d3⟩ := H4.out.cells; clear ho hn4 hx4)
      | (go_at_call 12; (with_reducible refine (HP'.out w4 H4.out.bel).mono ?_); rintro e w5 ⟨A5, n5, c5, x5, hn5, hx5, rfl, ho⟩; have H5 := Lib.hid (H4.out.grow ho.bel); obtain ⟨e0, e1, e2, e3⟩ := H5.out.cells; clear ho hn5 hx5)
      | (go_at_call 17; (with_reducible refine (HS1.out w5 H5.out.bel).mono ?_); rintro e w6 ⟨rfl, hb⟩; have H6 := Lib.hid (H5.out.grow hb); obtain ⟨f0, f1, f2, f3⟩ := H6.out.cells; clear hb)
      | (go_at_call 17; (with_reducible refine (HS2.out w6 H6.out.bel).mono ?_); rintro e w7 ⟨rfl, hb⟩; have H7 := Lib.hid (H6.out.grow hb); obtain ⟨g0, g1, g2, g3⟩ := H7.out.cells; clear hb)
      | (go_at_call 17; (with_reducible refine (HS3.out w7 H7.out.bel).mono ?_); rintro e w8 ⟨rfl, hb⟩; have H8 := Lib.hid (H7.out.grow hb); clear hb))
    go_ret
    exact ⟨by first | rfl | simp, H8.out.bel⟩
  by_cases hz' : (ModV.mk data' fs').err = 0
  case neg =>
    have hb0 : ((ModV.mk data fs).err != 0) = false := by simpa using hz
    have hb0' : ((ModV.mk data' fs').err != 0) = true := by simpa using hz'
    generalize (ModV.mk data fs).err = z at *
    generalize (ModV.mk data' fs').err = z' at *
    clear HBS hz hz' HBd HBd'
    go_enter Try.func8, Try.ntmps8
    go_wp2_with (first
      | (go_at_call 10; (with_reducible refine (awake8_any _).mono ?_); rintro e w1 ⟨rfl, hb⟩; have H1 := Lib.hid (HT.out.grow hb); obtain ⟨a0, a1, a2, a3⟩ := H1.out.cells; clear hb)
      | (go_at_call 9; (with_reducible refine (HLg.out w1 H1.out.bel).mono ?_); rintro e w2 ⟨rfl, hb⟩; have H2 := Lib.hid (H1.out.grow hb); obtain ⟨b0, b1, b2, b3⟩ := H2.out.cells; clear hb)
      | (go_at_call 9; (with_reducible refine (HLg'.out w2 H2.out.bel).mono ?_); rintro e w3 ⟨rfl, hb⟩; have H3 := Lib.hid (H2.out.grow hb); obtain ⟨c0, c1, c2, c3⟩ := H3.out.cells; clear hb)
      | (go_at_call 12; (with_reducible refine (HP.out w3 H3.out.bel).mono ?_); rintro e w4 ⟨A4, n4, c4, x4, hn4, hx4, rfl, ho⟩; have H4 := Lib.hid (H3.out.grow ho.bel); obtain ⟨d0, d1, d2, d3⟩ := H4.out.cells; clear ho hn4 hx4)
      | (go_at_call 12; (with_reducible refine (HP'.out w4 H4.out.bel).mono ?_); rintro e w5 ⟨A5, n5, c5, x5, hn5, hx5, rfl, ho⟩; have H5 := Lib.hid (H4.out.grow ho.bel); obtain ⟨e0, e1, e2, e3⟩ := H5.out.cells; clear ho hn5 hx5)
      | (go_at_call 17; (with_reducible refine (HS1.out w5 H5.out.bel).mono ?_); rintro e w6 ⟨rfl, hb⟩; have H6 := Lib.hid (H5.out.grow hb); obtain ⟨f0, f1, f2, f3⟩ := H6.out.cells; clear hb)
      | (go_at_call 17; (with_reducible refine (HS2.out w6 H6.out.bel).mono ?_); rintro e w7 ⟨rfl, hb⟩; have H7 := Lib.hid (H6.out.grow hb); obtain ⟨g0, g1, g2, g3⟩ := H7.out.cells; clear hb)
      | (go_at_call 17; (with_reducible refine (HS3.out w7 H7.out.bel).mono ?_); rintro e w8 ⟨rfl, hb⟩; have H8 := Lib.hid (H7.out.grow hb); clear hb))
    go_ret
    exact ⟨by first | rfl | simp, H8.out.bel⟩
  have HQ := Lib.hid (HBS.out hz hz')
  rw [hz] at HP
  rw [hz'] at HP'
  rw [show goodB 0 (ModV.mk data fs).bytes = (ModV.mk data fs).bytes from rfl] at HP
  rw [show goodB 0 (ModV.mk data' fs').bytes = (ModV.mk data' fs').bytes from rfl] at HP'
  generalize (ModV.mk data fs).bytes = mb at *
  generalize (ModV.mk data' fs').bytes = mb' at *
  have HSB : Hid (∀ (X Y : Value) (W : World) (B C : Nat), IsBytes W B X mb → IsBytes W C Y mb' → Calls Try.prog 14 #[X, Y] W fun e w' => e = .returned (.bool s) ∧ W = w') := Lib.hid (fun X Y W B C hX hY => by
    have h := sameBytes_any X Y mb mb' W B C hX hY
    rw [HQ.out] at h
    exact h)
  clear HBS hz hz'
  go_enter Try.func8, Try.ntmps8
  go_wp2_with (first
    | (go_at_call 10; (with_reducible refine (awake8_any _).mono ?_); rintro e w1 ⟨rfl, hb⟩; have H1 := Lib.hid (HT.out.grow hb); obtain ⟨a0, a1, a2, a3⟩ := H1.out.cells; clear hb)
    | (go_at_call 9; (with_reducible refine (HLg.out w1 H1.out.bel).mono ?_); rintro e w2 ⟨rfl, hb⟩; have H2 := Lib.hid (H1.out.grow hb); obtain ⟨b0, b1, b2, b3⟩ := H2.out.cells; clear hb)
    | (go_at_call 9; (with_reducible refine (HLg'.out w2 H2.out.bel).mono ?_); rintro e w3 ⟨rfl, hb⟩; have H3 := Lib.hid (H2.out.grow hb); obtain ⟨c0, c1, c2, c3⟩ := H3.out.cells; clear hb)
    | (go_at_call 12; (with_reducible refine (HP.out w3 H3.out.bel).mono ?_); rintro e w4 ⟨A4, n4, c4, x4, hn4, hx4, rfl, ho⟩; have H4 := Lib.hid (H3.out.grow ho.bel); have HX4 := Lib.hid (named_is hx4.out (outB_is ho (by rw [hx4.out]; exact HBd.out))); obtain ⟨d0, d1, d2, d3⟩ := H4.out.cells; clear ho hn4 hx4)
    | (go_at_call 12; (with_reducible refine (HP'.out w4 H4.out.bel).mono ?_); rintro e w5 ⟨A5, n5, c5, x5, hn5, hx5, rfl, ho⟩; have H5 := Lib.hid (H4.out.grow ho.bel); have HY5 := Lib.hid (named_is hx5.out (outB_is ho (by rw [hx5.out]; exact HBd'.out))); have HX5 := Lib.hid (HX4.out.grow ho.bel); obtain ⟨e0, e1, e2, e3⟩ := H5.out.cells; clear ho hn5 hx5)
    | (go_at_call 17; (with_reducible refine (HS1.out w5 H5.out.bel).mono ?_); rintro e w6 ⟨rfl, hb⟩; have H6 := Lib.hid (H5.out.grow hb); have HX6 := Lib.hid (HX5.out.grow hb); have HY6 := Lib.hid (HY5.out.grow hb); obtain ⟨f0, f1, f2, f3⟩ := H6.out.cells; clear hb)
    | (go_at_call 17; (with_reducible refine (HS2.out w6 H6.out.bel).mono ?_); rintro e w7 ⟨rfl, hb⟩; have H7 := Lib.hid (H6.out.grow hb); have HX7 := Lib.hid (HX6.out.grow hb); have HY7 := Lib.hid (HY6.out.grow hb); obtain ⟨g0, g1, g2, g3⟩ := H7.out.cells; clear hb)
    | (go_at_call 17; (with_reducible refine (HS3.out w7 H7.out.bel).mono ?_); rintro e w8 ⟨rfl, hb⟩; have H8 := Lib.hid (H7.out.grow hb); have HX8 := Lib.hid (HX7.out.grow hb); have HY8 := Lib.hid (HY7.out.grow hb); clear hb)
    | (go_at_call 14; (with_reducible refine (HSB.out _ _ _ _ _ HX8.out HY8.out).mono ?_); rintro e w9 ⟨rfl, rfl⟩))
  go_ret
  exact ⟨by first | rfl | simp, H8.out.bel⟩
end Go.Proofs.Ytimhlbejjbnofaa
