/- What the statements of layer 13 share: long. Contract; no condition but that the module lies in memory. -/
import Derived.Test.YtohlifeenhaifaaGreatDoorS11
namespace Go.Proofs.YtohlifeenhaifaaGreatDoor
open Go.RowKit Go.Shelf
set_option linter.unusedVariables false
set_option linter.unusedSimpArgs false

/-- Is a module more than is gone through? -/
def longA13 (y : InsV) : Bool := decide (20 < y.args.length)
def longF13 (f : FunV) : Bool := f.code.any longA13 || decide (60 < f.code.length)
def longM13 (m : ModV) : Bool := m.funcs.any longF13 || (decide (8 < m.funcs.length) || decide (200 < m.data.length))
theorem long13_few {m : ModV} (h : longM13 m = false) : m.data.length ≤ 200 ∧ m.funcs.length ≤ 8 ∧ ∀ f ∈ m.funcs, f.code.length ≤ 60 ∧ ∀ y ∈ f.code, y.args.length ≤ 20 := by
  unfold longM13 at h
  rw [Bool.or_eq_false_iff, Bool.or_eq_false_iff] at h
  have h1 := of_decide_eq_false h.2.1
  have h2 := of_decide_eq_false h.2.2
  refine ⟨by omega, by omega, fun f hf => ?_⟩
  have h3 := List.any_eq_false.1 h.1 f hf
  have h4 : longF13 f = false := by simpa using h3
  unfold longF13 at h4
  rw [Bool.or_eq_false_iff] at h4
  have h5 := of_decide_eq_false h4.2
  refine ⟨by omega, fun y hy => ?_⟩
  have h6 := List.any_eq_false.1 h4.1 y hy
  have h7 : longA13 y = false := by simpa using h6
  have h8 := of_decide_eq_false h7
  omega
set_option maxRecDepth 100000 in
set_option maxHeartbeats 8000000 in
theorem long13_any (D F : Value) (data : List Int) (fs : List FunV) (w : World) (hD : IsBytes w w.heap.size D data) (hF : IsFuns w w.heap.size F fs) :
    Calls Tryz.prog 8 #[.agg #[D, F]] w (Makes w (.bool (longM13 ⟨data, fs⟩))) := by
  have hB0 : Below w.heap.size w (w.alloc (.cells #[D, F] 25)) := (Below.refl _ w).alloc (Nat.le_refl _) _
  have HF := Lib.hid (hF.below hB0 (Nat.le_refl _) (Nat.le_refl _))
  have hl1 := hF.1
  have hl2 := hD.2.1
  unfold maxLen at hl1 hl2
  have hk0 := heap_alloc_new w (.cells #[D, F] 25)
  obtain ⟨DA, dc, hDe⟩ := hD.len
  obtain ⟨FA, fc, hFe⟩ := hF.len
  subst hDe hFe
  obtain ⟨dn, hdn⟩ : ∃ dn, dn = data.length := ⟨_, rfl⟩
  obtain ⟨n, hn⟩ : ∃ n, n = fs.length := ⟨_, rfl⟩
  have HN := Lib.hid hn
  have HDN := Lib.hid hdn
  have HL3 : Hid (fs.any longF13 = true → longM13 ⟨data, fs⟩ = true) := Lib.hid (fun h => by unfold longM13; rw [h]; rfl)
  have HL4 : Hid (fs.any longF13 = false → longM13 ⟨data, fs⟩ = (decide (8 < n) || decide (200 < dn))) := Lib.hid (fun h3 => by unfold longM13; rw [h3, hn, hdn]; rfl)
  rw [← hdn] at hk0 hB0 HF hl2 ⊢
  rw [← hn] at hk0 hB0 HF hl1 ⊢
  obtain ⟨w0, hw0⟩ : ∃ w0, w0 = w.alloc (.cells #[.slice DA dn dc, .slice FA n fc] 25) := ⟨_, rfl⟩
  rw [← hw0] at hk0 hB0 HF
  obtain ⟨c0, c1⟩ := cells2 hk0
  have HW0 := Lib.hid hw0
  have HB0 := Lib.hid hB0
  clear hD hF hn hdn hk0 hB0 hw0
  have hcc : (w.alloc (.cells #[.slice DA dn dc, .slice FA n fc] 25)).cell? ⟨w.heap.size, 0, none⟩ = some (.slice DA dn dc) ∧ (w.alloc (.cells #[.slice DA dn dc, .slice FA n fc] 25)).cell? ⟨w.heap.size, 1, none⟩ = some (.slice FA n fc) := by rw [← HW0.out]; exact ⟨c0, c1⟩
  obtain ⟨cc0, cc1⟩ := hcc
  go_enter Tryz.func8, Tryz.ntmps8
  go_wp2
  rw [← HW0.out]
  clear cc0 cc1
  go_loopw [3, 4] (fun i j wr => ∃ k : Nat, k ≤ n ∧ i = .int .i64 k ∧ wr = w0 ∧ Hid ((fs.take k).any longF13 = false)) (fun i _ _ => n - (intOf i).toNat)
  case atStart => exact ⟨0, by omega, rfl, rfl, rfl⟩
  case round =>
    obtain ⟨k, hk, rfl, rfl, HA⟩ := hrel
    by_cases hlt : k < n
    · have hkl : k < fs.length := by rw [← HN.out]; exact hlt
      obtain ⟨b, off, cap', hV, hcp, hbB, hcl⟩ := HF.out.plain (by omega)
      rw [← HN.out] at hV
      cases hV
      obtain ⟨C, hC, hcell⟩ := hcl k hkl
      have HTK := Lib.hid (funs_take fs hkl)
      obtain ⟨⟨p, r, a, l⟩, hy⟩ : ∃ y, y = fs.getD k .zero := ⟨_, rfl⟩
      rw [← hy] at hC hcell HTK
      dsimp only at hC
      have hmem : (⟨p, r, a, l⟩ : FunV) ∈ fs := by rw [hy]; simp [List.getD, List.getElem?_eq_getElem hkl]
      have f3 : wr.cell? ⟨b, off + k * 4 + 3, none⟩ = some C := hcell 3 (by omega)
      have k0 : (0 : Int) ≤ (k : Int) := by omega
      have k1 : (k : Int) < (n : Int) := by omega
      have hll := hC.1
      unfold maxLen at hll
      obtain ⟨CA, Cc, hCe⟩ := hC.len
      subst hCe
      obtain ⟨q, hq⟩ : ∃ q, q = l.length := ⟨_, rfl⟩
      have HQ := Lib.hid hq
      have HCo := Lib.hid hC
      rw [← hq] at hC f3 HCo hll
      have HLF : Hid (longF13 ⟨p, r, a, l⟩ = true → longM13 ⟨data, fs⟩ = true) := Lib.hid (fun h => HL3.out (List.any_eq_true.2 ⟨_, hmem, h⟩))
      clear hcell hC hy hcl hcp hmem hq
      go_wp2
      go_loopw [4] (fun j wr2 => ∃ t : Nat, t ≤ q ∧ j = .int .i64 t ∧ wr2 = wr ∧ Hid ((l.take t).any longA13 = false)) (fun j _ => q - (intOf j).toNat)
      case atStart => exact ⟨0, by omega, rfl, rfl, rfl⟩
      case round =>
        obtain ⟨t, ht, rfl, rfl, HT⟩ := hrel
        by_cases hlt2 : t < q
        · have htl : t < l.length := by rw [← HQ.out]; exact hlt2
          obtain ⟨b2, off2, cap2, hV2, hcp2, hbB2, hcl2⟩ := HCo.out.plain (by omega)
          rw [← HQ.out] at hV2
          cases hV2
          obtain ⟨X, hX, hcell2⟩ := hcl2 t htl
          have g5 := hcell2 5 (by omega)
          have HTT := Lib.hid (code_take l htl)
          obtain ⟨y, hy⟩ : ∃ y, y = l.getD t .zero := ⟨_, rfl⟩
          rw [← hy] at hX g5 HTT
          have hmem : y ∈ l := by rw [hy]; simp [List.getD, List.getElem?_eq_getElem htl]
          have g5' : wr.cell? ⟨b2, off2 + t * 6 + 5, none⟩ = some X := g5
          obtain ⟨XA, xc, hXe⟩ := hX.len
          subst hXe
          have hxl := hX.1
          unfold maxLen at hxl
          have t0 : (0 : Int) ≤ (t : Int) := by omega
          have t1 : (t : Int) < (q : Int) := by omega
          have HMm := Lib.hid hmem
          clear hcell2 hX hy hcl2 hcp2 hmem g5
          by_cases h20 : 20 < y.args.length
          · have h20I : (20 : Int) < (y.args.length : Int) := by omega
            have HR := Lib.hid (HLF.out (by unfold longF13; rw [List.any_eq_true.2 ⟨y, HMm.out, decide_eq_true h20⟩]; simp))
            clear h20
            go_wp2
            go_ret
            exact ⟨ret_bool HR.out.symm, HB0.out⟩
          · have h20I : ¬ (20 : Int) < (y.args.length : Int) := by omega
            have HS : Hid ((l.take (t + 1)).any longA13 = false) := Lib.hid (by rw [HTT.out, List.any_append, HT.out]; simpa [longA13] using h20)
            clear h20
            go_wp2
            go_roundw
            case rel => exact ⟨t + 1, by omega, by go_num, by first | rfl | trivial, HS⟩
            case measure => simp [intOf]; omega
        · obtain rfl : t = q := by omega
          have HTA : Hid (l.any longA13 = false) := Lib.hid (by
            have h1 := HT.out
            have h2 : l.take t = l := by rw [HQ.out]; exact List.take_length
            rw [h2] at h1
            exact h1)
          by_cases h60 : 60 < t
          · have h60I : (60 : Int) < (t : Int) := by omega
            have HR := Lib.hid (HLF.out (by unfold longF13; rw [decide_eq_true (show 60 < l.length by rw [← HQ.out]; exact h60)]; simp))
            clear h60
            go_wp2
            go_ret
            exact ⟨ret_bool HR.out.symm, HB0.out⟩
          · have h60I : ¬ (60 : Int) < (t : Int) := by omega
            have HS : Hid ((fs.take (k + 1)).any longF13 = false) := Lib.hid (by
              rw [HTK.out, List.any_append, HA.out]
              have h3 : longF13 ⟨p, r, a, l⟩ = false := by
                unfold longF13
                rw [HTA.out, decide_eq_false (show ¬ 60 < l.length by rw [← HQ.out]; exact h60)]
                rfl
              simp [h3])
            clear h60
            go_wp2
            go_roundw
            case rel => exact ⟨k + 1, by omega, by go_num, by first | rfl | trivial, HS⟩
            case measure => simp [intOf]; omega
    · obtain rfl : k = n := by omega
      have HS := Lib.hid (HL4.out (by
        have h1 := HA.out
        rw [show fs.take k = fs by rw [HN.out]; exact List.take_length] at h1
        exact h1))
      by_cases h8 : 8 < k
      · have h8I : (8 : Int) < (k : Int) := by omega
        have HR : Hid (longM13 ⟨data, fs⟩ = true) := Lib.hid (by rw [HS.out, decide_eq_true h8]; rfl)
        clear h8
        go_wp2
        go_ret
        exact ⟨ret_bool HR.out.symm, HB0.out⟩
      · have h8I : ¬ (8 : Int) < (k : Int) := by omega
        by_cases hd : 200 < dn
        · have hdI : (200 : Int) < (dn : Int) := by omega
          have HR : Hid (longM13 ⟨data, fs⟩ = true) := Lib.hid (by rw [HS.out, decide_eq_true hd]; simp)
          clear h8 hd
          go_wp2
          go_ret
          exact ⟨ret_bool HR.out.symm, HB0.out⟩
        · have hdI : ¬ (200 : Int) < (dn : Int) := by omega
          have HR : Hid (longM13 ⟨data, fs⟩ = false) := Lib.hid (by rw [HS.out, decide_eq_false h8, decide_eq_false hd]; rfl)
          clear h8 hd
          go_wp2
          go_ret
          exact ⟨ret_bool HR.out.symm, HB0.out⟩
end Go.Proofs.YtohlifeenhaifaaGreatDoor
