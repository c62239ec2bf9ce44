/- The document's own Join of layer 7. Contract; no condition but that the instructions are few. -/
import Derived.Test.YtobbjphpngckgaaRef07B
namespace Go.Proofs.Ytobbjphpngckgaa
open Go.RowKit Go.Shelf
set_option linter.unusedVariables false
set_option linter.unusedSimpArgs false

set_option maxRecDepth 100000 in
set_option maxHeartbeats 4000000 in
theorem rjoin7_any (V : Value) (l : List InsV) (w : World) (h : IsCode w w.heap.size V l) (hs : l.length ≤ 1000) : Calls Try.prog 13 #[V] w (JoinI w l) := by
  obtain ⟨A, cap, rfl⟩ := h.len
  have HC := Lib.hid h
  have hm := h.1
  unfold maxLen at hm
  obtain ⟨n, hn⟩ : ∃ n, n = l.length := ⟨_, rfl⟩
  have HN := Lib.hid hn
  rw [← hn] at hm HC hs ⊢
  clear h hn
  go_enter Try.func13, Try.ntmps13
  go_wp2
  go_loopw [4, 5] (fun out i wr => ∃ k : Nat, k ≤ n ∧ i = .int .i64 k ∧ Hid (firstE (l.take k) = 0 ∧ (allB (l.take k)).length ≤ 100 * k ∧ OutB w wr out (allB (l.take k)))) (fun _ i _ => n - (intOf i).toNat)
  case atStart => exact ⟨0, by omega, rfl, ⟨rfl, by simp [allB], OutB.nil (Below.refl _ _)⟩⟩
  case round =>
    obtain ⟨k, hk, rfl, HR⟩ := hrel
    obtain ⟨h0, hj, ho⟩ := HR.out
    have H0 := Lib.hid h0
    have HJ := Lib.hid hj
    have HO := Lib.hid ho
    obtain ⟨oA, oc, hoe⟩ := owns_len ho.own
    subst hoe
    clear HR h0 hj ho
    by_cases hlt : k < n
    · have hkl : k < l.length := by rw [← HN.out]; exact hlt
      obtain ⟨b, off, cap', hV, hcp, hbB, hcl⟩ := HC.out.plain (by omega)
      rw [← HN.out] at hV
      cases hV
      obtain ⟨X, hX, hcell⟩ := hcl k hkl
      have hb := HO.out.bel
      have hcl' : ∀ j, j < 6 → wr.cell? ⟨b, off + k * 6 + j, none⟩ = some (insCell (l.getD k .zero) X j) := fun j hj => (hb.cell (p := ⟨b, off + k * 6 + j, none⟩) hbB).trans (hcell j hj)
      have HTK := Lib.hid (code_take l hkl)
      have HST := Lib.hid (fun h => join_stop hkl H0.out h)
      have hin := (code_getD HC.out hkl).n
      obtain ⟨⟨op, a, b1, c, n1, args⟩, hy⟩ : ∃ y, y = l.getD k .zero := ⟨_, rfl⟩
      rw [← hy] at hX hcl' HTK HST hin
      have c0 : wr.cell? ⟨b, off + k * 6, none⟩ = some (.int .i64 op) := hcl' 0 (by omega)
      have c1 : wr.cell? ⟨b, off + k * 6 + 1, none⟩ = some (.int .i64 a) := hcl' 1 (by omega)
      have c2 : wr.cell? ⟨b, off + k * 6 + 2, none⟩ = some (.int .i64 b1) := hcl' 2 (by omega)
      have c3 : wr.cell? ⟨b, off + k * 6 + 3, none⟩ = some (.int .i64 c) := hcl' 3 (by omega)
      have c4 : wr.cell? ⟨b, off + k * 6 + 4, none⟩ = some (.int .i64 n1) := hcl' 4 (by omega)
      have c5 : wr.cell? ⟨b, off + k * 6 + 5, none⟩ = some X := hcl' 5 (by omega)
      have hXw := (hX.below hb (Nat.le_refl _)).more hb.size
      dsimp only at hXw
      have HP := Lib.hid (rput7_any op a b1 c n1 X args _ hXw hin)
      have HOA := HO
      obtain ⟨XA, Xc, rfl⟩ := hX.len
      have k0 : (0 : Int) ≤ (k : Int) := by omega
      have k1 : (k : Int) < (n : Int) := by omega
      clear hcl' hcell hX hXw hy hcl hb hcp hin
      by_cases hz : InsV.chk ⟨op, a, b1, c, n1, args⟩ = 0
      · have HP2 := Lib.hid (HP.out.mono fun e w' hh => hh.resolve_left (fun h => h.1 hz))
        have HF := Lib.hid (show firstE (l.take (k + 1)) = 0 by rw [HTK.out]; exact first_snoc _ _ H0.out hz)
        have HBS := Lib.hid (bytes_short hz)
        have HBP := Lib.hid (bytes_pos ⟨op, a, b1, c, n1, args⟩)
        have HBD := Lib.hid (InsV.bytes_bd ⟨op, a, b1, c, n1, args⟩)
        have HAS := Lib.hid (all_snoc (l.take k) ⟨op, a, b1, c, n1, args⟩)
        rw [← HTK.out] at HAS
        generalize InsV.bytes ⟨op, a, b1, c, n1, args⟩ = ys at *
        clear HP HST hz
        have hk1000 : 100 * k ≤ 100000 := by omega
        go_wp2_with (first
          | (go_at_call 17; (with_reducible refine HP2.out.mono ?_); rintro e w2 ⟨_, v2, rfl, ho⟩; have HO2 := Lib.hid ho; have HO3 := Lib.hid (HOA.out.grow ho.bel); clear ho)
          | (at_builtin; refine wpList_outB rfl _ _ rfl rfl rfl HO3.out HO2.out.own HBD.out HBP.out (by have := HBS.out; have := HJ.out; omega) ?_; intro V6 w6 ho hb; have HO6 := Lib.hid ho; clear ho hb))
        go_roundw
        case rel => exact ⟨k + 1, by omega, by go_num, ⟨HF.out, by rw [HAS.out, List.length_append]; have := HBS.out; have := HJ.out; omega, by rw [HAS.out]; exact HO6.out⟩⟩
        case measure => simp [intOf]; omega
      · have HZ := Lib.hid hz
        have HJE := Lib.hid (HST.out hz)
        have HP2 := Lib.hid (HP.out.mono fun e w' hh => hh.resolve_right (fun h => hz h.1))
        generalize InsV.chk ⟨op, a, b1, c, n1, args⟩ = z at HP2 HJE HZ
        have hne : (z != 0) = true := by simpa using HZ.out
        clear HP HST hz
        go_wp2_with (go_at_call 17; (with_reducible refine HP2.out.mono ?_); rintro e w2 ⟨_, rfl, hb⟩; have HB2 := Lib.hid (HOA.out.bel.trans (hb.mono HOA.out.bel.size)); clear hb)
        go_ret2
        exact join_bad HJE.out HZ.out HB2.out
    · obtain rfl : k = n := by omega
      have htk : l.take k = l := by rw [HN.out]; exact List.take_length
      have hfe := H0.out
      rw [htk] at hfe
      have HFE := Lib.hid hfe
      have HTE := Lib.hid htk
      by_cases hle : (allB (l.take k)).length ≤ 4096
      · have hleI : ¬ (4096 : Int) < ((allB (l.take k)).length : Int) := by omega
        have HL := Lib.hid hle
        clear htk hfe
        go_wp2
        go_ret2
        have hje : joinE l = 0 := by
          unfold joinE
          rw [if_pos HFE.out, if_neg (by have := HL.out; rw [HTE.out] at this; omega)]
        have HOO := HO.out
        generalize Value.slice oA (allB (l.take k)).length oc = V at HOO ⊢
        rw [HTE.out] at HOO
        exact join_good hje HOO
      · have hleI : (4096 : Int) < ((allB (l.take k)).length : Int) := by omega
        have HL : Hid (4096 < (allB l).length) := Lib.hid (by rw [htk] at hle; omega)
        clear htk hfe
        go_wp2
        go_ret2
        refine join_bad ?_ (show (3 : Int) ≠ 0 by decide) HO.out.bel
        unfold joinE
        rw [if_pos HFE.out, if_pos HL.out]
end Go.Proofs.Ytobbjphpngckgaa
