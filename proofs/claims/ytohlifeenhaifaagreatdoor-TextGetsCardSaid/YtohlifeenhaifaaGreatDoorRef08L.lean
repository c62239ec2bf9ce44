/- The document's own Check of a module, for longer code. Contracts; no condition but that they lie in memory. -/
import Derived.Test.YtohlifeenhaifaaGreatDoorRef08A
namespace Go.Proofs.YtohlifeenhaifaaGreatDoor
open Go.RowKit Go.Shelf
set_option linter.unusedVariables false
set_option linter.unusedSimpArgs false
set_option maxRecDepth 100000 in
set_option maxHeartbeats 4000000 in
theorem rjoin7_big (V : Value) (l : List InsV) (w : World) (h : IsCode w w.heap.size V l) (hs : l.length ≤ 5000) : Calls Tryz.prog 85 #[V] w (JoinI w l) := by
  obtain ⟨A, cap, rfl⟩ := h.len
  have HC := Lib.hid h
  have hm := h.1
  unfold maxLen at hm
  obtain ⟨n, hn⟩ : ∃ n, n = l.length := ⟨_, rfl⟩
  have HN := Lib.hid hn
  rw [← hn] at hm HC hs ⊢
  clear h hn
  go_enter Tryz.func85, Tryz.ntmps85
  go_wp2
  go_loopw [4, 5] (fun out i wr => ∃ k : Nat, k ≤ n ∧ i = .int .i64 k ∧ Hid (firstE (l.take k) = 0 ∧ (allB (l.take k)).length ≤ 100 * k ∧ OutB w wr out (allB (l.take k)))) (fun _ i _ => n - (intOf i).toNat)
  case atStart => exact ⟨0, by omega, rfl, ⟨rfl, by simp [allB], OutB.nil (Below.refl _ _)⟩⟩
  case round =>
    obtain ⟨k, hk, rfl, HR⟩ := hrel
    obtain ⟨h0, hj, ho⟩ := HR.out
    have H0 := Lib.hid h0
    have HJ := Lib.hid hj
    have HO := Lib.hid ho
    obtain ⟨oA, oc, hoe⟩ := owns_len ho.own
    subst hoe
    clear HR h0 hj ho
    by_cases hlt : k < n
    · have hkl : k < l.length := by rw [← HN.out]; exact hlt
      obtain ⟨b, off, cap', hV, hcp, hbB, hcl⟩ := HC.out.plain (by omega)
      rw [← HN.out] at hV
      cases hV
      obtain ⟨X, hX, hcell⟩ := hcl k hkl
      have hb := HO.out.bel
      have hcl' : ∀ j, j < 6 → wr.cell? ⟨b, off + k * 6 + j, none⟩ = some (insCell (l.getD k .zero) X j) := fun j hj => (hb.cell (p := ⟨b, off + k * 6 + j, none⟩) hbB).trans (hcell j hj)
      have HTK := Lib.hid (code_take l hkl)
      have HST := Lib.hid (fun h => join_stop hkl H0.out h)
      have hin := (code_getD HC.out hkl).n
      obtain ⟨⟨op, a, b1, c, n1, args⟩, hy⟩ : ∃ y, y = l.getD k .zero := ⟨_, rfl⟩
      rw [← hy] at hX hcl' HTK HST hin
      have c0 : wr.cell? ⟨b, off + k * 6, none⟩ = some (.int .i64 op) := hcl' 0 (by omega)
      have c1 : wr.cell? ⟨b, off + k * 6 + 1, none⟩ = some (.int .i64 a) := hcl' 1 (by omega)
      have c2 : wr.cell? ⟨b, off + k * 6 + 2, none⟩ = some (.int .i64 b1) := hcl' 2 (by omega)
      have c3 : wr.cell? ⟨b, off + k * 6 + 3, none⟩ = some (.int .i64 c) := hcl' 3 (by omega)
      have c4 : wr.cell? ⟨b, off + k * 6 + 4, none⟩ = some (.int .i64 n1) := hcl' 4 (by omega)
      have c5 : wr.cell? ⟨b, off + k * 6 + 5, none⟩ = some X := hcl' 5 (by omega)
      have hXw := (hX.below hb (Nat.le_refl _)).more hb.size
      dsimp only at hXw
      have HP := Lib.hid (rput7_any op a b1 c n1 X args _ hXw hin)
      have HOA := HO
      obtain ⟨XA, Xc, rfl⟩ := hX.len
      have k0 : (0 : Int) ≤ (k : Int) := by omega
      have k1 : (k : Int) < (n : Int) := by omega
      clear hcl' hcell hX hXw hy hcl hb hcp hin
      by_cases hz : InsV.chk ⟨op, a, b1, c, n1, args⟩ = 0
      · have HP2 := Lib.hid (HP.out.mono fun e w' hh => hh.resolve_left (fun h => h.1 hz))
        have HF := Lib.hid (show firstE (l.take (k + 1)) = 0 by rw [HTK.out]; exact first_snoc _ _ H0.out hz)
        have HBS := Lib.hid (bytes_short hz)
        have HBP := Lib.hid (bytes_pos ⟨op, a, b1, c, n1, args⟩)
        have HBD := Lib.hid (InsV.bytes_bd ⟨op, a, b1, c, n1, args⟩)
        have HAS := Lib.hid (all_snoc (l.take k) ⟨op, a, b1, c, n1, args⟩)
        rw [← HTK.out] at HAS
        generalize InsV.bytes ⟨op, a, b1, c, n1, args⟩ = ys at *
        clear HP HST hz
        have hk1000 : 100 * k ≤ 500000 := by omega
        go_wp2_with (first
          | (go_at_call 107; (with_reducible refine HP2.out.mono ?_); rintro e w2 ⟨_, v2, rfl, ho⟩; have HO2 := Lib.hid ho; have HO3 := Lib.hid (HOA.out.grow ho.bel); clear ho)
          | (at_builtin; refine wpList_outB rfl _ _ rfl rfl rfl HO3.out HO2.out.own HBD.out HBP.out (by have := HBS.out; have := HJ.out; omega) ?_; intro V6 w6 ho hb; have HO6 := Lib.hid ho; clear ho hb))
        go_roundw
        case rel => exact ⟨k + 1, by omega, by go_num, ⟨HF.out, by rw [HAS.out, List.length_append]; have := HBS.out; have := HJ.out; omega, by rw [HAS.out]; exact HO6.out⟩⟩
        case measure => simp [intOf]; omega
      · have HZ := Lib.hid hz
        have HJE := Lib.hid (HST.out hz)
        have HP2 := Lib.hid (HP.out.mono fun e w' hh => hh.resolve_right (fun h => hz h.1))
        generalize InsV.chk ⟨op, a, b1, c, n1, args⟩ = z at HP2 HJE HZ
        have hne : (z != 0) = true := by simpa using HZ.out
        clear HP HST hz
        go_wp2_with (go_at_call 107; (with_reducible refine HP2.out.mono ?_); rintro e w2 ⟨_, rfl, hb⟩; have HB2 := Lib.hid (HOA.out.bel.trans (hb.mono HOA.out.bel.size)); clear hb)
        go_ret2
        exact join_bad HJE.out HZ.out HB2.out
    · obtain rfl : k = n := by omega
      have htk : l.take k = l := by rw [HN.out]; exact List.take_length
      have hfe := H0.out
      rw [htk] at hfe
      have HFE := Lib.hid hfe
      have HTE := Lib.hid htk
      by_cases hle : (allB (l.take k)).length ≤ 4096
      · have hleI : ¬ (4096 : Int) < ((allB (l.take k)).length : Int) := by omega
        have HL := Lib.hid hle
        clear htk hfe
        go_wp2
        go_ret2
        have hje : joinE l = 0 := by
          unfold joinE
          rw [if_pos HFE.out, if_neg (by have := HL.out; rw [HTE.out] at this; omega)]
        have HOO := HO.out
        generalize Value.slice oA (allB (l.take k)).length oc = V at HOO ⊢
        rw [HTE.out] at HOO
        exact join_good hje HOO
      · have hleI : (4096 : Int) < ((allB (l.take k)).length : Int) := by omega
        have HL : Hid (4096 < (allB l).length) := Lib.hid (by rw [htk] at hle; omega)
        clear htk hfe
        go_wp2
        go_ret2
        refine join_bad ?_ (show (3 : Int) ≠ 0 by decide) HO.out.bel
        unfold joinE
        rw [if_pos HFE.out, if_pos HL.out]
set_option maxRecDepth 100000 in
set_option maxHeartbeats 4000000 in
theorem rfun8_big (p r a : Int) (C : Value) (l : List InsV) (w : World) (h : IsCode w w.heap.size C l) (hs : l.length ≤ 5000) :
    Calls Tryz.prog 51 #[.agg #[.int .i64 p, .int .i64 r, .int .i64 a, C]] w (Makes w (.int .i64 (FunV.err ⟨p, r, a, l⟩))) := by
  have HCw := Lib.hid (fun W (hb : Below w.heap.size w W) => h.grow hb)
  have HJ := Lib.hid (fun W (hb : Below w.heap.size w W) => rjoin7_big C l W (h.grow hb) hs)
  have hm := h.1
  unfold maxLen at hm
  obtain ⟨A, cap, hCe⟩ := h.len
  subst hCe
  have hB0 : Below w.heap.size w (w.alloc (.cells #[.int .i64 p, .int .i64 r, .int .i64 a, .slice A l.length cap] 53)) := (Below.refl _ w).alloc (Nat.le_refl _) _
  have HB0 := Lib.hid hB0
  have hk0 := heap_alloc_new w (.cells #[.int .i64 p, .int .i64 r, .int .i64 a, .slice A l.length cap] 53)
  have HK0 := Lib.hid hk0
  obtain ⟨c0, c1, c2, c3⟩ := cells4 hk0
  clear hB0 hk0 h
  cases hf : framedV p r a
  · have HE := Lib.hid (ferr_frame (l := l) hf)
    have hn : p < 0 ∨ 8 < p ∨ r < p ∨ 64 < r ∨ a < 0 ∨ 4096 < a := by
      unfold framedV at hf
      have := of_decide_eq_false hf
      omega
    clear hf
    by_cases g0 : p < 0
    · clear hn
      go_enter Tryz.func51, Tryz.ntmps51
      go_wp2
      go_ret
      exact ⟨ret_int HE.out.symm, HB0.out⟩
    by_cases g1 : 8 < p
    · clear hn
      go_enter Tryz.func51, Tryz.ntmps51
      go_wp2
      go_ret
      exact ⟨ret_int HE.out.symm, HB0.out⟩
    by_cases g2 : r < p
    · clear hn
      go_enter Tryz.func51, Tryz.ntmps51
      go_wp2
      go_ret
      exact ⟨ret_int HE.out.symm, HB0.out⟩
    by_cases g3 : 64 < r
    · clear hn
      go_enter Tryz.func51, Tryz.ntmps51
      go_wp2
      go_ret
      exact ⟨ret_int HE.out.symm, HB0.out⟩
    by_cases g4 : a < 0
    · clear hn
      go_enter Tryz.func51, Tryz.ntmps51
      go_wp2
      go_ret
      exact ⟨ret_int HE.out.symm, HB0.out⟩
    have g5 : 4096 < a := by omega
    clear hn
    go_enter Tryz.func51, Tryz.ntmps51
    go_wp2
    go_ret
    exact ⟨ret_int HE.out.symm, HB0.out⟩
  have hn : 0 ≤ p ∧ p ≤ 8 ∧ p ≤ r ∧ r ≤ 64 ∧ 0 ≤ a ∧ a ≤ 4096 := by
    unfold framedV at hf
    have := of_decide_eq_true hf
    omega
  obtain ⟨g0, g1, g2, g3, g4, g5⟩ := hn
  by_cases hj : joinE l = 0
  case neg =>
    have HE := Lib.hid (ferr_join hf hj)
    have HJ2 := Lib.hid (fun W hb => (HJ.out W hb).mono fun e w' hh => hh.resolve_right (fun h => hj h.1))
    generalize joinE l = z at HJ2 HE hj
    have hne : (z != 0) = true := by simpa using hj
    clear hf hj HJ
    go_enter Tryz.func51, Tryz.ntmps51
    go_wp2_with (go_at_call 85; (with_reducible refine (HJ2.out _ HB0.out).mono ?_); rintro e w2 ⟨_, rfl, hb⟩; have HB2 := Lib.hid (HB0.out.trans (hb.mono HB0.out.size)); clear hb)
    go_ret
    exact ⟨ret_int HE.out.symm, HB2.out⟩
  have HE := Lib.hid (ferr_code hf hj)
  have HJ2 := Lib.hid (fun W hb => (HJ.out W hb).mono fun e w' hh => (hh.resolve_left (fun h => h.1 hj)).2)
  clear hf hj HJ
  obtain ⟨n, hn⟩ : ∃ n, n = l.length := ⟨_, rfl⟩
  have HN := Lib.hid hn
  rw [← hn] at hm HCw HJ2 HK0 HB0 c0 c1 c2 c3 ⊢
  clear hn hs
  go_enter Tryz.func51, Tryz.ntmps51
  go_wp2_with (go_at_call 85; (with_reducible refine (HJ2.out _ HB0.out).mono ?_); rintro e w2 ⟨v2, rfl, ho⟩; have HB2 := Lib.hid (HB0.out.trans (ho.bel.mono HB0.out.size)); have HK2 := Lib.hid (box_below HK0.out ho.bel); obtain ⟨oA, oc, hoe⟩ := owns_len ho.own; subst hoe; clear ho)
  clear c0 c1 c2 c3
  go_loopw [5] (fun i wr => ∃ k : Nat, k ≤ n ∧ i = .int .i64 k ∧ Hid (firstC r a (l.take k) = 0 ∧ Below w2.heap.size w2 wr)) (fun i _ => n - (intOf i).toNat)
  case atStart => exact ⟨0, by omega, rfl, ⟨rfl, Below.refl _ _⟩⟩
  case round =>
    obtain ⟨k, hk, rfl, HR⟩ := hrel
    obtain ⟨h0, hb⟩ := HR.out
    have H0 := Lib.hid h0
    have HBr := Lib.hid hb
    obtain ⟨d0, d1, d2, d3⟩ := cells4 (box_below HK2.out hb)
    clear HR h0 hb
    by_cases hlt : k < n
    · have hkl : k < l.length := by rw [← HN.out]; exact hlt
      have hbw := HB2.out.trans (HBr.out.mono HB2.out.size)
      have hcn := (code_getD (HCw.out _ hbw) hkl).n
      obtain ⟨b, off, cap', hV, hcp, hbB, hcl⟩ := (HCw.out _ hbw).plain (by omega)
      rw [← HN.out] at hV
      cases hV
      obtain ⟨X, hX, hcell⟩ := hcl k hkl
      have HTK := Lib.hid (code_take l hkl)
      have HST := Lib.hid (fun h => first_at8 (r := r) (a := a) l hkl H0.out h)
      obtain ⟨⟨op, a', b1, c, n1, args⟩, hy⟩ : ∃ y, y = l.getD k .zero := ⟨_, rfl⟩
      rw [← hy] at hX hcell HTK HST hcn
      dsimp only at hcn hX
      have f0 : wr.cell? ⟨b, off + k * 6, none⟩ = some (.int .i64 op) := hcell 0 (by omega)
      have f1 : wr.cell? ⟨b, off + k * 6 + 1, none⟩ = some (.int .i64 a') := hcell 1 (by omega)
      have f2 : wr.cell? ⟨b, off + k * 6 + 2, none⟩ = some (.int .i64 b1) := hcell 2 (by omega)
      have f3 : wr.cell? ⟨b, off + k * 6 + 3, none⟩ = some (.int .i64 c) := hcell 3 (by omega)
      have f4 : wr.cell? ⟨b, off + k * 6 + 4, none⟩ = some (.int .i64 n1) := hcell 4 (by omega)
      have f5 : wr.cell? ⟨b, off + k * 6 + 5, none⟩ = some X := hcell 5 (by omega)
      have HCk := Lib.hid (rcheck_any op a' b1 c n1 X args r a (wr.drewN 1) (nums_drew hX))
      rw [← check_same op a' b1 c n1 args r a hcn] at HCk
      obtain ⟨XA, Xc, rfl⟩ := hX.len
      have k0 : (0 : Int) ≤ (k : Int) := by omega
      have k1 : (k : Int) < (n : Int) := by omega
      clear hcell hX hy hcl hcp hbw hcn
      by_cases hz : InsV.err ⟨op, a', b1, c, n1, args⟩ r a = 0
      · have hz' : checkV op a' b1 c n1 args r a = 0 := hz
        rw [hz'] at HCk
        have HFs := Lib.hid (show firstC r a (l.take (k + 1)) = 0 by rw [HTK.out]; exact first_snoc8 _ _ H0.out hz)
        clear hz hz' HST
        go_wp2
        go_still_tail 9, (by kernel_rfl)
        go_wp2_with (go_at_call 86; refine HCk.out.mono ?_; rintro e w3 ⟨rfl, hb⟩; have HB3 := Lib.hid ((below_drewN HBr.out 1).trans (hb.mono (by have := HBr.out.size; exact this))); clear hb)
        go_roundw
        case rel => exact ⟨k + 1, by omega, by go_num, ⟨HFs.out, HB3.out⟩⟩
        case measure => simp [intOf]; omega
      · have HZ := Lib.hid hz
        have HFe := Lib.hid (HE.out.trans (HST.out hz))
        have hzv : InsV.err ⟨op, a', b1, c, n1, args⟩ r a = checkV op a' b1 c n1 args r a := rfl
        rw [hzv] at HFe HZ hz
        generalize checkV op a' b1 c n1 args r a = z at HCk HFe HZ hz
        have hne : (z != 0) = true := by simpa using hz
        clear hz hzv HST
        go_wp2
        go_still_tail 9, (by kernel_rfl)
        go_wp2_with (go_at_call 86; refine HCk.out.mono ?_; rintro e w3 ⟨rfl, hb⟩; have HB3 := Lib.hid ((below_drewN HBr.out 1).trans (hb.mono (by have := HBr.out.size; exact this))); clear hb)
        go_ret
        exact ⟨ret_int HFe.out.symm, HB2.out.trans (HB3.out.mono HB2.out.size)⟩
    · obtain rfl : k = n := by omega
      have htk : l.take k = l := by rw [HN.out]; exact List.take_length
      have hfe := H0.out
      rw [htk] at hfe
      have HFe := Lib.hid (HE.out.trans hfe)
      clear htk hfe
      go_wp2
      go_ret
      exact ⟨ret_int HFe.out.symm, HB2.out.trans (HBr.out.mono HB2.out.size)⟩
set_option maxRecDepth 100000 in
set_option maxHeartbeats 4000000 in
theorem rcheck8_big (D F : Value) (data : List Int) (fs : List FunV) (w : World) (hD : IsBytes w w.heap.size D data) (hF : IsFuns w w.heap.size F fs) (hs : ∀ f ∈ fs, f.code.length ≤ 5000) :
    Calls Tryz.prog 27 #[.agg #[D, F]] w (Makes w (.int .i64 (ModV.err ⟨data, fs⟩))) := by
  have HFw := Lib.hid (fun W (hb : Below w.heap.size w W) => hF.grow hb)
  have HFs := Lib.hid hs
  have hm := hF.1
  unfold maxLen at hm
  have hmD := hD.2.1
  unfold maxLen at hmD
  obtain ⟨DA, dc, hDe⟩ := hD.len
  obtain ⟨A, cap, hFe⟩ := hF.len
  subst hDe hFe
  obtain ⟨n, hn⟩ : ∃ n, n = fs.length := ⟨_, rfl⟩
  have HN := Lib.hid hn
  rw [← hn] at hm HFw ⊢
  have hB0 : Below w.heap.size w (w.alloc (.cells #[.slice DA data.length dc, .slice A n cap] 25)) := (Below.refl _ w).alloc (Nat.le_refl _) _
  have HB0 := Lib.hid hB0
  have hk0 := heap_alloc_new w (.cells #[.slice DA data.length dc, .slice A n cap] 25)
  have HK0 := Lib.hid hk0
  obtain ⟨c0, c1⟩ := cells2 hk0
  clear hB0 hk0 hD hF hs
  by_cases h1 : 8192 < data.length
  · have HE := Lib.hid (merr_data (fs := fs) h1)
    have h1I : (8192 : Int) < (data.length : Int) := by omega
    clear h1 hn
    go_enter Tryz.func27, Tryz.ntmps27
    go_wp2
    go_ret
    exact ⟨ret_int HE.out.symm, HB0.out⟩
  have h1I : ¬ (8192 : Int) < (data.length : Int) := by omega
  cases h2 : someV fs.length
  · have HE := Lib.hid (merr_some h1 h2)
    have h3 : n < 1 ∨ 64 < n := by
      unfold someV at h2
      have := of_decide_eq_false h2
      omega
    clear h1 h2 hn
    by_cases h4 : (n : Int) < 1
    · clear h3
      go_enter Tryz.func27, Tryz.ntmps27
      go_wp2
      go_ret
      exact ⟨ret_int HE.out.symm, HB0.out⟩
    · have h5 : (64 : Int) < (n : Int) := by omega
      clear h3
      go_enter Tryz.func27, Tryz.ntmps27
      go_wp2
      go_ret
      exact ⟨ret_int HE.out.symm, HB0.out⟩
  have HE := Lib.hid (merr_funs h1 h2)
  have h3 : 1 ≤ n ∧ n ≤ 64 := by
    unfold someV at h2
    have := of_decide_eq_true h2
    omega
  have h4 : ¬ (n : Int) < 1 := by omega
  have h5 : ¬ (64 : Int) < (n : Int) := by omega
  clear h1 h2 h3 hn
  go_enter Tryz.func27, Tryz.ntmps27
  go_wp2
  clear c0 c1
  go_loopw [3] (fun i wr => ∃ k : Nat, k ≤ n ∧ i = .int .i64 k ∧ Hid (firstF (fs.take k) = 0 ∧ Below (w.heap.size + 1) (w.alloc (.cells #[.slice DA data.length dc, .slice A n cap] 25)) wr)) (fun i _ => n - (intOf i).toNat)
  case atStart => exact ⟨0, by omega, rfl, ⟨rfl, Below.refl _ _⟩⟩
  case round =>
    obtain ⟨k, hk, rfl, HR⟩ := hrel
    obtain ⟨h0, hb⟩ := HR.out
    have H0 := Lib.hid h0
    have HBr := Lib.hid (HB0.out.trans (hb.mono (Nat.le_succ _)))
    have HBk := Lib.hid hb
    have hkr := (hb.block w.heap.size (Nat.lt_succ_self _)).trans HK0.out
    obtain ⟨d0, d1⟩ := cells2 hkr
    clear HR h0 hb hkr
    by_cases hlt : k < n
    · have hkl : k < fs.length := by rw [← HN.out]; exact hlt
      have hin := funs_getD (HFw.out _ HBr.out) hkl
      obtain ⟨b, off, cap', hV, hcp, hbB, hcl⟩ := (HFw.out _ HBr.out).plain (by omega)
      rw [← HN.out] at hV
      cases hV
      obtain ⟨C, hC, hcell⟩ := hcl k hkl
      have HTK := Lib.hid (funs_take fs hkl)
      have HST := Lib.hid (fun h => firstF_at fs hkl H0.out h)
      have hfew := HFs.out (fs.getD k .zero) (by simp [List.getD, List.getElem?_eq_getElem hkl])
      obtain ⟨⟨p, r, a, c⟩, hy⟩ : ∃ y, y = fs.getD k .zero := ⟨_, rfl⟩
      rw [← hy] at hC hcell HTK HST hfew
      dsimp only at hC hfew
      have f0 : wr.cell? ⟨b, off + k * 4, none⟩ = some (.int .i64 p) := hcell 0 (by omega)
      have f1 : wr.cell? ⟨b, off + k * 4 + 1, none⟩ = some (.int .i64 r) := hcell 1 (by omega)
      have f2 : wr.cell? ⟨b, off + k * 4 + 2, none⟩ = some (.int .i64 a) := hcell 2 (by omega)
      have f3 : wr.cell? ⟨b, off + k * 4 + 3, none⟩ = some C := hcell 3 (by omega)
      have HCk := Lib.hid (rfun8_big p r a C c wr hC hfew)
      obtain ⟨CA, Cc, rfl⟩ := hC.len
      have k0 : (0 : Int) ≤ (k : Int) := by omega
      have k1 : (k : Int) < (n : Int) := by omega
      clear hcell hC hy hcl hcp hin hfew
      by_cases hz : FunV.err ⟨p, r, a, c⟩ = 0
      · rw [hz] at HCk
        have HFt := Lib.hid (show firstF (fs.take (k + 1)) = 0 by rw [HTK.out]; exact firstF_snoc _ _ H0.out hz)
        clear hz HST
        go_wp2_with (go_at_call 51; (with_reducible refine HCk.out.mono ?_); rintro e w3 ⟨rfl, hb⟩; have HB3 := Lib.hid (HBk.out.trans (hb.mono (by have := HBk.out.size; simp at this; omega))); clear hb)
        go_roundw
        case rel => exact ⟨k + 1, by omega, by go_num, ⟨HFt.out, HB3.out⟩⟩
        case measure => simp [intOf]; omega
      · have HFe := Lib.hid (HE.out.trans (HST.out hz))
        generalize FunV.err ⟨p, r, a, c⟩ = z at HCk HFe hz
        have hne : (z != 0) = true := by simpa using hz
        clear hz HST
        go_wp2_with (go_at_call 51; (with_reducible refine HCk.out.mono ?_); rintro e w3 ⟨rfl, hb⟩; have HB3 := Lib.hid (HBr.out.trans (hb.mono HBr.out.size)); clear hb)
        go_ret
        exact ⟨ret_int HFe.out.symm, HB3.out⟩
    · obtain rfl : k = n := by omega
      have htk : fs.take k = fs := by rw [HN.out]; exact List.take_length
      have hfe := H0.out
      rw [htk] at hfe
      have HFe := Lib.hid (HE.out.trans hfe)
      clear htk hfe
      go_wp2
      go_ret
      exact ⟨ret_int HFe.out.symm, HBr.out⟩
end Go.Proofs.YtohlifeenhaifaaGreatDoor
