/- The document's own layer 8: a number as two bytes, why a function may not be, why a module may not be. Contracts; no condition but that what is handed in lies in memory, and that the functions' instructions are few. -/
import Derived.Test.YtohlifeenhaifaaGreatDoorS10
import Derived.Test.YtohlifeenhaifaaGreatDoorS14
import Derived.Test.YtohlifeenhaifaaGreatDoorS05
import Derived.StillTailTactics
namespace Go.Proofs.YtohlifeenhaifaaGreatDoor
open Go.RowKit Go.Shelf
set_option linter.unusedVariables false
set_option linter.unusedSimpArgs false

theorem bytesV_two (n : Int) (h0 : 0 ≤ n) : bytesV n 2 = [n % 256, n / 256 % 256] := by
  simp [bytesV, byteV, List.range, List.range.loop]
theorem outB_two {w W : World} {x y : Int} (h : Below w.heap.size w W) (hx : 0 ≤ x ∧ x < 256) (hy : 0 ≤ y ∧ y < 256) : OutB w (W.alloc (.cells #[.int .u8 x, .int .u8 y] 5)) (.slice (some ⟨W.heap.size, 0, none⟩) 2 2) [x, y] := by
  refine ⟨⟨⟨by simp, .inr ⟨W.heap.size, 2, _, rfl, h.size, heap_alloc_new W _, Nat.le_refl _, by unfold maxLen; decide, rfl, rfl⟩⟩, fun g cur t fr hg hc => ?_⟩, h.alloc h.size _⟩
  simp [Value.ownBlock] at hg
  subst hg
  rw [heap_alloc_new] at hc
  injection hc with hc
  injection hc with hc _ _
  subst hc
  intro u hu
  simp at hu
  rcases hu with rfl | rfl
  · exact ⟨x, hx.1, hx.2, rfl⟩
  · exact ⟨y, hy.1, hy.2, rfl⟩
set_option maxRecDepth 100000 in
set_option maxHeartbeats 4000000 in
theorem rfun8_any (p r a : Int) (C : Value) (l : List InsV) (w : World) (h : IsCode w w.heap.size C l) (hs : l.length ≤ 1000) :
    Calls Tryz.prog 51 #[.agg #[.int .i64 p, .int .i64 r, .int .i64 a, C]] w (Makes w (.int .i64 (FunV.err ⟨p, r, a, l⟩))) := by
  have HCw := Lib.hid (fun W (hb : Below w.heap.size w W) => h.grow hb)
  have HJ := Lib.hid (fun W (hb : Below w.heap.size w W) => rjoin7_any C l W (h.grow hb) hs)
  have hm := h.1
  unfold maxLen at hm
  obtain ⟨A, cap, hCe⟩ := h.len
  subst hCe
  have hB0 : Below w.heap.size w (w.alloc (.cells #[.int .i64 p, .int .i64 r, .int .i64 a, .slice A l.length cap] 53)) := (Below.refl _ w).alloc (Nat.le_refl _) _
  have HB0 := Lib.hid hB0
  have hk0 := heap_alloc_new w (.cells #[.int .i64 p, .int .i64 r, .int .i64 a, .slice A l.length cap] 53)
  have HK0 := Lib.hid hk0
  obtain ⟨c0, c1, c2, c3⟩ := cells4 hk0
  clear hB0 hk0 h
  cases hf : framedV p r a
  · have HE := Lib.hid (ferr_frame (l := l) hf)
    have hn : p < 0 ∨ 8 < p ∨ r < p ∨ 64 < r ∨ a < 0 ∨ 4096 < a := by
      unfold framedV at hf
      have := of_decide_eq_false hf
      omega
    clear hf
    by_cases g0 : p < 0
    · clear hn
      go_enter Tryz.func51, Tryz.ntmps51
      go_wp2
      go_ret
      exact ⟨ret_int HE.out.symm, HB0.out⟩
    by_cases g1 : 8 < p
    · clear hn
      go_enter Tryz.func51, Tryz.ntmps51
      go_wp2
      go_ret
      exact ⟨ret_int HE.out.symm, HB0.out⟩
    by_cases g2 : r < p
    · clear hn
      go_enter Tryz.func51, Tryz.ntmps51
      go_wp2
      go_ret
      exact ⟨ret_int HE.out.symm, HB0.out⟩
    by_cases g3 : 64 < r
    · clear hn
      go_enter Tryz.func51, Tryz.ntmps51
      go_wp2
      go_ret
      exact ⟨ret_int HE.out.symm, HB0.out⟩
    by_cases g4 : a < 0
    · clear hn
      go_enter Tryz.func51, Tryz.ntmps51
      go_wp2
      go_ret
      exact ⟨ret_int HE.out.symm, HB0.out⟩
    have g5 : 4096 < a := by omega
    clear hn
    go_enter Tryz.func51, Tryz.ntmps51
    go_wp2
    go_ret
    exact ⟨ret_int HE.out.symm, HB0.out⟩
  have hn : 0 ≤ p ∧ p ≤ 8 ∧ p ≤ r ∧ r ≤ 64 ∧ 0 ≤ a ∧ a ≤ 4096 := by
    unfold framedV at hf
    have := of_decide_eq_true hf
    omega
  obtain ⟨g0, g1, g2, g3, g4, g5⟩ := hn
  by_cases hj : joinE l = 0
  case neg =>
    have HE := Lib.hid (ferr_join hf hj)
    have HJ2 := Lib.hid (fun W hb => (HJ.out W hb).mono fun e w' hh => hh.resolve_right (fun h => hj h.1))
    generalize joinE l = z at HJ2 HE hj
    have hne : (z != 0) = true := by simpa using hj
    clear hf hj HJ
    go_enter Tryz.func51, Tryz.ntmps51
    go_wp2_with (go_at_call 85; (with_reducible refine (HJ2.out _ HB0.out).mono ?_); rintro e w2 ⟨_, rfl, hb⟩; have HB2 := Lib.hid (HB0.out.trans (hb.mono HB0.out.size)); clear hb)
    go_ret
    exact ⟨ret_int HE.out.symm, HB2.out⟩
  have HE := Lib.hid (ferr_code hf hj)
  have HJ2 := Lib.hid (fun W hb => (HJ.out W hb).mono fun e w' hh => (hh.resolve_left (fun h => h.1 hj)).2)
  clear hf hj HJ
  obtain ⟨n, hn⟩ : ∃ n, n = l.length := ⟨_, rfl⟩
  have HN := Lib.hid hn
  rw [← hn] at hm HCw HJ2 HK0 HB0 c0 c1 c2 c3 ⊢
  clear hn hs
  go_enter Tryz.func51, Tryz.ntmps51
  go_wp2_with (go_at_call 85; (with_reducible refine (HJ2.out _ HB0.out).mono ?_); rintro e w2 ⟨v2, rfl, ho⟩; have HB2 := Lib.hid (HB0.out.trans (ho.bel.mono HB0.out.size)); have HK2 := Lib.hid (box_below HK0.out ho.bel); obtain ⟨oA, oc, hoe⟩ := owns_len ho.own; subst hoe; clear ho)
  clear c0 c1 c2 c3
  go_loopw [5] (fun i wr => ∃ k : Nat, k ≤ n ∧ i = .int .i64 k ∧ Hid (firstC r a (l.take k) = 0 ∧ Below w2.heap.size w2 wr)) (fun i _ => n - (intOf i).toNat)
  case atStart => exact ⟨0, by omega, rfl, ⟨rfl, Below.refl _ _⟩⟩
  case round =>
    obtain ⟨k, hk, rfl, HR⟩ := hrel
    obtain ⟨h0, hb⟩ := HR.out
    have H0 := Lib.hid h0
    have HBr := Lib.hid hb
    obtain ⟨d0, d1, d2, d3⟩ := cells4 (box_below HK2.out hb)
    clear HR h0 hb
    by_cases hlt : k < n
    · have hkl : k < l.length := by rw [← HN.out]; exact hlt
      have hbw := HB2.out.trans (HBr.out.mono HB2.out.size)
      have hcn := (code_getD (HCw.out _ hbw) hkl).n
      obtain ⟨b, off, cap', hV, hcp, hbB, hcl⟩ := (HCw.out _ hbw).plain (by omega)
      rw [← HN.out] at hV
      cases hV
      obtain ⟨X, hX, hcell⟩ := hcl k hkl
      have HTK := Lib.hid (code_take l hkl)
      have HST := Lib.hid (fun h => first_at8 (r := r) (a := a) l hkl H0.out h)
      obtain ⟨⟨op, a', b1, c, n1, args⟩, hy⟩ : ∃ y, y = l.getD k .zero := ⟨_, rfl⟩
      rw [← hy] at hX hcell HTK HST hcn
      dsimp only at hcn hX
      have f0 : wr.cell? ⟨b, off + k * 6, none⟩ = some (.int .i64 op) := hcell 0 (by omega)
      have f1 : wr.cell? ⟨b, off + k * 6 + 1, none⟩ = some (.int .i64 a') := hcell 1 (by omega)
      have f2 : wr.cell? ⟨b, off + k * 6 + 2, none⟩ = some (.int .i64 b1) := hcell 2 (by omega)
      have f3 : wr.cell? ⟨b, off + k * 6 + 3, none⟩ = some (.int .i64 c) := hcell 3 (by omega)
      have f4 : wr.cell? ⟨b, off + k * 6 + 4, none⟩ = some (.int .i64 n1) := hcell 4 (by omega)
      have f5 : wr.cell? ⟨b, off + k * 6 + 5, none⟩ = some X := hcell 5 (by omega)
      have HCk := Lib.hid (rcheck_any op a' b1 c n1 X args r a (wr.drewN 1) (nums_drew hX))
      rw [← check_same op a' b1 c n1 args r a hcn] at HCk
      obtain ⟨XA, Xc, rfl⟩ := hX.len
      have k0 : (0 : Int) ≤ (k : Int) := by omega
      have k1 : (k : Int) < (n : Int) := by omega
      clear hcell hX hy hcl hcp hbw hcn
      by_cases hz : InsV.err ⟨op, a', b1, c, n1, args⟩ r a = 0
      · have hz' : checkV op a' b1 c n1 args r a = 0 := hz
        rw [hz'] at HCk
        have HFs := Lib.hid (show firstC r a (l.take (k + 1)) = 0 by rw [HTK.out]; exact first_snoc8 _ _ H0.out hz)
        clear hz hz' HST
        go_wp2
        go_still_tail 9, (by kernel_rfl)
        go_wp2_with (go_at_call 86; refine HCk.out.mono ?_; rintro e w3 ⟨rfl, hb⟩; have HB3 := Lib.hid ((below_drewN HBr.out 1).trans (hb.mono (by have := HBr.out.size; exact this))); clear hb)
        go_roundw
        case rel => exact ⟨k + 1, by omega, by go_num, ⟨HFs.out, HB3.out⟩⟩
        case measure => simp [intOf]; omega
      · have HZ := Lib.hid hz
        have HFe := Lib.hid (HE.out.trans (HST.out hz))
        have hzv : InsV.err ⟨op, a', b1, c, n1, args⟩ r a = checkV op a' b1 c n1 args r a := rfl
        rw [hzv] at HFe HZ hz
        generalize checkV op a' b1 c n1 args r a = z at HCk HFe HZ hz
        have hne : (z != 0) = true := by simpa using hz
        clear hz hzv HST
        go_wp2
        go_still_tail 9, (by kernel_rfl)
        go_wp2_with (go_at_call 86; refine HCk.out.mono ?_; rintro e w3 ⟨rfl, hb⟩; have HB3 := Lib.hid ((below_drewN HBr.out 1).trans (hb.mono (by have := HBr.out.size; exact this))); clear hb)
        go_ret
        exact ⟨ret_int HFe.out.symm, HB2.out.trans (HB3.out.mono HB2.out.size)⟩
    · obtain rfl : k = n := by omega
      have htk : l.take k = l := by rw [HN.out]; exact List.take_length
      have hfe := H0.out
      rw [htk] at hfe
      have HFe := Lib.hid (HE.out.trans hfe)
      clear htk hfe
      go_wp2
      go_ret
      exact ⟨ret_int HFe.out.symm, HB2.out.trans (HBr.out.mono HB2.out.size)⟩
set_option maxRecDepth 100000 in
set_option maxHeartbeats 4000000 in
theorem rcheck8_any (D F : Value) (data : List Int) (fs : List FunV) (w : World) (hD : IsBytes w w.heap.size D data) (hF : IsFuns w w.heap.size F fs) (hs : ∀ f ∈ fs, f.code.length ≤ 1000) :
    Calls Tryz.prog 27 #[.agg #[D, F]] w (Makes w (.int .i64 (ModV.err ⟨data, fs⟩))) := by
  have HFw := Lib.hid (fun W (hb : Below w.heap.size w W) => hF.grow hb)
  have HFs := Lib.hid hs
  have hm := hF.1
  unfold maxLen at hm
  have hmD := hD.2.1
  unfold maxLen at hmD
  obtain ⟨DA, dc, hDe⟩ := hD.len
  obtain ⟨A, cap, hFe⟩ := hF.len
  subst hDe hFe
  obtain ⟨n, hn⟩ : ∃ n, n = fs.length := ⟨_, rfl⟩
  have HN := Lib.hid hn
  rw [← hn] at hm HFw ⊢
  have hB0 : Below w.heap.size w (w.alloc (.cells #[.slice DA data.length dc, .slice A n cap] 25)) := (Below.refl _ w).alloc (Nat.le_refl _) _
  have HB0 := Lib.hid hB0
  have hk0 := heap_alloc_new w (.cells #[.slice DA data.length dc, .slice A n cap] 25)
  have HK0 := Lib.hid hk0
  obtain ⟨c0, c1⟩ := cells2 hk0
  clear hB0 hk0 hD hF hs
  by_cases h1 : 8192 < data.length
  · have HE := Lib.hid (merr_data (fs := fs) h1)
    have h1I : (8192 : Int) < (data.length : Int) := by omega
    clear h1 hn
    go_enter Tryz.func27, Tryz.ntmps27
    go_wp2
    go_ret
    exact ⟨ret_int HE.out.symm, HB0.out⟩
  have h1I : ¬ (8192 : Int) < (data.length : Int) := by omega
  cases h2 : someV fs.length
  · have HE := Lib.hid (merr_some h1 h2)
    have h3 : n < 1 ∨ 64 < n := by
      unfold someV at h2
      have := of_decide_eq_false h2
      omega
    clear h1 h2 hn
    by_cases h4 : (n : Int) < 1
    · clear h3
      go_enter Tryz.func27, Tryz.ntmps27
      go_wp2
      go_ret
      exact ⟨ret_int HE.out.symm, HB0.out⟩
    · have h5 : (64 : Int) < (n : Int) := by omega
      clear h3
      go_enter Tryz.func27, Tryz.ntmps27
      go_wp2
      go_ret
      exact ⟨ret_int HE.out.symm, HB0.out⟩
  have HE := Lib.hid (merr_funs h1 h2)
  have h3 : 1 ≤ n ∧ n ≤ 64 := by
    unfold someV at h2
    have := of_decide_eq_true h2
    omega
  have h4 : ¬ (n : Int) < 1 := by omega
  have h5 : ¬ (64 : Int) < (n : Int) := by omega
  clear h1 h2 h3 hn
  go_enter Tryz.func27, Tryz.ntmps27
  go_wp2
  clear c0 c1
  go_loopw [3] (fun i wr => ∃ k : Nat, k ≤ n ∧ i = .int .i64 k ∧ Hid (firstF (fs.take k) = 0 ∧ Below (w.heap.size + 1) (w.alloc (.cells #[.slice DA data.length dc, .slice A n cap] 25)) wr)) (fun i _ => n - (intOf i).toNat)
  case atStart => exact ⟨0, by omega, rfl, ⟨rfl, Below.refl _ _⟩⟩
  case round =>
    obtain ⟨k, hk, rfl, HR⟩ := hrel
    obtain ⟨h0, hb⟩ := HR.out
    have H0 := Lib.hid h0
    have HBr := Lib.hid (HB0.out.trans (hb.mono (Nat.le_succ _)))
    have HBk := Lib.hid hb
    have hkr := (hb.block w.heap.size (Nat.lt_succ_self _)).trans HK0.out
    obtain ⟨d0, d1⟩ := cells2 hkr
    clear HR h0 hb hkr
    by_cases hlt : k < n
    · have hkl : k < fs.length := by rw [← HN.out]; exact hlt
      have hin := funs_getD (HFw.out _ HBr.out) hkl
      obtain ⟨b, off, cap', hV, hcp, hbB, hcl⟩ := (HFw.out _ HBr.out).plain (by omega)
      rw [← HN.out] at hV
      cases hV
      obtain ⟨C, hC, hcell⟩ := hcl k hkl
      have HTK := Lib.hid (funs_take fs hkl)
      have HST := Lib.hid (fun h => firstF_at fs hkl H0.out h)
      have hfew := HFs.out (fs.getD k .zero) (by simp [List.getD, List.getElem?_eq_getElem hkl])
      obtain ⟨⟨p, r, a, c⟩, hy⟩ : ∃ y, y = fs.getD k .zero := ⟨_, rfl⟩
      rw [← hy] at hC hcell HTK HST hfew
      dsimp only at hC hfew
      have f0 : wr.cell? ⟨b, off + k * 4, none⟩ = some (.int .i64 p) := hcell 0 (by omega)
      have f1 : wr.cell? ⟨b, off + k * 4 + 1, none⟩ = some (.int .i64 r) := hcell 1 (by omega)
      have f2 : wr.cell? ⟨b, off + k * 4 + 2, none⟩ = some (.int .i64 a) := hcell 2 (by omega)
      have f3 : wr.cell? ⟨b, off + k * 4 + 3, none⟩ = some C := hcell 3 (by omega)
      have HCk := Lib.hid (rfun8_any p r a C c wr hC hfew)
      obtain ⟨CA, Cc, rfl⟩ := hC.len
      have k0 : (0 : Int) ≤ (k : Int) := by omega
      have k1 : (k : Int) < (n : Int) := by omega
      clear hcell hC hy hcl hcp hin hfew
      by_cases hz : FunV.err ⟨p, r, a, c⟩ = 0
      · rw [hz] at HCk
        have HFt := Lib.hid (show firstF (fs.take (k + 1)) = 0 by rw [HTK.out]; exact firstF_snoc _ _ H0.out hz)
        clear hz HST
        go_wp2_with (go_at_call 51; (with_reducible refine HCk.out.mono ?_); rintro e w3 ⟨rfl, hb⟩; have HB3 := Lib.hid (HBk.out.trans (hb.mono (by have := HBk.out.size; simp at this; omega))); clear hb)
        go_roundw
        case rel => exact ⟨k + 1, by omega, by go_num, ⟨HFt.out, HB3.out⟩⟩
        case measure => simp [intOf]; omega
      · have HFe := Lib.hid (HE.out.trans (HST.out hz))
        generalize FunV.err ⟨p, r, a, c⟩ = z at HCk HFe hz
        have hne : (z != 0) = true := by simpa using hz
        clear hz HST
        go_wp2_with (go_at_call 51; (with_reducible refine HCk.out.mono ?_); rintro e w3 ⟨rfl, hb⟩; have HB3 := Lib.hid (HBr.out.trans (hb.mono HBr.out.size)); clear hb)
        go_ret
        exact ⟨ret_int HFe.out.symm, HB3.out⟩
    · obtain rfl : k = n := by omega
      have htk : fs.take k = fs := by rw [HN.out]; exact List.take_length
      have hfe := H0.out
      rw [htk] at hfe
      have HFe := Lib.hid (HE.out.trans hfe)
      clear htk hfe
      go_wp2
      go_ret
      exact ⟨ret_int HFe.out.symm, HBr.out⟩
end Go.Proofs.YtohlifeenhaifaaGreatDoor
