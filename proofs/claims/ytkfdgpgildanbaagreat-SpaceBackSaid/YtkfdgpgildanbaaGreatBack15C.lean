/- SpaceBack's call, where it is gone through. No condition but what each names. -/
import Derived.Test.YtkfdgpgildanbaaGreatBack15B
import Derived.Deep.RegionHeld3
namespace Go.Proofs.YtkfdgpgildanbaaGreat
open Go.RowKit Go.Shelf
set_option linter.unusedVariables false
set_option linter.unusedSimpArgs false
/-- Bytes that are told lie in a block of their own. -/
theorem bytes_box15 {W W' : World} {xs : List Int} {E : Int} {e : Ending} (h : BytesDone W xs E e W') (hp : 0 < xs.length) : ∃ g cap cur, e = .returned (.tuple #[.slice (some ⟨g, 0, none⟩) xs.length cap, .int .i64 E]) ∧ W.heap.size ≤ g ∧ Below W.heap.size W W' ∧ W'.heap[g]? = some (.cells cur 5 (0, 0)) ∧ xs.length ≤ cap ∧
    ∀ W2 : World, W2.heap[g]? = some (.cells cur 5 (0, 0)) → ∀ k, k < xs.length → W2.cell? ⟨g, k, none⟩ = some (.int .u8 (xs.getD k 0)) := by
  obtain ⟨v, he, ho, hb⟩ := h
  rcases ho.1.2 with ⟨_, h0⟩ | ⟨g, cap, cur, hv, h1, h2, h3, h4, h5, h6⟩
  · omega
  · refine ⟨g, cap, cur, by rw [he, hv], h1, hb, h2, h3, fun W2 hW k hk => ?_⟩
    rw [cell_of_row _ _ _ _ _ _ hW]
    have := congrArg (fun l => l[k]?) h6
    simp only [Nat.mul_one] at this
    rw [List.getElem?_take, if_pos hk, List.getElem?_map] at this
    rw [← Array.getElem?_toList, this, List.getElem?_eq_getElem hk]
    simp [List.getD, List.getElem?_eq_getElem hk]
theorem bytes_from15 {mem : List Int} {x : Int} {n : Nat} (hl : mem.length = n) (h0 : 16 ≤ x) (h1 : x ≤ n) :
    accE mem.length x ((n : Int) - x) = 0 ∧ ((bytesL mem x ((n : Int) - x)).length : Int) = (n : Int) - x ∧ ∀ k, k < (bytesL mem x ((n : Int) - x)).length → (bytesL mem x ((n : Int) - x)).getD k 0 = mem.getD (x.toNat + k) 0 := by
  have ha : accE mem.length x ((n : Int) - x) = 0 := by
    unfold accE
    rw [if_neg (by omega), if_neg (by omega)]
  have e : bytesL mem x ((n : Int) - x) = partL mem (x.toNat : Nat) ((n - x.toNat : Nat) : Nat) := by
    unfold bytesL
    rw [if_pos ha]
    have e1 : x = (x.toNat : Int) := by omega
    have e2 : (n : Int) - x = ((n - x.toNat : Nat) : Int) := by omega
    rw [e2]
    congr 1
  rw [e]
  have hp : (partL mem (x.toNat : Nat) ((n - x.toNat : Nat) : Nat)).length = n - x.toNat := partL_len (by omega)
  refine ⟨ha, by rw [hp]; omega, fun k hk => ?_⟩
  rw [hp] at hk
  exact getD_part hk
section
variable {w : World} {data ss : List Int} {fs : List FunV} {l : List ActS} {A : ActS} {DA FA LA SA : Option Addr} {dc fc lc sc : Nat}
set_option maxRecDepth 100000
set_option maxHeartbeats 16000000
theorem back15_main (h : BackIn w data ss fs l A DA FA LA SA dc fc lc sc) (mm v : Int) (hm : InI mm) (hv : 0 ≤ v ∧ v < 18446744073709551616) (hlong : longM ⟨data, fs⟩ = false) (hll2 : longS l = false) (hl : longS [A] = false ∧ ss.length ≤ 20) :
    Calls Tryz.prog 7 #[.agg #[.slice DA data.length dc, .slice FA fs.length fc], .int .i64 mm, .slice LA l.length lc, .agg A.arr, .slice SA ss.length sc, .int .u64 v] w (Makes w (.bool true)) := by
  obtain ⟨g1, g2, g3⟩ := long_few hlong
  simp only at g1 g2 g3
  have HCL := Lib.hid (fun f hf => (⟨Nat.le_trans (g3 f hf).1 (by decide), fun y hy => Nat.le_trans ((g3 f hf).2 y hy) (by decide)⟩ : f.code.length ≤ 1000000 ∧ ∀ y ∈ f.code, y.args.length ≤ 1000000))
  have hl50 := (longS_false hll2).1
  have HV := Lib.hid hv
  clear hv g3
  have HD := Lib.hid h.dat
  have HF := Lib.hid h.funs
  have HLA := Lib.hid h.acts
  have HAO := Lib.hid h.act
  obtain ⟨dn, hdn⟩ : ∃ dn, dn = data.length := ⟨_, rfl⟩
  obtain ⟨fn, hfn⟩ : ∃ fn, fn = fs.length := ⟨_, rfl⟩
  obtain ⟨ln, hln⟩ : ∃ ln, ln = l.length := ⟨_, rfl⟩
  obtain ⟨sn, hsn⟩ : ∃ sn, sn = ss.length := ⟨_, rfl⟩
  have hfl := h.funs.1
  have hll := h.acts.1
  have hsl := h.sts.1
  unfold maxLen at hfl hll hsl
  obtain ⟨XA, xc, hxe⟩ := h.act.b.len
  obtain ⟨AK, AR, AN, AB, AV, AX, AA, AE, AC⟩ := A
  simp only at hxe
  subst hxe
  obtain ⟨n, hn⟩ : ∃ n, n = AA.length := ⟨_, rfl⟩
  obtain ⟨A, hAe⟩ : ∃ A : ActS, A = ⟨AK, AR, AN, AB, AV, .slice XA AA.length xc, AA, AE, AC⟩ := ⟨_, rfl⟩
  rw [← hAe] at HAO h ⊢
  rw [← hAe] at hl
  have hAr : A.arr = #[.int .i64 AK, .int .i64 AR, .int .i64 AN, .int .i64 AB, .int .u64 AV, .slice XA n xc, .int .i64 AE, .int .i64 AC] := by rw [hAe, hn]; rfl
  rw [← hdn] at HD ⊢
  rw [← hfn] at HF hfl ⊢
  rw [← hln] at HLA hll ⊢
  rw [← hsn] at hl hsl ⊢
  have HLG : Hid (∀ W, Below w.heap.size w W → Calls Tryz.prog 10 #[.agg #[.slice DA dn dc, .slice FA fn fc]] W (Makes W (.bool (longM ⟨data, fs⟩)))) := Lib.hid (fun W hb => longModule_any _ _ _ _ W (HD.out.grow hb) (HF.out.grow hb))
  have HLL : Hid (∀ W, Below w.heap.size w W → Calls Tryz.prog 11 #[.slice LA ln lc] W (fun e w' => e = .returned (.bool (longS l)) ∧ W = w')) := Lib.hid (fun W hb => longS_any _ _ W _ (HLA.out.below hb (Nat.le_refl _) (Nat.le_refl _)))
  have HL1 : Hid (∀ W, Below w.heap.size w W → Calls Tryz.prog 11 #[.slice (some ⟨W.heap.size, 0, none⟩) 1 1] (W.alloc (.cells #[.int .i64 AK, .int .i64 AR, .int .i64 AN, .int .i64 AB, .int .u64 AV, .slice XA n xc, .int .i64 AE, .int .i64 AC] 47)) (fun e w' => e = .returned (.bool (longS [A])) ∧ (W.alloc (.cells #[.int .i64 AK, .int .i64 AR, .int .i64 AN, .int .i64 AB, .int .u64 AV, .slice XA n xc, .int .i64 AE, .int .i64 AC] 47)) = w')) := Lib.hid (fun W hb => by have := long_one15 HAO.out hb; rw [hAr] at this; exact this)
  have hs0 : Spaces w w.heap.size ((w.alloc (.cells #[.slice DA dn dc, .slice FA fn fc] 25)).alloc (.cells A.arr 47)) [.box w.heap.size #[.slice DA dn dc, .slice FA fn fc] 25, .box (w.heap.size + 1) A.arr 47] := by
    have hz := ((sp_nilSt w).addBox #[.slice DA dn dc, .slice FA fn fc] 25).addBox A.arr 47
    rw [World.size_alloc] at hz
    exact hz
  rw [hAr] at hs0 ⊢
  obtain ⟨W0, hW0⟩ : ∃ W0, W0 = (w.alloc (.cells #[.slice DA dn dc, .slice FA fn fc] 25)).alloc (.cells #[.int .i64 AK, .int .i64 AR, .int .i64 AN, .int .i64 AB, .int .u64 AV, .slice XA n xc, .int .i64 AE, .int .i64 AC] 47) := ⟨_, rfl⟩
  rw [← hW0] at hs0
  have HW := Lib.hid hW0
  have S0 := Lib.hid hs0
  have HP := Lib.hid (fun W => pk_any mm 250 W (by decide) (by decide))
  have hpk := pk_bd mm (n := 250) (by decide)
  obtain ⟨pk, hpe⟩ : ∃ pk : Nat, pkV mm 250 = (pk : Int) := ⟨(pkV mm 250).toNat, by omega⟩
  rw [hpe] at HP hpk
  rw [hlong] at HLG
  rw [hll2] at HLL
  rw [hl.1] at HL1
  have hs20 : sn ≤ 20 := hl.2
  rw [← hdn] at g1
  rw [← hfn] at g2
  rw [← hln] at hl50
  obtain ⟨m, hme⟩ : ∃ m : ModV, m = ⟨data, fs⟩ := ⟨_, rfl⟩
  have HNEW : Hid (∀ W, Spaces w w.heap.size W [.box w.heap.size #[.slice DA dn dc, .slice FA fn fc] 25, .box (w.heap.size + 1) #[.int .i64 AK, .int .i64 AR, .int .i64 AN, .int .i64 AB, .int .u64 AV, .slice XA n xc, .int .i64 AE, .int .i64 AC] 47] → Calls Tryz.prog 15 #[.agg #[.slice DA dn dc, .slice FA fn fc], .int .i64 (16 * (1 + (pk : Int))), .slice none 0 0, .int .i64 100] W (NewSps w w.heap.size W [.box w.heap.size #[.slice DA dn dc, .slice FA fn fc] 25, .box (w.heap.size + 1) #[.int .i64 AK, .int .i64 AR, .int .i64 AN, .int .i64 AB, .int .u64 AV, .slice XA n xc, .int .i64 AE, .int .i64 AC] 47] m (16 * (1 + (pk : Int))) [] 100)) := Lib.hid (fun W hs => by
    rw [hme]
    exact sp_new hs _ _ (.slice none 0 0) data [] fs _ 100 (HD.out.grow hs.bel) (HF.out.grow hs.bel) ⟨by simp, by unfold maxLen; simp, .inl ⟨rfl, rfl⟩⟩ (by unfold InI; omega) (by unfold InI; simp) (by simp) HCL.out)
  have HN := Lib.hid (And.intro hln hsn)
  have HST := Lib.hid (And.intro h.sts h.sin)
  have HAF : Hid (InI AR ∧ InI AN ∧ InI AB ∧ (∀ x ∈ AA, InI x) ∧ ∀ W, Below w.heap.size w W → ArgsIn w.heap.size W (.slice XA n xc) AA) := Lib.hid (by
    have ho := HAO.out
    rw [hAe] at ho
    refine ⟨ho.r, ho.n, ho.back, ho.ain, fun W hb => ⟨ho.ain, .inl ?_⟩⟩
    rw [hn]
    exact ho.b.below hb (Nat.le_refl _))
  clear h hs0 hW0 hpe hdn hfn hln hsn hm hAe hn hAr HD HF HCL HAO hme hlong hll2 hl A
  by_cases hE : newE15 m (16 * (1 + (pk : Int))) 100 = 0
  · go_enter Tryz.func7, Tryz.ntmps7
    go_wp2_with (first
      | (rw [← HW.out])
      | (go_at_call 6; (with_reducible refine (known15 _).mono ?_); rintro e w1 ⟨rfl, hb⟩; have S1 := Lib.hid (S0.out.grow hb); obtain ⟨b0, b1⟩ := cells2_14 (S1.out.boxAt (i := 0) rfl); obtain ⟨c0, c1, c2, c3, c4, c5, c6, c7⟩ := cells8 (S1.out.boxAt (i := 1) rfl); clear hb)
      | (go_at_call 25; (with_reducible refine (HP.out _).mono ?_); rintro e w' ⟨rfl, rfl⟩)
      | (go_at_call 10; (with_reducible refine (HLG.out _ S1.out.bel).mono ?_); rintro e w2 ⟨rfl, hb⟩; have S2 := Lib.hid (S1.out.grow hb); obtain ⟨b0, b1⟩ := cells2_14 (S2.out.boxAt (i := 0) rfl); obtain ⟨c0, c1, c2, c3, c4, c5, c6, c7⟩ := cells8 (S2.out.boxAt (i := 1) rfl); clear hb)
      | (go_at_call 11; (with_reducible refine (HLL.out _ S2.out.bel).mono ?_); rintro e w' ⟨rfl, rfl⟩)
      | (go_at_call 11; (with_reducible refine (HL1.out _ S2.out.bel).mono ?_); rintro e w' ⟨rfl, rfl⟩; obtain ⟨w3, hw3⟩ : ∃ w3, w3 = w2.alloc (.cells #[.int .i64 AK, .int .i64 AR, .int .i64 AN, .int .i64 AB, .int .u64 AV, .slice XA n xc, .int .i64 AE, .int .i64 AC] 47) := ⟨_, rfl⟩; have S3 := Lib.hid (S2.out.grow (below_one14 w2 (.cells #[.int .i64 AK, .int .i64 AR, .int .i64 AN, .int .i64 AB, .int .u64 AV, .slice XA n xc, .int .i64 AE, .int .i64 AC] 47))); rw [← hw3] at S3 ⊢; obtain ⟨b0, b1⟩ := cells2_14 (S3.out.boxAt (i := 0) rfl); obtain ⟨c0, c1, c2, c3, c4, c5, c6, c7⟩ := cells8 (S3.out.boxAt (i := 1) rfl); clear hw3)
      | (go_at_call 15; (with_reducible refine (HNEW.out _ S3.out).mono ?_); rintro e w4 hn; obtain ⟨sb, rfl, hs⟩ := (hn.2.resolve_left (fun q => q.1 hE)).2; have S4 := Lib.hid hs; clear hn hs))
    clear b0 b1 c0 c1 c2 c3 c4 c5 c6 c7 S0 S1 S2 S3
    have htn : (16 * (1 + (pk : Int))).toNat = 16 * (1 + pk) := by omega
    have hcast : (16 * (1 + (pk : Int))) = ((16 * (1 + pk) : Nat) : Int) := by omega
    obtain ⟨nn, hnn⟩ : ∃ nn : Nat, nn = 16 * (1 + pk) := ⟨_, rfl⟩
    rw [htn, ← hnn] at S4
    rw [hcast, ← hnn]
    have hn0 : 16 ≤ nn := by omega
    have hn1 : nn ≤ 4000 := by omega
    obtain ⟨T, hT⟩ : ∃ T, T = newS m nn [] 100 := ⟨_, rfl⟩
    rw [← hT] at S4
    have HT0 : Hid (T.size = nn ∧ T.done = []) := Lib.hid (by rw [hT]; exact ⟨newS_same.2.1, by unfold newS new0; split <;> rfl⟩)
    have S5 := Lib.hid (show Spaces w w.heap.size w4 (bkL w.heap.size (w.heap.size + 1) #[.slice DA dn dc, .slice FA fn fc] #[.int .i64 AK, .int .i64 AR, .int .i64 AN, .int .i64 AB, .int .u64 AV, .slice XA n xc, .int .i64 AE, .int .i64 AC] sb T []) from S4.out)
    clear htn hcast hnn hT hE hpk S4 HP HLG HLL HL1 HNEW HW hfl
    go_loopw [16] (fun v16 wr => ∃ (i : Nat) (S : SpV), v16 = .int .i64 i ∧ i ≤ ln ∧ Hid (Spaces w w.heap.size wr (bkL w.heap.size (w.heap.size + 1) #[.slice DA dn dc, .slice FA fn fc] #[.int .i64 AK, .int .i64 AR, .int .i64 AN, .int .i64 AB, .int .u64 AV, .slice XA n xc, .int .i64 AE, .int .i64 AC] sb S []) ∧ S.size = nn ∧ S.done.length ≤ i)) (fun v16 _ => ln - (intOf v16).toNat)
    case atStart => exact ⟨0, T, rfl, by omega, Lib.hid ⟨S5.out, HT0.out.1, by rw [HT0.out.2]; simp⟩⟩
    case round =>
      obtain ⟨i, S, rfl, hi, HH⟩ := hrel
      clear S5 HT0
      by_cases hlt : i < ln
      · obtain ⟨lb, lof, rfl, hlc, hlb, K, R, N, B, V, X, xn, c, xs, E, C, hA, hok, hcell⟩ := act_at15 HLA.out HN.out.1 hlt
        obtain ⟨c0, c1, c2, c3, c4, c5, c6, c7⟩ := hcell wr HH.out.1.bel
        have hact := bk_act HH.out.1 (by have := HH.out.2.2; omega) _ (hok.below HH.out.1.bel (Nat.le_refl _))
        rw [hA] at hact
        rw [show ActS.arr ⟨K, R, N, B, V, .slice X xn c, xs, E, C⟩ = #[.int .i64 K, .int .i64 R, .int .i64 N, .int .i64 B, .int .u64 V, .slice X xn c, .int .i64 E, .int .i64 C] from rfl] at hact
        have HACT := Lib.hid hact
        have HK := Lib.hid (actS_keep S ⟨K, R, N, B, V, .slice X xn c, xs, E, C⟩)
        have hltI : (i : Int) < (ln : Int) := by omega
        clear hact hcell hok hA hlb
        go_wp2_with (go_at_call 46; (with_reducible refine HACT.out.mono ?_); rintro e w5 ⟨rfl, hs⟩; have S5 := Lib.hid hs; clear hs)
        go_roundw
        case rel => exact ⟨i + 1, _, by go_num, by omega, Lib.hid ⟨S5.out, HK.out.2.1.trans HH.out.2.1, Nat.le_trans HK.out.2.2 (by have := HH.out.2.2; omega)⟩⟩
        case measure => simp [intOf]; omega
      · have hltI : ¬ (i : Int) < (ln : Int) := by omega
        have hsz := HH.out.2.1
        have hok := HH.out.1.sok (i := 2) rfl
        have S5 := Lib.hid HH.out.1
        have HOK := Lib.hid hok
        have hx0 := hok.at0
        have hx1 := hok.at1
        have hd := hok.deep
        have hf := hok.fn
        have HSZ := Lib.hid hsz
        clear HH hlt hsz hok
        by_cases hgo : S.callE AN AA AR AB = 0 ∧ S.outB AN.toNat = false
        · obtain ⟨hB, hAN, hek, hrb⟩ := back_call15 HOK.out hgo.1 hgo.2
          have hslot := HOK.out.slot hek hrb
          rw [HSZ.out] at hslot
          have hr0 : 0 ≤ AR := by have hz := hrb; simp [SpV.regB] at hz; exact hz.1
          have hrx : S.at_ + 8 * AR + 8 ≤ (nn : Int) := hslot.2.2
          have hby := bytes_from15 (HOK.out.len.trans HSZ.out) hx0 (by omega)
          obtain ⟨xs0, hxs0⟩ : ∃ xs0, xs0 = bytesL S.mem S.at_ ((nn : Int) - S.at_) := ⟨_, rfl⟩
          have HXS := Lib.hid hxs0
          rw [← hxs0] at hby
          obtain ⟨L0, hL0⟩ : ∃ L0, L0 = xs0.length := ⟨_, rfl⟩
          have HL0 := Lib.hid hL0
          have HBF := Lib.hid hby
          have HHB := Lib.hid hB
          have HRUN := Lib.hid (And.intro hek hrb)
          obtain ⟨x, hx⟩ : ∃ x, x = S.at_ := ⟨_, rfl⟩
          have HX := Lib.hid hx
          have hLx : (L0 : Int) = (nn : Int) - x := by rw [hL0, hx]; exact hby.2.1
          rw [← hx] at hx0 hx1 hrx
          obtain ⟨dl, hdl⟩ : ∃ dl, dl = S.links.length := ⟨_, rfl⟩
          rw [← hdl] at hd
          have HDL := Lib.hid hdl
          obtain ⟨S', hS'⟩ : ∃ S', S' = S.callS AN AA AR AB := ⟨_, rfl⟩
          rw [← hS'] at hB HHB
          have HFT : Hid (∀ W, Spaces w w.heap.size W (bkL w.heap.size (w.heap.size + 1) #[.slice DA dn dc, .slice FA fn fc] #[.int .i64 AK, .int .i64 AR, .int .i64 AN, .int .i64 AB, .int .u64 AV, .slice XA n xc, .int .i64 AE, .int .i64 AC] sb S []) → Calls Tryz.prog 31 #[.pointer (some ⟨sb, 0, none⟩)] W (SpsDone w w.heap.size (bkL w.heap.size (w.heap.size + 1) #[.slice DA dn dc, .slice FA fn fc] #[.int .i64 AK, .int .i64 AR, .int .i64 AN, .int .i64 AB, .int .u64 AV, .slice XA n xc, .int .i64 AE, .int .i64 AC] sb S []) (.int .i64 S.f))) := Lib.hid (fun W hs => bk_func hs)
          have HAT : Hid (∀ W, Spaces w w.heap.size W (bkL w.heap.size (w.heap.size + 1) #[.slice DA dn dc, .slice FA fn fc] #[.int .i64 AK, .int .i64 AR, .int .i64 AN, .int .i64 AB, .int .u64 AV, .slice XA n xc, .int .i64 AE, .int .i64 AC] sb S []) → Calls Tryz.prog 35 #[.pointer (some ⟨sb, 0, none⟩)] W (SpsDone w w.heap.size (bkL w.heap.size (w.heap.size + 1) #[.slice DA dn dc, .slice FA fn fc] #[.int .i64 AK, .int .i64 AR, .int .i64 AN, .int .i64 AB, .int .u64 AV, .slice XA n xc, .int .i64 AE, .int .i64 AC] sb S []) (.int .u64 x))) := Lib.hid (fun W hs => by rw [HX.out]; exact bk_at hs)
          have HDT : Hid (∀ W, Spaces w w.heap.size W (bkL w.heap.size (w.heap.size + 1) #[.slice DA dn dc, .slice FA fn fc] #[.int .i64 AK, .int .i64 AR, .int .i64 AN, .int .i64 AB, .int .u64 AV, .slice XA n xc, .int .i64 AE, .int .i64 AC] sb S []) → Calls Tryz.prog 34 #[.pointer (some ⟨sb, 0, none⟩)] W (SpsDone w w.heap.size (bkL w.heap.size (w.heap.size + 1) #[.slice DA dn dc, .slice FA fn fc] #[.int .i64 AK, .int .i64 AR, .int .i64 AN, .int .i64 AB, .int .u64 AV, .slice XA n xc, .int .i64 AE, .int .i64 AC] sb S []) (.int .i64 dl))) := Lib.hid (fun W hs => by rw [hdl]; exact bk_depth hs)
          have HCA : Hid (∀ g cur, ∀ W, Spaces w w.heap.size W (bkL w.heap.size (w.heap.size + 1) #[.slice DA dn dc, .slice FA fn fc] #[.int .i64 AK, .int .i64 AR, .int .i64 AN, .int .i64 AB, .int .u64 AV, .slice XA n xc, .int .i64 AE, .int .i64 AC] sb S [.box g cur 5]) → Calls Tryz.prog 40 #[.pointer (some ⟨sb, 0, none⟩), .int .i64 AN, .slice XA n xc, .int .i64 AR, .int .i64 AB] W (SpsDone w w.heap.size (bkL w.heap.size (w.heap.size + 1) #[.slice DA dn dc, .slice FA fn fc] #[.int .i64 AK, .int .i64 AR, .int .i64 AN, .int .i64 AB, .int .u64 AV, .slice XA n xc, .int .i64 AE, .int .i64 AC] sb S' [.box g cur 5]) (.int .i64 0))) := Lib.hid (fun g cur W hs => by
            have hz := bk_call hs AN AR AB _ AA HAF.out.2.1 HAF.out.1 HAF.out.2.2.1 (HAF.out.2.2.2.2 W hs.bel)
            rw [hgo.1, ← hS'] at hz
            exact hz)
          have hlk : (S'.links.length : Int) = (dl : Int) + 1 := by rw [hB.links, hdl]; simp
          have hfn : ((S'.f : Nat) : Int) = AN := by rw [hB.f]; omega
          have HDS : Hid (∀ g cur, ∀ W, Spaces w w.heap.size W (bkL w.heap.size (w.heap.size + 1) #[.slice DA dn dc, .slice FA fn fc] #[.int .i64 AK, .int .i64 AR, .int .i64 AN, .int .i64 AB, .int .u64 AV, .slice XA n xc, .int .i64 AE, .int .i64 AC] sb S' [.box g cur 5]) → Calls Tryz.prog 34 #[.pointer (some ⟨sb, 0, none⟩)] W (SpsDone w w.heap.size (bkL w.heap.size (w.heap.size + 1) #[.slice DA dn dc, .slice FA fn fc] #[.int .i64 AK, .int .i64 AR, .int .i64 AN, .int .i64 AB, .int .u64 AV, .slice XA n xc, .int .i64 AE, .int .i64 AC] sb S' [.box g cur 5]) (.int .i64 ((dl : Int) + 1)))) := Lib.hid (fun g cur W hs => by rw [← hlk]; exact bk_depth hs)
          have HFS : Hid (∀ g cur, ∀ W, Spaces w w.heap.size W (bkL w.heap.size (w.heap.size + 1) #[.slice DA dn dc, .slice FA fn fc] #[.int .i64 AK, .int .i64 AR, .int .i64 AN, .int .i64 AB, .int .u64 AV, .slice XA n xc, .int .i64 AE, .int .i64 AC] sb S' [.box g cur 5]) → Calls Tryz.prog 31 #[.pointer (some ⟨sb, 0, none⟩)] W (SpsDone w w.heap.size (bkL w.heap.size (w.heap.size + 1) #[.slice DA dn dc, .slice FA fn fc] #[.int .i64 AK, .int .i64 AR, .int .i64 AN, .int .i64 AB, .int .u64 AV, .slice XA n xc, .int .i64 AE, .int .i64 AC] sb S' [.box g cur 5]) (.int .i64 AN))) := Lib.hid (fun g cur W hs => by have hz := bk_func hs; rw [hfn] at hz; exact hz)
          have HPS : Hid (∀ g cur, ∀ W, Spaces w w.heap.size W (bkL w.heap.size (w.heap.size + 1) #[.slice DA dn dc, .slice FA fn fc] #[.int .i64 AK, .int .i64 AR, .int .i64 AN, .int .i64 AB, .int .u64 AV, .slice XA n xc, .int .i64 AE, .int .i64 AC] sb S' [.box g cur 5]) → Calls Tryz.prog 32 #[.pointer (some ⟨sb, 0, none⟩)] W (SpsDone w w.heap.size (bkL w.heap.size (w.heap.size + 1) #[.slice DA dn dc, .slice FA fn fc] #[.int .i64 AK, .int .i64 AR, .int .i64 AN, .int .i64 AB, .int .u64 AV, .slice XA n xc, .int .i64 AE, .int .i64 AC] sb S' [.box g cur 5]) (.int .i64 0))) := Lib.hid (fun g cur W hs => by have hz := bk_place hs; rw [hB.pc] at hz; exact hz)
          obtain ⟨x', hx'⟩ : ∃ x', x' = S'.at_ := ⟨_, rfl⟩
          have HAS : Hid (∀ g cur, ∀ W, Spaces w w.heap.size W (bkL w.heap.size (w.heap.size + 1) #[.slice DA dn dc, .slice FA fn fc] #[.int .i64 AK, .int .i64 AR, .int .i64 AN, .int .i64 AB, .int .u64 AV, .slice XA n xc, .int .i64 AE, .int .i64 AC] sb S' [.box g cur 5]) → Calls Tryz.prog 35 #[.pointer (some ⟨sb, 0, none⟩)] W (SpsDone w w.heap.size (bkL w.heap.size (w.heap.size + 1) #[.slice DA dn dc, .slice FA fn fc] #[.int .i64 AK, .int .i64 AR, .int .i64 AN, .int .i64 AB, .int .u64 AV, .slice XA n xc, .int .i64 AE, .int .i64 AC] sb S' [.box g cur 5]) (.int .u64 x'))) := Lib.hid (fun g cur W hs => by rw [hx']; exact bk_at hs)
          have hxle : decide (x < x') = false := by have := hB.at_; simp; omega
          have hne1 : (((dl : Int) + 1) == (dl : Int)) = false := by simp; omega
          have hq1 : (((dl : Int) + 1) != ((dl : Int) + 1)) = false := by simp
          have hq2 : (AN != AN) = false := by simp
          have hw1 : IntKind.i64.wrap ((dl : Int) + 1) = (dl : Int) + 1 := IntWalk.i64_in _ (by omega)
          have HYX : Hid (∀ (W : World) (mb : Nat), Spaces w w.heap.size W (bkL w.heap.size (w.heap.size + 1) #[.slice DA dn dc, .slice FA fn fc] #[.int .i64 AK, .int .i64 AR, .int .i64 AN, .int .i64 AB, .int .u64 AV, .slice XA n xc, .int .i64 AE, .int .i64 AC] sb S []) → W.cell? ⟨sb, 9, none⟩ = some (.pointer (some ⟨mb, 0, none⟩)) → Calls Tryz.prog 47 #[.pointer (some ⟨mb, 0, none⟩), .int .u64 x, .int .i64 ((nn : Int) - x)] W (BytesDone W xs0 0)) := Lib.hid (fun W mb hs hc => by
            have hz := bk_bytes hs hc S.at_ ((nn : Int) - S.at_) (by omega) (by omega) (by omega)
            rw [← HXS.out, HBF.out.1, ← HX.out] at hz
            exact hz)
          clear hgo hB hek hrb hslot hby hxs0 hL0 hdl hS' hlk hfn hx' hx
          go_upto_region 16 with (first
              | (go_at_call 31; (with_reducible refine (HFT.out _ S5.out).mono ?_); rintro e w6 ⟨rfl, hs⟩; have S6 := Lib.hid hs; clear hs)
              | (go_at_call 35; (with_reducible refine (HAT.out _ S6.out).mono ?_); rintro e w7 ⟨rfl, hs⟩; have S7 := Lib.hid hs; clear hs)
              | (go_at_call 34; (with_reducible refine (HDT.out _ S7.out).mono ?_); rintro e w8 ⟨rfl, hs⟩; have S8 := Lib.hid hs; clear hs)
              | (go_at_call 30; (with_reducible refine (bk_memory S8.out).mono ?_); rintro e w9 ⟨mb, rfl, hs, hc⟩; have S9 := Lib.hid hs; have HBY := Lib.hid (HYX.out _ _ hs hc); clear hs hc)
              | (go_at_call 47; (with_reducible refine HBY.out.mono ?_); rintro e w10 hby; obtain ⟨g, bc, cur, rfl, hg, hb, hxg, hcp, hrd⟩ := bytes_box15 hby (by rw [← HL0.out]; omega); rw [← HL0.out] at hcp hrd ⊢; have HRD := Lib.hid hrd; have S10 := Lib.hid (show Spaces w w.heap.size w10 (bkL w.heap.size (w.heap.size + 1) #[.slice DA dn dc, .slice FA fn fc] #[.int .i64 AK, .int .i64 AR, .int .i64 AN, .int .i64 AB, .int .u64 AV, .slice XA n xc, .int .i64 AE, .int .i64 AC] sb S [.box g cur 5]) from S9.out.addBoxAt hb hxg hg); obtain ⟨b0, b1⟩ := cells2_14 (S10.out.boxAt (i := 0) rfl); obtain ⟨c0, c1, c2, c3, c4, c5, c6, c7⟩ := cells8 (S10.out.boxAt (i := 1) rfl); clear hby hg hb hxg hrd)
              | (go_at_call 40; (with_reducible refine (HCA.out _ _ _ S10.out).mono ?_); rintro e w11 ⟨rfl, hs⟩; have S11 := Lib.hid hs; clear hs)
              | (go_at_call 34; (with_reducible refine (HDS.out _ _ _ S11.out).mono ?_); rintro e w12 ⟨rfl, hs⟩; have S12 := Lib.hid hs; clear hs))
          clear b0 b1 c0 c1 c2 c3 c4 c5 c6 c7 S6 S7 S8 S9 HBY HYX HFT HAT HDT HCA
          have HCX := Lib.hid (fun (W : World) (T : List It) (S2 : SpV) (hs : Spaces w w.heap.size W (bkL w.heap.size (w.heap.size + 1) #[.slice DA dn dc, .slice FA fn fc] #[.int .i64 AK, .int .i64 AR, .int .i64 AN, .int .i64 AB, .int .u64 AV, .slice XA n xc, .int .i64 AE, .int .i64 AC] sb S2 T)) => cells8 (hs.boxAt (i := 1) rfl))
          obtain ⟨c0, c1, c2, c3, c4, c5, c6, c7⟩ := HCX.out _ _ _ S12.out
          have S12d := Lib.hid (S12.out.grow ((Below.refl w12.heap.size w12).drew))
          go_region_held3 (fun W => W.cell? ⟨w.heap.size + 1, 2, none⟩ = some (.int .i64 AN))
            (first | with_reducible exact K16.out | with_reducible exact K15.out | with_reducible exact K14.out | with_reducible exact K13.out | go_keep)
            (first
              | (go_at_call 31; (with_reducible refine (HFS.out _ _ _ S12d.out).mono ?_); rintro e w13 ⟨rfl, hs⟩; have S13 := Lib.hid hs; have K13 := Lib.hid (HCX.out _ _ _ hs).2.2.1; clear hs)
              | (go_at_call 32; (with_reducible refine (HPS.out _ _ _ S13.out).mono ?_); rintro e w14 ⟨rfl, hs⟩; have S14 := Lib.hid hs; have K14 := Lib.hid (HCX.out _ _ _ hs).2.2.1; clear hs)
              | (go_at_call 35; (with_reducible refine (HAS.out _ _ _ S14.out).mono ?_); rintro e w15 ⟨rfl, hs⟩; have S15 := Lib.hid hs; have K15 := Lib.hid (HCX.out _ _ _ hs).2.2.1; clear hs)
              | (go_at_call 34; (with_reducible refine (HDS.out _ _ _ S15.out).mono ?_); rintro e w16 ⟨rfl, hs⟩; have S16 := Lib.hid hs; have K16 := Lib.hid (HCX.out _ _ _ hs).2.2.1; clear hs))
          clear c0 c1 c2 c3 c4 c5 c6 c7 S12 S12d S13 S14 S15 K13 K14 K15 K16 HDS HFS HPS HAS hxle hne1 hq1 hq2 hw1
          go_wp2
          have S17 := Lib.hid S16.out
          clear S16
          go_loopw [22] (fun v22 wr => ∃ (i : Nat) (S2 : SpV), v22 = .int .i64 i ∧ i ≤ sn ∧ Hid (Spaces w w.heap.size wr (bkL w.heap.size (w.heap.size + 1) #[.slice DA dn dc, .slice FA fn fc] #[.int .i64 AK, .int .i64 AR, .int .i64 AN, .int .i64 AB, .int .u64 AV, .slice XA n xc, .int .i64 AE, .int .i64 AC] sb S2 [.box g cur 5]) ∧ BackAt S S2 AN.toNat AR AB (decide (0 < i)))) (fun v22 _ => sn - (intOf v22).toNat)
          case atStart => exact ⟨0, S', rfl, by omega, Lib.hid ⟨S17.out, HHB.out⟩⟩
          case round =>
            obtain ⟨i2, S2, rfl, hi2, HH2⟩ := hrel
            by_cases hlt2 : i2 < sn
            · obtain ⟨tb, tof, tcap, hte, _, htb, htc⟩ := HST.out.1.plain (by rw [← HN.out.2]; omega)
              injection hte with hte1 _ hte3
              subst hte1
              have htc := htc i2 (by rw [← HN.out.2]; exact hlt2)
              have hym : ss.getD i2 0 ∈ ss := by
                have hz : i2 < ss.length := by rw [← HN.out.2]; exact hlt2
                rw [show ss.getD i2 0 = ss[i2] by simp [List.getD, List.getElem?_eq_getElem hz]]
                exact List.getElem_mem hz
              have HY := Lib.hid (HST.out.2 _ hym)
              obtain ⟨y, hy⟩ : ∃ y, y = ss.getD i2 0 := ⟨_, rfl⟩
              rw [← hy] at htc HY
              have HTB := Lib.hid htb
              have HTC := Lib.hid (fun (W : World) (hb : Below w.heap.size w W) => show W.cell? ⟨tb, tof + i2, none⟩ = some (.int .u64 y) by rw [hb.cell (p := ⟨tb, tof + i2, none⟩) HTB.out]; exact htc)
              have hlI : (i2 : Int) < (sn : Int) := by omega
              have hl0 : (0 : Int) ≤ (i2 : Int) := by omega
              have c0 := HTC.out _ HH2.out.1.bel
              have SD := Lib.hid (HH2.out.1.grow ((Below.refl wr.heap.size wr).drew))
              clear htc hym hy htb hte3
              go_wp2
              go_region_held3 (fun W => W.cell? ⟨tb, tof + i2, none⟩ = some (.int .u64 y))
                (first | with_reducible exact K19.out | with_reducible exact K18.out | go_keep)
                (first
                  | (go_at_call 30; (with_reducible refine (bk_memory SD.out).mono ?_); rintro e w18 ⟨mb, rfl, hs, hc⟩; have S18 := Lib.hid hs; have K18 := Lib.hid (HTC.out _ hs.bel); have HSR := Lib.hid (bk_store hs hc y 8 v HY.out.1 HY.out.2 (by decide) HV.out.1 HV.out.2); clear hs hc)
                  | (go_at_call 48; (with_reducible refine HSR.out.mono ?_); rintro e w19 ⟨rfl, hs⟩; have S19 := Lib.hid hs; have K19 := Lib.hid (HTC.out _ hs.bel); clear hs))
              all_goals (
                go_wp2
                go_roundw
                case rel => exact ⟨i2 + 1, _, by go_num, by omega, Lib.hid ⟨S19.out, by rw [show decide (0 < i2 + 1) = true by simp]; exact HH2.out.2.memS y 8 v⟩⟩
                case measure => simp [intOf]; omega)
            · have hlI : ¬ (i2 : Int) < (sn : Int) := by omega
              obtain rfl : sn = i2 := by omega
              have hR := HH2.out.2.ret HOK.out HRUN.out.1 HRUN.out.2 HV.out.1 HV.out.2
              obtain ⟨r1, r2, r3, r4, r5, r6, r7, r8, r9, r10⟩ := hR
              have S20 := Lib.hid (HH2.out.1.grow ((Below.refl wr.heap.size wr).drew))
              have S20a := Lib.hid HH2.out.1
              obtain ⟨S3, hS3⟩ : ∃ S3, S3 = S2.retS v := ⟨_, rfl⟩
              rw [← hS3] at r1 r3 r4 r5 r6 r7 r8 r9 r10
              have HRE : Hid (∀ W, Spaces w w.heap.size W (bkL w.heap.size (w.heap.size + 1) #[.slice DA dn dc, .slice FA fn fc] #[.int .i64 AK, .int .i64 AR, .int .i64 AN, .int .i64 AB, .int .u64 AV, .slice XA n xc, .int .i64 AE, .int .i64 AC] sb S2 [.box g cur 5]) → Calls Tryz.prog 41 #[.pointer (some ⟨sb, 0, none⟩), .int .u64 v] W (SpsDone w w.heap.size (bkL w.heap.size (w.heap.size + 1) #[.slice DA dn dc, .slice FA fn fc] #[.int .i64 AK, .int .i64 AR, .int .i64 AN, .int .i64 AB, .int .u64 AV, .slice XA n xc, .int .i64 AE, .int .i64 AC] sb S3 [.box g cur 5]) (.int .i64 0))) := Lib.hid (fun W hs => by have hz := bk_ret hs v HV.out.1 HV.out.2; rw [r2, ← hS3] at hz; exact hz)
              have HF3 : Hid (∀ W, Spaces w w.heap.size W (bkL w.heap.size (w.heap.size + 1) #[.slice DA dn dc, .slice FA fn fc] #[.int .i64 AK, .int .i64 AR, .int .i64 AN, .int .i64 AB, .int .u64 AV, .slice XA n xc, .int .i64 AE, .int .i64 AC] sb S3 [.box g cur 5]) → Calls Tryz.prog 31 #[.pointer (some ⟨sb, 0, none⟩)] W (SpsDone w w.heap.size (bkL w.heap.size (w.heap.size + 1) #[.slice DA dn dc, .slice FA fn fc] #[.int .i64 AK, .int .i64 AR, .int .i64 AN, .int .i64 AB, .int .u64 AV, .slice XA n xc, .int .i64 AE, .int .i64 AC] sb S3 [.box g cur 5]) (.int .i64 S.f))) := Lib.hid (fun W hs => by have hz := bk_func hs; rw [r3] at hz; exact hz)
              have HA3 : Hid (∀ W, Spaces w w.heap.size W (bkL w.heap.size (w.heap.size + 1) #[.slice DA dn dc, .slice FA fn fc] #[.int .i64 AK, .int .i64 AR, .int .i64 AN, .int .i64 AB, .int .u64 AV, .slice XA n xc, .int .i64 AE, .int .i64 AC] sb S3 [.box g cur 5]) → Calls Tryz.prog 35 #[.pointer (some ⟨sb, 0, none⟩)] W (SpsDone w w.heap.size (bkL w.heap.size (w.heap.size + 1) #[.slice DA dn dc, .slice FA fn fc] #[.int .i64 AK, .int .i64 AR, .int .i64 AN, .int .i64 AB, .int .u64 AV, .slice XA n xc, .int .i64 AE, .int .i64 AC] sb S3 [.box g cur 5]) (.int .u64 x))) := Lib.hid (fun W hs => by have hz := bk_at hs; rw [r4, ← HX.out] at hz; exact hz)
              have HD3 : Hid (∀ W, Spaces w w.heap.size W (bkL w.heap.size (w.heap.size + 1) #[.slice DA dn dc, .slice FA fn fc] #[.int .i64 AK, .int .i64 AR, .int .i64 AN, .int .i64 AB, .int .u64 AV, .slice XA n xc, .int .i64 AE, .int .i64 AC] sb S3 [.box g cur 5]) → Calls Tryz.prog 34 #[.pointer (some ⟨sb, 0, none⟩)] W (SpsDone w w.heap.size (bkL w.heap.size (w.heap.size + 1) #[.slice DA dn dc, .slice FA fn fc] #[.int .i64 AK, .int .i64 AR, .int .i64 AN, .int .i64 AB, .int .u64 AV, .slice XA n xc, .int .i64 AE, .int .i64 AC] sb S3 [.box g cur 5]) (.int .i64 dl))) := Lib.hid (fun W hs => by have hz := bk_depth hs; rw [r5, ← HDL.out] at hz; exact hz)
              have HP3 : Hid (∀ W, Spaces w w.heap.size W (bkL w.heap.size (w.heap.size + 1) #[.slice DA dn dc, .slice FA fn fc] #[.int .i64 AK, .int .i64 AR, .int .i64 AN, .int .i64 AB, .int .u64 AV, .slice XA n xc, .int .i64 AE, .int .i64 AC] sb S3 [.box g cur 5]) → Calls Tryz.prog 32 #[.pointer (some ⟨sb, 0, none⟩)] W (SpsDone w w.heap.size (bkL w.heap.size (w.heap.size + 1) #[.slice DA dn dc, .slice FA fn fc] #[.int .i64 AK, .int .i64 AR, .int .i64 AN, .int .i64 AB, .int .u64 AV, .slice XA n xc, .int .i64 AE, .int .i64 AC] sb S3 [.box g cur 5]) (.int .i64 AB))) := Lib.hid (fun W hs => by have hz := bk_place hs; rw [r6] at hz; exact hz)
              have HH3 : Hid (∀ W, Spaces w w.heap.size W (bkL w.heap.size (w.heap.size + 1) #[.slice DA dn dc, .slice FA fn fc] #[.int .i64 AK, .int .i64 AR, .int .i64 AN, .int .i64 AB, .int .u64 AV, .slice XA n xc, .int .i64 AE, .int .i64 AC] sb S3 [.box g cur 5]) → Calls Tryz.prog 49 #[.pointer (some ⟨sb, 0, none⟩), .int .i64 AR, .int .u64 v] W (SpsDone w w.heap.size (bkL w.heap.size (w.heap.size + 1) #[.slice DA dn dc, .slice FA fn fc] #[.int .i64 AK, .int .i64 AR, .int .i64 AN, .int .i64 AB, .int .u64 AV, .slice XA n xc, .int .i64 AE, .int .i64 AC] sb S3 [.box g cur 5]) (.bool true))) := Lib.hid (fun W hs => by have hz := bk_has hs AR v HAF.out.1; rw [r7, r8] at hz; simpa using hz)
              have HM3 : Hid (S3.mem.length = nn ∧ (decide (0 < sn) = false → ∀ k : Nat, S.at_ ≤ k → ¬ (S.at_ + 8 * AR ≤ k ∧ k < S.at_ + 8 * AR + 8) → S3.mem.getD k 0 = S.mem.getD k 0)) := Lib.hid ⟨by rw [r9, HOK.out.len, HSZ.out], r10⟩
              obtain ⟨c0, c1, c2, c3, c4, c5, c6, c7⟩ := HCX.out _ _ _ S20a.out
              have hq1 : ((S.f : Int) != (S.f : Int)) = false := by simp
              have hq2 : (x != x) = false := by simp
              have hq3 : ((dl : Int) != (dl : Int)) = false := by simp
              have hq4 : (AB != AB) = false := by simp
              clear r1 r2 r3 r4 r5 r6 r7 r8 r9 r10 hS3 HH2 S20a hlt2 S17
              go_wp2
              go_region_held3 (fun W => W.cell? ⟨w.heap.size + 1, 1, none⟩ = some (.int .i64 AR) ∧ W.cell? ⟨w.heap.size + 1, 3, none⟩ = some (.int .i64 AB))
                (first | with_reducible exact K26.out | with_reducible exact K25.out | with_reducible exact K24.out | with_reducible exact K23.out | with_reducible exact K22.out | with_reducible exact K21.out | go_keep)
                (first
                  | (go_at_call 41; (with_reducible refine (HRE.out _ S20.out).mono ?_); rintro e w21 ⟨rfl, hs⟩; have S21 := Lib.hid hs; have K21 := Lib.hid (And.intro (HCX.out _ _ _ hs).2.1 (HCX.out _ _ _ hs).2.2.2.1); clear hs)
                  | (go_at_call 31; (with_reducible refine (HF3.out _ S21.out).mono ?_); rintro e w22 ⟨rfl, hs⟩; have S22 := Lib.hid hs; have K22 := Lib.hid (And.intro (HCX.out _ _ _ hs).2.1 (HCX.out _ _ _ hs).2.2.2.1); clear hs)
                  | (go_at_call 35; (with_reducible refine (HA3.out _ S22.out).mono ?_); rintro e w23 ⟨rfl, hs⟩; have S23 := Lib.hid hs; have K23 := Lib.hid (And.intro (HCX.out _ _ _ hs).2.1 (HCX.out _ _ _ hs).2.2.2.1); clear hs)
                  | (go_at_call 34; (with_reducible refine (HD3.out _ S23.out).mono ?_); rintro e w24 ⟨rfl, hs⟩; have S24 := Lib.hid hs; have K24 := Lib.hid (And.intro (HCX.out _ _ _ hs).2.1 (HCX.out _ _ _ hs).2.2.2.1); clear hs)
                  | (go_at_call 32; (with_reducible refine (HP3.out _ S24.out).mono ?_); rintro e w25 ⟨rfl, hs⟩; have S25 := Lib.hid hs; have K25 := Lib.hid (And.intro (HCX.out _ _ _ hs).2.1 (HCX.out _ _ _ hs).2.2.2.1); clear hs)
                  | (go_at_call 49; (with_reducible refine (HH3.out _ S25.out).mono ?_); rintro e w26 ⟨rfl, hs⟩; have S26 := Lib.hid hs; have K26 := Lib.hid (And.intro (HCX.out _ _ _ hs).2.1 (HCX.out _ _ _ hs).2.2.2.1); clear hs))
              have S27 := Lib.hid S26.out
              clear S20 S21 S22 S23 S24 S25 S26 K21 K22 K23 K24 K25 K26 HRE HF3 HA3 HD3 HP3 HH3 hq1 hq2 hq3 hq4 c0 c1 c2 c3 c4 c5 c6 c7
              have hby := bytes_from15 HM3.out.1 (HX.out ▸ hx0) (show S.at_ ≤ (nn : Int) by rw [← HX.out]; omega)
              obtain ⟨xs3, hxs3⟩ : ∃ xs3, xs3 = bytesL S3.mem S.at_ ((nn : Int) - S.at_) := ⟨_, rfl⟩
              rw [← hxs3] at hby
              have HB3 := Lib.hid hby
              have hL3 : xs3.length = L0 := by
                have h1 := hby.2.1
                rw [← HX.out] at h1
                omega
              have HYZ : Hid (∀ (W : World) (mb : Nat), Spaces w w.heap.size W (bkL w.heap.size (w.heap.size + 1) #[.slice DA dn dc, .slice FA fn fc] #[.int .i64 AK, .int .i64 AR, .int .i64 AN, .int .i64 AB, .int .u64 AV, .slice XA n xc, .int .i64 AE, .int .i64 AC] sb S3 [.box g cur 5]) → W.cell? ⟨sb, 9, none⟩ = some (.pointer (some ⟨mb, 0, none⟩)) → Calls Tryz.prog 47 #[.pointer (some ⟨mb, 0, none⟩), .int .u64 x, .int .i64 ((nn : Int) - x)] W (BytesDone W xs3 0)) := Lib.hid (fun W mb hs hc => by
                have hz := bk_bytes hs hc S.at_ ((nn : Int) - S.at_) (by rw [← HX.out]; omega) (by rw [← HX.out]; omega) (by rw [← HX.out]; omega)
                rw [← hxs3, hby.1, ← HX.out] at hz
                exact hz)
              have HL3 := Lib.hid hL3
              have hLp : 0 < L0 := by omega
              have hAR : AR ≤ 500 := by omega
              have HAT : Hid (∀ k, k < L0 → sn = 0 → xs0.getD k 0 ≠ xs3.getD k 0 → 8 * AR ≤ (k : Int) ∧ (k : Int) < 8 * AR + 8) := Lib.hid (fun k hk hz hne => by
                have e1 := HBF.out.2.2 k (by rw [← HL0.out]; exact hk)
                have e2 := HB3.out.2.2 k (by rw [HL3.out]; exact hk)
                rw [e1, e2] at hne
                have hfar := HM3.out.2 (by rw [hz]; rfl) (S.at_.toNat + k)
                have hx16 : 16 ≤ S.at_ := HX.out ▸ hx0
                by_cases hc : S.at_ + 8 * AR ≤ ((S.at_.toNat + k : Nat) : Int) ∧ ((S.at_.toNat + k : Nat) : Int) < S.at_ + 8 * AR + 8
                · omega
                · exact absurd (hfar (by omega) hc).symm hne)
              clear hby hxs3 hL3
              go_wp2_with (first
                | (go_at_call 30; (with_reducible refine (bk_memory S27.out).mono ?_); rintro e w28 ⟨mb2, rfl, hs, hc⟩; have S28 := Lib.hid hs; have HBZ := Lib.hid (HYZ.out _ _ hs hc); clear hs hc)
                | (go_at_call 47; (with_reducible refine HBZ.out.mono ?_); rintro e w30 hby; obtain ⟨g2, bc2, cur2, rfl, hg, hb, hxg, hcp2, hrd⟩ := bytes_box15 hby (by rw [HL3.out]; exact hLp); rw [HL3.out] at hcp2 hrd ⊢; have HRD2 := Lib.hid hrd; have S30 := Lib.hid (show Spaces w w.heap.size w30 (bkL w.heap.size (w.heap.size + 1) #[.slice DA dn dc, .slice FA fn fc] #[.int .i64 AK, .int .i64 AR, .int .i64 AN, .int .i64 AB, .int .u64 AV, .slice XA n xc, .int .i64 AE, .int .i64 AC] sb S3 [.box g cur 5, .box g2 cur2 5]) from S28.out.addBoxAt hb hxg hg); clear hby hg hb hxg hrd))
              have C0 := Lib.hid (HRD.out w30 (S30.out.boxAt (i := 3) rfl))
              have C3 := Lib.hid (HRD2.out w30 (S30.out.boxAt (i := 4) rfl))
              have hl0I : (0 : Int) < (L0 : Int) := by omega
              obtain ⟨c0, c1, c2, c3, c4, c5, c6, c7⟩ := HCX.out _ _ _ S30.out
              by_cases hs0 : sn = 0
              · have hsnb : ((sn : Int) == 0) = true := by simp; omega
                have HS0 := Lib.hid hs0
                have hL0b : L0 ≤ 4000 := by omega
                clear hs0 hLx
                go_loopw [25] (fun v25 wr => ∃ k q : Nat, v25 = .int .i64 k ∧ k ≤ L0 ∧ wr = w30.drewN q) (fun v25 _ => L0 - (intOf v25).toNat)
                case atStart => exact ⟨0, 0, rfl, by omega, rfl⟩
                case round =>
                  obtain ⟨k, q, rfl, hk, rfl⟩ := hrel
                  by_cases hkl : k < L0
                  · have k0 : (0 : Int) ≤ (k : Int) := by omega
                    have k1 : (k : Int) < (L0 : Int) := by omega
                    have d0 := C0.out k hkl
                    have d3 := C3.out k hkl
                    have hnear := HAT.out k hkl HS0.out
                    obtain ⟨a, ha⟩ : ∃ a, a = xs0.getD k 0 := ⟨_, rfl⟩
                    obtain ⟨b, hb⟩ : ∃ b, b = xs3.getD k 0 := ⟨_, rfl⟩
                    rw [← ha] at d0 hnear
                    rw [← hb] at d3 hnear
                    clear ha hb
                    by_cases hab : a = b
                    · subst hab
                      have hqa : (a != a) = false := by simp
                      clear hnear
                      go_wp2
                      go_quiet (fail)
                      go_wp2
                      go_roundw
                      case rel => exact ⟨k + 1, _, by go_num, by omega, rfl⟩
                      case measure => simp [intOf]; omega
                    · have hn1 := hnear hab
                      have hqa : (a != b) = true := by simpa using hab
                      have hlo : decide ((k : Int) < 8 * AR) = false := by simp; omega
                      have hhi : decide (8 * AR + 8 ≤ (k : Int)) = false := by simp; omega
                      have hw1 : IntKind.i64.wrap (8 * AR) = 8 * AR := IntWalk.i64_in _ (by omega)
                      have hw2 : IntKind.i64.wrap (8 * AR + 8) = 8 * AR + 8 := IntWalk.i64_in _ (by omega)
                      clear hnear hab hn1
                      go_wp2
                      go_quiet (fail)
                      clear hw1 hw2
                      go_wp2
                      go_roundw
                      case rel => exact ⟨k + 1, _, by go_num, by omega, rfl⟩
                      case measure => simp [intOf]; omega
                  · obtain rfl : L0 = k := by omega
                    go_wp2
                    go_ret
                    exact ⟨rfl, below_drewN S30.out.bel q⟩
              · have hsnb : ((sn : Int) == 0) = false := by simp; omega
                clear hs0 hLx
                go_loopw [25] (fun v25 wr => v25 = .int .i64 0 ∧ wr = w30) (fun _ _ => 0)
                case atStart => exact ⟨rfl, rfl⟩
                case round =>
                  obtain ⟨rfl, rfl⟩ := hrel
                  go_wp2
                  go_ret
                  exact ⟨rfl, S30.out.bel⟩
        · have hlk : (S.callS AN AA AR AB).links.length = S.links.length := by
            unfold SpV.callS
            by_cases h0 : S.callE AN AA AR AB = 0
            · rw [if_pos h0, if_pos (by simpa [h0] using hgo)]
            · rw [if_neg h0]
          have HCA : Hid (∀ W, Spaces w w.heap.size W (bkL w.heap.size (w.heap.size + 1) #[.slice DA dn dc, .slice FA fn fc] #[.int .i64 AK, .int .i64 AR, .int .i64 AN, .int .i64 AB, .int .u64 AV, .slice XA n xc, .int .i64 AE, .int .i64 AC] sb S []) → Calls Tryz.prog 40 #[.pointer (some ⟨sb, 0, none⟩), .int .i64 AN, .slice XA n xc, .int .i64 AR, .int .i64 AB] W (SpsDone w w.heap.size (bkL w.heap.size (w.heap.size + 1) #[.slice DA dn dc, .slice FA fn fc] #[.int .i64 AK, .int .i64 AR, .int .i64 AN, .int .i64 AB, .int .u64 AV, .slice XA n xc, .int .i64 AE, .int .i64 AC] sb (S.callS AN AA AR AB) []) (.int .i64 (S.callE AN AA AR AB)))) := Lib.hid (fun W hs => bk_call hs AN AR AB _ AA HAF.out.2.1 HAF.out.1 HAF.out.2.2.1 (HAF.out.2.2.2.2 W hs.bel))
          have HDD : Hid (∀ W, Spaces w w.heap.size W (bkL w.heap.size (w.heap.size + 1) #[.slice DA dn dc, .slice FA fn fc] #[.int .i64 AK, .int .i64 AR, .int .i64 AN, .int .i64 AB, .int .u64 AV, .slice XA n xc, .int .i64 AE, .int .i64 AC] sb (S.callS AN AA AR AB) []) → Calls Tryz.prog 34 #[.pointer (some ⟨sb, 0, none⟩)] W (SpsDone w w.heap.size (bkL w.heap.size (w.heap.size + 1) #[.slice DA dn dc, .slice FA fn fc] #[.int .i64 AK, .int .i64 AR, .int .i64 AN, .int .i64 AB, .int .u64 AV, .slice XA n xc, .int .i64 AE, .int .i64 AC] sb (S.callS AN AA AR AB) []) (.int .i64 S.links.length))) := Lib.hid (fun W hs => by rw [← hlk]; exact bk_depth hs)
          clear hgo hlk
          obtain ⟨ce, hce⟩ : ∃ ce, ce = S.callE AN AA AR AB := ⟨_, rfl⟩
          rw [← hce] at HCA
          clear hce
          by_cases hc0 : ce = 0
          · subst hc0
            go_wp2_with (first
              | (go_at_call 31; (with_reducible refine (bk_func S5.out).mono ?_); rintro e w6 ⟨rfl, hs⟩; have S6 := Lib.hid hs; clear hs)
              | (go_at_call 35; (with_reducible refine (bk_at S6.out).mono ?_); rintro e w7 ⟨rfl, hs⟩; have S7 := Lib.hid hs; clear hs)
              | (go_at_call 34; (with_reducible refine (bk_depth S7.out).mono ?_); rintro e w8 ⟨rfl, hs⟩; have S8 := Lib.hid hs; clear hs)
              | (go_at_call 30; (with_reducible refine (bk_memory S8.out).mono ?_); rintro e w9 ⟨mb, rfl, hs, hc⟩; have S9 := Lib.hid hs; have HBY := Lib.hid (bk_bytes hs hc S.at_ ((nn : Int) - S.at_) (by omega) (by omega) (by omega)); clear hs hc)
              | (go_at_call 47; (with_reducible refine HBY.out.mono ?_); rintro e w10 ⟨bv, rfl, ho, hb⟩; obtain ⟨BA, bc, hbe⟩ := owns_len14 ho; subst hbe; have S10 := Lib.hid (S9.out.grow hb); obtain ⟨b0, b1⟩ := cells2_14 (S10.out.boxAt (i := 0) rfl); obtain ⟨c0, c1, c2, c3, c4, c5, c6, c7⟩ := cells8 (S10.out.boxAt (i := 1) rfl); clear ho hb)
              | (go_at_call 40; (with_reducible refine (HCA.out _ S10.out).mono ?_); rintro e w11 ⟨rfl, hs⟩; have S11 := Lib.hid hs; clear hs)
              | (go_at_call 34; (with_reducible refine (HDD.out _ S11.out).mono ?_); rintro e w12 ⟨rfl, hs⟩; have S12 := Lib.hid hs; clear hs)
              | (go_at_call 34; (with_reducible refine (HDD.out _ S12.out).mono ?_); rintro e w13 ⟨rfl, hs⟩; have S13 := Lib.hid hs; clear hs))
            go_ret
            exact ⟨rfl, S13.out.bel⟩
          · have hcb : (ce != 0) = true := by simpa using hc0
            clear hc0
            go_wp2_with (first
              | (go_at_call 31; (with_reducible refine (bk_func S5.out).mono ?_); rintro e w6 ⟨rfl, hs⟩; have S6 := Lib.hid hs; clear hs)
              | (go_at_call 35; (with_reducible refine (bk_at S6.out).mono ?_); rintro e w7 ⟨rfl, hs⟩; have S7 := Lib.hid hs; clear hs)
              | (go_at_call 34; (with_reducible refine (bk_depth S7.out).mono ?_); rintro e w8 ⟨rfl, hs⟩; have S8 := Lib.hid hs; clear hs)
              | (go_at_call 30; (with_reducible refine (bk_memory S8.out).mono ?_); rintro e w9 ⟨mb, rfl, hs, hc⟩; have S9 := Lib.hid hs; have HBY := Lib.hid (bk_bytes hs hc S.at_ ((nn : Int) - S.at_) (by omega) (by omega) (by omega)); clear hs hc)
              | (go_at_call 47; (with_reducible refine HBY.out.mono ?_); rintro e w10 ⟨bv, rfl, ho, hb⟩; obtain ⟨BA, bc, hbe⟩ := owns_len14 ho; subst hbe; have S10 := Lib.hid (S9.out.grow hb); obtain ⟨b0, b1⟩ := cells2_14 (S10.out.boxAt (i := 0) rfl); obtain ⟨c0, c1, c2, c3, c4, c5, c6, c7⟩ := cells8 (S10.out.boxAt (i := 1) rfl); clear ho hb)
              | (go_at_call 40; (with_reducible refine (HCA.out _ S10.out).mono ?_); rintro e w11 ⟨rfl, hs⟩; have S11 := Lib.hid hs; clear hs)
              | (go_at_call 34; (with_reducible refine (HDD.out _ S11.out).mono ?_); rintro e w12 ⟨rfl, hs⟩; have S12 := Lib.hid hs; clear hs)
              | (go_at_call 34; (with_reducible refine (HDD.out _ S12.out).mono ?_); rintro e w13 ⟨rfl, hs⟩; have S13 := Lib.hid hs; clear hs))
            go_ret
            exact ⟨rfl, S12.out.bel⟩
  · have HE := Lib.hid hE
    obtain ⟨xe, hxe⟩ : ∃ xe, xe = newE15 m (16 * (1 + (pk : Int))) 100 := ⟨_, rfl⟩
    have HXE : Hid (xe = newE15 m (16 * (1 + (pk : Int))) 100) := Lib.hid hxe
    rw [← hxe] at hE
    have hxb : (xe != 0) = true := by simpa using hE
    clear hxe hE
    go_enter Tryz.func7, Tryz.ntmps7
    go_wp2_with (first
      | (rw [← HW.out])
      | (go_at_call 6; (with_reducible refine (known15 _).mono ?_); rintro e w1 ⟨rfl, hb⟩; have S1 := Lib.hid (S0.out.grow hb); obtain ⟨b0, b1⟩ := cells2_14 (S1.out.boxAt (i := 0) rfl); obtain ⟨c0, c1, c2, c3, c4, c5, c6, c7⟩ := cells8 (S1.out.boxAt (i := 1) rfl); clear hb)
      | (go_at_call 25; (with_reducible refine (HP.out _).mono ?_); rintro e w' ⟨rfl, rfl⟩)
      | (go_at_call 10; (with_reducible refine (HLG.out _ S1.out.bel).mono ?_); rintro e w2 ⟨rfl, hb⟩; have S2 := Lib.hid (S1.out.grow hb); obtain ⟨b0, b1⟩ := cells2_14 (S2.out.boxAt (i := 0) rfl); obtain ⟨c0, c1, c2, c3, c4, c5, c6, c7⟩ := cells8 (S2.out.boxAt (i := 1) rfl); clear hb)
      | (go_at_call 11; (with_reducible refine (HLL.out _ S2.out.bel).mono ?_); rintro e w' ⟨rfl, rfl⟩)
      | (go_at_call 11; (with_reducible refine (HL1.out _ S2.out.bel).mono ?_); rintro e w' ⟨rfl, rfl⟩; obtain ⟨w3, hw3⟩ : ∃ w3, w3 = w2.alloc (.cells #[.int .i64 AK, .int .i64 AR, .int .i64 AN, .int .i64 AB, .int .u64 AV, .slice XA n xc, .int .i64 AE, .int .i64 AC] 47) := ⟨_, rfl⟩; have S3 := Lib.hid (S2.out.grow (below_one14 w2 (.cells #[.int .i64 AK, .int .i64 AR, .int .i64 AN, .int .i64 AB, .int .u64 AV, .slice XA n xc, .int .i64 AE, .int .i64 AC] 47))); rw [← hw3] at S3 ⊢; obtain ⟨b0, b1⟩ := cells2_14 (S3.out.boxAt (i := 0) rfl); obtain ⟨c0, c1, c2, c3, c4, c5, c6, c7⟩ := cells8 (S3.out.boxAt (i := 1) rfl); clear hw3)
      | (go_at_call 15; (with_reducible refine (HNEW.out _ S3.out).mono ?_); rintro e w4 hn; have hn1 := hn.2.resolve_right (fun q => HE.out q.1); rw [← HXE.out] at hn1; obtain ⟨_, rfl, hs⟩ := hn1; have S4 := Lib.hid hs; clear hn hs))
    go_ret
    exact ⟨rfl, S4.out.bel⟩
end
theorem back15 (D F V SV : Value) (data ss : List Int) (fs : List FunV) (l : List ActS) (A : ActS) (w : World) (hD : IsBytes w w.heap.size D data) (hF : IsFuns w w.heap.size F fs) (hV : IsActS w w.heap.size V l) (hA : A.ok w w.heap.size) (hS : IsNums .u64 w w.heap.size SV ss) (hin : ∀ x ∈ ss, 0 ≤ x ∧ x < 18446744073709551616) (mm v : Int) (hm : InI mm) (hv : 0 ≤ v ∧ v < 18446744073709551616) :
    Calls Tryz.prog 7 #[.agg #[D, F], .int .i64 mm, V, .agg A.arr, SV, .int .u64 v] w (Makes w (.bool true)) := by
  obtain ⟨DA, dc, rfl⟩ := hD.len
  obtain ⟨FA, fc, rfl⟩ := hF.len
  obtain ⟨LA, lc, rfl⟩ := hV.len
  obtain ⟨SA, sc, rfl⟩ := hS.len
  have h : BackIn w data ss fs l A DA FA LA SA dc fc lc sc := ⟨hD, hF, hV, hA, hS, hin⟩
  cases h1 : longM ⟨data, fs⟩ with
  | true => exact back15_none h mm v hm (.inl h1)
  | false =>
    cases h2 : longS l with
    | true => exact back15_none h mm v hm (.inr (.inl h2))
    | false => cases h3 : longS [A] with
      | true => exact back15_none h mm v hm (.inr (.inr (.inl h3)))
      | false =>
        by_cases h4 : 20 < ss.length
        · exact back15_none h mm v hm (.inr (.inr (.inr h4)))
        · exact back15_main h mm v hm hv h1 h2 ⟨h3, Nat.le_of_not_lt h4⟩
end Go.Proofs.YtkfdgpgildanbaaGreat
