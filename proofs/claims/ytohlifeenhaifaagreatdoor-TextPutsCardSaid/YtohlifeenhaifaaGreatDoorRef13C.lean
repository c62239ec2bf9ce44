/- The document's own line of an instruction (twinshaftref13.Ins). Contract; no condition but that its numbers are numbers of the machine, and few. -/
import Derived.Test.YtohlifeenhaifaaGreatDoorRef13B
import Derived.Test.YtohlifeenhaifaaGreatDoorS29
import Derived.Test.YtohlifeenhaifaaGreatDoorS03
import Derived.LoopTactic
namespace Go.Proofs.YtohlifeenhaifaaGreatDoor
open Go.RowKit Go.Shelf
set_option linter.unusedVariables false
set_option linter.unusedSimpArgs false

/-- What the letters from one on add. -/
def tailT13 (n : Int) (args : List Int) (L rs : List Int) : List Int := ((itemsL n args L rs).map (·.2)).flatMap (fun v => 32 :: numL v)
theorem tailT_reg (n : Int) (args : List Int) {q : Int} (L rs : List Int) (h : isReg q = true) : tailT13 n args (q :: L) rs = (32 :: numL (rs.headD 0)) ++ tailT13 n args L rs.tail := by
  unfold tailT13
  simp [itemsL, heldOf, restOf, h]
theorem tailT_args (n : Int) (args : List Int) (L rs : List Int) : tailT13 n args (108 :: L) rs = args.flatMap (fun v => 32 :: numL v) ++ tailT13 n args L rs := by
  have h : isReg 108 = false := by decide
  unfold tailT13
  simp [itemsL, heldOf, restOf, h, List.flatMap_map, Function.comp]
theorem tailT_num (n : Int) (args : List Int) {q : Int} (L rs : List Int) (h : isReg q = false) (hq : q ≠ 108) : tailT13 n args (q :: L) rs = (32 :: numL n) ++ tailT13 n args L rs := by
  unfold tailT13
  simp [itemsL, heldOf, restOf, h, hq]
theorem str_blank (p l : List Int) : strOfNums p ++ (⟨#[32]⟩ : ByteArray) ++ strOfNums l = strOfNums (p ++ 32 :: l) := by
  rw [show (⟨#[32]⟩ : ByteArray) = strOfNums [32] by decide, ← str_app, ← str_app]
  simp
theorem cells3n {W : World} {g : Nat} {v0 v1 v2 : Value} {t : TypeId} {m : Nat × Nat} (h : W.heap[g]? = some (.cells #[v0, v1, v2] t m)) : W.cell? ⟨g, 0, none⟩ = some v0 ∧ W.cell? ⟨g, 1, none⟩ = some v1 ∧ W.cell? ⟨g, 2, none⟩ = some v2 := by
  refine ⟨?_, ?_, ?_⟩ <;> simp [World.cell?, h]
theorem flat_take (l : List Int) {t : Nat} (h : t < l.length) : (l.take (t + 1)).flatMap (fun v => 32 :: numL v) = (l.take t).flatMap (fun v => 32 :: numL v) ++ 32 :: numL (l.getD t 0) := by
  rw [List.take_succ_eq_append_getElem h, List.flatMap_append, List.getD, List.getElem?_eq_getElem h]
  simp
set_option maxRecDepth 100000 in
set_option maxHeartbeats 8000000 in
theorem rins13_any (op a b c n : Int) (X : Value) (args : List Int) (w : World) (hX : IsNums .i64 w w.heap.size X args) (hI : InI a ∧ InI b ∧ InI c ∧ InI n) (hAr : ∀ x ∈ args, InI x) (hm : args.length ≤ 100000) :
    Calls Tryz.prog 16 #[.agg (insCells op a b c n X)] w (Makes w (.string (strOfNums (insT ⟨op, a, b, c, n, args⟩)))) := by
  obtain ⟨A, cap, rfl⟩ := hX.len
  obtain ⟨w0, hw0⟩ : ∃ w0, w0 = w.alloc (.cells (insCells op a b c n (.slice A args.length cap)) 28) := ⟨_, rfl⟩
  have hb0 : Below w.heap.size w w0 := by rw [hw0]; exact (Below.refl _ _).alloc (Nat.le_refl _) _
  have hx0 : w0.heap[w.heap.size]? = some (.cells (insCells op a b c n (.slice A args.length cap)) 28 (0, 0)) := by rw [hw0]; exact heap_alloc_new w _
  have HBX : Hid (∀ W, Below w0.heap.size w0 W → W.heap[w.heap.size]? = some (.cells (insCells op a b c n (.slice A args.length cap)) 28 (0, 0))) := Lib.hid (fun W hb => box_below hx0 hb)
  have HXN : Hid (∀ W, Below w0.heap.size w0 W → IsNums .i64 W w.heap.size (.slice A args.length cap) args) := Lib.hid (fun W hb => (hX.below hb0 (Nat.le_refl _)).below hb hb0.size)
  have HB0 := Lib.hid hb0
  have hlen := shape_len13 op
  have HSR := Lib.hid (okShape_reg (shapes_ok op))
  have HNM := Lib.hid (fun W => rname_any op W)
  have HSH := Lib.hid (fun W => rshape_any op W)
  have HNU := Lib.hid (fun (v : Int) (h : InI v) W => rnum13_any v h W)
  have HIN := Lib.hid hI
  have HAR := Lib.hid hAr
  have HM := Lib.hid hm
  have HT : Hid (lettersOf (nameI op) ++ tailT13 n args (lettersOf (shapeI op)) [a, b, c] = insT ⟨op, a, b, c, n, args⟩) := Lib.hid rfl
  have hnl := hlen.2
  generalize insT ⟨op, a, b, c, n, args⟩ = T at *
  obtain ⟨nm, hnm⟩ : ∃ nm, nm = nameI op := ⟨_, rfl⟩
  have HNL : Hid ((lettersOf nm).length ≤ 20) := Lib.hid (by rw [hnm]; omega)
  have HNS : Hid (nm = strOfNums (lettersOf nm)) := Lib.hid (str_letters nm).symm
  rw [← hnm] at HNM HT
  obtain ⟨sh, hsh⟩ : ∃ sh, sh = shapeI op := ⟨_, rfl⟩
  have HL : Hid (sh.size ≤ 3) := Lib.hid (by
    have h := hlen.1
    rw [← hsh, letters_len] at h
    exact h)
  rw [← hsh] at HSR HSH HT
  obtain ⟨c0, c1, c2, c3, c4, c5⟩ := cells6 hx0
  have HW0 := Lib.hid hw0
  rw [hw0] at c0
  clear hX hI hAr hm hlen hnl hnm hsh hb0 hx0 hw0 c1 c2 c3 c4 c5
  go_enter Tryz.func16, Tryz.ntmps16
  go_wp2_with (first
    | (go_at_call 34; rw [← HW0.out]; (with_reducible refine (HNM.out _).mono ?_); rintro e w1 ⟨rfl, hb⟩; have HB1 := Lib.hid hb; obtain ⟨d0, d1, d2, d3, d4, d5⟩ := cells6 (HBX.out _ hb); clear hb)
    | (go_at_call 35; (with_reducible refine (HSH.out _).mono ?_); rintro e w2 ⟨rfl, hw⟩; subst hw))
  clear c0 d0 d1 d2 d3 d4 d5
  obtain ⟨g, hg⟩ : ∃ g, g = w1.heap.size := ⟨_, rfl⟩
  obtain ⟨W4, hW4⟩ : ∃ W4, W4 = w1.alloc (.cells #[.int .i64 a, .int .i64 b, .int .i64 c] 3) := ⟨_, rfl⟩
  have hg4 : W4.heap[g]? = some (.cells #[.int .i64 a, .int .i64 b, .int .i64 c] 3 (0, 0)) := by rw [hW4, hg]; exact heap_alloc_new w1 _
  have hb4 : Below w0.heap.size w0 W4 := by rw [hW4]; exact HB1.out.alloc HB1.out.size _
  rw [← hW4, ← hg]
  have HRG : Hid (∀ W, Below W4.heap.size W4 W → ∀ j, j < 3 → W.cell? ⟨g, j, none⟩ = some (.int .i64 (([a, b, c] : List Int).getD j 0))) := Lib.hid (fun W hb j hj => by
    obtain ⟨e0, e1, e2⟩ := cells3n (box_below hg4 hb)
    rcases (show j = 0 ∨ j = 1 ∨ j = 2 by omega) with rfl | rfl | rfl <;> assumption)
  have HB4 := Lib.hid hb4
  clear hg hW4 hg4 hb4 HB1 HSH HNM HW0
  go_loopw [3, 5, 6, 7] (fun v3 v5 v6 _ wr => ∃ (k j : Nat) (pre : List Int) (o : ByteArray), k ≤ sh.size ∧ RegS g j v5 ∧ v6 = .int .i64 k ∧ v3 = .string o ∧ Hid (o = strOfNums pre ∧ pre ++ tailT13 n args ((lettersOf sh).drop k) (([a, b, c] : List Int).drop j) = T ∧ j + regN ((lettersOf sh).drop k) ≤ 3 ∧ pre.length ≤ 20 + k * 3000000 ∧ Below W4.heap.size W4 wr)) (fun _ _ v6 _ _ => sh.size - (intOf v6).toNat)
  case atStart => exact ⟨0, 0, lettersOf nm, nm, Nat.zero_le _, ⟨_, rfl, fun _ => rfl⟩, rfl, rfl, Lib.hid ⟨HNS.out, HT.out, by simpa using HSR.out, by have := HNL.out; omega, Below.refl _ _⟩⟩
  case round =>
    obtain ⟨k, j, pre, o, hk, hr, rfl, rfl, HG⟩ := hrel
    have k0 : (0 : Int) ≤ (k : Int) := by omega
    by_cases hlt : k < sh.size
    · have hdr := letters_drop sh hlt
      have hi := HG.out.2.1
      have hj := HG.out.2.2.1
      rw [hdr] at hi hj
      obtain ⟨q, hq⟩ : ∃ q : Int, q = (sh[k].toNat : Int) := ⟨_, rfl⟩
      rw [← hq] at hi hj
      have HI := Lib.hid hi
      have HJ := Lib.hid hj
      have HQ := Lib.hid hq
      have HO := Lib.hid HG.out.1
      have HPL := Lib.hid HG.out.2.2.2.1
      have HBW := Lib.hid HG.out.2.2.2.2
      have HLT := Lib.hid (show k < 3 by have := HL.out; omega)
      have HKS := Lib.hid hlt
      have hk3 : (k : Int) < 3 := by have := HLT.out; omega
      have hos : o.size ≤ 9000020 := by
        have h1 := HPL.out
        have h2 := HLT.out
        rw [HO.out, strOfNums_size]
        omega
      clear hi hj hdr HG
      by_cases hreg : isReg q = true
      · have hregq : q = 119 ∨ q = 114 := of_decide_eq_true hreg
        have HJ' : Hid (j + 1 + regN ((lettersOf sh).drop (k + 1)) ≤ 3) := Lib.hid (by have := HJ.out; simp only [regN, hreg, if_true] at this; omega)
        have hj3 : j < 3 := by have := HJ'.out; omega
        obtain ⟨A4, rfl, hA4⟩ := hr
        obtain rfl := hA4 hj3
        have hcr := HRG.out wr HBW.out j hj3
        obtain ⟨v, hv⟩ : ∃ v, v = ([a, b, c] : List Int).getD j 0 := ⟨_, rfl⟩
        rw [← hv] at hcr
        have HVI : Hid (InI v) := Lib.hid (by
          have h := HIN.out
          rcases (show j = 0 ∨ j = 1 ∨ j = 2 by omega) with rfl | rfl | rfl <;> (rw [hv]; first | exact h.1 | exact h.2.1 | exact h.2.2.1))
        have HI' : Hid ((pre ++ 32 :: numL v) ++ tailT13 n args ((lettersOf sh).drop (k + 1)) (([a, b, c] : List Int).drop (j + 1)) = T) := Lib.hid (by
          rw [← HI.out, tailT_reg _ _ _ _ hreg]
          rcases (show j = 0 ∨ j = 1 ∨ j = 2 by omega) with rfl | rfl | rfl <;> (rw [hv]; simp))
        obtain ⟨qn, hqn⟩ : ∃ qn, qn = strOfNums (numL v) := ⟨_, rfl⟩
        have HQN := Lib.hid hqn
        have hql : qn.size ≤ 20 := by rw [hqn, strOfNums_size]; exact num_len HVI.out
        have HCV := Lib.hid (HNU.out v HVI.out)
        rw [← hqn] at HCV
        have hcat1 : ¬ (9223372036854775807 : Int) < (o.size : Int) + 1 := by omega
        have hcat2 : ¬ (9223372036854775807 : Int) < (o.size : Int) + 1 + (qn.size : Int) := by omega
        have HNEW : Hid (o ++ ⟨#[32]⟩ ++ qn = strOfNums (pre ++ 32 :: numL v) ∧ (pre ++ 32 :: numL v).length ≤ 20 + (k + 1) * 3000000) := Lib.hid ⟨by rw [HO.out, hqn, str_blank], by
          have := num_len HVI.out
          have := HPL.out
          simp only [List.length_append, List.length_cons]
          omega⟩
        clear hreg hA4 hv hqn hql hos
        rcases hregq with rfl | rfl <;> rcases (show j = 0 ∨ j = 1 ∨ j = 2 by omega) with rfl | rfl | rfl
        all_goals
          simp only [Nat.sub_zero, Nat.reduceSub, Nat.reduceAdd, Nat.zero_add] at hcr ⊢
          have e3 := hq.symm
          clear hq
          go_wp2_with (go_at_call 28; (with_reducible refine (HCV.out _).mono ?_); rintro e w5 ⟨rfl, hb⟩; have HB5 := Lib.hid (HBW.out.trans (hb.mono HBW.out.size)); clear hb)
          go_roundw
          case rel => exact ⟨k + 1, _, _, _, HKS.out, ⟨_, rfl, fun h => by first | rfl | omega⟩, by go_num, rfl, Lib.hid ⟨HNEW.out.1, HI'.out, HJ'.out, HNEW.out.2, HB5.out⟩⟩
          case measure => have := HKS.out; simp [intOf]; omega
      · have hrb : isReg q = false := by simpa using hreg
        have HJ' : Hid (j + regN ((lettersOf sh).drop (k + 1)) ≤ 3) := Lib.hid (by have := HJ.out; simp only [regN, hrb] at this; simpa using this)
        have hn1 : ¬ (q = 119 ∨ q = 114) := fun h => hreg (decide_eq_true h)
        have hBX : ∀ W, Below W4.heap.size W4 W → W.heap[w.heap.size]? = some (.cells (insCells op a b c n (.slice A args.length cap)) 28 (0, 0)) := fun W hb => HBX.out W (HB4.out.trans (hb.mono HB4.out.size))
        have HBX4 := Lib.hid hBX
        clear hreg hBX
        by_cases h108 : q = 108
        · subst h108
          have HI' : Hid ((pre ++ args.flatMap (fun v => 32 :: numL v)) ++ tailT13 n args ((lettersOf sh).drop (k + 1)) (([a, b, c] : List Int).drop j) = T) := Lib.hid (by
            rw [← HI.out, tailT_args]
            simp)
          have e3 : ((sh[k]'hlt).toNat : Int) = 108 := HQ.out.symm
          obtain ⟨m, hmm⟩ : ∃ m, m = args.length := ⟨_, rfl⟩
          have HMM := Lib.hid hmm
          rw [← hmm] at HBX4 HXN
          obtain ⟨d0, d1, d2, d3, d4, d5⟩ := cells6 (HBX4.out wr HBW.out)
          have HRS := Lib.hid hr
          clear hq hos hrb hn1 hmm d0 d1 d2 d3 d4
          go_wp2
          go_loopw [3, 7] (fun v3 v7 wi => ∃ (t : Nat) (o2 : ByteArray), t ≤ m ∧ v7 = .int .i64 t ∧ v3 = .string o2 ∧ Hid (o2 = strOfNums (pre ++ (args.take t).flatMap (fun v => 32 :: numL v)) ∧ (pre ++ (args.take t).flatMap (fun v => 32 :: numL v)).length ≤ 20 + k * 3000000 + t * 21 ∧ Below W4.heap.size W4 wi)) (fun _ v7 _ => m - (intOf v7).toNat)
          case atStart => exact ⟨0, o, Nat.zero_le _, rfl, rfl, Lib.hid ⟨by rw [HO.out]; simp, Nat.le_trans (Nat.le_of_eq (by simp)) (Nat.le_trans HPL.out (Nat.le_add_right _ _)), HBW.out⟩⟩
          case round =>
            obtain ⟨t, o2, ht, rfl, rfl, HT2⟩ := hrel
            have t0 : (0 : Int) ≤ (t : Int) := by omega
            obtain ⟨f0, f1, f2, f3, f4, f5⟩ := cells6 (HBX4.out wr HT2.out.2.2)
            clear f0 f1 f2 f3 f4
            by_cases hlt2 : t < m
            · have ht3 : (t : Int) < 100000 := by have := HM.out; have := HMM.out; omega
              obtain ⟨ab, ao, ac, hV, _, _, hcl⟩ := (HXN.out wr (HB4.out.trans (HT2.out.2.2.mono HB4.out.size))).plain (by rw [← HMM.out]; omega)
              have hA : A = some ⟨ab, ao, none⟩ := by injection hV
              subst hA
              have z1 := hcl t (by rw [← HMM.out]; exact hlt2)
              have HFT := Lib.hid (flat_take args (t := t) (by rw [← HMM.out]; exact hlt2))
              obtain ⟨v, hv⟩ : ∃ v, v = args.getD t 0 := ⟨_, rfl⟩
              have HVI : Hid (InI v) := Lib.hid (by
                have h2 : t < args.length := by rw [← HMM.out]; exact hlt2
                rw [hv, List.getD, List.getElem?_eq_getElem h2]
                exact HAR.out _ (List.getElem_mem h2))
              rw [← hv] at z1 HFT
              obtain ⟨qn, hqn⟩ : ∃ qn, qn = strOfNums (numL v) := ⟨_, rfl⟩
              have HQN := Lib.hid hqn
              have hql : qn.size ≤ 20 := by rw [hqn, strOfNums_size]; exact num_len HVI.out
              have hos : o2.size ≤ 20000000 := by
                have h1 := HT2.out.2.1
                have h2 := HLT.out
                rw [HT2.out.1, strOfNums_size]
                omega
              have HCV := Lib.hid (HNU.out v HVI.out)
              rw [← hqn] at HCV
              have hcat1 : ¬ (9223372036854775807 : Int) < (o2.size : Int) + 1 := by omega
              have hcat2 : ¬ (9223372036854775807 : Int) < (o2.size : Int) + 1 + (qn.size : Int) := by omega
              have HNEW : Hid (o2 ++ ⟨#[32]⟩ ++ qn = strOfNums (pre ++ (args.take (t + 1)).flatMap (fun v => 32 :: numL v)) ∧ (pre ++ (args.take (t + 1)).flatMap (fun v => 32 :: numL v)).length ≤ 20 + k * 3000000 + (t + 1) * 21) := Lib.hid (by
                have h3 := HT2.out.2.1
                have h4 := num_len HVI.out
                rw [HT2.out.1, hqn, str_blank, HFT.out]
                refine ⟨by simp, ?_⟩
                simp only [List.length_append, List.length_cons] at h3 ⊢
                omega)
              clear hV hcl hv hqn hql hos
              go_wp2_with (go_at_call 28; (with_reducible refine (HCV.out _).mono ?_); rintro e w5 ⟨rfl, hb⟩; have HB5 := Lib.hid (HT2.out.2.2.trans (hb.mono HT2.out.2.2.size)); clear hb)
              go_roundw
              case rel => exact ⟨t + 1, _, hlt2, by go_num, rfl, Lib.hid ⟨HNEW.out.1, HNEW.out.2, HB5.out⟩⟩
              case measure => simp [intOf]; omega
            · obtain rfl : t = m := by omega
              have HTK : Hid (args.take t = args) := Lib.hid (by rw [HMM.out]; exact List.take_length)
              go_wp2
              go_roundw
              case rel => exact ⟨k + 1, j, _, _, HKS.out, HRS.out, by go_num, rfl, Lib.hid ⟨HT2.out.1, by rw [HTK.out]; exact HI'.out, HJ'.out, by have h1 := HT2.out.2.1; have h2 := HM.out; have h3 := HMM.out; omega, HT2.out.2.2⟩⟩
              case measure => have := HKS.out; simp [intOf]; omega
        · have HI' : Hid ((pre ++ 32 :: numL n) ++ tailT13 n args ((lettersOf sh).drop (k + 1)) (([a, b, c] : List Int).drop j) = T) := Lib.hid (by
            rw [← HI.out, tailT_num _ _ _ _ hrb h108]
            simp)
          have e1 : ¬ ((sh[k]'hlt).toNat : Int) = 119 := by rw [← HQ.out]; exact fun h => hn1 (.inl h)
          have e2 : ¬ ((sh[k]'hlt).toNat : Int) = 114 := by rw [← HQ.out]; exact fun h => hn1 (.inr h)
          have e3 : ¬ ((sh[k]'hlt).toNat : Int) = 108 := by rw [← HQ.out]; exact h108
          have e1b : (((sh[k]'hlt).toNat : Int) == 119) = false := by simpa using e1
          have e2b : (((sh[k]'hlt).toNat : Int) == 114) = false := by simpa using e2
          have e3b : (((sh[k]'hlt).toNat : Int) == 108) = false := by simpa using e3
          obtain ⟨d0, d1, d2, d3, d4, d5⟩ := cells6 (HBX4.out wr HBW.out)
          have HRS := Lib.hid hr
          obtain ⟨qn, hqn⟩ : ∃ qn, qn = strOfNums (numL n) := ⟨_, rfl⟩
          have hql : qn.size ≤ 20 := by rw [hqn, strOfNums_size]; exact num_len HIN.out.2.2.2
          have HCV := Lib.hid (HNU.out n HIN.out.2.2.2)
          rw [← hqn] at HCV
          have hcat1 : ¬ (9223372036854775807 : Int) < (o.size : Int) + 1 := by omega
          have hcat2 : ¬ (9223372036854775807 : Int) < (o.size : Int) + 1 + (qn.size : Int) := by omega
          have HNEW : Hid (o ++ ⟨#[32]⟩ ++ qn = strOfNums (pre ++ 32 :: numL n) ∧ (pre ++ 32 :: numL n).length ≤ 20 + (k + 1) * 3000000) := Lib.hid ⟨by rw [HO.out, hqn, str_blank], by
            have := num_len HIN.out.2.2.2
            have := HPL.out
            simp only [List.length_append, List.length_cons]
            omega⟩
          clear hq hos hrb hn1 h108 hqn hql d0 d1 d2 d3 d5
          go_wp2_with (go_at_call 28; (with_reducible refine (HCV.out _).mono ?_); rintro e w5 ⟨rfl, hb⟩; have HB5 := Lib.hid (HBW.out.trans (hb.mono HBW.out.size)); clear hb)
          go_roundw
          case rel => exact ⟨k + 1, j, _, _, HKS.out, HRS.out, by go_num, rfl, Lib.hid ⟨HNEW.out.1, HI'.out, HJ'.out, HNEW.out.2, HB5.out⟩⟩
          case measure => have := HKS.out; simp [intOf]; omega
    · obtain rfl : k = sh.size := by omega
      have HEND : Hid (o = strOfNums T) := Lib.hid (by
        have h1 := HG.out.2.1
        rw [letters_end] at h1
        rw [HG.out.1, ← h1]
        simp [tailT13, itemsL])
      have HBE : Hid (Below w.heap.size w wr) := Lib.hid (HB0.out.trans ((HB4.out.trans (HG.out.2.2.2.2.mono HB4.out.size)).mono HB0.out.size))
      clear HG
      go_wp2
      go_ret
      exact ⟨by have h := HEND.out; subst h; rfl, HBE.out⟩
end Go.Proofs.YtohlifeenhaifaaGreatDoor
