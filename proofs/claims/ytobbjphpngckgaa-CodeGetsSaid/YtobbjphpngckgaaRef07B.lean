/- The document's own Put and Length of layer 7. Contracts; no condition but that the argument is an instruction in memory. -/
import Derived.Test.YtobbjphpngckgaaRef07A
import Derived.Deep.RegionHeld3
namespace Go.Proofs.Ytobbjphpngckgaa
open Go.RowKit Go.Shelf
set_option linter.unusedVariables false
set_option linter.unusedSimpArgs false

/-- What the document's own Put knows between two letters. -/
structure RpAt (w wr : World) (op a b c n : Int) (X : Value) (V : Value) (xs : List Int) : Prop where
  box : wr.heap[w.heap.size]? = some (.cells (insCells op a b c n X) 35 (0, 0))
  out : OutB w wr V xs
section
variable {w wr w1 : World} {op a b c n : Int} {X V V' : Value} {xs xs' : List Int}
theorem RpAt.call (h : RpAt w wr op a b c n X V xs) (hb : Below wr.heap.size wr w1) : RpAt w w1 op a b c n X V xs := ⟨(hb.block _ (heap_lt h.box)).trans h.box, h.out.grow hb⟩
theorem RpAt.app (h : RpAt w wr op a b c n X V xs) (ho : OutB w w1 V' xs') (hb : ∀ i, i < wr.heap.size → some i ≠ V.ownBlock → w1.heap[i]? = wr.heap[i]?) : RpAt w w1 op a b c n X V' xs' :=
  ⟨(hb _ (heap_lt h.box) (h.out.own.not_own h.box (fun cur e => by injection e with _ e _; exact absurd e (by decide)))).trans h.box, ho⟩
theorem RpAt.drew (h : RpAt w wr op a b c n X V xs) : RpAt w wr.drew op a b c n X V xs := ⟨h.box, h.out.drew⟩
end
theorem rlow_any (n : Int) (s : Nat) (w : World) (hs : sizedB s = true) : Calls Try.prog 40 #[.int .u64 (IntKind.u64.wrap n), .int .i64 s] w fun e w' => ∃ v, e = .returned (.tuple #[v, .int .i64 0]) ∧ OutB w w' v (bytesV n s) := by
  have hs8 : s ≤ 8 := by rcases sized_cases hs with h | h | h | h <;> omega
  have hp := rput_yes (IntKind.u64.wrap n) s w (by rw [IntKind.wrap_u64]; omega) (by rw [IntKind.wrap_u64]; omega) hs
  rw [show bytesV (IntKind.u64.wrap n) s = bytesV n s by rw [IntKind.wrap_u64, bytesV_mod' n hs8]] at hp
  refine hp.mono ?_
  rintro e w' ⟨v, rfl, ho, hb⟩
  exact ⟨v, rfl, ho, hb⟩
theorem rlow_one (n : Int) (w : World) : Calls Try.prog 40 #[.int .u64 (IntKind.u64.wrap n), .int .i64 1] w fun e w' => ∃ v, e = .returned (.tuple #[v, .int .i64 0]) ∧ OutB w w' v (bytesV n 1) := rlow_any n 1 w (by decide)
set_option maxRecDepth 100000 in
set_option maxHeartbeats 8000000 in
theorem rput7_any (op a b c n : Int) (X : Value) (args : List Int) (w : World) (hX : IsNums .i64 w w.heap.size X args) (hin : InI n) :
    Calls Try.prog 17 #[.agg (insCells op a b c n X)] w (PutI w ⟨op, a, b, c, n, args⟩) := by
  have hB0 : Below w.heap.size w (w.alloc (.cells (insCells op a b c n X) 35)) := (Below.refl _ w).alloc (Nat.le_refl _) _
  have hX0 := (hX.below hB0 (Nat.le_refl _)).more hB0.size
  have hC := rcheck_any op a b c n X args 64 4096 _ hX0
  have hce : rcheckV op a b c n args 64 4096 = InsV.chk ⟨op, a, b, c, n, args⟩ := (check_same op a b c n args 64 4096 hin).symm
  rw [hce] at hC
  have HC := Lib.hid hC
  have HB0 := Lib.hid hB0
  obtain ⟨XA, Xc, rfl⟩ := hX.len
  have HX := Lib.hid hX
  have hk0 := heap_alloc_new w (.cells (insCells op a b c n (.slice XA args.length Xc)) 35)
  have HK0 := Lib.hid hk0
  by_cases h0 : InsV.chk ⟨op, a, b, c, n, args⟩ = 0
  · have hok := chk_ok h0
    have hop1 : 0 ≤ op := hok.op.1
    have hop2 : op < 33 := hok.op.2
    have h8 : args.length ≤ 8 := hok.args
    have HH := Lib.hid h0
    rw [h0] at HC
    obtain ⟨sh, hsh⟩ : ∃ sh, sh = shapeI op := ⟨_, rfl⟩
    have HS := Lib.hid (fun W => rshape_any op W)
    rw [← hsh] at HS
    have hE : InsV.bytes ⟨op, a, b, c, n, args⟩ = [op] ++ putL n args (lettersOf sh) [a, b, c] := by
      rw [hsh]
      show bytesV op 1 ++ _ = _
      rw [op_bytes hok.op]
      rfl
    have HT := Lib.hid (bytes_len (op := op) (a := a) (b := b) (c := c) (n := n) h8)
    have HSH := Lib.hid (show okShape sh = true by rw [hsh]; exact shapes_ok op)
    obtain ⟨ys, hys⟩ : ∃ ys, ys = InsV.bytes ⟨op, a, b, c, n, args⟩ := ⟨_, rfl⟩
    have HYS := Lib.hid hys
    rw [← hys] at HT hE
    have HE := Lib.hid hE
    obtain ⟨c0, c1, c2, c3, c4, c5⟩ := cells6 hk0
    have a8 : (args.length : Int) ≤ 8 := by omega
    have hss : sh.size ≤ 3 := by rw [hsh]; exact shapes_small op
    clear h0 hok h8 hX hX0 hB0 hk0 hC hce hsh hE hys
    go_enter Try.func17, Try.ntmps17
    go_wp2_with (first
      | (go_at_call 38; (with_reducible refine HC.out.mono ?_); rintro e w1 ⟨rfl, hb⟩; have HB1 := Lib.hid (HB0.out.trans (hb.mono HB0.out.size)); have hk1 := (hb.block w.heap.size (by simp)).trans HK0.out; have HK1 := Lib.hid hk1; obtain ⟨d0, d1, d2, d3, d4, d5⟩ := cells6 hk1; have ha := (Below.refl w1.heap.size w1).alloc (Nat.le_refl _) (.cells #[.int .u8 op] 5); have hk2 := (ha.block w.heap.size (heap_lt hk1)).trans hk1; obtain ⟨k0, k1, k2, k3, k4, k5⟩ := cells6 hk2; clear hb hk1 ha hk2)
      | (go_at_call 39; (with_reducible refine (HS.out _).mono ?_); rintro e w2 ⟨rfl, rfl⟩))
    have H1 : RpAt w (w1.alloc (.cells #[.int .u8 op] 5)) op a b c n (.slice XA args.length Xc) (.slice (some ⟨w1.heap.size, 0, none⟩) 1 1) [op] :=
      ⟨(((Below.refl w1.heap.size w1).alloc (Nat.le_refl _) _).block w.heap.size (heap_lt HK1.out)).trans HK1.out, outB_one HB1.out ⟨hop1, by omega⟩⟩
    have H1 := Lib.hid H1
    go_loopw [5, 7, 8] (fun V ah i wr => ∃ (k j : Nat) (xs : List Int), k ≤ sh.size ∧ i = .int .i64 k ∧ ah = .int .i64 j ∧ j + regN ((lettersOf sh).drop k) ≤ 3 ∧ Hid (ys = xs ++ putL n args ((lettersOf sh).drop k) ([a, b, c].drop j) ∧ RpAt w wr op a b c n (.slice XA args.length Xc) V xs)) (fun _ _ i _ => sh.size - (intOf i).toNat)
    case atStart => exact ⟨0, 0, _, Nat.zero_le _, rfl, rfl, by simpa using okShape_reg HSH.out, ⟨HE.out, H1.out⟩⟩
    case round =>
      obtain ⟨k, j, xs, hk, rfl, rfl, hj, HR⟩ := hrel
      clear H1 HE c0 c1 c2 c3 c4 c5 d0 d1 d2 d3 d4 d5 k0 k1 k2 k3 k4 k5 HK1 HB1 HC
      obtain ⟨hi, hR⟩ := HR.out
      by_cases hlt : k < sh.size
      · have hdr := letters_drop sh hlt
        rw [hdr] at hi hj
        obtain ⟨q, hq⟩ : ∃ q : Int, q = (sh[k].toNat : Int) := ⟨_, rfl⟩
        rw [← hq] at hi hj
        have hi2 : ys = (xs ++ heldB n args q ([a, b, c].drop j)) ++ putL n args ((lettersOf sh).drop (k + 1)) (restOf q ([a, b, c].drop j)) := by rw [hi]; simp [putL]
        have hlen : xs.length + (heldB n args q ([a, b, c].drop j)).length ≤ 100 := by
          have h1 := congrArg List.length hi2
          have h2 := HT.out
          simp only [List.length_append] at h1
          omega
        have HI := Lib.hid hi2
        have HLn := Lib.hid hlen
        have HR1 := Lib.hid hR
        obtain ⟨d0, d1, d2, d3, d4, d5⟩ := cells6 hR.box
        have HQ := Lib.hid hq
        simp only [regN] at hj
        have HN0 := Lib.hid hj
        clear hi hi2 hlen hdr hj hR HR
        by_cases hreg : isReg q = true
        · have hj3 : j < 3 := by have := HN0.out; simp only [hreg, if_true] at this; omega
          have hb8 : ((sh[k].toNat : Int) == 108) = false := by rw [← hq]; simp; rintro rfl; simp [isReg] at hreg
          have HN : Hid ((j + 1) + regN ((lettersOf sh).drop (k + 1)) ≤ 3) := by
            have h := HN0.out
            simp only [hreg, if_true] at h
            exact Lib.hid (by omega)
          have hx : ([a, b, c].drop j).headD 0 = [a, b, c].getD j 0 := by rcases (show j = 0 ∨ j = 1 ∨ j = 2 by omega) with rfl | rfl | rfl <;> rfl
          have HI' : Hid (ys = (xs ++ bytesV ([a, b, c].getD j 0) 1) ++ putL n args ((lettersOf sh).drop (k + 1)) ([a, b, c].drop (j + 1))) := by
            have h := HI.out
            simp only [heldB, restOf, hreg, if_true, List.tail_drop, hx] at h
            exact Lib.hid h
          have HLn' : Hid (xs.length + 1 ≤ 100) := by
            have h := HLn.out
            simp only [heldB, hreg, if_true, bytesV_len] at h
            exact Lib.hid h
          have hrv : rwidthV q = 1 := by unfold rwidthV; rw [if_neg (by rintro rfl; simp [isReg] at hreg), reg_width hreg]
          have HWd := Lib.hid (fun W => rwidth_any q W)
          have HF := Lib.hid (fun W => rfield_reg op a b c n (.slice XA args.length Xc) q j W hreg hj3)
          have HRg := Lib.hid (fun W => rreg_any q W)
          rw [hrv] at HWd
          rw [hreg] at HRg
          have HP := Lib.hid (fun W => rlow_one ([a, b, c].getD j 0) W)
          rw [hq] at HWd HF HRg
          generalize [a, b, c].getD j 0 = x at *
          clear HI HN0 HLn hq HQ hreg hx hrv
          have HLn := HLn'
          have HW1 : Hid (0 < 1) := Lib.hid (by decide)
          have hj3I : (j : Int) < 3 := by omega
          clear HLn'
          go_wp2
          go_region_held3 (fun W => W.cell? ⟨w.heap.size, 0, none⟩ = some (.int .i64 op) ∧ W.cell? ⟨w.heap.size, 1, none⟩ = some (.int .i64 a) ∧ W.cell? ⟨w.heap.size, 2, none⟩ = some (.int .i64 b) ∧ W.cell? ⟨w.heap.size, 3, none⟩ = some (.int .i64 c) ∧ W.cell? ⟨w.heap.size, 4, none⟩ = some (.int .i64 n) ∧ W.cell? ⟨w.heap.size, 5, none⟩ = some (.slice XA args.length Xc)) (first | with_reducible exact HK4.out | with_reducible exact HK2.out | go_keep)
            (first
              | (go_at_call 41; (with_reducible refine (HF.out _).mono ?_); rintro e w2 ⟨rfl, hb⟩; have HR2 := Lib.hid (HR1.out.drew.call hb); have HK2 := Lib.hid (cells6 HR2.out.box); clear hb)
              | (go_at_call 42; (with_reducible refine (HWd.out _).mono ?_); rintro e w3 ⟨rfl, rfl⟩)
              | (go_at_call 40; (with_reducible refine (HP.out _).mono ?_); rintro e w4 ⟨v4, rfl, ho⟩; have HO4 := Lib.hid ho; have HR4 := Lib.hid (HR2.out.call ho.bel); have HK4 := Lib.hid (cells6 HR4.out.box); clear ho))
          all_goals
            go_wp2_with (first
              | (at_builtin; refine wpList_outB rfl _ _ rfl rfl rfl HR4.out.out HO4.out.own (bytesV_bd _ _) (by rw [bytesV_len]; exact HW1.out) (by rw [bytesV_len]; have := HLn.out; omega) ?_; intro V6 w6 ho hb; have HR6 := Lib.hid (HR4.out.app ho hb); clear ho hb)
              | (go_at_call 43; (with_reducible refine (HRg.out _).mono ?_); rintro e w7 ⟨rfl, rfl⟩))
            go_roundw
            case rel => exact ⟨k + 1, j + 1, _, hlt, by go_num, by go_num, HN.out, ⟨HI'.out, HR6.out⟩⟩
            case measure => simp [intOf]; omega
        · by_cases hq8 : q = 108
          · have hb8 : ((sh[k].toNat : Int) == 108) = true := by rw [← hq, hq8]; rfl
            subst hq8
            have hc8 : heldB n args 108 ([a, b, c].drop j) = [(args.length : Int)] ++ args.map (· % 256) := by
              unfold heldB
              rw [if_neg (by decide), if_pos rfl, bytesV_one, args_bytes, Int.emod_eq_of_lt (by omega) (by omega)]
            have hr8 : restOf 108 ([a, b, c].drop j) = [a, b, c].drop j := by unfold restOf; rw [if_neg (by decide)]
            rw [hc8, hr8] at HI
            rw [hc8] at HLn
            have HN : Hid (j + regN ((lettersOf sh).drop (k + 1)) ≤ 3) := by
              have h := HN0.out
              rw [if_neg (by decide)] at h
              exact Lib.hid (by omega)
            have HLn' : Hid (xs.length + 1 + args.length ≤ 100) := by
              have h := HLn.out
              simp only [List.length_append, List.length_cons, List.length_nil, List.length_map] at h
              exact Lib.hid (by omega)
            clear hc8 hr8 HN0 HLn hreg hq HQ
            go_wp2_with (at_builtin; refine wpList_outB1 rfl _ _ rfl rfl rfl rfl HR1.out.out ⟨by omega, by omega⟩ (by have := HLn'.out; omega) ?_; intro V6 w6 ho hb; have HR6 := Lib.hid (HR1.out.app ho hb); clear ho hb; obtain ⟨f0, f1, f2, f3, f4, f5⟩ := cells6 HR6.out.box)
            clear d0 d1 d2 d3 d4 d5 f0 f1 f2 f3 f4 f5 HR1
            go_loopw [5, 9] (fun V i wi => ∃ t : Nat, t ≤ args.length ∧ i = .int .i64 t ∧ Hid (RpAt w wi op a b c n (.slice XA args.length Xc) V (xs ++ [(args.length : Int)] ++ (args.take t).map (· % 256)))) (fun _ i _ => args.length - (intOf i).toNat)
            case atStart => exact ⟨0, by omega, rfl, by simpa using HR6⟩
            case round =>
              obtain ⟨t, ht, rfl, HRt⟩ := hrel
              obtain ⟨f0, f1, f2, f3, f4, f5⟩ := cells6 HRt.out.box
              by_cases hlt2 : t < args.length
              · obtain ⟨b', o', cap', hXe, hcp, hbB, hcl⟩ := HX.out.plain (by omega)
                cases hXe
                have hct := (HRt.out.out.bel.cell (p := ⟨b', o' + t, none⟩) hbB).trans (hcl t hlt2)
                have htk : (args.take (t + 1)).map (· % 256) = (args.take t).map (· % 256) ++ [(args.getD t 0) % 256] := by
                  rw [take_snoc' hlt2, List.map_append]
                  rfl
                have HTK := Lib.hid htk
                have hltI : (t : Int) < (args.length : Int) := by omega
                have HLt : Hid ((xs ++ [(args.length : Int)] ++ (args.take t).map (· % 256)).length + 1 ≤ 1000000) := Lib.hid (by
                  rw [List.length_append, List.length_append, List.length_map, List.length_take]
                  have := HLn'.out
                  simp
                  omega)
                clear htk hcl hcp
                obtain ⟨z, hz⟩ : ∃ z, z = args.getD t 0 := ⟨_, rfl⟩
                rw [← hz] at hct HTK
                clear hz
                go_wp2_with (at_builtin; refine wpList_outB1 rfl _ _ rfl rfl rfl rfl HRt.out.out (by omega) HLt.out ?_; intro V8 w8 ho hb; have HR8 := Lib.hid (HRt.out.app ho hb); clear ho hb)
                go_roundw
                case rel => exact ⟨t + 1, by omega, by go_num, by rw [HTK.out, ← List.append_assoc]; exact HR8⟩
                case measure => simp [intOf]; omega
              · obtain rfl : t = args.length := by omega
                rw [List.take_length] at HRt
                go_wp2
                go_roundw
                case rel => exact ⟨k + 1, j, _, hlt, by go_num, rfl, HN.out, ⟨HI.out, by have := HRt.out; rw [List.append_assoc] at this; exact this⟩⟩
                case measure => simp [intOf]; omega
          · have hb8 : ((sh[k].toNat : Int) == 108) = false := by rw [← hq]; simpa using hq8
            have hreg' : isReg q = false := by simpa using hreg
            have hc8 : heldB n args q ([a, b, c].drop j) = bytesV n (widthV q) := by unfold heldB; rw [if_neg hreg, if_neg hq8]
            have hr8 : restOf q ([a, b, c].drop j) = [a, b, c].drop j := by unfold restOf; rw [if_neg hreg]
            rw [hc8, hr8] at HI
            rw [hc8, bytesV_len] at HLn
            have HN : Hid (j + regN ((lettersOf sh).drop (k + 1)) ≤ 3) := by
              have h := HN0.out
              rw [if_neg hreg] at h
              exact Lib.hid (by omega)
            have HWd := Lib.hid (fun W => rwidth_any q W)
            rw [show rwidthV q = widthV q by unfold rwidthV; rw [if_neg hq8]] at HWd
            have HF := Lib.hid (fun W => rfield_num op a b c n (.slice XA args.length Xc) q j W hreg')
            have HRg := Lib.hid (fun W => rreg_any q W)
            rw [hreg'] at HRg
            have HP := Lib.hid (fun W => rlow_any n (widthV q) W (width_sized q))
            have HW1 := Lib.hid (width_le q).1
            generalize widthV q = sz at HWd HP HW1 HI HLn
            rw [hq] at HWd HF HRg
            clear hc8 hr8 HN0 hq HQ hreg hreg' hq8
            go_wp2
            go_region_held3 (fun W => W.cell? ⟨w.heap.size, 0, none⟩ = some (.int .i64 op) ∧ W.cell? ⟨w.heap.size, 1, none⟩ = some (.int .i64 a) ∧ W.cell? ⟨w.heap.size, 2, none⟩ = some (.int .i64 b) ∧ W.cell? ⟨w.heap.size, 3, none⟩ = some (.int .i64 c) ∧ W.cell? ⟨w.heap.size, 4, none⟩ = some (.int .i64 n) ∧ W.cell? ⟨w.heap.size, 5, none⟩ = some (.slice XA args.length Xc)) (first | with_reducible exact HK4.out | with_reducible exact HK2.out | go_keep)
              (first
                | (go_at_call 41; (with_reducible refine (HF.out _).mono ?_); rintro e w2 ⟨rfl, hb⟩; have HR2 := Lib.hid (HR1.out.drew.call hb); have HK2 := Lib.hid (cells6 HR2.out.box); clear hb)
                | (go_at_call 42; (with_reducible refine (HWd.out _).mono ?_); rintro e w3 ⟨rfl, rfl⟩)
                | (go_at_call 40; (with_reducible refine (HP.out _).mono ?_); rintro e w4 ⟨v4, rfl, ho⟩; have HO4 := Lib.hid ho; have HR4 := Lib.hid (HR2.out.call ho.bel); have HK4 := Lib.hid (cells6 HR4.out.box); clear ho))
            all_goals
              go_wp2_with (first
                | (at_builtin; refine wpList_outB rfl _ _ rfl rfl rfl HR4.out.out HO4.out.own (bytesV_bd _ _) (by rw [bytesV_len]; exact HW1.out) (by rw [bytesV_len]; have := HLn.out; omega) ?_; intro V6 w6 ho hb; have HR6 := Lib.hid (HR4.out.app ho hb); clear ho hb)
                | (go_at_call 43; (with_reducible refine (HRg.out _).mono ?_); rintro e w7 ⟨rfl, rfl⟩))
              go_roundw
              case rel => exact ⟨k + 1, j, _, hlt, by go_num, rfl, HN.out, ⟨HI.out, HR6.out⟩⟩
              case measure => simp [intOf]; omega
      · obtain rfl : k = sh.size := by omega
        rw [letters_end] at hi
        have HI : Hid (ys = xs) := Lib.hid (by rw [hi]; first | done | simp [putL])
        have HO := Lib.hid hR.out
        clear hi hj hR HR
        go_wp2
        go_ret2
        exact puti_good HH.out (by rw [← HYS.out, HI.out]; exact HO.out)
  · obtain ⟨e0, he0⟩ : ∃ e0, e0 = InsV.chk ⟨op, a, b, c, n, args⟩ := ⟨_, rfl⟩
    have HE := Lib.hid he0.symm
    rw [← he0] at HC h0
    have HH := Lib.hid h0
    have hne : (e0 != 0) = true := by simpa using h0
    obtain ⟨c0, c1, c2, c3, c4, c5⟩ := cells6 hk0
    clear h0 hX hX0 hB0 hk0 he0 hC hce
    go_enter Try.func17, Try.ntmps17
    go_wp2_with (go_at_call 38; (with_reducible refine HC.out.mono ?_); rintro e w1 ⟨rfl, hb⟩; have HB1 := Lib.hid (HB0.out.trans (hb.mono HB0.out.size)); clear hb)
    go_ret2
    exact puti_bad HE.out HH.out HB1.out
end Go.Proofs.Ytobbjphpngckgaa
