/- The landed space: why a call is refused; what is passed. Contracts; no condition but that it lies in memory, and that the list that is handed in stays. -/
import Derived.Test.YtkfdgpgildanbaaGreatSp15I
namespace Go.Proofs.YtkfdgpgildanbaaGreat
open Go.RowKit Go.Shelf
set_option linter.unusedVariables false
set_option linter.unusedSimpArgs false

/-- A list of numbers that stays, whatever becomes of the blocks of R. -/
structure Args15 (W0 : World) (R : Nat → Prop) (A : Value) (args : List Int) : Prop where
  inn : ∀ x ∈ args, InI x
  all : ∀ W', But R W0 W' → IsNums .i64 W' W'.heap.size A args
theorem Args15.go {W W1 : World} {R : Nat → Prop} {A : Value} {args : List Int} (h : Args15 W R A args) (hb : But R W W1) : Args15 W1 R A args := ⟨h.inn, fun W' hb2 => h.all W' (hb.trans hb2)⟩
theorem Args15.now {W : World} {R : Nat → Prop} {A : Value} {args : List Int} (h : Args15 W R A args) : IsNums .i64 W W.heap.size A args := h.all W (But.refl _ _)
theorem funs_row15 {w : World} {V : Value} {fs : List FunV} (h : IsFuns w w.heap.size V fs) (hf : 0 < fs.length) : ∃ b off cap, V = .slice (some ⟨b, off, none⟩) fs.length cap ∧ fs.length ≤ cap ∧ b < w.heap.size ∧
    ∀ f, f < fs.length → w.cell? ⟨b, off + f * 4, none⟩ = some (.int .i64 (fs.getD f .zero).params) := by
  obtain ⟨b, off, cap, h1, h2, h3, h4⟩ := h.plain hf
  refine ⟨b, off, cap, h1, h2, h3, fun f hf => ?_⟩
  obtain ⟨C, hC, hc⟩ := h4 f hf
  exact hc 0 (by omega)
theorem regs_in {S : SpV} {r : Int} (h : S.regB r = true) (hok : S.ok) : InI r := by
  simp [SpV.regB] at h
  have := (err_fn hok.mod hok.fn).2.1
  unfold InI
  omega
set_option maxRecDepth 100000 in
set_option maxHeartbeats 8000000 in
theorem callRef15 {W : World} {sb : Nat} {p : Loc} {S : SpV} (h : SpAt W sb p S) (f res back : Int) (A : Value) (args : List Int) (hf : InI f) (hr : InI res) (hbk : InI back) (hA : Args15 W (foot15 sb p) A args) :
    Calls Tryz.prog 105 #[.pointer (some ⟨sb, 0, none⟩), .int .i64 f, A, .int .i64 res, .int .i64 back] W (SpDone W sb p S S (.int .i64 (S.callE f args res back))) := by
  have HR := Lib.hid (refuse15 h)
  have hok := h.ok
  obtain ⟨aA, ac, rfl⟩ := hA.now.len
  have HI := Lib.hid (fun W' p' (h : LaidAt W' sb p' S) r (hr : InI r) => isReg15 h r hr)
  have HPL := Lib.hid (fun w => place15 back w hbk)
  have HRS := Lib.hid hr
  have HINN := Lib.hid hA.inn
  have HA := Lib.hid hA
  have hnot := not15
  have HFL : Hid (S.m.funcs.length ≤ 64) := Lib.hid (err_funs hok.mod).2.2.1
  have HFP : Hid (0 < S.m.funcs.length) := Lib.hid (err_funs hok.mod).2.1
  have hfl := HFL.out
  have f1 := hf.1
  have f2 := hf.2
  have hnl : (args.length : Int) ≤ 140737488355328 ∨ True := .inr trivial
  unfold SpV.callE
  unfold SpV.refE at HR
  obtain ⟨n, hn⟩ : ∃ n, n = args.length := ⟨_, rfl⟩
  have HN := Lib.hid hn
  have hmax : n ≤ maxLen := by rw [hn]; exact hA.now.1
  rw [← hn]
  clear h hA hf hbk hr hnl hn
  by_cases he : S.ek = 0
  · simp only [if_pos he] at HR ⊢
    clear he
    by_cases hq : S.fitB f n = true
    · obtain ⟨q1, q2, q3⟩ := fit_iff.1 hq
      simp only [if_pos hq]
      obtain ⟨k, rfl⟩ : ∃ k : Nat, f = k := ⟨f.toNat, by omega⟩
      have hk : k < S.m.funcs.length := by omega
      rw [show ((k : Int)).toNat = k by omega] at q3
      have HQ3 : Hid ((n : Int) = (S.m.funcs.getD k .zero).params) := Lib.hid q3
      have d0 : decide ((k : Int) < 0) = false := decide_eq_false (by omega)
      have d1 : decide ((S.m.funcs.length : Int) ≤ (k : Int)) = false := decide_eq_false (by omega)
      have HK := Lib.hid hk
      have nn : ((n : Int) != (n : Int)) = false := by simp
      have HMX := Lib.hid hmax
      have hn8 : n ≤ 8 := by
        have := (err_fn hok.mod hk).2.2.2.2.1
        have h2 : (n : Int) = (fnV S.m k).params := q3
        omega
      have HOK := Lib.hid hok
      obtain ⟨E, hE⟩ : ∃ E, E = (if (args.all S.regB && (S.regB res && placeB back)) = true then (0 : Int) else 5) := ⟨_, rfl⟩
      have HE := Lib.hid hE
      rw [← hE]
      clear hq q3 hok hmax f1 f2 q1 q2 hk hE
      go_enter Tryz.func105, Tryz.ntmps105
      go_wp2_with (go_at_call 82; (with_reducible refine HR.out.mono ?_); rintro e w' ⟨rfl, p', hv⟩; have HD := Lib.hid hv; have HAA := Lib.hid (HA.out.go hv.but); obtain ⟨⟨c5, c9, c10, c11⟩, ⟨c12, c13, c14, c15⟩, c16, c17⟩ := hv.laid.cells; obtain ⟨b, off, cap, hV, hcp, hbb, kk⟩ := funs_row15 (hv.laid.funs.funs (by have := HFL.out; omega)) HFP.out; rw [hV] at c5; have KK := Lib.hid kk; clear hV kk; have hkp := KK.out k HK.out; rw [← HQ3.out] at hkp; clear hv)
      clear c5 c9 c10 c11 c12 c13 c14 c15 c16 c17 hcp hbb hkp
      have d1n : decide (S.m.funcs.length ≤ k) = false := decide_eq_false (by have := HK.out; omega)
      simp only [d1n]
      go_loopw [13, 49] (fun _ v49 wr => ∃ i : Nat, v49 = .int .i64 i ∧ i ≤ n ∧ (∃ q, wr = w'.drewN q) ∧ Hid ((args.take i).all S.regB = true)) (fun _ v49 _ => n - (intOf v49).toNat)
      case atStart => exact ⟨0, rfl, by omega, ⟨0, rfl⟩, Lib.hid (by simp)⟩
      case round =>
        obtain ⟨i, rfl, hi, ⟨q, hq⟩, HT⟩ := hrel
        have HDw := Lib.hid (HD.out.read (below_drewN14 hq))
        have HAw := Lib.hid (show Args15 wr (foot15 sb p) (.slice aA args.length ac) args by rw [hq]; exact HAA.out.go ((But.refl _ w').drewN q))
        have HQ := Lib.hid hq
        clear hq
        by_cases hlt : i < n
        · obtain ⟨xb, xo, xc, hxe, hxc, hxb, hxl⟩ := (HAw.out.now).plain (by rw [← HN.out]; omega)
          injection hxe with hxa hxn hac
          clear hxn
          subst hxa hac
          have ci := hxl i (by rw [← HN.out]; omega)
          have hxi := HINN.out (args.getD i 0) (by rw [List.getD_eq_getElem?_getD, List.getElem?_eq_getElem (by rw [← HN.out]; omega)]; exact List.getElem_mem _)
          have HTK : Hid ((args.take (i + 1)).all S.regB = S.regB (args.getD i 0)) := Lib.hid (by
            rw [List.take_succ_eq_append_getElem (by rw [← HN.out]; omega), List.all_append, HT.out]
            simp [List.getD_eq_getElem?_getD, List.getElem?_eq_getElem (show i < args.length by rw [← HN.out]; omega)])
          have HLS : Hid (S.regB (args.getD i 0) = false → args.all S.regB = false) := Lib.hid (fun e => by
            rw [Bool.eq_false_iff]
            intro h
            rw [List.all_eq_true] at h
            have := h (args.getD i 0) (by rw [List.getD_eq_getElem?_getD, List.getElem?_eq_getElem (by rw [← HN.out]; omega)]; exact List.getElem_mem _)
            rw [e] at this
            cases this)
          have HIX := Lib.hid (HI.out wr p' HDw.out.laid (args.getD i 0) hxi)
          have i0 : (0 : Int) ≤ (i : Int) := by omega
          have i1 : (i : Int) < (n : Int) := by omega
          have hxc' : n ≤ ac ∨ True := .inr trivial
          generalize args.getD i 0 = x at *
          clear hxl hxc hxb hxi hxc'
          cases hb : S.regB x
          · rw [hb] at HIX
            have hE5 : E = 5 := by rw [HE.out, HLS.out hb]; rfl
            subst hE5
            go_wp2_with (go_at_call 100; (with_reducible refine HIX.out.mono ?_); rintro e w2 ⟨rfl, q2, hw⟩; have HD2 := Lib.hid (HDw.out.read (below_drewN14 hw)); clear hw)
            go_ret
            exact ⟨rfl, _, HD2.out⟩
          · rw [hb] at HIX
            have HT2 : Hid ((args.take (i + 1)).all S.regB = true) := Lib.hid (by rw [HTK.out, hb])
            have HIM := Lib.hid hlt
            clear hb
            go_wp2_with (go_at_call 100; (with_reducible refine HIX.out.mono ?_); rintro e w2 ⟨rfl, q2, hw⟩; have HW2 := Lib.hid hw; clear hw)
            go_roundw
            case rel => exact ⟨i + 1, by go_num, by have := HIM.out; omega, ⟨q + q2, by rw [HW2.out, HQ.out, World.drewN_drewN]⟩, HT2⟩
            case measure => have := HIM.out; simp [intOf]; omega
        · have hin : n = i := by omega
          have hall : args.all S.regB = true := by
            have := HT.out
            rw [← hin, HN.out, List.take_length] at this
            exact this
          have HIR := Lib.hid (HI.out wr p' HDw.out.laid res HRS.out)
          rw [hall, Bool.true_and] at HE
          clear hall HT hin HI
          cases hb : S.regB res
          · rw [hb] at HIR HE
            have hE5 : E = 5 := by rw [HE.out]; rfl
            subst hE5
            clear hb
            go_wp2_with (go_at_call 100; (with_reducible refine HIR.out.mono ?_); rintro e w2 ⟨rfl, q2, hw⟩; have HD2 := Lib.hid (HDw.out.read (below_drewN14 hw)); clear hw)
            go_ret
            exact ⟨rfl, _, HD2.out⟩
          · rw [hb] at HIR HE
            clear hb
            cases hb : placeB back
            · rw [hb] at HPL HE
              have hE5 : E = 5 := by rw [HE.out]; rfl
              subst hE5
              clear hb
              go_wp2_with (first
                | (go_at_call 100; (with_reducible refine HIR.out.mono ?_); rintro e w2 ⟨rfl, q2, hw⟩; have HD2 := Lib.hid (HDw.out.read (below_drewN14 hw)); clear hw)
                | (go_at_call 103; (with_reducible refine (HPL.out _).mono ?_); rintro e w'' ⟨rfl, rfl⟩))
              go_ret
              exact ⟨rfl, _, HD2.out⟩
            · rw [hb] at HPL HE
              have hE5 : E = 0 := by rw [HE.out]; rfl
              subst hE5
              clear hb
              go_wp2_with (first
                | (go_at_call 100; (with_reducible refine HIR.out.mono ?_); rintro e w2 ⟨rfl, q2, hw⟩; have HD2 := Lib.hid (HDw.out.read (below_drewN14 hw)); clear hw)
                | (go_at_call 103; (with_reducible refine (HPL.out _).mono ?_); rintro e w'' ⟨rfl, rfl⟩))
              go_ret
              exact ⟨rfl, _, HD2.out⟩
    · simp only [if_neg hq]
      rw [fit_iff] at hq
      by_cases q1 : f < 0
      · have d0 : decide (f < 0) = true := decide_eq_true q1
        clear hq hok hmax
        go_enter Tryz.func105, Tryz.ntmps105
        go_wp2_with (go_at_call 82; (with_reducible refine HR.out.mono ?_); rintro e w' ⟨rfl, p', hv⟩; have HD := Lib.hid hv; have HAA := Lib.hid (HA.out.go hv.but); clear hv)
        go_ret
        exact ⟨rfl, _, HD.out⟩
      · obtain ⟨k, rfl⟩ : ∃ k : Nat, f = k := ⟨f.toNat, by omega⟩
        have d0 : decide ((k : Int) < 0) = false := decide_eq_false q1
        by_cases q2 : k < S.m.funcs.length
        · rw [show ((k : Int)).toNat = k by omega] at hq
          have q3 : ¬ (n : Int) = (S.m.funcs.getD k .zero).params := fun e => hq ⟨by omega, by omega, e⟩
          have d1 : decide ((S.m.funcs.length : Int) ≤ (k : Int)) = false := decide_eq_false (by omega)
          obtain ⟨pp, hpp⟩ : ∃ pp, pp = (S.m.funcs.getD k .zero).params := ⟨_, rfl⟩
          have HPP := Lib.hid hpp
          rw [← hpp] at q3
          have d2 : ((n : Int) != pp) = true := by simpa using q3
          clear hpp
          have HK := Lib.hid q2
          clear hq hok q3 hmax f1 f2 q1 q2
          go_enter Tryz.func105, Tryz.ntmps105
          go_wp2_with (go_at_call 82; (with_reducible refine HR.out.mono ?_); rintro e w' ⟨rfl, p', hv⟩; have HD := Lib.hid hv; have HAA := Lib.hid (HA.out.go hv.but); obtain ⟨⟨c5, c9, c10, c11⟩, ⟨c12, c13, c14, c15⟩, c16, c17⟩ := hv.laid.cells; obtain ⟨b, off, cap, hV, hcp, hbb, kk⟩ := funs_row15 (hv.laid.funs.funs (by have := HFL.out; omega)) HFP.out; rw [hV] at c5; have KK := Lib.hid kk; clear hV kk; have hkp := KK.out k HK.out; rw [← HPP.out] at hkp; clear hv)
          go_ret
          exact ⟨rfl, _, HD.out⟩
        · have d1 : decide ((S.m.funcs.length : Int) ≤ (k : Int)) = true := decide_eq_true (by omega)
          clear hq hok hmax
          go_enter Tryz.func105, Tryz.ntmps105
          go_wp2_with (go_at_call 82; (with_reducible refine HR.out.mono ?_); rintro e w' ⟨rfl, p', hv⟩; have HD := Lib.hid hv; have HAA := Lib.hid (HA.out.go hv.but); obtain ⟨⟨c5, c9, c10, c11⟩, ⟨c12, c13, c14, c15⟩, c16, c17⟩ := hv.laid.cells; obtain ⟨b, off, cap, hV, hcp, hbb, kk⟩ := funs_row15 (hv.laid.funs.funs (by have := HFL.out; omega)) HFP.out; rw [hV] at c5; have KK := Lib.hid kk; clear hV kk; clear hv)
          go_ret
          exact ⟨rfl, _, HD.out⟩
  · simp only [if_neg he] at HR ⊢
    clear he hok hmax
    go_enter Tryz.func105, Tryz.ntmps105
    go_wp2_with (go_at_call 82; (with_reducible refine HR.out.mono ?_); rintro e w' ⟨rfl, p', hv⟩; have HD := Lib.hid hv; have HAA := Lib.hid (HA.out.go hv.but); clear hv)
    go_ret
    exact ⟨rfl, _, HD.out⟩
end Go.Proofs.YtkfdgpgildanbaaGreat
