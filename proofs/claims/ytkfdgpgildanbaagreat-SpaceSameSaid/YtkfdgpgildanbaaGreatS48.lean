import Derived.Test.YtkfdgpgildanbaaGreatS47
import Derived.Deep.RegionLaw
namespace Go.Proofs.YtkfdgpgildanbaaGreat
open Go.RowKit Go.Shelf
set_option linter.unusedVariables false
set_option linter.unusedSimpArgs false
structure Args15 (W0 : World) (R : Nat → Prop) (A : Value) (args : List Int) : Prop where
  inn : ∀ x ∈ args, InI x
  all : ∀ W', But R W0 W' → IsNums .i64 W' W'.heap.size A args
theorem Args15.go {W W1 : World} {R : Nat → Prop} {A : Value} {args : List Int} (h : Args15 W R A args) (hb : But R W W1) : Args15 W1 R A args := ⟨h.inn, fun W' hb2 => h.all W' (hb.trans hb2)⟩
theorem Args15.now {W : World} {R : Nat → Prop} {A : Value} {args : List Int} (h : Args15 W R A args) : IsNums .i64 W W.heap.size A args := h.all W (But.refl _ _)
theorem funs_row15 {w : World} {V : Value} {fs : List FunV} (h : IsFuns w w.heap.size V fs) (hf : 0 < fs.length) : ∃ b off cap, V = .slice (some ⟨b, off, none⟩) fs.length cap ∧ fs.length ≤ cap ∧ b < w.heap.size ∧
    ∀ f, f < fs.length → w.cell? ⟨b, off + f * 4, none⟩ = some (.int .i64 (fs.getD f .zero).params) := by
  obtain ⟨b, off, cap, h1, h2, h3, h4⟩ := h.plain hf
  refine ⟨b, off, cap, h1, h2, h3, fun f hf => ?_⟩
  obtain ⟨C, hC, hc⟩ := h4 f hf
  exact hc 0 (by omega)
theorem regs_in {S : SpV} {r : Int} (h : S.regB r = true) (hok : S.ok) : InI r := by
  simp [SpV.regB] at h
  have := (err_fn hok.mod hok.fn).2.1
  unfold InI
  omega
set_option maxRecDepth 100000 in
set_option maxHeartbeats 8000000 in
theorem callRef15 {W : World} {sb : Nat} {p : Loc} {S : SpV} (h : SpAt W sb p S) (f res back : Int) (A : Value) (args : List Int) (hf : InI f) (hr : InI res) (hbk : InI back) (hA : Args15 W (foot15 sb p) A args) :
    Calls Tryz.prog 105 #[.pointer (some ⟨sb, 0, none⟩), .int .i64 f, A, .int .i64 res, .int .i64 back] W (SpDone W sb p S S (.int .i64 (S.callE f args res back))) := by
  have HR := Lib.hid (refuse15 h)
  have hok := h.ok
  obtain ⟨aA, ac, rfl⟩ := hA.now.len
  have HI := Lib.hid (fun W' p' (h : LaidAt W' sb p' S) r (hr : InI r) => isReg15 h r hr)
  have HPL := Lib.hid (fun w => place15 back w hbk)
  have HRS := Lib.hid hr
  have HINN := Lib.hid hA.inn
  have HA := Lib.hid hA
  have hnot := not15
  have HFL : Hid (S.m.funcs.length ≤ 64) := Lib.hid (err_funs hok.mod).2.2.1
  have HFP : Hid (0 < S.m.funcs.length) := Lib.hid (err_funs hok.mod).2.1
  have hfl := HFL.out
  have f1 := hf.1
  have f2 := hf.2
  have hnl : (args.length : Int) ≤ 140737488355328 ∨ True := .inr trivial
  unfold SpV.callE
  unfold SpV.refE at HR
  obtain ⟨n, hn⟩ : ∃ n, n = args.length := ⟨_, rfl⟩
  have HN := Lib.hid hn
  have hmax : n ≤ maxLen := by rw [hn]; exact hA.now.1
  rw [← hn]
  clear h hA hf hbk hr hnl hn
  by_cases he : S.ek = 0
  · simp only [if_pos he] at HR ⊢
    clear he
    by_cases hq : S.fitB f n = true
    · obtain ⟨q1, q2, q3⟩ := fit_iff.1 hq
      simp only [if_pos hq]
      obtain ⟨k, rfl⟩ : ∃ k : Nat, f = k := ⟨f.toNat, by omega⟩
      have hk : k < S.m.funcs.length := by omega
      rw [show ((k : Int)).toNat = k by omega] at q3
      have HQ3 : Hid ((n : Int) = (S.m.funcs.getD k .zero).params) := Lib.hid q3
      have d0 : decide ((k : Int) < 0) = false := decide_eq_false (by omega)
      have d1 : decide ((S.m.funcs.length : Int) ≤ (k : Int)) = false := decide_eq_false (by omega)
      have HK := Lib.hid hk
      have nn : ((n : Int) != (n : Int)) = false := by simp
      have HMX := Lib.hid hmax
      have hn8 : n ≤ 8 := by
        have := (err_fn hok.mod hk).2.2.2.2.1
        have h2 : (n : Int) = (fnV S.m k).params := q3
        omega
      have HOK := Lib.hid hok
      obtain ⟨E, hE⟩ : ∃ E, E = (if (args.all S.regB && (S.regB res && placeB back)) = true then (0 : Int) else 5) := ⟨_, rfl⟩
      have HE := Lib.hid hE
      rw [← hE]
      clear hq q3 hok hmax f1 f2 q1 q2 hk hE
      go_enter Tryz.func105, Tryz.ntmps105
      go_wp2_with (go_at_call 82; (with_reducible refine HR.out.mono ?_); rintro e w' ⟨rfl, p', hv⟩; have HD := Lib.hid hv; have HAA := Lib.hid (HA.out.go hv.but); obtain ⟨⟨c5, c9, c10, c11⟩, ⟨c12, c13, c14, c15⟩, c16, c17⟩ := hv.laid.cells; obtain ⟨b, off, cap, hV, hcp, hbb, kk⟩ := funs_row15 (hv.laid.funs.funs (by have := HFL.out; omega)) HFP.out; rw [hV] at c5; have KK := Lib.hid kk; clear hV kk; have hkp := KK.out k HK.out; rw [← HQ3.out] at hkp; clear hv)
      clear c5 c9 c10 c11 c12 c13 c14 c15 c16 c17 hcp hbb hkp
      have d1n : decide (S.m.funcs.length ≤ k) = false := decide_eq_false (by have := HK.out; omega)
      simp only [d1n]
      go_loopw [13, 49] (fun _ v49 wr => ∃ i : Nat, v49 = .int .i64 i ∧ i ≤ n ∧ (∃ q, wr = w'.drewN q) ∧ Hid ((args.take i).all S.regB = true)) (fun _ v49 _ => n - (intOf v49).toNat)
      case atStart => exact ⟨0, rfl, by omega, ⟨0, rfl⟩, Lib.hid (by simp)⟩
      case round =>
        obtain ⟨i, rfl, hi, ⟨q, hq⟩, HT⟩ := hrel
        have HDw := Lib.hid (HD.out.read (below_drewN14 hq))
        have HAw := Lib.hid (show Args15 wr (foot15 sb p) (.slice aA args.length ac) args by rw [hq]; exact HAA.out.go ((But.refl _ w').drewN q))
        have HQ := Lib.hid hq
        clear hq
        by_cases hlt : i < n
        · obtain ⟨xb, xo, xc, hxe, hxc, hxb, hxl⟩ := (HAw.out.now).plain (by rw [← HN.out]; omega)
          injection hxe with hxa hxn hac
          clear hxn
          subst hxa hac
          have ci := hxl i (by rw [← HN.out]; omega)
          have hxi := HINN.out (args.getD i 0) (by rw [List.getD_eq_getElem?_getD, List.getElem?_eq_getElem (by rw [← HN.out]; omega)]; exact List.getElem_mem _)
          have HTK : Hid ((args.take (i + 1)).all S.regB = S.regB (args.getD i 0)) := Lib.hid (by
            rw [List.take_succ_eq_append_getElem (by rw [← HN.out]; omega), List.all_append, HT.out]
            simp [List.getD_eq_getElem?_getD, List.getElem?_eq_getElem (show i < args.length by rw [← HN.out]; omega)])
          have HLS : Hid (S.regB (args.getD i 0) = false → args.all S.regB = false) := Lib.hid (fun e => by
            rw [Bool.eq_false_iff]
            intro h
            rw [List.all_eq_true] at h
            have := h (args.getD i 0) (by rw [List.getD_eq_getElem?_getD, List.getElem?_eq_getElem (by rw [← HN.out]; omega)]; exact List.getElem_mem _)
            rw [e] at this
            cases this)
          have HIX := Lib.hid (HI.out wr p' HDw.out.laid (args.getD i 0) hxi)
          have i0 : (0 : Int) ≤ (i : Int) := by omega
          have i1 : (i : Int) < (n : Int) := by omega
          have hxc' : n ≤ ac ∨ True := .inr trivial
          generalize args.getD i 0 = x at *
          clear hxl hxc hxb hxi hxc'
          cases hb : S.regB x
          · rw [hb] at HIX
            have hE5 : E = 5 := by rw [HE.out, HLS.out hb]; rfl
            subst hE5
            go_wp2_with (go_at_call 100; (with_reducible refine HIX.out.mono ?_); rintro e w2 ⟨rfl, q2, hw⟩; have HD2 := Lib.hid (HDw.out.read (below_drewN14 hw)); clear hw)
            go_ret
            exact ⟨rfl, _, HD2.out⟩
          · rw [hb] at HIX
            have HT2 : Hid ((args.take (i + 1)).all S.regB = true) := Lib.hid (by rw [HTK.out, hb])
            have HIM := Lib.hid hlt
            clear hb
            go_wp2_with (go_at_call 100; (with_reducible refine HIX.out.mono ?_); rintro e w2 ⟨rfl, q2, hw⟩; have HW2 := Lib.hid hw; clear hw)
            go_roundw
            case rel => exact ⟨i + 1, by go_num, by have := HIM.out; omega, ⟨q + q2, by rw [HW2.out, HQ.out, World.drewN_drewN]⟩, HT2⟩
            case measure => have := HIM.out; simp [intOf]; omega
        · have hin : n = i := by omega
          have hall : args.all S.regB = true := by
            have := HT.out
            rw [← hin, HN.out, List.take_length] at this
            exact this
          have HIR := Lib.hid (HI.out wr p' HDw.out.laid res HRS.out)
          rw [hall, Bool.true_and] at HE
          clear hall HT hin HI
          cases hb : S.regB res
          · rw [hb] at HIR HE
            have hE5 : E = 5 := by rw [HE.out]; rfl
            subst hE5
            clear hb
            go_wp2_with (go_at_call 100; (with_reducible refine HIR.out.mono ?_); rintro e w2 ⟨rfl, q2, hw⟩; have HD2 := Lib.hid (HDw.out.read (below_drewN14 hw)); clear hw)
            go_ret
            exact ⟨rfl, _, HD2.out⟩
          · rw [hb] at HIR HE
            clear hb
            cases hb : placeB back
            · rw [hb] at HPL HE
              have hE5 : E = 5 := by rw [HE.out]; rfl
              subst hE5
              clear hb
              go_wp2_with (first
                | (go_at_call 100; (with_reducible refine HIR.out.mono ?_); rintro e w2 ⟨rfl, q2, hw⟩; have HD2 := Lib.hid (HDw.out.read (below_drewN14 hw)); clear hw)
                | (go_at_call 103; (with_reducible refine (HPL.out _).mono ?_); rintro e w'' ⟨rfl, rfl⟩))
              go_ret
              exact ⟨rfl, _, HD2.out⟩
            · rw [hb] at HPL HE
              have hE5 : E = 0 := by rw [HE.out]; rfl
              subst hE5
              clear hb
              go_wp2_with (first
                | (go_at_call 100; (with_reducible refine HIR.out.mono ?_); rintro e w2 ⟨rfl, q2, hw⟩; have HD2 := Lib.hid (HDw.out.read (below_drewN14 hw)); clear hw)
                | (go_at_call 103; (with_reducible refine (HPL.out _).mono ?_); rintro e w'' ⟨rfl, rfl⟩))
              go_ret
              exact ⟨rfl, _, HD2.out⟩
    · simp only [if_neg hq]
      rw [fit_iff] at hq
      by_cases q1 : f < 0
      · have d0 : decide (f < 0) = true := decide_eq_true q1
        clear hq hok hmax
        go_enter Tryz.func105, Tryz.ntmps105
        go_wp2_with (go_at_call 82; (with_reducible refine HR.out.mono ?_); rintro e w' ⟨rfl, p', hv⟩; have HD := Lib.hid hv; have HAA := Lib.hid (HA.out.go hv.but); clear hv)
        go_ret
        exact ⟨rfl, _, HD.out⟩
      · obtain ⟨k, rfl⟩ : ∃ k : Nat, f = k := ⟨f.toNat, by omega⟩
        have d0 : decide ((k : Int) < 0) = false := decide_eq_false q1
        by_cases q2 : k < S.m.funcs.length
        · rw [show ((k : Int)).toNat = k by omega] at hq
          have q3 : ¬ (n : Int) = (S.m.funcs.getD k .zero).params := fun e => hq ⟨by omega, by omega, e⟩
          have d1 : decide ((S.m.funcs.length : Int) ≤ (k : Int)) = false := decide_eq_false (by omega)
          obtain ⟨pp, hpp⟩ : ∃ pp, pp = (S.m.funcs.getD k .zero).params := ⟨_, rfl⟩
          have HPP := Lib.hid hpp
          rw [← hpp] at q3
          have d2 : ((n : Int) != pp) = true := by simpa using q3
          clear hpp
          have HK := Lib.hid q2
          clear hq hok q3 hmax f1 f2 q1 q2
          go_enter Tryz.func105, Tryz.ntmps105
          go_wp2_with (go_at_call 82; (with_reducible refine HR.out.mono ?_); rintro e w' ⟨rfl, p', hv⟩; have HD := Lib.hid hv; have HAA := Lib.hid (HA.out.go hv.but); obtain ⟨⟨c5, c9, c10, c11⟩, ⟨c12, c13, c14, c15⟩, c16, c17⟩ := hv.laid.cells; obtain ⟨b, off, cap, hV, hcp, hbb, kk⟩ := funs_row15 (hv.laid.funs.funs (by have := HFL.out; omega)) HFP.out; rw [hV] at c5; have KK := Lib.hid kk; clear hV kk; have hkp := KK.out k HK.out; rw [← HPP.out] at hkp; clear hv)
          go_ret
          exact ⟨rfl, _, HD.out⟩
        · have d1 : decide ((S.m.funcs.length : Int) ≤ (k : Int)) = true := decide_eq_true (by omega)
          clear hq hok hmax
          go_enter Tryz.func105, Tryz.ntmps105
          go_wp2_with (go_at_call 82; (with_reducible refine HR.out.mono ?_); rintro e w' ⟨rfl, p', hv⟩; have HD := Lib.hid hv; have HAA := Lib.hid (HA.out.go hv.but); obtain ⟨⟨c5, c9, c10, c11⟩, ⟨c12, c13, c14, c15⟩, c16, c17⟩ := hv.laid.cells; obtain ⟨b, off, cap, hV, hcp, hbb, kk⟩ := funs_row15 (hv.laid.funs.funs (by have := HFL.out; omega)) HFP.out; rw [hV] at c5; have KK := Lib.hid kk; clear hV kk; clear hv)
          go_ret
          exact ⟨rfl, _, HD.out⟩
  · simp only [if_neg he] at HR ⊢
    clear he hok hmax
    go_enter Tryz.func105, Tryz.ntmps105
    go_wp2_with (go_at_call 82; (with_reducible refine HR.out.mono ?_); rintro e w' ⟨rfl, p', hv⟩; have HD := Lib.hid hv; have HAA := Lib.hid (HA.out.go hv.but); clear hv)
    go_ret
    exact ⟨rfl, _, HD.out⟩
end Go.Proofs.YtkfdgpgildanbaaGreat
namespace Go.Proofs.YtkfdgpgildanbaaGreat
open Go.RowKit Go.Shelf
set_option linter.unusedVariables false
set_option linter.unusedSimpArgs false
theorem loadV_bd15 {xs : List Int} (h : ∀ x ∈ xs, 0 ≤ x ∧ x < 256) (a : Int) : 0 ≤ loadV xs a 8 ∧ loadV xs a 8 < 18446744073709551616 := by
  unfold loadV
  split
  · have h1 := numV_bd (partL_bd h a 8)
    have h5 := numE_zero (by assumption)
    have h2 : (partL xs a 8).length = 8 := by unfold partL; simp; omega
    rw [h2] at h1
    have h4 : (256 : Int) ^ 8 = 18446744073709551616 := by decide
    omega
  · omega
set_option maxRecDepth 100000 in
set_option maxHeartbeats 4000000 in
theorem pass15 {W : World} {sb : Nat} {p : Loc} {S : SpV} (h : LaidAt W sb p S) (a b : Int) (ha : 0 ≤ a ∧ a < 18446744073709551616) (hb : 0 ≤ b ∧ b < 18446744073709551616) (e1 : numE S.mem.length a 8 = 0) (e2 : numE S.mem.length b 8 = 0) :
    Calls Tryz.prog 107 #[.pointer (some ⟨sb, 0, none⟩), .int .u64 a, .int .u64 b] W fun e W' => e = .returned (.int .i64 0) ∧ Vd15 W W' sb p p S { S with mem := storeL S.mem b 8 (loadV S.mem a 8) } := by
  have hv := loadV_bd15 h.mem.bd a
  have HL := Lib.hid (load_any h.mem a 8 ha.1 ha.2 (by decide))
  have HS := Lib.hid (store_any h.mem b 8 (loadV S.mem a 8) hb.1 hb.2 (by decide) hv.1 hv.2)
  rw [e1] at HL
  rw [e2] at HS
  have HD := Lib.hid h
  obtain ⟨⟨c5, c9, c10, c11⟩, ⟨c12, c13, c14, c15⟩, c16, c17⟩ := h.cells
  clear h ha hb e1 e2 hv
  generalize loadV S.mem a 8 = v at *
  go_enter Tryz.func107, Tryz.ntmps107
  go_wp2_with (first
    | (go_at_call 52; (with_reducible refine HL.out.mono ?_); rintro e w' ⟨rfl, rfl⟩)
    | (go_at_call 48; (with_reducible refine HS.out.mono ?_); rintro e w4 ⟨rfl, hm, hb⟩; have HD4 := Lib.hid (HD.out.stored hm hb storeL_len); clear hm hb))
  go_ret
  exact ⟨rfl, HD4.out⟩
theorem link_info15 : (Tryz.prog.info? 136).map (fun i => (i.zero, i.size, i.bytes)) = some (some (.agg #[.int .i64 0, .int .i64 0, .int .i64 0, .int .i64 0]), 4, 32) := by kernel_rfl
theorem one_link15 (K : IntKind) (T : TypeId) (w : World) (l : LinkV) : ∀ j u, (cellsL K [l])[j]? = some u → (w.alloc (.cells #[.int .i64 l.f, .int K l.at_, .int .i64 l.back, .int .i64 l.res] T)).cell? ((⟨w.heap.size, 0, none⟩ : Addr).add j) = some u := by
  intro j u hj
  have e : (⟨w.heap.size, 0, none⟩ : Addr).add j = ⟨w.heap.size, j, none⟩ := by unfold Addr.add; split <;> simp_all
  rw [e, cell_of_row _ _ _ _ _ _ (heap_alloc_new w _)]
  simp only [cellsL, List.flatMap_cons, List.flatMap_nil, List.append_nil, linkC] at hj
  rw [← hj, ← Array.getElem?_toList]
theorem cellsL_one {K : IntKind} : ∀ (l : List LinkV), ∀ u ∈ cellsL K l, u.oneCell' = true
  | [], u, h => by cases h
  | a :: l, u, h => by
    simp only [cellsL, List.flatMap_cons, List.mem_append] at h
    rcases h with h | h
    · simp [linkC] at h
      rcases h with rfl | rfl | rfl | rfl <;> rfl
    · exact cellsL_one l u h
structure MoreL (K : IntKind) (T : TypeId) (W W' : World) (V V' : Value) (L : List LinkV) (l : LinkV) : Prop where
  own : Owns W' 0 T 4 AnyCell V' (L.length + 1) (cellsL K (L ++ [l]))
  blk : ∀ i, i < W.heap.size → some i ≠ V.ownBlock → W'.heap[i]? = W.heap[i]?
  bel : Below 0 W W'
  size : W.heap.size ≤ W'.heap.size
  whr : V'.ownBlock = V.ownBlock ∨ ∃ g, V'.ownBlock = some g ∧ W.heap.size ≤ g
theorem run_link15 {K : IntKind} {T ts ty : TypeId} {z : Value} (hts : Tryz.prog.underlying ts = some (.slice T)) (hinf : (Tryz.prog.info? T).map (fun i => (i.zero, i.size, i.bytes)) = some (some z, 4, 32)) (hz4 : z.cells.size = 4) {W : World} {V : Value} {L : List LinkV} {l : LinkV}
    (h : Owns W 0 T 4 AnyCell V L.length (cellsL K L)) (hl : L.length ≤ 1000000) :
    ∃ V' W', (Builtin.append_ #[ts, ts] ty #[V, .slice (some ⟨W.heap.size, 0, none⟩) 1 1]).run Tryz.prog (W.alloc (.cells #[.int .i64 l.f, .int K l.at_, .int .i64 l.back, .int .i64 l.res] T)) = .ok V' W' ∧ MoreL K T W W' V V' L l := by
  obtain ⟨i, hi, h1, h2, h3⟩ := info_parts hinf
  have ha : Below W.heap.size W (W.alloc (.cells #[.int .i64 l.f, .int K l.at_, .int .i64 l.back, .int .i64 l.res] T)) := (Below.refl W.heap.size W).alloc (Nat.le_refl _) _
  have hg := Owns.below h ha (Nat.le_refl _)
  obtain ⟨V', W', hr, ho', hg'⟩ := run_append_q (P := Tryz.prog) _ 0 ts ty T i _ 4 32 hts hi h1 h2 h3 hz4 (by decide) AnyCell (fun _ _ => trivial) V L.length (cellsL K L) hg ⟨W.heap.size, 0, none⟩ 1 1 (cellsL K [l]) rfl (one_link15 K T W l) (cellsL_one _) (fun _ _ => trivial) (by unfold maxLen; omega) (by omega) (by simp)
  obtain ⟨V2, W2, hr2, _, _, hw2⟩ := run_where14 (P := Tryz.prog) _ 0 ts ty T i _ 4 32 hts hi h1 h2 h3 hz4 (by decide) V L.length (cellsL K L) hg.1 ⟨W.heap.size, 0, none⟩ 1 1 (by decide) (cellsL K [l]) rfl (one_link15 K T W l) (cellsL_one _) (by unfold maxLen; omega) (by omega) (by simp)
  rw [hr] at hr2
  injection hr2 with e1 e2
  subst e1 e2
  have e : World.grownBy (W.alloc (.cells #[.int .i64 l.f, .int K l.at_, .int .i64 l.back, .int .i64 l.res] T)) W' V.ownBlock := hg'
  refine ⟨V', W', hr, ⟨by rw [cellsL_app]; exact ho', fun i hi hn => (e.block i (by simp; omega) hn).trans (ha.block i hi), (ha.mono (Nat.zero_le _)).grown e (by simp) fun j hj => Nat.zero_le _, Nat.le_trans (by simp) e.size, ?_⟩⟩
  rcases hw2 with h | h
  · exact .inl h
  · exact .inr ⟨_, h, by simp⟩
theorem step_link15 {W : World} {ops : Array Oper} {o : Oper} {a : Act} {K : Act → World → Prop} {Q : Exit → Act → World → Prop} {E : Prop} (hgd : o.guard = none) (s x : Operand)
    (ho : o.op = .call { callee := .builtin .append, args := #[s, x], argTypes := #[78, 78] }) {V : Value} {L : List LinkV} {l : LinkV} {g : Nat} (hs : a.eval s = V) (hx : a.eval x = .slice (some ⟨g, 0, none⟩) 1 1) (hgs : g = W.heap.size) (h : Owns W 0 136 4 AnyCell V L.length (cellsL .i64 L))
    (hl : L.length ≤ 1000000) (hK : ∀ V' W', MoreL .i64 136 W W' V V' L l → K (a.put o.dst V') W') :
    if Region.wanted o (yielded ops a.tmps) = true then Oper.wp Tryz.prog o a (W.alloc (.cells #[.int .i64 l.f, .int .i64 l.at_, .int .i64 l.back, .int .i64 l.res] 136)) K Q else E := by
  subst hgs
  rw [if_pos (by simp [Region.wanted, hgd])]
  obtain ⟨V', W', hr, hm⟩ := run_link15 (ty := o.type) (l := l) Tryz.underlying78 link_info15 rfl h hl
  unfold Oper.wp execOp
  simp only [ho, resolve, invoke, builtin, Sem.run_bind, Sem.run_pure, Result.andThen_ok, List.map_toArray, List.map_cons, List.map_nil, hs, hx, hr]
  exact hK V' W' hm
end Go.Proofs.YtkfdgpgildanbaaGreat
namespace Go.Proofs.YtkfdgpgildanbaaGreat
open Go.RowKit Go.Shelf
set_option linter.unusedVariables false
set_option linter.unusedSimpArgs false
theorem Args15.more {W W1 : World} {R R1 : Nat → Prop} {A : Value} {args : List Int} (h : Args15 W R A args) (hb : But R W W1) (hr : ∀ k, R1 k → R k ∨ W.heap.size ≤ k) : Args15 W1 R1 A args :=
  ⟨h.inn, fun W' hb2 => h.all W' (hb.more15 hb2 hr)⟩
theorem passL_step {mem : List Int} {src dst : Int} {i : Nat} {args : List Int} (hi : i < args.length) : passL mem src dst i (args.drop i) = passL (storeL mem (slotV dst i) 8 (loadV mem (slotV src (args.getD i 0)) 8)) src dst (i + 1) (args.drop (i + 1)) := by
  rw [List.drop_eq_getElem_cons hi]
  simp only [passL]
  simp [List.getD, List.getElem?_eq_getElem hi]
theorem LaidAt.notCur {W : World} {sb : Nat} {p : Loc} {S : SpV} (h : LaidAt W sb p S) {k : Nat} {c : Array Value} (hc : W.heap[k]? = some (.cells c 77 (0, 0))) : ¬ foot15 sb p k := by
  rintro (rfl | rfl | rfl | rfl | e | e)
  · exact types14 hc h.box (by decide)
  · exact types14 hc h.mem.head (by decide)
  · obtain ⟨cur, hc', _⟩ := h.mem.row
    exact types14 hc hc' (by decide)
  · exact types14 hc h.tape.box (by decide)
  · obtain ⟨_, c', hc'⟩ := typed14 h.tape.done e
    exact types14 hc hc' (by decide)
  · obtain ⟨_, c', hc'⟩ := typed14 h.links e
    exact types14 hc hc' (by decide)
set_option maxRecDepth 100000 in
set_option maxHeartbeats 16000000 in
theorem call15 {W : World} {sb : Nat} {p : Loc} {S : SpV} (h : SpAt W sb p S) (f res back : Int) (A : Value) (args : List Int) (hf : InI f) (hr : InI res) (hbk : InI back) (hA : Args15 W (foot15 sb p) A args) :
    Calls Tryz.prog 40 #[.pointer (some ⟨sb, 0, none⟩), .int .i64 f, A, .int .i64 res, .int .i64 back] W (SpDone W sb p S (S.callS f args res back) (.int .i64 (S.callE f args res back))) := by
  have HC := Lib.hid (callRef15 h f res back A args hf hr hbk hA)
  have hok := h.ok
  have hoo : (S.callS f args res back).ok := hok.callS f args res back
  obtain ⟨aA, ac, rfl⟩ := hA.now.len
  have HA := Lib.hid hA
  have hnot := not15
  obtain ⟨n, hn⟩ : ∃ n, n = args.length := ⟨_, rfl⟩
  have HN := Lib.hid hn
  unfold SpV.callS at *
  obtain ⟨E, hE⟩ : ∃ E, E = S.callE f args res back := ⟨_, rfl⟩
  rw [← hE] at HC hoo ⊢
  rw [← hn]
  rw [← hn] at HC
  clear h hA hn
  by_cases he : E = 0
  · obtain ⟨e1, e2, e3, e4, e5⟩ := callE_zero (hE.symm.trans he)
    subst he
    obtain ⟨q1, q2, q3⟩ := fit_iff.1 e2
    simp only [if_true] at hoo ⊢
    obtain ⟨k, rfl⟩ : ∃ k : Nat, f = k := ⟨f.toNat, by omega⟩
    have hk : k < S.m.funcs.length := by omega
    simp only [show ((k : Int)).toNat = k by omega] at hoo q3 ⊢
    have hfr := (hok.run e1).2
    have hflo := flo_bd hok.mod
    have HE := Lib.hid (fun (w : World) (p' : Loc) (h : LaidAt w sb p' S) => enter15 (f := k) h.box (h.funs.funs (by have := (err_funs hok.mod).2.2.1; omega)) hk ⟨by have := hok.at0; omega, by have := hok.at1; omega⟩ ⟨by omega, by omega⟩)
    have hRB : ∀ x ∈ args, S.regB x = true := e3
    have HFL : Hid (S.m.funcs.length ≤ 64) := Lib.hid (err_funs hok.mod).2.2.1
    by_cases hL : S.links.length = 256
    · have hout : S.outB k = true := by unfold SpV.outB; rw [decide_eq_true hL]; rfl
      simp only [if_pos hout] at hoo ⊢
      have HO := Lib.hid hoo
      have HL := Lib.hid hL
      clear hE e1 e2 e3 e4 e5 q1 q2 q3 hfr hflo hok hRB hoo hout hL hf hr hbk
      go_enter Tryz.func40, Tryz.ntmps40
      go_upto_region 4 with (go_at_call 105; (with_reducible refine HC.out.mono ?_); rintro e w' ⟨rfl, p', hv⟩; have HD := Lib.hid hv; obtain ⟨⟨c5, c9, c10, c11⟩, ⟨c12, c13, c14, c15⟩, c16, c17⟩ := hv.laid.cells; obtain ⟨LA, lc, hle⟩ := owns_len14 hv.laid.links; rw [HL.out] at hle; rw [hle] at c15; have HLE := Lib.hid hle; clear hv hle)
      obtain ⟨W2, hW2⟩ : ∃ W2, W2 = w'.alloc (.cells #[.int .i64 S.f, .int .u64 S.at_, .int .i64 S.pc] 77) := ⟨_, rfl⟩
      have HW2 := Lib.hid hW2
      have HD2 := Lib.hid (HD.out.read (show Below w'.heap.size w' W2 by rw [hW2]; exact below_one14 _ _))
      have X2 := Lib.hid (show W2.heap[w'.heap.size]? = some (.cells #[.int .i64 S.f, .int .u64 S.at_, .int .i64 S.pc] 77 (0, 0)) by rw [hW2]; exact heap_alloc_new _ _)
      clear hW2
      go_upto_region 5 with fail
      rw [← HW2.out]
      clear c5 c9 c10 c11 c12 c13 c14
      clear c15 c16 c17
      obtain ⟨⟨c5, c9, c10, c11⟩, ⟨c12, c13, c14, c15⟩, c16, c17⟩ := HD2.out.laid.cells
      rw [HLE.out] at c15
      have g16 := HD2.out.laid.free 16
      go_wp2
      go_ret
      exact ⟨rfl, _, HD2.out.trans (HD2.out.laid.boxed (one_but15 _ sb 16 _) (heap_setCell_same _ sb 16 _ _ _ HD2.out.laid.box) rfl HO.out)⟩
    · have hl256 : ((S.links.length : Int) == 256) = false := by simpa using (fun e : (S.links.length : Int) = 256 => hL (by omega))
      by_cases hP : S.newE k = 0
      · have hout : S.outB k = false := by unfold SpV.outB; rw [decide_eq_false hL, decide_eq_false (fun h => h hP)]; rfl
        simp only [hout, Bool.false_eq_true, if_false] at hoo ⊢
        have HP : Hid (pushE S.at_ (S.m.funcs.getD k .zero).regs (S.m.funcs.getD k .zero).area (floV S.m) = 0) := Lib.hid hP
        obtain ⟨p1, p2⟩ := push_fr (f := k) (x := S.at_) hok.mod hk hok.hi (hok.at_le e1) hP
        obtain ⟨y, hy⟩ : ∃ y, y = S.newAt k := ⟨_, rfl⟩
        have hy2 : pushV S.at_ (fnV S.m k).regs (fnV S.m k).area (floV S.m) = y := hy.symm
        rw [hy2] at p1 p2
        rw [← hy] at hoo ⊢
        have hnn := HN.out
        have hrg := err_fn hok.mod hk
        have hy0 := p1.lo
        have hy1 := hok.at1
        have hfs := (fs_bd (fnV S.m k).regs (fnV S.m k).area).1
        have ho2 : ({ S with links := S.links ++ [⟨S.f, S.at_, back, res⟩], f := k, at_ := y, pc := 0 } : SpV).ok := hoo.mem' (l := S.mem) (by rw [passL_len])
        have ho1 : ({ S with f := k, at_ := y, pc := 0 } : SpV).ok := ⟨ho2.mod, ho2.lo, ho2.hi, ho2.al, ho2.flo, ho2.len, ho2.bd, ho2.fuel0, ho2.fuel1, ho2.fn, ho2.at0, ho2.at1, ho2.run, ho2.pc0, ho2.pc1, hok.deep, hok.link, ho2.few, ho2.ends⟩
        have HY : Hid (pushV S.at_ (S.m.funcs.getD k .zero).regs (S.m.funcs.getD k .zero).area (floV S.m) = y) := Lib.hid hy2
        have HO1 := Lib.hid ho1
        have HO2 := Lib.hid ho2
        have HA16 : Hid (16 ≤ y ∧ y ≤ 65536) := Lib.hid ⟨by omega, by omega⟩
        have HSA : Hid (16 ≤ S.at_ ∧ S.at_ ≤ 65536) := Lib.hid ⟨hok.at0, hok.at1⟩
        have HIN := Lib.hid (fun x (hx : x ∈ args) => (⟨hRB x hx, regs_in (hRB x hx) hok⟩ : S.regB x = true ∧ InI x))
        have HFR : Hid (∀ x ∈ args, numE S.mem.length (slotV S.at_ x) 8 = 0) := Lib.hid (fun x hx => hok.slotE e1 (hRB x hx))
        have HTO : Hid (∀ i : Nat, i < n → numE S.mem.length (slotV y i) 8 = 0) := Lib.hid (fun i hi => by
          obtain ⟨s1, s2, s3⟩ := slot_in hok.mod hok.hi p1 (r := i) (by omega) (by omega)
          rw [s1, hok.len]; exact numE_in s2 s3)
        have hn8 : n ≤ 8 := by omega
        have hsl : wrap64 S.at_ = S.at_ := by unfold wrap64; have := hok.at0; omega
        have hsl2 : IntKind.i64.wrap S.at_ = S.at_ := IntWalk.i64_in _ (by have := hok.at0; omega)
        obtain ⟨ll, hll⟩ : ∃ ll, ll = S.links.length := ⟨_, rfl⟩
        have HL := Lib.hid hll
        have HDP := Lib.hid hok.deep
        rw [← hll] at hl256
        clear hE e1 e2 e3 e4 e5 q1 q2 q3 hfr hflo hok hRB hoo hout hL hf hr hbk hP hll hk p1 p2 hy hy2 hrg hy0 hy1 hfs ho1 ho2 hnn
        go_enter Tryz.func40, Tryz.ntmps40
        go_upto_region 4 with (go_at_call 105; (with_reducible refine HC.out.mono ?_); rintro e w' ⟨rfl, p', hv⟩; have HD := Lib.hid hv; obtain ⟨⟨c5, c9, c10, c11⟩, ⟨c12, c13, c14, c15⟩, c16, c17⟩ := hv.laid.cells; obtain ⟨LA, lc, hle⟩ := owns_len14 hv.laid.links; rw [← HL.out] at hle; rw [hle] at c15; have HLE := Lib.hid hle; clear hv hle)
        obtain ⟨W2, hW2⟩ : ∃ W2, W2 = w'.alloc (.cells #[.int .i64 S.f, .int .u64 S.at_, .int .i64 S.pc] 77) := ⟨_, rfl⟩
        have HW2 := Lib.hid hW2
        have HD2 := Lib.hid (HD.out.read (show Below w'.heap.size w' W2 by rw [hW2]; exact below_one14 _ _))
        have X2 := Lib.hid (show W2.heap[w'.heap.size]? = some (.cells #[.int .i64 S.f, .int .u64 S.at_, .int .i64 S.pc] 77 (0, 0)) by rw [hW2]; exact heap_alloc_new _ _)
        clear hW2
        go_upto_region 5 with fail
        rw [← HW2.out]
        clear c5 c9 c10 c11 c12 c13 c14
        clear c15 c16 c17
        obtain ⟨⟨c5, c9, c10, c11⟩, ⟨c12, c13, c14, c15⟩, c16, c17⟩ := HD2.out.laid.cells
        rw [HLE.out] at c15
        have g16 := HD2.out.laid.free 16
        have HFB : Hid (w'.heap.size ≠ sb ∧ w'.heap.size < W2.heap.size) := Lib.hid ⟨fun e => by have := heap_lt HD.out.laid.box; omega, heap_lt X2.out⟩
        go_upto_region 8 with (go_at_call 106; (with_reducible refine (HE.out _ _ HD2.out.laid).mono ?_); rintro e w3 ⟨he3, hb3, hx3⟩; rw [if_pos HP.out] at hx3; rw [HY.out] at hx3; rw [decide_eq_true HP.out] at he3; subst he3; have HD3 := Lib.hid (HD2.out.trans (HD2.out.laid.boxed (S' := { S with f := k, at_ := y, pc := 0 }) hb3 hx3 rfl HO1.out)); have X3 := Lib.hid (hb3.heap X2.out (fun e => HFB.out.1 e)); clear hb3 hx3)
        clear c5 c9 c10 c11 c12 c13 c14 c15 c16 c17 g16
        obtain ⟨⟨c5, c9, c10, c11⟩, ⟨c12, c13, c14, c15⟩, c16, c17⟩ := HD3.out.laid.cells
        rw [HLE.out] at c15
        obtain ⟨n0, n1, n2⟩ := cells3_14 X3.out
        have OL := Lib.hid (show Owns w3.drew 0 136 4 AnyCell (.slice LA ll lc) S.links.length (cellsL .i64 S.links) by rw [← HLE.out]; exact HD3.out.laid.links.drew)
        have HD3a := Lib.hid (HD3.out.read (below_one14 w3 (.cells #[.int .i64 S.f, .int .i64 S.at_, .int .i64 back, .int .i64 res] 136)))
        obtain ⟨⟨_, _, _, _⟩, ⟨_, a13, a14, a15⟩, a16, a17⟩ := HD3a.out.laid.cells
        rw [HLE.out] at a15
        have X3a := Lib.hid (((below_one14 w3 (.cells #[.int .i64 S.f, .int .i64 S.at_, .int .i64 back, .int .i64 res] 136)).block _ (heap_lt X3.out)).trans X3.out)
        obtain ⟨m0, m1, m2⟩ := cells3_14 X3a.out
        go_cut [45] from 45 to 85 (fun s45 wx => ∃ p2, Hid (Vd15 W wx sb p p2 S { S with links := S.links ++ [⟨S.f, S.at_, back, res⟩], f := k, at_ := y, pc := 0 }) ∧ Hid (wx.heap[w'.heap.size]? = some (.cells #[.int .i64 S.f, .int .u64 S.at_, .int .i64 S.pc] 77 (0, 0))))
        case first =>
         go_region_law ((refine step_link15 (W := w3.drew) (V := .slice LA ll lc) (L := S.links) (l := ⟨S.f, S.at_, back, res⟩) rfl (.tmp 49) (.tmp 58) rfl rfl rfl rfl OL.out (by have := HDP.out; omega) ?_; intro V8 w8 hm; obtain ⟨vA, vc, hve⟩ := owns_len14 hm.own; subst hve; have M8 := Lib.hid hm; have X8 := Lib.hid ((hm.blk sb (heap_lt HD3.out.laid.box) (fun e => by obtain ⟨_, c, hc⟩ := typed14 OL.out e.symm; exact types14 hc HD3.out.laid.box (by decide))).trans HD3.out.laid.box); have z15 := (cells18 (show w8.heap[sb]? = some (.cells #[_, _, _, _, _, _, _, _, _, _, _, _, _, _, _, _, _, _] 80 (0, 0)) from X8.out)).2.2.2.2.2.1; have g15 := frozen_of_row w8 sb 15 _ _ X8.out; clear hm))
         all_goals
          have hx9 := heap_setCell_same w8 sb 15 _ _ (.slice vA (S.links.length + 1) vc) X8.out
          have hb8 : But (fun k => k = sb ∨ p'.LV.ownBlock = some k) w3 w8 := But.trans (b := w3.drew) (But.refl _ w3).drew (show But (fun k => k = sb ∨ p'.LV.ownBlock = some k) w3.drew w8 from ⟨M8.out.bel.os, M8.out.bel.tape, M8.out.bel.output, M8.out.size, fun k hk hn => M8.out.blk k hk (fun e => hn (.inr (by rw [HLE.out]; exact e.symm)))⟩)
          have hb9 := hb8.setCell (p := ⟨sb, 15, none⟩) (.inl (.inl rfl)) (.slice vA (S.links.length + 1) vc)
          have ho9 : Owns (w8.setCell ⟨sb, 15, none⟩ (.slice vA (S.links.length + 1) vc)) 0 136 4 AnyCell (.slice vA (S.links.length + 1) vc) (S.links ++ [(⟨S.f, S.at_, back, res⟩ : LinkV)]).length (cellsL .i64 (S.links ++ [(⟨S.f, S.at_, back, res⟩ : LinkV)])) := by
            rw [List.length_append]
            exact M8.out.own.but (one_but15 w8 sb 15 _) (fun g hg e => by
              have e' : g = sb := e
              subst e'
              obtain ⟨_, c, hc⟩ := typed14 M8.out.own hg
              exact types14 hc X8.out (by decide))
          have HD9 := Lib.hid (HD3.out.trans (HD3.out.laid.linked (LV' := .slice vA (S.links.length + 1) vc) (S' := { S with links := S.links ++ [⟨S.f, S.at_, back, res⟩], f := k, at_ := y, pc := 0 }) hb9 hx9 ho9 (by rw [HLE.out]; exact M8.out.whr) rfl HO2.out))
          have X9 := Lib.hid (hb9.heap X3.out (fun e => by
            rcases e with e | e
            · exact HFB.out.1 e
            · obtain ⟨_, c, hc⟩ := typed14 HD3.out.laid.links e
              exact types14 hc X3.out (by decide)))
          go_wp2
          go_meet
          case rel => exact ⟨_, HD9, X9⟩
        case rest =>
          obtain ⟨p2, HD9, X9⟩ := hcut
          clear c5 c9 c10 c11 c12 c13 c14 c15 c16 c17 n0 n1 n2 a13 a14 a15 a16 a17 m0 m1 m2 HD3a X3a HD3 X3 OL HD2 X2
          obtain ⟨fb, hfb⟩ : ∃ fb, fb = w'.heap.size := ⟨_, rfl⟩
          rw [← hfb] at X9 ⊢
          have HFB2 : Hid (fb ≠ sb) := Lib.hid (by rw [hfb]; exact HFB.out.1)
          clear HFB hfb
          go_wp2
          go_loopw [13, 14, 15, 64] (fun _ _ _ v64 wr => ∃ (i : Nat) (mem : List Int) (p3 : Loc), v64 = .int .i64 i ∧ i ≤ n ∧ Hid (mem.length = S.mem.length ∧ passL S.mem S.at_ y 0 args = passL mem S.at_ y i (args.drop i)) ∧ Hid (Vd15 W wr sb p p3 S { S with links := S.links ++ [⟨S.f, S.at_, back, res⟩], f := k, at_ := y, pc := 0, mem := mem }) ∧ Hid (wr.heap[fb]? = some (.cells #[.int .i64 S.f, .int .u64 S.at_, .int .i64 S.pc] 77 (0, 0)))) (fun _ _ _ v64 _ => n - (intOf v64).toNat)
          case atStart => exact ⟨0, S.mem, p2, rfl, by omega, Lib.hid ⟨rfl, rfl⟩, HD9, X9⟩
          case round =>
            obtain ⟨i, mem, p3, rfl, hi, HM, HDr, Xr⟩ := hrel
            clear HD9 X9
            by_cases hlt : i < n
            · have HAr := Lib.hid (HA.out.more HDr.out.but HDr.out.foot)
              obtain ⟨xb, xo, xc, hxe, hxc, hxb, hxl⟩ := (HAr.out.now).plain (by rw [← HN.out]; omega)
              injection hxe with hxa hxn hac
              clear hxn
              subst hxa hac
              have ci := hxl i (by rw [← HN.out]; omega)
              have hxm : args.getD i 0 ∈ args := by rw [List.getD_eq_getElem?_getD, List.getElem?_eq_getElem (by rw [← HN.out]; omega)]; exact List.getElem_mem _
              have hxi := (HIN.out _ hxm).2
              have HST := Lib.hid (passL_step (mem := mem) (src := S.at_) (dst := y) (i := i) (args := args) (by rw [← HN.out]; omega))
              have hza := HFR.out _ hxm
              have hzb := HTO.out i hlt
              have ha0 : 0 ≤ slotV S.at_ (args.getD i 0) ∧ slotV S.at_ (args.getD i 0) < 18446744073709551616 := by unfold slotV; omega
              have hb0 : 0 ≤ slotV y i ∧ slotV y i < 18446744073709551616 := by unfold slotV; omega
              have hsa := HSA.out
              have hya := HA16.out
              have HS1 := Lib.hid (fun w => slot_any S.at_ (args.getD i 0) w (by omega) (by omega) hxi.1 hxi.2)
              have HS2 := Lib.hid (fun w => slot_any y i w (by omega) (by omega) (by omega) (by omega))
              have HPS := Lib.hid (fun w (h : LaidAt w sb p3 { S with links := S.links ++ [⟨S.f, S.at_, back, res⟩], f := k, at_ := y, pc := 0, mem := mem }) => pass15 h (slotV S.at_ (args.getD i 0)) (slotV y i) ha0 hb0 (by show numE (mem.length : Int) _ 8 = 0; rw [HM.out.1]; exact hza) (by show numE (mem.length : Int) _ 8 = 0; rw [HM.out.1]; exact hzb))
              have i0 : (0 : Int) ≤ (i : Int) := by omega
              have i1 : (i : Int) < (n : Int) := by omega
              have HIM := Lib.hid hlt
              obtain ⟨x, hx⟩ : ∃ x, x = args.getD i 0 := ⟨_, rfl⟩
              rw [← hx] at HST HS1 HPS ci
              obtain ⟨sa, hsa'⟩ : ∃ sa, sa = slotV S.at_ x := ⟨_, rfl⟩
              obtain ⟨sd, hsd⟩ : ∃ sd, sd = slotV y i := ⟨_, rfl⟩
              rw [← hsa', ← hsd] at HST HPS
              rw [← hsa'] at HS1
              rw [← hsd] at HS2
              have HRD := Lib.hid (HDr.out.read (Below.refl _ wr).drew)
              obtain ⟨r0, r1, r2⟩ := cells3_14 Xr.out
              obtain ⟨⟨c5, c9, c10, c11⟩, ⟨c12, c13, c14, c15⟩, c16, c17⟩ := HDr.out.laid.cells
              clear hx hsa' hsd hxl hxc hxb hxm hxi hza hzb ha0 hb0 hsa hya hlt c5 c9 c10 c11 c12 c14 c15 c16 c17 r0 r2
              go_upto_region 12 with fail
              have K3 : Hid (wr.drew.cell? ⟨fb, 1, none⟩ = some (.int .u64 S.at_) ∧ wr.drew.cell? ⟨sb, 13, none⟩ = some (.int .u64 y)) := Lib.hid ⟨r1, c13⟩
              go_region_held3 (fun W => W.cell? ⟨fb, 1, none⟩ = some (.int .u64 S.at_) ∧ W.cell? ⟨sb, 13, none⟩ = some (.int .u64 y))
                (first | with_reducible exact K4.out | with_reducible exact K3.out | go_keep)
                (first
                  | (go_at_call 101; (with_reducible refine (HS1.out _).mono ?_); rintro e w'' ⟨rfl, rfl⟩)
                  | (go_at_call 101; (with_reducible refine (HS2.out _).mono ?_); rintro e w'' ⟨rfl, rfl⟩)
                  | (go_at_call 107; (with_reducible refine (HPS.out _ HRD.out.laid).mono ?_); rintro e w7 ⟨rfl, hv7⟩; have HD7 := Lib.hid (HRD.out.trans hv7); have X7 := Lib.hid (hv7.but.heap (show wr.drew.heap[fb]? = _ from Xr.out) (HRD.out.laid.notCur (show wr.drew.heap[fb]? = _ from Xr.out))); have K4 : Hid (w7.cell? ⟨fb, 1, none⟩ = some (.int .u64 S.at_) ∧ w7.cell? ⟨sb, 13, none⟩ = some (.int .u64 y)) := Lib.hid ⟨(cells3_14 X7.out).2.1, HD7.out.laid.cells.2.1.2.1⟩; clear hv7))
              all_goals
                go_wp2
                go_roundw
                case rel => exact ⟨i + 1, _, p3, by first | rfl | go_num, by have := HIM.out; omega, Lib.hid ⟨storeL_len.trans HM.out.1, HM.out.2.trans HST.out⟩, HD7, X7⟩
                case measure => have := HIM.out; simp [intOf]; omega
            · have hin : n = i := by omega
              have hend : passL S.mem S.at_ y 0 args = mem := by
                rw [HM.out.2, ← hin, HN.out, List.drop_length]; rfl
              rw [← hend] at HDr
              clear hend hin HM
              go_wp2
              go_ret
              exact ⟨rfl, _, HDr.out⟩
      · have hout : S.outB k = true := by unfold SpV.outB; rw [decide_eq_true (show S.newE k ≠ 0 from hP)]; simp
        simp only [if_pos hout] at hoo ⊢
        have HO := Lib.hid hoo
        have HP : Hid (¬ pushE S.at_ (S.m.funcs.getD k .zero).regs (S.m.funcs.getD k .zero).area (floV S.m) = 0) := Lib.hid hP
        obtain ⟨ll, hll⟩ : ∃ ll, ll = S.links.length := ⟨_, rfl⟩
        have HL := Lib.hid hll
        rw [← hll] at hl256
        clear hE e1 e2 e3 e4 e5 q1 q2 q3 hfr hflo hok hRB hoo hout hL hf hr hbk hP hll hk
        go_enter Tryz.func40, Tryz.ntmps40
        go_upto_region 4 with (go_at_call 105; (with_reducible refine HC.out.mono ?_); rintro e w' ⟨rfl, p', hv⟩; have HD := Lib.hid hv; obtain ⟨⟨c5, c9, c10, c11⟩, ⟨c12, c13, c14, c15⟩, c16, c17⟩ := hv.laid.cells; obtain ⟨LA, lc, hle⟩ := owns_len14 hv.laid.links; rw [← HL.out] at hle; rw [hle] at c15; have HLE := Lib.hid hle; clear hv hle)
        obtain ⟨W2, hW2⟩ : ∃ W2, W2 = w'.alloc (.cells #[.int .i64 S.f, .int .u64 S.at_, .int .i64 S.pc] 77) := ⟨_, rfl⟩
        have HW2 := Lib.hid hW2
        have HD2 := Lib.hid (HD.out.read (show Below w'.heap.size w' W2 by rw [hW2]; exact below_one14 _ _))
        have X2 := Lib.hid (show W2.heap[w'.heap.size]? = some (.cells #[.int .i64 S.f, .int .u64 S.at_, .int .i64 S.pc] 77 (0, 0)) by rw [hW2]; exact heap_alloc_new _ _)
        clear hW2
        go_upto_region 5 with fail
        rw [← HW2.out]
        clear c5 c9 c10 c11 c12 c13 c14
        clear c15 c16 c17
        obtain ⟨⟨c5, c9, c10, c11⟩, ⟨c12, c13, c14, c15⟩, c16, c17⟩ := HD2.out.laid.cells
        rw [HLE.out] at c15
        have g16 := HD2.out.laid.free 16
        go_wp2_with (go_at_call 106; (with_reducible refine (HE.out _ _ HD2.out.laid).mono ?_); rintro e w3 ⟨he3, hb3, hx3⟩; rw [if_neg HP.out] at hx3; rw [decide_eq_false HP.out] at he3; subst he3; have HD3 := Lib.hid (HD2.out.trans (HD2.out.laid.boxed hb3 hx3 rfl HD2.out.laid.ok)); clear hb3 hx3; obtain ⟨⟨c5, c9, c10, c11⟩, ⟨c12, c13, c14, c15⟩, c16, c17⟩ := HD3.out.laid.cells; have g16 := HD3.out.laid.free 16)
        go_ret
        exact ⟨rfl, _, HD3.out.trans (HD3.out.laid.boxed (one_but15 _ sb 16 _) (heap_setCell_same _ sb 16 _ _ _ HD3.out.laid.box) rfl HO.out)⟩
  · have heb : (E != 0) = true := by simpa using he
    simp only [if_neg he] at hoo ⊢
    clear hoo he hE hok
    go_enter Tryz.func40, Tryz.ntmps40
    go_wp2_with (go_at_call 105; (with_reducible refine HC.out.mono ?_); rintro e w' ⟨rfl, p', hv⟩; have HD := Lib.hid hv; clear hv)
    go_ret
    exact ⟨rfl, _, HD.out⟩
end Go.Proofs.YtkfdgpgildanbaaGreat
