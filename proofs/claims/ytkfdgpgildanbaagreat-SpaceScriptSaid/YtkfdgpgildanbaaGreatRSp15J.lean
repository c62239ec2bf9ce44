import Derived.Test.YtkfdgpgildanbaaGreatRSp15I
import Derived.Test.YtkfdgpgildanbaaGreatAlike15
import Derived.Test.YtkfdgpgildanbaaGreatRDeed14S
namespace Go.Proofs.YtkfdgpgildanbaaGreat
open Go.RowKit Go.Shelf
set_option linter.unusedVariables false
set_option linter.unusedSimpArgs false
theorem sameO_self15 (L : List (Int × Int)) (k c : Int) : sameO L k c L k c = true := by unfold sameO; simp
theorem mem_not_nil15 (a : Addr) (w : World) : (binOp .neq 71 (.pointer (some a)) (.pointer none)).run Tryz.prog w = .ok (.bool true) w := by
  go_simp
section
variable {w W : World} {lo i j sb rb : Nat} {l : List It} {S : SpV}
theorem Spaces.init15 {x : It} (hs : Spaces w lo W (l ++ [x])) : Spaces w lo W l :=
  hs.pick id (fun k a ha => by rw [id, List.getElem?_append_left (List.getElem?_eq_some_iff.1 ha).1]; exact ha) (fun _ _ _ _ h => h)
theorem Spaces.liftK (h : Spaces w lo W l) (hi : l[i]? = some (.sp sb S)) {S' : SpV} {v : Value} {f : FuncId} {args : Array Value} (hc : ∀ p, SpAt W sb p S → Calls Tryz.prog f args W (SpDone W sb p S S' v)) : Calls Tryz.prog f args W (fun e W' => e = .returned v ∧ Spaces w lo W' (l.set i (.sp sb S')) ∧ KeepR W W') := by
  obtain ⟨p, hp, hl, hm⟩ := h.move2 hi
  refine (hc p hp).mono ?_
  rintro e W' ⟨he, p', hv⟩
  exact ⟨he, hm _ _ _ hv.mv, fun k c hk => hv.but.block k (heap_lt hk) (fun hf => SpAt.typR hp hf hk)⟩
theorem sp_outcK (h : Spaces w lo W l) (hi : l[i]? = some (.sp sb S)) : Calls Tryz.prog 36 #[.pointer (some ⟨sb, 0, none⟩)] W fun e W' => ∃ V, e = .returned (.agg #[V, .int .i64 S.ek, .int .i64 S.ec]) ∧ IsDeeds W' W'.heap.size V S.done ∧ Spaces w lo W' (l.set i (.sp sb S)) ∧ KeepR W W' := by
  obtain ⟨p, hp, hl, hm⟩ := h.move2 hi
  refine (tellO15 hp).mono ?_
  rintro e W' ⟨V, he, hd, p', hv⟩
  exact ⟨V, he, hd, hm _ _ _ hv.mv, fun k c hk => hv.but.block k (heap_lt hk) (fun hf => SpAt.typR hp hf hk)⟩
theorem Spaces.both {mb mr : Nat} (h : Spaces w lo W l) (hi : l[i]? = some (.sp sb S)) (hj : l[j]? = some (.rs rb S)) (hij : i ≠ j) (hc : W.cell? ⟨sb, 9, none⟩ = some (.pointer (some ⟨mb, 0, none⟩))) (hr : W.cell? ⟨rb, 2, none⟩ = some (.pointer (some ⟨mr, 0, none⟩))) :
    ∃ bb c rr rc, Both W mb bb c mr rr rc S.mem := by
  obtain ⟨P, e1, e2, e3⟩ := h.ex
  obtain ⟨h1, h2⟩ := laid_of15 (show SpAt W sb (P i) S from e1 i _ hi) hc
  have h3 : RsAt w.heap.size W rb (P j) S := e1 j _ hj
  have h4 : (P j).mb = mr := by
    have hz := h3.cells.1.2.2.1
    rw [hr] at hz
    injection hz with hz
    injection hz with hz
    injection hz with hz
    injection hz with hz
    exact hz.symm
  refine ⟨(P i).bb, (P i).c, (P j).bb, (P j).c, ⟨by rw [← h2]; exact h1.mem, by rw [← h4]; exact h3.mem, fun e => ?_⟩⟩
  exact e3 i j _ _ (P i).bb hij hi hj (.inr (.inr (.inl rfl))) (.inl (.inr (.inr (.inl e))))
set_option maxRecDepth 100000
set_option maxHeartbeats 16000000
theorem alike15 (h : Spaces w lo W l) (hi : l[i]? = some (.sp sb S)) (hj : l[j]? = some (.rs rb S)) (hij : i ≠ j) (hf : S.done.length ≤ 100000) :
    Calls Tryz.prog 24 #[.pointer (some ⟨sb, 0, none⟩), .pointer (some ⟨rb, 0, none⟩)] W (SpsDone w lo l (.bool true)) := by
  have HH := Lib.hid h
  have HI := Lib.hid hi
  have HJ := Lib.hid hj
  have HIJ := Lib.hid hij
  have HF := Lib.hid hf
  have HSI := Lib.hid (set_same15 hi)
  have HSJ := Lib.hid (set_same15 hj)
  have hz := sp_end h hi
  rw [HSI.out] at hz
  have HE := Lib.hid hz
  have hqE := fun w => eqlE_same w S.ek S.ec
  have hq1 : ((S.ek != 0) == (S.ek != 0)) = true := by simp
  have hq2 : ((S.f : Int) == (S.f : Int)) = true := by simp
  have hq3 : (S.pc == S.pc) = true := by simp
  have hq4 : (S.at_ == S.at_) = true := by simp
  have hq5 : (S.fuel == S.fuel) = true := by simp
  have hq6 : ((S.links.length : Int) == (S.links.length : Int)) = true := by simp
  have hnn := mem_not_nil15
  clear h hi hj hij hf hz
  go_enter Tryz.func24, Tryz.ntmps24
  go_upto_region 2 with (go_at_call 29; (with_reducible refine HE.out.mono ?_); rintro e w1 ⟨rfl, hs⟩; have S1 := Lib.hid hs; clear hs)
  have hx1 := heap_alloc_new w1 (.cells #[.int .i64 S.ek, .int .i64 S.ec] 45)
  have hb1 : Below w1.heap.size w1 (w1.alloc (.cells #[.int .i64 S.ek, .int .i64 S.ec] 45)) := below_one14 w1 _
  obtain ⟨V1, hV1⟩ : ∃ V1, V1 = w1.alloc (.cells #[.int .i64 S.ek, .int .i64 S.ec] 45) := ⟨_, rfl⟩
  obtain ⟨e1, he1⟩ : ∃ e1, e1 = w1.heap.size := ⟨_, rfl⟩
  rw [← hV1] at hx1 hb1 ⊢
  rw [← he1] at hx1 ⊢
  have T1 := Lib.hid (show Spaces w lo V1 (l ++ [.box e1 #[.int .i64 S.ek, .int .i64 S.ec] 45]) from S1.out.addBoxAt hb1 hx1 (by rw [he1]; exact Nat.le_refl _))
  clear hx1 hb1 hV1 he1
  have HI1 : Hid ((l ++ [It.box e1 #[.int .i64 S.ek, .int .i64 S.ec] 45])[i]? = some (.sp sb S)) := Lib.hid (by rw [List.getElem?_append_left (List.getElem?_eq_some_iff.1 HI.out).1]; exact HI.out)
  have HJ1 : Hid ((l ++ [It.box e1 #[.int .i64 S.ek, .int .i64 S.ec] 45])[j]? = some (.rs rb S)) := Lib.hid (by rw [List.getElem?_append_left (List.getElem?_eq_some_iff.1 HJ.out).1]; exact HJ.out)
  have hz2 := rs_end T1.out HJ1.out
  rw [set_same15 HJ1.out] at hz2
  have HE2 := Lib.hid hz2
  clear hz2
  go_upto_region 3 with (go_at_call 94; (with_reducible refine HE2.out.mono ?_); rintro e w2 ⟨rfl, hs⟩; have S2 := Lib.hid hs; clear hs)
  have hx2 := heap_alloc_new w2 (.cells #[.int .i64 S.ek, .int .i64 S.ec] 45)
  have hb2 : Below w2.heap.size w2 (w2.alloc (.cells #[.int .i64 S.ek, .int .i64 S.ec] 45)) := below_one14 w2 _
  obtain ⟨V2, hV2⟩ : ∃ V2, V2 = w2.alloc (.cells #[.int .i64 S.ek, .int .i64 S.ec] 45) := ⟨_, rfl⟩
  obtain ⟨e2, he2⟩ : ∃ e2, e2 = w2.heap.size := ⟨_, rfl⟩
  rw [← hV2] at hx2 hb2 ⊢
  rw [← he2] at hx2 ⊢
  have T2 := Lib.hid (show Spaces w lo V2 ((l ++ [It.box e1 #[.int .i64 S.ek, .int .i64 S.ec] 45]) ++ [.box e2 #[.int .i64 S.ek, .int .i64 S.ec] 45]) from S2.out.addBoxAt hb2 hx2 (by rw [he2]; exact Nat.le_refl _))
  clear hx2 hb2 hV2 he2
  have HI2 : Hid (((l ++ [It.box e1 #[.int .i64 S.ek, .int .i64 S.ec] 45]) ++ [It.box e2 #[.int .i64 S.ek, .int .i64 S.ec] 45])[i]? = some (.sp sb S)) := Lib.hid (by rw [List.getElem?_append_left (List.getElem?_eq_some_iff.1 HI1.out).1]; exact HI1.out)
  have HJ2 : Hid (((l ++ [It.box e1 #[.int .i64 S.ek, .int .i64 S.ec] 45]) ++ [It.box e2 #[.int .i64 S.ek, .int .i64 S.ec] 45])[j]? = some (.rs rb S)) := Lib.hid (by rw [List.getElem?_append_left (List.getElem?_eq_some_iff.1 HJ1.out).1]; exact HJ1.out)
  have HB1 : Hid (((l ++ [It.box e1 #[.int .i64 S.ek, .int .i64 S.ec] 45]) ++ [It.box e2 #[.int .i64 S.ek, .int .i64 S.ec] 45])[l.length]? = some (.box e1 #[.int .i64 S.ek, .int .i64 S.ec] 45)) := Lib.hid (by rw [List.getElem?_append_left (by simp)]; simp)
  have HB2 : Hid (((l ++ [It.box e1 #[.int .i64 S.ek, .int .i64 S.ec] 45]) ++ [It.box e2 #[.int .i64 S.ek, .int .i64 S.ec] 45])[l.length + 1]? = some (.box e2 #[.int .i64 S.ek, .int .i64 S.ec] 45)) := Lib.hid (by rw [List.getElem?_append_right (by simp)]; simp)
  have HS2 : Hid (∀ x, ((l ++ [It.box e1 #[.int .i64 S.ek, .int .i64 S.ec] 45]) ++ [It.box e2 #[.int .i64 S.ek, .int .i64 S.ec] 45])[i]? = some x → ((l ++ [It.box e1 #[.int .i64 S.ek, .int .i64 S.ec] 45]) ++ [It.box e2 #[.int .i64 S.ek, .int .i64 S.ec] 45]).set i x = ((l ++ [It.box e1 #[.int .i64 S.ek, .int .i64 S.ec] 45]) ++ [It.box e2 #[.int .i64 S.ek, .int .i64 S.ec] 45])) := Lib.hid (fun x hx => set_same15 hx)
  have hzm := sp_memory T2.out HI2.out
  rw [HS2.out _ HI2.out] at hzm
  have HM := Lib.hid hzm
  clear hzm
  go_upto_region 4 with (go_at_call 30; (with_reducible refine HM.out.mono ?_); rintro e w3 ⟨mb, rfl, hs, hc⟩; have S3 := Lib.hid hs; have HMC := Lib.hid hc; clear hs hc)
  obtain ⟨pr, hpr⟩ := S3.out.rsAt HJ2.out
  have hx3 : w3.drew.heap[rb]? = some (.cells (rbox15 pr S) 130 (0, 0)) := hpr.box
  have X3 := Lib.hid hx3
  obtain ⟨mr, hmr⟩ : ∃ mr, mr = pr.mb := ⟨_, rfl⟩
  obtain ⟨LA, lc, hLe⟩ := owns_len14 hpr.links
  have HKF : Hid (∀ V : World, Spaces w lo V ((l ++ [It.box e1 #[.int .i64 S.ek, .int .i64 S.ec] 45]) ++ [It.box e2 #[.int .i64 S.ek, .int .i64 S.ec] 45]) → V.heap[rb]? = some (.cells (rbox15 pr S) 130 (0, 0)) → (V.cell? ⟨e1, 0, none⟩ = some (.int .i64 S.ek) ∧ V.cell? ⟨e1, 1, none⟩ = some (.int .i64 S.ec) ∧ V.cell? ⟨e2, 0, none⟩ = some (.int .i64 S.ek) ∧ V.cell? ⟨e2, 1, none⟩ = some (.int .i64 S.ec) ∧ V.cell? ⟨rb, 2, none⟩ = some (.pointer (some ⟨mr, 0, none⟩)) ∧ V.cell? ⟨rb, 4, none⟩ = some (.int .i64 S.fuel) ∧ V.cell? ⟨rb, 5, none⟩ = some (.int .i64 S.f) ∧ V.cell? ⟨rb, 6, none⟩ = some (.int .u64 S.at_) ∧ V.cell? ⟨rb, 7, none⟩ = some (.int .i64 S.pc) ∧ V.cell? ⟨rb, 8, none⟩ = some (.slice LA S.links.length lc))) := Lib.hid (fun V hs hx => by
    obtain ⟨a0, a1⟩ := cells2_14 (hs.boxAt HB1.out)
    obtain ⟨b0, b1⟩ := cells2_14 (hs.boxAt HB2.out)
    obtain ⟨⟨c0, c1, c2, c3, c4, c5⟩, c6, c7, c8, c9, c10⟩ := cells11r (show V.heap[rb]? = some (.cells #[_, _, _, _, _, _, _, _, _, _, _] 130 (0, 0)) from hx)
    rw [hLe] at c8
    rw [← hmr] at c2
    exact ⟨a0, a1, b0, b1, c2, c4, c5, c6, c7, c8⟩)
  have D0 := Lib.hid (S3.out.grow (Below.refl w3.heap.size w3).drew)
  have K0 := Lib.hid (HKF.out _ D0.out hx3)
  obtain ⟨bb, bc, rr, rc, hbo⟩ := D0.out.both (mb := mb) HI2.out HJ2.out HIJ.out HMC.out K0.out.2.2.2.2.1
  have HAL := Lib.hid (alike_any _ _ _ _ _ _ _ _ hbo)
  have HTF := Lib.hid (fun (V : World) (hs : Spaces w lo V ((l ++ [It.box e1 #[.int .i64 S.ek, .int .i64 S.ec] 45]) ++ [It.box e2 #[.int .i64 S.ek, .int .i64 S.ec] 45])) (hx : V.heap[rb]? = some (.cells (rbox15 pr S) 130 (0, 0))) => (hs.liftK HI2.out (fun p hp => tellF15 hp)).mono (fun e V' hz => (⟨hz.1, by have hy := hz.2.1; rw [HS2.out _ HI2.out] at hy; exact hy, (hz.2.2 _ _ hx).trans hx⟩ : e = .returned (.int .i64 S.f) ∧ Spaces w lo V' ((l ++ [It.box e1 #[.int .i64 S.ek, .int .i64 S.ec] 45]) ++ [It.box e2 #[.int .i64 S.ek, .int .i64 S.ec] 45]) ∧ V'.heap[rb]? = some (.cells (rbox15 pr S) 130 (0, 0)))))
  have HTP := Lib.hid (fun (V : World) (hs : Spaces w lo V ((l ++ [It.box e1 #[.int .i64 S.ek, .int .i64 S.ec] 45]) ++ [It.box e2 #[.int .i64 S.ek, .int .i64 S.ec] 45])) (hx : V.heap[rb]? = some (.cells (rbox15 pr S) 130 (0, 0))) => (hs.liftK HI2.out (fun p hp => tellP15 hp)).mono (fun e V' hz => (⟨hz.1, by have hy := hz.2.1; rw [HS2.out _ HI2.out] at hy; exact hy, (hz.2.2 _ _ hx).trans hx⟩ : e = .returned (.int .i64 S.pc) ∧ Spaces w lo V' ((l ++ [It.box e1 #[.int .i64 S.ek, .int .i64 S.ec] 45]) ++ [It.box e2 #[.int .i64 S.ek, .int .i64 S.ec] 45]) ∧ V'.heap[rb]? = some (.cells (rbox15 pr S) 130 (0, 0)))))
  have HTA := Lib.hid (fun (V : World) (hs : Spaces w lo V ((l ++ [It.box e1 #[.int .i64 S.ek, .int .i64 S.ec] 45]) ++ [It.box e2 #[.int .i64 S.ek, .int .i64 S.ec] 45])) (hx : V.heap[rb]? = some (.cells (rbox15 pr S) 130 (0, 0))) => (hs.liftK HI2.out (fun p hp => tellA15 hp)).mono (fun e V' hz => (⟨hz.1, by have hy := hz.2.1; rw [HS2.out _ HI2.out] at hy; exact hy, (hz.2.2 _ _ hx).trans hx⟩ : e = .returned (.int .u64 S.at_) ∧ Spaces w lo V' ((l ++ [It.box e1 #[.int .i64 S.ek, .int .i64 S.ec] 45]) ++ [It.box e2 #[.int .i64 S.ek, .int .i64 S.ec] 45]) ∧ V'.heap[rb]? = some (.cells (rbox15 pr S) 130 (0, 0)))))
  have HTU := Lib.hid (fun (V : World) (hs : Spaces w lo V ((l ++ [It.box e1 #[.int .i64 S.ek, .int .i64 S.ec] 45]) ++ [It.box e2 #[.int .i64 S.ek, .int .i64 S.ec] 45])) (hx : V.heap[rb]? = some (.cells (rbox15 pr S) 130 (0, 0))) => (hs.liftK HI2.out (fun p hp => tellU15 hp)).mono (fun e V' hz => (⟨hz.1, by have hy := hz.2.1; rw [HS2.out _ HI2.out] at hy; exact hy, (hz.2.2 _ _ hx).trans hx⟩ : e = .returned (.int .i64 S.fuel) ∧ Spaces w lo V' ((l ++ [It.box e1 #[.int .i64 S.ek, .int .i64 S.ec] 45]) ++ [It.box e2 #[.int .i64 S.ek, .int .i64 S.ec] 45]) ∧ V'.heap[rb]? = some (.cells (rbox15 pr S) 130 (0, 0)))))
  have HTD := Lib.hid (fun (V : World) (hs : Spaces w lo V ((l ++ [It.box e1 #[.int .i64 S.ek, .int .i64 S.ec] 45]) ++ [It.box e2 #[.int .i64 S.ek, .int .i64 S.ec] 45])) (hx : V.heap[rb]? = some (.cells (rbox15 pr S) 130 (0, 0))) => (hs.liftK HI2.out (fun p hp => tellD15 hp)).mono (fun e V' hz => (⟨hz.1, by have hy := hz.2.1; rw [HS2.out _ HI2.out] at hy; exact hy, (hz.2.2 _ _ hx).trans hx⟩ : e = .returned (.int .i64 S.links.length) ∧ Spaces w lo V' ((l ++ [It.box e1 #[.int .i64 S.ek, .int .i64 S.ec] 45]) ++ [It.box e2 #[.int .i64 S.ek, .int .i64 S.ec] 45]) ∧ V'.heap[rb]? = some (.cells (rbox15 pr S) 130 (0, 0)))))
  clear hx3 hpr hmr hLe hbo
  dsimp only [List.append]
  go_region_held3 (fun V => V.cell? ⟨e1, 0, none⟩ = some (.int .i64 S.ek) ∧ V.cell? ⟨e1, 1, none⟩ = some (.int .i64 S.ec) ∧ V.cell? ⟨e2, 0, none⟩ = some (.int .i64 S.ek) ∧ V.cell? ⟨e2, 1, none⟩ = some (.int .i64 S.ec) ∧ V.cell? ⟨rb, 2, none⟩ = some (.pointer (some ⟨mr, 0, none⟩)) ∧ V.cell? ⟨rb, 4, none⟩ = some (.int .i64 S.fuel) ∧ V.cell? ⟨rb, 5, none⟩ = some (.int .i64 S.f) ∧ V.cell? ⟨rb, 6, none⟩ = some (.int .u64 S.at_) ∧ V.cell? ⟨rb, 7, none⟩ = some (.int .i64 S.pc) ∧ V.cell? ⟨rb, 8, none⟩ = some (.slice LA S.links.length lc))
    (first | with_reducible exact K12.out | with_reducible exact K11.out | with_reducible exact K10.out | with_reducible exact K9.out | with_reducible exact K8.out | with_reducible exact K7.out | with_reducible exact K6.out | with_reducible exact K5.out | with_reducible exact K4.out | with_reducible exact K0.out | go_keep)
    (first
      | (go_at_call 95; (with_reducible refine HAL.out.mono ?_); rintro e w4 ⟨rfl, hb⟩; have S4 := Lib.hid (D0.out.grow hb); have X4 := Lib.hid ((hb.block _ (heap_lt X3.out)).trans X3.out); have K4 := Lib.hid (HKF.out _ S4.out X4.out); clear hb)
      | (go_at_call 31; (with_reducible refine (HTF.out _ S4.out X4.out).mono ?_); rintro e w5 ⟨rfl, hs, hx⟩; have S5 := Lib.hid hs; have X5 := Lib.hid hx; have K5 := Lib.hid (HKF.out _ hs hx); clear hs hx)
      | (go_at_call 32; (with_reducible refine (HTP.out _ S5.out X5.out).mono ?_); rintro e w6 ⟨rfl, hs, hx⟩; have S6 := Lib.hid hs; have X6 := Lib.hid hx; have K6 := Lib.hid (HKF.out _ hs hx); clear hs hx)
      | (go_at_call 35; (with_reducible refine (HTA.out _ S6.out X6.out).mono ?_); rintro e w7 ⟨rfl, hs, hx⟩; have S7 := Lib.hid hs; have X7 := Lib.hid hx; have K7 := Lib.hid (HKF.out _ hs hx); clear hs hx)
      | (go_at_call 33; (with_reducible refine (HTU.out _ S7.out X7.out).mono ?_); rintro e w8 ⟨rfl, hs, hx⟩; have S8 := Lib.hid hs; have X8 := Lib.hid hx; have K8 := Lib.hid (HKF.out _ hs hx); clear hs hx)
      | (go_at_call 34; (with_reducible refine (HTD.out _ S8.out X8.out).mono ?_); rintro e w9 ⟨rfl, hs, hx⟩; have S9 := Lib.hid hs; have X9 := Lib.hid hx; have K9 := Lib.hid (HKF.out _ hs hx); clear hs hx)
      | (go_at_call 36; (with_reducible refine (sp_outcK S9.out HI2.out).mono ?_); rintro e w10 ⟨V, rfl, hd, hs, hk⟩; obtain ⟨vA, vc, rfl, _⟩ := hd.len; rw [HS2.out _ HI2.out] at hs; have S10 := Lib.hid hs; have X10 := Lib.hid ((hk _ _ X9.out).trans X9.out); have D10 := Lib.hid hd; have K10 := Lib.hid (HKF.out _ hs X10.out); clear hs hk hd)
      | (go_at_call 97; (with_reducible refine (rs_out S10.out HJ2.out).mono ?_); rintro e w11 ⟨V2, rfl, ho, hb⟩; obtain ⟨uA, uc, hue⟩ := owns_len14 ho; subst hue; have S11 := Lib.hid (S10.out.grow hb); have X11 := Lib.hid ((hb.block _ (heap_lt X10.out)).trans X10.out); have D11 := Lib.hid (D10.out.below hb (Nat.le_refl _)); have O11 := Lib.hid ho; have K11 := Lib.hid (HKF.out _ S11.out X11.out); have HSM := Lib.hid (rsame14 _ _ S.done S.done S.ek S.ec S.ek S.ec w11 (D11.out.more hb.size) (IsDeeds.of_owns ho (Nat.le_refl _)) (by have := HF.out; omega)); rw [sameO_self15] at HSM; clear ho hb)
      | (go_at_call 96; (with_reducible refine HSM.out.mono ?_); rintro e w12 ⟨rfl, hb⟩; have S12 := Lib.hid (S11.out.grow hb); have X12 := Lib.hid ((hb.block _ (heap_lt X11.out)).trans X11.out); have K12 := Lib.hid (HKF.out _ S12.out X12.out); clear hb))
  all_goals
    go_wp2
    go_ret
    exact ⟨rfl, S12.out.init15.init15⟩
end
end Go.Proofs.YtkfdgpgildanbaaGreat
