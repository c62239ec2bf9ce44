/- Is a record of deeds valid? Contract; no condition but that the record lies in memory. -/
import Derived.Test.YtkfdgpgildanbaaGreatDeed14H
namespace Go.Proofs.YtkfdgpgildanbaaGreat
open Go.RowKit
set_option linter.unusedVariables false
set_option linter.unusedSimpArgs false

theorem goodL_app : ∀ (a b : List (Int × Int)) (o : Bool), goodL o (a ++ b) = (goodL o a && goodL (o || a.any gotN) b)
  | [], b, o => by simp [goodL]
  | d :: a, b, o => by
    simp only [List.cons_append, goodL, goodL_app a b, List.any_cons, Bool.or_assoc, Bool.and_assoc]
/-- What stands in memory between two rounds. -/
structure Vld14 (w : World) (s : List (Int × Int)) (W : World) : Prop where
  good : goodL false s = true
  res : W.heap[w.heap.size]? = some (.cells #[.bool false] 4 (0, 0))
  ovr : W.heap[w.heap.size + 1]? = some (.cells #[.bool (s.any gotN)] 4 (0, 0))
  bel : Below w.heap.size w W
  big : w.heap.size + 3 ≤ W.heap.size
structure Bad14 (w : World) (L : List (Int × Int)) (W : World) : Prop where
  bad : goodL false L = false
  res : W.heap[w.heap.size]? = some (.cells #[.bool false] 4 (0, 0))
  bel : Below w.heap.size w W
theorem Vld14.but {R : Nat → Prop} {w A B : World} {s : List (Int × Int)} (h : Vld14 w s A) (hb : But R A B) (hr : ∀ k, R k → w.heap.size + 3 ≤ k) : Vld14 w s B :=
  ⟨h.good, hb.heap h.res (fun e => by have := hr _ e; omega), hb.heap h.ovr (fun e => by have := hr _ e; omega), But.below h.bel hb h.bel.size (fun k e => by have := hr k e; omega), Nat.le_trans h.big hb.size⟩
theorem Bad14.but {R : Nat → Prop} {w A B : World} {s : List (Int × Int)} (h : Bad14 w s A) (hb : But R A B) (hr : ∀ k, R k → w.heap.size + 3 ≤ k) : Bad14 w s B :=
  ⟨h.bad, hb.heap h.res (fun e => by have := hr _ e; omega), But.below h.bel hb h.bel.size (fun k e => by have := hr k e; omega)⟩
theorem put_but14 (A : World) (l : Nat) (o : Obj) : But (OneBlock l) A (A.putObj l o) := by
  have h := grownBy_putObj' A l o
  exact ⟨h.os, h.tape, h.output, h.size, fun k hk hn => h.block k hk (fun e => hn (by injection e))⟩
theorem below_oth14 {A B : World} (h : Below A.heap.size A B) : KeepsOthers A B := ⟨h.size, fun k o ho _ => (h.block k (heap_lt ho)).trans ho⟩
theorem vld_start (w : World) (V : Value) (W0 : World) (h : W0 = ((w.alloc (.cells #[.bool false] 4)).alloc (.cells #[.bool false] 4)).alloc (.cells #[V] 177)) :
    W0.heap.size = w.heap.size + 3 ∧ W0.heap[w.heap.size + 2]? = some (.cells #[V] 177 (0, 0)) ∧ W0.heap[w.heap.size]? = some (.cells #[.bool false] 4 (0, 0)) ∧ W0.heap[w.heap.size + 1]? = some (.cells #[.bool false] 4 (0, 0)) := by
  have h1 := heap_alloc_new w (.cells #[.bool false] 4)
  have h2 := heap_alloc_new (w.alloc (.cells #[.bool false] 4)) (.cells #[.bool false] 4)
  have h3 := heap_alloc_new ((w.alloc (.cells #[.bool false] 4)).alloc (.cells #[.bool false] 4)) (.cells #[V] 177)
  rw [World.size_alloc] at h2
  rw [World.size_alloc, World.size_alloc] at h3
  subst h
  refine ⟨by simp, h3, ?_, ?_⟩
  · rw [Below.heap_alloc _ _ _ (by simp; omega), Below.heap_alloc _ _ _ (by simp)]
    exact h1
  · rw [Below.heap_alloc _ _ _ (by simp)]
    exact h2
theorem bad_end14 {w A : World} {s L : List (Int × Int)} (h : Vld14 w s A) (hb : goodL false L = false) : Bad14 w L (A.setCell ⟨w.heap.size, 0, none⟩ (.bool false)) := by
  have hset := heap_setCell_same A w.heap.size 0 _ _ (.bool false) h.res
  exact ⟨hb, hset, h.bel.setCell (p := ⟨w.heap.size, 0, none⟩) (Nat.le_refl _) _⟩
theorem vld_next14 {w A : World} {s : List (Int × Int)} {d : Int × Int} {v : Bool} (h : Vld14 w s A) (hg : goodL false (s ++ [d]) = true) (hv : (s ++ [d]).any gotN = v) : Vld14 w (s ++ [d]) (A.setCell ⟨w.heap.size + 1, 0, none⟩ (.bool v)) := by
  have hset := heap_setCell_same A (w.heap.size + 1) 0 _ _ (.bool v) h.ovr
  refine ⟨hg, (Below.heap_setCell _ _ _ _ (by show w.heap.size ≠ w.heap.size + 1; omega)).trans h.res, by rw [hv]; exact hset, h.bel.setCell (p := ⟨w.heap.size + 1, 0, none⟩) (by simp) _, by have := h.big; simpa [World.setCell] using this⟩
attribute [local go_sem] Oper.semAt_some
set_option maxRecDepth 100000 in
set_option maxHeartbeats 16000000 in
theorem recValid14_in (n : Nat) (hn : 6 ≤ n) (V : Value) (L : List (Int × Int)) (w : World) (hV : IsDeeds w w.heap.size V L) :
    CallsIn Fence.wide n Tryz.prog 148 #[V] w (Makes w (.bool (goodL false L))) := by
  have h1 : 1 ≤ n := by omega
  obtain ⟨g, off, A, cap, rfl, hc, hD⟩ := hV.dat (Nat.le_refl _)
  have hl := hV.1
  have HL := Lib.hid (And.intro hc hl)
  have HD := Lib.hid hD
  clear hV hc hl hD
  refine callsIn_of_wp_marks Tryz.func148 rfl trivial ?_ rfl
  simp only [Tryz.ntmps148, List.size_toArray, List.length_cons, List.length_nil, Nat.reduceAdd, Nat.reduceSub, Array.replicate_succ, Array.replicate_zero, List.push_toArray, List.append_toArray, List.nil_append, List.cons_append]
  gi_wp2_with (refine ⟨trivial, ?_⟩; gi_at_call 178; (with_reducible refine (callsIn_wide.2 (all14 _ _ _ _ rfl _)).mono ?_); rintro e w' ⟨rfl, rfl⟩)
  obtain ⟨W0, hW0⟩ : ∃ W0, W0 = ((w.alloc (.cells #[.bool false] 4)).alloc (.cells #[.bool false] 4)).alloc (.cells #[.slice A L.length cap] 177) := ⟨_, rfl⟩
  obtain ⟨hs0, hv0, hr0, hx0⟩ := vld_start w (.slice A L.length cap) W0 hW0
  rw [← hW0]
  simp only [Nat.add_assoc, Nat.reduceAdd]
  have HB0 := Lib.hid (show Below w.heap.size w W0 by rw [hW0]; exact (((Below.refl _ _).alloc (Nat.le_refl _) _).alloc (by simp) _).alloc (by simp; omega) _)
  have HS0 := Lib.hid hs0
  have HV0 := Lib.hid hv0
  have HR0 := Lib.hid hr0
  have HX0 := Lib.hid hx0
  clear hW0 hs0 hv0 hr0 hx0
  refine range_boxes (n := n) (w := W0) rfl h1 (gf := 200) (lb := #[.pointer (some ⟨w.heap.size + 2, 0, none⟩)]) rfl trivial (enters_of Tryz.func200 (by kernel_rfl) rfl)
    (encs := fun d : Int × Int => #[.agg #[.int .i64 d.1, .int .i64 d.2]]) (Mv := Mv14) (Kp := Kp14 g w.heap.size) (S := fun l => l = L) (Sp := fun l => ∃ t, L = l ++ t)
    (fun W hb => all14_moves (n - 1) (by omega) (w.heap.size + 2) g off cap w.heap.size A L HL.out.1 HL.out.2 W ((hb.block _ (by have := HS0.out; omega)).trans HV0.out) ((HD.out.kp ⟨fun e _ => HB0.out.block _ e, HB0.out.size⟩).kp ⟨fun _ e => hb.block _ e, hb.size⟩))
    (fun h k => h.trans k) (fun h => h.kp) (fun A l o o' hl _ _ _ => kp_put14 (c := W0.heap.size) (by have := HS0.out; omega) A l o' hl) (fun A B k o hm hk _ => hm.book hk) (fun _ => rfl)
    (fun s W => Vld14 w s W) (fun _ W => Bad14 w L W) (fun s A B hm h => h.but (But.of_below (R := NoBlock) hm.below) (fun _ e => e.elim)) (fun s A B hm h => h.but (But.of_below (R := NoBlock) hm.below) (fun _ e => e.elim))
    (fun s A l o o' hl _ _ h => h.but (put_but14 A l o') (fun k e => by have e' : k = l := e; have := HS0.out; omega)) (fun s A l o o' hl _ _ h => h.but (put_but14 A l o') (fun k e => by have e' : k = l := e; have := HS0.out; omega))
    (fun W hb => ⟨rfl, (hb.block _ (by have := HS0.out; omega)).trans HR0.out, (hb.block _ (by have := HS0.out; omega)).trans HX0.out, HB0.out.trans (hb.mono HB0.out.size), by have := HS0.out; have := hb.size; omega⟩)
    (fun d W => { tmps := #[.slice A L.length cap, undef, .pointer (some ⟨w.heap.size, 0, none⟩), .pointer (some ⟨w.heap.size + 1, 0, none⟩), .pointer (some ⟨W.heap.size, 0, none⟩), .slice A L.length cap,
      .func (.func 200) #[] #[.pointer (some ⟨w.heap.size + 2, 0, none⟩)], .agg #[.int .i64 d.1, .int .i64 d.2], undef, undef, undef, undef, undef, undef, undef, undef, undef, undef, undef, undef, undef, undef, undef], defers := [] })
    (fun d W => W.alloc (.cells #[.int .i64 d.1, .int .i64 d.2] 209)) (fun d W => ⟨_, _, rfl⟩) ?assign ?body ?done ?stop
  case assign =>
    rintro l ⟨x, y⟩ W K hK
    obtain ⟨z0, z1⟩ := cells2_14 (heap_alloc_new W (.cells #[.int .i64 0, .int .i64 0] 209))
    gi_wp2
    exact hK
  case body =>
    rintro l s ⟨x, y⟩ W1 W hI1 hI ⟨t, ht⟩ hc hsz
    have hbx := hc _ _ (heap_alloc_new W1 _) rfl
    have hbl := hI1.big
    obtain ⟨bx, hbxe⟩ : ∃ bx, bx = W1.heap.size := ⟨_, rfl⟩
    rw [← hbxe] at hbx hbl ⊢
    dsimp only at hbx ⊢
    have HBX := Lib.hid hbx
    have HBL := Lib.hid hbl
    have HI := Lib.hid hI
    have HW := Lib.hid (And.intro hI.bel hI.big)
    obtain ⟨z0, z1⟩ := cells2_14 hbx
    have r0 := cells1_14 hI.res
    have o0 := cells1_14 hI.ovr
    have g0 := frozen_of_row W w.heap.size 0 _ _ hI.res
    have hLs : L = s ++ [(x, y)] ++ t := by rw [ht]
    have HGL : Hid (goodL false L = ((okD (x, y) && !(s.any gotN && gotB (x, y))) && goodL (s.any gotN || gotN (x, y)) t)) := Lib.hid (by
      rw [hLs, List.append_assoc, goodL_app, hI.good, Bool.true_and, Bool.false_or]
      simp only [List.singleton_append, goodL])
    have HGS : Hid ((okD (x, y) && !(s.any gotN && gotB (x, y))) = true → goodL false (s ++ [(x, y)]) = true) := Lib.hid (fun h => by
      rw [goodL_app, hI.good, Bool.true_and, Bool.false_or]
      simp only [goodL, h, Bool.true_and])
    have HAN : Hid ((s ++ [(x, y)]).any gotN = (s.any gotN || gotN (x, y))) := Lib.hid (by simp)
    have H1 := Lib.hid (fun W => deedValid14 x y W)
    have H2 := Lib.hid (fun W => gotByte14 x y W)
    have H3 := Lib.hid (fun W => gotNothing14 x y W)
    clear hbxe hbx hI hI1 hc hsz ht hLs hbl
    generalize okD (x, y) = okv at *
    generalize gotB (x, y) = gbv at *
    generalize gotN (x, y) = gnv at *
    generalize hov : s.any gotN = ov at *
    have HOV := Lib.hid hov
    clear hov
    gi_wp2
    refine ⟨trivial, fun h => by (simp [Fence.wide] at h), ?_⟩
    (with_reducible refine (CallsIn.inRound l (callsIn_wide.2 (H1.out _))).mono ?_)
    rintro e W2 ⟨rfl, hb⟩
    have HB2 := Lib.hid hb
    have HI2 := Lib.hid (HI.out.but (But.of_below (R := NoBlock) hb) (fun _ e => e.elim))
    obtain ⟨y0, y1⟩ := cells2_14 (box_below14 HBX.out hb)
    have r2 := cells1_14 HI2.out.res
    have o2 := cells1_14 HI2.out.ovr
    rw [HOV.out] at o2
    have g2 := frozen_of_row W2 w.heap.size 0 _ _ HI2.out.res
    clear hb
    cases okv
    · have HEnd := Lib.hid (bad_end14 HI2.out (show goodL false L = false by rw [HGL.out]; simp))
      have HKO := Lib.hid (below_oth14 HB2.out)
      gi_wp2
      case h_1.isTrue => rename_i hh _; cases hh
      case h_1.isFalse => rename_i hh _; cases hh
      case h_2 =>
        refine ⟨trivial, ?_⟩
        rename_i KK hKK _ _
        refine hKK _ _ ?_
        gi_wp2
        exact ⟨HKO.out.trans (KeepsOthers.setCell _ _ _), rfl, HEnd.out⟩
    · cases ov
      · have HGood := Lib.hid (HGS.out (by simp))
        have p2 := frozen_of_row W2 (w.heap.size + 1) 0 _ _ HI2.out.ovr
        gi_wp2
        refine ⟨trivial, ?_⟩
        rename_i KK hKK
        refine hKK _ _ ?_
        gi_wp2
        refine ⟨trivial, fun h => by (simp [Fence.wide] at h), ?_⟩
        (with_reducible refine (CallsIn.inRound l (callsIn_wide.2 (H3.out _))).mono ?_)
        rintro e W3 ⟨rfl, hb⟩
        have HB3 := Lib.hid (HB2.out.trans (hb.mono HB2.out.size))
        have HI3 := Lib.hid (HI2.out.but (But.of_below (R := NoBlock) hb) (fun _ e => e.elim))
        have o3 := cells1_14 HI3.out.ovr
        have p3 := frozen_of_row W3 (w.heap.size + 1) 0 _ _ HI3.out.ovr
        have HN := Lib.hid (vld_next14 HI3.out HGood.out (v := gnv) (by rw [HAN.out]; rfl))
        have HKO := Lib.hid (below_oth14 HB3.out)
        have HKp : Hid (Kp14 g w.heap.size W (W3.setCell ⟨w.heap.size + 1, 0, none⟩ (.bool gnv))) := Lib.hid ⟨fun e1 e2 => (Below.heap_setCell _ _ _ _ (by show g ≠ w.heap.size + 1; omega)).trans (HB3.out.block _ e2), by have := HB3.out.size; simpa [World.setCell] using this⟩
        clear hb
        gi_wp2
        exact ⟨HKO.out.trans (KeepsOthers.setCell _ _ _), HKp.out, HN.out⟩
      · gi_wp2
        refine ⟨trivial, fun h => by (simp [Fence.wide] at h), ?_⟩
        (with_reducible refine (CallsIn.inRound l (callsIn_wide.2 (H2.out _))).mono ?_)
        rintro e W3 ⟨rfl, hb⟩
        have HB3 := Lib.hid (HB2.out.trans (hb.mono HB2.out.size))
        have HI3 := Lib.hid (HI2.out.but (But.of_below (R := NoBlock) hb) (fun _ e => e.elim))
        have r3 := cells1_14 HI3.out.res
        have g3 := frozen_of_row W3 w.heap.size 0 _ _ HI3.out.res
        have o3 := cells1_14 HI3.out.ovr
        have p3 := frozen_of_row W3 (w.heap.size + 1) 0 _ _ HI3.out.ovr
        rw [HOV.out] at o3
        have HKO := Lib.hid (below_oth14 HB3.out)
        clear hb
        cases gbv
        · have HGood := Lib.hid (HGS.out (by simp))
          have HN := Lib.hid (vld_next14 HI3.out HGood.out (v := true) (by rw [HAN.out]; rfl))
          have HKp : Hid (Kp14 g w.heap.size W (W3.setCell ⟨w.heap.size + 1, 0, none⟩ (.bool true))) := Lib.hid ⟨fun e1 e2 => (Below.heap_setCell _ _ _ _ (by show g ≠ w.heap.size + 1; omega)).trans (HB3.out.block _ e2), by have := HB3.out.size; simpa [World.setCell] using this⟩
          gi_wp2
          refine ⟨trivial, ?_⟩
          rename_i KK hKK
          refine hKK _ _ ?_
          gi_wp2
          exact ⟨HKO.out.trans (KeepsOthers.setCell _ _ _), HKp.out, HN.out⟩
        · have HEnd := Lib.hid (bad_end14 HI3.out (show goodL false L = false by rw [HGL.out]; simp))
          gi_wp2
          exact ⟨HKO.out.trans (KeepsOthers.setCell _ _ _), rfl, HEnd.out⟩
  case done =>
    intro D ys W hD hS hI hK
    subst hS
    have r0 := cells1_14 hI.res
    have g0 := frozen_of_row W w.heap.size 0 _ _ hI.res
    have HI := Lib.hid hI
    have HK := Lib.hid hK
    have HDD : Hid (w.heap.size + 3 ≤ D) := Lib.hid (by have := HS0.out; omega)
    clear hI hK hD
    gi_wp2
    refine ⟨by simp, .inl ⟨_, _, rfl, run_takeDeferred ((KeepsOthers.setCell W ⟨w.heap.size, 0, none⟩ (.bool true)).same D _ HK.out rfl), ?_⟩⟩
    have k0 : ((W.setCell ⟨w.heap.size, 0, none⟩ (.bool true)).putObj D (.deferred none)).heap[w.heap.size]? = some (.cells #[.bool true] 4 (0, 0)) := (World.putObj_heap_other (by have := HDD.out; omega)).trans (heap_setCell_same W w.heap.size 0 _ _ (.bool true) HI.out.res)
    have hb : Below w.heap.size w (W.setCell ⟨w.heap.size, 0, none⟩ (.bool true)) := HI.out.bel.setCell (p := ⟨w.heap.size, 0, none⟩) (Nat.le_refl _) _
    have HPost := Lib.hid (But.below hb (put_but14 _ D (.deferred none)) hb.size (fun k e => by have e' : k = D := e; have := HDD.out; omega))
    rw [HI.out.good]
    generalize (W.setCell ⟨w.heap.size, 0, none⟩ (.bool true)).putObj D (.deferred none) = Wf at *
    have q0 := cells1_14 k0
    exact ⟨.bool true, by simp [results, Tryz.results148, go_sem, q0], rfl, HPost.out⟩
  case stop =>
    intro D ys W hD hSp hX hK
    have HX := Lib.hid hX
    have HK := Lib.hid hK
    have HDD : Hid (w.heap.size + 3 ≤ D) := Lib.hid (by have := HS0.out; omega)
    clear hX hK hSp hD
    gi_wp2
    refine ⟨by simp, .inl ⟨_, _, rfl, run_takeDeferred HK.out, ?_⟩⟩
    have k0 : (W.putObj D (.deferred none)).heap[w.heap.size]? = some (.cells #[.bool false] 4 (0, 0)) := (World.putObj_heap_other (by have := HDD.out; omega)).trans HX.out.res
    have HPost := Lib.hid (But.below HX.out.bel (put_but14 W D (.deferred none)) HX.out.bel.size (fun k e => by have e' : k = D := e; have := HDD.out; omega))
    rw [HX.out.bad]
    generalize W.putObj D (.deferred none) = Wf at *
    have q0 := cells1_14 k0
    exact ⟨.bool false, by simp [results, Tryz.results148, go_sem, q0], rfl, HPost.out⟩
theorem recValid14 (V : Value) (L : List (Int × Int)) (w : World) (hV : IsDeeds w w.heap.size V L) : Calls Tryz.prog 148 #[V] w (Makes w (.bool (goodL false L))) :=
  callsIn_wide.1 (recValid14_in 6 (Nat.le_refl _) V L w hV)
end Go.Proofs.YtkfdgpgildanbaaGreat
