/- The landed space: New. Contract; no condition but that what is handed in lies in memory, and that the module's lists are not too long. -/
import Derived.Test.YtkfdgpgildanbaaGreatSp15N
namespace Go.Proofs.YtkfdgpgildanbaaGreat
open Go.RowKit Go.Shelf
set_option linter.unusedVariables false
set_option linter.unusedSimpArgs false

theorem isSize15 (n : Int) (w : World) (hn : InI n) : Calls Tryz.prog 55 #[.int .i64 n] w fun e w' => e = .returned (.bool (sizeB n)) ∧ w = w' := by
  have HT := Lib.hid (top_any n w hn.1 hn.2)
  have n1 := hn.1
  have n2 := hn.2
  clear hn
  by_cases h : 16 ≤ n ∧ n ≤ 65536
  · have e1 : topV n = n - n % 16 := by unfold topV dnV; rw [if_pos h]
    have e2 : topE n = 0 := by unfold topE; rw [if_pos h]
    rw [e1, e2] at HT
    have hcv : IntKind.u64.wrap n = n := IntWalk.u64_in _ (by omega)
    by_cases h2 : n % 16 = 0
    · have hs : sizeB n = true := by unfold sizeB; rw [decide_eq_true h.1, decide_eq_true h.2, decide_eq_true h2]; rfl
      rw [hs]
      rw [h2, Int.sub_zero] at HT
      have hq : (n == n) = true := by simp
      clear e1 e2 h h2 hs n1 n2
      go_enter Tryz.func55, Tryz.ntmps55
      go_wp2_with (go_at_call 117; (with_reducible refine HT.out.mono ?_); rintro e w' ⟨rfl, rfl⟩)
      go_ret
      exact ⟨rfl, rfl⟩
    · have hs : sizeB n = false := by unfold sizeB; rw [decide_eq_false h2]; simp
      rw [hs]
      obtain ⟨z, hz⟩ : ∃ z, z = n - n % 16 := ⟨_, rfl⟩
      rw [← hz] at HT
      have hq : (z == n) = false := by simpa using (fun e : z = n => h2 (by omega))
      clear e1 e2 h h2 hs hz n1 n2
      go_enter Tryz.func55, Tryz.ntmps55
      go_wp2_with (go_at_call 117; (with_reducible refine HT.out.mono ?_); rintro e w' ⟨rfl, rfl⟩)
      go_ret
      exact ⟨rfl, rfl⟩
  · have e1 : topV n = 0 := by unfold topV; rw [if_neg h]
    have e2 : topE n = 2 := by unfold topE; rw [if_neg h]
    rw [e1, e2] at HT
    have hs : sizeB n = false := by
      unfold sizeB
      by_cases h1 : 16 ≤ n
      · rw [decide_eq_false (show ¬ n ≤ 65536 from fun h2 => h ⟨h1, h2⟩)]; simp
      · rw [decide_eq_false h1]; simp
    rw [hs]
    clear e1 e2 h hs n1 n2
    go_enter Tryz.func55, Tryz.ntmps55
    go_wp2_with (go_at_call 117; (with_reducible refine HT.out.mono ?_); rintro e w' ⟨rfl, rfl⟩)
    go_ret
    exact ⟨rfl, rfl⟩
/-- What New leaves. -/
def NewSp (w : World) (m : ModV) (n : Int) (inp : List Int) (fuel : Int) (e : Ending) (w' : World) : Prop :=
  Below w.heap.size w w' ∧ ((newE15 m n fuel ≠ 0 ∧ e = .returned (.tuple #[.pointer none, .int .i64 (newE15 m n fuel)])) ∨
    (newE15 m n fuel = 0 ∧ ∃ sb p, e = .returned (.tuple #[.pointer (some ⟨sb, 0, none⟩), .int .i64 0]) ∧ FreshAt w' sb p (newS m n.toNat inp fuel) ∧ w.heap.size ≤ sb ∧ ∀ k, ro15 p k → w.heap.size ≤ k))
set_option maxRecDepth 100000 in
set_option maxHeartbeats 8000000 in
theorem new15 (D F IN : Value) (data inp : List Int) (fs : List FunV) (w : World) (n fuel : Int) (hD : IsBytes w w.heap.size D data) (hF : IsFuns w w.heap.size F fs) (hI : IsBytes w w.heap.size IN inp) (hn : InI n) (hfu : InI fuel) (hil : inp.length ≤ 140737488355328) (hcl : ∀ f ∈ fs, f.code.length ≤ 1000000 ∧ ∀ y ∈ f.code, y.args.length ≤ 1000000) :
    Calls Tryz.prog 15 #[.agg #[D, F], .int .i64 n, IN, .int .i64 fuel] w (NewSp w ⟨data, fs⟩ n inp fuel) := by
  obtain ⟨DA, dc, rfl⟩ := hD.len
  obtain ⟨FA, fc, rfl⟩ := hF.len
  obtain ⟨IA, ic, rfl⟩ := hI.len
  have hB := below_one14 w (.cells #[.slice DA data.length dc, .slice FA fs.length fc] 25)
  obtain ⟨W0, hW0⟩ : ∃ W0, W0 = w.alloc (.cells #[.slice DA data.length dc, .slice FA fs.length fc] 25) := ⟨_, rfl⟩
  have hnew : W0.heap[w.heap.size]? = some (.cells #[.slice DA data.length dc, .slice FA fs.length fc] 25 (0, 0)) := by rw [hW0]; exact heap_alloc_new _ _
  rw [← hW0] at hB
  have HW := Lib.hid hW0
  have HB := Lib.hid hB
  have HN := Lib.hid hnew
  obtain ⟨x0, x1⟩ := cells2_14 hnew
  have HSZ := Lib.hid (fun w => isSize15 n w hn)
  have HCK := Lib.hid (check8_any _ _ data fs W0 (hD.grow hB) (hF.grow hB))
  have hld := hD.2.1
  obtain ⟨m, hm⟩ : ∃ m, m = ModV.mk data fs := ⟨_, rfl⟩
  rw [← hm] at HCK ⊢
  have HM := Lib.hid hm
  unfold NewSp
  by_cases h1 : fuel < 0
  · have hE : newE15 m n fuel = 2 := by unfold newE15; rw [if_pos (.inl h1)]
    rw [hE]
    have d0 : decide (fuel < 0) = true := decide_eq_true h1
    clear hD hF hI hn hfu hil hcl hB hnew hW0 hm h1 hE hld
    go_enter Tryz.func15, Tryz.ntmps15
    go_upto_region 1 with fail
    rw [← HW.out]
    go_wp2
    go_ret2
    exact ⟨HB.out, .inl ⟨by decide, rfl⟩⟩
  · have d0 : decide (fuel < 0) = false := decide_eq_false h1
    by_cases h2 : 10000000 < fuel
    · have hE : newE15 m n fuel = 2 := by unfold newE15; rw [if_pos (.inr (.inl h2))]
      rw [hE]
      have d1 : decide ((10000000 : Int) < fuel) = true := decide_eq_true h2
      clear hD hF hI hn hfu hil hcl hB hnew hW0 hm h1 h2 hE hld
      go_enter Tryz.func15, Tryz.ntmps15
      go_upto_region 1 with fail
      rw [← HW.out]
      go_wp2
      go_ret2
      exact ⟨HB.out, .inl ⟨by decide, rfl⟩⟩
    · have d1 : decide ((10000000 : Int) < fuel) = false := decide_eq_false h2
      cases h3 : sizeB n
      · have hE : newE15 m n fuel = 2 := by unfold newE15; rw [if_pos (.inr (.inr (.inl h3)))]
        rw [hE]
        rw [h3] at HSZ
        have hnot := not15
        clear hD hF hI hn hfu hil hcl hB hnew hW0 hm h1 h2 h3 hE hld
        go_enter Tryz.func15, Tryz.ntmps15
        go_upto_region 1 with fail
        rw [← HW.out]
        go_wp2_with (go_at_call 55; (with_reducible refine (HSZ.out _).mono ?_); rintro e w' ⟨rfl, rfl⟩)
        go_ret2
        exact ⟨HB.out, .inl ⟨by decide, rfl⟩⟩
      · rw [h3] at HSZ
        by_cases h4 : m.err = 0
        · rw [h4] at HCK
          obtain ⟨N, rfl⟩ : ∃ N : Nat, n = N := ⟨n.toNat, by simp [sizeB] at h3; omega⟩
          have hsz : 16 ≤ N ∧ N ≤ 65536 ∧ N % 16 = 0 := by simp [sizeB] at h3; omega
          have hdl : data.length ≤ 8192 := by have := (err_funs h4).1; rw [hm] at this; exact this
          have hflo := flo_bd h4
          have HFL := Lib.hid (fun w => floor_any data.length w (by omega) (by omega))
          have e1 : floorV (data.length : Int) = floV m := by rw [hm]; rfl
          have e2 : floorE (data.length : Int) = 0 := by unfold floorE; rw [if_pos (by omega)]
          rw [e1, e2] at HFL
          have hcv : IntKind.u64.wrap (N : Int) = (N : Int) := IntWalk.u64_in _ (by omega)
          have hnot := not15
          have HCL := Lib.hid (fun W (hb : Below w.heap.size w W) => cloned15 _ _ data fs W (hD.grow hb) (hF.grow hb) (by omega) (by have := (err_funs h4).2.2.1; rw [hm] at this; show fs.length ≤ 1000000; exact Nat.le_trans this (by decide)) hcl)
          have HCI := Lib.hid (fun W (hb : Below w.heap.size w W) => cloneB14 _ inp W (hI.grow hb) hil)
          have HIB := Lib.hid hI.1
          have HIL := Lib.hid hil
          obtain ⟨fl, hfl⟩ : ∃ fl, fl = floV m := ⟨_, rfl⟩
          have HFV := Lib.hid hfl
          have HX : Hid (∀ W, Below W0.heap.size W0 W → W.cell? ⟨w.heap.size, 0, none⟩ = some (.slice DA data.length dc) ∧ W.cell? ⟨w.heap.size, 1, none⟩ = some (.slice FA fs.length fc)) := Lib.hid (fun W hb => cells2_14 ((hb.block _ (heap_lt hnew)).trans hnew))
          by_cases h5 : (N : Int) < fl
          · have hE : newE15 m N fuel = 8 := by
              unfold newE15
              rw [if_neg (by simp only [not_or]; exact ⟨h1, h2, by rw [h3]; simp, fun h => h h4⟩), if_pos (by rw [← hfl]; exact h5)]
            rw [hE]
            have d5 : decide ((N : Int) < fl) = true := decide_eq_true h5
            rw [← hfl] at HFL
            clear hD hF hI hn hfu hil hcl hB hnew hW0 hm h1 h2 h3 h4 hE hld hsz hdl hflo e1 e2 hfl x0 x1
            go_enter Tryz.func15, Tryz.ntmps15
            go_upto_region 1 with fail
            rw [← HW.out]
            obtain ⟨x0, x1⟩ := cells2_14 HN.out
            go_wp2_with (first
              | (go_at_call 55; (with_reducible refine (HSZ.out _).mono ?_); rintro e w' ⟨rfl, rfl⟩)
              | (go_at_call 56; (with_reducible refine HCK.out.mono ?_); rintro e w4 ⟨rfl, hb⟩; have HB2 := Lib.hid (HB.out.trans (hb.mono HB.out.size)); obtain ⟨x2, x3⟩ := HX.out _ hb; clear hb)
              | (go_at_call 50; (with_reducible refine (HFL.out _).mono ?_); rintro e w' ⟨rfl, rfl⟩))
            go_ret2
            exact ⟨HB2.out, .inl ⟨by decide, rfl⟩⟩
          · have hE : newE15 m N fuel = 0 := by
              unfold newE15
              rw [if_neg (by simp only [not_or]; exact ⟨h1, h2, by rw [h3]; simp, fun h => h h4⟩), if_neg (by rw [← hfl]; exact h5)]
            have hok := newS_ok hE hI.1
            have HEE := Lib.hid hE
            have HOK := Lib.hid hok
            rw [hE]
            have d5 : decide ((N : Int) < fl) = false := decide_eq_false h5
            rw [← hfl] at HFL
            have HZ := Lib.hid hsz
            clear hD hF hI hn hfu hil hcl hB hnew hW0 hm h1 h2 h3 h4 hE hld hsz hdl hflo e1 e2 hfl x0 x1 hok
            go_enter Tryz.func15, Tryz.ntmps15
            go_upto_region 1 with fail
            rw [← HW.out]
            obtain ⟨x0, x1⟩ := cells2_14 HN.out
            go_wp2_with (first
              | (go_at_call 55; (with_reducible refine (HSZ.out _).mono ?_); rintro e w' ⟨rfl, rfl⟩)
              | (go_at_call 56; (with_reducible refine HCK.out.mono ?_); rintro e w4 ⟨rfl, hb⟩; have HB2 := Lib.hid (HB.out.trans (hb.mono HB.out.size)); obtain ⟨x2, x3⟩ := HX.out _ hb; clear hb)
              | (go_at_call 50; (with_reducible refine (HFL.out _).mono ?_); rintro e w' ⟨rfl, rfl⟩)
              | (go_at_call 57; (with_reducible refine (HCL.out _ HB2.out).mono ?_); rintro e w5 ⟨D', F', Cs, rfl, hcd, hcf, hcg, hb⟩; obtain ⟨dA, dC, hde⟩ := hcd.len; obtain ⟨fA, fC, hfe⟩ := owns_len14 hcf.own; subst hde hfe; have O5 := Lib.hid hcd; have F5 := Lib.hid hcf; have G5 := Lib.hid hcg; have B5 := Lib.hid (HB2.out.trans (hb.mono HB2.out.size)); have S5 := Lib.hid HB2.out.size; clear hcd hcf hcg hb)
              | (go_at_call 58; (with_reducible refine (HCI.out _ B5.out).mono ?_); rintro e w6 ⟨V, rfl, ho, hb⟩; have O6 := Lib.hid (OwnB.of_owns ho HIB.out HIL.out); obtain ⟨iA, iC, hie⟩ := O6.out.len; subst hie; have B6 := Lib.hid (B5.out.trans (hb.mono B5.out.size)); have O56 := Lib.hid (O5.out.but' (But.of_below (R := NoBlock) hb) (fun _ _ h => h)); have F56 := Lib.hid (F5.out.below hb (Nat.le_refl _)); have S6 := Lib.hid B5.out.size; have HSF := Lib.hid (setFuel15 ⟨w6.heap.size, 11, none⟩ (.int .i64 0) fuel (w6.alloc (.cells #[.pointer (some ⟨w6.heap.size, 0, none⟩), .int .u32 0, .int .i32 0, .int .u32 0, .slice dA data.length dC, .slice fA fs.length fC, .int .i64 N, .slice iA inp.length iC, .int .u64 fl, .pointer none, .pointer none, .int .i64 0, .int .i64 0, .int .u64 0, .int .i64 0, .slice none 0 0, .int .i64 0, .int .i64 0] 80)) (cells18 (heap_alloc_new w6 _)).2.1.2.2.2.2.2 (frozen_of_row _ _ 11 _ _ (heap_alloc_new w6 _))); clear ho hb)
              | (go_at_call 59; (with_reducible refine HSF.out.mono ?_); rintro e w7 ⟨rfl, hw7⟩; have HW7 := Lib.hid hw7; clear hw7))
            go_ret2
            have hx7 := heap_setCell_same _ w6.heap.size 11 _ _ (.int .i64 fuel) (heap_alloc_new w6 (.cells #[.pointer (some ⟨w6.heap.size, 0, none⟩), .int .u32 0, .int .i32 0, .int .u32 0, .slice dA data.length dC, .slice fA fs.length fC, .int .i64 N, .slice iA inp.length iC, .int .u64 fl, .pointer none, .pointer none, .int .i64 0, .int .i64 0, .int .u64 0, .int .i64 0, .slice none 0 0, .int .i64 0, .int .i64 0] 80))
            have hb7 : Below w6.heap.size w6 w7 := by
              rw [HW7.out]
              exact (below_one14 w6 _).setCell (p := ⟨w6.heap.size, 11, none⟩) (Nat.le_refl _) _
            rw [← HW7.out] at hx7
            obtain ⟨s1, s2, s3, s4⟩ := newS_same (m := m) (n := N) (inp := inp) (fuel := fuel)
            have hO7 := O56.out.but' (But.of_below (R := NoBlock) hb7) (fun _ _ h => h)
            have hI7 := O6.out.but' (But.of_below (R := NoBlock) hb7) (fun _ _ h => h)
            have hF7 := F56.out.below hb7 (Nat.le_refl _)
            refine ⟨B6.out.trans (hb7.mono B6.out.size), .inr ⟨(by first | trivial | rfl | exact HEE.out), w6.heap.size, ⟨w6.heap.size, w6.heap.size, 0, w6.heap.size, 0, 0, .slice none 0 0, .slice none 0 0, .slice none 0 0, .slice dA data.length dC, .slice fA fs.length fC, .slice iA inp.length iC, Cs⟩, rfl, ⟨?_, ?_, ?_, ?_, ?_, ?_, HOK.out, ?_, ⟨rfl, rfl, rfl, rfl, rfl, rfl⟩⟩, B6.out.size, ?_⟩⟩
            · rw [Int.toNat_natCast]
              unfold fresh15
              rw [s1, s2, s4, ← HFV.out]
              exact hx7
            · rw [Int.toNat_natCast, s1, HM.out]; exact hO7.base' (Nat.zero_le _)
            · rw [Int.toNat_natCast, s3]; exact hI7.base' (Nat.zero_le _)
            · rw [Int.toNat_natCast, s1, HM.out]; exact hF7
            · rw [Int.toNat_natCast, s1, s2, s3, s4]
            · rw [Int.toNat_natCast, s1, s2, s4]; exact HEE.out
            · intro k hk hr
              have hks : k = w6.heap.size := by
                rcases hk with e | e | e | e | e | e
                · exact e
                · exact e
                · exact e
                · exact e
                · simp [Value.ownBlock] at e
                · simp [Value.ownBlock] at e
              rcases hr with e | e | e | e
              · simp [Value.ownBlock] at e
              · have := ownB_lt O56.out e; omega
              · have := (F56.out.own.lt e).2; omega
              · have := ownB_lt O6.out e; omega
            · intro k hr
              rcases hr with e | e | e | e
              · simp [Value.ownBlock] at e
              · exact Nat.le_trans S5.out (O5.out.low e)
              · exact Nat.le_trans S5.out (G5.out k e)
              · exact Nat.le_trans S6.out (O6.out.low e)
        · have hE : newE15 m n fuel = 2 := by unfold newE15; rw [if_pos (.inr (.inr (.inr h4)))]
          rw [hE]
          obtain ⟨E, hEe⟩ : ∃ E, E = m.err := ⟨_, rfl⟩
          rw [← hEe] at HCK h4
          have d4 : (E != 0) = true := by simpa using h4
          have hnot := not15
          clear hD hF hI hn hfu hil hcl hB hnew hW0 hm h1 h2 h3 h4 hE hld hEe
          go_enter Tryz.func15, Tryz.ntmps15
          go_upto_region 1 with fail
          rw [← HW.out]
          go_wp2_with (first
            | (go_at_call 55; (with_reducible refine (HSZ.out _).mono ?_); rintro e w' ⟨rfl, rfl⟩)
            | (go_at_call 56; (with_reducible refine HCK.out.mono ?_); rintro e w' ⟨rfl, hb⟩; have HB2 := Lib.hid (HB.out.trans (hb.mono HB.out.size)); clear hb))
          go_ret2
          exact ⟨HB2.out, .inl ⟨by decide, rfl⟩⟩
end Go.Proofs.YtkfdgpgildanbaaGreat
