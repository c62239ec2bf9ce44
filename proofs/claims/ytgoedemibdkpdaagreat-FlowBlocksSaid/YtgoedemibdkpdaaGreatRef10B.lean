/- The document's own Check and next of layer 10. Contracts; no condition but that the instructions are few. -/
import Derived.Test.YtgoedemibdkpdaaGreatRef10A
namespace Go.Proofs.YtgoedemibdkpdaaGreat
open Go.RowKit Go.Shelf
set_option linter.unusedVariables false
set_option linter.unusedSimpArgs false

theorem any_take {f : InsV → Bool} {l : List InsV} {k : Nat} (hk : k < l.length) (h0 : (l.take k).any f = false) (h1 : f (l.getD k .zero) = false) : (l.take (k + 1)).any f = false := by
  rw [code_take l hk, List.any_append, h0]
  simp only [List.any_cons, List.any_nil, h1, Bool.or_false]
theorem any_hit {f : InsV → Bool} {l : List InsV} {k : Nat} (hk : k < l.length) (h1 : f (l.getD k .zero) = true) : l.any f = true := by
  rw [List.any_eq_true]
  exact ⟨_, by simp [List.getD, List.getElem?_eq_getElem hk], h1⟩
set_option maxRecDepth 100000 in
set_option maxHeartbeats 8000000 in
theorem rCheck_any (A : Option Addr) (n cap : Nat) (l : List InsV) (w : World) (hn : n = l.length) (h : IsCode w w.heap.size (.slice A n cap) l) (hs : n ≤ 1000) :
    Calls Tryz.prog 22 #[.slice A n cap] w (Makes w (.int .i64 (check10 l))) := by
  have HC := Lib.hid h
  have HN := Lib.hid hn
  have HJ := Lib.hid (rjoin7_any (.slice A n cap) l w h (by omega))
  have hsI : (n : Int) ≤ 1000 := by omega
  by_cases hj : joinE l = 0
  · have HJ2 := Lib.hid (HJ.out.mono fun e w' hh => (hh.resolve_left (fun h => h.1 hj)).2)
    by_cases hn0 : n = 0
    · have HE : Hid (check10 l = 10) := Lib.hid (by unfold check10; rw [if_neg (not_not_intro hj), if_pos (by omega)])
      subst hn0
      clear h hn hj
      go_enter Tryz.func22, Tryz.ntmps22
      go_wp2_with (go_at_call 38; (with_reducible refine HJ2.out.mono ?_); rintro e w1 ⟨v1, rfl, ho⟩; have HB1 := Lib.hid ho.bel; clear ho)
      go_ret
      rw [HE.out]
      exact ⟨rfl, HB1.out⟩
    · have HPC := Lib.hid (fun W hc => rplaces_any A n cap l W HN.out hc hj)
      have HE13 : Hid (l.any (strayB (placesV l 0)) = true → check10 l = 13) := Lib.hid (fun hy => by unfold check10; rw [if_neg (not_not_intro hj), if_neg (by omega), if_pos hy])
      have HE10 : Hid (l.any (strayB (placesV l 0)) = false → flsV (lastV l) = true → check10 l = 10) := Lib.hid (fun hy hf => by unfold check10; rw [if_neg (not_not_intro hj), if_neg (by omega), if_neg (by rw [hy]; simp), if_pos hf])
      have HE0 : Hid (l.any (strayB (placesV l 0)) = false → flsV (lastV l) = false → check10 l = 0) := Lib.hid (fun hy hf => by unfold check10; rw [if_neg (not_not_intro hj), if_neg (by omega), if_neg (by rw [hy]; simp), if_neg (by rw [hf]; simp)])
      have hn1 : 0 < n := by omega
      have hnI : (0 : Int) < (n : Int) := by omega
      have hnz : ((n : Int) == 0) = false := by simp; omega
      have hnz2 : (n == 0) = false := by simpa using hn0
      clear h hn hj hn0
      go_enter Tryz.func22, Tryz.ntmps22
      go_wp2_with (first
        | (go_at_call 38; (with_reducible refine HJ2.out.mono ?_); rintro e w1 ⟨v1, rfl, ho⟩; have HB1 := Lib.hid ho.bel; have HC1 := Lib.hid ((HC.out.below ho.bel (Nat.le_refl _) (Nat.le_refl _)).more ho.bel.size); clear ho)
        | (go_at_call 23; (with_reducible refine (HPC.out w1 HC1.out).mono ?_); rintro e w2 ⟨hb, P, rfl, ho⟩; have HB2 := Lib.hid (HB1.out.trans (hb.mono HB1.out.size)); have HP2 := Lib.hid (IsNums.of_owns ho (Nat.le_refl _)); obtain ⟨pA, pc, hpe⟩ := owns_len ho; subst hpe; clear hb ho))
      go_loopw [6] (fun i wr => ∃ k : Nat, k ≤ n ∧ i = .int .i64 k ∧ Hid (Below w2.heap.size w2 wr ∧ (l.take k).any (strayB (placesV l 0)) = false)) (fun i _ => n - (intOf i).toNat)
      case atStart => exact ⟨0, by omega, rfl, Below.refl _ _, rfl⟩
      case round =>
        obtain ⟨k, hk, rfl, HR⟩ := hrel
        obtain ⟨hb, hy⟩ := HR.out
        have HB := Lib.hid hb
        have HY := Lib.hid hy
        have HBW := Lib.hid (HB2.out.trans (hb.mono HB2.out.size))
        clear HR hb hy
        by_cases hlt : k < n
        · have hkl : k < l.length := by rw [← HN.out]; exact hlt
          obtain ⟨b, off, op, a, b1, c, n1, args, YA, Yc, hA, hy, hin, hcc⟩ := code_cells HC.out HN.out hlt
          cases hA
          obtain ⟨hX, c0, c1, c2, c3, c4, c5⟩ := hcc wr HBW.out
          have HTG := Lib.hid (rtarget_any op a b1 c n1 (.slice YA args.length Yc) args wr)
          rw [← hy] at HTG
          have HST : Hid (strayB (placesV l 0) (l.getD k .zero) = decide (0 ≤ tgtV (l.getD k .zero) ∧ atV (placesV l 0) (tgtV (l.getD k .zero)) < 0)) := Lib.hid rfl
          have HKL := Lib.hid hkl
          have k0 : (0 : Int) ≤ (k : Int) := by omega
          have k1 : (k : Int) < (n : Int) := by omega
          generalize tgtV (l.getD k .zero) = t at *
          clear hcc hX hin hy hkl
          by_cases ht : 0 ≤ t
          · have HAT := Lib.hid (fun W hb' => rat_any (.slice pA (placesV l 0).length pc) (placesV l 0) t W _ (HP2.out.below hb' (Nat.le_refl _)))
            have htI : ¬ t < 0 := by omega
            by_cases ha : atV (placesV l 0) t < 0
            · have HE := Lib.hid (HE13.out (any_hit HKL.out (by rw [HST.out]; exact decide_eq_true ⟨ht, ha⟩)))
              generalize atV (placesV l 0) t = av at *
              go_wp2_with (first
                | (go_at_call 39; (with_reducible refine HTG.out.mono ?_); rintro e w5 ⟨rfl, hb⟩; have HB5 := Lib.hid (HB.out.trans (hb.mono HB.out.size)); have HW5 := Lib.hid (HBW.out.trans (hb.mono HBW.out.size)); clear hb)
                | (go_at_call 40; (with_reducible refine (HAT.out w5 HB5.out).mono ?_); rintro e w6 ⟨rfl, hw⟩; subst hw))
              go_ret
              rw [HE.out]
              exact ⟨rfl, HW5.out⟩
            · have HNX := Lib.hid (any_take HKL.out HY.out (by rw [HST.out]; exact decide_eq_false (fun hc => ha hc.2)))
              generalize atV (placesV l 0) t = av at *
              go_wp2_with (first
                | (go_at_call 39; (with_reducible refine HTG.out.mono ?_); rintro e w5 ⟨rfl, hb⟩; have HB5 := Lib.hid (HB.out.trans (hb.mono HB.out.size)); have HW5 := Lib.hid (HBW.out.trans (hb.mono HBW.out.size)); clear hb)
                | (go_at_call 40; (with_reducible refine (HAT.out w5 HB5.out).mono ?_); rintro e w6 ⟨rfl, hw⟩; subst hw))
              go_roundw
              case rel => exact ⟨k + 1, by omega, by go_num, HB5.out, HNX.out⟩
              case measure => simp [intOf]; omega
          · have HNX := Lib.hid (any_take HKL.out HY.out (by rw [HST.out]; exact decide_eq_false (fun hc => ht hc.1)))
            go_wp2_with (go_at_call 39; (with_reducible refine HTG.out.mono ?_); rintro e w5 ⟨rfl, hb⟩; have HB5 := Lib.hid (HB.out.trans (hb.mono HB.out.size)); clear hb)
            go_roundw
            case rel => exact ⟨k + 1, by omega, by go_num, HB5.out, HNX.out⟩
            case measure => simp [intOf]; omega
        · obtain rfl : n = k := by omega
          have hall : l.any (strayB (placesV l 0)) = false := by have := HY.out; rw [HN.out, List.take_length] at this; exact this
          obtain ⟨nn, hnn⟩ : ∃ nn, n = nn + 1 := ⟨n - 1, by omega⟩
          obtain ⟨b, off, op, a, b1, c, n1, args, YA, Yc, hA, hy, hin, hcc⟩ := code_cells HC.out HN.out (show nn < n by omega)
          cases hA
          obtain ⟨hX, c0, c1, c2, c3, c4, c5⟩ := hcc wr HBW.out
          have hlv : lastV l = l.getD nn .zero := by unfold lastV; rw [← HN.out, hnn, Nat.add_sub_cancel]
          have HFL := Lib.hid (rfalls_any op a b1 c n1 (.slice YA args.length Yc) wr)
          have hfe : flsV (lastV l) = fallsV op := by rw [hlv, hy]; rfl
          have hw1 : wrap64 ((n : Int) - 1) = (nn : Int) := by unfold wrap64; omega
          have hw2 : (n : Int) - 1 = (nn : Int) := by omega
          have m0 : (0 : Int) ≤ (nn : Int) := by omega
          have m1 : (nn : Int) < (n : Int) := by omega
          cases hf : fallsV op with
          | true =>
            rw [hf] at HFL hfe
            have HE := Lib.hid (HE10.out hall hfe)
            clear hcc hX hin hy hlv hfe hf hall hnn
            go_wp2_with (go_at_call 41; (with_reducible refine HFL.out.mono ?_); rintro e w5 ⟨rfl, hb⟩; have HW5 := Lib.hid (HBW.out.trans (hb.mono HBW.out.size)); clear hb)
            go_ret
            rw [HE.out]
            exact ⟨rfl, HW5.out⟩
          | false =>
            rw [hf] at HFL hfe
            have HE := Lib.hid (HE0.out hall hfe)
            clear hcc hX hin hy hlv hfe hf hall hnn
            go_wp2_with (go_at_call 41; (with_reducible refine HFL.out.mono ?_); rintro e w5 ⟨rfl, hb⟩; have HW5 := Lib.hid (HBW.out.trans (hb.mono HBW.out.size)); clear hb)
            go_ret
            rw [HE.out]
            exact ⟨rfl, HW5.out⟩
  · have HE : Hid (check10 l = joinE l) := Lib.hid (by unfold check10; rw [if_pos hj])
    have HJ2 := Lib.hid (HJ.out.mono fun e w' hh => (hh.resolve_right (fun h => hj h.1)).2)
    have hne : (joinE l != 0) = true := by simpa using hj
    generalize joinE l = z at *
    clear h hn hj HJ
    go_enter Tryz.func22, Tryz.ntmps22
    go_wp2_with (go_at_call 38; (with_reducible refine HJ2.out.mono ?_); rintro e w1 ⟨rfl, hb⟩; have HB1 := Lib.hid hb; clear hb)
    go_ret
    rw [HE.out]
    exact ⟨rfl, HB1.out⟩
/-- An append of numbers to numbers, at the operation. -/
theorem wpList_outT {W : World} {ops : Array Oper} {rest : List Oper} {o : Oper} {a : Act} {Q : Exit → Act → World → Prop} (hgd : o.guard = none) (s x : Operand)
    (ho : o.op = .call { callee := .builtin .append, args := #[s, x], argTypes := #[32, 32] }) {V X : Value} {xs ys : List Int} {base b2 : Nat} (hs : a.eval s = V) (hx : a.eval x = X) (h : OutN base W V xs) (hX : OutN b2 W X ys)
    (hb : base ≤ W.heap.size) (hl : xs.length + ys.length ≤ 1000000)
    (hK : ∀ V' W', OutN base W' V' (xs ++ ys) → But (OwnB V) W W' → wpList Tryz.prog ops Q rest (a.put o.dst V') W') :
    wpList Tryz.prog ops Q (o :: rest) a W :=
  wpList_plain hgd fun _ hk => by
    obtain ⟨V', W', hr, ho', hb'⟩ := run_append_two (ty := o.type) h hX hb hl
    unfold Oper.wp execOp
    simp only [ho, resolve, invoke, builtin, Sem.run_bind, Sem.run_pure, Result.andThen_ok, List.map_toArray, List.map_cons, List.map_nil, hs, hx, hr]
    exact hk _ _ (hK V' W' ho' hb')
theorem one_new (w : World) (z : Int) : OutN w.heap.size (w.alloc (.cells #[.int .i64 z] 3)) (.slice (some ⟨w.heap.size, 0, none⟩) 1 1) [z] :=
  OutN.of_block (cap := 1) (ys := [z]) (Nat.le_refl _) (heap_alloc_new w _) (by simp) (by simp [maxLen]) rfl rfl (fun u hu => by simp at hu; subst hu; exact ⟨_, rfl⟩)
def NextL (w : World) (l : List InsV) (i : Nat) (e : Ending) (w' : World) : Prop := Below w.heap.size w w' ∧ ∃ X, e = .returned X ∧ OutN w.heap.size w' X (nextV l i)
set_option maxRecDepth 100000 in
set_option maxHeartbeats 8000000 in
theorem rnext10_any (A : Option Addr) (n cap : Nat) (P : Value) (l : List InsV) (i : Nat) (w : World) (hn : n = l.length) (h : IsCode w w.heap.size (.slice A n cap) l) (hP : IsNums .i64 w w.heap.size P (placesV l 0)) (hg : Good10 l) (hi : i < n) (hs : n ≤ 4096) :
    Calls Tryz.prog 25 #[.slice A n cap, P, .int .i64 i] w (NextL w l i) := by
  have HC := Lib.hid h
  obtain ⟨b, off, op, a, b1, c, n1, args, YA, Yc, hA, hy, hin, hcc⟩ := code_cells h hn hi
  cases hA
  have HCC := Lib.hid hcc
  obtain ⟨hX, c0, c1, c2, c3, c4, c5⟩ := hcc w (Below.refl _ _)
  have HP := Lib.hid hP
  have HFL := Lib.hid (fun W => rfalls_any op a b1 c n1 (.slice YA args.length Yc) W)
  have HTG := Lib.hid (fun W => rtarget_any op a b1 c n1 (.slice YA args.length Yc) args W)
  rw [← hy] at HTG
  have hfe : fallsV op = flsV (l.getD i .zero) := by rw [hy]; rfl
  rw [hfe] at HFL
  have HNX : Hid (nextV l i = nxV (flsV (l.getD i .zero)) (goalV (placesV l 0) (l.getD i .zero)) i) := Lib.hid rfl
  have HGV : Hid (goalV (placesV l 0) (l.getD i .zero) = if 0 ≤ tgtV (l.getD i .zero) then atV (placesV l 0) (tgtV (l.getD i .zero)) else -1) := Lib.hid rfl
  have HGG : Hid (0 ≤ tgtV (l.getD i .zero) → 0 ≤ goalV (placesV l 0) (l.getD i .zero)) := Lib.hid (hg.goal i (by omega))
  have HLT := Lib.hid (goal_lt (l := l) (n := i))
  have HAT := Lib.hid (fun W hb' => rat_any P (placesV l 0) (tgtV (l.getD i .zero)) W _ (hP.below hb' (Nat.le_refl _)))
  have i0 : (0 : Int) ≤ (i : Int) := by omega
  have i1 : (i : Int) < (n : Int) := by omega
  have i2 : (n : Int) ≤ 4096 := by omega
  obtain ⟨PA, pc, hpe⟩ := hP.len
  have hnl : (placesV l 0).length = n := by rw [placesV_length, hn]
  rw [hnl] at hpe
  subst hpe
  have HLN := Lib.hid hn
  have HBR := Lib.hid (Below.refl w.heap.size w)
  clear hcc hX hin hy hfe hg hP h hn hnl
  unfold NextL
  rw [HNX.out]
  generalize flsV (l.getD i .zero) = fl at *
  generalize tgtV (l.getD i .zero) = t at *
  rw [← HLN.out] at HLT
  generalize goalV (placesV l 0) (l.getD i .zero) = gv at *
  generalize atV (placesV l 0) t = av at *
  by_cases ht : 0 ≤ t
  · have hge := HGG.out ht
    have hgv : gv = av := by have := HGV.out; rw [if_pos ht] at this; exact this
    subst hgv
    obtain ⟨q, rfl⟩ : ∃ q : Nat, gv = q := ⟨gv.toNat, by omega⟩
    have q1 : (q : Int) < (n : Int) := HLT.out
    have htI : ¬ t < 0 := by omega
    clear HNX HGV HGG HLT hge ht
    cases fl with
    | true =>
      by_cases hA : (i : Int) + 1 < (q : Int)
      · have HE : Hid (nxV true (q : Int) i = [(i : Int) + 1] ++ [(q : Int)]) := Lib.hid (by unfold nxV; rw [if_pos rfl, if_neg (by omega), if_pos hA]; rfl)
        go_enter Tryz.func25, Tryz.ntmps25
        go_wp2_with (first
          | (go_at_call 41; (with_reducible refine (HFL.out w).mono ?_); rintro e w5 ⟨rfl, hb⟩; have HB5 := Lib.hid hb; clear hb)
          | (at_builtin; (refine wpList_outN (W := w5) (z := (i : Int) + 1) (base := w.heap.size) (xs := []) rfl (.tmp 15) (.tmp 18) rfl rfl rfl (Owns.nil _ _ _ _ _) HB5.out.size (by simp) ?_; intro V8 w8 ho hb8 _; have ho2 : OutN w.heap.size w8 V8 [(i : Int) + 1] := ho; obtain ⟨vb, vo, vc, hV, -, hvB, hvc⟩ := (IsNums.of_owns ho2 (Nat.le_refl _)).plain (by simp); have hV2 : V8 = .slice (some ⟨vb, vo, none⟩) 1 vc := hV; subst hV2; have HO8 := Lib.hid ho2; have HB8 := Lib.hid (HB5.out.trans hb8); have hz8 : w8.cell? ⟨vb, vo, none⟩ = some (.int .i64 ((i : Int) + 1)) := hvc 0 (by simp); have HZ8 := Lib.hid hz8; have HVB := Lib.hid hvB; obtain ⟨hX5, d0, d1, d2, d3, d4, d5⟩ := HCC.out w8 HB8.out; clear ho ho2 hb8 hX5 hvB hvc hz8 hV))
          | (go_at_call 39; (with_reducible refine (HTG.out w8).mono ?_); rintro e w6 ⟨rfl, hb⟩; have HB6 := Lib.hid (HB8.out.trans (hb.mono HB8.out.size)); have HO6 := Lib.hid (HO8.out.below hb (Nat.le_refl _)); have z0 := (hb.cell (p := ⟨vb, vo, none⟩) HVB.out).trans HZ8.out; clear hb)
          | (go_at_call 40; (with_reducible refine (HAT.out w6 HB6.out).mono ?_); rintro e w7 ⟨rfl, hw⟩; subst hw)
          | (at_builtin; (refine wpList_outN (W := w6) (z := (q : Int)) (base := w.heap.size) (xs := [(i : Int) + 1]) rfl (.tmp 41) (.tmp 43) rfl rfl rfl HO6.out HB6.out.size (by simp) ?_; intro V9 w9 ho hb9 _; have HO9 := Lib.hid ho; have HB9 := Lib.hid (HB6.out.trans hb9); clear ho hb9)))
        go_ret
        exact ⟨HB9.out, _, rfl, by rw [HE.out]; exact HO9.out⟩
      · by_cases hB : (q : Int) = (i : Int) + 1
        · have HE : Hid (nxV true (q : Int) i = [(i : Int) + 1]) := Lib.hid (by unfold nxV; rw [if_pos rfl, if_neg (by omega), if_neg hA, if_pos hB])
          have e1 : ((i : Int) + 1 == (q : Int)) = true := by simp; omega
          clear hB
          go_enter Tryz.func25, Tryz.ntmps25
          go_wp2_with (first
            | (go_at_call 41; (with_reducible refine (HFL.out w).mono ?_); rintro e w5 ⟨rfl, hb⟩; have HB5 := Lib.hid hb; clear hb)
            | (at_builtin; (refine wpList_outN (W := w5) (z := (i : Int) + 1) (base := w.heap.size) (xs := []) rfl (.tmp 15) (.tmp 18) rfl rfl rfl (Owns.nil _ _ _ _ _) HB5.out.size (by simp) ?_; intro V8 w8 ho hb8 _; have ho2 : OutN w.heap.size w8 V8 [(i : Int) + 1] := ho; obtain ⟨vb, vo, vc, hV, -, hvB, hvc⟩ := (IsNums.of_owns ho2 (Nat.le_refl _)).plain (by simp); have hV2 : V8 = .slice (some ⟨vb, vo, none⟩) 1 vc := hV; subst hV2; have HO8 := Lib.hid ho2; have HB8 := Lib.hid (HB5.out.trans hb8); have hz8 : w8.cell? ⟨vb, vo, none⟩ = some (.int .i64 ((i : Int) + 1)) := hvc 0 (by simp); have HZ8 := Lib.hid hz8; have HVB := Lib.hid hvB; obtain ⟨hX5, d0, d1, d2, d3, d4, d5⟩ := HCC.out w8 HB8.out; clear ho ho2 hb8 hX5 hvB hvc hz8 hV))
            | (go_at_call 39; (with_reducible refine (HTG.out w8).mono ?_); rintro e w6 ⟨rfl, hb⟩; have HB6 := Lib.hid (HB8.out.trans (hb.mono HB8.out.size)); have HO6 := Lib.hid (HO8.out.below hb (Nat.le_refl _)); have z0 := (hb.cell (p := ⟨vb, vo, none⟩) HVB.out).trans HZ8.out; clear hb)
            | (go_at_call 40; (with_reducible refine (HAT.out w6 HB6.out).mono ?_); rintro e w7 ⟨rfl, hw⟩; subst hw))
          go_ret
          exact ⟨HB6.out, _, rfl, by rw [HE.out]; exact HO6.out⟩
        · have HE : Hid (nxV true (q : Int) i = [(q : Int)] ++ [(i : Int) + 1]) := Lib.hid (by unfold nxV; rw [if_pos rfl, if_neg (by omega), if_neg hA, if_neg hB]; rfl)
          have e1 : ((i : Int) + 1 == (q : Int)) = false := by simp; omega
          clear hB
          go_enter Tryz.func25, Tryz.ntmps25
          go_wp2_with (first
            | (go_at_call 41; (with_reducible refine (HFL.out w).mono ?_); rintro e w5 ⟨rfl, hb⟩; have HB5 := Lib.hid hb; clear hb)
            | (at_builtin; (refine wpList_outN (W := w5) (z := (i : Int) + 1) (base := w.heap.size) (xs := []) rfl (.tmp 15) (.tmp 18) rfl rfl rfl (Owns.nil _ _ _ _ _) HB5.out.size (by simp) ?_; intro V8 w8 ho hb8 _; have ho2 : OutN w.heap.size w8 V8 [(i : Int) + 1] := ho; obtain ⟨vb, vo, vc, hV, -, hvB, hvc⟩ := (IsNums.of_owns ho2 (Nat.le_refl _)).plain (by simp); have hV2 : V8 = .slice (some ⟨vb, vo, none⟩) 1 vc := hV; subst hV2; have HO8 := Lib.hid ho2; have HB8 := Lib.hid (HB5.out.trans hb8); have hz8 : w8.cell? ⟨vb, vo, none⟩ = some (.int .i64 ((i : Int) + 1)) := hvc 0 (by simp); have HZ8 := Lib.hid hz8; have HVB := Lib.hid hvB; obtain ⟨hX5, d0, d1, d2, d3, d4, d5⟩ := HCC.out w8 HB8.out; clear ho ho2 hb8 hX5 hvB hvc hz8 hV))
            | (go_at_call 39; (with_reducible refine (HTG.out w8).mono ?_); rintro e w6 ⟨rfl, hb⟩; have HB6 := Lib.hid (HB8.out.trans (hb.mono HB8.out.size)); have HO6 := Lib.hid (HO8.out.below hb (Nat.le_refl _)); have z0 := (hb.cell (p := ⟨vb, vo, none⟩) HVB.out).trans HZ8.out; clear hb)
            | (go_at_call 40; (with_reducible refine (HAT.out w6 HB6.out).mono ?_); rintro e w7 ⟨rfl, hw⟩; subst hw)
            | (at_builtin; (refine wpList_outT (W := w6.alloc (.cells #[.int .i64 (q : Int)] 3)) (xs := [(q : Int)]) (ys := [(i : Int) + 1]) (base := w.heap.size) (b2 := w.heap.size) rfl (.tmp 52) (.tmp 53) rfl rfl rfl ((one_new w6 (q : Int)).base HB6.out.size) (HO6.out.alloc _) (by have := HB6.out.size; simp; omega) (by simp) ?_; intro V9 w9 ho hk9; have HO9 := Lib.hid ho; have HB9 := Lib.hid (own_below (HB6.out.alloc HB6.out.size _) ((one_new w6 (q : Int)).base HB6.out.size) hk9 (Nat.le_refl _)); clear ho hk9)))
          go_ret
          exact ⟨HB9.out, _, rfl, by rw [HE.out]; exact HO9.out⟩
    | false =>
      have HE : Hid (nxV false (q : Int) i = [] ++ [(q : Int)]) := Lib.hid (by unfold nxV; rw [if_neg (by simp), if_neg (by omega)]; rfl)
      go_enter Tryz.func25, Tryz.ntmps25
      go_wp2_with (first
        | (go_at_call 41; (with_reducible refine (HFL.out w).mono ?_); rintro e w5 ⟨rfl, hb⟩; have HB5 := Lib.hid hb; obtain ⟨hX5, d0, d1, d2, d3, d4, d5⟩ := HCC.out w5 hb; clear hb hX5)
        | (go_at_call 39; (with_reducible refine (HTG.out w5).mono ?_); rintro e w6 ⟨rfl, hb⟩; have HB6 := Lib.hid (HB5.out.trans (hb.mono HB5.out.size)); clear hb)
        | (go_at_call 40; (with_reducible refine (HAT.out w6 HB6.out).mono ?_); rintro e w7 ⟨rfl, hw⟩; subst hw)
        | (at_builtin; (refine wpList_outN (W := w6) (z := (q : Int)) (base := w.heap.size) (xs := []) rfl (.tmp 41) (.tmp 43) rfl rfl rfl (Owns.nil _ _ _ _ _) HB6.out.size (by simp) ?_; intro V8 w8 ho hb8 _; have HO8 := Lib.hid ho; have HB8 := Lib.hid (HB6.out.trans hb8); clear ho hb8)))
      go_ret
      exact ⟨HB8.out, _, rfl, by rw [HE.out]; exact HO8.out⟩
  · have hgv : gv = -1 := by have := HGV.out; rw [if_neg ht] at this; exact this
    subst hgv
    have htI : t < 0 := by omega
    clear HNX HGV HGG HLT ht
    cases fl with
    | true =>
      have HE : Hid (nxV true (-1) i = [] ++ [(i : Int) + 1]) := Lib.hid rfl
      go_enter Tryz.func25, Tryz.ntmps25
      go_wp2_with (first
        | (go_at_call 41; (with_reducible refine (HFL.out w).mono ?_); rintro e w5 ⟨rfl, hb⟩; have HB5 := Lib.hid hb; clear hb)
        | (at_builtin; (refine wpList_outN (W := w5) (z := (i : Int) + 1) (base := w.heap.size) (xs := []) rfl (.tmp 15) (.tmp 18) rfl rfl rfl (Owns.nil _ _ _ _ _) HB5.out.size (by simp) ?_; intro V8 w8 ho hb8 _; have HO8 := Lib.hid ho; have HB8 := Lib.hid (HB5.out.trans hb8); obtain ⟨hX5, d0, d1, d2, d3, d4, d5⟩ := HCC.out w8 HB8.out; clear ho hb8 hX5))
        | (go_at_call 39; (with_reducible refine (HTG.out w8).mono ?_); rintro e w6 ⟨rfl, hb⟩; have HB6 := Lib.hid (HB8.out.trans (hb.mono HB8.out.size)); have HO6 := Lib.hid (HO8.out.below hb (Nat.le_refl _)); clear hb))
      go_ret
      exact ⟨HB6.out, _, rfl, by rw [HE.out]; exact HO6.out⟩
    | false =>
      have HE : Hid (nxV false (-1) i = []) := Lib.hid rfl
      go_enter Tryz.func25, Tryz.ntmps25
      go_wp2_with (first
        | (go_at_call 41; (with_reducible refine (HFL.out w).mono ?_); rintro e w5 ⟨rfl, hb⟩; have HB5 := Lib.hid hb; obtain ⟨hX5, d0, d1, d2, d3, d4, d5⟩ := HCC.out w5 hb; clear hb hX5)
        | (go_at_call 39; (with_reducible refine (HTG.out w5).mono ?_); rintro e w6 ⟨rfl, hb⟩; have HB6 := Lib.hid (HB5.out.trans (hb.mono HB5.out.size)); clear hb))
      go_ret
      exact ⟨HB6.out, _, rfl, by rw [HE.out]; exact Owns.nil _ _ _ _ _⟩
end Go.Proofs.YtgoedemibdkpdaaGreat
