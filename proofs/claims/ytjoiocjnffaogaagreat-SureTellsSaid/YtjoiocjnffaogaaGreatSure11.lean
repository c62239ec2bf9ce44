/- The landed Unset, and what layer 11's statements want of the landed code, whole. Contracts; no condition. -/
import Derived.Test.YtjoiocjnffaogaaGreatMask11
import Derived.Test.YtjoiocjnffaogaaGreatLaws11B
import Derived.BigQuiet
import Derived.Deep.QuietTactic
namespace Go.Proofs.YtjoiocjnffaogaaGreat
open Go.RowKit Go.Shelf
set_option linter.unusedVariables false
set_option linter.unusedSimpArgs false

theorem items_len11 (n : Int) (args : List Int) : ∀ (L rs : List Int), (itemsL n args L rs).length ≤ L.length * (args.length + 1) := by
  intro L
  induction L with
  | nil => intro rs; simp [itemsL]
  | cons q qs ih =>
    intro rs
    simp only [itemsL, List.length_append, List.length_map, List.length_cons]
    have h1 := ih (restOf q rs)
    have h2 : (heldOf n args q rs).length ≤ args.length + 1 := by
      unfold heldOf
      split
      · simp
      · split
        · omega
        · simp
    have h3 : (qs.length + 1) * (args.length + 1) = qs.length * (args.length + 1) + (args.length + 1) := by rw [Nat.add_mul]; simp
    omega
theorem items_small11 (op a b c n : Int) {args : List Int} (h : args.length ≤ 8) : (itemsOf (shapeI op) a b c n args).length ≤ 27 := by
  have h1 := items_len11 n args (lettersOf (shapeI op)) [a, b, c]
  have h2 := shapes_small op
  have h3 := letters_len (shapeI op)
  unfold itemsOf
  have h4 : (lettersOf (shapeI op)).length * (args.length + 1) ≤ 3 * 9 := Nat.mul_le_mul (by omega) (by omega)
  omega
theorem and_pow (m r : Nat) : (m &&& 2 ^ r) = if m.testBit r then 2 ^ r else 0 := by
  apply Nat.eq_of_testBit_eq
  intro i
  rw [Nat.testBit_and, Nat.testBit_two_pow]
  by_cases e : r = i
  · subst e
    cases h : m.testBit r <;> simp [h]
  · rw [decide_eq_false e, Bool.and_false]
    split
    · rw [Nat.testBit_two_pow, decide_eq_false e]
    · rw [Nat.zero_testBit]
set_option maxRecDepth 100000 in
set_option maxHeartbeats 16000000 in
theorem unset11_any (V : Value) (l : List InsV) (p : Int) (w : World) (h : IsCode w w.heap.size V l) : Calls Tryz.prog 9 #[V, .int .i64 p] w (UnsetN w l p) := by
  have HC := Lib.hid h
  have HMS := Lib.hid (masks11_any V l p w h)
  obtain ⟨A, cap, rfl⟩ := h.len
  obtain ⟨n, hn⟩ : ∃ n, n = l.length := ⟨_, rfl⟩
  have HN := Lib.hid hn
  rw [← hn] at HC HMS ⊢
  by_cases hp : badP p
  · have HM2 := Lib.hid (HMS.out.mono fun e w' hh => And.intro hh.1 ((hh.2.resolve_right (fun h => by rcases h with h | h <;> exact h.1 hp)).2))
    have HP := Lib.hid hp
    clear h hn hp HMS
    go_enter Tryz.func9, Tryz.ntmps9
    go_wp2_with (go_at_call 7; (with_reducible refine HM2.out.mono ?_); rintro e w1 ⟨hb, rfl⟩; have HB1 := Lib.hid hb; clear hb)
    go_ret3
    exact ⟨HB1.out, .inl ⟨HP.out, rfl⟩⟩
  · have HP := Lib.hid hp
    by_cases h0 : check10 l = 0
    · have hg := good10 h0
      have HM2 := Lib.hid (HMS.out.mono fun e w' hh => And.intro hh.1 (((hh.2.resolve_left (fun h => hp h.1)).resolve_left (fun h => h.2.1 h0)).2.2))
      have H0 := Lib.hid h0
      have HG := Lib.hid hg
      have h4 := short10 h0
      have hsI : (n : Int) ≤ 4096 := by omega
      obtain ⟨pn, hpn⟩ : ∃ pn, pn = p.toNat := ⟨_, rfl⟩
      have HPN := Lib.hid hpn.symm
      rw [← hpn] at HM2
      clear h hn hg h0 HMS hp hpn h4
      go_enter Tryz.func9, Tryz.ntmps9
      go_wp2_with (go_at_call 7; (with_reducible refine HM2.out.mono ?_); rintro e w1 ⟨hb, gb, rfl, hge, hrow⟩; have HB1 := Lib.hid hb; have HR1 := Lib.hid hrow; clear hb hge hrow)
      go_loopw [24] (fun v wr => ∃ a : Nat, a ≤ n ∧ v = .int .i64 a ∧ Hid (Below w1.heap.size w1 wr ∧ SureUpto l pn a)) (fun v _ => n - (intOf v).toNat)
      case atStart => exact ⟨0, by omega, rfl, Below.refl _ _, fun b hb => absurd hb (by omega)⟩
      case round =>
        obtain ⟨a, ha, rfl, HA⟩ := hrel
        obtain ⟨hb, hsu⟩ := HA.out
        have HB := Lib.hid hb
        have HSU := Lib.hid hsu
        have HBW := Lib.hid (HB1.out.trans (hb.mono HB1.out.size))
        clear HA hb hsu
        by_cases hlt : a < n
        · have hal : a < l.length := by rw [← HN.out]; exact hlt
          obtain ⟨cb, co, op, ca, b1, c, n1, args, YA, Yc, hA, hy, hin, hcc⟩ := code_cells HC.out HN.out hlt
          cases hA
          obtain ⟨hX, c0, c1, c2, c3, c4, c5⟩ := hcc wr HBW.out
          have hck := good_chk HG.out hal
          have hbd := rds_bd hck
          have hln := rds_len hck
          have hag := chk_args hck
          rw [hy] at hag
          dsimp only at hag
          have hbox : Below wr.heap.size wr (wr.alloc (.cells (insCells op ca b1 c n1 (.slice YA args.length Yc)) 37)) := (Below.refl _ _).alloc (Nat.le_refl _) _
          have HRD : Hid (Calls Tryz.prog 21 #[.agg (insCells op ca b1 c n1 (.slice YA args.length Yc))] (wr.alloc (.cells (insCells op ca b1 c n1 (.slice YA args.length Yc)) 37)) (ReadsDone (wr.alloc (.cells (insCells op ca b1 c n1 (.slice YA args.length Yc)) 37)) (rdsV (l.getD a .zero)))) := Lib.hid (by
            rw [hy]
            exact reads_any op ca b1 c n1 (.slice YA args.length Yc) args _ ((hX.below hbox (by have := HBW.out.size; omega)).more (by have := hbox.size; have := HBW.out.size; omega)) (by have := items_small11 op ca b1 c n1 hag; omega))
          have HBX := Lib.hid (HB.out.trans (hbox.mono HB.out.size))
          have HBD := Lib.hid hbd
          have HAL := Lib.hid hal
          obtain ⟨xl, hxl⟩ : ∃ xl, xl = (rdsV (l.getD a .zero)).length := ⟨_, rfl⟩
          have HXL := Lib.hid hxl
          have xl3 : (xl : Int) ≤ 11 := by omega
          have k0 : (0 : Int) ≤ (a : Int) := by omega
          have k1 : (a : Int) < (n : Int) := by omega
          have hadd : wrap64 ((a : Int) + 1) = (a : Int) + 1 := by unfold wrap64; omega
          have HLT := Lib.hid hlt
          clear hX hy hin hcc hck hbd hln hag hal hxl hlt hbox
          go_wp2_with (go_at_call 21; (with_reducible refine HRD.out.mono ?_); rintro e w5 ⟨R, rfl, hor, hb⟩; have ho : Owns w5 _ 3 1 (fun _ => True) R (rdsV (l.getD a .zero)).length ((rdsV (l.getD a .zero)).map (Value.int .i64)) := ⟨hor, fun _ _ _ _ _ _ _ _ => trivial⟩; have HB5 := Lib.hid (HBX.out.trans (hb.mono HBX.out.size)); have HR5 := Lib.hid (IsNums.of_owns ho (Nat.le_refl _)); obtain ⟨rA, rc, hre⟩ := owns_len ho; rw [← HXL.out] at hre; subst hre; clear hb ho hor)
          go_loopw [32] (fun v wi => ∃ q : Nat, q ≤ xl ∧ v = .int .i64 q ∧ Hid (Below w5.heap.size w5 wi ∧ ∀ k, k < q → sureB l pn ((rdsV (l.getD a .zero)).getD k 0).toNat a = true)) (fun v _ => xl - (intOf v).toNat)
          case atStart => exact ⟨0, by omega, rfl, Below.refl _ _, fun k hk => absurd hk (by omega)⟩
          case round =>
            obtain ⟨q, hq, rfl, HQ⟩ := hrel
            obtain ⟨hb, hsq⟩ := HQ.out
            have HI := Lib.hid hb
            have HSQ := Lib.hid hsq
            have HI1 := Lib.hid (HB5.out.trans (hb.mono HB5.out.size))
            clear HQ hsq
            by_cases hql : q < xl
            · have q0 : (0 : Int) ≤ (q : Int) := by omega
              have q1 : (q : Int) < (xl : Int) := by omega
              have hadq : wrap64 ((q : Int) + 1) = (q : Int) + 1 := by unfold wrap64; omega
              have hql2 : q < (rdsV (l.getD a .zero)).length := by rw [← HXL.out]; exact hql
              obtain ⟨nb, no, nc, hV, _, _, hnc⟩ := (HR5.out.below hb (Nat.le_refl _)).plain (by rw [← HXL.out]; omega)
              rw [← HXL.out] at hV
              cases hV
              have hx1 := hnc q hql2
              have hmem : (rdsV (l.getD a .zero)).getD q 0 ∈ rdsV (l.getD a .zero) := by
                generalize rdsV (l.getD a .zero) = rs at *
                rw [List.getD, List.getElem?_eq_getElem hql2]
                exact List.getElem_mem hql2
              have hxb := HBD.out _ hmem
              have z1 : wr.cell? ⟨gb, a, none⟩ = some (.int .u64 ((maskV l pn a : Nat) : Int)) := (HR1.out.below HI1.out HR1.out.lt).cell HLT.out
              have HUN : Hid (sureB l pn ((rdsV (l.getD a .zero)).getD q 0).toNat a = false → UnsIs l pn (a : Int) ((rdsV (l.getD a .zero)).getD q 0)) := Lib.hid (fun hf => .inr ⟨a, q, HAL.out, hql2, rfl, rfl, HSU.out, HSQ.out, hf⟩)
              have HNX : Hid (sureB l pn ((rdsV (l.getD a .zero)).getD q 0).toNat a = true → ∀ k, k < q + 1 → sureB l pn ((rdsV (l.getD a .zero)).getD k 0).toNat a = true) := Lib.hid (fun ht k hk => by
                by_cases e : k = q
                · subst e; exact ht
                · exact HSQ.out k (by omega))
              generalize (rdsV (l.getD a .zero)).getD q 0 = x at hx1 hxb HUN HNX
              obtain ⟨xn, rfl⟩ : ∃ xn : Nat, x = xn := ⟨x.toNat, by omega⟩
              rw [Int.toNat_natCast] at HUN HNX
              have y0 : (0 : Int) ≤ (xn : Int) := by omega
              have y1 : (xn : Int) < 64 := hxb.2
              have hbt := and_pow (maskV l pn a) xn
              rw [mask_test l pn a (by omega)] at hbt
              have HBI := Lib.hid (fun W => bit11 xn (by omega) W)
              have he64 : 2 ^ xn < 18446744073709551616 := (show 2 ^ xn < 2 ^ 64 from Nat.pow_lt_pow_right (by decide) (by omega))
              have he0 : 0 < 2 ^ xn := Nat.two_pow_pos xn
              have hand := u64_and_nat (maskV l pn a) (2 ^ xn) (maskV_lt l pn a) he64
              rw [hbt] at hand
              generalize maskV l pn a = mk at *
              generalize 2 ^ xn = e2 at *
              have HQL := Lib.hid hql
              clear hnc hmem hxb hb hql2 he64 hbt hql
              cases hsb : sureB l pn xn a with
              | true =>
                rw [hsb, if_pos rfl] at hand
                have HSN := Lib.hid (HNX.out hsb)
                have e1 : ((e2 : Int) == 0) = false := by simp; omega
                have e3 : (e2 == 0) = false := by simp; omega
                have e4 : ¬ (e2 : Int) = 0 := by omega
                have e5 : ¬ e2 = 0 := by omega
                clear hsb he0
                go_wp2
                go_quiet ((go_at_call 18; with_reducible exact quiet_same (HBI.out _)))
                go_wp2
                go_roundw
                case rel => exact ⟨q + 1, HQL.out, by go_num, below_drewN HI.out _, HSN.out⟩
                case measure => first | exact step_down HQL.out hadq | exact step_down2 HQL.out
              | false =>
                rw [hsb, if_neg (by simp)] at hand
                have HSN := Lib.hid (HUN.out hsb)
                clear hsb he0
                go_wp2
                go_quiet ((go_at_call 18; with_reducible exact quiet_same (HBI.out _)))
                go_wp2
                go_ret3
                refine ⟨HB1.out.trans ((below_drewN HI1.out _).mono HB1.out.size), .inr (.inr ⟨HP.out, H0.out, (a : Int), (xn : Int), rfl, ?_⟩)⟩
                rw [HPN.out]
                exact HSN.out
            · obtain rfl : q = xl := by omega
              have HSN : Hid (SureUpto l pn (a + 1)) := Lib.hid (fun b hb x hx => by
                by_cases e : b = a
                · subst e
                  obtain ⟨i, hi, rfl⟩ := List.getElem_of_mem hx
                  have := HSQ.out i (by rw [HXL.out]; exact hi)
                  rw [List.getD, List.getElem?_eq_getElem hi] at this
                  exact this
                · exact HSU.out b (by omega) x hx)
              clear hb
              go_wp2
              go_roundw
              case rel => exact ⟨a + 1, HLT.out, by go_num, HI1.out, HSN.out⟩
              case measure => first | exact step_down HLT.out hadd | exact step_down2 HLT.out
        · obtain rfl : a = n := by omega
          go_wp2
          go_ret3
          refine ⟨HBW.out, .inr (.inr ⟨HP.out, H0.out, -1, -1, rfl, ?_⟩)⟩
          rw [HPN.out]
          exact .inl ⟨rfl, rfl, by rw [← HN.out]; exact HSU.out⟩
    · have HM2 := Lib.hid (HMS.out.mono fun e w' hh => And.intro hh.1 (((hh.2.resolve_left (fun h => hp h.1)).resolve_right (fun h => h0 h.2.1)).2.2))
      have hne : (check10 l != 0) = true := by simpa using h0
      have H0 := Lib.hid h0
      unfold UnsetN
      generalize check10 l = z at *
      clear h hn h0 hp HMS
      go_enter Tryz.func9, Tryz.ntmps9
      go_wp2_with (go_at_call 7; (with_reducible refine HM2.out.mono ?_); rintro e w1 ⟨hb, rfl⟩; have HB1 := Lib.hid hb; clear hb)
      go_ret3
      exact ⟨HB1.out, .inr (.inl ⟨HP.out, H0.out, rfl⟩)⟩
/-- What layer 11's statements want of the landed code. -/
theorem sure11 : Sure11 := ⟨fun V l p W h _ => masks11_any V l p W h, fun V l p W h _ => unset11_any V l p W h⟩
end Go.Proofs.YtjoiocjnffaogaaGreat
