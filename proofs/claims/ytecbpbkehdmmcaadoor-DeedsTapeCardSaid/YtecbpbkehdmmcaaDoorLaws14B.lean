/- DeedsKnown's call, DeedsNone's call. No condition but that the library's variables hold what its text lays. -/
import Derived.Test.YtecbpbkehdmmcaaDoorLaws14A
namespace Go.Proofs.YtecbpbkehdmmcaaDoor
open Go.RowKit Go.Shelf
set_option linter.unusedVariables false
set_option linter.unusedSimpArgs false

theorem lit_later14 (W W' : World) (cs : Array Value) (n : Nat) (L : List (Int × Int)) (hn : n = L.length) (hc : cs.toList = cellsD L) (hl : L.length ≤ 1000) (hb : Below (W.alloc (.cells cs 60)).heap.size (W.alloc (.cells cs 60)) W') : IsDeeds W' W'.heap.size (.slice (some ⟨W.heap.size, 0, none⟩) n n) L :=
  (lit_deeds14 (heap_alloc_new W _) hn hc hl).grow hb
theorem k1_14 : okO [(1, 7), (2, 255), (1, 8), (1, -1)] 1 3 = true := by decide
theorem k2_14 : strOfNums (textO [(1, 7), (2, 255), (1, 8), (1, -1)] 1 3) = ⟨#[43, 55, 32, 45, 50, 53, 53, 32, 43, 56, 32, 43, 45, 49, 32, 101, 120, 105, 116, 32, 51]⟩ := by decide +kernel
theorem k3_14 : okO [] 3 0 = true := by decide
theorem k4_14 : strOfNums (textO [] 3 0) = ⟨#[115, 116, 97, 99, 107]⟩ := by decide +kernel
theorem k5_14 : errO [(1, -1), (1, 1)] 4 0 = 2 := by decide
theorem k6_14 : errO [(2, -1)] 1 0 = 2 := by decide
theorem k7_14 : beginsO [(1, 7)] [(1, 7), (2, 1)] = true := by decide
theorem k8_14 : sameO [] 1 0 [] 1 1 = false := by decide
set_option maxRecDepth 100000 in
set_option maxHeartbeats 20000000 in
theorem known14 (w : World) (hE : Env14 w) : Calls Tryd.prog 6 #[] w (Makes w (.bool true)) := by
  have H0 := Lib.hid (start14 w)
  have HAW : Hid (∀ W, Below w.heap.size w W → Calls Tryd.prog 11 #[] W (Makes W (.bool true))) := Lib.hid (fun W hb => awake14 W (hE.grow hb))
  have HS1 : Hid (∀ (W : World) (V : Value), Below w.heap.size w W → IsDeeds W W.heap.size V [(1, 7), (2, 255), (1, 8), (1, -1)] → Calls Tryd.prog 34 #[.agg #[V, .int .i64 1, .int .i64 3], .string ⟨#[43, 55, 32, 45, 50, 53, 53, 32, 43, 56, 32, 43, 45, 49, 32, 101, 120, 105, 116, 32, 51]⟩] W (Makes W (.bool true))) := Lib.hid (fun W V hb hV => says14 _ _ 1 3 _ W hV (hE.grow hb) k1_14 k2_14)
  have HS2 : Hid (∀ (W : World), Below w.heap.size w W → Calls Tryd.prog 34 #[.agg #[.slice none 0 0, .int .i64 3, .int .i64 0], .string ⟨#[115, 116, 97, 99, 107]⟩] W (Makes W (.bool true))) := Lib.hid (fun W hb => says14 _ [] 3 0 _ W (IsDeeds.nil _ _) (hE.grow hb) k3_14 k4_14)
  have HC2 : Hid (∀ (W : World) (V : Value), IsDeeds W W.heap.size V [(1, -1), (1, 1)] → Calls Tryd.prog 25 #[.agg #[V, .int .i64 4, .int .i64 0]] W (Makes W (.int .i64 2))) := Lib.hid (fun W V hV => by
    have h := check14 V _ 4 0 W hV
    rw [k5_14] at h
    exact h)
  have HC1 : Hid (∀ (W : World) (V : Value), IsDeeds W W.heap.size V [(2, -1)] → Calls Tryd.prog 25 #[.agg #[V, .int .i64 1, .int .i64 0]] W (Makes W (.int .i64 2))) := Lib.hid (fun W V hV => by
    have h := check14 V _ 1 0 W hV
    rw [k6_14] at h
    exact h)
  have HBG : Hid (∀ (W : World) (V V' : Value), IsDeeds W W.heap.size V [(1, 7)] → IsDeeds W W.heap.size V' [(1, 7), (2, 1)] → Calls Tryd.prog 29 #[.agg #[V, .int .i64 1, .int .i64 0], .agg #[V', .int .i64 4, .int .i64 0]] W (Makes W (.bool true))) := Lib.hid (fun W V V' h1 h2 => by
    have h := begins14 V V' _ _ 1 0 4 0 W h1 h2
    rw [k7_14] at h
    exact h)
  have HSM : Hid (∀ (W : World), Calls Tryd.prog 27 #[.agg #[.slice none 0 0, .int .i64 1, .int .i64 0], .agg #[.slice none 0 0, .int .i64 1, .int .i64 1]] W (Makes W (.bool false))) := Lib.hid (fun W => by
    have h := same14 (.slice none 0 0) (.slice none 0 0) [] [] 1 0 1 1 W (IsDeeds.nil _ _) (IsDeeds.nil _ _)
    rw [k8_14] at h
    exact h)
  have HPU : Hid (∀ (W : World) (tb : Nat) (xs : List Int) (L : List (Int × Int)), Tp14 w W tb xs L → L.length < 100000 → Calls Tryd.prog 14 #[.pointer (some ⟨tb, 0, none⟩), .int .i64 (-1)] W (TpDone w tb (.int .i64 0) xs (L ++ [(2, 255)]))) := Lib.hid (fun W tb xs L h hf => by
    have h2 := tp_put h hf (-1)
    rw [minus_mod14] at h2
    exact h2)
  have HL4 : Hid (∀ W W' : World, Below (W.alloc (.cells #[.int .i64 1, .int .i64 7, .int .i64 2, .int .i64 255, .int .i64 1, .int .i64 8, .int .i64 1, .int .i64 (-1)] 60)).heap.size (W.alloc (.cells #[.int .i64 1, .int .i64 7, .int .i64 2, .int .i64 255, .int .i64 1, .int .i64 8, .int .i64 1, .int .i64 (-1)] 60)) W' → IsDeeds W' W'.heap.size (.slice (some ⟨W.heap.size, 0, none⟩) 4 4) [(1, 7), (2, 255), (1, 8), (1, -1)]) := Lib.hid (fun W W' hb => lit_later14 W W' _ 4 _ rfl rfl (by simp) hb)
  have HL2 : Hid (∀ W W' : World, Below (W.alloc (.cells #[.int .i64 1, .int .i64 (-1), .int .i64 1, .int .i64 1] 60)).heap.size (W.alloc (.cells #[.int .i64 1, .int .i64 (-1), .int .i64 1, .int .i64 1] 60)) W' → IsDeeds W' W'.heap.size (.slice (some ⟨W.heap.size, 0, none⟩) 2 2) [(1, -1), (1, 1)]) := Lib.hid (fun W W' hb => lit_later14 W W' _ 2 _ rfl rfl (by simp) hb)
  have HL1 : Hid (∀ W W' : World, Below (W.alloc (.cells #[.int .i64 2, .int .i64 (-1)] 60)).heap.size (W.alloc (.cells #[.int .i64 2, .int .i64 (-1)] 60)) W' → IsDeeds W' W'.heap.size (.slice (some ⟨W.heap.size, 0, none⟩) 1 1) [(2, -1)]) := Lib.hid (fun W W' hb => lit_later14 W W' _ 1 _ rfl rfl (by simp) hb)
  have HL7 : Hid (∀ W W' : World, Below (W.alloc (.cells #[.int .i64 1, .int .i64 7] 60)).heap.size (W.alloc (.cells #[.int .i64 1, .int .i64 7] 60)) W' → IsDeeds W' W'.heap.size (.slice (some ⟨W.heap.size, 0, none⟩) 1 1) [(1, 7)]) := Lib.hid (fun W W' hb => lit_later14 W W' _ 1 _ rfl rfl (by simp) hb)
  have HL8 : Hid (∀ W W' : World, Below (W.alloc (.cells #[.int .i64 1, .int .i64 7, .int .i64 2, .int .i64 1] 60)).heap.size (W.alloc (.cells #[.int .i64 1, .int .i64 7, .int .i64 2, .int .i64 1] 60)) W' → IsDeeds W' W'.heap.size (.slice (some ⟨W.heap.size, 0, none⟩) 2 2) [(1, 7), (2, 1)]) := Lib.hid (fun W W' hb => lit_later14 W W' _ 2 _ rfl rfl (by simp) hb)
  clear hE
  go_enter Tryd.func6, Tryd.ntmps6
  go_wp2_with (first
    | (go_at_call 10; (with_reducible refine H0.out.mono ?_); rintro e w1 ⟨tb, rfl, ht⟩; have H1 := Lib.hid ht; clear ht)
    | (go_at_call 16; (with_reducible refine (tp_get H1.out (by simp)).mono ?_); rintro e w2 ⟨rfl, ht⟩; have H2 := Lib.hid ht; clear ht H1)
    | (go_at_call 14; (with_reducible refine (HPU.out _ _ _ _ H2.out (by simp)).mono ?_); rintro e w3 ⟨rfl, ht⟩; have H3 := Lib.hid ht; clear ht H2)
    | (go_at_call 16; (with_reducible refine (tp_get H3.out (by simp)).mono ?_); rintro e w4 ⟨rfl, ht⟩; have H4 := Lib.hid ht; clear ht H3)
    | (go_at_call 16; (with_reducible refine (tp_end H4.out (by simp)).mono ?_); rintro e w5 ⟨rfl, ht⟩; have HT : Hid (Tp14 w w5 tb [] [(1, 7), (2, 255), (1, 8), (1, -1)]) := Lib.hid ht; clear ht H4)
    | (go_at_call 32; (with_reducible refine (got14 _ _).mono ?_); rintro e W ⟨rfl, hb⟩; have HC7' := Lib.hid (HC7.out.trans (hb.mono HC7.out.size)); have HT' := Lib.hid (HT.out.grow hb); clear hb HT HC7; have HT := HT'; have HC7 := HC7'; clear HT' HC7')
    | (go_at_call 33; (with_reducible refine (put'14 _ _).mono ?_); rintro e W ⟨rfl, hb⟩; have HC7' := Lib.hid (HC7.out.trans (hb.mono HC7.out.size)); have HT' := Lib.hid (HT.out.grow hb); clear hb HT HC7; have HT := HT'; have HC7 := HC7'; clear HT' HC7')
    | (go_at_call 32; (with_reducible refine (got14 _ _).mono ?_); rintro e W ⟨rfl, hb⟩; have HT' := Lib.hid (HT.out.grow hb); clear hb HT; have HT := HT'; clear HT')
    | (go_at_call 33; (with_reducible refine (put'14 _ _).mono ?_); rintro e W ⟨rfl, hb⟩; have HT' := Lib.hid (HT.out.grow hb); clear hb HT; have HT := HT'; clear HT')
    | (go_at_call 18; (with_reducible refine (tp_deeds (HT.out.grow (below_one14 _ _))).mono ?_); rintro e W ⟨v, rfl, ho, hb⟩; have HV := Lib.hid (IsDeeds.of_owns ho (Nat.le_refl _)); have HLL := Lib.hid (HL4.out _ _ hb); have HT' := Lib.hid ((HT.out.grow (below_one14 _ _)).grow hb); clear ho hb HT; have HT := HT'; clear HT')
    | (go_at_call 19; (with_reducible refine (sameD_yes _ _ _ _ _ _ HV.out HLL.out).mono ?_); rintro e W ⟨rfl, hw⟩; obtain ⟨q, hw⟩ := hw; have HLL' := Lib.hid (HLL.out.grow (below_drewN14 hw)); have HT' := Lib.hid (HT.out.grow (below_drewN14 hw)); clear hw HT HV HLL; have HT := HT'; have HLL := HLL'; clear HT' HLL')
    | (go_at_call 20; (with_reducible refine (tp_left HT.out).mono ?_); rintro e w' ⟨rfl, rfl⟩)
    | (go_at_call 35; (with_reducible refine (of14 1 3 _ _ _ _).mono ?_); rintro e W ⟨rfl, hb⟩; have HLL' := Lib.hid (HLL.out.grow hb); have HT' := Lib.hid (HT.out.grow hb); clear hb HT HLL; have HT := HT'; have HLL := HLL'; clear HT' HLL')
    | (go_at_call 34; (with_reducible refine (HS1.out _ _ HT.out.bel HLL.out).mono ?_); rintro e W ⟨rfl, hb⟩; have HT' := Lib.hid (HT.out.grow hb); clear hb HT HLL; have HT := HT'; clear HT')
    | (go_at_call 34; (with_reducible refine (HS2.out _ HT.out.bel).mono ?_); rintro e W ⟨rfl, hb⟩; have HT' := Lib.hid (HT.out.grow hb); clear hb HT; have HT := HT'; clear HT')
    | (go_at_call 35; (with_reducible refine (of14 _ _ _ _ _ _).mono ?_); rintro e W ⟨rfl, hb⟩; have HCK := Lib.hid (HL2.out _ _ hb); have HT' := Lib.hid ((HT.out.grow (below_one14 _ _)).grow hb); clear hb HT; have HT := HT'; clear HT')
    | (go_at_call 35; (with_reducible refine (of14 _ _ _ _ _ _).mono ?_); rintro e W ⟨rfl, hb⟩; have HCK := Lib.hid (HL1.out _ _ hb); have HT' := Lib.hid ((HT.out.grow (below_one14 _ _)).grow hb); clear hb HT; have HT := HT'; clear HT')
    | (go_at_call 25; (with_reducible refine (HC2.out _ _ HCK.out).mono ?_); rintro e W ⟨rfl, hb⟩; have HT' := Lib.hid (HT.out.grow hb); clear hb HT HCK; have HT := HT'; clear HT')
    | (go_at_call 25; (with_reducible refine (HC1.out _ _ HCK.out).mono ?_); rintro e W ⟨rfl, hb⟩; have HT' := Lib.hid (HT.out.grow hb); clear hb HT HCK; have HT := HT'; clear HT')
    | (go_at_call 11; (with_reducible refine (HAW.out _ HT.out.bel).mono ?_); rintro e W ⟨rfl, hb⟩; have HT' := Lib.hid (HT.out.grow hb); clear hb HT; have HT := HT'; clear HT')
    | (go_at_call 35; (with_reducible refine (of14 _ _ _ _ _ _).mono ?_); rintro e W ⟨rfl, hb⟩; have HI8 := Lib.hid (HL8.out _ _ hb); have HI7 := Lib.hid (HL7.out _ _ ((HC7.out.trans ((below_one14 _ _).mono HC7.out.size)).trans (hb.mono (Nat.le_trans HC7.out.size (below_one14 _ _).size)))); have HT' := Lib.hid ((HT.out.grow (below_one14 _ _)).grow hb); clear hb HT HC7; have HT := HT'; clear HT')
    | (go_at_call 35; (with_reducible refine (of14 _ _ _ _ _ _).mono ?_); rintro e W ⟨rfl, hb⟩; have HX7 := Lib.hid (HL7.out _ _ hb); have HC7 := Lib.hid hb; have HT' := Lib.hid ((HT.out.grow (below_one14 _ _)).grow hb); clear hb HT HX7; have HT := HT'; clear HT')
    | (go_at_call 29; (with_reducible refine (HBG.out _ _ _ HI7.out HI8.out).mono ?_); rintro e W ⟨rfl, hb⟩; have HT' := Lib.hid (HT.out.grow hb); clear hb HT HI7 HI8; have HT := HT'; clear HT')
    | (go_at_call 35; (with_reducible refine (of14 _ _ _ _ _ _).mono ?_); rintro e W ⟨rfl, hb⟩; have HT' := Lib.hid (HT.out.grow hb); clear hb HT; have HT := HT'; clear HT')
    | (go_at_call 27; (with_reducible refine (HSM.out _).mono ?_); rintro e W ⟨rfl, hb⟩; have HT' := Lib.hid (HT.out.grow hb); clear hb HT; have HT := HT'; clear HT'))
  go_ret
  exact ⟨rfl, HT.out.bel⟩
theorem eqlP_nil14 (w : World) : (binOp .neq 26 (.pointer none) (.pointer none)).run Tryd.prog w = .ok (.bool false) w := by go_simp
set_option maxRecDepth 100000 in
set_option maxHeartbeats 4000000 in
theorem none14 (b : Int) (w : World) (hE : Env14 w) : Calls Tryd.prog 5 #[.int .i64 b] w (Makes w (.bool true)) := by
  obtain ⟨W0, hW0⟩ : ∃ W0, W0 = (w.alloc (.cells #[.pointer none, .slice none 0 0, .slice none 0 0] 55)).alloc (.cells #[.pointer none, .pointer (some ⟨w.heap.size, 0, none⟩)] 26) := ⟨_, rfl⟩
  obtain ⟨hB, h0, h1⟩ := two_alloc14 w #[.pointer none, .slice none 0 0, .slice none 0 0] #[.pointer none, .pointer (some ⟨w.heap.size, 0, none⟩)] 55 26
  rw [← hW0] at hB h0 h1
  have HAW := Lib.hid (awake14 W0 (hE.grow hB))
  have HB := Lib.hid hB
  have HN0 : Hid (NoTape W0 (.pointer none)) := Lib.hid (.inl rfl)
  have HN1 : Hid (NoTape W0 (.pointer (some ⟨w.heap.size, 0, none⟩))) := Lib.hid (.inr ⟨_, _, _, rfl, h0⟩)
  obtain ⟨c0, c1⟩ := cells2_14 h1
  have HW := Lib.hid hW0
  have hp := eqlP_nil14
  clear hE h0 h1 hB hW0
  go_enter Tryd.func5, Tryd.ntmps5
  go_wp2
  rw [← HW.out]
  go_loopw [4, 5, 6, 7] (fun v4 _ _ _ wr => ∃ i : Nat, v4 = .int .i64 i ∧ i ≤ 2 ∧ wr = W0) (fun v4 _ _ _ _ => 2 - (intOf v4).toNat)
  case atStart => exact ⟨0, rfl, by omega, rfl⟩
  case round =>
    obtain ⟨i, rfl, hi, rfl⟩ := hrel
    rcases (show i = 0 ∨ i = 1 ∨ i = 2 by omega) with rfl | rfl | rfl
    · go_wp2_with (first
        | (go_at_call 16; (with_reducible refine (getNo14 HN0.out).mono ?_); rintro e w' ⟨rfl, rfl⟩)
        | (go_at_call 14; (with_reducible refine (putNo14 HN0.out _).mono ?_); rintro e w' ⟨rfl, rfl⟩)
        | (go_at_call 18; (with_reducible refine (deedsNo14 HN0.out).mono ?_); rintro e w' ⟨rfl, rfl⟩)
        | (go_at_call 20; (with_reducible refine (leftNo14 HN0.out).mono ?_); rintro e w' ⟨rfl, rfl⟩)
        | (go_at_call 31; (with_reducible refine (copyNo14 HN0.out).mono ?_); rintro e w' ⟨rfl, rfl⟩))
      go_roundw
      case rel => exact ⟨1, by go_num, by omega, by first | rfl | trivial⟩
      case measure => simp [intOf]
    · go_wp2_with (first
        | (go_at_call 16; (with_reducible refine (getNo14 HN1.out).mono ?_); rintro e w' ⟨rfl, rfl⟩)
        | (go_at_call 14; (with_reducible refine (putNo14 HN1.out _).mono ?_); rintro e w' ⟨rfl, rfl⟩)
        | (go_at_call 18; (with_reducible refine (deedsNo14 HN1.out).mono ?_); rintro e w' ⟨rfl, rfl⟩)
        | (go_at_call 20; (with_reducible refine (leftNo14 HN1.out).mono ?_); rintro e w' ⟨rfl, rfl⟩)
        | (go_at_call 31; (with_reducible refine (copyNo14 HN1.out).mono ?_); rintro e w' ⟨rfl, rfl⟩))
      go_roundw
      case rel => exact ⟨2, by go_num, by omega, by first | rfl | trivial⟩
      case measure => simp [intOf]
    · go_wp2_with (go_at_call 11; (with_reducible refine HAW.out.mono ?_); rintro e w1 ⟨rfl, hb⟩; have HB1 := Lib.hid (HB.out.trans (hb.mono HB.out.size)); clear hb)
      go_ret
      exact ⟨rfl, HB1.out⟩
end Go.Proofs.YtecbpbkehdmmcaaDoor
