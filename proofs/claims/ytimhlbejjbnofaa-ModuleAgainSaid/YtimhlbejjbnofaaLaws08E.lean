/- ModuleAgain: what is read of bytes may be, and is put as these. Contract; no condition but that the bytes lie in a row. -/
import Derived.Test.YtimhlbejjbnofaaLaws08C
import Derived.Test.YtimhlbejjbnofaaS14
namespace Go.Proofs.Ytimhlbejjbnofaa
open Go.RowKit Go.Shelf
set_option linter.unusedVariables false
set_option linter.unusedSimpArgs false

theorem getM_bad {b : List Int} (h : (getM b).err ≠ 0) : (getM b).m = ⟨[], []⟩ := by
  unfold getM at h ⊢
  by_cases hl : (lastR b).err = 0
  · rw [if_pos hl] at h; exact absurd rfl h
  · rw [if_neg hl]
theorem get_less {b : List Int} (hb : ∀ x ∈ b, 0 ≤ x ∧ x < 256) (h : (getM b).err = 0) {q : Nat} (hq : b.length = q + 1) : (getM (b.take q)).err ≠ 0 := by
  intro h0
  have hbt : ∀ x ∈ b.take q, 0 ≤ x ∧ x < 256 := fun x hx => hb x (List.mem_of_mem_take hx)
  obtain ⟨_, h1, h2⟩ := put_of hbt h0
  have h3 := get_of h1 (b.drop q)
  rw [h2, List.take_append_drop] at h3
  rw [if_neg (by intro e; have := congrArg List.length e; simp only [List.length_drop, List.length_nil] at this; omega)] at h3
  rw [h3] at h
  exact absurd h (by show ¬ (4 : Int) = 0; decide)
theorem get_more {b : List Int} (hb : ∀ x ∈ b, 0 ≤ x ∧ x < 256) (h : (getM b).err = 0) (x : Int) : getM (b ++ [x]) = ⟨4, b.length, ⟨[], []⟩⟩ := by
  obtain ⟨_, h1, h2⟩ := put_of hb h
  have h3 := get_of h1 [x]
  rw [h2, if_neg (by simp)] at h3
  exact h3
set_option maxRecDepth 100000 in
set_option maxHeartbeats 16000000 in
theorem again8_law (X : Value) (b : List Int) (more : Int) (w : World) (hX : IsBytes w w.heap.size X b) (hmore : 0 ≤ more ∧ more < 256) : Calls Try.prog 7 #[X, .int .u8 more] w (Makes w (.bool true)) := by
  have HXw := Lib.hid (fun W (hb : Below w.heap.size w W) => hX.grow hb)
  have hbd := hX.1
  have hml := hX.2.1
  unfold maxLen at hml
  obtain ⟨A, cap, hXe⟩ := hX.len
  subst hXe
  by_cases h9 : 900 < b.length
  · have h9I : (900 : Int) < (b.length : Int) := by omega
    clear hX
    go_enter Try.func7, Try.ntmps7
    go_wp2_with (go_at_call 10; (with_reducible refine (awake8_any _).mono ?_); rintro e w1 ⟨rfl, hb⟩; have HB1 := Lib.hid hb; clear hb)
    go_ret
    exact ⟨rfl, HB1.out⟩
  have h9I : ¬ (900 : Int) < (b.length : Int) := by omega
  have HG := Lib.hid (fun W (hb : Below w.heap.size w W) => get8_any (.slice A b.length cap) b W (hX.grow hb) (by omega))
  obtain ⟨gb1, gb2⟩ := got_bd hbd
  have HGB := Lib.hid (And.intro gb1 gb2)
  by_cases hz : (getM b).err = 0
  case neg =>
    have hm := getM_bad hz
    obtain ⟨hf1, hf2⟩ := mget_fit b
    have hb0 : ((getM b).err != 0) = true := by simpa using hz
    generalize getM b = g at *
    obtain ⟨z, k, m⟩ := g
    dsimp only at hm
    subst hm
    dsimp only at hb0 hf1 hf2
    clear hX hz gb1 gb2
    go_enter Try.func7, Try.ntmps7
    go_wp2_with (first
      | (go_at_call 10; (with_reducible refine (awake8_any _).mono ?_); rintro e w1 ⟨rfl, hb⟩; have HB1 := Lib.hid hb; clear hb)
      | (go_at_call 22; (with_reducible refine (HG.out _ HB1.out).mono ?_); rintro e w2 ⟨D2, F2, Cs2, rfl, ho, hf⟩; obtain ⟨dA, dc, hde⟩ := owns_len ho.own; subst hde; obtain ⟨fA, fc, hfe⟩ := owns_len hf.own; subst hfe; obtain ⟨hG, hb⟩ := gotB_new (z := z) (k := k) ho (by simp) hf (by simp); have HB2 := Lib.hid (HB1.out.trans (hb.mono HB1.out.size)); obtain ⟨g0, g1, g2, g3⟩ := hG.cells; clear ho hf hG hb))
    go_ret
    exact ⟨by first | rfl | simp, HB2.out⟩
  obtain ⟨ha, hme, hmb⟩ := put_of hbd hz
  have hbl : 1 ≤ b.length := by
    rw [← hmb]
    unfold ModV.bytes
    simp only [List.length_append, show markL.length = 3 from rfl]
    omega
  obtain ⟨q, hq⟩ : ∃ q, b.length = q + 1 := ⟨b.length - 1, by omega⟩
  have HLs := Lib.hid (get_less hbd hz hq)
  have HMr := Lib.hid (get_more hbd hz more)
  have HPre := Lib.hid (fun W (hb : Below w.heap.size w W) => bytes_prefix (k := q) (hX.grow hb) (by omega))
  have HG2 := Lib.hid (fun W (hb : Below w.heap.size w W) => get8_any (.slice A q cap) (b.take q) W (bytes_prefix (k := q) (hX.grow hb) (by omega)) (by simp; omega))
  have HG3 := Lib.hid (fun (V : Value) (W : World) (hV : IsBytes W W.heap.size V (b ++ [more])) => get8_any V (b ++ [more]) W hV (by simp; omega))
  rw [HMr.out] at HG3
  have HG3 : Hid (∀ (V : Value) (W : World), IsBytes W W.heap.size V (b ++ [more]) → Calls Try.prog 22 #[V] W fun e w' => ∃ D F Cs, e = .returned (.tuple #[.agg #[D, F], .agg #[.int .i64 4, .int .i64 b.length]]) ∧ OutB W w' D [] ∧ OwnF 47 0 w' F [] Cs) := HG3
  have HCp := Lib.hid (fun W (hb : Below w.heap.size w W) => copy_any (.slice A b.length cap) b W (hX.grow hb) (by omega))
  have hcap : b.length ≤ cap := by
    rcases hX.2.2 with ⟨he, rfl⟩ | ⟨ad, cap', he, h1, _⟩
    · exact Nat.zero_le _
    · injection he with _ _ e3
      omega
  obtain ⟨h2a, h2b⟩ := got_bd (b := b.take q) (fun x hx => hbd x (List.mem_of_mem_take hx))
  have HGB2 := Lib.hid (And.intro h2a h2b)
  have HBm := Lib.hid (show ∀ x ∈ b ++ [more], 0 ≤ x ∧ x < 256 by
    intro x hx
    rcases List.mem_append.1 hx with hx | hx
    · exact hbd x hx
    · simp at hx; subst hx; exact hmore)
  have hbl2 : getM (b.take q) = getM (b.take q) := rfl
  have HQ := Lib.hid hq
  generalize getM (b.take q) = g2 at *
  obtain ⟨z2, k2, ⟨data2, fs2⟩⟩ := g2
  generalize getM b = g at *
  obtain ⟨z, k, ⟨data, fs⟩⟩ := g
  dsimp only at hz ha hme hmb HGB HGB2 HLs
  subst hz ha
  have HME := Lib.hid hme
  have HMB := Lib.hid hmb
  have hne2 : (z2 != 0) = true := by simpa using HLs.out
  have HPu := Lib.hid (fun (D F : Value) (W : World) hD hF => put_law D F data fs W hD hF)
  have HCk := Lib.hid (fun (D F : Value) (W : World) hD hF => check8_any D F data fs W hD hF)
  have HSB : Hid (∀ (U V : Value) (W : World) (B C : Nat), IsBytes W B U b → IsBytes W C V b → Calls Try.prog 14 #[U, V] W fun e w' => e = .returned (.bool true) ∧ W = w') := Lib.hid (fun U V W B C hU hV => sameBytes_yes U V b W B C hU hV)
  rw [hme] at HPu HCk
  rw [show goodB 0 (ModV.mk data fs).bytes = (ModV.mk data fs).bytes from rfl, hmb] at HPu
  have hE := eqF_yes 4 b.length
  have hA := map_add0 A
  have hsub : IntKind.i64.wrap ((b.length : Int) - 1) = (q : Int) := by rw [IntKind.wrap_i64]; omega
  have q1 : (q : Int) ≤ (cap : Int) := by omega
  have q2 : (q : Int) ≤ (b.length : Int) := by omega
  have q3 : (0 : Int) ≤ (q : Int) := by omega
  have q4 : (1 : Int) ≤ (b.length : Int) := by omega
  have q5 : ¬ (b.length : Int) < 1 := by omega
  have hbl9 : b.length ≤ 900 := by omega
  have HL9 := Lib.hid hbl9
  have HMo := Lib.hid hmore
  have HBd := Lib.hid hbd
  clear hX gb1 gb2 hme hmb hbl hq hcap h2a h2b hbl2 hbl9 h9 hbd hmore
  go_enter Try.func7, Try.ntmps7
  go_wp2_with (first
    | (go_at_call 10; (with_reducible refine (awake8_any _).mono ?_); rintro e w1 ⟨rfl, hb⟩; have HB1 := Lib.hid hb; clear hb)
    | (go_at_call 22; (with_reducible refine (HG.out w1 HB1.out).mono ?_); rintro e w2 ⟨D2, F2, Cs2, rfl, ho, hf⟩; obtain ⟨dA, dc, hde⟩ := owns_len ho.own; subst hde; obtain ⟨fA, fc, hfe⟩ := owns_len hf.own; subst hfe; obtain ⟨hG, hb⟩ := gotB_new (z := 0) (k := 0) ho HGB.out.1 hf HGB.out.2; have HG2b := Lib.hid hG; have HB2 := Lib.hid (HB1.out.trans (hb.mono HB1.out.size)); obtain ⟨g0, g1, g2, g3⟩ := hG.cells; clear ho hf hG hb)
    | (go_at_call 12; (with_reducible refine (HPu.out _ _ _ HG2b.out.dat HG2b.out.funs).mono ?_); rintro e w3 ⟨A3, n3, c3, x3, hn3, hx3, rfl, ho⟩; have HX3 := Lib.hid (named_is hx3.out (outB_is ho (by rw [hx3.out]; exact HBd.out))); have HG3b := Lib.hid (HG2b.out.grow ho.bel); have HB3 := Lib.hid (HB2.out.trans (ho.bel.mono HB2.out.size)); obtain ⟨h0, h1, h2, h3⟩ := HG3b.out.cells; clear ho hn3 hx3)
    | (go_at_call 15; (with_reducible refine (HCk.out _ _ _ HG3b.out.dat HG3b.out.funs).mono ?_); rintro e w4 ⟨rfl, hb⟩; have HX4 := Lib.hid (HX3.out.grow hb); have HB4 := Lib.hid (HB3.out.trans (hb.mono HB3.out.size)); clear hb)
    | (go_at_call 14; (with_reducible refine (HSB.out _ _ _ _ _ HX4.out (HXw.out _ HB4.out)).mono ?_); rintro e w5 ⟨rfl, hw5⟩; subst hw5)
    | (go_at_call 22; (with_reducible refine (HG2.out w4 HB4.out).mono ?_); rintro e w6 ⟨D6, F6, Cs6, rfl, ho, hf⟩; obtain ⟨dA6, dc6, hde⟩ := owns_len ho.own; subst hde; obtain ⟨fA6, fc6, hfe⟩ := owns_len hf.own; subst hfe; obtain ⟨hG, hb⟩ := gotB_new (z := z2) (k := k2) ho HGB2.out.1 hf HGB2.out.2; have HG6b := Lib.hid hG; have HB6 := Lib.hid (HB4.out.trans (hb.mono HB4.out.size)); clear ho hf hG hb)
    | (go_at_call 28; (with_reducible refine (HCp.out _ HB6.out).mono ?_); rintro e w7 ⟨V7, rfl, ho, hb⟩; obtain ⟨vA, vc, hve⟩ := owns_len ho; subst hve; have HO7 := Lib.hid (OutB.mk ho hb); have HG7b := Lib.hid (HG6b.out.grow hb); have HB7 := Lib.hid (HB6.out.trans (hb.mono HB6.out.size)); clear ho hb)
    | (at_builtin; refine wpList_outB1 rfl (.tmp 86) (.tmp 88) rfl rfl rfl rfl HO7.out HMo.out (by have := HL9.out; omega) ?_; intro V8 w8 ho hb; obtain ⟨m8, A8, c8, HM8, rfl, HO8⟩ := ho.name; have HG8b := Lib.hid (HG6b.out.grow HO8.out.bel); have HB8 := Lib.hid (HB6.out.trans (HO8.out.bel.mono HB6.out.size)); have HV8 := Lib.hid (named_is HM8.out (outB_is HO8.out (by rw [HM8.out]; exact HBm.out))); clear ho hb)
    | (go_at_call 22; (with_reducible refine (HG3.out _ w8 HV8.out).mono ?_); rintro e w9 ⟨D9, F9, Cs9, rfl, ho, hf⟩; obtain ⟨dA9, dc9, hde⟩ := owns_len ho.own; have hde : D9 = .slice dA9 0 dc9 := hde; subst hde; obtain ⟨fA9, fc9, hfe⟩ := owns_len hf.own; have hfe : F9 = .slice fA9 0 fc9 := hfe; subst hfe; obtain ⟨hG, hb⟩ := gotB_new (z := 4) (k := b.length) ho (by simp) hf (by simp); have HG9b := Lib.hid (HG8b.out.grow hb); have HB9 := Lib.hid (HB8.out.trans (hb.mono HB8.out.size)); obtain ⟨j0, j1, j2, j3⟩ := hG.cells; obtain ⟨l0, l1, l2, l3⟩ := HG9b.out.cells; clear ho hf hG hb))
  go_ret
  exact ⟨by first | rfl | simp, HB9.out⟩
end Go.Proofs.Ytimhlbejjbnofaa
