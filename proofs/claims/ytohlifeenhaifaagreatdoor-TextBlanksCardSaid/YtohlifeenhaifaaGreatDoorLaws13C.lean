/- TextBlanks' call: the wider text byte by byte, what is read of both. No condition but that the numbers handed in are numbers. -/
import Derived.Test.YtohlifeenhaifaaGreatDoorLaws13A
import Derived.Test.YtohlifeenhaifaaGreatDoorMath13P
import Derived.Laws.Concat
import Derived.BigQuiet
import Derived.LoopTactic
import Derived.Deep.CutRange
import Derived.Deep.RegionHeld3
namespace Go.Proofs.YtohlifeenhaifaaGreatDoor
open Go.RowKit Go.Shelf
set_option linter.unusedVariables false
set_option linter.unusedSimpArgs false

theorem letters_app (a b : ByteArray) : lettersOf (a ++ b) = lettersOf a ++ lettersOf b := by
  unfold lettersOf
  simp
/-- One byte of a text. -/
theorem letters_one (s : ByteArray) {k : Nat} (h : k < s.size) : lettersOf (s.extract k (k + 1)) = [(s[k].toNat : Int)] := by
  have h1 : (lettersOf (s.extract k (k + 1))) = ((lettersOf s).drop k).take 1 := by
    unfold lettersOf
    rw [ByteArray.data_extract, Array.toList_extract]
    simp [List.extract_eq_take_drop, List.map_drop, List.map_take]
  rw [h1, letters_drop s h]
  rfl
theorem one_size (s : ByteArray) {k : Nat} (h : k < s.size) : (s.extract k (k + 1)).size = 1 := by
  have := congrArg List.length (letters_one s h)
  rw [letters_len] at this
  simpa using this
/-- How a line is made wider. -/
def nsB (zs : List Int) (k : Nat) : Int := if k < zs.length then (zs.getD k 0).tmod 5 else 0
theorem wide_step {ns : Nat → Int} {s wd : ByteArray} {k i : Nat} {f : Bool} {T : List Int} (hi : i < s.size) (h : lettersOf wd ++ wideG ns k f ((lettersOf s).drop i) = T) :
    (lettersOf wd ++ emitW (ns k) f (s[i].toNat : Int)) ++ wideG ns (if (s[i].toNat : Int) = 10 then k + 1 else k) (decide ((s[i].toNat : Int) = 10)) ((lettersOf s).drop (i + 1)) = T := by
  rw [letters_drop s hi] at h
  simp only [wideG] at h
  rw [List.append_assoc]
  exact h
theorem blanks_get (ns : Nat → Int) {s wd : ByteArray} {k i : Nat} {f : Bool} (hs : s.size ≤ 2000) (hi : i = s.size) (h : lettersOf wd ++ wideG ns k f ((lettersOf s).drop i) = wideG ns 0 true (lettersOf s)) :
    (got13 (lettersOf wd)).err = (got13 (lettersOf s)).err ∧ (got13 (lettersOf wd)).m = (got13 (lettersOf s)).m := by
  subst hi
  rw [letters_end] at h
  simp only [wideG, List.append_nil] at h
  have h2 := wide_getS ns (lettersOf s) (by rw [letters_len]; exact hs)
  rw [← h] at h2
  unfold getS at h2
  simp only [Prod.mk.injEq] at h2
  exact ⟨h2.2, h2.1⟩
/-- What is read of both. -/
theorem blanks_two (ns : Nat → Int) {s wd : ByteArray} {k i : Nat} {f : Bool} (hs : s.size ≤ 2000) (hi : i = s.size) (h : lettersOf wd ++ wideG ns k f ((lettersOf s).drop i) = wideG ns 0 true (lettersOf s)) :
    ∃ (er : Int) (a1 a2 : Int) (md : ModV), got13 (lettersOf s) = ⟨er, a1, md⟩ ∧ got13 (lettersOf wd) = ⟨er, a2, md⟩ := by
  obtain ⟨h1, h2⟩ := blanks_get ns hs hi h
  refine ⟨(got13 (lettersOf s)).err, (got13 (lettersOf s)).at_, (got13 (lettersOf wd)).at_, (got13 (lettersOf s)).m, rfl, ?_⟩
  rw [← h1, ← h2]
set_option maxRecDepth 100000 in
set_option maxHeartbeats 20000000 in
theorem blanks13_any (s : ByteArray) (V : Value) (zs : List Int) (w : World) (hE : Env13 w) (hZ : IsNums .i64 w w.heap.size V zs) : Calls Tryz.prog 7 #[.string s, V] w (Makes w (.bool true)) := by
  obtain ⟨ZA, zc, rfl⟩ := hZ.len
  have HAW := Lib.hid (fun W (hb : Below w.heap.size w W) => awake13_any W (hE.grow hb))
  have HGet := Lib.hid (fun (x : ByteArray) W (hb : Below w.heap.size w W) => get13_any x W (hE.grow hb))
  have HZ := Lib.hid (fun W (hb : Below w.heap.size w W) => hZ.below hb (Nat.le_refl _))
  obtain ⟨m, hm⟩ : ∃ m, m = zs.length := ⟨_, rfl⟩
  have HM := Lib.hid hm
  rw [← hm] at HZ
  rw [← hm]
  clear hE hZ hm
  by_cases h1 : 2000 < s.size
  · have h1i : (2000 : Int) < (s.size : Int) := by omega
    go_enter Tryz.func7, Tryz.ntmps7
    go_wp2_with (go_at_call 9; (with_reducible refine (HAW.out _ (Below.refl _ w)).mono ?_); rintro e w1 ⟨rfl, hb⟩; have HB1 := Lib.hid hb; clear hb)
    go_ret
    exact ⟨rfl, HB1.out⟩
  by_cases h2 : 200 < m
  · have h1i : ¬ (2000 : Int) < (s.size : Int) := by omega
    have h2i : (200 : Int) < (m : Int) := by omega
    go_enter Tryz.func7, Tryz.ntmps7
    go_wp2_with (go_at_call 9; (with_reducible refine (HAW.out _ (Below.refl _ w)).mono ?_); rintro e w1 ⟨rfl, hb⟩; have HB1 := Lib.hid hb; clear hb)
    go_ret
    exact ⟨rfl, HB1.out⟩
  have h1i : ¬ (2000 : Int) < (s.size : Int) := by omega
  have h2i : ¬ (200 : Int) < (m : Int) := by omega
  have HS := Lib.hid (show s.size ≤ 2000 by omega)
  have HMB := Lib.hid (show m ≤ 200 by omega)
  obtain ⟨ns, hns⟩ : ∃ ns, ns = nsB zs := ⟨_, rfl⟩
  have HNS := Lib.hid hns
  clear h1 h2 hns
  go_enter Tryz.func7, Tryz.ntmps7
  go_wp2_with (go_at_call 9; (with_reducible refine (HAW.out _ (Below.refl _ w)).mono ?_); rintro e w1 ⟨rfl, hb⟩; have HB1 := Lib.hid hb; clear hb)
  clear h1i h2i
  go_loopw [6, 7, 8, 9, 10] (fun v6 v7 v8 v9 _ wr => ∃ (i k : Nat) (f : Bool) (wd : ByteArray), i ≤ s.size ∧ v6 = .string wd ∧ v7 = .int .i64 k ∧ v8 = .bool f ∧ v9 = .int .i64 i ∧ wr = w1 ∧ Hid (wd.size ≤ 15 * i ∧ k ≤ i ∧ lettersOf wd ++ wideG ns k f ((lettersOf s).drop i) = wideG ns 0 true (lettersOf s))) (fun _ _ _ v9 _ _ => s.size - (intOf v9).toNat)
  case atStart => exact ⟨0, 0, true, ByteArray.empty, by omega, rfl, rfl, rfl, rfl, rfl, Lib.hid ⟨by simp, by omega, rfl⟩⟩
  case round =>
    obtain ⟨i, k, f, wd, hi, rfl, rfl, rfl, rfl, rfl, HR⟩ := hrel
    by_cases hlt : i < s.size
    · have i0 : (0 : Int) ≤ (i : Int) := by omega
      have k0 : (0 : Int) ≤ (k : Int) := by omega
      obtain ⟨n, hn⟩ : ∃ n, n = ns k := ⟨_, rfl⟩
      obtain ⟨c, hc⟩ : ∃ c, c = (s[i].toNat : Int) := ⟨_, rfl⟩
      have HST := Lib.hid (wide_step (ns := ns) hlt HR.out.2.2)
      rw [← hn, ← hc] at HST
      have HN := Lib.hid (show n = nsB zs k by rw [hn, HNS.out])
      have HC := Lib.hid hc
      have HSZ := Lib.hid (show wd.size ≤ 30000 by have h1 := HR.out.1; have h2 := HS.out; omega)
      have HKI := Lib.hid (show k ≤ i from HR.out.2.1)
      have HW0 := Lib.hid HR.out.1
      clear hn hc HR
      go_upto_if 34 with fail
      go_cut [10] from 25 to 88 (fun s10 wx => s10 = .int .i64 n ∧ wx = wr)
      case first =>
        by_cases hk : k < m
        · obtain ⟨zb, zo, zc', hV, _, _, hz⟩ := (HZ.out wr HB1.out).plain (by rw [← HM.out]; omega)
          have hA : ZA = some ⟨zb, zo, none⟩ := by injection hV
          subst hA
          have z1 := hz k (by rw [← HM.out]; exact hk)
          have hn2 := HN.out
          unfold nsB at hn2
          rw [if_pos (by rw [← HM.out]; exact hk)] at hn2
          generalize zs.getD k 0 = z at *
          clear hz hV
          go_wp2
          go_meet
          case rel => exact ⟨by rw [hn2], rfl⟩
        · have hn2 := HN.out
          unfold nsB at hn2
          rw [if_neg (by rw [← HM.out]; exact hk)] at hn2
          go_wp2
          go_meet
          case rel => exact ⟨by rw [hn2], rfl⟩
      case rest =>
        obtain ⟨rfl, hw⟩ := hcut
        have hw2 := hw.symm
        subst hw2
        have HB2 := Lib.hid HB1.out
        clear HZ HM HN
        obtain ⟨c1, hc1⟩ : ∃ b : Bool, b = decide (f = true ∧ (n = 1 ∨ n = 4)) := ⟨_, rfl⟩
        obtain ⟨c2, hc2⟩ : ∃ b : Bool, b = decide (f = true ∧ n = 2) := ⟨_, rfl⟩
        obtain ⟨c3, hc3⟩ : ∃ b : Bool, b = decide (c = 32 ∧ n = 3) := ⟨_, rfl⟩
        obtain ⟨c4, hc4⟩ : ∃ b : Bool, b = decide (c = 10 ∧ n = 4) := ⟨_, rfl⟩
        have C1 := Lib.hid hc1
        have C2 := Lib.hid hc2
        have C3 := Lib.hid hc3
        have C4 := Lib.hid hc4
        clear hc1 hc2 hc3 hc4
        go_upto_region 11 with fail
        go_cut [48] from 25 to 88 (fun s48 wx => s48 = .bool c1 ∧ wx = wr)
        case first =>
          have h1 := C1.out
          clear C1
          cases f
          · go_wp2
            go_meet
            case rel => exact ⟨by rw [h1]; simp, rfl⟩
          · by_cases e1 : n = 1
            · subst e1
              go_wp2
              go_meet
              case rel => exact ⟨by rw [h1]; simp, rfl⟩
            · have e1b : (n == 1) = false := by simp [e1]
              by_cases e4 : n = 4
              · subst e4
                go_wp2
                go_meet
                case rel => exact ⟨by rw [h1]; simp, rfl⟩
              · have e4b : (n == 4) = false := by simp [e4]
                go_wp2
                go_meet
                case rel => exact ⟨by rw [h1]; simp [e1, e4], rfl⟩
        case rest =>
          obtain ⟨rfl, hw⟩ := hcut
          have hw2 := hw.symm
          subst hw2
          go_upto_if 48 with fail
          go_cut [6] from 25 to 88 (fun s6 wx => (∃ wd1 : ByteArray, s6 = .string wd1 ∧ Hid (wd1.size ≤ wd.size + 2 ∧ lettersOf wd1 = lettersOf wd ++ (if f = true ∧ (n = 1 ∨ n = 4) then [32, 9] else []))) ∧ wx = wr)
          case first =>
            have h1 := C1.out
            have hs2 : ¬ (9223372036854775807 : Int) < (wd.size : Int) + 2 := by have := HSZ.out; omega
            cases c1
            · have H2 := Lib.hid (of_decide_eq_false h1.symm)
              clear h1
              go_wp2
              go_meet
              case rel => exact ⟨⟨wd, rfl, Lib.hid ⟨by omega, by rw [if_neg H2.out]; simp⟩⟩, rfl⟩
            · have H2 := Lib.hid (of_decide_eq_true h1.symm)
              clear h1
              go_wp2
              go_meet
              case rel => exact ⟨⟨_, rfl, Lib.hid ⟨by rw [ByteArray.size_append]; exact Nat.le_refl _, by rw [letters_app, if_pos H2.out]; rfl⟩⟩, rfl⟩
          case rest =>
            obtain ⟨⟨wd1, rfl, HW1⟩, hw⟩ := hcut
            have hw2 := hw.symm
            subst hw2
            clear C1
            go_upto_region 13 with fail
            go_cut [55] from 25 to 88 (fun s55 wx => s55 = .bool c2 ∧ wx = wr)
            case first =>
              have h1 := C2.out
              clear C2
              cases f
              · go_wp2
                go_meet
                case rel => exact ⟨by rw [h1]; simp, rfl⟩
              · by_cases e2 : n = 2
                · subst e2
                  go_wp2
                  go_meet
                  case rel => exact ⟨by rw [h1]; simp, rfl⟩
                · have e2b : (n == 2) = false := by simp [e2]
                  go_wp2
                  go_meet
                  case rel => exact ⟨by rw [h1]; simp [e2], rfl⟩
            case rest =>
              obtain ⟨rfl, hw⟩ := hcut
              have hw2 := hw.symm
              subst hw2
              go_upto_if 55 with fail
              go_cut [6] from 25 to 88 (fun s6 wx => (∃ wd2 : ByteArray, s6 = .string wd2 ∧ Hid (wd2.size ≤ wd1.size + 7 ∧ lettersOf wd2 = lettersOf wd1 ++ (if f = true ∧ n = 2 then [35, 32, 97, 100, 100, 10, 10] else []))) ∧ wx = wr)
              case first =>
                have h1 := C2.out
                have hs2 : ¬ (9223372036854775807 : Int) < (wd1.size : Int) + 7 := by have := HSZ.out; have := HW1.out.1; omega
                cases c2
                · have H2 := Lib.hid (of_decide_eq_false h1.symm)
                  clear h1
                  go_wp2
                  go_meet
                  case rel => exact ⟨⟨wd1, rfl, Lib.hid ⟨by omega, by rw [if_neg H2.out]; simp⟩⟩, rfl⟩
                · have H2 := Lib.hid (of_decide_eq_true h1.symm)
                  clear h1
                  go_wp2
                  go_meet
                  case rel => exact ⟨⟨_, rfl, Lib.hid ⟨by rw [ByteArray.size_append]; exact Nat.le_refl _, by rw [letters_app, if_pos H2.out]; rfl⟩⟩, rfl⟩
              case rest =>
                obtain ⟨⟨wd2, rfl, HW2⟩, hw⟩ := hcut
                have hw2 := hw.symm
                subst hw2
                clear C2
                go_upto_region 15 with fail
                go_cut [8] from 25 to 88 (fun s8 wx => s8 = .bool (decide (c = 10)) ∧ wx = wr)
                case first =>
                  have h1 := HC.out
                  by_cases e : c = 10
                  · have e2 : (s[i].toNat : Int) = 10 := by rw [← h1]; exact e
                    have e3 : ((s[i].toNat : Int) == 10) = true := by rw [e2]; rfl
                    go_wp2
                    go_meet
                    case rel => exact ⟨by rw [decide_eq_true e], rfl⟩
                  · have e2 : ¬ (s[i].toNat : Int) = 10 := by rw [← h1]; exact e
                    have e3 : ((s[i].toNat : Int) == 10) = false := by simpa using e2
                    go_wp2
                    go_meet
                    case rel => exact ⟨by rw [decide_eq_false e], rfl⟩
                case rest =>
                  obtain ⟨rfl, hw⟩ := hcut
                  have hw2 := hw.symm
                  subst hw2
                  obtain ⟨f2, hf2⟩ : ∃ b : Bool, b = decide (c = 10) := ⟨_, rfl⟩
                  have HF2 := Lib.hid hf2
                  rw [← hf2]
                  clear hf2
                  go_upto_region 16 with fail
                  go_cut [69] from 25 to 88 (fun s69 wx => s69 = .bool c3 ∧ wx = wr)
                  case first =>
                    have h1 := HC.out
                    have h3 := C3.out
                    clear C3
                    by_cases e : c = 32
                    · have e2 : (s[i].toNat : Int) = 32 := by rw [← h1]; exact e
                      have e3 : ((s[i].toNat : Int) == 32) = true := by rw [e2]; rfl
                      by_cases en : n = 3
                      · subst en
                        go_wp2
                        go_meet
                        case rel => exact ⟨by rw [h3]; simp [e], rfl⟩
                      · have enb : (n == 3) = false := by simp [en]
                        go_wp2
                        go_meet
                        case rel => exact ⟨by rw [h3]; simp [en], rfl⟩
                    · have e2 : ¬ (s[i].toNat : Int) = 32 := by rw [← h1]; exact e
                      have e3 : ((s[i].toNat : Int) == 32) = false := by simpa using e2
                      go_wp2
                      go_meet
                      case rel => exact ⟨by rw [h3]; simp [e], rfl⟩
                  case rest =>
                    obtain ⟨rfl, hw⟩ := hcut
                    have hw2 := hw.symm
                    subst hw2
                    go_upto_if 69 with fail
                    go_cut [6] from 25 to 88 (fun s6 wx => (∃ wd3 : ByteArray, s6 = .string wd3 ∧ Hid (wd3.size ≤ wd2.size + 2 ∧ lettersOf wd3 = lettersOf wd2 ++ (if c = 32 ∧ n = 3 then [9, 32] else []))) ∧ wx = wr)
                    case first =>
                      have h1 := C3.out
                      have hs2 : ¬ (9223372036854775807 : Int) < (wd2.size : Int) + 2 := by have := HSZ.out; have := HW1.out.1; have := HW2.out.1; omega
                      cases c3
                      · have H2 := Lib.hid (of_decide_eq_false h1.symm)
                        clear h1
                        go_wp2
                        go_meet
                        case rel => exact ⟨⟨wd2, rfl, Lib.hid ⟨by omega, by rw [if_neg H2.out]; simp⟩⟩, rfl⟩
                      · have H2 := Lib.hid (of_decide_eq_true h1.symm)
                        clear h1
                        go_wp2
                        go_meet
                        case rel => exact ⟨⟨_, rfl, Lib.hid ⟨by rw [ByteArray.size_append]; exact Nat.le_refl _, by rw [letters_app, if_pos H2.out]; rfl⟩⟩, rfl⟩
                    case rest =>
                      obtain ⟨⟨wd3, rfl, HW3⟩, hw⟩ := hcut
                      have hw2 := hw.symm
                      subst hw2
                      clear C3
                      go_upto_region 18 with fail
                      go_cut [76] from 25 to 88 (fun s76 wx => s76 = .bool c4 ∧ wx = wr)
                      case first =>
                        have h4 := C4.out
                        have h5 := HF2.out
                        clear C4
                        cases f2
                        · have e := of_decide_eq_false h5.symm
                          clear h5
                          go_wp2
                          go_meet
                          case rel => exact ⟨by rw [h4]; simp [e], rfl⟩
                        · have e := of_decide_eq_true h5.symm
                          clear h5
                          by_cases en : n = 4
                          · subst en
                            go_wp2
                            go_meet
                            case rel => exact ⟨by rw [h4]; simp [e], rfl⟩
                          · have enb : (n == 4) = false := by simp [en]
                            go_wp2
                            go_meet
                            case rel => exact ⟨by rw [h4]; simp [en], rfl⟩
                      case rest =>
                        obtain ⟨rfl, hw⟩ := hcut
                        have hw2 := hw.symm
                        subst hw2
                        go_upto_if 76 with fail
                        go_cut [6] from 25 to 88 (fun s6 wx => (∃ wd4 : ByteArray, s6 = .string wd4 ∧ Hid (wd4.size ≤ wd3.size + 3 ∧ lettersOf wd4 = lettersOf wd3 ++ (if c = 10 ∧ n = 4 then [32, 35, 120] else []))) ∧ wx = wr)
                        case first =>
                          have h1 := C4.out
                          have hs2 : ¬ (9223372036854775807 : Int) < (wd3.size : Int) + 3 := by have := HSZ.out; have := HW1.out.1; have := HW2.out.1; have := HW3.out.1; omega
                          cases c4
                          · have H2 := Lib.hid (of_decide_eq_false h1.symm)
                            clear h1
                            go_wp2
                            go_meet
                            case rel => exact ⟨⟨wd3, rfl, Lib.hid ⟨by omega, by rw [if_neg H2.out]; simp⟩⟩, rfl⟩
                          · have H2 := Lib.hid (of_decide_eq_true h1.symm)
                            clear h1
                            go_wp2
                            go_meet
                            case rel => exact ⟨⟨_, rfl, Lib.hid ⟨by rw [ByteArray.size_append]; exact Nat.le_refl _, by rw [letters_app, if_pos H2.out]; rfl⟩⟩, rfl⟩
                        case rest =>
                          obtain ⟨⟨wd4, rfl, HW4⟩, hw⟩ := hcut
                          have hw2 := hw.symm
                          subst hw2
                          clear C4
                          have hs2 : ¬ (9223372036854775807 : Int) < (wd4.size : Int) + 1 := by have := HSZ.out; have := HW1.out.1; have := HW2.out.1; have := HW3.out.1; have := HW4.out.1; omega
                          have hkk : (k : Int) < 9223372036854775807 := by have h1 := HKI.out; have h2 := HS.out; omega
                          have hii : (i : Int) < 9223372036854775807 := by have h2 := HS.out; omega
                          have HFIN : Hid (lettersOf (wd4 ++ s.extract i (i + 1)) = lettersOf wd ++ emitW n f c) := Lib.hid (by
                            rw [letters_app, HW4.out.2, HW3.out.2, HW2.out.2, HW1.out.2, letters_one s hlt, ← HC.out]
                            unfold emitW
                            simp only [List.append_assoc])
                          have HXS := Lib.hid (one_size s hlt)
                          have HLT := Lib.hid hlt
                          have HSB : Hid ((wd4 ++ s.extract i (i + 1)).size ≤ 15 * (i + 1)) := Lib.hid (by
                            rw [ByteArray.size_append]
                            have := HXS.out; have := HW0.out; have := HW1.out.1; have := HW2.out.1; have := HW3.out.1; have := HW4.out.1; omega)
                          have h5 := HF2.out
                          cases f2
                          · have E : Hid (lettersOf (wd4 ++ s.extract i (i + 1)) ++ wideG ns k false ((lettersOf s).drop (i + 1)) = wideG ns 0 true (lettersOf s)) := Lib.hid (by
                              have e := of_decide_eq_false h5.symm
                              have h := HST.out
                              rw [if_neg e, decide_eq_false e] at h
                              rw [HFIN.out, h])
                            clear h5
                            go_wp2
                            go_roundw
                            case rel => exact ⟨i + 1, k, false, wd4 ++ s.extract i (i + 1), by omega, by first | rfl | trivial | go_num, by first | rfl | trivial | go_num, by first | rfl | trivial | go_num, by first | rfl | trivial | go_num, by first | rfl | trivial | go_num, Lib.hid ⟨HSB.out, by have := HKI.out; omega, E.out⟩⟩
                            case measure => have := HLT.out; simp [intOf]; omega
                          · have E : Hid (lettersOf (wd4 ++ s.extract i (i + 1)) ++ wideG ns (k + 1) true ((lettersOf s).drop (i + 1)) = wideG ns 0 true (lettersOf s)) := Lib.hid (by
                              have e := of_decide_eq_true h5.symm
                              have h := HST.out
                              rw [if_pos e, decide_eq_true e] at h
                              rw [HFIN.out, h])
                            clear h5
                            go_wp2
                            go_roundw
                            case rel => exact ⟨i + 1, k + 1, true, wd4 ++ s.extract i (i + 1), by omega, by first | rfl | trivial | go_num, by first | rfl | trivial | go_num, by first | rfl | trivial | go_num, by first | rfl | trivial | go_num, by first | rfl | trivial | go_num, Lib.hid ⟨HSB.out, by have := HKI.out; omega, E.out⟩⟩
                            case measure => have := HLT.out; simp [intOf]; omega
    · obtain rfl : i = s.size := by omega
      obtain ⟨er, a1, a2, md, e1, e2⟩ := blanks_two ns HS.out rfl HR.out.2.2
      have HG1 : Hid (∀ W, Below w.heap.size w W → Calls Tryz.prog 18 #[.string s] W (MGotDone W ⟨er, a1, md⟩)) := Lib.hid (fun W hb => by rw [← e1]; exact HGet.out s W hb)
      have HG2 : Hid (∀ W, Below w.heap.size w W → Calls Tryz.prog 18 #[.string wd] W (MGotDone W ⟨er, a2, md⟩)) := Lib.hid (fun W hb => by rw [← e2]; exact HGet.out wd W hb)
      have HD : Hid ((∀ x ∈ md.data, 0 ≤ x ∧ x < 256) ∧ md.funcs.length ≤ 1000000 ∧ cntM md ≤ s.size + 1) := Lib.hid (by
        have h1 := got13_bd (lettersOf s)
        have h2 := got13_lim (lettersOf s)
        rw [e1] at h1 h2
        rw [letters_len] at h1
        have h3 : md.funcs.length ≤ 600000 := h2.1
        exact ⟨h1.1, by omega, h1.2⟩)
      have HF : Hid (md.funcs.length ≤ 100000) := Lib.hid (by have h1 := HD.out.2.2; have h2 := cnt_fun (m := md); have h3 := HS.out; omega)
      have HSa : Hid (∀ (W : World) (D F D' F' : Value), IsBytes W W.heap.size D md.data → IsFuns W W.heap.size F md.funcs → IsBytes W W.heap.size D' md.data → IsFuns W W.heap.size F' md.funcs → Calls Tryz.prog 21 #[.agg #[D, F], .agg #[D', F']] W (Makes W (.bool true))) := Lib.hid (fun W D F D' F' h1 h2 h3 h4 => by
        have h := same8_any D F D' F' _ _ _ _ W h1 h2 h3 h4 HF.out HF.out
        rw [sameM_refl] at h
        exact h)
      have hee : (er == er) = true := by simp
      clear e1 e2 HR HZ
      go_upto_region 25 with (first
        | (go_at_call 18; (with_reducible refine (HG1.out _ HB1.out).mono ?_); rintro e w2 ⟨D1, F1, Cs1, rfl, ho, hf⟩; obtain ⟨dA, dc, hde⟩ := owns_len ho.own; subst hde; obtain ⟨fA, fc, hfe⟩ := owns_len hf.own; subst hfe; obtain ⟨hG, hb, -⟩ := gotB13_new (g := ⟨er, a1, md⟩) ho HD.out.1 hf HD.out.2.1; have HGA := Lib.hid hG; have HB3 := Lib.hid (HB1.out.trans (hb.mono HB1.out.size)); clear ho hf hG hb)
        | (go_at_call 18; (with_reducible refine (HG2.out _ HB3.out).mono ?_); rintro e w4 ⟨D2, F2, Cs2, rfl, ho, hf⟩; obtain ⟨dA2, dc2, hde⟩ := owns_len ho.own; subst hde; obtain ⟨fA2, fc2, hfe⟩ := owns_len hf.own; subst hfe; obtain ⟨hG, hb, -⟩ := gotB13_new (g := ⟨er, a2, md⟩) ho HD.out.1 hf HD.out.2.1; have HGB := Lib.hid hG; have HGA2 := Lib.hid (HGA.out.grow hb); have HB4 := Lib.hid (HB3.out.trans (hb.mono HB3.out.size)); clear ho hf hG hb))
      have h5 : GotB13 _ w2.heap.size _ _ ⟨er, a1, md⟩ ∧ GotB13 _ w4.heap.size _ _ ⟨er, a2, md⟩ ∧ Below w.heap.size w _ := ⟨HGA2.out, HGB.out, HB4.out⟩
      refine (show ∀ W, (GotB13 W w2.heap.size (.slice dA md.data.length dc) (.slice fA md.funcs.length fc) ⟨er, a1, md⟩ ∧ GotB13 W w4.heap.size (.slice dA2 md.data.length dc2) (.slice fA2 md.funcs.length fc2) ⟨er, a2, md⟩ ∧ Below w.heap.size w W) → Code.wp _ _ _ _ W from fun W5 h5 => ?_) _ h5
      obtain ⟨hGA, hGB, hB⟩ := h5
      have HGA5 := Lib.hid hGA
      have HGB5 := Lib.hid hGB
      have HB5 := Lib.hid hB
      obtain ⟨c0, c1, c2, c3⟩ := hGA.cells
      obtain ⟨d0, d1, d2, d3⟩ := hGB.cells
      clear hGA hGB hB
      go_wp2_with (go_at_call 21; (with_reducible refine (HSa.out _ _ _ _ _ HGA5.out.dat HGA5.out.funs HGB5.out.dat HGB5.out.funs).mono ?_); rintro e w7 ⟨rfl, hb⟩; have HB7 := Lib.hid (HB5.out.trans (hb.mono HB5.out.size)); clear hb)
      go_ret
      exact ⟨by first | rfl | simp, HB7.out⟩
end Go.Proofs.YtohlifeenhaifaaGreatDoor
