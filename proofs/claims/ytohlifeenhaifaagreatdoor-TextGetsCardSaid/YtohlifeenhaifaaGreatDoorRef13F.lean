/- The document's own words of a line. Contract; no condition but that the line is short. -/
import Derived.Test.YtohlifeenhaifaaGreatDoorRef13E
namespace Go.Proofs.YtohlifeenhaifaaGreatDoor
open Go.RowKit Go.Shelf
set_option linter.unusedVariables false
set_option linter.unusedSimpArgs false

theorem letters_two (a b : ByteArray) : lettersOf (a ++ b) = lettersOf a ++ lettersOf b := by
  unfold lettersOf
  simp
theorem letters_single (s : ByteArray) {k : Nat} (h : k < s.size) : lettersOf (s.extract k (k + 1)) = [(s[k].toNat : Int)] := by
  unfold lettersOf
  rw [ByteArray.data_extract, Array.toList_extract, List.extract_eq_take_drop]
  have hk : k < s.data.toList.length := by simpa using h
  rw [show k + 1 - k = 1 by omega, List.drop_eq_getElem_cons hk]
  rfl
theorem letters_nil (s : ByteArray) : (lettersOf s = []) ↔ s.size = 0 := by
  unfold lettersOf
  rw [List.map_eq_nil_iff]
  constructor
  · intro h
    have := congrArg List.length h
    simpa using this
  · intro h
    have : s.data.toList.length = 0 := by simpa using h
    exact List.eq_nil_of_length_eq_zero this
theorem not_empty13 {s : ByteArray} (h : 0 < s.size) : (s.toList == []) = false := by
  rw [ByteArray.toList_eq]
  have : s.data.toList.length = s.size := by simp
  cases hl : s.data.toList with
  | nil => rw [hl] at this; simp at this; omega
  | cons a l => rfl
/-- The words that are still to come. -/
def restW (l : List Int) (n i : Nat) (wd : List Int) : List (List Int) := if i ≤ n then wordsG wd (l.drop i) else []
theorem rest_plain (s : ByteArray) {i : Nat} (wd : List Int) (hi : i < s.size) (hc : isBlank (s[i].toNat : Int) = false) : restW (lettersOf s) s.size i wd = restW (lettersOf s) s.size (i + 1) (wd ++ [(s[i].toNat : Int)]) := by
  unfold restW
  rw [if_pos (show i ≤ s.size by omega), if_pos (show i + 1 ≤ s.size by omega), letters_drop s hi]
  show (if isBlank (s[i].toNat : Int) = true then _ else _) = _
  rw [if_neg (by simp [hc])]
theorem rest_flush (s : ByteArray) {i : Nat} (wd : List Int) (hi : i ≤ s.size) (hc : ∀ h : i < s.size, isBlank (s[i].toNat : Int) = true) :
    restW (lettersOf s) s.size i wd = if wd = [] then restW (lettersOf s) s.size (i + 1) [] else if wd.headD 0 = 35 then [] else wd :: restW (lettersOf s) s.size (i + 1) [] := by
  unfold restW
  rw [if_pos hi]
  by_cases h : i < s.size
  · rw [if_pos (show i + 1 ≤ s.size by omega), letters_drop s h]
    show (if isBlank (s[i].toNat : Int) = true then _ else _) = _
    rw [if_pos (hc h)]
  · have e : i = s.size := by omega
    subst e
    have hl : (lettersOf s).length = s.size := by unfold lettersOf; simp
    rw [if_neg (show ¬ s.size + 1 ≤ s.size by omega), List.drop_eq_nil_of_le (show (lettersOf s).length ≤ s.size by omega)]
    rfl
def strB (l : List ByteArray) : List Value := l.map Value.string
theorem strB_snoc (l : List ByteArray) (x : ByteArray) : strB l ++ [.string x] = strB (l ++ [x]) := by simp [strB]
/-- A row of words in memory of its own. -/
def RWordsDone (w : World) (out : List (List Int)) (e : Ending) (w' : World) : Prop :=
  ∃ v ws, e = .returned v ∧ Owns w' w.heap.size 9 1 IsStr v ws.length (strB ws) ∧ ws.map lettersOf = out ∧ Below w.heap.size w w'
set_option maxRecDepth 100000 in
set_option maxHeartbeats 8000000 in
theorem rwords13_any (s : ByteArray) (w : World) (hs : s.size ≤ 500000) : Calls Tryz.prog 40 #[.string s] w (RWordsDone w (wordsL (lettersOf s))) := by
  have HS := Lib.hid hs
  have HO0 := Lib.hid (Owns.nil w w.heap.size 9 1 IsStr)
  have HB0 := Lib.hid (Below.refl w.heap.size w)
  clear hs
  go_enter Tryz.func40, Tryz.ntmps40
  go_wp2
  go_loopw [3, 4, 5] (fun v3 v4 v5 wr => ∃ (i : Nat) (ws : List ByteArray) (wd : ByteArray), v5 = .int .i64 i ∧ v4 = .string wd ∧ i ≤ s.size + 1 ∧
    Hid (Owns wr w.heap.size 9 1 IsStr v3 ws.length (strB ws) ∧ ws.length ≤ i ∧ wd.size ≤ i ∧ Below w.heap.size w wr ∧ ws.map lettersOf ++ restW (lettersOf s) s.size i (lettersOf wd) = wordsL (lettersOf s))) (fun _ _ v5 _ => s.size + 1 - (intOf v5).toNat)
  case atStart => exact ⟨0, [], ⟨#[]⟩, rfl, rfl, by omega, Lib.hid ⟨HO0.out, Nat.le_refl _, Nat.le_refl _, HB0.out, by unfold restW; rw [if_pos (Nat.zero_le _), List.drop_zero]; rfl⟩⟩
  case round =>
    obtain ⟨i, ws, wd, rfl, rfl, hi, HR⟩ := hrel
    obtain ⟨A3, c3, he3⟩ := owns_len HR.out.1
    subst he3
    obtain ⟨nw, hnw⟩ : ∃ nw, nw = ws.length := ⟨_, rfl⟩
    have HNW := Lib.hid hnw
    rw [← hnw]
    clear hnw
    have i0 : (0 : Int) ≤ (i : Int) := by omega
    by_cases hle : i ≤ s.size
    · have hle2 : (i : Int) ≤ (s.size : Int) := by omega
      obtain ⟨pl, hpl⟩ : ∃ pl : Bool, pl = (if h : i < s.size then !isBlank (s[i].toNat : Int) else false) := ⟨_, rfl⟩
      have HPL := Lib.hid hpl
      clear hpl
      go_upto_region 6 with fail
      go_cut [27] from 6 to 48 (fun s27 wx => s27 = .bool pl ∧ wx = wr)
      case first =>
        by_cases hlt : i < s.size
        · have hlt2 : (i : Int) < (s.size : Int) := by omega
          have hp := HPL.out
          rw [dif_pos hlt] at hp
          unfold isBlank at hp
          by_cases e1 : (s[i].toNat : Int) = 32
          · have e2 : ((s[i].toNat : Int) != 32) = false := by rw [e1]; rfl
            have hpf : pl = false := by rw [hp, e1]; rfl
            subst hpf
            clear hp
            go_wp2
            go_meet
            case rel => exact ⟨rfl, rfl⟩
          · have e2 : ((s[i].toNat : Int) != 32) = true := by simpa using e1
            by_cases e3 : (s[i].toNat : Int) = 9
            · have e4 : ((s[i].toNat : Int) != 9) = false := by rw [e3]; rfl
              have hpf : pl = false := by rw [hp, e3]; rfl
              subst hpf
              clear hp
              go_wp2
              go_meet
              case rel => exact ⟨rfl, rfl⟩
            · have e4 : ((s[i].toNat : Int) != 9) = true := by simpa using e3
              have hpf : pl = true := by rw [hp]; simp [e1, e3]
              subst hpf
              clear hp
              go_wp2
              go_meet
              case rel => exact ⟨rfl, rfl⟩
        · have hlt2 : ¬ (i : Int) < (s.size : Int) := by omega
          have hp := HPL.out
          rw [dif_neg hlt] at hp
          subst hp
          go_wp2
          go_meet
          case rel => exact ⟨rfl, rfl⟩
      case rest =>
        obtain ⟨rfl, hw⟩ := hcut
        have hw2 := hw.symm
        subst hw2
        cases pl
        · have HRF := Lib.hid (rest_flush s (lettersOf wd) hle (fun h => by
            have hp := HPL.out
            rw [dif_pos h] at hp
            cases hb : isBlank (s[i].toNat : Int)
            · rw [hb] at hp; cases hp
            · rfl))
          have HIM := Lib.hid hle
          have HS2 := Lib.hid HS.out
          have hii : (i : Int) < 9223372036854775807 := by have h2 := HS.out; omega
          by_cases h0 : wd.size = 0
          · have hwe : wd = ⟨#[]⟩ := by rw [empty_of h0]; rfl
            subst hwe
            have hrl := HR.out.2.2.2.2
            rw [HRF.out, if_pos (show lettersOf (⟨#[]⟩ : ByteArray) = [] from rfl)] at hrl
            have HRL := Lib.hid hrl
            clear hrl HRF h0 HPL
            go_wp2
            go_roundw
            case rel => exact ⟨i + 1, ws, ⟨#[]⟩, by first | rfl | trivial | go_num, by first | rfl | trivial, by have := HIM.out; omega, Lib.hid ⟨by rw [← HNW.out]; have := HR.out.1; rw [← HNW.out] at this; exact this, by have := HR.out.2.1; omega, Nat.zero_le _, HR.out.2.2.2.1, HRL.out⟩⟩
            case measure => have := HIM.out; simp [intOf]; omega
          · have h1 : 0 < wd.size := by omega
            have t1 := not_empty13 h1
            have t2 : (wd.toList != []) = true := by rw [bne, t1]; rfl
            have hne : ¬ lettersOf wd = [] := fun e => h0 ((letters_nil wd).1 e)
            have hh := letters_head wd h1
            by_cases hf : (wd[0].toNat : Int) = 35
            · have e1 : ((wd[0].toNat : Int) == 35) = true := by rw [hf]; rfl
              have hrl := HR.out.2.2.2.2
              rw [HRF.out, if_neg hne, if_pos (by rw [hh]; exact hf), List.append_nil] at hrl
              have HRL := Lib.hid hrl
              clear hrl HRF HPL hh hf
              go_wp2
              go_ret
              exact ⟨_, ws, rfl, by rw [← HNW.out]; have := HR.out.1; rw [← HNW.out] at this; exact this, HRL.out, HR.out.2.2.2.1⟩
            · have e1 : ((wd[0].toNat : Int) == 35) = false := by simpa using hf
              have hrl := HR.out.2.2.2.2
              rw [HRF.out, if_neg hne, if_neg (by rw [hh]; exact hf)] at hrl
              have HRL : Hid ((ws ++ [wd]).map lettersOf ++ restW (lettersOf s) s.size (i + 1) [] = wordsL (lettersOf s)) := Lib.hid (by rw [← hrl]; simp)
              have HLen : Hid ((strB ws).length = nw) := Lib.hid (by unfold strB; rw [List.length_map, HNW.out])
              have HO1 : Hid (Owns wr w.heap.size 9 1 IsStr (.slice A3 nw c3) (strB ws).length (strB ws)) := Lib.hid (by rw [HLen.out]; have := HR.out.1; rw [← HNW.out] at this; exact this)
              have HZ1 := Lib.hid HR.out.2.2.2.1.size
              have HWL := Lib.hid (show nw ≤ i by rw [HNW.out]; exact HR.out.2.1)
              clear hrl HRF HPL hh hf hne
              go_wp2_with (at_builtin; refine wpList_one1 rfl (.tmp 45) (.tmp 47) rfl Tryz.underlying74 strings_info rfl zero_str rfl rfl rfl HO1.out ⟨_, rfl⟩ rfl HZ1.out (by rw [HLen.out]; have := HWL.out; have := HS2.out; have := HIM.out; omega) (by decide) ?_; intro V' W' hM; have hO2 := hM.own; rw [List.length_append, HLen.out, List.length_singleton, strB_snoc] at hO2; have HO2 := Lib.hid hO2; have HMo := Lib.hid hM.bel; obtain ⟨A', c', he'⟩ := owns_len hO2; subst he'; clear hM hO2)
              go_roundw
              case rel => exact ⟨i + 1, ws ++ [wd], ⟨#[]⟩, by first | rfl | trivial | go_num, by first | rfl | trivial, by have := HIM.out; omega, Lib.hid ⟨by rw [show (ws ++ [wd]).length = nw + 1 by rw [List.length_append, HNW.out]; rfl]; exact HO2.out, by have := HR.out.2.1; rw [List.length_append]; show _ + 1 ≤ _; omega, Nat.zero_le _, HR.out.2.2.2.1.trans HMo.out, HRL.out⟩⟩
              case measure => have := HIM.out; simp [intOf]; omega
        · have hlt : i < s.size := by
            rcases Nat.lt_or_ge i s.size with h | h
            · exact h
            · have hp := HPL.out
              rw [dif_neg (by omega)] at hp
              cases hp
          have hb : isBlank (s[i].toNat : Int) = false := by
            have hp := HPL.out
            rw [dif_pos hlt] at hp
            cases hb : isBlank (s[i].toNat : Int)
            · rfl
            · rw [hb] at hp; cases hp
          have hrl := HR.out.2.2.2.2
          rw [rest_plain s _ hlt hb, ← letters_single s hlt, ← letters_two] at hrl
          have HRL := Lib.hid hrl
          have HSZ : Hid ((wd ++ s.extract i (i + 1)).size ≤ i + 1) := Lib.hid (by
            have h1 : (lettersOf (wd ++ s.extract i (i + 1))).length = (lettersOf wd).length + 1 := by rw [letters_two, letters_single s hlt, List.length_append]; rfl
            have h2 : ∀ b : ByteArray, (lettersOf b).length = b.size := fun b => by unfold lettersOf; simp
            rw [h2, h2] at h1
            have := HR.out.2.2.1
            omega)
          have hs2 : ¬ (9223372036854775807 : Int) < (wd.size : Int) + 1 := by have := HR.out.2.2.1; have := HS.out; omega
          have hii : (i : Int) < 9223372036854775807 := by have h2 := HS.out; omega
          have hlt2 : (i : Int) < (s.size : Int) := by omega
          have HIM := Lib.hid hlt
          clear hrl hb HPL
          go_wp2
          go_roundw
          case rel => exact ⟨i + 1, ws, wd ++ s.extract i (i + 1), by first | rfl | trivial | go_num, by first | rfl | trivial, by have := HIM.out; omega, Lib.hid ⟨by rw [← HNW.out]; have := HR.out.1; rw [← HNW.out] at this; exact this, by have := HR.out.2.1; omega, HSZ.out, HR.out.2.2.2.1, HRL.out⟩⟩
          case measure => have := HIM.out; simp [intOf]; omega
    · have hle2 : ¬ (i : Int) ≤ (s.size : Int) := by omega
      have hrl := HR.out.2.2.2.2
      unfold restW at hrl
      rw [if_neg hle, List.append_nil] at hrl
      have HRL := Lib.hid hrl
      clear hrl
      go_wp2
      go_ret
      exact ⟨_, ws, rfl, by rw [← HNW.out]; have := HR.out.1; rw [← HNW.out] at this; exact this, HRL.out, HR.out.2.2.2.1⟩
end Go.Proofs.YtohlifeenhaifaaGreatDoor
