/- The document's own Number. Contract; no condition but that the word is short. -/
import Derived.Test.YtohlifeenhaifaaGreatDoorRef13A
import Derived.Test.YtohlifeenhaifaaGreatDoorS28
import Derived.Deep.CutRange
import Derived.LoopTactic
import Derived.Laws.Strings
namespace Go.Proofs.YtohlifeenhaifaaGreatDoor
open Go.RowKit Go.Shelf
set_option linter.unusedVariables false
set_option linter.unusedSimpArgs false

/-- What Number answers. -/
def numA13 (s : List Int) : Value := match numP s with
  | some v => .tuple #[.int .i64 v, .bool true]
  | none => .tuple #[.int .i64 0, .bool false]
/-- What Number answers of the digits behind a sign. -/
def numQ (below : Bool) (t : List Int) : Option Int :=
  if t = [] ∨ 19 < t.length ∨ (t.headD 0 = 48 ∧ (1 < t.length ∨ below = true)) then none
  else if t.all isDig = false then none
  else if below = true ∧ worth 0 t ≤ 2 ^ 63 then some (-(worth 0 t : Int))
  else if below = false ∧ worth 0 t < 2 ^ 63 then some (worth 0 t : Int)
  else none
theorem numP_q (s : List Int) (bl : Bool) (t : List Int) (hb : bl = (decide (1 < s.length) && s.headD 0 == 45)) (ht : t = if bl = true then s.tail else s) : numP s = numQ bl t := by
  unfold numP numQ
  simp only [← hb, ← ht]
theorem letters_head (s : ByteArray) (h : 0 < s.size) : (lettersOf s).headD 0 = (s[0].toNat : Int) := by
  have := letters_drop s h
  rw [List.drop_zero] at this
  rw [this]
  rfl
theorem letters_tail (s : ByteArray) : lettersOf (s.extract 1 s.size) = (lettersOf s).tail := by
  unfold lettersOf
  rw [ByteArray.data_extract, Array.toList_extract, List.extract_eq_take_drop, List.take_of_length_le (by rw [List.length_drop]; exact Nat.le_refl _), List.map_drop, List.drop_one]
theorem empty_of {t : ByteArray} (h : t.size = 0) : t = ByteArray.empty := by
  cases t with
  | mk d => simp [ByteArray.size] at h; subst h; rfl
theorem worth_bd : ∀ (l : List Int) (n : Nat), l.all isDig = true → worth n l + 1 ≤ (n + 1) * 10 ^ l.length
  | [], n, _ => by simp [worth]
  | c :: l, n, h => by
    rw [List.all_cons, Bool.and_eq_true] at h
    have hc : 48 ≤ c ∧ c ≤ 57 := of_decide_eq_true h.1
    have ih := worth_bd l (10 * n + (c - 48).toNat) h.2
    simp only [worth, List.length_cons]
    have h2 : (10 * n + (c - 48).toNat + 1) ≤ 10 * (n + 1) := by omega
    have h3 := Nat.mul_le_mul_right (10 ^ l.length) h2
    rw [Nat.pow_succ]
    have h4 : 10 * (n + 1) * 10 ^ l.length = (n + 1) * (10 ^ l.length * 10) := by
      rw [Nat.mul_comm 10 (n + 1), Nat.mul_assoc, Nat.mul_comm 10]
    omega
theorem worth_19 {l : List Int} (h : l.all isDig = true) (hl : l.length ≤ 19) : worth 0 l < 10000000000000000000 := by
  have h1 := worth_bd l 0 h
  have h2 : 10 ^ l.length ≤ 10 ^ 19 := Nat.pow_le_pow_right (by decide) hl
  have h3 : (10 : Nat) ^ 19 = 10000000000000000000 := by decide
  omega
theorem neg_wrap (n : Nat) (h : n ≤ 9223372036854775808) : wrap64 (IntKind.u64.wrap (-(n : Int))) = -(n : Int) := by
  have e : IntKind.u64.wrap (-(n : Int)) = (-(n : Int)) % 18446744073709551616 := by simp [IntKind.wrap, IntKind.bits, IntKind.signed]
  rw [e]
  unfold wrap64
  omega
theorem take_all {l : List Int} {i : Nat} (h : i < l.length) : l.take (i + 1) = l.take i ++ [l.getD i 0] := by
  rw [List.take_succ_eq_append_getElem h, List.getD, List.getElem?_eq_getElem h]
  rfl
set_option maxRecDepth 100000 in
set_option maxHeartbeats 8000000 in
theorem rnumber13_any (s : ByteArray) (hs : s.size ≤ 4000) (w : World) : Calls Tryz.prog 14 #[.string s] w (Makes w (numA13 (lettersOf s))) := by
  obtain ⟨bl, hbl⟩ : ∃ bl, bl = (decide (1 < (lettersOf s).length) && (lettersOf s).headD 0 == 45) := ⟨_, rfl⟩
  obtain ⟨tl, htl⟩ : ∃ tl, tl = if bl = true then (lettersOf s).tail else lettersOf s := ⟨_, rfl⟩
  have HQ : Hid (numA13 (lettersOf s) = match numQ bl tl with
  | some v => .tuple #[.int .i64 v, .bool true]
  | none => .tuple #[.int .i64 0, .bool false]) := Lib.hid (by unfold numA13; rw [numP_q _ bl tl hbl htl])
  have HBL := Lib.hid hbl
  have HTL := Lib.hid htl
  clear hbl htl
  go_enter Tryz.func14, Tryz.ntmps14
  go_upto_region 1 with fail
  go_cut [4] from 7 to 14 (fun s4 wx => s4 = .bool bl ∧ wx = w)
  case first =>
    have h := HBL.out
    clear HBL HTL HQ
    by_cases h1 : 1 < s.size
    · have h1I : (1 : Int) < (s.size : Int) := by omega
      have h0 : 0 < s.size := by omega
      rw [letters_len, decide_eq_true h1, letters_head s h0, Bool.true_and] at h
      by_cases e : (s[0].toNat : Int) = 45
      · have eb : ((s[0].toNat : Int) == 45) = true := by rw [e]; rfl
        rw [eb] at h
        go_wp2
        go_meet
        case rel => exact ⟨by rw [h], rfl⟩
      · have eb : ((s[0].toNat : Int) == 45) = false := by simpa using e
        rw [eb] at h
        go_wp2
        go_meet
        case rel => exact ⟨by rw [h], rfl⟩
    · have h1I : ¬ (1 : Int) < (s.size : Int) := by omega
      rw [letters_len, decide_eq_false h1, Bool.false_and] at h
      go_wp2
      go_meet
      case rel => exact ⟨by rw [h], rfl⟩
  case rest =>
    obtain ⟨rfl, hw⟩ := hcut
    have hw2 := hw.symm
    subst hw2
    go_upto_if 15 with fail
    go_cut [0] from 15 to 17 (fun s0 wx => (∃ t : ByteArray, s0 = .string t ∧ Hid (lettersOf t = tl ∧ t.size ≤ 4000)) ∧ wx = w)
    case first =>
      have h := HTL.out
      have h2 := HBL.out
      clear HTL HQ HBL
      cases bl
      · rw [if_neg (by simp)] at h
        clear h2
        go_wp2
        go_meet
        case rel => exact ⟨⟨s, rfl, Lib.hid ⟨h.symm, hs⟩⟩, rfl⟩
      · rw [if_pos rfl] at h
        have h1 : 1 < s.size := by
          have h3 := h2.symm
          rw [Bool.and_eq_true] at h3
          have := of_decide_eq_true h3.1
          rw [letters_len] at this
          exact this
        have h1I : (1 : Int) ≤ (s.size : Int) := by omega
        clear h2
        go_wp2
        go_meet
        case rel => exact ⟨⟨_, rfl, Lib.hid ⟨by rw [letters_tail, h], by rw [ByteArray.size_extract]; omega⟩⟩, rfl⟩
    case rest =>
      obtain ⟨⟨t, rfl, HTT⟩, hw⟩ := hcut
      have hw2 := hw.symm
      subst hw2
      obtain ⟨bd, hbd⟩ : ∃ bd : Bool, bd = decide (tl = [] ∨ 19 < tl.length ∨ (tl.headD 0 = 48 ∧ (1 < tl.length ∨ bl = true))) := ⟨_, rfl⟩
      have HBD := Lib.hid hbd
      have hlen : t.size = tl.length := by rw [← HTT.out.1, letters_len]
      have HLEN := Lib.hid hlen
      clear hbd hlen HBL HTL
      go_upto_region 4 with fail
      go_cut [37] from 18 to 37 (fun s37 wx => s37 = .bool bd ∧ wx = w)
      case first =>
        have h := HBD.out
        clear HBD HQ
        by_cases hz : t.size = 0
        · have he := empty_of hz
          have htl : tl = [] := List.eq_nil_of_length_eq_zero (by rw [← HLEN.out]; exact hz)
          rw [decide_eq_true (.inl htl)] at h
          subst he
          clear hz htl
          go_wp2
          go_meet
          case rel => exact ⟨by rw [h], rfl⟩
        · have hne : ¬ t = ByteArray.empty := fun e => hz (by rw [e]; rfl)
          have hemp : t.toList.isEmpty = false := by
            rw [ByteArray.toList_eq]
            cases hh : t.data.toList with
            | nil => exact absurd (show t.size = 0 from (congrArg List.length hh)) hz
            | cons => rfl
          have h0 : 0 < t.size := by omega
          have htn : tl ≠ [] := fun e => hz (by rw [HLEN.out, e]; rfl)
          have hhd : tl.headD 0 = (t[0].toNat : Int) := by rw [← HTT.out.1]; exact letters_head t h0
          by_cases h19 : 19 < t.size
          · have h19I : (19 : Int) < (t.size : Int) := by omega
            rw [decide_eq_true (.inr (.inl (by rw [← HLEN.out]; exact h19)))] at h
            clear hhd htn h19 hz
            go_wp2
            go_meet
            case rel => exact ⟨by rw [h], rfl⟩
          · have h19I : ¬ (19 : Int) < (t.size : Int) := by omega
            have h19L : ¬ 19 < tl.length := by rw [← HLEN.out]; exact h19
            by_cases h48 : (t[0].toNat : Int) = 48
            · have h48b : ((t[0].toNat : Int) == 48) = true := by rw [h48]; rfl
              by_cases h1 : 1 < t.size
              · have h1I : (1 : Int) < (t.size : Int) := by omega
                rw [decide_eq_true (.inr (.inr ⟨hhd.trans h48, .inl (by rw [← HLEN.out]; exact h1)⟩))] at h
                clear hhd htn h19 h19L hz hne h1
                go_wp2
                go_meet
                case rel => exact ⟨by rw [h], rfl⟩
              · have h1I : ¬ (1 : Int) < (t.size : Int) := by omega
                have h1L : ¬ 1 < tl.length := by rw [← HLEN.out]; exact h1
                have h5 : bd = bl := by
                  rw [h]
                  cases bl
                  · exact decide_eq_false (fun h6 => h6.elim htn (fun h7 => h7.elim h19L (fun h8 => h8.2.elim h1L (by simp))))
                  · exact decide_eq_true (.inr (.inr ⟨hhd.trans h48, .inr rfl⟩))
                clear h hhd htn h19 h19L hz hne h1 h1L
                cases bl
                · go_wp2
                  go_meet
                  case rel => exact ⟨by rw [h5], rfl⟩
                · go_wp2
                  go_meet
                  case rel => exact ⟨by rw [h5], rfl⟩
            · have h48b : ((t[0].toNat : Int) == 48) = false := by simpa using h48
              rw [decide_eq_false (fun h6 => h6.elim htn (fun h7 => h7.elim h19L (fun h8 => h48 (hhd.symm.trans h8.1))))] at h
              clear hhd htn h19 h19L hz hne
              go_wp2
              go_meet
              case rel => exact ⟨by rw [h], rfl⟩
      case rest =>
        obtain ⟨rfl, hw⟩ := hcut
        have hw2 := hw.symm
        subst hw2
        cases bd
        · have hnb := of_decide_eq_false HBD.out.symm
          have HL19 := Lib.hid (show tl.length ≤ 19 by
            have h := fun h7 => hnb (.inr (.inl h7))
            omega)
          have HNQ : Hid (numQ bl tl = if tl.all isDig = false then none else if bl = true ∧ worth 0 tl ≤ 2 ^ 63 then some (-(worth 0 tl : Int)) else if bl = false ∧ worth 0 tl < 2 ^ 63 then some (worth 0 tl : Int) else none) := Lib.hid (by unfold numQ; rw [if_neg hnb])
          clear hnb HBD
          go_wp2
          go_loopw [5, 6] (fun v5 v6 wr => ∃ (i n : Nat), i ≤ t.size ∧ v6 = .int .i64 i ∧ v5 = .int .u64 n ∧ wr = w ∧ Hid (n = worth 0 (tl.take i) ∧ (tl.take i).all isDig = true)) (fun _ v6 _ => t.size - (intOf v6).toNat)
          case atStart => exact ⟨0, 0, Nat.zero_le _, rfl, rfl, rfl, Lib.hid ⟨rfl, rfl⟩⟩
          case round =>
            obtain ⟨i, n, hi, rfl, rfl, rfl, HN⟩ := hrel
            have i0 : (0 : Int) ≤ (i : Int) := by omega
            have i1 : i ≤ 4000 := by have := HTT.out.2; omega
            by_cases hlt : i < t.size
            · have htl2 : i < tl.length := by rw [← HLEN.out]; exact hlt
              have hc : tl.getD i 0 = (t[i].toNat : Int) := by
                rw [List.getD, List.getElem?_eq_getElem htl2]
                have h1 := letters_at t hlt
                have h2 : lettersOf t = tl := HTT.out.1
                subst h2
                exact h1
              have HTA := Lib.hid (take_all htl2)
              rw [hc] at HTA
              have HMEM : Hid (isDig (t[i].toNat : Int) = false → tl.all isDig = false) := Lib.hid (fun h => by
                rw [List.all_eq_false]
                refine ⟨tl.getD i 0, ?_, by rw [hc, h]; simp⟩
                rw [List.getD, List.getElem?_eq_getElem htl2]
                exact List.getElem_mem htl2)
              clear hc
              by_cases h48 : (t[i].toNat : Int) < 48
              · have HE : Hid (tl.all isDig = false) := Lib.hid (HMEM.out (decide_eq_false (by omega)))
                have HV : Hid (numA13 (lettersOf s) = .tuple #[.int .i64 0, .bool false]) := Lib.hid (by rw [HQ.out, HNQ.out, if_pos HE.out])
                clear htl2
                go_wp2
                go_ret2
                exact ⟨by rw [HV.out]; first | done | rfl, Below.refl _ _⟩
              · by_cases h57 : 57 < (t[i].toNat : Int)
                · have HE : Hid (tl.all isDig = false) := Lib.hid (HMEM.out (decide_eq_false (by omega)))
                  have HV : Hid (numA13 (lettersOf s) = .tuple #[.int .i64 0, .bool false]) := Lib.hid (by rw [HQ.out, HNQ.out, if_pos HE.out])
                  clear htl2
                  go_wp2
                  go_ret2
                  exact ⟨by rw [HV.out]; first | done | rfl, Below.refl _ _⟩
                · have hdg : isDig (t[i].toNat : Int) = true := decide_eq_true (by omega)
                  obtain ⟨u, hu⟩ : ∃ u : Nat, u = 10 * n + ((t[i].toNat : Int) - 48).toNat := ⟨_, rfl⟩
                  have HU : Hid (u = worth 0 (tl.take (i + 1)) ∧ (tl.take (i + 1)).all isDig = true) := Lib.hid (by
                    rw [HTA.out, worth_app, ← HN.out.1, List.all_append, HN.out.2]
                    exact ⟨hu, by simp [hdg]⟩)
                  have hub : u < 10000000000000000000 := by
                    rw [HU.out.1]
                    exact worth_19 HU.out.2 (by rw [List.length_take]; have := HL19.out; omega)
                  have hw : IntKind.u64.wrap (IntKind.u64.wrap (10 * (n : Int)) + ((t[i].toNat : Int) - 48)) = (u : Int) := by
                    rw [IntWalk.u64_in (10 * (n : Int)) (by omega), IntWalk.u64_in _ (by omega)]
                    omega
                  have HTS := Lib.hid (show i + 1 ≤ t.size ∧ True from ⟨hlt, trivial⟩)
                  clear htl2 hdg hu hub HTA HMEM HN
                  go_wp2
                  go_roundw
                  case rel => exact ⟨i + 1, u, HTS.out.1, by go_num, by first | rfl | trivial | rw [hw], by first | rfl | trivial, HU⟩
                  case measure => have := HTS.out.1; simp [intOf]; omega
            · obtain rfl : i = t.size := by omega
              have hfull : tl.take t.size = tl := by rw [HLEN.out]; exact List.take_length
              have HNN : Hid (n = worth 0 tl ∧ tl.all isDig = true) := Lib.hid (by have h := HN.out; rw [hfull] at h; exact h)
              have HNV : Hid (numQ bl tl = if bl = true ∧ n ≤ 2 ^ 63 then some (-(n : Int)) else if bl = false ∧ n < 2 ^ 63 then some (n : Int) else none) := Lib.hid (by
                rw [HNQ.out, if_neg (by rw [HNN.out.2]; simp), HNN.out.1])
              clear hfull HN HNQ
              cases bl
              · by_cases h63 : n < 9223372036854775808
                · have HV : Hid (numA13 (lettersOf s) = .tuple #[.int .i64 n, .bool true]) := Lib.hid (by
                    rw [HQ.out, HNV.out, if_neg (by simp), if_pos ⟨rfl, h63⟩])
                  have hI : (n : Int) < 9223372036854775808 := by omega
                  have hb : decide ((n : Int) < 9223372036854775808) = true := decide_eq_true hI
                  have hw : wrap64 (n : Int) = (n : Int) := IntWalk.wrap64_in _ (by omega)
                  clear h63 hI HNV HNN
                  go_wp2
                  go_ret2
                  exact ⟨(show Ending.returned (.tuple #[.int .i64 (wrap64 (n : Int)), .bool true]) = _ by rw [HV.out, hw]), Below.refl _ _⟩
                · have HV : Hid (numA13 (lettersOf s) = .tuple #[.int .i64 0, .bool false]) := Lib.hid (by
                    rw [HQ.out, HNV.out, if_neg (by simp), if_neg (fun h => h63 h.2)])
                  have hI : ¬ (n : Int) < 9223372036854775808 := by omega
                  have hb : decide ((n : Int) < 9223372036854775808) = false := decide_eq_false hI
                  clear h63 hI HNV HNN
                  go_wp2
                  go_ret2
                  exact ⟨by rw [HV.out]; first | done | rfl, Below.refl _ _⟩
              · by_cases h63 : n ≤ 9223372036854775808
                · have HV : Hid (numA13 (lettersOf s) = .tuple #[.int .i64 (-(n : Int)), .bool true]) := Lib.hid (by
                    rw [HQ.out, HNV.out, if_pos ⟨rfl, h63⟩])
                  have hI : (n : Int) ≤ 9223372036854775808 := by omega
                  have hb : decide ((n : Int) ≤ 9223372036854775808) = true := decide_eq_true hI
                  have HNEG := Lib.hid (neg_wrap n h63)
                  clear h63 hI HNV HNN
                  go_wp2
                  go_ret2
                  exact ⟨(show Ending.returned (.tuple #[.int .i64 (wrap64 (IntKind.u64.wrap (-(n : Int)))), .bool true]) = _ by rw [HV.out, HNEG.out]), Below.refl _ _⟩
                · have HV : Hid (numA13 (lettersOf s) = .tuple #[.int .i64 0, .bool false]) := Lib.hid (by
                    rw [HQ.out, HNV.out, if_neg (fun h => h63 h.2), if_neg (by simp)])
                  have hI : ¬ (n : Int) ≤ 9223372036854775808 := by omega
                  have hb : decide ((n : Int) ≤ 9223372036854775808) = false := decide_eq_false hI
                  clear h63 hI HNV HNN
                  go_wp2
                  go_ret2
                  exact ⟨by rw [HV.out]; first | done | rfl, Below.refl _ _⟩
        · have HV : Hid (numA13 (lettersOf s) = .tuple #[.int .i64 0, .bool false]) := Lib.hid (by
            rw [HQ.out]
            unfold numQ
            rw [if_pos (of_decide_eq_true HBD.out.symm)])
          clear HQ HBD
          go_wp2
          go_ret2
          exact ⟨by rw [HV.out]; first | done | rfl, Below.refl _ _⟩
end Go.Proofs.YtohlifeenhaifaaGreatDoor
