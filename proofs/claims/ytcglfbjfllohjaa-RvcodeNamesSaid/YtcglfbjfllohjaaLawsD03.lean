/- RvcodeNames: the statement's body is true, for any two numbers. No condition but that the numbers are the machine's. -/
import Derived.Test.YtcglfbjfllohjaaLawsC03
namespace Go.Proofs.Ytcglfbjfllohjaa
open Go.RowKit
set_option linter.unusedVariables false

theorem pick_any (n : Int) (w : World) (hn : -9223372036854775808 ≤ n) (hn' : n < 9223372036854775808) : Calls Try.prog 22 #[.int .i64 n, .int .i64 63] w fun e w' => e = .returned (.int .i64 (n % 63)) ∧ w = w' := by
  have h : (n.tmod 63 + 63).tmod 63 = n % 63 := by
    rcases Int.le_total 0 n with h0 | h0
    · rw [Int.tmod_eq_emod_of_nonneg h0, Int.tmod_eq_emod_of_nonneg (by omega)]
      omega
    · have e : n.tmod 63 = -((-n) % 63) := by
        have := Int.neg_tmod (-n) 63
        rw [Int.neg_neg] at this
        rw [this, Int.tmod_eq_emod_of_nonneg (by omega)]
      rw [e, Int.tmod_eq_emod_of_nonneg (by omega)]
      omega
  have hb : -63 < n.tmod 63 ∧ n.tmod 63 < 63 := by
    rcases Int.le_total 0 n with h0 | h0
    · rw [Int.tmod_eq_emod_of_nonneg h0]
      omega
    · have e : n.tmod 63 = -((-n) % 63) := by
        have := Int.neg_tmod (-n) 63
        rw [Int.neg_neg] at this
        rw [this, Int.tmod_eq_emod_of_nonneg (by omega)]
      omega
  have HH := Lib.hid h
  have hb1 := hb.1
  have hb2 := hb.2
  clear h hb
  go_enter Try.func22, Try.ntmps22
  go_wp2
  go_ret
  exact ⟨ret_int (by have h := HH.out; rw [Int.tmod_eq_emod_of_nonneg (by omega)] at h; exact h), rfl⟩

set_option maxHeartbeats 4000000 in
set_option maxRecDepth 100000 in
theorem names_in (m n pa pb : Int) (sa sb sm ta tm : ByteArray) (q : Bool) (w : World) (p1 : ∀ w, Calls Try.prog 22 #[.int .i64 m, .int .i64 63] w fun e w' => e = .returned (.int .i64 pa) ∧ w = w') (p2 : ∀ w, Calls Try.prog 22 #[.int .i64 n, .int .i64 63] w fun e w' => e = .returned (.int .i64 pb) ∧ w = w')
    (a0 : 0 ≤ pa) (a1 : pa ≤ 62) (b0 : 0 ≤ pb) (b1 : pb ≤ 62) (ha : ∀ w, Calls Try.prog 14 #[.int .i64 (1 + pa)] w (TextDone w sa)) (hb : ∀ w, Calls Try.prog 14 #[.int .i64 (1 + pb)] w (TextDone w sb)) (hm : ∀ w, Calls Try.prog 14 #[.int .i64 m] w (TextDone w sm))
    (hf : ∀ w, Calls Try.prog 16 #[.int .i64 (1 + pa)] w (TextDone w ta)) (hg : ∀ w, Calls Try.prog 16 #[.int .i64 m] w (TextDone w tm)) (sa1 : sa.toList.isEmpty = false) (sa2 : (sa.toList == []) = false) (sa3 : ¬ sa.toList = []) (tl : ta.size = 1)
    (q1 : (sa.toList == sb.toList) = q) (q2 : (1 + pa == 1 + pb) = q) (q3 : (pa == pb) = q) (m1 : 1 ≤ m) (m2 : m ≤ 63) (sm1 : sm.toList.isEmpty = false) (sm2 : (sm.toList == []) = false) (sm3 : ¬ sm.toList = []) (tm1 : tm.toList.isEmpty = false) (tm2 : (tm.toList == []) = false) (tm3 : ¬ tm.toList = []) :
    Calls Try.prog 9 #[.int .i64 m, .int .i64 n] w (Says w) := by
  have H1 := Lib.hid p1
  have H2 := Lib.hid p2
  have HA := Lib.hid ha
  have HB := Lib.hid hb
  have HM := Lib.hid hm
  have HF := Lib.hid hf
  have HG := Lib.hid hg
  clear p1 p2 ha hb hm hf hg
  go_enter Try.func9, Try.ntmps9
  go_wp2_with (first
    | (go_at_call 18; (with_reducible refine (awake_any _).mono ?_); rintro e w1 ⟨rfl, hb⟩; have B := Lib.hid hb; clear hb)
    | (go_at_call 22; (first | (with_reducible refine (H1.out _).mono ?_) | (with_reducible refine (H2.out _).mono ?_)); rintro e w' ⟨rfl, rfl⟩)
    | (go_at_call 14; (first | (with_reducible refine (HA.out _).mono ?_) | (with_reducible refine (HB.out _).mono ?_) | (with_reducible refine (HM.out _).mono ?_)); rintro e wn ⟨rfl, hb⟩; have B := Lib.hid (B.out.trans (hb.mono B.out.size)); clear hb)
    | (go_at_call 16; (first | (with_reducible refine (HF.out _).mono ?_) | (with_reducible refine (HG.out _).mono ?_)); rintro e wn ⟨rfl, hb⟩; have B := Lib.hid (B.out.trans (hb.mono B.out.size)); clear hb))
  go_ret
  first
    | exact ⟨rfl, B.out⟩
    | exact ⟨ret_bool (by simp <;> omega), B.out⟩

set_option maxHeartbeats 4000000 in
set_option maxRecDepth 100000 in
theorem names_low (m n pa pb : Int) (sa sb sm ta tm : ByteArray) (q : Bool) (w : World) (p1 : ∀ w, Calls Try.prog 22 #[.int .i64 m, .int .i64 63] w fun e w' => e = .returned (.int .i64 pa) ∧ w = w') (p2 : ∀ w, Calls Try.prog 22 #[.int .i64 n, .int .i64 63] w fun e w' => e = .returned (.int .i64 pb) ∧ w = w')
    (a0 : 0 ≤ pa) (a1 : pa ≤ 62) (b0 : 0 ≤ pb) (b1 : pb ≤ 62) (ha : ∀ w, Calls Try.prog 14 #[.int .i64 (1 + pa)] w (TextDone w sa)) (hb : ∀ w, Calls Try.prog 14 #[.int .i64 (1 + pb)] w (TextDone w sb)) (hm : ∀ w, Calls Try.prog 14 #[.int .i64 m] w (TextDone w ⟨#[]⟩))
    (hf : ∀ w, Calls Try.prog 16 #[.int .i64 (1 + pa)] w (TextDone w ta)) (hg : ∀ w, Calls Try.prog 16 #[.int .i64 m] w (TextDone w ⟨#[]⟩)) (sa1 : sa.toList.isEmpty = false) (sa2 : (sa.toList == []) = false) (sa3 : ¬ sa.toList = []) (tl : ta.size = 1)
    (q1 : (sa.toList == sb.toList) = q) (q2 : (1 + pa == 1 + pb) = q) (q3 : (pa == pb) = q) (m1 : m < 1) :
    Calls Try.prog 9 #[.int .i64 m, .int .i64 n] w (Says w) := by
  have H1 := Lib.hid p1
  have H2 := Lib.hid p2
  have HA := Lib.hid ha
  have HB := Lib.hid hb
  have HM := Lib.hid hm
  have HF := Lib.hid hf
  have HG := Lib.hid hg
  clear p1 p2 ha hb hm hf hg
  go_enter Try.func9, Try.ntmps9
  go_wp2_with (first
    | (go_at_call 18; (with_reducible refine (awake_any _).mono ?_); rintro e w1 ⟨rfl, hb⟩; have B := Lib.hid hb; clear hb)
    | (go_at_call 22; (first | (with_reducible refine (H1.out _).mono ?_) | (with_reducible refine (H2.out _).mono ?_)); rintro e w' ⟨rfl, rfl⟩)
    | (go_at_call 14; (first | (with_reducible refine (HA.out _).mono ?_) | (with_reducible refine (HB.out _).mono ?_) | (with_reducible refine (HM.out _).mono ?_)); rintro e wn ⟨rfl, hb⟩; have B := Lib.hid (B.out.trans (hb.mono B.out.size)); clear hb)
    | (go_at_call 16; (first | (with_reducible refine (HF.out _).mono ?_) | (with_reducible refine (HG.out _).mono ?_)); rintro e wn ⟨rfl, hb⟩; have B := Lib.hid (B.out.trans (hb.mono B.out.size)); clear hb))
  go_ret
  first
    | exact ⟨rfl, B.out⟩
    | exact ⟨ret_bool (by simp <;> omega), B.out⟩

set_option maxHeartbeats 4000000 in
set_option maxRecDepth 100000 in
theorem names_high (m n pa pb : Int) (sa sb sm ta tm : ByteArray) (q : Bool) (w : World) (p1 : ∀ w, Calls Try.prog 22 #[.int .i64 m, .int .i64 63] w fun e w' => e = .returned (.int .i64 pa) ∧ w = w') (p2 : ∀ w, Calls Try.prog 22 #[.int .i64 n, .int .i64 63] w fun e w' => e = .returned (.int .i64 pb) ∧ w = w')
    (a0 : 0 ≤ pa) (a1 : pa ≤ 62) (b0 : 0 ≤ pb) (b1 : pb ≤ 62) (ha : ∀ w, Calls Try.prog 14 #[.int .i64 (1 + pa)] w (TextDone w sa)) (hb : ∀ w, Calls Try.prog 14 #[.int .i64 (1 + pb)] w (TextDone w sb)) (hm : ∀ w, Calls Try.prog 14 #[.int .i64 m] w (TextDone w ⟨#[]⟩))
    (hf : ∀ w, Calls Try.prog 16 #[.int .i64 (1 + pa)] w (TextDone w ta)) (hg : ∀ w, Calls Try.prog 16 #[.int .i64 m] w (TextDone w ⟨#[]⟩)) (sa1 : sa.toList.isEmpty = false) (sa2 : (sa.toList == []) = false) (sa3 : ¬ sa.toList = []) (tl : ta.size = 1)
    (q1 : (sa.toList == sb.toList) = q) (q2 : (1 + pa == 1 + pb) = q) (q3 : (pa == pb) = q) (m1 : 63 < m) (m2 : 1 ≤ m) :
    Calls Try.prog 9 #[.int .i64 m, .int .i64 n] w (Says w) := by
  have H1 := Lib.hid p1
  have H2 := Lib.hid p2
  have HA := Lib.hid ha
  have HB := Lib.hid hb
  have HM := Lib.hid hm
  have HF := Lib.hid hf
  have HG := Lib.hid hg
  clear p1 p2 ha hb hm hf hg
  go_enter Try.func9, Try.ntmps9
  go_wp2_with (first
    | (go_at_call 18; (with_reducible refine (awake_any _).mono ?_); rintro e w1 ⟨rfl, hb⟩; have B := Lib.hid hb; clear hb)
    | (go_at_call 22; (first | (with_reducible refine (H1.out _).mono ?_) | (with_reducible refine (H2.out _).mono ?_)); rintro e w' ⟨rfl, rfl⟩)
    | (go_at_call 14; (first | (with_reducible refine (HA.out _).mono ?_) | (with_reducible refine (HB.out _).mono ?_) | (with_reducible refine (HM.out _).mono ?_)); rintro e wn ⟨rfl, hb⟩; have B := Lib.hid (B.out.trans (hb.mono B.out.size)); clear hb)
    | (go_at_call 16; (first | (with_reducible refine (HF.out _).mono ?_) | (with_reducible refine (HG.out _).mono ?_)); rintro e wn ⟨rfl, hb⟩; have B := Lib.hid (B.out.trans (hb.mono B.out.size)); clear hb))
  go_ret
  first
    | exact ⟨rfl, B.out⟩
    | exact ⟨ret_bool (by simp <;> omega), B.out⟩

theorem names_apart : ∀ i j : Fin 63, ((nameB (i + 1)).toList == (nameB (j + 1)).toList) = (i == j) := by decide +kernel
theorem forms_one : ∀ f : RvForm, (FormStr f).size = 1 ∧ (FormStr f).toList.isEmpty = false := by
  intro f
  cases f <;> exact ⟨by decide +kernel, by decide +kernel⟩
theorem three {s : ByteArray} (h : s.toList.isEmpty = false) : s.toList.isEmpty = false ∧ (s.toList == []) = false ∧ ¬ s.toList = [] := by
  have hs2 : (s.toList == []) = false := by
    cases e : s.toList with
    | nil => rw [e] at h; simp at h
    | cons a l => rfl
  exact ⟨h, hs2, by simpa using hs2⟩
theorem nameV_in {k : Int} (h : 0 ≤ k) (h' : k ≤ 62) : nameV (1 + k) = nameB (k.toNat + 1) := by
  unfold nameV
  rw [if_pos ⟨by omega, by omega⟩]
  congr 1
  omega
theorem formV_in {k : Int} (h : 1 ≤ k) (h' : k ≤ 63) : formV k = FormStr (rvRowN k.toNat).form := by
  unfold formV
  rw [if_pos ⟨h, h'⟩]
theorem names_any (m n : Int) (hm : -9223372036854775808 ≤ m) (hm' : m < 9223372036854775808) (hn : -9223372036854775808 ≤ n) (hn' : n < 9223372036854775808) (w : World) :
    Calls Try.prog 9 #[.int .i64 m, .int .i64 n] w (Says w) := by
  have a0 : 0 ≤ m % 63 := by omega
  have a1 : m % 63 ≤ 62 := by omega
  have b0 : 0 ≤ n % 63 := by omega
  have b1 : n % 63 ≤ 62 := by omega
  have hp := fun w => pick_any m w hm hm'
  have hq := fun w => pick_any n w hn hn'
  generalize m % 63 = pa at *
  generalize n % 63 = pb at *
  obtain ⟨s1, s2, s3⟩ := three (s := nameV (1 + pa)) (by rw [nameV_in a0 a1]; exact names_full ⟨pa.toNat, by omega⟩)
  have tl : (formV (1 + pa)).size = 1 := by rw [formV_in (by omega) (by omega)]; exact (forms_one _).1
  have q1 : ((nameV (1 + pa)).toList == (nameV (1 + pb)).toList) = (pa == pb) := by
    rw [nameV_in a0 a1, nameV_in b0 b1]
    rw [names_apart ⟨pa.toNat, by omega⟩ ⟨pb.toNat, by omega⟩, Bool.eq_iff_iff]
    simp only [beq_iff_eq, Fin.mk.injEq]
    omega
  have q2 : (1 + pa == 1 + pb) = (pa == pb) := by
    rw [Bool.eq_iff_iff]
    simp only [beq_iff_eq]
    omega
  by_cases h1 : m < 1
  · have e1 : nameV m = ⟨#[]⟩ := by unfold nameV; rw [if_neg (by omega)]
    have e2 : formV m = ⟨#[]⟩ := by unfold formV; rw [if_neg (by omega)]
    refine names_low m n pa pb _ _ (nameV m) _ (formV m) _ w hp hq a0 a1 b0 b1 (name_any _) (name_any _) (fun w => ?_) (form_any _) (fun w => ?_) s1 s2 s3 tl q1 q2 rfl h1
    · rw [← e1]; exact name_any m w
    · rw [← e2]; exact form_any m w
  · by_cases h2 : 63 < m
    · have e1 : nameV m = ⟨#[]⟩ := by unfold nameV; rw [if_neg (by omega)]
      have e2 : formV m = ⟨#[]⟩ := by unfold formV; rw [if_neg (by omega)]
      refine names_high m n pa pb _ _ (nameV m) _ (formV m) _ w hp hq a0 a1 b0 b1 (name_any _) (name_any _) (fun w => ?_) (form_any _) (fun w => ?_) s1 s2 s3 tl q1 q2 rfl h2 (by omega)
      · rw [← e1]; exact name_any m w
      · rw [← e2]; exact form_any m w
    · obtain ⟨t1, t2, t3⟩ := three (s := nameV m) (by
        have := nameV_in (k := m - 1) (by omega) (by omega)
        rw [show 1 + (m - 1) = m by omega] at this
        rw [this]
        exact names_full ⟨(m - 1).toNat, by omega⟩)
      obtain ⟨u1, u2, u3⟩ := three (s := formV m) (by rw [formV_in (by omega) (by omega)]; exact (forms_one _).2)
      exact names_in m n pa pb _ _ _ _ _ _ w hp hq a0 a1 b0 b1 (name_any _) (name_any _) (name_any m) (form_any _) (form_any m) s1 s2 s3 tl q1 q2 rfl (by omega) (by omega) t1 t2 t3 u1 u2 u3

end Go.Proofs.Ytcglfbjfllohjaa