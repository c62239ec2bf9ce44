/- The body of the statement that each operation has a name of its own, by which it is found. Contract; no condition but that a text is no longer than any can be, and that numbers are the machine's. -/
import Derived.Test.YtbcfdjpnckikdaaLawsA06
namespace Go.Proofs.Ytbcfdjpnckikdaa
open Go.RowKit
set_option linter.unusedVariables false
set_option linter.unusedSimpArgs false

/-- The choice that a number says. -/
def pickV (x n : Int) : Int := (x.tmod n + n).tmod n
theorem pick_bd {x n : Int} (hn : 0 < n) : 0 ≤ pickV x n ∧ pickV x n < n := by
  unfold pickV
  have h1 : -n < x.tmod n := by
    have := Int.lt_tmod_of_pos x hn
    omega
  have h2 : 0 ≤ x.tmod n + n := by omega
  rw [Int.tmod_eq_emod_of_nonneg h2]
  exact ⟨Int.emod_nonneg _ (by omega), Int.emod_lt_of_pos _ hn⟩
theorem pick_any (x n : Int) (w : World) (hn : 0 < n) (hn' : n ≤ 1000000) (hx : -9223372036854775808 ≤ x) (hx' : x < 9223372036854775808) :
    Calls Try.prog 27 #[.int .i64 x, .int .i64 n] w fun e w' => e = .returned (.int .i64 (pickV x n)) ∧ w = w' := by
  have h1 : -n < x.tmod n := by
    have := Int.lt_tmod_of_pos x hn
    omega
  have h2 : x.tmod n < n := Int.tmod_lt_of_pos x hn
  have e : wrap64 (x.tmod n + n) = x.tmod n + n := by
    generalize x.tmod n = y at h1 h2
    unfold wrap64
    omega
  have E := Lib.hid e
  have n0 : (n == 0) = false := by simpa using (by omega : ¬ n = 0)
  clear e h1 h2
  go_enter Try.func27, Try.ntmps27
  go_wp2
  go_ret
  exact ⟨ret_int (by rw [E.out]; rfl), rfl⟩

theorem name_closed : (List.range 33).all (fun k => (findD (nameB k) == (k : Int)) && !(nameB k).data.toList.isEmpty) = true := by decide +kernel
theorem name_found {k : Nat} (h : k < 33) : findV (nameB k) = k ∧ (nameB k).toList ≠ [] := by
  have h1 := List.all_eq_true.1 name_closed k (List.mem_range.2 h)
  simp only [Bool.and_eq_true, beq_iff_eq] at h1
  refine ⟨by rw [find_data]; exact h1.1, fun h2 => ?_⟩
  rw [ByteArray.toList_eq] at h2
  rw [h2] at h1
  simp at h1
theorem find_texts {s t : ByteArray} (h : s.toList = t.toList) : findV s = findV t := by
  unfold findV
  rw [h]
theorem name_own {i j : Nat} (hi : i < 33) (hj : j < 33) (h : (nameB i).toList = (nameB j).toList) : i = j := by
  have h1 := (name_found hi).1
  have h2 := (name_found hj).1
  rw [find_texts h] at h1
  omega
set_option maxHeartbeats 4000000 in
theorem found_any (a b : Int) (s : ByteArray) (w : World) (ha : -9223372036854775808 ≤ a ∧ a < 9223372036854775808) (hb : -9223372036854775808 ≤ b ∧ b < 9223372036854775808) (hs : s.size ≤ maxLen) :
    Calls Try.prog 6 #[.int .i64 a, .int .i64 b, .string s] w (Makes w (.bool true)) := by
  unfold maxLen at hs
  have HK := Lib.hid (fun w => known_any w)
  have hpa := fun w => pick_any a 33 w (by decide) (by decide) ha.1 ha.2
  have hpb := fun w => pick_any b 33 w (by decide) (by decide) hb.1 hb.2
  have hia := pick_bd (x := a) (n := 33) (by decide)
  have hib := pick_bd (x := b) (n := 33) (by decide)
  obtain ⟨i, hi⟩ : ∃ i : Nat, pickV a 33 = i := ⟨(pickV a 33).toNat, by omega⟩
  obtain ⟨j, hj⟩ : ∃ j : Nat, pickV b 33 = j := ⟨(pickV b 33).toNat, by omega⟩
  rw [hi] at hpa hia
  rw [hj] at hpb hib
  have hi33 : i < 33 := by omega
  have hj33 : j < 33 := by omega
  have HPA := Lib.hid hpa
  have HPB := Lib.hid hpb
  have HNA := Lib.hid (fun w => name_yes hi33 w)
  have HNB := Lib.hid (fun w => name_yes hj33 w)
  have hfi := fun w => find_any (nameB i) w
  rw [(name_found hi33).1] at hfi
  have HFI := Lib.hid hfi
  have hne := (name_found hi33).2
  have HOW := Lib.hid (fun h => name_own hi33 hj33 h)
  obtain ⟨x, hx⟩ : ∃ x, x = nameB i := ⟨_, rfl⟩
  obtain ⟨y, hy⟩ : ∃ y, y = nameB j := ⟨_, rfl⟩
  rw [← hx] at HNA HFI hne HOW
  rw [← hy] at HNB HOW
  have e1 : x.toList.isEmpty = false := by
    cases h : x.toList with
    | nil => exact absurd h hne
    | cons u us => rfl
  have e2 : (x.toList == []) = false := by rw [beq_eq_false_iff_ne]; exact hne
  have HF := Lib.hid (fun w => find_any s w)
  have HFB := Lib.hid (find_bd s)
  have HXY := Lib.hid (And.intro hx hy)
  clear hpa hpb hia hib hi hj hfi hne hx hy ha hb
  by_cases hij : i = j
  · subst hij
    have hyx : y = x := HXY.out.2.trans HXY.out.1.symm
    subst hyx
    clear HXY HOW
    by_cases hl : 100 < s.size
    · go_enter Try.func6, Try.ntmps6
      go_wp2_with (first
        | (go_at_call 5; (with_reducible refine (HK.out _).mono ?_); rintro e w1 ⟨rfl, hb⟩; have B1 := Lib.hid hb; clear hb)
        | (go_at_call 27; (with_reducible refine (HPA.out _).mono ?_); rintro e w2 ⟨rfl, rfl⟩)
        | (go_at_call 27; (with_reducible refine (HPB.out _).mono ?_); rintro e w2 ⟨rfl, rfl⟩)
        | (go_at_call 9; (with_reducible refine (HNA.out _).mono ?_); rintro e w3 ⟨rfl, hb⟩; have B1 := Lib.hid (B1.out.trans (hb.mono B1.out.size)); clear hb)
        | (go_at_call 9; (with_reducible refine (HNB.out _).mono ?_); rintro e w3 ⟨rfl, hb⟩; have B1 := Lib.hid (B1.out.trans (hb.mono B1.out.size)); clear hb)
        | (go_at_call 13; (with_reducible refine (HFI.out _).mono ?_); rintro e w3 ⟨rfl, hb⟩; have B1 := Lib.hid (B1.out.trans (hb.mono B1.out.size)); clear hb))
      go_ret
      exact ⟨rfl, B1.out⟩
    · rcases HFB.out with hm | ⟨k, hk, hm, ht⟩
      · have HF' : Hid (∀ w, Calls Try.prog 13 #[.string s] w (Makes w (.int .i64 (-1)))) := Lib.hid (fun w => by rw [← hm]; exact HF.out w)
        clear HF hm
        go_enter Try.func6, Try.ntmps6
        go_wp2_with (first
        | (go_at_call 5; (with_reducible refine (HK.out _).mono ?_); rintro e w1 ⟨rfl, hb⟩; have B1 := Lib.hid hb; clear hb)
        | (go_at_call 27; (with_reducible refine (HPA.out _).mono ?_); rintro e w2 ⟨rfl, rfl⟩)
        | (go_at_call 27; (with_reducible refine (HPB.out _).mono ?_); rintro e w2 ⟨rfl, rfl⟩)
        | (go_at_call 9; (with_reducible refine (HNA.out _).mono ?_); rintro e w3 ⟨rfl, hb⟩; have B1 := Lib.hid (B1.out.trans (hb.mono B1.out.size)); clear hb)
        | (go_at_call 9; (with_reducible refine (HNB.out _).mono ?_); rintro e w3 ⟨rfl, hb⟩; have B1 := Lib.hid (B1.out.trans (hb.mono B1.out.size)); clear hb)
        | (go_at_call 13; (with_reducible refine (HFI.out _).mono ?_); rintro e w3 ⟨rfl, hb⟩; have B1 := Lib.hid (B1.out.trans (hb.mono B1.out.size)); clear hb)
        | (go_at_call 13; (with_reducible refine (HF'.out _).mono ?_); rintro e w4 ⟨rfl, hb⟩; have B1 := Lib.hid (B1.out.trans (hb.mono B1.out.size)); clear hb))
        go_ret
        exact ⟨rfl, B1.out⟩
      · have HF' : Hid (∀ w, Calls Try.prog 13 #[.string s] w (Makes w (.int .i64 k))) := Lib.hid (fun w => by rw [← hm]; exact HF.out w)
        have HNK := Lib.hid (fun w => name_yes hk w)
        obtain ⟨z, hz⟩ : ∃ z, z = nameB k := ⟨_, rfl⟩
        rw [← hz] at HNK ht
        have e5 : (z.toList == s.toList) = true := by rw [ht]; simp
        have k0 : (0 : Int) ≤ (k : Int) := by omega
        have e6 : ((k : Int) == -1) = false := by (simp <;> omega)
        clear HF hm hz ht
        go_enter Try.func6, Try.ntmps6
        go_wp2_with (first
        | (go_at_call 5; (with_reducible refine (HK.out _).mono ?_); rintro e w1 ⟨rfl, hb⟩; have B1 := Lib.hid hb; clear hb)
        | (go_at_call 27; (with_reducible refine (HPA.out _).mono ?_); rintro e w2 ⟨rfl, rfl⟩)
        | (go_at_call 27; (with_reducible refine (HPB.out _).mono ?_); rintro e w2 ⟨rfl, rfl⟩)
        | (go_at_call 9; (with_reducible refine (HNA.out _).mono ?_); rintro e w3 ⟨rfl, hb⟩; have B1 := Lib.hid (B1.out.trans (hb.mono B1.out.size)); clear hb)
        | (go_at_call 9; (with_reducible refine (HNB.out _).mono ?_); rintro e w3 ⟨rfl, hb⟩; have B1 := Lib.hid (B1.out.trans (hb.mono B1.out.size)); clear hb)
        | (go_at_call 13; (with_reducible refine (HFI.out _).mono ?_); rintro e w3 ⟨rfl, hb⟩; have B1 := Lib.hid (B1.out.trans (hb.mono B1.out.size)); clear hb)
        | (go_at_call 13; (with_reducible refine (HF'.out _).mono ?_); rintro e w4 ⟨rfl, hb⟩; have B1 := Lib.hid (B1.out.trans (hb.mono B1.out.size)); clear hb)
        | (go_at_call 9; (with_reducible refine (HNK.out _).mono ?_); rintro e w5 ⟨rfl, hb⟩; have B1 := Lib.hid (B1.out.trans (hb.mono B1.out.size)); clear hb))
        go_ret
        exact ⟨rfl, B1.out⟩
  · have e3 : ((i : Int) == (j : Int)) = false := by simp; omega
    have e4 : (x.toList == y.toList) = false := by
      rw [beq_eq_false_iff_ne]
      exact fun h => hij (HOW.out h)
    have e7 : decide (i = j) = false := decide_eq_false hij
    clear HXY HOW
    by_cases hl : 100 < s.size
    · go_enter Try.func6, Try.ntmps6
      go_wp2_with (first
        | (go_at_call 5; (with_reducible refine (HK.out _).mono ?_); rintro e w1 ⟨rfl, hb⟩; have B1 := Lib.hid hb; clear hb)
        | (go_at_call 27; (with_reducible refine (HPA.out _).mono ?_); rintro e w2 ⟨rfl, rfl⟩)
        | (go_at_call 27; (with_reducible refine (HPB.out _).mono ?_); rintro e w2 ⟨rfl, rfl⟩)
        | (go_at_call 9; (with_reducible refine (HNA.out _).mono ?_); rintro e w3 ⟨rfl, hb⟩; have B1 := Lib.hid (B1.out.trans (hb.mono B1.out.size)); clear hb)
        | (go_at_call 9; (with_reducible refine (HNB.out _).mono ?_); rintro e w3 ⟨rfl, hb⟩; have B1 := Lib.hid (B1.out.trans (hb.mono B1.out.size)); clear hb)
        | (go_at_call 13; (with_reducible refine (HFI.out _).mono ?_); rintro e w3 ⟨rfl, hb⟩; have B1 := Lib.hid (B1.out.trans (hb.mono B1.out.size)); clear hb))
      go_ret
      exact ⟨rfl, B1.out⟩
    · rcases HFB.out with hm | ⟨k, hk, hm, ht⟩
      · have HF' : Hid (∀ w, Calls Try.prog 13 #[.string s] w (Makes w (.int .i64 (-1)))) := Lib.hid (fun w => by rw [← hm]; exact HF.out w)
        clear HF hm
        go_enter Try.func6, Try.ntmps6
        go_wp2_with (first
        | (go_at_call 5; (with_reducible refine (HK.out _).mono ?_); rintro e w1 ⟨rfl, hb⟩; have B1 := Lib.hid hb; clear hb)
        | (go_at_call 27; (with_reducible refine (HPA.out _).mono ?_); rintro e w2 ⟨rfl, rfl⟩)
        | (go_at_call 27; (with_reducible refine (HPB.out _).mono ?_); rintro e w2 ⟨rfl, rfl⟩)
        | (go_at_call 9; (with_reducible refine (HNA.out _).mono ?_); rintro e w3 ⟨rfl, hb⟩; have B1 := Lib.hid (B1.out.trans (hb.mono B1.out.size)); clear hb)
        | (go_at_call 9; (with_reducible refine (HNB.out _).mono ?_); rintro e w3 ⟨rfl, hb⟩; have B1 := Lib.hid (B1.out.trans (hb.mono B1.out.size)); clear hb)
        | (go_at_call 13; (with_reducible refine (HFI.out _).mono ?_); rintro e w3 ⟨rfl, hb⟩; have B1 := Lib.hid (B1.out.trans (hb.mono B1.out.size)); clear hb)
        | (go_at_call 13; (with_reducible refine (HF'.out _).mono ?_); rintro e w4 ⟨rfl, hb⟩; have B1 := Lib.hid (B1.out.trans (hb.mono B1.out.size)); clear hb))
        go_ret
        exact ⟨rfl, B1.out⟩
      · have HF' : Hid (∀ w, Calls Try.prog 13 #[.string s] w (Makes w (.int .i64 k))) := Lib.hid (fun w => by rw [← hm]; exact HF.out w)
        have HNK := Lib.hid (fun w => name_yes hk w)
        obtain ⟨z, hz⟩ : ∃ z, z = nameB k := ⟨_, rfl⟩
        rw [← hz] at HNK ht
        have e5 : (z.toList == s.toList) = true := by rw [ht]; simp
        have k0 : (0 : Int) ≤ (k : Int) := by omega
        have e6 : ((k : Int) == -1) = false := by (simp <;> omega)
        clear HF hm hz ht
        go_enter Try.func6, Try.ntmps6
        go_wp2_with (first
        | (go_at_call 5; (with_reducible refine (HK.out _).mono ?_); rintro e w1 ⟨rfl, hb⟩; have B1 := Lib.hid hb; clear hb)
        | (go_at_call 27; (with_reducible refine (HPA.out _).mono ?_); rintro e w2 ⟨rfl, rfl⟩)
        | (go_at_call 27; (with_reducible refine (HPB.out _).mono ?_); rintro e w2 ⟨rfl, rfl⟩)
        | (go_at_call 9; (with_reducible refine (HNA.out _).mono ?_); rintro e w3 ⟨rfl, hb⟩; have B1 := Lib.hid (B1.out.trans (hb.mono B1.out.size)); clear hb)
        | (go_at_call 9; (with_reducible refine (HNB.out _).mono ?_); rintro e w3 ⟨rfl, hb⟩; have B1 := Lib.hid (B1.out.trans (hb.mono B1.out.size)); clear hb)
        | (go_at_call 13; (with_reducible refine (HFI.out _).mono ?_); rintro e w3 ⟨rfl, hb⟩; have B1 := Lib.hid (B1.out.trans (hb.mono B1.out.size)); clear hb)
        | (go_at_call 13; (with_reducible refine (HF'.out _).mono ?_); rintro e w4 ⟨rfl, hb⟩; have B1 := Lib.hid (B1.out.trans (hb.mono B1.out.size)); clear hb)
        | (go_at_call 9; (with_reducible refine (HNK.out _).mono ?_); rintro e w5 ⟨rfl, hb⟩; have B1 := Lib.hid (B1.out.trans (hb.mono B1.out.size)); clear hb))
        go_ret
        exact ⟨rfl, B1.out⟩

end Go.Proofs.Ytbcfdjpnckikdaa
