/- The landed numbersOfPlaces. Contract; no condition but that the bytes are those of instructions that can be put. -/
import Derived.Test.YtgoedemibdkpdaaGreatSort10
import Derived.Test.YtgoedemibdkpdaaGreatRGoes10
namespace Go.Proofs.YtgoedemibdkpdaaGreat
open Go.RowKit
set_option linter.unusedVariables false
set_option linter.unusedSimpArgs false

theorem make_map (n : Int) (w : World) : (Instr.makeMap 64 (some (.int .i64 n))).run Tryz.prog w = .ok (.map (some w.heap.size)) (w.alloc (.map #[] 0)) := by kernel_rfl
/-- The number of a place, if it is one. -/
def lookV (ps : List Int) (t : Int) : Option Int := if atV ps t < 0 then none else some (atV ps t)
theorem look_next (l : List InsV) {k : Nat} (hk : k < l.length) : (fun j => if j = (placesV l 0).getD k 0 then some (k : Int) else lookV ((placesV l 0).take k) j) = lookV ((placesV l 0).take (k + 1)) := by
  have hk' : k < (placesV l 0).length := by rw [placesV_length]; exact hk
  have e : (placesV l 0).take (k + 1) = (placesV l 0).take k ++ [(placesV l 0).getD k 0] := by
    rw [List.take_add_one, List.getElem?_eq_getElem hk']
    simp [List.getD, List.getElem?_eq_getElem hk']
  have hlen : ((placesV l 0).take k).length = k := by simp; omega
  funext j
  unfold lookV
  rw [e, atV_snoc, hlen]
  by_cases h : j = (placesV l 0).getD k 0
  · rw [if_pos h]
    have h0 : atV ((placesV l 0).take k) j < 0 := by
      rcases Int.lt_or_le (atV ((placesV l 0).take k) j) 0 with h1 | h1
      · exact h1
      · obtain ⟨i, hi⟩ : ∃ i : Nat, atV ((placesV l 0).take k) j = i := ⟨_, (Int.toNat_of_nonneg h1).symm⟩
        have h2 := atV_some hi
        rw [hlen] at h2
        have h3 : ((placesV l 0).take k).getD i 0 = (placesV l 0).getD i 0 := by
          simp [List.getD, List.getElem?_take, h2.1]
        rw [h3, h] at h2
        have := places_inj l (by omega) hk h2.2
        omega
    rw [if_pos h0, if_pos h.symm, if_neg (by omega)]
  · rw [if_neg h]
    by_cases h0 : atV ((placesV l 0).take k) j < 0
    · rw [if_pos h0, if_pos h0, if_neg (show ¬ (placesV l 0).getD k 0 = j from fun hc => h hc.symm), if_pos (show (-1 : Int) < 0 by decide)]
    · rw [if_neg h0, if_neg h0, if_neg h0]
def NumbersDone (w : World) (ps : List Int) (e : Ending) (w' : World) : Prop :=
  Below w.heap.size w w' ∧ ∃ lb n, e = .returned (.map (some lb)) ∧ w.heap.size ≤ lb ∧ Labs w' lb n (lookV ps)
theorem ini_nat {k : Nat} (h : k ≤ 100000) : InI (k : Int) := ⟨by omega, by omega⟩
theorem place_ini {l : List InsV} (h : joinE l = 0) {k : Nat} (hk : k < l.length) : 0 ≤ (placesV l 0).getD k 0 ∧ (placesV l 0).getD k 0 ≤ 4096 := by
  have h1 := (first_all h).2
  have h2 : (allB (l.take k)).length ≤ (allB l).length := by
    have : allB l = allB (l.take k) ++ allB (l.drop k) := by unfold allB; rw [← List.flatMap_append, List.take_append_drop]
    rw [this, List.length_append]
    omega
  rw [placesV_at l 0 hk]
  omega
set_option maxRecDepth 100000 in
set_option maxHeartbeats 4000000 in
theorem numbers_any (X : Value) (l : List InsV) (w : World) (hX : IsBytes w w.heap.size X (allB l)) (hj : joinE l = 0) :
    Calls Tryz.prog 31 #[X] w (NumbersDone w (placesV l 0)) := by
  have hs := split7_any X (allB l) w hX
  rw [split_join hj] at hs
  have hln : l.length ≤ 4096 := by have := all_length l; have := (first_all hj).2; omega
  have HP := Lib.hid (fun k hk => place_ini (k := k) hj hk)
  obtain ⟨ps, hps⟩ : ∃ ps, ps = placesV l 0 := ⟨_, rfl⟩
  obtain ⟨n, hn⟩ : ∃ n, n = l.length := ⟨_, rfl⟩
  have hpl : ps.length = n := by rw [hps, placesV_length, hn]
  have HNX := Lib.hid (fun k hk => look_next l (k := k) hk)
  rw [← hps] at hs HP HNX ⊢
  rw [← hn] at hln HP HNX
  have HS := Lib.hid hs
  have HPL := Lib.hid hpl
  clear hs hX hj hps hn
  have hmm := make_map
  have HLN := Lib.hid hln
  have hln' : (n : Int) ≤ 4096 := by omega
  go_enter Tryz.func31, Tryz.ntmps31
  go_wp2_with (go_at_call 45; (with_reducible refine HS.out.mono ?_); rintro e w1 ⟨hb, ⟨hbad, _⟩ | ⟨_, V1, P1, Xs1, rfl, hc, hp⟩⟩; exact absurd rfl hbad; dsimp only at hc hp; obtain ⟨pA, pc, hpe⟩ := owns_len hp; rw [HPL.out] at hpe; have hp1 := IsNums.of_owns hp (Nat.le_refl _); rw [hpe] at hp1; subst hpe; have HB1 := Lib.hid hb; have HP1 := Lib.hid hp1; clear hb hc hp hp1)
  obtain ⟨W1, hW1⟩ : ∃ W1, W1 = (w1.alloc (.cells #[.int .i64 0, .int .i64 0] 75)).alloc (.map #[] 0) := ⟨_, rfl⟩
  have hbw : Below w.heap.size w W1 := by rw [hW1]; exact (HB1.out.alloc HB1.out.size _).alloc (by have := HB1.out.size; simp; omega) _
  have hb1w : Below w1.heap.size w1 W1 := by rw [hW1]; exact ((Below.refl _ _).alloc (Nat.le_refl _) _).alloc (by simp) _
  have hlab : Labs W1 (w1.heap.size + 1) 0 (fun _ => none) := by
    have := Labs.made (w1.alloc (.cells #[.int .i64 0, .int .i64 0] 75))
    rw [← hW1] at this
    simpa using this
  have HBW := Lib.hid hbw
  have HPW := Lib.hid ((HP1.out.below hb1w (Nat.le_refl _)).more (Nat.le_succ _))
  have HLB := Lib.hid hlab
  have HSZ := Lib.hid (show w.heap.size ≤ w1.heap.size + 1 by have := HB1.out.size; omega)
  have HW1 := Lib.hid hW1
  have HS1 := Lib.hid (show w1.heap.size + 1 ≤ W1.heap.size by rw [hW1]; simp)
  clear hbw hb1w hlab
  go_loopw [20] (fun i wr => ∃ k : Nat, k ≤ n ∧ i = .int .i64 k ∧ Hid (Labs wr (w1.heap.size + 1) k (lookV (ps.take k)) ∧ But (OneBlock (w1.heap.size + 1)) W1 wr)) (fun i _ => n - (intOf i).toNat)
  case atStart => exact ⟨0, by omega, rfl, ⟨by rw [← hW1, List.take_zero, show lookV [] = fun _ => none from by funext t; simp [lookV, atV]]; exact HLB.out, by rw [← hW1]; exact But.refl _ _⟩⟩
  case round =>
    clear hW1
    obtain ⟨k, hk, rfl, HR⟩ := hrel
    obtain ⟨hl, hb⟩ := HR.out
    have HL := Lib.hid hl
    have HB := Lib.hid hb
    clear HR hl hb
    by_cases hlt : k < n
    · have hpw := HPW.out.but HB.out HS1.out (fun j hj hc => absurd (show j = w1.heap.size + 1 from hc) (by omega))
      obtain ⟨b, off, cap', hV, _, hbB, hcl⟩ := hpw.plain (by rw [HPL.out]; omega)
      rw [HPL.out] at hV
      cases hV
      have hcell := hcl k (by rw [HPL.out]; exact hlt)
      have hbd := HP.out k hlt
      have HIN := Lib.hid (show InI (ps.getD k 0) from ⟨by omega, by omega⟩)
      have HIK := Lib.hid (ini_nat (k := k) (by omega))
      have HMX := Lib.hid (show k < maxLen by unfold maxLen; omega)
      have HN1 := Lib.hid (HNX.out k hlt)
      generalize ps.getD k 0 = pk at *
      have k0 : (0 : Int) ≤ (k : Int) := by omega
      have k1 : (k : Int) < (n : Int) := by omega
      clear hcl hpw hbd hbB
      go_wp2_with (at_mapUpdate; refine labs_put _ rfl _ _ _ rfl rfl HL.out HMX.out rfl rfl HIN.out HIK.out ?_; intro w2 hl2 hb2; have HL2 := Lib.hid hl2; have HB2 := Lib.hid (HB.out.trans hb2); clear hl2 hb2)
      go_roundw
      case rel => exact ⟨k + 1, by omega, by go_num, ⟨by rw [← HN1.out]; exact HL2.out, HB2.out⟩⟩
      case measure => simp [intOf]; omega
    · obtain rfl : k = n := by omega
      have htk : ps.take k = ps := by rw [← HPL.out]; exact List.take_length
      have HTK := Lib.hid htk
      clear htk
      go_wp2
      go_ret
      exact ⟨But.below HBW.out HB.out HBW.out.size (fun j hj => by rw [show j = w1.heap.size + 1 from hj]; exact HSZ.out), _, _, rfl, HSZ.out, by have := HL.out; rw [HTK.out] at this; exact this⟩
end Go.Proofs.YtgoedemibdkpdaaGreat
