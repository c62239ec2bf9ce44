/- The statement MemApart's body is true, for any bytes, place, size and number, whatever memory the call begins in. -/
import Derived.Test.YthcefpakjkojgaaNumMath
import Derived.Test.YthcefpakjkojgaaMemG
namespace Go.Proofs.Ythcefpakjkojgaa
open Go.RowKit
set_option linter.unusedVariables false

/-- The memory of the statement: 200 bytes, some of them laid. -/
def apL (ys : List Int) : List Int := layL (List.replicate 200 0) 16 ys
theorem apL_len {ys : List Int} (h : ys.length ≤ 100) : (apL ys).length = 200 := by
  unfold apL
  rw [layL_len (by rw [List.length_replicate]; omega), List.length_replicate]
theorem apL_bd {ys : List Int} (h : ∀ x ∈ ys, 0 ≤ x ∧ x < 256) : ∀ x ∈ apL ys, 0 ≤ x ∧ x < 256 := layL_bd _ (replicate_bd 200) h
theorem apL_in {ys : List Int} {a m j : Nat} (hy : ys.length ≤ 100) (hj : j < m) (ha : a + j < ys.length) : (partL (apL ys) ((16 + a : Nat) : Int) m).getD j 0 = ys.getD (a + j) 0 := by
  rw [getD_part hj]
  unfold apL
  rw [getD_lay (by rw [List.length_replicate]; omega), if_neg (by omega), if_pos (by omega)]
  congr 1
  omega
theorem apL_out {ys : List Int} {a m j : Nat} (hy : ys.length ≤ 100) (hj : j < m) (ha : ¬ a + j < ys.length) : (partL (apL ys) ((16 + a : Nat) : Int) m).getD j 0 = 0 := by
  rw [getD_part hj]
  unfold apL
  rw [getD_lay (by rw [List.length_replicate]; omega), if_neg (by omega), if_neg (by omega)]
  simp only [List.getD_eq_getElem?_getD, List.getElem?_replicate]
  split <;> rfl
theorem ap_lay {mb bb c B : Nat} {w : World} {Y : Value} {ys : List Int} (h : MemAt w mb bb c (List.replicate 200 0)) (hY : IsBytes w B Y ys) (hy : ys.length ≤ 100) : Calls Try.prog 20 #[.pointer (some ⟨mb, 0, none⟩), .int .u64 16, Y] w (StoreDone w mb bb c (apL ys) 0) := by
  have e : accE (List.replicate 200 (0 : Int)).length 16 ys.length = 0 := accE_ok (by omega) (by omega) (by rw [List.length_replicate]; omega) (by rw [List.length_replicate]; omega)
  have := lay_any h 16 hY (by decide) (by decide)
  unfold layB at this
  rw [if_pos e, e] at this
  exact this

/-- Not gone through: no bytes, or more than 100. -/
theorem apart_odd (Y : Value) (ys : List Int) (a n v : Int) (w : World) (B : Nat) (hY : IsBytes w B Y ys) (h : ys.length = 0 ∨ 100 < ys.length) :
    Calls Try.prog 7 #[Y, .int .i64 a, .int .i64 n, .int .u64 v] w fun e w' => e = .returned (.bool true) ∧ Below w.heap.size w w' := by
  obtain ⟨A, cap, rfl, hb⟩ := isBytes_value hY
  obtain ⟨m, hm⟩ : ∃ m, m = ys.length := ⟨_, rfl⟩
  rw [← hm] at h hb ⊢
  clear hY hm
  rcases h with rfl | h
  · go_enter Try.func7, Try.ntmps7
    go_wp2_with (first
      | (go_at_call 9; (with_reducible refine (awake_any _).mono ?_); rintro e w1 ⟨rfl, hb⟩; have HB := Lib.hid hb; clear hb)
      | (go_at_call 21; refine (made_yes 200 _ (by decide) (by decide)).mono ?_; rintro e w2 ⟨mb, bb, c, rfl, hm, h1, h2, hb⟩; have HB2 := Lib.hid hb; clear hm hb))
    go_ret
    exact ⟨rfl, below_next HB.out HB2.out HB.out.size⟩
  · have h0 : ((m : Int) == 0) = false := by simpa using (by omega : ¬ m = 0)
    have h1 : (100 : Int) < m := by omega
    clear h
    go_enter Try.func7, Try.ntmps7
    go_wp2_with (first
      | (go_at_call 9; (with_reducible refine (awake_any _).mono ?_); rintro e w1 ⟨rfl, hb⟩; have HB := Lib.hid hb; clear hb)
      | (go_at_call 21; refine (made_yes 200 _ (by decide) (by decide)).mono ?_; rintro e w2 ⟨mb, bb, c, rfl, hm, h1, h2, hb⟩; have HB2 := Lib.hid hb; clear hm hb))
    go_ret
    exact ⟨rfl, below_next HB.out HB2.out HB.out.size⟩
theorem num_part {mb bb c : Nat} {w : World} {xs : List Int} (h : MemAt w mb bb c xs) (k m : Nat) (hk : 16 ≤ k) (hkm : k + m ≤ xs.length) (hs : sizedB m = true) : numE xs.length k m = 0 ∧ loadV xs k m = numV (partL xs k m) := by
  have e : numE xs.length k m = 0 := by unfold numE; rw [if_pos hs, accE_ok (by omega) (by omega) (by omega) (by omega)]
  exact ⟨e, by unfold loadV; rw [if_pos e]⟩

set_option maxRecDepth 100000 in
set_option maxHeartbeats 16000000 in
theorem apart_walk (b off cap L : Nat) (ys : List Int) (a0 n0 v p : Int) (m at' : Nat) (w : World) (hv : 0 ≤ v) (hv' : v < 18446744073709551616)
    (hL : L = ys.length) (h0 : 0 < L) (h1 : L ≤ 100) (hY : IsBytes w w.heap.size (.slice (some ⟨b, off, none⟩) L cap) ys) (hbs : b < w.heap.size) (hcap : L ≤ cap)
    (hc : ∀ i, i < L → w.cell? ⟨b, off + i, none⟩ = some (.int .u8 (ys.getD i 0)))
    (hp1 : ∀ w, Calls Try.prog 25 #[.int .i64 n0, .int .i64 4] w fun e w' => e = .returned (.int .i64 p) ∧ w = w')
    (hp2 : ∀ w, Calls Try.prog 25 #[.int .i64 a0, .int .i64 L] w fun e w' => e = .returned (.int .i64 at') ∧ w = w')
    (hsh : ∀ w, (Op.shift .shl .i64 1 .i64 p).run Try.prog w = .ok (.int .i64 m) w) (hs : sizedB m = true) (hat : at' < L) :
    Calls Try.prog 7 #[.slice (some ⟨b, off, none⟩) L cap, .int .i64 a0, .int .i64 n0, .int .u64 v] w fun e w' => e = .returned (.bool true) ∧ Below w.heap.size w w' := by
  have hm8 : 1 ≤ m ∧ m ≤ 8 := by rcases sized_cases hs with h | h | h | h <;> omega
  obtain ⟨hm1, hm8⟩ := hm8
  have hbd := hY.1
  have HL := Lib.hid hL
  have HY := Lib.hid hY
  have HC := Lib.hid hc
  have HP1 := Lib.hid hp1
  have HP2 := Lib.hid hp2
  have HS := Lib.hid hs
  have HBD := Lib.hid hbd
  have b0 : ((L : Int) == 0) = false := by simpa using (by omega : ¬ L = 0)
  have b1 : ¬ (100 : Int) < (L : Int) := by omega
  clear hL hY hc hp1 hp2 hs hbd
  go_enter Try.func7, Try.ntmps7
  go_wp2_with (first
    | (go_at_call 9; (with_reducible refine (awake_any _).mono ?_); rintro e w1 ⟨rfl, hb⟩; have HB1 := Lib.hid hb; have s1 := hb.size; clear hb)
    | (go_at_call 21; refine (made_yes 200 _ (by decide) (by decide)).mono ?_; rintro e w2 ⟨mb, bb, c, rfl, hm, g1, g2, hb⟩; have HM2 := Lib.hid hm; have HB2 := Lib.hid (below_next HB1.out hb s1); have s2 := HB2.out.size; have HL2 := Lib.hid (ap_lay hm (HY.out.below HB2.out (Nat.le_refl _)) (by rw [← HL.out]; exact h1)); clear hm hb)
    | (go_at_call 20; (with_reducible refine HL2.out.mono ?_); rintro e w3 ⟨rfl, hm, hb⟩; have HM3 := Lib.hid hm; have HB3 := Lib.hid (below_store HB2.out hb s2 (Nat.le_trans s1 g2)); have s3 := HB3.out.size; clear hm hb)
    | (go_at_call 25; (with_reducible refine (HP1.out _).mono ?_); rintro e w' ⟨rfl, rfl⟩)
    | (go_at_call 25; (with_reducible refine (HP2.out _).mono ?_); rintro e w' ⟨rfl, rfl⟩))
  have hcells : ∀ i, i < L → w3.cell? ⟨b, off + i, none⟩ = some (.int .u8 (ys.getD i 0)) := fun i hi => by rw [HB3.out.cell (p := ⟨b, off + i, none⟩) hbs]; exact HC.out i hi
  have HC3 := Lib.hid hcells
  have hlen := partL_len (xs := apL ys) (k := 16 + at') (m := m) (by rw [apL_len (by rw [← HL.out]; exact h1)]; omega)
  have hpb := partL_bd (apL_bd HBD.out) ((16 + at' : Nat) : Int) m
  obtain ⟨P, hP⟩ : ∃ P, P = partL (apL ys) ((16 + at' : Nat) : Int) m := ⟨_, rfl⟩
  rw [← hP] at hlen hpb
  have HLEN := Lib.hid hlen
  have HPB := Lib.hid hpb
  have HPE := Lib.hid hP
  clear hcells hlen hpb hP
  go_loop [11, 12] (fun x i => ∃ k : Nat, k ≤ m ∧ i = .int .i64 ((k : Int) - 1) ∧ x = .int .u64 (numV (P.drop k))) (fun _ i => (intOf i + 1).toNat)
  case atStart => exact ⟨m, by omega, rfl, by rw [List.drop_of_length_le (by have := HLEN.out; omega)]; rfl⟩
  case round =>
    obtain ⟨k, hk, rfl, rfl⟩ := hrel
    by_cases hlt : 0 < k
    · obtain ⟨j, rfl⟩ : ∃ j, k = j + 1 := ⟨k - 1, by omega⟩
      have hst : numV (P.drop j) = P.getD j 0 + 256 * numV (P.drop (j + 1)) := by rw [drop_cons' (k := j) (by have := HLEN.out; omega)]; rfl
      obtain ⟨y1, y2⟩ := getD_bd HPB.out (k := j) (by have := HLEN.out; omega)
      obtain ⟨z1, z2⟩ : 0 ≤ numV (P.drop (j + 1)) ∧ 256 * numV (P.drop (j + 1)) + 255 < 18446744073709551616 := by
        rcases drop_bd HPB.out (by have := HLEN.out; omega) j with h | h
        · exact h
        · have := HLEN.out; omega
      by_cases hin : at' + j < L
      · have hyy : P.getD j 0 = ys.getD (at' + j) 0 := by rw [HPE.out]; exact apL_in (by rw [← HL.out]; exact h1) (by omega) (by rw [← HL.out]; exact hin)
        have hcell := HC3.out (at' + j) hin
        rw [← hyy] at hcell
        obtain ⟨y, hy⟩ : ∃ y, y = P.getD j 0 := ⟨_, rfl⟩
        obtain ⟨z, hz⟩ : ∃ z, z = numV (P.drop (j + 1)) := ⟨_, rfl⟩
        rw [← hy] at hcell y1 y2 hst
        rw [← hz] at z1 z2 hst ⊢
        have HST := Lib.hid hst
        have e1 : ((j + 1 : Nat) : Int) - 1 = (j : Int) := by omega
        rw [e1]
        have i1 : (at' : Int) + (j : Int) < (L : Int) := by omega
        clear hst hy hz e1 hyy
        go_wp2
        go_round
        case rel => exact ⟨j, by omega, by go_num, by rw [HST.out]; first | done | (congr 1; omega)⟩
        case measure => simp [intOf]
      · have hy : P.getD j 0 = 0 := by rw [HPE.out]; exact apL_out (by rw [← HL.out]; exact h1) (by omega) (by rw [← HL.out]; exact hin)
        rw [hy] at hst
        obtain ⟨z, hz⟩ : ∃ z, z = numV (P.drop (j + 1)) := ⟨_, rfl⟩
        rw [← hz] at z1 z2 hst ⊢
        have HST := Lib.hid hst
        have e1 : ((j + 1 : Nat) : Int) - 1 = (j : Int) := by omega
        rw [e1]
        have i1 : ¬ (at' : Int) + (j : Int) < (L : Int) := by omega
        clear hst hy hz e1 hin y1 y2
        go_wp2
        go_round
        case rel => exact ⟨j, by omega, by go_num, by rw [HST.out]; first | done | (congr 1; omega)⟩
        case measure => simp [intOf]
    · obtain rfl : k = 0 := by omega
      have hx : numV (P.drop 0) = numV P := by rw [List.drop_zero]
      rw [hx]
      have e16 : ((16 + at' : Nat) : Int) = 16 + (at' : Int) := by omega
      have hl200 : (apL ys).length = 200 := apL_len (by rw [← HL.out]; exact h1)
      have hfit : 16 + at' + m ≤ (apL ys).length := by omega
      have hwant := num_part HM3.out (16 + at') m (by omega) hfit HS.out
      rw [← HPE.out] at hwant
      have hcut := cut_low v m
      obtain ⟨z, hz⟩ : ∃ z, z = cutV v m := ⟨_, rfl⟩
      obtain ⟨x, hx⟩ : ∃ x, x = numV P := ⟨_, rfl⟩
      rw [← hx] at hwant ⊢
      rw [← hz] at hcut
      have hzb : z = numV (bytesV v m) := by rw [hz]; exact cutV_num hv hv' HS.out
      have hmc : m = 1 ∨ m = 2 ∨ m = 4 ∨ m = 8 := by rcases sized_cases HS.out with h | h | h | h <;> omega
      have HCUT := Lib.hid (fun w => hcut w hv hv' hmc)
      have HL1 : ∀ w1, MemAt w1 mb bb c (apL ys) → Calls Try.prog 24 #[.pointer (some ⟨mb, 0, none⟩), .int .u64 (16 + (at' : Int)), .int .i64 m, .int .u64 x] w1 fun e w' => e = .returned (.bool true) ∧ w1 = w' := fun w1 h => by
        have := loads_yes h ((16 + at' : Nat) : Int) m x (by omega) (by omega) (by omega) hwant.1 hwant.2
        rw [e16] at this
        exact this
      have HST : ∀ w1 mk bk ck, MemAt w1 mk bk ck (apL ys) → Calls Try.prog 15 #[.pointer (some ⟨mk, 0, none⟩), .int .u64 (16 + (at' : Int)), .int .i64 m, .int .u64 v] w1 (StoreDone w1 mk bk ck (layL (apL ys) (16 + at') (bytesV v m)) 0) := fun w1 mk bk ck h => by
        have := store_ok h (16 + at') m v hv hv' (by omega) hfit HS.out
        rw [e16] at this
        exact this
      have HL3 : ∀ w1 mk bk ck, MemAt w1 mk bk ck (layL (apL ys) (16 + at') (bytesV v m)) → Calls Try.prog 24 #[.pointer (some ⟨mk, 0, none⟩), .int .u64 (16 + (at' : Int)), .int .i64 m, .int .u64 z] w1 fun e w' => e = .returned (.bool true) ∧ w1 = w' := fun w1 mk bk ck h => by
        have hb : 16 + at' + (bytesV v m).length ≤ (apL ys).length := by rw [bytesV_len]; exact hfit
        have h3 := num_part h (16 + at') m (by omega) (by rw [layL_len hb]; exact hfit) HS.out
        have hpp := layL_part hb
        rw [bytesV_len] at hpp
        rw [hpp, ← hzb] at h3
        have := loads_yes h ((16 + at' : Nat) : Int) m z (by omega) (by omega) (by omega) h3.1 h3.2
        rw [e16] at this
        exact this
      have HSM : ∀ w1 mk bk ck, MemAt w1 mk bk ck (layL (apL ys) (16 + at') (bytesV v m)) → MemAt w1 mb bb c (apL ys) → Calls Try.prog 13 #[.pointer (some ⟨mk, 0, none⟩), .pointer (some ⟨mb, 0, none⟩)] w1 (Drew w1 (.bool (z == x))) := fun w1 mk bk ck h k => by
        have := same_yes h k
        have hb : 16 + at' + (bytesV v m).length ≤ (apL ys).length := by rw [bytesV_len]; exact hfit
        rw [layL_same hb, bytesV_len, ← HPE.out, numV_beq (by rw [bytesV_len, HLEN.out]) (bytesV_bd v m) HPB.out, ← hzb, ← hx] at this
        exact this
      have H1 := Lib.hid HL1
      have H2 := Lib.hid HST
      have H3 := Lib.hid HL3
      clear HL1 HST HL3 hcut hz hx hzb hmc hfit hl200 hwant e16
      by_cases hzx : z = x
      · subst hzx
        simp only [beq_self_eq_true] at HSM
        have H4 := Lib.hid HSM
        clear HSM
        go_wp2_with (first
          | (go_at_call 12; (with_reducible refine (memCopy_yes HM3.out).mono ?_); rintro e w4 ⟨mk, bk, ck, rfl, hk4, q1, q2, hb⟩; have l3 := HM3.out.lt; have HM4 := Lib.hid (HM3.out.below hb); have HK4 := Lib.hid hk4; have HB4 := Lib.hid (below_next HB3.out hb s3); have s4 := HB4.out.size; have hsm := same_yes HK4.out HM4.out; rw [beq_self_eq_true] at hsm; have HS4 := Lib.hid hsm; clear hk4 hb hsm)
          | (go_at_call 13; (with_reducible refine HS4.out.mono ?_); rintro e w' ⟨rfl, nq, rfl⟩; have HM5 := Lib.hid (HM4.out.drewN nq); have HK5 := Lib.hid (HK4.out.drewN nq); have HB5 := Lib.hid (below_drewN HB4.out nq))
          | (go_at_call 24; (with_reducible refine (H1.out _ HM5.out).mono ?_); rintro e w' ⟨rfl, rfl⟩)
          | (go_at_call 15; (with_reducible refine (H2.out _ _ _ _ HK5.out).mono ?_); rintro e w6 ⟨rfl, hk6, hb⟩; have HK6 := Lib.hid hk6; have HM6 := Lib.hid (HM5.out.but hb (oneBlock_not (by omega)) (oneBlock_not (by omega))); have HB6 := Lib.hid (below_store HB5.out hb s4 (by omega)); have s6 := HB6.out.size; clear hk6 hb)
          | (go_at_call 24; (with_reducible refine (H1.out _ HM6.out).mono ?_); rintro e w' ⟨rfl, rfl⟩)
          | (go_at_call 26; (with_reducible refine (HCUT.out _).mono ?_); rintro e w' ⟨rfl, rfl⟩)
          | (go_at_call 24; (with_reducible refine (H3.out _ _ _ _ HK6.out).mono ?_); rintro e w' ⟨rfl, rfl⟩)
          | (go_at_call 13; (with_reducible refine (H4.out _ _ _ _ HK6.out HM6.out).mono ?_); rintro e w' ⟨rfl, nq2, rfl⟩; have HB7 := Lib.hid (below_drewN HB6.out nq2)))
        go_ret
        exact ⟨rfl, HB7.out⟩
      · have hzf : (z == x) = false := by simpa using hzx
        rw [hzf] at HSM
        have H4 := Lib.hid HSM
        clear HSM hzx
        go_wp2_with (first
          | (go_at_call 12; (with_reducible refine (memCopy_yes HM3.out).mono ?_); rintro e w4 ⟨mk, bk, ck, rfl, hk4, q1, q2, hb⟩; have l3 := HM3.out.lt; have HM4 := Lib.hid (HM3.out.below hb); have HK4 := Lib.hid hk4; have HB4 := Lib.hid (below_next HB3.out hb s3); have s4 := HB4.out.size; have hsm := same_yes HK4.out HM4.out; rw [beq_self_eq_true] at hsm; have HS4 := Lib.hid hsm; clear hk4 hb hsm)
          | (go_at_call 13; (with_reducible refine HS4.out.mono ?_); rintro e w' ⟨rfl, nq, rfl⟩; have HM5 := Lib.hid (HM4.out.drewN nq); have HK5 := Lib.hid (HK4.out.drewN nq); have HB5 := Lib.hid (below_drewN HB4.out nq))
          | (go_at_call 24; (with_reducible refine (H1.out _ HM5.out).mono ?_); rintro e w' ⟨rfl, rfl⟩)
          | (go_at_call 15; (with_reducible refine (H2.out _ _ _ _ HK5.out).mono ?_); rintro e w6 ⟨rfl, hk6, hb⟩; have HK6 := Lib.hid hk6; have HM6 := Lib.hid (HM5.out.but hb (oneBlock_not (by omega)) (oneBlock_not (by omega))); have HB6 := Lib.hid (below_store HB5.out hb s4 (by omega)); have s6 := HB6.out.size; clear hk6 hb)
          | (go_at_call 24; (with_reducible refine (H1.out _ HM6.out).mono ?_); rintro e w' ⟨rfl, rfl⟩)
          | (go_at_call 26; (with_reducible refine (HCUT.out _).mono ?_); rintro e w' ⟨rfl, rfl⟩)
          | (go_at_call 24; (with_reducible refine (H3.out _ _ _ _ HK6.out).mono ?_); rintro e w' ⟨rfl, rfl⟩)
          | (go_at_call 13; (with_reducible refine (H4.out _ _ _ _ HK6.out HM6.out).mono ?_); rintro e w' ⟨rfl, nq2, rfl⟩; have HB7 := Lib.hid (below_drewN HB6.out nq2)))
        go_ret
        exact ⟨rfl, HB7.out⟩
theorem shl_1 {p : Int} (h0 : 0 ≤ p) (h4 : p < 4) : ∃ m : Nat, sizedB m = true ∧ ∀ w, (Op.shift .shl .i64 1 .i64 p).run Try.prog w = .ok (.int .i64 m) w := by
  have hp : p = 0 ∨ p = 1 ∨ p = 2 ∨ p = 3 := by omega
  rcases hp with rfl | rfl | rfl | rfl
  · exact ⟨1, rfl, fun w => by kernel_rfl⟩
  · exact ⟨2, rfl, fun w => by kernel_rfl⟩
  · exact ⟨4, rfl, fun w => by kernel_rfl⟩
  · exact ⟨8, rfl, fun w => by kernel_rfl⟩
theorem apart_any (Y : Value) (ys : List Int) (a n v : Int) (w : World) (hY : IsBytes w w.heap.size Y ys) (ha : -9223372036854775808 ≤ a) (ha' : a < 9223372036854775808) (hn : -9223372036854775808 ≤ n) (hn' : n < 9223372036854775808) (hv : 0 ≤ v) (hv' : v < 18446744073709551616) :
    Calls Try.prog 7 #[Y, .int .i64 a, .int .i64 n, .int .u64 v] w fun e w' => e = .returned (.bool true) ∧ Below w.heap.size w w' := by
  by_cases hodd : ys.length = 0 ∨ 100 < ys.length
  · exact apart_odd Y ys a n v w _ hY hodd
  · obtain ⟨b, off, cap, rfl, hcap, hb, hc⟩ := hY.plain (by omega)
    obtain ⟨p0, p4⟩ := pick_bd (x := n) (n := 4) (by omega)
    obtain ⟨m, hs, hsh⟩ := shl_1 p0 p4
    obtain ⟨q0, q4⟩ := pick_bd (x := a) (n := (ys.length : Int)) (by omega)
    obtain ⟨at', hat⟩ := nat_of q0
    rw [hat] at q4
    exact apart_walk b off cap ys.length ys a n v (pickV n 4) m at' w hv hv' rfl (by omega) (by omega) hY hb hcap hc (fun w => pick_any n 4 w (by omega) (by omega) hn hn') (fun w => by rw [← hat]; exact pick_any a _ w (by omega) (by omega) ha ha') hsh hs (by omega)
end Go.Proofs.Ythcefpakjkojgaa
