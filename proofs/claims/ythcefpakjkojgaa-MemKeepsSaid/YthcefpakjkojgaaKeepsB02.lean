/- The statement MemKeeps' body is true where there are acts: a walk. -/
import Derived.Test.YthcefpakjkojgaaKeepsA02
namespace Go.Proofs.Ythcefpakjkojgaa
open Go.RowKit
set_option linter.unusedVariables false

set_option maxRecDepth 100000 in
set_option maxHeartbeats 16000000 in
theorem keeps_some (b off len cap : Nat) (s0 a n0 v p : Int) (l : List ActV) (pn m : Nat) (w : World) (hlen : len = l.length) (hcap : len ≤ cap) (hb : b < w.heap.size)
    (hV : IsActs w w.heap.size (.slice (some ⟨b, off, none⟩) len cap) l) (hpn : pn < 200) (hv : 0 ≤ v) (hv' : v < 18446744073709551616) (ha : 0 ≤ a) (ha' : a < 18446744073709551616)
    (hp : ∀ w, Calls Try.prog 25 #[.int .i64 s0, .int .i64 200] w fun e w' => e = .returned (.int .i64 pn) ∧ w = w')
    (hp1 : ∀ w, Calls Try.prog 25 #[.int .i64 n0, .int .i64 4] w fun e w' => e = .returned (.int .i64 p) ∧ w = w')
    (hsh : ∀ w, (Op.shift .shl .i64 1 .i64 p).run Try.prog w = .ok (.int .i64 m) w) (hs : sizedB m = true)
    (hok : ∀ A ∈ l, A.ok w w.heap.size) (hc : ∀ i, i < len → ∀ j, j < 5 → w.cell? ⟨b, off + i * 5 + j, none⟩ = some ((l.getD i .zero).cell j)) (hlb : longB l = false) (h40 : len ≤ 40) :
    Calls Try.prog 6 #[.int .i64 s0, .slice (some ⟨b, off, none⟩) len cap, .int .u64 a, .int .i64 n0, .int .u64 v] w fun e w' => e = .returned (.bool true) ∧ Below w.heap.size w w' := by
  have HV := Lib.hid hV
  have HP := Lib.hid hp
  have HP1 := Lib.hid hp1
  have HS := Lib.hid hs
  have HLEN := Lib.hid hlen
  have HLB := Lib.hid hlb
  have HOK := Lib.hid hok
  have HC := Lib.hid hc
  have h40' : ¬ (40 : Int) < len := by omega
  clear hV hp hp1 hs hlen hlb hok hc
  go_enter Try.func6, Try.ntmps6
  go_wp2_with (first
    | (go_at_call 5; (with_reducible refine (known_at _).mono ?_); rintro e w1 ⟨rfl, hb⟩; have HB1 := Lib.hid hb; have s1 := hb.size; clear hb)
    | (go_at_call 25; (with_reducible refine (HP.out _).mono ?_); rintro e w' ⟨rfl, rfl⟩)
    | (go_at_call 21; (with_reducible refine (made_sz _ _ hpn).mono ?_); rintro e w2 ⟨mb, bb, c, rfl, hm, g1, g2, hb⟩; have HM2 := Lib.hid hm; have HB2 := Lib.hid (below_next HB1.out hb s1); have s2 := HB2.out.size; have hlg := long_any _ _ _ _ (HV.out.below HB2.out (Nat.le_refl _) (Nat.le_refl _)); rw [HLB.out] at hlg; have HLG := Lib.hid hlg; clear hm hb hlg)
    | (go_at_call 8; (with_reducible refine HLG.out.mono ?_); rintro e w' ⟨rfl, rfl⟩))
  have gm : w.heap.size ≤ mb := Nat.le_trans s1 g1
  have gb : w.heap.size ≤ bb := Nat.le_trans s1 g2
  have hz : Hid (∃ xs, xs.length = 16 + pn ∧ MemAt w2 mb bb c xs ∧ Below w.heap.size w w2) := ⟨_, by rw [List.length_replicate], HM2.out, HB2.out⟩
  go_loopw [13] (fun i wr => ∃ k : Nat, k ≤ len ∧ i = .int .i64 k ∧ Hid (∃ xs, xs.length = 16 + pn ∧ MemAt wr mb bb c xs ∧ Below w.heap.size w wr)) (fun i _ => len - (intOf i).toNat)
  case atStart => exact ⟨0, by omega, rfl, hz⟩
  case round =>
    obtain ⟨k, hk, rfl, hq⟩ := hrel
    by_cases hlt : k < len
    · obtain ⟨xs, hxl, hm, hbw⟩ := hq.out
      have hA : l.getD k .zero ∈ l := by rw [show l.getD k .zero = l[k]'(by have := HLEN.out; omega) by simp [List.getD, List.getElem?_eq_getElem (show k < l.length by have := HLEN.out; omega)]]; exact List.getElem_mem _
      have hAok := (HOK.out _ hA).below hbw (Nat.le_refl _)
      obtain ⟨A, hAe⟩ : ∃ A, A = l.getD k .zero := ⟨_, rfl⟩
      have hcells : ∀ j, j < 5 → wr.cell? ⟨b, off + k * 5 + j, none⟩ = some (A.cell j) := fun j hj => by
        rw [hAe, ← HC.out k hlt j hj]; exact hbw.cell (p := ⟨b, _, none⟩) hb
      rw [← hAe] at hAok
      have d1 : wr.cell? ⟨b, off + k * 5 + 1, none⟩ = some (.int .i64 A.n) := hcells 1 (by omega)
      have d2 : wr.cell? ⟨b, off + k * 5 + 2, none⟩ = some (.int .u64 A.at') := hcells 2 (by omega)
      have d3 : wr.cell? ⟨b, off + k * 5 + 3, none⟩ = some (.int .u64 A.v) := hcells 3 (by omega)
      have d4 : wr.cell? ⟨b, off + k * 5 + 4, none⟩ = some A.b := hcells 4 (by omega)
      have HST := Lib.hid (store_any (hm.but ((But.refl NoBlock _).drew) (noBlock_not _) (noBlock_not _)) A.at' A.n A.v hAok.a.1 hAok.a.2 hAok.n.2 hAok.v.1 hAok.v.2)
      have HAO := Lib.hid hAok
      have HXL := Lib.hid hxl
      have HBW := Lib.hid hbw
      have hsz := hbw.size
      have k0 : (0 : Int) ≤ (k : Int) := by omega
      have k1 : (k : Int) < (len : Int) := by omega
      clear hA hAok hAe hcells hxl hm hbw hq
      go_wp2_with fail
      go_still_tail 16, (by kernel_rfl)
      go_wp2_with (go_at_call 15; (with_reducible refine HST.out.mono ?_); rintro e w3 ⟨rfl, hm3, hb3⟩; have HM3 := Lib.hid hm3; have HB3 := Lib.hid (hb3.of_drew); clear hm3 hb3)
      have e2 : w3.cell? ⟨b, off + k * 5 + 2, none⟩ = some (.int .u64 A.at') := by rw [HB3.out.cell (p := ⟨b, _, none⟩) (show b < _ by omega) (oneBlock_not (show b ≠ bb by omega))]; exact d2
      have e4 : w3.cell? ⟨b, off + k * 5 + 4, none⟩ = some A.b := by rw [HB3.out.cell (p := ⟨b, _, none⟩) (show b < _ by omega) (oneBlock_not (show b ≠ bb by omega))]; exact d4
      have hab := (HAO.out.b).but HB3.out (by omega) (fun q hq => oneBlock_not (show q ≠ bb by omega))
      have HLY := Lib.hid (lay_any (HM3.out.but ((But.refl NoBlock _).drew) (noBlock_not _) (noBlock_not _)) A.at' (IsBytes.but hab ((But.refl NoBlock _).drew) (by have := HB3.out.size; omega) (fun q _ => noBlock_not _)) HAO.out.a.1 HAO.out.a.2)
      have hsz3 := HB3.out.size
      clear hab d1 d2 d3 d4
      go_still_tail 11, (by kernel_rfl)
      go_wp2_with (go_at_call 20; (with_reducible refine HLY.out.mono ?_); rintro e w4 ⟨rfl, hm4, hb4⟩; have HM4 := Lib.hid hm4; have HB4 := Lib.hid (hb4.of_drew); clear hm4 hb4)
      go_roundw
      case rel => exact ⟨k + 1, by omega, by go_num, ⟨_, by rw [layB_len, storeL_len]; exact HXL.out, HM4.out, below_store (below_store HBW.out HB3.out hsz gb) HB4.out (by omega) gb⟩⟩
      case measure => simp [intOf]; omega
    · obtain rfl : k = len := by omega
      obtain ⟨xs, hxl, hm, hbw⟩ := hq.out
      have HM := Lib.hid hm
      have HXL := Lib.hid hxl
      have HBW := Lib.hid hbw
      have hsz := hbw.size
      clear hq hxl hm hbw
      have hm8 : 1 ≤ m ∧ m ≤ 8 := by rcases sized_cases HS.out with h | h | h | h <;> omega
      obtain ⟨hm1, hm8⟩ := hm8
      have HB5a := Lib.hid (whole_bytes HM.out HXL.out)
      have lt5 := HM.out.lt
      have nwrap : 0 ≤ 16 + (pn : Int) - (m : Int) := by omega
      by_cases hpn0 : 0 < pn
      · by_cases hfit : 16 ≤ a ∧ a ≤ 16 + (pn : Int) - (m : Int)
        · obtain ⟨hf1, hf2⟩ := hfit
          have HE := Lib.hid (numE_good (L := ((16 + pn : Nat) : Int)) (a := a) (m := m) HS.out (by omega) (by omega))
          obtain ⟨ka, rfl⟩ := nat_of ha
          have hka : 16 ≤ ka := by omega
          clear ha ha'
          have hkm : ka + m ≤ 16 + pn := by omega
          have HCUT := Lib.hid (fun w => cut_low v m w hv hv' (by rcases sized_cases HS.out with h | h | h | h <;> omega))
          go_wp2_with (first
            | (go_at_call 25; (with_reducible refine (HP1.out _).mono ?_); rintro e w' ⟨rfl, rfl⟩)
            | (go_at_call 19; (with_reducible refine HB5a.out.mono ?_); rintro e w5 ⟨v5, rfl, ho5, hb5⟩; obtain ⟨g5, cap5, rfl, gg5, gl5, gc5, hc5⟩ := told_cells ho5 HXL.out hpn0; have HC5 := Lib.hid hc5; have HM5 := Lib.hid (HM.out.below hb5); have HW5 := Lib.hid (below_next HBW.out hb5 hsz); have s5 := HW5.out.size; have HSB := Lib.hid (store_ok HM5.out ka m v hv hv' hka (by rw [HXL.out]; exact hkm) HS.out); have HXL2 := Lib.hid ((layL_len (xs := xs) (a := ka) (ys := bytesV v m) (by rw [bytesV_len, HXL.out]; exact hkm)).trans HXL.out); clear ho5 hb5 hc5)
            | (go_at_call 15; (with_reducible refine HSB.out.mono ?_); rintro e w6 ⟨rfl, hm6, hb6⟩; have HM6 := Lib.hid hm6; have HW6 := Lib.hid (below_store HW5.out hb6 s5 gb); have s6 := HW6.out.size; have HC6 := Lib.hid (fun k (hk : k < pn) => (hb6.cell (p := ⟨g5, k, none⟩) gl5 (oneBlock_not (show g5 ≠ bb by omega))).trans (HC5.out k hk)); have HB7a := Lib.hid (whole_bytes HM6.out HXL2.out); have l6 := hb6.size; clear hm6 hb6)
            | (go_at_call 19; (with_reducible refine HB7a.out.mono ?_); rintro e w7 ⟨v7, rfl, ho7, hb7⟩; obtain ⟨g7, cap7, rfl, gg7, gl7, gc7, hc7⟩ := told_cells ho7 HXL2.out hpn0; have HC7 := Lib.hid hc7; have HM7 := Lib.hid (HM6.out.below hb7); have HW7 := Lib.hid (below_next HW6.out hb7 s6); have HC57 := Lib.hid (fun k (hk : k < pn) => (hb7.cell (p := ⟨g5, k, none⟩) (show g5 < _ by omega)).trans (HC6.out k hk)); clear ho7 hb7 hc7))
          go_loopw [20] (fun i wr2 => ∃ k2 : Nat, k2 ≤ pn ∧ i = .int .i64 k2 ∧ Hid (∃ q, wr2 = w7.drewN q)) (fun i _ => pn - (intOf i).toNat)
          case atStart => exact ⟨0, by omega, rfl, 0, rfl⟩
          case round =>
            obtain ⟨k2, hk2, rfl, hq2⟩ := hrel
            by_cases hlt2 : k2 < pn
            · have x1 := HC57.out k2 hlt2
              have x2 := HC7.out k2 hlt2
              have hgd := getD_lay (xs := xs) (ys := bytesV v m) (a := ka) (i := 16 + k2) (by rw [bytesV_len, HXL.out]; exact hkm)
              rw [bytesV_len] at hgd
              have i0 : (0 : Int) ≤ (k2 : Int) := by omega
              have i1 : (k2 : Int) < (pn : Int) := by omega
              by_cases ca : 16 + k2 < ka
              · rw [if_pos ca] at hgd
                rw [hgd] at x2
                obtain ⟨x, hx⟩ : ∃ x, x = xs.getD (16 + k2) 0 := ⟨_, rfl⟩
                rw [← hx] at x1 x2
                have y1 : wr.cell? ⟨g5, k2, none⟩ = some (.int .u8 x) := by obtain ⟨q, rfl⟩ := hq2.out; exact x1
                have y2 : wr.cell? ⟨g7, k2, none⟩ = some (.int .u8 x) := by obtain ⟨q, rfl⟩ := hq2.out; exact x2
                have c1 : (16 : Int) + (k2 : Int) < (ka : Int) := by omega
                clear x1 x2 hx hgd ca
                go_wp2_with fail
                go_quiet (fail)
                go_wp2_with fail
                go_roundw
                case rel => exact ⟨k2 + 1, by omega, by go_num, by first | exact hid_drew hq2 _ | exact hid_drew (hid_drew hq2 _) _⟩
                case measure => simp [intOf]; omega
              · rw [if_neg ca] at hgd
                have c1 : decide ((16 : Int) + (k2 : Int) < (ka : Int)) = false := decide_eq_false (by omega)
                by_cases cb : 16 + k2 < ka + m
                · have c2 : decide ((ka : Int) + (m : Int) ≤ (16 : Int) + (k2 : Int)) = false := decide_eq_false (by omega)
                  clear x1 x2 hgd ca
                  go_wp2_with fail
                  go_quiet (fail)
                  go_wp2_with fail
                  go_roundw
                  case rel => exact ⟨k2 + 1, by omega, by go_num, by first | exact hid_drew hq2 _ | exact hid_drew (hid_drew hq2 _) _⟩
                  case measure => simp [intOf]; omega
                · rw [if_neg cb] at hgd
                  rw [hgd] at x2
                  obtain ⟨x, hx⟩ : ∃ x, x = xs.getD (16 + k2) 0 := ⟨_, rfl⟩
                  rw [← hx] at x1 x2
                  have y1 : wr.cell? ⟨g5, k2, none⟩ = some (.int .u8 x) := by obtain ⟨q, rfl⟩ := hq2.out; exact x1
                  have y2 : wr.cell? ⟨g7, k2, none⟩ = some (.int .u8 x) := by obtain ⟨q, rfl⟩ := hq2.out; exact x2
                  have c2 : (ka : Int) + (m : Int) ≤ (16 : Int) + (k2 : Int) := by omega
                  clear x1 x2 hx hgd ca cb
                  go_wp2_with fail
                  go_quiet (fail)
                  go_wp2_with fail
                  go_roundw
                  case rel => exact ⟨k2 + 1, by omega, by go_num, by first | exact hid_drew hq2 _ | exact hid_drew (hid_drew hq2 _) _⟩
                  case measure => simp [intOf]; omega
            · have hge : ¬ (k2 : Int) < (pn : Int) := by omega
              have hm2 : MemAt wr mb bb c (layL xs ka (bytesV v m)) := by obtain ⟨q, rfl⟩ := hq2.out; exact HM7.out.drewN q
              have hw2 : Below w.heap.size w wr := by obtain ⟨q, rfl⟩ := hq2.out; exact below_drewN HW7.out q
              have hnp := num_part hm2 ka m hka (by rw [HXL2.out]; exact hkm) HS.out
              have hlp := layL_part (xs := xs) (ys := bytesV v m) (a := ka) (by rw [bytesV_len, HXL.out]; exact hkm)
              rw [bytesV_len] at hlp
              rw [hlp, ← cutV_num hv hv' HS.out] at hnp
              have HF := Lib.hid (loads_yes hm2 ka m (cutV v m) (by omega) (by omega) (by omega) hnp.1 hnp.2)
              have HW2 := Lib.hid hw2
              clear hm2 hw2 hlt2 hnp hlp
              go_wp2_with (first
                | (go_at_call 26; (with_reducible refine (HCUT.out _).mono ?_); rintro e w' ⟨rfl, rfl⟩)
                | (go_at_call 24; (with_reducible refine HF.out.mono ?_); rintro e w' ⟨rfl, rfl⟩))
              go_ret
              exact ⟨rfl, HW2.out⟩
        · have hfit0 := hfit
          clear hfit
          by_cases h16 : 16 ≤ a
          · have hd : decide (a ≤ 16 + (pn : Int) - (m : Int)) = false := decide_eq_false (by omega)
            have HNF : ¬ a ≤ 16 + (pn : Int) - (m : Int) := of_decide_eq_false hd
            clear hfit0
            have HE := Lib.hid (numE_bad (L := ((16 + pn : Nat) : Int)) (a := a) (m := m) HS.out (by omega))
            clear HNF
            go_wp2_with (first
              | (go_at_call 25; (with_reducible refine (HP1.out _).mono ?_); rintro e w' ⟨rfl, rfl⟩)
              | (go_at_call 19; (with_reducible refine HB5a.out.mono ?_); rintro e w5 ⟨v5, rfl, ho5, hb5⟩; obtain ⟨g5, cap5, rfl, gg5, gl5, gc5, hc5⟩ := told_cells ho5 HXL.out hpn0; have HC5 := Lib.hid hc5; have HM5 := Lib.hid (HM.out.below hb5); have HW5 := Lib.hid (below_next HBW.out hb5 hsz); have s5 := HW5.out.size; have hsb := store_bad HM5.out a m v ha ha' (by omega) (by rw [HXL.out, HE.out]; omega); rw [HXL.out, HE.out] at hsb; have HSB := Lib.hid hsb; have HB6a := Lib.hid (whole_bytes HM5.out HXL.out); clear hsb ho5 hb5 hc5)
              | (go_at_call 15; (with_reducible refine HSB.out.mono ?_); rintro e w' ⟨rfl, rfl⟩)
              | (go_at_call 19; (with_reducible refine HB6a.out.mono ?_); rintro e w6 ⟨v6, rfl, ho6, hb6⟩; obtain ⟨g6, cap6, rfl, gg6, gl6, gc6, hc6⟩ := told_cells ho6 HXL.out hpn0; have HC6 := Lib.hid hc6; have HM6 := Lib.hid (HM5.out.below hb6); have HW6 := Lib.hid (below_next HW5.out hb6 s5); have s6 := HW6.out.size; have HC56 := Lib.hid (fun k (hk : k < pn) => (hb6.cell (p := ⟨g5, k, none⟩) gl5).trans (HC5.out k hk)); clear ho6 hb6 hc6))
            go_loopw [20] (fun i wr2 => ∃ k2 : Nat, k2 ≤ pn ∧ i = .int .i64 k2 ∧ Hid (∃ q, wr2 = w6.drewN q)) (fun i _ => pn - (intOf i).toNat)
            case atStart => exact ⟨0, by omega, rfl, 0, rfl⟩
            case round =>
              obtain ⟨k2, hk2, rfl, hq2⟩ := hrel
              by_cases hlt2 : k2 < pn
              · have x1 := HC56.out k2 hlt2
                have x2 := HC6.out k2 hlt2
                obtain ⟨x, hx⟩ : ∃ x, x = xs.getD (16 + k2) 0 := ⟨_, rfl⟩
                rw [← hx] at x1 x2
                have y1 : wr.cell? ⟨g5, k2, none⟩ = some (.int .u8 x) := by obtain ⟨q, rfl⟩ := hq2.out; exact x1
                have y2 : wr.cell? ⟨g6, k2, none⟩ = some (.int .u8 x) := by obtain ⟨q, rfl⟩ := hq2.out; exact x2
                have i0 : (0 : Int) ≤ (k2 : Int) := by omega
                have i1 : (k2 : Int) < (pn : Int) := by omega
                clear x1 x2 hx
                go_wp2_with fail
                go_quiet (fail)
                go_wp2_with fail
                go_roundw
                case rel => exact ⟨k2 + 1, by omega, by go_num, by first | exact hid_drew hq2 _ | exact hid_drew (hid_drew hq2 _) _⟩
                case measure => simp [intOf]; omega
              · have hge : ¬ (k2 : Int) < (pn : Int) := by omega
                have hm2 : MemAt wr mb bb c xs := by obtain ⟨q, rfl⟩ := hq2.out; exact HM6.out.drewN q
                have hw2 : Below w.heap.size w wr := by obtain ⟨q, rfl⟩ := hq2.out; exact below_drewN HW6.out q
                have HF := Lib.hid (fails_yes hm2 a m 15 ha ha' (by omega) (by rw [HXL.out, HE.out]) (by decide))
                have HW2 := Lib.hid hw2
                clear hm2 hw2 hlt2
                go_wp2_with (go_at_call 23; (with_reducible refine HF.out.mono ?_); rintro e w' ⟨rfl, rfl⟩)
                go_ret
                exact ⟨rfl, HW2.out⟩
          · have hd : decide ((16 : Int) ≤ a) = false := decide_eq_false h16
            have HNF : ¬ 16 ≤ a := h16
            clear h16
            clear hfit0
            have HE := Lib.hid (numE_bad (L := ((16 + pn : Nat) : Int)) (a := a) (m := m) HS.out (by omega))
            clear HNF
            go_wp2_with (first
              | (go_at_call 25; (with_reducible refine (HP1.out _).mono ?_); rintro e w' ⟨rfl, rfl⟩)
              | (go_at_call 19; (with_reducible refine HB5a.out.mono ?_); rintro e w5 ⟨v5, rfl, ho5, hb5⟩; obtain ⟨g5, cap5, rfl, gg5, gl5, gc5, hc5⟩ := told_cells ho5 HXL.out hpn0; have HC5 := Lib.hid hc5; have HM5 := Lib.hid (HM.out.below hb5); have HW5 := Lib.hid (below_next HBW.out hb5 hsz); have s5 := HW5.out.size; have hsb := store_bad HM5.out a m v ha ha' (by omega) (by rw [HXL.out, HE.out]; omega); rw [HXL.out, HE.out] at hsb; have HSB := Lib.hid hsb; have HB6a := Lib.hid (whole_bytes HM5.out HXL.out); clear hsb ho5 hb5 hc5)
              | (go_at_call 15; (with_reducible refine HSB.out.mono ?_); rintro e w' ⟨rfl, rfl⟩)
              | (go_at_call 19; (with_reducible refine HB6a.out.mono ?_); rintro e w6 ⟨v6, rfl, ho6, hb6⟩; obtain ⟨g6, cap6, rfl, gg6, gl6, gc6, hc6⟩ := told_cells ho6 HXL.out hpn0; have HC6 := Lib.hid hc6; have HM6 := Lib.hid (HM5.out.below hb6); have HW6 := Lib.hid (below_next HW5.out hb6 s5); have s6 := HW6.out.size; have HC56 := Lib.hid (fun k (hk : k < pn) => (hb6.cell (p := ⟨g5, k, none⟩) gl5).trans (HC5.out k hk)); clear ho6 hb6 hc6))
            go_loopw [20] (fun i wr2 => ∃ k2 : Nat, k2 ≤ pn ∧ i = .int .i64 k2 ∧ Hid (∃ q, wr2 = w6.drewN q)) (fun i _ => pn - (intOf i).toNat)
            case atStart => exact ⟨0, by omega, rfl, 0, rfl⟩
            case round =>
              obtain ⟨k2, hk2, rfl, hq2⟩ := hrel
              by_cases hlt2 : k2 < pn
              · have x1 := HC56.out k2 hlt2
                have x2 := HC6.out k2 hlt2
                obtain ⟨x, hx⟩ : ∃ x, x = xs.getD (16 + k2) 0 := ⟨_, rfl⟩
                rw [← hx] at x1 x2
                have y1 : wr.cell? ⟨g5, k2, none⟩ = some (.int .u8 x) := by obtain ⟨q, rfl⟩ := hq2.out; exact x1
                have y2 : wr.cell? ⟨g6, k2, none⟩ = some (.int .u8 x) := by obtain ⟨q, rfl⟩ := hq2.out; exact x2
                have i0 : (0 : Int) ≤ (k2 : Int) := by omega
                have i1 : (k2 : Int) < (pn : Int) := by omega
                clear x1 x2 hx
                go_wp2_with fail
                go_quiet (fail)
                go_wp2_with fail
                go_roundw
                case rel => exact ⟨k2 + 1, by omega, by go_num, by first | exact hid_drew hq2 _ | exact hid_drew (hid_drew hq2 _) _⟩
                case measure => simp [intOf]; omega
              · have hge : ¬ (k2 : Int) < (pn : Int) := by omega
                have hm2 : MemAt wr mb bb c xs := by obtain ⟨q, rfl⟩ := hq2.out; exact HM6.out.drewN q
                have hw2 : Below w.heap.size w wr := by obtain ⟨q, rfl⟩ := hq2.out; exact below_drewN HW6.out q
                have HF := Lib.hid (fails_yes hm2 a m 15 ha ha' (by omega) (by rw [HXL.out, HE.out]) (by decide))
                have HW2 := Lib.hid hw2
                clear hm2 hw2 hlt2
                go_wp2_with (go_at_call 23; (with_reducible refine HF.out.mono ?_); rintro e w' ⟨rfl, rfl⟩)
                go_ret
                exact ⟨rfl, HW2.out⟩
      · have HPE := Lib.hid (show pn ≤ 0 by omega)
        clear hpn0
        by_cases h16 : 16 ≤ a
        · have hd : decide (a ≤ 16 + (pn : Int) - (m : Int)) = false := decide_eq_false (by have := HPE.out; omega)
          have HNF : ¬ a ≤ 16 + (pn : Int) - (m : Int) := of_decide_eq_false hd
          have HE := Lib.hid (numE_bad (L := ((16 + pn : Nat) : Int)) (a := a) (m := m) HS.out (by omega))
          clear HNF
          go_wp2_with (first
            | (go_at_call 25; (with_reducible refine (HP1.out _).mono ?_); rintro e w' ⟨rfl, rfl⟩)
            | (go_at_call 19; (with_reducible refine HB5a.out.mono ?_); rintro e w5 ⟨v5, rfl, ho5, hb5⟩; obtain ⟨A5, cap5, rfl⟩ := told_empty ho5 HXL.out HPE.out; have HM5 := Lib.hid (HM.out.below hb5); have HW5 := Lib.hid (below_next HBW.out hb5 hsz); have s5 := HW5.out.size; have hsb := store_bad HM5.out a m v ha ha' (by omega) (by rw [HXL.out, HE.out]; omega); rw [HXL.out, HE.out] at hsb; have HSB := Lib.hid hsb; have HB6a := Lib.hid (whole_bytes HM5.out HXL.out); clear hsb ho5 hb5)
            | (go_at_call 15; (with_reducible refine HSB.out.mono ?_); rintro e w' ⟨rfl, rfl⟩)
            | (go_at_call 19; (with_reducible refine HB6a.out.mono ?_); rintro e w6 ⟨v6, rfl, ho6, hb6⟩; obtain ⟨A6, cap6, rfl⟩ := told_empty ho6 HXL.out HPE.out; have HM6 := Lib.hid (HM5.out.below hb6); have HW6 := Lib.hid (below_next HW5.out hb6 s5); have s6 := HW6.out.size; clear ho6 hb6))
          go_loopw [20] (fun i wr2 => ∃ k2 : Nat, k2 ≤ pn ∧ i = .int .i64 k2 ∧ Hid (∃ q, wr2 = w6.drewN q)) (fun i _ => pn - (intOf i).toNat)
          case atStart => exact ⟨0, by omega, rfl, 0, rfl⟩
          case round =>
            obtain ⟨k2, hk2, rfl, hq2⟩ := hrel
            by_cases hlt2 : k2 < pn
            · exact absurd hlt2 (by have := HPE.out; omega)
            · have hge : ¬ (k2 : Int) < (pn : Int) := by omega
              have hm2 : MemAt wr mb bb c xs := by obtain ⟨q, rfl⟩ := hq2.out; exact HM6.out.drewN q
              have hw2 : Below w.heap.size w wr := by obtain ⟨q, rfl⟩ := hq2.out; exact below_drewN HW6.out q
              have HF := Lib.hid (fails_yes hm2 a m 15 ha ha' (by omega) (by rw [HXL.out, HE.out]) (by decide))
              have HW2 := Lib.hid hw2
              clear hm2 hw2 hlt2
              go_wp2_with (go_at_call 23; (with_reducible refine HF.out.mono ?_); rintro e w' ⟨rfl, rfl⟩)
              go_ret
              exact ⟨rfl, HW2.out⟩
        · have hd : decide ((16 : Int) ≤ a) = false := decide_eq_false h16
          have HNF : ¬ 16 ≤ a := h16
          clear h16
          have HE := Lib.hid (numE_bad (L := ((16 + pn : Nat) : Int)) (a := a) (m := m) HS.out (by omega))
          clear HNF
          go_wp2_with (first
            | (go_at_call 25; (with_reducible refine (HP1.out _).mono ?_); rintro e w' ⟨rfl, rfl⟩)
            | (go_at_call 19; (with_reducible refine HB5a.out.mono ?_); rintro e w5 ⟨v5, rfl, ho5, hb5⟩; obtain ⟨A5, cap5, rfl⟩ := told_empty ho5 HXL.out HPE.out; have HM5 := Lib.hid (HM.out.below hb5); have HW5 := Lib.hid (below_next HBW.out hb5 hsz); have s5 := HW5.out.size; have hsb := store_bad HM5.out a m v ha ha' (by omega) (by rw [HXL.out, HE.out]; omega); rw [HXL.out, HE.out] at hsb; have HSB := Lib.hid hsb; have HB6a := Lib.hid (whole_bytes HM5.out HXL.out); clear hsb ho5 hb5)
            | (go_at_call 15; (with_reducible refine HSB.out.mono ?_); rintro e w' ⟨rfl, rfl⟩)
            | (go_at_call 19; (with_reducible refine HB6a.out.mono ?_); rintro e w6 ⟨v6, rfl, ho6, hb6⟩; obtain ⟨A6, cap6, rfl⟩ := told_empty ho6 HXL.out HPE.out; have HM6 := Lib.hid (HM5.out.below hb6); have HW6 := Lib.hid (below_next HW5.out hb6 s5); have s6 := HW6.out.size; clear ho6 hb6))
          go_loopw [20] (fun i wr2 => ∃ k2 : Nat, k2 ≤ pn ∧ i = .int .i64 k2 ∧ Hid (∃ q, wr2 = w6.drewN q)) (fun i _ => pn - (intOf i).toNat)
          case atStart => exact ⟨0, by omega, rfl, 0, rfl⟩
          case round =>
            obtain ⟨k2, hk2, rfl, hq2⟩ := hrel
            by_cases hlt2 : k2 < pn
            · exact absurd hlt2 (by have := HPE.out; omega)
            · have hge : ¬ (k2 : Int) < (pn : Int) := by omega
              have hm2 : MemAt wr mb bb c xs := by obtain ⟨q, rfl⟩ := hq2.out; exact HM6.out.drewN q
              have hw2 : Below w.heap.size w wr := by obtain ⟨q, rfl⟩ := hq2.out; exact below_drewN HW6.out q
              have HF := Lib.hid (fails_yes hm2 a m 15 ha ha' (by omega) (by rw [HXL.out, HE.out]) (by decide))
              have HW2 := Lib.hid hw2
              clear hm2 hw2 hlt2
              go_wp2_with (go_at_call 23; (with_reducible refine HF.out.mono ?_); rintro e w' ⟨rfl, rfl⟩)
              go_ret
              exact ⟨rfl, HW2.out⟩
end Go.Proofs.Ythcefpakjkojgaa
