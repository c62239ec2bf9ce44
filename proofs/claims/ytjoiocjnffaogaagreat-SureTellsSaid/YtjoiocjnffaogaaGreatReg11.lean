/- The document's own registers of one letter, Writes and Reads of layer 6. Contracts; no condition but that the argument is an instruction in memory. -/
import Derived.Test.YtjoiocjnffaogaaGreatMath11
import Derived.Test.YtjoiocjnffaogaaGreatS18
namespace Go.Proofs.YtjoiocjnffaogaaGreat
open Go.RowKit
set_option linter.unusedVariables false
set_option linter.unusedSimpArgs false

/-- A letter is found among one. -/
theorem has_one {S s : ByteArray} {q : Int} {k : Nat} (hS : lettersOf S = [q]) (h : k < s.size) : hasV S (s.extract k (k + 1)) = if (s[k].toNat : Int) = q then 1 else 0 := by
  have e : lettersOf (s.extract k (k + 1)) = [(s[k].toNat : Int)] := by
    have hl : (s.extract k (k + 1)).size = 1 := by simp; omega
    apply List.ext_getElem
    · simp [letters_len, hl]
    · intro i h1 h2
      have hi : i = 0 := by simp [letters_len, hl] at h1; omega
      subst hi
      rw [letters_at _ (by omega), ByteArray.getElem_extract]
      simp
  unfold hasV hasL
  rw [e, hS]
  by_cases hq : (s[k].toNat : Int) = q
  · rw [if_pos hq]; simp [hq]
  · rw [if_neg hq]; simp [hq]
def RegQ (w : World) (xs : List Int) (e : Ending) (w' : World) : Prop := Below w.heap.size w w' ∧ ∃ V, e = .returned V ∧ OutN w.heap.size w' V xs
set_option maxHeartbeats 8000000 in
set_option maxRecDepth 100000 in
theorem regq_any (S : ByteArray) (q op a b c n : Int) (X : Value) (w : World) (hS : lettersOf S = [q]) (hSs : S.size ≤ 100) : Calls Tryz.prog 39 #[.agg (insCells op a b c n X), .string S] w (RegQ w (pickR q (lettersOf (shapeI op)) [a, b, c])) := by
  obtain ⟨sh, hsh⟩ : ∃ sh, sh = shapeI op := ⟨_, rfl⟩
  have HS := Lib.hid (fun w => rshape_any op w)
  have hok := shapes_ok op
  have hsm := shapes_small op
  rw [← hsh] at HS hok hsm ⊢
  have hr3 := okShape_reg hok
  obtain ⟨L, hL⟩ : ∃ L, L = lettersOf sh := ⟨_, rfl⟩
  have hlen : L.length = sh.size := by rw [hL, letters_len]
  rw [← hL] at hr3 ⊢
  have HH := Lib.hid (fun (t : ByteArray) (w : World) (ht : t.size ≤ 100) => has_any S t w hSs ht)
  have HQ1 := Lib.hid (fun (k : Nat) (h : k < sh.size) => has_one (s := sh) hS h)
  have HL := Lib.hid hL
  have HLen := Lib.hid hlen
  clear hsh hok hL hlen hS hSs
  go_enter Tryz.func39, Tryz.ntmps39
  go_wp2_with (go_at_call 41; (with_reducible refine (HS.out _).mono ?_); rintro e w1 ⟨rfl, rfl⟩)
  obtain ⟨R, hR⟩ : ∃ R, R = w.heap.size + 1 := ⟨_, rfl⟩
  obtain ⟨w1, hw1⟩ : ∃ w1, w1 = (w.alloc (.cells (insCells op a b c n X) 37)).alloc (.cells #[.int .i64 a, .int .i64 b, .int .i64 c] 3) := ⟨_, rfl⟩
  have hrow : w1.heap[R]? = some (.cells #[.int .i64 a, .int .i64 b, .int .i64 c] 3 (0, 0)) := by
    rw [hw1, hR]
    have := heap_alloc_new (w.alloc (.cells (insCells op a b c n X) 37)) (.cells #[.int .i64 a, .int .i64 b, .int .i64 c] 3)
    simpa using this
  have hb1 : Below w.heap.size w w1 := by rw [hw1]; exact ((Below.refl _ w).alloc (Nat.le_refl _) _).alloc (by simp) _
  rw [← hw1, ← hR]
  have HRow := Lib.hid hrow
  have HB1 := Lib.hid hb1
  have hRW : w.heap.size < R := by omega
  clear hw1 hR hrow hb1
  go_loopw [7, 8, 9] (fun out at' i wr => ∃ k j : Nat, k ≤ sh.size ∧ i = .int .i64 k ∧ at' = .int .i64 j ∧ j = regN (L.take k) ∧ Hid (OutN (R + 1) wr out (pickR q (L.take k) [a, b, c]) ∧ Below w.heap.size w wr ∧ wr.heap[R]? = some (.cells #[.int .i64 a, .int .i64 b, .int .i64 c] 3 (0, 0)))) (fun _ _ i _ => sh.size - (intOf i).toNat)
  case atStart => exact ⟨0, 0, by omega, rfl, rfl, by simp [regN], by rw [List.take_zero]; exact Owns.nil _ _ _ _ _, HB1.out, HRow.out⟩
  case round =>
    obtain ⟨k, j, hk, rfl, rfl, hj, HR⟩ := hrel
    obtain ⟨hO, hB, hRw⟩ := HR.out
    have HO := Lib.hid hO
    have HB := Lib.hid hB
    have HRw := Lib.hid hRw
    have HJ := Lib.hid hj
    obtain ⟨oA, oc, hoe, _⟩ := out_len hO
    obtain ⟨pn, hpn⟩ : ∃ pn, pn = (pickR q (L.take k) [a, b, c]).length := ⟨_, rfl⟩
    have HPN := Lib.hid hpn
    have hpl := pick_len q (L.take k) [a, b, c]
    have HPL : Hid (pn ≤ 100) := Lib.hid (by have := List.length_take_le k L; rw [hpn]; omega)
    rw [← hpn] at hoe
    subst hoe
    clear hpn
    by_cases hlt : k < sh.size
    · have hkL : k < L.length := by rw [HLen.out]; exact hlt
      have hst := regN_step L (k := k) hkL
      have hLk : L[k]'hkL = (sh[k].toNat : Int) := by
        have h2 : L = lettersOf sh := HL.out
        subst h2
        exact letters_at sh hlt
      have htk : L.take (k + 1) = L.take k ++ [(sh[k].toNat : Int)] := by rw [List.take_add_one, List.getElem?_eq_getElem hkL, hLk]; rfl
      have hps := pick_snoc q (L.take k) [a, b, c] (sh[k].toNat : Int)
      rw [← htk, ← hj] at hps
      rw [hLk, ← hj] at hst
      have hle := regN_le L (k + 1)
      have k0 : (0 : Int) ≤ (k : Int) := by omega
      have hha := HQ1.out k hlt
      by_cases hreg : isReg (sh[k].toNat : Int) = true
      · have hxs : (sh.extract k (k + 1)).size ≤ 100 := by simp; omega
        rw [hreg, if_pos rfl] at hst
        have hj3 : j < 3 := by omega
        obtain ⟨x, hx⟩ : ∃ x, x = [a, b, c].getD j 0 := ⟨_, rfl⟩
        have hcell : wr.cell? ⟨R, j, none⟩ = some (.int .i64 x) := by
          rw [hx]
          rcases (show j = 0 ∨ j = 1 ∨ j = 2 by omega) with h | h | h <;> simp [World.cell?, hRw, h]
        rw [← hx] at hps
        have hHH := HH.out (sh.extract k (k + 1))
        rw [hha] at hHH
        have HS2 := Lib.hid hst
        have j0 : (0 : Int) ≤ (j : Int) := by omega
        by_cases hq : (sh[k].toNat : Int) = q
        · rw [if_pos hq] at hHH
          rw [if_pos ⟨hreg, hq⟩] at hps
          have HPS := Lib.hid hps
          have HH2 := Lib.hid (fun w => hHH w hxs)
          rcases of_decide_eq_true hreg with hr | hr
          · have e1 : ((sh[k].toNat : Int) != 119) = false := by simp [hr]
            clear hx hHH hst hj hO hB hRw hLk hle hxs hq hreg hps htk hha hr HR hpl
            go_wp2_with (first
              | (go_at_call 40; (with_reducible refine (HH2.out _).mono ?_); rintro e w2 ⟨rfl, kd, rfl⟩)
              | (at_builtin; (refine wpList_outN (W := wr.drewN kd) (z := x) (base := R + 1) rfl (.tmp 44) (.tmp 49) rfl rfl rfl (HO.out.drewN kd) (by have := heap_lt HRw.out; simp; omega) (by have := HPL.out; have := HPN.out; omega) ?_; intro V6 w6 ho hb6 hk6; have HO6 := Lib.hid ho; have HB6 := Lib.hid ((below_drewN HB.out kd).trans (hb6.mono (show w.heap.size ≤ R + 1 by omega))); have HR6 := Lib.hid ((hb6.block R (by omega)).trans HRw.out); obtain ⟨a6, c6, h6, _⟩ := out_len ho; generalize hq6 : (_ ++ [x]).length = q6 at h6; subst h6; clear ho hb6 hk6 hq6)))
            go_roundw
            case rel => exact ⟨k + 1, j + 1, by omega, by go_num, by go_num, HS2.out.symm, by rw [HPS.out]; exact HO6.out, HB6.out, HR6.out⟩
            case measure => simp [intOf]; omega
          · have e1 : ((sh[k].toNat : Int) != 119) = true := by simp [hr]
            have e2 : ((sh[k].toNat : Int) != 114) = false := by simp [hr]
            clear hx hHH hst hj hO hB hRw hLk hle hxs hq hreg hps htk hha hr HR hpl
            go_wp2_with (first
              | (go_at_call 40; (with_reducible refine (HH2.out _).mono ?_); rintro e w2 ⟨rfl, kd, rfl⟩)
              | (at_builtin; (refine wpList_outN (W := wr.drewN kd) (z := x) (base := R + 1) rfl (.tmp 44) (.tmp 49) rfl rfl rfl (HO.out.drewN kd) (by have := heap_lt HRw.out; simp; omega) (by have := HPL.out; have := HPN.out; omega) ?_; intro V6 w6 ho hb6 hk6; have HO6 := Lib.hid ho; have HB6 := Lib.hid ((below_drewN HB.out kd).trans (hb6.mono (show w.heap.size ≤ R + 1 by omega))); have HR6 := Lib.hid ((hb6.block R (by omega)).trans HRw.out); obtain ⟨a6, c6, h6, _⟩ := out_len ho; generalize hq6 : (_ ++ [x]).length = q6 at h6; subst h6; clear ho hb6 hk6 hq6)))
            go_roundw
            case rel => exact ⟨k + 1, j + 1, by omega, by go_num, by go_num, HS2.out.symm, by rw [HPS.out]; exact HO6.out, HB6.out, HR6.out⟩
            case measure => simp [intOf]; omega
        · rw [if_neg hq] at hHH
          rw [if_neg (fun h => hq h.2), List.append_nil] at hps
          have HPS := Lib.hid hps
          have HH2 := Lib.hid (fun w => hHH w hxs)
          rcases of_decide_eq_true hreg with hr | hr
          · have e1 : ((sh[k].toNat : Int) != 119) = false := by simp [hr]
            clear hx hHH hst hj hO hB hRw hLk hle hxs hq hreg hps htk hha hr HR hpl
            go_wp2_with (go_at_call 40; (with_reducible refine (HH2.out _).mono ?_); rintro e w2 ⟨rfl, kd, rfl⟩)
            go_roundw
            case rel => exact ⟨k + 1, j + 1, by omega, by go_num, by go_num, HS2.out.symm, by rw [HPS.out]; exact HO.out.drewN kd, below_drewN HB.out kd, HRw.out⟩
            case measure => simp [intOf]; omega
          · have e1 : ((sh[k].toNat : Int) != 119) = true := by simp [hr]
            have e2 : ((sh[k].toNat : Int) != 114) = false := by simp [hr]
            clear hx hHH hst hj hO hB hRw hLk hle hxs hq hreg hps htk hha hr HR hpl
            go_wp2_with (go_at_call 40; (with_reducible refine (HH2.out _).mono ?_); rintro e w2 ⟨rfl, kd, rfl⟩)
            go_roundw
            case rel => exact ⟨k + 1, j + 1, by omega, by go_num, by go_num, HS2.out.symm, by rw [HPS.out]; exact HO.out.drewN kd, below_drewN HB.out kd, HRw.out⟩
            case measure => simp [intOf]; omega
      · have hqq : (sh[k].toNat : Int) ≠ 119 ∧ (sh[k].toNat : Int) ≠ 114 := by
          have h := of_decide_eq_false (Bool.eq_false_iff.2 hreg)
          exact not_or.1 h
        have e1 : ((sh[k].toNat : Int) != 119) = true := by simpa using hqq.1
        have e2 : ((sh[k].toNat : Int) != 114) = true := by simpa using hqq.2
        rw [if_neg hreg] at hst
        rw [if_neg (fun h => hreg h.1), List.append_nil] at hps
        have HS2 := Lib.hid hst
        have HPS := Lib.hid hps
        clear hst hj hO hB hRw hLk hle hqq hreg hps htk hha HR hpl
        go_wp2
        go_roundw
        case rel => exact ⟨k + 1, j, by omega, by go_num, rfl, by rw [HS2.out]; rfl, by rw [HPS.out]; exact HO.out, HB.out, HRw.out⟩
        case measure => simp [intOf]; omega
    · obtain rfl : k = sh.size := by omega
      have hfull : L.take sh.size = L := List.take_of_length_le (by rw [HLen.out]; exact Nat.le_refl _)
      have HFU := Lib.hid hfull
      clear hfull hj hO hB hRw HR hpl
      go_wp2
      go_ret
      refine ⟨HB.out, _, rfl, ?_⟩
      have h := HO.out.base (base' := w.heap.size) (by omega)
      rw [HFU.out] at h
      exact h
end Go.Proofs.YtjoiocjnffaogaaGreat
