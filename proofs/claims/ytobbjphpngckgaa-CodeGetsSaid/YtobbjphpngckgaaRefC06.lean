/- The document's own way with registers, with fields that are not there, with whole instructions (twinshaftref06.registers, bare, Same). Contracts; no condition but that the argument is an instruction in memory. -/
import Derived.Test.YtobbjphpngckgaaRefB06
import Derived.Test.YtobbjphpngckgaaIns06
import Derived.Test.YtobbjphpngckgaaFirst06
import Derived.Maps.AppendAt
namespace Go.Proofs.Ytobbjphpngckgaa
open Go.RowKit
set_option linter.unusedVariables false
set_option linter.unusedSimpArgs false

abbrev wrS : ByteArray := ⟨#[119, 114]⟩
theorem regN_le (L : List Int) (k : Nat) : regN (L.take k) + regN (L.drop k) = regN L := by
  induction L generalizing k with
  | nil => simp [regN]
  | cons q qs ih =>
    cases k with
    | zero => simp [regN]
    | succ k => simp only [List.take_succ_cons, List.drop_succ_cons, regN]; have := ih k; omega
theorem regN_step (L : List Int) {k : Nat} (h : k < L.length) : regN (L.take (k + 1)) = regN (L.take k) + (if isReg L[k] then 1 else 0) := by
  have h1 := regN_le L k
  have h2 := regN_le L (k + 1)
  rw [List.drop_eq_getElem_cons h] at h1
  simp only [regN] at h1
  omega
/-- A letter of a register is found among those. -/
theorem has_wr {s : ByteArray} {k : Nat} (h : k < s.size) (hr : isReg (s[k].toNat : Int) = true) : 0 < hasV wrS (s.extract k (k + 1)) := by
  have e : lettersOf (s.extract k (k + 1)) = [(s[k].toNat : Int)] := by
    have hl : (s.extract k (k + 1)).size = 1 := by simp; omega
    apply List.ext_getElem
    · simp [letters_len, hl]
    · intro i h1 h2
      have hi : i = 0 := by simp [letters_len, hl] at h1; omega
      subst hi
      rw [letters_at _ (by omega), ByteArray.getElem_extract]
      simp
  unfold hasV
  rw [e]
  have hw : lettersOf wrS = [119, 114] := by kernel_rfl
  rw [hw]
  have := of_decide_eq_true hr
  rcases this with h | h <;> rw [h] <;> decide
theorem shapes_small (op : Int) : (shapeI op).size ≤ 3 := by
  unfold shapeI
  split
  · rename_i h
    have h2 : shapeL.all (fun s => decide (s.size ≤ 3)) = true := by kernel_rfl
    have hl : shapeL.length = 33 := by kernel_rfl
    have hk : op.toNat < shapeL.length := by omega
    have e : shapeB op.toNat = shapeL[op.toNat] := by simp [shapeB, List.getD, hk]
    rw [e]
    exact of_decide_eq_true (List.all_eq_true.1 h2 _ (List.getElem_mem hk))
  · exact Nat.zero_le _
def RegsDone (w : World) (xs : List Int) (e : Ending) (w' : World) : Prop := ∃ v, e = .returned v ∧ Owns w' w.heap.size 3 1 (IsNum .i64) v xs.length (xs.map (Value.int .i64)) ∧ Below w.heap.size w w'
set_option maxHeartbeats 4000000 in
set_option maxRecDepth 100000 in
theorem registers_any (op a b c n : Int) (X : Value) (w : World) : Calls Try.prog 59 #[.agg (insCells op a b c n X), .string wrS] w (RegsDone w ([a, b, c].take (regN (lettersOf (shapeI op))))) := by
  obtain ⟨sh, hsh⟩ : ∃ sh, sh = shapeI op := ⟨_, rfl⟩
  have HS := Lib.hid (fun w => rshape_any op w)
  have hok := shapes_ok op
  have hsm := shapes_small op
  rw [← hsh] at HS hok hsm ⊢
  have hr3 := okShape_reg hok
  obtain ⟨L, hL⟩ : ∃ L, L = lettersOf sh := ⟨_, rfl⟩
  have hlen : L.length = sh.size := by rw [hL, letters_len]
  rw [← hL] at hr3 ⊢
  have HH := Lib.hid (fun (t : ByteArray) (w : World) (ht : t.size ≤ 100) => has_any wrS t w (by decide) ht)
  obtain ⟨i0, hi, hz0, hz1, hz2⟩ := info_parts int_info
  have HI := Lib.hid hi
  have HZ0 := Lib.hid hz0
  have HZ1 := Lib.hid hz1
  have HZ2 := Lib.hid hz2
  have HL := Lib.hid hL
  have HLen := Lib.hid hlen
  clear hi hz0 hz1 hz2 hsh hok hL hlen
  go_enter Try.func59, Try.ntmps59
  go_wp2_with (go_at_call 39; (with_reducible refine (HS.out _).mono ?_); rintro e w1 ⟨rfl, rfl⟩)
  obtain ⟨R, hR⟩ : ∃ R, R = w.heap.size + 1 := ⟨_, rfl⟩
  obtain ⟨w1, hw1⟩ : ∃ w1, w1 = (w.alloc (.cells (insCells op a b c n X) 35)).alloc (.cells #[.int .i64 a, .int .i64 b, .int .i64 c] 3) := ⟨_, rfl⟩
  have hrow : w1.heap[R]? = some (.cells #[.int .i64 a, .int .i64 b, .int .i64 c] 3 (0, 0)) := by
    rw [hw1, hR]
    have := heap_alloc_new (w.alloc (.cells (insCells op a b c n X) 35)) (.cells #[.int .i64 a, .int .i64 b, .int .i64 c] 3)
    simpa using this
  have hb1 : Below w.heap.size w w1 := by rw [hw1]; exact ((Below.refl _ w).alloc (Nat.le_refl _) _).alloc (by simp) _
  rw [← hw1, ← hR]
  have HRow := Lib.hid hrow
  have HB1 := Lib.hid hb1
  have hRW : w.heap.size < R := by omega
  clear hw1 hR hrow hb1
  go_loopw [7, 8, 9] (fun out at' i wr => ∃ k j : Nat, k ≤ sh.size ∧ i = .int .i64 k ∧ at' = .int .i64 j ∧ j = regN (L.take k) ∧ Owns wr (R + 1) 3 1 (IsNum .i64) out j (([a, b, c].take j).map (Value.int .i64)) ∧ Below w.heap.size w wr ∧ wr.heap[R]? = some (.cells #[.int .i64 a, .int .i64 b, .int .i64 c] 3 (0, 0))) (fun _ _ i _ => sh.size - (intOf i).toNat)
  case atStart => exact ⟨0, 0, by omega, rfl, rfl, by simp [regN], Owns.nil _ _ _ _ _, HB1.out, HRow.out⟩
  case round =>
    obtain ⟨k, j, hk, rfl, rfl, hj, hO, hB, hRw⟩ := hrel
    have HO := Lib.hid hO
    have HB := Lib.hid hB
    have HRw := Lib.hid hRw
    have HJ := Lib.hid hj
    by_cases hlt : k < sh.size
    · have hst := regN_step L (k := k) (by rw [HLen.out]; exact hlt)
      have hLk : L[k]'(by rw [HLen.out]; exact hlt) = (sh[k].toNat : Int) := by
        have h2 : L = lettersOf sh := HL.out
        subst h2
        exact letters_at sh hlt
      rw [hLk, ← hj] at hst
      have hle := regN_le L (k + 1)
      have k0 : (0 : Int) ≤ (k : Int) := by omega
      have HW := Lib.hid (fun h => has_wr hlt h)
      obtain ⟨q, hq⟩ : ∃ q : Int, q = (sh[k].toNat : Int) := ⟨_, rfl⟩
      by_cases hreg : isReg (sh[k].toNat : Int) = true
      · have hw0 := HW.out hreg
        have hxs : (sh.extract k (k + 1)).size ≤ 100 := by simp; omega
        rw [hreg, if_pos rfl] at hst
        have hj3 : j < 3 := by omega
        obtain ⟨x, hx⟩ : ∃ x, x = [a, b, c].getD j 0 := ⟨_, rfl⟩
        have HX := Lib.hid hx
        have hcell : wr.cell? ⟨R, j, none⟩ = some (.int .i64 x) := by
          rw [hx]
          rcases (show j = 0 ∨ j = 1 ∨ j = 2 by omega) with h | h | h <;> simp [World.cell?, hRw, h]
        have hHH := HH.out (sh.extract k (k + 1))
        obtain ⟨hv, hhv⟩ : ∃ hv, hv = hasV wrS (sh.extract k (k + 1)) := ⟨_, rfl⟩
        rw [← hhv] at hHH hw0
        have HH2 := Lib.hid (fun w => hHH w hxs)
        have HS2 := Lib.hid hst
        have j0 : (0 : Int) ≤ (j : Int) := by omega
        clear hx hHH hhv hst hj hO hB hRw hLk hle hxs hq
        rcases of_decide_eq_true hreg with hq | hq
        · have e1 : ((sh[k].toNat : Int) != 119) = false := by simp [hq]
          have HQ := Lib.hid hq
          clear hq hreg
          go_wp2_with (first
            | (go_at_call 69; (with_reducible refine (HH2.out _).mono ?_); rintro e w2 ⟨rfl, kd, rfl⟩)
            | (at_builtin; refine wpList_append_q _ rfl (.tmp 44) (.tmp 49) 33 rfl (R + 1) 3 i0 _ 1 8 Try.underlying33 HI.out HZ0.out HZ1.out HZ2.out rfl (by decide) (IsNum .i64) (zero_num .i64) _ j _ rfl ((HO.out.drewN kd).alloc _) ⟨(wr.drewN kd).heap.size, 0, none⟩ 1 1 [.int .i64 x] rfl rfl (cell_one_new _ _ _) (by simp [Value.oneCell']) (by intro u hu; simp at hu; subst hu; exact ⟨_, rfl⟩) (by simp only [maxLen]; omega) (by omega) (by have := heap_lt HRw.out; simp; omega) ?_; intro v' w2 hown' hgrow; have hgrow2 : World.grownBy _ w2 u7.ownBlock := hgrow; have HO2 := Lib.hid hown'; have HG := Lib.hid hgrow2; clear hown' hgrow hgrow2))
          go_roundw
          case rel => exact ⟨k + 1, j + 1, by omega, by go_num, by go_num, HS2.out.symm, by rw [take_snocF [a, b, c] (show j < [a, b, c].length from hj3) (Value.int .i64), ← HX.out]; exact HO2.out, ((below_drewN HB.out kd).alloc (show w.heap.size ≤ wr.heap.size from HB.out.size) _).grown HG.out (by have := HB.out.size; simp; omega) (fun g hg => by have := (HO.out.lt hg).1; omega), (HG.out.block R (by have := heap_lt HRw.out; simp; omega) (fun e => by have := (HO.out.lt e.symm).1; omega)).trans ((Below.heap_alloc _ _ _ (show R < wr.heap.size from heap_lt HRw.out)).trans HRw.out)⟩
          case measure => simp [intOf]; omega
        · have e1 : ((sh[k].toNat : Int) != 119) = true := by simp [hq]
          have e2 : ((sh[k].toNat : Int) != 114) = false := by simp [hq]
          have HQ := Lib.hid hq
          clear hq hreg
          go_wp2_with (first
            | (go_at_call 69; (with_reducible refine (HH2.out _).mono ?_); rintro e w2 ⟨rfl, kd, rfl⟩)
            | (at_builtin; refine wpList_append_q _ rfl (.tmp 44) (.tmp 49) 33 rfl (R + 1) 3 i0 _ 1 8 Try.underlying33 HI.out HZ0.out HZ1.out HZ2.out rfl (by decide) (IsNum .i64) (zero_num .i64) _ j _ rfl ((HO.out.drewN kd).alloc _) ⟨(wr.drewN kd).heap.size, 0, none⟩ 1 1 [.int .i64 x] rfl rfl (cell_one_new _ _ _) (by simp [Value.oneCell']) (by intro u hu; simp at hu; subst hu; exact ⟨_, rfl⟩) (by simp only [maxLen]; omega) (by omega) (by have := heap_lt HRw.out; simp; omega) ?_; intro v' w2 hown' hgrow; have hgrow2 : World.grownBy _ w2 u7.ownBlock := hgrow; have HO2 := Lib.hid hown'; have HG := Lib.hid hgrow2; clear hown' hgrow hgrow2))
          go_roundw
          case rel => exact ⟨k + 1, j + 1, by omega, by go_num, by go_num, HS2.out.symm, by rw [take_snocF [a, b, c] (show j < [a, b, c].length from hj3) (Value.int .i64), ← HX.out]; exact HO2.out, ((below_drewN HB.out kd).alloc (show w.heap.size ≤ wr.heap.size from HB.out.size) _).grown HG.out (by have := HB.out.size; simp; omega) (fun g hg => by have := (HO.out.lt hg).1; omega), (HG.out.block R (by have := heap_lt HRw.out; simp; omega) (fun e => by have := (HO.out.lt e.symm).1; omega)).trans ((Below.heap_alloc _ _ _ (show R < wr.heap.size from heap_lt HRw.out)).trans HRw.out)⟩
          case measure => simp [intOf]; omega
      · have hq : (sh[k].toNat : Int) ≠ 119 ∧ (sh[k].toNat : Int) ≠ 114 := by
          have h := of_decide_eq_false (Bool.eq_false_iff.2 hreg)
          exact not_or.1 h
        have e1 : ((sh[k].toNat : Int) != 119) = true := by simpa using hq.1
        have e2 : ((sh[k].toNat : Int) != 114) = true := by simpa using hq.2
        rw [if_neg hreg] at hst
        have HS2 := Lib.hid hst
        clear hst hj hO hB hRw hLk hle hq hreg
        go_wp2
        go_roundw
        case rel => exact ⟨k + 1, j, by omega, by go_num, rfl, by rw [HS2.out]; rfl, HO.out, HB.out, HRw.out⟩
        case measure => simp [intOf]; omega
    · obtain rfl : k = sh.size := by omega
      have hfull : L.take sh.size = L := List.take_of_length_le (by rw [HLen.out]; exact Nat.le_refl _)
      rw [hfull] at hj
      have HJ2 := Lib.hid hj
      clear hfull hj hO hB hRw
      go_wp2
      go_ret
      refine ⟨_, rfl, ?_, HB.out⟩
      rw [← HJ2.out]
      have h := HO.out.base (base' := w.heap.size) (by omega)
      have hj5 := HJ2.out
      have hl : ([a, b, c].take j).length = j := by simp; omega
      rw [hl]
      exact h

end Go.Proofs.Ytobbjphpngckgaa
