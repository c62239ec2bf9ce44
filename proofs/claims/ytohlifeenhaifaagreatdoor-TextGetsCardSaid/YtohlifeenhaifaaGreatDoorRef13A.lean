/- The document's own numbers as words. Contracts; no condition but what each names. -/
import Derived.Test.YtohlifeenhaifaaGreatDoorS27
import Derived.Test.YtohlifeenhaifaaGreatDoorS10
import Derived.Laws.Concat
namespace Go.Proofs.YtohlifeenhaifaaGreatDoor
open Go.RowKit Go.Shelf
set_option linter.unusedVariables false
set_option linter.unusedSimpArgs false

/-- The digits that have been written, the rest still to be. -/
theorem digits_step {n0 k : Nat} {r : List Int} (h : digL n0 = (if k < 10 then [] else digL (k / 10)) ++ (48 + ((k % 10 : Nat) : Int)) :: r) (hk : ¬ k < 10) :
    digL n0 = (if k / 10 < 10 then [] else digL (k / 10 / 10)) ++ (48 + ((k / 10 % 10 : Nat) : Int)) :: ((48 + ((k % 10 : Nat) : Int)) :: r) := by
  rw [h, if_neg hk]
  by_cases h2 : k / 10 < 10
  · rw [if_pos h2, digL_small h2, show k / 10 % 10 = k / 10 by omega]
    rfl
  · rw [if_neg h2, digL_big h2]
    simp
theorem digits_start (n : Nat) : digL n = (if n < 10 then [] else digL (n / 10)) ++ [48 + ((n % 10 : Nat) : Int)] := by
  by_cases h : n < 10
  · rw [if_pos h, digL_small h, show n % 10 = n by omega]; rfl
  · rw [if_neg h, digL_big h]
/-- One digit in a row of its own, as a text. -/
theorem conv_digit (c : Int) (w : World) (hc : 0 ≤ c ∧ c < 256) : (convert 22 9 (.slice (some ⟨w.heap.size, 0, none⟩) 1 1)).run Tryz.prog (w.alloc (.cells #[.int .u8 c] 5)) = .ok (.string (strOfNums [c])) (w.alloc (.cells #[.int .u8 c] 5)) := by
  refine conv_bytes (P := Tryz.prog) (B := w.heap.size + 1) (xs := [c]) ?_ Tryz.underlying22 Tryz.underlying5 Tryz.underlying9
  refine ⟨fun x hx => by simp at hx; subst hx; exact hc, by unfold maxLen; simp, .inr ⟨⟨w.heap.size, 0, none⟩, 1, rfl, by simp, fun _ => by show w.heap.size < w.heap.size + 1; omega, fun i hi => ?_⟩⟩
  simp at hi
  subst hi
  have := cell_of_row _ w.heap.size 0 _ _ _ (heap_alloc_new w (.cells #[.int .u8 c] 5))
  exact this
set_option maxRecDepth 100000 in
set_option maxHeartbeats 4000000 in
theorem digits13_any (n : Nat) (hn : n < 18446744073709551616) (w : World) : Calls Tryz.prog 52 #[.int .u64 n] w (Makes w (.string (strOfNums (digL n)))) := by
  have hcv : ∀ (k : Nat) (W : World), (convert 22 9 (.slice (some ⟨W.heap.size, 0, none⟩) 1 1)).run Tryz.prog (W.alloc (.cells #[.int .u8 (48 + (k : Int) % 10)] 5)) = .ok (.string (strOfNums [48 + (k : Int) % 10])) (W.alloc (.cells #[.int .u8 (48 + (k : Int) % 10)] 5)) := fun k W => conv_digit _ W (by omega)
  have HN := Lib.hid hn
  have HA : Hid (∀ (W : World) (c : Int), Below W.heap.size W (W.alloc (.cells #[.int .u8 c] 5))) := Lib.hid (fun W c => (Below.refl _ W).alloc (Nat.le_refl _) _)
  have HL : Hid ((digL n).length ≤ 20) := Lib.hid (digL_len 19 n (Nat.lt_of_lt_of_le hn (by decide)))
  have HST := Lib.hid (digits_start n)
  clear hn
  go_enter Tryz.func52, Tryz.ntmps52
  go_wp2
  go_loopw [0, 3] (fun v0 v3 wr => ∃ (k : Nat) (r : List Int) (q : ByteArray), v0 = .int .u64 k ∧ v3 = .string q ∧ Hid (q = strOfNums ((48 + (k : Int) % 10) :: r)) ∧ Hid (k < 18446744073709551616 ∧ Below w.heap.size w wr ∧ digL n = (if k < 10 then [] else digL (k / 10)) ++ (48 + ((k % 10 : Nat) : Int)) :: r)) (fun v0 _ _ => (intOf v0).toNat)
  case atStart => exact ⟨n, [], _, rfl, rfl, Lib.hid rfl, Lib.hid ⟨HN.out, HA.out w _, HST.out⟩⟩
  case round =>
    obtain ⟨k, r, q, rfl, rfl, HQ, HR⟩ := hrel
    have HBL := Lib.hid HR.out.2.1
    have HEQ := Lib.hid HR.out.2.2
    have HK64 := Lib.hid HR.out.1
    by_cases hk : k < 10
    · have hk2 : ¬ (10 : Int) ≤ (k : Int) := by omega
      have HZ : Hid (digL n = (48 + (k : Int) % 10) :: r) := Lib.hid (by rw [HEQ.out, if_pos hk]; simp)
      have HZ2 : Hid (q = strOfNums (digL n)) := Lib.hid (by rw [HZ.out, HQ.out])
      clear hk HR hcv
      go_wp2
      go_ret
      exact ⟨by have h := HZ2.out; subst h; rfl, HBL.out⟩
    · have hk2 : (10 : Int) ≤ (k : Int) := by omega
      have HZ := Lib.hid (digits_step HEQ.out hk)
      have HK := Lib.hid hk
      obtain ⟨j, hj⟩ : ∃ j, j = k / 10 := ⟨_, rfl⟩
      have HJ := Lib.hid hj
      rw [← hj] at HZ
      have hw : IntKind.u64.wrap ((k : Int) / 10) = (j : Int) := by
        have h1 := HK64.out
        have h2 : ((k : Int) / 10) = ((k / 10 : Nat) : Int) := by simp
        rw [h2, hj]
        exact Int.emod_eq_of_lt (by omega) (by show _ < (2:Int) ^ (64:Nat); omega)
      have hsz : ¬ (9223372036854775807 : Int) < ((strOfNums [48 + (j : Int) % 10]).size : Int) + (q.size : Int) := by
        have h1 := congrArg List.length HEQ.out
        have h2 := HL.out
        rw [HQ.out, strOfNums_size, strOfNums_size]
        simp at h1 ⊢
        omega
      clear hk HR hj
      go_wp2
      go_roundw
      case rel => exact ⟨j, (48 + (k : Int) % 10) :: r, _, rfl, rfl, Lib.hid (by rw [HQ.out, ← str_app]; simp), Lib.hid ⟨by have := HK64.out; have := HJ.out; omega, HBL.out.trans ((HA.out _ _).mono HBL.out.size), by rw [HZ.out]; simp⟩⟩
      case measure => have := HK.out; have := HJ.out; simp [intOf]; omega
end Go.Proofs.YtohlifeenhaifaaGreatDoor
