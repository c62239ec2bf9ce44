/- The document's own numbers as words, and lines of instructions. Contracts; no condition but what each names. -/
import Derived.Test.YtohlifeenhaifaaGreatDoorRef13A
namespace Go.Proofs.YtohlifeenhaifaaGreatDoor
open Go.RowKit Go.Shelf
set_option linter.unusedVariables false
set_option linter.unusedSimpArgs false

theorem str_minus (l : List Int) : (⟨#[45]⟩ : ByteArray) ++ strOfNums l = strOfNums (45 :: l) := by
  rw [show (⟨#[45]⟩ : ByteArray) = strOfNums [45] by decide, ← str_app]
  rfl
set_option maxRecDepth 100000 in
set_option maxHeartbeats 4000000 in
theorem rnum13_any (n : Int) (hn : InI n) (w : World) : Calls Tryz.prog 28 #[.int .i64 n] w (Makes w (.string (strOfNums (numL n)))) := by
  unfold InI at hn
  have HD := Lib.hid (fun (k : Nat) (h : k < 18446744073709551616) => digits13_any k h w)
  by_cases h0 : n < 0
  · obtain ⟨t, ht⟩ : ∃ t : Nat, n = -(t : Int) - 1 := ⟨(-(n + 1)).toNat, by omega⟩
    have HT := Lib.hid (show t ≤ 9223372036854775807 by omega)
    have HR : Hid (numL n = 45 :: digL (t + 1)) := Lib.hid (by
      unfold numL
      rw [if_pos h0, show n.natAbs = t + 1 by omega])
    have HDD := Lib.hid (HD.out (t + 1) (by omega))
    have HLN : Hid ((digL (t + 1)).length ≤ 20) := Lib.hid (digL_len 19 _ (Nat.lt_of_le_of_lt (show t + 1 ≤ 9223372036854775808 by omega) (by decide)))
    obtain ⟨q, hq⟩ : ∃ q, q = strOfNums (digL (t + 1)) := ⟨_, rfl⟩
    have HQ := Lib.hid hq
    have hcat : ¬ (9223372036854775807 : Int) < 1 + (q.size : Int) := by
      rw [hq, strOfNums_size]
      have := HLN.out
      omega
    rw [← hq] at HDD
    obtain ⟨u, hu⟩ : ∃ u, u = t + 1 := ⟨_, rfl⟩
    rw [← hu] at HDD
    have hnI := h0
    rw [HR.out]
    subst ht
    clear hq hn HD
    rw [← hu]
    have hv : IntKind.u64.wrap (IntKind.u64.wrap (wrap64 (-wrap64 (-(t : Int)))) + 1) = (u : Int) := by
      have h1 := HT.out
      rw [IntWalk.wrap64_in (-(t : Int)) (by omega), Int.neg_neg, IntWalk.wrap64_in (t : Int) (by omega), IntWalk.u64_in (t : Int) (by omega), IntWalk.u64_in _ (by omega), hu]
      rfl
    rw [hu, ← str_minus, ← HQ.out]
    clear hu
    go_enter Tryz.func28, Tryz.ntmps28
    go_wp2_with (go_at_call 52; (with_reducible refine (HDD.out).mono ?_); rintro e w2 ⟨rfl, hb⟩; have HB := Lib.hid hb; clear hb)
    go_ret
    exact ⟨rfl, HB.out⟩
  · obtain ⟨t, ht⟩ : ∃ t : Nat, n = (t : Int) := ⟨n.toNat, by omega⟩
    have HT := Lib.hid (show t ≤ 9223372036854775807 by omega)
    have HR : Hid (numL n = digL t) := Lib.hid (by
      unfold numL
      rw [if_neg h0, show n.toNat = t by omega])
    have HDD := Lib.hid (HD.out t (by omega))
    rw [HR.out]
    subst ht
    clear hn HD
    have hv : IntKind.u64.wrap (t : Int) = (t : Int) := by
      have h1 := HT.out
      exact IntWalk.u64_in _ (by omega)
    go_enter Tryz.func28, Tryz.ntmps28
    go_wp2_with (go_at_call 52; (with_reducible refine (HDD.out).mono ?_); rintro e w2 ⟨rfl, hb⟩; have HB := Lib.hid hb; clear hb)
    go_ret
    exact ⟨rfl, HB.out⟩
end Go.Proofs.YtohlifeenhaifaaGreatDoor
