/- The statement MemKeeps' body is true, for any size, acts, place, size of a number and number, whatever memory the call begins in. -/
import Derived.Test.YthcefpakjkojgaaApart02
import Derived.Test.YthcefpakjkojgaaLong02
import Derived.StillTailTactics
namespace Go.Proofs.Ythcefpakjkojgaa
open Go.RowKit
set_option linter.unusedVariables false

theorem made_sz (pn : Nat) (w : World) (h : pn < 200) : Calls Try.prog 21 #[.int .i64 (16 + (pn : Int))] w (NewDone w (List.replicate (16 + pn) 0)) := by
  have := made_yes (16 + pn) w (by omega) (by omega)
  rw [show ((16 + pn : Nat) : Int) = 16 + (pn : Int) by omega] at this
  exact this
theorem known_at (w : World) : Calls Try.prog 5 #[] w fun e w' => e = .returned (.bool true) ∧ Below w.heap.size w w' := known_any w

set_option maxRecDepth 100000 in
set_option maxHeartbeats 4000000 in
/-- Not gone through: more than 40 acts, or acts that are too long. -/
theorem keeps_odd (s0 a n v : Int) (V : Value) (l : List ActV) (pn : Nat) (w : World) (hV : IsActs w w.heap.size V l) (hpn : pn < 200)
    (hp : ∀ w, Calls Try.prog 25 #[.int .i64 s0, .int .i64 200] w fun e w' => e = .returned (.int .i64 pn) ∧ w = w')
    (h : longB l = true ∨ 40 < l.length) :
    Calls Try.prog 6 #[.int .i64 s0, V, .int .u64 a, .int .i64 n, .int .u64 v] w fun e w' => e = .returned (.bool true) ∧ Below w.heap.size w w' := by
  have HV := Lib.hid hV
  have HP := Lib.hid hp
  obtain ⟨A, cap, rfl⟩ := hV.len
  have hb := hV.1
  unfold maxLen at hb
  obtain ⟨m, hm⟩ : ∃ m, m = l.length := ⟨_, rfl⟩
  rw [← hm] at h hb HV ⊢
  clear hV hm hp
  cases hlb : longB l
  · have h40 : (40 : Int) < m := by
      rcases h with h | h
      · rw [hlb] at h; cases h
      · omega
    have HLB := Lib.hid hlb
    clear hlb h
    go_enter Try.func6, Try.ntmps6
    go_wp2_with (first
      | (go_at_call 5; (with_reducible refine (known_at _).mono ?_); rintro e w1 ⟨rfl, hb⟩; have HB1 := Lib.hid hb; have s1 := hb.size; clear hb)
      | (go_at_call 25; (with_reducible refine (HP.out _).mono ?_); rintro e w' ⟨rfl, rfl⟩)
      | (go_at_call 21; (with_reducible refine (made_sz _ _ hpn).mono ?_); rintro e w2 ⟨mb, bb, c, rfl, hm, g1, g2, hb⟩; have HB2 := Lib.hid (below_next HB1.out hb s1); have s2 := HB2.out.size; have hlg := long_any _ _ _ _ (HV.out.below HB2.out (Nat.le_refl _) (Nat.le_refl _)); rw [HLB.out] at hlg; have HLG := Lib.hid hlg; clear hm hb hlg)
      | (go_at_call 8; (with_reducible refine HLG.out.mono ?_); rintro e w' ⟨rfl, rfl⟩))
    go_ret
    exact ⟨rfl, HB2.out⟩
  · have HLB := Lib.hid hlb
    clear hlb h
    go_enter Try.func6, Try.ntmps6
    go_wp2_with (first
      | (go_at_call 5; (with_reducible refine (known_at _).mono ?_); rintro e w1 ⟨rfl, hb⟩; have HB1 := Lib.hid hb; have s1 := hb.size; clear hb)
      | (go_at_call 25; (with_reducible refine (HP.out _).mono ?_); rintro e w' ⟨rfl, rfl⟩)
      | (go_at_call 21; (with_reducible refine (made_sz _ _ hpn).mono ?_); rintro e w2 ⟨mb, bb, c, rfl, hm, g1, g2, hb⟩; have HB2 := Lib.hid (below_next HB1.out hb s1); have s2 := HB2.out.size; have hlg := long_any _ _ _ _ (HV.out.below HB2.out (Nat.le_refl _) (Nat.le_refl _)); rw [HLB.out] at hlg; have HLG := Lib.hid hlg; clear hm hb hlg)
      | (go_at_call 8; (with_reducible refine HLG.out.mono ?_); rintro e w' ⟨rfl, rfl⟩))
    go_ret
    exact ⟨rfl, HB2.out⟩
theorem storeL_len (xs : List Int) (a n v : Int) : (storeL xs a n v).length = xs.length := by
  unfold storeL
  split
  · rename_i h
    obtain ⟨_, h0, h1, h2, h3⟩ := numE_zero h
    rw [layL_len (by rw [bytesV_len]; omega)]
  · rfl
theorem layB_len (xs ys : List Int) (a : Int) : (layB xs a ys).length = xs.length := by
  unfold layB
  split
  · rename_i h
    obtain ⟨h0, h1, h2, h3⟩ := accE_zero h
    rw [layL_len (by omega)]
  · rfl

theorem whole_bytes {mb bb c pn : Nat} {xs : List Int} {w : World} (h : MemAt w mb bb c xs) (hx : xs.length = 16 + pn) :
    Calls Try.prog 19 #[.pointer (some ⟨mb, 0, none⟩), .int .u64 16, .int .i64 (16 + (pn : Int) - 16)] w (BytesDone w (partL xs 16 pn) 0) := by
  have e : (16 + (pn : Int) - 16) = (pn : Int) := by omega
  rw [e]
  have hl := h.hi
  have e2 : accE xs.length 16 pn = 0 := accE_ok (by omega) (by omega) (by omega) (by omega)
  have := bytes_any h 16 pn (by omega) (by omega) (by omega)
  unfold bytesL at this
  rw [if_pos e2, e2] at this
  exact this
theorem part16 {xs : List Int} {pn k : Nat} (h : k < pn) : (partL xs 16 pn).getD k 0 = xs.getD (16 + k) 0 := getD_part (a := 16) h
theorem part16_len {xs : List Int} {pn : Nat} (h : xs.length = 16 + pn) : (partL xs 16 pn).length = pn := partL_len (k := 16) (by omega)
/-- The bytes that were told, byte by byte. -/
theorem told_cells {w w0 : World} {v : Value} {pn : Nat} {xs : List Int} (h : Owns w w0.heap.size 5 1 IsU8 v (partL xs 16 pn).length ((partL xs 16 pn).map (Value.int .u8))) (hx : xs.length = 16 + pn) (hp : 0 < pn) :
    ∃ g cap, v = .slice (some ⟨g, 0, none⟩) pn cap ∧ w0.heap.size ≤ g ∧ g < w.heap.size ∧ pn ≤ cap ∧ ∀ k, k < pn → w.cell? ⟨g, k, none⟩ = some (.int .u8 (xs.getD (16 + k) 0)) := by
  have hl := part16_len hx
  obtain ⟨g, cap, hv, hg, hr, hc⟩ := owns_row h (by omega)
  rw [hl] at hv
  refine ⟨g, cap, hv, hg, hr.lt, by obtain ⟨_, _, _, _, h4⟩ := hr; omega, fun k hk => ?_⟩
  rw [hr.cell (by omega), part16 hk]
theorem told_empty {w w0 : World} {v : Value} {pn : Nat} {xs : List Int} (h : Owns w w0.heap.size 5 1 IsU8 v (partL xs 16 pn).length ((partL xs 16 pn).map (Value.int .u8))) (hx : xs.length = 16 + pn) (hp : pn ≤ 0) :
    ∃ A cap, v = .slice A pn cap := by
  have hl := part16_len hx
  rw [hl] at h
  obtain rfl : pn = 0 := by omega
  rcases h.1.2 with ⟨rfl, _⟩ | ⟨g, cap, cur, rfl, _⟩
  · exact ⟨none, 0, rfl⟩
  · exact ⟨_, cap, rfl⟩
theorem numE_good {L a : Int} {m : Nat} (hs : sizedB m = true) (h : 16 ≤ a) (h' : a ≤ L - m) : numE L a m = 0 := by
  unfold numE accE
  rw [if_pos hs, if_neg (by omega), if_neg (by omega)]
theorem numE_bad {L a : Int} {m : Nat} (hs : sizedB m = true) (h : a < 16 ∨ L - m < a) : numE L a m = 15 := by
  unfold numE accE
  rw [if_pos hs, if_neg (by omega), if_pos (by omega)]

end Go.Proofs.Ythcefpakjkojgaa
