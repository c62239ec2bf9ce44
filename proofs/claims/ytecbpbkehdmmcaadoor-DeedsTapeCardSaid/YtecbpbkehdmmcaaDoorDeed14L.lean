/- The text of a deed, of an ending. Contracts; no condition but that the numbers are small. -/
import Derived.Test.YtecbpbkehdmmcaaDoorDeed14K
import Derived.Laws.Concat
namespace Go.Proofs.YtecbpbkehdmmcaaDoor
open Go.RowKit Go.Shelf
set_option linter.unusedVariables false
set_option linter.unusedSimpArgs false

theorem str_cons14 (c : Int) (l : List Int) : strOfNums [c] ++ strOfNums l = strOfNums (c :: l) := by rw [← str_app14]; rfl
def smallI (b : Int) : Prop := -1 ≤ b ∧ b ≤ 255
theorem putText14 (k b : Int) (hb : smallI b) (w : World) (hE : Env14 w) : Calls Tryd.prog 60 #[.agg #[.int .i64 k, .int .i64 b]] w (Makes w (.string (strOfNums (45 :: num14 b)))) := by
  have HI : Hid (∀ W, Below w.heap.size w W → Calls Tryd.prog 62 #[.int .i64 b] W (Makes W (.string (strOfNums (num14 b))))) := Lib.hid (fun W h => itoaC14 b (by unfold smallI at hb; omega) W (hE.grow h))
  have hsz : (strOfNums (num14 b)).size ≤ 5 := by rw [str_size14]; exact num14_len (by unfold smallI at hb; omega)
  have HQ : Hid ((⟨#[45]⟩ : ByteArray) ++ strOfNums (num14 b) = strOfNums (45 :: num14 b)) := Lib.hid (by rw [show (⟨#[45]⟩ : ByteArray) = strOfNums [45] by decide, str_cons14])
  have HB := Lib.hid (below_one14 w (.cells #[.int .i64 k, .int .i64 b] 83))
  rw [← HQ.out]
  clear hE hb
  generalize strOfNums (num14 b) = s at *
  have hcat : ¬ (9223372036854775807 : Int) < 1 + (s.size : Int) := by omega
  clear hsz HQ
  go_enter Tryd.func60, Tryd.ntmps60
  go_wp2_with (go_at_call 62; (with_reducible refine (HI.out _ HB.out).mono ?_); rintro e w1 ⟨rfl, hb⟩; have HB1 := Lib.hid (HB.out.trans (hb.mono HB.out.size)); clear hb)
  go_ret
  exact ⟨rfl, HB1.out⟩
theorem gotText14 (k b : Int) (hb : smallI b) (w : World) (hE : Env14 w) : Calls Tryd.prog 61 #[.agg #[.int .i64 k, .int .i64 b]] w (Makes w (.string (strOfNums (43 :: num14 b)))) := by
  have HI : Hid (∀ W, Below w.heap.size w W → Calls Tryd.prog 62 #[.int .i64 b] W (Makes W (.string (strOfNums (num14 b))))) := Lib.hid (fun W h => itoaC14 b (by unfold smallI at hb; omega) W (hE.grow h))
  have hsz : (strOfNums (num14 b)).size ≤ 5 := by rw [str_size14]; exact num14_len (by unfold smallI at hb; omega)
  have HQ : Hid ((⟨#[43]⟩ : ByteArray) ++ strOfNums (num14 b) = strOfNums (43 :: num14 b)) := Lib.hid (by rw [show (⟨#[43]⟩ : ByteArray) = strOfNums [43] by decide, str_cons14])
  have HB := Lib.hid (below_one14 w (.cells #[.int .i64 k, .int .i64 b] 83))
  rw [← HQ.out]
  clear hE hb
  generalize strOfNums (num14 b) = s at *
  have hcat : ¬ (9223372036854775807 : Int) < 1 + (s.size : Int) := by omega
  clear hsz HQ
  go_enter Tryd.func61, Tryd.ntmps61
  go_wp2_with (go_at_call 62; (with_reducible refine (HI.out _ HB.out).mono ?_); rintro e w1 ⟨rfl, hb⟩; have HB1 := Lib.hid (HB.out.trans (hb.mono HB.out.size)); clear hb)
  go_ret
  exact ⟨rfl, HB1.out⟩
/-- A deed's text, without the blank. -/
def textA (d : Int × Int) : List Int := (if d.1 = 2 then 45 else 43) :: num14 d.2
theorem textA_blank (d : Int × Int) : textD d = textA d ++ [32] := by simp [textD, textA]
theorem textA_len {d : Int × Int} (h : smallI d.2) : (textA d).length ≤ 6 := by
  have := num14_len (x := d.2) (by unfold smallI at h; omega)
  simp [textA]; omega
theorem deedText14 (k b : Int) (hb : smallI b) (w : World) (hE : Env14 w) : Calls Tryd.prog 53 #[.agg #[.int .i64 k, .int .i64 b]] w (Makes w (.string (strOfNums (textA (k, b))))) := by
  have HP : Hid (∀ W, Below w.heap.size w W → Calls Tryd.prog 60 #[.agg #[.int .i64 k, .int .i64 b]] W (Makes W (.string (strOfNums (45 :: num14 b))))) := Lib.hid (fun W h => putText14 k b hb W (hE.grow h))
  have HG : Hid (∀ W, Below w.heap.size w W → Calls Tryd.prog 61 #[.agg #[.int .i64 k, .int .i64 b]] W (Makes W (.string (strOfNums (43 :: num14 b))))) := Lib.hid (fun W h => gotText14 k b hb W (hE.grow h))
  have HB := Lib.hid (below_one14 w (.cells #[.int .i64 k, .int .i64 b] 83))
  obtain ⟨x0, x1⟩ := cells2_14 (heap_alloc_new w (.cells #[.int .i64 k, .int .i64 b] 83))
  clear hE hb
  by_cases hk : k = 2
  · subst hk
    have HQ : Hid (textA (2, b) = 45 :: num14 b) := Lib.hid rfl
    rw [HQ.out]
    generalize strOfNums (45 :: num14 b) = s at *
    go_enter Tryd.func53, Tryd.ntmps53
    go_wp2_with (go_at_call 60; (with_reducible refine (HP.out _ HB.out).mono ?_); rintro e w1 ⟨rfl, hb⟩; have HB1 := Lib.hid (HB.out.trans (hb.mono HB.out.size)); clear hb)
    go_ret
    exact ⟨rfl, HB1.out⟩
  · have HQ : Hid (textA (k, b) = 43 :: num14 b) := Lib.hid (by simp [textA, hk])
    have hk2 : (k == 2) = false := by simpa using hk
    rw [HQ.out]
    clear hk
    generalize strOfNums (43 :: num14 b) = s at *
    go_enter Tryd.func53, Tryd.ntmps53
    go_wp2_with (go_at_call 61; (with_reducible refine (HG.out _ HB.out).mono ?_); rintro e w1 ⟨rfl, hb⟩; have HB1 := Lib.hid (HB.out.trans (hb.mono HB.out.size)); clear hb)
    go_ret
    exact ⟨rfl, HB1.out⟩
theorem textE_len {k c : Int} (h : okE k c = true) : (textE k c).length ≤ 10 := by
  have hc : -1000 ≤ c ∧ c ≤ 999 := by
    rcases okE_cases h with ⟨_, h⟩ | ⟨_, h⟩ | ⟨_, h⟩ <;> omega
  have := num14_len hc
  unfold textE
  split
  · simp; omega
  · split
    · simp; omega
    · split <;> simp
theorem endText14 (k c : Int) (hk : okE k c = true) (w : World) (hE : Env14 w) : Calls Tryd.prog 54 #[.agg #[.int .i64 k, .int .i64 c]] w (Makes w (.string (strOfNums (textE k c)))) := by
  have hc : -1 ≤ c ∧ c ≤ 255 := by rcases okE_cases hk with ⟨_, h⟩ | ⟨_, h⟩ | ⟨_, h⟩ <;> omega
  have HI : Hid (∀ W, Below w.heap.size w W → Calls Tryd.prog 62 #[.int .i64 c] W (Makes W (.string (strOfNums (num14 c))))) := Lib.hid (fun W h => itoaC14 c (by omega) W (hE.grow h))
  have hsz : (strOfNums (num14 c)).size ≤ 5 := by rw [str_size14]; exact num14_len (by omega)
  have HB := Lib.hid (below_one14 w (.cells #[.int .i64 k, .int .i64 c] 75))
  obtain ⟨x0, x1⟩ := cells2_14 (heap_alloc_new w (.cells #[.int .i64 k, .int .i64 c] 75))
  have HK := Lib.hid (okE_cases hk)
  clear hE hk hc
  by_cases h1 : k = 1
  · subst h1
    have HQ : Hid ((⟨#[101, 120, 105, 116, 32]⟩ : ByteArray) ++ strOfNums (num14 c) = strOfNums (textE 1 c)) := Lib.hid (by
      rw [show (⟨#[101, 120, 105, 116, 32]⟩ : ByteArray) = strOfNums [101, 120, 105, 116, 32] by decide, ← str_app14]; rfl)
    rw [← HQ.out]
    generalize strOfNums (num14 c) = s at *
    have hcat : ¬ (9223372036854775807 : Int) < 5 + (s.size : Int) := by omega
    clear hsz HQ
    go_enter Tryd.func54, Tryd.ntmps54
    go_wp2_with (go_at_call 62; (with_reducible refine (HI.out _ HB.out).mono ?_); rintro e w1 ⟨rfl, hb⟩; have HB1 := Lib.hid (HB.out.trans (hb.mono HB.out.size)); clear hb)
    go_ret
    exact ⟨rfl, HB1.out⟩
  · have e1 : (k == 1) = false := by simpa using h1
    by_cases h2 : k = 2
    · subst h2
      have HQ : Hid ((⟨#[116, 114, 97, 112, 32]⟩ : ByteArray) ++ strOfNums (num14 c) = strOfNums (textE 2 c)) := Lib.hid (by
        rw [show (⟨#[116, 114, 97, 112, 32]⟩ : ByteArray) = strOfNums [116, 114, 97, 112, 32] by decide, ← str_app14]; rfl)
      rw [← HQ.out]
      clear h1
      generalize strOfNums (num14 c) = s at *
      have hcat : ¬ (9223372036854775807 : Int) < 5 + (s.size : Int) := by omega
      clear hsz HQ
      go_enter Tryd.func54, Tryd.ntmps54
      go_wp2_with (go_at_call 62; (with_reducible refine (HI.out _ HB.out).mono ?_); rintro e w1 ⟨rfl, hb⟩; have HB1 := Lib.hid (HB.out.trans (hb.mono HB.out.size)); clear hb)
      go_ret
      exact ⟨rfl, HB1.out⟩
    · have e2 : (k == 2) = false := by simpa using h2
      by_cases h3 : k = 3
      · subst h3
        have HQ : Hid ((⟨#[115, 116, 97, 99, 107]⟩ : ByteArray) = strOfNums (textE 3 c)) := Lib.hid (by rw [show textE 3 c = [115, 116, 97, 99, 107] from rfl]; decide)
        rw [← HQ.out]
        clear h1 h2 hsz
        go_enter Tryd.func54, Tryd.ntmps54
        go_wp2
        go_ret
        exact ⟨rfl, HB.out⟩
      · have e3 : (k == 3) = false := by simpa using h3
        obtain rfl : k = 4 := by rcases HK.out with ⟨h, _⟩ | ⟨h, _⟩ | ⟨h, _⟩ <;> omega
        have HQ : Hid ((⟨#[102, 117, 101, 108]⟩ : ByteArray) = strOfNums (textE 4 c)) := Lib.hid (by rw [show textE 4 c = [102, 117, 101, 108] from rfl]; decide)
        rw [← HQ.out]
        clear h1 h2 h3 hsz e1 e2 e3
        go_enter Tryd.func54, Tryd.ntmps54
        go_wp2
        go_ret
        exact ⟨rfl, HB.out⟩
end Go.Proofs.YtecbpbkehdmmcaaDoor
