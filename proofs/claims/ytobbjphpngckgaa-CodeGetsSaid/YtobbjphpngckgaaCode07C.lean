/- The landed code.Put and code.Length: the bytes of an instruction that can be put, and how many. Contracts; no condition but that the argument is an instruction in memory. -/
import Derived.Test.YtobbjphpngckgaaCode07B
namespace Go.Proofs.Ytobbjphpngckgaa
open Go.RowKit Go.Shelf
set_option linter.unusedVariables false
set_option linter.unusedSimpArgs false

/-- What Put ends with. -/
def PutI (w : World) (y : InsV) (e : Ending) (w' : World) : Prop :=
  (y.chk ≠ 0 ∧ e = .returned (.tuple #[.slice none 0 0, .int .i64 y.chk]) ∧ Below w.heap.size w w') ∨
  (y.chk = 0 ∧ ∃ v, e = .returned (.tuple #[v, .int .i64 0]) ∧ OutB w w' v y.bytes)
theorem puti_good {w w' : World} {y : InsV} {v : Value} (h : y.chk = 0) (ho : OutB w w' v y.bytes) : PutI w y (.returned (.tuple #[v, .int .i64 0])) w' := .inr ⟨h, _, rfl, ho⟩
theorem puti_bad {w w' : World} {y : InsV} {e0 : Int} (h : y.chk = e0) (h0 : e0 ≠ 0) (hb : Below w.heap.size w w') : PutI w y (.returned (.tuple #[.slice none 0 0, .int .i64 e0])) w' := .inl ⟨by rw [h]; exact h0, by rw [h], hb⟩
set_option maxHeartbeats 2000000 in
theorem put7_any (op a b c n : Int) (X : Value) (args : List Int) (w : World) (hX : IsNums .i64 w w.heap.size X args) :
    Calls Try.prog 16 #[.agg (insCells op a b c n X)] w (PutI w ⟨op, a, b, c, n, args⟩) := by
  have hB0 : Below w.heap.size w (w.alloc (.cells (insCells op a b c n X) 35)) := (Below.refl _ w).alloc (Nat.le_refl _) _
  have hX0 := (hX.below hB0 (Nat.le_refl _)).more hB0.size
  have HC := Lib.hid (check7_any op a b c n X args _ hX0)
  have HWr := Lib.hid (fun (h8 : args.length ≤ 8) W (hb : Below w.heap.size w W) => written_any op a b c n X args W ((hX.below hb (Nat.le_refl _)).more hb.size) h8)
  have HB0 := Lib.hid hB0
  obtain ⟨XA, Xc, rfl⟩ := hX.len
  have hk0 := heap_alloc_new w (.cells (insCells op a b c n (.slice XA args.length Xc)) 35)
  have HK0 := Lib.hid hk0
  by_cases h0 : InsV.chk ⟨op, a, b, c, n, args⟩ = 0
  · have h8 := (chk_ok h0).args
    have HWr := Lib.hid (HWr.out h8)
    have HH := Lib.hid h0
    rw [h0] at HC
    obtain ⟨c0, c1, c2, c3, c4, c5⟩ := cells6 hk0
    clear h0 h8 hX hX0 hB0 hk0
    go_enter Try.func16, Try.ntmps16
    go_wp2_with (first
      | (go_at_call 36; (with_reducible refine HC.out.mono ?_); rintro e w1 ⟨rfl, hb⟩; have HB1 := Lib.hid (HB0.out.trans (hb.mono HB0.out.size)); have hk1 := (hb.block w.heap.size (by simp)).trans HK0.out; obtain ⟨d0, d1, d2, d3, d4, d5⟩ := cells6 hk1; clear hb hk1)
      | (go_at_call 37; (with_reducible refine (HWr.out _ HB1.out).mono ?_); rintro e w2 ⟨v, rfl, ho⟩; have HO := Lib.hid (ho.up HB1.out); clear ho))
    go_ret2
    exact puti_good HH.out HO.out
  · obtain ⟨e0, he0⟩ : ∃ e0, e0 = InsV.chk ⟨op, a, b, c, n, args⟩ := ⟨_, rfl⟩
    have HE := Lib.hid he0.symm
    rw [← he0] at HC h0
    have HH := Lib.hid h0
    have hne : (e0 != 0) = true := by simpa using h0
    obtain ⟨c0, c1, c2, c3, c4, c5⟩ := cells6 hk0
    clear h0 hX hX0 hB0 hk0 HWr he0
    go_enter Try.func16, Try.ntmps16
    go_wp2_with (go_at_call 36; (with_reducible refine HC.out.mono ?_); rintro e w1 ⟨rfl, hb⟩; have HB1 := Lib.hid (HB0.out.trans (hb.mono HB0.out.size)); clear hb)
    go_ret2
    exact puti_bad HE.out HH.out HB1.out
def lenV (y : InsV) : Nat := if y.chk = 0 then y.bytes.length else 0
theorem owns_len {w : World} {base : Nat} {e : TypeId} {size : Nat} {K : Value → Prop} {v : Value} {n : Nat} {xs : List Value} (h : Owns w base e size K v n xs) : ∃ A cap, v = .slice A n cap := by
  rcases h.1.2 with ⟨rfl, h0⟩ | ⟨g, cap, cur, rfl, _⟩
  · subst h0; exact ⟨_, _, rfl⟩
  · exact ⟨_, _, rfl⟩
theorem puti_len {w0 w w1 : World} {y : InsV} {e : Ending} (hb0 : Below w0.heap.size w0 w) (h : PutI w y e w1) : ∃ A1 L1 c1' e1, e = .returned (.tuple #[.slice A1 (L1 : Nat) c1', .int .i64 e1]) ∧ Hid (L1 = lenV y ∧ Below w0.heap.size w0 w1) := by
  rcases h with ⟨h0, rfl, hb⟩ | ⟨h0, v, rfl, ho⟩
  · exact ⟨none, 0, 0, _, rfl, Lib.hid ⟨by unfold lenV; rw [if_neg h0], hb0.trans (hb.mono hb0.size)⟩⟩
  · obtain ⟨A, cap, rfl⟩ := owns_len ho.own
    exact ⟨A, _, cap, 0, rfl, Lib.hid ⟨by unfold lenV; rw [if_pos h0], hb0.trans (ho.bel.mono hb0.size)⟩⟩
set_option maxHeartbeats 2000000 in
theorem length7_any (op a b c n : Int) (X : Value) (args : List Int) (w : World) (hX : IsNums .i64 w w.heap.size X args) :
    Calls Try.prog 18 #[.agg (insCells op a b c n X)] w (Makes w (.int .i64 (lenV ⟨op, a, b, c, n, args⟩))) := by
  have hB0 : Below w.heap.size w (w.alloc (.cells (insCells op a b c n X) 35)) := (Below.refl _ w).alloc (Nat.le_refl _) _
  have hX0 := (hX.below hB0 (Nat.le_refl _)).more hB0.size
  have HP := Lib.hid (put7_any op a b c n X args _ hX0)
  have HB0 := Lib.hid hB0
  obtain ⟨XA, Xc, rfl⟩ := hX.len
  have hk0 := heap_alloc_new w (.cells (insCells op a b c n (.slice XA args.length Xc)) 35)
  obtain ⟨c0, c1, c2, c3, c4, c5⟩ := cells6 hk0
  clear hX0 hB0 hk0 hX
  go_enter Try.func18, Try.ntmps18
  go_wp2_with (go_at_call 16; (with_reducible refine HP.out.mono ?_); intro e w1 hp; obtain ⟨A1, L1, c1', e1, rfl, hl⟩ := puti_len HB0.out hp; clear hp)
  go_ret
  obtain ⟨hL, hb⟩ := hl.out
  subst hL
  exact ⟨rfl, hb⟩
end Go.Proofs.Ytobbjphpngckgaa
