/- Where an instruction goes, by the document's own way. Contracts; no condition. -/
import Derived.Test.YtgoedemibdkpdaaGreatMath10
import Derived.Test.YtgoedemibdkpdaaGreatS03
namespace Go.Proofs.YtgoedemibdkpdaaGreat
open Go.RowKit Go.Shelf
set_option linter.unusedVariables false
set_option linter.unusedSimpArgs false

def tS : ByteArray := ⟨#[116]⟩
theorem first_t {n : Int} {args : List Int} : ∀ (L rs : List Int), firstV 116 (itemsL n args L rs) = if 116 ∈ L then n else -1
  | [], rs => by simp [itemsL, firstV]
  | q :: L, rs => by
    have ih := first_t (n := n) (args := args) L (restOf q rs)
    have hq : ∀ (xs : List Int) (M : List (Int × Int)), q ≠ 116 → firstV 116 (xs.map (fun x => (q, x)) ++ M) = firstV 116 M := by
      intro xs M hne
      induction xs with
      | nil => rfl
      | cons x xs ih' =>
        unfold firstV at ih' ⊢
        rw [List.map_cons, List.cons_append, List.find?_cons_of_neg (by simpa using hne)]
        exact ih'
    rw [itemsL]
    by_cases h : q = 116
    · subst h
      have : heldOf n args 116 rs = [n] := by simp [heldOf, show isReg 116 = false from by decide]
      rw [this]
      simp [firstV]
    · rw [hq _ _ h, ih]
      simp only [List.mem_cons, show (116 = q) = False from by simpa using (fun e => h e.symm : ¬ 116 = q), false_or]
theorem count_mem (L : List Int) : (0 < hasL L [116]) ↔ 116 ∈ L := by
  induction L with
  | nil => simp [hasL]
  | cons q L ih =>
    have : hasL (q :: L) [116] = [116].count q + hasL L [116] := by simp [hasL]
    rw [this, List.mem_cons, ← ih]
    by_cases h : q = 116
    · subst h; simp; omega
    · have : ([116] : List Int).count q = 0 := by
        rw [List.count_eq_zero]
        simpa using h
      rw [this]
      simp
      omega
theorem tgt_has (y : InsV) : tgtV y = if 0 < hasV (shapeI y.op) tS then y.n else -1 := by
  unfold tgtV itemsOf
  rw [first_t]
  have e : lettersOf tS = [116] := by decide
  unfold hasV
  rw [e]
  by_cases h : 116 ∈ lettersOf (shapeI y.op)
  · rw [if_pos h, if_pos ((count_mem _).2 h)]
  · rw [if_neg h, if_neg (fun hc => h ((count_mem _).1 hc))]
theorem shape_small (op : Int) : (shapeI op).size ≤ 100 := by
  unfold shapeI
  split
  · rename_i h
    have : ∀ k, k < 33 → (shapeB k).size ≤ 100 := by decide +kernel
    exact this _ (by omega)
  · decide
theorem rtarget_any (op a b c n : Int) (X : Value) (args : List Int) (w : World) :
    Calls Tryz.prog 39 #[.agg (insCells op a b c n X)] w (Makes w (.int .i64 (tgtV ⟨op, a, b, c, n, args⟩))) := by
  have HB := Lib.hid ((Below.refl w.heap.size w).alloc (Nat.le_refl _) (.cells (insCells op a b c n X) 37))
  have HH := Lib.hid (fun w => has_any (shapeI op) tS w (shape_small op) (by decide))
  have HT := Lib.hid (tgt_has ⟨op, a, b, c, n, args⟩)
  dsimp only at HT
  unfold tS at HH
  generalize hhv : hasV (shapeI op) ⟨#[116]⟩ = hv at *
  generalize tgtV ⟨op, a, b, c, n, args⟩ = tv at *
  by_cases h : 0 < hv
  · have hp : (0 : Int) < (hv : Int) := by omega
    have HE : Hid (tv = n) := Lib.hid (by have := HT.out; unfold tS at this; rw [hhv, if_pos h] at this; exact this)
    clear h hhv HT
    go_enter Tryz.func39, Tryz.ntmps39
    go_wp2_with (first
      | (go_at_call 54; (with_reducible refine (rshape_any op _).mono ?_); rintro e w1 ⟨rfl, rfl⟩)
      | (go_at_call 53; (with_reducible refine (HH.out _).mono ?_); rintro e w1 ⟨rfl, k, rfl⟩))
    go_ret
    rw [HE.out]
    exact ⟨rfl, below_drewN HB.out _⟩
  · have hp : ¬ (0 : Int) < (hv : Int) := by omega
    have HE : Hid (tv = -1) := Lib.hid (by have := HT.out; unfold tS at this; rw [hhv, if_neg h] at this; exact this)
    clear h hhv HT
    go_enter Tryz.func39, Tryz.ntmps39
    go_wp2_with (first
      | (go_at_call 54; (with_reducible refine (rshape_any op _).mono ?_); rintro e w1 ⟨rfl, rfl⟩)
      | (go_at_call 53; (with_reducible refine (HH.out _).mono ?_); rintro e w1 ⟨rfl, k, rfl⟩))
    go_ret
    rw [HE.out]
    exact ⟨rfl, below_drewN HB.out _⟩
theorem rfalls_any (op a b c n : Int) (X : Value) (w : World) : Calls Tryz.prog 41 #[.agg (insCells op a b c n X)] w (Makes w (.bool (fallsV op))) := by
  have HB := Lib.hid ((Below.refl w.heap.size w).alloc (Nat.le_refl _) (.cells (insCells op a b c n X) 37))
  have HI := Lib.hid (fun w => ris_any op w)
  by_cases h25 : op = 25
  · subst h25
    rw [show fallsV 25 = false from rfl]
    have ho : opB 25 = true := by decide
    rw [ho] at HI
    go_enter Tryz.func41, Tryz.ntmps41
    go_wp2_with (go_at_call 55; (with_reducible refine (HI.out _).mono ?_); rintro e w1 ⟨rfl, rfl⟩)
    go_ret
    exact ⟨rfl, HB.out⟩
  by_cases h29 : op = 29
  · subst h29
    rw [show fallsV 29 = false from rfl]
    have ho : opB 29 = true := by decide
    rw [ho] at HI
    go_enter Tryz.func41, Tryz.ntmps41
    go_wp2_with (go_at_call 55; (with_reducible refine (HI.out _).mono ?_); rintro e w1 ⟨rfl, rfl⟩)
    go_ret
    exact ⟨rfl, HB.out⟩
  by_cases h32 : op = 32
  · subst h32
    rw [show fallsV 32 = false from rfl]
    have ho : opB 32 = true := by decide
    rw [ho] at HI
    go_enter Tryz.func41, Tryz.ntmps41
    go_wp2_with (go_at_call 55; (with_reducible refine (HI.out _).mono ?_); rintro e w1 ⟨rfl, rfl⟩)
    go_ret
    exact ⟨rfl, HB.out⟩
  have hf : fallsV op = opB op := by unfold fallsV; rw [if_neg h25, if_neg h29, if_neg h32]
  have HF := Lib.hid hf
  have e1 : (op == 25) = false := by simpa using h25
  have e2 : (op == 29) = false := by simpa using h29
  have e3 : (op == 32) = false := by simpa using h32
  have n1 : (op != 25) = true := by simpa using h25
  have n2 : (op != 29) = true := by simpa using h29
  have n3 : (op != 32) = true := by simpa using h32
  clear hf h25 h29 h32
  cases ho : opB op with
  | true =>
    rw [ho] at HF HI
    go_enter Tryz.func41, Tryz.ntmps41
    go_wp2_with (go_at_call 55; (with_reducible refine (HI.out _).mono ?_); rintro e w1 ⟨rfl, rfl⟩)
    go_ret
    rw [HF.out]
    exact ⟨rfl, HB.out⟩
  | false =>
    rw [ho] at HF HI
    go_enter Tryz.func41, Tryz.ntmps41
    go_wp2_with (go_at_call 55; (with_reducible refine (HI.out _).mono ?_); rintro e w1 ⟨rfl, rfl⟩)
    go_ret
    rw [HF.out]
    exact ⟨rfl, HB.out⟩
end Go.Proofs.YtgoedemibdkpdaaGreat
