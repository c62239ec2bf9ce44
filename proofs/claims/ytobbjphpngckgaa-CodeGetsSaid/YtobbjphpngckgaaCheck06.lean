/- The landed op.Check: why an instruction may not be. Contract; no condition but that the argument is an instruction in memory. -/
import Derived.Test.YtobbjphpngckgaaRest06
import Derived.Test.YtobbjphpngckgaaFits06
import Derived.Deep.RegionHeld3
namespace Go.Proofs.Ytobbjphpngckgaa
open Go.RowKit
set_option linter.unusedVariables false
set_option linter.unusedSimpArgs false

/-- Are all fields nought that are not of the shape? -/
def bareV (L : List Int) (a b c n : Int) (args : List Int) : Bool := (([a, b, c].drop (regN L)).all (fun x => x == 0)) && ((hasN L || n == 0) && (conL L || args.isEmpty))
def restA (L : List Int) (args : List Int) : List Int := if conL L then [] else args
theorem same_rest (L : List Int) (op a b c n : Int) (args : List Int) (h : regN L ≤ 3) :
    sameV op (restR (regN L) 0 a) (restR (regN L) 1 b) (restR (regN L) 2 c) (restN L n) (restA L args) op 0 0 0 0 [] = bareV L a b c n args := by
  unfold sameV bareV restN restA
  rw [Bool.eq_iff_iff]
  rcases (show regN L = 0 ∨ regN L = 1 ∨ regN L = 2 ∨ regN L = 3 by omega) with h | h | h | h <;> rw [h] <;> cases hasN L <;> cases conL L <;> simp [restR, and_assoc]
theorem rest_nums {w : World} {B : Nat} {X : Value} {args : List Int} (L : List Int) (h : IsNums .i64 w B X args) : IsNums .i64 w B (restX L X) (restA L args) := by
  unfold restX restA
  split
  · exact ⟨by simp, .inl ⟨rfl, rfl⟩⟩
  · exact h
theorem nums_nil (w : World) (B : Nat) : IsNums .i64 w B (.slice none 0 0) [] := ⟨by simp, .inl ⟨rfl, rfl⟩⟩
theorem nums_drew {w : World} {B : Nat} {X : Value} {args : List Int} (h : IsNums .i64 w B X args) : IsNums .i64 w.drew B X args := h.of_block fun _ _ => rfl
/-- Why an instruction may not be. -/
def checkV (op a b c n : Int) (args : List Int) (regs area : Int) : Int :=
  if ¬ (0 ≤ op ∧ op < 33) then 16 else if regs < 0 ∨ 64 < regs ∨ area < 0 ∨ 4096 < area then 2 else if bareV (lettersOf (shapeI op)) a b c n args = false then 2
  else if 8 < args.length then 3 else if (itemsOf (shapeI op) a b c n args).all (fitB regs area) = false then 5 else 0
def BoundsDone (regs area : Int) (w : World) (e : Ending) (w' : World) : Prop :=
  ∃ br ba, e = .returned (.func (.func 66) #[] #[.pointer (some ⟨br, 0, none⟩), .pointer (some ⟨ba, 0, none⟩)]) ∧ br < w'.heap.size ∧ ba < w'.heap.size ∧ w'.cell? ⟨br, 0, none⟩ = some (.int .i64 regs) ∧ w'.cell? ⟨ba, 0, none⟩ = some (.int .i64 area) ∧ Below w.heap.size w w'
theorem bounds_any (regs area : Int) (w : World) : Calls Try.prog 52 #[.int .i64 regs, .int .i64 area] w (BoundsDone regs area w) := by
  refine (bounds_in regs area w).mono ?_
  rintro e w' ⟨rfl, rfl⟩
  refine ⟨_, _, rfl, by simp; omega, by simp, ?_, ?_, ((Below.refl _ w).alloc (Nat.le_refl _) _).alloc (by simp) _⟩
  · rw [World.cell?_alloc_lt _ _ _ (by simp)]
    exact (Boxed.new w 3 (.int .i64 regs)).cell
  · have h := (Boxed.new (w.alloc (.cells #[.int .i64 regs] 3)) 3 (.int .i64 area)).cell
    rwa [World.size_alloc] at h
abbrev SixC (w : World) (b' : Nat) (op a b c n : Int) (X : Value) : Prop := w.cell? ⟨b', 0, none⟩ = some (.int .i64 op) ∧ w.cell? ⟨b', 1, none⟩ = some (.int .i64 a) ∧ w.cell? ⟨b', 2, none⟩ = some (.int .i64 b) ∧ w.cell? ⟨b', 3, none⟩ = some (.int .i64 c) ∧ w.cell? ⟨b', 4, none⟩ = some (.int .i64 n) ∧ w.cell? ⟨b', 5, none⟩ = some X
theorem six_below {w w' : World} {B b' : Nat} {op a b c n : Int} {X : Value} (h : SixC w b' op a b c n X) (hb : Below B w w') (hB : b' < B) : SixC w' b' op a b c n X :=
  ⟨(hb.cell (p := ⟨b', 0, none⟩) hB).trans h.1, (hb.cell (p := ⟨b', 1, none⟩) hB).trans h.2.1, (hb.cell (p := ⟨b', 2, none⟩) hB).trans h.2.2.1, (hb.cell (p := ⟨b', 3, none⟩) hB).trans h.2.2.2.1, (hb.cell (p := ⟨b', 4, none⟩) hB).trans h.2.2.2.2.1, (hb.cell (p := ⟨b', 5, none⟩) hB).trans h.2.2.2.2.2⟩
theorem below_drewB {B : Nat} {w w' : World} (h : Below B w.drew w') : Below B w w' := ⟨h.os, h.tape, h.output, h.size, h.block⟩

set_option maxHeartbeats 4000000 in
set_option maxRecDepth 100000 in
theorem check_early (op a b c n : Int) (X : Value) (args : List Int) (regs area : Int) (w : World) (h : ¬ (0 ≤ op ∧ op < 33) ∨ regs < 0 ∨ 64 < regs ∨ area < 0 ∨ 4096 < area) :
    Calls Try.prog 32 #[.agg (insCells op a b c n X), .int .i64 regs, .int .i64 area] w (Makes w (.int .i64 (checkV op a b c n args regs area))) := by
  have hB0 : Below w.heap.size w (w.alloc (.cells (insCells op a b c n X) 35)) := (Below.refl _ w).alloc (Nat.le_refl _) _
  have HB0 := Lib.hid hB0
  have HE := Lib.hid (fun w => exists_any op w)
  by_cases ho : 0 ≤ op ∧ op < 33
  case neg =>
    have hc : checkV op a b c n args regs area = 16 := by unfold checkV; rw [if_pos ho]
    have HC := Lib.hid hc
    rw [opB_no ho] at HE
    clear hc ho h hB0
    go_enter Try.func32, Try.ntmps32
    go_wp2_with (go_at_call 49; (with_reducible refine (HE.out _).mono ?_); rintro e w1 ⟨rfl, rfl⟩)
    go_ret
    rw [HC.out]
    exact ⟨rfl, HB0.out⟩
  rw [opB_yes ho] at HE
  have h2 : regs < 0 ∨ 64 < regs ∨ area < 0 ∨ 4096 < area := h.resolve_left (fun h => h ho)
  have hc : checkV op a b c n args regs area = 2 := by unfold checkV; rw [if_neg (fun h => h ho), if_pos h2]
  have HC := Lib.hid hc
  clear hc ho h hB0
  by_cases g0 : regs < 0
  · go_enter Try.func32, Try.ntmps32
    go_wp2_with (go_at_call 49; (with_reducible refine (HE.out _).mono ?_); rintro e w1 ⟨rfl, rfl⟩)
    go_ret
    rw [HC.out]
    exact ⟨rfl, HB0.out⟩
  by_cases g1 : 64 < regs
  · go_enter Try.func32, Try.ntmps32
    go_wp2_with (go_at_call 49; (with_reducible refine (HE.out _).mono ?_); rintro e w1 ⟨rfl, rfl⟩)
    go_ret
    rw [HC.out]
    exact ⟨rfl, HB0.out⟩
  by_cases g2 : area < 0
  · go_enter Try.func32, Try.ntmps32
    go_wp2_with (go_at_call 49; (with_reducible refine (HE.out _).mono ?_); rintro e w1 ⟨rfl, rfl⟩)
    go_ret
    rw [HC.out]
    exact ⟨rfl, HB0.out⟩
  by_cases g3 : 4096 < area
  · go_enter Try.func32, Try.ntmps32
    go_wp2_with (go_at_call 49; (with_reducible refine (HE.out _).mono ?_); rintro e w1 ⟨rfl, rfl⟩)
    go_ret
    rw [HC.out]
    exact ⟨rfl, HB0.out⟩
  omega
set_option maxHeartbeats 4000000 in
set_option maxRecDepth 100000 in
theorem check_late (op a b c n : Int) (X : Value) (args : List Int) (regs area : Int) (w : World) (hX : IsNums .i64 w w.heap.size X args) (ho : 0 ≤ op ∧ op < 33) (h0 : 0 ≤ regs) (h1 : regs ≤ 64) (h2 : 0 ≤ area) (h3 : area ≤ 4096) :
    Calls Try.prog 32 #[.agg (insCells op a b c n X), .int .i64 regs, .int .i64 area] w (Makes w (.int .i64 (checkV op a b c n args regs area))) := by
  have hB0 : Below w.heap.size w (w.alloc (.cells (insCells op a b c n X) 35)) := (Below.refl _ w).alloc (Nat.le_refl _) _
  have HB0 := Lib.hid hB0
  have HE := Lib.hid (fun w => exists_any op w)
  rw [opB_yes ho] at HE
  have hr3 := okShape_reg (shapes_ok op)
  obtain ⟨XA, Xc, rfl⟩ := hX.len
  have HX0 := Lib.hid ((hX.below hB0 (Nat.le_refl _)).more hB0.size)
  have HK0 : Hid (SixC (w.alloc (.cells (insCells op a b c n (.slice XA args.length Xc)) 35)) w.heap.size op a b c n (.slice XA args.length Xc)) := Lib.hid (cells6 (heap_alloc_new _ _))
  have HL0 : Hid (w.heap.size < (w.alloc (.cells (insCells op a b c n (.slice XA args.length Xc)) 35)).heap.size) := Lib.hid (by simp)
  have hR := fun W => rest_any op a b c n (.slice XA args.length Xc) W ⟨_, _, _, rfl⟩
  have hS := fun W (h : IsNums .i64 W W.heap.size (.slice XA args.length Xc) args) => same_any op (restR (regN (lettersOf (shapeI op))) 0 a) (restR (regN (lettersOf (shapeI op))) 1 b) (restR (regN (lettersOf (shapeI op))) 2 c) (restN (lettersOf (shapeI op)) n) (restX (lettersOf (shapeI op)) (.slice XA args.length Xc)) (restA (lettersOf (shapeI op)) args) op 0 0 0 0 (.slice none 0 0) [] W (rest_nums _ h) (nums_nil _ _)
  rw [same_rest _ op a b c n args hr3] at hS
  have hF := fun W br ba (h : IsNums .i64 W W.heap.size (.slice XA args.length Xc) args) g1 g2 g3 g4 => fits_any op a b c n (.slice XA args.length Xc) args regs area br ba W h h0 h1 g1 g2 g3 g4
  have HBd := Lib.hid (fun W => bounds_any regs area W)
  obtain ⟨ra, hra⟩ : ∃ x, x = restR (regN (lettersOf (shapeI op))) 0 a := ⟨_, rfl⟩
  obtain ⟨rb, hrb⟩ : ∃ x, x = restR (regN (lettersOf (shapeI op))) 1 b := ⟨_, rfl⟩
  obtain ⟨rc, hrc⟩ : ∃ x, x = restR (regN (lettersOf (shapeI op))) 2 c := ⟨_, rfl⟩
  obtain ⟨rn, hrn⟩ : ∃ x, x = restN (lettersOf (shapeI op)) n := ⟨_, rfl⟩
  obtain ⟨rX, hrX⟩ : ∃ x, x = restX (lettersOf (shapeI op)) (.slice XA args.length Xc) := ⟨_, rfl⟩
  rw [← hra, ← hrb, ← hrc, ← hrn, ← hrX] at hR
  rw [← hra, ← hrb, ← hrc, ← hrn, ← hrX] at hS
  clear hra hrb hrc hrn hrX
  have hc0 : checkV op a b c n args regs area = if bareV (lettersOf (shapeI op)) a b c n args = false then 2 else if 8 < args.length then 3 else if (itemsOf (shapeI op) a b c n args).all (fitB regs area) = false then 5 else 0 := by
    unfold checkV
    rw [if_neg (fun h => h ho), if_neg (by omega)]
  obtain ⟨bv, hbv⟩ : ∃ x, x = bareV (lettersOf (shapeI op)) a b c n args := ⟨_, rfl⟩
  obtain ⟨fv, hfv⟩ : ∃ x, x = (itemsOf (shapeI op) a b c n args).all (fitB regs area) := ⟨_, rfl⟩
  rw [← hbv, ← hfv] at hc0
  rw [← hbv] at hS
  rw [← hfv] at hF
  have HR := Lib.hid hR
  have hm := hX.1
  unfold maxLen at hm
  clear hX hB0 hR hbv hfv ho hr3
  cases bv
  · have HSm := Lib.hid hS
    have HC : Hid (checkV op a b c n args regs area = 2) := Lib.hid (by rw [hc0]; rfl)
    clear hS hF hc0
    go_enter Try.func32, Try.ntmps32
    go_wp2_with (go_at_call 49; (with_reducible refine (HE.out _).mono ?_); rintro e w1 ⟨rfl, rfl⟩)
    go_region_held3 (fun w' => w'.cell? ⟨w.heap.size, 0, none⟩ = some (.int .i64 op) ∧ w'.cell? ⟨w.heap.size, 1, none⟩ = some (.int .i64 a) ∧ w'.cell? ⟨w.heap.size, 2, none⟩ = some (.int .i64 b) ∧ w'.cell? ⟨w.heap.size, 3, none⟩ = some (.int .i64 c) ∧ w'.cell? ⟨w.heap.size, 4, none⟩ = some (.int .i64 n) ∧ w'.cell? ⟨w.heap.size, 5, none⟩ = some (.slice XA args.length Xc)) (first | with_reducible exact HK2.out | with_reducible exact HK1.out | go_keep)
      (first
        | (go_at_call 50; (with_reducible refine (HR.out _).mono ?_); rintro e w1 ⟨rfl, hb⟩; have B1 := Lib.hid (below_drewB hb); have HK1 := Lib.hid (six_below HK0.out B1.out HL0.out); have HX1 := Lib.hid ((HX0.out.below B1.out (Nat.le_refl _)).more B1.out.size); clear hb)
        | (go_at_call 34; (with_reducible refine (HSm.out _ HX1.out).mono ?_); rintro e w2 ⟨rfl, hb⟩; have B2 := Lib.hid (B1.out.trans (hb.mono B1.out.size)); have HK2 := Lib.hid (six_below HK0.out B2.out HL0.out); have HX2 := Lib.hid ((HX0.out.below B2.out (Nat.le_refl _)).more B2.out.size); have hk2 := HK2.out; obtain ⟨k0, k1, k2, k3, k4, k5⟩ := hk2; clear hb))
    go_wp2
    go_ret
    rw [HC.out]
    exact ⟨rfl, HB0.out.trans (B2.out.mono HB0.out.size)⟩
  · have HSm := Lib.hid hS
    clear hS
    by_cases h8 : 8 < args.length
    · have HC : Hid (checkV op a b c n args regs area = 3) := Lib.hid (by rw [hc0]; simp [h8])
      clear hF hc0
      go_enter Try.func32, Try.ntmps32
      go_wp2_with (go_at_call 49; (with_reducible refine (HE.out _).mono ?_); rintro e w1 ⟨rfl, rfl⟩)
      go_region_held3 (fun w' => w'.cell? ⟨w.heap.size, 0, none⟩ = some (.int .i64 op) ∧ w'.cell? ⟨w.heap.size, 1, none⟩ = some (.int .i64 a) ∧ w'.cell? ⟨w.heap.size, 2, none⟩ = some (.int .i64 b) ∧ w'.cell? ⟨w.heap.size, 3, none⟩ = some (.int .i64 c) ∧ w'.cell? ⟨w.heap.size, 4, none⟩ = some (.int .i64 n) ∧ w'.cell? ⟨w.heap.size, 5, none⟩ = some (.slice XA args.length Xc)) (first | with_reducible exact HK2.out | with_reducible exact HK1.out | go_keep)
        (first
          | (go_at_call 50; (with_reducible refine (HR.out _).mono ?_); rintro e w1 ⟨rfl, hb⟩; have B1 := Lib.hid (below_drewB hb); have HK1 := Lib.hid (six_below HK0.out B1.out HL0.out); have HX1 := Lib.hid ((HX0.out.below B1.out (Nat.le_refl _)).more B1.out.size); clear hb)
          | (go_at_call 34; (with_reducible refine (HSm.out _ HX1.out).mono ?_); rintro e w2 ⟨rfl, hb⟩; have B2 := Lib.hid (B1.out.trans (hb.mono B1.out.size)); have HK2 := Lib.hid (six_below HK0.out B2.out HL0.out); have HX2 := Lib.hid ((HX0.out.below B2.out (Nat.le_refl _)).more B2.out.size); have hk2 := HK2.out; obtain ⟨k0, k1, k2, k3, k4, k5⟩ := hk2; clear hb))
      go_wp2
      go_ret
      rw [HC.out]
      exact ⟨rfl, HB0.out.trans (B2.out.mono HB0.out.size)⟩
    · cases fv
      · have HFt := Lib.hid hF
        have HC : Hid (checkV op a b c n args regs area = 5) := Lib.hid (by rw [hc0]; simp [h8])
        clear hF hc0
        go_enter Try.func32, Try.ntmps32
        go_wp2_with (go_at_call 49; (with_reducible refine (HE.out _).mono ?_); rintro e w1 ⟨rfl, rfl⟩)
        go_region_held3 (fun w' => w'.cell? ⟨w.heap.size, 0, none⟩ = some (.int .i64 op) ∧ w'.cell? ⟨w.heap.size, 1, none⟩ = some (.int .i64 a) ∧ w'.cell? ⟨w.heap.size, 2, none⟩ = some (.int .i64 b) ∧ w'.cell? ⟨w.heap.size, 3, none⟩ = some (.int .i64 c) ∧ w'.cell? ⟨w.heap.size, 4, none⟩ = some (.int .i64 n) ∧ w'.cell? ⟨w.heap.size, 5, none⟩ = some (.slice XA args.length Xc)) (first | with_reducible exact HK2.out | with_reducible exact HK1.out | go_keep)
          (first
            | (go_at_call 50; (with_reducible refine (HR.out _).mono ?_); rintro e w1 ⟨rfl, hb⟩; have B1 := Lib.hid (below_drewB hb); have HK1 := Lib.hid (six_below HK0.out B1.out HL0.out); have HX1 := Lib.hid ((HX0.out.below B1.out (Nat.le_refl _)).more B1.out.size); clear hb)
            | (go_at_call 34; (with_reducible refine (HSm.out _ HX1.out).mono ?_); rintro e w2 ⟨rfl, hb⟩; have B2 := Lib.hid (B1.out.trans (hb.mono B1.out.size)); have HK2 := Lib.hid (six_below HK0.out B2.out HL0.out); have HX2 := Lib.hid ((HX0.out.below B2.out (Nat.le_refl _)).more B2.out.size); have hk2 := HK2.out; obtain ⟨k0, k1, k2, k3, k4, k5⟩ := hk2; clear hb))
        go_wp2
        go_region_held3 (fun w' => w'.cell? ⟨w.heap.size, 0, none⟩ = some (.int .i64 op) ∧ w'.cell? ⟨w.heap.size, 1, none⟩ = some (.int .i64 a) ∧ w'.cell? ⟨w.heap.size, 2, none⟩ = some (.int .i64 b) ∧ w'.cell? ⟨w.heap.size, 3, none⟩ = some (.int .i64 c) ∧ w'.cell? ⟨w.heap.size, 4, none⟩ = some (.int .i64 n) ∧ w'.cell? ⟨w.heap.size, 5, none⟩ = some (.slice XA args.length Xc)) (first | with_reducible exact HK4.out | with_reducible exact HK3.out | go_keep)
          (first
            | (go_at_call 52; (with_reducible refine (HBd.out _).mono ?_); rintro e w3 ⟨br, ba, rfl, hbr, hba, hcr, hca, hb⟩; have C3 := Lib.hid (And.intro hbr (And.intro hba (And.intro hcr hca))); have B3 := Lib.hid (B2.out.trans ((below_drewB hb).mono B2.out.size)); have HK3 := Lib.hid (six_below HK0.out B3.out HL0.out); have HX3 := Lib.hid ((HX0.out.below B3.out (Nat.le_refl _)).more B3.out.size); clear hb hbr hba hcr hca)
            | (go_at_call 51; (with_reducible refine (HFt.out _ _ _ HX3.out C3.out.1 C3.out.2.1 C3.out.2.2.1 C3.out.2.2.2).mono ?_); rintro e w4 ⟨rfl, hb⟩; have B4 := Lib.hid (B3.out.trans (hb.mono B3.out.size)); have HK4 := Lib.hid (six_below HK0.out B4.out HL0.out); have hk4 := HK4.out; obtain ⟨m0, m1, m2, m3, m4, m5⟩ := hk4; clear hb))
        go_wp2
        go_ret
        rw [HC.out]
        exact ⟨rfl, HB0.out.trans (B4.out.mono HB0.out.size)⟩
      · have HFt := Lib.hid hF
        have HC : Hid (checkV op a b c n args regs area = 0) := Lib.hid (by rw [hc0]; simp [h8])
        clear hF hc0
        go_enter Try.func32, Try.ntmps32
        go_wp2_with (go_at_call 49; (with_reducible refine (HE.out _).mono ?_); rintro e w1 ⟨rfl, rfl⟩)
        go_region_held3 (fun w' => w'.cell? ⟨w.heap.size, 0, none⟩ = some (.int .i64 op) ∧ w'.cell? ⟨w.heap.size, 1, none⟩ = some (.int .i64 a) ∧ w'.cell? ⟨w.heap.size, 2, none⟩ = some (.int .i64 b) ∧ w'.cell? ⟨w.heap.size, 3, none⟩ = some (.int .i64 c) ∧ w'.cell? ⟨w.heap.size, 4, none⟩ = some (.int .i64 n) ∧ w'.cell? ⟨w.heap.size, 5, none⟩ = some (.slice XA args.length Xc)) (first | with_reducible exact HK2.out | with_reducible exact HK1.out | go_keep)
          (first
            | (go_at_call 50; (with_reducible refine (HR.out _).mono ?_); rintro e w1 ⟨rfl, hb⟩; have B1 := Lib.hid (below_drewB hb); have HK1 := Lib.hid (six_below HK0.out B1.out HL0.out); have HX1 := Lib.hid ((HX0.out.below B1.out (Nat.le_refl _)).more B1.out.size); clear hb)
            | (go_at_call 34; (with_reducible refine (HSm.out _ HX1.out).mono ?_); rintro e w2 ⟨rfl, hb⟩; have B2 := Lib.hid (B1.out.trans (hb.mono B1.out.size)); have HK2 := Lib.hid (six_below HK0.out B2.out HL0.out); have HX2 := Lib.hid ((HX0.out.below B2.out (Nat.le_refl _)).more B2.out.size); have hk2 := HK2.out; obtain ⟨k0, k1, k2, k3, k4, k5⟩ := hk2; clear hb))
        go_wp2
        go_region_held3 (fun w' => w'.cell? ⟨w.heap.size, 0, none⟩ = some (.int .i64 op) ∧ w'.cell? ⟨w.heap.size, 1, none⟩ = some (.int .i64 a) ∧ w'.cell? ⟨w.heap.size, 2, none⟩ = some (.int .i64 b) ∧ w'.cell? ⟨w.heap.size, 3, none⟩ = some (.int .i64 c) ∧ w'.cell? ⟨w.heap.size, 4, none⟩ = some (.int .i64 n) ∧ w'.cell? ⟨w.heap.size, 5, none⟩ = some (.slice XA args.length Xc)) (first | with_reducible exact HK4.out | with_reducible exact HK3.out | go_keep)
          (first
            | (go_at_call 52; (with_reducible refine (HBd.out _).mono ?_); rintro e w3 ⟨br, ba, rfl, hbr, hba, hcr, hca, hb⟩; have C3 := Lib.hid (And.intro hbr (And.intro hba (And.intro hcr hca))); have B3 := Lib.hid (B2.out.trans ((below_drewB hb).mono B2.out.size)); have HK3 := Lib.hid (six_below HK0.out B3.out HL0.out); have HX3 := Lib.hid ((HX0.out.below B3.out (Nat.le_refl _)).more B3.out.size); clear hb hbr hba hcr hca)
            | (go_at_call 51; (with_reducible refine (HFt.out _ _ _ HX3.out C3.out.1 C3.out.2.1 C3.out.2.2.1 C3.out.2.2.2).mono ?_); rintro e w4 ⟨rfl, hb⟩; have B4 := Lib.hid (B3.out.trans (hb.mono B3.out.size)); have HK4 := Lib.hid (six_below HK0.out B4.out HL0.out); have hk4 := HK4.out; obtain ⟨m0, m1, m2, m3, m4, m5⟩ := hk4; clear hb))
        go_wp2
        go_ret
        rw [HC.out]
        exact ⟨rfl, HB0.out.trans (B4.out.mono HB0.out.size)⟩
theorem check_any (op a b c n : Int) (X : Value) (args : List Int) (regs area : Int) (w : World) (hX : IsNums .i64 w w.heap.size X args) :
    Calls Try.prog 32 #[.agg (insCells op a b c n X), .int .i64 regs, .int .i64 area] w (Makes w (.int .i64 (checkV op a b c n args regs area))) := by
  by_cases h : ¬ (0 ≤ op ∧ op < 33) ∨ regs < 0 ∨ 64 < regs ∨ area < 0 ∨ 4096 < area
  · exact check_early op a b c n X args regs area w h
  · exact check_late op a b c n X args regs area w hX (by omega) (by omega) (by omega) (by omega) (by omega)

end Go.Proofs.Ytobbjphpngckgaa
