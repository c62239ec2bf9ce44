/- The statement FrameMore: a greater frame is no smaller, and where it fits a smaller one does: true for any numbers, in whatever memory, which stays as it was. -/
import Derived.Test.YtoalncjljchipaaLaws09A
import Derived.Test.YtoalncjljchipaaPick
namespace Go.Proofs.Ytoalncjljchipaa
open Go.RowKit
set_option linter.unusedVariables false

theorem edge16 {q : Int} (h : 0 ≤ q) (h' : q ≤ 4096) : edgeV (16 * q) = true := edge_iff.2 (by omega)
theorem push_edge {x r a f : Int} (h1 : fsE r a = 0) (h2 : edgeV x = true) (h3 : edgeV f = true) :
    pushE x r a f = (if x < f + fsV r a then 8 else 0) ∧ pushV x r a f = (if x < f + fsV r a then 0 else x - fsV r a) := by
  have h : pushE x r a f = (if x < f + fsV r a then 8 else 0) := by
    unfold pushE
    rw [if_pos h1, h2, h3]
    rfl
  refine ⟨h, ?_⟩
  unfold pushV
  rw [h]
  split <;> rfl
set_option maxHeartbeats 2000000 in
theorem more9_any (regs area more wider at' fl : Int) (w : World) :
    Calls Try.prog 7 #[.int .i64 regs, .int .i64 area, .int .i64 more, .int .i64 wider, .int .i64 at', .int .i64 fl] w fun e w' => e = .returned (.bool true) ∧ Below w.heap.size w w' := by
  have HA := Lib.hid (fun w => awake9_any w)
  have p1 := fun w => pk_any regs 65 w (by omega) (by omega)
  have b1 := pk_bd regs (n := 65) (by omega)
  generalize pkV regs 65 = R at p1 b1
  have p2 := fun w => pk_any area 4097 w (by omega) (by omega)
  have b2 := pk_bd area (n := 4097) (by omega)
  generalize pkV area 4097 = A at p2 b2
  have p3 := fun w => pk_any more (65 - R) w (by omega) (by omega)
  have b3 := pk_bd more (n := 65 - R) (by omega)
  generalize pkV more (65 - R) = m at p3 b3
  have p4 := fun w => pk_any wider (4097 - A) w (by omega) (by omega)
  have b4 := pk_bd wider (n := 4097 - A) (by omega)
  generalize pkV wider (4097 - A) = v at p4 b4
  have p5 := fun w => pk_any at' 4097 w (by omega) (by omega)
  have b5 := pk_bd at' (n := 4097) (by omega)
  generalize pkV at' 4097 = p at p5 b5
  have p6 := fun w => pk_any fl 4097 w (by omega) (by omega)
  have b6 := pk_bd fl (n := 4097) (by omega)
  generalize pkV fl 4097 = q at p6 b6
  have s1 := fun w => size_any R A w (by omega) (by omega) (by omega) (by omega)
  have s2 := fun w => size_any (R + m) (A + v) w (by omega) (by omega) (by omega) (by omega)
  have u1 := fun w => push_any (16 * p) R A (16 * q) w (by omega) (by omega) (by omega) (by omega) (by omega) (by omega) (by omega) (by omega)
  have u2 := fun w => push_any (16 * p) (R + m) (A + v) (16 * q) w (by omega) (by omega) (by omega) (by omega) (by omega) (by omega) (by omega) (by omega)
  have t1 := fun w => slot_any (16 * p) R w (by omega) (by omega) (by omega) (by omega)
  have t2 := fun w => slot_any (16 * p) (R + 1) w (by omega) (by omega) (by omega) (by omega)
  rw [show slotV (16 * p) R = 16 * p + R * 8 by unfold slotV; omega] at t1
  rw [show slotV (16 * p) (R + 1) = 16 * p + R * 8 + 8 by unfold slotV; omega] at t2
  obtain ⟨v1, e1⟩ := fs_ok (r := R) (a := A) (by omega) (by omega) (by omega) (by omega)
  obtain ⟨v2, e2⟩ := fs_ok (r := R + m) (a := A + v) (by omega) (by omega) (by omega) (by omega)
  have g1 := push_edge e1 (edge16 (q := p) (by omega) (by omega)) (edge16 (q := q) (by omega) (by omega))
  have g2 := push_edge e2 (edge16 (q := p) (by omega) (by omega)) (edge16 (q := q) (by omega) (by omega))
  rw [e1] at s1
  rw [e2] at s2
  generalize fsV R A = a at s1 g1 v1
  generalize fsV (R + m) (A + v) = b at s2 g2 v2
  generalize pushE (16 * p) R A (16 * q) = x1 at u1 g1
  generalize pushE (16 * p) (R + m) (A + v) (16 * q) = x2 at u2 g2
  generalize pushV (16 * p) R A (16 * q) = y1 at u1 g1
  generalize pushV (16 * p) (R + m) (A + v) (16 * q) = y2 at u2 g2
  have z1 : a % 16 = 0 ∧ 0 ≤ a ∧ a ≤ 4608 := by rw [v1]; unfold upV; omega
  have z2 : b % 16 = 0 ∧ 0 ≤ b ∧ b ≤ 4608 := by rw [v2]; unfold upV; omega
  have z3 : a ≤ b := by rw [v1, v2]; unfold upV; omega
  have z4 : b - a < 8 * m + v + 16 ∧ 8 * m + v - 16 < b - a := by rw [v1, v2]; unfold upV; omega
  clear v1 v2 e1 e2
  have z5 : (x1 = 0 ∨ x1 = 8) ∧ (x2 = 0 → x1 = 0 ∧ y2 ≤ y1) := by
    obtain ⟨rfl, rfl⟩ := g1
    obtain ⟨rfl, rfl⟩ := g2
    by_cases h1 : 16 * p < 16 * q + a
    · rw [if_pos h1]
      rw [if_pos (by omega : 16 * p < 16 * q + b)]
      omega
    · rw [if_neg h1, if_neg h1]
      refine ⟨.inl rfl, fun h2 => ⟨rfl, ?_⟩⟩
      by_cases h3 : 16 * p < 16 * q + b
      · rw [if_pos h3] at h2; omega
      · rw [if_neg h3]; omega
  clear g1 g2
  have P1 := Lib.hid p1
  have P2 := Lib.hid p2
  have P3 := Lib.hid p3
  have P4 := Lib.hid p4
  have P5 := Lib.hid p5
  have P6 := Lib.hid p6
  have S1 := Lib.hid s1
  have S2 := Lib.hid s2
  have U1 := Lib.hid u1
  have U2 := Lib.hid u2
  have T1 := Lib.hid t1
  have T2 := Lib.hid t2
  clear p1 p2 p3 p4 p5 p6 s1 s2 u1 u2 t1 t2
  have k1 : a.tmod 16 = 0 := by rw [Int.tmod_eq_emod_of_nonneg z1.2.1]; exact z1.1
  have d1 : decide (b < a) = false := by simpa using z3
  have d2 : decide (8 * m + v + 16 ≤ b - a) = false := by simpa using z4.1
  have d3 : decide (b - a ≤ 8 * m + v - 16) = false := by simpa using z4.2
  go_enter Try.func7, Try.ntmps7
  go_wp2_with (first
    | (go_at_call 14; (with_reducible refine (HA.out _).mono ?_); rintro e w' ⟨rfl, rfl⟩)
    | (go_at_call 24; (with_reducible refine (P1.out _).mono ?_); rintro e w' ⟨rfl, rfl⟩)
    | (go_at_call 24; (with_reducible refine (P2.out _).mono ?_); rintro e w' ⟨rfl, rfl⟩)
    | (go_at_call 24; (with_reducible refine (P3.out _).mono ?_); rintro e w' ⟨rfl, rfl⟩)
    | (go_at_call 24; (with_reducible refine (P4.out _).mono ?_); rintro e w' ⟨rfl, rfl⟩)
    | (go_at_call 24; (with_reducible refine (P5.out _).mono ?_); rintro e w' ⟨rfl, rfl⟩)
    | (go_at_call 24; (with_reducible refine (P6.out _).mono ?_); rintro e w' ⟨rfl, rfl⟩)
    | (go_at_call 8; (with_reducible refine (S1.out _).mono ?_); rintro e w' ⟨rfl, rfl⟩)
    | (go_at_call 8; (with_reducible refine (S2.out _).mono ?_); rintro e w' ⟨rfl, rfl⟩)
    | (go_at_call 19; (with_reducible refine (U1.out _).mono ?_); rintro e w' ⟨rfl, rfl⟩)
    | (go_at_call 19; (with_reducible refine (U2.out _).mono ?_); rintro e w' ⟨rfl, rfl⟩)
    | (go_at_call 10; (with_reducible refine (T1.out _).mono ?_); rintro e w' ⟨rfl, rfl⟩)
    | (go_at_call 10; (with_reducible refine (T2.out _).mono ?_); rintro e w' ⟨rfl, rfl⟩))
  all_goals first
    | (go_ret; exact ⟨rfl, Below.refl _ _⟩)
    | (exfalso; simp only [bne_iff_ne, ne_eq] at *; omega)
end Go.Proofs.Ytoalncjljchipaa
