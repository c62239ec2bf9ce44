/- The statement FrameApart: frames have no byte in common and are popped as they were pushed: true for any numbers, in whatever memory, which stays as it was. -/
import Derived.Test.YtoalncjljchipaaLaws09B
namespace Go.Proofs.Ytoalncjljchipaa
open Go.RowKit
set_option linter.unusedVariables false

theorem edge_of {x : Int} (h : x % 16 = 0) (h' : x ≤ 65536) : edgeV x = true := edge_iff.2 ⟨h, h'⟩
set_option maxRecDepth 20000 in
set_option maxHeartbeats 2000000 in
theorem apart9_any (memory data regs area regs2 area2 r s : Int) (w : World) :
    Calls Try.prog 6 #[.int .i64 memory, .int .i64 data, .int .i64 regs, .int .i64 area, .int .i64 regs2, .int .i64 area2, .int .i64 r, .int .i64 s] w fun e w' => e = .returned (.bool true) ∧ Below w.heap.size w w' := by
  have HA := Lib.hid (fun w => known9_any w)
  have p0 := fun w => pk_any memory 65521 w (by omega) (by omega)
  have b0 := pk_bd memory (n := 65521) (by omega)
  generalize pkV memory 65521 = M at p0 b0
  have p1 := fun w => pk_any data 8193 w (by omega) (by omega)
  have b1 := pk_bd data (n := 8193) (by omega)
  generalize pkV data 8193 = D at p1 b1
  have p2 := fun w => pk_any regs 65 w (by omega) (by omega)
  have b2 := pk_bd regs (n := 65) (by omega)
  generalize pkV regs 65 = R at p2 b2
  have p3 := fun w => pk_any area 4097 w (by omega) (by omega)
  have b3 := pk_bd area (n := 4097) (by omega)
  generalize pkV area 4097 = A at p3 b3
  have p4 := fun w => pk_any regs2 65 w (by omega) (by omega)
  have b4 := pk_bd regs2 (n := 65) (by omega)
  generalize pkV regs2 65 = R2 at p4 b4
  have p5 := fun w => pk_any area2 4097 w (by omega) (by omega)
  have b5 := pk_bd area2 (n := 4097) (by omega)
  generalize pkV area2 4097 = A2 at p5 b5
  have p6 := fun w => pk_any r (R + 1) w (by omega) (by omega)
  have b6 := pk_bd r (n := (R + 1)) (by omega)
  generalize pkV r (R + 1) = r' at p6 b6
  have p7 := fun w => pk_any s (R + 1) w (by omega) (by omega)
  have b7 := pk_bd s (n := (R + 1)) (by omega)
  generalize pkV s (R + 1) = s' at p7 b7
  have c1 := fun w => top_any (16 + M) w (by omega) (by omega)
  have c2 := fun w => floor_any D w (by omega) (by omega)
  rw [show topE (16 + M) = 0 by unfold topE; rw [if_pos (by omega)], show topV (16 + M) = dnV (16 + M) by unfold topV; rw [if_pos (by omega)]] at c1
  rw [show floorE D = 0 by unfold floorE; rw [if_pos (by omega)], show floorV D = upV (16 + D) by unfold floorV; rw [if_pos (by omega)]] at c2
  have t1 : dnV (16 + M) % 16 = 0 ∧ 0 ≤ dnV (16 + M) ∧ dnV (16 + M) ≤ 65536 := by unfold dnV; omega
  have f1 : upV (16 + D) % 16 = 0 ∧ 0 ≤ upV (16 + D) ∧ upV (16 + D) ≤ 65536 := by unfold upV; omega
  generalize dnV (16 + M) = T at c1 t1
  generalize upV (16 + D) = F at c2 f1
  obtain ⟨v1, e1⟩ := fs_ok (r := R) (a := A) (by omega) (by omega) (by omega) (by omega)
  obtain ⟨v2, e2⟩ := fs_ok (r := R2) (a := A2) (by omega) (by omega) (by omega) (by omega)
  have u1 := fun w => push_any T R A F w (by omega) (by omega) (by omega) (by omega) (by omega) (by omega) (by omega) (by omega)
  have g1 := push_edge e1 (edge_of (x := T) (by omega) (by omega)) (edge_of (x := F) (by omega) (by omega))
  have z1 : fsV R A % 16 = 0 ∧ 8 * R + A ≤ fsV R A ∧ fsV R A < 8 * R + A + 16 := by rw [v1]; unfold upV; omega
  have z2 : fsV R2 A2 % 16 = 0 ∧ 8 * R2 + A2 ≤ fsV R2 A2 ∧ fsV R2 A2 < 8 * R2 + A2 + 16 := by rw [v2]; unfold upV; omega
  clear v1 v2
  rw [g1.1, g1.2] at u1
  clear g1
  by_cases hl : T < F + fsV R A
  · rw [if_pos hl, if_pos hl] at u1
    clear hl
    have Hp0 := Lib.hid p0
    have Hp1 := Lib.hid p1
    have Hp2 := Lib.hid p2
    have Hp3 := Lib.hid p3
    have Hp4 := Lib.hid p4
    have Hp5 := Lib.hid p5
    have Hc1 := Lib.hid c1
    have Hc2 := Lib.hid c2
    have Hu1 := Lib.hid u1
    clear p0 p1 p2 p3 p4 p5 c1 c2 u1
    go_enter Try.func6, Try.ntmps6
    go_wp2_with (first
      | (go_at_call 5; (with_reducible refine (HA.out _).mono ?_); rintro e w' ⟨rfl, rfl⟩)
      | (go_at_call 24; (with_reducible refine (Hp0.out _).mono ?_); rintro e w' ⟨rfl, rfl⟩)
      | (go_at_call 24; (with_reducible refine (Hp1.out _).mono ?_); rintro e w' ⟨rfl, rfl⟩)
      | (go_at_call 24; (with_reducible refine (Hp2.out _).mono ?_); rintro e w' ⟨rfl, rfl⟩)
      | (go_at_call 24; (with_reducible refine (Hp3.out _).mono ?_); rintro e w' ⟨rfl, rfl⟩)
      | (go_at_call 24; (with_reducible refine (Hp4.out _).mono ?_); rintro e w' ⟨rfl, rfl⟩)
      | (go_at_call 24; (with_reducible refine (Hp5.out _).mono ?_); rintro e w' ⟨rfl, rfl⟩)
      | (go_at_call 17; (with_reducible refine (Hc1.out _).mono ?_); rintro e w' ⟨rfl, rfl⟩)
      | (go_at_call 15; (with_reducible refine (Hc2.out _).mono ?_); rintro e w' ⟨rfl, rfl⟩)
      | (go_at_call 19; (with_reducible refine (Hu1.out _).mono ?_); rintro e w' ⟨rfl, rfl⟩))
    go_ret
    exact ⟨rfl, Below.refl _ _⟩
  · rw [if_neg hl, if_neg hl] at u1
    obtain ⟨B, hB⟩ : ∃ B, B = T - fsV R A := ⟨_, rfl⟩
    rw [← hB] at u1
    have u2 := fun w => push_any B R2 A2 F w (by omega) (by omega) (by omega) (by omega) (by omega) (by omega) (by omega) (by omega)
    have g2 := push_edge e2 (edge_of (x := B) (by omega) (by omega)) (edge_of (x := F) (by omega) (by omega))
    rw [g2.1, g2.2] at u2
    have o1 := fun w => pop_any B R A w (by omega) (by omega) (by omega) (by omega) (by omega) (by omega)
    have hpe : popE B R A = 0 := by unfold popE; rw [if_pos e1, edge_of (x := B) (by omega) (by omega)]; rfl
    rw [hpe, show popV B R A = T by unfold popV; rw [if_pos hpe]; omega] at o1
    have a1 := fun w => area_any B R A w (by omega) (by omega) (by omega) (by omega) (by omega) (by omega)
    rw [show areaV B R A = B + R * 8 + A by unfold areaV; omega] at a1
    have a0 := fun w => area_any B R 0 w (by omega) (by omega) (by omega) (by omega) (by omega) (by omega)
    rw [show areaV B R 0 = B + R * 8 by unfold areaV; omega] at a0
    have l1 := fun w => slot_any B r' w (by omega) (by omega) (by omega) (by omega)
    rw [show slotV B r' = B + r' * 8 by unfold slotV; omega] at l1
    have l2 := fun w => slot_any B s' w (by omega) (by omega) (by omega) (by omega)
    rw [show slotV B s' = B + s' * 8 by unfold slotV; omega] at l2
    have d0 : (T != T) = false := by simp
    have d1 : decide (B < F) = false := by simpa using (by omega : F ≤ B)
    have d2 : B.tmod 16 = 0 := by rw [Int.tmod_eq_emod_of_nonneg (by omega)]; omega
    have w1 : IntKind.u64.wrap (T - (B + R * 8 + A)) = T - (B + R * 8 + A) := by rw [IntKind.wrap_u64]; omega
    have w2 : IntKind.u64.wrap (B + r' * 8 + 8) = B + r' * 8 + 8 := by rw [IntKind.wrap_u64]; omega
    have d3 : decide (T < B + R * 8 + A) = false := by simpa using (by omega : B + R * 8 + A ≤ T)
    have d4 : decide (16 ≤ T - (B + R * 8 + A)) = false := by simpa using (by omega : T - (B + R * 8 + A) < 16)
    have d5 : decide (B + r' * 8 < B) = false := by simpa using (by omega : B ≤ B + r' * 8)
    have d6 : r' < R → decide (B + R * 8 < B + r' * 8 + 8) = false := fun h => by simpa using (by omega : B + r' * 8 + 8 ≤ B + R * 8)
    have d7 : r' < s' → decide (B + s' * 8 < B + r' * 8 + 8) = false := fun h => by simpa using (by omega : B + r' * 8 + 8 ≤ B + s' * 8)
    by_cases hm : B < F + fsV R2 A2
    · rw [if_pos hm, if_pos hm] at u2
      clear g2 hm
      have Hp0 := Lib.hid p0
      have Hp1 := Lib.hid p1
      have Hp2 := Lib.hid p2
      have Hp3 := Lib.hid p3
      have Hp4 := Lib.hid p4
      have Hp5 := Lib.hid p5
      have Hp6 := Lib.hid p6
      have Hp7 := Lib.hid p7
      have Hc1 := Lib.hid c1
      have Hc2 := Lib.hid c2
      have Hu1 := Lib.hid u1
      have Hu2 := Lib.hid u2
      have Ho1 := Lib.hid o1
      have Ha1 := Lib.hid a1
      have Ha0 := Lib.hid a0
      have Hl1 := Lib.hid l1
      have Hl2 := Lib.hid l2
      clear p0 p1 p2 p3 p4 p5 p6 p7 c1 c2 u1 u2 o1 a1 a0 l1 l2
      clear hpe hl e1 e2 z1 z2 hB
      go_enter Try.func6, Try.ntmps6
      go_wp2_with (first
        | (go_at_call 5; (with_reducible refine (HA.out _).mono ?_); rintro e w' ⟨rfl, rfl⟩)
        | (go_at_call 24; (with_reducible refine (Hp0.out _).mono ?_); rintro e w' ⟨rfl, rfl⟩)
        | (go_at_call 24; (with_reducible refine (Hp1.out _).mono ?_); rintro e w' ⟨rfl, rfl⟩)
        | (go_at_call 24; (with_reducible refine (Hp2.out _).mono ?_); rintro e w' ⟨rfl, rfl⟩)
        | (go_at_call 24; (with_reducible refine (Hp3.out _).mono ?_); rintro e w' ⟨rfl, rfl⟩)
        | (go_at_call 24; (with_reducible refine (Hp4.out _).mono ?_); rintro e w' ⟨rfl, rfl⟩)
        | (go_at_call 24; (with_reducible refine (Hp5.out _).mono ?_); rintro e w' ⟨rfl, rfl⟩)
        | (go_at_call 24; (with_reducible refine (Hp6.out _).mono ?_); rintro e w' ⟨rfl, rfl⟩)
        | (go_at_call 24; (with_reducible refine (Hp7.out _).mono ?_); rintro e w' ⟨rfl, rfl⟩)
        | (go_at_call 17; (with_reducible refine (Hc1.out _).mono ?_); rintro e w' ⟨rfl, rfl⟩)
        | (go_at_call 15; (with_reducible refine (Hc2.out _).mono ?_); rintro e w' ⟨rfl, rfl⟩)
        | (go_at_call 19; (with_reducible refine (Hu1.out _).mono ?_); rintro e w' ⟨rfl, rfl⟩)
        | (go_at_call 19; (with_reducible refine (Hu2.out _).mono ?_); rintro e w' ⟨rfl, rfl⟩)
        | (go_at_call 21; (with_reducible refine (Ho1.out _).mono ?_); rintro e w' ⟨rfl, rfl⟩)
        | (go_at_call 12; (with_reducible refine (Ha1.out _).mono ?_); rintro e w' ⟨rfl, rfl⟩)
        | (go_at_call 12; (with_reducible refine (Ha0.out _).mono ?_); rintro e w' ⟨rfl, rfl⟩)
        | (go_at_call 10; (with_reducible refine (Hl1.out _).mono ?_); rintro e w' ⟨rfl, rfl⟩)
        | (go_at_call 10; (with_reducible refine (Hl2.out _).mono ?_); rintro e w' ⟨rfl, rfl⟩))
      all_goals (go_ret; exact ⟨rfl, Below.refl _ _⟩)
    · rw [if_neg hm, if_neg hm] at u2
      obtain ⟨C, hC⟩ : ∃ C, C = B - fsV R2 A2 := ⟨_, rfl⟩
      rw [← hC] at u2
      have a2 := fun w => area_any C R2 A2 w (by omega) (by omega) (by omega) (by omega) (by omega) (by omega)
      rw [show areaV C R2 A2 = C + R2 * 8 + A2 by unfold areaV; omega] at a2
      have d8 : decide (F ≤ C) = true := by simpa using (by omega : F ≤ C)
      have d9 : decide (C + R2 * 8 + A2 ≤ B) = true := by simpa using (by omega : C + R2 * 8 + A2 ≤ B)
      have Ha2 := Lib.hid a2
      clear g2 hm a2
      have Hp0 := Lib.hid p0
      have Hp1 := Lib.hid p1
      have Hp2 := Lib.hid p2
      have Hp3 := Lib.hid p3
      have Hp4 := Lib.hid p4
      have Hp5 := Lib.hid p5
      have Hp6 := Lib.hid p6
      have Hp7 := Lib.hid p7
      have Hc1 := Lib.hid c1
      have Hc2 := Lib.hid c2
      have Hu1 := Lib.hid u1
      have Hu2 := Lib.hid u2
      have Ho1 := Lib.hid o1
      have Ha1 := Lib.hid a1
      have Ha0 := Lib.hid a0
      have Hl1 := Lib.hid l1
      have Hl2 := Lib.hid l2
      clear p0 p1 p2 p3 p4 p5 p6 p7 c1 c2 u1 u2 o1 a1 a0 l1 l2
      clear hpe hl e1 e2 z1 z2 hB hC
      go_enter Try.func6, Try.ntmps6
      go_wp2_with (first
        | (go_at_call 12; (with_reducible refine (Ha2.out _).mono ?_); rintro e w' ⟨rfl, rfl⟩)
        | (go_at_call 5; (with_reducible refine (HA.out _).mono ?_); rintro e w' ⟨rfl, rfl⟩)
        | (go_at_call 24; (with_reducible refine (Hp0.out _).mono ?_); rintro e w' ⟨rfl, rfl⟩)
        | (go_at_call 24; (with_reducible refine (Hp1.out _).mono ?_); rintro e w' ⟨rfl, rfl⟩)
        | (go_at_call 24; (with_reducible refine (Hp2.out _).mono ?_); rintro e w' ⟨rfl, rfl⟩)
        | (go_at_call 24; (with_reducible refine (Hp3.out _).mono ?_); rintro e w' ⟨rfl, rfl⟩)
        | (go_at_call 24; (with_reducible refine (Hp4.out _).mono ?_); rintro e w' ⟨rfl, rfl⟩)
        | (go_at_call 24; (with_reducible refine (Hp5.out _).mono ?_); rintro e w' ⟨rfl, rfl⟩)
        | (go_at_call 24; (with_reducible refine (Hp6.out _).mono ?_); rintro e w' ⟨rfl, rfl⟩)
        | (go_at_call 24; (with_reducible refine (Hp7.out _).mono ?_); rintro e w' ⟨rfl, rfl⟩)
        | (go_at_call 17; (with_reducible refine (Hc1.out _).mono ?_); rintro e w' ⟨rfl, rfl⟩)
        | (go_at_call 15; (with_reducible refine (Hc2.out _).mono ?_); rintro e w' ⟨rfl, rfl⟩)
        | (go_at_call 19; (with_reducible refine (Hu1.out _).mono ?_); rintro e w' ⟨rfl, rfl⟩)
        | (go_at_call 19; (with_reducible refine (Hu2.out _).mono ?_); rintro e w' ⟨rfl, rfl⟩)
        | (go_at_call 21; (with_reducible refine (Ho1.out _).mono ?_); rintro e w' ⟨rfl, rfl⟩)
        | (go_at_call 12; (with_reducible refine (Ha1.out _).mono ?_); rintro e w' ⟨rfl, rfl⟩)
        | (go_at_call 12; (with_reducible refine (Ha0.out _).mono ?_); rintro e w' ⟨rfl, rfl⟩)
        | (go_at_call 10; (with_reducible refine (Hl1.out _).mono ?_); rintro e w' ⟨rfl, rfl⟩)
        | (go_at_call 10; (with_reducible refine (Hl2.out _).mono ?_); rintro e w' ⟨rfl, rfl⟩))
      all_goals (go_ret; exact ⟨rfl, Below.refl _ _⟩)
end Go.Proofs.Ytoalncjljchipaa
