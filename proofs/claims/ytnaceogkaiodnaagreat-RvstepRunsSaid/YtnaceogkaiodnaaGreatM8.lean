/- What load of package rvstep returns and leaves: contracts for any machine, in whatever memory of the program. -/
import Derived.Test.YtnaceogkaiodnaaGreatM7
namespace Go.Proofs.YtnaceogkaiodnaaGreat
open Go.RowKit
set_option linter.unusedVariables false

section
variable {w w' : World} {xb mb bb c eb : Nat} {V : Value} {code : List Int} {s : MSt}
set_option maxRecDepth 100000 in
set_option maxHeartbeats 4000000 in
theorem loadSext_bad (h : Mach w xb mb bb c eb V code s) (op imm : Int) (d a b : Nat) (hd : d < 32) (ha : a < 32) (hb : b < 32) (i1 : -1048576 ≤ imm) (i2 : imm ≤ 1048576) (n : Int) (hn : n < 9223372036854775808) (he : numE s.xs.length (w64 (s.r a + imm)) n ≠ 0) :
    Calls Tryz.prog 131 #[.pointer (some ⟨xb, 0, none⟩), .agg #[.int .i64 op, .int .i64 d, .int .i64 a, .int .i64 b, .int .i64 imm], .int .i64 n, .func (.func 132) #[] #[]] w (EffDone xb mb bb c eb V code w (5, s)) := by
  have hl : ∀ u, MemAt u mb bb c s.xs → Calls Tryz.prog 27 #[.pointer (some ⟨mb, 0, none⟩), .int .u64 (w64 (s.r a + imm)), .int .i64 n] u fun e w' => e = .returned (.tuple #[.int .u64 (loadV s.xs (w64 (s.r a + imm)) n), .int .i64 (numE s.xs.length (w64 (s.r a + imm)) n)]) ∧ u = w' := fun u hu => load_any hu _ n (w64_bd _).1 (w64_bd _).2 hn
  obtain ⟨E, hE⟩ : ∃ E, E = numE s.xs.length (w64 (s.r a + imm)) n := ⟨_, rfl⟩
  rw [← hE] at hl he
  have he1 : (E != 0) = true := by simpa using he
  have he2 : (E == 0) = false := by simpa using he
  generalize loadV s.xs (w64 (s.r a + imm)) n = z at hl
  have HL := Lib.hid hl
  clear hl hE he
  have HW := Lib.hid (h.alloc (.cells #[.int .i64 op, .int .i64 d, .int .i64 a, .int .i64 b, .int .i64 imm] 76))
  have BW := Lib.hid ((But.refl (TwoBlocks xb bb) w).alloc (.cells #[.int .i64 op, .int .i64 d, .int .i64 a, .int .i64 b, .int .i64 imm] 76))
  obtain ⟨lt1, lt2, lt3, lt4⟩ := h.lt
  clear h
  have HK0 := Lib.hid (show (w.alloc (.cells #[.int .i64 op, .int .i64 d, .int .i64 a, .int .i64 b, .int .i64 imm] 76)).cell? ⟨w.heap.size, 0, none⟩ = some (.int .i64 op) ∧ (w.alloc (.cells #[.int .i64 op, .int .i64 d, .int .i64 a, .int .i64 b, .int .i64 imm] 76)).cell? ⟨w.heap.size, 1, none⟩ = some (.int .i64 d) ∧ (w.alloc (.cells #[.int .i64 op, .int .i64 d, .int .i64 a, .int .i64 b, .int .i64 imm] 76)).cell? ⟨w.heap.size, 2, none⟩ = some (.int .i64 a) ∧ (w.alloc (.cells #[.int .i64 op, .int .i64 d, .int .i64 a, .int .i64 b, .int .i64 imm] 76)).cell? ⟨w.heap.size, 3, none⟩ = some (.int .i64 b) ∧ (w.alloc (.cells #[.int .i64 op, .int .i64 d, .int .i64 a, .int .i64 b, .int .i64 imm] 76)).cell? ⟨w.heap.size, 4, none⟩ = some (.int .i64 imm) from ⟨new_cell _ _ _ _ _ _ rfl rfl, new_cell _ _ _ _ _ _ rfl rfl, new_cell _ _ _ _ _ _ rfl rfl, new_cell _ _ _ _ _ _ rfl rfl, new_cell _ _ _ _ _ _ rfl rfl⟩)
  go_enter Tryz.func131, Tryz.ntmps131
  go_wp2_with fail
  obtain ⟨k0, k1, k2, k3, k4⟩ := HK0.out
  have HSZ := Lib.hid (show w.heap.size < (w.alloc (.cells #[.int .i64 op, .int .i64 d, .int .i64 a, .int .i64 b, .int .i64 imm] 76)).heap.size by simp)
  generalize w.alloc (.cells #[.int .i64 op, .int .i64 d, .int .i64 a, .int .i64 b, .int .i64 imm] 76) = W at *
  have HWd := Lib.hid (show Mach W.drew xb mb bb c eb V code s from HW.out.drewN 1)
  have hsz : w.heap.size < W.heap.size := HSZ.out
  clear k0 k1 k2 k3 k4
  have HKM := Lib.hid (show W.cell? ⟨w.heap.size, 0, none⟩ = some (.int .i64 op) ∧ W.cell? ⟨w.heap.size, 1, none⟩ = some (.int .i64 d) ∧ W.cell? ⟨w.heap.size, 2, none⟩ = some (.int .i64 a) ∧ W.cell? ⟨w.heap.size, 3, none⟩ = some (.int .i64 b) ∧ W.cell? ⟨w.heap.size, 4, none⟩ = some (.int .i64 imm) ∧ W.cell? ⟨xb, 34, none⟩ = some (.pointer (some ⟨mb, 0, none⟩)) from ⟨HK0.out.1, HK0.out.2.1, HK0.out.2.2.1, HK0.out.2.2.2.1, HK0.out.2.2.2.2, HW.out.memc⟩)
  go_region_held3 (fun w' => w'.cell? ⟨w.heap.size, 0, none⟩ = some (.int .i64 op) ∧ w'.cell? ⟨w.heap.size, 1, none⟩ = some (.int .i64 d) ∧ w'.cell? ⟨w.heap.size, 2, none⟩ = some (.int .i64 a) ∧ w'.cell? ⟨w.heap.size, 3, none⟩ = some (.int .i64 b) ∧ w'.cell? ⟨w.heap.size, 4, none⟩ = some (.int .i64 imm) ∧ w'.cell? ⟨xb, 34, none⟩ = some (.pointer (some ⟨mb, 0, none⟩))) (first | with_reducible exact HK1.out | exact HKM.out | go_keep)
    (first
      | (go_at_call 147; (with_reducible refine (address_any HWd.out op d b imm a ha i1 i2).mono ?_); rintro e w1 ⟨rfl, hb1⟩; have M1 := Lib.hid (HWd.out.below hb1); have B1 := Lib.hid hb1; have l1 : w.heap.size < w1.heap.size := Nat.lt_of_lt_of_le hsz hb1.size; have HK1 := Lib.hid (show w1.cell? ⟨w.heap.size, 0, none⟩ = some (.int .i64 op) ∧ w1.cell? ⟨w.heap.size, 1, none⟩ = some (.int .i64 d) ∧ w1.cell? ⟨w.heap.size, 2, none⟩ = some (.int .i64 a) ∧ w1.cell? ⟨w.heap.size, 3, none⟩ = some (.int .i64 b) ∧ w1.cell? ⟨w.heap.size, 4, none⟩ = some (.int .i64 imm) ∧ w1.cell? ⟨xb, 34, none⟩ = some (.pointer (some ⟨mb, 0, none⟩)) from ⟨(hb1.cell (p := ⟨w.heap.size, 0, none⟩) hsz).trans HKM.out.1, (hb1.cell (p := ⟨w.heap.size, 1, none⟩) hsz).trans HKM.out.2.1, (hb1.cell (p := ⟨w.heap.size, 2, none⟩) hsz).trans HKM.out.2.2.1, (hb1.cell (p := ⟨w.heap.size, 3, none⟩) hsz).trans HKM.out.2.2.2.1, (hb1.cell (p := ⟨w.heap.size, 4, none⟩) hsz).trans HKM.out.2.2.2.2.1, M1.out.memc⟩); clear hb1)
      | (go_at_call 27; (with_reducible refine (HL.out _ M1.out.mem).mono ?_); rintro e w' ⟨rfl, rfl⟩))
  all_goals
    go_wp2
    go_ret
    exact ⟨rfl, M1.out, (BW.out.drewN 1).trans (But.of_below B1.out)⟩
set_option maxRecDepth 100000 in
set_option maxHeartbeats 4000000 in
theorem loadSext_ok (h : Mach w xb mb bb c eb V code s) (op imm : Int) (d a b : Nat) (hd : d < 32) (ha : a < 32) (hb : b < 32) (i1 : -1048576 ≤ imm) (i2 : imm ≤ 1048576) (n : Int) (hn : n < 9223372036854775808) (he : numE s.xs.length (w64 (s.r a + imm)) n = 0) :
    Calls Tryz.prog 131 #[.pointer (some ⟨xb, 0, none⟩), .agg #[.int .i64 op, .int .i64 d, .int .i64 a, .int .i64 b, .int .i64 imm], .int .i64 n, .func (.func 132) #[] #[]] w (EffDone xb mb bb c eb V code w (0, (s.set d (sextV (loadV s.xs (w64 (s.r a + imm)) n) n)).at' (nextV s))) := by
  have hl : ∀ u, MemAt u mb bb c s.xs → Calls Tryz.prog 27 #[.pointer (some ⟨mb, 0, none⟩), .int .u64 (w64 (s.r a + imm)), .int .i64 n] u fun e w' => e = .returned (.tuple #[.int .u64 (loadV s.xs (w64 (s.r a + imm)) n), .int .i64 (numE s.xs.length (w64 (s.r a + imm)) n)]) ∧ u = w' := fun u hu => load_any hu _ n (w64_bd _).1 (w64_bd _).2 hn
  rw [he] at hl
  have hz := loadBd s.xs (w64 (s.r a + imm)) n h.ok.xs
  generalize loadV s.xs (w64 (s.r a + imm)) n = z at hl hz ⊢
  have hx := fun u => sext_any z n u hz.1 hz.2
  have hv : InW (sextV z n) := sextV_bd hz.1 hz.2
  have HL := Lib.hid hl
  have HX := Lib.hid hx
  generalize sextV z n = v at HX hv ⊢
  clear hl hz hx he
  have HW := Lib.hid (h.alloc (.cells #[.int .i64 op, .int .i64 d, .int .i64 a, .int .i64 b, .int .i64 imm] 76))
  have BW := Lib.hid ((But.refl (TwoBlocks xb bb) w).alloc (.cells #[.int .i64 op, .int .i64 d, .int .i64 a, .int .i64 b, .int .i64 imm] 76))
  obtain ⟨lt1, lt2, lt3, lt4⟩ := h.lt
  clear h
  have HK0 := Lib.hid (show (w.alloc (.cells #[.int .i64 op, .int .i64 d, .int .i64 a, .int .i64 b, .int .i64 imm] 76)).cell? ⟨w.heap.size, 0, none⟩ = some (.int .i64 op) ∧ (w.alloc (.cells #[.int .i64 op, .int .i64 d, .int .i64 a, .int .i64 b, .int .i64 imm] 76)).cell? ⟨w.heap.size, 1, none⟩ = some (.int .i64 d) ∧ (w.alloc (.cells #[.int .i64 op, .int .i64 d, .int .i64 a, .int .i64 b, .int .i64 imm] 76)).cell? ⟨w.heap.size, 2, none⟩ = some (.int .i64 a) ∧ (w.alloc (.cells #[.int .i64 op, .int .i64 d, .int .i64 a, .int .i64 b, .int .i64 imm] 76)).cell? ⟨w.heap.size, 3, none⟩ = some (.int .i64 b) ∧ (w.alloc (.cells #[.int .i64 op, .int .i64 d, .int .i64 a, .int .i64 b, .int .i64 imm] 76)).cell? ⟨w.heap.size, 4, none⟩ = some (.int .i64 imm) from ⟨new_cell _ _ _ _ _ _ rfl rfl, new_cell _ _ _ _ _ _ rfl rfl, new_cell _ _ _ _ _ _ rfl rfl, new_cell _ _ _ _ _ _ rfl rfl, new_cell _ _ _ _ _ _ rfl rfl⟩)
  go_enter Tryz.func131, Tryz.ntmps131
  go_wp2_with fail
  obtain ⟨k0, k1, k2, k3, k4⟩ := HK0.out
  have HSZ := Lib.hid (show w.heap.size < (w.alloc (.cells #[.int .i64 op, .int .i64 d, .int .i64 a, .int .i64 b, .int .i64 imm] 76)).heap.size by simp)
  generalize w.alloc (.cells #[.int .i64 op, .int .i64 d, .int .i64 a, .int .i64 b, .int .i64 imm] 76) = W at *
  have HWd := Lib.hid (show Mach W.drew xb mb bb c eb V code s from HW.out.drewN 1)
  have hsz : w.heap.size < W.heap.size := HSZ.out
  clear k0 k1 k2 k3 k4
  have HKM := Lib.hid (show W.cell? ⟨w.heap.size, 0, none⟩ = some (.int .i64 op) ∧ W.cell? ⟨w.heap.size, 1, none⟩ = some (.int .i64 d) ∧ W.cell? ⟨w.heap.size, 2, none⟩ = some (.int .i64 a) ∧ W.cell? ⟨w.heap.size, 3, none⟩ = some (.int .i64 b) ∧ W.cell? ⟨w.heap.size, 4, none⟩ = some (.int .i64 imm) ∧ W.cell? ⟨xb, 34, none⟩ = some (.pointer (some ⟨mb, 0, none⟩)) from ⟨HK0.out.1, HK0.out.2.1, HK0.out.2.2.1, HK0.out.2.2.2.1, HK0.out.2.2.2.2, HW.out.memc⟩)
  go_region_held3 (fun w' => w'.cell? ⟨w.heap.size, 0, none⟩ = some (.int .i64 op) ∧ w'.cell? ⟨w.heap.size, 1, none⟩ = some (.int .i64 d) ∧ w'.cell? ⟨w.heap.size, 2, none⟩ = some (.int .i64 a) ∧ w'.cell? ⟨w.heap.size, 3, none⟩ = some (.int .i64 b) ∧ w'.cell? ⟨w.heap.size, 4, none⟩ = some (.int .i64 imm) ∧ w'.cell? ⟨xb, 34, none⟩ = some (.pointer (some ⟨mb, 0, none⟩))) (first | with_reducible exact HK1.out | exact HKM.out | go_keep)
    (first
      | (go_at_call 147; (with_reducible refine (address_any HWd.out op d b imm a ha i1 i2).mono ?_); rintro e w1 ⟨rfl, hb1⟩; have M1 := Lib.hid (HWd.out.below hb1); have B1 := Lib.hid hb1; have l1 : w.heap.size < w1.heap.size := Nat.lt_of_lt_of_le hsz hb1.size; have HK1 := Lib.hid (show w1.cell? ⟨w.heap.size, 0, none⟩ = some (.int .i64 op) ∧ w1.cell? ⟨w.heap.size, 1, none⟩ = some (.int .i64 d) ∧ w1.cell? ⟨w.heap.size, 2, none⟩ = some (.int .i64 a) ∧ w1.cell? ⟨w.heap.size, 3, none⟩ = some (.int .i64 b) ∧ w1.cell? ⟨w.heap.size, 4, none⟩ = some (.int .i64 imm) ∧ w1.cell? ⟨xb, 34, none⟩ = some (.pointer (some ⟨mb, 0, none⟩)) from ⟨(hb1.cell (p := ⟨w.heap.size, 0, none⟩) hsz).trans HKM.out.1, (hb1.cell (p := ⟨w.heap.size, 1, none⟩) hsz).trans HKM.out.2.1, (hb1.cell (p := ⟨w.heap.size, 2, none⟩) hsz).trans HKM.out.2.2.1, (hb1.cell (p := ⟨w.heap.size, 3, none⟩) hsz).trans HKM.out.2.2.2.1, (hb1.cell (p := ⟨w.heap.size, 4, none⟩) hsz).trans HKM.out.2.2.2.2.1, M1.out.memc⟩); clear hb1)
      | (go_at_call 27; (with_reducible refine (HL.out _ M1.out.mem).mono ?_); rintro e w' ⟨rfl, rfl⟩))
  all_goals
    obtain ⟨g0, g1, g2, g3, g4, g5⟩ := HK1.out
    have M1d := Lib.hid (show Mach w1.drew xb mb bb c eb V code s from M1.out.drewN 1)
    go_wp2_with fail
    go_region_held3 (fun w' => w'.cell? ⟨w.heap.size, 0, none⟩ = some (.int .i64 op) ∧ w'.cell? ⟨w.heap.size, 1, none⟩ = some (.int .i64 d) ∧ w'.cell? ⟨w.heap.size, 2, none⟩ = some (.int .i64 a) ∧ w'.cell? ⟨w.heap.size, 3, none⟩ = some (.int .i64 b) ∧ w'.cell? ⟨w.heap.size, 4, none⟩ = some (.int .i64 imm)) (first | with_reducible exact HK2.out | with_reducible exact HK5.out | exact ⟨g0, g1, g2, g3, g4⟩ | go_keep)
      (first
        | (go_at_call 132; (with_reducible refine (HX.out _).mono ?_); rintro e w' ⟨rfl, rfl⟩; have HK5 := Lib.hid (show w1.drew.cell? ⟨w.heap.size, 0, none⟩ = some (.int .i64 op) ∧ w1.drew.cell? ⟨w.heap.size, 1, none⟩ = some (.int .i64 d) ∧ w1.drew.cell? ⟨w.heap.size, 2, none⟩ = some (.int .i64 a) ∧ w1.drew.cell? ⟨w.heap.size, 3, none⟩ = some (.int .i64 b) ∧ w1.drew.cell? ⟨w.heap.size, 4, none⟩ = some (.int .i64 imm) from ⟨g0, g1, g2, g3, g4⟩))
        | (go_at_call 126; (with_reducible refine (result_any M1d.out op imm d a b hd ha hb i1 i2 _ hv).mono ?_); rintro e w2 ⟨rfl, hm, hb2⟩; have M2 := Lib.hid hm; have B2 := Lib.hid hb2; have HK2 := Lib.hid (show w2.cell? ⟨w.heap.size, 0, none⟩ = some (.int .i64 op) ∧ w2.cell? ⟨w.heap.size, 1, none⟩ = some (.int .i64 d) ∧ w2.cell? ⟨w.heap.size, 2, none⟩ = some (.int .i64 a) ∧ w2.cell? ⟨w.heap.size, 3, none⟩ = some (.int .i64 b) ∧ w2.cell? ⟨w.heap.size, 4, none⟩ = some (.int .i64 imm) from ⟨(hb2.cell (p := ⟨w.heap.size, 0, none⟩) (show w.heap.size < w1.heap.size from l1) (twoBlocks_not (show w.heap.size ≠ xb by omega) (show w.heap.size ≠ bb by omega))).trans g0, (hb2.cell (p := ⟨w.heap.size, 1, none⟩) (show w.heap.size < w1.heap.size from l1) (twoBlocks_not (show w.heap.size ≠ xb by omega) (show w.heap.size ≠ bb by omega))).trans g1, (hb2.cell (p := ⟨w.heap.size, 2, none⟩) (show w.heap.size < w1.heap.size from l1) (twoBlocks_not (show w.heap.size ≠ xb by omega) (show w.heap.size ≠ bb by omega))).trans g2, (hb2.cell (p := ⟨w.heap.size, 3, none⟩) (show w.heap.size < w1.heap.size from l1) (twoBlocks_not (show w.heap.size ≠ xb by omega) (show w.heap.size ≠ bb by omega))).trans g3, (hb2.cell (p := ⟨w.heap.size, 4, none⟩) (show w.heap.size < w1.heap.size from l1) (twoBlocks_not (show w.heap.size ≠ xb by omega) (show w.heap.size ≠ bb by omega))).trans g4⟩); clear hm hb2))
    all_goals
      go_wp2
      go_ret
      exact ⟨rfl, M2.out, ((BW.out.drewN 1).trans (But.of_below B1.out)).trans B2.out.of_drew⟩
set_option maxRecDepth 100000 in
set_option maxHeartbeats 4000000 in
theorem loadZext_bad (h : Mach w xb mb bb c eb V code s) (op imm : Int) (d a b : Nat) (hd : d < 32) (ha : a < 32) (hb : b < 32) (i1 : -1048576 ≤ imm) (i2 : imm ≤ 1048576) (n : Int) (hn : n < 9223372036854775808) (he : numE s.xs.length (w64 (s.r a + imm)) n ≠ 0) :
    Calls Tryz.prog 131 #[.pointer (some ⟨xb, 0, none⟩), .agg #[.int .i64 op, .int .i64 d, .int .i64 a, .int .i64 b, .int .i64 imm], .int .i64 n, .func (.func 133) #[] #[]] w (EffDone xb mb bb c eb V code w (5, s)) := by
  have hl : ∀ u, MemAt u mb bb c s.xs → Calls Tryz.prog 27 #[.pointer (some ⟨mb, 0, none⟩), .int .u64 (w64 (s.r a + imm)), .int .i64 n] u fun e w' => e = .returned (.tuple #[.int .u64 (loadV s.xs (w64 (s.r a + imm)) n), .int .i64 (numE s.xs.length (w64 (s.r a + imm)) n)]) ∧ u = w' := fun u hu => load_any hu _ n (w64_bd _).1 (w64_bd _).2 hn
  obtain ⟨E, hE⟩ : ∃ E, E = numE s.xs.length (w64 (s.r a + imm)) n := ⟨_, rfl⟩
  rw [← hE] at hl he
  have he1 : (E != 0) = true := by simpa using he
  have he2 : (E == 0) = false := by simpa using he
  generalize loadV s.xs (w64 (s.r a + imm)) n = z at hl
  have HL := Lib.hid hl
  clear hl hE he
  have HW := Lib.hid (h.alloc (.cells #[.int .i64 op, .int .i64 d, .int .i64 a, .int .i64 b, .int .i64 imm] 76))
  have BW := Lib.hid ((But.refl (TwoBlocks xb bb) w).alloc (.cells #[.int .i64 op, .int .i64 d, .int .i64 a, .int .i64 b, .int .i64 imm] 76))
  obtain ⟨lt1, lt2, lt3, lt4⟩ := h.lt
  clear h
  have HK0 := Lib.hid (show (w.alloc (.cells #[.int .i64 op, .int .i64 d, .int .i64 a, .int .i64 b, .int .i64 imm] 76)).cell? ⟨w.heap.size, 0, none⟩ = some (.int .i64 op) ∧ (w.alloc (.cells #[.int .i64 op, .int .i64 d, .int .i64 a, .int .i64 b, .int .i64 imm] 76)).cell? ⟨w.heap.size, 1, none⟩ = some (.int .i64 d) ∧ (w.alloc (.cells #[.int .i64 op, .int .i64 d, .int .i64 a, .int .i64 b, .int .i64 imm] 76)).cell? ⟨w.heap.size, 2, none⟩ = some (.int .i64 a) ∧ (w.alloc (.cells #[.int .i64 op, .int .i64 d, .int .i64 a, .int .i64 b, .int .i64 imm] 76)).cell? ⟨w.heap.size, 3, none⟩ = some (.int .i64 b) ∧ (w.alloc (.cells #[.int .i64 op, .int .i64 d, .int .i64 a, .int .i64 b, .int .i64 imm] 76)).cell? ⟨w.heap.size, 4, none⟩ = some (.int .i64 imm) from ⟨new_cell _ _ _ _ _ _ rfl rfl, new_cell _ _ _ _ _ _ rfl rfl, new_cell _ _ _ _ _ _ rfl rfl, new_cell _ _ _ _ _ _ rfl rfl, new_cell _ _ _ _ _ _ rfl rfl⟩)
  go_enter Tryz.func131, Tryz.ntmps131
  go_wp2_with fail
  obtain ⟨k0, k1, k2, k3, k4⟩ := HK0.out
  have HSZ := Lib.hid (show w.heap.size < (w.alloc (.cells #[.int .i64 op, .int .i64 d, .int .i64 a, .int .i64 b, .int .i64 imm] 76)).heap.size by simp)
  generalize w.alloc (.cells #[.int .i64 op, .int .i64 d, .int .i64 a, .int .i64 b, .int .i64 imm] 76) = W at *
  have HWd := Lib.hid (show Mach W.drew xb mb bb c eb V code s from HW.out.drewN 1)
  have hsz : w.heap.size < W.heap.size := HSZ.out
  clear k0 k1 k2 k3 k4
  have HKM := Lib.hid (show W.cell? ⟨w.heap.size, 0, none⟩ = some (.int .i64 op) ∧ W.cell? ⟨w.heap.size, 1, none⟩ = some (.int .i64 d) ∧ W.cell? ⟨w.heap.size, 2, none⟩ = some (.int .i64 a) ∧ W.cell? ⟨w.heap.size, 3, none⟩ = some (.int .i64 b) ∧ W.cell? ⟨w.heap.size, 4, none⟩ = some (.int .i64 imm) ∧ W.cell? ⟨xb, 34, none⟩ = some (.pointer (some ⟨mb, 0, none⟩)) from ⟨HK0.out.1, HK0.out.2.1, HK0.out.2.2.1, HK0.out.2.2.2.1, HK0.out.2.2.2.2, HW.out.memc⟩)
  go_region_held3 (fun w' => w'.cell? ⟨w.heap.size, 0, none⟩ = some (.int .i64 op) ∧ w'.cell? ⟨w.heap.size, 1, none⟩ = some (.int .i64 d) ∧ w'.cell? ⟨w.heap.size, 2, none⟩ = some (.int .i64 a) ∧ w'.cell? ⟨w.heap.size, 3, none⟩ = some (.int .i64 b) ∧ w'.cell? ⟨w.heap.size, 4, none⟩ = some (.int .i64 imm) ∧ w'.cell? ⟨xb, 34, none⟩ = some (.pointer (some ⟨mb, 0, none⟩))) (first | with_reducible exact HK1.out | exact HKM.out | go_keep)
    (first
      | (go_at_call 147; (with_reducible refine (address_any HWd.out op d b imm a ha i1 i2).mono ?_); rintro e w1 ⟨rfl, hb1⟩; have M1 := Lib.hid (HWd.out.below hb1); have B1 := Lib.hid hb1; have l1 : w.heap.size < w1.heap.size := Nat.lt_of_lt_of_le hsz hb1.size; have HK1 := Lib.hid (show w1.cell? ⟨w.heap.size, 0, none⟩ = some (.int .i64 op) ∧ w1.cell? ⟨w.heap.size, 1, none⟩ = some (.int .i64 d) ∧ w1.cell? ⟨w.heap.size, 2, none⟩ = some (.int .i64 a) ∧ w1.cell? ⟨w.heap.size, 3, none⟩ = some (.int .i64 b) ∧ w1.cell? ⟨w.heap.size, 4, none⟩ = some (.int .i64 imm) ∧ w1.cell? ⟨xb, 34, none⟩ = some (.pointer (some ⟨mb, 0, none⟩)) from ⟨(hb1.cell (p := ⟨w.heap.size, 0, none⟩) hsz).trans HKM.out.1, (hb1.cell (p := ⟨w.heap.size, 1, none⟩) hsz).trans HKM.out.2.1, (hb1.cell (p := ⟨w.heap.size, 2, none⟩) hsz).trans HKM.out.2.2.1, (hb1.cell (p := ⟨w.heap.size, 3, none⟩) hsz).trans HKM.out.2.2.2.1, (hb1.cell (p := ⟨w.heap.size, 4, none⟩) hsz).trans HKM.out.2.2.2.2.1, M1.out.memc⟩); clear hb1)
      | (go_at_call 27; (with_reducible refine (HL.out _ M1.out.mem).mono ?_); rintro e w' ⟨rfl, rfl⟩))
  all_goals
    go_wp2
    go_ret
    exact ⟨rfl, M1.out, (BW.out.drewN 1).trans (But.of_below B1.out)⟩
set_option maxRecDepth 100000 in
set_option maxHeartbeats 4000000 in
theorem loadZext_ok (h : Mach w xb mb bb c eb V code s) (op imm : Int) (d a b : Nat) (hd : d < 32) (ha : a < 32) (hb : b < 32) (i1 : -1048576 ≤ imm) (i2 : imm ≤ 1048576) (n : Int) (hn : n < 9223372036854775808) (he : numE s.xs.length (w64 (s.r a + imm)) n = 0) :
    Calls Tryz.prog 131 #[.pointer (some ⟨xb, 0, none⟩), .agg #[.int .i64 op, .int .i64 d, .int .i64 a, .int .i64 b, .int .i64 imm], .int .i64 n, .func (.func 133) #[] #[]] w (EffDone xb mb bb c eb V code w (0, (s.set d (zextV (loadV s.xs (w64 (s.r a + imm)) n) n)).at' (nextV s))) := by
  have hl : ∀ u, MemAt u mb bb c s.xs → Calls Tryz.prog 27 #[.pointer (some ⟨mb, 0, none⟩), .int .u64 (w64 (s.r a + imm)), .int .i64 n] u fun e w' => e = .returned (.tuple #[.int .u64 (loadV s.xs (w64 (s.r a + imm)) n), .int .i64 (numE s.xs.length (w64 (s.r a + imm)) n)]) ∧ u = w' := fun u hu => load_any hu _ n (w64_bd _).1 (w64_bd _).2 hn
  rw [he] at hl
  have hz := loadBd s.xs (w64 (s.r a + imm)) n h.ok.xs
  generalize loadV s.xs (w64 (s.r a + imm)) n = z at hl hz ⊢
  have hx := fun u => zext_any z n u hz.1 hz.2
  have hv : InW (zextV z n) := zextV_bd hz.1 hz.2
  have HL := Lib.hid hl
  have HX := Lib.hid hx
  generalize zextV z n = v at HX hv ⊢
  clear hl hz hx he
  have HW := Lib.hid (h.alloc (.cells #[.int .i64 op, .int .i64 d, .int .i64 a, .int .i64 b, .int .i64 imm] 76))
  have BW := Lib.hid ((But.refl (TwoBlocks xb bb) w).alloc (.cells #[.int .i64 op, .int .i64 d, .int .i64 a, .int .i64 b, .int .i64 imm] 76))
  obtain ⟨lt1, lt2, lt3, lt4⟩ := h.lt
  clear h
  have HK0 := Lib.hid (show (w.alloc (.cells #[.int .i64 op, .int .i64 d, .int .i64 a, .int .i64 b, .int .i64 imm] 76)).cell? ⟨w.heap.size, 0, none⟩ = some (.int .i64 op) ∧ (w.alloc (.cells #[.int .i64 op, .int .i64 d, .int .i64 a, .int .i64 b, .int .i64 imm] 76)).cell? ⟨w.heap.size, 1, none⟩ = some (.int .i64 d) ∧ (w.alloc (.cells #[.int .i64 op, .int .i64 d, .int .i64 a, .int .i64 b, .int .i64 imm] 76)).cell? ⟨w.heap.size, 2, none⟩ = some (.int .i64 a) ∧ (w.alloc (.cells #[.int .i64 op, .int .i64 d, .int .i64 a, .int .i64 b, .int .i64 imm] 76)).cell? ⟨w.heap.size, 3, none⟩ = some (.int .i64 b) ∧ (w.alloc (.cells #[.int .i64 op, .int .i64 d, .int .i64 a, .int .i64 b, .int .i64 imm] 76)).cell? ⟨w.heap.size, 4, none⟩ = some (.int .i64 imm) from ⟨new_cell _ _ _ _ _ _ rfl rfl, new_cell _ _ _ _ _ _ rfl rfl, new_cell _ _ _ _ _ _ rfl rfl, new_cell _ _ _ _ _ _ rfl rfl, new_cell _ _ _ _ _ _ rfl rfl⟩)
  go_enter Tryz.func131, Tryz.ntmps131
  go_wp2_with fail
  obtain ⟨k0, k1, k2, k3, k4⟩ := HK0.out
  have HSZ := Lib.hid (show w.heap.size < (w.alloc (.cells #[.int .i64 op, .int .i64 d, .int .i64 a, .int .i64 b, .int .i64 imm] 76)).heap.size by simp)
  generalize w.alloc (.cells #[.int .i64 op, .int .i64 d, .int .i64 a, .int .i64 b, .int .i64 imm] 76) = W at *
  have HWd := Lib.hid (show Mach W.drew xb mb bb c eb V code s from HW.out.drewN 1)
  have hsz : w.heap.size < W.heap.size := HSZ.out
  clear k0 k1 k2 k3 k4
  have HKM := Lib.hid (show W.cell? ⟨w.heap.size, 0, none⟩ = some (.int .i64 op) ∧ W.cell? ⟨w.heap.size, 1, none⟩ = some (.int .i64 d) ∧ W.cell? ⟨w.heap.size, 2, none⟩ = some (.int .i64 a) ∧ W.cell? ⟨w.heap.size, 3, none⟩ = some (.int .i64 b) ∧ W.cell? ⟨w.heap.size, 4, none⟩ = some (.int .i64 imm) ∧ W.cell? ⟨xb, 34, none⟩ = some (.pointer (some ⟨mb, 0, none⟩)) from ⟨HK0.out.1, HK0.out.2.1, HK0.out.2.2.1, HK0.out.2.2.2.1, HK0.out.2.2.2.2, HW.out.memc⟩)
  go_region_held3 (fun w' => w'.cell? ⟨w.heap.size, 0, none⟩ = some (.int .i64 op) ∧ w'.cell? ⟨w.heap.size, 1, none⟩ = some (.int .i64 d) ∧ w'.cell? ⟨w.heap.size, 2, none⟩ = some (.int .i64 a) ∧ w'.cell? ⟨w.heap.size, 3, none⟩ = some (.int .i64 b) ∧ w'.cell? ⟨w.heap.size, 4, none⟩ = some (.int .i64 imm) ∧ w'.cell? ⟨xb, 34, none⟩ = some (.pointer (some ⟨mb, 0, none⟩))) (first | with_reducible exact HK1.out | exact HKM.out | go_keep)
    (first
      | (go_at_call 147; (with_reducible refine (address_any HWd.out op d b imm a ha i1 i2).mono ?_); rintro e w1 ⟨rfl, hb1⟩; have M1 := Lib.hid (HWd.out.below hb1); have B1 := Lib.hid hb1; have l1 : w.heap.size < w1.heap.size := Nat.lt_of_lt_of_le hsz hb1.size; have HK1 := Lib.hid (show w1.cell? ⟨w.heap.size, 0, none⟩ = some (.int .i64 op) ∧ w1.cell? ⟨w.heap.size, 1, none⟩ = some (.int .i64 d) ∧ w1.cell? ⟨w.heap.size, 2, none⟩ = some (.int .i64 a) ∧ w1.cell? ⟨w.heap.size, 3, none⟩ = some (.int .i64 b) ∧ w1.cell? ⟨w.heap.size, 4, none⟩ = some (.int .i64 imm) ∧ w1.cell? ⟨xb, 34, none⟩ = some (.pointer (some ⟨mb, 0, none⟩)) from ⟨(hb1.cell (p := ⟨w.heap.size, 0, none⟩) hsz).trans HKM.out.1, (hb1.cell (p := ⟨w.heap.size, 1, none⟩) hsz).trans HKM.out.2.1, (hb1.cell (p := ⟨w.heap.size, 2, none⟩) hsz).trans HKM.out.2.2.1, (hb1.cell (p := ⟨w.heap.size, 3, none⟩) hsz).trans HKM.out.2.2.2.1, (hb1.cell (p := ⟨w.heap.size, 4, none⟩) hsz).trans HKM.out.2.2.2.2.1, M1.out.memc⟩); clear hb1)
      | (go_at_call 27; (with_reducible refine (HL.out _ M1.out.mem).mono ?_); rintro e w' ⟨rfl, rfl⟩))
  all_goals
    obtain ⟨g0, g1, g2, g3, g4, g5⟩ := HK1.out
    have M1d := Lib.hid (show Mach w1.drew xb mb bb c eb V code s from M1.out.drewN 1)
    go_wp2_with fail
    go_region_held3 (fun w' => w'.cell? ⟨w.heap.size, 0, none⟩ = some (.int .i64 op) ∧ w'.cell? ⟨w.heap.size, 1, none⟩ = some (.int .i64 d) ∧ w'.cell? ⟨w.heap.size, 2, none⟩ = some (.int .i64 a) ∧ w'.cell? ⟨w.heap.size, 3, none⟩ = some (.int .i64 b) ∧ w'.cell? ⟨w.heap.size, 4, none⟩ = some (.int .i64 imm)) (first | with_reducible exact HK2.out | with_reducible exact HK5.out | exact ⟨g0, g1, g2, g3, g4⟩ | go_keep)
      (first
        | (go_at_call 133; (with_reducible refine (HX.out _).mono ?_); rintro e w' ⟨rfl, rfl⟩; have HK5 := Lib.hid (show w1.drew.cell? ⟨w.heap.size, 0, none⟩ = some (.int .i64 op) ∧ w1.drew.cell? ⟨w.heap.size, 1, none⟩ = some (.int .i64 d) ∧ w1.drew.cell? ⟨w.heap.size, 2, none⟩ = some (.int .i64 a) ∧ w1.drew.cell? ⟨w.heap.size, 3, none⟩ = some (.int .i64 b) ∧ w1.drew.cell? ⟨w.heap.size, 4, none⟩ = some (.int .i64 imm) from ⟨g0, g1, g2, g3, g4⟩))
        | (go_at_call 126; (with_reducible refine (result_any M1d.out op imm d a b hd ha hb i1 i2 _ hv).mono ?_); rintro e w2 ⟨rfl, hm, hb2⟩; have M2 := Lib.hid hm; have B2 := Lib.hid hb2; have HK2 := Lib.hid (show w2.cell? ⟨w.heap.size, 0, none⟩ = some (.int .i64 op) ∧ w2.cell? ⟨w.heap.size, 1, none⟩ = some (.int .i64 d) ∧ w2.cell? ⟨w.heap.size, 2, none⟩ = some (.int .i64 a) ∧ w2.cell? ⟨w.heap.size, 3, none⟩ = some (.int .i64 b) ∧ w2.cell? ⟨w.heap.size, 4, none⟩ = some (.int .i64 imm) from ⟨(hb2.cell (p := ⟨w.heap.size, 0, none⟩) (show w.heap.size < w1.heap.size from l1) (twoBlocks_not (show w.heap.size ≠ xb by omega) (show w.heap.size ≠ bb by omega))).trans g0, (hb2.cell (p := ⟨w.heap.size, 1, none⟩) (show w.heap.size < w1.heap.size from l1) (twoBlocks_not (show w.heap.size ≠ xb by omega) (show w.heap.size ≠ bb by omega))).trans g1, (hb2.cell (p := ⟨w.heap.size, 2, none⟩) (show w.heap.size < w1.heap.size from l1) (twoBlocks_not (show w.heap.size ≠ xb by omega) (show w.heap.size ≠ bb by omega))).trans g2, (hb2.cell (p := ⟨w.heap.size, 3, none⟩) (show w.heap.size < w1.heap.size from l1) (twoBlocks_not (show w.heap.size ≠ xb by omega) (show w.heap.size ≠ bb by omega))).trans g3, (hb2.cell (p := ⟨w.heap.size, 4, none⟩) (show w.heap.size < w1.heap.size from l1) (twoBlocks_not (show w.heap.size ≠ xb by omega) (show w.heap.size ≠ bb by omega))).trans g4⟩); clear hm hb2))
    all_goals
      go_wp2
      go_ret
      exact ⟨rfl, M2.out, ((BW.out.drewN 1).trans (But.of_below B1.out)).trans B2.out.of_drew⟩
end
end Go.Proofs.YtnaceogkaiodnaaGreat

namespace Go.Proofs.YtnaceogkaiodnaaGreat
open Go.RowKit
set_option linter.unusedVariables false

/-- A load, a store. -/
def ldV (f : Int → Int → Int) (s : MSt) (d : Nat) (at' n : Int) : Int × MSt := if numE s.xs.length at' n = 0 then (0, (s.set d (f (loadV s.xs at' n) n)).at' (nextV s)) else (5, s)
def stV (s : MSt) (at' n v : Int) : Int × MSt := if numE s.xs.length at' n = 0 then (0, { s with pc := nextV s, xs := storeL s.xs at' n v }) else (5, s)
section
variable {w w' : World} {xb mb bb c eb : Nat} {V : Value} {code : List Int} {s : MSt}
set_option maxRecDepth 100000 in
set_option maxHeartbeats 4000000 in
theorem store_bad4 (h : Mach w xb mb bb c eb V code s) (op imm : Int) (d a b : Nat) (hd : d < 32) (ha : a < 32) (hb : b < 32) (i1 : -1048576 ≤ imm) (i2 : imm ≤ 1048576) (n : Int) (hn : n < 9223372036854775808) (he : numE s.xs.length (w64 (s.r a + imm)) n ≠ 0) :
    Calls Tryz.prog 134 #[.pointer (some ⟨xb, 0, none⟩), .agg #[.int .i64 op, .int .i64 d, .int .i64 a, .int .i64 b, .int .i64 imm], .int .i64 n] w (EffDone xb mb bb c eb V code w (5, s)) := by
  have hl : ∀ u, MemAt u mb bb c s.xs → Calls Tryz.prog 148 #[.pointer (some ⟨mb, 0, none⟩), .int .u64 (w64 (s.r a + imm)), .int .i64 n, .int .u64 (s.r b)] u (StoreDone u mb bb c (storeL s.xs (w64 (s.r a + imm)) n (s.r b)) (numE s.xs.length (w64 (s.r a + imm)) n)) := fun u hu => store_any hu _ n _ (w64_bd _).1 (w64_bd _).2 hn (h.ok.r b).1 (h.ok.r b).2
  have hs : storeL s.xs (w64 (s.r a + imm)) n (s.r b) = s.xs := by unfold storeL; rw [if_neg he]
  rw [hs] at hl
  obtain ⟨E, hE⟩ : ∃ E, E = numE s.xs.length (w64 (s.r a + imm)) n := ⟨_, rfl⟩
  rw [← hE] at hl he
  have he1 : (E != 0) = true := by simpa using he
  have he2 : (E == 0) = false := by simpa using he
  have HL := Lib.hid hl
  clear hl hE he hs
  have hj : (b : Int) < 32 := by omega
  have HW := Lib.hid (h.alloc (.cells #[.int .i64 op, .int .i64 d, .int .i64 a, .int .i64 b, .int .i64 imm] 76))
  have BW := Lib.hid ((But.refl (TwoBlocks xb bb) w).alloc (.cells #[.int .i64 op, .int .i64 d, .int .i64 a, .int .i64 b, .int .i64 imm] 76))
  obtain ⟨lt1, lt2, lt3, lt4⟩ := h.lt
  clear h
  have HK0 := Lib.hid (show (w.alloc (.cells #[.int .i64 op, .int .i64 d, .int .i64 a, .int .i64 b, .int .i64 imm] 76)).cell? ⟨w.heap.size, 0, none⟩ = some (.int .i64 op) ∧ (w.alloc (.cells #[.int .i64 op, .int .i64 d, .int .i64 a, .int .i64 b, .int .i64 imm] 76)).cell? ⟨w.heap.size, 1, none⟩ = some (.int .i64 d) ∧ (w.alloc (.cells #[.int .i64 op, .int .i64 d, .int .i64 a, .int .i64 b, .int .i64 imm] 76)).cell? ⟨w.heap.size, 2, none⟩ = some (.int .i64 a) ∧ (w.alloc (.cells #[.int .i64 op, .int .i64 d, .int .i64 a, .int .i64 b, .int .i64 imm] 76)).cell? ⟨w.heap.size, 3, none⟩ = some (.int .i64 b) ∧ (w.alloc (.cells #[.int .i64 op, .int .i64 d, .int .i64 a, .int .i64 b, .int .i64 imm] 76)).cell? ⟨w.heap.size, 4, none⟩ = some (.int .i64 imm) from ⟨new_cell _ _ _ _ _ _ rfl rfl, new_cell _ _ _ _ _ _ rfl rfl, new_cell _ _ _ _ _ _ rfl rfl, new_cell _ _ _ _ _ _ rfl rfl, new_cell _ _ _ _ _ _ rfl rfl⟩)
  go_enter Tryz.func134, Tryz.ntmps134
  go_wp2_with fail
  obtain ⟨k0, k1, k2, k3, k4⟩ := HK0.out
  have HSZ := Lib.hid (show w.heap.size < (w.alloc (.cells #[.int .i64 op, .int .i64 d, .int .i64 a, .int .i64 b, .int .i64 imm] 76)).heap.size by simp)
  generalize w.alloc (.cells #[.int .i64 op, .int .i64 d, .int .i64 a, .int .i64 b, .int .i64 imm] 76) = W at *
  have HWd := Lib.hid (show Mach W.drew xb mb bb c eb V code s from HW.out.drewN 1)
  have hsz : w.heap.size < W.heap.size := HSZ.out
  clear k0 k1 k2 k3 k4
  have HKM := Lib.hid (show W.cell? ⟨w.heap.size, 0, none⟩ = some (.int .i64 op) ∧ W.cell? ⟨w.heap.size, 1, none⟩ = some (.int .i64 d) ∧ W.cell? ⟨w.heap.size, 2, none⟩ = some (.int .i64 a) ∧ W.cell? ⟨w.heap.size, 3, none⟩ = some (.int .i64 b) ∧ W.cell? ⟨w.heap.size, 4, none⟩ = some (.int .i64 imm) ∧ W.cell? ⟨xb, 34, none⟩ = some (.pointer (some ⟨mb, 0, none⟩)) ∧ W.cell? ⟨xb, 1 + b, none⟩ = some (.int .u64 (s.r b)) from ⟨HK0.out.1, HK0.out.2.1, HK0.out.2.2.1, HK0.out.2.2.2.1, HK0.out.2.2.2.2, HW.out.memc, HW.out.reg hb⟩)
  go_region_held3 (fun w' => w'.cell? ⟨w.heap.size, 0, none⟩ = some (.int .i64 op) ∧ w'.cell? ⟨w.heap.size, 1, none⟩ = some (.int .i64 d) ∧ w'.cell? ⟨w.heap.size, 2, none⟩ = some (.int .i64 a) ∧ w'.cell? ⟨w.heap.size, 3, none⟩ = some (.int .i64 b) ∧ w'.cell? ⟨w.heap.size, 4, none⟩ = some (.int .i64 imm) ∧ w'.cell? ⟨xb, 34, none⟩ = some (.pointer (some ⟨mb, 0, none⟩)) ∧ w'.cell? ⟨xb, 1 + b, none⟩ = some (.int .u64 (s.r b))) (first | with_reducible exact HK2.out | with_reducible exact HK1.out | exact HKM.out | go_keep)
    (first
      | (go_at_call 147; (with_reducible refine (address_any HWd.out op d b imm a ha i1 i2).mono ?_); rintro e w1 ⟨rfl, hb1⟩; have M1 := Lib.hid (HWd.out.below hb1); have B1 := Lib.hid hb1; have l1 : w.heap.size < w1.heap.size := Nat.lt_of_lt_of_le hsz hb1.size; have HK1 := Lib.hid (show w1.cell? ⟨w.heap.size, 0, none⟩ = some (.int .i64 op) ∧ w1.cell? ⟨w.heap.size, 1, none⟩ = some (.int .i64 d) ∧ w1.cell? ⟨w.heap.size, 2, none⟩ = some (.int .i64 a) ∧ w1.cell? ⟨w.heap.size, 3, none⟩ = some (.int .i64 b) ∧ w1.cell? ⟨w.heap.size, 4, none⟩ = some (.int .i64 imm) ∧ w1.cell? ⟨xb, 34, none⟩ = some (.pointer (some ⟨mb, 0, none⟩)) ∧ w1.cell? ⟨xb, 1 + b, none⟩ = some (.int .u64 (s.r b)) from ⟨(hb1.cell (p := ⟨w.heap.size, 0, none⟩) hsz).trans HKM.out.1, (hb1.cell (p := ⟨w.heap.size, 1, none⟩) hsz).trans HKM.out.2.1, (hb1.cell (p := ⟨w.heap.size, 2, none⟩) hsz).trans HKM.out.2.2.1, (hb1.cell (p := ⟨w.heap.size, 3, none⟩) hsz).trans HKM.out.2.2.2.1, (hb1.cell (p := ⟨w.heap.size, 4, none⟩) hsz).trans HKM.out.2.2.2.2.1, M1.out.memc, M1.out.reg hb⟩); clear hb1)
      | (go_at_call 148; (with_reducible refine (HL.out _ M1.out.mem).mono ?_); rintro e w2 ⟨rfl, hm, hb2⟩; have M2 := Lib.hid (M1.out.setMem hb2 hm); have B2 := Lib.hid hb2; have HK2 := Lib.hid (show w2.cell? ⟨w.heap.size, 0, none⟩ = some (.int .i64 op) ∧ w2.cell? ⟨w.heap.size, 1, none⟩ = some (.int .i64 d) ∧ w2.cell? ⟨w.heap.size, 2, none⟩ = some (.int .i64 a) ∧ w2.cell? ⟨w.heap.size, 3, none⟩ = some (.int .i64 b) ∧ w2.cell? ⟨w.heap.size, 4, none⟩ = some (.int .i64 imm) ∧ w2.cell? ⟨xb, 34, none⟩ = some (.pointer (some ⟨mb, 0, none⟩)) ∧ w2.cell? ⟨xb, 1 + b, none⟩ = some (.int .u64 (s.r b)) from ⟨(hb2.cell (p := ⟨w.heap.size, 0, none⟩) l1 (oneBlock_not (show w.heap.size ≠ bb by omega))).trans HK1.out.1, (hb2.cell (p := ⟨w.heap.size, 1, none⟩) l1 (oneBlock_not (show w.heap.size ≠ bb by omega))).trans HK1.out.2.1, (hb2.cell (p := ⟨w.heap.size, 2, none⟩) l1 (oneBlock_not (show w.heap.size ≠ bb by omega))).trans HK1.out.2.2.1, (hb2.cell (p := ⟨w.heap.size, 3, none⟩) l1 (oneBlock_not (show w.heap.size ≠ bb by omega))).trans HK1.out.2.2.2.1, (hb2.cell (p := ⟨w.heap.size, 4, none⟩) l1 (oneBlock_not (show w.heap.size ≠ bb by omega))).trans HK1.out.2.2.2.2.1, M2.out.memc, M2.out.reg hb⟩); clear hm hb2))
  all_goals
    go_wp2
    go_ret
    exact ⟨rfl, M2.out, ((BW.out.drewN 1).trans (But.of_below B1.out)).trans B2.out.two2⟩
set_option maxRecDepth 100000 in
set_option maxHeartbeats 4000000 in
theorem store_ok4 (h : Mach w xb mb bb c eb V code s) (op imm : Int) (d a b : Nat) (hd : d < 32) (ha : a < 32) (hb : b < 32) (i1 : -1048576 ≤ imm) (i2 : imm ≤ 1048576) (n : Int) (hn : n < 9223372036854775808) (he : numE s.xs.length (w64 (s.r a + imm)) n = 0) :
    Calls Tryz.prog 134 #[.pointer (some ⟨xb, 0, none⟩), .agg #[.int .i64 op, .int .i64 d, .int .i64 a, .int .i64 b, .int .i64 imm], .int .i64 n] w (EffDone xb mb bb c eb V code w (0, { s with pc := nextV s, xs := storeL s.xs (w64 (s.r a + imm)) n (s.r b) })) := by
  have hl : ∀ u, MemAt u mb bb c s.xs → Calls Tryz.prog 148 #[.pointer (some ⟨mb, 0, none⟩), .int .u64 (w64 (s.r a + imm)), .int .i64 n, .int .u64 (s.r b)] u (StoreDone u mb bb c (storeL s.xs (w64 (s.r a + imm)) n (s.r b)) (numE s.xs.length (w64 (s.r a + imm)) n)) := fun u hu => store_any hu _ n _ (w64_bd _).1 (w64_bd _).2 hn (h.ok.r b).1 (h.ok.r b).2
  rw [he] at hl
  generalize storeL s.xs (w64 (s.r a + imm)) n (s.r b) = XS at hl ⊢
  have HL := Lib.hid hl
  clear hl he
  have hj : (b : Int) < 32 := by omega
  have HW := Lib.hid (h.alloc (.cells #[.int .i64 op, .int .i64 d, .int .i64 a, .int .i64 b, .int .i64 imm] 76))
  have BW := Lib.hid ((But.refl (TwoBlocks xb bb) w).alloc (.cells #[.int .i64 op, .int .i64 d, .int .i64 a, .int .i64 b, .int .i64 imm] 76))
  obtain ⟨lt1, lt2, lt3, lt4⟩ := h.lt
  clear h
  have HK0 := Lib.hid (show (w.alloc (.cells #[.int .i64 op, .int .i64 d, .int .i64 a, .int .i64 b, .int .i64 imm] 76)).cell? ⟨w.heap.size, 0, none⟩ = some (.int .i64 op) ∧ (w.alloc (.cells #[.int .i64 op, .int .i64 d, .int .i64 a, .int .i64 b, .int .i64 imm] 76)).cell? ⟨w.heap.size, 1, none⟩ = some (.int .i64 d) ∧ (w.alloc (.cells #[.int .i64 op, .int .i64 d, .int .i64 a, .int .i64 b, .int .i64 imm] 76)).cell? ⟨w.heap.size, 2, none⟩ = some (.int .i64 a) ∧ (w.alloc (.cells #[.int .i64 op, .int .i64 d, .int .i64 a, .int .i64 b, .int .i64 imm] 76)).cell? ⟨w.heap.size, 3, none⟩ = some (.int .i64 b) ∧ (w.alloc (.cells #[.int .i64 op, .int .i64 d, .int .i64 a, .int .i64 b, .int .i64 imm] 76)).cell? ⟨w.heap.size, 4, none⟩ = some (.int .i64 imm) from ⟨new_cell _ _ _ _ _ _ rfl rfl, new_cell _ _ _ _ _ _ rfl rfl, new_cell _ _ _ _ _ _ rfl rfl, new_cell _ _ _ _ _ _ rfl rfl, new_cell _ _ _ _ _ _ rfl rfl⟩)
  go_enter Tryz.func134, Tryz.ntmps134
  go_wp2_with fail
  obtain ⟨k0, k1, k2, k3, k4⟩ := HK0.out
  have HSZ := Lib.hid (show w.heap.size < (w.alloc (.cells #[.int .i64 op, .int .i64 d, .int .i64 a, .int .i64 b, .int .i64 imm] 76)).heap.size by simp)
  generalize w.alloc (.cells #[.int .i64 op, .int .i64 d, .int .i64 a, .int .i64 b, .int .i64 imm] 76) = W at *
  have HWd := Lib.hid (show Mach W.drew xb mb bb c eb V code s from HW.out.drewN 1)
  have hsz : w.heap.size < W.heap.size := HSZ.out
  clear k0 k1 k2 k3 k4
  have HKM := Lib.hid (show W.cell? ⟨w.heap.size, 0, none⟩ = some (.int .i64 op) ∧ W.cell? ⟨w.heap.size, 1, none⟩ = some (.int .i64 d) ∧ W.cell? ⟨w.heap.size, 2, none⟩ = some (.int .i64 a) ∧ W.cell? ⟨w.heap.size, 3, none⟩ = some (.int .i64 b) ∧ W.cell? ⟨w.heap.size, 4, none⟩ = some (.int .i64 imm) ∧ W.cell? ⟨xb, 34, none⟩ = some (.pointer (some ⟨mb, 0, none⟩)) ∧ W.cell? ⟨xb, 1 + b, none⟩ = some (.int .u64 (s.r b)) from ⟨HK0.out.1, HK0.out.2.1, HK0.out.2.2.1, HK0.out.2.2.2.1, HK0.out.2.2.2.2, HW.out.memc, HW.out.reg hb⟩)
  go_region_held3 (fun w' => w'.cell? ⟨w.heap.size, 0, none⟩ = some (.int .i64 op) ∧ w'.cell? ⟨w.heap.size, 1, none⟩ = some (.int .i64 d) ∧ w'.cell? ⟨w.heap.size, 2, none⟩ = some (.int .i64 a) ∧ w'.cell? ⟨w.heap.size, 3, none⟩ = some (.int .i64 b) ∧ w'.cell? ⟨w.heap.size, 4, none⟩ = some (.int .i64 imm) ∧ w'.cell? ⟨xb, 34, none⟩ = some (.pointer (some ⟨mb, 0, none⟩)) ∧ w'.cell? ⟨xb, 1 + b, none⟩ = some (.int .u64 (s.r b))) (first | with_reducible exact HK2.out | with_reducible exact HK1.out | exact HKM.out | go_keep)
    (first
      | (go_at_call 147; (with_reducible refine (address_any HWd.out op d b imm a ha i1 i2).mono ?_); rintro e w1 ⟨rfl, hb1⟩; have M1 := Lib.hid (HWd.out.below hb1); have B1 := Lib.hid hb1; have l1 : w.heap.size < w1.heap.size := Nat.lt_of_lt_of_le hsz hb1.size; have HK1 := Lib.hid (show w1.cell? ⟨w.heap.size, 0, none⟩ = some (.int .i64 op) ∧ w1.cell? ⟨w.heap.size, 1, none⟩ = some (.int .i64 d) ∧ w1.cell? ⟨w.heap.size, 2, none⟩ = some (.int .i64 a) ∧ w1.cell? ⟨w.heap.size, 3, none⟩ = some (.int .i64 b) ∧ w1.cell? ⟨w.heap.size, 4, none⟩ = some (.int .i64 imm) ∧ w1.cell? ⟨xb, 34, none⟩ = some (.pointer (some ⟨mb, 0, none⟩)) ∧ w1.cell? ⟨xb, 1 + b, none⟩ = some (.int .u64 (s.r b)) from ⟨(hb1.cell (p := ⟨w.heap.size, 0, none⟩) hsz).trans HKM.out.1, (hb1.cell (p := ⟨w.heap.size, 1, none⟩) hsz).trans HKM.out.2.1, (hb1.cell (p := ⟨w.heap.size, 2, none⟩) hsz).trans HKM.out.2.2.1, (hb1.cell (p := ⟨w.heap.size, 3, none⟩) hsz).trans HKM.out.2.2.2.1, (hb1.cell (p := ⟨w.heap.size, 4, none⟩) hsz).trans HKM.out.2.2.2.2.1, M1.out.memc, M1.out.reg hb⟩); clear hb1)
      | (go_at_call 148; (with_reducible refine (HL.out _ M1.out.mem).mono ?_); rintro e w2 ⟨rfl, hm, hb2⟩; have M2 := Lib.hid (M1.out.setMem hb2 hm); have B2 := Lib.hid hb2; have HK2 := Lib.hid (show w2.cell? ⟨w.heap.size, 0, none⟩ = some (.int .i64 op) ∧ w2.cell? ⟨w.heap.size, 1, none⟩ = some (.int .i64 d) ∧ w2.cell? ⟨w.heap.size, 2, none⟩ = some (.int .i64 a) ∧ w2.cell? ⟨w.heap.size, 3, none⟩ = some (.int .i64 b) ∧ w2.cell? ⟨w.heap.size, 4, none⟩ = some (.int .i64 imm) ∧ w2.cell? ⟨xb, 34, none⟩ = some (.pointer (some ⟨mb, 0, none⟩)) ∧ w2.cell? ⟨xb, 1 + b, none⟩ = some (.int .u64 (s.r b)) from ⟨(hb2.cell (p := ⟨w.heap.size, 0, none⟩) l1 (oneBlock_not (show w.heap.size ≠ bb by omega))).trans HK1.out.1, (hb2.cell (p := ⟨w.heap.size, 1, none⟩) l1 (oneBlock_not (show w.heap.size ≠ bb by omega))).trans HK1.out.2.1, (hb2.cell (p := ⟨w.heap.size, 2, none⟩) l1 (oneBlock_not (show w.heap.size ≠ bb by omega))).trans HK1.out.2.2.1, (hb2.cell (p := ⟨w.heap.size, 3, none⟩) l1 (oneBlock_not (show w.heap.size ≠ bb by omega))).trans HK1.out.2.2.2.1, (hb2.cell (p := ⟨w.heap.size, 4, none⟩) l1 (oneBlock_not (show w.heap.size ≠ bb by omega))).trans HK1.out.2.2.2.2.1, M2.out.memc, M2.out.reg hb⟩); clear hm hb2))
  all_goals
    go_wp2_with (go_at_call 146; (with_reducible refine (next_any M2.out).mono ?_); rintro e w3 ⟨rfl, hm, hb⟩; have M3 := Lib.hid hm; have B3 := Lib.hid hb; clear hm hb)
    go_ret
    exact ⟨rfl, M3.out, (((BW.out.drewN 1).trans (But.of_below B1.out)).trans B2.out.two2).trans B3.out.two1⟩
theorem lb_any (h : Mach w xb mb bb c eb V code s) (op imm : Int) (d a b : Nat) (hd : d < 32) (ha : a < 32) (hb : b < 32) (i1 : -1048576 ≤ imm) (i2 : imm ≤ 1048576) :
    Calls Tryz.prog 103 #[.pointer (some ⟨xb, 0, none⟩), .agg #[.int .i64 op, .int .i64 d, .int .i64 a, .int .i64 b, .int .i64 imm]] w (EffDone xb mb bb c eb V code w (ldV sextV s d (w64 (s.r a + imm)) 1)) := by
  have hc : ∀ u, Mach u xb mb bb c eb V code s → Calls Tryz.prog 131 #[.pointer (some ⟨xb, 0, none⟩), .agg #[.int .i64 op, .int .i64 d, .int .i64 a, .int .i64 b, .int .i64 imm], .int .i64 1, .func (.func 132) #[] #[]] u (EffDone xb mb bb c eb V code u (ldV sextV s d (w64 (s.r a + imm)) 1)) := fun u hu => by
    by_cases he : numE s.xs.length (w64 (s.r a + imm)) 1 = 0
    · unfold ldV; rw [if_pos he]; exact loadSext_ok hu op imm d a b hd ha hb i1 i2 1 (by omega) he
    · unfold ldV; rw [if_neg he]; exact loadSext_bad hu op imm d a b hd ha hb i1 i2 1 (by omega) he
  generalize ldV sextV s d (w64 (s.r a + imm)) 1 = R at hc ⊢
  have HC := Lib.hid hc
  clear hc
  have HW := Lib.hid (h.alloc (.cells #[.int .i64 op, .int .i64 d, .int .i64 a, .int .i64 b, .int .i64 imm] 76))
  have BW := Lib.hid ((But.refl (TwoBlocks xb bb) w).alloc (.cells #[.int .i64 op, .int .i64 d, .int .i64 a, .int .i64 b, .int .i64 imm] 76))
  obtain ⟨lt1, lt2, lt3, lt4⟩ := h.lt
  clear h
  go_enter Tryz.func103, Tryz.ntmps103
  go_wp2_with (go_at_call 131; (with_reducible refine (HC.out _ HW.out).mono ?_); rintro e w1 ⟨rfl, hm, hb⟩; have M1 := Lib.hid hm; have B1 := Lib.hid hb; clear hm hb)
  go_ret
  exact ⟨rfl, M1.out, BW.out.trans B1.out⟩
theorem lh_any (h : Mach w xb mb bb c eb V code s) (op imm : Int) (d a b : Nat) (hd : d < 32) (ha : a < 32) (hb : b < 32) (i1 : -1048576 ≤ imm) (i2 : imm ≤ 1048576) :
    Calls Tryz.prog 104 #[.pointer (some ⟨xb, 0, none⟩), .agg #[.int .i64 op, .int .i64 d, .int .i64 a, .int .i64 b, .int .i64 imm]] w (EffDone xb mb bb c eb V code w (ldV sextV s d (w64 (s.r a + imm)) 2)) := by
  have hc : ∀ u, Mach u xb mb bb c eb V code s → Calls Tryz.prog 131 #[.pointer (some ⟨xb, 0, none⟩), .agg #[.int .i64 op, .int .i64 d, .int .i64 a, .int .i64 b, .int .i64 imm], .int .i64 2, .func (.func 132) #[] #[]] u (EffDone xb mb bb c eb V code u (ldV sextV s d (w64 (s.r a + imm)) 2)) := fun u hu => by
    by_cases he : numE s.xs.length (w64 (s.r a + imm)) 2 = 0
    · unfold ldV; rw [if_pos he]; exact loadSext_ok hu op imm d a b hd ha hb i1 i2 2 (by omega) he
    · unfold ldV; rw [if_neg he]; exact loadSext_bad hu op imm d a b hd ha hb i1 i2 2 (by omega) he
  generalize ldV sextV s d (w64 (s.r a + imm)) 2 = R at hc ⊢
  have HC := Lib.hid hc
  clear hc
  have HW := Lib.hid (h.alloc (.cells #[.int .i64 op, .int .i64 d, .int .i64 a, .int .i64 b, .int .i64 imm] 76))
  have BW := Lib.hid ((But.refl (TwoBlocks xb bb) w).alloc (.cells #[.int .i64 op, .int .i64 d, .int .i64 a, .int .i64 b, .int .i64 imm] 76))
  obtain ⟨lt1, lt2, lt3, lt4⟩ := h.lt
  clear h
  go_enter Tryz.func104, Tryz.ntmps104
  go_wp2_with (go_at_call 131; (with_reducible refine (HC.out _ HW.out).mono ?_); rintro e w1 ⟨rfl, hm, hb⟩; have M1 := Lib.hid hm; have B1 := Lib.hid hb; clear hm hb)
  go_ret
  exact ⟨rfl, M1.out, BW.out.trans B1.out⟩
theorem lw_any (h : Mach w xb mb bb c eb V code s) (op imm : Int) (d a b : Nat) (hd : d < 32) (ha : a < 32) (hb : b < 32) (i1 : -1048576 ≤ imm) (i2 : imm ≤ 1048576) :
    Calls Tryz.prog 105 #[.pointer (some ⟨xb, 0, none⟩), .agg #[.int .i64 op, .int .i64 d, .int .i64 a, .int .i64 b, .int .i64 imm]] w (EffDone xb mb bb c eb V code w (ldV sextV s d (w64 (s.r a + imm)) 4)) := by
  have hc : ∀ u, Mach u xb mb bb c eb V code s → Calls Tryz.prog 131 #[.pointer (some ⟨xb, 0, none⟩), .agg #[.int .i64 op, .int .i64 d, .int .i64 a, .int .i64 b, .int .i64 imm], .int .i64 4, .func (.func 132) #[] #[]] u (EffDone xb mb bb c eb V code u (ldV sextV s d (w64 (s.r a + imm)) 4)) := fun u hu => by
    by_cases he : numE s.xs.length (w64 (s.r a + imm)) 4 = 0
    · unfold ldV; rw [if_pos he]; exact loadSext_ok hu op imm d a b hd ha hb i1 i2 4 (by omega) he
    · unfold ldV; rw [if_neg he]; exact loadSext_bad hu op imm d a b hd ha hb i1 i2 4 (by omega) he
  generalize ldV sextV s d (w64 (s.r a + imm)) 4 = R at hc ⊢
  have HC := Lib.hid hc
  clear hc
  have HW := Lib.hid (h.alloc (.cells #[.int .i64 op, .int .i64 d, .int .i64 a, .int .i64 b, .int .i64 imm] 76))
  have BW := Lib.hid ((But.refl (TwoBlocks xb bb) w).alloc (.cells #[.int .i64 op, .int .i64 d, .int .i64 a, .int .i64 b, .int .i64 imm] 76))
  obtain ⟨lt1, lt2, lt3, lt4⟩ := h.lt
  clear h
  go_enter Tryz.func105, Tryz.ntmps105
  go_wp2_with (go_at_call 131; (with_reducible refine (HC.out _ HW.out).mono ?_); rintro e w1 ⟨rfl, hm, hb⟩; have M1 := Lib.hid hm; have B1 := Lib.hid hb; clear hm hb)
  go_ret
  exact ⟨rfl, M1.out, BW.out.trans B1.out⟩
theorem ld_any (h : Mach w xb mb bb c eb V code s) (op imm : Int) (d a b : Nat) (hd : d < 32) (ha : a < 32) (hb : b < 32) (i1 : -1048576 ≤ imm) (i2 : imm ≤ 1048576) :
    Calls Tryz.prog 106 #[.pointer (some ⟨xb, 0, none⟩), .agg #[.int .i64 op, .int .i64 d, .int .i64 a, .int .i64 b, .int .i64 imm]] w (EffDone xb mb bb c eb V code w (ldV sextV s d (w64 (s.r a + imm)) 8)) := by
  have hc : ∀ u, Mach u xb mb bb c eb V code s → Calls Tryz.prog 131 #[.pointer (some ⟨xb, 0, none⟩), .agg #[.int .i64 op, .int .i64 d, .int .i64 a, .int .i64 b, .int .i64 imm], .int .i64 8, .func (.func 132) #[] #[]] u (EffDone xb mb bb c eb V code u (ldV sextV s d (w64 (s.r a + imm)) 8)) := fun u hu => by
    by_cases he : numE s.xs.length (w64 (s.r a + imm)) 8 = 0
    · unfold ldV; rw [if_pos he]; exact loadSext_ok hu op imm d a b hd ha hb i1 i2 8 (by omega) he
    · unfold ldV; rw [if_neg he]; exact loadSext_bad hu op imm d a b hd ha hb i1 i2 8 (by omega) he
  generalize ldV sextV s d (w64 (s.r a + imm)) 8 = R at hc ⊢
  have HC := Lib.hid hc
  clear hc
  have HW := Lib.hid (h.alloc (.cells #[.int .i64 op, .int .i64 d, .int .i64 a, .int .i64 b, .int .i64 imm] 76))
  have BW := Lib.hid ((But.refl (TwoBlocks xb bb) w).alloc (.cells #[.int .i64 op, .int .i64 d, .int .i64 a, .int .i64 b, .int .i64 imm] 76))
  obtain ⟨lt1, lt2, lt3, lt4⟩ := h.lt
  clear h
  go_enter Tryz.func106, Tryz.ntmps106
  go_wp2_with (go_at_call 131; (with_reducible refine (HC.out _ HW.out).mono ?_); rintro e w1 ⟨rfl, hm, hb⟩; have M1 := Lib.hid hm; have B1 := Lib.hid hb; clear hm hb)
  go_ret
  exact ⟨rfl, M1.out, BW.out.trans B1.out⟩
theorem lbu_any (h : Mach w xb mb bb c eb V code s) (op imm : Int) (d a b : Nat) (hd : d < 32) (ha : a < 32) (hb : b < 32) (i1 : -1048576 ≤ imm) (i2 : imm ≤ 1048576) :
    Calls Tryz.prog 107 #[.pointer (some ⟨xb, 0, none⟩), .agg #[.int .i64 op, .int .i64 d, .int .i64 a, .int .i64 b, .int .i64 imm]] w (EffDone xb mb bb c eb V code w (ldV zextV s d (w64 (s.r a + imm)) 1)) := by
  have hc : ∀ u, Mach u xb mb bb c eb V code s → Calls Tryz.prog 131 #[.pointer (some ⟨xb, 0, none⟩), .agg #[.int .i64 op, .int .i64 d, .int .i64 a, .int .i64 b, .int .i64 imm], .int .i64 1, .func (.func 133) #[] #[]] u (EffDone xb mb bb c eb V code u (ldV zextV s d (w64 (s.r a + imm)) 1)) := fun u hu => by
    by_cases he : numE s.xs.length (w64 (s.r a + imm)) 1 = 0
    · unfold ldV; rw [if_pos he]; exact loadZext_ok hu op imm d a b hd ha hb i1 i2 1 (by omega) he
    · unfold ldV; rw [if_neg he]; exact loadZext_bad hu op imm d a b hd ha hb i1 i2 1 (by omega) he
  generalize ldV zextV s d (w64 (s.r a + imm)) 1 = R at hc ⊢
  have HC := Lib.hid hc
  clear hc
  have HW := Lib.hid (h.alloc (.cells #[.int .i64 op, .int .i64 d, .int .i64 a, .int .i64 b, .int .i64 imm] 76))
  have BW := Lib.hid ((But.refl (TwoBlocks xb bb) w).alloc (.cells #[.int .i64 op, .int .i64 d, .int .i64 a, .int .i64 b, .int .i64 imm] 76))
  obtain ⟨lt1, lt2, lt3, lt4⟩ := h.lt
  clear h
  go_enter Tryz.func107, Tryz.ntmps107
  go_wp2_with (go_at_call 131; (with_reducible refine (HC.out _ HW.out).mono ?_); rintro e w1 ⟨rfl, hm, hb⟩; have M1 := Lib.hid hm; have B1 := Lib.hid hb; clear hm hb)
  go_ret
  exact ⟨rfl, M1.out, BW.out.trans B1.out⟩
theorem lhu_any (h : Mach w xb mb bb c eb V code s) (op imm : Int) (d a b : Nat) (hd : d < 32) (ha : a < 32) (hb : b < 32) (i1 : -1048576 ≤ imm) (i2 : imm ≤ 1048576) :
    Calls Tryz.prog 108 #[.pointer (some ⟨xb, 0, none⟩), .agg #[.int .i64 op, .int .i64 d, .int .i64 a, .int .i64 b, .int .i64 imm]] w (EffDone xb mb bb c eb V code w (ldV zextV s d (w64 (s.r a + imm)) 2)) := by
  have hc : ∀ u, Mach u xb mb bb c eb V code s → Calls Tryz.prog 131 #[.pointer (some ⟨xb, 0, none⟩), .agg #[.int .i64 op, .int .i64 d, .int .i64 a, .int .i64 b, .int .i64 imm], .int .i64 2, .func (.func 133) #[] #[]] u (EffDone xb mb bb c eb V code u (ldV zextV s d (w64 (s.r a + imm)) 2)) := fun u hu => by
    by_cases he : numE s.xs.length (w64 (s.r a + imm)) 2 = 0
    · unfold ldV; rw [if_pos he]; exact loadZext_ok hu op imm d a b hd ha hb i1 i2 2 (by omega) he
    · unfold ldV; rw [if_neg he]; exact loadZext_bad hu op imm d a b hd ha hb i1 i2 2 (by omega) he
  generalize ldV zextV s d (w64 (s.r a + imm)) 2 = R at hc ⊢
  have HC := Lib.hid hc
  clear hc
  have HW := Lib.hid (h.alloc (.cells #[.int .i64 op, .int .i64 d, .int .i64 a, .int .i64 b, .int .i64 imm] 76))
  have BW := Lib.hid ((But.refl (TwoBlocks xb bb) w).alloc (.cells #[.int .i64 op, .int .i64 d, .int .i64 a, .int .i64 b, .int .i64 imm] 76))
  obtain ⟨lt1, lt2, lt3, lt4⟩ := h.lt
  clear h
  go_enter Tryz.func108, Tryz.ntmps108
  go_wp2_with (go_at_call 131; (with_reducible refine (HC.out _ HW.out).mono ?_); rintro e w1 ⟨rfl, hm, hb⟩; have M1 := Lib.hid hm; have B1 := Lib.hid hb; clear hm hb)
  go_ret
  exact ⟨rfl, M1.out, BW.out.trans B1.out⟩
theorem lwu_any (h : Mach w xb mb bb c eb V code s) (op imm : Int) (d a b : Nat) (hd : d < 32) (ha : a < 32) (hb : b < 32) (i1 : -1048576 ≤ imm) (i2 : imm ≤ 1048576) :
    Calls Tryz.prog 109 #[.pointer (some ⟨xb, 0, none⟩), .agg #[.int .i64 op, .int .i64 d, .int .i64 a, .int .i64 b, .int .i64 imm]] w (EffDone xb mb bb c eb V code w (ldV zextV s d (w64 (s.r a + imm)) 4)) := by
  have hc : ∀ u, Mach u xb mb bb c eb V code s → Calls Tryz.prog 131 #[.pointer (some ⟨xb, 0, none⟩), .agg #[.int .i64 op, .int .i64 d, .int .i64 a, .int .i64 b, .int .i64 imm], .int .i64 4, .func (.func 133) #[] #[]] u (EffDone xb mb bb c eb V code u (ldV zextV s d (w64 (s.r a + imm)) 4)) := fun u hu => by
    by_cases he : numE s.xs.length (w64 (s.r a + imm)) 4 = 0
    · unfold ldV; rw [if_pos he]; exact loadZext_ok hu op imm d a b hd ha hb i1 i2 4 (by omega) he
    · unfold ldV; rw [if_neg he]; exact loadZext_bad hu op imm d a b hd ha hb i1 i2 4 (by omega) he
  generalize ldV zextV s d (w64 (s.r a + imm)) 4 = R at hc ⊢
  have HC := Lib.hid hc
  clear hc
  have HW := Lib.hid (h.alloc (.cells #[.int .i64 op, .int .i64 d, .int .i64 a, .int .i64 b, .int .i64 imm] 76))
  have BW := Lib.hid ((But.refl (TwoBlocks xb bb) w).alloc (.cells #[.int .i64 op, .int .i64 d, .int .i64 a, .int .i64 b, .int .i64 imm] 76))
  obtain ⟨lt1, lt2, lt3, lt4⟩ := h.lt
  clear h
  go_enter Tryz.func109, Tryz.ntmps109
  go_wp2_with (go_at_call 131; (with_reducible refine (HC.out _ HW.out).mono ?_); rintro e w1 ⟨rfl, hm, hb⟩; have M1 := Lib.hid hm; have B1 := Lib.hid hb; clear hm hb)
  go_ret
  exact ⟨rfl, M1.out, BW.out.trans B1.out⟩
theorem sb_any (h : Mach w xb mb bb c eb V code s) (op imm : Int) (d a b : Nat) (hd : d < 32) (ha : a < 32) (hb : b < 32) (i1 : -1048576 ≤ imm) (i2 : imm ≤ 1048576) :
    Calls Tryz.prog 110 #[.pointer (some ⟨xb, 0, none⟩), .agg #[.int .i64 op, .int .i64 d, .int .i64 a, .int .i64 b, .int .i64 imm]] w (EffDone xb mb bb c eb V code w (stV s (w64 (s.r a + imm)) 1 (s.r b))) := by
  have hc : ∀ u, Mach u xb mb bb c eb V code s → Calls Tryz.prog 134 #[.pointer (some ⟨xb, 0, none⟩), .agg #[.int .i64 op, .int .i64 d, .int .i64 a, .int .i64 b, .int .i64 imm], .int .i64 1] u (EffDone xb mb bb c eb V code u (stV s (w64 (s.r a + imm)) 1 (s.r b))) := fun u hu => by
    by_cases he : numE s.xs.length (w64 (s.r a + imm)) 1 = 0
    · unfold stV; rw [if_pos he]; exact store_ok4 hu op imm d a b hd ha hb i1 i2 1 (by omega) he
    · unfold stV; rw [if_neg he]; exact store_bad4 hu op imm d a b hd ha hb i1 i2 1 (by omega) he
  generalize stV s (w64 (s.r a + imm)) 1 (s.r b) = R at hc ⊢
  have HC := Lib.hid hc
  clear hc
  have HW := Lib.hid (h.alloc (.cells #[.int .i64 op, .int .i64 d, .int .i64 a, .int .i64 b, .int .i64 imm] 76))
  have BW := Lib.hid ((But.refl (TwoBlocks xb bb) w).alloc (.cells #[.int .i64 op, .int .i64 d, .int .i64 a, .int .i64 b, .int .i64 imm] 76))
  obtain ⟨lt1, lt2, lt3, lt4⟩ := h.lt
  clear h
  go_enter Tryz.func110, Tryz.ntmps110
  go_wp2_with (go_at_call 134; (with_reducible refine (HC.out _ HW.out).mono ?_); rintro e w1 ⟨rfl, hm, hb⟩; have M1 := Lib.hid hm; have B1 := Lib.hid hb; clear hm hb)
  go_ret
  exact ⟨rfl, M1.out, BW.out.trans B1.out⟩
theorem sh_any (h : Mach w xb mb bb c eb V code s) (op imm : Int) (d a b : Nat) (hd : d < 32) (ha : a < 32) (hb : b < 32) (i1 : -1048576 ≤ imm) (i2 : imm ≤ 1048576) :
    Calls Tryz.prog 111 #[.pointer (some ⟨xb, 0, none⟩), .agg #[.int .i64 op, .int .i64 d, .int .i64 a, .int .i64 b, .int .i64 imm]] w (EffDone xb mb bb c eb V code w (stV s (w64 (s.r a + imm)) 2 (s.r b))) := by
  have hc : ∀ u, Mach u xb mb bb c eb V code s → Calls Tryz.prog 134 #[.pointer (some ⟨xb, 0, none⟩), .agg #[.int .i64 op, .int .i64 d, .int .i64 a, .int .i64 b, .int .i64 imm], .int .i64 2] u (EffDone xb mb bb c eb V code u (stV s (w64 (s.r a + imm)) 2 (s.r b))) := fun u hu => by
    by_cases he : numE s.xs.length (w64 (s.r a + imm)) 2 = 0
    · unfold stV; rw [if_pos he]; exact store_ok4 hu op imm d a b hd ha hb i1 i2 2 (by omega) he
    · unfold stV; rw [if_neg he]; exact store_bad4 hu op imm d a b hd ha hb i1 i2 2 (by omega) he
  generalize stV s (w64 (s.r a + imm)) 2 (s.r b) = R at hc ⊢
  have HC := Lib.hid hc
  clear hc
  have HW := Lib.hid (h.alloc (.cells #[.int .i64 op, .int .i64 d, .int .i64 a, .int .i64 b, .int .i64 imm] 76))
  have BW := Lib.hid ((But.refl (TwoBlocks xb bb) w).alloc (.cells #[.int .i64 op, .int .i64 d, .int .i64 a, .int .i64 b, .int .i64 imm] 76))
  obtain ⟨lt1, lt2, lt3, lt4⟩ := h.lt
  clear h
  go_enter Tryz.func111, Tryz.ntmps111
  go_wp2_with (go_at_call 134; (with_reducible refine (HC.out _ HW.out).mono ?_); rintro e w1 ⟨rfl, hm, hb⟩; have M1 := Lib.hid hm; have B1 := Lib.hid hb; clear hm hb)
  go_ret
  exact ⟨rfl, M1.out, BW.out.trans B1.out⟩
theorem sw_any (h : Mach w xb mb bb c eb V code s) (op imm : Int) (d a b : Nat) (hd : d < 32) (ha : a < 32) (hb : b < 32) (i1 : -1048576 ≤ imm) (i2 : imm ≤ 1048576) :
    Calls Tryz.prog 112 #[.pointer (some ⟨xb, 0, none⟩), .agg #[.int .i64 op, .int .i64 d, .int .i64 a, .int .i64 b, .int .i64 imm]] w (EffDone xb mb bb c eb V code w (stV s (w64 (s.r a + imm)) 4 (s.r b))) := by
  have hc : ∀ u, Mach u xb mb bb c eb V code s → Calls Tryz.prog 134 #[.pointer (some ⟨xb, 0, none⟩), .agg #[.int .i64 op, .int .i64 d, .int .i64 a, .int .i64 b, .int .i64 imm], .int .i64 4] u (EffDone xb mb bb c eb V code u (stV s (w64 (s.r a + imm)) 4 (s.r b))) := fun u hu => by
    by_cases he : numE s.xs.length (w64 (s.r a + imm)) 4 = 0
    · unfold stV; rw [if_pos he]; exact store_ok4 hu op imm d a b hd ha hb i1 i2 4 (by omega) he
    · unfold stV; rw [if_neg he]; exact store_bad4 hu op imm d a b hd ha hb i1 i2 4 (by omega) he
  generalize stV s (w64 (s.r a + imm)) 4 (s.r b) = R at hc ⊢
  have HC := Lib.hid hc
  clear hc
  have HW := Lib.hid (h.alloc (.cells #[.int .i64 op, .int .i64 d, .int .i64 a, .int .i64 b, .int .i64 imm] 76))
  have BW := Lib.hid ((But.refl (TwoBlocks xb bb) w).alloc (.cells #[.int .i64 op, .int .i64 d, .int .i64 a, .int .i64 b, .int .i64 imm] 76))
  obtain ⟨lt1, lt2, lt3, lt4⟩ := h.lt
  clear h
  go_enter Tryz.func112, Tryz.ntmps112
  go_wp2_with (go_at_call 134; (with_reducible refine (HC.out _ HW.out).mono ?_); rintro e w1 ⟨rfl, hm, hb⟩; have M1 := Lib.hid hm; have B1 := Lib.hid hb; clear hm hb)
  go_ret
  exact ⟨rfl, M1.out, BW.out.trans B1.out⟩
theorem sd_any (h : Mach w xb mb bb c eb V code s) (op imm : Int) (d a b : Nat) (hd : d < 32) (ha : a < 32) (hb : b < 32) (i1 : -1048576 ≤ imm) (i2 : imm ≤ 1048576) :
    Calls Tryz.prog 113 #[.pointer (some ⟨xb, 0, none⟩), .agg #[.int .i64 op, .int .i64 d, .int .i64 a, .int .i64 b, .int .i64 imm]] w (EffDone xb mb bb c eb V code w (stV s (w64 (s.r a + imm)) 8 (s.r b))) := by
  have hc : ∀ u, Mach u xb mb bb c eb V code s → Calls Tryz.prog 134 #[.pointer (some ⟨xb, 0, none⟩), .agg #[.int .i64 op, .int .i64 d, .int .i64 a, .int .i64 b, .int .i64 imm], .int .i64 8] u (EffDone xb mb bb c eb V code u (stV s (w64 (s.r a + imm)) 8 (s.r b))) := fun u hu => by
    by_cases he : numE s.xs.length (w64 (s.r a + imm)) 8 = 0
    · unfold stV; rw [if_pos he]; exact store_ok4 hu op imm d a b hd ha hb i1 i2 8 (by omega) he
    · unfold stV; rw [if_neg he]; exact store_bad4 hu op imm d a b hd ha hb i1 i2 8 (by omega) he
  generalize stV s (w64 (s.r a + imm)) 8 (s.r b) = R at hc ⊢
  have HC := Lib.hid hc
  clear hc
  have HW := Lib.hid (h.alloc (.cells #[.int .i64 op, .int .i64 d, .int .i64 a, .int .i64 b, .int .i64 imm] 76))
  have BW := Lib.hid ((But.refl (TwoBlocks xb bb) w).alloc (.cells #[.int .i64 op, .int .i64 d, .int .i64 a, .int .i64 b, .int .i64 imm] 76))
  obtain ⟨lt1, lt2, lt3, lt4⟩ := h.lt
  clear h
  go_enter Tryz.func113, Tryz.ntmps113
  go_wp2_with (go_at_call 134; (with_reducible refine (HC.out _ HW.out).mono ?_); rintro e w1 ⟨rfl, hm, hb⟩; have M1 := Lib.hid hm; have B1 := Lib.hid hb; clear hm hb)
  go_ret
  exact ⟨rfl, M1.out, BW.out.trans B1.out⟩
theorem ecall_any (h : Mach w xb mb bb c eb V code s) (op imm : Int) (d a b : Nat) (hd : d < 32) (ha : a < 32) (hb : b < 32) (i1 : -1048576 ≤ imm) (i2 : imm ≤ 1048576) :
    Calls Tryz.prog 114 #[.pointer (some ⟨xb, 0, none⟩), .agg #[.int .i64 op, .int .i64 d, .int .i64 a, .int .i64 b, .int .i64 imm]] w (EffDone xb mb bb c eb V code w (1, s)) := by
  have HW := Lib.hid (h.alloc (.cells #[.int .i64 op, .int .i64 d, .int .i64 a, .int .i64 b, .int .i64 imm] 76))
  have BW := Lib.hid ((But.refl (TwoBlocks xb bb) w).alloc (.cells #[.int .i64 op, .int .i64 d, .int .i64 a, .int .i64 b, .int .i64 imm] 76))
  obtain ⟨lt1, lt2, lt3, lt4⟩ := h.lt
  clear h
  go_enter Tryz.func114, Tryz.ntmps114
  go_wp2
  go_ret
  exact ⟨rfl, HW.out, BW.out⟩
end
end Go.Proofs.YtnaceogkaiodnaaGreat

