import Derived.Test.YtkfdgpgildanbaaGreatS41
import Derived.Test.YtkfdgpgildanbaaGreatS42
import Derived.Deep.QuietTactic
import Derived.BigQuiet
namespace Go.Proofs.YtkfdgpgildanbaaGreat
open Go.RowKit
set_option linter.unusedVariables false
structure Both (w : World) (mb bb c rm rb rc : Nat) (xs : List Int) : Prop where
  m : MemAt w mb bb c xs
  r : RefAt w rm rb rc xs
  ne : bb ≠ rb
theorem tail_bytes {mb bb c : Nat} {xs : List Int} {w : World} (h : MemAt w mb bb c xs) :
    Calls Tryz.prog 47 #[.pointer (some ⟨mb, 0, none⟩), .int .u64 16, .int .i64 ((xs.length : Int) - 16)] w (BytesDone w (partL xs 16 (xs.length - 16 : Nat)) 0) := by
  have hl := h.hi
  have hlo := h.lo
  have e : ((xs.length : Int) - 16) = ((xs.length - 16 : Nat) : Int) := by omega
  rw [e]
  have e2 : accE xs.length 16 (xs.length - 16 : Nat) = 0 := accE_ok (by omega) (by omega) (by omega) (by omega)
  have := bytes_any h 16 (xs.length - 16 : Nat) (by omega) (by omega) (by omega)
  unfold bytesL at this
  rw [if_pos e2, e2] at this
  exact this
theorem tail_is {mb bb c : Nat} {xs : List Int} {w : World} (h : RefAt w mb bb c xs) (cap : Nat) (hc : xs.length - 16 ≤ cap) : IsBytes w w.heap.size (.slice (some ⟨bb, 16, none⟩) (xs.length - 16) cap) (partL xs 16 (xs.length - 16 : Nat)) := by
  have hl := h.hi
  have hlo := h.lo
  have := h.row.bytes h.bd h.lt.2 (a := 16) (n := xs.length - 16) (cap := cap) (by omega) hc (by unfold maxLen; omega)
  rw [← partL_nat] at this
  exact this
set_option maxRecDepth 100000 in
set_option maxHeartbeats 4000000 in
theorem alike_any (mb bb c rm rb rc : Nat) (xs : List Int) (w : World) (h : Both w mb bb c rm rb rc xs) :
    Calls Tryz.prog 95 #[.pointer (some ⟨mb, 0, none⟩), .pointer (some ⟨rm, 0, none⟩)] w fun e w' => e = .returned (.bool true) ∧ Below w.heap.size w w' := by
  have hl := h.m.hi
  have hlo := h.m.lo
  have hcap := h.r.rowcap
  have h0 := h.r.cell0
  have HS := Lib.hid (fun n => size_yes (h.m.drewN n))
  have HBY := Lib.hid (fun n => tail_bytes (h.m.drewN n))
  have HH := Lib.hid h
  have hbdp := partL_bd h.m.bd 16 (xs.length - 16 : Nat)
  obtain ⟨P, hP⟩ : ∃ P, P = partL xs 16 (xs.length - 16 : Nat) := ⟨_, rfl⟩
  have HP := Lib.hid hP
  rw [← hP] at HBY hbdp
  have HBD := Lib.hid hbdp
  obtain ⟨Ln, hLn⟩ : ∃ Ln, Ln = xs.length := ⟨_, rfl⟩
  rw [← hLn] at hl hlo hcap h0 HS HBY
  have HL := Lib.hid hLn
  clear hP hbdp hLn h
  by_cases hend : 16 < rc
  · go_enter Tryz.func95, Tryz.ntmps95
    go_wp2_with fail
    go_quiet ((go_at_call 155; with_reducible exact quiet_left (HS.out _)))
    go_wp2_with (first
      | (go_at_call 47; (with_reducible refine (HBY.out _).mono ?_); rintro e w1 ⟨v1, rfl, ho1, hb1⟩; have B1 := Lib.hid hb1; have k1 := Lib.hid ((HH.out.r.drewN nq).below hb1); have g0 := k1.out.cell0; rw [← HL.out] at g0; have ti := tail_is k1.out (rc - 16) (by rw [← HL.out]; omega); rw [← HP.out, ← HL.out] at ti; have HSB := Lib.hid (sameBytes_yes v1 _ P w1 _ _ (IsBytes.of_owns ho1 HBD.out (Nat.le_refl _)) ti); clear ho1 hb1 ti)
      | (go_at_call 66; (with_reducible refine HSB.out.mono ?_); rintro e w' ⟨rfl, rfl⟩))
    go_ret
    exact ⟨rfl, (below_drewN (Below.refl _ _) nq).trans B1.out⟩
  · have e1 : rc = 16 := by omega
    have e2 : Ln = 16 := by omega
    have hp0 : P = [] := by
      rw [HP.out]
      have := HL.out
      exact List.eq_nil_of_length_eq_zero (by simp [partL]; omega)
    subst hp0
    have HHL := HL.out
    subst e1 e2
    have hs16 : ∀ n, Calls Tryz.prog 155 #[.pointer (some ⟨mb, 0, none⟩)] (w.drewN n) fun e w' => e = .returned (.int .i64 16) ∧ w.drewN n = w' := HS.out
    have hb16 : ∀ n, Calls Tryz.prog 47 #[.pointer (some ⟨mb, 0, none⟩), .int .u64 16, .int .i64 0] (w.drewN n) (BytesDone (w.drewN n) [] 0) := HBY.out
    have HS16 := Lib.hid hs16
    have HB16 := Lib.hid hb16
    have HHL2 := Lib.hid HHL
    clear hend hcap hlo hl hs16 hb16 HHL HS HBY HL
    go_enter Tryz.func95, Tryz.ntmps95
    go_wp2_with fail
    go_quiet ((go_at_call 155; with_reducible exact quiet_left (HS16.out _)))
    go_wp2_with (first
      | (go_at_call 47; (with_reducible refine (HB16.out _).mono ?_); rintro e w1 ⟨v1, rfl, ho1, hb1⟩; have B1 := Lib.hid hb1; have k1 := Lib.hid ((HH.out.r.drewN nq).below hb1); have g0 := k1.out.cell0; rw [← HHL2.out] at g0; have HSB := Lib.hid (sameBytes_yes v1 _ [] w1 _ _ (IsBytes.of_owns ho1 (by simp) (Nat.le_refl _)) (IsBytes.empty w1 w1.heap.size ⟨rb, 0, none⟩ 0)); clear ho1 hb1)
      | (go_at_call 66; (with_reducible refine HSB.out.mono ?_); rintro e w' ⟨rfl, rfl⟩))
    go_ret
    exact ⟨rfl, (below_drewN (Below.refl _ _) nq).trans B1.out⟩
end Go.Proofs.YtkfdgpgildanbaaGreat
