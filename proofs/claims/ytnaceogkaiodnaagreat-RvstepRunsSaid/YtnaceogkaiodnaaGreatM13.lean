/- What Step of package rvstep returns and leaves: what a step of the machine is; contracts for any machine, in whatever memory of the program. -/
import Derived.Test.YtnaceogkaiodnaaGreatM11
import Derived.Test.YtnaceogkaiodnaaGreatM12
import Derived.Test.YtnaceogkaiodnaaGreatM6
import Derived.Test.YtnaceogkaiodnaaGreatM9
import Derived.Maps.AppendAt
import Derived.Test.YtnaceogkaiodnaaGreatM10
import Derived.Test.YtnaceogkaiodnaaGreatM5
import Derived.Test.YtnaceogkaiodnaaGreatM2
namespace Go.Proofs.YtnaceogkaiodnaaGreat
open Go.RowKit
set_option linter.unusedVariables false
set_option linter.unusedSimpArgs false

section
variable {w w' : World} {xb mb bb c eb : Nat} {V : Value} {code : List Int} {s : MSt}
theorem effF_cases (op : Int) : effF op = 93 ∨ effF op = 94 ∨ effF op = 95 ∨ effF op = 96 ∨ effF op = 97 ∨ effF op = 98 ∨ effF op = 99 ∨ effF op = 100 ∨ effF op = 101 ∨ effF op = 102 ∨ effF op = 103 ∨ effF op = 104 ∨ effF op = 105 ∨ effF op = 106 ∨ effF op = 107 ∨ effF op = 108 ∨ effF op = 109 ∨ effF op = 110 ∨ effF op = 111 ∨ effF op = 112 ∨ effF op = 113 ∨ effF op = 114 ∨ effF op = 115 ∨ effF op = 116 := by
  rcases (by omega : op = 1 ∨ op = 2 ∨ op = 3 ∨ op = 4 ∨ op = 5 ∨ op = 6 ∨ op = 7 ∨ op = 8 ∨ op = 9 ∨ op = 10 ∨ op = 11 ∨ op = 12 ∨ op = 13 ∨ op = 14 ∨ op = 15 ∨ op = 16 ∨ op = 17 ∨ op = 18 ∨ op = 19 ∨ op = 20 ∨ op = 21 ∨ op = 63 ∨ ((op ≠ 1 ∧ op ≠ 2 ∧ op ≠ 3 ∧ op ≠ 4 ∧ op ≠ 5 ∧ op ≠ 6 ∧ op ≠ 7 ∧ op ≠ 8 ∧ op ≠ 9 ∧ op ≠ 10 ∧ op ≠ 11 ∧ op ≠ 12 ∧ op ≠ 13 ∧ op ≠ 14 ∧ op ≠ 15 ∧ op ≠ 16 ∧ op ≠ 17 ∧ op ≠ 18 ∧ op ≠ 19 ∧ op ≠ 20 ∧ op ≠ 21 ∧ op ≠ 63))) with rfl | rfl | rfl | rfl | rfl | rfl | rfl | rfl | rfl | rfl | rfl | rfl | rfl | rfl | rfl | rfl | rfl | rfl | rfl | rfl | rfl | rfl | h
  all_goals try decide
  obtain ⟨h1, h2, h3, h4, h5, h6, h7, h8, h9, h10, h11, h12, h13, h14, h15, h16, h17, h18, h19, h20, h21, h22⟩ := h
  have e : effF op = 115 ∨ effF op = 116 := by
    by_cases h : op ≤ 34
    · left; unfold effF; simp only [h1, h2, h3, h4, h5, h6, h7, h8, h9, h10, h11, h12, h13, h14, h15, h16, h17, h18, h19, h20, h21, h22, h, if_true, if_false]
    · right; unfold effF; simp only [h1, h2, h3, h4, h5, h6, h7, h8, h9, h10, h11, h12, h13, h14, h15, h16, h17, h18, h19, h20, h21, h22, h, if_true, if_false]
  rcases e with e | e <;> simp [e]
theorem step_some {cb cap j : Nat} {y : RvV} (h : Mach w xb mb bb c eb (.slice (some ⟨cb, 0, none⟩) code.length cap) code s) (hy : y.ok)
    (hf : Calls Tryz.prog 37 #[.pointer (some ⟨xb, 0, none⟩)] w (FetchDone xb mb bb c eb cb cap j code s y w)) :
    Calls Tryz.prog 13 #[.pointer (some ⟨xb, 0, none⟩)] w (StepDone xb mb bb c eb (.slice (some ⟨cb, 0, none⟩) code.length cap) code w (execV y s)) := by
  have he := fun u (hu : Mach u xb mb bb c eb (.slice (some ⟨cb, 0, none⟩) code.length cap) code s) => eff_any hu hy
  rcases effF_cases y.op with hk | hk | hk | hk | hk | hk | hk | hk | hk | hk | hk | hk | hk | hk | hk | hk | hk | hk | hk | hk | hk | hk | hk | hk
  · rw [hk] at he; exact step_lui h hk hf he
  · rw [hk] at he; exact step_auipc h hk hf he
  · rw [hk] at he; exact step_jal h hk hf he
  · rw [hk] at he; exact step_jalr h hk hf he
  · rw [hk] at he; exact step_beq h hk hf he
  · rw [hk] at he; exact step_bne h hk hf he
  · rw [hk] at he; exact step_blt h hk hf he
  · rw [hk] at he; exact step_bge h hk hf he
  · rw [hk] at he; exact step_bltu h hk hf he
  · rw [hk] at he; exact step_bgeu h hk hf he
  · rw [hk] at he; exact step_lb h hk hf he
  · rw [hk] at he; exact step_lh h hk hf he
  · rw [hk] at he; exact step_lw h hk hf he
  · rw [hk] at he; exact step_ld h hk hf he
  · rw [hk] at he; exact step_lbu h hk hf he
  · rw [hk] at he; exact step_lhu h hk hf he
  · rw [hk] at he; exact step_lwu h hk hf he
  · rw [hk] at he; exact step_sb h hk hf he
  · rw [hk] at he; exact step_sh h hk hf he
  · rw [hk] at he; exact step_sw h hk hf he
  · rw [hk] at he; exact step_sd h hk hf he
  · rw [hk] at he; exact step_ecall h hk hf he
  · rw [hk] at he; exact step_withImmediate h hk hf he
  · rw [hk] at he; exact step_withRegister h hk hf he
/-- A step of the machine is what it should be. -/
theorem step_any (h : Mach w xb mb bb c eb V code s) : Calls Tryz.prog 13 #[.pointer (some ⟨xb, 0, none⟩)] w (StepDone xb mb bb c eb V code w (stepV code s)) := by
  unfold stepV
  by_cases h1 : s.pc % 4 = 0
  · rw [if_neg (by simpa using h1)]
    by_cases h2 : s.pc < 4294967296 ∨ (code.length : Int) ≤ (s.pc - 4294967296) / 4
    · rw [if_pos h2]
      exact step_none h (by decide) fun u hu => (fetch_out hu h1 h2).mono fun e w' hh => ⟨hh.1, hh.2 ▸ Below.refl _ _⟩
    · rw [if_neg h2]
      obtain ⟨j, hj⟩ : ∃ j : Nat, (s.pc - 4294967296) / 4 = j := nat_of (by omega)
      have hj1 : j < code.length := by omega
      have hp : s.pc = 4294967296 + 4 * (j : Int) := by omega
      have hj2 : ((s.pc - 4294967296) / 4).toNat = j := by omega
      rw [hj2]
      rcases h.iscode with h' | ⟨cb, cap, cur, rfl, q1, q2⟩
      · have := h'.1
        rw [this] at hj1
        simp at hj1
      · by_cases hy : ∃ y, IsWord y (code.getD j 0)
        · obtain ⟨y, hy⟩ := hy
          rw [decV_some hy]
          rcases q2.rest j hj1 with h0 | ⟨z, hz, z1, z2, z3, z4, z5, z6⟩
          · exact step_some h hy.1 (fetch_new h hj1 hp hy ((cell_of_row w cb _ _ _ _ q1).trans h0))
          · obtain rfl := isWord_one hz hy
            exact step_some h hy.1 (fetch_old h hj1 hp ⟨(cell_of_row w cb _ _ _ _ q1).trans z1, (cell_of_row w cb _ _ _ _ q1).trans z2, (cell_of_row w cb _ _ _ _ q1).trans z3, (cell_of_row w cb _ _ _ _ q1).trans z4, (cell_of_row w cb _ _ _ _ q1).trans z5, (cell_of_row w cb _ _ _ _ q1).trans z6⟩)
        · have hn : ∀ y, ¬ IsWord y (code.getD j 0) := fun y hh => hy ⟨y, hh⟩
          rw [decV_none hn]
          exact step_none h (by decide) fun u hu => fetch_ill hu hj1 hp hn
  · rw [if_pos h1]
    exact step_none h (by decide) fun u hu => (fetch_odd hu h1).mono fun e w' hh => ⟨hh.1, hh.2 ▸ Below.refl _ _⟩
end
end Go.Proofs.YtnaceogkaiodnaaGreat

namespace Go.Proofs.YtnaceogkaiodnaaGreat
open Go.RowKit
set_option linter.unusedVariables false

section
variable {w w' : World} {xb mb bb c eb : Nat} {V : Value} {code : List Int} {s : MSt}
theorem isReg_any (n : Int) (w : World) : Calls Tryz.prog 46 #[.int .i64 n] w fun e w' => e = .returned (.bool (decide (0 ≤ n) && decide (n < 32))) ∧ w = w' := by
  by_cases h : 0 ≤ n
  · rw [decide_eq_true h, Bool.true_and]
    go_enter Tryz.func46, Tryz.ntmps46
    go_wp2
    go_ret
    exact ⟨rfl, rfl⟩
  · rw [decide_eq_false h, Bool.false_and]
    go_enter Tryz.func46, Tryz.ntmps46
    go_wp2
    go_ret
    exact ⟨rfl, rfl⟩
/-- What a register has; none has 0. -/
def regV (s : MSt) (n : Int) : Int := if 0 ≤ n ∧ n < 32 then s.r n.toNat else 0
theorem reg_any (h : Mach w xb mb bb c eb V code s) (n : Int) : Calls Tryz.prog 21 #[.pointer (some ⟨xb, 0, none⟩), .int .i64 n] w fun e w' => e = .returned (.int .u64 (regV s n)) ∧ w = w' := by
  have HV := Lib.hid (mvalid_yes h)
  have hi := isReg_any n
  by_cases hn : 0 ≤ n ∧ n < 32
  · unfold regV
    rw [if_pos hn]
    obtain ⟨k, rfl⟩ := nat_of hn.1
    have hk : k < 32 := by omega
    have c1 := h.reg hk
    have e : (decide (0 ≤ (k : Int)) && decide ((k : Int) < 32)) = true := by rw [decide_eq_true hn.1, decide_eq_true hn.2]; rfl
    rw [e] at hi
    have HI := Lib.hid hi
    have hk2 : (k : Int) < 32 := by omega
    clear h hn e hi
    go_enter Tryz.func21, Tryz.ntmps21
    go_wp2_with (first
      | (go_at_call 36; (with_reducible refine HV.out.mono ?_); rintro e w' ⟨rfl, rfl⟩)
      | (go_at_call 46; (with_reducible refine (HI.out _).mono ?_); rintro e w' ⟨rfl, rfl⟩))
    go_ret
    exact ⟨rfl, rfl⟩
  · unfold regV
    rw [if_neg hn]
    have e : (decide (0 ≤ n) && decide (n < 32)) = false := by
      by_cases h0 : 0 ≤ n
      · rw [decide_eq_false (show ¬ n < 32 by omega), Bool.and_false]
      · rw [decide_eq_false h0, Bool.false_and]
    rw [e] at hi
    have HI := Lib.hid hi
    clear h hn e hi
    go_enter Tryz.func21, Tryz.ntmps21
    go_wp2_with (first
      | (go_at_call 36; (with_reducible refine HV.out.mono ?_); rintro e w' ⟨rfl, rfl⟩)
      | (go_at_call 46; (with_reducible refine (HI.out _).mono ?_); rintro e w' ⟨rfl, rfl⟩))
    go_ret
    exact ⟨rfl, rfl⟩
theorem place_any (h : Mach w xb mb bb c eb V code s) : Calls Tryz.prog 24 #[.pointer (some ⟨xb, 0, none⟩)] w fun e w' => e = .returned (.int .u64 s.pc) ∧ w = w' := by
  have HV := Lib.hid (mvalid_yes h)
  have c1 := h.pc
  clear h
  go_enter Tryz.func24, Tryz.ntmps24
  go_wp2_with (go_at_call 36; (with_reducible refine HV.out.mono ?_); rintro e w' ⟨rfl, rfl⟩)
  go_ret
  exact ⟨rfl, rfl⟩
theorem jump_any (h : Mach w xb mb bb c eb V code s) (p : Int) (hp : InW p) : Calls Tryz.prog 19 #[.pointer (some ⟨xb, 0, none⟩), .int .u64 p] w (StepDone xb mb bb c eb V code w (0, s.at' p)) := by
  have HV := Lib.hid (mvalid_yes h)
  have HM := Lib.hid h
  have HP := Lib.hid hp
  have c1 := h.pc
  have f1 := h.free 33
  clear h hp
  go_enter Tryz.func19, Tryz.ntmps19
  go_wp2_with (go_at_call 36; (with_reducible refine HV.out.mono ?_); rintro e w' ⟨rfl, rfl⟩)
  go_ret
  exact ⟨rfl, HM.out.setPc HP.out, (But.refl _ w).setCell (p := ⟨xb, 33, none⟩) (.inl (.inl rfl)) _⟩
/-- What Set leaves, and what it answers. -/
def setV (s : MSt) (n v : Int) : Int × MSt := if 0 ≤ n ∧ n < 32 then (0, s.set n v) else (2, s)
theorem set_any (h : Mach w xb mb bb c eb V code s) (n v : Int) (hv : InW v) : Calls Tryz.prog 17 #[.pointer (some ⟨xb, 0, none⟩), .int .i64 n, .int .u64 v] w (StepDone xb mb bb c eb V code w (setV s n v)) := by
  have HV := Lib.hid (mvalid_yes h)
  have hi := isReg_any n
  have HM := Lib.hid h
  by_cases hn : 0 ≤ n ∧ n < 32
  · unfold setV
    rw [if_pos hn]
    obtain ⟨k, rfl⟩ := nat_of hn.1
    have hk : k < 32 := by omega
    have HW := Lib.hid (write_any h k hk v hv)
    have e : (decide (0 ≤ (k : Int)) && decide ((k : Int) < 32)) = true := by rw [decide_eq_true hn.1, decide_eq_true hn.2]; rfl
    rw [e] at hi
    have HI := Lib.hid hi
    clear h hn e hi
    go_enter Tryz.func17, Tryz.ntmps17
    go_wp2_with (first
      | (go_at_call 36; (with_reducible refine HV.out.mono ?_); rintro e w' ⟨rfl, rfl⟩)
      | (go_at_call 46; (with_reducible refine (HI.out _).mono ?_); rintro e w' ⟨rfl, rfl⟩)
      | (go_at_call 47; (with_reducible refine HW.out.mono ?_); rintro e w1 ⟨rfl, hm, hb⟩; have M1 := Lib.hid hm; have B1 := Lib.hid hb; clear hm hb))
    go_ret
    exact ⟨rfl, M1.out, B1.out.mono fun k hk => .inl hk⟩
  · unfold setV
    rw [if_neg hn]
    have e : (decide (0 ≤ n) && decide (n < 32)) = false := by
      by_cases h0 : 0 ≤ n
      · rw [decide_eq_false (show ¬ n < 32 by omega), Bool.and_false]
      · rw [decide_eq_false h0, Bool.false_and]
    rw [e] at hi
    have HI := Lib.hid hi
    clear h hn e hi
    go_enter Tryz.func17, Tryz.ntmps17
    go_wp2_with (first
      | (go_at_call 36; (with_reducible refine HV.out.mono ?_); rintro e w' ⟨rfl, rfl⟩)
      | (go_at_call 46; (with_reducible refine (HI.out _).mono ?_); rintro e w' ⟨rfl, rfl⟩))
    go_ret
    exact ⟨rfl, HM.out, But.refl _ _⟩
/-- What a run leaves. -/
def RunDone (xb mb bb c eb : Nat) (V : Value) (code : List Int) (w : World) (r : Int × Nat × MSt) (e : Ending) (w' : World) : Prop :=
  e = .returned (.tuple #[.int .i64 r.1, .int .i64 r.2.1]) ∧ Mach w' xb mb bb c eb V code r.2.2 ∧ But (fun k => k = xb ∨ k = bb ∨ CodeIn V k) w w'
set_option maxRecDepth 100000 in
set_option maxHeartbeats 4000000 in
theorem run_any (h : Mach w xb mb bb c eb V code s) (most : Int) (n : Nat) (hn : most = n ∨ most ≤ 0 ∧ n = 0) (hb : n ≤ 1000000) (hl : -9223372036854775808 ≤ most) :
    Calls Tryz.prog 15 #[.pointer (some ⟨xb, 0, none⟩), .int .i64 most] w (RunDone xb mb bb c eb V code w (runV code n s)) := by
  have HM := Lib.hid h
  have hmax : max most 0 = (n : Int) := by omega
  obtain ⟨R0, hR0⟩ : ∃ R0, R0 = runV code n s := ⟨_, rfl⟩
  rw [← hR0]
  have HR0 := Lib.hid hR0
  clear hR0
  go_enter Tryz.func15, Tryz.ntmps15
  go_wp2_with fail
  go_loopw [9] (fun i wr => ∃ k : Nat, k ≤ n ∧ i = .int .i64 k ∧ Hid (RanV code k s ∧ Mach wr xb mb bb c eb V code (itV code k s) ∧ But (fun k => k = xb ∨ k = bb ∨ CodeIn V k) w wr)) (fun i _ => n - (intOf i).toNat)
  case atStart => exact ⟨0, by omega, rfl, ⟨fun k hk => by omega, HM.out, But.refl _ _⟩⟩
  case round =>
    obtain ⟨k, hk, rfl, hq⟩ := hrel
    by_cases hlt : k < n
    · have hc : (k : Int) < most := by omega
      have hst := step_any hq.out.2.1
      by_cases he : (stepV code (itV code k s)).1 = 0
      · have hra : RanV code (k + 1) s := fun q hq' => by
          by_cases e : q = k
          · rw [e]; exact he
          · exact hq.out.1 q (by omega)
        have HRA := Lib.hid hra
        have hit := it_one code k s
        generalize stepV code (itV code k s) = R at hst he hit
        obtain ⟨E, s2⟩ := R
        obtain rfl : E = 0 := he
        have HST := Lib.hid hst
        have HIT := Lib.hid hit
        clear hst hra hit h hn hmax
        go_wp2_with (go_at_call 13; (with_reducible refine HST.out.mono ?_); rintro e w2 ⟨rfl, hm, hb2⟩; have M2 := Lib.hid hm; have B2 := Lib.hid hb2; clear hm hb2)
        go_roundw
        case rel => exact ⟨k + 1, by omega, by go_num, ⟨HRA.out, by rw [HIT.out]; exact M2.out, hq.out.2.2.trans B2.out⟩⟩
        case measure => simp [intOf]; omega
      · have hend : runV code n s = ((stepV code (itV code k s)).1, k, itV code k s) := by
          obtain ⟨q, rfl⟩ : ∃ q, n = k + (q + 1) := ⟨n - k - 1, by omega⟩
          exact run_ends hq.out.1 he
        have HR1 := Lib.hid (HR0.out.trans hend)
        have hsy := step_stays code _ he
        generalize stepV code (itV code k s) = R at hst he hsy HR1
        obtain ⟨E, s2⟩ := R
        simp only at he hsy
        subst hsy
        have e1 : (E != 0) = true := by simpa using he
        have e2 : (E == 0) = false := by simpa using he
        have HST := Lib.hid hst
        clear hst he h hn hmax hend
        go_wp2_with (go_at_call 13; (with_reducible refine HST.out.mono ?_); rintro e w2 ⟨rfl, hm, hb2⟩; have M2 := Lib.hid hm; have B2 := Lib.hid hb2; clear hm hb2)
        go_ret2
        rw [HR1.out]
        exact ⟨rfl, M2.out, hq.out.2.2.trans B2.out⟩
    · obtain rfl : k = n := by omega
      have hc : ¬ (k : Int) < most := by omega
      have HR1 := Lib.hid (HR0.out.trans (run_all hq.out.1))
      have HN := Lib.hid hn
      clear h hn
      go_wp2
      all_goals
        go_ret2
        rw [HR1.out]
        have hn := HN.out
        exact ⟨ret_int2 rfl (by show _ = ((k : Nat) : Int); omega), hq.out.2.1, hq.out.2.2⟩
end
end Go.Proofs.YtnaceogkaiodnaaGreat

namespace Go.Proofs.YtnaceogkaiodnaaGreat
open Go.RowKit
open Go.Maps (Keyed)
set_option linter.unusedVariables false

/-- An entry of a map's literal, at the operation. -/
theorem wpList_insert_own {H : Type} {P : Program} (w : World) {ops : Array Oper} {rest : List Oper} {o : Oper} {a : Act} {Q : Exit → Act → World → Prop}
    (hg : o.guard = none) (m x v : Operand) (t : TypeId) (hop : o.op = Op.insert t m x v)
    (k e : TypeId) (K : Keyed P k) (ht : P.underlying t = some (.map k e)) (R : Value → Option (DataW H × List MemPlace)) (b n : Nat) (D : DataW H)
    (hm : a.eval m = .map (some b)) (hown : w.ownsMap P k R b n D) (hn : n < maxLen) (key val : Value) (kl : Lit) (hx : a.eval x = key) (hv : a.eval v = val) (hkey : keyOf P k key = some kl)
    (d : DataW H) (ps : List MemPlace) (hval : R val = some (d, ps))
    (hK : ∀ w', w'.ownsMap P k R b (n + 1) (D.put kl d) → w.grownBy w' (some b) → wpList P ops Q rest (a.put o.dst undef) w') :
    wpList P ops Q (o :: rest) a w := by
  refine wpList_plain hg fun K' hK' => ?_
  obtain ⟨w', hrun, r1, r2⟩ := hown.update K ht hn hkey hval
  unfold Oper.wp
  simp [execOp, hop, hm, hx, hv, hrun, Result.andThen]
  exact hK' _ _ (hK w' r1 r2)
theorem key_1 : keyOf Tryz.prog 3 (.int .i64 1) = some (.int .i64 1) := Maps.keyOf_int_mk Tryz.underlying3 (wf_small (by decide) (by decide))
theorem key_2 : keyOf Tryz.prog 3 (.int .i64 2) = some (.int .i64 2) := Maps.keyOf_int_mk Tryz.underlying3 (wf_small (by decide) (by decide))
theorem key_3 : keyOf Tryz.prog 3 (.int .i64 3) = some (.int .i64 3) := Maps.keyOf_int_mk Tryz.underlying3 (wf_small (by decide) (by decide))
theorem key_4 : keyOf Tryz.prog 3 (.int .i64 4) = some (.int .i64 4) := Maps.keyOf_int_mk Tryz.underlying3 (wf_small (by decide) (by decide))
theorem key_5 : keyOf Tryz.prog 3 (.int .i64 5) = some (.int .i64 5) := Maps.keyOf_int_mk Tryz.underlying3 (wf_small (by decide) (by decide))
theorem key_6 : keyOf Tryz.prog 3 (.int .i64 6) = some (.int .i64 6) := Maps.keyOf_int_mk Tryz.underlying3 (wf_small (by decide) (by decide))
theorem key_7 : keyOf Tryz.prog 3 (.int .i64 7) = some (.int .i64 7) := Maps.keyOf_int_mk Tryz.underlying3 (wf_small (by decide) (by decide))
theorem key_8 : keyOf Tryz.prog 3 (.int .i64 8) = some (.int .i64 8) := Maps.keyOf_int_mk Tryz.underlying3 (wf_small (by decide) (by decide))
theorem key_9 : keyOf Tryz.prog 3 (.int .i64 9) = some (.int .i64 9) := Maps.keyOf_int_mk Tryz.underlying3 (wf_small (by decide) (by decide))
theorem key_10 : keyOf Tryz.prog 3 (.int .i64 10) = some (.int .i64 10) := Maps.keyOf_int_mk Tryz.underlying3 (wf_small (by decide) (by decide))
theorem key_11 : keyOf Tryz.prog 3 (.int .i64 11) = some (.int .i64 11) := Maps.keyOf_int_mk Tryz.underlying3 (wf_small (by decide) (by decide))
theorem key_12 : keyOf Tryz.prog 3 (.int .i64 12) = some (.int .i64 12) := Maps.keyOf_int_mk Tryz.underlying3 (wf_small (by decide) (by decide))
theorem key_13 : keyOf Tryz.prog 3 (.int .i64 13) = some (.int .i64 13) := Maps.keyOf_int_mk Tryz.underlying3 (wf_small (by decide) (by decide))
theorem key_14 : keyOf Tryz.prog 3 (.int .i64 14) = some (.int .i64 14) := Maps.keyOf_int_mk Tryz.underlying3 (wf_small (by decide) (by decide))
theorem key_15 : keyOf Tryz.prog 3 (.int .i64 15) = some (.int .i64 15) := Maps.keyOf_int_mk Tryz.underlying3 (wf_small (by decide) (by decide))
theorem key_16 : keyOf Tryz.prog 3 (.int .i64 16) = some (.int .i64 16) := Maps.keyOf_int_mk Tryz.underlying3 (wf_small (by decide) (by decide))
theorem key_17 : keyOf Tryz.prog 3 (.int .i64 17) = some (.int .i64 17) := Maps.keyOf_int_mk Tryz.underlying3 (wf_small (by decide) (by decide))
theorem key_18 : keyOf Tryz.prog 3 (.int .i64 18) = some (.int .i64 18) := Maps.keyOf_int_mk Tryz.underlying3 (wf_small (by decide) (by decide))
theorem key_19 : keyOf Tryz.prog 3 (.int .i64 19) = some (.int .i64 19) := Maps.keyOf_int_mk Tryz.underlying3 (wf_small (by decide) (by decide))
theorem key_20 : keyOf Tryz.prog 3 (.int .i64 20) = some (.int .i64 20) := Maps.keyOf_int_mk Tryz.underlying3 (wf_small (by decide) (by decide))
theorem key_21 : keyOf Tryz.prog 3 (.int .i64 21) = some (.int .i64 21) := Maps.keyOf_int_mk Tryz.underlying3 (wf_small (by decide) (by decide))
theorem key_63 : keyOf Tryz.prog 3 (.int .i64 63) = some (.int .i64 63) := Maps.keyOf_int_mk Tryz.underlying3 (wf_small (by decide) (by decide))
theorem effD1_zero : effD1 0 = effBase.foldl fnPut (.map []) := by unfold effD1; simp [someFrom]
def EffMade (w : World) (e : Ending) (w' : World) : Prop := e = .returned (.map (some w.heap.size)) ∧ EffAt w' w.heap.size ∧ Below w.heap.size w w'
set_option maxRecDepth 100000 in
set_option maxHeartbeats 4000000 in
theorem effects_any (w : World) : Calls Tryz.prog 76 #[] w (EffMade w) := by
  have m0 := World.ownsMap_made w Tryz.prog 3 fnElem
  go_enter Tryz.func76, Tryz.ntmps76
  refine wp_seq ?_
  refine wp_region_lit ?_
  refine plain_list _ _ _ _ _ (by kernel_rfl : plainRun Tryz.prog _ _ _ = some ({ tmps := #[.map none, undef, undef, undef, undef, undef, undef, undef, undef, undef, undef, undef, undef, undef, undef, undef, undef, undef, undef], defers := [] }, w)) ?_
  refine wp_seq ?_
  refine wp_region_lit ?_
  refine plain_take 1 _ _ _ _ _ (by kernel_rfl : plainRun Tryz.prog _ _ _ = some ({ tmps := #[.map none, undef, undef, undef, .map (some w.heap.size), undef, undef, undef, undef, undef, undef, undef, undef, undef, undef, undef, undef, undef, undef], defers := [] }, w.alloc (.map #[] 0))) ?_
  simp only [List.drop_succ_cons, List.drop_zero]
  refine wpList_insert_own _ rfl (.tmp 4) (.const (.int .i64 1)) (.func 93) 92 rfl 3 78 (Maps.int_keyed Tryz.underlying3) Tryz.underlying92 fnElem w.heap.size 0 _ rfl m0 (by decide) (.int .i64 1) (.func (.func 93) #[] #[]) (.int .i64 1) rfl rfl (key_1) _ [] (fnElem_mk 93) ?_
  intro w1 m1 g1
  refine wpList_insert_own _ rfl (.tmp 4) (.const (.int .i64 2)) (.func 94) 92 rfl 3 78 (Maps.int_keyed Tryz.underlying3) Tryz.underlying92 fnElem w.heap.size 1 _ rfl m1 (by decide) (.int .i64 2) (.func (.func 94) #[] #[]) (.int .i64 2) rfl rfl (key_2) _ [] (fnElem_mk 94) ?_
  intro w2 m2 g2
  refine wpList_insert_own _ rfl (.tmp 4) (.const (.int .i64 3)) (.func 95) 92 rfl 3 78 (Maps.int_keyed Tryz.underlying3) Tryz.underlying92 fnElem w.heap.size 2 _ rfl m2 (by decide) (.int .i64 3) (.func (.func 95) #[] #[]) (.int .i64 3) rfl rfl (key_3) _ [] (fnElem_mk 95) ?_
  intro w3 m3 g3
  refine wpList_insert_own _ rfl (.tmp 4) (.const (.int .i64 4)) (.func 96) 92 rfl 3 78 (Maps.int_keyed Tryz.underlying3) Tryz.underlying92 fnElem w.heap.size 3 _ rfl m3 (by decide) (.int .i64 4) (.func (.func 96) #[] #[]) (.int .i64 4) rfl rfl (key_4) _ [] (fnElem_mk 96) ?_
  intro w4 m4 g4
  refine wpList_insert_own _ rfl (.tmp 4) (.const (.int .i64 5)) (.func 97) 92 rfl 3 78 (Maps.int_keyed Tryz.underlying3) Tryz.underlying92 fnElem w.heap.size 4 _ rfl m4 (by decide) (.int .i64 5) (.func (.func 97) #[] #[]) (.int .i64 5) rfl rfl (key_5) _ [] (fnElem_mk 97) ?_
  intro w5 m5 g5
  refine wpList_insert_own _ rfl (.tmp 4) (.const (.int .i64 6)) (.func 98) 92 rfl 3 78 (Maps.int_keyed Tryz.underlying3) Tryz.underlying92 fnElem w.heap.size 5 _ rfl m5 (by decide) (.int .i64 6) (.func (.func 98) #[] #[]) (.int .i64 6) rfl rfl (key_6) _ [] (fnElem_mk 98) ?_
  intro w6 m6 g6
  refine wpList_insert_own _ rfl (.tmp 4) (.const (.int .i64 7)) (.func 99) 92 rfl 3 78 (Maps.int_keyed Tryz.underlying3) Tryz.underlying92 fnElem w.heap.size 6 _ rfl m6 (by decide) (.int .i64 7) (.func (.func 99) #[] #[]) (.int .i64 7) rfl rfl (key_7) _ [] (fnElem_mk 99) ?_
  intro w7 m7 g7
  refine wpList_insert_own _ rfl (.tmp 4) (.const (.int .i64 8)) (.func 100) 92 rfl 3 78 (Maps.int_keyed Tryz.underlying3) Tryz.underlying92 fnElem w.heap.size 7 _ rfl m7 (by decide) (.int .i64 8) (.func (.func 100) #[] #[]) (.int .i64 8) rfl rfl (key_8) _ [] (fnElem_mk 100) ?_
  intro w8 m8 g8
  refine wpList_insert_own _ rfl (.tmp 4) (.const (.int .i64 9)) (.func 101) 92 rfl 3 78 (Maps.int_keyed Tryz.underlying3) Tryz.underlying92 fnElem w.heap.size 8 _ rfl m8 (by decide) (.int .i64 9) (.func (.func 101) #[] #[]) (.int .i64 9) rfl rfl (key_9) _ [] (fnElem_mk 101) ?_
  intro w9 m9 g9
  refine wpList_insert_own _ rfl (.tmp 4) (.const (.int .i64 10)) (.func 102) 92 rfl 3 78 (Maps.int_keyed Tryz.underlying3) Tryz.underlying92 fnElem w.heap.size 9 _ rfl m9 (by decide) (.int .i64 10) (.func (.func 102) #[] #[]) (.int .i64 10) rfl rfl (key_10) _ [] (fnElem_mk 102) ?_
  intro w10 m10 g10
  refine wpList_insert_own _ rfl (.tmp 4) (.const (.int .i64 11)) (.func 103) 92 rfl 3 78 (Maps.int_keyed Tryz.underlying3) Tryz.underlying92 fnElem w.heap.size 10 _ rfl m10 (by decide) (.int .i64 11) (.func (.func 103) #[] #[]) (.int .i64 11) rfl rfl (key_11) _ [] (fnElem_mk 103) ?_
  intro w11 m11 g11
  refine wpList_insert_own _ rfl (.tmp 4) (.const (.int .i64 12)) (.func 104) 92 rfl 3 78 (Maps.int_keyed Tryz.underlying3) Tryz.underlying92 fnElem w.heap.size 11 _ rfl m11 (by decide) (.int .i64 12) (.func (.func 104) #[] #[]) (.int .i64 12) rfl rfl (key_12) _ [] (fnElem_mk 104) ?_
  intro w12 m12 g12
  refine wpList_insert_own _ rfl (.tmp 4) (.const (.int .i64 13)) (.func 105) 92 rfl 3 78 (Maps.int_keyed Tryz.underlying3) Tryz.underlying92 fnElem w.heap.size 12 _ rfl m12 (by decide) (.int .i64 13) (.func (.func 105) #[] #[]) (.int .i64 13) rfl rfl (key_13) _ [] (fnElem_mk 105) ?_
  intro w13 m13 g13
  refine wpList_insert_own _ rfl (.tmp 4) (.const (.int .i64 14)) (.func 106) 92 rfl 3 78 (Maps.int_keyed Tryz.underlying3) Tryz.underlying92 fnElem w.heap.size 13 _ rfl m13 (by decide) (.int .i64 14) (.func (.func 106) #[] #[]) (.int .i64 14) rfl rfl (key_14) _ [] (fnElem_mk 106) ?_
  intro w14 m14 g14
  refine wpList_insert_own _ rfl (.tmp 4) (.const (.int .i64 15)) (.func 107) 92 rfl 3 78 (Maps.int_keyed Tryz.underlying3) Tryz.underlying92 fnElem w.heap.size 14 _ rfl m14 (by decide) (.int .i64 15) (.func (.func 107) #[] #[]) (.int .i64 15) rfl rfl (key_15) _ [] (fnElem_mk 107) ?_
  intro w15 m15 g15
  refine wpList_insert_own _ rfl (.tmp 4) (.const (.int .i64 16)) (.func 108) 92 rfl 3 78 (Maps.int_keyed Tryz.underlying3) Tryz.underlying92 fnElem w.heap.size 15 _ rfl m15 (by decide) (.int .i64 16) (.func (.func 108) #[] #[]) (.int .i64 16) rfl rfl (key_16) _ [] (fnElem_mk 108) ?_
  intro w16 m16 g16
  refine wpList_insert_own _ rfl (.tmp 4) (.const (.int .i64 17)) (.func 109) 92 rfl 3 78 (Maps.int_keyed Tryz.underlying3) Tryz.underlying92 fnElem w.heap.size 16 _ rfl m16 (by decide) (.int .i64 17) (.func (.func 109) #[] #[]) (.int .i64 17) rfl rfl (key_17) _ [] (fnElem_mk 109) ?_
  intro w17 m17 g17
  refine wpList_insert_own _ rfl (.tmp 4) (.const (.int .i64 18)) (.func 110) 92 rfl 3 78 (Maps.int_keyed Tryz.underlying3) Tryz.underlying92 fnElem w.heap.size 17 _ rfl m17 (by decide) (.int .i64 18) (.func (.func 110) #[] #[]) (.int .i64 18) rfl rfl (key_18) _ [] (fnElem_mk 110) ?_
  intro w18 m18 g18
  refine wpList_insert_own _ rfl (.tmp 4) (.const (.int .i64 19)) (.func 111) 92 rfl 3 78 (Maps.int_keyed Tryz.underlying3) Tryz.underlying92 fnElem w.heap.size 18 _ rfl m18 (by decide) (.int .i64 19) (.func (.func 111) #[] #[]) (.int .i64 19) rfl rfl (key_19) _ [] (fnElem_mk 111) ?_
  intro w19 m19 g19
  refine wpList_insert_own _ rfl (.tmp 4) (.const (.int .i64 20)) (.func 112) 92 rfl 3 78 (Maps.int_keyed Tryz.underlying3) Tryz.underlying92 fnElem w.heap.size 19 _ rfl m19 (by decide) (.int .i64 20) (.func (.func 112) #[] #[]) (.int .i64 20) rfl rfl (key_20) _ [] (fnElem_mk 112) ?_
  intro w20 m20 g20
  refine wpList_insert_own _ rfl (.tmp 4) (.const (.int .i64 21)) (.func 113) 92 rfl 3 78 (Maps.int_keyed Tryz.underlying3) Tryz.underlying92 fnElem w.heap.size 20 _ rfl m20 (by decide) (.int .i64 21) (.func (.func 113) #[] #[]) (.int .i64 21) rfl rfl (key_21) _ [] (fnElem_mk 113) ?_
  intro w21 m21 g21
  refine wpList_insert_own _ rfl (.tmp 4) (.const (.int .i64 63)) (.func 114) 92 rfl 3 78 (Maps.int_keyed Tryz.underlying3) Tryz.underlying92 fnElem w.heap.size 21 _ rfl m21 (by decide) (.int .i64 63) (.func (.func 114) #[] #[]) (.int .i64 63) rfl rfl (key_63) _ [] (fnElem_mk 114) ?_
  intro w22 m22 g22
  have hbel : Below w.heap.size w w22 := ((Below.refl _ _).alloc (Nat.le_refl _) _).grown ((((((((((((((((((((((g1).trans g2).trans g3).trans g4).trans g5).trans g6).trans g7).trans g8).trans g9).trans g10).trans g11).trans g12).trans g13).trans g14).trans g15).trans g16).trans g17).trans g18).trans g19).trans g20).trans g21).trans g22) (by simp) (fun g hg => by injection hg with hg; omega)
  have M22 := Lib.hid (show w22.ownsMap Tryz.prog 3 fnElem w.heap.size 22 (effD1 0) from by rw [effD1_zero]; exact m22)
  have B22 := Lib.hid hbel
  clear hbel m0 m1 m2 m3 m4 m5 m6 m7 m8 m9 m10 m11 m12 m13 m14 m15 m16 m17 m18 m19 m20 m21 m22 g1 g2 g3 g4 g5 g6 g7 g8 g9 g10 g11 g12 g13 g14 g15 g16 g17 g18 g19 g20 g21 g22
  go_wp2
  go_loopw [2] (fun i wr => ∃ k : Nat, k ≤ 13 ∧ i = .int .i64 (22 + (k : Int)) ∧ Hid (wr.ownsMap Tryz.prog 3 fnElem w.heap.size (22 + k) (effD1 k) ∧ Below w.heap.size w wr)) (fun i _ => 40 - (intOf i).toNat)
  case atStart => exact ⟨0, by omega, rfl, ⟨M22.out, B22.out⟩⟩
  case round =>
    obtain ⟨k, hk, rfl, hq⟩ := hrel
    by_cases hlt : k < 13
    · have hc : 22 + (k : Int) ≤ 34 := by omega
      have hkey := Maps.keyOf_int_mk (P := Tryz.prog) (k := 3) Tryz.underlying3 (wf_small (a := 22 + (k : Int)) (by omega) (by omega))
      have HKEY := Lib.hid hkey
      clear hkey
      go_wp2_with (at_mapUpdate; refine wpList_mapUpdate_own _ rfl _ _ _ 92 rfl 3 78 (Maps.int_keyed Tryz.underlying3) Tryz.underlying92 fnElem w.heap.size _ _ rfl hq.out.1 (by unfold maxLen; omega) _ _ _ rfl rfl HKEY.out _ [] (fnElem_mk _) ?_; intro w5 m5 g5; have M5 := Lib.hid m5; have B5 := Lib.hid (hq.out.2.grown g5 hq.out.2.size (fun g hg => by injection hg with hg; omega)); clear m5 g5)
      go_roundw
      case rel => exact ⟨k + 1, by omega, by go_num, ⟨by rw [effD1_snoc]; exact M5.out, B5.out⟩⟩
      case measure => simp [intOf]; omega
    · obtain rfl : k = 13 := by omega
      have M23 := Lib.hid (show wr.ownsMap Tryz.prog 3 fnElem w.heap.size 35 (effD2 0) from by rw [effD2_zero]; exact hq.out.1)
      have B23 := Lib.hid hq.out.2
      clear hq
      go_wp2
      go_loopw [3] (fun i wz => ∃ k : Nat, k ≤ 28 ∧ i = .int .i64 (35 + (k : Int)) ∧ Hid (wz.ownsMap Tryz.prog 3 fnElem w.heap.size (35 + k) (effD2 k) ∧ Below w.heap.size w wz)) (fun i _ => 70 - (intOf i).toNat)
      case atStart => exact ⟨0, by omega, rfl, ⟨M23.out, B23.out⟩⟩
      case round =>
        obtain ⟨k, hk, rfl, hq⟩ := hrel
        by_cases hlt : k < 28
        · have hc : 35 + (k : Int) ≤ 62 := by omega
          have hkey := Maps.keyOf_int_mk (P := Tryz.prog) (k := 3) Tryz.underlying3 (wf_small (a := 35 + (k : Int)) (by omega) (by omega))
          have HKEY := Lib.hid hkey
          clear hkey
          go_wp2_with (at_mapUpdate; refine wpList_mapUpdate_own _ rfl _ _ _ 92 rfl 3 78 (Maps.int_keyed Tryz.underlying3) Tryz.underlying92 fnElem w.heap.size _ _ rfl hq.out.1 (by unfold maxLen; omega) _ _ _ rfl rfl HKEY.out _ [] (fnElem_mk _) ?_; intro w5 m5 g5; have M5 := Lib.hid m5; have B5 := Lib.hid (hq.out.2.grown g5 hq.out.2.size (fun g hg => by injection hg with hg; omega)); clear m5 g5)
          go_roundw
          case rel => first | exact ⟨k + 1, by omega, by go_num, ⟨by rw [effD2_snoc]; exact M5.out, B5.out⟩⟩ | exact ⟨.int .i64 (35 + (k : Int) + 1), _, _, _, _, _, _, ⟨k + 1, by omega, by go_num, ⟨by rw [effD2_snoc]; exact M5.out, B5.out⟩⟩, rfl⟩
          case measure => simp [intOf]; omega
        · obtain rfl : k = 28 := by omega
          go_wp2
          go_ret
          exact ⟨rfl, ⟨_, hq.out.1⟩, hq.out.2⟩
end Go.Proofs.YtnaceogkaiodnaaGreat

namespace Go.Proofs.YtnaceogkaiodnaaGreat
open Go.RowKit
set_option linter.unusedVariables false

/-- A machine as it begins. -/
def MSt.zero (xs : List Int) : MSt := ⟨fun _ => 0, 4294967296, xs⟩
theorem MSt.zero_ok {xs : List Int} (h : ∀ x ∈ xs, 0 ≤ x ∧ x < 256) : (MSt.zero xs).ok := ⟨fun _ => ⟨by show (0 : Int) ≤ 0; omega, by show (0 : Int) < 18446744073709551616; omega⟩, rfl, ⟨by show (0 : Int) ≤ 4294967296; omega, by show (4294967296 : Int) < 18446744073709551616; omega⟩, h⟩
def mach0 (p : Value) (mb eb : Nat) : Array Value := #[p, .int .u64 0, .int .u64 0, .int .u64 0, .int .u64 0, .int .u64 0, .int .u64 0, .int .u64 0, .int .u64 0, .int .u64 0, .int .u64 0, .int .u64 0, .int .u64 0, .int .u64 0, .int .u64 0, .int .u64 0, .int .u64 0, .int .u64 0, .int .u64 0, .int .u64 0, .int .u64 0, .int .u64 0, .int .u64 0, .int .u64 0, .int .u64 0, .int .u64 0, .int .u64 0, .int .u64 0, .int .u64 0, .int .u64 0, .int .u64 0, .int .u64 0, .int .u64 0, .int .u64 4294967296, .pointer (some ⟨mb, 0, none⟩), .slice none 0 0, .map (some eb)]
theorem mach0_cells (xb mb eb : Nat) (xs : List Int) : MCells (mach0 (.pointer (some ⟨xb, 0, none⟩)) mb eb) xb mb eb (.slice none 0 0) (MSt.zero xs) :=
  ⟨rfl, rfl, fun k hk => by
    match k, hk with
    | 0, _ => rfl
    | 1, _ => rfl
    | 2, _ => rfl
    | 3, _ => rfl
    | 4, _ => rfl
    | 5, _ => rfl
    | 6, _ => rfl
    | 7, _ => rfl
    | 8, _ => rfl
    | 9, _ => rfl
    | 10, _ => rfl
    | 11, _ => rfl
    | 12, _ => rfl
    | 13, _ => rfl
    | 14, _ => rfl
    | 15, _ => rfl
    | 16, _ => rfl
    | 17, _ => rfl
    | 18, _ => rfl
    | 19, _ => rfl
    | 20, _ => rfl
    | 21, _ => rfl
    | 22, _ => rfl
    | 23, _ => rfl
    | 24, _ => rfl
    | 25, _ => rfl
    | 26, _ => rfl
    | 27, _ => rfl
    | 28, _ => rfl
    | 29, _ => rfl
    | 30, _ => rfl
    | 31, _ => rfl
    | n + 32, h => omega, rfl, rfl, rfl, rfl⟩
section
variable {w w' : World} {mb bb c : Nat}
def MadeMach (w : World) (mb bb c : Nat) (xs : List Int) (e : Ending) (w' : World) : Prop :=
  ∃ xb eb, e = .returned (.tuple #[.pointer (some ⟨xb, 0, none⟩), .int .i64 0]) ∧ Mach w' xb mb bb c eb (.slice none 0 0) [] (MSt.zero xs) ∧ w.heap.size ≤ xb ∧ Below w.heap.size w w' ∧ w.heap.size ≤ eb
set_option maxRecDepth 100000 in
set_option maxHeartbeats 4000000 in
theorem newMach_any {xs : List Int} (h : MemAt w mb bb c xs) : Calls Tryz.prog 49 #[.pointer (some ⟨mb, 0, none⟩)] w (MadeMach w mb bb c xs) := by
  have HS := Lib.hid (size_yes h)
  have HM := Lib.hid h
  have hlo := h.lo
  have hz : ((xs.length : Int) == 0) = false := by simpa using (by omega : ¬ (xs.length : Int) = 0)
  generalize (xs.length : Int) = L at HS hz
  clear h hlo
  go_enter Tryz.func49, Tryz.ntmps49
  go_wp2_with (first
    | (go_at_call 61; (with_reducible refine HS.out.mono ?_); rintro e w' ⟨rfl, rfl⟩)
    | (go_at_call 76; (with_reducible refine (effects_any _).mono ?_); rintro e w1 ⟨rfl, he, hb⟩; have M1 := Lib.hid (HM.out.below hb); have E1 := Lib.hid he; have B1 := Lib.hid hb; clear he hb))
  go_ret2
  exact ⟨w1.heap.size, w.heap.size, rfl, ⟨⟨_, heap_alloc_new w1 _, mach0_cells w1.heap.size mb w.heap.size xs⟩, .inl ⟨rfl, none, 0, rfl⟩, M1.out.alloc _, E1.out.heap (fun hl => Below.heap_alloc w1 _ _ hl), MSt.zero_ok M1.out.bd, by simp, by simp⟩, B1.out.size, B1.out.alloc B1.out.size _, Nat.le_refl _⟩
theorem spot_info : (Tryz.prog.info? 80).map (fun i => (i.zero, i.size, i.bytes)) = some (some (.agg #[.int .u32 0, .int .i64 0, .int .i64 0, .int .i64 0, .int .i64 0, .int .i64 0, .nilFunc]), 7, 56) := by kernel_rfl
def spotZ (n : Nat) : Array Value := madeCells #[.int .u32 0, .int .i64 0, .int .i64 0, .int .i64 0, .int .i64 0, .int .i64 0, .nilFunc] (n * 7)
theorem make_spots (n : Nat) (h : n ≤ 65536) (w : World) : (Instr.makeSlice 91 (.int .i64 (n : Int)) (.int .i64 (n : Int))).run Tryz.prog w = .ok (.slice (some ⟨w.heap.size, 0, none⟩) n n) (w.alloc (.cells (spotZ n) 80)) := by
  obtain ⟨i0, hi, hz0, hz1, hz2⟩ := info_parts spot_info
  have hr := run_make (P := Tryz.prog) w 91 80 i0 _ Tryz.underlying91 hi hz0 .i64 .i64 n n (by omega) (Int.le_refl _) (by rw [hz2]; omega) (by omega)
  rw [Int.toNat_natCast, hz1] at hr
  exact hr
/-- The cells of code, so many words of which are laid. -/
structure SpotsTo (k : Nat) (cur : Array Value) (cs : List Int) : Prop where
  size : cur.size = cs.length * 7
  word : ∀ j, j < k → cur[j * 7]? = some (.int .u32 (cs.getD j 0))
  none : ∀ j, j < cs.length → cur[j * 7 + 6]? = some .nilFunc
theorem spotZ_to (cs : List Int) : SpotsTo 0 (spotZ cs.length) cs := by
  refine ⟨by simp [spotZ, madeCells], fun j hj => by omega, fun j hj => ?_⟩
  have hlt : j * 7 + 6 < cs.length * 7 := by omega
  have hm : (j * 7 + 6) % 7 = 6 := by omega
  simp [spotZ, madeCells, hlt, hm]
theorem SpotsTo.set {k : Nat} {cur : Array Value} {cs : List Int} (h : SpotsTo k cur cs) (hk : k < cs.length) : SpotsTo (k + 1) (cur.setIfInBounds (k * 7) (.int .u32 (cs.getD k 0))) cs := by
  have hs := h.size
  refine ⟨by simpa using hs, fun j hj => ?_, fun j hj => ?_⟩
  · by_cases e : j = k
    · subst e
      rw [Array.getElem?_setIfInBounds_self_of_lt (by omega)]
    · rw [Array.getElem?_setIfInBounds_ne (by omega)]
      exact h.word j (by omega)
  · rw [Array.getElem?_setIfInBounds_ne (by omega)]
    exact h.none j hj
theorem SpotsTo.all {cur : Array Value} {cs : List Int} (h : SpotsTo cs.length cur cs) : Spots cur cs := ⟨h.size, h.word, fun j hj => .inl (h.none j hj)⟩
/-- The machine's code is another one. -/
theorem Mach.setV {xb eb : Nat} {V V' : Value} {code cs : List Int} {s : MSt} {cur : Array Value} (h : Mach w xb mb bb c eb V code s) (hb : But (OneBlock xb) w w') (h1 : w'.heap[xb]? = some (.cells cur 94 (0, 0))) (h2 : MCells cur xb mb eb V' s) (hc : IsCode w' V' cs) (hw : ∀ x ∈ cs, 0 ≤ x ∧ x < 4294967296) (hl : cs.length ≤ 65536) : Mach w' xb mb bb c eb V' cs s := by
  have ha := h.apart
  exact ⟨⟨cur, h1, h2⟩, hc, h.mem.but hb (oneBlock_not ha.1) (oneBlock_not ha.2.1), h.eff.heap fun hl => hb.block _ hl (oneBlock_not ha.2.2), h.ok, hw, hl⟩
structure LoadAt (w wr : World) (xb mb eb k : Nat) (V : Value) (s : MSt) (cs : List Int) : Prop where
  head : ∃ cur, wr.heap[xb]? = some (.cells cur 94 (0, 0)) ∧ MCells cur xb mb eb V s
  spots : ∃ cur, wr.heap[w.heap.size]? = some (.cells cur 80 (0, 0)) ∧ SpotsTo k cur cs
  but : But (OneBlock xb) w wr
def LoadDone (xb mb bb c eb : Nat) (cs : List Int) (s : MSt) (w : World) (e : Ending) (w' : World) : Prop :=
  e = .returned (.int .i64 0) ∧ Mach w' xb mb bb c eb (.slice (some ⟨w.heap.size, 0, none⟩) cs.length cs.length) cs s ∧ But (OneBlock xb) w w' ∧ w.heap.size < w'.heap.size
theorem LoadAt.set {wr : World} {xb eb k : Nat} {V : Value} {s : MSt} {cs : List Int} (h : LoadAt w wr xb mb eb k V s cs) (hk : k < cs.length) (hx : xb < w.heap.size) : LoadAt w (wr.setCell ⟨w.heap.size, k * 7, none⟩ (.int .u32 (cs.getD k 0))) xb mb eb (k + 1) V s cs := by
  obtain ⟨cur, h1, h2⟩ := h.head
  obtain ⟨cs', h3, h4⟩ := h.spots
  refine ⟨⟨cur, ?_, h2⟩, ⟨_, heap_setCell_same wr w.heap.size (k * 7) cs' _ _ h3, h4.set hk⟩, h.but.setCell (p := ⟨w.heap.size, k * 7, none⟩) (.inr (Nat.le_refl _)) _⟩
  rw [Below.heap_setCell _ _ _ _ (show xb ≠ w.heap.size by omega)]
  exact h1
set_option maxRecDepth 100000 in
set_option maxHeartbeats 4000000 in
theorem loadCode_some {xb eb b off cap n : Nat} {V : Value} {code cs : List Int} {s : MSt} (h : Mach w xb mb bb c eb V code s) (hn : n = cs.length) (hg : ∀ i, i < n → w.cell? ⟨b, off + i, none⟩ = some (.int .u32 (cs.getD i 0))) (hbl : b < w.heap.size) (hcap : n ≤ cap)
    (hne : b ≠ xb) (hw : ∀ x ∈ cs, 0 ≤ x ∧ x < 4294967296) (hl : n ≤ 65536) :
    Calls Tryz.prog 51 #[.pointer (some ⟨xb, 0, none⟩), .slice (some ⟨b, off, none⟩) n cap] w (LoadDone xb mb bb c eb cs s w) := by
  have HV := Lib.hid (mvalid_yes h)
  have HM := Lib.hid h
  have lt1 := h.lt.1
  have c1 := h.codec
  have f1 := h.free 35
  have hmk := make_spots n hl w
  have hl2 : ¬ (65536 : Int) < (n : Int) := by omega
  have hst : LoadAt w ((w.setCell ⟨xb, 35, none⟩ (.slice (some ⟨w.heap.size, 0, none⟩) n n)).alloc (.cells (spotZ n) 80)) xb mb eb 0 (.slice (some ⟨w.heap.size, 0, none⟩) n n) s cs := by
    obtain ⟨cur, q1, q2⟩ := h.head
    refine ⟨⟨cur.setIfInBounds 35 (.slice (some ⟨w.heap.size, 0, none⟩) n n), ?_, ?_⟩, ⟨spotZ n, ?_, hn ▸ spotZ_to cs⟩, ((But.refl (OneBlock xb) w).setCell (p := ⟨xb, 35, none⟩) (.inl rfl) _).alloc _⟩
    · exact (Below.heap_alloc _ _ _ (by simpa [World.setCell] using lt1)).trans (heap_setCell_same w xb 35 cur _ _ q1)
    · have hs := q2.size
      have ho : ∀ j : Nat, j ≠ 35 → (cur.setIfInBounds 35 (.slice (some ⟨w.heap.size, 0, none⟩) n n))[j]? = cur[j]? := fun j hj => by rw [Array.getElem?_setIfInBounds_ne (by omega)]
      exact ⟨by simpa using hs, (ho 0 (by omega)).trans q2.self, fun k hk => (ho (1 + k) (by omega)).trans (q2.reg k hk), (ho 33 (by omega)).trans q2.pc, (ho 34 (by omega)).trans q2.mem, by rw [Array.getElem?_setIfInBounds_self_of_lt (by omega)], (ho 36 (by omega)).trans q2.eff⟩
    · have := heap_alloc_new (w.setCell ⟨xb, 35, none⟩ (.slice (some ⟨w.heap.size, 0, none⟩) n n)) (.cells (spotZ n) 80)
      rwa [show (w.setCell ⟨xb, 35, none⟩ (.slice (some ⟨w.heap.size, 0, none⟩) n n)).heap.size = w.heap.size by simp [World.setCell]] at this
  have HST := Lib.hid hst
  have HN := Lib.hid hn
  have HG := Lib.hid hg
  have HW := Lib.hid hw
  have w0 : w.cell? ⟨xb, 35, none⟩ = (w.alloc (.cells (spotZ n) 80)).cell? ⟨xb, 35, none⟩ := (World.cell?_alloc_lt w _ _ lt1).symm
  have w1 := w0.symm.trans c1
  have g1 : (w.alloc (.cells (spotZ n) 80)).frozen? ⟨xb, 35, none⟩ = false := (h.alloc _).free 35
  clear h hst hn hg hw w0 c1 f1
  go_enter Tryz.func51, Tryz.ntmps51
  go_wp2_with (go_at_call 36; (with_reducible refine HV.out.mono ?_); rintro e w' ⟨rfl, rfl⟩)
  generalize (w.setCell ⟨xb, 35, none⟩ (.slice (some ⟨w.heap.size, 0, none⟩) n n)).alloc (.cells (spotZ n) 80) = W at *
  go_loopw [23] (fun i wr => ∃ k : Nat, k ≤ n ∧ i = .int .i64 k ∧ Hid (LoadAt w wr xb mb eb k (.slice (some ⟨w.heap.size, 0, none⟩) n n) s cs)) (fun i _ => n - (intOf i).toNat)
  case atStart => exact ⟨0, by omega, rfl, HST⟩
  case round =>
    obtain ⟨k, hk, rfl, hq⟩ := hrel
    by_cases hlt : k < n
    · have d1 : wr.cell? ⟨b, off + k, none⟩ = some (.int .u32 (cs.getD k 0)) := (hq.out.but.cell (p := ⟨b, off + k, none⟩) hbl (oneBlock_not hne)).trans (HG.out k hlt)
      obtain ⟨cur, q1, q2⟩ := hq.out.head
      have d2 : wr.cell? ⟨xb, 35, none⟩ = some (.slice (some ⟨w.heap.size, 0, none⟩) n n) := (cell_of_row wr xb 35 _ _ _ q1).trans q2.code
      obtain ⟨cus, q3, q4⟩ := hq.out.spots
      obtain ⟨u, hu⟩ : ∃ u, wr.cell? ⟨w.heap.size, k * 7, none⟩ = some u := ⟨_, (cell_of_row wr w.heap.size _ _ _ _ q3).trans (Array.getElem?_eq_getElem (by have := q4.size; have := HN.out; omega))⟩
      have hf := frozen_of_row wr w.heap.size (k * 7) _ _ q3
      have hnx := hq.out.set (by have := HN.out; omega) lt1
      generalize cs.getD k 0 = x at d1 hnx
      have HNX := Lib.hid hnx
      have k1 : (k : Int) < (n : Int) := by omega
      clear hnx q1 q2 q3 q4 hq
      go_wp2
      go_roundw
      case rel => exact ⟨k + 1, by omega, by go_num, HNX⟩
      case measure => simp [intOf]; omega
    · obtain rfl : k = n := by omega
      go_wp2
      go_ret
      obtain ⟨cur, q1, q2⟩ := hq.out.head
      obtain ⟨cus, q3, q4⟩ := hq.out.spots
      obtain ⟨os, hos⟩ : ∃ os, os = cs := ⟨_, rfl⟩
      have hn := HN.out
      subst hn
      exact ⟨rfl, HM.out.setV hq.out.but q1 q2 (.inr ⟨w.heap.size, cs.length, cus, rfl, q3, q4.all⟩) HW.out hl, hq.out.but, heap_lt q3⟩
set_option maxRecDepth 100000 in
set_option maxHeartbeats 4000000 in
theorem loadCode_none {xb eb cap : Nat} {A : Option Addr} {V : Value} {code : List Int} {s : MSt} (h : Mach w xb mb bb c eb V code s) :
    Calls Tryz.prog 51 #[.pointer (some ⟨xb, 0, none⟩), .slice A 0 cap] w (LoadDone xb mb bb c eb [] s w) := by
  have HV := Lib.hid (mvalid_yes h)
  have HM := Lib.hid h
  have lt1 := h.lt.1
  have c1 := h.codec
  have hmk : (Instr.makeSlice 91 (.int .i64 0) (.int .i64 0)).run Tryz.prog w = .ok (.slice (some ⟨w.heap.size, 0, none⟩) 0 0) (w.alloc (.cells (spotZ 0) 80)) := make_spots 0 (by decide) w
  have hst : LoadAt w ((w.setCell ⟨xb, 35, none⟩ (.slice (some ⟨w.heap.size, 0, none⟩) 0 0)).alloc (.cells (spotZ 0) 80)) xb mb eb 0 (.slice (some ⟨w.heap.size, 0, none⟩) 0 0) s [] := by
    obtain ⟨cur, q1, q2⟩ := h.head
    refine ⟨⟨cur.setIfInBounds 35 (.slice (some ⟨w.heap.size, 0, none⟩) 0 0), ?_, ?_⟩, ⟨spotZ 0, ?_, spotZ_to []⟩, ((But.refl (OneBlock xb) w).setCell (p := ⟨xb, 35, none⟩) (.inl rfl) _).alloc _⟩
    · exact (Below.heap_alloc _ _ _ (by simpa [World.setCell] using lt1)).trans (heap_setCell_same w xb 35 cur _ _ q1)
    · have hs := q2.size
      have ho : ∀ j : Nat, j ≠ 35 → (cur.setIfInBounds 35 (.slice (some ⟨w.heap.size, 0, none⟩) 0 0))[j]? = cur[j]? := fun j hj => by rw [Array.getElem?_setIfInBounds_ne (by omega)]
      exact ⟨by simpa using hs, (ho 0 (by omega)).trans q2.self, fun k hk => (ho (1 + k) (by omega)).trans (q2.reg k hk), (ho 33 (by omega)).trans q2.pc, (ho 34 (by omega)).trans q2.mem, by rw [Array.getElem?_setIfInBounds_self_of_lt (by omega)], (ho 36 (by omega)).trans q2.eff⟩
    · have := heap_alloc_new (w.setCell ⟨xb, 35, none⟩ (.slice (some ⟨w.heap.size, 0, none⟩) 0 0)) (.cells (spotZ 0) 80)
      rwa [show (w.setCell ⟨xb, 35, none⟩ (.slice (some ⟨w.heap.size, 0, none⟩) 0 0)).heap.size = w.heap.size by simp [World.setCell]] at this
  have HST := Lib.hid hst
  have w0 : w.cell? ⟨xb, 35, none⟩ = (w.alloc (.cells (spotZ 0) 80)).cell? ⟨xb, 35, none⟩ := (World.cell?_alloc_lt w _ _ lt1).symm
  have w1 := w0.symm.trans c1
  have g1 : (w.alloc (.cells (spotZ 0) 80)).frozen? ⟨xb, 35, none⟩ = false := (h.alloc _).free 35
  clear h hst w0 c1
  go_enter Tryz.func51, Tryz.ntmps51
  go_wp2_with (go_at_call 36; (with_reducible refine HV.out.mono ?_); rintro e w' ⟨rfl, rfl⟩)
  generalize (w.setCell ⟨xb, 35, none⟩ (.slice (some ⟨w.heap.size, 0, none⟩) 0 0)).alloc (.cells (spotZ 0) 80) = W at *
  go_loopw [23] (fun i wr => i = .int .i64 0 ∧ wr = W) (fun i _ => 0)
  case atStart => exact ⟨rfl, rfl⟩
  case round =>
    obtain ⟨rfl, rfl⟩ := hrel
    go_wp2
    go_ret
    obtain ⟨cur, q1, q2⟩ := HST.out.head
    obtain ⟨cus, q3, q4⟩ := HST.out.spots
    exact ⟨rfl, HM.out.setV HST.out.but q1 q2 (.inr ⟨w.heap.size, 0, cus, rfl, q3, SpotsTo.all (cs := []) q4⟩) (by simp) (by simp), HST.out.but, heap_lt q3⟩
theorem loadCode_any {xb eb B : Nat} {V Vc : Value} {code cs : List Int} {s : MSt} (h : Mach w xb mb bb c eb V code s) (hc : IsNums .u32 w B Vc cs) (hB : B ≤ w.heap.size) (hne : ∀ b o n k, Vc = .slice (some ⟨b, o, none⟩) n k → 0 < cs.length → b ≠ xb) (hw : ∀ x ∈ cs, 0 ≤ x ∧ x < 4294967296) (hl : cs.length ≤ 65536) :
    Calls Tryz.prog 51 #[.pointer (some ⟨xb, 0, none⟩), Vc] w (LoadDone xb mb bb c eb cs s w) := by
  by_cases hp : 0 < cs.length
  · obtain ⟨b, off, cap, rfl, h1, h2, h3⟩ := hc.plain hp
    exact loadCode_some h rfl h3 (by omega) h1 (hne _ _ _ _ rfl hp) hw hl
  · obtain rfl : cs = [] := List.eq_nil_of_length_eq_zero (by omega)
    obtain ⟨A, cap, rfl⟩ := hc.len
    exact loadCode_none h
end
end Go.Proofs.YtnaceogkaiodnaaGreat

namespace Go.Proofs.YtnaceogkaiodnaaGreat
open Go.RowKit
set_option linter.unusedVariables false

/-- The chapter's instructions. -/
def sixI (by' : Int) : List RvV := [⟨22, 1, 0, 0, 5⟩, ⟨28, 2, 1, 0, by'⟩, ⟨21, 0, 2, 1, 0⟩, ⟨11, 3, 2, 0, 0⟩, ⟨5, 0, 1, 3, -8⟩, ⟨63, 0, 0, 0, 0⟩]
def sixW (by' : Int) : List Int := (sixI by').map encV
theorem six_ok2 : ∀ y ∈ sixI 2, y.ok := by
  intro y hy
  simp only [sixI, List.mem_cons, List.not_mem_nil, or_false] at hy
  rcases hy with rfl | rfl | rfl | rfl | rfl | rfl <;> exact ok_of (by decide +kernel)
theorem six_ok4 : ∀ y ∈ sixI 4, y.ok := by
  intro y hy
  simp only [sixI, List.mem_cons, List.not_mem_nil, or_false] at hy
  rcases hy with rfl | rfl | rfl | rfl | rfl | rfl <;> exact ok_of (by decide +kernel)
theorem six_in2 : ∀ y ∈ sixI 2, RvIn y := by
  intro y hy
  simp only [sixI, List.mem_cons, List.not_mem_nil, or_false] at hy
  rcases hy with rfl | rfl | rfl | rfl | rfl | rfl <;> exact rvIn_of (by decide +kernel)
theorem six_in4 : ∀ y ∈ sixI 4, RvIn y := by
  intro y hy
  simp only [sixI, List.mem_cons, List.not_mem_nil, or_false] at hy
  rcases hy with rfl | rfl | rfl | rfl | rfl | rfl <;> exact rvIn_of (by decide +kernel)
/-- A slice of instructions: what it leads to. -/
def RvsAt (w : World) (g : Nat) (l : List RvV) : Prop := ∀ i, i < l.length → w.cell? ⟨g, i * 5, none⟩ = some (.int .i64 (l.getD i ⟨0, 0, 0, 0, 0⟩).op) ∧ w.cell? ⟨g, i * 5 + 1, none⟩ = some (.int .i64 (l.getD i ⟨0, 0, 0, 0, 0⟩).rd) ∧ w.cell? ⟨g, i * 5 + 2, none⟩ = some (.int .i64 (l.getD i ⟨0, 0, 0, 0, 0⟩).rs1) ∧
  w.cell? ⟨g, i * 5 + 3, none⟩ = some (.int .i64 (l.getD i ⟨0, 0, 0, 0, 0⟩).rs2) ∧ w.cell? ⟨g, i * 5 + 4, none⟩ = some (.int .i64 (l.getD i ⟨0, 0, 0, 0, 0⟩).imm)
theorem RvsAt.below {w w' : World} {g B : Nat} {l : List RvV} (h : RvsAt w g l) (hb : Below B w w') (hg : g < B) : RvsAt w' g l := fun i hi => by
  obtain ⟨h0, h1, h2, h3, h4⟩ := h i hi
  exact ⟨(hb.cell (p := ⟨g, _, none⟩) hg).trans h0, (hb.cell (p := ⟨g, _, none⟩) hg).trans h1, (hb.cell (p := ⟨g, _, none⟩) hg).trans h2, (hb.cell (p := ⟨g, _, none⟩) hg).trans h3, (hb.cell (p := ⟨g, _, none⟩) hg).trans h4⟩
def WordsDone (w : World) (xs : List Int) (e : Ending) (w' : World) : Prop :=
  ∃ v, e = .returned v ∧ Owns w' w.heap.size 74 1 (IsNum .u32) v xs.length (xs.map (Value.int .u32)) ∧ Below w.heap.size w w'
theorem one_word (w : World) (x : Int) : ∀ j u, ([x].map (Value.int .u32))[j]? = some u → (w.alloc (.cells #[.int .u32 x] 74)).cell? ((⟨w.heap.size, 0, none⟩ : Addr).add j) = some u := by
  intro j u hj
  have hl : j < 1 := by
    rcases Nat.lt_or_ge j 1 with h | h
    · exact h
    · rw [List.getElem?_eq_none (by simpa using h)] at hj
      cases hj
  obtain rfl : j = 0 := by omega
  simp at hj
  subst hj
  have := new_cell w #[.int .u32 x] 74 w.heap.size 0 (.int .u32 x) rfl rfl
  simp [Addr.add]
/-- The words of instructions, so many of which are made. -/
structure WordsAt (w wr : World) (l : List RvV) (v : Value) (k : Nat) : Prop where
  own : Owns wr w.heap.size 74 1 (IsNum .u32) v k (((l.take k).map encV).map (Value.int .u32))
  bel : Below w.heap.size w wr
theorem take_map_snoc {l : List RvV} {k : Nat} (hk : k < l.length) : ((l.take (k + 1)).map encV).map (Value.int .u32) = ((l.take k).map encV).map (Value.int .u32) ++ [encV (l.getD k ⟨0, 0, 0, 0, 0⟩)].map (Value.int .u32) := by
  have e : l.take (k + 1) = l.take k ++ [l.getD k ⟨0, 0, 0, 0, 0⟩] := by
    rw [List.take_add_one, List.getElem?_eq_getElem hk]
    simp [List.getD, List.getElem?_eq_getElem hk]
  rw [e, List.map_append, List.map_append]
  rfl
theorem getD_mem' {l : List RvV} {j : Nat} (h : j < l.length) : l.getD j ⟨0, 0, 0, 0, 0⟩ ∈ l := by
  rw [show l.getD j ⟨0, 0, 0, 0, 0⟩ = l[j] by simp [List.getD, List.getElem?_eq_getElem h]]
  exact List.getElem_mem h
set_option maxRecDepth 100000 in
set_option maxHeartbeats 4000000 in
theorem words_any {w : World} {g n cap : Nat} {l : List RvV} (hn : n = l.length) (hg : RvsAt w g l) (hgb : g < w.heap.size) (hok : ∀ y ∈ l, y.ok) (hin : ∀ y ∈ l, RvIn y) (hl : n ≤ 1000) (hcap : n ≤ cap) :
    Calls Tryz.prog 77 #[.slice (some ⟨g, 0, none⟩) n cap] w (WordsDone w (l.map encV)) := by
  obtain ⟨i0, hi, hz0, hz1, hz2⟩ := info_parts u32_info
  have HI := Lib.hid hi
  have HZ0 := Lib.hid hz0
  have HZ1 := Lib.hid hz1
  have HZ2 := Lib.hid hz2
  have HN := Lib.hid hn
  have HG := Lib.hid hg
  have HOK := Lib.hid hok
  have HIN := Lib.hid hin
  clear hi hz0 hz1 hz2 hn hg hok hin
  go_enter Tryz.func77, Tryz.ntmps77
  go_wp2_with fail
  go_loopw [3, 4] (fun v i wr => ∃ k : Nat, k ≤ n ∧ i = .int .i64 k ∧ Hid (WordsAt w wr l v k)) (fun _ i _ => n - (intOf i).toNat)
  case atStart => exact ⟨0, by omega, rfl, ⟨by simpa using Owns.nil _ _ _ _ _, Below.refl _ _⟩⟩
  case round =>
    obtain ⟨k, hk, rfl, hq⟩ := hrel
    by_cases hlt : k < n
    · have hkl : k < l.length := by have := HN.out; omega
      obtain ⟨d0, d1, d2, d3, d4⟩ := HG.out k hkl
      replace d0 := (hq.out.bel.cell (p := ⟨g, _, none⟩) hgb).trans d0
      replace d1 := (hq.out.bel.cell (p := ⟨g, _, none⟩) hgb).trans d1
      replace d2 := (hq.out.bel.cell (p := ⟨g, _, none⟩) hgb).trans d2
      replace d3 := (hq.out.bel.cell (p := ⟨g, _, none⟩) hgb).trans d3
      replace d4 := (hq.out.bel.cell (p := ⟨g, _, none⟩) hgb).trans d4
      have hmem := getD_mem' hkl
      have hen := fun u => enc_ok (HOK.out _ hmem) (HIN.out _ hmem) u
      have hsn := take_map_snoc hkl
      generalize l.getD k ⟨0, 0, 0, 0, 0⟩ = y at d0 d1 d2 d3 d4 hen hsn
      obtain ⟨y0, y1, y2, y3, y4⟩ := y
      simp only at d0 d1 d2 d3 d4 hen
      generalize encV ⟨y0, y1, y2, y3, y4⟩ = x at hen hsn
      have HEN := Lib.hid hen
      have HSN := Lib.hid hsn
      have k1 : (k : Int) < (n : Int) := by omega
      clear hen hsn hmem
      go_wp2_with (first
        | (go_at_call 117; (with_reducible refine (HEN.out _).mono ?_); rintro e w2 ⟨rfl, hb⟩; have Q2 := Lib.hid (hq.out.own.below hb (Nat.le_refl _)); have B2 := Lib.hid (hq.out.bel.trans (hb.mono hq.out.bel.size)); clear hb)
        | (at_builtin; refine wpList_append_q _ rfl (.tmp 23) (.tmp 25) 22 rfl w.heap.size 74 i0 _ 1 4 Tryz.underlying22 HI.out HZ0.out HZ1.out HZ2.out rfl (by decide) (IsNum .u32) (zero_num .u32) _ k _ rfl (Q2.out.alloc _) ⟨w2.heap.size, 0, none⟩ 1 1 ([x].map (Value.int .u32)) rfl (by simp) (one_word _ _) (ints_oneCell _ _) (num_cells _ _) (by unfold maxLen; omega) (by omega) (by have := B2.out.size; simp; omega) ?_; intro v' w3 hown' hgrow; have R0 := Lib.hid hown'; have R1 := Lib.hid hgrow; clear hown' hgrow))
      go_roundw
      case rel => exact ⟨k + 1, by omega, by go_num, ⟨by rw [HSN.out]; exact R0.out, (B2.out.alloc B2.out.size _).grown R1.out (by have := B2.out.size; simp; omega) (fun g' hg' => (Q2.out.lt hg').1)⟩⟩
      case measure => simp [intOf]; omega
    · obtain rfl : k = n := by omega
      have hn := HN.out
      go_wp2
      go_ret
      have h := hq.out.own
      rw [List.take_of_length_le (by omega)] at h
      exact ⟨_, rfl, by rw [List.length_map, ← hn]; exact h, hq.out.bel⟩
def sixCells (by' : Int) : Array Value := #[.int .i64 22, .int .i64 1, .int .i64 0, .int .i64 0, .int .i64 5, .int .i64 28, .int .i64 2, .int .i64 1, .int .i64 0, .int .i64 by', .int .i64 21, .int .i64 0, .int .i64 2, .int .i64 1, .int .i64 0,
  .int .i64 11, .int .i64 3, .int .i64 2, .int .i64 0, .int .i64 0, .int .i64 5, .int .i64 0, .int .i64 1, .int .i64 3, .int .i64 (-8), .int .i64 63, .int .i64 0, .int .i64 0, .int .i64 0, .int .i64 0]
theorem six_rvs (w : World) (by' : Int) : RvsAt (w.alloc (.cells (sixCells by') 76)) w.heap.size (sixI by') := fun i hi => by
  have hc : ∀ j v, (sixCells by')[j]? = some v → (w.alloc (.cells (sixCells by') 76)).cell? ⟨w.heap.size, j, none⟩ = some v := fun j v hv => new_cell w _ _ w.heap.size j v rfl hv
  match i, hi with
  | 0, _ => exact ⟨hc 0 _ rfl, hc 1 _ rfl, hc 2 _ rfl, hc 3 _ rfl, hc 4 _ rfl⟩
  | 1, _ => exact ⟨hc 5 _ rfl, hc 6 _ rfl, hc 7 _ rfl, hc 8 _ rfl, hc 9 _ rfl⟩
  | 2, _ => exact ⟨hc 10 _ rfl, hc 11 _ rfl, hc 12 _ rfl, hc 13 _ rfl, hc 14 _ rfl⟩
  | 3, _ => exact ⟨hc 15 _ rfl, hc 16 _ rfl, hc 17 _ rfl, hc 18 _ rfl, hc 19 _ rfl⟩
  | 4, _ => exact ⟨hc 20 _ rfl, hc 21 _ rfl, hc 22 _ rfl, hc 23 _ rfl, hc 24 _ rfl⟩
  | 5, _ => exact ⟨hc 25 _ rfl, hc 26 _ rfl, hc 27 _ rfl, hc 28 _ rfl, hc 29 _ rfl⟩
  | n + 6, h => exact absurd h (by simp [sixI])
set_option maxRecDepth 100000 in
set_option maxHeartbeats 4000000 in
theorem six_any (by' : Int) (hok : ∀ y ∈ sixI by', y.ok) (hin : ∀ y ∈ sixI by', RvIn y) (w : World) :
    Calls Tryz.prog 50 #[.int .i64 by'] w (WordsDone w (sixW by')) := by
  have hw := words_any (w := w.alloc (.cells (sixCells by') 76)) (g := w.heap.size) (n := 6) (cap := 6) (l := sixI by') rfl (six_rvs w by') (by simp) hok hin (by omega) (by omega)
  have HW := Lib.hid hw
  clear hw hok hin
  go_enter Tryz.func50, Tryz.ntmps50
  go_wp2_with (go_at_call 77; refine HW.out.mono ?_; rintro e w1 ⟨v, rfl, ho, hb⟩; have R0 := Lib.hid ho; have R1 := Lib.hid hb; clear ho hb)
  go_ret
  exact ⟨_, rfl, R0.out.base (by simp), ((Below.refl _ _).alloc (Nat.le_refl _) _).trans (R1.out.mono (by simp))⟩
end Go.Proofs.YtnaceogkaiodnaaGreat

namespace Go.Proofs.YtnaceogkaiodnaaGreat
open Go.RowKit
set_option linter.unusedVariables false

/-- A machine of some instructions, step by step, while it goes straight on. -/
def exS (l : List RvV) (z : MSt) : Nat → MSt
  | 0 => z
  | k + 1 => (execV (l.getD k ⟨0, 0, 0, 0, 0⟩) (exS l z k)).2
theorem step_is {code : List Int} {s : MSt} {j : Nat} {y : RvV} (hy : y.ok) (hj : j < code.length) (hc : code.getD j 0 = encV y) (hp : s.pc = 4294967296 + 4 * (j : Int)) : stepV code s = execV y s := by
  unfold stepV
  rw [if_neg (by omega), if_neg (by omega), show ((s.pc - 4294967296) / 4).toNat = j by omega, decV_some (show IsWord y (code.getD j 0) from ⟨hy, hc.symm⟩)]
theorem getD_map {l : List RvV} {j : Nat} (h : j < l.length) : (l.map encV).getD j 0 = encV (l.getD j ⟨0, 0, 0, 0, 0⟩) := by
  simp [List.getD, List.getElem?_eq_getElem h]
theorem step_ex {l : List RvV} {s : MSt} {j : Nat} (hok : ∀ y ∈ l, y.ok) (hj : j < l.length) (hp : s.pc = 4294967296 + 4 * (j : Int)) : stepV (l.map encV) s = execV (l.getD j ⟨0, 0, 0, 0, 0⟩) s :=
  step_is (hok _ (getD_mem' hj)) (by simpa using hj) (getD_map hj) hp
theorem ex_it {l : List RvV} {z : MSt} (hok : ∀ y ∈ l, y.ok) : ∀ n : Nat, (∀ k, k < n → k < l.length ∧ (exS l z k).pc = 4294967296 + 4 * (k : Int) ∧ (execV (l.getD k ⟨0, 0, 0, 0, 0⟩) (exS l z k)).1 = 0) → itV (l.map encV) n z = exS l z n ∧ RanV (l.map encV) n z
  | 0, _ => ⟨rfl, fun k hk => by omega⟩
  | n + 1, h => by
    obtain ⟨h1, h2⟩ := ex_it hok n (fun k hk => h k (by omega))
    obtain ⟨q1, q2, q3⟩ := h n (by omega)
    have hs := step_ex hok q1 q2
    refine ⟨?_, fun k hk => ?_⟩
    · rw [it_one, h1, hs]
      rfl
    · by_cases e : k = n
      · rw [e, h1, hs]
        exact q3
      · exact h2 k (by omega)
def z64 : MSt := MSt.zero (List.replicate 64 0)
theorem ex2_fit : ∀ k, k < 4 → k < (sixI 2).length ∧ (exS (sixI 2) z64 k).pc = 4294967296 + 4 * (k : Int) ∧ (execV ((sixI 2).getD k ⟨0, 0, 0, 0, 0⟩) (exS (sixI 2) z64 k)).1 = 0 := by decide +kernel
theorem ex4_fit : ∀ k, k < 2 → k < (sixI 4).length ∧ (exS (sixI 4) z64 k).pc = 4294967296 + 4 * (k : Int) ∧ (execV ((sixI 4).getD k ⟨0, 0, 0, 0, 0⟩) (exS (sixI 4) z64 k)).1 = 0 := by decide +kernel
theorem run2 : runV (sixW 2) 4 z64 = (0, 4, exS (sixI 2) z64 4) := by
  obtain ⟨h1, h2⟩ := ex_it (z := z64) six_ok2 4 ex2_fit
  have := run_all h2
  rw [h1] at this
  exact this
theorem run4 : runV (sixW 4) 3 z64 = (5, 2, exS (sixI 4) z64 2) := by
  obtain ⟨h1, h2⟩ := ex_it (z := z64) six_ok4 2 ex4_fit
  have hs : stepV ((sixI 4).map encV) (exS (sixI 4) z64 2) = execV ((sixI 4).getD 2 ⟨0, 0, 0, 0, 0⟩) (exS (sixI 4) z64 2) := step_ex six_ok4 (by decide) (by decide +kernel)
  have h5 : (execV ((sixI 4).getD 2 ⟨0, 0, 0, 0, 0⟩) (exS (sixI 4) z64 2)).1 = 5 := by decide +kernel
  have := run_ends (m := 0) h2 (by rw [h1, hs, h5]; decide)
  rw [h1, hs, h5] at this
  exact this
def s4 : MSt := exS (sixI 2) z64 4
theorem s4_step : stepV (sixW 2) s4 = execV ((sixI 2).getD 4 ⟨0, 0, 0, 0, 0⟩) s4 := step_ex six_ok2 (by decide) (by decide +kernel)
theorem s4_ran : (stepV (sixW 2) s4).1 = 0 := by rw [s4_step]; decide +kernel
theorem s4_pc : (stepV (sixW 2) s4).2.pc = 4294967304 := by rw [s4_step]; decide +kernel
theorem s4_r3 : regV s4 3 = 5 := by decide +kernel
theorem s4_e : numE s4.xs.length 20 1 = 0 := by decide +kernel
theorem s4_v : loadV s4.xs 20 1 = 5 := by decide +kernel
theorem t2_r1 : regV (exS (sixI 4) z64 2) 1 = 5 := by decide +kernel
theorem t2_r2 : regV (exS (sixI 4) z64 2) 2 = 80 := by decide +kernel
/-- Blocks of a machine, its code's too, all of them new. -/
def NewMach (w : World) (w' : World) (xb mb bb c eb : Nat) (V : Value) (code : List Int) (s : MSt) : Prop :=
  Mach w' xb mb bb c eb V code s ∧ w.heap.size ≤ xb ∧ w.heap.size ≤ mb ∧ w.heap.size ≤ bb ∧ (∀ k, CodeIn V k → w.heap.size ≤ k) ∧ Below w.heap.size w w'
def MachDone (w : World) (code : List Int) (s : MSt) (e : Ending) (w' : World) : Prop :=
  ∃ xb mb bb c eb V, e = .returned (.tuple #[.pointer (some ⟨xb, 0, none⟩), .pointer (some ⟨mb, 0, none⟩)]) ∧ NewMach w w' xb mb bb c eb V code s
set_option maxRecDepth 100000 in
theorem eqlM_nil (a : Addr) (w : World) : (binOp .eql 34 (.pointer (some a)) (.pointer none)).run Tryz.prog w = .ok (.bool false) w := by
  have hu := Tryz.underlying34
  exact run_eql_pointer_nil w 34 _ hu
theorem CodeIn.one {cb o n c k : Nat} (h : CodeIn (.slice (some ⟨cb, o, none⟩) n c) k) : k = cb := by
  obtain ⟨o', n', c', e⟩ := h
  injection e with e _ _
  injection e with e
  injection e with e _ _
  exact e.symm
/-- What a call of such a machine leaves of memory lies above what was there. -/
theorem NewMach.below {w w1 w2 : World} {xb mb bb c eb : Nat} {V : Value} {code : List Int} {s : MSt} (h : NewMach w w1 xb mb bb c eb V code s) (hb : But (fun k => k = xb ∨ k = bb ∨ CodeIn V k) w1 w2) : Below w.heap.size w w2 :=
  But.below h.2.2.2.2.2 hb h.2.2.2.2.2.size fun k hk => by
    rcases hk with rfl | rfl | hk
    · exact h.2.1
    · exact h.2.2.2.1
    · exact h.2.2.2.2.1 k hk
theorem NewMach.next {w w1 w2 : World} {xb mb bb c eb : Nat} {V : Value} {code : List Int} {s s' : MSt} (h : NewMach w w1 xb mb bb c eb V code s) (hm : Mach w2 xb mb bb c eb V code s') (hb : But (fun k => k = xb ∨ k = bb ∨ CodeIn V k) w1 w2) : NewMach w w2 xb mb bb c eb V code s' :=
  ⟨hm, h.2.1, h.2.2.1, h.2.2.2.1, h.2.2.2.2.1, h.below hb⟩
theorem NewMach.quiet {w w1 w2 : World} {xb mb bb c eb : Nat} {V : Value} {code : List Int} {s : MSt} (h : NewMach w w1 xb mb bb c eb V code s) (hb : Below w1.heap.size w1 w2) : NewMach w w2 xb mb bb c eb V code s :=
  ⟨h.1.below hb, h.2.1, h.2.2.1, h.2.2.2.1, h.2.2.2.2.1, h.2.2.2.2.2.trans (hb.mono h.2.2.2.2.2.size)⟩
theorem enc_bds {l : List RvV} (h : ∀ y ∈ l, y.ok) : ∀ x ∈ l.map encV, 0 ≤ x ∧ x < 4294967296 := by
  intro x hx
  obtain ⟨y, hy, rfl⟩ := List.mem_map.1 hx
  have := enc_facts (h y hy)
  exact ⟨this.2.2.2.2.1, this.2.2.2.2.2⟩
set_option maxRecDepth 100000 in
set_option maxHeartbeats 4000000 in
theorem machine_any (by' : Int) (hok : ∀ y ∈ sixI by', y.ok) (hin : ∀ y ∈ sixI by', RvIn y) (w : World) :
    Calls Tryz.prog 20 #[.int .i64 by'] w (MachDone w (sixW by') z64) := by
  have HSX := Lib.hid (fun u => six_any by' hok hin u)
  have HBD := Lib.hid (enc_bds hok)
  have hm := eqlM_nil
  have hp := eqlP_nil
  clear hok hin
  go_enter Tryz.func20, Tryz.ntmps20
  go_wp2_with (first
    | (go_at_call 48; refine (new_yes 64 w (by decide) (by decide)).mono ?_; rintro e w1 ⟨mb, bb, c, rfl, hm, q1, q2, hb⟩; have M1 := Lib.hid hm; have B1 := Lib.hid hb; clear hm hb)
    | (go_at_call 49; (with_reducible refine (newMach_any M1.out).mono ?_); rintro e w2 ⟨xb, eb, rfl, hm, q3, hb, _⟩; have M2 := Lib.hid hm; have B2 := Lib.hid (B1.out.trans (hb.mono B1.out.size)); have s2 := B1.out.size; clear hm hb)
    | (go_at_call 50; (with_reducible refine (HSX.out w2).mono ?_); rintro e w3 ⟨v, rfl, ho, hb⟩; have M3 := Lib.hid (M2.out.below hb); have B3 := Lib.hid (B2.out.trans (hb.mono B2.out.size)); have s3 := hb.size; obtain ⟨A3, cap3, rfl⟩ := (IsNums.of_owns ho (Nat.le_refl _)).len; clear ho hb)
    | (go_at_call 50; (with_reducible refine (HSX.out w3).mono ?_); rintro e w4 ⟨v, rfl, ho, hb⟩; have M4 := Lib.hid (M3.out.below hb); have B4 := Lib.hid (B3.out.trans (hb.mono B3.out.size)); have s4 := hb.size; have hL := loadCode_any M4.out (IsNums.of_owns ho (Nat.le_refl _)) (Nat.le_refl _) (fun b o n k he _ => by subst he; have e1 := (ho.lt (g := b) (by simp [Value.ownBlock])).1; have e2 := M2.out.lt.1; omega) HBD.out (show 6 ≤ 65536 by decide); have HL := Lib.hid hL; clear ho hb hL)
    | (go_at_call 51; (with_reducible refine HL.out.mono ?_); rintro e w5 ⟨rfl, hm, hb, _⟩; have M5 := Lib.hid hm; have B5 := Lib.hid hb; clear hm hb))
  go_ret2
  refine ⟨xb, mb, bb, c, eb, _, rfl, M5.out, Nat.le_trans s2 q3, q1, q2, fun k hk => ?_, But.below B4.out B5.out B4.out.size (fun k hk => by rw [show k = xb from hk]; omega)⟩
  rw [hk.one]
  exact B4.out.size
set_option maxRecDepth 100000 in
set_option maxHeartbeats 4000000 in
theorem awake4_any (w : World) : Calls Tryz.prog 9 #[] w fun e w' => e = .returned (.bool true) ∧ Below w.heap.size w w' := by
  have hm := eqlM_nil
  have hp := eqlP_nil
  go_enter Tryz.func9, Tryz.ntmps9
  go_wp2_with (first
    | (go_at_call 20; (with_reducible refine (machine_any 2 six_ok2 six_in2 _).mono ?_); rintro e w1 ⟨xb, mb, bb, c, eb, V, rfl, hn⟩; have N1 := Lib.hid hn; have hr := run_any hn.1 4 4 (.inl rfl) (by decide) (by decide); rw [run2] at hr; have HR := Lib.hid hr; clear hn hr)
    | (go_at_call 15; (with_reducible refine HR.out.mono ?_); rintro e w2 ⟨rfl, hm2', hb2⟩; have hm2 : Mach w2 xb mb bb c eb V (sixW 2) s4 := hm2'; have N2 := Lib.hid (N1.out.next hm2 hb2); have hl := load_any hm2.mem 20 1 (by decide) (by decide) (by decide); rw [s4_v, s4_e] at hl; have HL := Lib.hid hl; have h3 := reg_any hm2 3; rw [s4_r3] at h3; have H3 := Lib.hid h3; have hst := step_any hm2; have H4 := Lib.hid hst; clear hm2 hm2' hb2 hl h3 hst)
    | (go_at_call 27; (with_reducible refine HL.out.mono ?_); rintro e w' ⟨rfl, rfl⟩)
    | (go_at_call 21; (with_reducible refine H3.out.mono ?_); rintro e w' ⟨rfl, rfl⟩)
    | (go_at_call 13; refine H4.out.mono ?_; rintro e w3 ⟨he3, hm3, hb3⟩; rw [s4_ran] at he3; subst he3; have N3 := Lib.hid (N2.out.next hm3 hb3); have h5 := place_any hm3; rw [s4_pc] at h5; have H5 := Lib.hid h5; clear hm3 hb3 h5)
    | (go_at_call 24; (with_reducible refine H5.out.mono ?_); rintro e w' ⟨rfl, rfl⟩))
  go_ret
  exact ⟨rfl, N3.out.2.2.2.2.2⟩
end Go.Proofs.YtnaceogkaiodnaaGreat

namespace Go.Proofs.YtnaceogkaiodnaaGreat
open Go.RowKit
set_option linter.unusedVariables false

def t2 : MSt := exS (sixI 4) z64 2
theorem t2_set : setV t2 0 7 = (0, t2) := by unfold setV MSt.set; simp
theorem t2_bad : setV t2 32 0 = (2, t2) := by unfold setV; simp
theorem t2_r0 : regV t2 0 = 0 := by decide +kernel
theorem t2_odd : stepV (sixW 4) (t2.at' 2) = (3, t2.at' 2) := by unfold stepV; rw [if_pos (by decide)]
theorem t2_out : stepV (sixW 4) ((t2.at' 2).at' 4) = (4, (t2.at' 2).at' 4) := by unfold stepV; rw [if_neg (by decide), if_pos (.inl (by decide))]
set_option maxRecDepth 100000 in
set_option maxHeartbeats 4000000 in
theorem known4_any (w : World) : Calls Tryz.prog 5 #[] w fun e w' => e = .returned (.bool true) ∧ Below w.heap.size w w' := by
  have hm := eqlM_nil
  have hp := eqlP_nil
  go_enter Tryz.func5, Tryz.ntmps5
  go_wp2_with (first
    | (go_at_call 20; (with_reducible refine (machine_any 4 six_ok4 six_in4 _).mono ?_); rintro e w1 ⟨xb, mb, bb, c, eb, V, rfl, hn⟩; have N1 := Lib.hid hn; have hr := run_any hn.1 3 3 (.inl rfl) (by decide) (by decide); rw [run4] at hr; have HR := Lib.hid hr; clear hn hr)
    | (go_at_call 15; (with_reducible refine HR.out.mono ?_); rintro e w2 ⟨rfl, hm2', hb2⟩; have hm2 : Mach w2 xb mb bb c eb V (sixW 4) t2 := hm2'; have N2 := Lib.hid (N1.out.next hm2 hb2); have h1 := reg_any hm2 1; rw [show regV t2 1 = 5 from t2_r1] at h1; have H1 := Lib.hid h1; have h2 := reg_any hm2 2; rw [show regV t2 2 = 80 from t2_r2] at h2; have H2 := Lib.hid h2; have h3 := set_any hm2 0 7 ⟨by decide, by decide⟩; rw [t2_set] at h3; have H3 := Lib.hid h3; clear hm2 hm2' hb2 h1 h2 h3)
    | (go_at_call 21; (with_reducible refine H1.out.mono ?_); rintro e w' ⟨rfl, rfl⟩)
    | (go_at_call 21; (with_reducible refine H2.out.mono ?_); rintro e w' ⟨rfl, rfl⟩)
    | (go_at_call 17; (with_reducible refine H3.out.mono ?_); rintro e w3 ⟨rfl, hm2', hb2⟩; have hm2 : Mach w3 xb mb bb c eb V (sixW 4) t2 := hm2'; have N3 := Lib.hid (N2.out.next hm2 hb2); have h1 := reg_any hm2 0; rw [t2_r0] at h1; have H4 := Lib.hid h1; have h3 := set_any hm2 32 0 ⟨by decide, by decide⟩; rw [t2_bad] at h3; have H5 := Lib.hid h3; clear hm2 hm2' hb2 h1 h3)
    | (go_at_call 21; (with_reducible refine H4.out.mono ?_); rintro e w' ⟨rfl, rfl⟩)
    | (go_at_call 17; (with_reducible refine H5.out.mono ?_); rintro e w4 ⟨rfl, hm2', hb2⟩; have hm2 : Mach w4 xb mb bb c eb V (sixW 4) t2 := hm2'; have N4 := Lib.hid (N3.out.next hm2 hb2); have H6 := Lib.hid (jump_any hm2 2 ⟨by decide, by decide⟩); clear hm2 hm2' hb2)
    | (go_at_call 19; (with_reducible refine H6.out.mono ?_); rintro e w5 ⟨rfl, hm2', hb2⟩; have hm2 : Mach w5 xb mb bb c eb V (sixW 4) (t2.at' 2) := hm2'; have N5 := Lib.hid (N4.out.next hm2 hb2); have h1 := step_any hm2; rw [t2_odd] at h1; have H7 := Lib.hid h1; clear hm2 hm2' hb2 h1)
    | (go_at_call 13; (with_reducible refine H7.out.mono ?_); rintro e w6 ⟨rfl, hm2', hb2⟩; have hm2 : Mach w6 xb mb bb c eb V (sixW 4) (t2.at' 2) := hm2'; have N6 := Lib.hid (N5.out.next hm2 hb2); have H8 := Lib.hid (jump_any hm2 4 ⟨by decide, by decide⟩); clear hm2 hm2' hb2)
    | (go_at_call 19; (with_reducible refine H8.out.mono ?_); rintro e w7 ⟨rfl, hm2', hb2⟩; have hm2 : Mach w7 xb mb bb c eb V (sixW 4) ((t2.at' 2).at' 4) := hm2'; have N7 := Lib.hid (N6.out.next hm2 hb2); have h1 := step_any hm2; rw [t2_out] at h1; have H9 := Lib.hid h1; clear hm2 hm2' hb2 h1)
    | (go_at_call 13; (with_reducible refine H9.out.mono ?_); rintro e w8 ⟨rfl, hm2', hb2⟩; have hm2 : Mach w8 xb mb bb c eb V (sixW 4) ((t2.at' 2).at' 4) := hm2'; have N8 := Lib.hid (N7.out.next hm2 hb2); have h1 := run_any hm2 0 0 (.inl rfl) (by decide) (by decide); have HX := Lib.hid h1; clear hm2 hm2' hb2 h1)
    | (go_at_call 15; (with_reducible refine HX.out.mono ?_); rintro e w9 ⟨rfl, hm2', hb2⟩; have N9 := Lib.hid (N8.out.next hm2' hb2); clear hm2' hb2)
    | (go_at_call 9; (with_reducible refine (awake4_any _).mono ?_); rintro e wa ⟨rfl, hb⟩; have NA := Lib.hid (N9.out.quiet hb); clear hb))
  go_ret
  exact ⟨rfl, NA.out.2.2.2.2.2⟩
end Go.Proofs.YtnaceogkaiodnaaGreat

