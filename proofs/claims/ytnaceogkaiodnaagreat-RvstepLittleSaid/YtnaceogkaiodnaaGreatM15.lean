/- The statement RvstepLittle of layer 4: what a step changes is little. In whatever memory of the program. -/
import Derived.Test.YtnaceogkaiodnaaGreatM14
namespace Go.Proofs.YtnaceogkaiodnaaGreat
open Go.RowKit
set_option linter.unusedVariables false

/-- How many there are; the first one; the last one. -/
def cntW (f : Nat → Bool) : Nat → Int
  | 0 => 0
  | k + 1 => if f k = true then cntW f k + 1 else cntW f k
def firstW (f : Nat → Bool) : Nat → Int
  | 0 => -1
  | k + 1 => if f k = true then (if firstW f k < 0 then (k : Int) else firstW f k) else firstW f k
def lastW (f : Nat → Bool) : Nat → Int
  | 0 => -1
  | k + 1 => if f k = true then (k : Int) else lastW f k
theorem cntW_bd (f : Nat → Bool) (n : Nat) : 0 ≤ cntW f n ∧ cntW f n ≤ n := by
  induction n with
  | zero => simp [cntW]
  | succ n ih => simp only [cntW]; split <;> omega
theorem firstW_bd (f : Nat → Bool) (n : Nat) : -1 ≤ firstW f n ∧ firstW f n < n := by
  induction n with
  | zero => simp [firstW]
  | succ n ih =>
    simp only [firstW]
    split
    · split <;> omega
    · omega
theorem lastW_bd (f : Nat → Bool) (n : Nat) : -1 ≤ lastW f n ∧ lastW f n < n := by
  induction n with
  | zero => simp [lastW]
  | succ n ih => simp only [lastW]; split <;> omega
theorem cntW_none {f : Nat → Bool} {n : Nat} (h : ∀ k, k < n → f k = false) : cntW f n = 0 := by
  induction n with
  | zero => rfl
  | succ n ih => simp only [cntW]; rw [if_neg (by rw [h n (by omega)]; decide)]; exact ih fun k hk => h k (by omega)
theorem firstW_none {f : Nat → Bool} {n : Nat} (h : ∀ k, k < n → f k = false) : firstW f n = -1 := by
  induction n with
  | zero => rfl
  | succ n ih => simp only [firstW]; rw [if_neg (by rw [h n (by omega)]; decide)]; exact ih fun k hk => h k (by omega)
theorem cntW_one {f : Nat → Bool} {n m : Nat} (h : ∀ k, k < n → k ≠ m → f k = false) : cntW f n ≤ 1 := by
  induction n with
  | zero => simp [cntW]
  | succ n ih =>
    simp only [cntW]
    split
    · rename_i hf
      by_cases hm : n = m
      · rw [cntW_none fun k hk => h k (by omega) (by omega)]
        omega
      · rw [h n (by omega) hm] at hf
        cases hf
    · exact ih fun k hk => h k (by omega)
theorem spanW {f : Nat → Bool} {n lo : Nat} (h : ∀ k, k < n → f k = true → lo ≤ k ∧ k < lo + 8) : (firstW f n < 0 ∨ lo ≤ firstW f n) ∧ lastW f n ≤ lo + 7 := by
  induction n with
  | zero => simp [firstW, lastW]; omega
  | succ n ih =>
    have ih := ih fun k hk => h k (by omega)
    simp only [firstW, lastW]
    split
    · rename_i hf
      have := h n (by omega) hf
      split <;> omega
    · exact ih
/-- Which registers turned, which bytes. -/
def turnR (s t : MSt) (k : Nat) : Bool := decide (regV s (k : Int) ≠ regV t (k : Int))
def turnB (s t : MSt) (k : Nat) : Bool := decide (s.xs.getD (16 + k) 0 ≠ t.xs.getD (16 + k) 0)
theorem turn_self (s : MSt) (n : Nat) : cntW (turnR s s) n = 0 ∧ firstW (turnB s s) n = -1 :=
  ⟨cntW_none fun k _ => by simp [turnR], firstW_none fun k _ => by simp [turnB]⟩
/-- What a step turns is little. -/
theorem turn_little {s t : MSt} (h : LittleV s t) (n m : Nat) : cntW (turnR s t) n ≤ 1 ∧ (0 ≤ firstW (turnB s t) m → lastW (turnB s t) m - firstW (turnB s t) m ≤ 7 ∧ cntW (turnR s t) n ≤ 0) := by
  rcases h with ⟨hx, j, hr⟩ | ⟨hr, a, ys, hy, ha, hx⟩
  · refine ⟨cntW_one (m := j) fun k _ hk => ?_, fun h0 => ?_⟩
    · have e : regV s (k : Int) = regV t (k : Int) := by
        unfold regV
        rw [show ((k : Int)).toNat = k by omega, hr k hk]
      simp [turnR, e]
    · rw [firstW_none fun k _ => by simp [turnB, hx]] at h0
      omega
  · have hc : cntW (turnR s t) n = 0 := cntW_none fun k _ => by simp [turnR, regV, hr]
    have hs := spanW (f := turnB s t) (n := m) (lo := a - 16) fun k _ hk => by
      simp only [turnB, decide_eq_true_eq] at hk
      rw [hx, getD_lay ha] at hk
      by_cases h1 : 16 + k < a
      · rw [if_pos h1] at hk
        exact absurd rfl hk
      · rw [if_neg h1] at hk
        by_cases h2 : 16 + k < a + ys.length
        · omega
        · rw [if_neg h2] at hk
          exact absurd rfl hk
    exact ⟨by omega, fun h0 => ⟨by omega, by omega⟩⟩
theorem little_len {s t : MSt} (h : LittleV s t) : t.xs.length = s.xs.length := by
  rcases h with ⟨hx, _⟩ | ⟨_, a, ys, _, ha, hx⟩
  · rw [hx]
  · rw [hx, layL_len ha]
theorem sets_len (z : MSt) (regs : List Int) (n : Nat) : (setsV z regs n).xs = z.xs := by
  induction n with
  | zero => rfl
  | succ n ih =>
    simp only [setsV, setV]
    split
    · show (MSt.set _ _ _).xs = _
      rw [set_xs, ih]
    · exact ih
set_option maxRecDepth 100000 in
theorem begin_len (S : StartV) : (beginV S).xs.length = 128 := by
  have h0 : (begin0 S).xs.length = 128 := by
    show (layB (List.replicate 128 0) 16 S.bs).length = 128
    unfold layB
    split
    · rename_i h
      have := accE_zero h
      have hr : (List.replicate 128 (0 : Int)).length = 128 := List.length_replicate
      rw [layL_len (by omega), hr]
    · exact List.length_replicate
  unfold beginV
  split
  · show (setsV _ _ _).xs.length = _
    rw [sets_len, h0]
  · rw [sets_len, h0]
theorem regsL_getD (s : MSt) {k : Nat} (h : k < 32) : (regsL s 32).getD k 0 = regV s (k : Int) := by
  simp [regsL, List.getD, h]
theorem nums_cells {w w0 : World} {v : Value} {xs : List Int} {n : Nat} (h : Owns w w0.heap.size 24 1 (IsNum .u64) v xs.length (xs.map (Value.int .u64))) (hn : xs.length = n) (hp : 0 < n) :
    ∃ g cap, v = .slice (some ⟨g, 0, none⟩) n cap ∧ w0.heap.size ≤ g ∧ g < w.heap.size ∧ n ≤ cap ∧ ∀ k, k < n → w.cell? ⟨g, k, none⟩ = some (.int .u64 (xs.getD k 0)) := by
  subst hn
  rcases h.1.2 with ⟨_, hn⟩ | ⟨g, cap, cur, rfl, h1, h2, h3, h4, h5, _⟩
  · exact absurd hn (by omega)
  · have hl := h.lt (g := g) (by simp [Value.ownBlock])
    refine ⟨g, cap, rfl, hl.1, hl.2, by omega, fun i hi => ?_⟩
    have := h.1.cells (g := g) rfl i _ (by simp [List.getElem?_eq_getElem hi, List.getD] : (xs.map (Value.int .u64))[i]? = some (.int .u64 (xs.getD i 0)))
    have e : (⟨g, 0, none⟩ : Addr).add i = ⟨g, i, none⟩ := by unfold Addr.add; split <;> simp_all
    rwa [e] at this
theorem told112 {w w0 : World} {v : Value} {xs : List Int} (h : Owns w w0.heap.size 5 1 IsU8 v (partL xs 16 112).length ((partL xs 16 112).map (Value.int .u8))) (hx : xs.length = 128) :
    ∃ g cap, v = .slice (some ⟨g, 0, none⟩) 112 cap ∧ w0.heap.size ≤ g ∧ g < w.heap.size ∧ 112 ≤ cap ∧ ∀ k, k < 112 → w.cell? ⟨g, k, none⟩ = some (.int .u8 (xs.getD (16 + k) 0)) := by
  have hl : (partL xs 16 112).length = 112 := partL_len (k := 16) (m := 112) (by omega)
  obtain ⟨g, cap, hv, hg, hr, hc⟩ := owns_row h (by omega)
  rw [hl] at hv
  refine ⟨g, cap, hv, hg, hr.lt, by obtain ⟨_, _, _, _, h4⟩ := hr; omega, fun k hk => ?_⟩
  have e : (partL xs 16 112).getD k 0 = xs.getD (16 + k) 0 := getD_part (a := 16) (n := 112) hk
  rw [hr.cell (by omega), e]
theorem bytes112 {mb bb c : Nat} {xs : List Int} {w : World} (h : MemAt w mb bb c xs) (hx : xs.length = 128) :
    Calls Tryz.prog 25 #[.pointer (some ⟨mb, 0, none⟩), .int .u64 16, .int .i64 112] w (BytesDone w (partL xs 16 112) 0) := by
  have e2 : accE xs.length 16 112 = 0 := accE_ok (by omega) (by omega) (by omega) (by omega)
  have := bytes_any h 16 112 (by omega) (by omega) (by omega)
  unfold bytesL at this
  rw [if_pos e2, e2] at this
  exact this
/-- What the loops read. -/
structure Told (w : World) (s t : MSt) (g1 g2 g3 g4 : Nat) : Prop where
  a : ∀ k, k < 32 → w.cell? ⟨g1, k, none⟩ = some (.int .u64 (regV s (k : Int)))
  b : ∀ k, k < 112 → w.cell? ⟨g2, k, none⟩ = some (.int .u8 (s.xs.getD (16 + k) 0))
  c : ∀ k, k < 32 → w.cell? ⟨g3, k, none⟩ = some (.int .u64 (regV t (k : Int)))
  d : ∀ k, k < 112 → w.cell? ⟨g4, k, none⟩ = some (.int .u8 (t.xs.getD (16 + k) 0))
theorem ne_beq {a b : Int} (h : a ≠ b) : (a == b) = false := beq_eq_false_iff_ne.2 h
set_option maxRecDepth 100000 in
set_option maxHeartbeats 8000000 in
theorem little_any {w : World} {S : StartV} (hS : S.ok w w.heap.size) (n1 : Int) (hn1 : -9223372036854775808 ≤ n1) (hn1' : n1 < 9223372036854775808) :
    Calls Tryz.prog 6 #[.agg #[S.vc, S.vr, .bool S.far, .int .u64 S.at', S.vb], .int .i64 n1] w fun e w' => e = .returned (.bool true) ∧ Below w.heap.size w w' := by
  have hbx := BoxAt.new w S
  have hbW := (Below.refl w.heap.size w).alloc (Nat.le_refl _) (.cells #[S.vc, S.vr, .bool S.far, .int .u64 S.at', S.vb] 27)
  have hsz : w.heap.size < (w.alloc (.cells #[S.vc, S.vr, .bool S.far, .int .u64 S.at', S.vb] 27)).heap.size := by simp
  have HP1 := Lib.hid (fun u => pick_any n1 61 u (by decide) (by decide) hn1 hn1')
  have p1 := pick_bd (x := n1) (n := 61) (by decide)
  have hm := eqlM_nil
  have hp := eqlP_nil
  go_enter Tryz.func6, Tryz.ntmps6
  go_wp2_with (go_at_call 5; fail)
  generalize w.alloc (.cells #[S.vc, S.vr, .bool S.far, .int .u64 S.at', S.vb] 27) = W at *
  refine (known4_any W).mono ?_
  rintro e w1 ⟨rfl, hb1⟩
  have bel1 := hbW.trans (hb1.mono hbW.size)
  have hbx1 := hbx.below hsz hb1
  have hsz1 := Nat.lt_of_lt_of_le hsz hb1.size
  have hS1 := (hS.below bel1 (Nat.le_refl _)).more bel1.size
  have hl := long4_any hS1
  have B1 := Lib.hid bel1
  have X1 := Lib.hid hbx1
  have S1 := Lib.hid hS1
  obtain ⟨k0, k1, k2, k3, k4⟩ := hbx1
  clear hS hbx hbW hb1 bel1 hS1 hsz
  cases hlg : longV S
  · rw [hlg] at hl
    have HL := Lib.hid hl
    have hlim := longV_false hlg
    clear hl hlg
    obtain ⟨q1, hq1⟩ := nat_of p1.1
    have lq1 : q1 ≤ 60 := by omega
    rw [hq1] at HP1
    clear p1 hq1
    go_wp2_with (first
      | (go_at_call 8; (with_reducible refine HL.out.mono ?_); rintro e w2 ⟨rfl, hb2⟩; have X2 := Lib.hid (X1.out.below hsz1 hb2); have hsz2 := Nat.lt_of_lt_of_le hsz1 hb2.size; have hS2 := (S1.out.below hb2 (Nat.le_refl _)).more hb2.size; have G1 := Lib.hid (begin_any hS2 hlim.1 hlim.2.1 hlim.2.2); have B2 := Lib.hid (B1.out.trans (hb2.mono B1.out.size)); clear hb2 hS2 k0 k1 k2 k3 k4; obtain ⟨k0, k1, k2, k3, k4⟩ := X2.out)
      | (go_at_call 22; (with_reducible refine G1.out.mono ?_); rintro e w3 ⟨xb, mb, bb, c, eb, V, rfl, hn, _, hn2'⟩; have N3 := Lib.hid hn; have N3' := Lib.hid hn2'; clear hn hn2' k0 k1 k2 k3 k4)
      | (go_at_call 12; (with_reducible refine (HP1.out _).mono ?_); rintro e w' ⟨rfl, rfl⟩))
    go_loopw [8] (fun i wr => ∃ (k : Nat) (s : MSt), k ≤ 60 ∧ i = .int .i64 k ∧ Hid (NewMach w2 wr xb mb bb c eb V S.code s ∧ s.xs.length = 128 ∧ w3.heap.size ≤ wr.heap.size)) (fun i _ => (intOf i).toNat)
    case atStart => exact ⟨q1, beginV S, lq1, rfl, ⟨N3.out, begin_len S, Nat.le_refl _⟩⟩
    case round =>
      obtain ⟨k, s, hk, rfl, hq⟩ := hrel
      by_cases hlt : 0 < k
      · have kk : (0 : Int) < (k : Int) := by omega
        have hmk := hq.out.1.1
        have hsl := hq.out.2.1
        have hlts := hmk.lt
        have hrl : ∀ b, (b = xb ∨ b = bb ∨ CodeIn V b) → b < wr.heap.size := fun b hb => by
          rcases hb with rfl | rfl | hb
          · exact hlts.1
          · exact hlts.2.2.1
          · exact Nat.lt_of_lt_of_le (N3'.out b hb) hq.out.2.2
        have RL := Lib.hid hrl
        have R1 := Lib.hid (regs_any hmk)
        have P1 := Lib.hid (fun (u : World) (hu : Below wr.heap.size wr u) => place_any (hmk.below hu))
        have BY1 := Lib.hid (fun (u : World) (hu : Below wr.heap.size wr u) => bytes112 (hmk.below hu).mem hsl)
        have ST1 := Lib.hid (fun (u : World) (hu : Below wr.heap.size wr u) => step_any (hmk.below hu))
        have hlit := step_little S.code s
        have hstay := step_stays S.code s
        obtain ⟨r, hr⟩ : ∃ r, r = stepV S.code s := ⟨_, rfl⟩
        unfold StepDone at ST1
        rw [← hr] at ST1 hlit hstay
        have HR := Lib.hid hr
        clear hr
        obtain ⟨E, t⟩ := r
        dsimp only at ST1 hlit hstay
        have htl : t.xs.length = 128 := (little_len hlit).trans hsl
        clear hmk hrl hlts
        go_wp2_with (first
          | (go_at_call 23; (with_reducible refine R1.out.mono ?_); rintro e w4 ⟨v1, rfl, ho1, hb4⟩; obtain ⟨g1, e1, rfl, gg1, gl1, gc1, hc1⟩ := nums_cells ho1 (regsL_len _ _) (by decide); have C1 := Lib.hid hc1; have B4 := Lib.hid hb4; have PP := Lib.hid (P1.out w4 hb4); have BB := Lib.hid (BY1.out w4 hb4); clear ho1 hb4 hc1)
          | (go_at_call 24; (with_reducible refine PP.out.mono ?_); rintro e w' ⟨rfl, rfl⟩)
          | (go_at_call 25; (with_reducible refine BB.out.mono ?_); rintro e w5 ⟨v2, rfl, ho2, hb5⟩; obtain ⟨g2, e2, rfl, gg2, gl2, gc2, hc2⟩ := told112 ho2 hsl; have C2 := Lib.hid hc2; have D1 := Lib.hid (fun k hk => (hb5.cell (p := ⟨g1, k, none⟩) gl1).trans (C1.out k hk)); have B5 := Lib.hid (B4.out.trans (hb5.mono B4.out.size)); have SS := Lib.hid (ST1.out w5 B5.out); have s4 := B4.out.size; have s5 := hb5.size; clear ho2 hb5 hc2)
          | (go_at_call 13; go_loud ((with_reducible refine SS.out.mono ?_); rintro e w6 ⟨rfl, hm6, hb6⟩; have M6 := Lib.hid hm6; have N6 := Lib.hid ((hq.out.1.quiet B5.out).next hm6 hb6); have D2 := Lib.hid (fun k hk => (hb6.cell (p := ⟨g1, k, none⟩) (show g1 < _ by omega) (fun h => by have := RL.out g1 h; omega)).trans (D1.out k hk)); have C3 := Lib.hid (fun k hk => (hb6.cell (p := ⟨g2, k, none⟩) (show g2 < _ by omega) (fun h => by have := RL.out g2 h; omega)).trans (C2.out k hk)); have R2 := Lib.hid (regs_any hm6); have s6 := hb6.size; clear hm6 hb6))
          | (go_at_call 23; (with_reducible refine R2.out.mono ?_); rintro e w7 ⟨v3, rfl, ho3, hb7⟩; obtain ⟨g3, e3, rfl, gg3, gl3, gc3, hc3⟩ := nums_cells ho3 (regsL_len _ _) (by decide); have C4 := Lib.hid hc3; have D3 := Lib.hid (fun k hk => (hb7.cell (p := ⟨g1, k, none⟩) (show g1 < _ by omega)).trans (D2.out k hk)); have E3 := Lib.hid (fun k hk => (hb7.cell (p := ⟨g2, k, none⟩) (show g2 < _ by omega)).trans (C3.out k hk)); have BB2 := Lib.hid (bytes112 (M6.out.below hb7).mem htl); have N7 := Lib.hid (N6.out.quiet hb7); have s7 := hb7.size; clear ho3 hb7 hc3)
          | (go_at_call 25; (with_reducible refine BB2.out.mono ?_); rintro e w8 ⟨v4, rfl, ho4, hb8⟩; obtain ⟨g4, e4, rfl, gg4, gl4, gc4, hc4⟩ := told112 ho4 htl; have HT := Lib.hid (show Told w8 s t g1 g2 g3 g4 from ⟨fun k hk => (hb8.cell (p := ⟨g1, k, none⟩) (show g1 < _ by omega)).trans (by have := D3.out k hk; rwa [regsL_getD s hk] at this), fun k hk => (hb8.cell (p := ⟨g2, k, none⟩) (show g2 < _ by omega)).trans (E3.out k hk), fun k hk => (hb8.cell (p := ⟨g3, k, none⟩) gl3).trans (by have := C4.out k hk; rwa [regsL_getD t hk] at this), hc4⟩); have N8 := Lib.hid (N7.out.quiet hb8); have s8 := hb8.size; clear ho4 hb8 hc4))
        go_loopw [17, 20] (fun tv kv wr2 => ∃ j : Nat, j ≤ 32 ∧ tv = .int .i64 (cntW (turnR s t) j) ∧ kv = .int .i64 j ∧ Hid (∃ q, wr2 = w8.drewN q)) (fun _ kv _ => 32 - (intOf kv).toNat)
        case atStart => exact ⟨0, by omega, rfl, rfl, 0, rfl⟩
        case round =>
          obtain ⟨j, hj, rfl, rfl, hq2⟩ := hrel
          by_cases hltj : j < 32
          · have y1 : wr.cell? ⟨g1, j, none⟩ = some (.int .u64 (regV s (j : Int))) := by obtain ⟨q, rfl⟩ := hq2.out; exact HT.out.a j hltj
            have y2 : wr.cell? ⟨g3, j, none⟩ = some (.int .u64 (regV t (j : Int))) := by obtain ⟨q, rfl⟩ := hq2.out; exact HT.out.c j hltj
            have hst : cntW (turnR s t) (j + 1) = if turnR s t j = true then cntW (turnR s t) j + 1 else cntW (turnR s t) j := rfl
            have hbd := cntW_bd (turnR s t) j
            have i0 : (0 : Int) ≤ (j : Int) := by omega
            have i1 : (j : Int) < 32 := by omega
            by_cases heq : regV s (j : Int) = regV t (j : Int)
            · rw [show turnR s t j = false by simp [turnR, heq], if_neg (by decide)] at hst
              rw [heq] at y1
              have HST := Lib.hid hst
              clear hst heq
              generalize cntW (turnR s t) j = cj at *
              generalize regV t (j : Int) = x at y1 y2
              go_wp2_with fail
              go_quiet (fail)
              go_wp2_with fail
              go_roundw
              case rel => exact ⟨j + 1, by omega, by rw [HST.out], by go_num, by first | exact hid_drew hq2 _ | exact hid_drew (hid_drew hq2 _) _⟩
              case measure => simp [intOf]; omega
            · rw [show turnR s t j = true by simp [turnR, heq], if_pos rfl] at hst
              have hne := ne_beq heq
              have HST := Lib.hid hst
              clear hst heq
              generalize cntW (turnR s t) j = cj at *
              generalize regV s (j : Int) = x at y1 hne
              generalize regV t (j : Int) = x' at y2 hne
              go_wp2_with fail
              go_quiet (fail)
              go_wp2_with fail
              go_roundw
              case rel => exact ⟨j + 1, by omega, by first | (rw [HST.out]; go_num) | rw [HST.out], by go_num, by first | exact hid_drew hq2 _ | exact hid_drew (hid_drew hq2 _) _⟩
              case measure => simp [intOf]; omega
          · obtain rfl : j = 32 := by omega
            go_wp2_with fail
            go_loopw [18, 19, 21] (fun fv lv kv wr2 => ∃ j : Nat, j ≤ 112 ∧ fv = .int .i64 (firstW (turnB s t) j) ∧ lv = .int .i64 (lastW (turnB s t) j) ∧ kv = .int .i64 j ∧ Hid (∃ q, wr2 = w8.drewN q)) (fun _ _ kv _ => 112 - (intOf kv).toNat)
            case atStart => exact ⟨0, by omega, rfl, rfl, rfl, hq2⟩
            case round =>
              obtain ⟨j, hj, rfl, rfl, rfl, hq2⟩ := hrel
              by_cases hltj : j < 112
              · have y1 : wr.cell? ⟨g2, j, none⟩ = some (.int .u8 (s.xs.getD (16 + j) 0)) := by obtain ⟨q, rfl⟩ := hq2.out; exact HT.out.b j hltj
                have y2 : wr.cell? ⟨g4, j, none⟩ = some (.int .u8 (t.xs.getD (16 + j) 0)) := by obtain ⟨q, rfl⟩ := hq2.out; exact HT.out.d j hltj
                have hst : firstW (turnB s t) (j + 1) = if turnB s t j = true then (if firstW (turnB s t) j < 0 then (j : Int) else firstW (turnB s t) j) else firstW (turnB s t) j := rfl
                have hst2 : lastW (turnB s t) (j + 1) = if turnB s t j = true then (j : Int) else lastW (turnB s t) j := rfl
                have i0 : (0 : Int) ≤ (j : Int) := by omega
                have i1 : (j : Int) < 112 := by omega
                by_cases heq : s.xs.getD (16 + j) 0 = t.xs.getD (16 + j) 0
                · have hF : turnB s t j = false := by simp only [turnB, heq]; simp
                  rw [hF, if_neg (by decide)] at hst hst2
                  rw [heq] at y1
                  have HST := Lib.hid hst
                  have HST2 := Lib.hid hst2
                  clear hst hst2 heq hF
                  generalize firstW (turnB s t) j = fj at *
                  generalize lastW (turnB s t) j = lj at *
                  generalize t.xs.getD (16 + j) 0 = x at y1 y2
                  go_wp2_with fail
                  go_quiet (fail)
                  go_wp2_with fail
                  go_roundw
                  case rel => exact ⟨j + 1, by omega, by rw [HST.out], by rw [HST2.out], by go_num, by first | exact hid_drew hq2 _ | exact hid_drew (hid_drew hq2 _) _⟩
                  case measure => simp [intOf]; omega
                · have hF : turnB s t j = true := decide_eq_true heq
                  rw [hF, if_pos rfl] at hst hst2
                  have hne := ne_beq heq
                  have HST2 := Lib.hid hst2
                  clear hst2 heq hF
                  generalize lastW (turnB s t) j = lj at *
                  generalize s.xs.getD (16 + j) 0 = x at y1 hne
                  generalize t.xs.getD (16 + j) 0 = x' at y2 hne
                  by_cases hf0 : firstW (turnB s t) j < 0
                  · rw [if_pos hf0] at hst
                    have HST := Lib.hid hst
                    clear hst
                    generalize firstW (turnB s t) j = fj at *
                    go_wp2_with fail
                    go_quiet (fail)
                    go_wp2_with fail
                    go_roundw
                    case rel => exact ⟨j + 1, by omega, by rw [HST.out], by rw [HST2.out], by go_num, by first | exact hid_drew hq2 _ | exact hid_drew (hid_drew hq2 _) _⟩
                    case measure => simp [intOf]; omega
                  · rw [if_neg hf0] at hst
                    have HST := Lib.hid hst
                    clear hst
                    generalize firstW (turnB s t) j = fj at *
                    go_wp2_with fail
                    go_quiet (fail)
                    go_wp2_with fail
                    go_roundw
                    case rel => refine ⟨_, _, _, _, _, _, _, _, _, _, _, _, _, _, _, _, _, _, _, _, _, _, ?_, rfl⟩; exact ⟨j + 1, by omega, by rw [HST.out], by rw [HST2.out], by go_num, by first | exact hid_drew hq2 _ | exact hid_drew (hid_drew hq2 _) _⟩
                    case measure => simp [intOf]; omega
              · obtain rfl : j = 112 := by omega
                have hcl := turn_little hlit 32 112
                have hb1 := cntW_bd (turnR s t) 32
                have hb2 := firstW_bd (turnB s t) 112
                have hb3 := lastW_bd (turnB s t) 112
                have hr0 : regV t ((0 : Nat) : Int) = 0 := M6.out.ok.zero
                have y3 : wr.cell? ⟨g3, 0, none⟩ = some (.int .u64 0) := by obtain ⟨q, rfl⟩ := hq2.out; exact (HT.out.c 0 (by decide)).trans (by rw [hr0])
                have N9 := Lib.hid (show NewMach w2 wr xb mb bb c eb V S.code t by obtain ⟨q, rfl⟩ := hq2.out; exact N8.out.quiet (below_drewN (Below.refl _ _) q))
                have hsz9 : w8.heap.size ≤ wr.heap.size := by obtain ⟨q, rfl⟩ := hq2.out; exact Nat.le_refl _
                have SZ := Lib.hid hsz9
                clear hsz9
                by_cases hE : E = 0
                · subst hE
                  generalize cntW (turnR s t) 32 = ct at *
                  generalize firstW (turnB s t) 112 = ft at *
                  generalize lastW (turnB s t) 112 = lt at *
                  obtain ⟨c1, c2⟩ := hcl
                  obtain ⟨k', rfl⟩ : ∃ k', k = k' + 1 := ⟨k - 1, by omega⟩
                  by_cases hf : 0 ≤ ft
                  · obtain ⟨c3, c4⟩ := c2 hf
                    clear hlit hstay c2
                    go_wp2_with fail
                    go_roundw
                    case rel => exact ⟨k', t, by omega, by go_num, ⟨N9.out, htl, by have := SZ.out; have := hq.out.2.2; omega⟩⟩
                    case measure => first | (simp [intOf]; omega) | simp [intOf]
                  · clear hlit hstay c2
                    go_wp2_with fail
                    go_roundw
                    case rel => exact ⟨k', t, by omega, by go_num, ⟨N9.out, htl, by have := SZ.out; have := hq.out.2.2; omega⟩⟩
                    case measure => first | (simp [intOf]; omega) | simp [intOf]
                · have ht : t = s := hstay hE
                  have hpl := place_any N9.out.1
                  have hst := step_any N9.out.1
                  unfold StepDone at hst
                  rw [ht] at hpl hst
                  rw [← HR.out] at hst
                  dsimp only at hst
                  have hts := turn_self s
                  rw [ht, (hts 32).1, (hts 112).2]
                  have HPL := Lib.hid hpl
                  have HSS := Lib.hid hst
                  have hEb := ne_beq hE
                  generalize lastW (turnB s s) 112 = lt at *
                  clear hlit hstay hcl hb1 hb2 hb3 hpl hst hts
                  go_wp2_with (first
                    | (go_at_call 24; (with_reducible refine HPL.out.mono ?_); rintro e w' ⟨rfl, rfl⟩)
                    | (go_at_call 13; (with_reducible refine HSS.out.mono ?_); rintro e w10 ⟨rfl, hm10, hb10⟩; have N10 := Lib.hid (N9.out.next hm10 hb10)))
                  go_ret
                  exact ⟨rfl, B2.out.trans (N10.out.2.2.2.2.2.mono B2.out.size)⟩
      · obtain rfl : k = 0 := by omega
        go_wp2
        go_ret
        exact ⟨rfl, B2.out.trans (hq.out.1.2.2.2.2.2.mono B2.out.size)⟩
  · rw [hlg] at hl
    have HL := Lib.hid hl
    clear hl hlg
    go_wp2_with (go_at_call 8; (with_reducible refine HL.out.mono ?_); rintro e w2 ⟨rfl, hb2⟩; have B2 := Lib.hid (B1.out.trans (hb2.mono B1.out.size)))
    go_ret
    exact ⟨rfl, B2.out⟩
end Go.Proofs.YtnaceogkaiodnaaGreat

