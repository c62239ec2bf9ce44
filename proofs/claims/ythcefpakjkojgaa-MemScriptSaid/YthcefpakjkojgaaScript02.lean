/- The statement MemScript's body is true, for any size and any acts, whatever memory the call begins in. -/
import Derived.Test.YthcefpakjkojgaaDoesB02
import Derived.Test.YthcefpakjkojgaaAlike02
namespace Go.Proofs.Ythcefpakjkojgaa
open Go.RowKit
set_option linter.unusedVariables false

theorem eqlR_nil (a : Addr) (w : World) : (binOp .eql 29 (.pointer (some a)) (.pointer none)).run Try.prog w = .ok (.bool false) w := run_eql_pointer_nil w _ _ Try.underlying29
/-- More acts than are gone through. -/
theorem script_long (s : Int) (V : Value) (l : List ActV) (w : World) (hV : IsActs w w.heap.size V l) (hl : longB l = true) :
    Calls Try.prog 3 #[.int .i64 s, V] w fun e w' => e = .returned (.bool true) ∧ Below w.heap.size w w' := by
  have hc := long_any _ _ _ _ hV
  rw [hl] at hc
  have HC := Lib.hid hc
  clear hc hl hV
  go_enter Try.func3, Try.ntmps3
  go_wp2_with (first
    | (go_at_call 8; (with_reducible refine HC.out.mono ?_); rintro e w' ⟨rfl, rfl⟩)
    | (go_at_call 9; (with_reducible refine (awake_any _).mono ?_); rintro e w1 ⟨rfl, hb⟩; have HB := Lib.hid hb; clear hb))
  go_ret
  exact ⟨rfl, HB.out⟩
set_option maxRecDepth 100000 in
/-- No memory of such a size. -/
theorem script_none (s : Int) (V : Value) (l : List ActV) (w : World) (hV : IsActs w w.heap.size V l) (hl : longB l = false) (hs : s < 16 ∨ 65536 < s) :
    Calls Try.prog 3 #[.int .i64 s, V] w fun e w' => e = .returned (.bool true) ∧ Below w.heap.size w w' := by
  have hc := long_any _ _ _ _ hV
  rw [hl] at hc
  have HC := Lib.hid hc
  have HN := Lib.hid (fun w => new_no s w hs)
  have HR := Lib.hid (fun w => rnew_no s w hs)
  clear hc hl hV hs
  go_enter Try.func3, Try.ntmps3
  go_wp2_with (first
    | (go_at_call 8; (with_reducible refine HC.out.mono ?_); rintro e w' ⟨rfl, rfl⟩)
    | (go_at_call 10; (with_reducible refine (HN.out _).mono ?_); rintro e w' ⟨rfl, rfl⟩)
    | (go_at_call 11; (with_reducible refine (HR.out _).mono ?_); rintro e w' ⟨rfl, rfl⟩))
  go_loopw [9] (fun i wr => i = .int .i64 0 ∧ wr = w) (fun _ _ => 0)
  case atStart => exact ⟨rfl, rfl⟩
  case round =>
    obtain ⟨rfl, rfl⟩ := hrel
    go_wp2_with (go_at_call 9; (with_reducible refine (awake_any _).mono ?_); rintro e w1 ⟨rfl, hb⟩; have HB := Lib.hid hb; clear hb)
    go_ret
    exact ⟨rfl, HB.out⟩
theorem script_new (n : Nat) (w : World) (h : 16 ≤ n) (h' : n ≤ 65536) : Calls Try.prog 10 #[.int .i64 n] w (NewDone2 w (List.replicate n 0)) := new_yes n w h h'
/-- The loop's state: both memories, alike; what was there is as it was. -/
def ScriptAt (w wr : World) (mb rm rb rc : Nat) : Prop := ∃ bb c xs, Both wr mb bb c rm rb rc xs ∧ Below w.heap.size w wr ∧ w.heap.size ≤ bb ∧ w.heap.size ≤ rb
theorem ScriptAt.drew {w wr : World} {mb rm rb rc : Nat} (h : ScriptAt w wr mb rm rb rc) : w.heap.size ≤ wr.heap.size := by
  obtain ⟨_, _, _, _, hb, _⟩ := h
  exact hb.size
set_option maxRecDepth 100000 in
set_option maxHeartbeats 4000000 in
theorem script_empty (n : Nat) (A0 : Option Addr) (cap : Nat) (w : World) (h : 16 ≤ n) (h' : n ≤ 65536) :
    Calls Try.prog 3 #[.int .i64 n, .slice A0 0 cap] w fun e w' => e = .returned (.bool true) ∧ Below w.heap.size w w' := by
  have HN := Lib.hid (fun w => new_yes n w h h')
  have HR := Lib.hid (fun w => rnew_yes n w h h')
  clear h h'
  go_enter Try.func3, Try.ntmps3
  go_wp2_with (first
    | (go_at_call 8; (with_reducible refine (long_empty _ _ _).mono ?_); rintro e w' ⟨rfl, rfl⟩)
    | (go_at_call 10; (with_reducible refine (HN.out _).mono ?_); rintro e w1 ⟨mb, bb, c, rfl, hm, g1, g2, hb⟩; have B1 := Lib.hid hb; clear hm hb)
    | (go_at_call 11; (with_reducible refine (HR.out _).mono ?_); rintro e w2 ⟨rm, rb, rc, rfl, hm, q1, q2, hb⟩; have B2 := Lib.hid (below_next B1.out hb B1.out.size); clear hm hb))
  go_loopw [9] (fun i wr => i = .int .i64 0 ∧ wr = w2) (fun _ _ => 0)
  case atStart => exact ⟨rfl, rfl⟩
  case round =>
    obtain ⟨rfl, rfl⟩ := hrel
    go_wp2_with (go_at_call 9; (with_reducible refine (awake_any _).mono ?_); rintro e w3 ⟨rfl, hb⟩; have HB := Lib.hid hb; clear hb)
    go_ret
    exact ⟨rfl, below_next B2.out HB.out B2.out.size⟩
theorem IsBytes.over {w wr w' : World} {B : Nat} {X : Value} {xs : List Int} (h : IsBytes wr B X xs) (h1 : Below B w wr) (h2 : Below B w w') (hs : wr.heap.size ≤ w'.heap.size) : IsBytes w' B X xs :=
  h.below (B' := B) ⟨h2.os.trans h1.os.symm, h2.tape.trans h1.tape.symm, h2.output.trans h1.output.symm, hs, fun k hk => (h2.block k hk).trans (h1.block k hk).symm⟩ (Nat.le_refl _)
set_option maxRecDepth 100000 in
set_option maxHeartbeats 16000000 in
theorem script_some (n : Nat) (b off len cap : Nat) (l : List ActV) (w : World) (h : 16 ≤ n) (h' : n ≤ 65536) (hlen : len = l.length) (hcap : len ≤ cap) (hbs : b < w.heap.size)
    (hV : IsActs w w.heap.size (.slice (some ⟨b, off, none⟩) len cap) l) (hok : ∀ A ∈ l, A.ok w w.heap.size) (h60 : len ≤ 60) (h200 : ∀ A ∈ l, A.bs.length ≤ 200)
    (hc : ∀ i, i < len → ∀ j, j < 5 → w.cell? ⟨b, off + i * 5 + j, none⟩ = some ((l.getD i .zero).cell j)) (hlb : longB l = false) :
    Calls Try.prog 3 #[.int .i64 n, .slice (some ⟨b, off, none⟩) len cap] w fun e w' => e = .returned (.bool true) ∧ Below w.heap.size w w' := by
  have HN := Lib.hid (fun w => new_yes n w h h')
  have HR := Lib.hid (fun w => rnew_yes n w h h')
  have hlg := long_any _ _ _ _ hV
  rw [hlb] at hlg
  have HLG := Lib.hid hlg
  have HLEN := Lib.hid hlen
  have HOK := Lib.hid hok
  have H200 := Lib.hid h200
  have HC := Lib.hid hc
  clear hlg hV hlen hok h200 hc hlb h h'
  go_enter Try.func3, Try.ntmps3
  go_wp2_with (first
    | (go_at_call 8; (with_reducible refine HLG.out.mono ?_); rintro e w' ⟨rfl, rfl⟩)
    | (go_at_call 10; (with_reducible refine (HN.out _).mono ?_); rintro e w1 ⟨mb0, bb0, c0, rfl, hm, g1, g2, hb⟩; have M1 := Lib.hid hm; have B1 := Lib.hid hb; clear hm hb)
    | (go_at_call 11; (with_reducible refine (HR.out _).mono ?_); rintro e w2 ⟨rm, rb, rc, rfl, hm, q1, q2, hb⟩; have M2 := Lib.hid (M1.out.below hb); have R2 := Lib.hid hm; have B2 := Lib.hid (below_next B1.out hb B1.out.size); have lt1 := M1.out.lt; clear hm hb))
  have hst : Hid (ScriptAt w w2 mb0 rm rb rc) := ⟨bb0, c0, _, ⟨M2.out, R2.out, by omega⟩, B2.out, g2, Nat.le_trans B1.out.size q2⟩
  clear lt1 g1 g2 q1 q2
  go_loopw [5, 9] (fun p i wr => ∃ k mb : Nat, k ≤ len ∧ i = .int .i64 k ∧ p = .pointer (some ⟨mb, 0, none⟩) ∧ Hid (ScriptAt w wr mb rm rb rc)) (fun _ i _ => len - (intOf i).toNat)
  case atStart => exact ⟨0, mb0, by omega, rfl, rfl, hst⟩
  case round =>
    obtain ⟨k, mb, hk, rfl, rfl, hq⟩ := hrel
    by_cases hlt : k < len
    · obtain ⟨bb, c, xs, hboth, hbel, hbb, hrb⟩ := hq.out
      have hA : l.getD k .zero ∈ l := by rw [show l.getD k .zero = l[k]'(by have := HLEN.out; omega) by simp [List.getD, List.getElem?_eq_getElem (show k < l.length by have := HLEN.out; omega)]]; exact List.getElem_mem _
      have hAok := (HOK.out _ hA).below hbel (Nat.le_refl _)
      have hA200 := H200.out _ hA
      have hcells : ∀ j, j < 5 → wr.cell? ⟨b, off + k * 5 + j, none⟩ = some ((l.getD k .zero).cell j) := fun j hj => by
        rw [← HC.out k hlt j hj]; exact hbel.cell (p := ⟨b, _, none⟩) hbs
      obtain ⟨A, hAe⟩ : ∃ A, A = l.getD k .zero := ⟨_, rfl⟩
      rw [← hAe] at hAok hA200 hcells
      clear hA hAe
      obtain ⟨kd, n1, a1, v1, Y1, ys1⟩ := A
      simp only at hA200
      have d0 : wr.cell? ⟨b, off + k * 5, none⟩ = some (.int .i64 kd) := hcells 0 (by omega)
      have d1 : wr.cell? ⟨b, off + k * 5 + 1, none⟩ = some (.int .i64 n1) := hcells 1 (by omega)
      have d2 : wr.cell? ⟨b, off + k * 5 + 2, none⟩ = some (.int .u64 a1) := hcells 2 (by omega)
      have d3 : wr.cell? ⟨b, off + k * 5 + 3, none⟩ = some (.int .u64 v1) := hcells 3 (by omega)
      have d4 : wr.cell? ⟨b, off + k * 5 + 4, none⟩ = some Y1 := hcells 4 (by omega)
      have HB := Lib.hid hboth
      have HBL := Lib.hid hbel
      have HAO := Lib.hid hAok
      have hsz := hbel.size
      clear hcells hboth hbel hAok hq
      by_cases h6 : kd = 6
      · subst h6
        have hd : ∀ w' mk bk ck, Both w' mk bk ck rm rb rc xs → IsBytes w' w.heap.size Y1 ys1 → w.heap.size ≤ w'.heap.size → w.heap.size ≤ bk → Calls Try.prog 16 #[.pointer (some ⟨mk, 0, none⟩), .pointer (some ⟨rm, 0, none⟩), .agg #[.int .i64 6, .int .i64 n1, .int .u64 a1, .int .u64 v1, Y1]] w' (DoesDone w' mk bk ck rm rb rc xs.length) :=
          fun w' mk bk ck h hy hz hb => does_any ⟨6, n1, a1, v1, Y1, ys1⟩ mk bk ck rm rb rc w.heap.size xs w' h ⟨HAO.out.k, HAO.out.n, HAO.out.a, HAO.out.v, hy⟩ hz hb hrb hA200
        have HD := Lib.hid hd
        have lt := HB.out.lt
        obtain ⟨lt1, lt2, lt3, lt4⟩ := lt
        have hsx : ∀ w', MemAt w' mb bb c xs → Calls Try.prog 14 #[.pointer (some ⟨mb, 0, none⟩)] w' fun e w'' => e = .returned (.int .i64 xs.length) ∧ w' = w'' := fun w' h => size_yes h
        have hsame : ∀ w' m1 b1 c1 m2 b2 c2, MemAt w' m1 b1 c1 xs → MemAt w' m2 b2 c2 xs → Calls Try.prog 13 #[.pointer (some ⟨m1, 0, none⟩), .pointer (some ⟨m2, 0, none⟩)] w' (Drew w' (.bool true)) := fun w' m1 b1 c1 m2 b2 c2 h1 h2 => by
          have := same_yes h1 h2
          rw [beq_self_eq_true] at this
          exact this
        have HSM := Lib.hid hsame
        have hlo := HB.out.m.lo
        have hhi := HB.out.m.hi
        clear hd hA200 hsame
        by_cases hgt : 16 < xs.length
        · have hst : ∀ w' mk bk ck, MemAt w' mk bk ck xs → Calls Try.prog 15 #[.pointer (some ⟨mk, 0, none⟩), .int .u64 16, .int .i64 1, .int .u64 1] w' (StoreDone w' mk bk ck (layL xs 16 (bytesV 1 1)) 0) := fun w' mk bk ck h => store_ok h 16 1 1 (by omega) (by omega) (by omega) (by omega) rfl
          have HST := Lib.hid hst
          obtain ⟨Ln, hLn⟩ : ∃ Ln, Ln = xs.length := ⟨_, rfl⟩
          rw [← hLn] at hsx hgt hlo hhi
          have HSX := Lib.hid hsx
          have HLn := Lib.hid hLn
          have gti : (16 : Int) < (Ln : Int) := by omega
          clear hst hsx hLn hgt
          go_wp2_with (first
            | (go_at_call 12; (with_reducible refine (memCopy_yes HB.out.m).mono ?_); rintro e w3 ⟨mk, bk, ck, rfl, hk3, q1, q2, hb⟩; have K3 := Lib.hid hk3; have B3 := Lib.hid (HB.out.below hb); have L3 := Lib.hid (below_next HBL.out hb hsz); have s3 := L3.out.size; have t3 := hb.size; clear hk3 hb)
            | (go_at_call 13; (with_reducible refine (HSM.out _ _ _ _ _ _ _ K3.out B3.out.m).mono ?_); rintro e w' ⟨rfl, n4, rfl⟩; have K4 := Lib.hid (K3.out.drewN n4); have B4 := Lib.hid (B3.out.quiet ((But.refl NoBlock _).drewN n4)); have L4 := Lib.hid (below_drewN L3.out n4))
            | (go_at_call 13; (with_reducible refine (HSM.out _ _ _ _ _ _ _ B4.out.m K4.out).mono ?_); rintro e w' ⟨rfl, n5, rfl⟩; have K5 := Lib.hid (K3.out.drewN (n4 + n5)); have B5 := Lib.hid (B3.out.quiet ((But.refl NoBlock _).drewN (n4 + n5))); have L5 := Lib.hid (below_drewN L3.out (n4 + n5)))
            | (go_at_call 14; (refine (HSX.out _ B5.out.m).mono ?_); rintro e w' ⟨rfl, rfl⟩)
            | (go_at_call 15; (with_reducible refine (HST.out _ _ _ _ K5.out).mono ?_); rintro e w6 ⟨rfl, hk6, hb6⟩; have s6 := hb6.size; have z5 : w3.heap.size ≤ w6.heap.size := s6; have B6 := Lib.hid (B5.out.but hb6 (oneBlock_not (show mb ≠ bk by omega)) (oneBlock_not (show bb ≠ bk by omega)) (oneBlock_not (show rm ≠ bk by omega)) (oneBlock_not (show rb ≠ bk by omega))); have L6 := Lib.hid (below_store L5.out hb6 s3 (by omega)); have z6 := L6.out.size; clear hk6 hb6)
            | (go_at_call 12; (refine (memCopy_yes B6.out.m).mono ?_); rintro e w7 ⟨m7, b7, c7, rfl, hk7, r1, r2, hb⟩; have lt6 := B6.out.lt.2.2.2; have B7 := Lib.hid (show Both w7 m7 b7 c7 rm rb rc xs from ⟨hk7, (B6.out.below hb).r, by omega⟩); have L7 := Lib.hid (below_next L6.out hb z6); have z7 := L7.out.size; have f0 := (L7.out.cell (p := ⟨b, off + k * 5, none⟩) hbs).trans ((HBL.out.cell (p := ⟨b, off + k * 5, none⟩) hbs).symm.trans d0); have f1 := (L7.out.cell (p := ⟨b, off + k * 5 + 1, none⟩) hbs).trans ((HBL.out.cell (p := ⟨b, off + k * 5 + 1, none⟩) hbs).symm.trans d1); have f2 := (L7.out.cell (p := ⟨b, off + k * 5 + 2, none⟩) hbs).trans ((HBL.out.cell (p := ⟨b, off + k * 5 + 2, none⟩) hbs).symm.trans d2); have f3 := (L7.out.cell (p := ⟨b, off + k * 5 + 3, none⟩) hbs).trans ((HBL.out.cell (p := ⟨b, off + k * 5 + 3, none⟩) hbs).symm.trans d3); have f4 := (L7.out.cell (p := ⟨b, off + k * 5 + 4, none⟩) hbs).trans ((HBL.out.cell (p := ⟨b, off + k * 5 + 4, none⟩) hbs).symm.trans d4); have HD7 := Lib.hid (HD.out w7 m7 b7 c7 B7.out (HAO.out.b.over HBL.out L7.out (by have := hb.size; omega)) z7 (by omega)); clear hk7 hb)
            | (go_at_call 16; (with_reducible refine HD7.out.mono ?_); rintro e w8 ⟨rfl, xs8, hl8, hb8, hf8⟩; have B8 := Lib.hid hb8; have L8 := Lib.hid (But.below L7.out hf8 z7 (fun q hq => by rcases hq with hq | hq; rw [show q = b7 from hq]; omega; rw [show q = rb from hq]; exact hrb)); have HAL := Lib.hid (alike_any _ _ _ _ _ _ _ _ hb8); clear hl8 hb8 hf8)
            | (go_at_call 17; (with_reducible refine HAL.out.mono ?_); rintro e w9 ⟨rfl, hb9⟩; have B9 := Lib.hid (B8.out.below hb9); have L9 := Lib.hid (below_next L8.out hb9 L8.out.size); clear hb9))
          go_roundw
          case rel => exact ⟨k + 1, m7, by omega, by go_num, rfl, ⟨b7, c7, _, B9.out, L9.out, by omega, hrb⟩⟩
          case measure => simp [intOf]; omega
        · obtain ⟨Ln, hLn⟩ : ∃ Ln, Ln = xs.length := ⟨_, rfl⟩
          rw [← hLn] at hsx hgt hlo hhi
          have HSX := Lib.hid hsx
          have HLn := Lib.hid hLn
          have gti : ¬ (16 : Int) < (Ln : Int) := by omega
          clear hsx hLn hgt
          go_wp2_with (first
            | (go_at_call 12; (with_reducible refine (memCopy_yes HB.out.m).mono ?_); rintro e w3 ⟨mk, bk, ck, rfl, hk3, q1, q2, hb⟩; have K3 := Lib.hid hk3; have B3 := Lib.hid (HB.out.below hb); have L3 := Lib.hid (below_next HBL.out hb hsz); have s3 := L3.out.size; have t3 := hb.size; clear hk3 hb)
            | (go_at_call 13; (with_reducible refine (HSM.out _ _ _ _ _ _ _ K3.out B3.out.m).mono ?_); rintro e w' ⟨rfl, n4, rfl⟩; have K4 := Lib.hid (K3.out.drewN n4); have B4 := Lib.hid (B3.out.quiet ((But.refl NoBlock _).drewN n4)); have L4 := Lib.hid (below_drewN L3.out n4))
            | (go_at_call 13; (with_reducible refine (HSM.out _ _ _ _ _ _ _ B4.out.m K4.out).mono ?_); rintro e w' ⟨rfl, n5, rfl⟩; have K5 := Lib.hid (K3.out.drewN (n4 + n5)); have B5 := Lib.hid (B3.out.quiet ((But.refl NoBlock _).drewN (n4 + n5))); have L5 := Lib.hid (below_drewN L3.out (n4 + n5)))
            | (go_at_call 14; (refine (HSX.out _ B5.out.m).mono ?_); rintro e w' ⟨rfl, rfl⟩; have B6 := Lib.hid B5.out; have L6 := Lib.hid L5.out; have z6 := L6.out.size; have z5 : w3.heap.size ≤ (w3.drewN (n4 + n5)).heap.size := Nat.le_refl _)
            | (go_at_call 12; (refine (memCopy_yes B6.out.m).mono ?_); rintro e w7 ⟨m7, b7, c7, rfl, hk7, r1, r2, hb⟩; have lt6 := B6.out.lt.2.2.2; have B7 := Lib.hid (show Both w7 m7 b7 c7 rm rb rc xs from ⟨hk7, (B6.out.below hb).r, by omega⟩); have L7 := Lib.hid (below_next L6.out hb z6); have z7 := L7.out.size; have f0 := (L7.out.cell (p := ⟨b, off + k * 5, none⟩) hbs).trans ((HBL.out.cell (p := ⟨b, off + k * 5, none⟩) hbs).symm.trans d0); have f1 := (L7.out.cell (p := ⟨b, off + k * 5 + 1, none⟩) hbs).trans ((HBL.out.cell (p := ⟨b, off + k * 5 + 1, none⟩) hbs).symm.trans d1); have f2 := (L7.out.cell (p := ⟨b, off + k * 5 + 2, none⟩) hbs).trans ((HBL.out.cell (p := ⟨b, off + k * 5 + 2, none⟩) hbs).symm.trans d2); have f3 := (L7.out.cell (p := ⟨b, off + k * 5 + 3, none⟩) hbs).trans ((HBL.out.cell (p := ⟨b, off + k * 5 + 3, none⟩) hbs).symm.trans d3); have f4 := (L7.out.cell (p := ⟨b, off + k * 5 + 4, none⟩) hbs).trans ((HBL.out.cell (p := ⟨b, off + k * 5 + 4, none⟩) hbs).symm.trans d4); have HD7 := Lib.hid (HD.out w7 m7 b7 c7 B7.out (HAO.out.b.over HBL.out L7.out (by have := hb.size; omega)) z7 (by omega)); clear hk7 hb)
            | (go_at_call 16; (with_reducible refine HD7.out.mono ?_); rintro e w8 ⟨rfl, xs8, hl8, hb8, hf8⟩; have B8 := Lib.hid hb8; have L8 := Lib.hid (But.below L7.out hf8 z7 (fun q hq => by rcases hq with hq | hq; rw [show q = b7 from hq]; omega; rw [show q = rb from hq]; exact hrb)); have HAL := Lib.hid (alike_any _ _ _ _ _ _ _ _ hb8); clear hl8 hb8 hf8)
            | (go_at_call 17; (with_reducible refine HAL.out.mono ?_); rintro e w9 ⟨rfl, hb9⟩; have B9 := Lib.hid (B8.out.below hb9); have L9 := Lib.hid (below_next L8.out hb9 L8.out.size); clear hb9))
          go_roundw
          case rel => exact ⟨k + 1, m7, by omega, by go_num, rfl, ⟨b7, c7, _, B9.out, L9.out, by omega, hrb⟩⟩
          case measure => simp [intOf]; omega
      · have e6 : (kd == 6) = false := by simpa using h6
        have hd : Calls Try.prog 16 #[.pointer (some ⟨mb, 0, none⟩), .pointer (some ⟨rm, 0, none⟩), .agg #[.int .i64 kd, .int .i64 n1, .int .u64 a1, .int .u64 v1, Y1]] wr (DoesDone wr mb bb c rm rb rc xs.length) := does_any ⟨kd, n1, a1, v1, Y1, ys1⟩ mb bb c rm rb rc w.heap.size xs wr HB.out HAO.out hsz hbb hrb hA200
        have HD := Lib.hid hd
        clear hd h6 hA200
        go_wp2_with (first
          | (go_at_call 16; (with_reducible refine HD.out.mono ?_); rintro e w5 ⟨rfl, xs5, hl5, hb5, hf5⟩; have B5 := Lib.hid hb5; have L5 := Lib.hid (But.below HBL.out hf5 hsz (fun q hq => by rcases hq with hq | hq; rw [show q = bb from hq]; exact hbb; rw [show q = rb from hq]; exact hrb)); have HAL := Lib.hid (alike_any _ _ _ _ _ _ _ _ hb5); clear hl5 hb5 hf5)
          | (go_at_call 17; (with_reducible refine HAL.out.mono ?_); rintro e w6 ⟨rfl, hb6⟩; have B6 := Lib.hid (B5.out.below hb6); have L6 := Lib.hid (below_next L5.out hb6 L5.out.size); clear hb6))
        go_roundw
        case rel => exact ⟨k + 1, mb, by omega, by go_num, rfl, ⟨bb, c, _, B6.out, L6.out, hbb, hrb⟩⟩
        case measure => simp [intOf]; omega
    · obtain ⟨bb, c, xs, hboth, hbel, hbb, hrb⟩ := hq.out
      have HBL := Lib.hid hbel
      have hge : ¬ (k : Int) < (len : Int) := by omega
      clear hboth hbel hq hlt
      go_wp2_with (go_at_call 9; (with_reducible refine (awake_any _).mono ?_); rintro e w3 ⟨rfl, hb⟩; have HB := Lib.hid hb; clear hb)
      go_ret
      exact ⟨rfl, below_next HBL.out HB.out HBL.out.size⟩
theorem script_any (s : Int) (V : Value) (l : List ActV) (w : World) (hV : IsActs w w.heap.size V l) :
    Calls Try.prog 3 #[.int .i64 s, V] w fun e w' => e = .returned (.bool true) ∧ Below w.heap.size w w' := by
  cases hl : longB l
  · by_cases hs : s < 16 ∨ 65536 < s
    · exact script_none s V l w hV hl hs
    · obtain ⟨n, rfl⟩ := nat_of (show 0 ≤ s by omega)
      obtain ⟨h60, h200⟩ := longB_false hl
      rcases hV.2.2 with ⟨rfl, A0, cap, rfl⟩ | ⟨b, off, cap, rfl, h2, h3, h4⟩
      · exact script_empty n A0 cap w (by omega) (by omega)
      · exact script_some n b off l.length cap l w (by omega) (by omega) rfl h2 h3 hV hV.2.1 h60 h200 h4 hl
  · exact script_long s V l w hV hl
end Go.Proofs.Ythcefpakjkojgaa
