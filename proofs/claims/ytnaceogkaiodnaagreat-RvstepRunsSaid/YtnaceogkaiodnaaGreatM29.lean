/- How a machine of the statements of layer 4 begins: Begin, for any code, registers, place and bytes that are gone through: contracts in whatever memory of the program. -/
import Derived.Test.YtnaceogkaiodnaaGreatM14
import Derived.Test.YtnaceogkaiodnaaGreatM13
import Derived.Test.YtnaceogkaiodnaaGreatRows
import Derived.ChangeSame
import Derived.ChangeShapes
import Derived.WideShapes
namespace Go.Proofs.YtnaceogkaiodnaaGreat
open Go.RowKit
set_option linter.unusedVariables false

/-- How a machine begins. -/
structure StartV where
  vc : Value
  code : List Int
  vr : Value
  regs : List Int
  far : Bool
  at' : Int
  vb : Value
  bs : List Int
def StartV.val (S : StartV) : Value := .agg #[S.vc, S.vr, .bool S.far, .int .u64 S.at', S.vb]
structure StartV.ok (S : StartV) (w : World) (B : Nat) : Prop where
  code : IsNums .u32 w B S.vc S.code
  words : ∀ x ∈ S.code, 0 ≤ x ∧ x < 4294967296
  regs : IsNums .u64 w B S.vr S.regs
  nums : ∀ x ∈ S.regs, InW x
  at' : InW S.at'
  bytes : IsBytes w B S.vb S.bs
theorem StartV.ok.below {S : StartV} {w w' : World} {B B' : Nat} (h : S.ok w B) (hb : Below B' w w') (hB : B ≤ B') : S.ok w' B := ⟨h.code.below hb hB, h.words, h.regs.below hb hB, h.nums, h.at', h.bytes.below hb hB⟩
/-- Registers set, so many of them. -/
def setsV (z : MSt) (regs : List Int) : Nat → MSt
  | 0 => z
  | k + 1 => (setV (setsV z regs k) k (regs.getD k 0)).2
def begin0 (S : StartV) : MSt := MSt.zero (layB (List.replicate 128 0) 16 S.bs)
def beginV (S : StartV) : MSt := if S.far = true then (setsV (begin0 S) S.regs S.regs.length).at' S.at' else setsV (begin0 S) S.regs S.regs.length
theorem getD_inW {l : List Int} (h : ∀ x ∈ l, InW x) (k : Nat) : InW (l.getD k 0) := by
  rcases Nat.lt_or_ge k l.length with hk | hk
  · exact h _ (getD_mem hk)
  · simp [List.getD, hk, InW]
def BeginDone (w : World) (S : StartV) (e : Ending) (w' : World) : Prop :=
  ∃ xb mb bb c eb V, e = .returned (.tuple #[.pointer (some ⟨xb, 0, none⟩), .pointer (some ⟨mb, 0, none⟩)]) ∧ NewMach w w' xb mb bb c eb V S.code (beginV S) ∧ w.heap.size ≤ eb ∧ ∀ k, CodeIn V k → k < w'.heap.size
theorem NewMach.down {w W w' : World} {xb mb bb c eb : Nat} {V : Value} {code : List Int} {s : MSt} (h : NewMach W w' xb mb bb c eb V code s) (hb : Below w.heap.size w W) : NewMach w w' xb mb bb c eb V code s :=
  ⟨h.1, Nat.le_trans hb.size h.2.1, Nat.le_trans hb.size h.2.2.1, Nat.le_trans hb.size h.2.2.2.1, fun k hk => Nat.le_trans hb.size (h.2.2.2.2.1 k hk), hb.trans (h.2.2.2.2.2.mono hb.size)⟩
set_option maxRecDepth 100000 in
set_option maxHeartbeats 8000000 in
theorem begin_some {w : World} {S : StartV} (hS : S.ok w w.heap.size) (hlc : S.code.length ≤ 60) (hlr : S.regs.length ≤ 40) (hlb : S.bs.length ≤ 200) {b off cap : Nat} (hvr : S.vr = .slice (some ⟨b, off, none⟩) S.regs.length cap) (hcap : S.regs.length ≤ cap) (hbl : b < w.heap.size) (hg : ∀ i, i < S.regs.length → w.cell? ⟨b, off + i, none⟩ = some (.int .u64 (S.regs.getD i 0))) :
    Calls Tryz.prog 22 #[.agg #[S.vc, S.vr, .bool S.far, .int .u64 S.at', S.vb]] w (BeginDone w S) := by
  have hbW := (Below.refl w.heap.size w).alloc (Nat.le_refl _) (.cells #[S.vc, S.vr, .bool S.far, .int .u64 S.at', S.vb] 27)
  have hSW : S.ok (w.alloc (.cells #[S.vc, S.vr, .bool S.far, .int .u64 S.at', S.vb] 27)) w.heap.size := hS.below hbW (Nat.le_refl _)
  have HBW := Lib.hid hbW
  have k0 := new_cell w #[S.vc, S.vr, .bool S.far, .int .u64 S.at', S.vb] 27 w.heap.size 0 _ rfl rfl
  have k1 := new_cell w #[S.vc, S.vr, .bool S.far, .int .u64 S.at', S.vb] 27 w.heap.size 1 _ rfl rfl
  have k2 := new_cell w #[S.vc, S.vr, .bool S.far, .int .u64 S.at', S.vb] 27 w.heap.size 2 _ rfl rfl
  have k3 := new_cell w #[S.vc, S.vr, .bool S.far, .int .u64 S.at', S.vb] 27 w.heap.size 3 _ rfl rfl
  have k4 := new_cell w #[S.vc, S.vr, .bool S.far, .int .u64 S.at', S.vb] 27 w.heap.size 4 _ rfl rfl
  have hsz : w.heap.size < (w.alloc (.cells #[S.vc, S.vr, .bool S.far, .int .u64 S.at', S.vb] 27)).heap.size := by simp
  have hgW : ∀ i, i < S.regs.length → (w.alloc (.cells #[S.vc, S.vr, .bool S.far, .int .u64 S.at', S.vb] 27)).cell? ⟨b, off + i, none⟩ = some (.int .u64 (S.regs.getD i 0)) := fun i hi => (hbW.cell (p := ⟨b, off + i, none⟩) hbl).trans (hg i hi)
  have HG := Lib.hid hgW
  have HSW := Lib.hid hSW
  have HLC := Lib.hid hlc
  have HLB := Lib.hid hlb
  have hm := eqlM_nil
  have hp := eqlP_nil
  obtain ⟨Z, hZ⟩ : ∃ Z, Z = beginV S := ⟨_, rfl⟩
  have HZ := Lib.hid hZ
  have HVR := Lib.hid hvr
  clear hvr
  go_enter Tryz.func22, Tryz.ntmps22
  go_wp2_with (go_at_call 48; fail)
  generalize w.alloc (.cells #[S.vc, S.vr, .bool S.far, .int .u64 S.at', S.vb] 27) = W at *
  rw [HVR.out] at k1
  obtain ⟨n, hn⟩ : ∃ n, n = S.regs.length := ⟨_, rfl⟩
  rw [← hn] at k1 hlr hcap
  have HN := Lib.hid hn
  generalize hvc : S.vc = VC at k0
  generalize hvb : S.vb = VB at k4
  generalize hfar : S.far = FR at k2
  generalize hat : S.at' = AT at k3
  have HVC := Lib.hid hvc
  have HVB := Lib.hid hvb
  have HFAR := Lib.hid hfar
  have HAT := Lib.hid hat
  clear hS hSW hbW hlc hlb hZ hvc hvb hfar hat hg hgW hn
  refine (new_yes 128 W (by decide) (by decide)).mono ?_
  rintro e w1 ⟨mb, bb, c, rfl, hm1, q1, q2, hb1⟩
  have M1 := Lib.hid hm1
  have B1 := Lib.hid hb1
  have hly := lay_any hm1 16 (HSW.out.bytes.below hb1 (by omega)) (by decide) (by decide)
  rw [HVB.out] at hly
  have HLY := Lib.hid hly
  replace k0 := (hb1.cell (p := ⟨w.heap.size, 0, none⟩) hsz).trans k0
  replace k1 := (hb1.cell (p := ⟨w.heap.size, 1, none⟩) hsz).trans k1
  replace k2 := (hb1.cell (p := ⟨w.heap.size, 2, none⟩) hsz).trans k2
  replace k3 := (hb1.cell (p := ⟨w.heap.size, 3, none⟩) hsz).trans k3
  replace k4 := (hb1.cell (p := ⟨w.heap.size, 4, none⟩) hsz).trans k4
  have s1 := hb1.size
  clear hm1 hb1 hly
  go_wp2_with (first
    | (go_at_call 52; (with_reducible refine HLY.out.mono ?_); rintro e w2 ⟨rfl, hm2, hb2⟩; have M2 := Lib.hid hm2; have hw2 := below_store B1.out hb2 B1.out.size q2; have B2 := Lib.hid hw2; have s2 := hb2.size; replace k0 := (hb2.cell (p := ⟨w.heap.size, 0, none⟩) (show w.heap.size < w1.heap.size by omega) (oneBlock_not (show w.heap.size ≠ bb by omega))).trans k0; replace k1 := (hb2.cell (p := ⟨w.heap.size, 1, none⟩) (show w.heap.size < w1.heap.size by omega) (oneBlock_not (show w.heap.size ≠ bb by omega))).trans k1; replace k2 := (hb2.cell (p := ⟨w.heap.size, 2, none⟩) (show w.heap.size < w1.heap.size by omega) (oneBlock_not (show w.heap.size ≠ bb by omega))).trans k2; replace k3 := (hb2.cell (p := ⟨w.heap.size, 3, none⟩) (show w.heap.size < w1.heap.size by omega) (oneBlock_not (show w.heap.size ≠ bb by omega))).trans k3; replace k4 := (hb2.cell (p := ⟨w.heap.size, 4, none⟩) (show w.heap.size < w1.heap.size by omega) (oneBlock_not (show w.heap.size ≠ bb by omega))).trans k4; clear hm2 hb2 hw2)
    | (go_at_call 49; (with_reducible refine (newMach_any M2.out).mono ?_); rintro e w3 ⟨xb, eb, rfl, hm3, q3, hb3, q9⟩; have hw3 := B2.out.trans (hb3.mono B2.out.size); have B3 := Lib.hid hw3; have s3 := hb3.size; have hlt := hm3.lt.1; have hL := loadCode_any hm3 (HSW.out.code.below hw3 (by omega)) (show w.heap.size ≤ w3.heap.size by omega) (fun b' o n' k' he hpos => by (obtain ⟨b2, o2, c2, e2, _, r2, _⟩ := HSW.out.code.plain hpos; rw [e2] at he; injection he with he _ _; injection he with he; injection he with he _ _; omega)) HSW.out.words (by have := HLC.out; omega); rw [HVC.out] at hL; have HL := Lib.hid hL; replace k0 := (hb3.cell (p := ⟨w.heap.size, 0, none⟩) (show w.heap.size < w2.heap.size by omega)).trans k0; replace k1 := (hb3.cell (p := ⟨w.heap.size, 1, none⟩) (show w.heap.size < w2.heap.size by omega)).trans k1; replace k2 := (hb3.cell (p := ⟨w.heap.size, 2, none⟩) (show w.heap.size < w2.heap.size by omega)).trans k2; replace k3 := (hb3.cell (p := ⟨w.heap.size, 3, none⟩) (show w.heap.size < w2.heap.size by omega)).trans k3; clear hm3 hb3 hL hw3)
    | (go_at_call 51; (with_reducible refine HL.out.mono ?_); rintro e w4 ⟨rfl, hm4, hb4, hl4⟩; have N4 := Lib.hid (show NewMach W w4 xb mb bb c eb _ S.code (begin0 S) from ⟨hm4, Nat.le_trans (by omega) q3, q1, q2, fun k hk => by (rw [hk.one]; omega), But.below B3.out hb4 B3.out.size (fun k hk => by rw [show k = xb from hk]; omega)⟩); replace k1 := (hb4.cell (p := ⟨w.heap.size, 1, none⟩) (show w.heap.size < w3.heap.size by omega) (oneBlock_not (show w.heap.size ≠ xb by omega))).trans k1; replace k2 := (hb4.cell (p := ⟨w.heap.size, 2, none⟩) (show w.heap.size < w3.heap.size by omega) (oneBlock_not (show w.heap.size ≠ xb by omega))).trans k2; replace k3 := (hb4.cell (p := ⟨w.heap.size, 3, none⟩) (show w.heap.size < w3.heap.size by omega) (oneBlock_not (show w.heap.size ≠ xb by omega))).trans k3; have s4 := hb4.size; clear hm4 hb4 k0 k4))
  have HK := Lib.hid (show w4.cell? ⟨w.heap.size, 1, none⟩ = some (.slice (some ⟨b, off, none⟩) n cap) ∧ w4.cell? ⟨w.heap.size, 2, none⟩ = some (.bool FR) ∧ w4.cell? ⟨w.heap.size, 3, none⟩ = some (.int .u64 AT) ∧ w3.heap.size < w4.heap.size from ⟨k1, k2, k3, hl4⟩)
  clear k1 k2 k3
  go_loopw [8] (fun i wr => ∃ k : Nat, k ≤ n ∧ i = .int .i64 k ∧ Hid (NewMach W wr xb mb bb c eb _ S.code (setsV (begin0 S) S.regs k)) ∧ Hid (wr.cell? ⟨w.heap.size, 1, none⟩ = some (.slice (some ⟨b, off, none⟩) n cap) ∧ wr.cell? ⟨w.heap.size, 2, none⟩ = some (.bool FR) ∧ wr.cell? ⟨w.heap.size, 3, none⟩ = some (.int .u64 AT) ∧ w3.heap.size < wr.heap.size)) (fun i _ => n - (intOf i).toNat)
  case atStart => exact ⟨0, by omega, rfl, N4, HK⟩
  case round =>
    obtain ⟨k, hk, rfl, hq, hkk⟩ := hrel
    obtain ⟨k1, k2, k3, k4⟩ := hkk.out
    by_cases hlt : k < n
    · have hbw : b < W.heap.size := by omega
      have d1 : wr.cell? ⟨b, off + k, none⟩ = some (.int .u64 (S.regs.getD k 0)) := (hq.out.2.2.2.2.2.cell (p := ⟨b, off + k, none⟩) hbw).trans (HG.out k (by have := HN.out; omega))
      have hset := set_any hq.out.1 k (S.regs.getD k 0) (getD_inW HSW.out.nums k)
      have hnx : setsV (begin0 S) S.regs (k + 1) = (setV (setsV (begin0 S) S.regs k) k (S.regs.getD k 0)).2 := rfl
      have he : (setV (setsV (begin0 S) S.regs k) k (S.regs.getD k 0)).1 = if (k : Int) < 32 then 0 else 2 := by
        unfold setV
        by_cases h32 : (k : Int) < 32
        · rw [if_pos ⟨by omega, h32⟩, if_pos h32]
        · rw [if_neg (fun q => h32 q.2), if_neg h32]
      generalize setV (setsV (begin0 S) S.regs k) k (S.regs.getD k 0) = R at hset hnx he
      obtain ⟨E, s2⟩ := R
      generalize S.regs.getD k 0 = x at d1 hset
      have HST := Lib.hid hset
      have HNX := Lib.hid hnx
      have kk : (k : Int) < (n : Int) := by omega
      have hWl := hq.out.2.2.2.2.2.size
      clear hset hnx he
      go_wp2_with (go_at_call 17; (with_reducible refine HST.out.mono ?_); rintro e w5 ⟨rfl, hm5, hb5⟩; have N5 := Lib.hid (hq.out.next hm5 hb5); have hB5 := hq.out.below hb5; have HK5 := Lib.hid (show w5.cell? ⟨w.heap.size, 1, none⟩ = some (.slice (some ⟨b, off, none⟩) n cap) ∧ w5.cell? ⟨w.heap.size, 2, none⟩ = some (.bool FR) ∧ w5.cell? ⟨w.heap.size, 3, none⟩ = some (.int .u64 AT) ∧ w3.heap.size < w5.heap.size from ⟨(hB5.cell (p := ⟨w.heap.size, 1, none⟩) hsz).trans ((hq.out.2.2.2.2.2.cell (p := ⟨w.heap.size, 1, none⟩) hsz).symm.trans k1), (hB5.cell (p := ⟨w.heap.size, 2, none⟩) hsz).trans ((hq.out.2.2.2.2.2.cell (p := ⟨w.heap.size, 2, none⟩) hsz).symm.trans k2), (hB5.cell (p := ⟨w.heap.size, 3, none⟩) hsz).trans ((hq.out.2.2.2.2.2.cell (p := ⟨w.heap.size, 3, none⟩) hsz).symm.trans k3), (by have := hb5.size; omega)⟩); clear hm5 hb5 hB5)
      go_roundw
      case rel => exact ⟨k + 1, by omega, by go_num, by rw [HNX.out]; exact N5, HK5⟩
      case measure => simp [intOf]; omega
    · obtain rfl : k = n := by omega
      have hfin := hq.out
      rw [HN.out] at hfin
      have hend : Z = if FR = true then (setsV (begin0 S) S.regs S.regs.length).at' AT else setsV (begin0 S) S.regs S.regs.length := by
        rw [HZ.out, ← HFAR.out, ← HAT.out]; rfl
      have hjp := jump_any hfin.1 AT (by rw [← HAT.out]; exact HSW.out.at')
      generalize setsV (begin0 S) S.regs S.regs.length = s9 at hfin hend hjp
      have HFIN := Lib.hid hfin
      have HEND := Lib.hid hend
      have HJ := Lib.hid hjp
      clear hfin hend hjp
      cases FR
      · go_wp2
        go_ret2
        have hz : beginV S = s9 := HZ.out.symm.trans HEND.out
        exact ⟨xb, mb, bb, c, eb, _, rfl, by rw [hz]; exact HFIN.out.down HBW.out, Nat.le_trans (Nat.le_trans HBW.out.size B2.out.size) q9, fun k' hk' => by rw [hk'.one]; exact k4⟩
      · go_wp2_with (go_at_call 19; (with_reducible refine HJ.out.mono ?_); rintro e w6 ⟨rfl, hm6, hb6⟩; have N6 := Lib.hid (HFIN.out.next hm6 hb6); have HL6 := Lib.hid hb6.size; clear hm6 hb6)
        go_ret2
        have hz : beginV S = s9.at' AT := HZ.out.symm.trans HEND.out
        exact ⟨xb, mb, bb, c, eb, _, rfl, by rw [hz]; exact N6.out.down HBW.out, Nat.le_trans (Nat.le_trans HBW.out.size B2.out.size) q9, fun k' hk' => by rw [hk'.one]; exact Nat.lt_of_lt_of_le k4 HL6.out⟩
set_option maxRecDepth 100000 in
set_option maxHeartbeats 8000000 in
theorem begin_none {w : World} {S : StartV} (hS : S.ok w w.heap.size) (hlc : S.code.length ≤ 60) (hlr : S.regs.length ≤ 40) (hlb : S.bs.length ≤ 200) {A : Option Addr} {cap : Nat} (hvr : S.vr = .slice A 0 cap) (h0 : S.regs.length = 0) :
    Calls Tryz.prog 22 #[.agg #[S.vc, S.vr, .bool S.far, .int .u64 S.at', S.vb]] w (BeginDone w S) := by
  have hbW := (Below.refl w.heap.size w).alloc (Nat.le_refl _) (.cells #[S.vc, S.vr, .bool S.far, .int .u64 S.at', S.vb] 27)
  have hSW : S.ok (w.alloc (.cells #[S.vc, S.vr, .bool S.far, .int .u64 S.at', S.vb] 27)) w.heap.size := hS.below hbW (Nat.le_refl _)
  have HBW := Lib.hid hbW
  have k0 := new_cell w #[S.vc, S.vr, .bool S.far, .int .u64 S.at', S.vb] 27 w.heap.size 0 _ rfl rfl
  have k1 := new_cell w #[S.vc, S.vr, .bool S.far, .int .u64 S.at', S.vb] 27 w.heap.size 1 _ rfl rfl
  have k2 := new_cell w #[S.vc, S.vr, .bool S.far, .int .u64 S.at', S.vb] 27 w.heap.size 2 _ rfl rfl
  have k3 := new_cell w #[S.vc, S.vr, .bool S.far, .int .u64 S.at', S.vb] 27 w.heap.size 3 _ rfl rfl
  have k4 := new_cell w #[S.vc, S.vr, .bool S.far, .int .u64 S.at', S.vb] 27 w.heap.size 4 _ rfl rfl
  have hsz : w.heap.size < (w.alloc (.cells #[S.vc, S.vr, .bool S.far, .int .u64 S.at', S.vb] 27)).heap.size := by simp
  have H0 := Lib.hid h0
  have HSW := Lib.hid hSW
  have HLC := Lib.hid hlc
  have HLB := Lib.hid hlb
  have hm := eqlM_nil
  have hp := eqlP_nil
  obtain ⟨Z, hZ⟩ : ∃ Z, Z = beginV S := ⟨_, rfl⟩
  have HZ := Lib.hid hZ
  have HVR := Lib.hid hvr
  clear hvr
  go_enter Tryz.func22, Tryz.ntmps22
  go_wp2_with (go_at_call 48; fail)
  generalize w.alloc (.cells #[S.vc, S.vr, .bool S.far, .int .u64 S.at', S.vb] 27) = W at *
  rw [HVR.out] at k1
  generalize hvc : S.vc = VC at k0
  generalize hvb : S.vb = VB at k4
  generalize hfar : S.far = FR at k2
  generalize hat : S.at' = AT at k3
  have HVC := Lib.hid hvc
  have HVB := Lib.hid hvb
  have HFAR := Lib.hid hfar
  have HAT := Lib.hid hat
  clear hS hSW hbW hlc hlb hZ hvc hvb hfar hat h0 hlr
  refine (new_yes 128 W (by decide) (by decide)).mono ?_
  rintro e w1 ⟨mb, bb, c, rfl, hm1, q1, q2, hb1⟩
  have M1 := Lib.hid hm1
  have B1 := Lib.hid hb1
  have hly := lay_any hm1 16 (HSW.out.bytes.below hb1 (by omega)) (by decide) (by decide)
  rw [HVB.out] at hly
  have HLY := Lib.hid hly
  replace k0 := (hb1.cell (p := ⟨w.heap.size, 0, none⟩) hsz).trans k0
  replace k1 := (hb1.cell (p := ⟨w.heap.size, 1, none⟩) hsz).trans k1
  replace k2 := (hb1.cell (p := ⟨w.heap.size, 2, none⟩) hsz).trans k2
  replace k3 := (hb1.cell (p := ⟨w.heap.size, 3, none⟩) hsz).trans k3
  replace k4 := (hb1.cell (p := ⟨w.heap.size, 4, none⟩) hsz).trans k4
  have s1 := hb1.size
  clear hm1 hb1 hly
  go_wp2_with (first
    | (go_at_call 52; (with_reducible refine HLY.out.mono ?_); rintro e w2 ⟨rfl, hm2, hb2⟩; have M2 := Lib.hid hm2; have hw2 := below_store B1.out hb2 B1.out.size q2; have B2 := Lib.hid hw2; have s2 := hb2.size; replace k0 := (hb2.cell (p := ⟨w.heap.size, 0, none⟩) (show w.heap.size < w1.heap.size by omega) (oneBlock_not (show w.heap.size ≠ bb by omega))).trans k0; replace k1 := (hb2.cell (p := ⟨w.heap.size, 1, none⟩) (show w.heap.size < w1.heap.size by omega) (oneBlock_not (show w.heap.size ≠ bb by omega))).trans k1; replace k2 := (hb2.cell (p := ⟨w.heap.size, 2, none⟩) (show w.heap.size < w1.heap.size by omega) (oneBlock_not (show w.heap.size ≠ bb by omega))).trans k2; replace k3 := (hb2.cell (p := ⟨w.heap.size, 3, none⟩) (show w.heap.size < w1.heap.size by omega) (oneBlock_not (show w.heap.size ≠ bb by omega))).trans k3; replace k4 := (hb2.cell (p := ⟨w.heap.size, 4, none⟩) (show w.heap.size < w1.heap.size by omega) (oneBlock_not (show w.heap.size ≠ bb by omega))).trans k4; clear hm2 hb2 hw2)
    | (go_at_call 49; (with_reducible refine (newMach_any M2.out).mono ?_); rintro e w3 ⟨xb, eb, rfl, hm3, q3, hb3, q9⟩; have hw3 := B2.out.trans (hb3.mono B2.out.size); have B3 := Lib.hid hw3; have s3 := hb3.size; have hlt := hm3.lt.1; have hL := loadCode_any hm3 (HSW.out.code.below hw3 (by omega)) (show w.heap.size ≤ w3.heap.size by omega) (fun b' o n' k' he hpos => by (obtain ⟨b2, o2, c2, e2, _, r2, _⟩ := HSW.out.code.plain hpos; rw [e2] at he; injection he with he _ _; injection he with he; injection he with he _ _; omega)) HSW.out.words (by have := HLC.out; omega); rw [HVC.out] at hL; have HL := Lib.hid hL; replace k0 := (hb3.cell (p := ⟨w.heap.size, 0, none⟩) (show w.heap.size < w2.heap.size by omega)).trans k0; replace k1 := (hb3.cell (p := ⟨w.heap.size, 1, none⟩) (show w.heap.size < w2.heap.size by omega)).trans k1; replace k2 := (hb3.cell (p := ⟨w.heap.size, 2, none⟩) (show w.heap.size < w2.heap.size by omega)).trans k2; replace k3 := (hb3.cell (p := ⟨w.heap.size, 3, none⟩) (show w.heap.size < w2.heap.size by omega)).trans k3; clear hm3 hb3 hL hw3)
    | (go_at_call 51; (with_reducible refine HL.out.mono ?_); rintro e w4 ⟨rfl, hm4, hb4, hl4⟩; have N4 := Lib.hid (show NewMach W w4 xb mb bb c eb _ S.code (begin0 S) from ⟨hm4, Nat.le_trans (by omega) q3, q1, q2, fun k hk => by (rw [hk.one]; omega), But.below B3.out hb4 B3.out.size (fun k hk => by rw [show k = xb from hk]; omega)⟩); replace k1 := (hb4.cell (p := ⟨w.heap.size, 1, none⟩) (show w.heap.size < w3.heap.size by omega) (oneBlock_not (show w.heap.size ≠ xb by omega))).trans k1; replace k2 := (hb4.cell (p := ⟨w.heap.size, 2, none⟩) (show w.heap.size < w3.heap.size by omega) (oneBlock_not (show w.heap.size ≠ xb by omega))).trans k2; replace k3 := (hb4.cell (p := ⟨w.heap.size, 3, none⟩) (show w.heap.size < w3.heap.size by omega) (oneBlock_not (show w.heap.size ≠ xb by omega))).trans k3; have s4 := hb4.size; clear hm4 hb4 k0 k4))
  have HK := Lib.hid (show w4.cell? ⟨w.heap.size, 1, none⟩ = some (.slice A 0 cap) ∧ w4.cell? ⟨w.heap.size, 2, none⟩ = some (.bool FR) ∧ w4.cell? ⟨w.heap.size, 3, none⟩ = some (.int .u64 AT) ∧ w3.heap.size < w4.heap.size from ⟨k1, k2, k3, hl4⟩)
  clear k1 k2 k3
  go_loopw [8] (fun i wr => i = .int .i64 0 ∧ wr = w4) (fun i _ => 0)
  case atStart => exact ⟨rfl, rfl⟩
  case round =>
    obtain ⟨rfl, rfl⟩ := hrel
    obtain ⟨k1, k2, k3, k4⟩ := HK.out
    by_cases hlt : False
    · exact hlt.elim
    · have hfin : NewMach W wr xb mb bb c eb (.slice (some ⟨w3.heap.size, 0, none⟩) S.code.length S.code.length) S.code (setsV (begin0 S) S.regs S.regs.length) := by rw [H0.out]; exact N4.out
      have hend : Z = if FR = true then (setsV (begin0 S) S.regs S.regs.length).at' AT else setsV (begin0 S) S.regs S.regs.length := by
        rw [HZ.out, ← HFAR.out, ← HAT.out]; rfl
      have hjp := jump_any hfin.1 AT (by rw [← HAT.out]; exact HSW.out.at')
      generalize setsV (begin0 S) S.regs S.regs.length = s9 at hfin hend hjp
      have HFIN := Lib.hid hfin
      have HEND := Lib.hid hend
      have HJ := Lib.hid hjp
      clear hfin hend hjp
      cases FR
      · go_wp2
        go_ret2
        have hz : beginV S = s9 := HZ.out.symm.trans HEND.out
        exact ⟨xb, mb, bb, c, eb, _, rfl, by rw [hz]; exact HFIN.out.down HBW.out, Nat.le_trans (Nat.le_trans HBW.out.size B2.out.size) q9, fun k' hk' => by rw [hk'.one]; exact k4⟩
      · go_wp2_with (go_at_call 19; (with_reducible refine HJ.out.mono ?_); rintro e w6 ⟨rfl, hm6, hb6⟩; have N6 := Lib.hid (HFIN.out.next hm6 hb6); have HL6 := Lib.hid hb6.size; clear hm6 hb6)
        go_ret2
        have hz : beginV S = s9.at' AT := HZ.out.symm.trans HEND.out
        exact ⟨xb, mb, bb, c, eb, _, rfl, by rw [hz]; exact N6.out.down HBW.out, Nat.le_trans (Nat.le_trans HBW.out.size B2.out.size) q9, fun k' hk' => by rw [hk'.one]; exact Nat.lt_of_lt_of_le k4 HL6.out⟩
theorem begin_any {w : World} {S : StartV} (hS : S.ok w w.heap.size) (hlc : S.code.length ≤ 60) (hlr : S.regs.length ≤ 40) (hlb : S.bs.length ≤ 200) :
    Calls Tryz.prog 22 #[.agg #[S.vc, S.vr, .bool S.far, .int .u64 S.at', S.vb]] w (BeginDone w S) := by
  by_cases hp : 0 < S.regs.length
  · obtain ⟨b, off, cap, hv, h1, h2, h3⟩ := hS.regs.plain hp
    exact begin_some hS hlc hlr hlb hv h1 h2 h3
  · obtain ⟨A, cap, hv⟩ := hS.regs.len
    have h0 : S.regs.length = 0 := by omega
    rw [h0] at hv
    exact begin_none hS hlc hlr hlb hv h0
end Go.Proofs.YtnaceogkaiodnaaGreat

namespace Go.Proofs.YtnaceogkaiodnaaGreat
open Go.RowKit
set_option linter.unusedVariables false

/-- Is it more than is gone through? -/
def longV (S : StartV) : Bool := decide (60 < S.code.length) || (decide (40 < S.regs.length) || decide (200 < S.bs.length))
theorem longV_false {S : StartV} (h : longV S = false) : S.code.length ≤ 60 ∧ S.regs.length ≤ 40 ∧ S.bs.length ≤ 200 := by
  unfold longV at h
  simp only [Bool.or_eq_false_iff, decide_eq_false_iff_not] at h
  omega
set_option maxRecDepth 100000 in
theorem long4_any {w : World} {S : StartV} (hS : S.ok w w.heap.size) : Calls Tryz.prog 8 #[.agg #[S.vc, S.vr, .bool S.far, .int .u64 S.at', S.vb]] w fun e w' => e = .returned (.bool (longV S)) ∧ Below w.heap.size w w' := by
  obtain ⟨A1, c1, h1⟩ := hS.code.len
  obtain ⟨A2, c2, h2⟩ := hS.regs.len
  obtain ⟨A3, c3, h3⟩ := hS.bytes.len
  have m1 := hS.code.1
  have m2 := hS.regs.1
  have m3 := hS.bytes.2.1
  unfold maxLen at m1 m2 m3
  have hl : longV S = (decide (60 < S.code.length) || (decide (40 < S.regs.length) || decide (200 < S.bs.length))) := rfl
  rw [hl, h1, h2, h3]
  clear hl h1 h2 h3
  obtain ⟨vc, code, vr, regs, far, at', vb, bs⟩ := S
  simp only at *
  generalize code.length = n1 at *
  generalize regs.length = n2 at *
  generalize bs.length = n3 at *
  clear hS
  by_cases g1 : 60 < n1
  · have i1 : (60 : Int) < (n1 : Int) := by omega
    rw [decide_eq_true g1, Bool.true_or]
    go_enter Tryz.func8, Tryz.ntmps8
    go_wp2
    go_ret
    exact ⟨rfl, (Below.refl _ _).alloc (Nat.le_refl _) _⟩
  · have i1 : ¬ (60 : Int) < (n1 : Int) := by omega
    rw [decide_eq_false g1, Bool.false_or]
    by_cases g2 : 40 < n2
    · have i2 : (40 : Int) < (n2 : Int) := by omega
      rw [decide_eq_true g2, Bool.true_or]
      go_enter Tryz.func8, Tryz.ntmps8
      go_wp2
      go_ret
      exact ⟨rfl, (Below.refl _ _).alloc (Nat.le_refl _) _⟩
    · have i2 : ¬ (40 : Int) < (n2 : Int) := by omega
      rw [decide_eq_false g2, Bool.false_or]
      by_cases g3 : 200 < n3
      · have i3 : (200 : Int) < (n3 : Int) := by omega
        rw [decide_eq_true g3]
        go_enter Tryz.func8, Tryz.ntmps8
        go_wp2
        go_ret
        exact ⟨rfl, (Below.refl _ _).alloc (Nat.le_refl _) _⟩
      · have i3 : ¬ (200 : Int) < (n3 : Int) := by omega
        rw [decide_eq_false g3]
        go_enter Tryz.func8, Tryz.ntmps8
        go_wp2
        go_ret
        exact ⟨rfl, (Below.refl _ _).alloc (Nat.le_refl _) _⟩
end Go.Proofs.YtnaceogkaiodnaaGreat

namespace Go.Proofs.YtnaceogkaiodnaaGreat
open Go.RowKit
set_option linter.unusedVariables false

theorem StartV.ok.more {S : StartV} {w : World} {B B' : Nat} (h : S.ok w B) (hB : B ≤ B') : S.ok w B' := ⟨h.code.more hB, h.words, h.regs.more hB, h.nums, h.at', h.bytes.more hB⟩
/-- The blocks that a machine's calls change. -/
def MBlocks (xb bb : Nat) (V : Value) (k : Nat) : Prop := k = xb ∨ k = bb ∨ CodeIn V k
/-- Two machines that lie apart. -/
structure Apart (u w : World) (xb mb bb c eb : Nat) (V : Value) (code : List Int) (s : MSt) (yb nb cb d fb : Nat) (U : Value) (code' : List Int) (t : MSt) : Prop where
  fst : NewMach u w xb mb bb c eb V code s
  snd : NewMach u w yb nb cb d fb U code' t
  of1 : ∀ k, MBlocks xb bb V k → ¬ (k = yb ∨ k = nb ∨ k = cb ∨ k = fb ∨ CodeIn U k)
  of2 : ∀ k, MBlocks yb cb U k → ¬ (k = xb ∨ k = mb ∨ k = bb ∨ k = eb ∨ CodeIn V k)
section
variable {u w w' : World} {xb mb bb c eb yb nb cb d fb : Nat} {U V : Value} {code code' : List Int} {s s' t t' : MSt}
theorem Apart.fst' (h : Apart u w xb mb bb c eb V code s yb nb cb d fb U code' t) (hm : Mach w' xb mb bb c eb V code s') (hb : But (fun k => k = xb ∨ k = bb ∨ CodeIn V k) w w') : Apart u w' xb mb bb c eb V code s' yb nb cb d fb U code' t :=
  ⟨h.fst.next hm hb, ⟨h.snd.1.but hb (fun q => h.of1 _ q (.inl rfl)) (fun q => h.of1 _ q (.inr (.inl rfl))) (fun q => h.of1 _ q (.inr (.inr (.inl rfl)))) (fun q => h.of1 _ q (.inr (.inr (.inr (.inl rfl))))) (fun _ k hk q => h.of1 _ q (.inr (.inr (.inr (.inr hk))))), h.snd.2.1, h.snd.2.2.1, h.snd.2.2.2.1, h.snd.2.2.2.2.1, h.fst.below hb⟩, h.of1, h.of2⟩
theorem Apart.snd' (h : Apart u w xb mb bb c eb V code s yb nb cb d fb U code' t) (hm : Mach w' yb nb cb d fb U code' t') (hb : But (fun k => k = yb ∨ k = cb ∨ CodeIn U k) w w') : Apart u w' xb mb bb c eb V code s yb nb cb d fb U code' t' :=
  ⟨⟨h.fst.1.but hb (fun q => h.of2 _ q (.inl rfl)) (fun q => h.of2 _ q (.inr (.inl rfl))) (fun q => h.of2 _ q (.inr (.inr (.inl rfl)))) (fun q => h.of2 _ q (.inr (.inr (.inr (.inl rfl))))) (fun _ k hk q => h.of2 _ q (.inr (.inr (.inr (.inr hk))))), h.fst.2.1, h.fst.2.2.1, h.fst.2.2.2.1, h.fst.2.2.2.2.1, h.snd.below hb⟩, h.snd.next hm hb, h.of1, h.of2⟩
theorem Apart.quiet (h : Apart u w xb mb bb c eb V code s yb nb cb d fb U code' t) (hb : Below w.heap.size w w') : Apart u w' xb mb bb c eb V code s yb nb cb d fb U code' t := ⟨h.fst.quiet hb, h.snd.quiet hb, h.of1, h.of2⟩
end
theorem Apart.of {u w1 w2 : World} {xb mb bb c eb yb nb cb d fb : Nat} {U V : Value} {code code' : List Int} {s t : MSt} (h1 : NewMach u w1 xb mb bb c eb V code s) (e1 : ∀ k, CodeIn V k → k < w1.heap.size)
    (h2 : NewMach w1 w2 yb nb cb d fb U code' t) (e2 : w1.heap.size ≤ fb) : Apart u w2 xb mb bb c eb V code s yb nb cb d fb U code' t := by
  have l1 := h1.1.lt
  obtain ⟨g0, g1, g2, g3, g4, g5⟩ := h2
  refine ⟨⟨h1.1.below g5, h1.2.1, h1.2.2.1, h1.2.2.2.1, h1.2.2.2.2.1, h1.2.2.2.2.2.trans (g5.mono h1.2.2.2.2.2.size)⟩, ⟨g0, Nat.le_trans h1.2.2.2.2.2.size g1, Nat.le_trans h1.2.2.2.2.2.size g2, Nat.le_trans h1.2.2.2.2.2.size g3, fun k hk => Nat.le_trans h1.2.2.2.2.2.size (g4 k hk), h1.2.2.2.2.2.trans (g5.mono h1.2.2.2.2.2.size)⟩, ?_, ?_⟩
  · intro k hk hq
    have : k < w1.heap.size := by
      rcases hk with rfl | rfl | hk
      · exact l1.1
      · exact l1.2.2.1
      · exact e1 k hk
    rcases hq with rfl | rfl | rfl | rfl | hq
    · omega
    · omega
    · omega
    · omega
    · have := g4 k hq
      omega
  · intro k hk hq
    have : w1.heap.size ≤ k := by
      rcases hk with rfl | rfl | hk
      · exact g1
      · exact g3
      · exact g4 k hk
    rcases hq with rfl | rfl | rfl | rfl | hq
    · omega
    · omega
    · omega
    · omega
    · have := e1 k hq
      omega
/-- A beginning in its box. -/
structure BoxAt (w : World) (b : Nat) (S : StartV) : Prop where
  c0 : w.cell? ⟨b, 0, none⟩ = some S.vc
  c1 : w.cell? ⟨b, 1, none⟩ = some S.vr
  c2 : w.cell? ⟨b, 2, none⟩ = some (.bool S.far)
  c3 : w.cell? ⟨b, 3, none⟩ = some (.int .u64 S.at')
  c4 : w.cell? ⟨b, 4, none⟩ = some S.vb
theorem BoxAt.new (w : World) (S : StartV) : BoxAt (w.alloc (.cells #[S.vc, S.vr, .bool S.far, .int .u64 S.at', S.vb] 27)) w.heap.size S :=
  ⟨new_cell w #[S.vc, S.vr, .bool S.far, .int .u64 S.at', S.vb] 27 w.heap.size 0 _ rfl rfl, new_cell w #[S.vc, S.vr, .bool S.far, .int .u64 S.at', S.vb] 27 w.heap.size 1 _ rfl rfl, new_cell w #[S.vc, S.vr, .bool S.far, .int .u64 S.at', S.vb] 27 w.heap.size 2 _ rfl rfl, new_cell w #[S.vc, S.vr, .bool S.far, .int .u64 S.at', S.vb] 27 w.heap.size 3 _ rfl rfl, new_cell w #[S.vc, S.vr, .bool S.far, .int .u64 S.at', S.vb] 27 w.heap.size 4 _ rfl rfl⟩
theorem BoxAt.below {w w' : World} {b : Nat} {S : StartV} (h : BoxAt w b S) (hl : b < w.heap.size) (hb : Below w.heap.size w w') : BoxAt w' b S :=
  ⟨(hb.cell (p := ⟨b, 0, none⟩) hl).trans h.c0, (hb.cell (p := ⟨b, 1, none⟩) hl).trans h.c1, (hb.cell (p := ⟨b, 2, none⟩) hl).trans h.c2, (hb.cell (p := ⟨b, 3, none⟩) hl).trans h.c3, (hb.cell (p := ⟨b, 4, none⟩) hl).trans h.c4⟩
end Go.Proofs.YtnaceogkaiodnaaGreat

namespace Go.Proofs.YtnaceogkaiodnaaGreat
open Go.RowKit Go.ChangeShapes Go.WideShapes
set_option linter.unusedVariables false

theorem wf_u32' {a : Int} (h : (Lit.int .u32 a).wf = true) : 0 ≤ a ∧ a < 4294967296 := by
  simp [Lit.wf, IntKind.min, IntKind.max, IntKind.signed, IntKind.bits] at h
  omega
theorem wf_i64' {a : Int} (h : (Lit.int .i64 a).wf = true) : -9223372036854775808 ≤ a ∧ a < 9223372036854775808 := by
  simp [Lit.wf, IntKind.min, IntKind.max, IntKind.signed, IntKind.bits] at h
  omega
theorem wf_u64' {a : Int} (h : (Lit.int .u64 a).wf = true) : InW a := by
  simp [Lit.wf, IntKind.min, IntKind.max, IntKind.signed, IntKind.bits] at h
  unfold InW
  omega
theorem IsNums.of_row {K : IntKind} {w : World} {x : Addr} {len cap : Nat} {zs : List Int} (hl : len ≤ cap) (hm : cap ≤ maxLen) (hz : zs.length = cap) (hc : ∀ i, i < zs.length → w.cell? (x.add i) = some (.int K (zs.getD i 0))) : IsNums K w w.heap.size (.slice (some x) len cap) (zs.take len) := by
  have hlen : (zs.take len).length = len := by simp; omega
  refine ⟨by omega, .inr ⟨x, cap, by rw [hlen], by omega, fun h0 => ?_, fun i hi => ?_⟩⟩
  · have := hc 0 (by omega)
    have hb := World.block_lt_of_cell? w _ this
    rwa [add_block] at hb
  · rw [hlen] at hi
    rw [hc i (by omega)]
    simp [List.getD, hi]
theorem open_nums {H : Type} {enc : TypeId × Value → H} {w : World} {fuel : Nat} {t e : TypeId} {K : IntKind} {c : Value} {x : DataW H × List MemPlace} (ht : Tryz.prog.underlying t = some (.slice e)) (he : Tryz.prog.underlying e = some (.int K)) (hc : Tryz.prog.cellsOf e = 1)
    (h : DataW.trod enc Tryz.prog w 0 (fun _ => true) true fuel t [c] = some x) : ∃ zs, IsNums K w w.heap.size c zs ∧ ∀ z ∈ zs, (Lit.int K z).wf = true := by
  rcases open_ints ht he hc h with ⟨hcs, _⟩ | ⟨a, len, cap, zs, hcs, _, hl, hm, hz, _, hcell, hwz⟩
  · injection hcs with hcs _
    exact ⟨[], ⟨by simp, .inl ⟨hcs, rfl⟩⟩, by simp⟩
  · injection hcs with hcs _
    subst hcs
    exact ⟨zs.take len, IsNums.of_row hl hm (by simpa using hz) hcell, fun z hz => hwz z (List.mem_of_mem_take hz)⟩
theorem open_bytes4 {H : Type} {enc : TypeId × Value → H} {w : World} {fuel : Nat} {c : Value} {x : DataW H × List MemPlace} (h : DataW.trod enc Tryz.prog w 0 (fun _ => true) true fuel 25 [c] = some x) : ∃ zs, IsBytes w w.heap.size c zs := by
  rcases open_ints Tryz.underlying25 Tryz.underlying5 (by kernel_rfl) h with ⟨hcs, _⟩ | ⟨a, len, cap, zs, hcs, _, hl, hm, hz, _, hcell, hwz⟩
  · injection hcs with hcs _
    exact ⟨[], by simp, by simp, .inl ⟨hcs, rfl⟩⟩
  · injection hcs with hcs _
    subst hcs
    exact ⟨zs.take len, IsBytes.of_row hl hm (by simpa using hz) hcell hwz⟩
set_option maxRecDepth 100000 in
theorem open_start {H : Type} {enc : TypeId × Value → H} {w : World} {fuel : Nat} {cs : List Value} {x : DataW H × List MemPlace} (h : DataW.trod enc Tryz.prog w 0 (fun _ => true) true fuel 27 cs = some x) :
    ∃ S : StartV, cs = [S.vc, S.vr, .bool S.far, .int .u64 S.at', S.vb] ∧ S.ok w w.heap.size := by
  obtain ⟨xs, n, _, _, hl, hx, hf⟩ := DataW.trod_struct Tryz.underlying27 h
  have hC : Tryz.prog.cellsOf 27 = 5 := by kernel_rfl
  have c1 : Tryz.prog.cellsOf 22 = 1 := by kernel_rfl
  have c2 : Tryz.prog.cellsOf 23 = 1 := by kernel_rfl
  have c3 : Tryz.prog.cellsOf 4 = 1 := by kernel_rfl
  have c4 : Tryz.prog.cellsOf 24 = 1 := by kernel_rfl
  have c5 : Tryz.prog.cellsOf 25 = 1 := by kernel_rfl
  rw [hC] at hl
  match cs, hl with
  | [v0, v1, v2, v3, v4], _ =>
    match xs, hx with
    | [y0, y1, y2, y3, y4], _ =>
      have h0 := hf 0 _ rfl
      have h1 := hf 1 _ rfl
      have h2 := hf 2 _ rfl
      have h3 := hf 3 _ rfl
      have h4 := hf 4 _ rfl
      simp [c1] at h0
      simp [c2] at h1
      simp [c3] at h2
      simp [c4] at h3
      simp [c5] at h4
      obtain ⟨cd, hcd, wcd⟩ := open_nums (c := v0) Tryz.underlying22 Tryz.underlying74 (by kernel_rfl) h0
      obtain ⟨rg, hrg, wrg⟩ := open_nums (c := v1) Tryz.underlying23 Tryz.underlying24 (by kernel_rfl) h1
      obtain ⟨b, e2, _⟩ := DataW.trod_bool Tryz.underlying4 h2
      obtain ⟨a, e3, _, w3⟩ := DataW.trod_int Tryz.underlying24 h3
      obtain ⟨bs, hbs⟩ := open_bytes4 (c := v4) h4
      injection e2 with e2 _
      injection e3 with e3 _
      subst e2 e3
      exact ⟨⟨v0, cd, v1, rg, b, a, v4, bs⟩, rfl, ⟨hcd, fun x hx => wf_u32' (wcd x hx), hrg, fun x hx => wf_u64' (wrg x hx), wf_u64' w3, hbs⟩⟩
set_option maxRecDepth 100000 in
theorem open_start_value {H : Type} {enc : TypeId × Value → H} {w : World} {r : Reach} {b0 : Nat} {v : Value} {d : DataW H} {p : List MemPlace} (hv : Value.okWide Tryz.prog w r b0 27 v)
    (h : DataW.Trod enc Tryz.prog w 0 (fun _ => true) true 27 v d p) : ∃ S : StartV, v = .agg #[S.vc, S.vr, .bool S.far, .int .u64 S.at', S.vb] ∧ S.ok w w.heap.size := by
  obtain ⟨cs, rfl, hsz⟩ := okWide_struct Tryz.underlying27 hv
  obtain ⟨fuel, hf⟩ := h
  obtain ⟨A, hA, hok⟩ := open_start hf
  refine ⟨A, ?_, hok⟩
  obtain ⟨l⟩ := cs
  simp [Value.cells] at hA
  subst hA
  rfl
theorem trod_places {H : Type} {enc : TypeId × Value → H} {w : World} {t : TypeId} {v : Value} {d : DataW H} {p : List MemPlace} (h : DataW.Trod enc Tryz.prog w 0 (fun _ => true) true t v d p) : ∀ x ∈ p, x.block < w.heap.size := by
  obtain ⟨m, hm⟩ := h
  exact DataW.trod_lt m _ _ _ hm
end Go.Proofs.YtnaceogkaiodnaaGreat

