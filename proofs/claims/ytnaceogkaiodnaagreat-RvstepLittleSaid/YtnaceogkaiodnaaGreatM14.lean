/- How a machine of the statements of layer 4 begins: Begin, for any code, registers, place and bytes that are gone through: contracts in whatever memory of the program. -/
import Derived.Test.YtnaceogkaiodnaaGreatM13
import Derived.Test.YtnaceogkaiodnaaGreatRows
import Derived.ChangeSame
import Derived.ChangeShapes
import Derived.WideShapes
namespace Go.Proofs.YtnaceogkaiodnaaGreat
open Go.RowKit
theorem wf_u8 {a : Int} (h : (Lit.int .u8 a).wf = true) : 0 ≤ a ∧ a < 256 := by
  simp [Lit.wf, IntKind.min, IntKind.max, IntKind.signed, IntKind.bits] at h
  omega
end Go.Proofs.YtnaceogkaiodnaaGreat
namespace Go.Proofs.YtnaceogkaiodnaaGreat
open Go.RowKit
theorem IsBytes.of_row {w : World} {x : Addr} {len cap : Nat} {zs : List Int} (hl : len ≤ cap) (hm : cap ≤ maxLen) (hz : zs.length = cap) (hc : ∀ i, i < zs.length → w.cell? (x.add i) = some (.int .u8 (zs.getD i 0)))
    (hw : ∀ n ∈ zs, (Lit.int .u8 n).wf = true) : IsBytes w w.heap.size (.slice (some x) len cap) (zs.take len) := by
  have hlen : (zs.take len).length = len := by simp; omega
  refine ⟨fun y hy => wf_u8 (hw y (List.mem_of_mem_take hy)), by omega, .inr ⟨x, cap, by rw [hlen], by omega, fun hn => ?_, fun i hi => ?_⟩⟩
  · have h := block_lt_of_cell (hc 0 (by omega))
    have e : (x.add 0).block = x.block := by unfold Addr.add; split <;> rfl
    omega
  · rw [hlen] at hi
    rw [hc i (by omega)]
    simp [List.getD, hi]
end Go.Proofs.YtnaceogkaiodnaaGreat
namespace Go.Proofs.YtnaceogkaiodnaaGreat
open Go.RowKit
set_option linter.unusedVariables false

/-- How a machine begins. -/
structure StartV where
  vc : Value
  code : List Int
  vr : Value
  regs : List Int
  far : Bool
  at' : Int
  vb : Value
  bs : List Int
def StartV.val (S : StartV) : Value := .agg #[S.vc, S.vr, .bool S.far, .int .u64 S.at', S.vb]
structure StartV.ok (S : StartV) (w : World) (B : Nat) : Prop where
  code : IsNums .u32 w B S.vc S.code
  words : ∀ x ∈ S.code, 0 ≤ x ∧ x < 4294967296
  regs : IsNums .u64 w B S.vr S.regs
  nums : ∀ x ∈ S.regs, InW x
  at' : InW S.at'
  bytes : IsBytes w B S.vb S.bs
theorem StartV.ok.below {S : StartV} {w w' : World} {B B' : Nat} (h : S.ok w B) (hb : Below B' w w') (hB : B ≤ B') : S.ok w' B := ⟨h.code.below hb hB, h.words, h.regs.below hb hB, h.nums, h.at', h.bytes.below hb hB⟩
/-- Registers set, so many of them. -/
def setsV (z : MSt) (regs : List Int) : Nat → MSt
  | 0 => z
  | k + 1 => (setV (setsV z regs k) k (regs.getD k 0)).2
def begin0 (S : StartV) : MSt := MSt.zero (layB (List.replicate 128 0) 16 S.bs)
def beginV (S : StartV) : MSt := if S.far = true then (setsV (begin0 S) S.regs S.regs.length).at' S.at' else setsV (begin0 S) S.regs S.regs.length
theorem getD_inW {l : List Int} (h : ∀ x ∈ l, InW x) (k : Nat) : InW (l.getD k 0) := by
  rcases Nat.lt_or_ge k l.length with hk | hk
  · exact h _ (getD_mem hk)
  · simp [List.getD, hk, InW]
def BeginDone (w : World) (S : StartV) (e : Ending) (w' : World) : Prop :=
  ∃ xb mb bb c eb V, e = .returned (.tuple #[.pointer (some ⟨xb, 0, none⟩), .pointer (some ⟨mb, 0, none⟩)]) ∧ NewMach w w' xb mb bb c eb V S.code (beginV S) ∧ w.heap.size ≤ eb ∧ ∀ k, CodeIn V k → k < w'.heap.size
theorem NewMach.down {w W w' : World} {xb mb bb c eb : Nat} {V : Value} {code : List Int} {s : MSt} (h : NewMach W w' xb mb bb c eb V code s) (hb : Below w.heap.size w W) : NewMach w w' xb mb bb c eb V code s :=
  ⟨h.1, Nat.le_trans hb.size h.2.1, Nat.le_trans hb.size h.2.2.1, Nat.le_trans hb.size h.2.2.2.1, fun k hk => Nat.le_trans hb.size (h.2.2.2.2.1 k hk), hb.trans (h.2.2.2.2.2.mono hb.size)⟩
set_option maxRecDepth 100000 in
set_option maxHeartbeats 8000000 in
theorem begin_some {w : World} {S : StartV} (hS : S.ok w w.heap.size) (hlc : S.code.length ≤ 60) (hlr : S.regs.length ≤ 40) (hlb : S.bs.length ≤ 200) {b off cap : Nat} (hvr : S.vr = .slice (some ⟨b, off, none⟩) S.regs.length cap) (hcap : S.regs.length ≤ cap) (hbl : b < w.heap.size) (hg : ∀ i, i < S.regs.length → w.cell? ⟨b, off + i, none⟩ = some (.int .u64 (S.regs.getD i 0))) :
    Calls Tryz.prog 22 #[.agg #[S.vc, S.vr, .bool S.far, .int .u64 S.at', S.vb]] w (BeginDone w S) := by
  have hbW := (Below.refl w.heap.size w).alloc (Nat.le_refl _) (.cells #[S.vc, S.vr, .bool S.far, .int .u64 S.at', S.vb] 27)
  have hSW : S.ok (w.alloc (.cells #[S.vc, S.vr, .bool S.far, .int .u64 S.at', S.vb] 27)) w.heap.size := hS.below hbW (Nat.le_refl _)
  have HBW := Lib.hid hbW
  have k0 := new_cell w #[S.vc, S.vr, .bool S.far, .int .u64 S.at', S.vb] 27 w.heap.size 0 _ rfl rfl
  have k1 := new_cell w #[S.vc, S.vr, .bool S.far, .int .u64 S.at', S.vb] 27 w.heap.size 1 _ rfl rfl
  have k2 := new_cell w #[S.vc, S.vr, .bool S.far, .int .u64 S.at', S.vb] 27 w.heap.size 2 _ rfl rfl
  have k3 := new_cell w #[S.vc, S.vr, .bool S.far, .int .u64 S.at', S.vb] 27 w.heap.size 3 _ rfl rfl
  have k4 := new_cell w #[S.vc, S.vr, .bool S.far, .int .u64 S.at', S.vb] 27 w.heap.size 4 _ rfl rfl
  have hsz : w.heap.size < (w.alloc (.cells #[S.vc, S.vr, .bool S.far, .int .u64 S.at', S.vb] 27)).heap.size := by simp
  have hgW : ∀ i, i < S.regs.length → (w.alloc (.cells #[S.vc, S.vr, .bool S.far, .int .u64 S.at', S.vb] 27)).cell? ⟨b, off + i, none⟩ = some (.int .u64 (S.regs.getD i 0)) := fun i hi => (hbW.cell (p := ⟨b, off + i, none⟩) hbl).trans (hg i hi)
  have HG := Lib.hid hgW
  have HSW := Lib.hid hSW
  have HLC := Lib.hid hlc
  have HLB := Lib.hid hlb
  have hm := eqlM_nil
  have hp := eqlP_nil
  obtain ⟨Z, hZ⟩ : ∃ Z, Z = beginV S := ⟨_, rfl⟩
  have HZ := Lib.hid hZ
  have HVR := Lib.hid hvr
  clear hvr
  go_enter Tryz.func22, Tryz.ntmps22
  go_wp2_with (go_at_call 48; fail)
  generalize w.alloc (.cells #[S.vc, S.vr, .bool S.far, .int .u64 S.at', S.vb] 27) = W at *
  rw [HVR.out] at k1
  obtain ⟨n, hn⟩ : ∃ n, n = S.regs.length := ⟨_, rfl⟩
  rw [← hn] at k1 hlr hcap
  have HN := Lib.hid hn
  generalize hvc : S.vc = VC at k0
  generalize hvb : S.vb = VB at k4
  generalize hfar : S.far = FR at k2
  generalize hat : S.at' = AT at k3
  have HVC := Lib.hid hvc
  have HVB := Lib.hid hvb
  have HFAR := Lib.hid hfar
  have HAT := Lib.hid hat
  clear hS hSW hbW hlc hlb hZ hvc hvb hfar hat hg hgW hn
  refine (new_yes 128 W (by decide) (by decide)).mono ?_
  rintro e w1 ⟨mb, bb, c, rfl, hm1, q1, q2, hb1⟩
  have M1 := Lib.hid hm1
  have B1 := Lib.hid hb1
  have hly := lay_any hm1 16 (HSW.out.bytes.below hb1 (by omega)) (by decide) (by decide)
  rw [HVB.out] at hly
  have HLY := Lib.hid hly
  replace k0 := (hb1.cell (p := ⟨w.heap.size, 0, none⟩) hsz).trans k0
  replace k1 := (hb1.cell (p := ⟨w.heap.size, 1, none⟩) hsz).trans k1
  replace k2 := (hb1.cell (p := ⟨w.heap.size, 2, none⟩) hsz).trans k2
  replace k3 := (hb1.cell (p := ⟨w.heap.size, 3, none⟩) hsz).trans k3
  replace k4 := (hb1.cell (p := ⟨w.heap.size, 4, none⟩) hsz).trans k4
  have s1 := hb1.size
  clear hm1 hb1 hly
  go_wp2_with (first
    | (go_at_call 52; (with_reducible refine HLY.out.mono ?_); rintro e w2 ⟨rfl, hm2, hb2⟩; have M2 := Lib.hid hm2; have hw2 := below_store B1.out hb2 B1.out.size q2; have B2 := Lib.hid hw2; have s2 := hb2.size; replace k0 := (hb2.cell (p := ⟨w.heap.size, 0, none⟩) (show w.heap.size < w1.heap.size by omega) (oneBlock_not (show w.heap.size ≠ bb by omega))).trans k0; replace k1 := (hb2.cell (p := ⟨w.heap.size, 1, none⟩) (show w.heap.size < w1.heap.size by omega) (oneBlock_not (show w.heap.size ≠ bb by omega))).trans k1; replace k2 := (hb2.cell (p := ⟨w.heap.size, 2, none⟩) (show w.heap.size < w1.heap.size by omega) (oneBlock_not (show w.heap.size ≠ bb by omega))).trans k2; replace k3 := (hb2.cell (p := ⟨w.heap.size, 3, none⟩) (show w.heap.size < w1.heap.size by omega) (oneBlock_not (show w.heap.size ≠ bb by omega))).trans k3; replace k4 := (hb2.cell (p := ⟨w.heap.size, 4, none⟩) (show w.heap.size < w1.heap.size by omega) (oneBlock_not (show w.heap.size ≠ bb by omega))).trans k4; clear hm2 hb2 hw2)
    | (go_at_call 49; (with_reducible refine (newMach_any M2.out).mono ?_); rintro e w3 ⟨xb, eb, rfl, hm3, q3, hb3, q9⟩; have hw3 := B2.out.trans (hb3.mono B2.out.size); have B3 := Lib.hid hw3; have s3 := hb3.size; have hlt := hm3.lt.1; have hL := loadCode_any hm3 (HSW.out.code.below hw3 (by omega)) (show w.heap.size ≤ w3.heap.size by omega) (fun b' o n' k' he hpos => by (obtain ⟨b2, o2, c2, e2, _, r2, _⟩ := HSW.out.code.plain hpos; rw [e2] at he; injection he with he _ _; injection he with he; injection he with he _ _; omega)) HSW.out.words (by have := HLC.out; omega); rw [HVC.out] at hL; have HL := Lib.hid hL; replace k0 := (hb3.cell (p := ⟨w.heap.size, 0, none⟩) (show w.heap.size < w2.heap.size by omega)).trans k0; replace k1 := (hb3.cell (p := ⟨w.heap.size, 1, none⟩) (show w.heap.size < w2.heap.size by omega)).trans k1; replace k2 := (hb3.cell (p := ⟨w.heap.size, 2, none⟩) (show w.heap.size < w2.heap.size by omega)).trans k2; replace k3 := (hb3.cell (p := ⟨w.heap.size, 3, none⟩) (show w.heap.size < w2.heap.size by omega)).trans k3; clear hm3 hb3 hL hw3)
    | (go_at_call 51; (with_reducible refine HL.out.mono ?_); rintro e w4 ⟨rfl, hm4, hb4, hl4⟩; have N4 := Lib.hid (show NewMach W w4 xb mb bb c eb _ S.code (begin0 S) from ⟨hm4, Nat.le_trans (by omega) q3, q1, q2, fun k hk => by (rw [hk.one]; omega), But.below B3.out hb4 B3.out.size (fun k hk => by rw [show k = xb from hk]; omega)⟩); replace k1 := (hb4.cell (p := ⟨w.heap.size, 1, none⟩) (show w.heap.size < w3.heap.size by omega) (oneBlock_not (show w.heap.size ≠ xb by omega))).trans k1; replace k2 := (hb4.cell (p := ⟨w.heap.size, 2, none⟩) (show w.heap.size < w3.heap.size by omega) (oneBlock_not (show w.heap.size ≠ xb by omega))).trans k2; replace k3 := (hb4.cell (p := ⟨w.heap.size, 3, none⟩) (show w.heap.size < w3.heap.size by omega) (oneBlock_not (show w.heap.size ≠ xb by omega))).trans k3; have s4 := hb4.size; clear hm4 hb4 k0 k4))
  have HK := Lib.hid (show w4.cell? ⟨w.heap.size, 1, none⟩ = some (.slice (some ⟨b, off, none⟩) n cap) ∧ w4.cell? ⟨w.heap.size, 2, none⟩ = some (.bool FR) ∧ w4.cell? ⟨w.heap.size, 3, none⟩ = some (.int .u64 AT) ∧ w3.heap.size < w4.heap.size from ⟨k1, k2, k3, hl4⟩)
  clear k1 k2 k3
  go_loopw [8] (fun i wr => ∃ k : Nat, k ≤ n ∧ i = .int .i64 k ∧ Hid (NewMach W wr xb mb bb c eb _ S.code (setsV (begin0 S) S.regs k)) ∧ Hid (wr.cell? ⟨w.heap.size, 1, none⟩ = some (.slice (some ⟨b, off, none⟩) n cap) ∧ wr.cell? ⟨w.heap.size, 2, none⟩ = some (.bool FR) ∧ wr.cell? ⟨w.heap.size, 3, none⟩ = some (.int .u64 AT) ∧ w3.heap.size < wr.heap.size)) (fun i _ => n - (intOf i).toNat)
  case atStart => exact ⟨0, by omega, rfl, N4, HK⟩
  case round =>
    obtain ⟨k, hk, rfl, hq, hkk⟩ := hrel
    obtain ⟨k1, k2, k3, k4⟩ := hkk.out
    by_cases hlt : k < n
    · have hbw : b < W.heap.size := by omega
      have d1 : wr.cell? ⟨b, off + k, none⟩ = some (.int .u64 (S.regs.getD k 0)) := (hq.out.2.2.2.2.2.cell (p := ⟨b, off + k, none⟩) hbw).trans (HG.out k (by have := HN.out; omega))
      have hset := set_any hq.out.1 k (S.regs.getD k 0) (getD_inW HSW.out.nums k)
      have hnx : setsV (begin0 S) S.regs (k + 1) = (setV (setsV (begin0 S) S.regs k) k (S.regs.getD k 0)).2 := rfl
      have he : (setV (setsV (begin0 S) S.regs k) k (S.regs.getD k 0)).1 = if (k : Int) < 32 then 0 else 2 := by
        unfold setV
        by_cases h32 : (k : Int) < 32
        · rw [if_pos ⟨by omega, h32⟩, if_pos h32]
        · rw [if_neg (fun q => h32 q.2), if_neg h32]
      generalize setV (setsV (begin0 S) S.regs k) k (S.regs.getD k 0) = R at hset hnx he
      obtain ⟨E, s2⟩ := R
      generalize S.regs.getD k 0 = x at d1 hset
      have HST := Lib.hid hset
      have HNX := Lib.hid hnx
      have kk : (k : Int) < (n : Int) := by omega
      have hWl := hq.out.2.2.2.2.2.size
      clear hset hnx he
      go_wp2_with (go_at_call 17; (with_reducible refine HST.out.mono ?_); rintro e w5 ⟨rfl, hm5, hb5⟩; have N5 := Lib.hid (hq.out.next hm5 hb5); have hB5 := hq.out.below hb5; have HK5 := Lib.hid (show w5.cell? ⟨w.heap.size, 1, none⟩ = some (.slice (some ⟨b, off, none⟩) n cap) ∧ w5.cell? ⟨w.heap.size, 2, none⟩ = some (.bool FR) ∧ w5.cell? ⟨w.heap.size, 3, none⟩ = some (.int .u64 AT) ∧ w3.heap.size < w5.heap.size from ⟨(hB5.cell (p := ⟨w.heap.size, 1, none⟩) hsz).trans ((hq.out.2.2.2.2.2.cell (p := ⟨w.heap.size, 1, none⟩) hsz).symm.trans k1), (hB5.cell (p := ⟨w.heap.size, 2, none⟩) hsz).trans ((hq.out.2.2.2.2.2.cell (p := ⟨w.heap.size, 2, none⟩) hsz).symm.trans k2), (hB5.cell (p := ⟨w.heap.size, 3, none⟩) hsz).trans ((hq.out.2.2.2.2.2.cell (p := ⟨w.heap.size, 3, none⟩) hsz).symm.trans k3), (by have := hb5.size; omega)⟩); clear hm5 hb5 hB5)
      go_roundw
      case rel => exact ⟨k + 1, by omega, by go_num, by rw [HNX.out]; exact N5, HK5⟩
      case measure => simp [intOf]; omega
    · obtain rfl : k = n := by omega
      have hfin := hq.out
      rw [HN.out] at hfin
      have hend : Z = if FR = true then (setsV (begin0 S) S.regs S.regs.length).at' AT else setsV (begin0 S) S.regs S.regs.length := by
        rw [HZ.out, ← HFAR.out, ← HAT.out]; rfl
      have hjp := jump_any hfin.1 AT (by rw [← HAT.out]; exact HSW.out.at')
      generalize setsV (begin0 S) S.regs S.regs.length = s9 at hfin hend hjp
      have HFIN := Lib.hid hfin
      have HEND := Lib.hid hend
      have HJ := Lib.hid hjp
      clear hfin hend hjp
      cases FR
      · go_wp2
        go_ret2
        have hz : beginV S = s9 := HZ.out.symm.trans HEND.out
        exact ⟨xb, mb, bb, c, eb, _, rfl, by rw [hz]; exact HFIN.out.down HBW.out, Nat.le_trans (Nat.le_trans HBW.out.size B2.out.size) q9, fun k' hk' => by rw [hk'.one]; exact k4⟩
      · go_wp2_with (go_at_call 19; (with_reducible refine HJ.out.mono ?_); rintro e w6 ⟨rfl, hm6, hb6⟩; have N6 := Lib.hid (HFIN.out.next hm6 hb6); have HL6 := Lib.hid hb6.size; clear hm6 hb6)
        go_ret2
        have hz : beginV S = s9.at' AT := HZ.out.symm.trans HEND.out
        exact ⟨xb, mb, bb, c, eb, _, rfl, by rw [hz]; exact N6.out.down HBW.out, Nat.le_trans (Nat.le_trans HBW.out.size B2.out.size) q9, fun k' hk' => by rw [hk'.one]; exact Nat.lt_of_lt_of_le k4 HL6.out⟩
set_option maxRecDepth 100000 in
set_option maxHeartbeats 8000000 in
theorem begin_none {w : World} {S : StartV} (hS : S.ok w w.heap.size) (hlc : S.code.length ≤ 60) (hlr : S.regs.length ≤ 40) (hlb : S.bs.length ≤ 200) {A : Option Addr} {cap : Nat} (hvr : S.vr = .slice A 0 cap) (h0 : S.regs.length = 0) :
    Calls Tryz.prog 22 #[.agg #[S.vc, S.vr, .bool S.far, .int .u64 S.at', S.vb]] w (BeginDone w S) := by
  have hbW := (Below.refl w.heap.size w).alloc (Nat.le_refl _) (.cells #[S.vc, S.vr, .bool S.far, .int .u64 S.at', S.vb] 27)
  have hSW : S.ok (w.alloc (.cells #[S.vc, S.vr, .bool S.far, .int .u64 S.at', S.vb] 27)) w.heap.size := hS.below hbW (Nat.le_refl _)
  have HBW := Lib.hid hbW
  have k0 := new_cell w #[S.vc, S.vr, .bool S.far, .int .u64 S.at', S.vb] 27 w.heap.size 0 _ rfl rfl
  have k1 := new_cell w #[S.vc, S.vr, .bool S.far, .int .u64 S.at', S.vb] 27 w.heap.size 1 _ rfl rfl
  have k2 := new_cell w #[S.vc, S.vr, .bool S.far, .int .u64 S.at', S.vb] 27 w.heap.size 2 _ rfl rfl
  have k3 := new_cell w #[S.vc, S.vr, .bool S.far, .int .u64 S.at', S.vb] 27 w.heap.size 3 _ rfl rfl
  have k4 := new_cell w #[S.vc, S.vr, .bool S.far, .int .u64 S.at', S.vb] 27 w.heap.size 4 _ rfl rfl
  have hsz : w.heap.size < (w.alloc (.cells #[S.vc, S.vr, .bool S.far, .int .u64 S.at', S.vb] 27)).heap.size := by simp
  have H0 := Lib.hid h0
  have HSW := Lib.hid hSW
  have HLC := Lib.hid hlc
  have HLB := Lib.hid hlb
  have hm := eqlM_nil
  have hp := eqlP_nil
  obtain ⟨Z, hZ⟩ : ∃ Z, Z = beginV S := ⟨_, rfl⟩
  have HZ := Lib.hid hZ
  have HVR := Lib.hid hvr
  clear hvr
  go_enter Tryz.func22, Tryz.ntmps22
  go_wp2_with (go_at_call 48; fail)
  generalize w.alloc (.cells #[S.vc, S.vr, .bool S.far, .int .u64 S.at', S.vb] 27) = W at *
  rw [HVR.out] at k1
  generalize hvc : S.vc = VC at k0
  generalize hvb : S.vb = VB at k4
  generalize hfar : S.far = FR at k2
  generalize hat : S.at' = AT at k3
  have HVC := Lib.hid hvc
  have HVB := Lib.hid hvb
  have HFAR := Lib.hid hfar
  have HAT := Lib.hid hat
  clear hS hSW hbW hlc hlb hZ hvc hvb hfar hat h0 hlr
  refine (new_yes 128 W (by decide) (by decide)).mono ?_
  rintro e w1 ⟨mb, bb, c, rfl, hm1, q1, q2, hb1⟩
  have M1 := Lib.hid hm1
  have B1 := Lib.hid hb1
  have hly := lay_any hm1 16 (HSW.out.bytes.below hb1 (by omega)) (by decide) (by decide)
  rw [HVB.out] at hly
  have HLY := Lib.hid hly
  replace k0 := (hb1.cell (p := ⟨w.heap.size, 0, none⟩) hsz).trans k0
  replace k1 := (hb1.cell (p := ⟨w.heap.size, 1, none⟩) hsz).trans k1
  replace k2 := (hb1.cell (p := ⟨w.heap.size, 2, none⟩) hsz).trans k2
  replace k3 := (hb1.cell (p := ⟨w.heap.size, 3, none⟩) hsz).trans k3
  replace k4 := (hb1.cell (p := ⟨w.heap.size, 4, none⟩) hsz).trans k4
  have s1 := hb1.size
  clear hm1 hb1 hly
  go_wp2_with (first
    | (go_at_call 52; (with_reducible refine HLY.out.mono ?_); rintro e w2 ⟨rfl, hm2, hb2⟩; have M2 := Lib.hid hm2; have hw2 := below_store B1.out hb2 B1.out.size q2; have B2 := Lib.hid hw2; have s2 := hb2.size; replace k0 := (hb2.cell (p := ⟨w.heap.size, 0, none⟩) (show w.heap.size < w1.heap.size by omega) (oneBlock_not (show w.heap.size ≠ bb by omega))).trans k0; replace k1 := (hb2.cell (p := ⟨w.heap.size, 1, none⟩) (show w.heap.size < w1.heap.size by omega) (oneBlock_not (show w.heap.size ≠ bb by omega))).trans k1; replace k2 := (hb2.cell (p := ⟨w.heap.size, 2, none⟩) (show w.heap.size < w1.heap.size by omega) (oneBlock_not (show w.heap.size ≠ bb by omega))).trans k2; replace k3 := (hb2.cell (p := ⟨w.heap.size, 3, none⟩) (show w.heap.size < w1.heap.size by omega) (oneBlock_not (show w.heap.size ≠ bb by omega))).trans k3; replace k4 := (hb2.cell (p := ⟨w.heap.size, 4, none⟩) (show w.heap.size < w1.heap.size by omega) (oneBlock_not (show w.heap.size ≠ bb by omega))).trans k4; clear hm2 hb2 hw2)
    | (go_at_call 49; (with_reducible refine (newMach_any M2.out).mono ?_); rintro e w3 ⟨xb, eb, rfl, hm3, q3, hb3, q9⟩; have hw3 := B2.out.trans (hb3.mono B2.out.size); have B3 := Lib.hid hw3; have s3 := hb3.size; have hlt := hm3.lt.1; have hL := loadCode_any hm3 (HSW.out.code.below hw3 (by omega)) (show w.heap.size ≤ w3.heap.size by omega) (fun b' o n' k' he hpos => by (obtain ⟨b2, o2, c2, e2, _, r2, _⟩ := HSW.out.code.plain hpos; rw [e2] at he; injection he with he _ _; injection he with he; injection he with he _ _; omega)) HSW.out.words (by have := HLC.out; omega); rw [HVC.out] at hL; have HL := Lib.hid hL; replace k0 := (hb3.cell (p := ⟨w.heap.size, 0, none⟩) (show w.heap.size < w2.heap.size by omega)).trans k0; replace k1 := (hb3.cell (p := ⟨w.heap.size, 1, none⟩) (show w.heap.size < w2.heap.size by omega)).trans k1; replace k2 := (hb3.cell (p := ⟨w.heap.size, 2, none⟩) (show w.heap.size < w2.heap.size by omega)).trans k2; replace k3 := (hb3.cell (p := ⟨w.heap.size, 3, none⟩) (show w.heap.size < w2.heap.size by omega)).trans k3; clear hm3 hb3 hL hw3)
    | (go_at_call 51; (with_reducible refine HL.out.mono ?_); rintro e w4 ⟨rfl, hm4, hb4, hl4⟩; have N4 := Lib.hid (show NewMach W w4 xb mb bb c eb _ S.code (begin0 S) from ⟨hm4, Nat.le_trans (by omega) q3, q1, q2, fun k hk => by (rw [hk.one]; omega), But.below B3.out hb4 B3.out.size (fun k hk => by rw [show k = xb from hk]; omega)⟩); replace k1 := (hb4.cell (p := ⟨w.heap.size, 1, none⟩) (show w.heap.size < w3.heap.size by omega) (oneBlock_not (show w.heap.size ≠ xb by omega))).trans k1; replace k2 := (hb4.cell (p := ⟨w.heap.size, 2, none⟩) (show w.heap.size < w3.heap.size by omega) (oneBlock_not (show w.heap.size ≠ xb by omega))).trans k2; replace k3 := (hb4.cell (p := ⟨w.heap.size, 3, none⟩) (show w.heap.size < w3.heap.size by omega) (oneBlock_not (show w.heap.size ≠ xb by omega))).trans k3; have s4 := hb4.size; clear hm4 hb4 k0 k4))
  have HK := Lib.hid (show w4.cell? ⟨w.heap.size, 1, none⟩ = some (.slice A 0 cap) ∧ w4.cell? ⟨w.heap.size, 2, none⟩ = some (.bool FR) ∧ w4.cell? ⟨w.heap.size, 3, none⟩ = some (.int .u64 AT) ∧ w3.heap.size < w4.heap.size from ⟨k1, k2, k3, hl4⟩)
  clear k1 k2 k3
  go_loopw [8] (fun i wr => i = .int .i64 0 ∧ wr = w4) (fun i _ => 0)
  case atStart => exact ⟨rfl, rfl⟩
  case round =>
    obtain ⟨rfl, rfl⟩ := hrel
    obtain ⟨k1, k2, k3, k4⟩ := HK.out
    by_cases hlt : False
    · exact hlt.elim
    · have hfin : NewMach W wr xb mb bb c eb (.slice (some ⟨w3.heap.size, 0, none⟩) S.code.length S.code.length) S.code (setsV (begin0 S) S.regs S.regs.length) := by rw [H0.out]; exact N4.out
      have hend : Z = if FR = true then (setsV (begin0 S) S.regs S.regs.length).at' AT else setsV (begin0 S) S.regs S.regs.length := by
        rw [HZ.out, ← HFAR.out, ← HAT.out]; rfl
      have hjp := jump_any hfin.1 AT (by rw [← HAT.out]; exact HSW.out.at')
      generalize setsV (begin0 S) S.regs S.regs.length = s9 at hfin hend hjp
      have HFIN := Lib.hid hfin
      have HEND := Lib.hid hend
      have HJ := Lib.hid hjp
      clear hfin hend hjp
      cases FR
      · go_wp2
        go_ret2
        have hz : beginV S = s9 := HZ.out.symm.trans HEND.out
        exact ⟨xb, mb, bb, c, eb, _, rfl, by rw [hz]; exact HFIN.out.down HBW.out, Nat.le_trans (Nat.le_trans HBW.out.size B2.out.size) q9, fun k' hk' => by rw [hk'.one]; exact k4⟩
      · go_wp2_with (go_at_call 19; (with_reducible refine HJ.out.mono ?_); rintro e w6 ⟨rfl, hm6, hb6⟩; have N6 := Lib.hid (HFIN.out.next hm6 hb6); have HL6 := Lib.hid hb6.size; clear hm6 hb6)
        go_ret2
        have hz : beginV S = s9.at' AT := HZ.out.symm.trans HEND.out
        exact ⟨xb, mb, bb, c, eb, _, rfl, by rw [hz]; exact N6.out.down HBW.out, Nat.le_trans (Nat.le_trans HBW.out.size B2.out.size) q9, fun k' hk' => by rw [hk'.one]; exact Nat.lt_of_lt_of_le k4 HL6.out⟩
theorem begin_any {w : World} {S : StartV} (hS : S.ok w w.heap.size) (hlc : S.code.length ≤ 60) (hlr : S.regs.length ≤ 40) (hlb : S.bs.length ≤ 200) :
    Calls Tryz.prog 22 #[.agg #[S.vc, S.vr, .bool S.far, .int .u64 S.at', S.vb]] w (BeginDone w S) := by
  by_cases hp : 0 < S.regs.length
  · obtain ⟨b, off, cap, hv, h1, h2, h3⟩ := hS.regs.plain hp
    exact begin_some hS hlc hlr hlb hv h1 h2 h3
  · obtain ⟨A, cap, hv⟩ := hS.regs.len
    have h0 : S.regs.length = 0 := by omega
    rw [h0] at hv
    exact begin_none hS hlc hlr hlb hv h0
end Go.Proofs.YtnaceogkaiodnaaGreat

namespace Go.Proofs.YtnaceogkaiodnaaGreat
open Go.RowKit
set_option linter.unusedVariables false

/-- Is it more than is gone through? -/
def longV (S : StartV) : Bool := decide (60 < S.code.length) || (decide (40 < S.regs.length) || decide (200 < S.bs.length))
theorem longV_false {S : StartV} (h : longV S = false) : S.code.length ≤ 60 ∧ S.regs.length ≤ 40 ∧ S.bs.length ≤ 200 := by
  unfold longV at h
  simp only [Bool.or_eq_false_iff, decide_eq_false_iff_not] at h
  omega
set_option maxRecDepth 100000 in
theorem long4_any {w : World} {S : StartV} (hS : S.ok w w.heap.size) : Calls Tryz.prog 8 #[.agg #[S.vc, S.vr, .bool S.far, .int .u64 S.at', S.vb]] w fun e w' => e = .returned (.bool (longV S)) ∧ Below w.heap.size w w' := by
  obtain ⟨A1, c1, h1⟩ := hS.code.len
  obtain ⟨A2, c2, h2⟩ := hS.regs.len
  obtain ⟨A3, c3, h3⟩ := hS.bytes.len
  have m1 := hS.code.1
  have m2 := hS.regs.1
  have m3 := hS.bytes.2.1
  unfold maxLen at m1 m2 m3
  have hl : longV S = (decide (60 < S.code.length) || (decide (40 < S.regs.length) || decide (200 < S.bs.length))) := rfl
  rw [hl, h1, h2, h3]
  clear hl h1 h2 h3
  obtain ⟨vc, code, vr, regs, far, at', vb, bs⟩ := S
  simp only at *
  generalize code.length = n1 at *
  generalize regs.length = n2 at *
  generalize bs.length = n3 at *
  clear hS
  by_cases g1 : 60 < n1
  · have i1 : (60 : Int) < (n1 : Int) := by omega
    rw [decide_eq_true g1, Bool.true_or]
    go_enter Tryz.func8, Tryz.ntmps8
    go_wp2
    go_ret
    exact ⟨rfl, (Below.refl _ _).alloc (Nat.le_refl _) _⟩
  · have i1 : ¬ (60 : Int) < (n1 : Int) := by omega
    rw [decide_eq_false g1, Bool.false_or]
    by_cases g2 : 40 < n2
    · have i2 : (40 : Int) < (n2 : Int) := by omega
      rw [decide_eq_true g2, Bool.true_or]
      go_enter Tryz.func8, Tryz.ntmps8
      go_wp2
      go_ret
      exact ⟨rfl, (Below.refl _ _).alloc (Nat.le_refl _) _⟩
    · have i2 : ¬ (40 : Int) < (n2 : Int) := by omega
      rw [decide_eq_false g2, Bool.false_or]
      by_cases g3 : 200 < n3
      · have i3 : (200 : Int) < (n3 : Int) := by omega
        rw [decide_eq_true g3]
        go_enter Tryz.func8, Tryz.ntmps8
        go_wp2
        go_ret
        exact ⟨rfl, (Below.refl _ _).alloc (Nat.le_refl _) _⟩
      · have i3 : ¬ (200 : Int) < (n3 : Int) := by omega
        rw [decide_eq_false g3]
        go_enter Tryz.func8, Tryz.ntmps8
        go_wp2
        go_ret
        exact ⟨rfl, (Below.refl _ _).alloc (Nat.le_refl _) _⟩
/-- All registers, one by one. -/
def regsL (s : MSt) (n : Nat) : List Int := (List.range n).map fun k : Nat => regV s (k : Int)
theorem regsL_snoc (s : MSt) (k : Nat) : regsL s (k + 1) = regsL s k ++ [regV s k] := by simp [regsL, List.range_succ]
theorem regsL_len (s : MSt) (n : Nat) : (regsL s n).length = n := by simp [regsL]
def NumsMade (w : World) (xs : List Int) (e : Ending) (w' : World) : Prop :=
  ∃ v, e = .returned v ∧ Owns w' w.heap.size 24 1 (IsNum .u64) v xs.length (xs.map (Value.int .u64)) ∧ Below w.heap.size w w'
theorem u64_info : (Tryz.prog.info? 24).map (fun i => (i.zero, i.size, i.bytes)) = some (some (.int .u64 0), 1, 8) := by kernel_rfl
theorem one_num (w : World) (x : Int) : ∀ j u, ([x].map (Value.int .u64))[j]? = some u → (w.alloc (.cells #[.int .u64 x] 24)).cell? ((⟨w.heap.size, 0, none⟩ : Addr).add j) = some u := by
  intro j u hj
  have hl : j < 1 := by
    rcases Nat.lt_or_ge j 1 with h | h
    · exact h
    · rw [List.getElem?_eq_none (by simpa using h)] at hj
      cases hj
  obtain rfl : j = 0 := by omega
  simp at hj
  subst hj
  have := new_cell w #[.int .u64 x] 24 w.heap.size 0 (.int .u64 x) rfl rfl
  simp [Addr.add]
structure RegsAt (w wr : World) (s : MSt) (v : Value) (k : Nat) : Prop where
  own : Owns wr w.heap.size 24 1 (IsNum .u64) v k ((regsL s k).map (Value.int .u64))
  bel : Below w.heap.size w wr
set_option maxRecDepth 100000 in
set_option maxHeartbeats 4000000 in
theorem regs_any {w : World} {xb mb bb c eb : Nat} {V : Value} {code : List Int} {s : MSt} (h : Mach w xb mb bb c eb V code s) : Calls Tryz.prog 23 #[.pointer (some ⟨xb, 0, none⟩)] w (NumsMade w (regsL s 32)) := by
  obtain ⟨i0, hi, hz0, hz1, hz2⟩ := info_parts u64_info
  have HI := Lib.hid hi
  have HZ0 := Lib.hid hz0
  have HZ1 := Lib.hid hz1
  have HZ2 := Lib.hid hz2
  have HM := Lib.hid h
  clear hi hz0 hz1 hz2 h
  go_enter Tryz.func23, Tryz.ntmps23
  go_wp2_with fail
  go_loopw [3, 4] (fun v i wr => ∃ k : Nat, k ≤ 32 ∧ i = .int .i64 k ∧ Hid (RegsAt w wr s v k)) (fun _ i _ => 32 - (intOf i).toNat)
  case atStart => exact ⟨0, by omega, rfl, ⟨by simpa [regsL] using Owns.nil _ _ _ _ _, Below.refl _ _⟩⟩
  case round =>
    obtain ⟨k, hk, rfl, hq⟩ := hrel
    by_cases hlt : k < 32
    · have hrg := reg_any (HM.out.below hq.out.bel) k
      have hsn := regsL_snoc s k
      generalize regV s (k : Int) = x at hrg hsn
      have HRG := Lib.hid hrg
      have HSN := Lib.hid hsn
      have k1 : (k : Int) < 32 := by omega
      clear hrg hsn
      go_wp2_with (first
        | (go_at_call 21; (with_reducible refine HRG.out.mono ?_); rintro e w' ⟨rfl, rfl⟩)
        | (at_builtin; refine wpList_append_q _ rfl (.tmp 13) (.tmp 15) 23 rfl w.heap.size 24 i0 _ 1 8 Tryz.underlying23 HI.out HZ0.out HZ1.out HZ2.out rfl (by decide) (IsNum .u64) (zero_num .u64) _ k _ rfl (hq.out.own.alloc _) ⟨wr.heap.size, 0, none⟩ 1 1 ([x].map (Value.int .u64)) rfl (by simp) (one_num _ _) (ints_oneCell _ _) (num_cells _ _) (by unfold maxLen; omega) (by omega) (by have := hq.out.bel.size; simp; omega) ?_; intro v' w3 hown' hgrow; have R0 := Lib.hid hown'; have R1 := Lib.hid hgrow; clear hown' hgrow))
      go_roundw
      case rel => exact ⟨k + 1, by omega, by go_num, ⟨by rw [HSN.out, List.map_append]; exact R0.out, (hq.out.bel.alloc hq.out.bel.size _).grown R1.out (by have := hq.out.bel.size; simp; omega) (fun g' hg' => (hq.out.own.lt hg').1)⟩⟩
      case measure => simp [intOf]; omega
    · obtain rfl : k = 32 := by omega
      go_wp2
      go_ret
      exact ⟨_, rfl, by rw [regsL_len]; exact hq.out.own, hq.out.bel⟩
end Go.Proofs.YtnaceogkaiodnaaGreat

namespace Go.Proofs.YtnaceogkaiodnaaGreat
open Go.RowKit
set_option linter.unusedVariables false

theorem StartV.ok.more {S : StartV} {w : World} {B B' : Nat} (h : S.ok w B) (hB : B ≤ B') : S.ok w B' := ⟨h.code.more hB, h.words, h.regs.more hB, h.nums, h.at', h.bytes.more hB⟩
/-- The blocks that a machine's calls change. -/
def MBlocks (xb bb : Nat) (V : Value) (k : Nat) : Prop := k = xb ∨ k = bb ∨ CodeIn V k
/-- Two machines that lie apart. -/
structure Apart (u w : World) (xb mb bb c eb : Nat) (V : Value) (code : List Int) (s : MSt) (yb nb cb d fb : Nat) (U : Value) (code' : List Int) (t : MSt) : Prop where
  fst : NewMach u w xb mb bb c eb V code s
  snd : NewMach u w yb nb cb d fb U code' t
  of1 : ∀ k, MBlocks xb bb V k → ¬ (k = yb ∨ k = nb ∨ k = cb ∨ k = fb ∨ CodeIn U k)
  of2 : ∀ k, MBlocks yb cb U k → ¬ (k = xb ∨ k = mb ∨ k = bb ∨ k = eb ∨ CodeIn V k)
section
variable {u w w' : World} {xb mb bb c eb yb nb cb d fb : Nat} {U V : Value} {code code' : List Int} {s s' t t' : MSt}
theorem Apart.fst' (h : Apart u w xb mb bb c eb V code s yb nb cb d fb U code' t) (hm : Mach w' xb mb bb c eb V code s') (hb : But (fun k => k = xb ∨ k = bb ∨ CodeIn V k) w w') : Apart u w' xb mb bb c eb V code s' yb nb cb d fb U code' t :=
  ⟨h.fst.next hm hb, ⟨h.snd.1.but hb (fun q => h.of1 _ q (.inl rfl)) (fun q => h.of1 _ q (.inr (.inl rfl))) (fun q => h.of1 _ q (.inr (.inr (.inl rfl)))) (fun q => h.of1 _ q (.inr (.inr (.inr (.inl rfl))))) (fun _ k hk q => h.of1 _ q (.inr (.inr (.inr (.inr hk))))), h.snd.2.1, h.snd.2.2.1, h.snd.2.2.2.1, h.snd.2.2.2.2.1, h.fst.below hb⟩, h.of1, h.of2⟩
theorem Apart.snd' (h : Apart u w xb mb bb c eb V code s yb nb cb d fb U code' t) (hm : Mach w' yb nb cb d fb U code' t') (hb : But (fun k => k = yb ∨ k = cb ∨ CodeIn U k) w w') : Apart u w' xb mb bb c eb V code s yb nb cb d fb U code' t' :=
  ⟨⟨h.fst.1.but hb (fun q => h.of2 _ q (.inl rfl)) (fun q => h.of2 _ q (.inr (.inl rfl))) (fun q => h.of2 _ q (.inr (.inr (.inl rfl)))) (fun q => h.of2 _ q (.inr (.inr (.inr (.inl rfl))))) (fun _ k hk q => h.of2 _ q (.inr (.inr (.inr (.inr hk))))), h.fst.2.1, h.fst.2.2.1, h.fst.2.2.2.1, h.fst.2.2.2.2.1, h.snd.below hb⟩, h.snd.next hm hb, h.of1, h.of2⟩
theorem Apart.quiet (h : Apart u w xb mb bb c eb V code s yb nb cb d fb U code' t) (hb : Below w.heap.size w w') : Apart u w' xb mb bb c eb V code s yb nb cb d fb U code' t := ⟨h.fst.quiet hb, h.snd.quiet hb, h.of1, h.of2⟩
end
theorem Apart.of {u w1 w2 : World} {xb mb bb c eb yb nb cb d fb : Nat} {U V : Value} {code code' : List Int} {s t : MSt} (h1 : NewMach u w1 xb mb bb c eb V code s) (e1 : ∀ k, CodeIn V k → k < w1.heap.size)
    (h2 : NewMach w1 w2 yb nb cb d fb U code' t) (e2 : w1.heap.size ≤ fb) : Apart u w2 xb mb bb c eb V code s yb nb cb d fb U code' t := by
  have l1 := h1.1.lt
  obtain ⟨g0, g1, g2, g3, g4, g5⟩ := h2
  refine ⟨⟨h1.1.below g5, h1.2.1, h1.2.2.1, h1.2.2.2.1, h1.2.2.2.2.1, h1.2.2.2.2.2.trans (g5.mono h1.2.2.2.2.2.size)⟩, ⟨g0, Nat.le_trans h1.2.2.2.2.2.size g1, Nat.le_trans h1.2.2.2.2.2.size g2, Nat.le_trans h1.2.2.2.2.2.size g3, fun k hk => Nat.le_trans h1.2.2.2.2.2.size (g4 k hk), h1.2.2.2.2.2.trans (g5.mono h1.2.2.2.2.2.size)⟩, ?_, ?_⟩
  · intro k hk hq
    have : k < w1.heap.size := by
      rcases hk with rfl | rfl | hk
      · exact l1.1
      · exact l1.2.2.1
      · exact e1 k hk
    rcases hq with rfl | rfl | rfl | rfl | hq
    · omega
    · omega
    · omega
    · omega
    · have := g4 k hq
      omega
  · intro k hk hq
    have : w1.heap.size ≤ k := by
      rcases hk with rfl | rfl | hk
      · exact g1
      · exact g3
      · exact g4 k hk
    rcases hq with rfl | rfl | rfl | rfl | hq
    · omega
    · omega
    · omega
    · omega
    · have := e1 k hq
      omega
theorem run_len (code : List Int) (n : Nat) (s : MSt) : (runV code n s).2.1 ≤ n := by
  induction n generalizing s with
  | zero => exact Nat.le_refl _
  | succ n ih =>
    simp only [runV]
    split
    · exact Nat.zero_le _
    · have := ih (stepV code s).2
      show _ + 1 ≤ _
      omega
/-- A beginning in its box. -/
structure BoxAt (w : World) (b : Nat) (S : StartV) : Prop where
  c0 : w.cell? ⟨b, 0, none⟩ = some S.vc
  c1 : w.cell? ⟨b, 1, none⟩ = some S.vr
  c2 : w.cell? ⟨b, 2, none⟩ = some (.bool S.far)
  c3 : w.cell? ⟨b, 3, none⟩ = some (.int .u64 S.at')
  c4 : w.cell? ⟨b, 4, none⟩ = some S.vb
theorem BoxAt.new (w : World) (S : StartV) : BoxAt (w.alloc (.cells #[S.vc, S.vr, .bool S.far, .int .u64 S.at', S.vb] 27)) w.heap.size S :=
  ⟨new_cell w #[S.vc, S.vr, .bool S.far, .int .u64 S.at', S.vb] 27 w.heap.size 0 _ rfl rfl, new_cell w #[S.vc, S.vr, .bool S.far, .int .u64 S.at', S.vb] 27 w.heap.size 1 _ rfl rfl, new_cell w #[S.vc, S.vr, .bool S.far, .int .u64 S.at', S.vb] 27 w.heap.size 2 _ rfl rfl, new_cell w #[S.vc, S.vr, .bool S.far, .int .u64 S.at', S.vb] 27 w.heap.size 3 _ rfl rfl, new_cell w #[S.vc, S.vr, .bool S.far, .int .u64 S.at', S.vb] 27 w.heap.size 4 _ rfl rfl⟩
theorem BoxAt.below {w w' : World} {b : Nat} {S : StartV} (h : BoxAt w b S) (hl : b < w.heap.size) (hb : Below w.heap.size w w') : BoxAt w' b S :=
  ⟨(hb.cell (p := ⟨b, 0, none⟩) hl).trans h.c0, (hb.cell (p := ⟨b, 1, none⟩) hl).trans h.c1, (hb.cell (p := ⟨b, 2, none⟩) hl).trans h.c2, (hb.cell (p := ⟨b, 3, none⟩) hl).trans h.c3, (hb.cell (p := ⟨b, 4, none⟩) hl).trans h.c4⟩
set_option maxRecDepth 100000 in
set_option maxHeartbeats 8000000 in
theorem rsplit_any {w : World} {S : StartV} (hS : S.ok w w.heap.size) (n1 n2 : Int) (hn1 : -9223372036854775808 ≤ n1) (hn1' : n1 < 9223372036854775808) (hn2 : -9223372036854775808 ≤ n2) (hn2' : n2 < 9223372036854775808) :
    Calls Tryz.prog 7 #[.agg #[S.vc, S.vr, .bool S.far, .int .u64 S.at', S.vb], .int .i64 n1, .int .i64 n2] w fun e w' => e = .returned (.bool true) ∧ Below w.heap.size w w' := by
  have hbx := BoxAt.new w S
  have hbW := (Below.refl w.heap.size w).alloc (Nat.le_refl _) (.cells #[S.vc, S.vr, .bool S.far, .int .u64 S.at', S.vb] 27)
  have hsz : w.heap.size < (w.alloc (.cells #[S.vc, S.vr, .bool S.far, .int .u64 S.at', S.vb] 27)).heap.size := by simp
  have HP1 := Lib.hid (fun u => pick_any n1 101 u (by decide) (by decide) hn1 hn1')
  have HP2 := Lib.hid (fun u => pick_any n2 101 u (by decide) (by decide) hn2 hn2')
  have p1 := pick_bd (x := n1) (n := 101) (by decide)
  have p2 := pick_bd (x := n2) (n := 101) (by decide)
  have hm := eqlM_nil
  have hp := eqlP_nil
  go_enter Tryz.func7, Tryz.ntmps7
  go_wp2_with (go_at_call 9; fail)
  generalize w.alloc (.cells #[S.vc, S.vr, .bool S.far, .int .u64 S.at', S.vb] 27) = W at *
  refine (awake4_any W).mono ?_
  rintro e w1 ⟨rfl, hb1⟩
  have bel1 := hbW.trans (hb1.mono hbW.size)
  have hbx1 := hbx.below hsz hb1
  have hsz1 := Nat.lt_of_lt_of_le hsz hb1.size
  have hS1 := (hS.below bel1 (Nat.le_refl _)).more bel1.size
  have hl := long4_any hS1
  have B1 := Lib.hid bel1
  have X1 := Lib.hid hbx1
  have S1 := Lib.hid hS1
  obtain ⟨k0, k1, k2, k3, k4⟩ := hbx1
  clear hS hbx hbW hb1 bel1 hS1 hsz
  cases hlg : longV S
  · rw [hlg] at hl
    have HL := Lib.hid hl
    have hlim := longV_false hlg
    clear hl hlg
    obtain ⟨q1, hq1⟩ := nat_of p1.1
    obtain ⟨q2, hq2⟩ := nat_of p2.1
    have lq1 : q1 ≤ 100 := by omega
    have lq2 : q2 ≤ 100 := by omega
    rw [hq1] at HP1
    rw [hq2] at HP2
    clear p1 p2 hq1 hq2
    obtain ⟨s0, hs0⟩ : ∃ s0, s0 = beginV S := ⟨_, rfl⟩
    have hsp := run_split S.code q1 q2 s0
    have hr1 : runV S.code q1 s0 = runV S.code q1 s0 := rfl
    have hlen1 := run_len S.code q1 s0
    obtain ⟨r1, hr1⟩ : ∃ r1, r1 = runV S.code q1 s0 := ⟨_, rfl⟩
    obtain ⟨a1, d1, s1⟩ := r1
    rw [← hr1] at hsp hlen1
    have hlen2 := run_len S.code q2 s1
    obtain ⟨r2, hr2⟩ : ∃ r2, r2 = runV S.code q2 s1 := ⟨_, rfl⟩
    obtain ⟨a2, d2, s2⟩ := r2
    simp only at hsp hlen1
    rw [← hr2] at hsp hlen2
    simp only at hsp hlen2
    have HR1 := Lib.hid hr1
    have HR2 := Lib.hid hr2
    have HS0 := Lib.hid hs0
    clear hr1 hr2 hs0
    by_cases ha : a1 = 0
    · subst ha
      rw [if_pos rfl] at hsp
      have HSP := Lib.hid hsp
      clear hsp
      go_wp2_with (first
        | (go_at_call 8; (with_reducible refine HL.out.mono ?_); rintro e w2 ⟨rfl, hb2⟩; have X2 := Lib.hid (X1.out.below hsz1 hb2); have hsz2 := Nat.lt_of_lt_of_le hsz1 hb2.size; have hS2 := (S1.out.below hb2 (Nat.le_refl _)).more hb2.size; have hg1 := begin_any hS2 hlim.1 hlim.2.1 hlim.2.2; unfold BeginDone at hg1; rw [← HS0.out] at hg1; have G1 := Lib.hid hg1; have S2 := Lib.hid hS2; have B2 := Lib.hid (B1.out.trans (hb2.mono B1.out.size)); clear hg1 hb2 hS2 k0 k1 k2 k3 k4; obtain ⟨k0, k1, k2, k3, k4⟩ := X2.out)
        | (go_at_call 22; (with_reducible refine G1.out.mono ?_); rintro e w3 ⟨xb, mb, bb, c, eb, V, rfl, hn, hn1', hn2'⟩; have hb3 := hn.2.2.2.2.2; have X3 := Lib.hid (X2.out.below hsz2 hb3); have hS3 := (S2.out.below hb3 (Nat.le_refl _)).more hb3.size; have hg2 := begin_any hS3 hlim.1 hlim.2.1 hlim.2.2; unfold BeginDone at hg2; rw [← HS0.out] at hg2; have G2 := Lib.hid hg2; have N3 := Lib.hid hn; have N3' := Lib.hid hn2'; clear hg2 hS3 hb3 hn hn2' hn1' k0 k1 k2 k3 k4; obtain ⟨k0, k1, k2, k3, k4⟩ := X3.out)
        | (go_at_call 22; (with_reducible refine G2.out.mono ?_); rintro e w4 ⟨yb, nb, cb, d, fb, U, rfl, hn, hn1', hn2'⟩; have A4 := Lib.hid (Apart.of N3.out N3'.out hn hn1'); clear hn hn2' hn1'; have hu := run_any A4.out.fst.1 (q1 : Int) q1 (.inl rfl) (by omega) (by omega); unfold RunDone at hu; rw [← HR1.out] at hu; dsimp only at hu; have U1 := Lib.hid hu; clear hu)
        | (go_at_call 12; (with_reducible refine (HP1.out _).mono ?_); rintro e w' ⟨rfl, rfl⟩)
        | (go_at_call 12; (with_reducible refine (HP2.out _).mono ?_); rintro e w' ⟨rfl, rfl⟩)
        | (go_at_call 15; (with_reducible refine U1.out.mono ?_); rintro e w5 ⟨rfl, hm5, hb5⟩; have A5 := Lib.hid (A4.out.fst' hm5 hb5); have hu := run_any A5.out.fst.1 (q2 : Int) q2 (.inl rfl) (by omega) (by omega); unfold RunDone at hu; rw [← HR2.out] at hu; dsimp only at hu; have U2 := Lib.hid hu; clear hm5 hb5 hu)
        | (go_at_call 15; (with_reducible refine U2.out.mono ?_); rintro e w6 ⟨rfl, hm6, hb6⟩; have A6 := Lib.hid (A5.out.fst' hm6 hb6); have hu := run_any A6.out.snd.1 ((q1 : Int) + (q2 : Int)) (q1 + q2) (.inl (by omega)) (by omega) (by omega); unfold RunDone at hu; rw [HSP.out] at hu; dsimp only at hu; rw [Int.natCast_add] at hu; have U3 := Lib.hid hu; clear hu; clear hm6 hb6)
        | (go_at_call 15; (with_reducible refine U3.out.mono ?_); rintro e w7 ⟨rfl, hm7, hb7⟩; have A7 := Lib.hid (A6.out.snd' hm7 hb7); have P1 := Lib.hid (place_any A7.out.fst.1); have P2 := Lib.hid (place_any A7.out.snd.1); have hs := same_yes A7.out.fst.1.mem A7.out.snd.1.mem; rw [beq_self_eq_true] at hs; have H7 := Lib.hid hs; clear hm7 hb7 hs)
        | (go_at_call 24; (with_reducible refine P1.out.mono ?_); rintro e w' ⟨rfl, rfl⟩)
        | (go_at_call 24; (with_reducible refine P2.out.mono ?_); rintro e w' ⟨rfl, rfl⟩)
        | (go_at_call 26; (with_reducible refine H7.out.mono ?_); rintro e w' ⟨rfl, m7, rfl⟩; have A8 := Lib.hid (A7.out.quiet (below_drewN (Below.refl _ _) m7)); have R8 := Lib.hid (regs_any A8.out.fst.1))
        | (go_at_call 23; (with_reducible refine R8.out.mono ?_); rintro e w9 ⟨v1, rfl, ho1, hb9⟩; have A9 := Lib.hid (A8.out.quiet hb9); have R9 := Lib.hid (regs_any A9.out.snd.1); have O1 := Lib.hid (IsNums.of_owns ho1 (Nat.le_refl _)); clear ho1 hb9)
        | (go_at_call 23; (with_reducible refine R9.out.mono ?_); rintro e w10 ⟨v2, rfl, ho2, hb10⟩; have A10 := Lib.hid (A9.out.quiet hb10); obtain ⟨b1, o1, e1, rfl, t1, _, g1⟩ := (O1.out.below hb10 (Nat.le_refl _)).plain (by rw [regsL_len]; decide); obtain ⟨b2, o2, e2, rfl, t2, _, g2⟩ := (IsNums.of_owns ho2 (Nat.le_refl _)).plain (by rw [regsL_len]; decide); have HG1 := Lib.hid g1; have HG2 := Lib.hid g2; clear ho2 hb10 g1 g2))
      rw [regsL_len] at HG1 HG2 t1 t2
      try rw [regsL_len]
      generalize regsL s2 32 = zs at HG1 HG2
      go_loopw [20] (fun i wr => ∃ k q : Nat, k ≤ 32 ∧ i = .int .i64 k ∧ wr = w10.drewN q) (fun i _ => 32 - (intOf i).toNat)
      case atStart => exact ⟨0, 0, by omega, rfl, rfl⟩
      case round =>
        obtain ⟨k, q, hk, rfl, rfl⟩ := hrel
        by_cases hlt : k < 32
        · have g1 := HG1.out k hlt
          have g2 := HG2.out k hlt
          generalize zs.getD k 0 = x at g1 g2
          have k0 : (0 : Int) ≤ (k : Int) := by omega
          have k1 : (k : Int) < 32 := by omega
          go_wp2
          go_quiet (fail)
          go_wp2
          go_roundw
          case rel => exact ⟨k + 1, _, by omega, by go_num, rfl⟩
          case measure => simp [intOf]; omega
        · obtain rfl : k = 32 := by omega
          go_wp2
          go_ret
          exact ⟨rfl, below_drewN (B2.out.trans (A10.out.fst.2.2.2.2.2.mono B2.out.size)) q⟩
    · rw [if_neg ha] at hsp
      have HSP := Lib.hid hsp
      have HA := beq_eq_false_iff_ne.2 ha
      clear hsp
      go_wp2_with (first
        | (go_at_call 8; (with_reducible refine HL.out.mono ?_); rintro e w2 ⟨rfl, hb2⟩; have X2 := Lib.hid (X1.out.below hsz1 hb2); have hsz2 := Nat.lt_of_lt_of_le hsz1 hb2.size; have hS2 := (S1.out.below hb2 (Nat.le_refl _)).more hb2.size; have hg1 := begin_any hS2 hlim.1 hlim.2.1 hlim.2.2; unfold BeginDone at hg1; rw [← HS0.out] at hg1; have G1 := Lib.hid hg1; have S2 := Lib.hid hS2; have B2 := Lib.hid (B1.out.trans (hb2.mono B1.out.size)); clear hg1 hb2 hS2 k0 k1 k2 k3 k4; obtain ⟨k0, k1, k2, k3, k4⟩ := X2.out)
        | (go_at_call 22; (with_reducible refine G1.out.mono ?_); rintro e w3 ⟨xb, mb, bb, c, eb, V, rfl, hn, hn1', hn2'⟩; have hb3 := hn.2.2.2.2.2; have X3 := Lib.hid (X2.out.below hsz2 hb3); have hS3 := (S2.out.below hb3 (Nat.le_refl _)).more hb3.size; have hg2 := begin_any hS3 hlim.1 hlim.2.1 hlim.2.2; unfold BeginDone at hg2; rw [← HS0.out] at hg2; have G2 := Lib.hid hg2; have N3 := Lib.hid hn; have N3' := Lib.hid hn2'; clear hg2 hS3 hb3 hn hn2' hn1' k0 k1 k2 k3 k4; obtain ⟨k0, k1, k2, k3, k4⟩ := X3.out)
        | (go_at_call 22; (with_reducible refine G2.out.mono ?_); rintro e w4 ⟨yb, nb, cb, d, fb, U, rfl, hn, hn1', hn2'⟩; have A4 := Lib.hid (Apart.of N3.out N3'.out hn hn1'); clear hn hn2' hn1'; have hu := run_any A4.out.fst.1 (q1 : Int) q1 (.inl rfl) (by omega) (by omega); unfold RunDone at hu; rw [← HR1.out] at hu; dsimp only at hu; have U1 := Lib.hid hu; clear hu)
        | (go_at_call 12; (with_reducible refine (HP1.out _).mono ?_); rintro e w' ⟨rfl, rfl⟩)
        | (go_at_call 12; (with_reducible refine (HP2.out _).mono ?_); rintro e w' ⟨rfl, rfl⟩)
        | (go_at_call 15; (with_reducible refine U1.out.mono ?_); rintro e w5 ⟨rfl, hm5, hb5⟩; have A5 := Lib.hid (A4.out.fst' hm5 hb5); have hu := run_any A5.out.snd.1 ((q1 : Int) + (q2 : Int)) (q1 + q2) (.inl (by omega)) (by omega) (by omega); unfold RunDone at hu; rw [HSP.out] at hu; dsimp only at hu; have U3 := Lib.hid hu; clear hu; clear hm5 hb5)
        | (go_at_call 15; (with_reducible refine U3.out.mono ?_); rintro e w7 ⟨rfl, hm7, hb7⟩; have A7 := Lib.hid (A5.out.snd' hm7 hb7); have P1 := Lib.hid (place_any A7.out.fst.1); have P2 := Lib.hid (place_any A7.out.snd.1); have hs := same_yes A7.out.fst.1.mem A7.out.snd.1.mem; rw [beq_self_eq_true] at hs; have H7 := Lib.hid hs; clear hm7 hb7 hs)
        | (go_at_call 24; (with_reducible refine P1.out.mono ?_); rintro e w' ⟨rfl, rfl⟩)
        | (go_at_call 24; (with_reducible refine P2.out.mono ?_); rintro e w' ⟨rfl, rfl⟩)
        | (go_at_call 26; (with_reducible refine H7.out.mono ?_); rintro e w' ⟨rfl, m7, rfl⟩; have A8 := Lib.hid (A7.out.quiet (below_drewN (Below.refl _ _) m7)); have R8 := Lib.hid (regs_any A8.out.fst.1))
        | (go_at_call 23; (with_reducible refine R8.out.mono ?_); rintro e w9 ⟨v1, rfl, ho1, hb9⟩; have A9 := Lib.hid (A8.out.quiet hb9); have R9 := Lib.hid (regs_any A9.out.snd.1); have O1 := Lib.hid (IsNums.of_owns ho1 (Nat.le_refl _)); clear ho1 hb9)
        | (go_at_call 23; (with_reducible refine R9.out.mono ?_); rintro e w10 ⟨v2, rfl, ho2, hb10⟩; have A10 := Lib.hid (A9.out.quiet hb10); obtain ⟨b1, o1, e1, rfl, t1, _, g1⟩ := (O1.out.below hb10 (Nat.le_refl _)).plain (by rw [regsL_len]; decide); obtain ⟨b2, o2, e2, rfl, t2, _, g2⟩ := (IsNums.of_owns ho2 (Nat.le_refl _)).plain (by rw [regsL_len]; decide); have HG1 := Lib.hid g1; have HG2 := Lib.hid g2; clear ho2 hb10 g1 g2))
      rw [regsL_len] at HG1 HG2 t1 t2
      try rw [regsL_len]
      generalize regsL s1 32 = zs at HG1 HG2
      go_loopw [20] (fun i wr => ∃ k q : Nat, k ≤ 32 ∧ i = .int .i64 k ∧ wr = w10.drewN q) (fun i _ => 32 - (intOf i).toNat)
      case atStart => exact ⟨0, 0, by omega, rfl, rfl⟩
      case round =>
        obtain ⟨k, q, hk, rfl, rfl⟩ := hrel
        by_cases hlt : k < 32
        · have g1 := HG1.out k hlt
          have g2 := HG2.out k hlt
          generalize zs.getD k 0 = x at g1 g2
          have k0 : (0 : Int) ≤ (k : Int) := by omega
          have k1 : (k : Int) < 32 := by omega
          go_wp2
          go_quiet (fail)
          go_wp2
          go_roundw
          case rel => exact ⟨k + 1, _, by omega, by go_num, rfl⟩
          case measure => simp [intOf]; omega
        · obtain rfl : k = 32 := by omega
          go_wp2
          go_ret
          exact ⟨rfl, below_drewN (B2.out.trans (A10.out.fst.2.2.2.2.2.mono B2.out.size)) q⟩
  · rw [hlg] at hl
    have HL := Lib.hid hl
    clear hl hlg
    go_wp2_with (go_at_call 8; (with_reducible refine HL.out.mono ?_); rintro e w2 ⟨rfl, hb2⟩; have B2 := Lib.hid (B1.out.trans (hb2.mono B1.out.size)))
    go_ret
    exact ⟨rfl, B2.out⟩
end Go.Proofs.YtnaceogkaiodnaaGreat

namespace Go.Proofs.YtnaceogkaiodnaaGreat
open Go.RowKit Go.ChangeShapes Go.WideShapes
set_option linter.unusedVariables false

theorem wf_u32' {a : Int} (h : (Lit.int .u32 a).wf = true) : 0 ≤ a ∧ a < 4294967296 := by
  simp [Lit.wf, IntKind.min, IntKind.max, IntKind.signed, IntKind.bits] at h
  omega
theorem wf_i64' {a : Int} (h : (Lit.int .i64 a).wf = true) : -9223372036854775808 ≤ a ∧ a < 9223372036854775808 := by
  simp [Lit.wf, IntKind.min, IntKind.max, IntKind.signed, IntKind.bits] at h
  omega
theorem wf_u64' {a : Int} (h : (Lit.int .u64 a).wf = true) : InW a := by
  simp [Lit.wf, IntKind.min, IntKind.max, IntKind.signed, IntKind.bits] at h
  unfold InW
  omega
theorem IsNums.of_row {K : IntKind} {w : World} {x : Addr} {len cap : Nat} {zs : List Int} (hl : len ≤ cap) (hm : cap ≤ maxLen) (hz : zs.length = cap) (hc : ∀ i, i < zs.length → w.cell? (x.add i) = some (.int K (zs.getD i 0))) : IsNums K w w.heap.size (.slice (some x) len cap) (zs.take len) := by
  have hlen : (zs.take len).length = len := by simp; omega
  refine ⟨by omega, .inr ⟨x, cap, by rw [hlen], by omega, fun h0 => ?_, fun i hi => ?_⟩⟩
  · have := hc 0 (by omega)
    have hb := World.block_lt_of_cell? w _ this
    rwa [add_block] at hb
  · rw [hlen] at hi
    rw [hc i (by omega)]
    simp [List.getD, hi]
theorem open_nums {H : Type} {enc : TypeId × Value → H} {w : World} {fuel : Nat} {t e : TypeId} {K : IntKind} {c : Value} {x : DataW H × List MemPlace} (ht : Tryz.prog.underlying t = some (.slice e)) (he : Tryz.prog.underlying e = some (.int K)) (hc : Tryz.prog.cellsOf e = 1)
    (h : DataW.trod enc Tryz.prog w 0 (fun _ => true) true fuel t [c] = some x) : ∃ zs, IsNums K w w.heap.size c zs ∧ ∀ z ∈ zs, (Lit.int K z).wf = true := by
  rcases open_ints ht he hc h with ⟨hcs, _⟩ | ⟨a, len, cap, zs, hcs, _, hl, hm, hz, _, hcell, hwz⟩
  · injection hcs with hcs _
    exact ⟨[], ⟨by simp, .inl ⟨hcs, rfl⟩⟩, by simp⟩
  · injection hcs with hcs _
    subst hcs
    exact ⟨zs.take len, IsNums.of_row hl hm (by simpa using hz) hcell, fun z hz => hwz z (List.mem_of_mem_take hz)⟩
theorem open_bytes4 {H : Type} {enc : TypeId × Value → H} {w : World} {fuel : Nat} {c : Value} {x : DataW H × List MemPlace} (h : DataW.trod enc Tryz.prog w 0 (fun _ => true) true fuel 25 [c] = some x) : ∃ zs, IsBytes w w.heap.size c zs := by
  rcases open_ints Tryz.underlying25 Tryz.underlying5 (by kernel_rfl) h with ⟨hcs, _⟩ | ⟨a, len, cap, zs, hcs, _, hl, hm, hz, _, hcell, hwz⟩
  · injection hcs with hcs _
    exact ⟨[], by simp, by simp, .inl ⟨hcs, rfl⟩⟩
  · injection hcs with hcs _
    subst hcs
    exact ⟨zs.take len, IsBytes.of_row hl hm (by simpa using hz) hcell hwz⟩
set_option maxRecDepth 100000 in
theorem open_start {H : Type} {enc : TypeId × Value → H} {w : World} {fuel : Nat} {cs : List Value} {x : DataW H × List MemPlace} (h : DataW.trod enc Tryz.prog w 0 (fun _ => true) true fuel 27 cs = some x) :
    ∃ S : StartV, cs = [S.vc, S.vr, .bool S.far, .int .u64 S.at', S.vb] ∧ S.ok w w.heap.size := by
  obtain ⟨xs, n, _, _, hl, hx, hf⟩ := DataW.trod_struct Tryz.underlying27 h
  have hC : Tryz.prog.cellsOf 27 = 5 := by kernel_rfl
  have c1 : Tryz.prog.cellsOf 22 = 1 := by kernel_rfl
  have c2 : Tryz.prog.cellsOf 23 = 1 := by kernel_rfl
  have c3 : Tryz.prog.cellsOf 4 = 1 := by kernel_rfl
  have c4 : Tryz.prog.cellsOf 24 = 1 := by kernel_rfl
  have c5 : Tryz.prog.cellsOf 25 = 1 := by kernel_rfl
  rw [hC] at hl
  match cs, hl with
  | [v0, v1, v2, v3, v4], _ =>
    match xs, hx with
    | [y0, y1, y2, y3, y4], _ =>
      have h0 := hf 0 _ rfl
      have h1 := hf 1 _ rfl
      have h2 := hf 2 _ rfl
      have h3 := hf 3 _ rfl
      have h4 := hf 4 _ rfl
      simp [c1] at h0
      simp [c2] at h1
      simp [c3] at h2
      simp [c4] at h3
      simp [c5] at h4
      obtain ⟨cd, hcd, wcd⟩ := open_nums (c := v0) Tryz.underlying22 Tryz.underlying74 (by kernel_rfl) h0
      obtain ⟨rg, hrg, wrg⟩ := open_nums (c := v1) Tryz.underlying23 Tryz.underlying24 (by kernel_rfl) h1
      obtain ⟨b, e2, _⟩ := DataW.trod_bool Tryz.underlying4 h2
      obtain ⟨a, e3, _, w3⟩ := DataW.trod_int Tryz.underlying24 h3
      obtain ⟨bs, hbs⟩ := open_bytes4 (c := v4) h4
      injection e2 with e2 _
      injection e3 with e3 _
      subst e2 e3
      exact ⟨⟨v0, cd, v1, rg, b, a, v4, bs⟩, rfl, ⟨hcd, fun x hx => wf_u32' (wcd x hx), hrg, fun x hx => wf_u64' (wrg x hx), wf_u64' w3, hbs⟩⟩
set_option maxRecDepth 100000 in
theorem open_start_value {H : Type} {enc : TypeId × Value → H} {w : World} {r : Reach} {b0 : Nat} {v : Value} {d : DataW H} {p : List MemPlace} (hv : Value.okWide Tryz.prog w r b0 27 v)
    (h : DataW.Trod enc Tryz.prog w 0 (fun _ => true) true 27 v d p) : ∃ S : StartV, v = .agg #[S.vc, S.vr, .bool S.far, .int .u64 S.at', S.vb] ∧ S.ok w w.heap.size := by
  obtain ⟨cs, rfl, hsz⟩ := okWide_struct Tryz.underlying27 hv
  obtain ⟨fuel, hf⟩ := h
  obtain ⟨A, hA, hok⟩ := open_start hf
  refine ⟨A, ?_, hok⟩
  obtain ⟨l⟩ := cs
  simp [Value.cells] at hA
  subst hA
  rfl
theorem trod_places {H : Type} {enc : TypeId × Value → H} {w : World} {t : TypeId} {v : Value} {d : DataW H} {p : List MemPlace} (h : DataW.Trod enc Tryz.prog w 0 (fun _ => true) true t v d p) : ∀ x ∈ p, x.block < w.heap.size := by
  obtain ⟨m, hm⟩ := h
  exact DataW.trod_lt m _ _ _ hm
end Go.Proofs.YtnaceogkaiodnaaGreat

