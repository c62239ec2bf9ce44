/- The document's own Masks and Unset of layer 11. Contracts; no condition but that the instructions are few. -/
import Derived.Test.YtjoiocjnffaogaaGreatRef11A
import Derived.Test.YtjoiocjnffaogaaGreatMath11C
import Derived.StillTailTactics
namespace Go.Proofs.YtjoiocjnffaogaaGreat
open Go.RowKit Go.Shelf
set_option linter.unusedVariables false
set_option linter.unusedSimpArgs false

/-- Lists of numbers to be read. -/
theorem OwnJ.ls2 {base : Nat} {W : World} {V : Value} {ll : List (List Int)} {Xs : List Value} (h : OwnJ base W V ll Xs) (hl : ll.length ≤ 1000000) : ll.length ≤ maxLen ∧ ((ll.length = 0 ∧ ∃ a cap, V = .slice a 0 cap) ∨
    ∃ b off cap, V = .slice (some ⟨b, off, none⟩) ll.length cap ∧ ll.length ≤ cap ∧ b < W.heap.size ∧ ∀ i, i < ll.length → ∃ X, IsNums .i64 W W.heap.size X (ll.getD i []) ∧ W.cell? ⟨b, off + i, none⟩ = some X) := by
  refine ⟨by unfold maxLen; omega, ?_⟩
  rcases h.own.1.2 with ⟨rfl, h0⟩ | ⟨g, cap, cur, rfl, h1, h2, h3, h4, h5, h6⟩
  · exact .inl ⟨h0, none, 0, rfl⟩
  · exact .inr ⟨g, 0, cap, rfl, h3, (h.own.lt (g := g) (by simp [Value.ownBlock])).2, fun i hi => ⟨_, IsNums.of_owns (h.nums i hi) (Nat.le_refl _), by
      have hx : Xs[i]? = some (Xs.getD i (.slice none 0 0)) := by
        have : i < Xs.length := by rw [h.len]; exact hi
        simp [List.getD, List.getElem?_eq_getElem this]
      have := h.own.1.cells (g := g) rfl i _ hx
      rw [addr_zero_j] at this
      rw [Nat.zero_add]
      exact this⟩⟩
theorem u64_info : (Tryz.prog.info? 30).map (fun i => (i.zero, i.size, i.bytes)) = some (some (.int .u64 0), 1, 8) := by kernel_rfl
theorem make_u64s (n : Nat) (hn : n ≤ 100000) (w : World) : (Instr.makeSlice 26 (.int .i64 (n : Int)) (.int .i64 (n : Int))).run Tryz.prog w = .ok (.slice (some ⟨w.heap.size, 0, none⟩) n n) (w.alloc (.cells (madeCells (Value.int .u64 0).cells (n * 1)) 30)) := by
  obtain ⟨i, h1, h2, h3, h4⟩ := info_parts u64_info
  have h := run_make (P := Tryz.prog) w 26 30 i _ Tryz.underlying26 h1 h2 .i64 .i64 (n : Int) (n : Int) (by omega) (Int.le_refl _) (by rw [h4]; omega) (by omega)
  rw [h3] at h
  simpa using h
/-- A row of words of the call's own. -/
def wordsU (f : Nat → Nat) : Nat → Value := fun i => .int .u64 ((f i : Nat) : Int)
structure MkAt (w wr : World) (n : Nat) (f : Nat → Nat) : Prop where
  bel : Below w.heap.size w wr
  row : RowAt wr w.heap.size n 30 (wordsU f)
theorem MkAt.made (n : Nat) (w : World) : MkAt w (w.alloc (.cells (madeCells (Value.int .u64 0).cells (n * 1)) 30)) n (fun _ => 0) :=
  ⟨(Below.refl _ _).alloc (Nat.le_refl _) _, (RowAt.made w 30 (.int .u64 0) n _ (by simp [madeCells]) fun i hi => made_row rfl hi).congr fun i hi => rfl⟩
theorem MkAt.set {w wr : World} {n : Nat} {f : Nat → Nat} (h : MkAt w wr n f) (x z : Nat) : MkAt w (wr.setCell ⟨w.heap.size, x, none⟩ (.int .u64 ((z : Nat) : Int))) n (fun i => if i = x then z else f i) :=
  ⟨h.bel.setCell (p := ⟨w.heap.size, x, none⟩) (Nat.le_refl _) _, (h.row.set x _).congr fun i hi => by unfold wordsU; by_cases e : i = x <;> simp [e]⟩
theorem MkAt.grow {w wr W : World} {n : Nat} {f : Nat → Nat} (h : MkAt w wr n f) (hb : Below wr.heap.size wr W) : MkAt w W n f := ⟨h.bel.trans (hb.mono h.bel.size), h.row.below hb h.row.lt⟩
theorem MkAt.drew {w wr : World} {n : Nat} {f : Nat → Nat} (h : MkAt w wr n f) : MkAt w wr.drew n f := ⟨h.bel.drew, h.row.heap rfl⟩
theorem MkAt.congr {w wr : World} {n : Nat} {f f' : Nat → Nat} (h : MkAt w wr n f) (he : ∀ i, i < n → f i = f' i) : MkAt w wr n f' := ⟨h.bel, h.row.congr fun i hi => by unfold wordsU; rw [he i hi]⟩
def badP (p : Int) : Prop := p < 0 ∨ 8 < p
def MasksN (w : World) (l : List InsV) (p : Int) (n : Nat) (e : Ending) (w' : World) : Prop :=
  Below w.heap.size w w' ∧ ((badP p ∧ e = .returned (.tuple #[.slice none 0 0, .int .i64 2])) ∨ (¬ badP p ∧ check10 l ≠ 0 ∧ e = .returned (.tuple #[.slice none 0 0, .int .i64 (check10 l)])) ∨
    (¬ badP p ∧ check10 l = 0 ∧ ∃ gb, e = .returned (.tuple #[.slice (some ⟨gb, 0, none⟩) n n, .int .i64 0]) ∧ w.heap.size ≤ gb ∧ RowAt w' gb n 30 (wordsU (maskV l p.toNat))))
set_option maxRecDepth 100000 in
set_option maxHeartbeats 16000000 in
theorem rMasks11_any (A : Option Addr) (n cap : Nat) (l : List InsV) (p : Int) (w : World) (hn : n = l.length) (h : IsCode w w.heap.size (.slice A n cap) l) (hs : n ≤ 1000) :
    Calls Tryz.prog 8 #[.slice A n cap, .int .i64 p] w (MasksN w l p n) := by
  have HC := Lib.hid h
  have HN := Lib.hid hn
  by_cases hp : badP p
  · have HP := Lib.hid hp
    unfold badP at hp
    clear h hn
    by_cases h1 : p < 0
    · clear hp
      go_enter Tryz.func8, Tryz.ntmps8
      go_wp2
      go_ret2
      exact ⟨Below.refl _ _, .inl ⟨HP.out, rfl⟩⟩
    · have h2 : 8 < p := by omega
      clear hp
      go_enter Tryz.func8, Tryz.ntmps8
      go_wp2
      go_ret2
      exact ⟨Below.refl _ _, .inl ⟨HP.out, rfl⟩⟩
  · have HP := Lib.hid hp
    unfold badP at hp
    have p0 : ¬ p < 0 := by omega
    have p8 : ¬ 8 < p := by omega
    have HNX := Lib.hid (rNext10_any A n cap l w hn h hs)
    by_cases h0 : check10 l = 0
    · have hg := good10 h0
      have HG := Lib.hid hg
      have H0 := Lib.hid h0
      have HN2 := Lib.hid (HNX.out.mono fun e w' hh => And.intro hh.1 (hh.2.resolve_left (fun h => h.1 h0)).2)
      have HWA := Lib.hid (fun N W r hc hl => without_any A n cap N l r W hn hc hl hg hs)
      have hmk := make_u64s n (by omega)
      have HMM : Hid (∀ W : World, MkAt W (W.alloc (.cells (madeCells (Value.int .u64 0).cells (n * 1)) 30)) n (fun _ => 0)) := Lib.hid (MkAt.made n)
      generalize madeCells (Value.int .u64 0).cells (n * 1) = mb at *
      have hsI : (n : Int) ≤ 1000 := by omega
      have hnl : (nextsV l).length = n := by rw [nextsV_length, hn]
      have HNL := Lib.hid hnl
      have HNA : Hid (∀ i, i < n → (nextsV l).getD i [] = nextV l i) := Lib.hid (fun i hi => nextsV_at (by omega))
      obtain ⟨pn, hpn⟩ : ∃ pn : Nat, p = pn := ⟨p.toNat, by omega⟩
      have HPN := Lib.hid hpn
      subst hpn
      clear h hn hg h0 HNX hp hnl
      go_enter Tryz.func8, Tryz.ntmps8
      go_wp2_with (go_at_call 19; (with_reducible refine HN2.out.mono ?_); rintro e w1 ⟨hb, N, Xs, rfl, hj⟩; have HB1 := Lib.hid hb; have HC1 := Lib.hid ((HC.out.below hb (Nat.le_refl _) (Nat.le_refl _)).more hb.size); have HJ1 := Lib.hid hj; clear hb hj)
      have hls : IsLs w1 w1.heap.size N n (nextV l) := by
        have h := HJ1.out.ls2 (by rw [HNL.out]; omega)
        rw [HNL.out] at h
        refine ⟨h.1, ?_⟩
        rcases h.2 with h2 | ⟨b, off, c, h2, h3, h4, h5⟩
        · exact .inl h2
        · exact .inr ⟨b, off, c, h2, h3, h4, fun i hi => by
            obtain ⟨X, hX, hx⟩ := h5 i hi
            rw [HNA.out i hi] at hX
            exact ⟨X, hX, hx⟩⟩
      have HLS := Lib.hid hls
      obtain ⟨nA, nc, hNe⟩ := hls.len
      subst hNe
      clear hls
      go_loopw [9] (fun v wr => ∃ r : Nat, r ≤ 64 ∧ v = .int .i64 r ∧ Hid (MkAt w1 wr n (fun i => pmask l pn i r))) (fun v _ => 64 - (intOf v).toNat)
      case atStart => exact ⟨0, by omega, rfl, HMM.out w1⟩
      case round =>
        obtain ⟨r, hr, rfl, HM⟩ := hrel
        have r0 : (0 : Int) ≤ (r : Int) := by omega
        have HBW := Lib.hid (HB1.out.trans (HM.out.bel.mono HB1.out.size))
        obtain ⟨wo, rfl⟩ : ∃ wo, wo = wr := ⟨_, rfl⟩
        by_cases hlt : r < 64
        · have r1 : (r : Int) < 64 := by omega
          have HWR := Lib.hid (HWA.out (.slice nA n nc) wo r ((HC.out.below HBW.out (Nat.le_refl _) (Nat.le_refl _)).more HBW.out.size) ((HLS.out.below HM.out.bel (Nat.le_refl _)).more HM.out.bel.size))
          have HRL := Lib.hid hlt
          clear hlt
          go_wp2_with (go_at_call 20; (with_reducible refine HWR.out.mono ?_); rintro e w5 ⟨hb, gb, rfl, hge, hrow⟩; have HM5 := Lib.hid (HM.out.grow hb); have HR5 := Lib.hid hrow; have HGE := Lib.hid (show w1.heap.size < gb from Nat.lt_of_lt_of_le HM.out.row.lt hge); clear hb hge hrow)
          go_loopw [11] (fun v wi => ∃ k : Nat, k ≤ n ∧ v = .int .i64 k ∧ Hid (MkAt w1 wi n (fun i => if i < k then pmask l pn i (r + 1) else pmask l pn i r) ∧ RowAt wi gb n 4 (boolsV fun i => (wayL l r).getD i false))) (fun v _ => n - (intOf v).toNat)
          case atStart => exact ⟨0, by omega, rfl, HM5.out.congr fun i hi => by simp, HR5.out⟩
          case round =>
            obtain ⟨k, hk, rfl, HI⟩ := hrel
            obtain ⟨hmk2, hrow⟩ := HI.out
            have HMK := Lib.hid hmk2
            have HRO := Lib.hid hrow
            clear HI
            by_cases hlt : k < n
            · have k0 : (0 : Int) ≤ (k : Int) := by omega
              have k1 : (k : Int) < (n : Int) := by omega
              have b1 : wr.cell? ⟨gb, k, none⟩ = some (.bool ((wayL l r).getD k false)) := hrow.cell hlt
              have z1 : wr.cell? ⟨w1.heap.size, k, none⟩ = some (.int .u64 ((pmask l pn k r : Nat) : Int)) := by
                have h := hmk2.row.cell hlt
                unfold wordsU at h
                dsimp only at h
                rw [if_neg (Nat.lt_irrefl k)] at h
                exact h
              have fz := hmk2.row.frozen k
              have HSU : Hid (pmask l pn k (r + 1) = pmask l pn k r + if sureB l pn r k then 2 ^ r else 0) := Lib.hid rfl
              have HSB : Hid (sureB l pn r k = (decide (r < pn) || !((wayL l r).getD k false))) := Lib.hid rfl
              have HPL := Lib.hid (pmask_lt l pn k r)
              have HPL1 := Lib.hid (pmask_lt l pn k (r + 1))
              have HCO : Hid (∀ q, pmask l pn k (r + 1) = q → ∀ i, i < n → (if i = k then q else if i < k then pmask l pn i (r + 1) else pmask l pn i r) = if i < k + 1 then pmask l pn i (r + 1) else pmask l pn i r) := Lib.hid (fun q hq i hi => by
                by_cases e : i = k
                · subst e; rw [if_pos rfl, if_pos (by omega), hq]
                · rw [if_neg e]
                  by_cases e2 : i < k
                  · rw [if_pos e2, if_pos (by omega)]
                  · rw [if_neg e2, if_neg (by omega)])
              obtain ⟨pm, hpm⟩ : ∃ pm, pm = pmask l pn k r := ⟨_, rfl⟩
              have HPM := Lib.hid hpm
              rw [← hpm] at z1 HSU HPL
              obtain ⟨wy, hwy⟩ : ∃ wy, wy = (wayL l r).getD k false := ⟨_, rfl⟩
              rw [← hwy] at b1 HSB
              obtain ⟨e, he⟩ : ∃ e, e = 2 ^ r := ⟨_, rfl⟩
              have HEE := Lib.hid he.symm
              have HEI : Hid ((2 : Int) ^ r = (e : Int)) := Lib.hid (by rw [he]; simp)
              clear hmk2 hrow hlt hpm hwy he
              by_cases hrp : r < pn
              · have HSS : sureB l pn r k = true := by rw [HSB.out]; simp [hrp]
                have hrpI : (r : Int) < (pn : Int) := by omega
                clear hrp
                have HSE : Hid (pmask l pn k (r + 1) = pm + e) := Lib.hid (by rw [HSU.out, HSS, if_pos rfl, HEE.out])
                have HMS : Hid (MkAt w1 (wr.drew.setCell ⟨w1.heap.size, k, none⟩ (.int .u64 ((pm + e : Nat) : Int))) n (fun i => if i < k + 1 then pmask l pn i (r + 1) else pmask l pn i r)) := Lib.hid ((HMK.out.drew.set k (pm + e)).congr (HCO.out _ HSE.out))
                have HRS : Hid (RowAt (wr.drew.setCell ⟨w1.heap.size, k, none⟩ (.int .u64 ((pm + e : Nat) : Int))) gb n 4 (boolsV fun i => (wayL l r).getD i false)) := Lib.hid ((HRO.out.heap (w' := wr.drew) rfl).but ((But.refl (OneBlock w1.heap.size) wr.drew).setCell (p := ⟨w1.heap.size, k, none⟩) (.inl rfl) _) (fun e => by have := HGE.out; have : gb = w1.heap.size := e; omega))
                have hle : pm + e < 18446744073709551616 := by have := HPL1.out; rw [HSE.out] at this; have h2 : 2 ^ (r + 1) ≤ 2 ^ 64 := Nat.pow_le_pow_right (by decide) (by have := HRL.out; omega); omega
                have f1 : IntKind.u64.wrap (2 ^ r) = ((e : Nat) : Int) := by rw [IntKind.wrap_u64, HEI.out]; omega
                have f2 : IntKind.u64.wrap ((pm : Int) + (e : Int)) = ((pm + e : Nat) : Int) := by rw [IntKind.wrap_u64]; omega
                have HLE := Lib.hid hle
                clear HSS hle
                go_wp2
                go_still_tail 10, (by kernel_rfl)
                go_wp2
                go_roundw
                case rel => exact ⟨k + 1, by omega, by go_num, HMS.out, HRS.out⟩
                case measure => simp [intOf]; omega
              · have hrpI : ¬ (r : Int) < (pn : Int) := by omega
                cases wy with
                | false =>
                  have HSS : sureB l pn r k = true := by rw [HSB.out]; simp
                  clear hrp
                  have HSE : Hid (pmask l pn k (r + 1) = pm + e) := Lib.hid (by rw [HSU.out, HSS, if_pos rfl, HEE.out])
                  have HMS : Hid (MkAt w1 (wr.drew.setCell ⟨w1.heap.size, k, none⟩ (.int .u64 ((pm + e : Nat) : Int))) n (fun i => if i < k + 1 then pmask l pn i (r + 1) else pmask l pn i r)) := Lib.hid ((HMK.out.drew.set k (pm + e)).congr (HCO.out _ HSE.out))
                  have HRS : Hid (RowAt (wr.drew.setCell ⟨w1.heap.size, k, none⟩ (.int .u64 ((pm + e : Nat) : Int))) gb n 4 (boolsV fun i => (wayL l r).getD i false)) := Lib.hid ((HRO.out.heap (w' := wr.drew) rfl).but ((But.refl (OneBlock w1.heap.size) wr.drew).setCell (p := ⟨w1.heap.size, k, none⟩) (.inl rfl) _) (fun e => by have := HGE.out; have : gb = w1.heap.size := e; omega))
                  have hle : pm + e < 18446744073709551616 := by have := HPL1.out; rw [HSE.out] at this; have h2 : 2 ^ (r + 1) ≤ 2 ^ 64 := Nat.pow_le_pow_right (by decide) (by have := HRL.out; omega); omega
                  have f1 : IntKind.u64.wrap (2 ^ r) = ((e : Nat) : Int) := by rw [IntKind.wrap_u64, HEI.out]; omega
                  have f2 : IntKind.u64.wrap ((pm : Int) + (e : Int)) = ((pm + e : Nat) : Int) := by rw [IntKind.wrap_u64]; omega
                  have HLE := Lib.hid hle
                  clear HSS hle
                  go_wp2
                  go_still_tail 10, (by kernel_rfl)
                  go_wp2
                  go_roundw
                  case rel => exact ⟨k + 1, by omega, by go_num, HMS.out, HRS.out⟩
                  case measure => simp [intOf]; omega
                | true =>
                  have HSE : Hid (pmask l pn k (r + 1) = pm) := Lib.hid (by rw [HSU.out, HSB.out]; simp [hrp])
                  have HMS := Lib.hid (HMK.out.congr (f' := fun i => if i < k + 1 then pmask l pn i (r + 1) else pmask l pn i r) fun i hi => by
                    by_cases e2 : i < k
                    · rw [if_pos e2, if_pos (by omega)]
                    · rw [if_neg e2]
                      by_cases e3 : i = k
                      · subst e3; rw [if_pos (by omega)]; have := HPM.out; rw [← this, HSE.out]
                      · rw [if_neg (by omega)])
                  clear hrp
                  go_wp2
                  go_roundw
                  case rel => exact ⟨k + 1, by omega, by go_num, HMS.out, HRO.out⟩
                  case measure => simp [intOf]; omega
            · obtain rfl : k = n := by omega
              have HMD := Lib.hid (HMK.out.congr (f' := fun i => pmask l pn i (r + 1)) fun i hi => by simp [hi])
              clear hmk2 hrow
              go_wp2
              go_roundw
              case rel => exact ⟨r + 1, by have := HRL.out; omega, by go_num, HMD.out⟩
              case measure => have := HRL.out; simp [intOf]; omega
        · obtain rfl : r = 64 := by omega
          go_wp2
          go_ret2
          refine ⟨HBW.out, .inr (.inr ⟨HP.out, H0.out, w1.heap.size, rfl, HB1.out.size, ?_⟩)⟩
          rw [Int.toNat_natCast]
          exact HM.out.row
    · have HN2 := Lib.hid (HNX.out.mono fun e w' hh => And.intro hh.1 (hh.2.resolve_right (fun h => h0 h.1)).2)
      have hne : (check10 l != 0) = true := by simpa using h0
      have H0 := Lib.hid h0
      unfold MasksN
      generalize check10 l = z at *
      clear h hn h0 hp HNX
      go_enter Tryz.func8, Tryz.ntmps8
      go_wp2_with (go_at_call 19; (with_reducible refine HN2.out.mono ?_); rintro e w1 ⟨hb, rfl⟩; have HB1 := Lib.hid hb; clear hb)
      go_ret2
      exact ⟨HB1.out, .inr (.inl ⟨HP.out, H0.out, rfl⟩)⟩
end Go.Proofs.YtjoiocjnffaogaaGreat
