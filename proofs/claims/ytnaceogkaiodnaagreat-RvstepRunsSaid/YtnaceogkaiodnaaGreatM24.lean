/- Fetch of the document's own way of layer 4, at a word: contracts for any such machine, in whatever memory of the program. -/
import Derived.Test.YtnaceogkaiodnaaGreatM14
import Derived.Test.YtnaceogkaiodnaaGreatM23
namespace Go.Proofs.YtnaceogkaiodnaaGreat
open Go.RowKit
set_option linter.unusedVariables false

section
variable {w w' : World} {rx rm rb rc : Nat} {V : Value} {code : List Int} {s : MSt}
theorem fetch_but {w1 w2 : World} {rx cb j b L cap : Nat} {p x : Int} (hb : But (OneBlock b) w1 w2) (h : w1.cell? ⟨rx, 34, none⟩ = some (.slice (some ⟨cb, 0, none⟩) L cap) ∧ w1.cell? ⟨rx, 32, none⟩ = some (.int .u64 p) ∧ w1.cell? ⟨cb, j, none⟩ = some (.int .u32 x)) (l1 : rx < w1.heap.size) (l2 : cb < w1.heap.size) (n1 : rx ≠ b) (n2 : cb ≠ b) : w2.cell? ⟨rx, 34, none⟩ = some (.slice (some ⟨cb, 0, none⟩) L cap) ∧ w2.cell? ⟨rx, 32, none⟩ = some (.int .u64 p) ∧ w2.cell? ⟨cb, j, none⟩ = some (.int .u32 x) :=
  ⟨(hb.cell (p := ⟨rx, 34, none⟩) l1 (oneBlock_not n1)).trans h.1, (hb.cell (p := ⟨rx, 32, none⟩) l1 (oneBlock_not n1)).trans h.2.1, (hb.cell (p := ⟨cb, j, none⟩) l2 (oneBlock_not n2)).trans h.2.2⟩
theorem drew_below {U w1 : World} (h : Below U.drew.heap.size U.drew w1) : Below U.heap.size U w1 := (below_drewN (Below.refl U.heap.size U) 1).trans h
theorem alloc_drew_below {U w1 : World} {o : Array Value} {t : TypeId} (h : Below (U.alloc (.cells o t)).drew.heap.size (U.alloc (.cells o t)).drew w1) : Below U.heap.size U w1 ∧ U.heap.size < w1.heap.size ∧ w1.heap[U.heap.size]? = some (.cells o t (0, 0)) := by
  have e : (U.alloc (.cells o t)).drew.heap.size = U.heap.size + 1 := by
    show (U.alloc (.cells o t)).heap.size = _
    simp
  have hs := h.size
  rw [e] at hs
  refine ⟨(below_drewN ((Below.refl U.heap.size U).alloc (Nat.le_refl _) (.cells o t)) 1).trans (h.mono (by rw [e]; omega)), by omega, ?_⟩
  exact (h.block _ (by rw [e]; omega)).trans (heap_alloc_new U _)
set_option maxRecDepth 100000 in
set_option maxHeartbeats 8000000 in
theorem rfetch_ok {j cb cap L : Nat} {cur : Array Value} {x y0 y1 y2 y3 y4 : Int} (h : RMach w rx rm rb rc (.slice (some ⟨cb, 0, none⟩) L cap) code s) (hL : L = code.length) (hr : w.heap[cb]? = some (.cells cur 74 (0, 0))) (hx : cur[j]? = some (.int .u32 x)) (hp : s.pc = 4294967296 + 4 * (j : Int)) (hj : j < L)
    (hd : ∀ u, Calls Tryz.prog 64 #[.int .u32 x] u fun e w' => e = .returned (.tuple #[.agg #[.int .i64 y0, .int .i64 y1, .int .i64 y2, .int .i64 y3, .int .i64 y4], .int .i64 0]) ∧ Below u.heap.size u w') :
    Calls Tryz.prog 38 #[.pointer (some ⟨rx, 0, none⟩)] w (RFetchDone w (.agg #[.int .i64 y0, .int .i64 y1, .int .i64 y2, .int .i64 y3, .int .i64 y4]) 0) := by
  have HW := Lib.hid (h.alloc (.cells #[.int .i64 0, .int .i64 0, .int .i64 0, .int .i64 0, .int .i64 0] 76))
  have hb := h.ok.pc
  have hl := h.len
  have hcb := heap_lt hr
  have hlt := h.lt
  have HZB := Lib.hid (heap_alloc_new w (.cells #[.int .i64 0, .int .i64 0, .int .i64 0, .int .i64 0, .int .i64 0] 76))
  have HBW := Lib.hid ((Below.refl w.heap.size w).alloc (Nat.le_refl _) (.cells #[.int .i64 0, .int .i64 0, .int .i64 0, .int .i64 0, .int .i64 0] 76))
  have hr2 : (w.alloc (.cells #[.int .i64 0, .int .i64 0, .int .i64 0, .int .i64 0, .int .i64 0] 76)).heap[cb]? = some (.cells cur 74 (0, 0)) := (Below.heap_alloc _ _ _ hcb).trans hr
  have d1 := cell_of_row _ cb j _ _ _ hr2
  rw [hx] at d1
  have HD := Lib.hid hd
  have c0 := HW.out.pc
  have c1 := HW.out.codec
  have hq2 : IntKind.u64.wrap ((IntKind.u64.wrap (s.pc - 4294967296)).tdiv 4) = (j : Int) := by
    rw [wrap_w64, wrap_w64]
    unfold w64
    rw [hp, show (4294967296 + 4 * (j : Int) - 4294967296) % 18446744073709551616 = 4 * (j : Int) by omega, Int.tdiv_eq_ediv_of_nonneg (by omega)]
    omega
  have t1 : s.pc.tmod 4 = 0 := by rw [Int.tmod_eq_emod_of_nonneg hb.1]; omega
  have t2 : IntKind.u64.wrap (L : Int) = (L : Int) := by rw [wrap_w64]; unfold w64; omega
  have hge : ¬ s.pc < 4294967296 := by omega
  have j0 : (0 : Int) ≤ (j : Int) := by omega
  have j1 : (j : Int) < (L : Int) := by omega
  have j2 : ¬ (L : Int) ≤ (j : Int) := by omega
  generalize s.pc = p at *
  have HLn := Lib.hid hL
  clear h hd hr hx hp hb hr2 hL hl
  go_enter Tryz.func38, Tryz.ntmps38
  go_wp2_with fail
  generalize w.alloc (.cells #[.int .i64 0, .int .i64 0, .int .i64 0, .int .i64 0, .int .i64 0] 76) = W at *
  go_quiet (fail)
  go_wp2_with fail
  have HW2 := Lib.hid (show RMach (W.drewN nq) rx rm rb rc (.slice (some ⟨cb, 0, none⟩) L cap) code s from HW.out.drewN nq)
  have HZ2 := Lib.hid (show (W.drewN nq).heap[w.heap.size]? = some (.cells #[.int .i64 0, .int .i64 0, .int .i64 0, .int .i64 0, .int .i64 0] 76 (0, 0)) from HZB.out)
  have HB2 := Lib.hid (show Below w.heap.size w (W.drewN nq) from below_drewN HBW.out nq)
  have HK0 := Lib.hid (show (W.drewN nq).cell? ⟨rx, 34, none⟩ = some (.slice (some ⟨cb, 0, none⟩) L cap) ∧ (W.drewN nq).cell? ⟨rx, 32, none⟩ = some (.int .u64 p) ∧ (W.drewN nq).cell? ⟨cb, j, none⟩ = some (.int .u32 x) from ⟨c1, c0, d1⟩)
  clear HW HZB HBW c0 c1 d1
  generalize W.drewN nq = U at *
  have HWd := Lib.hid (show RMach U.drew rx rm rb rc (.slice (some ⟨cb, 0, none⟩) L cap) code s from HW2.out.drewN 1)
  have HWB := Lib.hid (show RMach (U.alloc (.cells #[.int .i64 0, .int .i64 0, .int .i64 0, .int .i64 0, .int .i64 0] 76)).drew rx rm rb rc (.slice (some ⟨cb, 0, none⟩) L cap) code s from (HW2.out.alloc _).drewN 1)
  have hltU := HW2.out.lt
  obtain ⟨hlx, _, _⟩ := hltU
  have hltU := HW2.out.lt
  have hcU : cb < U.heap.size := Nat.lt_of_lt_of_le hcb HB2.out.size
  have hsz : w.heap.size < U.heap.size := heap_lt HZ2.out
  have HKd := Lib.hid (show U.drew.cell? ⟨rx, 34, none⟩ = some (.slice (some ⟨cb, 0, none⟩) L cap) ∧ U.drew.cell? ⟨rx, 32, none⟩ = some (.int .u64 p) ∧ U.drew.cell? ⟨cb, j, none⟩ = some (.int .u32 x) from HK0.out)
  have HKA := Lib.hid (show (U.alloc (.cells #[.int .i64 0, .int .i64 0, .int .i64 0, .int .i64 0, .int .i64 0] 76)).cell? ⟨rx, 34, none⟩ = some (.slice (some ⟨cb, 0, none⟩) L cap) ∧ (U.alloc (.cells #[.int .i64 0, .int .i64 0, .int .i64 0, .int .i64 0, .int .i64 0] 76)).cell? ⟨rx, 32, none⟩ = some (.int .u64 p) ∧ (U.alloc (.cells #[.int .i64 0, .int .i64 0, .int .i64 0, .int .i64 0, .int .i64 0] 76)).cell? ⟨cb, j, none⟩ = some (.int .u32 x) from ⟨(World.cell?_alloc_lt U _ _ hltU.1).trans HK0.out.1, (World.cell?_alloc_lt U _ _ hltU.1).trans HK0.out.2.1, (World.cell?_alloc_lt U _ _ hcU).trans HK0.out.2.2⟩)
  have HKB := Lib.hid (show (U.alloc (.cells #[.int .i64 0, .int .i64 0, .int .i64 0, .int .i64 0, .int .i64 0] 76)).drew.cell? ⟨rx, 34, none⟩ = some (.slice (some ⟨cb, 0, none⟩) L cap) ∧ (U.alloc (.cells #[.int .i64 0, .int .i64 0, .int .i64 0, .int .i64 0, .int .i64 0] 76)).drew.cell? ⟨rx, 32, none⟩ = some (.int .u64 p) ∧ (U.alloc (.cells #[.int .i64 0, .int .i64 0, .int .i64 0, .int .i64 0, .int .i64 0] 76)).drew.cell? ⟨cb, j, none⟩ = some (.int .u32 x) from ⟨(World.cell?_alloc_lt U _ _ hltU.1).trans HK0.out.1, (World.cell?_alloc_lt U _ _ hltU.1).trans HK0.out.2.1, (World.cell?_alloc_lt U _ _ hcU).trans HK0.out.2.2⟩)
  go_region_held3 (fun w' => w'.cell? ⟨rx, 34, none⟩ = some (.slice (some ⟨cb, 0, none⟩) L cap) ∧ w'.cell? ⟨rx, 32, none⟩ = some (.int .u64 p) ∧ w'.cell? ⟨cb, j, none⟩ = some (.int .u32 x)) (first | with_reducible exact HK0.out | with_reducible exact HKd.out | with_reducible exact HKA.out | with_reducible exact HKB.out | with_reducible exact HK1.out | with_reducible exact HK3.out | with_reducible exact HK4.out | with_reducible exact HS1.out | with_reducible exact HS2.out | with_reducible exact HS3.out | with_reducible exact HS4.out | with_reducible exact HS5.out | go_keep)
    (first
      | (go_at_call 64; (with_reducible refine (HD.out _).mono ?_); rintro e w1 ⟨rfl, hb1⟩; first
          | (have hb := drew_below hb1; have hm1 := HW2.out.below hb; have M1 := Lib.hid hm1; have B1 := Lib.hid (HB2.out.trans (hb.mono HB2.out.size)); have R1 := Lib.hid ((hb.block _ hsz).trans HZ2.out); have l0 : U.heap.size ≤ w1.heap.size := hb.size; have HK1 := Lib.hid (show w1.cell? ⟨rx, 34, none⟩ = some (.slice (some ⟨cb, 0, none⟩) L cap) ∧ w1.cell? ⟨rx, 32, none⟩ = some (.int .u64 p) ∧ w1.cell? ⟨cb, j, none⟩ = some (.int .u32 x) from ⟨(hb.cell (p := ⟨rx, 34, none⟩) hltU.1).trans HK0.out.1, (hb.cell (p := ⟨rx, 32, none⟩) hltU.1).trans HK0.out.2.1, (hb.cell (p := ⟨cb, j, none⟩) hcU).trans HK0.out.2.2⟩); have HK3 := Lib.hid (show (w1.alloc (.cells #[.int .i64 y0, .int .i64 y1, .int .i64 y2, .int .i64 y3, .int .i64 y4] 76)).cell? ⟨rx, 34, none⟩ = some (.slice (some ⟨cb, 0, none⟩) L cap) ∧ (w1.alloc (.cells #[.int .i64 y0, .int .i64 y1, .int .i64 y2, .int .i64 y3, .int .i64 y4] 76)).cell? ⟨rx, 32, none⟩ = some (.int .u64 p) ∧ (w1.alloc (.cells #[.int .i64 y0, .int .i64 y1, .int .i64 y2, .int .i64 y3, .int .i64 y4] 76)).cell? ⟨cb, j, none⟩ = some (.int .u32 x) from ⟨(World.cell?_alloc_lt w1 _ _ (Nat.lt_of_lt_of_le hltU.1 l0)).trans HK1.out.1, (World.cell?_alloc_lt w1 _ _ (Nat.lt_of_lt_of_le hltU.1 l0)).trans HK1.out.2.1, (World.cell?_alloc_lt w1 _ _ (Nat.lt_of_lt_of_le hcU l0)).trans HK1.out.2.2⟩); have HK4 := Lib.hid (show (w1.alloc (.cells #[.int .i64 0, .int .i64 0, .int .i64 0, .int .i64 0, .int .i64 0] 76)).cell? ⟨rx, 34, none⟩ = some (.slice (some ⟨cb, 0, none⟩) L cap) ∧ (w1.alloc (.cells #[.int .i64 0, .int .i64 0, .int .i64 0, .int .i64 0, .int .i64 0] 76)).cell? ⟨rx, 32, none⟩ = some (.int .u64 p) ∧ (w1.alloc (.cells #[.int .i64 0, .int .i64 0, .int .i64 0, .int .i64 0, .int .i64 0] 76)).cell? ⟨cb, j, none⟩ = some (.int .u32 x) from ⟨(World.cell?_alloc_lt w1 _ _ (Nat.lt_of_lt_of_le hltU.1 l0)).trans HK1.out.1, (World.cell?_alloc_lt w1 _ _ (Nat.lt_of_lt_of_le hltU.1 l0)).trans HK1.out.2.1, (World.cell?_alloc_lt w1 _ _ (Nat.lt_of_lt_of_le hcU l0)).trans HK1.out.2.2⟩); clear hb1 hb hm1)
          | (obtain ⟨hb, l9, hblk⟩ := alloc_drew_below hb1; have hm1 := HW2.out.below hb; have M1 := Lib.hid hm1; have B1 := Lib.hid (HB2.out.trans (hb.mono HB2.out.size)); have R1 := Lib.hid ((hb.block _ hsz).trans HZ2.out); have l0 : U.heap.size ≤ w1.heap.size := hb.size; have HK1 := Lib.hid (show w1.cell? ⟨rx, 34, none⟩ = some (.slice (some ⟨cb, 0, none⟩) L cap) ∧ w1.cell? ⟨rx, 32, none⟩ = some (.int .u64 p) ∧ w1.cell? ⟨cb, j, none⟩ = some (.int .u32 x) from ⟨(hb.cell (p := ⟨rx, 34, none⟩) hltU.1).trans HK0.out.1, (hb.cell (p := ⟨rx, 32, none⟩) hltU.1).trans HK0.out.2.1, (hb.cell (p := ⟨cb, j, none⟩) hcU).trans HK0.out.2.2⟩); have HBLK := Lib.hid hblk; have e0 := cell_of_row w1 U.heap.size 0 _ _ _ hblk; have e1 := cell_of_row w1 U.heap.size 1 _ _ _ hblk; have e2 := cell_of_row w1 U.heap.size 2 _ _ _ hblk; have e3 := cell_of_row w1 U.heap.size 3 _ _ _ hblk; have e4 := cell_of_row w1 U.heap.size 4 _ _ _ hblk; have f0 := frozen_of_row w1 U.heap.size 0 _ _ hblk; have f1 := frozen_of_row w1 U.heap.size 1 _ _ hblk; have f2 := frozen_of_row w1 U.heap.size 2 _ _ hblk; have f3 := frozen_of_row w1 U.heap.size 3 _ _ hblk; have f4 := frozen_of_row w1 U.heap.size 4 _ _ hblk; simp at e0 e1 e2 e3 e4; have nx : rx ≠ U.heap.size := (by omega); have nc : cb ≠ U.heap.size := (by omega); have lx : rx < w1.heap.size := (by omega); have lc : cb < w1.heap.size := (by omega); have b1 := (But.refl (OneBlock U.heap.size) w1).setCell (p := ⟨U.heap.size, 0, none⟩) (.inl rfl) (.int .i64 y0); have b2 := b1.setCell (p := ⟨U.heap.size, 1, none⟩) (.inl rfl) (.int .i64 y1); have b3 := b2.setCell (p := ⟨U.heap.size, 2, none⟩) (.inl rfl) (.int .i64 y2); have b4 := b3.setCell (p := ⟨U.heap.size, 3, none⟩) (.inl rfl) (.int .i64 y3); have b5 := b4.setCell (p := ⟨U.heap.size, 4, none⟩) (.inl rfl) (.int .i64 y4); have HS1 := Lib.hid (fetch_but b1 HK1.out lx lc nx nc); have HS2 := Lib.hid (fetch_but b2 HK1.out lx lc nx nc); have HS3 := Lib.hid (fetch_but b3 HK1.out lx lc nx nc); have HS4 := Lib.hid (fetch_but b4 HK1.out lx lc nx nc); have HS5 := Lib.hid (fetch_but b5 HK1.out lx lc nx nc); clear b1 b2 b3 b4 b5 nx nc lx lc; clear hb1 hb hm1 hblk)))
  all_goals first
    | (have B5 := Lib.hid (B1.out.alloc (Nat.le_trans (Nat.le_of_lt hsz) l0) (.cells #[.int .i64 y0, .int .i64 y1, .int .i64 y2, .int .i64 y3, .int .i64 y4] 76)); have R5 := Lib.hid ((Below.heap_alloc w1 (.cells #[.int .i64 y0, .int .i64 y1, .int .i64 y2, .int .i64 y3, .int .i64 y4] 76) _ (Nat.lt_of_lt_of_le hsz l0)).trans R1.out); have g0 := new_cell w1 #[.int .i64 y0, .int .i64 y1, .int .i64 y2, .int .i64 y3, .int .i64 y4] 76 w1.heap.size 0 _ rfl rfl; have g1 := new_cell w1 #[.int .i64 y0, .int .i64 y1, .int .i64 y2, .int .i64 y3, .int .i64 y4] 76 w1.heap.size 1 _ rfl rfl; have g2 := new_cell w1 #[.int .i64 y0, .int .i64 y1, .int .i64 y2, .int .i64 y3, .int .i64 y4] 76 w1.heap.size 2 _ rfl rfl; have g3 := new_cell w1 #[.int .i64 y0, .int .i64 y1, .int .i64 y2, .int .i64 y3, .int .i64 y4] 76 w1.heap.size 3 _ rfl rfl; have g4 := new_cell w1 #[.int .i64 y0, .int .i64 y1, .int .i64 y2, .int .i64 y3, .int .i64 y4] 76 w1.heap.size 4 _ rfl rfl; clear HK1 HK3 HK4 HKB HKA HKd HK0 HWB HWd; generalize w1.alloc (.cells #[.int .i64 y0, .int .i64 y1, .int .i64 y2, .int .i64 y3, .int .i64 y4] 76) = WF at *; generalize w1.heap.size = fb at *)
    | (have hset := fiveD_set (v0 := .int .i64 y0) (v1 := .int .i64 y1) (v2 := .int .i64 y2) (v3 := .int .i64 y3) (v4 := .int .i64 y4) HBLK.out; have g0 := cell_of_row _ U.heap.size 0 _ _ _ hset; have g1 := cell_of_row _ U.heap.size 1 _ _ _ hset; have g2 := cell_of_row _ U.heap.size 2 _ _ _ hset; have g3 := cell_of_row _ U.heap.size 3 _ _ _ hset; have g4 := cell_of_row _ U.heap.size 4 _ _ _ hset; simp at g0 g1 g2 g3 g4; have B5 := Lib.hid (fiveD_below (v0 := .int .i64 y0) (v1 := .int .i64 y1) (v2 := .int .i64 y2) (v3 := .int .i64 y3) (v4 := .int .i64 y4) B1.out (Nat.le_of_lt hsz)); have hbt := (((((But.refl (OneBlock U.heap.size) w1).setCell (p := ⟨U.heap.size, 0, none⟩) (.inl rfl) (.int .i64 y0)).setCell (p := ⟨U.heap.size, 1, none⟩) (.inl rfl) (.int .i64 y1)).setCell (p := ⟨U.heap.size, 2, none⟩) (.inl rfl) (.int .i64 y2)).setCell (p := ⟨U.heap.size, 3, none⟩) (.inl rfl) (.int .i64 y3)).setCell (p := ⟨U.heap.size, 4, none⟩) (.inl rfl) (.int .i64 y4); have R5 := Lib.hid (hbt.heap R1.out (oneBlock_not (show w.heap.size ≠ U.heap.size by omega))); clear hbt hset e0 e1 e2 e3 e4 f0 f1 f2 f3 f4 HK1 HKB HKA HKd HK0 HWB HWd HS1 HS2 HS3 HS4 HS5 HBLK; generalize (((((w1.setCell ⟨U.heap.size, 0, none⟩ (.int .i64 y0)).setCell ⟨U.heap.size, 1, none⟩ (.int .i64 y1)).setCell ⟨U.heap.size, 2, none⟩ (.int .i64 y2)).setCell ⟨U.heap.size, 3, none⟩ (.int .i64 y3)).setCell ⟨U.heap.size, 4, none⟩ (.int .i64 y4)) = WF at *; generalize U.heap.size = fb at *)
  all_goals
    have z0 := cell_of_row WF w.heap.size 0 _ _ _ R5.out
    have f0 := frozen_of_row WF w.heap.size 0 _ _ R5.out
    have z1 := cell_of_row WF w.heap.size 1 _ _ _ R5.out
    have f1 := frozen_of_row WF w.heap.size 1 _ _ R5.out
    have z2 := cell_of_row WF w.heap.size 2 _ _ _ R5.out
    have f2 := frozen_of_row WF w.heap.size 2 _ _ R5.out
    have z3 := cell_of_row WF w.heap.size 3 _ _ _ R5.out
    have f3 := frozen_of_row WF w.heap.size 3 _ _ R5.out
    have z4 := cell_of_row WF w.heap.size 4 _ _ _ R5.out
    have f4 := frozen_of_row WF w.heap.size 4 _ _ R5.out
    simp at z0 z1 z2 z3 z4
    go_wp2
    exact bodyPost_ret (v := .tuple #[.agg #[.int .i64 y0, .int .i64 y1, .int .i64 y2, .int .i64 y3, .int .i64 y4], .int .i64 0]) (results_cell_slot (fn := Tryz.f38) Tryz.results38 _ _ w.heap.size 76 _ (0, 0) _ rfl (fiveD_set (w1 := WF) R5.out) Tryz.underlying76 rfl rvD_size) rfl ⟨rfl, fiveD_below B5.out (Nat.le_refl _)⟩
set_option maxRecDepth 100000 in
set_option maxHeartbeats 8000000 in
theorem rfetch_ill {j cb cap L : Nat} {cur : Array Value} {x y0 y1 y2 y3 y4 : Int} (h : RMach w rx rm rb rc (.slice (some ⟨cb, 0, none⟩) L cap) code s) (hL : L = code.length) (hr : w.heap[cb]? = some (.cells cur 74 (0, 0))) (hx : cur[j]? = some (.int .u32 x)) (hp : s.pc = 4294967296 + 4 * (j : Int)) (hj : j < L)
    (hd : ∀ u, Calls Tryz.prog 64 #[.int .u32 x] u fun e w' => e = .returned (.tuple #[.agg #[.int .i64 y0, .int .i64 y1, .int .i64 y2, .int .i64 y3, .int .i64 y4], .int .i64 16]) ∧ Below u.heap.size u w') :
    Calls Tryz.prog 38 #[.pointer (some ⟨rx, 0, none⟩)] w (RFetchDone w (.agg #[.int .i64 0, .int .i64 0, .int .i64 0, .int .i64 0, .int .i64 0]) 2) := by
  have HW := Lib.hid (h.alloc (.cells #[.int .i64 0, .int .i64 0, .int .i64 0, .int .i64 0, .int .i64 0] 76))
  have hb := h.ok.pc
  have hl := h.len
  have hcb := heap_lt hr
  have hlt := h.lt
  have HZB := Lib.hid (heap_alloc_new w (.cells #[.int .i64 0, .int .i64 0, .int .i64 0, .int .i64 0, .int .i64 0] 76))
  have HBW := Lib.hid ((Below.refl w.heap.size w).alloc (Nat.le_refl _) (.cells #[.int .i64 0, .int .i64 0, .int .i64 0, .int .i64 0, .int .i64 0] 76))
  have hr2 : (w.alloc (.cells #[.int .i64 0, .int .i64 0, .int .i64 0, .int .i64 0, .int .i64 0] 76)).heap[cb]? = some (.cells cur 74 (0, 0)) := (Below.heap_alloc _ _ _ hcb).trans hr
  have d1 := cell_of_row _ cb j _ _ _ hr2
  rw [hx] at d1
  have HD := Lib.hid hd
  have c0 := HW.out.pc
  have c1 := HW.out.codec
  have hq2 : IntKind.u64.wrap ((IntKind.u64.wrap (s.pc - 4294967296)).tdiv 4) = (j : Int) := by
    rw [wrap_w64, wrap_w64]
    unfold w64
    rw [hp, show (4294967296 + 4 * (j : Int) - 4294967296) % 18446744073709551616 = 4 * (j : Int) by omega, Int.tdiv_eq_ediv_of_nonneg (by omega)]
    omega
  have t1 : s.pc.tmod 4 = 0 := by rw [Int.tmod_eq_emod_of_nonneg hb.1]; omega
  have t2 : IntKind.u64.wrap (L : Int) = (L : Int) := by rw [wrap_w64]; unfold w64; omega
  have hge : ¬ s.pc < 4294967296 := by omega
  have j0 : (0 : Int) ≤ (j : Int) := by omega
  have j1 : (j : Int) < (L : Int) := by omega
  have j2 : ¬ (L : Int) ≤ (j : Int) := by omega
  generalize s.pc = p at *
  have HLn := Lib.hid hL
  clear h hd hr hx hp hb hr2 hL hl
  go_enter Tryz.func38, Tryz.ntmps38
  go_wp2_with fail
  generalize w.alloc (.cells #[.int .i64 0, .int .i64 0, .int .i64 0, .int .i64 0, .int .i64 0] 76) = W at *
  go_quiet (fail)
  go_wp2_with fail
  have HW2 := Lib.hid (show RMach (W.drewN nq) rx rm rb rc (.slice (some ⟨cb, 0, none⟩) L cap) code s from HW.out.drewN nq)
  have HZ2 := Lib.hid (show (W.drewN nq).heap[w.heap.size]? = some (.cells #[.int .i64 0, .int .i64 0, .int .i64 0, .int .i64 0, .int .i64 0] 76 (0, 0)) from HZB.out)
  have HB2 := Lib.hid (show Below w.heap.size w (W.drewN nq) from below_drewN HBW.out nq)
  have HK0 := Lib.hid (show (W.drewN nq).cell? ⟨rx, 34, none⟩ = some (.slice (some ⟨cb, 0, none⟩) L cap) ∧ (W.drewN nq).cell? ⟨rx, 32, none⟩ = some (.int .u64 p) ∧ (W.drewN nq).cell? ⟨cb, j, none⟩ = some (.int .u32 x) from ⟨c1, c0, d1⟩)
  clear HW HZB HBW c0 c1 d1
  generalize W.drewN nq = U at *
  have HWd := Lib.hid (show RMach U.drew rx rm rb rc (.slice (some ⟨cb, 0, none⟩) L cap) code s from HW2.out.drewN 1)
  have HWB := Lib.hid (show RMach (U.alloc (.cells #[.int .i64 0, .int .i64 0, .int .i64 0, .int .i64 0, .int .i64 0] 76)).drew rx rm rb rc (.slice (some ⟨cb, 0, none⟩) L cap) code s from (HW2.out.alloc _).drewN 1)
  have hltU := HW2.out.lt
  obtain ⟨hlx, _, _⟩ := hltU
  have hltU := HW2.out.lt
  have hcU : cb < U.heap.size := Nat.lt_of_lt_of_le hcb HB2.out.size
  have hsz : w.heap.size < U.heap.size := heap_lt HZ2.out
  have HKd := Lib.hid (show U.drew.cell? ⟨rx, 34, none⟩ = some (.slice (some ⟨cb, 0, none⟩) L cap) ∧ U.drew.cell? ⟨rx, 32, none⟩ = some (.int .u64 p) ∧ U.drew.cell? ⟨cb, j, none⟩ = some (.int .u32 x) from HK0.out)
  have HKA := Lib.hid (show (U.alloc (.cells #[.int .i64 0, .int .i64 0, .int .i64 0, .int .i64 0, .int .i64 0] 76)).cell? ⟨rx, 34, none⟩ = some (.slice (some ⟨cb, 0, none⟩) L cap) ∧ (U.alloc (.cells #[.int .i64 0, .int .i64 0, .int .i64 0, .int .i64 0, .int .i64 0] 76)).cell? ⟨rx, 32, none⟩ = some (.int .u64 p) ∧ (U.alloc (.cells #[.int .i64 0, .int .i64 0, .int .i64 0, .int .i64 0, .int .i64 0] 76)).cell? ⟨cb, j, none⟩ = some (.int .u32 x) from ⟨(World.cell?_alloc_lt U _ _ hltU.1).trans HK0.out.1, (World.cell?_alloc_lt U _ _ hltU.1).trans HK0.out.2.1, (World.cell?_alloc_lt U _ _ hcU).trans HK0.out.2.2⟩)
  have HKB := Lib.hid (show (U.alloc (.cells #[.int .i64 0, .int .i64 0, .int .i64 0, .int .i64 0, .int .i64 0] 76)).drew.cell? ⟨rx, 34, none⟩ = some (.slice (some ⟨cb, 0, none⟩) L cap) ∧ (U.alloc (.cells #[.int .i64 0, .int .i64 0, .int .i64 0, .int .i64 0, .int .i64 0] 76)).drew.cell? ⟨rx, 32, none⟩ = some (.int .u64 p) ∧ (U.alloc (.cells #[.int .i64 0, .int .i64 0, .int .i64 0, .int .i64 0, .int .i64 0] 76)).drew.cell? ⟨cb, j, none⟩ = some (.int .u32 x) from ⟨(World.cell?_alloc_lt U _ _ hltU.1).trans HK0.out.1, (World.cell?_alloc_lt U _ _ hltU.1).trans HK0.out.2.1, (World.cell?_alloc_lt U _ _ hcU).trans HK0.out.2.2⟩)
  go_region_held3 (fun w' => w'.cell? ⟨rx, 34, none⟩ = some (.slice (some ⟨cb, 0, none⟩) L cap) ∧ w'.cell? ⟨rx, 32, none⟩ = some (.int .u64 p) ∧ w'.cell? ⟨cb, j, none⟩ = some (.int .u32 x)) (first | with_reducible exact HK0.out | with_reducible exact HKd.out | with_reducible exact HKA.out | with_reducible exact HKB.out | with_reducible exact HK1.out | with_reducible exact HK3.out | with_reducible exact HK4.out | with_reducible exact HS1.out | with_reducible exact HS2.out | with_reducible exact HS3.out | with_reducible exact HS4.out | with_reducible exact HS5.out | go_keep)
    (first
      | (go_at_call 64; (with_reducible refine (HD.out _).mono ?_); rintro e w1 ⟨rfl, hb1⟩; first
          | (have hb := drew_below hb1; have hm1 := HW2.out.below hb; have M1 := Lib.hid hm1; have B1 := Lib.hid (HB2.out.trans (hb.mono HB2.out.size)); have R1 := Lib.hid ((hb.block _ hsz).trans HZ2.out); have l0 : U.heap.size ≤ w1.heap.size := hb.size; have HK1 := Lib.hid (show w1.cell? ⟨rx, 34, none⟩ = some (.slice (some ⟨cb, 0, none⟩) L cap) ∧ w1.cell? ⟨rx, 32, none⟩ = some (.int .u64 p) ∧ w1.cell? ⟨cb, j, none⟩ = some (.int .u32 x) from ⟨(hb.cell (p := ⟨rx, 34, none⟩) hltU.1).trans HK0.out.1, (hb.cell (p := ⟨rx, 32, none⟩) hltU.1).trans HK0.out.2.1, (hb.cell (p := ⟨cb, j, none⟩) hcU).trans HK0.out.2.2⟩); have HK3 := Lib.hid (show (w1.alloc (.cells #[.int .i64 y0, .int .i64 y1, .int .i64 y2, .int .i64 y3, .int .i64 y4] 76)).cell? ⟨rx, 34, none⟩ = some (.slice (some ⟨cb, 0, none⟩) L cap) ∧ (w1.alloc (.cells #[.int .i64 y0, .int .i64 y1, .int .i64 y2, .int .i64 y3, .int .i64 y4] 76)).cell? ⟨rx, 32, none⟩ = some (.int .u64 p) ∧ (w1.alloc (.cells #[.int .i64 y0, .int .i64 y1, .int .i64 y2, .int .i64 y3, .int .i64 y4] 76)).cell? ⟨cb, j, none⟩ = some (.int .u32 x) from ⟨(World.cell?_alloc_lt w1 _ _ (Nat.lt_of_lt_of_le hltU.1 l0)).trans HK1.out.1, (World.cell?_alloc_lt w1 _ _ (Nat.lt_of_lt_of_le hltU.1 l0)).trans HK1.out.2.1, (World.cell?_alloc_lt w1 _ _ (Nat.lt_of_lt_of_le hcU l0)).trans HK1.out.2.2⟩); have HK4 := Lib.hid (show (w1.alloc (.cells #[.int .i64 0, .int .i64 0, .int .i64 0, .int .i64 0, .int .i64 0] 76)).cell? ⟨rx, 34, none⟩ = some (.slice (some ⟨cb, 0, none⟩) L cap) ∧ (w1.alloc (.cells #[.int .i64 0, .int .i64 0, .int .i64 0, .int .i64 0, .int .i64 0] 76)).cell? ⟨rx, 32, none⟩ = some (.int .u64 p) ∧ (w1.alloc (.cells #[.int .i64 0, .int .i64 0, .int .i64 0, .int .i64 0, .int .i64 0] 76)).cell? ⟨cb, j, none⟩ = some (.int .u32 x) from ⟨(World.cell?_alloc_lt w1 _ _ (Nat.lt_of_lt_of_le hltU.1 l0)).trans HK1.out.1, (World.cell?_alloc_lt w1 _ _ (Nat.lt_of_lt_of_le hltU.1 l0)).trans HK1.out.2.1, (World.cell?_alloc_lt w1 _ _ (Nat.lt_of_lt_of_le hcU l0)).trans HK1.out.2.2⟩); clear hb1 hb hm1)
          | (obtain ⟨hb, l9, hblk⟩ := alloc_drew_below hb1; have hm1 := HW2.out.below hb; have M1 := Lib.hid hm1; have B1 := Lib.hid (HB2.out.trans (hb.mono HB2.out.size)); have R1 := Lib.hid ((hb.block _ hsz).trans HZ2.out); have l0 : U.heap.size ≤ w1.heap.size := hb.size; have HK1 := Lib.hid (show w1.cell? ⟨rx, 34, none⟩ = some (.slice (some ⟨cb, 0, none⟩) L cap) ∧ w1.cell? ⟨rx, 32, none⟩ = some (.int .u64 p) ∧ w1.cell? ⟨cb, j, none⟩ = some (.int .u32 x) from ⟨(hb.cell (p := ⟨rx, 34, none⟩) hltU.1).trans HK0.out.1, (hb.cell (p := ⟨rx, 32, none⟩) hltU.1).trans HK0.out.2.1, (hb.cell (p := ⟨cb, j, none⟩) hcU).trans HK0.out.2.2⟩); have HBLK := Lib.hid hblk; have e0 := cell_of_row w1 U.heap.size 0 _ _ _ hblk; have e1 := cell_of_row w1 U.heap.size 1 _ _ _ hblk; have e2 := cell_of_row w1 U.heap.size 2 _ _ _ hblk; have e3 := cell_of_row w1 U.heap.size 3 _ _ _ hblk; have e4 := cell_of_row w1 U.heap.size 4 _ _ _ hblk; have f0 := frozen_of_row w1 U.heap.size 0 _ _ hblk; have f1 := frozen_of_row w1 U.heap.size 1 _ _ hblk; have f2 := frozen_of_row w1 U.heap.size 2 _ _ hblk; have f3 := frozen_of_row w1 U.heap.size 3 _ _ hblk; have f4 := frozen_of_row w1 U.heap.size 4 _ _ hblk; simp at e0 e1 e2 e3 e4; have nx : rx ≠ U.heap.size := (by omega); have nc : cb ≠ U.heap.size := (by omega); have lx : rx < w1.heap.size := (by omega); have lc : cb < w1.heap.size := (by omega); have b1 := (But.refl (OneBlock U.heap.size) w1).setCell (p := ⟨U.heap.size, 0, none⟩) (.inl rfl) (.int .i64 y0); have b2 := b1.setCell (p := ⟨U.heap.size, 1, none⟩) (.inl rfl) (.int .i64 y1); have b3 := b2.setCell (p := ⟨U.heap.size, 2, none⟩) (.inl rfl) (.int .i64 y2); have b4 := b3.setCell (p := ⟨U.heap.size, 3, none⟩) (.inl rfl) (.int .i64 y3); have b5 := b4.setCell (p := ⟨U.heap.size, 4, none⟩) (.inl rfl) (.int .i64 y4); have HS1 := Lib.hid (fetch_but b1 HK1.out lx lc nx nc); have HS2 := Lib.hid (fetch_but b2 HK1.out lx lc nx nc); have HS3 := Lib.hid (fetch_but b3 HK1.out lx lc nx nc); have HS4 := Lib.hid (fetch_but b4 HK1.out lx lc nx nc); have HS5 := Lib.hid (fetch_but b5 HK1.out lx lc nx nc); clear b1 b2 b3 b4 b5 nx nc lx lc; clear hb1 hb hm1 hblk)))
  all_goals first
    | (have B5 := Lib.hid (B1.out.alloc (Nat.le_trans (Nat.le_of_lt hsz) l0) (.cells #[.int .i64 y0, .int .i64 y1, .int .i64 y2, .int .i64 y3, .int .i64 y4] 76)); have R5 := Lib.hid ((Below.heap_alloc w1 (.cells #[.int .i64 y0, .int .i64 y1, .int .i64 y2, .int .i64 y3, .int .i64 y4] 76) _ (Nat.lt_of_lt_of_le hsz l0)).trans R1.out); have g0 := new_cell w1 #[.int .i64 y0, .int .i64 y1, .int .i64 y2, .int .i64 y3, .int .i64 y4] 76 w1.heap.size 0 _ rfl rfl; have g1 := new_cell w1 #[.int .i64 y0, .int .i64 y1, .int .i64 y2, .int .i64 y3, .int .i64 y4] 76 w1.heap.size 1 _ rfl rfl; have g2 := new_cell w1 #[.int .i64 y0, .int .i64 y1, .int .i64 y2, .int .i64 y3, .int .i64 y4] 76 w1.heap.size 2 _ rfl rfl; have g3 := new_cell w1 #[.int .i64 y0, .int .i64 y1, .int .i64 y2, .int .i64 y3, .int .i64 y4] 76 w1.heap.size 3 _ rfl rfl; have g4 := new_cell w1 #[.int .i64 y0, .int .i64 y1, .int .i64 y2, .int .i64 y3, .int .i64 y4] 76 w1.heap.size 4 _ rfl rfl; clear HK1 HK3 HK4 HKB HKA HKd HK0 HWB HWd; generalize w1.alloc (.cells #[.int .i64 y0, .int .i64 y1, .int .i64 y2, .int .i64 y3, .int .i64 y4] 76) = WF at *; generalize w1.heap.size = fb at *)
    | (have hset := fiveD_set (v0 := .int .i64 y0) (v1 := .int .i64 y1) (v2 := .int .i64 y2) (v3 := .int .i64 y3) (v4 := .int .i64 y4) HBLK.out; have g0 := cell_of_row _ U.heap.size 0 _ _ _ hset; have g1 := cell_of_row _ U.heap.size 1 _ _ _ hset; have g2 := cell_of_row _ U.heap.size 2 _ _ _ hset; have g3 := cell_of_row _ U.heap.size 3 _ _ _ hset; have g4 := cell_of_row _ U.heap.size 4 _ _ _ hset; simp at g0 g1 g2 g3 g4; have B5 := Lib.hid (fiveD_below (v0 := .int .i64 y0) (v1 := .int .i64 y1) (v2 := .int .i64 y2) (v3 := .int .i64 y3) (v4 := .int .i64 y4) B1.out (Nat.le_of_lt hsz)); have hbt := (((((But.refl (OneBlock U.heap.size) w1).setCell (p := ⟨U.heap.size, 0, none⟩) (.inl rfl) (.int .i64 y0)).setCell (p := ⟨U.heap.size, 1, none⟩) (.inl rfl) (.int .i64 y1)).setCell (p := ⟨U.heap.size, 2, none⟩) (.inl rfl) (.int .i64 y2)).setCell (p := ⟨U.heap.size, 3, none⟩) (.inl rfl) (.int .i64 y3)).setCell (p := ⟨U.heap.size, 4, none⟩) (.inl rfl) (.int .i64 y4); have R5 := Lib.hid (hbt.heap R1.out (oneBlock_not (show w.heap.size ≠ U.heap.size by omega))); clear hbt hset e0 e1 e2 e3 e4 f0 f1 f2 f3 f4 HK1 HKB HKA HKd HK0 HWB HWd HS1 HS2 HS3 HS4 HS5 HBLK; generalize (((((w1.setCell ⟨U.heap.size, 0, none⟩ (.int .i64 y0)).setCell ⟨U.heap.size, 1, none⟩ (.int .i64 y1)).setCell ⟨U.heap.size, 2, none⟩ (.int .i64 y2)).setCell ⟨U.heap.size, 3, none⟩ (.int .i64 y3)).setCell ⟨U.heap.size, 4, none⟩ (.int .i64 y4)) = WF at *; generalize U.heap.size = fb at *)
  all_goals
    have z0 := cell_of_row WF w.heap.size 0 _ _ _ R5.out
    have f0 := frozen_of_row WF w.heap.size 0 _ _ R5.out
    have z1 := cell_of_row WF w.heap.size 1 _ _ _ R5.out
    have f1 := frozen_of_row WF w.heap.size 1 _ _ R5.out
    have z2 := cell_of_row WF w.heap.size 2 _ _ _ R5.out
    have f2 := frozen_of_row WF w.heap.size 2 _ _ R5.out
    have z3 := cell_of_row WF w.heap.size 3 _ _ _ R5.out
    have f3 := frozen_of_row WF w.heap.size 3 _ _ R5.out
    have z4 := cell_of_row WF w.heap.size 4 _ _ _ R5.out
    have f4 := frozen_of_row WF w.heap.size 4 _ _ R5.out
    simp at z0 z1 z2 z3 z4
    go_wp2
    exact bodyPost_ret (v := .tuple #[.agg #[.int .i64 0, .int .i64 0, .int .i64 0, .int .i64 0, .int .i64 0], .int .i64 2]) (results_cell_slot (fn := Tryz.f38) Tryz.results38 _ _ w.heap.size 76 _ (0, 0) _ rfl (fiveD_set (w1 := WF) R5.out) Tryz.underlying76 rfl rvD_size) rfl ⟨rfl, fiveD_below B5.out (Nat.le_refl _)⟩
end
end Go.Proofs.YtnaceogkaiodnaaGreat

