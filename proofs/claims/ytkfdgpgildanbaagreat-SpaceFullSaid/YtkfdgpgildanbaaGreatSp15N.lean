/- The landed space: a module is cloned. Contract; no condition but that it lies in memory, and is not too long. -/
import Derived.Test.YtkfdgpgildanbaaGreatSp15M
import Derived.Deep.RegionHeld3
namespace Go.Proofs.YtkfdgpgildanbaaGreat
open Go.RowKit Go.Shelf
set_option linter.unusedVariables false
set_option linter.unusedSimpArgs false

theorem cellsF_one15 (fs : List FunV) (Cs : List Value) (hl : Cs.length = fs.length) (h : ∀ i, i < fs.length → (Cs.getD i (.slice none 0 0)).oneCell' = true) : ∀ u ∈ cellsF fs Cs, u.oneCell' = true := by
  intro u hu
  obtain ⟨j, hj⟩ := List.mem_iff_getElem?.1 hu
  have hjl : j < fs.length * 4 := by
    rcases Nat.lt_or_ge j (fs.length * 4) with h | h
    · exact h
    · rw [List.getElem?_eq_none (by rw [cellsF_length fs Cs hl]; exact h)] at hj; cases hj
  have h5 := cellsF_at fs Cs (i := j / 4) (j := j % 4) hl (by omega) (by omega)
  rw [show j / 4 * 4 + j % 4 = j by omega, hj] at h5
  injection h5 with h5
  rw [h5]
  rcases (show j % 4 = 0 ∨ j % 4 = 1 ∨ j % 4 = 2 ∨ j % 4 = 3 by omega) with e | e | e | e <;> rw [e]
  · rfl
  · rfl
  · rfl
  · exact h _ (by omega)
theorem cellsC_one15 (fs : List InsV) (Cs : List Value) (hl : Cs.length = fs.length) (h : ∀ i, i < fs.length → (Cs.getD i (.slice none 0 0)).oneCell' = true) : ∀ u ∈ cellsC fs Cs, u.oneCell' = true := by
  intro u hu
  obtain ⟨j, hj⟩ := List.mem_iff_getElem?.1 hu
  have hjl : j < fs.length * 6 := by
    rcases Nat.lt_or_ge j (fs.length * 6) with h | h
    · exact h
    · rw [List.getElem?_eq_none (by rw [cellsC_length fs Cs hl]; exact h)] at hj; cases hj
  have h5 := cellsC_at fs Cs (i := j / 6) (j := j % 6) hl (by omega) (by omega)
  rw [show j / 6 * 6 + j % 6 = j by omega, hj] at h5
  injection h5 with h5
  rw [h5]
  rcases (show j % 6 = 0 ∨ j % 6 = 1 ∨ j % 6 = 2 ∨ j % 6 = 3 ∨ j % 6 = 4 ∨ j % 6 = 5 by omega) with e | e | e | e | e | e <;> rw [e]
  · rfl
  · rfl
  · rfl
  · rfl
  · rfl
  · exact h _ (by omega)
/-- The clone's box and rows, its codes not yet its own. -/
structure Cl15 (w W : World) (ob : Nat) (DV FV : Value) (data : List Int) (fs : List FunV) (Cs : List Value) : Prop where
  box : W.heap[ob]? = some (.cells #[DV, FV] 25 (0, 0))
  res : W.heap[w.heap.size + 1]? = some (.cells #[.slice none 0 0, .slice none 0 0] 25 (0, 0))
  dat : OwnB w.heap.size W DV data
  row : Owns W w.heap.size 112 4 AnyCell FV fs.length (cellsF fs Cs)
  ob : w.heap.size + 2 ≤ ob
  bel : Below w.heap.size w W
theorem cl_end15 {w w2 : World} {ob : Nat} {v1 v2 : Value} {data : List Int} {fs : List FunV} {Cs : List Value} (hx : w2.heap[ob]? = some (.cells #[.slice none 0 0, .slice none 0 0] 25 (0, 0))) (hr : w2.heap[w.heap.size + 1]? = some (.cells #[.slice none 0 0, .slice none 0 0] 25 (0, 0)))
    (h1 : OwnB w.heap.size w2 v1 data) (h2 : Owns w2 w.heap.size 112 4 AnyCell v2 fs.length (cellsF fs Cs)) (ho : w.heap.size + 2 ≤ ob) (hb : Below w.heap.size w w2) : Cl15 w ((w2.setCell ⟨ob, 0, none⟩ v1).setCell ⟨ob, 1, none⟩ v2) ob v1 v2 data fs Cs := by
  have hb2 := but_box15 (one_but15 w2 ob 0 v1) 1 v2
  refine ⟨heap_setCell_same _ ob 1 _ _ v2 (heap_setCell_same w2 ob 0 _ _ v1 hx), hb2.heap hr (fun e => by have e' : w.heap.size + 1 = ob := e; omega), h1.but' hb2 (fun g hg e => ?_), h2.but hb2 (fun g hg e => ?_), ho, hb2.below hb (Nat.le_of_lt (Nat.lt_of_le_of_lt (by omega) (heap_lt hr))) (fun k hk => by have e' : k = ob := hk; omega)⟩
  · have e' : g = ob := e
    subst e'
    obtain ⟨c, hc⟩ := h1.blk hg
    exact types14 hc hx (by decide)
  · have e' : g = ob := e
    subst e'
    obtain ⟨_, c, hc⟩ := typed14 h2 hg
    exact types14 hc hx (by decide)
theorem cl_new15 {w w2 : World} {v1 v2 : Value} {data : List Int} {fs : List FunV} {Cs : List Value} (hr : w2.heap[w.heap.size + 1]? = some (.cells #[.slice none 0 0, .slice none 0 0] 25 (0, 0)))
    (h1 : OwnB w.heap.size w2 v1 data) (h2 : Owns w2 w.heap.size 112 4 AnyCell v2 fs.length (cellsF fs Cs)) (hb : Below w.heap.size w w2) : Cl15 w (w2.alloc (.cells #[v1, v2] 25)) w2.heap.size v1 v2 data fs Cs := by
  have hb2 := below_one14 w2 (.cells #[v1, v2] 25)
  have hb3 := But.of_below (R := NoBlock) hb2
  exact ⟨heap_alloc_new _ _, hb3.heap hr (fun h => h), h1.but' hb3 (fun _ _ h => h), h2.but hb3 (fun _ _ h => h), by have := heap_lt hr; omega, hb.trans (hb2.mono hb.size)⟩
/-- A code that is the call's own, whatever row of functions is written. -/
theorem ownC_fun15 {W W' : World} {V : Value} {l : List InsV} {Xs : List Value} {g : Nat} {c : Array Value} {T : TypeId} (h : OwnC 0 W V l Xs) (hb : But (OneBlock g) W W') (hx : W.heap[g]? = some (.cells c T (0, 0))) (h1 : 115 ≠ T) (h2 : 3 ≠ T) : OwnC 0 W' V l Xs :=
  h.but hb (fun k hk e => by
    have e' : k = g := e
    subst e'
    obtain ⟨_, c', hc⟩ := typed14 h.own hk
    exact types14 hc hx h1) (fun i hi k hk e => by
    have e' : k = g := e
    subst e'
    obtain ⟨_, c', hc⟩ := typed14 (h.nums i hi) hk
    exact types14 hc hx h2)
theorem Cl15.grow {w W W' : World} {ob : Nat} {DV FV : Value} {data : List Int} {fs : List FunV} {Cs : List Value} (h : Cl15 w W ob DV FV data fs Cs) (hb : Below W.heap.size W W') : Cl15 w W' ob DV FV data fs Cs :=
  ⟨(hb.block _ (heap_lt h.box)).trans h.box, (hb.block _ (heap_lt h.res)).trans h.res, h.dat.but' (But.of_below (R := NoBlock) hb) (fun _ _ h => h), h.row.below hb (Nat.le_refl _), h.ob, h.bel.trans (hb.mono h.bel.size)⟩
theorem Cl15.put {w W : World} {ob f g n cap : Nat} {DV C : Value} {data : List Int} {fs : List FunV} {Cs : List Value} (h : Cl15 w W ob DV (.slice (some ⟨g, 0, none⟩) fs.length cap) data fs Cs) (hl : Cs.length = fs.length) : Cl15 w (W.setCell ⟨g, f * 4 + 3, none⟩ C) ob DV (.slice (some ⟨g, 0, none⟩) fs.length cap) data fs (Cs.set f C) := by
  have hb := one_but15 W g (f * 4 + 3) C
  obtain ⟨hg, c, hc⟩ := typed14 h.row (g := g) rfl
  refine ⟨hb.heap h.box (fun e => ?_), hb.heap h.res (fun e => ?_), h.dat.but' hb (fun k hk e => ?_), ?_, h.ob, hb.below h.bel h.bel.size (fun k hk => by have e' : k = g := hk; omega)⟩
  · have e' : ob = g := e
    subst e'
    exact types14 hc h.box (by decide)
  · have e' : w.heap.size + 1 = g := e
    rw [← e'] at hc
    exact types14 hc h.res (by decide)
  · have e' : k = g := e
    subst e'
    obtain ⟨c', hc'⟩ := h.dat.blk hk
    exact types14 hc hc' (by decide)
  · rw [cellsF_set fs Cs f C hl]
    exact h.row.setAt15 C
/-- A module that was cloned. -/
def ClDone (w : World) (data : List Int) (fs : List FunV) (e : Ending) (w' : World) : Prop :=
  ∃ D' F' Cs, e = .returned (.agg #[D', F']) ∧ OwnB w.heap.size w' D' data ∧ OwnF 112 0 w' F' fs Cs ∧ (∀ g, F'.ownBlock = some g → w.heap.size ≤ g) ∧ Below w.heap.size w w'
set_option maxRecDepth 100000 in
set_option maxHeartbeats 8000000 in
theorem cloned15 (D F : Value) (data : List Int) (fs : List FunV) (w : World) (hD : IsBytes w w.heap.size D data) (hF : IsFuns w w.heap.size F fs) (hl : data.length ≤ 1000000) (hfl : fs.length ≤ 1000000) (hcl : ∀ f ∈ fs, f.code.length ≤ 1000000 ∧ ∀ y ∈ f.code, y.args.length ≤ 1000000) :
    Calls Tryz.prog 57 #[.agg #[D, F]] w (ClDone w data fs) := by
  obtain ⟨Cs0, hC0, hC1, hC2⟩ := fun_row15 hF
  obtain ⟨DA, dc, rfl⟩ := hD.len
  obtain ⟨FA, fc, rfl⟩ := hF.len
  obtain ⟨W0, hW0⟩ : ∃ W0, W0 = (w.alloc (.cells #[.slice DA data.length dc, .slice FA fs.length fc] 25)).alloc (.cells #[.slice none 0 0, .slice none 0 0] 25) := ⟨_, rfl⟩
  have HW := Lib.hid hW0
  obtain ⟨hB, hx, hy⟩ := two_alloc14 w #[.slice DA data.length dc, .slice FA fs.length fc] #[.slice none 0 0, .slice none 0 0] 25 25
  rw [← hW0] at hB hx hy
  have HB := Lib.hid hB
  have HX := Lib.hid hx
  have HY := Lib.hid hy
  have HCB := Lib.hid (fun W (hb : Below w.heap.size w W) => cloneB14 _ data W (hD.grow hb) (by omega))
  have HCF := Lib.hid (fun W (hb : Below w.heap.size w W) => cloneF15 _ fs.length (cellsF fs Cs0) W (hC2.grow hb) (cellsF_length fs Cs0 hC0) (cellsF_one15 fs Cs0 hC0 (fun i hi => by obtain ⟨a, c, h⟩ := (hC1 i hi).len; rw [h]; rfl)) (fun _ _ => trivial) (by omega))
  obtain ⟨n, hn⟩ : ∃ n, n = fs.length := ⟨_, rfl⟩
  have HN := Lib.hid hn
  obtain ⟨x0, x1⟩ := cells2_14 hx
  have HLT : Hid (w.heap.size + 2 = W0.heap.size) := Lib.hid (by rw [hW0]; simp)
  have HC1 := Lib.hid hC1
  have HCC := Lib.hid hcl
  have HFB := Lib.hid hF.2.1
  have HC0 := Lib.hid hC0
  obtain ⟨Wd, hWd⟩ : ∃ Wd, Wd = W0.drew := ⟨_, rfl⟩
  have HBd : Hid (Below w.heap.size w Wd) := Lib.hid (by rw [hWd]; exact hB.trans ((Below.refl _ W0).drew.mono hB.size))
  have HYd : Hid (Wd.heap[w.heap.size + 1]? = some (.cells #[.slice none 0 0, .slice none 0 0] 25 (0, 0))) := Lib.hid (by rw [hWd]; exact hy)
  have HXd : Hid (Wd.heap[w.heap.size]? = some (.cells #[.slice DA data.length dc, .slice FA fs.length fc] 25 (0, 0))) := Lib.hid (by rw [hWd]; exact hx)
  have HDB := Lib.hid hD.1
  have HDL := Lib.hid hl
  have HSZ : Hid (Wd.heap.size = w.heap.size + 2) := Lib.hid (by rw [hWd, hW0]; simp)
  have HWD := Lib.hid hWd
  have HBa : Hid (Below w.heap.size w ((W0.alloc (.cells #[.slice none 0 0, .slice none 0 0] 25)).drew) ∧ Below Wd.heap.size Wd ((W0.alloc (.cells #[.slice none 0 0, .slice none 0 0] 25)).drew)) := Lib.hid (by
    have h1 := (below_one14 W0 (.cells #[.slice none 0 0, .slice none 0 0] 25)).trans ((Below.refl _ (W0.alloc (.cells #[.slice none 0 0, .slice none 0 0] 25))).drew.mono (below_one14 W0 (.cells #[.slice none 0 0, .slice none 0 0] 25)).size)
    refine ⟨hB.trans (h1.mono hB.size), ?_⟩
    rw [hWd]
    exact ⟨h1.os, h1.tape, h1.output, h1.size, h1.block⟩)
  have KC : Hid (∀ W, Below Wd.heap.size Wd W → W.cell? ⟨w.heap.size, 0, none⟩ = some (.slice DA data.length dc) ∧ W.cell? ⟨w.heap.size, 1, none⟩ = some (.slice FA fs.length fc) ∧ W.heap[w.heap.size + 1]? = some (.cells #[.slice none 0 0, .slice none 0 0] 25 (0, 0))) := Lib.hid (fun W hb => by
    have h1 := (hb.block _ (heap_lt HXd.out)).trans HXd.out
    exact ⟨(cells2_14 h1).1, (cells2_14 h1).2, (hb.block _ (heap_lt HYd.out)).trans HYd.out⟩)
  have hne : w.heap.size ≠ Wd.heap.size := by have := HSZ.out; omega
  clear hC0 hC1 hC2 hB hx hy hW0 hD hF hl hcl x0 x1 hWd hn
  go_enter Tryz.func57, Tryz.ntmps57
  go_upto_region 1 with fail
  rw [← HW.out]
  obtain ⟨x0, x1⟩ := cells2_14 HX.out
  go_cut [3] from 3 to 50 (fun s3 wx => ∃ ob DV FV, s3 = .pointer (some ⟨ob, 0, none⟩) ∧ Hid (Cl15 w wx ob DV FV data fs Cs0))
  case first =>
   go_region_held3 (fun W => W.cell? ⟨w.heap.size, 0, none⟩ = some (.slice DA data.length dc) ∧ W.cell? ⟨w.heap.size, 1, none⟩ = some (.slice FA fs.length fc))
    (first | with_reducible exact K2.out | with_reducible exact K1.out | (rw [← HWD.out]; exact ⟨(KC.out _ (Below.refl _ _)).1, (KC.out _ (Below.refl _ _)).2.1⟩) | go_keep)
    (first
      | (go_at_call 58; (rw [← HWD.out]; with_reducible refine (HCB.out _ HBd.out).mono ?_); rintro e w1 ⟨v1, rfl, ho, hb⟩; have O1 := Lib.hid (OwnB.of_owns (ho.base HBd.out.size) HDB.out (by have := HDL.out; omega)); obtain ⟨vA, va, hve⟩ := O1.out.len; subst hve; have B1 := Lib.hid hb; have C1 := Lib.hid (HBd.out.trans (hb.mono HBd.out.size)); have K1 := Lib.hid (KC.out _ hb); obtain ⟨x2, x3, x4⟩ := KC.out _ hb; have K1 : Hid (w1.cell? ⟨w.heap.size, 0, none⟩ = some (.slice DA data.length dc) ∧ w1.cell? ⟨w.heap.size, 1, none⟩ = some (.slice FA fs.length fc)) := Lib.hid ⟨x2, x3⟩; clear ho hb)
      | (go_at_call 58; (with_reducible refine (HCB.out ((W0.alloc (.cells #[.slice none 0 0, .slice none 0 0] 25)).drew) HBa.out.1).mono ?_); rintro e w1 ⟨v1, rfl, ho, hb⟩; have O1 := Lib.hid (OwnB.of_owns (ho.base HBa.out.1.size) HDB.out (by have := HDL.out; omega)); obtain ⟨vA, va, hve⟩ := O1.out.len; subst hve; have hb' := HBa.out.2.trans (hb.mono HBa.out.2.size); have B1 := Lib.hid hb'; have C1 := Lib.hid (HBd.out.trans (hb'.mono HBd.out.size)); obtain ⟨x2, x3, x4⟩ := KC.out _ hb'; have K1 : Hid (w1.cell? ⟨w.heap.size, 0, none⟩ = some (.slice DA data.length dc) ∧ w1.cell? ⟨w.heap.size, 1, none⟩ = some (.slice FA fs.length fc)) := Lib.hid ⟨x2, x3⟩; have QB1 : Hid (w1.heap[W0.heap.size]? = some (.cells #[.slice none 0 0, .slice none 0 0] 25 (0, 0))) := Lib.hid ((hb.block _ (heap_lt (show ((W0.alloc (.cells #[.slice none 0 0, .slice none 0 0] 25)).drew).heap[W0.heap.size]? = _ from heap_alloc_new W0 (.cells #[.slice none 0 0, .slice none 0 0] 25)))).trans (show ((W0.alloc (.cells #[.slice none 0 0, .slice none 0 0] 25)).drew).heap[W0.heap.size]? = _ from heap_alloc_new W0 (.cells #[.slice none 0 0, .slice none 0 0] 25))); clear ho hb hb')
      | (go_at_call 119; (have hqb := QB1.out; clear hqb; with_reducible refine (HCF.out _ C1.out).mono ?_); rintro e w2 ⟨v2, rfl, ho, hb⟩; have O2 := Lib.hid (ho.base C1.out.size); obtain ⟨vB, vb, hve⟩ := owns_len14 ho; subst hve; have B2 := Lib.hid hb; have C2 := Lib.hid (C1.out.trans (hb.mono C1.out.size)); have B02 := Lib.hid (B1.out.trans (hb.mono B1.out.size)); obtain ⟨x5, x6, x7⟩ := KC.out _ B02.out; have K2 : Hid (w2.cell? ⟨w.heap.size, 0, none⟩ = some (.slice DA data.length dc) ∧ w2.cell? ⟨w.heap.size, 1, none⟩ = some (.slice FA fs.length fc)) := Lib.hid ⟨x5, x6⟩; have Q2 := Lib.hid ((hb.block _ (heap_lt QB1.out)).trans QB1.out); obtain ⟨y0, y1⟩ := cells2_14 Q2.out; have f0 := frozen_of_row w2 W0.heap.size 0 _ _ Q2.out; have f1 := frozen_of_row w2 W0.heap.size 1 _ _ Q2.out; have hnw : W0.heap.size ≠ w.heap.size := by { have h2 := HLT.out; omega }; clear ho hb)
      | (go_at_call 119; (with_reducible refine (HCF.out _ C1.out).mono ?_); rintro e w2 ⟨v2, rfl, ho, hb⟩; have O2 := Lib.hid (ho.base C1.out.size); obtain ⟨vB, vb, hve⟩ := owns_len14 ho; subst hve; have B2 := Lib.hid hb; have C2 := Lib.hid (C1.out.trans (hb.mono C1.out.size)); have B02 := Lib.hid (B1.out.trans (hb.mono B1.out.size)); obtain ⟨x5, x6, x7⟩ := KC.out _ B02.out; have K2 : Hid (w2.cell? ⟨w.heap.size, 0, none⟩ = some (.slice DA data.length dc) ∧ w2.cell? ⟨w.heap.size, 1, none⟩ = some (.slice FA fs.length fc)) := Lib.hid ⟨x5, x6⟩; clear ho hb)
      | (go_at_call 119; (with_reducible refine (HCF.out (w1.alloc (.cells #[.slice none 0 0, .slice none 0 0] 25)) (C1.out.trans ((below_one14 w1 _).mono C1.out.size))).mono ?_); rintro e w2 ⟨v2, rfl, ho, hb⟩; have O2 := Lib.hid (ho.base (Nat.le_trans C1.out.size (below_one14 w1 (.cells #[.slice none 0 0, .slice none 0 0] 25)).size)); obtain ⟨vB, vb, hve⟩ := owns_len14 ho; subst hve; have hb' := (below_one14 w1 (.cells #[.slice none 0 0, .slice none 0 0] 25)).trans (hb.mono (below_one14 w1 _).size); have B2 := Lib.hid hb'; have C2 := Lib.hid (C1.out.trans (hb'.mono C1.out.size)); have B02 := Lib.hid (B1.out.trans (hb'.mono B1.out.size)); obtain ⟨x5, x6, x7⟩ := KC.out _ B02.out; have K2 : Hid (w2.cell? ⟨w.heap.size, 0, none⟩ = some (.slice DA data.length dc) ∧ w2.cell? ⟨w.heap.size, 1, none⟩ = some (.slice FA fs.length fc)) := Lib.hid ⟨x5, x6⟩; have Q2 := Lib.hid ((hb.block _ (heap_lt (heap_alloc_new w1 (.cells #[.slice none 0 0, .slice none 0 0] 25)))).trans (heap_alloc_new w1 (.cells #[.slice none 0 0, .slice none 0 0] 25))); obtain ⟨y0, y1⟩ := cells2_14 Q2.out; have f0 := frozen_of_row w2 w1.heap.size 0 _ _ Q2.out; have f1 := frozen_of_row w2 w1.heap.size 1 _ _ Q2.out; have hnw : w1.heap.size ≠ w.heap.size := by { have h1 := B1.out.size; have h2 := HSZ.out; omega }; clear ho hb hb'))
   all_goals
    have D2 := O1.out.but' (R := NoBlock) (But.of_below B2.out) (fun _ _ h => h)
    have hsz := HLT.out
    have hs1 := B1.out.size
    have hs0 := HSZ.out
    go_wp2
    go_meet
    case rel => first
      | exact ⟨_, _, _, rfl, Lib.hid (cl_new15 x7 D2 O2.out C2.out)⟩
      | exact ⟨_, _, _, rfl, Lib.hid (cl_end15 Q2.out x7 D2 O2.out (by omega) C2.out)⟩
  case rest =>
    obtain ⟨ob, DV, FV, rfl, HCL⟩ := hcut
    clear x0 x1 hne HSZ HWD HBd HYd HXd KC HBa HLT HX HY HCB HCF HB HW
    obtain ⟨vB, vb, hve⟩ := owns_len14 HCL.out.row
    obtain ⟨vA, va, hva⟩ := HCL.out.dat.len
    subst hve hva
    obtain ⟨z0, z1⟩ := cells2_14 HCL.out.box
    go_upto_region 3 with fail
    rw [← HN.out]
    clear z0 z1
    have HNN := Lib.hid hfl
    rw [← HN.out] at hfl
    go_loopw [4, 5, 6, 17] (fun _ _ _ v17 wr => ∃ (f : Nat) (Cs : List Value), v17 = .int .i64 f ∧ f ≤ n ∧ Hid (Cl15 w wr ob (.slice vA data.length va) (.slice vB fs.length vb) data fs Cs) ∧ Hid (Cs.length = fs.length ∧ (∀ i, i < f → ∃ Xs, OwnC 0 wr (Cs.getD i (.slice none 0 0)) (fs.getD i .zero).code Xs) ∧ (∀ i, f ≤ i → Cs.getD i (.slice none 0 0) = Cs0.getD i (.slice none 0 0)))) (fun _ _ _ v17 _ => n - (intOf v17).toNat)
    case atStart => exact ⟨0, Cs0, rfl, by omega, HCL, Lib.hid ⟨HC0.out, fun i hi => absurd hi (by omega), fun i _ => rfl⟩⟩
    case round =>
      obtain ⟨f, Cs, rfl, hf, HC, HQ⟩ := hrel
      clear HCL
      by_cases hlt : f < n
      · have hff : f < fs.length := by rw [← HN.out]; exact hlt
        obtain ⟨gF, hgF, kc⟩ : ∃ gF, vB = some ⟨gF, 0, none⟩ ∧ wr.cell? ⟨gF, f * 4 + 3, none⟩ = some (Cs0.getD f (.slice none 0 0)) := by
          rcases HC.out.row.1.2 with ⟨h1, h2⟩ | ⟨g, cap, cur, h1, h2, h3, h4, h5, h6, h7⟩
          · omega
          · injection h1 with h1 _ _
            have h8 := HC.out.row.1.cells (g := g) (by rw [h1]; rfl) (f * 4 + 3) _ (cellsF_at fs Cs HQ.out.1 hff (by decide))
            have e : (⟨g, 0, none⟩ : Addr).add (f * 4 + 3) = ⟨g, f * 4 + 3, none⟩ := by unfold Addr.add; split <;> simp_all
            rw [e] at h8
            exact ⟨g, h1, by rw [h8, ← HQ.out.2.2 f (Nat.le_refl _)]; rfl⟩
        subst hgF
        have hcode := HC1.out f hff
        have hcd := HCC.out (fs.getD f .zero) (by rw [List.getD_eq_getElem?_getD, List.getElem?_eq_getElem hff]; exact List.getElem_mem _)
        obtain ⟨cd, hcdd⟩ : ∃ cd, cd = (fs.getD f .zero).code := ⟨_, rfl⟩
        have HCD := Lib.hid hcdd
        rw [← hcdd] at hcode hcd
        obtain ⟨cA, cc, hce⟩ := hcode.len
        rw [hce] at kc
        have hcode2 := hcode.below HC.out.bel (Nat.le_refl _) (Nat.le_refl _)
        have hcode3 := hcode2.more HC.out.bel.size
        rw [hce] at hcode3
        obtain ⟨Xs0, hX0, hX1, hX2⟩ := code_row15 hcode3
        have HCLC := Lib.hid (cloneC15 _ cd.length (cellsC cd Xs0) wr hX2 (cellsC_length cd Xs0 hX0) (cellsC_one15 cd Xs0 hX0 (fun i hi => by obtain ⟨a, c, h⟩ := (hX1 i hi).len; rw [h]; rfl)) (fun _ _ => trivial) (by omega))
        have HX0 := Lib.hid hX0
        have HX1 := Lib.hid hX1
        have HCY := Lib.hid hcd
        obtain ⟨Wo, hWo⟩ : ∃ Wo, Wo = wr := ⟨_, rfl⟩
        obtain ⟨z0, z1⟩ := cells2_14 HC.out.box
        have hinn : ∀ y ∈ cd, InsB y := hcode.2.1
        have HINN := Lib.hid hinn
        obtain ⟨m, hm⟩ : ∃ m, m = cd.length := ⟨_, rfl⟩
        have HM := Lib.hid hm
        rw [← hm] at kc HCLC
        have hml : m ≤ 1000000 := by rw [hm]; exact hcd.1
        have i0 : (0 : Int) ≤ (f : Int) := by omega
        have i1 : (f : Int) < (fs.length : Int) := by omega
        have HFF := Lib.hid hlt
        have HLF := Lib.hid hff
        clear hcode hcd hcdd hce hcode2 hcode3 hX0 hX1 hX2 hinn hm hff hlt
        go_upto_region 7 with (go_at_call 120; (with_reducible refine HCLC.out.mono ?_); rintro e w2 ⟨CV, rfl, ho, hb⟩; obtain ⟨gA, gc, hge⟩ := owns_len14 ho; subst hge; have O2 := Lib.hid ho; have B2 := Lib.hid hb; clear ho hb)
        clear z0 z1 kc
        rw [← hWo] at O2 B2 HX1 HC HQ
        have HO2 := Lib.hid O2.out
        go_loopw [6, 29] (fun _ v29 wr => ∃ (i : Nat) (Xs : List Value), v29 = .int .i64 i ∧ i ≤ m ∧ Hid (Owns wr Wo.heap.size 115 6 AnyCell (.slice gA m gc) m (cellsC cd Xs) ∧ Xs.length = cd.length ∧ Below Wo.heap.size Wo wr) ∧ Hid ((∀ j, j < i → OutN 0 wr (Xs.getD j (.slice none 0 0)) (cd.getD j .zero).args) ∧ (∀ j, i ≤ j → Xs.getD j (.slice none 0 0) = Xs0.getD j (.slice none 0 0)))) (fun _ v29 _ => m - (intOf v29).toNat)
        case atStart => exact ⟨0, Xs0, rfl, by omega, Lib.hid ⟨O2.out, HX0.out, B2.out⟩, Lib.hid ⟨fun j hj => absurd hj (by omega), fun j _ => rfl⟩⟩
        case round =>
          obtain ⟨i, Xs, rfl, hi, HO, HR⟩ := hrel
          clear O2 B2 HO2
          by_cases hlt : i < m
          · have hic : i < cd.length := by rw [← HM.out]; exact hlt
            obtain ⟨gC, hgC, kx⟩ : ∃ gC, gA = some ⟨gC, 0, none⟩ ∧ wr.cell? ⟨gC, i * 6 + 5, none⟩ = some (Xs0.getD i (.slice none 0 0)) := by
              rcases HO.out.1.1.2 with ⟨h1, h2⟩ | ⟨g, cap, cur, h1, h2, h3, h4, h5, h6, h7⟩
              · omega
              · injection h1 with h1 _ _
                have h8 := HO.out.1.1.cells (g := g) (by rw [h1]; rfl) (i * 6 + 5) _ (cellsC_at cd Xs HO.out.2.1 hic (by decide))
                have e : (⟨g, 0, none⟩ : Addr).add (i * 6 + 5) = ⟨g, i * 6 + 5, none⟩ := by unfold Addr.add; split <;> simp_all
                rw [e] at h8
                exact ⟨g, h1, by rw [h8, ← HR.out.2 i (Nat.le_refl _)]; rfl⟩
            subst hgC
            have hnm := HX1.out i hic
            have hna := HCY.out.2 (cd.getD i .zero) (by rw [List.getD_eq_getElem?_getD, List.getElem?_eq_getElem hic]; exact List.getElem_mem _)
            obtain ⟨ar, har⟩ : ∃ ar, ar = (cd.getD i .zero).args := ⟨_, rfl⟩
            have HAR := Lib.hid har
            rw [← har] at hnm hna
            obtain ⟨xA, xc, hxe⟩ := hnm.len
            rw [hxe] at kx hnm
            have hnm2 := (hnm.below HO.out.2.2 (Nat.le_refl _)).more HO.out.2.2.size
            have HCI := Lib.hid (cloneI15 _ ar.length (ar.map (Value.int .i64)) wr (nums_row15 hnm2) (by simp) (ints_oneCell _ _) (num_cells .i64 ar) (by omega))
            have HIM := Lib.hid hlt
            have j0 : (0 : Int) ≤ (i : Int) := by omega
            have j1 : (i : Int) < (m : Int) := by omega
            obtain ⟨cur0, hcur⟩ : ∃ cur, wr.heap[gC]? = some (.cells cur 115 (0, 0)) := (typed14 HO.out.1 (g := gC) rfl).2
            have HCU := Lib.hid hcur
            obtain ⟨al, hal⟩ : ∃ al, al = ar.length := ⟨_, rfl⟩
            have HAL := Lib.hid hal
            rw [← hal] at HCI kx
            clear hnm hnm2 hna har hxe hic hcur hal
            go_wp2_with (go_at_call 121; (with_reducible refine HCI.out.mono ?_); rintro e w3 ⟨Y, rfl, ho, hb⟩; obtain ⟨yA, yc, hye⟩ := owns_len14 ho; subst hye; have OY := Lib.hid ho; have BY := Lib.hid hb; have hx3 := (hb.block _ (heap_lt HCU.out)).trans HCU.out; have HX3 := Lib.hid hx3; have hO3 := HO.out.1.below hb (Nat.le_refl _); have HO3 := Lib.hid hO3; have ky : ∃ u, w3.cell? ⟨gC, i * 6 + 5, none⟩ = some u := ⟨_, (hb.cell (p := ⟨gC, i * 6 + 5, none⟩) (heap_lt HCU.out)).trans kx⟩; obtain ⟨ku, hku⟩ := ky; have gz := frozen_of_row w3 gC (i * 6 + 5) _ _ hx3; clear ho hb hx3 hO3)
            have hset := HO3.out.setAt15 (p := i * 6 + 5) (.slice yA al yc)
            rw [← cellsC_set cd Xs i _ HO.out.2.1] at hset
            have hbb := one_but15 w3 gC (i * 6 + 5) (.slice yA al yc)
            have hnb : ∀ (V : Value) (xs : List Int), OutN 0 w3 V xs → OutN 0 (w3.setCell ⟨gC, i * 6 + 5, none⟩ (.slice yA al yc)) V xs := fun V xs h => Owns.but h hbb (fun g hg e => by
              have e' : g = gC := e
              subst e'
              obtain ⟨_, c, hc⟩ := typed14 h hg
              exact types14 hc HX3.out (by decide))
            have HN1 : Hid (∀ j, j < i + 1 → OutN 0 (w3.setCell ⟨gC, i * 6 + 5, none⟩ (.slice yA al yc)) ((Xs.set i (.slice yA al yc)).getD j (.slice none 0 0)) (cd.getD j .zero).args) := Lib.hid (fun j hj => by
              by_cases hji : j = i
              · subst hji
                rw [List.getD_eq_getElem?_getD, List.getElem?_set_self (by rw [HO.out.2.1, ← HM.out]; exact HIM.out)]
                refine hnb _ _ ?_
                rw [← HAR.out]
                have h := OY.out.base (Nat.zero_le _)
                unfold OutN
                rw [← HAL.out]
                exact h
              · rw [List.getD_eq_getElem?_getD, List.getElem?_set_ne (fun e => hji e.symm), ← List.getD_eq_getElem?_getD]
                exact hnb _ _ (Owns.below (HR.out.1 j (by omega)) BY.out (Nat.le_refl _)))
            have HN2 : Hid (∀ j, i + 1 ≤ j → (Xs.set i (.slice yA al yc)).getD j (.slice none 0 0) = Xs0.getD j (.slice none 0 0)) := Lib.hid (fun j hj => by
              rw [List.getD_eq_getElem?_getD, List.getElem?_set_ne (by omega), ← List.getD_eq_getElem?_getD]
              exact HR.out.2 j (by omega))
            have HN3 : Hid (Owns (w3.setCell ⟨gC, i * 6 + 5, none⟩ (.slice yA al yc)) Wo.heap.size 115 6 AnyCell (.slice (some ⟨gC, 0, none⟩) m gc) m (cellsC cd (Xs.set i (.slice yA al yc))) ∧ (Xs.set i (.slice yA al yc)).length = cd.length ∧ Below Wo.heap.size Wo (w3.setCell ⟨gC, i * 6 + 5, none⟩ (.slice yA al yc))) := Lib.hid ⟨hset, by rw [List.length_set]; exact HO.out.2.1, hbb.below (HO.out.2.2.trans (BY.out.mono HO.out.2.2.size)) (Nat.le_trans HO.out.2.2.size BY.out.size) (fun k hk => by have e' : k = gC := hk; rw [e']; exact (HO.out.1.lt rfl).1)⟩
            clear hset hbb hnb
            go_roundw
            case rel => exact ⟨i + 1, _, by first | rfl | go_num, by have := HIM.out; omega, HN3, Lib.hid ⟨HN1.out, HN2.out⟩⟩
            case measure => have := HIM.out; simp [intOf]; omega
          · have him : m = i := by omega
            have hown : OwnC 0 wr (.slice gA m gc) cd Xs := ⟨by rw [← HM.out]; exact HO.out.1.base (Nat.zero_le _), HO.out.2.1, HINN.out, fun j hj => HR.out.1 j (by rw [← him, HM.out]; exact hj)⟩
            have HOW := Lib.hid hown
            have HBW := Lib.hid HO.out.2.2
            obtain ⟨cur0, hcur⟩ : ∃ cur, Wo.heap[gF]? = some (.cells cur 112 (0, 0)) := (typed14 HC.out.row (g := gF) rfl).2
            have hcur2 := (HBW.out.block _ (heap_lt hcur)).trans hcur
            have HCU := Lib.hid hcur2
            have hbx := (HBW.out.block _ (heap_lt HC.out.box)).trans HC.out.box
            have HBX := Lib.hid hbx
            obtain ⟨z0, z1⟩ := cells2_14 hbx
            have gz := frozen_of_row wr gF (f * 4 + 3) _ _ hcur2
            have kz : ∃ u, wr.cell? ⟨gF, f * 4 + 3, none⟩ = some u := by
              have h8 := HC.out.row.1.cells (g := gF) rfl (f * 4 + 3) _ (cellsF_at fs Cs HQ.out.1 HLF.out (by decide))
              have e : (⟨gF, 0, none⟩ : Addr).add (f * 4 + 3) = ⟨gF, f * 4 + 3, none⟩ := by unfold Addr.add; split <;> simp_all
              rw [e] at h8
              exact ⟨_, (HBW.out.cell (p := ⟨gF, f * 4 + 3, none⟩) (heap_lt hcur)).trans h8⟩
            obtain ⟨ku, hku⟩ := kz
            clear hcur hcur2 hbx hown him
            go_wp2
            have HC4 := Lib.hid ((HC.out.grow HBW.out).put (n := n) (f := f) (C := .slice gA m gc) HQ.out.1)
            have hb1 := one_but15 wr gF (f * 4 + 3) (.slice gA m gc)
            have HQ4 : Hid ((Cs.set f (.slice gA m gc)).length = fs.length ∧ (∀ i, i < f + 1 → ∃ Xs, OwnC 0 (wr.setCell ⟨gF, f * 4 + 3, none⟩ (.slice gA m gc)) ((Cs.set f (.slice gA m gc)).getD i (.slice none 0 0)) (fs.getD i .zero).code Xs) ∧ (∀ i, f + 1 ≤ i → (Cs.set f (.slice gA m gc)).getD i (.slice none 0 0) = Cs0.getD i (.slice none 0 0))) := Lib.hid (by
              refine ⟨by rw [List.length_set]; exact HQ.out.1, fun i hi => ?_, fun i hi => ?_⟩
              · by_cases hif : i = f
                · subst hif
                  rw [List.getD_eq_getElem?_getD, List.getElem?_set_self (by rw [HQ.out.1]; exact HLF.out)]
                  exact ⟨Xs, by rw [← HCD.out]; exact ownC_fun15 HOW.out hb1 HCU.out (by decide) (by decide)⟩
                · rw [List.getD_eq_getElem?_getD, List.getElem?_set_ne (fun e => hif e.symm), ← List.getD_eq_getElem?_getD]
                  obtain ⟨Ys, hY⟩ := HQ.out.2.1 i (by omega)
                  exact ⟨Ys, ownC_fun15 (hY.below HBW.out (Nat.le_refl _)) hb1 HCU.out (by decide) (by decide)⟩
              · rw [List.getD_eq_getElem?_getD, List.getElem?_set_ne (by omega), ← List.getD_eq_getElem?_getD]
                exact HQ.out.2.2 i (by omega))
            clear hb1
            go_roundw
            case rel => exact ⟨f + 1, _, by first | rfl | go_num, by have := HFF.out; omega, HC4, HQ4⟩
            case measure => have := HFF.out; simp [intOf]; omega
      · have hfn : n = f := by omega
        have HFN := Lib.hid hfn
        obtain ⟨z0, z1⟩ := cells2_14 HC.out.box
        obtain ⟨r0, r1⟩ := cells2_14 HC.out.res
        have g0 := frozen_of_row wr (w.heap.size + 1) 0 _ _ HC.out.res
        have g1 := frozen_of_row wr (w.heap.size + 1) 1 _ _ HC.out.res
        clear hfn
        go_wp2
        have hb2 := but_box15 (one_but15 wr (w.heap.size + 1) 0 (.slice vA data.length va)) 1 (.slice vB fs.length vb)
        have hx2 := heap_setCell_same _ (w.heap.size + 1) 1 _ _ (.slice vB fs.length vb) (heap_setCell_same wr (w.heap.size + 1) 0 _ _ (.slice vA data.length va) HC.out.res)
        obtain ⟨W5, hW5⟩ : ∃ W5, W5 = (wr.setCell ⟨w.heap.size + 1, 0, none⟩ (.slice vA data.length va)).setCell ⟨w.heap.size + 1, 1, none⟩ (.slice vB fs.length vb) := ⟨_, rfl⟩
        rw [← hW5] at hb2 hx2 ⊢
        have hx3 : W5.heap[w.heap.size + 1]? = some (.cells #[.slice vA data.length va, .slice vB fs.length vb] 25 (0, 0)) := hx2
        obtain ⟨m0, m1⟩ := cells2_14 hx3
        refine bodyPost_ret (v := .agg #[.slice vA data.length va, .slice vB fs.length vb]) (by simp [results, Tryz.results57, go_sem, m0, m1]) rfl ⟨_, _, Cs, rfl, ?_, ?_, ?_, ?_⟩
        · exact HC.out.dat.but' hb2 (fun k hk e => by
            have e' : k = w.heap.size + 1 := e
            obtain ⟨c', hc'⟩ := HC.out.dat.blk hk
            rw [e'] at hc'
            exact types14 hc' HC.out.res (by decide))
        · refine ⟨(HC.out.row.base (Nat.zero_le _)).but hb2 (fun k hk e => ?_), HQ.out.1, HFB.out, fun i hi => .inr ?_⟩
          · have e' : k = w.heap.size + 1 := e
            obtain ⟨_, c', hc'⟩ := typed14 HC.out.row hk
            rw [e'] at hc'
            exact types14 hc' HC.out.res (by decide)
          · obtain ⟨Ys, hY⟩ := HQ.out.2.1 i (by rw [← HFN.out, HN.out]; exact hi)
            exact ⟨0, Ys, ownC_fun15 hY hb2 HC.out.res (by decide) (by decide), (HCC.out (fs.getD i .zero) (by rw [List.getD_eq_getElem?_getD, List.getElem?_eq_getElem hi]; exact List.getElem_mem _)).1⟩
        · intro g hg
          exact (HC.out.row.lt hg).1
        · exact hb2.below HC.out.bel HC.out.bel.size (fun k hk => by have e' : k = w.heap.size + 1 := hk; omega)
end Go.Proofs.YtkfdgpgildanbaaGreat
