import Derived.Test.YtkfdgpgildanbaaGreatS49
import Derived.Deep.RegionHeld3
namespace Go.Proofs.YtkfdgpgildanbaaGreat
open Go.RowKit Go.Shelf
set_option linter.unusedVariables false
set_option linter.unusedSimpArgs false
theorem cellsL_one15 (K : IntKind) (l : List LinkV) : ∀ u ∈ cellsL K l, u.oneCell' = true := by
  intro u hu
  simp only [cellsL, List.mem_flatMap] at hu
  obtain ⟨x, _, hx⟩ := hu
  simp [linkC] at hx
  rcases hx with rfl | rfl | rfl | rfl <;> rfl
theorem cellsL_len15 (K : IntKind) (l : List LinkV) : (cellsL K l).length = l.length * 4 := by
  induction l with
  | nil => rfl
  | cons x l ih => unfold cellsL at ih ⊢; simp [linkC, ih]; omega
structure CpSp (W1 W' : World) (cb : Nat) (p' q : Loc) (S : SpV) : Prop where
  laid : LaidAt W' cb q S
  below : Below W1.heap.size W1 W'
  foot : ∀ k, foot15 cb q k → W1.heap.size ≤ k
  ro : ∀ k, ro15 q k → (p'.D.ownBlock = some k ∨ p'.FV.ownBlock = some k ∨ p'.IN.ownBlock = some k) ∨ W1.heap.size ≤ k
def CopyDone15 (W : World) (sb : Nat) (p : Loc) (S : SpV) (e : Ending) (W' : World) : Prop :=
  ∃ W1 p' cb q, e = .returned (.pointer (some ⟨cb, 0, none⟩)) ∧ Vd15 W W1 sb p p' S S ∧ CpSp W1 W' cb p' q S
def boxC15 (c0 c1 c2 fu D FV IN LV : Value) (mb tb : Nat) (S : SpV) : Array Value :=
  #[c0, c1, c2, .int .u32 0, D, FV, .int .i64 S.size, IN, .int .u64 (floV S.m), .pointer (some ⟨mb, 0, none⟩), .pointer (some ⟨tb, 0, none⟩), fu, .int .i64 S.f, .int .u64 S.at_, .int .i64 S.pc, LV, .int .i64 S.ek, .int .i64 S.ec]
theorem cp_end15 {W1 w4 W : World} {sb cb mb bb c tb : Nat} {p' : Loc} {X V LV : Value} {S : SpV} (hl : LaidAt W1 sb p' S) (hb : Below W1.heap.size W1 w4)
    (hM : MemAt w4 mb bb c S.mem) (hm1 : W1.heap.size ≤ mb) (hm2 : W1.heap.size ≤ bb) (hT : Tape14 W1.heap.size w4 tb X V S.left S.done) (ht1 : W1.heap.size ≤ tb)
    (hX : ∀ g, X.ownBlock = some g → g ≠ bb) (hO : Owns w4 W1.heap.size 136 4 AnyCell LV S.links.length (cellsL .i64 S.links)) (hcb : cb = w4.heap.size)
    (hbW : Below w4.heap.size w4 W) (hx : W.heap[cb]? = some (.cells (boxC15 (.pointer (some ⟨cb, 0, none⟩)) (.int .u32 1) (.int .i32 0) (.int .i64 S.fuel) p'.D p'.FV p'.IN LV mb tb S) 80 (0, 0))) :
    ∃ q, CpSp W1 W cb p' q S := by
  have hs := hb.size
  have hb2 : Below W1.heap.size W1 W := hb.trans (hbW.mono hb.size)
  have hl2 : LaidAt W sb p' S := hl.but (But.of_below (R := NoBlock) hb2) (fun _ _ h => h) (fun _ h => h.elim)
  have hM2 := hM.below hbW
  have hT2 : Tape14 W1.heap.size W tb X V S.left S.done := hT.grow hbW
  have hO2 : Owns W W1.heap.size 136 4 AnyCell LV S.links.length (cellsL .i64 S.links) := hO.below hbW (Nat.le_refl _)
  have hlt := hM.lt
  have htl := heap_lt hT.box
  have hfoot : ∀ k, foot15 cb ⟨mb, bb, c, tb, 0, 0, X, V, LV, p'.D, p'.FV, p'.IN, p'.Cs⟩ k → W1.heap.size ≤ k ∧ (k = bb ∨ ∀ c, W.heap[k]? ≠ some (.cells c 5 (0, 0))) := by
    rintro k (rfl | rfl | rfl | rfl | e | e)
    · exact ⟨by omega, .inr (fun c hc => types14 hc hx (by decide))⟩
    · exact ⟨hm1, .inr (fun c hc => types14 hc hM2.head (by decide))⟩
    · exact ⟨hm2, .inl rfl⟩
    · exact ⟨ht1, .inr (fun c hc => types14 hc hT2.box (by decide))⟩
    · obtain ⟨h1, c', hc'⟩ := typed14 hT2.done e
      exact ⟨h1, .inr (fun c hc => types14 hc hc' (by decide))⟩
    · obtain ⟨h1, c', hc'⟩ := typed14 hO2 e
      exact ⟨h1, .inr (fun c hc => types14 hc hc' (by decide))⟩
  refine ⟨⟨mb, bb, c, tb, 0, 0, X, V, LV, p'.D, p'.FV, p'.IN, p'.Cs⟩, ⟨hx, hM2, tape_low15 hT2 (Nat.zero_le _), hO2.base (Nat.zero_le _), hl2.dat, hl2.inp, hl2.funs, hl2.pre, hl2.ok, ?_⟩, hb2, fun k hk => (hfoot k hk).1, ?_⟩
  · intro k hk hr
    obtain ⟨h1, h2⟩ := hfoot k hk
    rcases hr with e | e | e | e
    · obtain ⟨c', hc'⟩ := hT2.left.blk e
      rcases h2 with h2 | h2
      · exact hX k e h2
      · exact h2 c' hc'
    · have := hl.ro_lt (.inr (.inl e)); omega
    · have := hl.ro_lt (.inr (.inr (.inl e))); omega
    · have := hl.ro_lt (.inr (.inr (.inr e))); omega
  · rintro k (e | e | e | e)
    · exact .inr (hT2.left.low e)
    · exact .inl (.inl e)
    · exact .inl (.inr (.inl e))
    · exact .inl (.inr (.inr e))
theorem copyNop15 (w : World) : Calls Tryz.prog 74 #[] w fun e W => e = .returned (.tuple #[]) ∧ w = W := by
  go_enter Tryz.func74, Tryz.ntmps74
  go_wp2
  go_end0
  exact ⟨rfl, rfl⟩
set_option maxRecDepth 100000 in
set_option maxHeartbeats 16000000 in
theorem copy15 {W : World} {sb : Nat} {p : Loc} {S : SpV} (h : SpAt W sb p S) :
    Calls Tryz.prog 20 #[.pointer (some ⟨sb, 0, none⟩)] W (CopyDone15 W sb p S) := by
  have HV := Lib.hid (valid15 h)
  have hnot := not15
  clear h
  go_enter Tryz.func20, Tryz.ntmps20
  go_upto_region 3 with (go_at_call 68; (with_reducible refine HV.out.mono ?_); rintro e w1 ⟨rfl, p', hv⟩; have HD := Lib.hid hv; clear hv)
  have hl := HD.out.laid
  obtain ⟨DA, dc, hDe⟩ := hl.dat.len
  obtain ⟨IA, ic, hIe⟩ := hl.inp.len
  obtain ⟨LA, lc, hLe⟩ := owns_len14 hl.links
  obtain ⟨FA, fc, hFe⟩ := owns_len14 hl.funs.own
  have hx := hl.box
  unfold box15 at hx
  rw [hDe, hIe, hLe, hFe] at hx
  have HX := Lib.hid hx
  have hok := hl.ok
  have HM := Lib.hid (fun (W : World) (hb : Below w1.heap.size w1 W) => memCopy_yes (hl.mem.below hb))
  have HT := Lib.hid (fun (W : World) (hb : Below w1.heap.size w1 W) => copy14 (hl.tape.grow hb))
  have HL := Lib.hid (fun (W : World) (hb : Below w1.heap.size w1 W) => cloneL15 p'.LV S.links.length (cellsL .i64 S.links) W (RowIn.of_owns (hl.links.below hb (Nat.le_refl _))) (cellsL_len15 _ _) (cellsL_one15 _ _) (fun _ _ => trivial) (by have := hok.deep; omega))
  rw [hLe] at HL
  have HEND := Lib.hid (fun (w4 W : World) (cb mb bb c tb : Nat) (X V LV : Value) hb hM hm1 hm2 hT ht1 hX hO hcb hbW hx => cp_end15 (w4 := w4) (W := W) (cb := cb) (mb := mb) (bb := bb) (c := c) (tb := tb) (X := X) (V := V) (LV := LV) hl hb hM hm1 hm2 hT ht1 hX hO hcb hbW hx)
  have HFV := Lib.hid (And.intro hDe (And.intro hIe hFe))
  obtain ⟨⟨d0, d1, d2, d3, d4, d5⟩, ⟨d6, d7, d8, d9, d10, d11⟩, d12, d13, d14, d15, d16, d17⟩ := cells18 hx
  have HF := Lib.hid (fuel15 ⟨sb, 11, none⟩ S.fuel)
  have HD1 := Lib.hid (show Below w1.heap.size w1 w1.drew from (Below.refl _ w1).drew)
  have HG : Hid (∀ W, Below w1.heap.size w1 W → W.cell? ⟨sb, 4, none⟩ = some (.slice DA S.m.data.length dc) ∧ W.cell? ⟨sb, 5, none⟩ = some (.slice FA S.m.funcs.length fc) ∧ W.cell? ⟨sb, 6, none⟩ = some (.int .i64 S.size) ∧ W.cell? ⟨sb, 7, none⟩ = some (.slice IA S.inp.length ic) ∧ W.cell? ⟨sb, 8, none⟩ = some (.int .u64 (floV S.m)) ∧ W.cell? ⟨sb, 9, none⟩ = some (.pointer (some ⟨p'.mb, 0, none⟩)) ∧ W.cell? ⟨sb, 10, none⟩ = some (.pointer (some ⟨p'.tb, 0, none⟩)) ∧ W.cell? ⟨sb, 12, none⟩ = some (.int .i64 S.f) ∧ W.cell? ⟨sb, 13, none⟩ = some (.int .u64 S.at_) ∧ W.cell? ⟨sb, 14, none⟩ = some (.int .i64 S.pc) ∧ W.cell? ⟨sb, 15, none⟩ = some (.slice LA S.links.length lc) ∧ W.cell? ⟨sb, 16, none⟩ = some (.int .i64 S.ek) ∧ W.cell? ⟨sb, 17, none⟩ = some (.int .i64 S.ec)) := Lib.hid (fun W hb => by
    obtain ⟨⟨d0, d1, d2, d3, d4, d5⟩, ⟨d6, d7, d8, d9, d10, d11⟩, d12, d13, d14, d15, d16, d17⟩ := cells18 ((hb.block _ (heap_lt HX.out)).trans HX.out)
    exact ⟨d4, d5, d6, d7, d8, d9, d10, d12, d13, d14, d15, d16, d17⟩)
  have HXW := Lib.hid (fun (W : World) (hb : Below w1.heap.size w1 W) => (hb.block _ (heap_lt HX.out)).trans HX.out)
  clear hl hok hx hDe hIe hLe hFe
  go_region_held3 (fun W => W.cell? ⟨sb, 4, none⟩ = some (.slice DA S.m.data.length dc) ∧ W.cell? ⟨sb, 5, none⟩ = some (.slice FA S.m.funcs.length fc) ∧ W.cell? ⟨sb, 6, none⟩ = some (.int .i64 S.size) ∧ W.cell? ⟨sb, 7, none⟩ = some (.slice IA S.inp.length ic) ∧ W.cell? ⟨sb, 8, none⟩ = some (.int .u64 (floV S.m)) ∧ W.cell? ⟨sb, 9, none⟩ = some (.pointer (some ⟨p'.mb, 0, none⟩)) ∧ W.cell? ⟨sb, 10, none⟩ = some (.pointer (some ⟨p'.tb, 0, none⟩)) ∧ W.cell? ⟨sb, 12, none⟩ = some (.int .i64 S.f) ∧ W.cell? ⟨sb, 13, none⟩ = some (.int .u64 S.at_) ∧ W.cell? ⟨sb, 14, none⟩ = some (.int .i64 S.pc) ∧ W.cell? ⟨sb, 15, none⟩ = some (.slice LA S.links.length lc) ∧ W.cell? ⟨sb, 16, none⟩ = some (.int .i64 S.ek) ∧ W.cell? ⟨sb, 17, none⟩ = some (.int .i64 S.ec))
    (first | with_reducible exact HG.out _ B4.out | with_reducible exact HG.out _ B3.out | with_reducible exact HG.out _ B2.out | go_keep)
    (first
      | (go_at_call 69; (with_reducible refine (HM.out _ HD1.out).mono ?_); rintro e w2 ⟨mb2, bb2, c2, rfl, hm, h1, h2, hb⟩; have M2 := Lib.hid hm; have L2 := Lib.hid (show w1.heap.size ≤ mb2 ∧ w1.heap.size ≤ bb2 from ⟨h1, h2⟩); have B2 := Lib.hid (HD1.out.trans (hb.mono HD1.out.size)); clear hm h1 h2 hb)
      | (go_at_call 70; (with_reducible refine (HT.out _ B2.out).mono ?_); rintro e w3 ⟨tb3, X3, V3, rfl, h1, ht, hb⟩; have T3 := Lib.hid ht; have L3 := Lib.hid (show w2.heap.size ≤ tb3 from h1); have B3 := Lib.hid (B2.out.trans (hb.mono B2.out.size)); have B23 := Lib.hid hb; clear h1 ht hb)
      | (go_at_call 71; (with_reducible refine (HL.out _ B3.out).mono ?_); rintro e w4 ⟨V4, rfl, ho, hb⟩; obtain ⟨LA4, lc4, hle⟩ := owns_len14 ho; subst hle; have O4 := Lib.hid ho; have B34 := Lib.hid hb; have B4 := Lib.hid (B3.out.trans (hb.mono B3.out.size)); clear ho hb))
  obtain ⟨W5, hW5⟩ : ∃ W5, W5 = w4.alloc (.cells #[.pointer none, .int .u32 0, .int .i32 0, .int .u32 0, .slice DA S.m.data.length dc, .slice FA S.m.funcs.length fc, .int .i64 S.size, .slice IA S.inp.length ic, .int .u64 (floV S.m), .pointer (some ⟨mb2, 0, none⟩), .pointer (some ⟨tb3, 0, none⟩), .int .i64 0, .int .i64 S.f, .int .u64 S.at_, .int .i64 S.pc, .slice LA4 S.links.length lc4, .int .i64 S.ek, .int .i64 S.ec] 80) := ⟨_, rfl⟩
  obtain ⟨cb, hcb⟩ : ∃ cb, cb = w4.heap.size := ⟨_, rfl⟩
  have X5 := Lib.hid (show W5.heap[cb]? = some (.cells #[.pointer none, .int .u32 0, .int .i32 0, .int .u32 0, .slice DA S.m.data.length dc, .slice FA S.m.funcs.length fc, .int .i64 S.size, .slice IA S.inp.length ic, .int .u64 (floV S.m), .pointer (some ⟨mb2, 0, none⟩), .pointer (some ⟨tb3, 0, none⟩), .int .i64 0, .int .i64 S.f, .int .u64 S.at_, .int .i64 S.pc, .slice LA4 S.links.length lc4, .int .i64 S.ek, .int .i64 S.ec] 80 (0, 0)) by rw [hW5, hcb]; exact heap_alloc_new _ _)
  have BW5 := Lib.hid (show Below w4.heap.size w4 W5 by rw [hW5]; exact below_one14 _ _)
  have HCB := Lib.hid hcb
  rw [← hW5, ← hcb]
  clear hW5 hcb d0 d1 d2 d3 d4 d5 d6 d7 d8 d9 d10 d11 d12 d13 d14 d15 d16 d17
  obtain ⟨⟨d0, d1, d2, d3, d4, d5⟩, ⟨d6, d7, d8, d9, d10, d11⟩, d12, d13, d14, d15, d16, d17⟩ := cells18 X5.out
  have f0 := frozen_of_row W5 cb 0 _ _ X5.out
  go_upto_region 5 with (fail)
  have X6 := Lib.hid (heap_setCell_same W5 cb 0 _ _ (.pointer (some ⟨cb, 0, none⟩)) X5.out)
  have U6 := Lib.hid (one_but15 W5 cb 0 (.pointer (some ⟨cb, 0, none⟩)))
  obtain ⟨W6, hW6⟩ : ∃ W6, W6 = W5.setCell ⟨cb, 0, none⟩ (.pointer (some ⟨cb, 0, none⟩)) := ⟨_, rfl⟩
  rw [← hW6] at X6 U6 ⊢
  clear hW6 f0 d0 d1 d2 d3 d4 d5 d6 d7 d8 d9 d10 d11 d12 d13 d14 d15 d16 d17
  have HLE := Lib.hid (show ∀ W, But (OneBlock cb) W5 W → Below w4.heap.size w4 W from fun W hu => hu.below BW5.out BW5.out.size (fun k e => by have e' : k = cb := e; have := HCB.out; omega))
  have B6 := Lib.hid (B4.out.trans ((HLE.out _ (U6.out.trans (But.refl (OneBlock cb) W6).drew)).mono B4.out.size))
  obtain ⟨⟨d0, d1, d2, d3, d4, d5⟩, ⟨d6, d7, d8, d9, d10, d11⟩, d12, d13, d14, d15, d16, d17⟩ := cells18 (HXW.out _ B6.out)
  have HF6 := Lib.hid (HF.out _ d11)
  clear d0 d1 d2 d3 d4 d5 d6 d7 d8 d9 d10 d11 d12 d13 d14 d15 d16 d17
  obtain ⟨⟨d0, d1, d2, d3, d4, d5⟩, ⟨d6, d7, d8, d9, d10, d11⟩, d12, d13, d14, d15, d16, d17⟩ := cells18 (show W6.drew.heap[cb]? = _ from X6.out)
  have HS6 := Lib.hid (setFuel15 ⟨cb, 11, none⟩ _ S.fuel W6.drew d11 (frozen_of_row W6.drew cb 11 _ _ (show W6.drew.heap[cb]? = _ from X6.out)))
  clear d0 d1 d2 d3 d4 d5 d6 d7 d8 d9 d10 d11 d12 d13 d14 d15 d16 d17
  go_region_with (first
    | (go_at_call 72; (with_reducible refine HF6.out.mono ?_); rintro e w' ⟨rfl, rfl⟩)
    | (go_at_call 59; (with_reducible refine HS6.out.mono ?_); rintro e w' ⟨rfl, hw⟩; have HW7 := Lib.hid hw; clear hw))
  have x7 := heap_setCell_same W6.drew cb 11 _ _ (.int .i64 S.fuel) (show W6.drew.heap[cb]? = _ from X6.out)
  rw [← HW7.out] at x7
  have X7 := Lib.hid x7
  have u7 := (U6.out.trans (But.refl (OneBlock cb) W6).drew).trans (one_but15 W6.drew cb 11 (.int .i64 S.fuel))
  rw [← HW7.out] at u7
  have U7 := Lib.hid u7
  have x8 := heap_setCell_same w' cb 2 _ _ (.int .i32 1) x7
  have X8 := Lib.hid x8
  have U8 := Lib.hid (u7.trans (one_but15 w' cb 2 (.int .i32 1)))
  obtain ⟨⟨d0, d1, d2, d3, d4, d5⟩, ⟨d6, d7, d8, d9, d10, d11⟩, d12, d13, d14, d15, d16, d17⟩ := cells18 x7
  have HO := Lib.hid (onceNop15 cb w' (fun W => w'.setCell ⟨cb, 2, none⟩ (.int .i32 1) = W) d1 d2 (frozen_of_row w' cb 1 _ _ x7) (frozen_of_row w' cb 2 _ _ x7) (copyNop15 _) (fun W hW => by
    subst hW
    obtain ⟨⟨d0, d1, d2, d3, d4, d5⟩, _⟩ := cells18 X8.out
    exact ⟨d1, d2, frozen_of_row _ cb 1 _ _ X8.out, frozen_of_row _ cb 2 _ _ X8.out⟩))
  clear x7 x8 u7 HW7 d0 d1 d2 d3 d4 d5 d6 d7 d8 d9 d10 d11 d12 d13 d14 d15 d16 d17
  have hmf : ∀ (fn : Fn) (first cap : Array Value) (w : World), (Instr.makeFunc fn first cap).run Tryz.prog w = .ok (.func fn first cap) w := fun _ _ _ _ => rfl
  go_wp2_with (go_at_call 73; (with_reducible refine HO.out.mono ?_); rintro e w9 ⟨rfl, hq⟩; have HQ := Lib.hid hq; clear hq)
  go_ret
  obtain ⟨W8, rfl, rfl⟩ := HQ.out
  have x9 := heap_setCell_same (w'.setCell ⟨cb, 2, none⟩ (.int .i32 1)).drew cb 1 _ _ (.int .u32 1) X8.out
  have x10 := heap_setCell_same _ cb 2 _ _ (.int .i32 0) x9
  have u10 := but_box15 (but_box15 (U8.out.trans (But.refl (OneBlock cb) (w'.setCell ⟨cb, 2, none⟩ (.int .i32 1))).drew) 1 (.int .u32 1)) 2 (.int .i32 0)
  obtain ⟨q, hq⟩ := HEND.out w4 (After15 cb (w'.setCell ⟨cb, 2, none⟩ (.int .i32 1))) cb mb2 bb2 c2 tb3 X3 V3 (.slice LA4 S.links.length lc4) B4.out ((M2.out.below B23.out).below B34.out) L2.out.1 L2.out.2
    (tape_low15 (T3.out.grow B34.out) B2.out.size) (Nat.le_trans B2.out.size L3.out) (fun g hg e => by have := T3.out.left.low hg; have := M2.out.lt.2; omega) (O4.out.base B3.out.size) HCB.out (HLE.out _ u10) (by rw [HFV.out.1, HFV.out.2.1, HFV.out.2.2]; exact x10)
  exact ⟨w1, p', cb, q, rfl, HD.out, hq⟩
theorem sp_copy {w W : World} {lo i sb : Nat} {l : List It} {S : SpV} (h : Spaces w lo W l) (hi : l[i]? = some (.sp sb S)) :
    Calls Tryz.prog 20 #[.pointer (some ⟨sb, 0, none⟩)] W fun e W' => ∃ cb, e = .returned (.pointer (some ⟨cb, 0, none⟩)) ∧ Spaces w lo W' (l.set i (.sp sb S) ++ [.sp cb S]) := by
  obtain ⟨p, hp, hl, hm⟩ := h.move2 hi
  refine (copy15 hp).mono ?_
  rintro e W' ⟨W1, p', cb, q, he, hv, hc⟩
  refine ⟨cb, he, ?_⟩
  have h1 := hm _ _ _ hv.mv
  have hil : i < l.length := (List.getElem?_eq_some_iff.1 hi).1
  have hi1 : (l.set i (.sp sb S))[i]? = some (.sp sb S) := by rw [List.getElem?_set_self hil]
  refine h1.add hc.below (show SpAt W' cb q S from .inl hc.laid) hc.foot (fun k hk => ?_)
  rcases hc.ro k hk with hk | hk
  · have hbx := hv.laid.box
    have key : ∀ (P : Nat → Loc), SpAt W1 sb (P i) S → ro15 (P i) k := by
      intro P hP
      have e : ∀ (a b : Array Value), W1.heap[sb]? = some (.cells a 80 (0, 0)) → W1.heap[sb]? = some (.cells b 80 (0, 0)) → a = b := by
        intro a b h1 h2
        rw [h1] at h2
        injection h2 with h2
        injection h2
      rcases hP with hP | hP
      · have := e _ _ hP.box hbx
        unfold box15 at this
        simp only [Array.mk.injEq, List.cons.injEq] at this
        rcases hk with hk | hk | hk
        · exact .inr (.inl (this.2.2.2.2.1 ▸ hk))
        · exact .inr (.inr (.inl (this.2.2.2.2.2.1 ▸ hk)))
        · exact .inr (.inr (.inr (this.2.2.2.2.2.2.2.1 ▸ hk)))
      · have := e _ _ hP.box hbx
        unfold fresh15 box15 at this
        simp at this
    obtain ⟨P, e1, e2, e3⟩ := h1.ex
    refine .inr ⟨e2 i _ k hi1 (.inr (key P (e1 i _ hi1))), fun P j b hj f1 f3 hf => ?_⟩
    have hk2 := key P (f1 i _ hi1)
    by_cases hji : j = i
    · subst hji
      rw [hi1] at hj
      obtain rfl := Option.some.inj hj
      exact It.own (f1 _ _ hi1) hf hk2
    · exact f3 j i b _ k hji hj hi1 hf (.inr hk2)
  · exact .inl hk
end Go.Proofs.YtkfdgpgildanbaaGreat
