/- The document's own line, where it is read. Contract; no condition but that the line is short and the module small. -/
import Derived.Test.YtohlifeenhaifaaGreatDoorRef13M
import Derived.Test.YtohlifeenhaifaaGreatDoorSkip15
namespace Go.Proofs.YtohlifeenhaifaaGreatDoor
open Go.RowKit Go.Shelf
set_option linter.unusedVariables false
set_option linter.unusedSimpArgs false
def q26l_0 : Oper := { dst := some 120, op := Op.fieldAddr 25 (Operand.tmp 2) 1, type := 0, pos := "read.go:135", after := #[], guard := none }
def q26l_1 : Oper := { dst := some 121, op := Op.load 23 (Operand.tmp 120), type := 23, pos := "read.go:135", after := #[{ on := 0, ground := Ground.data }], guard := none }
def q26l_2 : Oper := { dst := some 122, op := Op.move (Operand.tmp 8), type := 26, pos := "read.go:135", after := #[], guard := none }
def q26l_3 : Oper := { dst := some 123, op := Op.indexAddr 26 (Operand.tmp 122) (Operand.const (Value.int IntKind.i64 0)), type := 0, pos := "read.go:135", after := #[{ on := 2, ground := Ground.data }], guard := none }
def q26l_4 : Oper := { dst := some 124, op := Op.load 3 (Operand.tmp 123), type := 3, pos := "read.go:135", after := #[{ on := 3, ground := Ground.data }], guard := none }
def q26l_5 : Oper := { dst := some 125, op := Op.move (Operand.tmp 8), type := 26, pos := "read.go:135", after := #[], guard := none }
def q26l_6 : Oper := { dst := some 126, op := Op.indexAddr 26 (Operand.tmp 125) (Operand.const (Value.int IntKind.i64 1)), type := 0, pos := "read.go:135", after := #[{ on := 5, ground := Ground.data }], guard := none }
def q26l_7 : Oper := { dst := some 127, op := Op.load 3 (Operand.tmp 126), type := 3, pos := "read.go:135", after := #[{ on := 6, ground := Ground.data }], guard := none }
def q26l_8 : Oper := { dst := some 128, op := Op.move (Operand.tmp 8), type := 26, pos := "read.go:135", after := #[], guard := none }
def q26l_9 : Oper := { dst := some 129, op := Op.indexAddr 26 (Operand.tmp 128) (Operand.const (Value.int IntKind.i64 2)), type := 0, pos := "read.go:135", after := #[{ on := 8, ground := Ground.data }], guard := none }
def q26l_10 : Oper := { dst := some 130, op := Op.load 3 (Operand.tmp 129), type := 3, pos := "read.go:135", after := #[{ on := 9, ground := Ground.data }], guard := none }
def q26l_11 : Oper := { dst := some 131, op := Op.build 53 #[(0, Operand.tmp 124), (1, Operand.tmp 127), (2, Operand.tmp 130)], type := 53, pos := "read.go:135", after := #[{ on := 4, ground := Ground.data }, { on := 7, ground := Ground.data }, { on := 10, ground := Ground.data }], guard := none }
def q26l_12 : Oper := { dst := some 132, op := Op.buildSlice 23 1 #[(0, Operand.tmp 131)], type := 23, pos := "read.go:135", after := #[{ on := 11, ground := Ground.data }], guard := none }
def q26l_13 : Oper := { dst := some 133, op := Op.call { callee := Callee.builtin Builtin.append, args := #[Operand.tmp 121, Operand.tmp 132], argTypes := #[23, 23] }, type := 23, pos := "read.go:135", after := #[{ on := 1, ground := Ground.data }, { on := 12, ground := Ground.data }], guard := none }
def q26l_14 : Oper := { dst := some 134, op := Op.fieldAddr 25 (Operand.tmp 2) 1, type := 0, pos := "read.go:135", after := #[{ on := 0, ground := Ground.phase }, { on := 1, ground := Ground.phase }, { on := 2, ground := Ground.phase }, { on := 3, ground := Ground.phase }, { on := 4, ground := Ground.phase }, { on := 5, ground := Ground.phase }, { on := 6, ground := Ground.phase }, { on := 7, ground := Ground.phase }, { on := 8, ground := Ground.phase }, { on := 9, ground := Ground.phase }, { on := 10, ground := Ground.phase }, { on := 11, ground := Ground.phase }, { on := 12, ground := Ground.phase }, { on := 13, ground := Ground.phase }], guard := none }
def q26l_15 : Oper := { dst := none, op := Op.store 23 (Operand.tmp 134) (Operand.tmp 133), type := 0, pos := "read.go:135", after := #[{ on := 14, ground := Ground.data }, { on := 13, ground := Ground.data }, { on := 13, ground := Ground.chain }, { on := 0, ground := Ground.phase }, { on := 1, ground := Ground.phase }, { on := 2, ground := Ground.phase }, { on := 3, ground := Ground.phase }, { on := 4, ground := Ground.phase }, { on := 5, ground := Ground.phase }, { on := 6, ground := Ground.phase }, { on := 7, ground := Ground.phase }, { on := 8, ground := Ground.phase }, { on := 9, ground := Ground.phase }, { on := 10, ground := Ground.phase }, { on := 11, ground := Ground.phase }, { on := 12, ground := Ground.phase }, { on := 13, ground := Ground.phase }], guard := none }
def ops26l : Array Oper := #[q26l_0, q26l_1, q26l_2, q26l_3, q26l_4, q26l_5, q26l_6, q26l_7, q26l_8, q26l_9, q26l_10, q26l_11, q26l_12, q26l_13, q26l_14, q26l_15]
def S26l (nb no : Nat) (a b c : Int) (W : World) : Prop := W.cell? ⟨nb, no, none⟩ = some (.int .i64 a) ∧ W.cell? ⟨nb, no + 1, none⟩ = some (.int .i64 b) ∧ W.cell? ⟨nb, no + 2, none⟩ = some (.int .i64 c)
section
variable {base b0 : Nat} {w : World} {V D F : Value} {s0 : ByteArray} {r : List ByteArray} {m : ModV} {Cs : List Value}
set_option maxRecDepth 100000 in
set_option maxHeartbeats 16000000 in
theorem rline13_func (h : LnIn13 base b0 w V D F s0 r m Cs) (h1 : lettersOf s0 = funcW) (a b c : Int) (hsome : numsP (r.map lettersOf) = some [a, b, c]) :
    Calls Tryz.prog 41 #[.agg #[D, F], V] w (LineDn13 base m w ((s0 :: r).map lettersOf)) := by
  obtain ⟨n, hn⟩ : ∃ n, n = r.length := ⟨_, rfl⟩
  obtain ⟨DA, dc, hDe⟩ := owns_len h.mo.dat
  obtain ⟨FA, fc, hFe⟩ := owns_len h.mo.fns.fown
  obtain ⟨dn, hdn⟩ : ∃ n, n = m.data.length := ⟨_, rfl⟩
  obtain ⟨fn, hfn⟩ : ∃ n, n = m.funcs.length := ⟨_, rfl⟩
  rw [← hdn] at hDe
  rw [← hfn] at hFe
  subst hDe hFe
  obtain ⟨VA, vc, hVe⟩ := h.strs.len
  rw [List.length_cons, ← hn] at hVe
  subst hVe
  obtain ⟨vb, vo, hVA, hcap, hvb, hc0, vo', vc', hsl, hvt⟩ := strs_tail_is13 hn h.strs
  subst hVA
  have HT := Lib.hid hvt
  have hln : n ≤ 4000 := by rw [hn]; exact h.len
  have hn0 : (0 : Int) < (n : Int) + 1 := by omega
  have hwr : IntKind.i64.wrap ((n : Int) + 1 - 1) = (n : Int) := by rw [IntKind.wrap_i64]; omega
  have hfl : fn ≤ 900000 := by rw [hfn]; exact h.fns
  have HI := Lib.hid h
  have hL0 := Ln13.start h.mo h.hbw
  have hb0 : Below w.heap.size w ((w.alloc (.cells #[.slice DA dn dc, .slice FA fn fc] 25)).alloc (.cells #[.slice none 0 0, .slice none 0 0] 25)) := ((Below.refl _ w).alloc (Nat.le_refl _) _).alloc (by simp) _
  obtain ⟨W0, hW0⟩ : ∃ W0, W0 = (w.alloc (.cells #[.slice DA dn dc, .slice FA fn fc] 25)).alloc (.cells #[.slice none 0 0, .slice none 0 0] 25) := ⟨_, rfl⟩
  rw [← hW0] at hL0 hb0
  have L0 := Lib.hid hL0
  have B0 := Lib.hid hb0
  have HW0 := Lib.hid hW0
  have HN := Lib.hid (And.intro hn (And.intro hdn hfn))
  have HFD : Hid (∀ W, Calls Tryz.prog 74 #[.string s0] W (Makes W (.int .i64 (findW (lettersOf s0))))) := Lib.hid (fun W => by rw [← findV_W]; exact rfind_any s0 W)
  have HC0 : Hid (∀ W, Below w.heap.size w W → W.cell? ⟨vb, vo, none⟩ = some (.string s0)) := Lib.hid (fun W hb => (hb.cell (p := ⟨vb, vo, none⟩) hvb).trans hc0)
  have c0 := HC0.out W0 hb0
  clear hn hdn hfn hvt hL0 hb0 hW0 hvb hc0
  have tf := funcB_yes h1
  have tb := bytesB_no (s0 := s0) (by rw [h1]; decide)
  obtain ⟨ns, hns⟩ : ∃ ns, ns = [a, b, c] := ⟨_, rfl⟩
  rw [← hns] at hsome
  have HNM : Hid (∀ W, Below w.heap.size w W → Calls Tryz.prog 76 #[.slice (some ⟨vb, vo', none⟩) n vc'] W (fun e w' => ∃ v, e = .returned (.tuple #[v, .bool true]) ∧ Owns w' W.heap.size 3 1 (IsNum .i64) v ns.length (ns.map (Value.int .i64)) ∧ Below W.heap.size W w')) := Lib.hid (fun W hb => by
    have hz := rnumbers13_any _ r W ((HT.out.below hb (Nat.le_refl _) (Nat.le_refl _)).more hb.size) (fun x hx => HI.out.sz x (List.mem_cons_of_mem _ hx)) (by have := HI.out.len; omega)
    rw [hsome] at hz
    exact hz)
  have HIN := Lib.hid (nums_canon _ _ hsome).2
  have HNL := Lib.hid (numsP_len _ _ hsome)
  have hf0 : ((n : Int) + 1 == 4) = true := by
    have h2 := HNL.out
    rw [hns, List.length_map, ← HN.out.1] at h2
    rw [← h2]
    rfl
  have HLP : Hid (lineP m ((s0 :: r).map lettersOf) = (⟨m.data, m.funcs ++ [⟨a, b, c, []⟩]⟩, 0)) := Lib.hid (by
    have h2 := HNL.out
    rw [hns, List.length_map] at h2
    unfold lineP
    rw [List.map_cons, List.headD_cons, if_neg (by rw [h1]; decide), if_pos h1, if_neg (by simp [← h2]), List.tail_cons, hsome, hns]
    rfl)
  have HNS := Lib.hid hns
  have HFO : Hid (FunB ⟨a, b, c, []⟩) := Lib.hid (by
    have h3 := HIN.out
    rw [hns] at h3
    exact ⟨h3 a (by simp), h3 b (by simp), h3 c (by simp)⟩)
  clear h1 hsome hns
  go_enter Tryz.func41, Tryz.ntmps41
  go_upto_region 26 with (first
    | (rw [← HW0.out])
    | (go_at_call 74; (with_reducible refine (HFD.out _).mono ?_); rintro e w2 ⟨rfl, hb⟩; have L2 := Lib.hid (L0.out.grow hb); have B2 := Lib.hid (B0.out.trans (hb.mono B0.out.size)); clear c0; have c0 := HC0.out _ B2.out; obtain ⟨x0, x1⟩ := L2.out.mdl.cells; obtain ⟨y0, y1⟩ := cells2 L2.out.res; have g0 := frozen_of_row w2 (w.heap.size + 1) 0 _ _ L2.out.res; have g1 := frozen_of_row w2 (w.heap.size + 1) 1 _ _ L2.out.res; clear hb)
    | (go_at_call 76; (with_reducible refine (HNM.out _ B2.out).mono ?_); rintro e w4 ⟨nv, rfl, hown, hb⟩; obtain ⟨NA, nc, hne⟩ := owns_len hown; subst hne; have L4 := Lib.hid (L2.out.grow hb); have B4 := Lib.hid (B2.out.trans (hb.mono B2.out.size)); have HON := Lib.hid hown; have HS4 := Lib.hid B2.out.size; clear c0 x0 x1 y0 y1 g0 g1; have c0 := HC0.out _ B4.out; obtain ⟨x0, x1⟩ := L4.out.mdl.cells; obtain ⟨y0, y1⟩ := cells2 L4.out.res; have g0 := frozen_of_row w4 (w.heap.size + 1) 0 _ _ L4.out.res; have g1 := frozen_of_row w4 (w.heap.size + 1) 1 _ _ L4.out.res; clear hb hown))
  have hnl3 : ns.length = 3 := by rw [HNS.out]; rfl
  obtain ⟨nb, no, ncap, hNe, hncap, hnb, hnc⟩ := (IsNums.of_owns HON.out (Nat.le_refl _)).plain (by rw [hnl3]; decide)
  injection hNe with e1 e2 e3
  subst e1 e3
  rw [hnl3] at hncap hnc
  rw [hnl3]
  have k0 := hnc 0 (by decide)
  have k1 := hnc 1 (by decide)
  have k2 := hnc 2 (by decide)
  rw [HNS.out] at k0 k1 k2
  simp only [List.getD_cons_zero, List.getD_cons_succ, Nat.add_zero] at k0 k1 k2
  have hal : Below w4.heap.size w4 (w4.alloc (.cells #[.int .i64 a, .int .i64 b, .int .i64 c, .slice none 0 0] 53)) := (Below.refl w4.heap.size w4).alloc (Nat.le_refl _) _
  have k0a := (hal.cell (p := ⟨nb, no, none⟩) hnb).trans k0
  have k1a := (hal.cell (p := ⟨nb, no + 1, none⟩) hnb).trans k1
  have k2a := (hal.cell (p := ⟨nb, no + 2, none⟩) hnb).trans k2
  have x1a := (hal.cell (p := ⟨w.heap.size, 1, none⟩) L4.out.mdl.lt).trans x1
  have HRd := Lib.hid (L4.out.mdl.grow (Below.refl _ w4).drew)
  have HCA : Hid (CodeAt base w4.drew (.slice none 0 0) (FunV.mk a b c []).code) := Lib.hid (.inr ⟨0, [], OwnC.nil _ _, by simp⟩)
  have HZ : Hid (base ≤ w4.drew.heap.size) := Lib.hid (Nat.le_trans L4.out.hbw B4.out.size)
  have HLow : Hid (∀ i, i < m.funcs.length → ∀ g, (Cs.getD i (.slice none 0 0)).ownBlock = some g → g < w.heap.size) := Lib.hid HI.out.mo.fns.low
  have HR4 := Lib.hid L4.out.res
  have HSK : Hid (∀ W, Below w4.heap.size w4 W → W.cell? ⟨nb, no, none⟩ = some (.int .i64 a) ∧ W.cell? ⟨nb, no + 1, none⟩ = some (.int .i64 b) ∧ W.cell? ⟨nb, no + 2, none⟩ = some (.int .i64 c)) := Lib.hid (fun W hb => ⟨(hb.cell (p := ⟨nb, no, none⟩) hnb).trans k0, (hb.cell (p := ⟨nb, no + 1, none⟩) hnb).trans k1, (hb.cell (p := ⟨nb, no + 2, none⟩) hnb).trans k2⟩)
  have HNB := Lib.hid hnb
  have HNT : Hid (∃ cs, w4.heap[nb]? = some (.cells cs 3 (0, 0))) := Lib.hid (by
    obtain ⟨cs, hcs⟩ := HON.out.typed (g := nb) rfl
    exact ⟨cs, hcs⟩)
  clear hnb hnc hal y0 y1 g0 g1 c0 hnl3
  change Code.wp _ (Code.region 26 ops26l true) _ _ _
  refine wp_region_held_drew (S := S26l nb no a b c) (by kernel_rfl) (HSK.out _ (Below.refl w4.heap.size w4).drew) (fun hHeld => ?_)
  show wpAnyH _ _ ops26l _ _ 16 (Array.replicate 16 false) _ _
  refine wpAnyH_one (fun _ _ _ _ _ h => h) 0 120 q26l_0 (.pointer (some ⟨w.heap.size, 1, none⟩)) ?_ hHeld ?_
  · intro W _; unfold q26l_0; go_simp
  refine wpAnyH_one (fun _ _ _ _ _ h => h) 2 122 q26l_2 (.slice (some ⟨nb, no, none⟩) 3 nc) ?_ hHeld ?_
  · intro W _; unfold q26l_2; go_simp
  refine wpAnyH_one (fun _ _ _ _ _ h => h) 3 123 q26l_3 (.pointer (some ⟨nb, no, none⟩)) ?_ hHeld ?_
  · intro W _; unfold q26l_3; go_simp
  refine wpAnyH_one (fun _ _ _ _ _ h => h) 4 124 q26l_4 (.int .i64 a) ?_ hHeld ?_
  · intro W hSw; unfold S26l at hSw; unfold q26l_4; clear hHeld; go_simp
  refine wpAnyH_one (fun _ _ _ _ _ h => h) 5 125 q26l_5 (.slice (some ⟨nb, no, none⟩) 3 nc) ?_ hHeld ?_
  · intro W _; unfold q26l_5; go_simp
  refine wpAnyH_one (fun _ _ _ _ _ h => h) 6 126 q26l_6 (.pointer (some ⟨nb, no + 1, none⟩)) ?_ hHeld ?_
  · intro W _; unfold q26l_6; go_simp
  refine wpAnyH_one (fun _ _ _ _ _ h => h) 7 127 q26l_7 (.int .i64 b) ?_ hHeld ?_
  · intro W hSw; unfold S26l at hSw; unfold q26l_7; clear hHeld; go_simp
  refine wpAnyH_one (fun _ _ _ _ _ h => h) 8 128 q26l_8 (.slice (some ⟨nb, no, none⟩) 3 nc) ?_ hHeld ?_
  · intro W _; unfold q26l_8; go_simp
  refine wpAnyH_one (fun _ _ _ _ _ h => h) 9 129 q26l_9 (.pointer (some ⟨nb, no + 2, none⟩)) ?_ hHeld ?_
  · intro W _; unfold q26l_9; go_simp
  refine wpAnyH_one (fun _ _ _ _ _ h => h) 10 130 q26l_10 (.int .i64 c) ?_ hHeld ?_
  · intro W hSw; unfold S26l at hSw; unfold q26l_10; clear hHeld; go_simp
  refine wpAnyH_one (fun _ _ _ _ _ h => h) 11 131 q26l_11 (.agg #[.int .i64 a, .int .i64 b, .int .i64 c, .slice none 0 0]) ?_ hHeld ?_
  · intro W _; unfold q26l_11; go_simp
  refine wpAnyH_ready (rs := [1, 12]) (by kernel_rfl) (by simp) ?_
  refine AllReadyH.cons (o := q26l_1) rfl (fun K hK => ?_) (AllReadyH.cons (o := q26l_12) rfl (fun K hK => ?_) AllReadyH.nil)
  · skip
    unfold q26l_1
    rw [if_pos]
    rotate_left
    · kernel_rfl
    go_simp
    refine hK.out _ _ (HSK.out _ (Below.refl w4.heap.size w4).drew) (fun hHeld => ?_)
    clear hK K
    try simp only [Act.put, List.setIfInBounds_toArray, List.set_cons_zero, List.set_cons_succ]
    refine wpAnyH_ready (rs := [12]) (by kernel_rfl) (by simp) ?_
    refine AllReadyH.cons (o := q26l_12) rfl (fun K hK => ?_) AllReadyH.nil
    unfold q26l_12
    rw [if_pos]
    rotate_left
    · kernel_rfl
    go_simp
    refine hK.out _ _ (HSK.out _ ((Below.refl w4.heap.size w4).drew.alloc (Nat.le_refl _) _)) (fun hHeld => ?_)
    clear hK K
    try simp only [Act.put, List.setIfInBounds_toArray, List.set_cons_zero, List.set_cons_succ]
    refine wpAnyH_ready (rs := [13]) (by kernel_rfl) (by simp) ?_
    refine AllReadyH.cons (o := q26l_13) rfl (fun K hK => ?_) AllReadyH.nil
    refine step_outF (W := w4.drew) (f := ⟨a, b, c, []⟩) (base := base) rfl (.tmp 121) (.tmp 132) rfl rfl rfl rfl HRd.out.fns.fn HCA.out HFO.out HZ.out (by have := HI.out.fns; omega) ?_; intro V8 w8 hm; obtain ⟨hm, -⟩ := hm; have HMo := Lib.hid (HRd.out.func hm rfl HI.out.hbw (by show w.heap.size ≤ w4.drew.heap.size; exact B4.out.size) HLow.out); have hbx8 := (hm.blk w.heap.size HRd.out.lt HRd.out.rb_nf).trans HRd.out.box; obtain ⟨x0, x1'⟩ := cells2 hbx8; have gm := frozen_of_row w8 w.heap.size 1 _ _ hbx8; have hr8 := (hm.blk (w.heap.size + 1) (heap_lt HR4.out) (fun e => by obtain ⟨c', hc'⟩ := HRd.out.fns.fn.own.typed e.symm; exact typed_ne hc' (by decide) HR4.out)).trans HR4.out; have HR8 := Lib.hid hr8; obtain ⟨y0, y1⟩ := cells2 hr8; have g0 := frozen_of_row w8 (w.heap.size + 1) 0 _ _ hr8; have g1 := frozen_of_row w8 (w.heap.size + 1) 1 _ _ hr8; obtain ⟨nA, nc8, hn8⟩ := owns_len hm.own.own; obtain ⟨n8, hn9⟩ : ∃ n8, n8 = (m.funcs ++ [FunV.mk a b c []]).length := ⟨_, rfl⟩; rw [← hn9] at hn8; subst hn8; have hn8b : But (fun k => some k = (Value.slice FA fn fc).ownBlock) w4.drew w8 := ⟨hm.bel.os, hm.bel.tape, hm.bel.output, hm.size, fun k hk hn => hm.blk k hk hn⟩; have hnf8 : ¬ some nb = (Value.slice FA fn fc).ownBlock := (fun e => by obtain ⟨c', hc'⟩ := HRd.out.fns.fn.own.typed e.symm; obtain ⟨cs, hcs⟩ := HNT.out; exact typed_ne hcs (by decide) hc'); obtain ⟨j0, j1, j2⟩ := HSK.out w4.drew (Below.refl w4.heap.size w4).drew; have HS8 : Hid (w8.cell? ⟨nb, no, none⟩ = some (.int .i64 a) ∧ w8.cell? ⟨nb, no + 1, none⟩ = some (.int .i64 b) ∧ w8.cell? ⟨nb, no + 2, none⟩ = some (.int .i64 c)) := Lib.hid ⟨(hn8b.cell (p := ⟨nb, no, none⟩) HNB.out hnf8).trans j0, (hn8b.cell (p := ⟨nb, no + 1, none⟩) HNB.out hnf8).trans j1, (hn8b.cell (p := ⟨nb, no + 2, none⟩) HNB.out hnf8).trans j2⟩; have hbs : But (OneBlock w.heap.size) w8 (w8.setCell ⟨w.heap.size, 1, none⟩ (.slice nA n8 nc8)) := (But.refl (OneBlock w.heap.size) w8).setCell (p := ⟨w.heap.size, 1, none⟩) (.inl rfl) _; have hnm : ¬ OneBlock w.heap.size nb := (fun e => by have e' : nb = w.heap.size := e; obtain ⟨cs, hcs⟩ := HNT.out; rw [e'] at hcs; exact typed_ne hcs (by decide) L4.out.mdl.box); have hs8 : nb < w8.heap.size := Nat.lt_of_lt_of_le HNB.out hm.size; have HS9 : Hid ((w8.setCell ⟨w.heap.size, 1, none⟩ (.slice nA n8 nc8)).cell? ⟨nb, no, none⟩ = some (.int .i64 a) ∧ (w8.setCell ⟨w.heap.size, 1, none⟩ (.slice nA n8 nc8)).cell? ⟨nb, no + 1, none⟩ = some (.int .i64 b) ∧ (w8.setCell ⟨w.heap.size, 1, none⟩ (.slice nA n8 nc8)).cell? ⟨nb, no + 2, none⟩ = some (.int .i64 c)) := Lib.hid ⟨(hbs.cell (p := ⟨nb, no, none⟩) hs8 hnm).trans HS8.out.1, (hbs.cell (p := ⟨nb, no + 1, none⟩) hs8 hnm).trans HS8.out.2.1, (hbs.cell (p := ⟨nb, no + 2, none⟩) hs8 hnm).trans HS8.out.2.2⟩; clear hn9 hm hbx8 hr8 hn8b hnf8 hbs hnm hs8 j0 j1 j2
    refine hK.out _ _ (HS8.out) (fun hHeld => ?_)
    clear hK K
    unfold q26l_13
    try simp only [Act.put, List.setIfInBounds_toArray, List.set_cons_zero, List.set_cons_succ]
    refine wpAnyH_one (fun _ _ _ _ _ h => h) 14 134 q26l_14 (.pointer (some ⟨w.heap.size, 1, none⟩)) ?_ hHeld ?_
    · intro W _; unfold q26l_14; go_simp
    refine wpAnyH_ready (rs := [15]) (by kernel_rfl) (by simp) ?_
    refine AllReadyH.cons (o := q26l_15) rfl (fun K hK => ?_) AllReadyH.nil
    unfold q26l_15
    rw [if_pos]
    rotate_left
    · kernel_rfl
    go_simp
    refine hK.out _ _ (HS9.out) (fun hHeld => ?_)
    clear hK K
    try simp only [Act.put, List.setIfInBounds_toArray, List.set_cons_zero, List.set_cons_succ]
    refine wpAnyH_done (by kernel_rfl) ?_ _
    have hres := ((But.refl (OneBlock w.heap.size) w8).setCell (p := ⟨w.heap.size, 1, none⟩) (.inl rfl) (.slice nA n8 nc8)).heap HR8.out (fun e => by have e' : w.heap.size + 1 = w.heap.size := e; omega)
    have HRES := Lib.hid hres
    clear hres
    go_wp2
    exact bodyPost_ret (v := .tuple #[.agg #[.slice DA dn dc, .slice nA n8 nc8], .int .i64 0]) (by simp [results, Tryz.results41, go_sem, y0, y1]) rfl (ln_end13 HRES.out (But.below L4.out.bel (HMo.out.2.of_drew) (Nat.le_trans L4.out.hbw B4.out.size) (fun k hk => by have := HI.out.hbw; rcases hk with e | ⟨e, _⟩ <;> omega)) HI.out.hbw (by first | rw [HLP.out] | (have h9 := HLP.out; rw [List.map_cons] at h9; rw [h9])) (fun _ => ⟨_, _, by first | (rw [HLP.out]; exact HMo.out.1.mo) | (have h9 := HLP.out; rw [List.map_cons] at h9; rw [h9]; exact HMo.out.1.mo)⟩))
  · skip
    unfold q26l_12
    rw [if_pos]
    rotate_left
    · kernel_rfl
    go_simp
    refine hK.out _ _ (HSK.out _ ((Below.refl w4.heap.size w4).drew.alloc (Nat.le_refl _) _)) (fun hHeld => ?_)
    clear hK K
    try simp only [Act.put, List.setIfInBounds_toArray, List.set_cons_zero, List.set_cons_succ]
    refine wpAnyH_ready (rs := [1]) (by kernel_rfl) (by simp) ?_
    refine AllReadyH.cons (o := q26l_1) rfl (fun K hK => ?_) AllReadyH.nil
    unfold q26l_1
    rw [if_pos]
    rotate_left
    · kernel_rfl
    go_simp
    refine hK.out _ _ (HSK.out _ ((Below.refl w4.heap.size w4).drew.alloc (Nat.le_refl _) _)) (fun hHeld => ?_)
    clear hK K
    try simp only [Act.put, List.setIfInBounds_toArray, List.set_cons_zero, List.set_cons_succ]
    refine wpAnyH_ready (rs := [13]) (by kernel_rfl) (by simp) ?_
    refine AllReadyH.cons (o := q26l_13) rfl (fun K hK => ?_) AllReadyH.nil
    refine step_outF (W := w4.drew) (f := ⟨a, b, c, []⟩) (base := base) rfl (.tmp 121) (.tmp 132) rfl rfl rfl rfl HRd.out.fns.fn HCA.out HFO.out HZ.out (by have := HI.out.fns; omega) ?_; intro V8 w8 hm; obtain ⟨hm, -⟩ := hm; have HMo := Lib.hid (HRd.out.func hm rfl HI.out.hbw (by show w.heap.size ≤ w4.drew.heap.size; exact B4.out.size) HLow.out); have hbx8 := (hm.blk w.heap.size HRd.out.lt HRd.out.rb_nf).trans HRd.out.box; obtain ⟨x0, x1'⟩ := cells2 hbx8; have gm := frozen_of_row w8 w.heap.size 1 _ _ hbx8; have hr8 := (hm.blk (w.heap.size + 1) (heap_lt HR4.out) (fun e => by obtain ⟨c', hc'⟩ := HRd.out.fns.fn.own.typed e.symm; exact typed_ne hc' (by decide) HR4.out)).trans HR4.out; have HR8 := Lib.hid hr8; obtain ⟨y0, y1⟩ := cells2 hr8; have g0 := frozen_of_row w8 (w.heap.size + 1) 0 _ _ hr8; have g1 := frozen_of_row w8 (w.heap.size + 1) 1 _ _ hr8; obtain ⟨nA, nc8, hn8⟩ := owns_len hm.own.own; obtain ⟨n8, hn9⟩ : ∃ n8, n8 = (m.funcs ++ [FunV.mk a b c []]).length := ⟨_, rfl⟩; rw [← hn9] at hn8; subst hn8; have hn8b : But (fun k => some k = (Value.slice FA fn fc).ownBlock) w4.drew w8 := ⟨hm.bel.os, hm.bel.tape, hm.bel.output, hm.size, fun k hk hn => hm.blk k hk hn⟩; have hnf8 : ¬ some nb = (Value.slice FA fn fc).ownBlock := (fun e => by obtain ⟨c', hc'⟩ := HRd.out.fns.fn.own.typed e.symm; obtain ⟨cs, hcs⟩ := HNT.out; exact typed_ne hcs (by decide) hc'); obtain ⟨j0, j1, j2⟩ := HSK.out w4.drew (Below.refl w4.heap.size w4).drew; have HS8 : Hid (w8.cell? ⟨nb, no, none⟩ = some (.int .i64 a) ∧ w8.cell? ⟨nb, no + 1, none⟩ = some (.int .i64 b) ∧ w8.cell? ⟨nb, no + 2, none⟩ = some (.int .i64 c)) := Lib.hid ⟨(hn8b.cell (p := ⟨nb, no, none⟩) HNB.out hnf8).trans j0, (hn8b.cell (p := ⟨nb, no + 1, none⟩) HNB.out hnf8).trans j1, (hn8b.cell (p := ⟨nb, no + 2, none⟩) HNB.out hnf8).trans j2⟩; have hbs : But (OneBlock w.heap.size) w8 (w8.setCell ⟨w.heap.size, 1, none⟩ (.slice nA n8 nc8)) := (But.refl (OneBlock w.heap.size) w8).setCell (p := ⟨w.heap.size, 1, none⟩) (.inl rfl) _; have hnm : ¬ OneBlock w.heap.size nb := (fun e => by have e' : nb = w.heap.size := e; obtain ⟨cs, hcs⟩ := HNT.out; rw [e'] at hcs; exact typed_ne hcs (by decide) L4.out.mdl.box); have hs8 : nb < w8.heap.size := Nat.lt_of_lt_of_le HNB.out hm.size; have HS9 : Hid ((w8.setCell ⟨w.heap.size, 1, none⟩ (.slice nA n8 nc8)).cell? ⟨nb, no, none⟩ = some (.int .i64 a) ∧ (w8.setCell ⟨w.heap.size, 1, none⟩ (.slice nA n8 nc8)).cell? ⟨nb, no + 1, none⟩ = some (.int .i64 b) ∧ (w8.setCell ⟨w.heap.size, 1, none⟩ (.slice nA n8 nc8)).cell? ⟨nb, no + 2, none⟩ = some (.int .i64 c)) := Lib.hid ⟨(hbs.cell (p := ⟨nb, no, none⟩) hs8 hnm).trans HS8.out.1, (hbs.cell (p := ⟨nb, no + 1, none⟩) hs8 hnm).trans HS8.out.2.1, (hbs.cell (p := ⟨nb, no + 2, none⟩) hs8 hnm).trans HS8.out.2.2⟩; clear hn9 hm hbx8 hr8 hn8b hnf8 hbs hnm hs8 j0 j1 j2
    refine hK.out _ _ (HS8.out) (fun hHeld => ?_)
    clear hK K
    unfold q26l_13
    try simp only [Act.put, List.setIfInBounds_toArray, List.set_cons_zero, List.set_cons_succ]
    refine wpAnyH_one (fun _ _ _ _ _ h => h) 14 134 q26l_14 (.pointer (some ⟨w.heap.size, 1, none⟩)) ?_ hHeld ?_
    · intro W _; unfold q26l_14; go_simp
    refine wpAnyH_ready (rs := [15]) (by kernel_rfl) (by simp) ?_
    refine AllReadyH.cons (o := q26l_15) rfl (fun K hK => ?_) AllReadyH.nil
    unfold q26l_15
    rw [if_pos]
    rotate_left
    · kernel_rfl
    go_simp
    refine hK.out _ _ (HS9.out) (fun hHeld => ?_)
    clear hK K
    try simp only [Act.put, List.setIfInBounds_toArray, List.set_cons_zero, List.set_cons_succ]
    refine wpAnyH_done (by kernel_rfl) ?_ _
    have hres := ((But.refl (OneBlock w.heap.size) w8).setCell (p := ⟨w.heap.size, 1, none⟩) (.inl rfl) (.slice nA n8 nc8)).heap HR8.out (fun e => by have e' : w.heap.size + 1 = w.heap.size := e; omega)
    have HRES := Lib.hid hres
    clear hres
    go_wp2
    exact bodyPost_ret (v := .tuple #[.agg #[.slice DA dn dc, .slice nA n8 nc8], .int .i64 0]) (by simp [results, Tryz.results41, go_sem, y0, y1]) rfl (ln_end13 HRES.out (But.below L4.out.bel (HMo.out.2.of_drew) (Nat.le_trans L4.out.hbw B4.out.size) (fun k hk => by have := HI.out.hbw; rcases hk with e | ⟨e, _⟩ <;> omega)) HI.out.hbw (by first | rw [HLP.out] | (have h9 := HLP.out; rw [List.map_cons] at h9; rw [h9])) (fun _ => ⟨_, _, by first | (rw [HLP.out]; exact HMo.out.1.mo) | (have h9 := HLP.out; rw [List.map_cons] at h9; rw [h9]; exact HMo.out.1.mo)⟩))
theorem fields_in13 {op : Int} {ns : List Int} {y : InsV} (h : fieldsP op ns = some y) (hop : InI op) (hn : ∀ x ∈ ns, InI x) : y.op = op ∧ InsB y := by
  unfold fieldsP at h
  obtain ⟨s, hs, rfl⟩ := Option.map_eq_some_iff.1 h
  have z0 : InI 0 := by unfold InI; decide
  have hb := fld_bd hs hn (by simp) z0 (by simp)
  exact ⟨rfl, ⟨hop, getD_in hb.1 0, getD_in hb.1 1, getD_in hb.1 2, hb.2.1⟩⟩
theorem nums_len_one13 {w : World} {B : Nat} {A : Option Addr} {n c : Nat} {l : List Int} (h : IsNums .i64 w B (.slice A n c) l) : n = l.length := by
  obtain ⟨A', c', e⟩ := h.len
  injection e
set_option maxRecDepth 100000 in
set_option maxHeartbeats 16000000 in
theorem rline13_op (h : LnIn13 base b0 w V D F s0 r m Cs) (h1 : lettersOf s0 ≠ bytesW) (h2 : lettersOf s0 ≠ funcW) (h3 : 0 ≤ findW (lettersOf s0)) (h4 : m.funcs ≠ []) (h5 : fieldsP (findW (lettersOf s0)) (List.replicate r.length 0) ≠ none) (ns : List Int) (hsome : numsP (r.map lettersOf) = some ns) (y : InsV) (hy : fieldsP (findW (lettersOf s0)) ns = some y) :
    Calls Tryz.prog 41 #[.agg #[D, F], V] w (LineDn13 base m w ((s0 :: r).map lettersOf)) := by
  obtain ⟨n, hn⟩ : ∃ n, n = r.length := ⟨_, rfl⟩
  obtain ⟨DA, dc, hDe⟩ := owns_len h.mo.dat
  obtain ⟨FA, fc, hFe⟩ := owns_len h.mo.fns.fown
  obtain ⟨dn, hdn⟩ : ∃ n, n = m.data.length := ⟨_, rfl⟩
  obtain ⟨fn, hfn⟩ : ∃ n, n = m.funcs.length := ⟨_, rfl⟩
  rw [← hdn] at hDe
  rw [← hfn] at hFe
  subst hDe hFe
  obtain ⟨VA, vc, hVe⟩ := h.strs.len
  rw [List.length_cons, ← hn] at hVe
  subst hVe
  obtain ⟨vb, vo, hVA, hcap, hvb, hc0, vo', vc', hsl, hvt⟩ := strs_tail_is13 hn h.strs
  subst hVA
  have HT := Lib.hid hvt
  have hln : n ≤ 4000 := by rw [hn]; exact h.len
  have hn0 : (0 : Int) < (n : Int) + 1 := by omega
  have hwr : IntKind.i64.wrap ((n : Int) + 1 - 1) = (n : Int) := by rw [IntKind.wrap_i64]; omega
  have hfl : fn ≤ 900000 := by rw [hfn]; exact h.fns
  have HI := Lib.hid h
  have hL0 := Ln13.start h.mo h.hbw
  have hb0 : Below w.heap.size w ((w.alloc (.cells #[.slice DA dn dc, .slice FA fn fc] 25)).alloc (.cells #[.slice none 0 0, .slice none 0 0] 25)) := ((Below.refl _ w).alloc (Nat.le_refl _) _).alloc (by simp) _
  obtain ⟨W0, hW0⟩ : ∃ W0, W0 = (w.alloc (.cells #[.slice DA dn dc, .slice FA fn fc] 25)).alloc (.cells #[.slice none 0 0, .slice none 0 0] 25) := ⟨_, rfl⟩
  rw [← hW0] at hL0 hb0
  have L0 := Lib.hid hL0
  have B0 := Lib.hid hb0
  have HW0 := Lib.hid hW0
  have HN := Lib.hid (And.intro hn (And.intro hdn hfn))
  have HFD : Hid (∀ W, Calls Tryz.prog 74 #[.string s0] W (Makes W (.int .i64 (findW (lettersOf s0))))) := Lib.hid (fun W => by rw [← findV_W]; exact rfind_any s0 W)
  have HC0 : Hid (∀ W, Below w.heap.size w W → W.cell? ⟨vb, vo, none⟩ = some (.string s0)) := Lib.hid (fun W hb => (hb.cell (p := ⟨vb, vo, none⟩) hvb).trans hc0)
  have c0 := HC0.out W0 hb0
  clear hn hdn hfn hvt hL0 hb0 hW0 hvb hc0
  have tf := funcB_no h2
  have tb := bytesB_no h1
  have hf0 : (0 : Int) < (fn : Int) := by have : fn ≠ 0 := (by rw [HN.out.2.2]; exact fun e => h4 (List.eq_nil_of_length_eq_zero e)); omega
  have HLP : Hid (lineP m ((s0 :: r).map lettersOf) = (⟨m.data, addC m.funcs y⟩, 0)) := Lib.hid (by
    unfold lineP
    rw [List.map_cons, List.headD_cons, if_neg h1, if_neg h2, if_pos h3, if_neg (by rw [List.length_cons, List.length_map]; simp [h4, h5]), List.tail_cons, hsome]
    simp only [hy, Option.getD_some])
  have HNM : Hid (∀ W, Below w.heap.size w W → Calls Tryz.prog 76 #[.slice (some ⟨vb, vo', none⟩) n vc'] W (fun e w' => ∃ v, e = .returned (.tuple #[v, .bool true]) ∧ Owns w' W.heap.size 3 1 (IsNum .i64) v ns.length (ns.map (Value.int .i64)) ∧ Below W.heap.size W w')) := Lib.hid (fun W hb => by
    have hz := rnumbers13_any _ r W ((HT.out.below hb (Nat.le_refl _) (Nat.le_refl _)).more hb.size) (fun x hx => HI.out.sz x (List.mem_cons_of_mem _ hx)) (by have := HI.out.len; omega)
    rw [hsome] at hz
    exact hz)
  have HIN := Lib.hid (nums_canon _ _ hsome).2
  have HNL := Lib.hid (numsP_len _ _ hsome)
  have HMY : Hid (∀ W, Calls Tryz.prog 75 #[.int .i64 (findW (lettersOf s0)), .int .i64 n] W (Makes W (.bool true))) := Lib.hid (fun W => by
    have hz := rmany13_any (findW (lettersOf s0)) n W (by omega)
    rw [HN.out.1] at hz ⊢
    rw [show (fieldsP (findW (lettersOf s0)) (List.replicate r.length 0)).isSome = true from by rw [Option.isSome_iff_ne_none]; exact h5] at hz
    exact hz)
  have HOPI : Hid (InI (findW (lettersOf s0))) := Lib.hid (by have := find_low (lettersOf s0); unfold InI; omega)
  generalize findW (lettersOf s0) = op at *
  have HY := Lib.hid (fields_in13 hy HOPI.out HIN.out)
  have HFS : Hid (∀ (W : World) (V' : Value), IsNums .i64 W W.heap.size V' ns → Calls Tryz.prog 77 #[.int .i64 op, V'] W (fun e W' => ∃ A nx c, e = .returned (.tuple #[.agg (insCells y.op y.a y.b y.c y.n (.slice A nx c)), .bool true]) ∧ Owns W' W.heap.size 3 1 (IsNum .i64) (.slice A nx c) y.args.length (y.args.map (Value.int .i64)) ∧ Below W.heap.size W W')) := Lib.hid (fun W V' hn => by
    refine (rfields13_any op V' ns W hn (by have := HNL.out; have := HI.out.len; rw [List.length_map] at *; omega)).mono ?_
    rintro e W' ⟨y', A, nx, c, he, hz, hb⟩
    rw [hy] at he hz
    obtain ⟨e1, ho⟩ := hz y rfl
    subst e1
    exact ⟨A, nx, c, he, ho, hb⟩)
  obtain ⟨p, hp⟩ : ∃ p, fn = p + 1 := ⟨fn - 1, by omega⟩
  have HP : Hid (m.funcs.length = p + 1) := Lib.hid (HN.out.2.2.symm.trans hp)
  subst hp
  obtain ⟨gF, hgF⟩ : ∃ gF, FA = some ⟨gF, 0, none⟩ := by
    rcases HI.out.mo.fns.fown.1.2 with ⟨_, h00⟩ | ⟨g, c, _, h00, _⟩
    · have := HP.out; omega
    · injection h00 with h00
      exact ⟨g, h00⟩
  subst hgF
  have hpc : p + 1 ≤ fc := by
    rcases HI.out.mo.fns.fown.1.2 with ⟨h00, _⟩ | ⟨g, c, _, h00, _, _, h01, _⟩
    · cases h00
    · injection h00 with _ e2 e3
      omega
  have HCl : Hid ((m.funcs.getD p .zero).code.length ≤ 900000) := Lib.hid (HI.out.code _ (by rw [List.getD_eq_getElem?_getD, List.getElem?_eq_getElem (show p < m.funcs.length by have := HP.out; omega)]; exact List.getElem_mem _))
  have hw1 : IntKind.i64.wrap ((p : Int) + 1 - 1) = (p : Int) := by rw [IntKind.wrap_i64]; omega
  have hp0 : (0 : Int) ≤ (p : Int) := by omega
  have hplt : (p : Int) < (p : Int) + 1 := by omega
  have hf2 : decide ((0 : Int) ≤ op) = true := decide_eq_true h3
  clear h1 h2 h4 h5 hsome hy
  go_enter Tryz.func41, Tryz.ntmps41
  go_upto_region 17 with (first
    | (rw [← HW0.out])
    | (go_at_call 74; (with_reducible refine (HFD.out _).mono ?_); rintro e w2 ⟨rfl, hb⟩; have L2 := Lib.hid (L0.out.grow hb); have B2 := Lib.hid (B0.out.trans (hb.mono B0.out.size)); clear c0; have c0 := HC0.out _ B2.out; obtain ⟨x0, x1⟩ := L2.out.mdl.cells; obtain ⟨y0, y1⟩ := cells2 L2.out.res; have g0 := frozen_of_row w2 (w.heap.size + 1) 0 _ _ L2.out.res; have g1 := frozen_of_row w2 (w.heap.size + 1) 1 _ _ L2.out.res; clear hb)
    | (go_at_call 75; (with_reducible refine (HMY.out _).mono ?_); rintro e w3 ⟨rfl, hb⟩; have L3 := Lib.hid (L2.out.grow hb); have B3 := Lib.hid (B2.out.trans (hb.mono B2.out.size)); clear c0 x0 x1 y0 y1 g0 g1; have c0 := HC0.out _ B3.out; obtain ⟨x0, x1⟩ := L3.out.mdl.cells; obtain ⟨y0, y1⟩ := cells2 L3.out.res; have g0 := frozen_of_row w3 (w.heap.size + 1) 0 _ _ L3.out.res; have g1 := frozen_of_row w3 (w.heap.size + 1) 1 _ _ L3.out.res; clear hb)
    | (go_at_call 76; (with_reducible refine (HNM.out _ B3.out).mono ?_); rintro e w4 ⟨nv, rfl, hown, hb⟩; obtain ⟨NA, nc, hne⟩ := owns_len hown; subst hne; have L4 := Lib.hid (L3.out.grow hb); have B4 := Lib.hid (B3.out.trans (hb.mono B3.out.size)); have HON := Lib.hid hown; have HS4 := Lib.hid B3.out.size; clear c0 x0 x1 y0 y1 g0 g1; have c0 := HC0.out _ B4.out; obtain ⟨x0, x1⟩ := L4.out.mdl.cells; obtain ⟨y0, y1⟩ := cells2 L4.out.res; have g0 := frozen_of_row w4 (w.heap.size + 1) 0 _ _ L4.out.res; have g1 := frozen_of_row w4 (w.heap.size + 1) 1 _ _ L4.out.res; clear hb hown)
    | (go_at_call 77; (with_reducible refine (HFS.out _ _ (IsNums.of_owns HON.out (Nat.le_refl _))).mono ?_); rintro e w5 ⟨XA, nx, xc, rfl, hown, hb⟩; unfold insCells; have L5 := Lib.hid (L4.out.grow hb); have B5 := Lib.hid (B4.out.trans (hb.mono B4.out.size)); have HX5 := Lib.hid hown; have HS5 := Lib.hid B4.out.size; clear c0 x0 x1 y0 y1 g0 g1; obtain ⟨x0, x1⟩ := (L5.out.grow ((Below.refl w5.heap.size w5).alloc (Nat.le_refl _) (.cells #[.int .i64 y.op, .int .i64 y.a, .int .i64 y.b, .int .i64 y.c, .int .i64 y.n, .slice XA nx xc] 28))).mdl.cells; clear hb hown))
  have hal : Below w5.heap.size w5 (w5.alloc (.cells #[.int .i64 y.op, .int .i64 y.a, .int .i64 y.b, .int .i64 y.c, .int .i64 y.n, .slice XA nx xc] 28)) := (Below.refl w5.heap.size w5).alloc (Nat.le_refl _) _
  have hyx := heap_alloc_new w5 (.cells #[.int .i64 y.op, .int .i64 y.a, .int .i64 y.b, .int .i64 y.c, .int .i64 y.n, .slice XA nx xc] 28)
  obtain ⟨w6, hw6⟩ : ∃ w6, w6 = w5.alloc (.cells #[.int .i64 y.op, .int .i64 y.a, .int .i64 y.b, .int .i64 y.c, .int .i64 y.n, .slice XA nx xc] 28) := ⟨_, rfl⟩
  rw [← hw6] at hal hyx ⊢
  have L6 := Lib.hid (L5.out.grow hal)
  have B6 := Lib.hid (B5.out.trans (hal.mono B5.out.size))
  have HX6 : Hid (OutN 0 w6 (.slice XA nx xc) y.args) := Lib.hid ((Owns.below HX5.out hal (Nat.le_refl _)).base (Nat.zero_le _))
  have HXG : Hid (∀ g, (Value.slice XA nx xc).ownBlock = some g → base ≤ g) := Lib.hid (fun g hg => Nat.le_trans HI.out.hbw (Nat.le_trans HS5.out (HX5.out.lt hg).1))
  have HYX : Hid (w6.heap[w5.heap.size]? = some (.cells (insCells y.op y.a y.b y.c y.n (.slice XA nx xc)) 28 (0, 0))) := Lib.hid hyx
  clear hal hw6 x0 x1 hyx
  obtain ⟨Xs, hl0, hhx⟩ := L6.out.mdl.fns.last (fun e => by have := HP.out; rw [e] at this; simp at this)
  rw [show m.funcs.length - 1 = p by have := HP.out; omega] at hl0
  obtain ⟨CA, cc, hCe⟩ := owns_len hl0.own
  have hcF : w6.cell? ⟨gF, p * 4 + 3, none⟩ = some (Cs.getD p (.slice none 0 0)) := by
    have h := L6.out.mdl.fns.fn.own.1.cells (g := gF) rfl (p * 4 + 3) _ (cellsF_at m.funcs Cs L6.out.mdl.fns.fn.len (show p < m.funcs.length by have := HP.out; omega) (show 3 < 4 by omega))
    rw [show (⟨gF, 0, none⟩ : Addr).add (p * 4 + 3) = ⟨gF, p * 4 + 3, none⟩ from by unfold Addr.add; split <;> simp_all] at h
    exact h
  have HHX := Lib.hid hhx
  have HL0 := Lib.hid (show OwnC b0 w6.drew (Cs.getD p (.slice none 0 0)) (m.funcs.getD p .zero).code Xs from hl0.below (Below.refl _ w6).drew (Nat.le_refl _))
  have HL1 := HL0
  rw [hCe] at hcF HL1
  have HCe := Lib.hid hCe
  obtain ⟨n0, n1, n2, n3, n4, n5⟩ := cells6 HYX.out
  obtain ⟨cF, hF4⟩ := L6.out.mdl.fns.fn.own.typed (g := gF) rfl
  have HF4 := Lib.hid hF4
  have hcFa : (w6.alloc (.cells (insCells y.op y.a y.b y.c y.n (.slice XA nx xc)) 28)).cell? ⟨gF, p * 4 + 3, none⟩ = some (.slice CA (m.funcs.getD p .zero).code.length cc) := (((Below.refl w6.heap.size w6).alloc (Nat.le_refl _) (.cells (insCells y.op y.a y.b y.c y.n (.slice XA nx xc)) 28)).cell (p := ⟨gF, p * 4 + 3, none⟩) (heap_lt hF4)).trans hcF
  have HRd := Lib.hid (L6.out.mdl.grow (Below.refl _ w6).drew)
  have HXd : Hid (OutN 0 w6.drew (.slice XA nx xc) y.args) := Lib.hid (Owns.below HX6.out (Below.refl _ w6).drew (Nat.le_refl _))
  have HB4 := Lib.hid (show b0 ≤ w6.drew.heap.size from L6.out.mdl.fns.b0w)
  have HR6 := Lib.hid L6.out.res
  have hne1 : ¬ gF = w.heap.size := fun e => by subst e; exact typed_ne HF4.out (by decide) L6.out.mdl.box
  have hne2 : ¬ gF = w.heap.size + 1 := fun e => by subst e; exact typed_ne HF4.out (by decide) L6.out.res
  generalize hcn : (m.funcs.getD p .zero).code.length = cl at *
  have HCn2 := Lib.hid hcn
  clear hl0 hhx hCe hF4 hcn
  go_region_law (first | (refine step_outC13 (W := w6.drew) (y := y) (base := b0) rfl (.tmp 81) (.tmp 83) rfl rfl rfl rfl HL1.out HXd.out rfl HY.out.2 HB4.out (by have h1 := HCl.out; have h2 := HCn2.out; omega) ?_; intro V8 w8 hm; have hm2 : MoreC13 b0 w6.drew w8 (Cs.getD p (.slice none 0 0)) V8 (m.funcs.getD p .zero).code Xs y (.slice XA nx xc) := (by rw [HCe.out]; exact hm); have HMo := Lib.hid (HRd.out.ins HP.out hm2 HL0.out HHX.out HXG.out (by have h1 := HCl.out; have h2 := HCn2.out; omega)); have hbk : w8.heap[gF]? = w6.heap[gF]? := hm.blk gF (heap_lt HF4.out) (fun e => by obtain ⟨c, hc⟩ := HL1.out.own.typed e.symm; exact typed_ne hc (by decide) HF4.out); have hF8 := hbk.trans HF4.out; have g0 : w8.cell? ⟨gF, p * 4 + 3, none⟩ = w6.cell? ⟨gF, p * 4 + 3, none⟩ := (by simp only [World.cell?, hbk]); replace g0 := g0.trans hcF; have g1 := frozen_of_row w8 gF (p * 4 + 3) _ _ hF8; have hbx8 := (hm.blk w.heap.size HRd.out.lt (fun e => by obtain ⟨c, hc⟩ := HL1.out.own.typed e.symm; exact typed_ne hc (by decide) HRd.out.box)).trans HRd.out.box; obtain ⟨x0, x1⟩ := cells2 hbx8; have hr8 := (hm.blk (w.heap.size + 1) (heap_lt HR6.out) (fun e => by obtain ⟨c, hc⟩ := HL1.out.own.typed e.symm; exact typed_ne hc (by decide) HR6.out)).trans HR6.out; have HR8 := Lib.hid hr8; obtain ⟨y0, y1⟩ := cells2 hr8; have g2 := frozen_of_row w8 (w.heap.size + 1) 0 _ _ hr8; have g3 := frozen_of_row w8 (w.heap.size + 1) 1 _ _ hr8; obtain ⟨nA, nc8, hn8⟩ := owns_len hm.own.own; obtain ⟨n8, hn9⟩ : ∃ n8, n8 = ((m.funcs.getD p .zero).code ++ [y]).length := ⟨_, rfl⟩; rw [← hn9] at hn8; subst hn8; clear hn9 hm hm2 hF8 hbk hbx8 hr8))
  all_goals
    have hres := ((But.refl (OneBlock gF) w8).setCell (p := ⟨gF, p * 4 + 3, none⟩) (.inl rfl) (.slice nA n8 nc8)).heap HR8.out (fun e => by have e' : w.heap.size + 1 = gF := e; exact hne2 e'.symm)
    have HRES := Lib.hid hres
    clear hres
    go_wp2
    exact bodyPost_ret (v := .tuple #[.agg #[.slice DA dn dc, .slice (some ⟨gF, 0, none⟩) (p + 1) fc], .int .i64 0]) (by simp [results, Tryz.results41, go_sem, y0, y1]) rfl (ln_end13 HRES.out (But.below L6.out.bel (HMo.out.2.of_drew) (Nat.le_trans L6.out.hbw B6.out.size) (fun k hk => by have := HI.out.hbw; rcases hk with e | ⟨e, _⟩ <;> omega)) HI.out.hbw (by first | rw [HLP.out] | (have h9 := HLP.out; rw [List.map_cons] at h9; rw [h9])) (fun _ => ⟨_, _, by first | (rw [HLP.out]; exact HMo.out.1.mo) | (have h9 := HLP.out; rw [List.map_cons] at h9; rw [h9]; exact HMo.out.1.mo)⟩))
end
end Go.Proofs.YtohlifeenhaifaaGreatDoor
