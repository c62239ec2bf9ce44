/- VerifyTurned: one wrong call, or data, is told at its place. Out of what is wanted of the landed Find and Check (Verify12) and of the examples; no condition but these and that the module lies in memory. -/
import Derived.Test.YtfdblmjgpoocpaaGreatLaws12C
import Derived.Test.YtfdblmjgpoocpaaGreatCells12
import Derived.Test.YtfdblmjgpoocpaaGreatPick11
import Derived.StillTailTactics
namespace Go.Proofs.YtfdblmjgpoocpaaGreat
open Go.RowKit Go.Shelf
set_option linter.unusedVariables false
set_option linter.unusedSimpArgs false

/-- A copy of a module in a box. -/
structure Trn12 (w W : World) (xb : Nat) (D F : Value) (data : List Int) (fs : List FunV) : Prop where
  box : W.heap[xb]? = some (.cells #[D, F] 25 (0, 0))
  byt : IsBytes W W.heap.size D data
  fns : IsFuns W W.heap.size F fs
  bel : Below w.heap.size w W
theorem Trn12.grow {w W W' : World} {xb : Nat} {D F : Value} {data : List Int} {fs : List FunV} (h : Trn12 w W xb D F data fs) (hb : Below W.heap.size W W') : Trn12 w W' xb D F data fs :=
  ⟨box_below h.box hb, h.byt.grow hb, h.fns.grow hb, h.bel.trans (hb.mono h.bel.size)⟩
/-- An instruction's place in a copy, and what setting its number leaves. -/
structure Place12 (w W : World) (xb : Nat) (D F : Value) (data : List Int) (fs : List FunV) (k i fb fo g go nf cap n : Nat) : Prop where
  fcell : W.cell? ⟨fb, fo + k * 4 + 3, none⟩ = some (.slice (some ⟨g, go, none⟩) n cap)
  op : W.cell? ⟨g, go + i * 6, none⟩ = some (.int .i64 ((fs.getD k .zero).code.getD i .zero).op)
  num : W.cell? ⟨g, go + i * 6 + 4, none⟩ = some (.int .i64 ((fs.getD k .zero).code.getD i .zero).n)
  free : W.frozen? ⟨g, go + i * 6 + 4, none⟩ = false
  set : ∀ N, InI N → Trn12 w (W.setCell ⟨g, go + i * 6 + 4, none⟩ (.int .i64 N)).drew xb D F data (fs.set k ((fs.getD k .zero).turn i N))
theorem place12 {w W0 W W5 : World} {D F : Value} {data : List Int} {fs : List FunV} {Cs : List Value} {k i : Nat} (hb0 : Below w.heap.size w W0) (hd : OutB W0 W D data) (hf : OwnF 41 0 W F fs Cs) (hs : Sep8 W0.heap.size W.heap.size Cs)
    (hW5 : W5 = W.alloc (.cells #[D, F] 25)) (hx : ∀ x ∈ data, 0 ≤ x ∧ x < 256) (hl : fs.length ≤ 1000) (hk : k < fs.length) (hi : i < (fs.getD k .zero).code.length) :
    ∃ fb fo g go fcap cap, F = .slice (some ⟨fb, fo, none⟩) fs.length fcap ∧ Place12 w W5 W.heap.size D F data fs k i fb fo g go fs.length cap (fs.getD k .zero).code.length := by
  have ha : Below W.heap.size W W5 := by rw [hW5]; exact (Below.refl _ _).alloc (Nat.le_refl _) _
  have hbox : W5.heap[W.heap.size]? = some (.cells #[D, F] 25 (0, 0)) := by rw [hW5]; exact heap_alloc_new _ _
  have hf5 := hf.below ha (Nat.le_refl _)
  have hd5 : Owns W5 W0.heap.size 5 1 IsU8 D data.length (data.map (Value.int .u8)) := hd.own.below ha (Nat.le_refl _)
  have hb5 : Below w.heap.size w W5 := (hb0.trans (hd.bel.mono hb0.size)).trans (ha.mono (Nat.le_trans hb0.size hd.bel.size))
  obtain ⟨g, cap, hce, ⟨cs, hrow⟩, hop, hn, hset⟩ := turned_mem hf5 hs.ne hk hi hl
  obtain ⟨g2, cap2, cur2, hVe, v1, v2, v3, v4, v5, v6⟩ := hf5.own.1.2.resolve_left (fun h => by have := h.2; omega)
  have hgl : W0.heap.size ≤ g := (hs.lt k (by rw [hf.len]; exact hk) g (by rw [hce]; rfl)).1
  have hfc : W5.cell? ⟨g2, 0 + k * 4 + 3, none⟩ = some (.slice (some ⟨g, 0, none⟩) (fs.getD k .zero).code.length cap) := by
    have := hf5.own.1.cells (g := g2) (by rw [hVe]; rfl) (k * 4 + 3) _ (cellsF_at fs Cs hf.len hk (j := 3) (by omega))
    rw [← hce]
    refine Eq.trans ?_ this
    congr 1
  refine ⟨g2, 0, g, 0, cap2, cap, hVe, hfc, by rw [Nat.zero_add]; exact hop, by rw [Nat.zero_add]; exact hn, frozen_of_row _ _ _ _ _ hrow, fun N hN => ?_⟩
  rw [Nat.zero_add]
  have hbu : But (OneBlock g) W5 (W5.setCell ⟨g, i * 6 + 4, none⟩ (.int .i64 N)) := (But.refl (OneBlock g) W5).setCell (p := ⟨g, i * 6 + 4, none⟩) (.inl rfl) _
  have hf' := hset N hN
  have hd' := Owns.but hd5 hbu (fun q hq e => by
    obtain ⟨c1, t1⟩ := hd5.typed hq
    have e' : q = g := e
    subst e'
    exact absurd (other_type t1 hrow) (by decide))
  have hx' := hbu.heap hbox (show ¬ W.heap.size = g from fun e => by subst e; exact absurd (other_type hbox hrow) (by decide))
  have hb' := But.below hb5 hbu hb5.size (fun q hq => by have e : q = g := hq; have := hb0.size; omega)
  have hby : IsBytes (W5.setCell ⟨g, i * 6 + 4, none⟩ (.int .i64 N)) (W5.setCell ⟨g, i * 6 + 4, none⟩ (.int .i64 N)).heap.size D data := IsBytes.of_owns (Owns.base hd' (Nat.zero_le _)) hx (Nat.le_refl _)
  exact Trn12.grow ⟨hx', hby, hf', hb'⟩ (Below.refl _ (W5.setCell ⟨g, i * 6 + 4, none⟩ (.int .i64 N))).drew
theorem trn_made {w W0 W W5 : World} {D F : Value} {data : List Int} {fs : List FunV} {Cs : List Value} (hb0 : Below w.heap.size w W0) (hd : OutB W0 W D data) (hf : OwnF 41 0 W F fs Cs)
    (hW5 : W5 = W.alloc (.cells #[D, F] 25)) (hx : ∀ x ∈ data, 0 ≤ x ∧ x < 256) (hl : fs.length ≤ 1000) : Trn12 w W5 W.heap.size D F data fs := by
  have ha : Below W.heap.size W W5 := by rw [hW5]; exact (Below.refl _ _).alloc (Nat.le_refl _) _
  have hbox : W5.heap[W.heap.size]? = some (.cells #[D, F] 25 (0, 0)) := by rw [hW5]; exact heap_alloc_new _ _
  have hby : IsBytes W W.heap.size D data := IsBytes.of_owns (Owns.base hd.own (Nat.zero_le _)) hx (Nat.le_refl _)
  exact ⟨hbox, hby.grow ha, (hf.funs (by omega)).grow ha, (hb0.trans (hd.bel.mono hb0.size)).trans (ha.mono (Nat.le_trans hb0.size hd.bel.size))⟩
theorem turn_call {m : ModV} {y : InsV} (ho : y.op = 28) (hl : m.funcs.length ≤ 63) : Turns y m.funcs.length ∧ insE m (y.with m.funcs.length) = 13 := by
  refine ⟨.inl ⟨ho, by omega, by omega⟩, ?_⟩
  unfold insE InsV.with
  rw [if_pos ⟨ho, Int.le_refl _⟩]
theorem turn_data {m : ModV} {y : InsV} (ho : y.op = 24) (hl : m.data.length ≤ 8191) : Turns y (m.data.length + 1) ∧ insE m (y.with (m.data.length + 1)) = 5 := by
  refine ⟨.inr ⟨ho, by omega, by omega⟩, ?_⟩
  unfold insE InsV.with
  dsimp only
  rw [if_neg (by omega), if_neg (by omega), if_pos ⟨ho, by omega⟩]
/-- What the statement finds of the copy. -/
structure RT12 (w W : World) (D F : Value) (op : Int) (k i g go nf nd : Nat) : Prop where
  c28 : op = 28 → Calls Tryz.prog 17 #[.agg #[D, F], .int .i64 k, .int .i64 i, .int .i64 13] (W.setCell ⟨g, go + i * 6 + 4, none⟩ (.int .i64 nf)).drew fun e w' => e = .returned (.bool true) ∧ Below w.heap.size w w'
  c24 : op = 24 → Calls Tryz.prog 17 #[.agg #[D, F], .int .i64 k, .int .i64 i, .int .i64 5] (W.setCell ⟨g, go + i * 6 + 4, none⟩ (.int .i64 ((nd : Int) + 1))).drew fun e w' => e = .returned (.bool true) ∧ Below w.heap.size w w'
  c0 : Calls Tryz.prog 17 #[.agg #[D, F], .int .i64 (-1), .int .i64 (-1), .int .i64 0] W fun e w' => e = .returned (.bool true) ∧ Below w.heap.size w w'
set_option maxRecDepth 100000 in
set_option maxHeartbeats 32000000 in
theorem turned12_law (S : Verify12) (HAw : ∀ W, Calls Tryz.prog 9 #[] W (Makes W (.bool true))) (D F : Value) (data : List Int) (fs : List FunV) (which place : Int) (w : World) (hD : IsBytes w w.heap.size D data) (hF : IsFuns w w.heap.size F fs) : Calls Tryz.prog 7 #[.agg #[D, F], .int .i64 which, .int .i64 place] w (Makes w (.bool true)) := by
  have HA := Lib.hid HAw
  have HM0 := Lib.hid (one12_new w D F)
  have HLg := Lib.hid (fun W (hb : Below w.heap.size w W) => longModule_any D F data fs W (hD.grow hb) (hF.grow hb))
  have HCH := Lib.hid (fun W (hb : Below w.heap.size w W) => S.check D F data fs W (hD.grow hb) (hF.grow hb))
  cases hlg : longM ⟨data, fs⟩
  case true =>
    rw [hlg] at HLg
    obtain ⟨DA, dc, hDe⟩ := hD.len
    obtain ⟨FA, fc, hFe⟩ := hF.len
    subst hDe hFe
    clear hlg hD hF HAw S HCH
    go_enter Tryz.func7, Tryz.ntmps7
    go_wp2_with (first
      | (go_at_call 9; (with_reducible refine (HA.out _).mono ?_); rintro e w2 ⟨rfl, hb⟩; have H2 := Lib.hid (HM0.out.grow hb); obtain ⟨a0, a1⟩ := cells2 H2.out.one; clear hb)
      | (go_at_call 8; (with_reducible refine (HLg.out _ H2.out.bel).mono ?_); rintro e w3 ⟨rfl, hb⟩; have H3 := Lib.hid (H2.out.grow hb); clear hb))
    go_ret
    exact ⟨rfl, H3.out.bel⟩
  rw [hlg] at HLg
  obtain ⟨hl1, hl2, hl3⟩ := long_few hlg
  dsimp only at hl1 hl2 hl3
  have HCp := Lib.hid (fun W (hb : Below w.heap.size w W) => copyModule_sep D F data fs W (hD.grow hb) (hF.grow hb) hlg)
  have hxx := hD.1
  have hacc := findM_acc (m := ⟨data, fs⟩)
  have HFI := Lib.hid (fun D' F' data' fs' z W (hd : IsBytes W W.heap.size D' data') (hf : IsFuns W W.heap.size F' fs') (hz : findM ⟨data', fs'⟩ = z) => found12_yes S (f := z.1) (i := z.2.1) (e := z.2.2) hz W hd hf)
  by_cases hc : (findM ⟨data, fs⟩).2.2 = 0
  · have hm := hacc.1 hc
    rw [hc] at HCH
    have HMA := Lib.hid hm
    have hpos : 0 < fs.length := by
      have := (err_funs hm.err).2.1
      have := of_decide_eq_true this
      dsimp only at this
      omega
    obtain ⟨k, hk⟩ : ∃ k : Nat, pkV which fs.length = k := ⟨(pkV which fs.length).toNat, by have := pk_bd which (n := (fs.length : Int)) (by omega); omega⟩
    have hkb := pk_bd which (n := (fs.length : Int)) (by omega)
    have HP1 := Lib.hid (fun W => pk_any which fs.length W (by omega) (by omega))
    rw [hk] at hkb HP1
    have hkl : k < fs.length := by omega
    have hmem : fs.getD k .zero ∈ fs := by simp [List.getD, List.getElem?_eq_getElem hkl]
    have hn60 := (hl3 _ hmem).1
    have hnp := (good10 (hm.flow k hkl)).pos
    dsimp only at hnp
    obtain ⟨i, hi⟩ : ∃ i : Nat, pkV place (fs.getD k .zero).code.length = i := ⟨(pkV place (fs.getD k .zero).code.length).toNat, by have := pk_bd place (n := ((fs.getD k .zero).code.length : Int)) (by omega); omega⟩
    have hib := pk_bd place (n := ((fs.getD k .zero).code.length : Int)) (by omega)
    have HP2 := Lib.hid (fun W => pk_any place (fs.getD k .zero).code.length W (by omega) (by omega))
    rw [hi] at hib HP2
    have hil : i < (fs.getD k .zero).code.length := by omega
    have HPL := Lib.hid (fun W0 W D' F' Cs (hb0 : Below w.heap.size w W0) (hd : OutB W0 W D' data) (hf : OwnF 41 0 W F' fs Cs) (hs : Sep8 W0.heap.size W.heap.size Cs) => place12 (k := k) (i := i) hb0 hd hf hs rfl hxx (by omega) hkl hil)
    have HTM := Lib.hid (fun W0 W D' F' Cs (hb0 : Below w.heap.size w W0) (hd : OutB W0 W D' data) (hf : OwnF 41 0 W F' fs Cs) => trn_made (Cs := Cs) hb0 hd hf rfl hxx (by omega))
    have HTF := Lib.hid (fun N ht hne => turned_find (m := ⟨data, fs⟩) (k := k) (i := i) (N := N) hm hkl hil ht hne)
    have HTC := Lib.hid (fun ho => turn_call (m := ⟨data, fs⟩) (y := (fs.getD k .zero).code.getD i .zero) ho (by dsimp only; omega))
    have HTD := Lib.hid (fun ho => turn_data (m := ⟨data, fs⟩) (y := (fs.getD k .zero).code.getD i .zero) ho (by dsimp only; omega))
    dsimp only at HTF HTC HTD
    have HOK := Lib.hid hm.find
    obtain ⟨op, hop⟩ : ∃ op, op = ((fs.getD k .zero).code.getD i .zero).op := ⟨_, rfl⟩
    obtain ⟨n0, hn0⟩ : ∃ n0, n0 = ((fs.getD k .zero).code.getD i .zero).n := ⟨_, rfl⟩
    have HPL2 : Hid (∀ (W0 W : World) D' F' Cs, Below w.heap.size w W0 → OutB W0 W D' data → OwnF 41 0 W F' fs Cs → Sep8 W0.heap.size W.heap.size Cs → ∃ fb fo g go fcap cap, F' = .slice (some ⟨fb, fo, none⟩) fs.length fcap ∧
        ((W.alloc (.cells #[D', F'] 25)).cell? ⟨fb, fo + k * 4 + 3, none⟩ = some (.slice (some ⟨g, go, none⟩) (fs.getD k .zero).code.length cap) ∧ (W.alloc (.cells #[D', F'] 25)).cell? ⟨g, go + i * 6, none⟩ = some (.int .i64 op) ∧ (W.alloc (.cells #[D', F'] 25)).cell? ⟨g, go + i * 6 + 4, none⟩ = some (.int .i64 n0) ∧ (W.alloc (.cells #[D', F'] 25)).frozen? ⟨g, go + i * 6 + 4, none⟩ = false) ∧
        RT12 w (W.alloc (.cells #[D', F'] 25)) D' F' op k i g go fs.length data.length) := Lib.hid (fun W0 W D' F' Cs hb0 hd hf hs => by
      obtain ⟨fb, fo, g, go, fcap, cap, hFe, hp⟩ := HPL.out W0 W D' F' Cs hb0 hd hf hs
      have ht := HTM.out W0 W D' F' Cs hb0 hd hf
      refine ⟨fb, fo, g, go, fcap, cap, hFe, ⟨hp.fcell, by rw [hop]; exact hp.op, by rw [hn0]; exact hp.num, hp.free⟩, ⟨fun ho => ?_, fun ho => ?_, ?_⟩⟩
      · obtain ⟨h1, h2⟩ := HTC.out (hop.symm.trans ho)
        have h3 := hp.set fs.length (by unfold InI; omega)
        have h4 := HTF.out fs.length h1 (by rw [h2]; decide)
        rw [h2] at h4
        exact (HFI.out D' F' data _ _ _ h3.byt h3.fns h4).mono fun e w' hh => ⟨hh.1, h3.bel.trans (hh.2.mono h3.bel.size)⟩
      · obtain ⟨h1, h2⟩ := HTD.out (hop.symm.trans ho)
        have h3 := hp.set ((data.length : Int) + 1) (by unfold InI; omega)
        have h4 := HTF.out ((data.length : Int) + 1) h1 (by rw [h2]; decide)
        rw [h2] at h4
        exact (HFI.out D' F' data _ _ _ h3.byt h3.fns h4).mono fun e w' hh => ⟨hh.1, h3.bel.trans (hh.2.mono h3.bel.size)⟩
      · exact (HFI.out D' F' data _ _ _ ht.byt ht.fns HOK.out).mono fun e w' hh => ⟨hh.1, ht.bel.trans (hh.2.mono ht.bel.size)⟩)
    obtain ⟨DA, dc, hDe⟩ := hD.len
    obtain ⟨FA, fc, hFe⟩ := hF.len
    subst hDe hFe
    have HCp2 : Hid (∀ W, Below w.heap.size w W → Calls Tryz.prog 10 #[.agg #[.slice DA data.length dc, .slice FA fs.length fc]] W fun e w' => ∃ S c D' F', e = .returned (.agg #[D', F']) ∧ D' = .slice S data.length c ∧ w'.heap.size = w'.heap.size ∧ ∃ fb fo g go fcap cap, F' = .slice (some ⟨fb, fo, none⟩) fs.length fcap ∧
        ((w'.alloc (.cells #[D', F'] 25)).cell? ⟨fb, fo + k * 4 + 3, none⟩ = some (.slice (some ⟨g, go, none⟩) (fs.getD k .zero).code.length cap) ∧ (w'.alloc (.cells #[D', F'] 25)).cell? ⟨g, go + i * 6, none⟩ = some (.int .i64 op) ∧ (w'.alloc (.cells #[D', F'] 25)).cell? ⟨g, go + i * 6 + 4, none⟩ = some (.int .i64 n0) ∧ (w'.alloc (.cells #[D', F'] 25)).frozen? ⟨g, go + i * 6 + 4, none⟩ = false) ∧
        RT12 w (w'.alloc (.cells #[D', F'] 25)) D' F' op k i g go fs.length data.length) := Lib.hid (fun W hb => (HCp.out W hb).mono fun e w' hh => by
      obtain ⟨D', F', Cs, he, hd, hf, hs⟩ := hh
      obtain ⟨S', c', hde⟩ := owns_len hd.own
      exact ⟨S', c', D', F', he, hde, rfl, HPL2.out W w' D' F' Cs hb hd hf hs⟩)
    generalize (fs.getD k .zero).code.length = n at *
    generalize data.length = nd at *
    generalize fs.length = nf at *
    have hnz : (n == 0) = false := by simp; omega
    have hnfz : (nf == 0) = false := by simp; omega
    have k0 : (0 : Int) ≤ (k : Int) := by omega
    have k1 : (k : Int) < (nf : Int) := by omega
    have i0 : (0 : Int) ≤ (i : Int) := by omega
    have i1 : (i : Int) < (n : Int) := by omega
    have nI : (n : Int) ≤ 60 := by omega
    have nI0 : (0 : Int) < (n : Int) := by omega
    have nfI : (nf : Int) ≤ 6 := by omega
    have nfI0 : (0 : Int) < (nf : Int) := by omega
    have ndI : (nd : Int) ≤ 300 := by omega
    clear hlg hD hF HAw S hl1 hl2 hl3 hxx hacc hc hm hpos hk hkb hkl hmem hn60 hnp hi hib hil HPL HTM HTF HTC HTD HOK hop hn0 HPL2 HCp HFI HMA
    by_cases h28 : op = 28
    · subst h28
      go_enter Tryz.func7, Tryz.ntmps7
      go_wp2_with (first
        | (go_at_call 9; (with_reducible refine (HA.out _).mono ?_); rintro e w2 ⟨rfl, hb⟩; have H2 := Lib.hid (HM0.out.grow hb); obtain ⟨a0, a1⟩ := cells2 H2.out.one; clear hb)
        | (go_at_call 8; (with_reducible refine (HLg.out _ H2.out.bel).mono ?_); rintro e w3 ⟨rfl, hb⟩; have H3 := Lib.hid (H2.out.grow hb); obtain ⟨b0, b1⟩ := cells2 H3.out.one; clear hb)
        | (go_at_call 13; (with_reducible refine (HCH.out _ H3.out.bel).mono ?_); rintro e w4 ⟨rfl, hb⟩; have H4 := Lib.hid (H3.out.grow hb); obtain ⟨d0, d1⟩ := cells2 H4.out.one; clear hb)
        | (go_at_call 10; (with_reducible refine (HCp2.out _ H4.out.bel).mono ?_); rintro e w5 ⟨S5, c5, D5, F5, rfl, rfl, -, fb, fo, g, go, fcap, cap, rfl, ⟨q1, q2, q3, q4⟩, hcc⟩; have HFD := Lib.hid (hcc.c28 rfl); obtain ⟨x0, x1⟩ := cells2 (heap_alloc_new w5 (.cells #[.slice S5 nd c5, .slice (some ⟨fb, fo, none⟩) nf fcap] 25)); clear hcc)
        | (go_at_call 19; (with_reducible refine (HP1.out _).mono ?_); rintro e w6 ⟨rfl, hw⟩; subst hw)
        | (go_at_call 19; (with_reducible refine (HP2.out _).mono ?_); rintro e w6 ⟨rfl, hw⟩; subst hw))
      generalize w5.alloc (.cells #[.slice S5 nd c5, .slice (some ⟨fb, fo, none⟩) nf fcap] 25) = W5 at *
      go_still_tail 12, (by kernel_rfl)
      go_wp2_with (go_at_call 17; (with_reducible refine HFD.out.mono ?_); rintro e w9 ⟨rfl, hb⟩; have HB9 := Lib.hid hb; clear hb)
      go_ret
      exact ⟨by first | rfl | simp, HB9.out⟩
    · by_cases h24 : op = 24
      · subst h24
        go_enter Tryz.func7, Tryz.ntmps7
        go_wp2_with (first
          | (go_at_call 9; (with_reducible refine (HA.out _).mono ?_); rintro e w2 ⟨rfl, hb⟩; have H2 := Lib.hid (HM0.out.grow hb); obtain ⟨a0, a1⟩ := cells2 H2.out.one; clear hb)
          | (go_at_call 8; (with_reducible refine (HLg.out _ H2.out.bel).mono ?_); rintro e w3 ⟨rfl, hb⟩; have H3 := Lib.hid (H2.out.grow hb); obtain ⟨b0, b1⟩ := cells2 H3.out.one; clear hb)
          | (go_at_call 13; (with_reducible refine (HCH.out _ H3.out.bel).mono ?_); rintro e w4 ⟨rfl, hb⟩; have H4 := Lib.hid (H3.out.grow hb); obtain ⟨d0, d1⟩ := cells2 H4.out.one; clear hb)
          | (go_at_call 10; (with_reducible refine (HCp2.out _ H4.out.bel).mono ?_); rintro e w5 ⟨S5, c5, D5, F5, rfl, rfl, -, fb, fo, g, go, fcap, cap, rfl, ⟨q1, q2, q3, q4⟩, hcc⟩; have HFD := Lib.hid (hcc.c24 rfl); obtain ⟨x0, x1⟩ := cells2 (heap_alloc_new w5 (.cells #[.slice S5 nd c5, .slice (some ⟨fb, fo, none⟩) nf fcap] 25)); clear hcc)
          | (go_at_call 19; (with_reducible refine (HP1.out _).mono ?_); rintro e w6 ⟨rfl, hw⟩; subst hw)
          | (go_at_call 19; (with_reducible refine (HP2.out _).mono ?_); rintro e w6 ⟨rfl, hw⟩; subst hw))
        generalize w5.alloc (.cells #[.slice S5 nd c5, .slice (some ⟨fb, fo, none⟩) nf fcap] 25) = W5 at *
        go_still_tail 13, (by kernel_rfl)
        go_wp2_with (go_at_call 17; (with_reducible refine HFD.out.mono ?_); rintro e w9 ⟨rfl, hb⟩; have HB9 := Lib.hid hb; clear hb)
        go_ret
        exact ⟨by first | rfl | simp, HB9.out⟩
      · have t28 : (op == 28) = false := by simpa using h28
        have t24 : (op == 24) = false := by simpa using h24
        go_enter Tryz.func7, Tryz.ntmps7
        go_wp2_with (first
          | (go_at_call 9; (with_reducible refine (HA.out _).mono ?_); rintro e w2 ⟨rfl, hb⟩; have H2 := Lib.hid (HM0.out.grow hb); obtain ⟨a0, a1⟩ := cells2 H2.out.one; clear hb)
          | (go_at_call 8; (with_reducible refine (HLg.out _ H2.out.bel).mono ?_); rintro e w3 ⟨rfl, hb⟩; have H3 := Lib.hid (H2.out.grow hb); obtain ⟨b0, b1⟩ := cells2 H3.out.one; clear hb)
          | (go_at_call 13; (with_reducible refine (HCH.out _ H3.out.bel).mono ?_); rintro e w4 ⟨rfl, hb⟩; have H4 := Lib.hid (H3.out.grow hb); obtain ⟨d0, d1⟩ := cells2 H4.out.one; clear hb)
          | (go_at_call 10; (with_reducible refine (HCp2.out _ H4.out.bel).mono ?_); rintro e w5 ⟨S5, c5, D5, F5, rfl, rfl, -, fb, fo, g, go, fcap, cap, rfl, ⟨q1, q2, q3, q4⟩, hcc⟩; have HFD := Lib.hid hcc.c0; obtain ⟨x0, x1⟩ := cells2 (heap_alloc_new w5 (.cells #[.slice S5 nd c5, .slice (some ⟨fb, fo, none⟩) nf fcap] 25)); clear hcc)
          | (go_at_call 19; (with_reducible refine (HP1.out _).mono ?_); rintro e w6 ⟨rfl, hw⟩; subst hw)
          | (go_at_call 19; (with_reducible refine (HP2.out _).mono ?_); rintro e w6 ⟨rfl, hw⟩; subst hw)
          | (go_at_call 17; (with_reducible refine HFD.out.mono ?_); rintro e w9 ⟨rfl, hb⟩; have HB9 := Lib.hid hb; clear hb))
        go_ret
        exact ⟨by first | rfl | simp, HB9.out⟩
  · have hne : ((findM ⟨data, fs⟩).2.2 != 0) = true := by simpa using hc
    generalize (findM ⟨data, fs⟩).2.2 = z at *
    obtain ⟨DA, dc, hDe⟩ := hD.len
    obtain ⟨FA, fc, hFe⟩ := hF.len
    subst hDe hFe
    clear hlg hD hF HAw S hacc hc HCp hxx HFI hl1 hl2 hl3
    go_enter Tryz.func7, Tryz.ntmps7
    go_wp2_with (first
      | (go_at_call 9; (with_reducible refine (HA.out _).mono ?_); rintro e w2 ⟨rfl, hb⟩; have H2 := Lib.hid (HM0.out.grow hb); obtain ⟨a0, a1⟩ := cells2 H2.out.one; clear hb)
      | (go_at_call 8; (with_reducible refine (HLg.out _ H2.out.bel).mono ?_); rintro e w3 ⟨rfl, hb⟩; have H3 := Lib.hid (H2.out.grow hb); obtain ⟨b0, b1⟩ := cells2 H3.out.one; clear hb)
      | (go_at_call 13; (with_reducible refine (HCH.out _ H3.out.bel).mono ?_); rintro e w4 ⟨rfl, hb⟩; have H4 := Lib.hid (H3.out.grow hb); clear hb))
    go_ret
    exact ⟨rfl, H4.out.bel⟩
end Go.Proofs.YtfdblmjgpoocpaaGreat
