/- VerifyMore: what is accepted is accepted, too, with more data, and with one of its own functions once more behind the others. Out of what is wanted of the landed Find and Check (Verify12) and of the examples; no condition but these and that the module lies in memory. -/
import Derived.Test.YtfdblmjgpoocpaaGreatLaws12C
import Derived.Test.YtfdblmjgpoocpaaGreatPick11
import Derived.Deep.RegionLaw
namespace Go.Proofs.YtfdblmjgpoocpaaGreat
open Go.RowKit Go.Shelf
set_option linter.unusedVariables false
set_option linter.unusedSimpArgs false

/-- A copy of a module in a box, all made by the call. -/
structure Mor12 (w W : World) (xb : Nat) (D F : Value) (data : List Int) (fs : List FunV) (Cs : List Value) : Prop where
  box : W.heap[xb]? = some (.cells #[D, F] 25 (0, 0))
  dat : OutB w W D data
  fns : OwnF 41 0 W F fs Cs
  low : ∀ g, F.ownBlock = some g → w.heap.size ≤ g
  xlo : w.heap.size ≤ xb
section
variable {w W W' : World} {xb : Nat} {D F : Value} {data : List Int} {fs : List FunV} {Cs : List Value}
theorem Mor12.grow (h : Mor12 w W xb D F data fs Cs) (hb : Below W.heap.size W W') : Mor12 w W' xb D F data fs Cs :=
  ⟨box_below h.box hb, h.dat.grow hb, h.fns.below hb (Nat.le_refl _), h.low, h.xlo⟩
theorem mor_made {W0 : World} (hb0 : Below w.heap.size w W0) (hd : OutB W0 W D data) (hf : OwnF 41 0 W F fs Cs) (hl : ∀ g, F.ownBlock = some g → W0.heap.size ≤ g) : Mor12 w (W.alloc (.cells #[D, F] 25)) W.heap.size D F data fs Cs := by
  have ha : Below W.heap.size W (W.alloc (.cells #[D, F] 25)) := (Below.refl _ _).alloc (Nat.le_refl _) _
  exact ⟨heap_alloc_new _ _, (hd.up hb0).grow ha, hf.below ha (Nat.le_refl _), fun g hg => Nat.le_trans hb0.size (hl g hg), Nat.le_trans hb0.size hd.bel.size⟩
/-- More data, stored. -/
theorem mor_data (h : Mor12 w W xb D F data fs Cs) (hx : W.heap.size = xb + 1) {V : Value} {ys : List Int} (ho : OutB w W' V (data ++ ys)) (hk : ∀ i, i < W.heap.size → some i ≠ D.ownBlock → W'.heap[i]? = W.heap[i]?) :
    W'.heap[xb]? = some (.cells #[D, F] 25 (0, 0)) ∧ Mor12 w (W'.setCell ⟨xb, 0, none⟩ V) xb V F (data ++ ys) fs Cs := by
  have typ : ∀ (u : TypeId), u ≠ 5 → ∀ g c, W.heap[g]? = some (.cells c u (0, 0)) → ¬ some g = D.ownBlock := fun u hu g c hc e => by
    obtain ⟨c2, hc2⟩ := h.dat.own.typed e.symm
    exact hu (other_type hc hc2)
  have h1 : W'.heap[xb]? = some (.cells #[D, F] 25 (0, 0)) := (hk xb (by omega) (typ _ (by decide) _ _ h.box)).trans h.box
  have hsz : W.heap.size ≤ W'.heap.size := by have := heap_lt h1; omega
  have hb : But (fun k => some k = D.ownBlock) W W' := ⟨ho.bel.os.trans h.dat.bel.os.symm, ho.bel.tape.trans h.dat.bel.tape.symm, ho.bel.output.trans h.dat.bel.output.symm, hsz, fun k hk2 hn => hk k hk2 hn⟩
  have hf := h.fns.but hb (fun g hg => by obtain ⟨c, hc⟩ := h.fns.own.typed hg; exact typ _ (by decide) _ _ hc) (fun k hk2 => absurd hk2 (Nat.not_lt_zero _)) (typ _ (by decide)) (typ _ (by decide))
  have hb2 := but_one W' xb 0 V
  have typ2 : ∀ (u : TypeId), u ≠ 25 → ∀ g c, W'.heap[g]? = some (.cells c u (0, 0)) → ¬ OneBlock xb g := fun u hu g c hc e => by
    have e' : g = xb := e
    subst e'
    exact hu (other_type hc h1)
  refine ⟨h1, heap_setCell_same W' xb 0 _ _ V h1, ⟨Owns.but ho.own hb2 (fun g hg => ?_), But.below ho.bel hb2 ho.bel.size (fun k hk2 => by have e : k = xb := hk2; have := h.xlo; omega)⟩, hf.but hb2 (fun g hg => ?_) (fun k hk2 => absurd hk2 (Nat.not_lt_zero _)) (typ2 _ (by decide)) (typ2 _ (by decide)), h.low, h.xlo⟩
  · obtain ⟨c, hc⟩ := ho.own.typed hg
    exact typ2 _ (by decide) _ _ hc
  · obtain ⟨c, hc⟩ := hf.own.typed hg
    exact typ2 _ (by decide) _ _ hc
/-- One function more, stored. -/
theorem mor_fun (h : Mor12 w W xb D F data fs Cs) {V C : Value} {f : FunV} (hm : MoreF 41 0 W W' F V fs Cs f C) (hw : V.ownBlock = F.ownBlock ∨ V.ownBlock = some (W.heap.size + 1)) :
    W'.heap[xb]? = some (.cells #[D, F] 25 (0, 0)) ∧ Mor12 w (W'.setCell ⟨xb, 1, none⟩ V) xb D V data (fs ++ [f]) (Cs ++ [C]) := by
  have typ : ∀ (u : TypeId), u ≠ 41 → ∀ g c, W.heap[g]? = some (.cells c u (0, 0)) → ¬ some g = F.ownBlock := fun u hu g c hc e => by
    obtain ⟨c2, hc2⟩ := h.fns.own.typed e.symm
    exact hu (other_type hc hc2)
  have hb : But (fun k => some k = F.ownBlock) W W' := ⟨hm.bel.os, hm.bel.tape, hm.bel.output, hm.size, fun k hk hn => hm.blk k hk hn⟩
  have h1 : W'.heap[xb]? = some (.cells #[D, F] 25 (0, 0)) := hb.heap h.box (typ _ (by decide) _ _ h.box)
  have hbel : Below w.heap.size w W' := But.below h.dat.bel hb h.dat.bel.size (fun k hk => h.low k hk.symm)
  have hd : OutB w W' D data := ⟨Owns.but h.dat.own hb (fun g hg => by obtain ⟨c, hc⟩ := h.dat.own.typed hg; exact typ _ (by decide) _ _ hc), hbel⟩
  have hb2 := but_one W' xb 1 V
  have typ2 : ∀ (u : TypeId), u ≠ 25 → ∀ g c, W'.heap[g]? = some (.cells c u (0, 0)) → ¬ OneBlock xb g := fun u hu g c hc e => by
    have e' : g = xb := e
    subst e'
    exact hu (other_type hc h1)
  refine ⟨h1, heap_setCell_same W' xb 1 _ _ V h1, ⟨Owns.but hd.own hb2 (fun g hg => ?_), But.below hd.bel hb2 hd.bel.size (fun k hk2 => by have e : k = xb := hk2; have := h.xlo; omega)⟩, hm.own.but hb2 (fun g hg => ?_) (fun k hk2 => absurd hk2 (Nat.not_lt_zero _)) (typ2 _ (by decide)) (typ2 _ (by decide)), fun g hg => ?_, h.xlo⟩
  · obtain ⟨c, hc⟩ := hd.own.typed hg
    exact typ2 _ (by decide) _ _ hc
  · obtain ⟨c, hc⟩ := hm.own.own.typed hg
    exact typ2 _ (by decide) _ _ hc
  · rcases hw with e | e
    · exact h.low g (e ▸ hg)
    · rw [e] at hg
      injection hg with hg
      have := h.dat.bel.size
      omega
/-- The row of a function in a copy. -/
theorem mor_row (h : Mor12 w W xb D F data fs Cs) {k : Nat} (hk : k < fs.length) : ∃ fb fo fcap, F = .slice (some ⟨fb, fo, none⟩) fs.length fcap ∧ W.cell? ⟨fb, fo + k * 4, none⟩ = some (.int .i64 (fs.getD k .zero).params) ∧ W.cell? ⟨fb, fo + k * 4 + 1, none⟩ = some (.int .i64 (fs.getD k .zero).regs) ∧ W.cell? ⟨fb, fo + k * 4 + 2, none⟩ = some (.int .i64 (fs.getD k .zero).area) ∧ W.cell? ⟨fb, fo + k * 4 + 3, none⟩ = some (Cs.getD k (.slice none 0 0)) ∧ fb < W.heap.size := by
  obtain ⟨g2, cap2, cur2, hVe, v1, v2, v3, v4, v5, v6⟩ := h.fns.own.1.2.resolve_left (fun h => by have := h.2; omega)
  have hc : ∀ j, j < 4 → W.cell? ⟨g2, 0 + k * 4 + j, none⟩ = some (funCell (fs.getD k .zero) (Cs.getD k (.slice none 0 0)) j) := fun j hj => by
    have := h.fns.own.1.cells (g := g2) (by rw [hVe]; rfl) (k * 4 + j) _ (cellsF_at fs Cs h.fns.len hk hj)
    rw [← this]
    congr 1
    unfold Addr.add
    split <;> simp_all
  exact ⟨g2, 0, cap2, hVe, hc 0 (by omega), hc 1 (by omega), hc 2 (by omega), hc 3 (by omega), heap_lt v2⟩
end
set_option maxRecDepth 100000 in
set_option maxHeartbeats 32000000 in
theorem more12_law (S : Verify12) (HAw : ∀ W, Calls Tryz.prog 9 #[] W (Makes W (.bool true))) (D F : Value) (data : List Int) (fs : List FunV) (Y : Value) (ys : List Int) (which : Int) (w : World) (hD : IsBytes w w.heap.size D data) (hF : IsFuns w w.heap.size F fs) (hY : IsBytes w w.heap.size Y ys) : Calls Tryz.prog 6 #[.agg #[D, F], Y, .int .i64 which] w (Makes w (.bool true)) := by
  have HA := Lib.hid HAw
  have HM0 := Lib.hid (one12_new w D F)
  have HLg := Lib.hid (fun W (hb : Below w.heap.size w W) => longModule_any D F data fs W (hD.grow hb) (hF.grow hb))
  have HCH := Lib.hid (fun W (hb : Below w.heap.size w W) => S.check D F data fs W (hD.grow hb) (hF.grow hb))
  have HSC := Lib.hid (fun D' F' data' fs' W (hd : IsBytes W W.heap.size D' data') (hf : IsFuns W W.heap.size F' fs') => S.check D' F' data' fs' W hd hf)
  have HYW := Lib.hid (fun W (hb : Below w.heap.size w W) => hY.grow hb)
  obtain ⟨yA, yc, hYe⟩ := hY.len
  obtain ⟨m, hm⟩ : ∃ m, m = ys.length := ⟨_, rfl⟩
  have HMY := Lib.hid hm
  rw [← hm] at hYe
  subst hYe
  cases hlg : longM ⟨data, fs⟩
  case true =>
    rw [hlg] at HLg
    obtain ⟨DA, dc, hDe⟩ := hD.len
    obtain ⟨FA, fc, hFe⟩ := hF.len
    subst hDe hFe
    clear hlg hD hF HAw S HCH HSC hY hm
    go_enter Tryz.func6, Tryz.ntmps6
    go_wp2_with (first
      | (go_at_call 9; (with_reducible refine (HA.out _).mono ?_); rintro e w2 ⟨rfl, hb⟩; have H2 := Lib.hid (HM0.out.grow hb); obtain ⟨a0, a1⟩ := cells2 H2.out.one; clear hb)
      | (go_at_call 8; (with_reducible refine (HLg.out _ H2.out.bel).mono ?_); rintro e w3 ⟨rfl, hb⟩; have H3 := Lib.hid (H2.out.grow hb); obtain ⟨b0, b1⟩ := cells2 H3.out.one; clear hb))
    go_ret
    exact ⟨rfl, H3.out.bel⟩
  rw [hlg] at HLg
  by_cases hm100 : 100 < m
  · have hmI : (100 : Int) < (m : Int) := by omega
    obtain ⟨DA, dc, hDe⟩ := hD.len
    obtain ⟨FA, fc, hFe⟩ := hF.len
    subst hDe hFe
    clear hlg hD hF HAw S HCH HSC hY hm
    go_enter Tryz.func6, Tryz.ntmps6
    go_wp2_with (first
      | (go_at_call 9; (with_reducible refine (HA.out _).mono ?_); rintro e w2 ⟨rfl, hb⟩; have H2 := Lib.hid (HM0.out.grow hb); obtain ⟨a0, a1⟩ := cells2 H2.out.one; clear hb)
      | (go_at_call 8; (with_reducible refine (HLg.out _ H2.out.bel).mono ?_); rintro e w3 ⟨rfl, hb⟩; have H3 := Lib.hid (H2.out.grow hb); obtain ⟨b0, b1⟩ := cells2 H3.out.one; clear hb))
    go_ret
    exact ⟨rfl, H3.out.bel⟩
  have hmI : (m : Int) ≤ 100 := by omega
  by_cases hc : (findM ⟨data, fs⟩).2.2 = 0
  case neg =>
    have hne : ((findM ⟨data, fs⟩).2.2 != 0) = true := by simpa using hc
    generalize (findM ⟨data, fs⟩).2.2 = z at *
    obtain ⟨DA, dc, hDe⟩ := hD.len
    obtain ⟨FA, fc, hFe⟩ := hF.len
    subst hDe hFe
    clear hlg hD hF HAw S hc HSC hY hm
    go_enter Tryz.func6, Tryz.ntmps6
    go_wp2_with (first
      | (go_at_call 9; (with_reducible refine (HA.out _).mono ?_); rintro e w2 ⟨rfl, hb⟩; have H2 := Lib.hid (HM0.out.grow hb); obtain ⟨a0, a1⟩ := cells2 H2.out.one; clear hb)
      | (go_at_call 8; (with_reducible refine (HLg.out _ H2.out.bel).mono ?_); rintro e w3 ⟨rfl, hb⟩; have H3 := Lib.hid (H2.out.grow hb); obtain ⟨b0, b1⟩ := cells2 H3.out.one; clear hb)
      | (go_at_call 13; (with_reducible refine (HCH.out _ H3.out.bel).mono ?_); rintro e w4 ⟨rfl, hb⟩; have H4 := Lib.hid (H3.out.grow hb); clear hb))
    go_ret
    exact ⟨rfl, H4.out.bel⟩
  case pos =>
    have hacc := (findM_acc (m := ⟨data, fs⟩)).1 hc
    obtain ⟨hl1, hl2, hl3⟩ := long_few hlg
    dsimp only at hl1 hl2 hl3
    rw [hc] at HCH
    have HCp := Lib.hid (fun W (hb : Below w.heap.size w W) => copyModule_low D F data fs W (hD.grow hb) (hF.grow hb) hlg)
    have hpos : 0 < fs.length := by
      have := (err_funs hacc.err).2.1
      have := of_decide_eq_true this
      dsimp only at this
      omega
    obtain ⟨k, hk⟩ : ∃ k : Nat, pkV which fs.length = k := ⟨(pkV which fs.length).toNat, by have := pk_bd which (n := (fs.length : Int)) (by omega); omega⟩
    have hkb := pk_bd which (n := (fs.length : Int)) (by omega)
    have HPK := Lib.hid (fun W => pk_any which fs.length W (by omega) (by omega))
    rw [hk] at hkb HPK
    have hkl : k < fs.length := by omega
    have HFD : Hid ((findM ⟨data ++ ys, fs ++ [fs.getD k .zero]⟩).2.2 = 0) := Lib.hid (findM_acc.2 (more_acc hacc (k := k) (xs := ys) hkl (by dsimp only; omega) (by dsimp only; omega) (fun j hj a ha => by
      have := (fun_facts (m := ⟨data, fs⟩) hacc.err (k := j) hj).2
      dsimp only at this ha ⊢
      by_cases ho : ((fs.getD j .zero).code.getD a .zero).op = 28
      · exact .inl (this _ (by generalize (fs.getD j .zero).code = cc at *; rw [List.getD, List.getElem?_eq_getElem ha]; exact List.getElem_mem ha) ho)
      · exact .inr ho)))
    have hfb := funs_getD hF hkl
    have HSX := Lib.hid (fun W xb D' F' Cs (hM : Mor12 w W xb D' F' (data ++ ys) (fs ++ [fs.getD k .zero]) Cs) => HSC.out D' F' (data ++ ys) (fs ++ [fs.getD k .zero]) W (IsBytes.of_owns (Owns.base hM.dat.own (Nat.zero_le _)) (fun x hx => by
      rcases List.mem_append.1 hx with h | h
      · exact hD.1 x h
      · exact hY.1 x h) (Nat.le_refl _)) (hM.fns.funs (by simp; omega)))
    rw [HFD.out] at HSX
    obtain ⟨DA, dc, hDe⟩ := hD.len
    obtain ⟨FA, fc, hFe⟩ := hF.len
    subst hDe hFe
    have HKL := Lib.hid hkl
    have HFB := Lib.hid hfb
    obtain ⟨nf, hnf⟩ : ∃ nf, nf = fs.length := ⟨_, rfl⟩
    have HNF := Lib.hid hnf
    obtain ⟨nd, hnd⟩ : ∃ nd, nd = data.length := ⟨_, rfl⟩
    have HND := Lib.hid hnd
    rw [← hnf] at HM0 HLg HCH HPK HCp hkb hpos hl2 ⊢
    rw [← hnd] at HM0 HLg HCH HCp hl1 ⊢
    have k0 : (0 : Int) ≤ (k : Int) := by omega
    have k1 : (k : Int) < (nf : Int) := by omega
    have nfI : (nf : Int) ≤ 6 := by omega
    have nfI0 : (0 : Int) < (nf : Int) := by omega
    have nfz : (((nf : Nat) : Int) == 0) = false := by simp; omega
    have m100 : decide ((100 : Int) < (m : Int)) = false := by simp; omega
    have HLL : Hid (data.length + ys.length ≤ 1000000 ∧ fs.length ≤ 1000000) := Lib.hid (by omega)
    clear hlg hD hF HAw S hc HSC hY hm hacc hl1 hl2 hl3 hpos hk hkb hkl hfb hnf hnd HFD
    go_enter Tryz.func6, Tryz.ntmps6
    go_wp2_with (first
      | (go_at_call 9; (with_reducible refine (HA.out _).mono ?_); rintro e w2 ⟨rfl, hb⟩; have H2 := Lib.hid (HM0.out.grow hb); obtain ⟨a0, a1⟩ := cells2 H2.out.one; clear hb)
      | (go_at_call 8; (with_reducible refine (HLg.out _ H2.out.bel).mono ?_); rintro e w3 ⟨rfl, hb⟩; have H3 := Lib.hid (H2.out.grow hb); obtain ⟨b0, b1⟩ := cells2 H3.out.one; clear hb)
      | (go_at_call 13; (with_reducible refine (HCH.out _ H3.out.bel).mono ?_); rintro e w4 ⟨rfl, hb⟩; have H4 := Lib.hid (H3.out.grow hb); obtain ⟨d0, d1⟩ := cells2 H4.out.one; clear hb)
      | (go_at_call 10; (with_reducible refine (HCp.out _ H4.out.bel).mono ?_); rintro e w5 ⟨D5, F5, Cs, rfl, hd, hf, hs, hl⟩; obtain ⟨dA5, dc5, hD5⟩ := owns_len hd.own; obtain ⟨fA5, fc5, hF5⟩ := owns_len hf.own; rw [← HND.out] at hD5; rw [← HNF.out] at hF5; subst hD5 hF5; have hM5 := mor_made H4.out.bel hd hf hl; have HM5 := Lib.hid hM5; obtain ⟨x0, x1⟩ := cells2 hM5.box; have z0 := frozen_of_row _ w5.heap.size 0 _ _ hM5.box; have HS5 : Hid ((w5.alloc (.cells #[.slice dA5 nd dc5, .slice fA5 nf fc5] 25)).heap.size = w5.heap.size + 1) := Lib.hid (by simp); clear hd hf hs hl hM5)
      | (at_builtin; refine wpList_outX (W := w5.alloc (.cells #[.slice dA5 nd dc5, .slice fA5 nf fc5] 25)) rfl (.tmp 30) (.tmp 31) rfl rfl rfl HM5.out.dat (HYW.out _ HM5.out.dat.bel) HLL.out.1 ?_; intro V7 w7 ho hblk; obtain ⟨hb7, hm7⟩ := mor_data HM5.out HS5.out ho hblk; obtain ⟨vA7, vc7, hV7⟩ := owns_len ho.own; obtain ⟨n7, hn7⟩ : ∃ n7, n7 = (data ++ ys).length := ⟨_, rfl⟩; rw [← hn7] at hV7; subst hV7; clear hn7; have HM7 := Lib.hid hm7; obtain ⟨y0, y1⟩ := cells2 hb7; have z7 := frozen_of_row _ w5.heap.size 0 _ _ hb7; clear ho hblk hb7 hm7))
    generalize w7.setCell ⟨w5.heap.size, 0, none⟩ (.slice vA7 n7 vc7) = W8 at *
    have HM8 := Lib.hid HM7.out
    obtain ⟨fb, fo, fcap, hV, f0, f1, f2, f3, hfb⟩ := mor_row HM8.out HKL.out
    rw [← HNF.out] at hV
    cases hV
    obtain ⟨⟨p, rg, ar, l⟩, hfv⟩ : ∃ f, f = fs.getD k .zero := ⟨_, rfl⟩
    have hcod := HM8.out.fns.codes k HKL.out
    rw [← hfv] at f0 f1 f2 HFB HSX hcod
    dsimp only at f0 f1 f2 hcod
    obtain ⟨C, hC⟩ : ∃ C, C = Cs.getD k (.slice none 0 0) := ⟨_, rfl⟩
    rw [← hC] at f3 hcod
    obtain ⟨CA, Cc, hCe⟩ := hcod.code.len
    subst hCe
    generalize l.length = n at *
    have HM8d := Lib.hid (HM8.out.grow (Below.refl _ W8).drew)
    have HC8 := Lib.hid (hcod.below (Below.refl _ W8).drew (Nat.le_refl _))
    obtain ⟨g0, g1⟩ := cells2 HM8.out.box
    have g1a : (W8.alloc (.cells #[.int .i64 p, .int .i64 rg, .int .i64 ar, .slice CA n Cc] 41)).cell? ⟨w5.heap.size, 1, none⟩ = some (.slice (some ⟨fb, fo, none⟩) nf fc5) := (((Below.refl W8.heap.size W8).alloc (Nat.le_refl _) (.cells #[.int .i64 p, .int .i64 rg, .int .i64 ar, .slice CA n Cc] 41)).cell (p := ⟨w5.heap.size, 1, none⟩) (heap_lt HM8.out.box)).trans g1
    clear hcod hfb hfv hC x0 x1 y0 y1 z0 z7 a0 a1 b0 b1 d0 d1
    go_region_law (first
      | (refine step_outF (W := W8.drew) (f := ⟨p, rg, ar, l⟩) (base := 0) rfl (.tmp 35) (.tmp 45) rfl rfl rfl rfl HM8d.out.fns HC8.out HFB.out (Nat.zero_le _) HLL.out.2 ?_; intro V9 w9 hm9; obtain ⟨hm9, hwh⟩ := hm9; obtain ⟨nA, nc, hn9⟩ := owns_len hm9.own.own; obtain ⟨n9, hn10⟩ : ∃ n9, n9 = (fs ++ [(⟨p, rg, ar, l⟩ : FunV)]).length := ⟨_, rfl⟩; rw [← hn10] at hn9; subst hn9; clear hn10; obtain ⟨hbx, hM9⟩ := mor_fun HM8d.out hm9 hwh; have HM9 := Lib.hid hM9; obtain ⟨h0, h1⟩ := cells2 hbx; have z9 := frozen_of_row _ w5.heap.size 1 _ _ hbx; clear hm9 hwh hbx hM9)
      | (go_simp; go_at_call 19; (with_reducible refine (HPK.out _).mono ?_); rintro e w6 ⟨rfl, hw⟩; subst hw))
    all_goals
      obtain ⟨r0, r1⟩ := cells2 HM9.out.box
      go_wp2_with (go_at_call 13; (with_reducible refine (HSX.out _ _ _ _ _ HM9.out).mono ?_); rintro e wA ⟨rfl, hb⟩; have HBA := Lib.hid (HM9.out.grow hb); clear hb)
      go_ret
      exact ⟨by first | rfl | simp, HBA.out.dat.bel⟩
end Go.Proofs.YtfdblmjgpoocpaaGreat
