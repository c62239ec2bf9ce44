/- The document's own Put of layer 8. Contract; no condition but that the module lies in memory, and that its functions' instructions are few. -/
import Derived.Test.YtimhlbejjbnofaaRef08A
import Derived.Test.YtimhlbejjbnofaaS11
import Derived.Test.YtimhlbejjbnofaaLaws08C
namespace Go.Proofs.Ytimhlbejjbnofaa
open Go.RowKit Go.Shelf
set_option linter.unusedVariables false
set_option linter.unusedSimpArgs false

theorem outB_three {w W : World} {x y z : Int} (h : Below w.heap.size w W) (hx : 0 ≤ x ∧ x < 256) (hy : 0 ≤ y ∧ y < 256) (hz : 0 ≤ z ∧ z < 256) : OutB w (W.alloc (.cells #[.int .u8 x, .int .u8 y, .int .u8 z] 5)) (.slice (some ⟨W.heap.size, 0, none⟩) 3 3) [x, y, z] := by
  refine ⟨⟨⟨by simp, .inr ⟨W.heap.size, 3, _, rfl, h.size, heap_alloc_new W _, Nat.le_refl _, by unfold maxLen; decide, rfl, rfl⟩⟩, fun g cur t fr hg hc => ?_⟩, h.alloc h.size _⟩
  simp [Value.ownBlock] at hg
  subst hg
  rw [heap_alloc_new] at hc
  injection hc with hc
  injection hc with hc _ _
  subst hc
  intro u hu
  simp at hu
  rcases hu with rfl | rfl | rfl
  · exact ⟨x, hx.1, hx.2, rfl⟩
  · exact ⟨y, hy.1, hy.2, rfl⟩
  · exact ⟨z, hz.1, hz.2, rfl⟩
/-- Two bytes more, at the operation. -/
theorem wpList_outB2 {w W : World} {ops : Array Oper} {rest : List Oper} {o : Oper} {a : Act} {Q : Exit → Act → World → Prop} (hgd : o.guard = none) (s x : Operand)
    (ho : o.op = .call { callee := .builtin .append, args := #[s, x], argTypes := #[22, 22] }) {V : Value} {xs : List Int} {y z : Int} {g : Nat} (hs : a.eval s = V) (hx : a.eval x = .slice (some ⟨g, 0, none⟩) 2 2) (hg : g = W.heap.size) (h : OutB w W V xs)
    (hy : 0 ≤ y ∧ y < 256) (hz : 0 ≤ z ∧ z < 256) (hl : xs.length + 2 ≤ 1000000)
    (hK : ∀ V' W', OutB w W' V' (xs ++ [y, z]) → (∀ i, i < W.heap.size → some i ≠ V.ownBlock → W'.heap[i]? = W.heap[i]?) → wpList Try.prog ops Q rest (a.put o.dst V') W') :
    wpList Try.prog ops Q (o :: rest) a (W.alloc (.cells #[.int .u8 y, .int .u8 z] 5)) := by
  subst hg
  have ha : Below W.heap.size W (W.alloc (.cells #[.int .u8 y, .int .u8 z] 5)) := (Below.refl W.heap.size W).alloc (Nat.le_refl _) _
  have h1 := outB_two (Below.refl W.heap.size W) hy hz
  refine wpList_outB hgd s x ho hs hx (h.grow ha) (ys := [y, z]) h1.own (by intro u hu; simp at hu; rcases hu with rfl | rfl <;> assumption) (by simp) (by simpa using hl) ?_
  intro V' W' ho' hb'
  exact hK V' W' ho' (fun i hi hn => (hb' i (by simp; omega) hn).trans (ha.block i hi))
/-- An append of bytes, some at least, and where it lies. -/
theorem wpList_outY {w W : World} {ops : Array Oper} {rest : List Oper} {o : Oper} {a : Act} {Q : Exit → Act → World → Prop} (hgd : o.guard = none) (s x : Operand)
    (ho : o.op = .call { callee := .builtin .append, args := #[s, x], argTypes := #[22, 22] }) {V X : Value} {xs ys : List Int} {B : Nat} (hs : a.eval s = V) (hx : a.eval x = X) (h : OutB w W V xs)
    (hX : IsBytes W B X ys) (hp : 0 < ys.length) (hl : xs.length + ys.length ≤ 1000000)
    (hK : ∀ V' W', OutB w W' V' (xs ++ ys) → But (fun k => some k = V.ownBlock) W W' → (V'.ownBlock = V.ownBlock ∨ V'.ownBlock = some W.heap.size) → wpList Try.prog ops Q rest (a.put o.dst V') W') :
    wpList Try.prog ops Q (o :: rest) a W := by
  obtain ⟨i, hi, h1, h2, h3⟩ := info_parts u8_info
  refine wpList_plain hgd fun _ hK' => ?_
  rcases hX.2.2 with ⟨rfl, rfl⟩ | ⟨ad, cap, rfl, e1, e2, e3⟩
  · simp at hp
  obtain ⟨V', W', hr, hO, hg⟩ := run_append_q (P := Try.prog) W w.heap.size 22 o.type 5 i _ 1 1 Try.underlying22 hi h1 h2 h3 rfl (by decide) IsU8 zero_u8 V xs.length (xs.map (Value.int .u8)) h.own ad ys.length cap (ys.map (Value.int .u8)) (by simp) (news_of_bytes e3) (by intro u hu; obtain ⟨z, _, rfl⟩ := List.mem_map.1 hu; rfl) (u8_cells hX.1) (by unfold maxLen; omega) (by omega) h.bel.size
  obtain ⟨V2, W2, hr2, _, _, hw2⟩ := run_append_where (P := Try.prog) W w.heap.size 22 o.type 5 i _ 1 1 Try.underlying22 hi h1 h2 h3 rfl (by decide) V xs.length (xs.map (Value.int .u8)) h.own.1 ad ys.length cap hp (ys.map (Value.int .u8)) (by simp) (news_of_bytes e3) (by intro u hu; obtain ⟨z, _, rfl⟩ := List.mem_map.1 hu; rfl) (by unfold maxLen; omega) (by omega) h.bel.size
  rw [hr] at hr2
  injection hr2 with e1 e2
  subst e1 e2
  have e : World.grownBy W W' V.ownBlock := hg
  have hbel : Below w.heap.size W W' := (Below.refl w.heap.size W).grown e h.bel.size fun j hj => (h.own.lt hj).1
  have hb : But (fun k => some k = V.ownBlock) W W' := ⟨hbel.os, hbel.tape, hbel.output, e.size, fun k hk hn => e.block k hk hn⟩
  unfold Oper.wp execOp
  simp only [ho, resolve, invoke, builtin, Sem.run_bind, Sem.run_pure, Result.andThen_ok, List.map_toArray, List.map_cons, List.map_nil, hs, hx, hr]
  exact hK' _ _ (hK V' W' ⟨by rw [List.length_append, List.map_append]; exact hO, h.bel.grown hg h.bel.size fun j hj => (h.own.lt hj).1⟩ hb hw2)
/-- In a round of Put: what is written so far, and the code's bytes, apart from each other. -/
structure PutAt (w W : World) (mb fb : Nat) (mc fcs : Array Value) (V U : Value) (xs cb : List Int) : Prop where
  out : OutB w W V xs
  mod : W.heap[mb]? = some (.cells mc 25 (0, 0))
  fn : W.heap[fb]? = some (.cells fcs 47 (0, 0))
  cod : OutB w W U cb
  apart : ∀ g, U.ownBlock = some g → V.ownBlock ≠ some g
section
variable {w W W' : World} {mb fb : Nat} {mc fcs : Array Value} {V V' U : Value} {xs xs' cb : List Int}
theorem PutAt.call (h : PutAt w W mb fb mc fcs V U xs cb) (hb : Below W.heap.size W W') : PutAt w W' mb fb mc fcs V U xs cb :=
  ⟨h.out.grow hb, box_below h.mod hb, box_below h.fn hb, h.cod.grow hb, h.apart⟩
theorem PutAt.app (h : PutAt w W mb fb mc fcs V U xs cb) (ho : OutB w W' V' xs') (hb : But (fun k => some k = V.ownBlock) W W') (hw : V'.ownBlock = V.ownBlock ∨ V'.ownBlock = some W.heap.size) : PutAt w W' mb fb mc fcs V' U xs' cb := by
  have hk : ∀ i, i < W.heap.size → some i ≠ V.ownBlock → W'.heap[i]? = W.heap[i]? := fun i hi hn => hb.block i hi hn
  refine ⟨ho, box_keep h.out (by decide) h.mod hk, box_keep h.out (by decide) h.fn hk, ⟨Owns.but h.cod.own hb (fun g hg e => h.apart g hg e.symm), ho.bel⟩, fun g hg => ?_⟩
  rcases hw with hw | hw
  · rw [hw]; exact h.apart g hg
  · rw [hw]
    intro e
    injection e with e
    have := (h.cod.own.lt hg).2
    omega
end
theorem few_frame {data : List Int} {fs : List FunV} (h : (ModV.mk data fs).err = 0) : data.length ≤ 8192 ∧ fs.length ≤ 64 ∧ FewF fs ∧ ∀ f ∈ fs, f.err = 0 := by
  obtain ⟨h1, _, h3, h4⟩ := merr_ok h
  exact ⟨h1, h3, few_of h4, h4⟩
set_option maxRecDepth 100000 in
set_option maxHeartbeats 8000000 in
theorem rput8_any (D F : Value) (data : List Int) (fs : List FunV) (w : World) (hD : IsBytes w w.heap.size D data) (hF : IsFuns w w.heap.size F fs) (hs : ∀ f ∈ fs, f.code.length ≤ 1000) :
    Calls Try.prog 13 #[.agg #[D, F]] w (PutsU w (ModV.mk data fs).err (goodB (ModV.mk data fs).err (ModV.mk data fs).bytes)) := by
  have HDw := Lib.hid (fun W (hb : Below w.heap.size w W) => hD.grow hb)
  have HCk := Lib.hid (fun W (hb : Below w.heap.size w W) => rcheck8_any D F data fs W (hD.grow hb) (hF.grow hb) hs)
  have HF := Lib.hid hF
  have HBD := Lib.hid hD.1
  have HS := Lib.hid hs
  obtain ⟨DA, dc, hDe⟩ := hD.len
  obtain ⟨FA, fc, hFe⟩ := hF.len
  subst hDe hFe
  obtain ⟨dn, hdn⟩ : ∃ dn, dn = data.length := ⟨_, rfl⟩
  obtain ⟨n, hn⟩ : ∃ n, n = fs.length := ⟨_, rfl⟩
  have HN := Lib.hid hn
  have HDN := Lib.hid hdn
  have hml := hF.1
  unfold maxLen at hml
  rw [← hn] at HF HCk hml ⊢
  rw [← hdn] at HDw HCk ⊢
  have hB0 : Below w.heap.size w (w.alloc (.cells #[.slice DA dn dc, .slice FA n fc] 25)) := (Below.refl _ w).alloc (Nat.le_refl _) _
  have hk0 := heap_alloc_new w (.cells #[.slice DA dn dc, .slice FA n fc] 25)
  have HB0 := Lib.hid hB0
  have HK0 := Lib.hid hk0
  obtain ⟨c0, c1⟩ := cells2 hk0
  by_cases hz : (ModV.mk data fs).err = 0
  case neg =>
    have HZ := Lib.hid hz
    generalize (ModV.mk data fs).err = z at *
    have hb0 : (z != 0) = true := by simpa using hz
    clear hD hF hz hs hB0 hk0 hn hdn
    go_enter Try.func13, Try.ntmps13
    go_wp2_with (go_at_call 16; (with_reducible refine (HCk.out _ HB0.out).mono ?_); rintro e w1 ⟨rfl, hb⟩; have HB1 := Lib.hid (HB0.out.trans (hb.mono HB0.out.size)); clear hb)
    go_ret2
    exact puts_bad rfl HZ.out HB1.out
  obtain ⟨hd, h64, hfew, hok⟩ := few_frame hz
  have HFew := Lib.hid hfew
  have HOk := Lib.hid hok
  have HWL := Lib.hid (fun k => wrB_len (n := fs.length) hd (fewF_take hfew k) (by rw [List.length_take]; omega))
  have HEnd := Lib.hid (wrB_end data fs)
  rw [← hn] at h64 HWL HEnd
  rw [← hdn] at hd
  have HZ := Lib.hid hz
  rw [hz] at HCk ⊢
  have hg0 : goodB 0 (ModV.mk data fs).bytes = (ModV.mk data fs).bytes := rfl
  have HG0 := Lib.hid hg0
  have en1 : IntKind.u8.wrap (n : Int) = (n : Int) := by rw [IntKind.wrap_u8]; omega
  have hn8 : 0 ≤ (n : Int) ∧ (n : Int) < 256 := by omega
  have hd0 : 0 ≤ (dn : Int) := by omega
  have hd1 : (dn : Int) < 65536 := by omega
  clear hD hF hs hB0 hk0 hn hdn hz hfew hok hg0
  go_enter Try.func13, Try.ntmps13
  go_wp2_with (first
    | (go_at_call 16; (with_reducible refine (HCk.out _ HB0.out).mono ?_); rintro e w1 ⟨rfl, hb⟩; have HB1 := Lib.hid (HB0.out.trans (hb.mono HB0.out.size)); have hk1 := box_below HK0.out hb; have HO1 := Lib.hid (outB_three (x := 84) (y := 87) (z := 1) HB1.out (by decide) (by decide) (by decide)); have hk2 := box_below hk1 ((Below.refl w1.heap.size w1).alloc (Nat.le_refl _) (.cells #[.int .u8 84, .int .u8 87, .int .u8 1] 5)); have HK2 := Lib.hid hk2; obtain ⟨d0, d1⟩ := cells2 hk2; obtain ⟨a0, a1⟩ := cells2 hk1; clear hb hk1 hk2)
    | (go_at_call 32; (with_reducible refine (two8_any dn _ hd0 hd1).mono ?_); rintro e w2 ⟨V2, rfl, ho⟩; obtain ⟨oA, oc, hoe⟩ := owns_len ho.own; have HO2 := Lib.hid (HO1.out.grow ho.bel); have HL2 := Lib.hid (outB_is ho (bytesV_bd _ _)); have HK3 := Lib.hid (box_below HK2.out ho.bel); subst hoe; rw [bytesV_len] at HL2 ⊢; clear ho)
    | (at_builtin; refine wpList_outX rfl (.tmp 15) (.tmp 19) rfl rfl rfl HO2.out HL2.out (by simp [bytesV_len]) ?_; intro V3 w3 ho hb; have HK4 := Lib.hid (box_keep HO2.out (by decide) HK3.out hb); obtain ⟨m1, uA, uc, HM1, rfl, HO3⟩ := ho.name; have HX3 := Lib.hid (HDw.out _ HO3.out.bel); obtain ⟨e0, e1⟩ := cells2 HK4.out; clear ho hb)
    | (at_builtin; refine wpList_outX rfl (.tmp 21) (.tmp 23) rfl rfl rfl HO3.out HX3.out (by rw [HM1.out]; have := HDN.out; simp [bytesV_len]; omega) ?_; intro V4 w4 ho hb; have HK5 := Lib.hid (box_keep HO3.out (by decide) HK4.out hb); obtain ⟨m2, xA, xc, HM2, rfl, HO4⟩ := ho.name; obtain ⟨f0, f1⟩ := cells2 HK5.out; have hk6 := box_below HK5.out ((Below.refl w4.heap.size w4).alloc (Nat.le_refl _) (.cells #[.int .u8 n] 5)); clear ho hb)
    | (at_builtin; refine wpList_outB1 rfl (.tmp 25) (.tmp 30) rfl rfl rfl rfl HO4.out hn8 (by rw [HM2.out, HM1.out]; have := HDN.out; simp [bytesV_len]; omega) ?_; intro V6 w6 ho hb; have HK7 := Lib.hid (box_keep HO4.out (by decide) HK5.out hb); obtain ⟨m3, yA, yc, HM3, rfl, HO6⟩ := ho.name; obtain ⟨i0, i1⟩ := cells2 HK7.out; clear ho hb hk6))
  have HM : Hid (m3 = wrB data n []) := Lib.hid (by rw [HM3.out, HM2.out, HM1.out, HDN.out]; simp [wrB, allF, bytesV_one, markL]; omega)
  clear a0 a1 c0 c1 d0 d1 e0 e1 f0 f1 i0 i1
  go_loopw [5, 6] (fun out i wr => ∃ k : Nat, k ≤ n ∧ i = .int .i64 k ∧ Hid (OutB w wr out (wrB data n (fs.take k)) ∧ wr.heap[w.heap.size]? = some (.cells #[.slice DA dn dc, .slice FA n fc] 25 (0, 0)))) (fun _ i _ => n - (intOf i).toNat)
  case atStart => exact ⟨0, by omega, rfl, by rw [List.take_zero, ← HM.out]; exact ⟨HO6.out, HK7.out⟩⟩
  case round =>
    obtain ⟨k, hk, rfl, HR⟩ := hrel
    have HKr := Lib.hid HR.out.2
    obtain ⟨mr, rA, rc, HMr, hre, HOr⟩ := HR.out.1.name
    subst hre
    have HBr := Lib.hid HOr.out.bel
    obtain ⟨d0, d1⟩ := cells2 HKr.out
    clear HR
    by_cases hlt : k < n
    · have hkl : k < fs.length := by rw [← HN.out]; exact hlt
      obtain ⟨b, off, cap', hVe, hcp, hbB, hcl⟩ := HF.out.plain (by omega)
      rw [← HN.out] at hVe
      cases hVe
      obtain ⟨C, hC, hcell⟩ := hcl k hkl
      have HTK := Lib.hid (funs_take fs hkl)
      have HWk := Lib.hid (HWL.out (k + 1))
      have hmem : fs.getD k .zero ∈ fs := by simp [List.getD, List.getElem?_eq_getElem hkl]
      have hfe := HFew.out _ hmem
      have hfo := frame_ok (HOk.out _ hmem)
      have hsm := HS.out _ hmem
      obtain ⟨⟨p, r, a, c⟩, hy⟩ : ∃ y, y = fs.getD k .zero := ⟨_, rfl⟩
      rw [← hy] at hC hcell HTK hfe hfo hsm
      dsimp only at hC hfe hfo hsm
      obtain ⟨p0, p1, r0, r1, a0, a1, hj⟩ := hfo
      have HSN := Lib.hid (wrB_snoc data n (fs.take k) ⟨p, r, a, c⟩)
      rw [← HTK.out] at HSN
      dsimp only at HSN
      rw [← HMr.out] at HSN
      have HML : Hid (mr.length + 5000 ≤ 900000) := Lib.hid (by rw [HMr.out]; have := HWL.out k; omega)
      have hc' : ∀ j, j < 4 → wr.cell? ⟨b, off + k * 4 + j, none⟩ = some (funCell ⟨p, r, a, c⟩ C j) := fun j hj => (HBr.out.cell (p := ⟨b, off + k * 4 + j, none⟩) hbB).trans (hcell j hj)
      have g0 : wr.cell? ⟨b, off + k * 4, none⟩ = some (.int .i64 p) := hc' 0 (by omega)
      have g1 : wr.cell? ⟨b, off + k * 4 + 1, none⟩ = some (.int .i64 r) := hc' 1 (by omega)
      have g2 : wr.cell? ⟨b, off + k * 4 + 2, none⟩ = some (.int .i64 a) := hc' 2 (by omega)
      have g3 : wr.cell? ⟨b, off + k * 4 + 3, none⟩ = some C := hc' 3 (by omega)
      have hCw := (hC.grow HBr.out)
      obtain ⟨CA, Cc, hCe⟩ := hC.len
      subst hCe
      have ha : Below wr.heap.size wr (wr.alloc (.cells #[.int .i64 p, .int .i64 r, .int .i64 a, .slice CA c.length Cc] 47)) := (Below.refl wr.heap.size wr).alloc (Nat.le_refl _) _
      have HJ := Lib.hid ((rjoin7_any _ c _ (hCw.grow ha) hsm).mono fun e w' hh => (hh.resolve_left (fun h => h.1 hj)).2)
      have HBD := Lib.hid (allB_bd c)
      have hcb : (allB c).length < 65536 := by omega
      generalize hc : allB c = cb at *
      have HOa := Lib.hid (HOr.out.grow ha)
      have HKa := Lib.hid (heap_alloc_new wr (.cells #[.int .i64 p, .int .i64 r, .int .i64 a, .slice CA c.length Cc] 47))
      have HMa := Lib.hid (box_below HKr.out ha)
      have HAs := Lib.hid ha.size
      have HBa := Lib.hid (HBr.out.trans (ha.mono HBr.out.size))
      obtain ⟨i0, i1, i2, i3⟩ := cells4 HKa.out
      have k0 : (0 : Int) ≤ (k : Int) := by omega
      have k1 : (k : Int) < (n : Int) := by omega
      have ep : IntKind.u8.wrap p = p := by rw [IntKind.wrap_u8]; omega
      have er : IntKind.u8.wrap r = r := by rw [IntKind.wrap_u8]; omega
      have HPR : Hid (bytesV p 1 = [p] ∧ bytesV r 1 = [r]) := Lib.hid ⟨by rw [bytesV_one, Int.emod_eq_of_lt p0 p1], by rw [bytesV_one, Int.emod_eq_of_lt r0 r1]⟩
      have HFe := Lib.hid hfe
      have hb1 : 0 ≤ (cb.length : Int) := by omega
      have hb2 : (cb.length : Int) < 65536 := by omega
      have Hp : Hid (0 ≤ p ∧ p < 256) := Lib.hid ⟨p0, p1⟩
      have Hr : Hid (0 ≤ r ∧ r < 256) := Lib.hid ⟨r0, r1⟩
      clear hcell hc' hC hCw hy hcl hcp hbB hfe hc ha hj hsm hmem hcb
      go_wp2_with (first
        | (go_at_call 33; (with_reducible refine HJ.out.mono ?_); rintro e w7 ⟨V7, rfl, ho⟩; obtain ⟨A7, c7, hV7⟩ := owns_len ho.own; subst hV7; have HO7 := Lib.hid ho; have HP7 := Lib.hid (PutAt.mk (HOa.out.grow ho.bel) (box_below HMa.out ho.bel) (box_below HKa.out ho.bel) (HO7.out.up HBa.out) (fun g hg e => by have h1 := (HO7.out.own.lt hg).1; have h2 := (HOr.out.own.lt e).2; have := HAs.out; omega)); obtain ⟨j0, j1, j2, j3⟩ := cells4 HP7.out.fn; clear ho)
        | (at_builtin; refine wpList_outY rfl (.tmp 50) (.tmp 57) rfl rfl rfl (HP7.out.out.grow ((Below.refl w7.heap.size w7).alloc (Nat.le_refl _) _)) (outB_is (outB_two (Below.refl w7.heap.size w7) Hp.out Hr.out) (by intro x hx; simp at hx; rcases hx with rfl | rfl; exact Hp.out; exact Hr.out)) (by simp) (by have := HML.out; simp; omega) ?_; intro V8 w8 ho hb hw; obtain ⟨m8, A8, c8, HM8, rfl, HO8⟩ := ho.name; have HP8 := Lib.hid ((HP7.out.call ((Below.refl w7.heap.size w7).alloc (Nat.le_refl _) _)).app HO8.out hb hw); obtain ⟨l0, l1, l2, l3⟩ := cells4 HP8.out.fn; clear ho hb hw)
        | (go_at_call 32; (with_reducible refine (two8_any a _ a0 a1).mono ?_); rintro e w9 ⟨V9, rfl, ho⟩; obtain ⟨oA9, oc9, hoe⟩ := owns_len ho.own; have HP9 := Lib.hid (HP8.out.call ho.bel); have HL9 := Lib.hid (outB_is ho (bytesV_bd _ _)); subst hoe; rw [bytesV_len] at HL9 ⊢; clear ho)
        | (at_builtin; refine wpList_outY rfl (.tmp 59) (.tmp 62) rfl rfl rfl HP9.out.out HL9.out (by simp [bytesV_len]) (by rw [HM8.out]; have := HML.out; simp [bytesV_len]; omega) ?_; intro V10 w10 ho hb hw; obtain ⟨m10, A10, c10, HM10, rfl, HO10⟩ := ho.name; have HP10 := Lib.hid (HP9.out.app HO10.out hb hw); clear ho hb hw)
        | (go_at_call 32; (with_reducible refine (two8_any cb.length _ hb1 hb2).mono ?_); rintro e w11 ⟨V11, rfl, ho⟩; obtain ⟨oA11, oc11, hoe⟩ := owns_len ho.own; have HP11 := Lib.hid (HP10.out.call ho.bel); have HL11 := Lib.hid (outB_is ho (bytesV_bd _ _)); subst hoe; rw [bytesV_len] at HL11 ⊢; clear ho)
        | (at_builtin; refine wpList_outY rfl (.tmp 64) (.tmp 67) rfl rfl rfl HP11.out.out HL11.out (by simp [bytesV_len]) (by rw [HM10.out, HM8.out]; have := HML.out; simp [bytesV_len]; omega) ?_; intro V12 w12 ho hb hw; obtain ⟨m12, A12, c12, HM12, rfl, HO12⟩ := ho.name; have HP12 := Lib.hid (HP11.out.app HO12.out hb hw); have HU12 := Lib.hid (outB_is HP12.out.cod HBD.out); clear ho hb hw)
        | (at_builtin; refine wpList_outX rfl (.tmp 69) (.tmp 70) rfl rfl rfl HP12.out.out HU12.out (by rw [HM12.out, HM10.out, HM8.out]; have := HML.out; have := HFe.out; simp [bytesV_len]; omega) ?_; intro V14 w14 ho hb; obtain ⟨m14, A14, c14, HM14, rfl, HO14⟩ := ho.name; have HK14 := Lib.hid (box_keep HP12.out.out (by decide) HP12.out.mod hb); clear ho hb))
      have HE14 : Hid (m14 = wrB data n (fs.take (k + 1))) := Lib.hid (by rw [← HSN.out, HM14.out, HM12.out, HM10.out, HM8.out, HPR.out.1, HPR.out.2]; simp)
      go_roundw
      case rel => exact ⟨k + 1, by omega, by go_num, by rw [← HE14.out]; exact ⟨HO14.out, HK14.out⟩⟩
      case measure => simp [intOf]; omega
    · obtain rfl : k = n := by omega
      have HEE : Hid (mr = (ModV.mk data fs).bytes) := Lib.hid (by rw [HMr.out, ← HEnd.out]; congr 1; rw [HN.out]; exact List.take_length)
      go_wp2
      go_ret2
      refine puts_good rfl ?_
      rw [← HEE.out]
      exact HOr.out
end Go.Proofs.Ytimhlbejjbnofaa
