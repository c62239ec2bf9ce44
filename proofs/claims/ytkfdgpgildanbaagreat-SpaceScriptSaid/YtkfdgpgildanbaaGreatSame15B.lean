import Derived.Test.YtkfdgpgildanbaaGreatSame15A
import Derived.Test.YtkfdgpgildanbaaGreatS11
namespace Go.Proofs.YtkfdgpgildanbaaGreat
open Go.RowKit Go.Shelf
set_option linter.unusedVariables false
set_option linter.unusedSimpArgs false
structure SpacesP (w : World) (lo : Nat) (W : World) (l : List It) (P : Nat → Loc) : Prop where
  at' : ∀ (i : Nat) (a : It), l[i]? = some a → a.at' w.heap.size W (P i)
  up : ∀ (i : Nat) (a : It) (k : Nat), l[i]? = some a → (a.foot (P i) k ∨ a.ro (P i) k) → lo ≤ k
  apart : ∀ (i j : Nat) (a b : It) (k : Nat), i ≠ j → l[i]? = some a → l[j]? = some b → a.foot (P i) k → ¬ (b.foot (P j) k ∨ b.ro (P j) k)
  low : w.heap.size ≤ lo
  top : lo ≤ W.heap.size
  bel : Below w.heap.size w W
theorem Spaces.toP {w W : World} {lo : Nat} {l : List It} (h : Spaces w lo W l) : ∃ P, SpacesP w lo W l P := by
  obtain ⟨P, e1, e2, e3⟩ := h.ex
  exact ⟨P, e1, e2, e3, h.low, h.top, h.bel⟩
theorem SpacesP.of {w W : World} {lo : Nat} {l : List It} {P : Nat → Loc} (h : SpacesP w lo W l P) : Spaces w lo W l := ⟨⟨P, h.at', h.up, h.apart⟩, h.low, h.top, h.bel⟩
theorem SpacesP.laid {w W W' : World} {lo i sb : Nat} {l : List It} {P : Nat → Loc} {S : SpV} {p' : Loc} (h : SpacesP w lo W l P) (hi : l[i]? = some (.sp sb S)) (hv : Vd15 W W' sb (P i) p' S S) :
    ∃ P', SpacesP w lo W' l P' ∧ LaidAt W' sb (P' i) S ∧ ∀ j tb T, l[j]? = some (.sp tb T) → LaidAt W tb (P j) T → LaidAt W' tb (P' j) T := by
  have hw := Nat.le_trans h.low h.top
  refine ⟨fun j => if j = i then p' else P j, ⟨?_, ?_, ?_, h.low, Nat.le_trans h.top hv.but.size, ?_⟩, by simpa using hv.laid, ?_⟩
  · intro j b hj
    by_cases hji : j = i
    · subst hji
      rw [hi] at hj
      obtain rfl := Option.some.inj hj
      simp only [if_true]
      exact .inl hv.laid
    · simp only [if_neg hji]
      exact It.but (h.at' j b hj) hv.but (fun k hk hf => h.apart i j _ b k (fun e => hji e.symm) hi hj hf hk) (fun k hk _ => It.typ (h.at' i _ hi) hk) hw (fun k hk hf => by have := h.up i _ k hi (.inl hf); have := h.low; omega)
  · intro j b k hj hk
    by_cases hji : j = i
    · subst hji
      rw [hi] at hj
      obtain rfl := Option.some.inj hj
      simp only [if_true] at hk
      rcases hk with hk | hk
      · rcases hv.foot k hk with hk | hk
        · exact h.up _ _ k hi (.inl hk)
        · exact Nat.le_trans h.top hk
      · rcases hv.ro k hk with hk | hk
        · exact h.up _ _ k hi (.inr hk)
        · exact Nat.le_trans h.top hk
    · simp only [if_neg hji] at hk
      exact h.up j b k hj hk
  · intro j1 j2 b1 b2 k hne h1 h2 hk
    by_cases hj1 : j1 = i
    · subst hj1
      rw [hi] at h1
      obtain rfl := Option.some.inj h1
      have hj2 : j2 ≠ j1 := fun e => hne e.symm
      simp only [if_true] at hk
      simp only [if_neg hj2]
      rcases hv.foot k hk with hk | hk
      · exact h.apart _ j2 _ b2 k hne hi h2 hk
      · intro hc
        have := It.lt (h.at' j2 b2 h2) hc
        omega
    · simp only [if_neg hj1] at hk
      by_cases hj2 : j2 = i
      · subst hj2
        rw [hi] at h2
        obtain rfl := Option.some.inj h2
        simp only [if_true]
        have hlt := It.lt (h.at' j1 b1 h1) (.inl hk)
        rintro (hc | hc)
        · rcases hv.foot k hc with hc | hc
          · exact h.apart j1 _ b1 _ k hj1 h1 hi hk (.inl hc)
          · omega
        · rcases hv.ro k hc with hc | hc
          · exact h.apart j1 _ b1 _ k hj1 h1 hi hk (.inr hc)
          · omega
      · simp only [if_neg hj2]
        exact h.apart j1 j2 b1 b2 k hne h1 h2 hk
  · exact hv.but.below h.bel hw (fun k hk => Nat.le_trans h.low (h.up i _ k hi (.inl hk)))
  · intro j tb T hj hl
    by_cases hji : j = i
    · subst hji
      rw [hi] at hj
      injection hj with hj
      injection hj with e1 e2
      subst e1 e2
      simp only [if_true]
      exact hv.laid
    · simp only [if_neg hji]
      exact hl.but hv.but (fun k hk hf => h.apart i j _ _ k (fun e => hji e.symm) hi hj hf hk) (fun k hk _ => It.typ (h.at' i _ hi) hk)
theorem sp_validP {w W : World} {lo i sb : Nat} {l : List It} {P : Nat → Loc} {S : SpV} (h : SpacesP w lo W l P) (hi : l[i]? = some (.sp sb S)) :
    Calls Tryz.prog 68 #[.pointer (some ⟨sb, 0, none⟩)] W fun e W' => e = .returned (.bool true) ∧ ∃ P', SpacesP w lo W' l P' ∧ LaidAt W' sb (P' i) S ∧ ∀ j tb T, l[j]? = some (.sp tb T) → LaidAt W tb (P j) T → LaidAt W' tb (P' j) T := by
  refine (valid15 (show SpAt W sb (P i) S from h.at' i _ hi)).mono ?_
  rintro e W' ⟨he, p', hv⟩
  exact ⟨he, h.laid hi hv⟩
def nowB (S T : SpV) : Bool := decide ((S.f : Int) = T.f ∧ S.at_ = T.at_ ∧ S.pc = T.pc)
def sameSp (S T : SpV) : Bool := nowB S T && (S.fuel == T.fuel && (decide (lkT S.links = lkT T.links) && (sameO S.done S.ek S.ec T.done T.ek T.ec && (S.left == T.left && (S.mem == T.mem && sameM S.m T.m)))))
theorem sameSp_self (S : SpV) : sameSp S S = true := by
  unfold sameSp nowB sameO
  simp [sameM_refl]
theorem eqlC_same (w : World) (a b c : Int) : (binOp .eql 77 (.agg #[.int .i64 a, .int .u64 b, .int .i64 c]) (.agg #[.int .i64 a, .int .u64 b, .int .i64 c])).run Tryz.prog w = .ok (.bool true) w := by go_simp
set_option maxRecDepth 100000 in
set_option maxHeartbeats 16000000 in
theorem same15 {W : World} {sb tb : Nat} {S T : SpV} {R1 R2 : World → Prop} (hST : sameSp S T = true)
    (h1 : Calls Tryz.prog 68 #[.pointer (some ⟨sb, 0, none⟩)] W fun e W' => e = .returned (.bool true) ∧ R1 W')
    (h2 : ∀ W1, R1 W1 → Calls Tryz.prog 68 #[.pointer (some ⟨tb, 0, none⟩)] W1 fun e W' => e = .returned (.bool true) ∧ R2 W')
    (h3 : ∀ W2, R2 W2 → ∃ p q, LaidAt W2 sb p S ∧ LaidAt W2 tb q T) :
    Calls Tryz.prog 21 #[.pointer (some ⟨sb, 0, none⟩), .pointer (some ⟨tb, 0, none⟩)] W fun e W' => e = .returned (.bool true) ∧ ∃ W2, R2 W2 ∧ Below W2.heap.size W2 W' := by
  have H1 := Lib.hid h1
  have H2 := Lib.hid h2
  have H3 := Lib.hid h3
  have hnot := not15
  have hst := hST
  unfold sameSp nowB at hst
  simp only [Bool.and_eq_true, decide_eq_true_eq, beq_iff_eq] at hst
  obtain ⟨⟨n1, n2, n3⟩, n4, n5, n6, n7, n8, n9⟩ := hst
  have HN := Lib.hid (And.intro n1 (And.intro n2 (And.intro n3 (And.intro n4 (And.intro n5 (And.intro n6 (And.intro n7 (And.intro n8 n9))))))))
  clear h1 h2 h3 hST n1 n2 n3 n4 n5 n6 n7 n8 n9
  go_enter Tryz.func21, Tryz.ntmps21
  go_wp2_with (first
    | (go_at_call 68; (with_reducible refine H1.out.mono ?_); rintro e w1 ⟨rfl, hr⟩; have R1w := Lib.hid hr; clear hr)
    | (go_at_call 68; (with_reducible refine (H2.out _ R1w.out).mono ?_); rintro e w2 ⟨rfl, hr⟩; have R2w := Lib.hid hr; clear hr))
  obtain ⟨p, q, hl, hk⟩ := H3.out _ R2w.out
  clear H1 H2 H3
  obtain ⟨DA1, dc1, hD1⟩ := hl.dat.len
  obtain ⟨LA1, lc1, hL1⟩ := owns_len14 hl.links
  obtain ⟨FA1, fc1, hF1⟩ := owns_len14 hl.funs.own
  obtain ⟨DA2, dc2, hD2⟩ := hk.dat.len
  obtain ⟨LA2, lc2, hL2⟩ := owns_len14 hk.links
  obtain ⟨FA2, fc2, hF2⟩ := owns_len14 hk.funs.own
  obtain ⟨ln1, hln1⟩ : ∃ n, n = S.links.length := ⟨_, rfl⟩
  obtain ⟨ln2, hln2⟩ : ∃ n, n = T.links.length := ⟨_, rfl⟩
  obtain ⟨dn1, hdn1⟩ : ∃ n, n = S.m.data.length := ⟨_, rfl⟩
  obtain ⟨dn2, hdn2⟩ : ∃ n, n = T.m.data.length := ⟨_, rfl⟩
  obtain ⟨fn1, hfn1⟩ : ∃ n, n = S.m.funcs.length := ⟨_, rfl⟩
  obtain ⟨fn2, hfn2⟩ : ∃ n, n = T.m.funcs.length := ⟨_, rfl⟩
  rw [← hln1] at hL1
  rw [← hln2] at hL2
  rw [← hdn1] at hD1
  rw [← hdn2] at hD2
  rw [← hfn1] at hF1
  rw [← hfn2] at hF2
  have HS := Lib.hid (fun (W : World) (hb : Below w2.heap.size w2 W) => hl.but (But.of_below (R := NoBlock) hb) (fun _ _ h => h) (fun _ h => h.elim))
  have HT := Lib.hid (fun (W : World) (hb : Below w2.heap.size w2 W) => hk.but (But.of_below (R := NoBlock) hb) (fun _ _ h => h) (fun _ h => h.elim))
  have HG : Hid (∀ W, Below w2.heap.size w2 W → W.cell? ⟨sb, 12, none⟩ = some (.int .i64 S.f) ∧ W.cell? ⟨sb, 13, none⟩ = some (.int .u64 S.at_) ∧ W.cell? ⟨sb, 14, none⟩ = some (.int .i64 S.pc) ∧ W.cell? ⟨sb, 15, none⟩ = some (.slice LA1 ln1 lc1) ∧ W.cell? ⟨sb, 9, none⟩ = some (.pointer (some ⟨p.mb, 0, none⟩)) ∧ W.cell? ⟨sb, 4, none⟩ = some (.slice DA1 dn1 dc1) ∧ W.cell? ⟨sb, 5, none⟩ = some (.slice FA1 fn1 fc1) ∧ W.cell? ⟨tb, 12, none⟩ = some (.int .i64 S.f) ∧ W.cell? ⟨tb, 13, none⟩ = some (.int .u64 S.at_) ∧ W.cell? ⟨tb, 14, none⟩ = some (.int .i64 S.pc) ∧ W.cell? ⟨tb, 15, none⟩ = some (.slice LA2 ln2 lc2) ∧ W.cell? ⟨tb, 9, none⟩ = some (.pointer (some ⟨q.mb, 0, none⟩)) ∧ W.cell? ⟨tb, 4, none⟩ = some (.slice DA2 dn2 dc2) ∧ W.cell? ⟨tb, 5, none⟩ = some (.slice FA2 fn2 fc2)) := Lib.hid (fun W hb => by
    obtain ⟨⟨d0, d1, d2, d3, d4, d5⟩, ⟨d6, d7, d8, d9, d10, d11⟩, d12, d13, d14, d15, d16, d17⟩ := cells18 (show W.heap[sb]? = some (.cells #[_, _, _, _, _, _, _, _, _, _, _, _, _, _, _, _, _, _] 80 (0, 0)) from (HS.out W hb).box)
    obtain ⟨⟨e0, e1, e2, e3, e4, e5⟩, ⟨e6, e7, e8, e9, e10, e11⟩, e12, e13, e14, e15, e16, e17⟩ := cells18 (show W.heap[tb]? = some (.cells #[_, _, _, _, _, _, _, _, _, _, _, _, _, _, _, _, _, _] 80 (0, 0)) from (HT.out W hb).box)
    rw [hL1] at d15
    rw [hD1] at d4
    rw [hF1] at d5
    rw [hL2] at e15
    rw [hD2] at e4
    rw [hF2] at e5
    rw [← HN.out.1] at e12
    rw [← HN.out.2.1] at e13
    rw [← HN.out.2.2.1] at e14
    exact ⟨d12, d13, d14, d15, d9, d4, d5, e12, e13, e14, e15, e9, e4, e5⟩)
  have HF1 := Lib.hid (fun (W : World) (hb : Below w2.heap.size w2 W) => fuel15 ⟨sb, 11, none⟩ S.fuel W ((HS.out W hb).cells.1.2.2.2))
  have HF2 : Hid (∀ W, Below w2.heap.size w2 W → Calls Tryz.prog 72 #[.pointer (some ⟨tb, 11, none⟩)] W fun e w' => e = .returned (.int .i64 S.fuel) ∧ W = w') := Lib.hid (fun W hb => by
    rw [HN.out.2.2.2.1]
    exact fuel15 ⟨tb, 11, none⟩ T.fuel W ((HT.out W hb).cells.1.2.2.2))
  have HLK : Hid (∀ W, Below w2.heap.size w2 W → Calls Tryz.prog 75 #[.slice LA1 ln1 lc1, .slice LA2 ln2 lc2] W (Drew14 W (.bool true))) := Lib.hid (fun W hb => by
    have hz := equalL_any p.LV q.LV S.links T.links W (RowIn.of_owns (HS.out W hb).links) (RowIn.of_owns (HT.out W hb).links)
    rw [decide_eq_true HN.out.2.2.2.2.1, hL1, hL2] at hz
    exact hz)
  have HO1 := Lib.hid (fun (W : World) (hb : Below w2.heap.size w2 W) => outcome15 (HS.out W hb))
  have HO2 := Lib.hid (fun (W : World) (hb : Below w2.heap.size w2 W) => outcome15 (HT.out W hb))
  have HDS : Hid (∀ (W : World) (V V' : Value), IsDeeds W W.heap.size V S.done → IsDeeds W W.heap.size V' T.done → Calls Tryz.prog 76 #[.agg #[V, .int .i64 S.ek, .int .i64 S.ec], .agg #[V', .int .i64 T.ek, .int .i64 T.ec]] W (Makes W (.bool true))) := Lib.hid (fun W V V' g1 g2 => by
    have hz := same14 V V' S.done T.done S.ek S.ec T.ek T.ec W g1 g2
    rw [HN.out.2.2.2.2.2.1] at hz
    exact hz)
  have HR1 := Lib.hid (fun (W : World) (hb : Below w2.heap.size w2 W) => rest15 (HS.out W hb))
  have HR2 : Hid (∀ W, Below w2.heap.size w2 W → Calls Tryz.prog 79 #[.pointer (some ⟨tb, 0, none⟩)] W (RestDone W S.left)) := Lib.hid (fun W hb => by
    rw [HN.out.2.2.2.2.2.2.1]
    exact rest15 (HT.out W hb))
  have HEB : Hid (∀ (W : World) (V V' : Value), IsBytes W W.heap.size V S.left → IsBytes W W.heap.size V' S.left → Calls Tryz.prog 78 #[V, V'] W (Drew W (.bool true))) := Lib.hid (fun W V V' g1 g2 => by
    have hz := equalE15 V V' S.left S.left W _ _ g1 g2
    rw [beq_self_eq_true] at hz
    exact hz)
  have HMS : Hid (∀ W, Below w2.heap.size w2 W → Calls Tryz.prog 80 #[.pointer (some ⟨p.mb, 0, none⟩), .pointer (some ⟨q.mb, 0, none⟩)] W (Drew W (.bool true))) := Lib.hid (fun W hb => by
    have hz := same_yes (HS.out W hb).mem (HT.out W hb).mem
    rw [HN.out.2.2.2.2.2.2.2.1, beq_self_eq_true] at hz
    exact hz)
  have HMD : Hid (∀ W, Below w2.heap.size w2 W → Calls Tryz.prog 81 #[.agg #[.slice DA1 dn1 dc1, .slice FA1 fn1 fc1], .agg #[.slice DA2 dn2 dc2, .slice FA2 fn2 fc2]] W (Makes W (.bool true))) := Lib.hid (fun W hb => by
    have h1 := (err_funs hl.ok.mod).2.2.1
    have h2 := (err_funs hk.ok.mod).2.2.1
    have hz := same8_any p.D p.FV q.D q.FV S.m.data T.m.data S.m.funcs T.m.funcs W (HS.out W hb).dat.bytes ((HS.out W hb).funs.funs (by omega)) (HT.out W hb).dat.bytes ((HT.out W hb).funs.funs (by omega)) (by omega) (by omega)
    rw [show sameM ⟨S.m.data, S.m.funcs⟩ ⟨T.m.data, T.m.funcs⟩ = sameM S.m T.m from rfl, HN.out.2.2.2.2.2.2.2.2, hD1, hF1, hD2, hF2] at hz
    exact hz)
  have B0 := Lib.hid (show Below w2.heap.size w2 w2.drew from (Below.refl _ w2).drew)
  have hqc := fun w => eqlC_same w S.f S.at_ S.pc
  obtain ⟨c1, c2, c3, c4, c5, c6, c7, c8, c9, c10, c11, c12, c13, c14⟩ := HG.out _ (Below.refl w2.heap.size w2)
  clear hl hk hD1 hL1 hF1 hD2 hL2 hF2 hln1 hln2 hdn1 hdn2 hfn1 hfn2
  dsimp only [List.append]
  go_region_held3 (fun W => W.cell? ⟨sb, 12, none⟩ = some (.int .i64 S.f) ∧ W.cell? ⟨sb, 13, none⟩ = some (.int .u64 S.at_) ∧ W.cell? ⟨sb, 14, none⟩ = some (.int .i64 S.pc) ∧ W.cell? ⟨sb, 15, none⟩ = some (.slice LA1 ln1 lc1) ∧ W.cell? ⟨sb, 9, none⟩ = some (.pointer (some ⟨p.mb, 0, none⟩)) ∧ W.cell? ⟨sb, 4, none⟩ = some (.slice DA1 dn1 dc1) ∧ W.cell? ⟨sb, 5, none⟩ = some (.slice FA1 fn1 fc1) ∧ W.cell? ⟨tb, 12, none⟩ = some (.int .i64 S.f) ∧ W.cell? ⟨tb, 13, none⟩ = some (.int .u64 S.at_) ∧ W.cell? ⟨tb, 14, none⟩ = some (.int .i64 S.pc) ∧ W.cell? ⟨tb, 15, none⟩ = some (.slice LA2 ln2 lc2) ∧ W.cell? ⟨tb, 9, none⟩ = some (.pointer (some ⟨q.mb, 0, none⟩)) ∧ W.cell? ⟨tb, 4, none⟩ = some (.slice DA2 dn2 dc2) ∧ W.cell? ⟨tb, 5, none⟩ = some (.slice FA2 fn2 fc2))
    (first | with_reducible exact HG.out _ B11.out | with_reducible exact HG.out _ B10.out | with_reducible exact HG.out _ B9.out | with_reducible exact HG.out _ B8.out | with_reducible exact HG.out _ B7.out | with_reducible exact HG.out _ B6.out | with_reducible exact HG.out _ B5.out | with_reducible exact HG.out _ B4.out | with_reducible exact HG.out _ B3.out | go_keep)
    (first
      | (go_at_call 72; (with_reducible refine (HF1.out _ B0.out).mono ?_); rintro e w' ⟨rfl, rfl⟩)
      | (go_at_call 72; (with_reducible refine (HF2.out _ B0.out).mono ?_); rintro e w' ⟨rfl, rfl⟩)
      | (go_at_call 75; (with_reducible refine (HLK.out _ B0.out).mono ?_); rintro e w3 ⟨rfl, hw⟩; have B3 := Lib.hid (show Below w2.heap.size w2 w3 from by obtain ⟨n, rfl⟩ := hw; exact below_drewN B0.out n); clear hw)
      | (go_at_call 77; (with_reducible refine (HO1.out _ B3.out).mono ?_); rintro e w4 ⟨V1, rfl, ho, hb⟩; obtain ⟨v1, u1, hve⟩ := owns_len14 ho; subst hve; have B4 := Lib.hid (B3.out.trans (hb.mono B3.out.size)); have O1 := Lib.hid ho; clear ho hb)
      | (go_at_call 77; (with_reducible refine (HO2.out _ B4.out).mono ?_); rintro e w5 ⟨V2, rfl, ho, hb⟩; obtain ⟨v2, u2, hve⟩ := owns_len14 ho; subst hve; have B5 := Lib.hid (B4.out.trans (hb.mono B4.out.size)); have D1 := Lib.hid (IsDeeds.of_owns (O1.out.below hb (Nat.le_refl _)) (Nat.le_refl _)); have D2 := Lib.hid (IsDeeds.of_owns ho (Nat.le_refl _)); clear ho hb)
      | (go_at_call 76; (with_reducible refine (HDS.out _ _ _ D1.out D2.out).mono ?_); rintro e w6 ⟨rfl, hb⟩; have B6 := Lib.hid (B5.out.trans (hb.mono B5.out.size)); clear hb)
      | (go_at_call 79; (with_reducible refine (HR1.out _ B6.out).mono ?_); rintro e w7 ⟨V3, rfl, hV, hw⟩; obtain ⟨v3, u3, hve⟩ := hV.len; subst hve; have B7 := Lib.hid (show Below w2.heap.size w2 w7 from by obtain ⟨n, rfl⟩ := hw; exact below_drewN B6.out n); have E3 := Lib.hid (show IsBytes w7 w7.heap.size _ S.left from by obtain ⟨n, rfl⟩ := hw; exact hV); clear hV hw)
      | (go_at_call 79; (with_reducible refine (HR2.out _ B7.out).mono ?_); rintro e w8 ⟨V4, rfl, hV, hw⟩; obtain ⟨v4, u4, hve⟩ := hV.len; subst hve; have B8 := Lib.hid (show Below w2.heap.size w2 w8 from by obtain ⟨n, rfl⟩ := hw; exact below_drewN B7.out n); have E4 := Lib.hid (show IsBytes w8 w8.heap.size _ S.left from by obtain ⟨n, rfl⟩ := hw; exact hV); have E5 := Lib.hid (show IsBytes w8 w8.heap.size _ S.left from by obtain ⟨n, rfl⟩ := hw; exact E3.out); clear hV hw)
      | (go_at_call 78; (with_reducible refine (HEB.out _ _ _ E5.out E4.out).mono ?_); rintro e w9 ⟨rfl, hw⟩; have B9 := Lib.hid (show Below w2.heap.size w2 w9 from by obtain ⟨n, rfl⟩ := hw; exact below_drewN B8.out n); clear hw)
      | (go_at_call 80; (with_reducible refine (HMS.out _ B9.out).mono ?_); rintro e w10 ⟨rfl, hw⟩; have B10 := Lib.hid (show Below w2.heap.size w2 w10 from by obtain ⟨n, rfl⟩ := hw; exact below_drewN B9.out n); clear hw)
      | (go_at_call 81; (with_reducible refine (HMD.out _ B10.out).mono ?_); rintro e w11 ⟨rfl, hb⟩; have B11 := Lib.hid (B10.out.trans (hb.mono B10.out.size)); clear hb))
  all_goals
    go_wp2
    go_ret
    exact ⟨rfl, w2, R2w.out, B11.out⟩
theorem sp_same {w W : World} {lo i j sb tb : Nat} {l : List It} {S T : SpV} (h : Spaces w lo W l) (hi : l[i]? = some (.sp sb S)) (hj : l[j]? = some (.sp tb T)) (hST : sameSp S T = true) :
    Calls Tryz.prog 21 #[.pointer (some ⟨sb, 0, none⟩), .pointer (some ⟨tb, 0, none⟩)] W (SpsDone w lo l (.bool true)) := by
  obtain ⟨P, hP⟩ := h.toP
  refine (same15 (R1 := fun W1 => ∃ P, SpacesP w lo W1 l P ∧ LaidAt W1 sb (P i) S) (R2 := fun W2 => ∃ P, SpacesP w lo W2 l P ∧ LaidAt W2 sb (P i) S ∧ LaidAt W2 tb (P j) T) hST ?_ ?_ ?_).mono ?_
  · exact (sp_validP hP hi).mono fun e W' ⟨he, P', h1, h2, _⟩ => ⟨he, P', h1, h2⟩
  · rintro W1 ⟨P1, h1, h2⟩
    exact (sp_validP h1 hj).mono fun e W' ⟨he, P', g1, g2, g3⟩ => ⟨he, P', g1, g3 i sb S hi h2, g2⟩
  · rintro W2 ⟨P2, _, h2, h3⟩
    exact ⟨_, _, h2, h3⟩
  · rintro e W' ⟨he, W2, ⟨P2, h1, _⟩, hb⟩
    exact ⟨he, h1.of.grow hb⟩
end Go.Proofs.YtkfdgpgildanbaaGreat
