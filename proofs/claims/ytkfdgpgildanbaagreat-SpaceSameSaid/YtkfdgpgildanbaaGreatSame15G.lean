import Derived.Test.YtkfdgpgildanbaaGreatReg21
namespace Go.Proofs.YtkfdgpgildanbaaGreat
open Go.RowKit Go.Shelf
set_option linter.unusedVariables false
set_option linter.unusedSimpArgs false
structure SpacesP (w : World) (lo : Nat) (W : World) (l : List It) (P : Nat → Loc) : Prop where
  at' : ∀ (i : Nat) (a : It), l[i]? = some a → a.at' w.heap.size W (P i)
  up : ∀ (i : Nat) (a : It) (k : Nat), l[i]? = some a → (a.foot (P i) k ∨ a.ro (P i) k) → lo ≤ k
  apart : ∀ (i j : Nat) (a b : It) (k : Nat), i ≠ j → l[i]? = some a → l[j]? = some b → a.foot (P i) k → ¬ (b.foot (P j) k ∨ b.ro (P j) k)
  low : w.heap.size ≤ lo
  top : lo ≤ W.heap.size
  bel : Below w.heap.size w W
theorem Spaces.toP {w W : World} {lo : Nat} {l : List It} (h : Spaces w lo W l) : ∃ P, SpacesP w lo W l P := by
  obtain ⟨P, e1, e2, e3⟩ := h.ex
  exact ⟨P, e1, e2, e3, h.low, h.top, h.bel⟩
theorem SpacesP.of {w W : World} {lo : Nat} {l : List It} {P : Nat → Loc} (h : SpacesP w lo W l P) : Spaces w lo W l := ⟨⟨P, h.at', h.up, h.apart⟩, h.low, h.top, h.bel⟩
theorem SpacesP.laid {w W W' : World} {lo i sb : Nat} {l : List It} {P : Nat → Loc} {S : SpV} {p' : Loc} (h : SpacesP w lo W l P) (hi : l[i]? = some (.sp sb S)) (hv : Vd15 W W' sb (P i) p' S S) :
    ∃ P', SpacesP w lo W' l P' ∧ LaidAt W' sb (P' i) S ∧ ∀ j tb T, l[j]? = some (.sp tb T) → LaidAt W tb (P j) T → LaidAt W' tb (P' j) T := by
  have hw := Nat.le_trans h.low h.top
  refine ⟨fun j => if j = i then p' else P j, ⟨?_, ?_, ?_, h.low, Nat.le_trans h.top hv.but.size, ?_⟩, by simpa using hv.laid, ?_⟩
  · intro j b hj
    by_cases hji : j = i
    · subst hji
      rw [hi] at hj
      obtain rfl := Option.some.inj hj
      simp only [if_true]
      exact .inl hv.laid
    · simp only [if_neg hji]
      exact It.but (h.at' j b hj) hv.but (fun k hk hf => h.apart i j _ b k (fun e => hji e.symm) hi hj hf hk) (fun k hk _ => It.typ (h.at' i _ hi) hk) hw (fun k hk hf => by have := h.up i _ k hi (.inl hf); have := h.low; omega)
  · intro j b k hj hk
    by_cases hji : j = i
    · subst hji
      rw [hi] at hj
      obtain rfl := Option.some.inj hj
      simp only [if_true] at hk
      rcases hk with hk | hk
      · rcases hv.foot k hk with hk | hk
        · exact h.up _ _ k hi (.inl hk)
        · exact Nat.le_trans h.top hk
      · rcases hv.ro k hk with hk | hk
        · exact h.up _ _ k hi (.inr hk)
        · exact Nat.le_trans h.top hk
    · simp only [if_neg hji] at hk
      exact h.up j b k hj hk
  · intro j1 j2 b1 b2 k hne h1 h2 hk
    by_cases hj1 : j1 = i
    · subst hj1
      rw [hi] at h1
      obtain rfl := Option.some.inj h1
      have hj2 : j2 ≠ j1 := fun e => hne e.symm
      simp only [if_true] at hk
      simp only [if_neg hj2]
      rcases hv.foot k hk with hk | hk
      · exact h.apart _ j2 _ b2 k hne hi h2 hk
      · intro hc
        have := It.lt (h.at' j2 b2 h2) hc
        omega
    · simp only [if_neg hj1] at hk
      by_cases hj2 : j2 = i
      · subst hj2
        rw [hi] at h2
        obtain rfl := Option.some.inj h2
        simp only [if_true]
        have hlt := It.lt (h.at' j1 b1 h1) (.inl hk)
        rintro (hc | hc)
        · rcases hv.foot k hc with hc | hc
          · exact h.apart j1 _ b1 _ k hj1 h1 hi hk (.inl hc)
          · omega
        · rcases hv.ro k hc with hc | hc
          · exact h.apart j1 _ b1 _ k hj1 h1 hi hk (.inr hc)
          · omega
      · simp only [if_neg hj2]
        exact h.apart j1 j2 b1 b2 k hne h1 h2 hk
  · exact hv.but.below h.bel hw (fun k hk => Nat.le_trans h.low (h.up i _ k hi (.inl hk)))
  · intro j tb T hj hl
    by_cases hji : j = i
    · subst hji
      rw [hi] at hj
      injection hj with hj
      injection hj with e1 e2
      subst e1 e2
      simp only [if_true]
      exact hv.laid
    · simp only [if_neg hji]
      exact hl.but hv.but (fun k hk hf => h.apart i j _ _ k (fun e => hji e.symm) hi hj hf hk) (fun k hk _ => It.typ (h.at' i _ hi) hk)
theorem sp_validP {w W : World} {lo i sb : Nat} {l : List It} {P : Nat → Loc} {S : SpV} (h : SpacesP w lo W l P) (hi : l[i]? = some (.sp sb S)) :
    Calls Tryz.prog 68 #[.pointer (some ⟨sb, 0, none⟩)] W fun e W' => e = .returned (.bool true) ∧ ∃ P', SpacesP w lo W' l P' ∧ LaidAt W' sb (P' i) S ∧ ∀ j tb T, l[j]? = some (.sp tb T) → LaidAt W tb (P j) T → LaidAt W' tb (P' j) T := by
  refine (valid15 (show SpAt W sb (P i) S from h.at' i _ hi)).mono ?_
  rintro e W' ⟨he, p', hv⟩
  exact ⟨he, h.laid hi hv⟩
def nowB (S T : SpV) : Bool := decide ((S.f : Int) = T.f ∧ S.at_ = T.at_ ∧ S.pc = T.pc)
def sameSp (S T : SpV) : Bool := nowB S T && (S.fuel == T.fuel && (decide (lkT S.links = lkT T.links) && (sameO S.done S.ek S.ec T.done T.ek T.ec && (S.left == T.left && (S.mem == T.mem && sameM S.m T.m)))))
theorem sameSp_self (S : SpV) : sameSp S S = true := by
  unfold sameSp nowB sameO
  simp [sameM_refl]
theorem eqlC_same (w : World) (a b c : Int) : (binOp .eql 77 (.agg #[.int .i64 a, .int .u64 b, .int .i64 c]) (.agg #[.int .i64 a, .int .u64 b, .int .i64 c])).run Tryz.prog w = .ok (.bool true) w := by go_simp
theorem eqlC_diff (w : World) (a b c a' b' c' : Int) (h : ¬ (a = a' ∧ b = b' ∧ c = c')) : (binOp .eql 77 (.agg #[.int .i64 a, .int .u64 b, .int .i64 c]) (.agg #[.int .i64 a', .int .u64 b', .int .i64 c'])).run Tryz.prog w = .ok (.bool false) w := by
  by_cases h0 : a = a'
  · subst h0
    by_cases h1 : b = b'
    · subst h1
      have h2 : (c == c') = false := by simpa using fun e => h ⟨rfl, rfl, e⟩
      go_simp
    · have h2 : (b == b') = false := by simpa using h1
      go_simp
  · have h1 : (a == a') = false := by simpa using h0
    go_simp
set_option maxRecDepth 100000 in
set_option maxHeartbeats 16000000 in
theorem same15 {W : World} {sb tb : Nat} {S T : SpV} {R1 R2 : World → Prop}
    (h1 : Calls Tryz.prog 68 #[.pointer (some ⟨sb, 0, none⟩)] W fun e W' => e = .returned (.bool true) ∧ R1 W')
    (h2 : ∀ W1, R1 W1 → Calls Tryz.prog 68 #[.pointer (some ⟨tb, 0, none⟩)] W1 fun e W' => e = .returned (.bool true) ∧ R2 W')
    (h3 : ∀ W2, R2 W2 → ∃ p q, LaidAt W2 sb p S ∧ LaidAt W2 tb q T) :
    Calls Tryz.prog 21 #[.pointer (some ⟨sb, 0, none⟩), .pointer (some ⟨tb, 0, none⟩)] W fun e W' => e = .returned (.bool (sameSp S T)) ∧ ∃ W2, R2 W2 ∧ Below W2.heap.size W2 W' := by
  have H1 := Lib.hid h1
  have H2 := Lib.hid h2
  have H3 := Lib.hid h3
  have hnot := not15
  clear h1 h2 h3
  go_enter Tryz.func21, Tryz.ntmps21
  go_wp2_with (first
    | (go_at_call 68; (with_reducible refine H1.out.mono ?_); rintro e w1 ⟨rfl, hr⟩; have R1w := Lib.hid hr; clear hr)
    | (go_at_call 68; (with_reducible refine (H2.out _ R1w.out).mono ?_); rintro e w2 ⟨rfl, hr⟩; have R2w := Lib.hid hr; clear hr))
  obtain ⟨p, q, hl, hk⟩ := H3.out _ R2w.out
  clear H1 H2 H3
  obtain ⟨DA1, dc1, hD1⟩ := hl.dat.len
  obtain ⟨LA1, lc1, hL1⟩ := owns_len14 hl.links
  obtain ⟨FA1, fc1, hF1⟩ := owns_len14 hl.funs.own
  obtain ⟨DA2, dc2, hD2⟩ := hk.dat.len
  obtain ⟨LA2, lc2, hL2⟩ := owns_len14 hk.links
  obtain ⟨FA2, fc2, hF2⟩ := owns_len14 hk.funs.own
  obtain ⟨ln1, hln1⟩ : ∃ n, n = S.links.length := ⟨_, rfl⟩
  obtain ⟨ln2, hln2⟩ : ∃ n, n = T.links.length := ⟨_, rfl⟩
  obtain ⟨dn1, hdn1⟩ : ∃ n, n = S.m.data.length := ⟨_, rfl⟩
  obtain ⟨dn2, hdn2⟩ : ∃ n, n = T.m.data.length := ⟨_, rfl⟩
  obtain ⟨fn1, hfn1⟩ : ∃ n, n = S.m.funcs.length := ⟨_, rfl⟩
  obtain ⟨fn2, hfn2⟩ : ∃ n, n = T.m.funcs.length := ⟨_, rfl⟩
  rw [← hln1] at hL1
  rw [← hln2] at hL2
  rw [← hdn1] at hD1
  rw [← hdn2] at hD2
  rw [← hfn1] at hF1
  rw [← hfn2] at hF2
  have HS := Lib.hid (fun (W : World) (hb : Below w2.heap.size w2 W) => hl.but (But.of_below (R := NoBlock) hb) (fun _ _ h => h) (fun _ h => h.elim))
  have HT := Lib.hid (fun (W : World) (hb : Below w2.heap.size w2 W) => hk.but (But.of_below (R := NoBlock) hb) (fun _ _ h => h) (fun _ h => h.elim))
  have HG : Hid (∀ W, Below w2.heap.size w2 W → S21 sb tb S T p q LA1 LA2 ln1 lc1 ln2 lc2 DA1 dn1 dc1 FA1 fn1 fc1 DA2 dn2 dc2 FA2 fn2 fc2 W) := Lib.hid (fun W hb => by
    obtain ⟨⟨d0, d1, d2, d3, d4, d5⟩, ⟨d6, d7, d8, d9, d10, d11⟩, d12, d13, d14, d15, d16, d17⟩ := cells18 (show W.heap[sb]? = some (.cells #[_, _, _, _, _, _, _, _, _, _, _, _, _, _, _, _, _, _] 80 (0, 0)) from (HS.out W hb).box)
    obtain ⟨⟨e0, e1, e2, e3, e4, e5⟩, ⟨e6, e7, e8, e9, e10, e11⟩, e12, e13, e14, e15, e16, e17⟩ := cells18 (show W.heap[tb]? = some (.cells #[_, _, _, _, _, _, _, _, _, _, _, _, _, _, _, _, _, _] 80 (0, 0)) from (HT.out W hb).box)
    rw [hL1] at d15
    rw [hD1] at d4
    rw [hF1] at d5
    rw [hL2] at e15
    rw [hD2] at e4
    rw [hF2] at e5
    exact ⟨d12, d13, d14, d15, d9, d4, d5, e12, e13, e14, e15, e9, e4, e5⟩)
  have hq0 : ∀ w, (binOp .eql 77 (.agg #[.int .i64 S.f, .int .u64 S.at_, .int .i64 S.pc]) (.agg #[.int .i64 T.f, .int .u64 T.at_, .int .i64 T.pc])).run Tryz.prog w = .ok (.bool (nowB S T)) w := fun w => by
    unfold nowB
    by_cases h : (S.f : Int) = T.f ∧ S.at_ = T.at_ ∧ S.pc = T.pc
    · rw [decide_eq_true h, h.1, h.2.1, h.2.2]
      exact eqlC_same w _ _ _
    · rw [decide_eq_false h]
      exact eqlC_diff w _ _ _ _ _ _ h
  dsimp only [List.append]
  refine region21 (S := S) (T := T) (fun _ _ _ _ _ h => h) HG.out hq0 rfl
    (fun W hb => fuel15 ⟨sb, 11, none⟩ S.fuel W ((HS.out W hb).cells.1.2.2.2)) (fun W hb => fuel15 ⟨tb, 11, none⟩ T.fuel W ((HT.out W hb).cells.1.2.2.2))
    (fun W hb => by
      have hz := equalL_any p.LV q.LV S.links T.links W (RowIn.of_owns (HS.out W hb).links) (RowIn.of_owns (HT.out W hb).links)
      rw [hL1, hL2] at hz
      exact hz)
    (fun W hb => outcome15 (HS.out W hb)) (fun W hb => outcome15 (HT.out W hb))
    (fun W V V' g1 g2 => same14 V V' S.done T.done S.ek S.ec T.ek T.ec W g1 g2)
    (fun W hb => rest15 (HS.out W hb)) (fun W hb => rest15 (HT.out W hb))
    (fun W V V' g1 g2 => equalE15 V V' S.left T.left W _ _ g1 g2)
    (fun W hb => same_yes (HS.out W hb).mem (HT.out W hb).mem)
    (fun W hb => by
      have h1 := (err_funs hl.ok.mod).2.2.1
      have h2 := (err_funs hk.ok.mod).2.2.1
      have hz := same8_any p.D p.FV q.D q.FV S.m.data T.m.data S.m.funcs T.m.funcs W (HS.out W hb).dat.bytes ((HS.out W hb).funs.funs (by omega)) (HT.out W hb).dat.bytes ((HT.out W hb).funs.funs (by omega)) (by omega) (by omega)
      rw [show sameM ⟨S.m.data, S.m.funcs⟩ ⟨T.m.data, T.m.funcs⟩ = sameM S.m T.m from rfl, hD1, hF1, hD2, hF2] at hz
      exact hz) ?_
  intro w6 v13 v14 v15 v16 v17 v18 v19 v20 v21 v22 v23 v24 v25 v26 v27 v28 v29 v30 v31 v32 v33 v34 v35 v36 v37 v38 v39 v40 v41 v42 v43 v44 v45 v46 v47 v48 v49 v50 v51 v52 v53 v54 v55 v56 v57 v58 v59 v60 v61 v62 v63 v64 v65 v66 v67 v68 v69 v70 v71 v72 v73 v74 v75 v76 v77 v78 v79 v80 v81 hb6
  have B6 := Lib.hid hb6
  clear hb6 HG HS HT hl hk hq0 hD1 hL1 hF1 hD2 hL2 hF2 hln1 hln2 hdn1 hdn2 hfn1 hfn2
  go_wp2
  go_ret
  exact ⟨rfl, w2, R2w.out, B6.out⟩
theorem sp_same_any {w W : World} {lo i j sb tb : Nat} {l : List It} {S T : SpV} (h : Spaces w lo W l) (hi : l[i]? = some (.sp sb S)) (hj : l[j]? = some (.sp tb T)) :
    Calls Tryz.prog 21 #[.pointer (some ⟨sb, 0, none⟩), .pointer (some ⟨tb, 0, none⟩)] W (SpsDone w lo l (.bool (sameSp S T))) := by
  obtain ⟨P, hP⟩ := h.toP
  refine (same15 (S := S) (T := T) (R1 := fun W1 => ∃ P, SpacesP w lo W1 l P ∧ LaidAt W1 sb (P i) S) (R2 := fun W2 => ∃ P, SpacesP w lo W2 l P ∧ LaidAt W2 sb (P i) S ∧ LaidAt W2 tb (P j) T) ?_ ?_ ?_).mono ?_
  · exact (sp_validP hP hi).mono fun e W' ⟨he, P', h1, h2, _⟩ => ⟨he, P', h1, h2⟩
  · rintro W1 ⟨P1, h1, h2⟩
    exact (sp_validP h1 hj).mono fun e W' ⟨he, P', g1, g2, g3⟩ => ⟨he, P', g1, g3 i sb S hi h2, g2⟩
  · rintro W2 ⟨P2, _, h2, h3⟩
    exact ⟨_, _, h2, h3⟩
  · rintro e W' ⟨he, W2, ⟨P2, h1, _⟩, hb⟩
    exact ⟨he, h1.of.grow hb⟩
theorem sp_same {w W : World} {lo i j sb tb : Nat} {l : List It} {S T : SpV} (h : Spaces w lo W l) (hi : l[i]? = some (.sp sb S)) (hj : l[j]? = some (.sp tb T)) (hST : sameSp S T = true) :
    Calls Tryz.prog 21 #[.pointer (some ⟨sb, 0, none⟩), .pointer (some ⟨tb, 0, none⟩)] W (SpsDone w lo l (.bool true)) := by
  have hz := sp_same_any h hi hj
  rw [hST] at hz
  exact hz
end Go.Proofs.YtkfdgpgildanbaaGreat
