/- The landed code.Split: the instructions of bytes, and their places. Contract; no condition but that the bytes are few. -/
import Derived.Test.YtobbjphpngckgaaCode07J
namespace Go.Proofs.Ytobbjphpngckgaa
open Go.RowKit Go.Shelf
set_option linter.unusedVariables false
set_option linter.unusedSimpArgs false

def SplitDone (w : World) (s : SplitV) (e : Ending) (w' : World) : Prop :=
  Below w.heap.size w w' ∧ ((s.err ≠ 0 ∧ e = .returned (.tuple #[.slice none 0 0, .slice none 0 0, .agg #[.int .i64 s.err, .int .i64 s.at_]])) ∨
   (s.err = 0 ∧ ∃ V P Xs, e = .returned (.tuple #[V, P, .agg #[.int .i64 0, .int .i64 0]]) ∧ OwnC w.heap.size w' V s.l Xs ∧ OutN w.heap.size w' P s.ps))
theorem split_bad {w w' : World} {s : SplitV} {z k : Int} {e : Ending} (hs : s.err = z ∧ s.at_ = k) (h0 : z ≠ 0) (hb : Below w.heap.size w w') (he : e = .returned (.tuple #[.slice none 0 0, .slice none 0 0, .agg #[.int .i64 z, .int .i64 k]])) : SplitDone w s e w' :=
  ⟨hb, .inl ⟨by rw [hs.1]; exact h0, by rw [hs.1, hs.2]; exact he⟩⟩
theorem split_good {w w' : World} {s : SplitV} {l : List InsV} {ps : List Int} {V P : Value} {Xs : List Value} {e : Ending} (hs : s = ⟨0, 0, l, ps⟩) (hb : Below w.heap.size w w') (ho : OwnC w.heap.size w' V l Xs) (hp : OutN w.heap.size w' P ps) (he : e = .returned (.tuple #[V, P, .agg #[.int .i64 0, .int .i64 0]])) : SplitDone w s e w' :=
  ⟨hb, .inr (by rw [hs]; exact ⟨rfl, V, P, Xs, he, ho, hp⟩)⟩
theorem OwnC.base {base base' : Nat} {W : World} {V : Value} {l : List InsV} {Xs : List Value} (h : OwnC base W V l Xs) (hb : base' ≤ base) : OwnC base' W V l Xs := ⟨Owns.base h.own hb, h.len, h.inn, h.nums⟩
/-- What Split has made so far. -/
structure SplAt (w W : World) (V P : Value) (l : List InsV) (ps : List Int) (Xs : List Value) : Prop where
  own : OwnC (w.heap.size + 1) W V l Xs
  pls : OutN (w.heap.size + 1) W P ps
  bel : Below w.heap.size w W
  fau : flt W w.heap.size 0 0
  apart : ∀ i, i < l.length → ∀ g, (Xs.getD i (.slice none 0 0)).ownBlock = some g → some g ≠ P.ownBlock
  size : w.heap.size + 1 ≤ W.heap.size
theorem SplAt.call {w W W' : World} {V P : Value} {l : List InsV} {ps : List Int} {Xs : List Value} (h : SplAt w W V P l ps Xs) (hb : Below W.heap.size W W') : SplAt w W' V P l ps Xs :=
  ⟨h.own.below hb (Nat.le_refl _), Owns.below h.pls hb (Nat.le_refl _), h.bel.trans (hb.mono h.bel.size), (hb.block _ (heap_lt h.fau)).trans h.fau, h.apart, Nat.le_trans h.size hb.size⟩
theorem SplAt.app {w W W1 W2 : World} {V P V1 P2 X : Value} {l : List InsV} {ps : List Int} {Xs : List Value} {y : InsV} {k : Int} {B : Nat} (h : SplAt w W V P l ps Xs)
    (hX : OutN B W X y.args) (hPB : ∀ g, P.ownBlock = some g → g < B)
    (h1 : OwnC (w.heap.size + 1) W1 V1 (l ++ [y]) (Xs ++ [X])) (hb1 : Below (w.heap.size + 1) W W1)
    (hs1 : W.heap.size ≤ W1.heap.size) (h2 : OutN (w.heap.size + 1) W2 P2 (ps ++ [k])) (hb2 : Below (w.heap.size + 1) W1 W2) (hk2 : ∀ i, i < W1.heap.size → some i ≠ P.ownBlock → W2.heap[i]? = W1.heap[i]?) (hs2 : W1.heap.size ≤ W2.heap.size)
    (hp1 : OutN (w.heap.size + 1) W1 P ps) (hw : P2.ownBlock = P.ownBlock ∨ P2.ownBlock = some (W1.heap.size + 1)) : SplAt w W2 V1 P2 (l ++ [y]) (ps ++ [k]) (Xs ++ [X]) := by
  have hap : ∀ i, i < (l ++ [y]).length → ∀ g, ((Xs ++ [X]).getD i (.slice none 0 0)).ownBlock = some g → some g ≠ P.ownBlock := by
    intro i hi g hg
    rw [List.length_append] at hi
    simp only [List.length_cons, List.length_nil, Nat.zero_add] at hi
    rw [getD_snoc Xs X _ (by rw [h.own.len]; exact hi), h.own.len] at hg
    by_cases hlt : i < l.length
    · rw [if_pos hlt] at hg
      exact h.apart i hlt g hg
    · rw [if_neg hlt] at hg
      intro e
      have := (hX.lt hg).1
      have := hPB g e.symm
      omega
  have hlt1 : ∀ i, i < (l ++ [y]).length → ∀ g, ((Xs ++ [X]).getD i (.slice none 0 0)).ownBlock = some g → g < W1.heap.size := fun i hi g hg => ((h1.nums i hi).lt hg).2
  have hbut : But (fun k => some k = P.ownBlock) W1 W2 := ⟨hb2.os, hb2.tape, hb2.output, hb2.size, fun i hi hn => hk2 i hi hn⟩
  refine ⟨h1.but hbut (fun g hg e => ?_) (fun i hi g hg e => hap i hi g hg e), h2, ?_, ?_, fun i hi g hg => ?_, ?_⟩
  · obtain ⟨c1, e1⟩ := h1.own.typed hg
    obtain ⟨c2, e2⟩ := hp1.typed e.symm
    rw [e1] at e2
    injection e2 with e2
    injection e2 with _ e2 _
    exact absurd e2 (by decide)
  · exact h.bel.trans ((hb1.trans hb2).mono (Nat.le_succ _))
  · have h3 := h.fau
    unfold flt at h3 ⊢
    rw [(hb1.trans hb2).block _ (Nat.lt_succ_self _)]
    exact h3
  · rcases hw with hw | hw
    · rw [hw]; exact hap i hi g hg
    · rw [hw]
      intro e
      have := hlt1 i hi g hg
      injection e with e
      omega
  · have := h.size
    omega
theorem got_insB {b : List Int} (hb : ∀ x ∈ b, 0 ≤ x ∧ x < 256) {k : Nat} (hk : k ≤ b.length) (h : (getI b k).err = 0) : InsB (getI b k).y := by
  have hc := (put_get hb hk h).2.1
  have ho := chk_ok hc
  generalize (getI b k).y = y at *
  have h1 := hc
  unfold InsV.chk checkV at h1
  have h2 := ho.op
  have hbare := ho.bare
  unfold bareV at hbare
  rw [Bool.and_eq_true, Bool.and_eq_true] at hbare
  obtain ⟨b1, b2, b3⟩ := hbare
  have fitI : ∀ q x, FitQ q x → q ∈ y.letters → InI x := by
    intro q x hf hq
    unfold FitQ at hf
    unfold InI
    split at hf
    · omega
    · rename_i h5
      have hw : (256 : Int) ^ widthV q ≤ 65536 := by
        unfold widthV
        rw [if_neg h5]
        (repeat' split) <;> decide
      omega
  have hreg : ∀ (L rs : List Int) (n : Int) (args : List Int) i, i < regN L → i < rs.length → ∃ q, q ∈ L ∧ (q, rs.getD i 0) ∈ itemsL n args L rs := by
    intro L
    induction L with
    | nil => intro rs n args i hi _; simp [regN] at hi
    | cons q L ih =>
      intro rs n args i hi hr
      simp only [regN] at hi
      by_cases hq : isReg q = true
      · match rs, i with
        | [], i => simp at hr
        | r :: rs, 0 => exact ⟨q, by simp, by simp [itemsL, heldOf, hq]⟩
        | r :: rs, i + 1 =>
          simp only [hq, if_true] at hi
          obtain ⟨q', h1, h2⟩ := ih rs n args i (by omega) (by simpa using hr)
          refine ⟨q', by simp [h1], ?_⟩
          simp only [itemsL, restOf, hq, if_true, List.tail_cons, List.mem_append]
          exact .inr (by simpa using h2)
      · simp only [hq] at hi
        obtain ⟨q', h1, h2⟩ := ih rs n args i (by simpa using hi) hr
        refine ⟨q', by simp [h1], ?_⟩
        simp only [itemsL, restOf, hq, List.mem_append]
        exact .inr (by simpa using h2)
  have hnum : ∀ (L rs : List Int) (n : Int) (args : List Int), hasN L = true → ∃ q, q ∈ L ∧ (q, n) ∈ itemsL n args L rs := by
    intro L
    induction L with
    | nil => intro rs n args h; simp [hasN] at h
    | cons q L ih =>
      intro rs n args h
      have e : hasN (q :: L) = (isNumQ q || hasN L) := by simp [hasN, isNumQ]
      rw [e] at h
      by_cases hq : isNumQ q = true
      · have hq' := hq
        simp only [isNumQ, Bool.and_eq_true, Bool.not_eq_true'] at hq'
        refine ⟨q, by simp, ?_⟩
        have h8 : q ≠ 108 := by simpa using hq'.2
        simp [itemsL, heldOf, hq'.1, h8]
      · obtain ⟨q', h1, h2⟩ := ih (restOf q rs) n args (by simpa [hq] using h)
        exact ⟨q', by simp [h1], by simp only [itemsL, List.mem_append]; exact .inr h2⟩
  have i0 : InI (0 : Int) := by unfold InI; omega
  have hr3 : regN y.letters ≤ 3 := okShape_reg (shapes_ok y.op)
  have regI : ∀ i, i < 3 → InI ([y.a, y.b, y.c].getD i 0) := by
    intro i hi
    by_cases hlt : i < regN y.letters
    · obtain ⟨q, hq, hm⟩ := hreg y.letters [y.a, y.b, y.c] y.n y.args i hlt (by simpa using hi)
      exact fitI _ _ (ho.fit _ hm) hq
    · have hz : [y.a, y.b, y.c].getD i 0 = 0 := by
        have hm : [y.a, y.b, y.c].getD i 0 ∈ [y.a, y.b, y.c].drop (regN y.letters) := by
          have e : [y.a, y.b, y.c].getD i 0 = ([y.a, y.b, y.c].drop (regN y.letters)).getD (i - regN y.letters) 0 := by
            simp only [List.getD, List.getElem?_drop]
            congr 2
            omega
          rw [e]
          exact getD_mem (by simp; omega)
        have := List.all_eq_true.1 b1 _ hm
        simpa using this
      rw [hz]; exact i0
  refine ⟨by unfold InI; omega, regI 0 (by omega), regI 1 (by omega), regI 2 (by omega), ?_⟩
  cases hn : hasN y.letters
  · simp [hn] at b2
    rw [b2]; exact i0
  · obtain ⟨q, hq, hm⟩ := hnum y.letters [y.a, y.b, y.c] y.n y.args hn
    exact fitI _ _ (ho.fit _ hm) hq
theorem getI_gotV {b : List Int} {k : Nat} (h : k ≤ b.length) : gotV b k = getI b k := by
  unfold gotV
  rw [if_neg (by omega)]
  rfl
theorem split_step {b : List Int} {f k : Nat} {l : List InsV} {ps : List Int} (hk : k < b.length) (h : (getI b k).err = 0) : splitF b (f + 1) k l ps = splitF b f (getI b k).next (l ++ [(getI b k).y]) (ps ++ [(k : Int)]) := by
  simp only [splitF, if_pos hk, if_pos h]
theorem split_stop {b : List Int} {f k : Nat} {l : List InsV} {ps : List Int} (hk : k < b.length) (h : (getI b k).err ≠ 0) : splitF b (f + 1) k l ps = ⟨(getI b k).err, (getI b k).at_, [], []⟩ := by
  simp only [splitF, if_pos hk, if_neg h]
theorem split_end {b : List Int} {f : Nat} {l : List InsV} {ps : List Int} : splitF b f b.length l ps = ⟨0, 0, l, ps⟩ := by
  cases f <;> simp [splitF]
set_option maxRecDepth 100000 in
set_option maxHeartbeats 8000000 in
theorem split7_any (X : Value) (b : List Int) (w : World) (hX : IsBytes w w.heap.size X b) : Calls Try.prog 24 #[X] w (SplitDone w (splitV b)) := by
  obtain ⟨A, cap, rfl⟩ := hX.len
  have hm := hX.2.1
  unfold maxLen at hm
  by_cases hl : 4096 < b.length
  · have hlI : (4096 : Int) < (b.length : Int) := by omega
    have HE : Hid ((splitV b).err = 3 ∧ (splitV b).at_ = 4096) := Lib.hid (by unfold splitV; rw [if_pos hl]; exact ⟨rfl, rfl⟩)
    clear hX hl
    go_enter Try.func24, Try.ntmps24
    go_wp2
    refine bodyPost_ret (v := .tuple #[.slice none 0 0, .slice none 0 0, .agg #[.int .i64 3, .int .i64 4096]]) (by simp [results, Try.results24, go_sem]) rfl ?_
    exact split_bad HE.out (by decide) ((Below.refl _ w).alloc (Nat.le_refl _) _) rfl
  have hlI : ¬ (4096 : Int) < (b.length : Int) := by omega
  have HE : Hid (splitV b = splitF b (b.length + 1) 0 [] []) := Lib.hid (by unfold splitV; rw [if_neg hl])
  have HX := Lib.hid hX
  have HBY := Lib.hid hX.1
  obtain ⟨n, hn⟩ : ∃ n, n = b.length := ⟨_, rfl⟩
  have HN := Lib.hid hn
  rw [← hn] at hm hl hlI HX HE ⊢
  have HLN := Lib.hid hl
  have h0 : SplAt w (w.alloc (.cells #[.int .i64 0, .int .i64 0] 41)) (.slice none 0 0) (.slice none 0 0) [] [] [] :=
    ⟨OwnC.nil _ _, Owns.nil _ _ _ _ _, (Below.refl _ w).alloc (Nat.le_refl _) _, heap_alloc_new w _, fun i hi => absurd hi (by simp), by simp⟩
  have H0 := Lib.hid h0
  clear hX h0 hn hl
  go_enter Try.func24, Try.ntmps24
  go_wp2
  go_loopw [5, 6, 7] (fun V P at_ wr => ∃ (f k : Nat) (l : List InsV) (ps : List Int) (Xs : List Value), at_ = .int .i64 k ∧ k ≤ n ∧ Hid (splitV b = splitF b f k l ps ∧ n + 1 ≤ f + k ∧ l.length ≤ k ∧ ps.length ≤ k ∧ SplAt w wr V P l ps Xs)) (fun _ _ at_ _ => n - (intOf at_).toNat)
  case atStart => exact ⟨n + 1, 0, [], [], [], rfl, Nat.zero_le _, ⟨HE.out, by omega, by simp, by simp, H0.out⟩⟩
  case round =>
    obtain ⟨f, k, l, ps, Xs, rfl, hk, HR⟩ := hrel
    obtain ⟨hs, hf, hll, hpl, hsp⟩ := HR.out
    have HS := Lib.hid hs
    have HSP := Lib.hid hsp
    have HLL := Lib.hid (And.intro hll hpl)
    obtain ⟨pA, pc, hpe⟩ := owns_len hsp.pls
    obtain ⟨vA, vc, hve⟩ := owns_len hsp.own.own
    subst hpe hve
    clear HR hs hsp hll hpl
    by_cases hlt : k < n
    · have hltI : (k : Int) < (n : Int) := by omega
      have hkl : k < b.length := by rw [← HN.out]; exact hlt
      have HKL := Lib.hid hkl
      obtain ⟨f', rfl⟩ : ∃ f', f = f' + 1 := ⟨f - 1, by omega⟩
      have HF := Lib.hid hf
      have hbl := HLN.out
      have hG := get7_any (.slice A n cap) b k wr ((HX.out.below HSP.out.bel (Nat.le_refl _)).more HSP.out.bel.size) (by rw [← HN.out]; omega)
      rw [getI_gotV (by omega)] at hG
      by_cases hz : (getI b k).err = 0
      · have HG := Lib.hid (hG.mono fun e w' hh => And.intro hh.1 (hh.2.resolve_left (fun h => h.1 hz)))
        have HST := Lib.hid (HS.out.trans (split_step hkl hz))
        have HIN := Lib.hid (got_insB HBY.out (by omega) hz)
        have hpg := put_get HBY.out (show k ≤ b.length by omega) hz
        have HNX := Lib.hid (And.intro hpg.2.2.2.1 hpg.2.2.2.2)
        generalize getI b k = g at HG HST HIN HNX
        obtain ⟨ge, ga, ⟨op, a, b1, c, n1, args⟩, next⟩ := g
        dsimp only at HG HST HIN HNX
        clear hG hz hpg hkl hf hbl hlt
        go_wp2_with (first
          | (go_at_call 22; (with_reducible refine HG.out.mono ?_); rintro e w2 ⟨hb, _, X, rfl, hX⟩; obtain ⟨xA, xc, hxe⟩ := owns_len hX; subst hxe; have ha := ((Below.refl w2.heap.size w2).alloc (Nat.le_refl _) (.cells (insCells op a b1 c n1 (.slice xA args.length xc)) 35)).alloc (by simp) (.cells #[.int .i64 0, .int .i64 0] 41); have HX2 := Lib.hid (Owns.below hX ha (Nat.le_refl _)); have HS2 := Lib.hid ((HSP.out.call hb).call ha); have HWR := Lib.hid (Nat.le_trans hb.size ha.size); clear hb hX ha)
          | (at_builtin; refine wpList_outC rfl _ _ rfl (y := ⟨op, a, b1, c, n1, args⟩) rfl rfl (by simp) HS2.out.own (Owns.base HX2.out (Nat.zero_le _)) rfl HIN.out HS2.out.size (by have := HLL.out.1; have := HLN.out; omega) ?_; intro V3 w3 hc hb hk3 hkp; have HC3 := Lib.hid hc; have HB3 := Lib.hid hb; have HP3 := Lib.hid (hkp _ _ _ _ _ _ (show (3 : TypeId) ≠ 35 by decide) HS2.out.pls); clear hc hb hk3 hkp)
          | (at_builtin; refine @wpList_outW w3 _ _ _ _ _ rfl (.tmp 34) (.tmp 36) rfl (.slice pA ps.length pc) ps k (w.heap.size + 1) rfl rfl HP3.out (Nat.le_trans HS2.out.size HB3.out.size) (by have := HLL.out.2; have := HLN.out; omega) ?_; intro V4 w4 hc hb hk4 hs4 hw4; have HA := Lib.hid (HS2.out.app (y := ⟨op, a, b1, c, n1, args⟩) HX2.out (fun g hg => (HSP.out.pls.lt hg).2) HC3.out HB3.out HB3.out.size hc hb hk4 hs4 HP3.out hw4); clear hc hb hk4 hs4 hw4))
        have hnx := HNX.out
        have hfl := HF.out
        have hnn := HN.out
        have hll := HLL.out
        go_roundw
        case rel => exact ⟨f', next, _, _, _, rfl, by omega, ⟨HST.out, by omega, by simp; omega, by simp; omega, HA.out⟩⟩
        case measure => simp [intOf]; omega
      · have HG := Lib.hid (hG.mono fun e w' hh => And.intro hh.1 (hh.2.resolve_right (fun h => hz h.1)))
        have HST := Lib.hid (HS.out.trans (split_stop hkl hz))
        generalize getI b k = g at HG HST hz
        obtain ⟨ge, ga, y, next⟩ := g
        dsimp only at HG HST hz
        have HZ := Lib.hid hz
        have hne : (ge != 0) = true := by simpa using hz
        clear hG hz hkl hf hbl hlt
        go_wp2_with (go_at_call 22; (with_reducible refine HG.out.mono ?_); rintro e w2 ⟨hb, _, rfl⟩; have ha := ((Below.refl w2.heap.size w2).alloc (Nat.le_refl _) (.cells (insCells 0 0 0 0 0 (.slice none 0 0)) 35)).alloc (by simp) (.cells #[.int .i64 ge, .int .i64 ga] 41); have HS2 := Lib.hid ((HSP.out.call hb).call ha); clear hb ha; have q0 := flt0 HS2.out.fau; have q1 := flt1 HS2.out.fau; have r0 := fltf HS2.out.fau 0; have r1 := fltf HS2.out.fau 1)
        have HB := Lib.hid ((below_one HS2.out.bel (only2 _ w.heap.size (.int .i64 ge) (.int .i64 ga)) (Nat.le_refl _) HS2.out.bel.size).drew)
        go_region
        go_wp2
        refine bodyPost_ret (v := .tuple #[.slice none 0 0, .slice none 0 0, .agg #[.int .i64 ge, .int .i64 ga]]) (by simp [results, Try.results24, go_sem, q0, q1]) rfl ?_
        exact split_bad (by rw [HST.out]; exact ⟨rfl, rfl⟩) HZ.out HB.out rfl
    · obtain rfl : k = n := by omega
      have HSE : Hid (splitV b = ⟨0, 0, l, ps⟩) := Lib.hid (by rw [HS.out, HN.out]; exact split_end)
      have q0 := flt0 HSP.out.fau
      have q1 := flt1 HSP.out.fau
      have r0 := fltf HSP.out.fau 0
      have r1 := fltf HSP.out.fau 1
      clear hf
      have HB := Lib.hid (below_one HSP.out.bel (only2 wr w.heap.size (.int .i64 0) (.int .i64 0)) (Nat.le_refl _) HSP.out.bel.size)
      have HC := Lib.hid (HSP.out.own.but (only2 wr w.heap.size (.int .i64 0) (.int .i64 0)) (fun g hg e => by have := (HSP.out.own.own.lt hg).1; have e' : g = w.heap.size := e; omega) (fun i hi g hg e => by
        have e' : g = w.heap.size := e
        subst e'
        exact absurd hg.symm ((HSP.out.own.nums i hi).not_own HSP.out.fau (fun cur e => by injection e with _ e _; exact absurd e (by decide)))))
      have HP := Lib.hid (own_one HSP.out.pls (only2 wr w.heap.size (.int .i64 0) (.int .i64 0)) (Nat.lt_succ_self _))
      go_wp2
      refine bodyPost_ret (v := .tuple #[.slice vA l.length vc, .slice pA ps.length pc, .agg #[.int .i64 0, .int .i64 0]]) (by simp [results, Try.results24, go_sem, q0, q1]) rfl ?_
      exact split_good HSE.out HB.out (HC.out.base (Nat.le_succ _)) (Owns.base HP.out (Nat.le_succ _)) rfl
end Go.Proofs.Ytobbjphpngckgaa
