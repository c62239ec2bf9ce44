/- The landed text.Get: which module a text is, or what is wrong with it, and where. Contract; no condition but what it names. -/
import Derived.Test.YtohlifeenhaifaaGreatDoorS31
namespace Go.Proofs.YtohlifeenhaifaaGreatDoor
open Go.RowKit Go.Shelf
set_option linter.unusedVariables false
set_option linter.unusedSimpArgs false

abbrev splitW (s : ByteArray) (w : World) : World := ((w.alloc (.cells #[.string s] 9)).alloc (.cells #[.string ⟨#[10]⟩] 9)).alloc (.cells #[.int .i64 0] 3)
theorem splitIn13 (s : ByteArray) (w : World) : Calls Tryz.prog 62 #[.string s, .string ⟨#[10]⟩, .int .i64 0] w fun e w' =>
    e = .returned (.func (.func 95) #[] #[.pointer (some ⟨w.heap.size + 1, 0, none⟩), .pointer (some ⟨w.heap.size, 0, none⟩), .pointer (some ⟨w.heap.size + 2, 0, none⟩)]) ∧ splitW s w = w' := by
  go_enter Tryz.func62, Tryz.ntmps62
  go_wp2
  go_ret
  simp
theorem splitSeq13 (s : ByteArray) (w : World) : Calls Tryz.prog 37 #[.string s, .string ⟨#[10]⟩] w fun e w' =>
    e = .returned (.func (.func 95) #[] #[.pointer (some ⟨w.heap.size + 1, 0, none⟩), .pointer (some ⟨w.heap.size, 0, none⟩), .pointer (some ⟨w.heap.size + 2, 0, none⟩)]) ∧ splitW s w = w' := by
  go_enter Tryz.func37, Tryz.ntmps37
  go_wp2_with (go_at_call 62; (with_reducible refine (splitIn13 s _).mono ?_); rintro e w1 ⟨rfl, rfl⟩)
  go_ret
  exact ⟨rfl, rfl⟩
theorem splitW_spl (s : ByteArray) (w : World) : Spl13 w.heap.size s (splitW s w) := by
  have h1 := heap_alloc_new w (.cells #[.string s] 9)
  have h2 := heap_alloc_new (w.alloc (.cells #[.string s] 9)) (.cells #[.string ⟨#[10]⟩] 9)
  have h3 := heap_alloc_new ((w.alloc (.cells #[.string s] 9)).alloc (.cells #[.string ⟨#[10]⟩] 9)) (.cells #[.int .i64 0] 3)
  rw [World.size_alloc] at h2
  rw [World.size_alloc, World.size_alloc] at h3
  refine ⟨?_, ?_, h3⟩
  · rw [Below.heap_alloc _ _ _ (by simp; omega), Below.heap_alloc _ _ _ (by simp)]
    exact h1
  · rw [Below.heap_alloc _ _ _ (by simp)]
    exact h2
theorem start13 (s : ByteArray) (w : World) : ∃ W0, W0 = splitW s ((((w.alloc (.cells #[.slice none 0 0, .slice none 0 0] 25)).alloc (.cells #[.int .i64 0, .int .i64 0] 41)).alloc (.cells #[.slice none 0 0, .slice none 0 0] 69)).alloc (.cells #[.int .i64 0] 3)) ∧
    W0.heap.size = w.heap.size + 7 ∧ Spl13 (w.heap.size + 4) s W0 ∧ Mid13 w [] W0 := by
  obtain ⟨W1, h1⟩ : ∃ W1, W1 = w.alloc (.cells #[.slice none 0 0, .slice none 0 0] 25) := ⟨_, rfl⟩
  obtain ⟨W2, h2⟩ : ∃ W2, W2 = W1.alloc (.cells #[.int .i64 0, .int .i64 0] 41) := ⟨_, rfl⟩
  obtain ⟨W3, h3⟩ : ∃ W3, W3 = W2.alloc (.cells #[.slice none 0 0, .slice none 0 0] 69) := ⟨_, rfl⟩
  obtain ⟨W4, h4⟩ : ∃ W4, W4 = W3.alloc (.cells #[.int .i64 0] 3) := ⟨_, rfl⟩
  have s1 : W1.heap.size = w.heap.size + 1 := by rw [h1]; simp
  have s2 : W2.heap.size = w.heap.size + 2 := by rw [h2]; simp; omega
  have s3 : W3.heap.size = w.heap.size + 3 := by rw [h3]; simp; omega
  have s4 : W4.heap.size = w.heap.size + 4 := by rw [h4]; simp; omega
  have b1 : Below w.heap.size w W1 := by rw [h1]; exact (Below.refl _ _).alloc (Nat.le_refl _) _
  have b2 : Below W1.heap.size W1 W2 := by rw [h2]; exact (Below.refl _ _).alloc (Nat.le_refl _) _
  have b3 : Below W2.heap.size W2 W3 := by rw [h3]; exact (Below.refl _ _).alloc (Nat.le_refl _) _
  have b4 : Below W3.heap.size W3 W4 := by rw [h4]; exact (Below.refl _ _).alloc (Nat.le_refl _) _
  have k0 := heap_alloc_new w (.cells #[.slice none 0 0, .slice none 0 0] 25)
  have k1 := heap_alloc_new W1 (.cells #[.int .i64 0, .int .i64 0] 41)
  have k2 := heap_alloc_new W2 (.cells #[.slice none 0 0, .slice none 0 0] 69)
  have k3 := heap_alloc_new W3 (.cells #[.int .i64 0] 3)
  rw [← h1] at k0
  rw [← h2, s1] at k1
  rw [← h3, s2] at k2
  rw [← h4, s3] at k3
  have hsp := splitW_spl s W4
  rw [s4] at hsp
  have hb : Below W4.heap.size W4 (splitW s W4) := (((Below.refl _ _).alloc (Nat.le_refl _) _).alloc (by simp) _).alloc (by simp; omega) _
  have hsz : (splitW s W4).heap.size = w.heap.size + 7 := by simp; omega
  have g2 := (hb.block _ (by omega)).trans ((b4.block _ (by omega)).trans k2)
  refine ⟨_, rfl, by rw [← h1, ← h2, ← h3, ← h4]; exact hsz, by rw [← h1, ← h2, ← h3, ← h4]; exact hsp, ?_⟩
  rw [← h1, ← h2, ← h3, ← h4]
  refine ⟨⟨⟨[], []⟩, w.heap.size + 7, .slice none 0 0, .slice none 0 0, [], ⟨g2, Owns.nil _ _ _ _ _, by simp, ⟨Owns.nil _ _ _ _ _, rfl, by simp, fun i hi => by simp at hi, fun i hi => by simp at hi, fun h => absurd rfl h, Nat.le_refl _, by omega⟩⟩, Run13.nil, Nat.zero_le _⟩,
    (hb.block _ (by omega)).trans ((b4.block _ (by omega)).trans ((b3.block _ (by omega)).trans ((b2.block _ (by omega)).trans k0))), (hb.block _ (by omega)).trans ((b4.block _ (by omega)).trans ((b3.block _ (by omega)).trans k1)), (hb.block _ (by omega)).trans k3, ⟨_, hsp.str⟩, ?_, by omega⟩
  exact ((((b1.trans (b2.mono b1.size)).trans (b3.mono (by omega))).trans (b4.mono (by omega))).trans (hb.mono (by omega)))
theorem owns_bytes13 {w : World} {base : Nat} {D : Value} {xs : List Int} (h : Owns w base 5 1 IsU8 D xs.length (xs.map (Value.int .u8))) (hb : ∀ x ∈ xs, 0 ≤ x ∧ x < 256) (hl : xs.length ≤ 1000000000) : IsBytes w w.heap.size D xs := by
  refine ⟨hb, by unfold maxLen; omega, ?_⟩
  rcases h.1.2 with ⟨rfl, h0⟩ | ⟨g, cap, cur, rfl, h1, h2, h3, h4, h5, h6⟩
  · exact .inl ⟨rfl, List.eq_nil_of_length_eq_zero h0⟩
  · refine .inr ⟨⟨g, 0, none⟩, cap, rfl, h3, fun _ => heap_lt h2, fun i hi => ?_⟩
    have := h.1.cells (g := g) rfl i (.int .u8 (xs.getD i 0)) (by rw [List.getElem?_map, List.getElem?_eq_getElem hi]; simp [List.getD, List.getElem?_eq_getElem hi])
    exact this
/-- What a line's call leaves of memory. -/
structure Aft13 (w W W3 : World) : Prop where
  same : ∀ k, k < w.heap.size + 7 → k ≠ w.heap.size + 2 → W3.heap[k]? = W.heap[k]?
  oth : KeepsOthers W W3
  bel : Below w.heap.size W W3
  size : W.heap.size ≤ W3.heap.size
theorem aft13 {w W W2 W3 : World} {c : Array Value} {t : TypeId} (hw : w.heap.size + 7 ≤ W.heap.size) (hc : W.heap[w.heap.size + 2]? = some (.cells c t (0, 0))) (h2 : Below W.heap.size W W2) (h3 : Wr13 (w.heap.size + 2) (w.heap.size + 7) W2 W3) : Aft13 w W W3 := by
  have hs := h2.size
  refine ⟨fun k h1 h4 => (h3.block k (by omega) (by rintro (e | ⟨e, _⟩) <;> omega)).trans (h2.block k (by omega)), ?_, (h2.mono (by omega)).trans (h3.below (by omega) (by omega) (by omega)), Nat.le_trans hs h3.size⟩
  exact KeepsOthers.trans ⟨hs, fun k o ho _ => (h2.block k (heap_lt ho)).trans ho⟩ (wr_others h3 ((h2.block _ (heap_lt hc)).trans hc))
theorem bad13_set {w W W3 : World} {pre : List (List Int)} {s : List Int} {z : Int} {k : Nat} (hm : Mid13 w pre W) (ha : Aft13 w W W3) (hz : z ≠ 0) (hr : (runL ⟨[], []⟩ 0 (linesOf s)).2 = (z, k)) (v0 v1 : Value) (hv : v0 = .slice none 0 0) (hv1 : v1 = .slice none 0 0) :
    Bad13 w s (set22 W3 w.heap.size (w.heap.size + 1) v0 v1 (.int .i64 z) (.int .i64 k)).drew ∧ KeepsOthers W (set22 W3 w.heap.size (w.heap.size + 1) v0 v1 (.int .i64 z) (.int .i64 k)).drew := by
  subst hv hv1
  have m0 := (ha.same _ (by omega) (by omega)).trans hm.mod
  have f0 := (ha.same _ (by omega) (by omega)).trans hm.flt
  obtain ⟨c, hc⟩ := hm.str
  have c0 := (ha.same _ (by omega) (by omega)).trans hc
  have ne : ∀ (A : World) (p q o : Nat) (v : Value), q ≠ p → (A.setCell ⟨p, o, none⟩ v).heap[q]? = A.heap[q]? := fun A p q o v h => Below.heap_setCell _ _ _ _ h
  have g0 := heap_setCell_same W3 w.heap.size 0 _ _ (.slice none 0 0) m0
  have g1 := heap_setCell_same _ w.heap.size 1 _ _ (.slice none 0 0) g0
  have h0 : ((W3.setCell ⟨w.heap.size, 0, none⟩ (.slice none 0 0)).setCell ⟨w.heap.size, 1, none⟩ (.slice none 0 0)).heap[w.heap.size + 1]? = some (.cells #[.int .i64 0, .int .i64 0] 41 (0, 0)) := by
    rw [ne _ _ _ _ _ (by omega), ne _ _ _ _ _ (by omega)]; exact f0
  have h1 := heap_setCell_same _ (w.heap.size + 1) 0 _ _ (.int .i64 z) h0
  have h2 := heap_setCell_same _ (w.heap.size + 1) 1 _ _ (.int .i64 k) h1
  have hB : Bad13 w s (set22 W3 w.heap.size (w.heap.size + 1) (.slice none 0 0) (.slice none 0 0) (.int .i64 z) (.int .i64 k)) := by
    refine ⟨?_, ⟨z, k, h2, hz, hr⟩, ⟨c, ?_⟩, ?_⟩
    · show ((_ : World).setCell _ _).heap[w.heap.size]? = _
      rw [ne _ _ _ _ _ (by omega), ne _ _ _ _ _ (by omega)]
      exact g1
    · show ((_ : World).setCell _ _).heap[w.heap.size + 4]? = _
      rw [ne _ _ _ _ _ (by omega), ne _ _ _ _ _ (by omega), ne _ _ _ _ _ (by omega), ne _ _ _ _ _ (by omega)]
      exact c0
    · refine (hm.bel.trans ?_)
      exact (((ha.bel.setCell (p := ⟨w.heap.size, 0, none⟩) (by simp) _).setCell (p := ⟨w.heap.size, 1, none⟩) (by simp) _).setCell (p := ⟨w.heap.size + 1, 0, none⟩) (by simp) _).setCell (p := ⟨w.heap.size + 1, 1, none⟩) (by simp) _
  exact ⟨⟨hB.mod, hB.flt, hB.str, hB.bel.drew⟩, ((((ha.oth.trans (KeepsOthers.setCell _ _ _)).trans (KeepsOthers.setCell _ _ _)).trans (KeepsOthers.setCell _ _ _)).trans (KeepsOthers.setCell _ _ _)).trans (KeepsOthers.drew _)⟩
theorem mid13_set {w W W3 : World} {pre : List (List Int)} {l : List Int} {m : ModV} {b0 : Nat} {D F : Value} {Cs : List Value} (hm : Mid13 w pre W) (ha : Aft13 w W W3) (hR : Rdr13 (w.heap.size + 7) b0 W3 (w.heap.size + 2) D F m Cs) (hrun : Run13 (pre ++ [l]) m) (hc : cntM m ≤ wideW (pre ++ [l])) :
    Mid13 w (pre ++ [l]) (W3.setCell ⟨w.heap.size + 3, 0, none⟩ (.int .i64 (wideW (pre ++ [l])))) ∧ KeepsOthers W (W3.setCell ⟨w.heap.size + 3, 0, none⟩ (.int .i64 (wideW (pre ++ [l])))) ∧ Kp13 (w.heap.size + 4) W (W3.setCell ⟨w.heap.size + 3, 0, none⟩ (.int .i64 (wideW (pre ++ [l])))) := by
  have hp := (ha.same _ (by omega) (by omega)).trans hm.plc
  have ne : ∀ (A : World) (p q o : Nat) (v : Value), q ≠ p → (A.setCell ⟨p, o, none⟩ v).heap[q]? = A.heap[q]? := fun A p q o v h => Below.heap_setCell _ _ _ _ h
  have g := heap_setCell_same W3 (w.heap.size + 3) 0 _ _ (.int .i64 (wideW (pre ++ [l]))) hp
  have hb := hm.big
  have hs := ha.size
  obtain ⟨c, hcs⟩ := hm.str
  refine ⟨⟨⟨m, b0, D, F, Cs, ?_, hrun, hc⟩, ?_, ?_, g, ⟨c, ?_⟩, (hm.bel.trans ha.bel).setCell (p := ⟨w.heap.size + 3, 0, none⟩) (by simp) _, ?_⟩, ha.oth.trans (KeepsOthers.setCell _ _ _), fun k h1 h2 => ?_⟩
  · have hset : But (OneBlock (w.heap.size + 3)) W3 (W3.setCell ⟨w.heap.size + 3, 0, none⟩ (.int .i64 (wideW (pre ++ [l])))) := (But.refl (OneBlock (w.heap.size + 3)) W3).setCell (p := ⟨w.heap.size + 3, 0, none⟩) (.inl rfl) _
    have hlow : ∀ k, OneBlock (w.heap.size + 3) k → k = w.heap.size + 3 := fun k e => e
    exact ⟨hset.heap hR.box (fun e => by have := hlow _ e; omega), hR.dat.but hset (fun g hg e => by have := (hR.dat.lt hg).1; have := hlow _ e; omega), hR.bd, hR.fns.but2 hset (fun k e => by have := hlow _ e; omega)⟩
  · rw [ne _ _ _ _ _ (by omega)]; exact (ha.same _ (by omega) (by omega)).trans hm.mod
  · rw [ne _ _ _ _ _ (by omega)]; exact (ha.same _ (by omega) (by omega)).trans hm.flt
  · rw [ne _ _ _ _ _ (by omega)]; exact (ha.same _ (by omega) (by omega)).trans hcs
  · simp [World.setCell]; omega
  · rw [ne _ _ _ _ _ (by omega)]; exact ha.same _ (by omega) (by omega)
theorem fin13 {w W1 : World} {D : Nat} {x0 x1 y0 y1 : Value} (hm : W1.heap[w.heap.size]? = some (.cells #[x0, x1] 25 (0, 0))) (hf : W1.heap[w.heap.size + 1]? = some (.cells #[y0, y1] 41 (0, 0))) (hD : w.heap.size + 7 ≤ D) (v0 v1 u0 u1 : Value) :
    ((set22 W1 w.heap.size (w.heap.size + 1) v0 v1 u0 u1).putObj D (.deferred none)).heap[w.heap.size]? = some (.cells #[v0, v1] 25 (0, 0)) ∧ ((set22 W1 w.heap.size (w.heap.size + 1) v0 v1 u0 u1).putObj D (.deferred none)).heap[w.heap.size + 1]? = some (.cells #[u0, u1] 41 (0, 0)) ∧
    But (fun k => k = w.heap.size ∨ k = w.heap.size + 1 ∨ k = D) W1 ((set22 W1 w.heap.size (w.heap.size + 1) v0 v1 u0 u1).putObj D (.deferred none)) := by
  have ne : ∀ (A : World) (p q o : Nat) (v : Value), q ≠ p → (A.setCell ⟨p, o, none⟩ v).heap[q]? = A.heap[q]? := fun A p q o v h => Below.heap_setCell _ _ _ _ h
  have g0 := heap_setCell_same W1 w.heap.size 0 _ _ v0 hm
  have g1 := heap_setCell_same _ w.heap.size 1 _ _ v1 g0
  have h0 : ((W1.setCell ⟨w.heap.size, 0, none⟩ v0).setCell ⟨w.heap.size, 1, none⟩ v1).heap[w.heap.size + 1]? = some (.cells #[y0, y1] 41 (0, 0)) := by
    rw [ne _ _ _ _ _ (by omega), ne _ _ _ _ _ (by omega)]; exact hf
  have h1 := heap_setCell_same _ (w.heap.size + 1) 0 _ _ u0 h0
  have h2 := heap_setCell_same _ (w.heap.size + 1) 1 _ _ u1 h1
  have hb : But (fun k => k = w.heap.size ∨ k = w.heap.size + 1 ∨ k = D) W1 (set22 W1 w.heap.size (w.heap.size + 1) v0 v1 u0 u1) :=
    ((((But.refl _ W1).setCell (p := ⟨w.heap.size, 0, none⟩) (.inl (.inl rfl)) _).setCell (p := ⟨w.heap.size, 1, none⟩) (.inl (.inl rfl)) _).setCell (p := ⟨w.heap.size + 1, 0, none⟩) (.inl (.inr (.inl rfl))) _).setCell (p := ⟨w.heap.size + 1, 1, none⟩) (.inl (.inr (.inl rfl))) _
  refine ⟨(World.putObj_heap_other (by omega)).trans ?_, (World.putObj_heap_other (by omega)).trans h2, hb.trans ((put_but _ D _).mono (fun k e => .inr (.inr e)))⟩
  show ((_ : World).setCell _ _).heap[w.heap.size]? = _
  rw [ne _ _ _ _ _ (by omega), ne _ _ _ _ _ (by omega)]
  exact g1
theorem gotNil13 {w W : World} (hb : Below w.heap.size w W) (e k : Int) : MGotDone w ⟨e, k, ⟨[], []⟩⟩ (.returned (.tuple #[.agg #[.slice none 0 0, .slice none 0 0], .agg #[.int .i64 e, .int .i64 k]])) W :=
  ⟨_, _, [], rfl, ⟨Owns.nil _ _ _ _ _, hb⟩, OwnF.nil _ _ _⟩
theorem gotSome13 {w W1 Wf : World} {b0 D : Nat} {DV FV : Value} {m : ModV} {Cs : List Value} {c0 c1 : Array Value} (hR : Rdr13 (w.heap.size + 7) b0 W1 (w.heap.size + 2) DV FV m Cs) (hm : W1.heap[w.heap.size]? = some (.cells c0 25 (0, 0))) (hf : W1.heap[w.heap.size + 1]? = some (.cells c1 41 (0, 0))) (hD : w.heap.size + 7 ≤ D)
    {o : Obj} (hK : W1.heap[D]? = some o) (ho : o.isCells = false) (hb : Below w.heap.size w W1) (hbut : But (fun k => k = w.heap.size ∨ k = w.heap.size + 1 ∨ k = D) W1 Wf) : MGotDone w ⟨0, 0, m⟩ (.returned (.tuple #[.agg #[DV, FV], .agg #[.int .i64 0, .int .i64 0]])) Wf := by
  have hn : ∀ (t : TypeId), t ≠ 25 → t ≠ 41 → ∀ k c, W1.heap[k]? = some (.cells c t (0, 0)) → ¬ (k = w.heap.size ∨ k = w.heap.size + 1 ∨ k = D) := fun t h1 h2 k c hc e => by
    rcases e with rfl | rfl | rfl
    · exact typed_ne hc h1 hm
    · exact typed_ne hc h2 hf
    · rw [hc] at hK; injection hK with hK; subst hK; cases ho
  have hF := hR.fns.but hbut (hn _ (by decide) (by decide)) (hn _ (by decide) (by decide)) (hn _ (by decide) (by decide))
  refine ⟨DV, FV, Cs, rfl, ⟨(hR.dat.but hbut (fun g hg => by obtain ⟨c, hc⟩ := hR.dat.typed hg; exact hn _ (by decide) (by decide) _ _ hc)).base (by omega), But.below hb hbut hb.size (fun k e => by rcases e with rfl | rfl | rfl <;> omega)⟩, ⟨hF.fown.base (Nat.zero_le _), hF.flen, hF.finn, fun i hi => by obtain ⟨bs, Xs, h1, h2, _⟩ := hF.cods i hi; exact .inr ⟨bs, Xs, h1, h2⟩⟩⟩
attribute [local go_sem] Oper.semAt_some
set_option maxRecDepth 100000 in
set_option maxHeartbeats 16000000 in
theorem get13_in (n : Nat) (hn : 6 ≤ n) (s : ByteArray) (w : World) (hE : Env13 w) (hs : ¬ 400000 < s.size) :
    CallsIn Fence.wide n Tryz.prog 18 #[.string s] w (MGotDone w (got13 (lettersOf s))) := by
  have h1 : 1 ≤ n := by omega
  have hsI : ¬ (400000 : Int) < (s.size : Int) := by omega
  have HE := Lib.hid hE
  have HSz := Lib.hid hs
  clear hE hs
  refine callsIn_of_wp_marks Tryz.func18 rfl trivial ?_ rfl
  simp only [Tryz.ntmps18, List.size_toArray, List.length_cons, List.length_nil, Nat.reduceAdd, Nat.reduceSub, Array.replicate_succ, Array.replicate_zero, List.push_toArray, List.append_toArray, List.nil_append, List.cons_append]
  gi_wp2_with (refine ⟨trivial, ?_⟩; gi_at_call 37; (with_reducible refine (callsIn_wide.2 (splitSeq13 s _)).mono ?_); rintro e w' ⟨rfl, rfl⟩)
  obtain ⟨W0, hW0, hs0, hsp, hmid⟩ := start13 s w
  rw [← hW0]
  clear hW0
  simp only [Nat.add_assoc, Nat.reduceAdd]
  have HM0 := Lib.hid hmid
  have HS0 := Lib.hid hs0
  have HSP := Lib.hid hsp
  clear hmid hs0 hsp
  refine range_moves (n := n) (w := W0) rfl h1 (gf := 95) (lb := #[.pointer (some ⟨w.heap.size + 5, 0, none⟩), .pointer (some ⟨w.heap.size + 4, 0, none⟩), .pointer (some ⟨w.heap.size + 6, 0, none⟩)]) rfl trivial (enters_of Tryz.func95 (by kernel_rfl) rfl)
    (fun W hb => split13_moves (n - 1) (by omega) (w.heap.size + 4) s W ⟨(hb.block _ (by have := HS0.out; omega)).trans HSP.out.str, (hb.block _ (by have := HS0.out; omega)).trans HSP.out.sep, (hb.block _ (by have := HS0.out; omega)).trans HSP.out.sav⟩ (by have := HSz.out; omega))
    (fun h k => kp13_t h k) (fun A l o o' hl _ _ _ => kp13_b (b := W0.heap.size) (by have := HS0.out; omega) A l o o' hl) (fun A B k o hm ho hc => by obtain ⟨r, rfl⟩ := hm; exact (KeepsOthers.setCell _ _ _).same k o ho hc) (fun _ => rfl)
    (fun pre W => Mid13 w (pre.map lettersOf) W) (fun _ W => Bad13 w (lettersOf s) W) (fun _ _ _ hm h => h.mv hm) (fun _ _ _ hm h => h.mv hm) (fun _ => Mid13.turns (by have := HS0.out; omega)) (fun _ => Bad13.turns (by have := HS0.out; omega))
    (fun W hb => HM0.out.but (But.of_below (R := NoBlock) hb) (fun _ _ _ _ h => h.elim) (by obtain ⟨c, hc⟩ := HM0.out.str; exact ⟨c, (hb.block _ (heap_lt hc)).trans hc⟩) (fun _ h => h.elim))
    (fun x => { tmps := #[.string s, undef, .pointer (some ⟨w.heap.size, 0, none⟩), .pointer (some ⟨w.heap.size + 1, 0, none⟩), .pointer (some ⟨w.heap.size + 2, 0, none⟩), .pointer (some ⟨w.heap.size + 3, 0, none⟩), .string x, undef, undef, .string s, .int .i64 s.size, .bool false, undef, undef, .string s, .func (.func 95) #[] #[.pointer (some ⟨w.heap.size + 5, 0, none⟩), .pointer (some ⟨w.heap.size + 4, 0, none⟩), .pointer (some ⟨w.heap.size + 6, 0, none⟩)], .string x, undef, undef, undef, undef, undef, undef, undef, undef, undef, undef, undef, undef, undef, undef, undef, undef, undef, undef, undef, undef, undef, undef, undef, undef, undef], defers := [] }) ?assign ?body ?done ?stop
  case assign =>
    intro l x W K hK
    gi_wp2
    exact hK
  case body =>
    rintro l pre x W hmid ⟨t, ht⟩
    have hwide : wideW ((pre ++ [x]).map lettersOf) + wideW t = s.size + 1 := by
      have h1 := lines_wide (lettersOf s)
      rw [ht, ← size_letters] at h1
      rw [← h1]
      simp [wideW, Nat.add_assoc]
    have hsz : wideW (pre.map lettersOf) + x.size + 1 ≤ s.size + 1 := by
      have h1 := wide_snoc (pre.map lettersOf) (lettersOf x)
      rw [← size_letters] at h1
      simp only [List.map_append, List.map_cons, List.map_nil] at hwide
      omega
    have hs4 := HSz.out
    obtain ⟨m, b0, D, F, Cs, hR, hrun, hcnt⟩ := hmid.rdr
    have hxs : x.size ≤ 400000 := by omega
    have HWd := Lib.hid (fun W => words13_any x (by omega) W)
    have hbig := hmid.big
    have HLn : Hid (∀ (V : Value) (lw : List ByteArray) (W2 : World), Below W.heap.size W W2 → Strs13 W2 V lw → lw.map lettersOf = wordsL (lettersOf x) → (∀ y ∈ lw, y.size ≤ x.size) → lw.length ≤ x.size + 1 → Calls Tryz.prog 38 #[.pointer (some ⟨w.heap.size + 2, 0, none⟩), V] W2 (LineDone13 (w.heap.size + 7) (w.heap.size + 2) m W2 (wordsL (lettersOf x)))) := Lib.hid (fun V lw W2 hb hV hl h5 h6 => by
      rw [← hl]
      exact line13_any V lw (w.heap.size + 7) b0 (w.heap.size + 2) D F m Cs w W2 HE.out (hmid.bel.trans (hb.mono (by omega))) ⟨by omega, by omega⟩ (Nat.le_trans hbig hb.size) (hR.grow hb) hV (fun y hy => by have := h5 y hy; omega) (by omega) (by omega))
    have HBox := Lib.hid hR.box
    have HRun := Lib.hid hrun
    have HMid := Lib.hid hmid
    have HTl := Lib.hid ht
    have hcnt2 := lineR_cnt m (wordsL (lettersOf x))
    have hwl : (wordsL (lettersOf x)).length ≤ x.size + 1 := by
      have h1 := words_wide (lettersOf x) []
      have h2 := (wide_bound (wordsL (lettersOf x))).1
      rw [← size_letters] at h1
      unfold wordsL at h2 ⊢
      simp at h1
      omega
    have HCnt : Hid (cntM (lineR m (wordsL (lettersOf x))).1 ≤ wideW (pre.map lettersOf ++ [lettersOf x])) := Lib.hid (by rw [wide_snoc, ← size_letters]; omega)
    have hpl := cells1 hmid.plc
    clear hR hrun hmid ht hcnt hcnt2 hwl hbig hwide
    by_cases hz : (lineR m (wordsL (lettersOf x))).2 = 0
    · have HStep := Lib.hid (HRun.out.step hz)
      have HZ := Lib.hid hz
      obtain ⟨pw, hpw⟩ : ∃ pw, pw = wideW (pre.map lettersOf) := ⟨_, rfl⟩
      have HPW := Lib.hid hpw
      have hq : wideW (pre.map lettersOf ++ [lettersOf x]) = pw + (x.size + 1) := by rw [wide_snoc, ← size_letters, hpw]
      have hpw2 : pw ≤ 400001 := by omega
      have HQ := Lib.hid hq
      clear hz hpw hq hpl hsz hs4
      gi_wp2
      refine ⟨trivial, fun h => by (simp [Fence.wide] at h), ?_⟩
      (with_reducible refine (CallsIn.inRound l (callsIn_wide.2 (HWd.out _))).mono ?_)
      rintro e W2 ⟨V, lw, rfl, hV, hl, h5, h6, hb2⟩
      have HL := Lib.hid (HLn.out V lw W2 hb2 hV hl h5 h6)
      have HB2 := Lib.hid hb2
      obtain ⟨VA, vo, vc, hVe, -⟩ := hV.at
      subst hVe
      clear hV hl h5 h6 hb2
      generalize lw.length = ln at *
      gi_wp2
      refine ⟨trivial, fun h => by (simp [Fence.wide] at h), ?_⟩
      (with_reducible refine (CallsIn.inRound l (callsIn_wide.2 HL.out)).mono ?_)
      rintro e W3 ⟨he, hwr, hok⟩
      rw [HZ.out] at he
      subst he
      have HA := Lib.hid (aft13 HMid.out.big HBox.out HB2.out hwr)
      have HOk := Lib.hid (hok HZ.out)
      have hp0 := cells1 ((HA.out.same _ (by omega) (by omega)).trans HMid.out.plc)
      rw [← HPW.out] at hp0
      have g0 := frozen_of_row W3 (w.heap.size + 3) 0 _ _ ((HA.out.same _ (by omega) (by omega)).trans HMid.out.plc)
      obtain ⟨b1, D1, F1, Cs1, hR1⟩ := HOk.out
      have HSet := Lib.hid (mid13_set HMid.out HA.out hR1 HStep.out HCnt.out)
      rw [HQ.out] at HSet
      obtain ⟨n2, hn2⟩ : ∃ n2, n2 = x.size + 1 := ⟨_, rfl⟩
      have hcast : (x.size : Int) + 1 = (n2 : Int) := by omega
      obtain ⟨q2, hq2⟩ : ∃ q2, q2 = pw + n2 := ⟨_, rfl⟩
      have hcast2 : (pw : Int) + (n2 : Int) = (q2 : Int) := by omega
      have hn3 : n2 ≤ 400001 := by omega
      rw [← hn2, ← hq2] at HSet
      clear hwr hok hR1 hn2 hq2 hxs
      gi_wp2
      exact ⟨HSet.out.2.1, HSet.out.2.2, by show Mid13 w ((pre ++ [x]).map lettersOf) _; rw [List.map_append]; exact HSet.out.1⟩
    · obtain ⟨z, hze⟩ : ∃ z, z = (lineR m (wordsL (lettersOf x))).2 := ⟨_, rfl⟩
      have HStop : Hid ((runL ⟨[], []⟩ 0 (linesOf (lettersOf s))).2 = (z, wideW (pre.map lettersOf))) := Lib.hid (by
        have h1 := HRun.out.stop hz t
        rw [← hze] at h1
        rw [HTl.out, ← h1]
        simp)
      rw [← hze] at hz
      have hz2 : (z != 0) = true := by simpa using hz
      have HZ := Lib.hid hz
      have HZE := Lib.hid hze
      clear hze
      generalize hpw : wideW (pre.map lettersOf) = pw at *
      have HPW := Lib.hid hpw
      clear hpw
      gi_wp2
      refine ⟨trivial, fun h => by (simp [Fence.wide] at h), ?_⟩
      (with_reducible refine (CallsIn.inRound l (callsIn_wide.2 (HWd.out _))).mono ?_)
      rintro e W2 ⟨V, lw, rfl, hV, hl, h5, h6, hb2⟩
      have HL := Lib.hid (HLn.out V lw W2 hb2 hV hl h5 h6)
      have HB2 := Lib.hid hb2
      obtain ⟨VA, vo, vc, hVe, -⟩ := hV.at
      subst hVe
      clear hV hl h5 h6 hb2
      generalize lw.length = ln at *
      gi_wp2
      refine ⟨trivial, fun h => by (simp [Fence.wide] at h), ?_⟩
      (with_reducible refine (CallsIn.inRound l (callsIn_wide.2 HL.out)).mono ?_)
      rintro e W3 ⟨he, hwr, -⟩
      rw [← HZE.out] at he
      subst he
      have HA := Lib.hid (aft13 HMid.out.big HBox.out HB2.out hwr)
      obtain ⟨m0, m1⟩ := cells2 ((HA.out.same _ (by omega) (by omega)).trans HMid.out.mod)
      obtain ⟨f0, f1⟩ := cells2 ((HA.out.same _ (by omega) (by omega)).trans HMid.out.flt)
      have hp0 := cells1 ((HA.out.same _ (by omega) (by omega)).trans HMid.out.plc)
      rw [HPW.out] at hp0
      have g0 := frozen_of_row W3 w.heap.size 0 _ _ ((HA.out.same _ (by omega) (by omega)).trans HMid.out.mod)
      have g1 := frozen_of_row W3 w.heap.size 1 _ _ ((HA.out.same _ (by omega) (by omega)).trans HMid.out.mod)
      have g2 := frozen_of_row W3 (w.heap.size + 1) 0 _ _ ((HA.out.same _ (by omega) (by omega)).trans HMid.out.flt)
      have g3 := frozen_of_row W3 (w.heap.size + 1) 1 _ _ ((HA.out.same _ (by omega) (by omega)).trans HMid.out.flt)
      clear hwr
      gi_wp2
      have HBad := Lib.hid (bad13_set HMid.out HA.out HZ.out HStop.out _ _ rfl rfl)
      have hmo : Tryz.prog.follows .mixedOrders = true := by kernel_rfl
      gi_region_with_o (fail)
      all_goals
        gi_wp2
        exact ⟨HBad.out.2, rfl, HBad.out.1⟩
  case done =>
    intro D ys W hD hS hmid hK
    obtain ⟨m, b0, DV, FV, Cs, hR, hrun, hcnt⟩ := hmid.rdr
    have hrun2 : runL ⟨[], []⟩ 0 (linesOf (lettersOf s)) = (m, 0, 0) := by
      have h := hrun []
      rw [List.append_nil, hS] at h
      rw [h]
      rfl
    have hwide : wideW (ys.map lettersOf) = s.size + 1 := by
      rw [hS, lines_wide, ← size_letters]
    obtain ⟨c1, c2, c3⟩ := cnt_fun (m := m)
    have hs4 := HSz.out
    have hgot := got_run (by rw [← size_letters]; exact hs4) hrun2
    have HCheck : Hid (Calls Tryz.prog 24 #[.agg #[DV, FV]] W (Makes W (.int .i64 m.err))) := Lib.hid (check8_any DV FV m.data m.funcs W (owns_bytes13 hR.dat hR.bd (by omega)) (hR.fns.fn.funs (by omega)))
    obtain ⟨DA, dc, hDe⟩ := owns_len hR.dat
    obtain ⟨FA, fc, hFe⟩ := owns_len hR.fns.fn.own
    subst hDe hFe
    have HR := Lib.hid hR
    have HMid := Lib.hid hmid
    have HK := Lib.hid hK
    have HD := Lib.hid hD
    obtain ⟨r0, r1⟩ := hR.cells
    clear hrun hrun2 hwide c1 c2 c3 hcnt hS hmid hs4
    generalize hgen : m.err = me at *
    by_cases hme : me = 0
    · rw [if_neg (by simpa using hme)] at hgot
      subst hme
      clear hgen
      gi_wp2_with (refine ⟨trivial, ?_⟩; gi_at_call 24; (with_reducible refine (callsIn_wide.2 HCheck.out).mono ?_); rintro e W1 ⟨rfl, hb1⟩; have HB1 := Lib.hid hb1; obtain ⟨a0, a1⟩ := (HR.out.grow hb1).cells; have hm1 := box_below HMid.out.mod hb1; have hf1 := box_below HMid.out.flt hb1; obtain ⟨m0, m1⟩ := cells2 hm1; obtain ⟨f0, f1⟩ := cells2 hf1; have g0 := frozen_of_row W1 w.heap.size 0 _ _ hm1; have g1 := frozen_of_row W1 w.heap.size 1 _ _ hm1; have g2 := frozen_of_row W1 (w.heap.size + 1) 0 _ _ hf1; have g3 := frozen_of_row W1 (w.heap.size + 1) 1 _ _ hf1; clear hb1)
      have hfin := (((KeepsOthers.trans ⟨HB1.out.size, fun k o ho _ => (HB1.out.block k (heap_lt ho)).trans ho⟩ (KeepsOthers.setCell W1 ⟨w.heap.size, 0, none⟩ (.slice DA m.data.length dc))).trans (KeepsOthers.setCell _ ⟨w.heap.size, 1, none⟩ (.slice FA m.funcs.length fc))).trans (KeepsOthers.setCell _ ⟨w.heap.size + 1, 0, none⟩ (.int .i64 0))).trans (KeepsOthers.setCell _ ⟨w.heap.size + 1, 1, none⟩ (.int .i64 0))
      refine ⟨by simp, .inl ⟨_, _, rfl, run_takeDeferred (hfin.same D _ HK.out rfl), ?_⟩⟩
      have hDD : w.heap.size + 7 ≤ D := by have := HS0.out; omega
      obtain ⟨k0, k1, hbut⟩ := fin13 hm1 hf1 hDD (.slice DA m.data.length dc) (.slice FA m.funcs.length fc) (.int .i64 0) (.int .i64 0)
      have HPost := Lib.hid (gotSome13 (HR.out.grow HB1.out) hm1 hf1 hDD ((HB1.out.block _ (heap_lt HK.out)).trans HK.out) rfl (HMid.out.bel.trans (HB1.out.mono HMid.out.bel.size)) hbut)
      clear hfin hbut
      generalize (set22 W1 w.heap.size (w.heap.size + 1) (.slice DA m.data.length dc) (.slice FA m.funcs.length fc) (.int .i64 0) (.int .i64 0)).putObj D (.deferred none) = Wf at *
      obtain ⟨q0, q1⟩ := cells2 k0
      obtain ⟨q2, q3⟩ := cells2 k1
      rw [hgot]
      exact ⟨.tuple #[.agg #[.slice DA m.data.length dc, .slice FA m.funcs.length fc], .agg #[.int .i64 0, .int .i64 0]], by simp [results, Tryz.results18, go_sem, q0, q1, q2, q3], HPost.out⟩
    · have hme2 : (me != 0) = true := by simpa using hme
      rw [if_pos (by simpa using hme)] at hgot
      clear hgen hme
      gi_wp2_with (refine ⟨trivial, ?_⟩; gi_at_call 24; (with_reducible refine (callsIn_wide.2 HCheck.out).mono ?_); rintro e W1 ⟨rfl, hb1⟩; have HB1 := Lib.hid hb1; have hm1 := box_below HMid.out.mod hb1; have hf1 := box_below HMid.out.flt hb1; obtain ⟨m0, m1⟩ := cells2 hm1; obtain ⟨f0, f1⟩ := cells2 hf1; have g0 := frozen_of_row W1 w.heap.size 0 _ _ hm1; have g1 := frozen_of_row W1 w.heap.size 1 _ _ hm1; have g2 := frozen_of_row W1 (w.heap.size + 1) 0 _ _ hf1; have g3 := frozen_of_row W1 (w.heap.size + 1) 1 _ _ hf1; clear hb1)
      have hfin := (((KeepsOthers.trans ⟨HB1.out.size, fun k o ho _ => (HB1.out.block k (heap_lt ho)).trans ho⟩ (KeepsOthers.setCell W1 ⟨w.heap.size, 0, none⟩ (.slice none 0 0))).trans (KeepsOthers.setCell _ ⟨w.heap.size, 1, none⟩ (.slice none 0 0))).trans (KeepsOthers.setCell _ ⟨w.heap.size + 1, 0, none⟩ (.int .i64 me))).trans (KeepsOthers.setCell _ ⟨w.heap.size + 1, 1, none⟩ (.int .i64 0))
      refine ⟨by simp, .inl ⟨_, _, rfl, run_takeDeferred (hfin.same D _ HK.out rfl), ?_⟩⟩
      have hDD : w.heap.size + 7 ≤ D := by have := HS0.out; omega
      obtain ⟨k0, k1, hbut⟩ := fin13 hm1 hf1 hDD (.slice none 0 0) (.slice none 0 0) (.int .i64 me) (.int .i64 0)
      have HPost := Lib.hid (gotNil13 (But.below (HMid.out.bel.trans (HB1.out.mono HMid.out.bel.size)) hbut (Nat.le_trans HMid.out.bel.size HB1.out.size) (fun k e => by rcases e with rfl | rfl | rfl <;> omega)) me 0)
      clear hfin hbut
      generalize (set22 W1 w.heap.size (w.heap.size + 1) (.slice none 0 0) (.slice none 0 0) (.int .i64 me) (.int .i64 0)).putObj D (.deferred none) = Wf at *
      obtain ⟨q0, q1⟩ := cells2 k0
      obtain ⟨q2, q3⟩ := cells2 k1
      rw [hgot]
      exact ⟨.tuple #[.agg #[.slice none 0 0, .slice none 0 0], .agg #[.int .i64 me, .int .i64 0]], by simp [results, Tryz.results18, go_sem, q0, q1, q2, q3], HPost.out⟩
  case stop =>
    intro D ys W hD hSp hbad hK
    obtain ⟨e, k, hf1, he, hr⟩ := hbad.flt
    have hgot := got_stop (by rw [← size_letters]; exact HSz.out) hr he
    have HBad := Lib.hid hbad
    have HK := Lib.hid hK
    have hDD : w.heap.size + 7 ≤ D := by have := HS0.out; omega
    have HF1 := Lib.hid hf1
    clear hbad hK hr hf1 he
    gi_wp2
    refine ⟨by simp, .inl ⟨_, _, rfl, run_takeDeferred HK.out, ?_⟩⟩
    have k0 : (W.putObj D (.deferred none)).heap[w.heap.size]? = some (.cells #[.slice none 0 0, .slice none 0 0] 25 (0, 0)) := (World.putObj_heap_other (by omega)).trans HBad.out.mod
    have k1 : (W.putObj D (.deferred none)).heap[w.heap.size + 1]? = some (.cells #[.int .i64 e, .int .i64 k] 41 (0, 0)) := (World.putObj_heap_other (by omega)).trans HF1.out
    have HPost := Lib.hid (gotNil13 (But.below HBad.out.bel (put_but W D (.deferred none)) HBad.out.bel.size (fun k e => by have e' : k = D := e; omega)) e k)
    generalize W.putObj D (.deferred none) = Wf at *
    obtain ⟨q0, q1⟩ := cells2 k0
    obtain ⟨q2, q3⟩ := cells2 k1
    rw [hgot]
    exact ⟨.tuple #[.agg #[.slice none 0 0, .slice none 0 0], .agg #[.int .i64 e, .int .i64 k]], by simp [results, Tryz.results18, go_sem, q0, q1, q2, q3], HPost.out⟩
set_option maxRecDepth 100000 in
set_option maxHeartbeats 4000000 in
theorem get13_long (s : ByteArray) (w : World) (hs : 400000 < s.size) : Calls Tryz.prog 18 #[.string s] w (MGotDone w (got13 (lettersOf s))) := by
  rw [got_long (by rw [← size_letters]; exact hs)]
  have hsI : (400000 : Int) < (s.size : Int) := by omega
  clear hs
  refine (callsIn_wide (n := 3)).1 ?_
  refine callsIn_of_wp_marks Tryz.func18 rfl trivial ?_ rfl
  simp only [Tryz.ntmps18, List.size_toArray, List.length_cons, List.length_nil, Nat.reduceAdd, Nat.reduceSub, Array.replicate_succ, Array.replicate_zero, List.push_toArray, List.append_toArray, List.nil_append, List.cons_append]
  gi_wp2
  have k0 : ((w.alloc (.cells #[.slice none 0 0, .slice none 0 0] 25)).alloc (.cells #[.int .i64 3, .int .i64 400000] 41)).heap[w.heap.size]? = some (.cells #[.slice none 0 0, .slice none 0 0] 25 (0, 0)) := (Below.heap_alloc _ _ _ (by simp)).trans (heap_alloc_new w _)
  have k1 := heap_alloc_new (w.alloc (.cells #[.slice none 0 0, .slice none 0 0] 25)) (.cells #[.int .i64 3, .int .i64 400000] 41)
  rw [World.size_alloc] at k1
  have HPost := Lib.hid (gotNil13 (((Below.refl w.heap.size w).alloc (Nat.le_refl _) (.cells #[.slice none 0 0, .slice none 0 0] 25)).alloc (by simp) (.cells #[.int .i64 3, .int .i64 400000] 41)) 3 400000)
  generalize (w.alloc (.cells #[.slice none 0 0, .slice none 0 0] 25)).alloc (.cells #[.int .i64 3, .int .i64 400000] 41) = Wf at *
  obtain ⟨q0, q1⟩ := cells2 k0
  obtain ⟨q2, q3⟩ := cells2 k1
  exact ⟨.tuple #[.agg #[.slice none 0 0, .slice none 0 0], .agg #[.int .i64 3, .int .i64 400000]], by simp [results, Tryz.results18, go_sem, q0, q1, q2, q3], HPost.out⟩
/-- text.Get at any text. -/
theorem get13_any (s : ByteArray) (w : World) (hE : Env13 w) : Calls Tryz.prog 18 #[.string s] w (MGotDone w (got13 (lettersOf s))) := by
  by_cases hs : 400000 < s.size
  · exact get13_long s w hs
  · exact callsIn_wide.1 (get13_in 6 (Nat.le_refl _) s w hE hs)
end Go.Proofs.YtohlifeenhaifaaGreatDoor
