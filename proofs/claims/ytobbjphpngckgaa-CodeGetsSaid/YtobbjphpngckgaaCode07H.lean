/- The landed (*input).blame, deferred, and code.Get: the instruction at a place, or what is wrong, and where. Contracts; no condition but that the bytes are few. -/
import Derived.Test.YtobbjphpngckgaaCode07G
import Derived.Defers
namespace Go.Proofs.Ytobbjphpngckgaa
open Go.RowKit Go.Shelf
set_option linter.unusedVariables false
set_option linter.unusedSimpArgs false

theorem blame_ok (nb fb : Nat) (k : Int) (u : FrameMode) (w : World) (h0 : w.cell? ⟨fb, 0, none⟩ = some (.int .i64 0)) :
    CallsD Try.prog 45 #[.pointer (some ⟨nb, 0, none⟩), .int .i64 k, .pointer (some ⟨fb, 0, none⟩)] u w fun e u' w' => u' = u ∧ (e = .returned (.tuple #[]) ∧ w' = w) := by
  go_enter_d Try.func45, Try.ntmps45
  go_wp2
  go_end0
  exact ⟨rfl, rfl⟩
theorem blame_end (nb fb B p : Nat) (X : Value) (b : List Int) (k : Int) (u : FrameMode) (w : World) (hi : InpAt w nb B X p b) (h0 : w.cell? ⟨fb, 0, none⟩ = some (.int .i64 4)) (h1 : ∃ v, w.cell? ⟨fb, 1, none⟩ = some v) (hz : w.frozen? ⟨fb, 1, none⟩ = false) :
    CallsD Try.prog 45 #[.pointer (some ⟨nb, 0, none⟩), .int .i64 k, .pointer (some ⟨fb, 0, none⟩)] u w fun e u' w' => u' = u ∧ (e = .returned (.tuple #[]) ∧ w' = w.setCell ⟨fb, 1, none⟩ (.int .i64 b.length)) := by
  obtain ⟨v, h1⟩ := h1
  obtain ⟨A, cap, rfl⟩ := hi.byt.len
  have c0 := hi.c0
  clear hi
  go_enter_d Try.func45, Try.ntmps45
  go_wp2
  go_end0
  exact ⟨rfl, rfl⟩
theorem blame_begin (nb fb : Nat) (z k : Int) (u : FrameMode) (w : World) (h0 : w.cell? ⟨fb, 0, none⟩ = some (.int .i64 z)) (z0 : z ≠ 0) (z4 : z ≠ 4) (h1 : ∃ v, w.cell? ⟨fb, 1, none⟩ = some v) (hz : w.frozen? ⟨fb, 1, none⟩ = false) :
    CallsD Try.prog 45 #[.pointer (some ⟨nb, 0, none⟩), .int .i64 k, .pointer (some ⟨fb, 0, none⟩)] u w fun e u' w' => u' = u ∧ (e = .returned (.tuple #[]) ∧ w' = w.setCell ⟨fb, 1, none⟩ (.int .i64 k)) := by
  obtain ⟨v, h1⟩ := h1
  have e0 : (z == 0) = false := by simpa using z0
  have e4 : (z == 4) = false := by simpa using z4
  clear z0 z4
  go_enter_d Try.func45, Try.ntmps45
  go_wp2
  go_end0
  exact ⟨rfl, rfl⟩

def GotDone (w : World) (g : GotV) (e : Ending) (w' : World) : Prop :=
  Below w.heap.size w w' ∧ ((g.err ≠ 0 ∧ e = .returned (.tuple #[.agg (insCells 0 0 0 0 0 (.slice none 0 0)), .int .i64 0, .agg #[.int .i64 g.err, .int .i64 g.at_]])) ∨
   (g.err = 0 ∧ ∃ V, e = .returned (.tuple #[.agg (insCells g.y.op g.y.a g.y.b g.y.c g.y.n V), .int .i64 g.next, .agg #[.int .i64 0, .int .i64 0]]) ∧ OutN w.heap.size w' V g.y.args))
theorem got_bad {w w' : World} {g : GotV} {z k : Int} {e : Ending} (hg : g.err = z ∧ g.at_ = k) (h0 : z ≠ 0) (hb : Below w.heap.size w w') (he : e = .returned (.tuple #[.agg (insCells 0 0 0 0 0 (.slice none 0 0)), .int .i64 0, .agg #[.int .i64 z, .int .i64 k]])) : GotDone w g e w' :=
  ⟨hb, .inl ⟨by rw [hg.1]; exact h0, by rw [hg.1, hg.2]; exact he⟩⟩
theorem got_good {w w' : World} {g : GotV} {y : InsV} {next : Nat} {V : Value} {e : Ending} (hg : g = ⟨0, 0, y, next⟩) (hb : Below w.heap.size w w') (ho : OutN w.heap.size w' V y.args) (he : e = .returned (.tuple #[.agg (insCells y.op y.a y.b y.c y.n V), .int .i64 next, .agg #[.int .i64 0, .int .i64 0]])) : GotDone w g e w' :=
  ⟨hb, .inr (by rw [hg]; exact ⟨rfl, V, he, ho⟩)⟩
set_option maxRecDepth 100000 in
set_option maxHeartbeats 4000000 in
theorem get7_out (X : Value) (b : List Int) (k : Int) (w : World) (hX : IsBytes w w.heap.size X b) (h : k < 0 ∨ b.length < k) :
    Calls Try.prog 22 #[X, .int .i64 k] w (GotDone w (gotV b k)) := by
  obtain ⟨A, cap, rfl⟩ := hX.len
  have HG : Hid ((gotV b k).err = 2 ∧ (gotV b k).at_ = 0) := Lib.hid (by unfold gotV; rw [if_pos h]; exact ⟨rfl, rfl⟩)
  clear hX
  have hb : Below w.heap.size w ((w.alloc (.cells (insCells 0 0 0 0 0 (.slice none 0 0)) 35)).alloc (.cells #[.int .i64 2, .int .i64 0] 41)) := ((Below.refl _ w).alloc (Nat.le_refl _) _).alloc (by simp) _
  have HB := Lib.hid hb
  clear hb
  by_cases h1 : k < 0
  · clear h
    go_enter_defers Try.func22, Try.ntmps22
    go_wp2
    exact ⟨.tuple #[.agg (insCells 0 0 0 0 0 (.slice none 0 0)), .int .i64 0, .agg #[.int .i64 2, .int .i64 0]], by simp [results, Try.results22, go_sem], got_bad HG.out (by decide) HB.out rfl⟩
  · have h2 : (b.length : Int) < k := by omega
    clear h
    go_enter_defers Try.func22, Try.ntmps22
    go_wp2
    exact ⟨.tuple #[.agg (insCells 0 0 0 0 0 (.slice none 0 0)), .int .i64 0, .agg #[.int .i64 2, .int .i64 0]], by simp [results, Try.results22, go_sem], got_bad HG.out (by decide) HB.out rfl⟩
theorem set6_heap {w : World} {g : Nat} {op a b c n op' a' b' c' n' : Int} {V V' : Value} (h : w.heap[g]? = some (.cells (insCells op a b c n V) 35 (0, 0))) :
    (set6 w g (.int .i64 op') (.int .i64 a') (.int .i64 b') (.int .i64 c') (.int .i64 n') V').heap[g]? = some (.cells (insCells op' a' b' c' n' V') 35 (0, 0)) := by
  have h0 := heap_setCell_same w g 0 _ _ (.int .i64 op') h
  have h1 := heap_setCell_same _ g 1 _ _ (.int .i64 a') h0
  have h2 := heap_setCell_same _ g 2 _ _ (.int .i64 b') h1
  have h3 := heap_setCell_same _ g 3 _ _ (.int .i64 c') h2
  have h4 := heap_setCell_same _ g 4 _ _ (.int .i64 n') h3
  have h5 := heap_setCell_same _ g 5 _ _ V' h4
  exact h5
abbrev set2 (W : World) (g : Nat) (v0 v1 : Value) : World := (W.setCell ⟨g, 0, none⟩ v0).setCell ⟨g, 1, none⟩ v1
abbrev flt (w : World) (g : Nat) (z k : Int) : Prop := w.heap[g]? = some (.cells #[.int .i64 z, .int .i64 k] 41 (0, 0))
theorem set2_heap {w : World} {g : Nat} {z k z' k' : Int} (h : flt w g z k) : flt (set2 w g (.int .i64 z') (.int .i64 k')) g z' k' := by
  have h0 := heap_setCell_same w g 0 _ _ (.int .i64 z') h
  have h1 := heap_setCell_same _ g 1 _ _ (.int .i64 k') h0
  exact h1
theorem set1_heap {w : World} {g : Nat} {z k k' : Int} (h : flt w g z k) : flt (w.setCell ⟨g, 1, none⟩ (.int .i64 k')) g z k' := heap_setCell_same w g 1 _ _ (.int .i64 k') h
theorem flt0 {w : World} {g : Nat} {z k : Int} (h : flt w g z k) : w.cell? ⟨g, 0, none⟩ = some (.int .i64 z) := by unfold flt at h; simp [World.cell?, h]
theorem flt1 {w : World} {g : Nat} {z k : Int} (h : flt w g z k) : w.cell? ⟨g, 1, none⟩ = some (.int .i64 k) := by unfold flt at h; simp [World.cell?, h]
theorem fltf {w : World} {g : Nat} {z k : Int} (h : flt w g z k) (o : Nat) : w.frozen? ⟨g, o, none⟩ = false := frozen_of_row w g o _ _ h
theorem only2 (W : World) (g : Nat) (v0 v1 : Value) : But (OneBlock g) W (set2 W g v0 v1) := ((But.refl (OneBlock g) W).setCell (p := ⟨g, 0, none⟩) (.inl rfl) v0).setCell (p := ⟨g, 1, none⟩) (.inl rfl) v1
theorem only1 (W : World) (g o : Nat) (v : Value) : But (OneBlock g) W (W.setCell ⟨g, o, none⟩ v) := (But.refl (OneBlock g) W).setCell (p := ⟨g, o, none⟩) (.inl rfl) v
/-- What Get has made: a result, a fault, an input. -/
structure GetAt (w W : World) (b : List Int) (X : Value) (p : Nat) (op a b' c n : Int) (V : Value) (z k : Int) : Prop where
  ins : W.heap[w.heap.size]? = some (.cells (insCells op a b' c n V) 35 (0, 0))
  fau : flt W (w.heap.size + 1) z k
  inp : InpAt W (w.heap.size + 2) w.heap.size X p b
  bel : Below w.heap.size w W
section
variable {w W : World} {b : List Int} {X : Value} {p : Nat} {op a b' c n : Int} {V : Value} {z k : Int}
theorem below_one {B g : Nat} {w W W' : World} (h : Below B w W) (hb : But (OneBlock g) W W') (hg : B ≤ g) (hB : B ≤ W.heap.size) : Below B w W' := But.below h hb hB (fun k hk => by have e : k = g := hk; omega)
theorem GetAt.setI (h : GetAt w W b X p op a b' c n V z k) (op1 a1 b1 c1 n1 : Int) (V1 : Value) : GetAt w (set6 W w.heap.size (.int .i64 op1) (.int .i64 a1) (.int .i64 b1) (.int .i64 c1) (.int .i64 n1) V1) b X p op1 a1 b1 c1 n1 V1 z k :=
  ⟨set6_heap h.ins, (only6 _ _ _ _ _ _ _ _).heap h.fau (show ¬ w.heap.size + 1 = w.heap.size by omega), h.inp.but (only6 _ _ _ _ _ _ _ _) (show ¬ w.heap.size + 2 = w.heap.size by omega) (fun i hi e => by have e' : i = w.heap.size := e; omega), below_one h.bel (only6 _ _ _ _ _ _ _ _) (Nat.le_refl _) h.bel.size⟩
theorem GetAt.setF (h : GetAt w W b X p op a b' c n V z k) (z1 k1 : Int) : GetAt w (set2 W (w.heap.size + 1) (.int .i64 z1) (.int .i64 k1)) b X p op a b' c n V z1 k1 :=
  ⟨(only2 _ _ _ _).heap h.ins (show ¬ w.heap.size = w.heap.size + 1 by omega), set2_heap h.fau, h.inp.but (only2 _ _ _ _) (show ¬ w.heap.size + 2 = w.heap.size + 1 by omega) (fun i hi e => by have e' : i = w.heap.size + 1 := e; omega), below_one h.bel (only2 _ _ _ _) (Nat.le_succ _) h.bel.size⟩
theorem GetAt.setK (h : GetAt w W b X p op a b' c n V z k) (k1 : Int) : GetAt w (W.setCell ⟨w.heap.size + 1, 1, none⟩ (.int .i64 k1)) b X p op a b' c n V z k1 :=
  ⟨(only1 _ _ _ _).heap h.ins (show ¬ w.heap.size = w.heap.size + 1 by omega), set1_heap h.fau, h.inp.but (only1 _ _ _ _) (show ¬ w.heap.size + 2 = w.heap.size + 1 by omega) (fun i hi e => by have e' : i = w.heap.size + 1 := e; omega), below_one h.bel (only1 _ _ _ _) (Nat.le_succ _) h.bel.size⟩
theorem GetAt.drewN (h : GetAt w W b X p op a b' c n V z k) (m : Nat) : GetAt w (W.drewN m) b X p op a b' c n V z k := ⟨h.ins, h.fau, h.inp.drewN m, below_drewN h.bel m⟩
end
theorem getI_err {b : List Int} {k : Nat} (h : (getI b k).err ≠ 0) : (getI b k).at_ = if (getI b k).err = 4 then (b.length : Int) else (k : Int) := by
  have hG : getI b k = getI b k := rfl
  conv at hG => rhs; unfold getI
  by_cases g1 : k = b.length
  · rw [if_pos g1] at hG; rw [hG]; simp
  rw [if_neg g1] at hG
  by_cases g2 : 33 ≤ b.getD k 0
  · rw [if_pos g2] at hG; rw [hG]; simp
  rw [if_neg g2] at hG
  rcases readL_kinds b (lettersOf (shapeI (b.getD k 0))) (startV k) with h0 | h0 | h0
  · rw [h0, if_neg (by simp), if_neg (by simp)] at hG
    by_cases g5 : (insOf (b.getD k 0) (readL b (lettersOf (shapeI (b.getD k 0))) (startV k)).2).chk ≠ 0
    · rw [if_pos g5] at hG; rw [hG]; simp
    · rw [if_neg g5] at hG; rw [hG] at h; simp at h
  · rw [h0, if_neg (by simp), if_pos rfl] at hG; rw [hG]; simp
  · rw [h0, if_pos rfl] at hG; rw [hG]; simp
theorem own_one {base g : Nat} {w1 W : World} {V : Value} {xs : List Int} (h : OutN base w1 V xs) (hb : But (OneBlock g) w1 W) (hg : g < base) : OutN base W V xs := by
  refine Owns.but h hb (fun k hk e => ?_)
  have e' : k = g := e
  have := (h.lt hk).1
  omega
theorem get_start (X : Value) (b : List Int) (k : Nat) (w : World) (hX : IsBytes w w.heap.size X b) (hs : b.length ≤ 1000000) : GetAt w (((w.alloc (.cells (insCells 0 0 0 0 0 (.slice none 0 0)) 35)).alloc (.cells #[.int .i64 0, .int .i64 0] 41)).alloc (.cells #[X, .int .i64 k] 64)) b X k 0 0 0 0 0 (.slice none 0 0) 0 0 := by
  have hb := (((Below.refl _ w).alloc (Nat.le_refl w.heap.size) (.cells (insCells 0 0 0 0 0 (.slice none 0 0)) 35)).alloc (by simp) (.cells #[.int .i64 0, .int .i64 0] 41)).alloc (by simp; omega) (.cells #[X, .int .i64 k] 64)
  refine ⟨?_, ?_, ⟨?_, hX.below hb (Nat.le_refl _), by omega, hs⟩, hb⟩
  · rw [Below.heap_alloc _ _ _ (by simp; omega), Below.heap_alloc _ _ _ (by simp)]
    exact heap_alloc_new _ _
  · show _ = _
    rw [Below.heap_alloc _ _ _ (by simp)]
    have := heap_alloc_new (w.alloc (.cells (insCells 0 0 0 0 0 (.slice none 0 0)) 35)) (.cells #[.int .i64 0, .int .i64 0] 41)
    rwa [World.size_alloc] at this
  · have := heap_alloc_new ((w.alloc (.cells (insCells 0 0 0 0 0 (.slice none 0 0)) 35)).alloc (.cells #[.int .i64 0, .int .i64 0] 41)) (.cells #[X, .int .i64 k] 64)
    simpa using this
theorem get_instr (X : Value) (b : List Int) (k : Nat) (w : World) (hX : IsBytes w w.heap.size X b) (hs : b.length ≤ 1000000) (h : k ≤ b.length) :
    Calls Try.prog 46 #[.pointer (some ⟨w.heap.size + 2, 0, none⟩)] (((w.alloc (.cells (insCells 0 0 0 0 0 (.slice none 0 0)) 35)).alloc (.cells #[.int .i64 0, .int .i64 0] 41)).alloc (.cells #[X, .int .i64 k] 64)) fun e w' =>
      ((getI b k).err ≠ 0 ∧ e = .returned (.tuple #[.agg (insCells 0 0 0 0 0 (.slice none 0 0)), .int .i64 (getI b k).err]) ∧ ∃ p', GetAt w w' b X p' 0 0 0 0 0 (.slice none 0 0) 0 0) ∨
      ((getI b k).err = 0 ∧ ∃ V, e = .returned (.tuple #[.agg (insCells (getI b k).y.op (getI b k).y.a (getI b k).y.b (getI b k).y.c (getI b k).y.n V), .int .i64 0]) ∧ GetAt w w' b X (getI b k).next 0 0 0 0 0 (.slice none 0 0) 0 0 ∧ OutN (w.heap.size + 3) w' V (getI b k).y.args) := by
  have h0 := get_start X b k w hX hs
  have hsz : (((w.alloc (.cells (insCells 0 0 0 0 0 (.slice none 0 0)) 35)).alloc (.cells #[.int .i64 0, .int .i64 0] 41)).alloc (.cells #[X, .int .i64 k] 64)).heap.size = w.heap.size + 3 := by simp
  refine (instr_any (w.heap.size + 2) w.heap.size k X b _ h0.inp h).mono ?_
  rintro e w' ⟨hb, hh⟩
  have hget : ∀ p', InpAt w' (w.heap.size + 2) w.heap.size X p' b → GetAt w w' b X p' 0 0 0 0 0 (.slice none 0 0) 0 0 := fun p' hi =>
    ⟨hb.heap h0.ins (show ¬ w.heap.size = w.heap.size + 2 by omega), hb.heap h0.fau (show ¬ w.heap.size + 1 = w.heap.size + 2 by omega), hi, below_one h0.bel hb (by omega) h0.bel.size⟩
  rcases hh with ⟨h1, he, p', hi⟩ | ⟨h1, V, he, hi, ho⟩
  · exact .inl ⟨h1, he, p', hget _ hi⟩
  · rw [hsz] at ho
    exact .inr ⟨h1, V, he, hget _ hi, ho⟩
set_option maxRecDepth 100000 in
set_option maxHeartbeats 8000000 in
theorem get7_in (X : Value) (b : List Int) (k : Nat) (w : World) (hX : IsBytes w w.heap.size X b) (hs : b.length ≤ 1000000) (h : k ≤ b.length) :
    Calls Try.prog 22 #[X, .int .i64 k] w (GotDone w (getI b k)) := by
  have hI := get_instr X b k w hX hs h
  obtain ⟨A, cap, rfl⟩ := hX.len
  have hkI : (k : Int) ≤ (b.length : Int) := by omega
  have HGE := Lib.hid (getI_err (b := b) (k := k))
  obtain ⟨g, hg⟩ : ∃ g, g = getI b k := ⟨_, rfl⟩
  rw [← hg] at hI HGE ⊢
  clear hX hg h
  obtain ⟨err, at_, y, next⟩ := g
  obtain ⟨op, a, b', c, n, args⟩ := y
  dsimp only at hI HGE
  by_cases hz : err = 0
  · have HI := Lib.hid (hI.mono fun e w' hh => hh.resolve_left (fun h => h.1 hz))
    subst hz
    clear hI HGE
    go_enter_defers Try.func22, Try.ntmps22
    go_wp2_with (go_at_call 46; (with_reducible refine HI.out.mono ?_); rintro e w2 ⟨_, V, rfl, hi, ho⟩; obtain ⟨VA, Vc, hV⟩ := owns_len ho; subst hV; have HA := Lib.hid (hi.setI op a b' c n (.slice VA args.length Vc)); have HO := Lib.hid (own_one ho (only6 _ w.heap.size (.int .i64 op) (.int .i64 a) (.int .i64 b') (.int .i64 c) (.int .i64 n) (.slice VA args.length Vc)) (by omega)); obtain ⟨d0, d1, d2, d3, d4, d5⟩ := cells6 hi.ins; have g0 := free6 hi.ins 0; have g1 := free6 hi.ins 1; have g2 := free6 hi.ins 2; have g3 := free6 hi.ins 3; have g4 := free6 hi.ins 4; have g5 := free6 hi.ins 5; clear hi ho)
    refine (show ∀ W, GetAt w W b (.slice A b.length cap) next op a b' c n (.slice VA args.length Vc) 0 0 → OutN (w.heap.size + 3) W (.slice VA args.length Vc) args → Code.wp _ _ _ _ W from fun W hW hO => ?_) _ HA.out HO.out
    clear d0 d1 d2 d3 d4 d5 g0 g1 g2 g3 g4 g5 HA HO
    obtain ⟨d0, d1, d2, d3, d4, d5⟩ := cells6 hW.ins
    have g0 := free6 hW.ins 0
    have g1 := free6 hW.ins 1
    have g2 := free6 hW.ins 2
    have g3 := free6 hW.ins 3
    have g4 := free6 hW.ins 4
    have g5 := free6 hW.ins 5
    have q0 := flt0 hW.fau
    have q1 := flt1 hW.fau
    have r0 := fltf hW.fau 0
    have r1 := fltf hW.fau 1
    have p1 := hW.inp.c1
    have HW := Lib.hid hW
    have HO := Lib.hid hO
    clear hW hO
    go_region
    have HA := Lib.hid (((HW.out.setI op a b' c n (.slice VA args.length Vc)).setF 0 0).drewN 1)
    have HO2 := Lib.hid (own_one (own_one HO.out (only6 _ w.heap.size (.int .i64 op) (.int .i64 a) (.int .i64 b') (.int .i64 c) (.int .i64 n) (.slice VA args.length Vc)) (by omega)) (only2 _ (w.heap.size + 1) (.int .i64 0) (.int .i64 0)) (by omega))
    clear d0 d1 d2 d3 d4 d5 g0 g1 g2 g3 g4 g5 q0 q1 r0 r1 p1
    refine (show ∀ W, GetAt w W b (.slice A b.length cap) next op a b' c n (.slice VA args.length Vc) 0 0 → OutN (w.heap.size + 3) W (.slice VA args.length Vc) args → Exit.then _ _ _ _ W from fun W2 hW hO => ?_) _ HA.out (Owns.drew HO2.out)
    have HW2 := Lib.hid hW
    have HO3 := Lib.hid hO
    clear hW hO HA HO2 HW HO W
    go_wp2
    refine leaves_cons (f := 45) (args := #[.pointer (some ⟨w.heap.size + 2, 0, none⟩), .int .i64 k, .pointer (some ⟨w.heap.size + 1, 0, none⟩)]) (by simp) (by simp [go_sem]) ?_
    refine (blame_ok (w.heap.size + 2) (w.heap.size + 1) k .returning _ (flt0 HW2.out.fau)).mono ?_
    rintro e u' w'' ⟨rfl, rfl, rfl⟩
    obtain ⟨d0, d1, d2, d3, d4, d5⟩ := cells6 HW2.out.ins
    have q0 := flt0 HW2.out.fau
    have q1 := flt1 HW2.out.fau
    exact ⟨.tuple #[.agg (insCells op a b' c n (.slice VA args.length Vc)), .int .i64 next, .agg #[.int .i64 0, .int .i64 0]], by simp [results, Try.results22, go_sem, d0, d1, d2, d3, d4, d5, q0, q1], ⟨HW2.out.bel, .inr ⟨rfl, _, rfl, Owns.base HO3.out (by omega)⟩⟩⟩
  · have HI := Lib.hid (hI.mono fun e w' hh => hh.resolve_right (fun h => hz h.1))
    have hne : (err != 0) = true := by simpa using hz
    have HZ := Lib.hid hz
    clear hz hI
    go_enter_defers Try.func22, Try.ntmps22
    go_wp2_with (go_at_call 46; (with_reducible refine HI.out.mono ?_); rintro e w2 ⟨_, rfl, p', hi⟩; have HA := Lib.hid (((hi.setI 0 0 0 0 0 (.slice none 0 0)).setI 0 0 0 0 0 (.slice none 0 0)).setF err 0); obtain ⟨d0, d1, d2, d3, d4, d5⟩ := cells6 hi.ins; have g0 := free6 hi.ins 0; have g1 := free6 hi.ins 1; have g2 := free6 hi.ins 2; have g3 := free6 hi.ins 3; have g4 := free6 hi.ins 4; have g5 := free6 hi.ins 5; have q0 := flt0 hi.fau; have q1 := flt1 hi.fau; have r0 := fltf hi.fau 0; have r1 := fltf hi.fau 1; clear hi)
    refine (show ∀ W, GetAt w W b (.slice A b.length cap) p' 0 0 0 0 0 (.slice none 0 0) err 0 → bodyPostD _ _ _ _ _ W from fun W hW => ?_) _ HA.out
    clear d0 d1 d2 d3 d4 d5 g0 g1 g2 g3 g4 g5 q0 q1 r0 r1 HA
    by_cases h4 : err = 4
    · subst h4
      refine leaves_cons (f := 45) (args := #[.pointer (some ⟨w.heap.size + 2, 0, none⟩), .int .i64 k, .pointer (some ⟨w.heap.size + 1, 0, none⟩)]) (by simp) (by simp [go_sem]) ?_
      refine (blame_end (w.heap.size + 2) (w.heap.size + 1) w.heap.size p' _ b k .returning _ hW.inp (flt0 hW.fau) ⟨_, flt1 hW.fau⟩ (fltf hW.fau 1)).mono ?_
      rintro e u' w'' ⟨rfl, rfl, rfl⟩
      have hF := hW.setK b.length
      generalize W.setCell ⟨w.heap.size + 1, 1, none⟩ (.int .i64 b.length) = W2 at *
      obtain ⟨d0, d1, d2, d3, d4, d5⟩ := cells6 hF.ins
      have q0 := flt0 hF.fau
      have q1 := flt1 hF.fau
      exact ⟨.tuple #[.agg (insCells 0 0 0 0 0 (.slice none 0 0)), .int .i64 0, .agg #[.int .i64 4, .int .i64 b.length]], by simp [results, Try.results22, go_sem, d0, d1, d2, d3, d4, d5, q0, q1], got_bad ⟨rfl, (HGE.out (show (4 : Int) ≠ 0 by decide)).trans (if_pos rfl)⟩ (show (4 : Int) ≠ 0 by decide) hF.bel rfl⟩
    · refine leaves_cons (f := 45) (args := #[.pointer (some ⟨w.heap.size + 2, 0, none⟩), .int .i64 k, .pointer (some ⟨w.heap.size + 1, 0, none⟩)]) (by simp) (by simp [go_sem]) ?_
      refine (blame_begin (w.heap.size + 2) (w.heap.size + 1) err k .returning _ (flt0 hW.fau) HZ.out h4 ⟨_, flt1 hW.fau⟩ (fltf hW.fau 1)).mono ?_
      rintro e u' w'' ⟨rfl, rfl, rfl⟩
      have hF := hW.setK k
      generalize W.setCell ⟨w.heap.size + 1, 1, none⟩ (.int .i64 k) = W2 at *
      obtain ⟨d0, d1, d2, d3, d4, d5⟩ := cells6 hF.ins
      have q0 := flt0 hF.fau
      have q1 := flt1 hF.fau
      exact ⟨.tuple #[.agg (insCells 0 0 0 0 0 (.slice none 0 0)), .int .i64 0, .agg #[.int .i64 err, .int .i64 k]], by simp [results, Try.results22, go_sem, d0, d1, d2, d3, d4, d5, q0, q1], got_bad ⟨rfl, by simpa [h4] using HGE.out HZ.out⟩ HZ.out hF.bel rfl⟩
theorem get7_any (X : Value) (b : List Int) (k : Int) (w : World) (hX : IsBytes w w.heap.size X b) (hs : b.length ≤ 1000000) :
    Calls Try.prog 22 #[X, .int .i64 k] w (GotDone w (gotV b k)) := by
  by_cases h : k < 0 ∨ b.length < k
  · exact get7_out X b k w hX h
  · have hk : k = ((k.toNat : Nat) : Int) := by omega
    have e : gotV b k = getI b k.toNat := by unfold gotV; rw [if_neg h]
    rw [e]
    have := get7_in X b k.toNat w hX hs (by omega)
    rwa [← hk] at this
end Go.Proofs.Ytobbjphpngckgaa
