/- A map from numbers to numbers as a function, and rows of cells by their places. Plain lemmas; no condition but what each names. -/

import Derived.Test.YtgoedemibdkpdaaGreatS09
import Derived.Maps.Own
import Derived.Maps.OwnSet
import Derived.Maps.Views
import Derived.Laws.MakeOwn
namespace Go.Proofs.YtgoedemibdkpdaaGreat
open Go.RowKit
set_option linter.unusedVariables false

/-- A block holds a map from labels to numbers. -/
def Labs (w : World) (lb n : Nat) (f : Int → Option Int) : Prop :=
  ∃ D : DataW Unit, w.ownsMap Tryz.prog 3 (plainElem Tryz.prog 3) lb n D ∧ ∀ k : Int, Maps.has D (.int .i64 k) = (f k).isSome ∧ D.atKey (.int .i64 k) (.lit (.int .i64 0)) = .lit (.int .i64 ((f k).getD 0))
theorem wf_i64_of {a : Int} (h : InI a) : (Lit.int .i64 a).wf = true := by
  have h1 := h.1
  have h2 := h.2
  simp [Lit.wf, IntKind.min, IntKind.max, IntKind.signed, IntKind.bits]
  omega
theorem key_of {k : Int} (hk : InI k) : keyOf Tryz.prog 3 (.int .i64 k) = some (.int .i64 k) := Maps.keyOf_int_mk Tryz.underlying3 (wf_i64_of hk)
theorem int_zero (w : World) : (zeroValue 3).run Tryz.prog w = .ok (.int .i64 0) w := by kernel_rfl
section
variable {w w' : World} {lb n : Nat} {f : Int → Option Int}
theorem Labs.made (w : World) : Labs (w.alloc (.map #[] 0)) w.heap.size 0 (fun _ => none) :=
  ⟨.map [], World.ownsMap_made w Tryz.prog 3 _, fun k => ⟨rfl, rfl⟩⟩
theorem Labs.lt (h : Labs w lb n f) : lb < w.heap.size := h.choose_spec.1.lt
theorem Labs.more {m : Nat} (h : Labs w lb n f) (hm : n ≤ m) : Labs w lb m f := by
  obtain ⟨D, h, hk⟩ := h
  exact ⟨D, h.mono hm, hk⟩
theorem Labs.heap (h : Labs w lb n f) (he : w'.heap[lb]? = w.heap[lb]?) : Labs w' lb n f := by
  obtain ⟨D, ⟨es, clock, hb, r⟩, hk⟩ := h
  exact ⟨D, ⟨es, clock, he.trans hb, r⟩, hk⟩
theorem Labs.below {B : Nat} (h : Labs w lb n f) (hb : Below B w w') (hB : lb < B) : Labs w' lb n f := h.heap (hb.block lb hB)
theorem Labs.but {R : Nat → Prop} (h : Labs w lb n f) (hb : But R w w') (hr : ¬ R lb) : Labs w' lb n f := h.heap (hb.block lb h.lt hr)
set_option maxRecDepth 100000 in
theorem Labs.look (h : Labs w lb n f) {k : Int} (hk : InI k) : (Instr.lookup 64 (.map (some lb)) (.int .i64 k) false).run Tryz.prog w = .ok (.int .i64 ((f k).getD 0)) w := by
  obtain ⟨D, h, hf⟩ := h
  obtain ⟨c, h1, h2, _⟩ := h.lookup_int (Maps.int_keyed Tryz.underlying3) Tryz.underlying64 Tryz.underlying3 (int_zero w) (key_of hk)
  rw [(hf k).2] at h2
  injection h2 with h2
  injection h2 with h2 h3
  rw [h1, h3]
set_option maxRecDepth 100000 in
theorem Labs.look_ok (h : Labs w lb n f) {k : Int} (hk : InI k) : (Instr.lookup 64 (.map (some lb)) (.int .i64 k) true).run Tryz.prog w = .ok (.tuple #[.int .i64 ((f k).getD 0), .bool (f k).isSome]) w := by
  obtain ⟨D, h, hf⟩ := h
  obtain ⟨v, ps, h1, h2⟩ := h.look_ok (Maps.int_keyed Tryz.underlying3) Tryz.underlying64 (int_zero w) (plainElem_int Tryz.underlying3 (by decide)) (key_of hk)
  obtain ⟨c, rfl, hc, _⟩ := plainElem_int_inv Tryz.underlying3 h2
  have hc := congrArg Prod.fst hc
  rw [(hf k).2] at hc
  injection hc with hc
  injection hc with h4 h3
  rw [h1, (hf k).1, h3]
theorem labs_put (w : World) {ops : Array Oper} {rest : List Oper} {o : Oper} {a : Act} {Q : Exit → Act → World → Prop}
    (hg : o.guard = none) (m x v : Operand) (hop : o.op = Op.mapUpdate 64 m x v) {lb n : Nat} {f : Int → Option Int}
    (hm : a.eval m = .map (some lb)) (h : Labs w lb n f) (hn : n < maxLen) {k u : Int} (hx : a.eval x = .int .i64 k) (hv : a.eval v = .int .i64 u) (hk : InI k) (hu : InI u)
    (hK : ∀ w', Labs w' lb (n + 1) (fun j => if j = k then some u else f j) → But (OneBlock lb) w w' → wpList Tryz.prog ops Q rest (a.put o.dst undef) w') :
    wpList Tryz.prog ops Q (o :: rest) a w := by
  obtain ⟨D, h, hf⟩ := h
  refine wpList_mapUpdate_own w hg m x v 64 hop 3 3 (Maps.int_keyed Tryz.underlying3) Tryz.underlying64 (plainElem Tryz.prog 3) lb n D hm h hn _ _ (.int .i64 k) hx hv (key_of hk) (.lit (.int .i64 u)) [] (plainElem_int Tryz.underlying3 (wf_i64_of hu)) fun w' h' g' => hK w' ⟨_, h', fun j => ?_⟩ ⟨g'.os, g'.tape, g'.output, g'.size, fun i hi hr => g'.block i hi (fun e => by injection e with e; exact hr e)⟩
  by_cases e : j = k
  · subst e
    dsimp only
    rw [if_pos rfl, Maps.has_put_same h.isMap (by trivial), Maps.atKey_put_same h.isMap (by trivial)]
    exact ⟨rfl, rfl⟩
  · have hne : (Lit.int .i64 j) ≠ .int .i64 k := fun hh => e (by injection hh)
    dsimp only
    rw [if_neg e, Maps.has_put_other hne, Maps.atKey_put_other hne]
    exact hf j
end
/-- A block is a row of so many cells of one type. -/
def RowAt (w : World) (g n : Nat) (t : TypeId) (mk : Nat → Value) : Prop := ∃ cur, w.heap[g]? = some (.cells cur t (0, 0)) ∧ cur.size = n ∧ ∀ i, i < n → cur[i]? = some (mk i)
section
variable {w w' : World} {g n : Nat} {t : TypeId} {mk : Nat → Value}
theorem RowAt.lt (h : RowAt w g n t mk) : g < w.heap.size := by
  obtain ⟨cur, h1, _⟩ := h
  exact heap_lt h1
theorem RowAt.cell (h : RowAt w g n t mk) {i : Nat} (hi : i < n) : w.cell? ⟨g, i, none⟩ = some (mk i) := by
  obtain ⟨cur, h1, _, h3⟩ := h
  rw [cell_of_row _ _ _ _ _ _ h1]
  exact h3 i hi
theorem RowAt.frozen (h : RowAt w g n t mk) (i : Nat) : w.frozen? ⟨g, i, none⟩ = false := by
  obtain ⟨cur, h1, _⟩ := h
  exact frozen_of_row w g i cur _ h1
theorem RowAt.heap (h : RowAt w g n t mk) (he : w'.heap[g]? = w.heap[g]?) : RowAt w' g n t mk := by
  obtain ⟨cur, h1, h2⟩ := h
  exact ⟨cur, he.trans h1, h2⟩
theorem RowAt.but {R : Nat → Prop} (h : RowAt w g n t mk) (hb : But R w w') (hr : ¬ R g) : RowAt w' g n t mk := h.heap (hb.block g h.lt hr)
theorem RowAt.below {B : Nat} (h : RowAt w g n t mk) (hb : Below B w w') (hB : g < B) : RowAt w' g n t mk := h.heap (hb.block g hB)
theorem RowAt.congr {mk' : Nat → Value} (h : RowAt w g n t mk) (he : ∀ i, i < n → mk i = mk' i) : RowAt w g n t mk' := by
  obtain ⟨cur, h1, h2, h3⟩ := h
  exact ⟨cur, h1, h2, fun i hi => by rw [h3 i hi, he i hi]⟩
theorem RowAt.set (h : RowAt w g n t mk) (k : Nat) (v : Value) : RowAt (w.setCell ⟨g, k, none⟩ v) g n t (fun i => if i = k then v else mk i) := by
  obtain ⟨cur, h1, h2, h3⟩ := h
  refine ⟨cur.setIfInBounds k v, heap_setCell_same w g k cur _ v h1, by simpa using h2, fun i hi => ?_⟩
  rw [Array.getElem?_setIfInBounds]
  by_cases e : i = k
  · subst e
    simp [h2, hi]
  · rw [if_neg (fun h => e h.symm), h3 i hi]
    simp [e]
theorem RowAt.made (w : World) (t : TypeId) (v : Value) (n : Nat) (cs : Array Value) (hs : cs.size = n) (hv : ∀ i, i < n → cs[i]? = some v) : RowAt (w.alloc (.cells cs t)) w.heap.size n t (fun _ => v) :=
  ⟨cs, heap_alloc_new w _, hs, hv⟩
theorem RowAt.other {g' n' : Nat} {t' : TypeId} {mk' : Nat → Value} (h : RowAt w g n t mk) (h' : RowAt w g' n' t' mk') (ht : t ≠ t') : g ≠ g' := by
  intro e
  subst e
  obtain ⟨cur, h1, _⟩ := h
  obtain ⟨cur', h2, _⟩ := h'
  rw [h1] at h2
  injection h2 with h2
  injection h2 with h2 h3
  exact ht h3
theorem Labs.other {lb m : Nat} {f : Int → Option Int} (h : RowAt w g n t mk) (h' : Labs w lb m f) : g ≠ lb := by
  intro e
  subst e
  obtain ⟨cur, h1, _⟩ := h
  obtain ⟨D, ⟨es, clock, h2, _⟩, _⟩ := h'
  rw [h1] at h2
  cases h2
end
def boolsV (f : Nat → Bool) : Nat → Value := fun i => .bool (f i)
def intsV (f : Nat → Nat) : Nat → Value := fun i => .int .i64 ((f i : Nat) : Int)
theorem bool_info : (Tryz.prog.info? 4).map (fun i => (i.zero, i.size, i.bytes)) = some (some (.bool false), 1, 1) := by kernel_rfl
theorem made_row {v : Value} (hv : v.cells = #[v]) {n i : Nat} (hi : i < n) : (madeCells v.cells (n * 1))[i]? = some v := by
  rw [hv]
  simp [madeCells, hi, Nat.mod_one]
theorem make_bools (n : Nat) (hn : n ≤ 100000) (w : World) : (Instr.makeSlice 42 (.int .i64 (n : Int)) (.int .i64 (n : Int))).run Tryz.prog w = .ok (.slice (some ⟨w.heap.size, 0, none⟩) n n) (w.alloc (.cells (madeCells (Value.bool false).cells (n * 1)) 4)) := by
  obtain ⟨i, h1, h2, h3, h4⟩ := info_parts bool_info
  have h := run_make (P := Tryz.prog) w 42 4 i _ Tryz.underlying42 h1 h2 .i64 .i64 (n : Int) (n : Int) (by omega) (Int.le_refl _) (by rw [h4]; omega) (by omega)
  rw [h3] at h
  simpa using h
theorem make_ints (n : Nat) (hn : n ≤ 100000) (w : World) : (Instr.makeSlice 32 (.int .i64 (n : Int)) (.int .i64 (n : Int))).run Tryz.prog w = .ok (.slice (some ⟨w.heap.size, 0, none⟩) n n) (w.alloc (.cells (madeCells (Value.int .i64 0).cells (n * 1)) 3)) := by
  obtain ⟨i, h1, h2, h3, h4⟩ := info_parts int_info
  have h := run_make (P := Tryz.prog) w 32 3 i _ Tryz.underlying32 h1 h2 .i64 .i64 (n : Int) (n : Int) (by omega) (Int.le_refl _) (by rw [h4]; omega) (by omega)
  rw [h3] at h
  simpa using h
theorem bools_made (n : Nat) (w : World) : RowAt (w.alloc (.cells (madeCells (Value.bool false).cells (n * 1)) 4)) w.heap.size n 4 (boolsV fun _ => false) :=
  (RowAt.made w 4 (.bool false) n _ (by simp [madeCells]) fun i hi => made_row rfl hi).congr fun i hi => rfl
theorem ints_made (n : Nat) (w : World) : RowAt (w.alloc (.cells (madeCells (Value.int .i64 0).cells (n * 1)) 3)) w.heap.size n 3 (intsV fun _ => 0) :=
  (RowAt.made w 3 (.int .i64 0) n _ (by simp [madeCells]) fun i hi => made_row rfl hi).congr fun i hi => rfl
theorem ints_info : (Tryz.prog.info? 32).map (fun i => (i.zero, i.size, i.bytes)) = some (some (.slice none 0 0), 1, 24) := by kernel_rfl
theorem make_lists (n : Nat) (hn : n ≤ 100000) (w : World) : (Instr.makeSlice 38 (.int .i64 (n : Int)) (.int .i64 (n : Int))).run Tryz.prog w = .ok (.slice (some ⟨w.heap.size, 0, none⟩) n n) (w.alloc (.cells (madeCells (Value.slice none 0 0).cells (n * 1)) 32)) := by
  obtain ⟨i, h1, h2, h3, h4⟩ := info_parts ints_info
  have h := run_make (P := Tryz.prog) w 38 32 i _ Tryz.underlying38 h1 h2 .i64 .i64 (n : Int) (n : Int) (by omega) (Int.le_refl _) (by rw [h4]; omega) (by omega)
  rw [h3] at h
  simpa using h
theorem lists_made (n : Nat) (w : World) : RowAt (w.alloc (.cells (madeCells (Value.slice none 0 0).cells (n * 1)) 32)) w.heap.size n 32 (fun _ => .slice none 0 0) :=
  (RowAt.made w 32 (.slice none 0 0) n _ (by simp [madeCells]) fun i hi => made_row rfl hi).congr fun i hi => rfl
end Go.Proofs.YtgoedemibdkpdaaGreat
