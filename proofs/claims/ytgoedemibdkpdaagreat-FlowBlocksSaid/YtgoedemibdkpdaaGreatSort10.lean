/- Lists of numbers of the call's own that are sorted and compacted (the library's Sort and Compact, by the shelf's contracts); a list among lists that is being made. Contracts; no condition but what each names. -/
import Derived.Test.YtgoedemibdkpdaaGreatLabs10
import Derived.Test.YtgoedemibdkpdaaGreatMath10B
import Derived.Test.YtgoedemibdkpdaaGreatShelf
import Derived.Sort.OwnSortedInts
namespace Go.Proofs.YtgoedemibdkpdaaGreat
open Go.RowKit Go.Sort
set_option linter.unusedVariables false
set_option linter.unusedSimpArgs false

def OwnB (V : Value) : Nat → Prop := fun b => V.ownBlock = some b
theorem But.of_grown {V : Value} {w w' : World} (h : w.grownBy w' V.ownBlock) : But (OwnB V) w w' :=
  ⟨h.os, h.tape, h.output, h.size, fun k hk hn => h.block k hk (fun e => hn e.symm)⟩
theorem put_num {K : IntKind} {ts : List Int} {cur : Array Value} (h : ∀ u ∈ cur.toList, IsNum K u) : ∀ u ∈ (putCells (Value.int K) 0 ts.toArray cur).toList, IsNum K u := by
  intro u hu
  obtain ⟨j, hj, rfl⟩ := List.getElem_of_mem hu
  simp only [putCells, Array.getElem_toList, Array.getElem_mapIdx]
  split
  · exact ⟨_, rfl⟩
  · exact h _ (by simp)
theorem OutN.parts {base : Nat} {w : World} {V : Value} {xs : List Int} (h : OutN base w V xs) (hv : V ≠ .slice none 0 0) :
    ∃ g cap cur, V = .slice (some ⟨g, 0, none⟩) xs.length cap ∧ base ≤ g ∧ g < w.heap.size ∧ w.heap[g]? = some (.cells cur 3 (0, 0)) ∧ xs.length ≤ cap ∧ cap ≤ maxLen ∧ cur.size = cap ∧ cur.toList.take xs.length = xs.map (Value.int .i64) ∧ ∀ u ∈ cur.toList, IsNum .i64 u := by
  rcases h.1.2 with ⟨rfl, _⟩ | ⟨g, cap, cur, rfl, h1, h2, h3, h4, h5, h6⟩
  · exact absurd rfl hv
  · exact ⟨g, cap, cur, rfl, h1, heap_lt h2, h2, h3, h4, by simpa using h5, by simpa using h6, h.2 g cur _ _ (by simp [Value.ownBlock]) h2⟩
theorem OutN.of_block {base g cap : Nat} {w : World} {cur : Array Value} {ys : List Int} (hb : base ≤ g) (hc : w.heap[g]? = some (.cells cur 3 (0, 0))) (hl : ys.length ≤ cap) (hm : cap ≤ maxLen) (hs : cur.size = cap) (ht : cur.toList.take ys.length = ys.map (Value.int .i64)) (hn : ∀ u ∈ cur.toList, IsNum .i64 u) :
    OutN base w (.slice (some ⟨g, 0, none⟩) ys.length cap) ys := by
  refine ⟨⟨by simp, .inr ⟨g, cap, cur, rfl, hb, hc, hl, hm, by simpa using hs, by simpa using ht⟩⟩, fun g' cur' t' fr' hg hc' u hu => ?_⟩
  simp [Value.ownBlock] at hg
  subst hg
  rw [hc] at hc'
  injection hc' with hc'
  injection hc' with hc' _ _
  subst hc'
  exact hn u hu
def SortDone (base : Nat) (w : World) (V : Value) (xs : List Int) (e : Ending) (w' : World) : Prop :=
  e = .returned (.tuple #[]) ∧ OutN base w' V (sortV xs) ∧ But (OwnB V) w w'
theorem sort_any (base : Nat) (w : World) (V : Value) (xs : List Int) (h : OutN base w V xs) (hl : xs.length ≤ 1000000) : Calls Tryz.prog 36 #[V] w (SortDone base w V xs) := by
  by_cases hv : V = .slice none 0 0
  · subst hv
    have hx : xs = [] := by
      have := h.1.1
      rcases h.1.2 with ⟨_, h0⟩ | ⟨g, cap, cur, h0, _⟩
      · exact List.eq_nil_of_length_eq_zero h0
      · cases h0
    subst hx
    refine (Tryz.slices_Sort_int_none none 0 w).mono ?_
    rintro e w' ⟨rfl, rfl⟩
    exact ⟨rfl, by simpa [sortV] using h, But.refl _ _⟩
  · obtain ⟨g, cap, cur, rfl, hb, hlt, hc, h1, h2, h3, h4, h5⟩ := h.parts hv
    refine (Tryz.slices_Sort_int g 0 cap xs w (holds_of_blockI hc h4) hlt (by omega)).mono ?_
    rintro e w' ⟨rfl, n, os, rfl⟩
    refine ⟨rfl, ?_, But.of_grown (V := .slice (some ⟨g, 0, none⟩) xs.length cap) (grownBy_sortedI _)⟩
    have hh := heap_sortedI (n := n) (os := os) (sortV xs).toArray hc
    have := OutN.of_block (ys := sortV xs) hb hh (by rw [sort_length]; exact h1) h2 (by simpa [putCells] using h3) (take_putCellsI cur (sortV xs) (by rw [sort_length]; omega)) (put_num h5)
    rw [sort_length] at this
    exact this
def CompactDone (base : Nat) (w : World) (V : Value) (xs : List Int) (e : Ending) (w' : World) : Prop :=
  ∃ V', e = .returned V' ∧ OutN base w' V' (Lib.compact xs) ∧ But (OwnB V) w w'
theorem compact_any (base : Nat) (w : World) (V : Value) (xs : List Int) (h : OutN base w V xs) (hl : xs.length ≤ 1000000) : Calls Tryz.prog 37 #[V] w (CompactDone base w V xs) := by
  by_cases hv : V = .slice none 0 0
  · subst hv
    have hx : xs = [] := by
      have := h.1.1
      rcases h.1.2 with ⟨_, h0⟩ | ⟨g, cap, cur, h0, _⟩
      · exact List.eq_nil_of_length_eq_zero h0
      · cases h0
    subst hx
    refine (Tryz.slices_Compact_int_empty none 0 w).mono ?_
    rintro e w' ⟨rfl, rfl⟩
    exact ⟨_, rfl, by simpa [Lib.compact, Lib.compactUpTo] using h, But.refl _ _⟩
  · obtain ⟨g, cap, cur, rfl, hb, hlt, hc, h1, h2, h3, h4, h5⟩ := h.parts hv
    refine (Tryz.slices_Compact_int g 0 cap xs w (holds_of_blockI hc h4) (by omega) h1).mono ?_
    rintro e w' ⟨rfl, n, rfl⟩
    have hcl := compact_length xs
    refine ⟨_, rfl, ?_, But.of_grown (V := .slice (some ⟨g, 0, none⟩) xs.length cap) (by have := grownBy_sortedI (w := w) (g := g) (n := n) (os := #[]) (Lib.compact xs ++ List.replicate (xs.length - (Lib.compact xs).length) 0).toArray; rw [grow_empty] at this; exact this)⟩
    have hh := heap_sortedI (n := n) (os := #[]) (Lib.compact xs ++ List.replicate (xs.length - (Lib.compact xs).length) 0).toArray hc
    rw [grow_empty] at hh
    have ht := take_putCellsI cur (Lib.compact xs ++ List.replicate (xs.length - (Lib.compact xs).length) 0) (by simp; omega)
    have ht2 := congrArg (List.take (Lib.compact xs).length) ht
    rw [List.take_take, Nat.min_eq_left (by simp), List.map_append, List.take_append_of_le_length (by simp), show List.take (Lib.compact xs).length (List.map (Value.int .i64) (Lib.compact xs)) = List.map (Value.int .i64) (Lib.compact xs) from List.take_of_length_le (by simp)] at ht2
    exact OutN.of_block hb hh (by omega) h2 (by simpa [putCells] using h3) ht2 (put_num h5)

/-- Lists of numbers of the call's own, in a row of the call's own. -/
structure Lists (base : Nat) (w : World) (g n : Nat) (Xs : Nat → Value) (ll : Nat → List Int) : Prop where
  ge : base ≤ g
  row : RowAt w g n 32 Xs
  own : ∀ i, i < n → OutN base w (Xs i) (ll i)
theorem own_ne {base g n : Nat} {w : World} {Xs : Nat → Value} {V : Value} {xs : List Int} (h : OutN base w V xs) (hr : RowAt w g n 32 Xs) : ¬ OwnB V g := by
  intro hg
  have hv : V ≠ .slice none 0 0 := fun e => by subst e; simp [OwnB, Value.ownBlock] at hg
  obtain ⟨g', cap, cur, rfl, _, _, hc, _⟩ := h.parts hv
  have : g' = g := by simpa [OwnB, Value.ownBlock] using hg
  subst this
  obtain ⟨cur', h1, _⟩ := hr
  rw [hc] at h1
  injection h1 with h1
  injection h1 with _ h1 _
  exact absurd h1 (by decide)
/-- The list k of a row is being made, in the world W; the round began in wr. -/
structure FolAt (wr W : World) (g n k : Nat) (Xs : Nat → Value) (V : Value) (xs : List Int) : Prop where
  row : RowAt W g n 32 (fun i => if i = k then V else Xs i)
  but : But (OneBlock g) wr W
  own : OutN wr.heap.size W V xs
section
variable {wr W W' : World} {g n k : Nat} {Xs : Nat → Value} {V V' : Value} {xs ys : List Int} {ll : Nat → List Int} {base : Nat}
theorem FolAt.start (h : RowAt wr g n 32 Xs) (hx : Xs k = .slice none 0 0) : FolAt wr wr g n k Xs (.slice none 0 0) [] :=
  ⟨h.congr fun i hi => by by_cases e : i = k <;> simp [e, hx], But.refl _ _, Owns.nil _ _ _ _ _⟩
theorem FolAt.grow (h : FolAt wr W g n k Xs V xs) (hb : Below W.heap.size W W') : FolAt wr W' g n k Xs V xs :=
  ⟨h.row.below hb h.row.lt, h.but.trans (But.of_below hb), h.own.below hb (Nat.le_refl _)⟩
theorem FolAt.cell (h : FolAt wr W g n k Xs V xs) (hk : k < n) : W.cell? ⟨g, k, none⟩ = some V ∧ W.frozen? ⟨g, k, none⟩ = false :=
  ⟨by have := h.row.cell hk; simpa using this, h.row.frozen k⟩
theorem FolAt.touch (h : FolAt wr W g n k Xs V xs) (hb : But (OwnB V) W W') (ho : OutN wr.heap.size W' V ys) : FolAt wr W' g n k Xs V ys :=
  ⟨h.row.but hb (own_ne h.own h.row), ⟨hb.os.trans h.but.os, hb.tape.trans h.but.tape, hb.output.trans h.but.output, Nat.le_trans h.but.size hb.size, fun i hi hn => (hb.block i (Nat.lt_of_lt_of_le hi h.but.size) (fun hc => by have := (h.own.lt hc).1; omega)).trans (h.but.block i hi hn)⟩, ho⟩
/-- What holds when the list is made anew, before it is laid. -/
structure FolMid (wr W : World) (g n k : Nat) (Xs : Nat → Value) (V V' : Value) (ys : List Int) : Prop where
  row : RowAt W g n 32 (fun i => if i = k then V else Xs i)
  but : But (OneBlock g) wr W
  own : OutN wr.heap.size W V' ys
theorem FolAt.mid (h : FolAt wr W g n k Xs V xs) (hb : But (OwnB V) W W') (ho : OutN wr.heap.size W' V' ys) : FolMid wr W' g n k Xs V V' ys :=
  ⟨h.row.but hb (own_ne h.own h.row), ⟨hb.os.trans h.but.os, hb.tape.trans h.but.tape, hb.output.trans h.but.output, Nat.le_trans h.but.size hb.size, fun i hi hn => (hb.block i (Nat.lt_of_lt_of_le hi h.but.size) (fun hc => by have := (h.own.lt hc).1; omega)).trans (h.but.block i hi hn)⟩, ho⟩
theorem FolMid.cell (h : FolMid wr W g n k Xs V V' ys) (hk : k < n) : W.cell? ⟨g, k, none⟩ = some V ∧ W.frozen? ⟨g, k, none⟩ = false :=
  ⟨by have := h.row.cell hk; simpa using this, h.row.frozen k⟩
theorem FolMid.lay (h : FolMid wr W g n k Xs V V' ys) : FolAt wr (W.setCell ⟨g, k, none⟩ V') g n k Xs V' ys := by
  refine ⟨(h.row.set k V').congr fun i hi => by by_cases e : i = k <;> simp [e], h.but.setCell (p := ⟨g, k, none⟩) (.inl rfl) _, ?_⟩
  exact h.own.but ((But.refl (OneBlock g) W).setCell (p := ⟨g, k, none⟩) (.inl rfl) V') (fun b hb hc => own_ne h.own h.row (by rw [show b = g from hc] at hb; exact hb))
theorem FolAt.done (h : FolAt wr W g n k Xs V xs) (hl : Lists base wr g n Xs ll) (hb : base ≤ wr.heap.size) : Lists base W g n (fun i => if i = k then V else Xs i) (fun i => if i = k then xs else ll i) := by
  refine ⟨hl.ge, h.row, fun i hi => ?_⟩
  by_cases e : i = k
  · simp only [if_pos e]
    exact h.own.base hb
  · simp only [if_neg e]
    exact (hl.own i hi).but h.but (fun b hb hc => own_ne (hl.own i hi) hl.row (by rw [show b = g from hc] at hb; exact hb))
end
end Go.Proofs.YtgoedemibdkpdaaGreat
