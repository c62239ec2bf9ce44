/- A word for what a call leaves of memory: all blocks that were there are as they were, but those of a set. Plain lemmas over any program; no condition but what each names. -/
import Derived.WalkKit
import Derived.ProofKit
import Derived.Below
import Derived.Test.YtobbjphpngckgaaOwn
namespace Go.Proofs.Ytobbjphpngckgaa
open Go.RowKit
set_option linter.unusedVariables false

/-- All blocks that were there are as they were, but those of R. -/
structure But (R : Nat → Prop) (w w' : World) : Prop where
  os : w'.os = w.os
  tape : w'.tape = w.tape
  output : w'.output = w.output
  size : w.heap.size ≤ w'.heap.size
  block : ∀ k, k < w.heap.size → ¬ R k → w'.heap[k]? = w.heap[k]?
def NoBlock : Nat → Prop := fun _ => False
def OneBlock (b : Nat) : Nat → Prop := fun k => k = b
theorem oneBlock_not {a b : Nat} (h : a ≠ b) : ¬ OneBlock b a := h
theorem noBlock_not (a : Nat) : ¬ NoBlock a := fun h => h
theorem But.refl (R : Nat → Prop) (w : World) : But R w w := ⟨rfl, rfl, rfl, Nat.le_refl _, fun _ _ _ => rfl⟩
theorem But.trans {R : Nat → Prop} {a b c : World} (h : But R a b) (k : But R b c) : But R a c :=
  ⟨k.os.trans h.os, k.tape.trans h.tape, k.output.trans h.output, Nat.le_trans h.size k.size, fun i hi hr => (k.block i (Nat.lt_of_lt_of_le hi h.size) hr).trans (h.block i hi hr)⟩
theorem But.mono {R S : Nat → Prop} {w w' : World} (h : But R w w') (hs : ∀ k, R k → S k) : But S w w' :=
  ⟨h.os, h.tape, h.output, h.size, fun k hk hn => h.block k hk fun hr => hn (hs k hr)⟩
theorem But.none {R : Nat → Prop} {w w' : World} (h : But NoBlock w w') : But R w w' := h.mono fun _ h => h.elim
theorem But.of_below {R : Nat → Prop} {w w' : World} (h : Below w.heap.size w w') : But R w w' :=
  ⟨h.os, h.tape, h.output, h.size, fun k hk _ => h.block k hk⟩
theorem But.below {R : Nat → Prop} {B : Nat} {a w w' : World} (hb : Below B a w) (h : But R w w') (hB : B ≤ w.heap.size) (hr : ∀ k, R k → B ≤ k) : Below B a w' :=
  hb.trans ⟨h.os, h.tape, h.output, h.size, fun k hk => h.block k (by omega) fun hk' => by have := hr k hk'; omega⟩
theorem But.below0 {w w' : World} (h : But NoBlock w w') : Below w.heap.size w w' :=
  ⟨h.os, h.tape, h.output, h.size, fun k hk => h.block k hk fun hk' => hk'⟩
theorem But.drew {R : Nat → Prop} {w w' : World} (h : But R w w') : But R w w'.drew := ⟨h.os, h.tape, h.output, h.size, h.block⟩
theorem But.of_drew {R : Nat → Prop} {w w' : World} (h : But R w.drew w') : But R w w' := ⟨h.os, h.tape, h.output, h.size, h.block⟩
theorem But.drewN {R : Nat → Prop} {w w' : World} (h : But R w w') (n : Nat) : But R w (w'.drewN n) := ⟨h.os, h.tape, h.output, h.size, h.block⟩
theorem But.alloc {R : Nat → Prop} {w w' : World} (h : But R w w') (o : Obj) : But R w (w'.alloc o) :=
  h.trans (But.of_below ((Below.refl _ _).alloc (Nat.le_refl _) o))
theorem But.setCell {R : Nat → Prop} {w w' : World} (h : But R w w') {p : Addr} (hp : R p.block ∨ w.heap.size ≤ p.block) (u : Value) : But R w (w'.setCell p u) :=
  ⟨h.os, h.tape, h.output, by simpa [World.setCell] using h.size, fun k hk hn => by
    rw [Below.heap_setCell _ _ _ _ (fun e => by subst e; rcases hp with hp | hp; exact hn hp; omega)]
    exact h.block k hk hn⟩
theorem But.setRow {R : Nat → Prop} {w w' : World} (h : But R w w') {g : Nat} (hp : R g ∨ w.heap.size ≤ g) (cs : Array Value) : But R w (w'.setRow g cs) :=
  ⟨h.os, h.tape, h.output, by simpa [World.setRow] using h.size, fun k hk hn => by
    rw [setRow_other w' g k cs (fun e => by subst e; rcases hp with hp | hp; exact hn hp; omega)]
    exact h.block k hk hn⟩
theorem below_drewN {B : Nat} {a w : World} (h : Below B a w) (n : Nat) : Below B a (w.drewN n) := ⟨h.os, h.tape, h.output, h.size, h.block⟩
theorem below_store {B bb : Nat} {a w w' : World} (h : Below B a w) (hb : But (OneBlock bb) w w') (hB : B ≤ w.heap.size) (hbb : B ≤ bb) : Below B a w' :=
  But.below h hb hB (fun k hk => by rw [show k = bb from hk]; exact hbb)
theorem below_next {B : Nat} {a w w' : World} (h : Below B a w) (hb : Below w.heap.size w w') (hB : B ≤ w.heap.size) : Below B a w' := h.trans (hb.mono hB)
theorem heap_lt {w : World} {k : Nat} {o : Obj} (h : w.heap[k]? = some o) : k < w.heap.size := by
  rcases Nat.lt_or_ge k w.heap.size with h' | h'
  · exact h'
  · rw [Array.getElem?_eq_none h'] at h
    cases h
theorem But.heap {R : Nat → Prop} {w w' : World} (h : But R w w') {k : Nat} {o : Obj} (hk : w.heap[k]? = some o) (hn : ¬ R k) : w'.heap[k]? = some o := by
  rw [h.block k (heap_lt hk) hn]; exact hk
theorem But.cell {R : Nat → Prop} {w w' : World} (h : But R w w') {p : Addr} (hk : p.block < w.heap.size) (hn : ¬ R p.block) : w'.cell? p = w.cell? p :=
  World.cell?_of_block (w := w) (h.block p.block hk hn)
theorem IsBytes.but {w w' : World} {B : Nat} {R : Nat → Prop} {X : Value} {xs : List Int} (h : IsBytes w B X xs) (hb : But R w w') (hB : B ≤ w.heap.size) (hr : ∀ k, k < B → ¬ R k) : IsBytes w' B X xs := by
  refine ⟨h.1, h.2.1, ?_⟩
  rcases h.2.2 with h0 | ⟨ad, cap, h1, h2, h3, h4⟩
  · exact .inl h0
  · refine .inr ⟨ad, cap, h1, h2, h3, fun i hi => ?_⟩
    have := h3 (by omega)
    have e : (ad.add i).block = ad.block := by unfold Addr.add; split <;> rfl
    rw [hb.cell (by omega) (by rw [e]; exact hr _ this)]
    exact h4 i hi
theorem Owns.but {w w' : World} {base : Nat} {R : Nat → Prop} {e : TypeId} {size : Nat} {K : Value → Prop} {v : Value} {n : Nat} {xs : List Value} (h : Owns w base e size K v n xs) (hb : But R w w') (hr : ∀ g, v.ownBlock = some g → ¬ R g) : Owns w' base e size K v n xs :=
  h.of_blocks (fun g hg => hb.block g (h.lt hg).2 (hr g hg)) hb.size

/-- A row of bytes: a block of c bytes, the first of which are xs. -/
def Row (t : TypeId) (w : World) (b c : Nat) (xs : List Int) : Prop :=
  ∃ cur : Array Value, w.heap[b]? = some (.cells cur t (0, 0)) ∧ cur.size = c ∧ cur.toList.take xs.length = xs.map (Value.int .u8) ∧ xs.length ≤ c
theorem Row.but {t : TypeId} {w w' : World} {b c : Nat} {xs : List Int} {R : Nat → Prop} (h : Row t w b c xs) (hb : But R w w') (hn : ¬ R b) : Row t w' b c xs := by
  obtain ⟨cur, h1, h2⟩ := h
  exact ⟨cur, hb.heap h1 hn, h2⟩
theorem Row.lt {t : TypeId} {w : World} {b c : Nat} {xs : List Int} (h : Row t w b c xs) : b < w.heap.size := by
  obtain ⟨cur, h1, _⟩ := h
  exact heap_lt h1
theorem Row.cell {t : TypeId} {w : World} {b c : Nat} {xs : List Int} (h : Row t w b c xs) {i : Nat} (hi : i < xs.length) : w.cell? ⟨b, i, none⟩ = some (.int .u8 (xs.getD i 0)) := by
  obtain ⟨cur, h1, h2, h3, h4⟩ := h
  have h5 : (xs.map (Value.int .u8))[i]? = some (.int .u8 (xs.getD i 0)) := by
    rw [List.getElem?_map, List.getElem?_eq_getElem hi]
    simp [List.getD, List.getElem?_eq_getElem hi]
  rw [← h3, List.getElem?_take, if_pos hi] at h5
  simp [World.cell?, h1]
  simpa using h5
theorem Row.free {t : TypeId} {w : World} {b c : Nat} {xs : List Int} (h : Row t w b c xs) (i : Nat) : w.frozen? ⟨b, i, none⟩ = false := by
  obtain ⟨cur, h1, h2, h3, h4⟩ := h
  exact frozen_of_row w b i cur _ h1
theorem Row.bytes {t : TypeId} {w : World} {b c : Nat} {xs : List Int} (h : Row t w b c xs) (hx : ∀ x ∈ xs, 0 ≤ x ∧ x < 256) {B : Nat} (hB : b < B) {a n cap : Nat} (ha : a + n ≤ xs.length) (hn : n ≤ cap) (hm : n ≤ maxLen) :
    IsBytes w B (.slice (some ⟨b, a, none⟩) n cap) ((xs.drop a).take n) := by
  have hl : ((xs.drop a).take n).length = n := by simp; omega
  refine ⟨fun x hx' => hx x (List.mem_of_mem_drop (List.mem_of_mem_take hx')), by omega, .inr ⟨⟨b, a, none⟩, cap, by rw [hl], by omega, fun _ => hB, fun i hi => ?_⟩⟩
  have e : (⟨b, a, none⟩ : Addr).add i = ⟨b, a + i, none⟩ := by unfold Addr.add; split <;> simp_all
  rw [hl] at hi
  rw [e, h.cell (by omega)]
  simp [List.getD, hi]
/-- A byte is laid. -/
theorem Row.set {t : TypeId} {w : World} {b c : Nat} {xs : List Int} (h : Row t w b c xs) {i : Nat} (hi : i < xs.length) (y : Int) : Row t (w.setCell ⟨b, i, none⟩ (.int .u8 y)) b c (xs.set i y) := by
  obtain ⟨cur, h1, h2, h3, h4⟩ := h
  refine ⟨cur.setIfInBounds i (.int .u8 y), heap_setCell_same w b i cur _ _ h1, by simpa using h2, ?_, by simpa using h4⟩
  rw [Array.toList_setIfInBounds, List.length_set, List.take_set, h3, List.map_set]
/-- Bytes are laid, one behind the other. -/
def layL (xs : List Int) (a : Nat) (ys : List Int) : List Int := xs.take a ++ (ys ++ xs.drop (a + ys.length))
theorem layL_len {xs : List Int} {a : Nat} {ys : List Int} (h : a + ys.length ≤ xs.length) : (layL xs a ys).length = xs.length := by simp [layL]; omega
theorem layL_bd {xs ys : List Int} (a : Nat) (hx : ∀ x ∈ xs, 0 ≤ x ∧ x < 256) (hy : ∀ x ∈ ys, 0 ≤ x ∧ x < 256) : ∀ x ∈ layL xs a ys, 0 ≤ x ∧ x < 256 := by
  intro x h
  simp only [layL, List.mem_append] at h
  rcases h with h | h | h
  · exact hx x (List.mem_of_mem_take h)
  · exact hy x h
  · exact hx x (List.mem_of_mem_drop h)
theorem layL_nil (xs : List Int) (a : Nat) : layL xs a [] = xs := by simp [layL]
theorem layL_snoc {xs ys : List Int} {a : Nat} (y : Int) (h : a + ys.length < xs.length) : layL xs a (ys ++ [y]) = (layL xs a ys).set (a + ys.length) y := by
  unfold layL
  have h1 : (xs.take a).length = a := by simp; omega
  rw [List.set_append_right _ _ (by omega), h1, List.set_append_right _ _ (by omega)]
  have e : a + ys.length - a - ys.length = 0 := by omega
  rw [e, List.drop_eq_getElem_cons h, List.set_cons_zero]
  simp [Nat.add_assoc]
theorem Row.lay {t : TypeId} {w : World} {b c : Nat} {xs ys : List Int} {a : Nat} (h : Row t w b c xs) (ha : a + ys.length ≤ xs.length) {cur : Array Value} (hc : w.heap[b]? = some (.cells cur t (0, 0))) :
    Row t (w.setRow b (cur.toList.take a ++ (ys.map (Value.int .u8) ++ cur.toList.drop (a + ys.length))).toArray) b c (layL xs a ys) := by
  obtain ⟨cur', h1, h2, h3, h4⟩ := h
  rw [hc] at h1
  injection h1 with h1
  injection h1 with h1 _ _
  subst h1
  refine ⟨_, setRow_heap w b cur _ t _ hc, by simp; omega, ?_, by rw [layL_len ha]; exact h4⟩
  have hl : cur.toList.length = c := by simpa using h2
  rw [layL_len ha]
  have hcur : cur.toList = xs.map (Value.int .u8) ++ cur.toList.drop xs.length := by rw [← h3, List.take_append_drop]
  generalize cur.toList.drop xs.length = sp at hcur
  rw [hcur]
  have hxl : (xs.map (Value.int .u8)).length = xs.length := by simp
  have e1 : (xs.map (Value.int .u8) ++ sp).take a = (xs.map (Value.int .u8)).take a := List.take_append_of_le_length (by rw [hxl]; omega)
  have e2 : (xs.map (Value.int .u8) ++ sp).drop (a + ys.length) = (xs.map (Value.int .u8)).drop (a + ys.length) ++ sp := List.drop_append_of_le_length (by rw [hxl]; omega)
  rw [e1, e2, ← List.append_assoc (ys.map (Value.int .u8)), ← List.append_assoc ((xs.map (Value.int .u8)).take a)]
  rw [List.take_append_of_le_length (by simp; omega), List.take_of_length_le (by simp; omega)]
  unfold layL
  simp
end Go.Proofs.Ytobbjphpngckgaa
