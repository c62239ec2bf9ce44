/- Lemmas of Code07H, Code07I, Code07J, Code07K, Laws07A, Laws07B, each with its own remark. -/
import Derived.Test.YtohlifeenhaifaaGreatDoorS07
import Derived.Defers
import Derived.Test.YtohlifeenhaifaaGreatDoorS05
/- (Code07H) The landed (*input).blame, deferred, and code.Get: the instruction at a place, or what is wrong, and where. Contracts; no condition but that the bytes are few. -/
namespace Go.Proofs.YtohlifeenhaifaaGreatDoor
open Go.RowKit Go.Shelf
set_option linter.unusedVariables false
set_option linter.unusedSimpArgs false

def GotDone (w : World) (g : GotV) (e : Ending) (w' : World) : Prop :=
  Below w.heap.size w w' ∧ ((g.err ≠ 0 ∧ e = .returned (.tuple #[.agg (insCells 0 0 0 0 0 (.slice none 0 0)), .int .i64 0, .agg #[.int .i64 g.err, .int .i64 g.at_]])) ∨
   (g.err = 0 ∧ ∃ V, e = .returned (.tuple #[.agg (insCells g.y.op g.y.a g.y.b g.y.c g.y.n V), .int .i64 g.next, .agg #[.int .i64 0, .int .i64 0]]) ∧ OutN w.heap.size w' V g.y.args))
theorem got_bad {w w' : World} {g : GotV} {z k : Int} {e : Ending} (hg : g.err = z ∧ g.at_ = k) (h0 : z ≠ 0) (hb : Below w.heap.size w w') (he : e = .returned (.tuple #[.agg (insCells 0 0 0 0 0 (.slice none 0 0)), .int .i64 0, .agg #[.int .i64 z, .int .i64 k]])) : GotDone w g e w' :=
  ⟨hb, .inl ⟨by rw [hg.1]; exact h0, by rw [hg.1, hg.2]; exact he⟩⟩
theorem got_good {w w' : World} {g : GotV} {y : InsV} {next : Nat} {V : Value} {e : Ending} (hg : g = ⟨0, 0, y, next⟩) (hb : Below w.heap.size w w') (ho : OutN w.heap.size w' V y.args) (he : e = .returned (.tuple #[.agg (insCells y.op y.a y.b y.c y.n V), .int .i64 next, .agg #[.int .i64 0, .int .i64 0]])) : GotDone w g e w' :=
  ⟨hb, .inr (by rw [hg]; exact ⟨rfl, V, he, ho⟩)⟩
theorem set6_heap {w : World} {g : Nat} {op a b c n op' a' b' c' n' : Int} {V V' : Value} (h : w.heap[g]? = some (.cells (insCells op a b c n V) 28 (0, 0))) :
    (set6 w g (.int .i64 op') (.int .i64 a') (.int .i64 b') (.int .i64 c') (.int .i64 n') V').heap[g]? = some (.cells (insCells op' a' b' c' n' V') 28 (0, 0)) := by
  have h0 := heap_setCell_same w g 0 _ _ (.int .i64 op') h
  have h1 := heap_setCell_same _ g 1 _ _ (.int .i64 a') h0
  have h2 := heap_setCell_same _ g 2 _ _ (.int .i64 b') h1
  have h3 := heap_setCell_same _ g 3 _ _ (.int .i64 c') h2
  have h4 := heap_setCell_same _ g 4 _ _ (.int .i64 n') h3
  have h5 := heap_setCell_same _ g 5 _ _ V' h4
  exact h5
abbrev set2 (W : World) (g : Nat) (v0 v1 : Value) : World := (W.setCell ⟨g, 0, none⟩ v0).setCell ⟨g, 1, none⟩ v1
abbrev flt (w : World) (g : Nat) (z k : Int) : Prop := w.heap[g]? = some (.cells #[.int .i64 z, .int .i64 k] 41 (0, 0))
theorem set2_heap {w : World} {g : Nat} {z k z' k' : Int} (h : flt w g z k) : flt (set2 w g (.int .i64 z') (.int .i64 k')) g z' k' := by
  have h0 := heap_setCell_same w g 0 _ _ (.int .i64 z') h
  have h1 := heap_setCell_same _ g 1 _ _ (.int .i64 k') h0
  exact h1
theorem set1_heap {w : World} {g : Nat} {z k k' : Int} (h : flt w g z k) : flt (w.setCell ⟨g, 1, none⟩ (.int .i64 k')) g z k' := heap_setCell_same w g 1 _ _ (.int .i64 k') h
theorem flt0 {w : World} {g : Nat} {z k : Int} (h : flt w g z k) : w.cell? ⟨g, 0, none⟩ = some (.int .i64 z) := by unfold flt at h; simp [World.cell?, h]
theorem flt1 {w : World} {g : Nat} {z k : Int} (h : flt w g z k) : w.cell? ⟨g, 1, none⟩ = some (.int .i64 k) := by unfold flt at h; simp [World.cell?, h]
theorem fltf {w : World} {g : Nat} {z k : Int} (h : flt w g z k) (o : Nat) : w.frozen? ⟨g, o, none⟩ = false := frozen_of_row w g o _ _ h
theorem only2 (W : World) (g : Nat) (v0 v1 : Value) : But (OneBlock g) W (set2 W g v0 v1) := ((But.refl (OneBlock g) W).setCell (p := ⟨g, 0, none⟩) (.inl rfl) v0).setCell (p := ⟨g, 1, none⟩) (.inl rfl) v1
theorem only1 (W : World) (g o : Nat) (v : Value) : But (OneBlock g) W (W.setCell ⟨g, o, none⟩ v) := (But.refl (OneBlock g) W).setCell (p := ⟨g, o, none⟩) (.inl rfl) v
section
variable {w W : World} {b : List Int} {X : Value} {p : Nat} {op a b' c n : Int} {V : Value} {z k : Int}
theorem below_one {B g : Nat} {w W W' : World} (h : Below B w W) (hb : But (OneBlock g) W W') (hg : B ≤ g) (hB : B ≤ W.heap.size) : Below B w W' := But.below h hb hB (fun k hk => by have e : k = g := hk; omega)
end
theorem getI_err {b : List Int} {k : Nat} (h : (getI b k).err ≠ 0) : (getI b k).at_ = if (getI b k).err = 4 then (b.length : Int) else (k : Int) := by
  have hG : getI b k = getI b k := rfl
  conv at hG => rhs; unfold getI
  by_cases g1 : k = b.length
  · rw [if_pos g1] at hG; rw [hG]; simp
  rw [if_neg g1] at hG
  by_cases g2 : 33 ≤ b.getD k 0
  · rw [if_pos g2] at hG; rw [hG]; simp
  rw [if_neg g2] at hG
  rcases readL_kinds b (lettersOf (shapeI (b.getD k 0))) (startV k) with h0 | h0 | h0
  · rw [h0, if_neg (by simp), if_neg (by simp)] at hG
    by_cases g5 : (insOf (b.getD k 0) (readL b (lettersOf (shapeI (b.getD k 0))) (startV k)).2).chk ≠ 0
    · rw [if_pos g5] at hG; rw [hG]; simp
    · rw [if_neg g5] at hG; rw [hG] at h; simp at h
  · rw [h0, if_neg (by simp), if_pos rfl] at hG; rw [hG]; simp
  · rw [h0, if_pos rfl] at hG; rw [hG]; simp
theorem own_one {base g : Nat} {w1 W : World} {V : Value} {xs : List Int} (h : OutN base w1 V xs) (hb : But (OneBlock g) w1 W) (hg : g < base) : OutN base W V xs := by
  refine Owns.but h hb (fun k hk e => ?_)
  have e' : k = g := e
  have := (h.lt hk).1
  omega
end Go.Proofs.YtohlifeenhaifaaGreatDoor

/- (Code07I) Rows of instructions: what they are in memory, and those that a call makes by append. Plain lemmas; no condition but what each names. -/
namespace Go.Proofs.YtohlifeenhaifaaGreatDoor
open Go.RowKit Go.Shelf
set_option linter.unusedVariables false
set_option linter.unusedSimpArgs false

/-- Append to a slice of one's own: what it holds then, and where: in the block that it had, or in a new one. -/
theorem run_append_where {P : Program} (w : World) (base : Nat) (t ty e : TypeId) (i : TypeInfo) (z : Value) (size bytes : Nat) (ht : P.underlying t = some (.slice e)) (hi : P.info? e = some i) (hz : i.zero = some z)
    (hsize : i.size = size) (hby : i.bytes = bytes) (hzs : z.cells.size = size) (hsz : 0 < size)
    (v : Value) (n : Nat) (xs : List Value) (hown : w.ownsRow base e size v n xs)
    (a : Addr) (m c : Nat) (hm0 : 0 < m) (news : List Value) (hl : news.length = m * size) (hnews : ∀ j u, news[j]? = some u → w.cell? (a.add j) = some u) (h1 : ∀ u ∈ news, u.oneCell' = true)
    (h63 : n + m ≤ maxLen) (hbytes : (n + m) * bytes ≤ 140737488355328) (hbase : base ≤ w.heap.size) :
    ∃ v' w', (Builtin.append_ #[t, t] ty #[v, .slice (some a) m c]).run P w = .ok v' w' ∧ w'.ownsRow base e size v' (n + m) (xs ++ news) ∧ w.grownBy w' v.ownBlock ∧ (v'.ownBlock = v.ownBlock ∨ v'.ownBlock = some w.heap.size) := by
  obtain ⟨v', w', hr, h2, h3, _⟩ := run_append_own (P := P) w base t ty e i z size bytes ht hi hz hsize hby hzs hsz v n xs hown a m c news hl hnews h1 h63 hbytes hbase
  refine ⟨v', w', hr, h2, h3, ?_⟩
  subst hsize
  subst hby
  have hsmall : n + m ≤ 9223372036854775807 := by simp only [maxLen] at h63; omega
  rcases hown.2 with ⟨rfl, rfl⟩ | ⟨g, cap, cur, rfl, hbg, hg, hnc, hcm, hcs, htake⟩
  · have hr' := run_append_nil (P := P) w t ty e i z ht hi hz a m c news hl hnews (by omega) (by omega) (by have hb := hbytes; simp only [Nat.zero_add] at hb; omega)
    rw [hr'] at hr
    injection hr with hv hw
    subst hv
    exact .inr (by simp [Value.ownBlock])
  · by_cases hroom : n + m ≤ cap
    · have hfit : n * i.size + news.length ≤ cur.size := by rw [hl, hcs, ← Nat.add_mul]; exact Nat.mul_le_mul_right _ hroom
      have hr' := run_append_room (P := P) w t ty e i ht hi g n cap cur hg a m c news hl hnews h1 hroom hfit
      rw [hr'] at hr
      injection hr with hv hw
      subst hv
      exact .inl (by simp [Value.ownBlock])
    · have holds : ∀ j u, xs[j]? = some u → w.cell? ((⟨g, 0, none⟩ : Addr).add j) = some u := hown.cells (g := g) rfl
      have hr' := run_append_grow (P := P) w t ty e i z ht hi hz ⟨g, 0, none⟩ n cap xs hown.1 holds a m c news hl hnews (by omega) (by omega) (growslice_fits (by omega) hbytes)
      rw [hr'] at hr
      injection hr with hv hw
      subst hv
      exact .inr (by simp [Value.ownBlock])

/-- The numbers of an instruction are the machine's. -/
structure InsB (y : InsV) : Prop where
  op : InI y.op
  a : InI y.a
  b : InI y.b
  c : InI y.c
  n : InI y.n
def insCell (y : InsV) (X : Value) : Nat → Value
  | 0 => .int .i64 y.op
  | 1 => .int .i64 y.a
  | 2 => .int .i64 y.b
  | 3 => .int .i64 y.c
  | 4 => .int .i64 y.n
  | _ => X
/-- Instructions in a row. -/
def IsCode (w : World) (B : Nat) (V : Value) (l : List InsV) : Prop :=
  l.length ≤ maxLen ∧ (∀ y ∈ l, InsB y) ∧ ((l = [] ∧ ∃ a cap, V = .slice a 0 cap) ∨
    ∃ b off cap, V = .slice (some ⟨b, off, none⟩) l.length cap ∧ l.length ≤ cap ∧ b < B ∧ ∀ i, i < l.length → ∃ X, IsNums .i64 w B X (l.getD i .zero).args ∧ ∀ j, j < 6 → w.cell? ⟨b, off + i * 6 + j, none⟩ = some (insCell (l.getD i .zero) X j))
section
variable {w w' : World} {B B' : Nat} {V : Value} {l : List InsV}
theorem IsCode.len (h : IsCode w B V l) : ∃ a cap, V = .slice a l.length cap := by
  rcases h.2.2 with ⟨rfl, a, cap, h⟩ | ⟨b, off, cap, h, _⟩
  · exact ⟨a, cap, h⟩
  · exact ⟨_, cap, h⟩
theorem IsCode.but {R : Nat → Prop} (h : IsCode w B V l) (hb : But R w w') (hB : B ≤ w.heap.size) (hr : ∀ k, k < B → ¬ R k) : IsCode w' B V l := by
  refine ⟨h.1, h.2.1, ?_⟩
  rcases h.2.2 with h0 | ⟨b, off, cap, h1, h2, h3, h4⟩
  · exact .inl h0
  · refine .inr ⟨b, off, cap, h1, h2, h3, fun i hi => ?_⟩
    obtain ⟨X, hX, hc⟩ := h4 i hi
    refine ⟨X, hX.but hb hB hr, fun j hj => ?_⟩
    rw [hb.cell (p := ⟨b, off + i * 6 + j, none⟩) (show b < _ by omega) (hr b h3)]
    exact hc j hj
theorem IsCode.below (h : IsCode w B V l) (hb : Below B' w w') (hB : B ≤ B') (hs : B ≤ w.heap.size) : IsCode w' B V l :=
  h.but (R := fun k => B ≤ k) ⟨hb.os, hb.tape, hb.output, hb.size, fun k hk hn => hb.block k (by omega)⟩ hs (fun k hk hn => by omega)
theorem IsCode.more (h : IsCode w B V l) (hB : B ≤ B') : IsCode w B' V l := by
  refine ⟨h.1, h.2.1, ?_⟩
  rcases h.2.2 with h0 | ⟨b, off, cap, h1, h2, h3, h4⟩
  · exact .inl h0
  · exact .inr ⟨b, off, cap, h1, h2, by omega, fun i hi => by
      obtain ⟨X, hX, hc⟩ := h4 i hi
      exact ⟨X, hX.more hB, hc⟩⟩
/-- Where there is an instruction, the row's address is a plain one. -/
theorem IsCode.plain (h : IsCode w B V l) (hn : 0 < l.length) : ∃ b off cap, V = .slice (some ⟨b, off, none⟩) l.length cap ∧ l.length ≤ cap ∧ b < B ∧ ∀ i, i < l.length → ∃ X, IsNums .i64 w B X (l.getD i .zero).args ∧ ∀ j, j < 6 → w.cell? ⟨b, off + i * 6 + j, none⟩ = some (insCell (l.getD i .zero) X j) := by
  rcases h.2.2 with ⟨rfl, _⟩ | h0
  · simp at hn
  · exact h0
theorem code_getD (h : IsCode w B V l) {i : Nat} (hi : i < l.length) : InsB (l.getD i .zero) := by
  have e : l.getD i .zero = l[i] := by simp [List.getD, List.getElem?_eq_getElem hi]
  rw [e]
  exact h.2.1 _ (List.getElem_mem hi)
end
theorem code_take (l : List InsV) {i : Nat} (hi : i < l.length) : l.take (i + 1) = l.take i ++ [l.getD i .zero] := by
  rw [List.take_add_one, List.getElem?_eq_getElem hi]
  simp [List.getD, List.getElem?_eq_getElem hi]

/-! ### Instructions that a call makes by append -/
def insList (y : InsV) (X : Value) : List Value := [.int .i64 y.op, .int .i64 y.a, .int .i64 y.b, .int .i64 y.c, .int .i64 y.n, X]
def cellsC : List InsV → List Value → List Value
  | y :: l, X :: Xs => insList y X ++ cellsC l Xs
  | _, _ => []
theorem cellsC_length : ∀ (l : List InsV) (Xs : List Value), Xs.length = l.length → (cellsC l Xs).length = l.length * 6
  | [], [], _ => rfl
  | y :: l, X :: Xs, h => by
    simp only [cellsC, List.length_append, cellsC_length l Xs (by simpa using h), insList, List.length_cons, List.length_nil]
    omega
theorem insList_at (y : InsV) (X : Value) {j : Nat} (hj : j < 6) : (insList y X)[j]? = some (insCell y X j) := by
  rcases (show j = 0 ∨ j = 1 ∨ j = 2 ∨ j = 3 ∨ j = 4 ∨ j = 5 by omega) with rfl | rfl | rfl | rfl | rfl | rfl <;> rfl
theorem cellsC_at : ∀ (l : List InsV) (Xs : List Value) {i j : Nat}, Xs.length = l.length → i < l.length → j < 6 → (cellsC l Xs)[i * 6 + j]? = some (insCell (l.getD i .zero) (Xs.getD i (.slice none 0 0)) j)
  | [], _, i, j, _, hi, _ => absurd hi (by simp)
  | y :: l, [], i, j, h, _, _ => absurd h (by simp)
  | y :: l, X :: Xs, 0, j, _, _, hj => by
    simp only [cellsC]
    rw [List.getElem?_append_left (by simp [insList]; omega)]
    simpa using insList_at y X hj
  | y :: l, X :: Xs, i + 1, j, h, hi, hj => by
    simp only [cellsC]
    rw [List.getElem?_append_right (by simp [insList]; omega)]
    have e : (i + 1) * 6 + j - (insList y X).length = i * 6 + j := by simp [insList]; omega
    rw [e, cellsC_at l Xs (by simpa using h) (by simpa using hi) hj]
    rfl
theorem cellsC_append : ∀ (l : List InsV) (Xs : List Value) (y : InsV) (X : Value), Xs.length = l.length → cellsC (l ++ [y]) (Xs ++ [X]) = cellsC l Xs ++ insList y X
  | [], [], y, X, _ => by simp [cellsC]
  | z :: l, Z :: Xs, y, X, h => by
    simp only [List.cons_append, cellsC, cellsC_append l Xs y X (by simpa using h), List.append_assoc]
def AnyCell (_ : Value) : Prop := True
structure OwnC (base : Nat) (W : World) (V : Value) (l : List InsV) (Xs : List Value) : Prop where
  own : Owns W base 28 6 AnyCell V l.length (cellsC l Xs)
  len : Xs.length = l.length
  inn : ∀ y ∈ l, InsB y
  nums : ∀ i, i < l.length → OutN 0 W (Xs.getD i (.slice none 0 0)) (l.getD i .zero).args
theorem OwnC.nil (base : Nat) (W : World) : OwnC base W (.slice none 0 0) [] [] := ⟨Owns.nil _ _ _ _ _, rfl, by simp, fun i hi => absurd hi (by simp)⟩
section
variable {base : Nat} {W W' : World} {V : Value} {l : List InsV} {Xs : List Value}
theorem OwnC.below {B : Nat} (h : OwnC base W V l Xs) (hb : Below B W W') (hB : W.heap.size ≤ B) : OwnC base W' V l Xs :=
  ⟨h.own.below hb hB, h.len, h.inn, fun i hi => Owns.below (h.nums i hi) hb hB⟩
theorem OwnC.but {R : Nat → Prop} (h : OwnC base W V l Xs) (hb : But R W W') (h1 : ∀ g, V.ownBlock = some g → ¬ R g) (h2 : ∀ i, i < l.length → ∀ g, (Xs.getD i (.slice none 0 0)).ownBlock = some g → ¬ R g) : OwnC base W' V l Xs :=
  ⟨h.own.but hb h1, h.len, h.inn, fun i hi => Owns.but (h.nums i hi) hb (h2 i hi)⟩
theorem OwnC.code (h : OwnC base W V l Xs) (hl : l.length ≤ 1000000) : IsCode W W.heap.size V l := by
  refine ⟨by unfold maxLen; omega, h.inn, ?_⟩
  rcases h.own.1.2 with ⟨rfl, h0⟩ | ⟨g, cap, cur, rfl, h1, h2, h3, h4, h5, h6⟩
  · exact .inl ⟨List.eq_nil_of_length_eq_zero h0, none, 0, rfl⟩
  · exact .inr ⟨g, 0, cap, rfl, h3, (h.own.lt (g := g) (by simp [Value.ownBlock])).2, fun i hi => ⟨_, IsNums.of_owns (h.nums i hi) (Nat.le_refl _), fun j hj => by
      have := h.own.1.cells (g := g) rfl (i * 6 + j) _ (cellsC_at l Xs h.len hi hj)
      rw [← this]
      congr 1
      unfold Addr.add
      split <;> simp_all⟩⟩
end
theorem ins_info : (Tryz.prog.info? 28).map (fun i => (i.zero, i.size, i.bytes)) = some (some (.agg (insCells 0 0 0 0 0 (.slice none 0 0))), 6, 64) := by kernel_rfl
theorem one_ins (w : World) (y : InsV) (X : Value) : ∀ j u, (insList y X)[j]? = some u → (w.alloc (.cells (insCells y.op y.a y.b y.c y.n X) 28)).cell? ((⟨w.heap.size, 0, none⟩ : Addr).add j) = some u := by
  intro j u hu
  have e : (⟨w.heap.size, 0, none⟩ : Addr).add j = ⟨w.heap.size, j, none⟩ := by unfold Addr.add; split <;> simp_all
  rw [e, cell_of_row _ _ _ _ _ _ (heap_alloc_new w _), ← Array.getElem?_toList]
  exact hu
theorem getD_snoc {α : Type} (l : List α) (y d : α) {i : Nat} (hi : i < l.length + 1) : (l ++ [y]).getD i d = if i < l.length then l.getD i d else y := by
  by_cases h : i < l.length
  · rw [if_pos h]; simp [List.getD, List.getElem?_append_left h]
  · obtain rfl : i = l.length := by omega
    rw [if_neg h]; simp [List.getD]
/-- An append of one instruction, at the operation. -/
theorem wpList_outC {W : World} {ops : Array Oper} {rest : List Oper} {o : Oper} {a : Act} {Q : Exit → Act → World → Prop} (hgd : o.guard = none) (s x : Operand)
    (ho : o.op = .call { callee := .builtin .append, args := #[s, x], argTypes := #[51, 51] }) {V X : Value} {l : List InsV} {Xs : List Value} {y : InsV} {base g : Nat} (hs : a.eval s = V) (hx : a.eval x = .slice (some ⟨g, 0, none⟩) 1 1) (hgs : g = W.heap.size)
    (h : OwnC base W V l Xs) (hX : OutN 0 W X y.args) (hX1 : X.oneCell' = true) (hy : InsB y) (hb : base ≤ W.heap.size) (hl : l.length ≤ 1000000)
    (hK : ∀ V' W', OwnC base W' V' (l ++ [y]) (Xs ++ [X]) → Below base W W' → (∀ i, i < W.heap.size → some i ≠ V.ownBlock → W'.heap[i]? = W.heap[i]?) → (∀ (e : TypeId) (s : Nat) (K : Value → Prop) (v : Value) (n : Nat) (xs : List Value), e ≠ 28 → Owns W base e s K v n xs → Owns W' base e s K v n xs) → wpList Tryz.prog ops Q rest (a.put o.dst V') W') :
    wpList Tryz.prog ops Q (o :: rest) a (W.alloc (.cells (insCells y.op y.a y.b y.c y.n X) 28)) := by
  subst hgs
  obtain ⟨i, hi, h1, h2, h3⟩ := info_parts ins_info
  have ha : Below W.heap.size W (W.alloc (.cells (insCells y.op y.a y.b y.c y.n X) 28)) := (Below.refl W.heap.size W).alloc (Nat.le_refl _) _
  have hg := Owns.below h.own ha (Nat.le_refl _)
  refine wpList_append_q _ hgd s x 51 ho base 28 i _ 6 64 Tryz.underlying51 hi h1 h2 h3 rfl (by decide) AnyCell (fun _ _ => trivial) V l.length (cellsC l Xs) hs hg ⟨W.heap.size, 0, none⟩ 1 1 (insList y X) hx rfl (one_ins W y X) (by intro u hu; simp [insList] at hu; rcases hu with rfl | rfl | rfl | rfl | rfl | rfl <;> first | rfl | exact hX1) (fun _ _ => trivial) (by unfold maxLen; omega) (by omega) (by simp; omega) ?_
  intro V' W' ho' hg'
  have e : World.grownBy (W.alloc (.cells (insCells y.op y.a y.b y.c y.n X) 28)) W' V.ownBlock := hg'
  have hblk : ∀ i, i < W.heap.size → some i ≠ V.ownBlock → W'.heap[i]? = W.heap[i]? := fun i hi hn => (e.block i (by simp; omega) hn).trans (ha.block i hi)
  have hsz : W.heap.size ≤ W'.heap.size := Nat.le_trans (by simp) e.size
  have hkeep : ∀ (bs : Nat) (e : TypeId) (s : Nat) (K : Value → Prop) (v : Value) (n : Nat) (xs : List Value), e ≠ 28 → Owns W bs e s K v n xs → Owns W' bs e s K v n xs := fun bs e s K v n xs he hv => by
    refine hv.of_blocks (fun g hg => hblk g (hv.lt hg).2 (fun e' => ?_)) hsz
    obtain ⟨c1, h1⟩ := hv.typed hg
    obtain ⟨c2, h2⟩ := h.own.typed e'.symm
    rw [h1] at h2
    injection h2 with h2
    injection h2 with _ h2 _
    exact he h2
  refine hK V' W' ⟨?_, by simp [h.len], fun z hz => ?_, fun i hi => ?_⟩ ((ha.mono hb).grown e (by simp; omega) fun j hj => (h.own.lt hj).1) hblk (fun e s K v n xs he hv => hkeep _ e s K v n xs he hv)
  · rw [List.length_append, cellsC_append l Xs y X h.len]; exact ho'
  · rcases List.mem_append.1 hz with hz | hz
    · exact h.inn z hz
    · simp at hz; subst hz; exact hy
  · rw [List.length_append] at hi
    simp only [List.length_cons, List.length_nil, Nat.zero_add] at hi
    rw [getD_snoc l y .zero hi, getD_snoc Xs X _ (by rw [h.len]; exact hi), h.len]
    by_cases hlt : i < l.length
    · rw [if_pos hlt, if_pos hlt]
      exact hkeep 0 _ _ _ _ _ _ (by decide) (h.nums i hlt)
    · rw [if_neg hlt, if_neg hlt]
      exact hkeep 0 _ _ _ _ _ _ (by decide) hX
/-- An append of one number, at the operation, and where it lies. -/
theorem wpList_outW {W : World} {ops : Array Oper} {rest : List Oper} {o : Oper} {a : Act} {Q : Exit → Act → World → Prop} (hgd : o.guard = none) (s x : Operand)
    (ho : o.op = .call { callee := .builtin .append, args := #[s, x], argTypes := #[26, 26] }) {V : Value} {xs : List Int} {z : Int} {base : Nat} (hs : a.eval s = V) (hx : a.eval x = .slice (some ⟨W.heap.size, 0, none⟩) 1 1) (h : OutN base W V xs)
    (hb : base ≤ W.heap.size) (hl : xs.length ≤ 1000000)
    (hK : ∀ V' W', OutN base W' V' (xs ++ [z]) → Below base W W' → (∀ i, i < W.heap.size → some i ≠ V.ownBlock → W'.heap[i]? = W.heap[i]?) → W.heap.size ≤ W'.heap.size → (V'.ownBlock = V.ownBlock ∨ V'.ownBlock = some (W.heap.size + 1)) → wpList Tryz.prog ops Q rest (a.put o.dst V') W') :
    wpList Tryz.prog ops Q (o :: rest) a (W.alloc (.cells #[.int .i64 z] 3)) := by
  obtain ⟨i, hi, h1, h2, h3⟩ := info_parts int_info
  have ha : Below W.heap.size W (W.alloc (.cells #[.int .i64 z] 3)) := (Below.refl W.heap.size W).alloc (Nat.le_refl _) (.cells #[.int .i64 z] 3)
  have hg := Owns.below h ha (Nat.le_refl _)
  refine wpList_plain hgd fun _ hK' => ?_
  obtain ⟨V', W', hr, ho', hg'⟩ := run_append_q (P := Tryz.prog) _ base 26 o.type 3 i _ 1 8 Tryz.underlying26 hi h1 h2 h3 rfl (by decide) (IsNum .i64) (zero_num .i64) V xs.length (xs.map (Value.int .i64)) hg ⟨W.heap.size, 0, none⟩ 1 1 [.int .i64 z] rfl (news_one _ _ _) (by intro u hu; simp at hu; subst hu; rfl) (by intro u hu; simp at hu; subst hu; exact ⟨_, rfl⟩) (by unfold maxLen; omega) (by omega) (by simp; omega)
  obtain ⟨V2, W2, hr2, _, _, hw2⟩ := run_append_where (P := Tryz.prog) _ base 26 o.type 3 i _ 1 8 Tryz.underlying26 hi h1 h2 h3 rfl (by decide) V xs.length (xs.map (Value.int .i64)) hg.1 ⟨W.heap.size, 0, none⟩ 1 1 (by decide) [.int .i64 z] rfl (news_one _ _ _) (by intro u hu; simp at hu; subst hu; rfl) (by unfold maxLen; omega) (by omega) (by simp; omega)
  rw [hr] at hr2
  injection hr2 with e1 e2
  subst e1 e2
  have e : World.grownBy (W.alloc (.cells #[.int .i64 z] 3)) W' V.ownBlock := hg'
  unfold Oper.wp execOp
  simp only [ho, resolve, invoke, builtin, Sem.run_bind, Sem.run_pure, Result.andThen_ok, List.map_toArray, List.map_cons, List.map_nil, hs, hx, hr]
  exact hK' _ _ (hK V' W' (by rw [OutN, List.length_append, List.map_append]; exact ho') ((ha.mono hb).grown e (by simp; omega) fun j hj => (h.lt hj).1) (fun i hi hn => (e.block i (by simp; omega) hn).trans (ha.block i hi)) (Nat.le_trans (by simp) e.size) (by simpa using hw2))
end Go.Proofs.YtohlifeenhaifaaGreatDoor

/- (Code07J) The landed code.Join: the bytes of instructions. Contract; no condition but that the instructions lie in a row. -/
namespace Go.Proofs.YtohlifeenhaifaaGreatDoor
open Go.RowKit Go.Shelf
set_option linter.unusedVariables false
set_option linter.unusedSimpArgs false

theorem first_stop : ∀ (l : List InsV) {k : Nat}, k < l.length → firstE (l.take k) = 0 → (l.getD k .zero).chk ≠ 0 → firstE l = (l.getD k .zero).chk
  | [], k, hk, _, _ => absurd hk (by simp)
  | y :: l, 0, _, _, h => by
    simp only [List.getD_cons_zero] at h ⊢
    simp only [firstE, if_neg h]
  | y :: l, k + 1, hk, h0, h => by
    simp only [List.take_succ_cons, firstE] at h0
    by_cases hy : y.chk = 0
    · rw [if_pos hy] at h0
      simp only [firstE, if_pos hy, List.getD_cons_succ] at h ⊢
      exact first_stop l (by simpa using hk) h0 h
    · rw [if_neg hy] at h0
      exact absurd h0 hy
theorem first_snoc : ∀ (l : List InsV) (y : InsV), firstE l = 0 → y.chk = 0 → firstE (l ++ [y]) = 0
  | [], y, _, h => by simp [firstE, h]
  | z :: l, y, h0, h => by
    simp only [List.cons_append, firstE] at h0 ⊢
    by_cases hz : z.chk = 0
    · rw [if_pos hz] at h0 ⊢
      exact first_snoc l y h0 h
    · rw [if_neg hz] at h0
      exact absurd h0 hz
theorem all_snoc (l : List InsV) (y : InsV) : allB (l ++ [y]) = allB l ++ y.bytes := by simp [allB]
def JoinI (w : World) (l : List InsV) (e : Ending) (w' : World) : Prop :=
  (joinE l ≠ 0 ∧ e = .returned (.tuple #[.slice none 0 0, .int .i64 (joinE l)]) ∧ Below w.heap.size w w') ∨
  (joinE l = 0 ∧ ∃ v, e = .returned (.tuple #[v, .int .i64 0]) ∧ OutB w w' v (allB l))
theorem join_good {w w' : World} {l : List InsV} {v : Value} (h : joinE l = 0) (ho : OutB w w' v (allB l)) : JoinI w l (.returned (.tuple #[v, .int .i64 0])) w' := .inr ⟨h, _, rfl, ho⟩
theorem join_bad {w w' : World} {l : List InsV} {z : Int} (h : joinE l = z) (h0 : z ≠ 0) (hb : Below w.heap.size w w') : JoinI w l (.returned (.tuple #[.slice none 0 0, .int .i64 z])) w' := .inl ⟨by rw [h]; exact h0, by rw [h], hb⟩
theorem join_stop {l : List InsV} {k : Nat} (hk : k < l.length) (h0 : firstE (l.take k) = 0) (h : (l.getD k .zero).chk ≠ 0) : joinE l = (l.getD k .zero).chk := by
  unfold joinE
  rw [first_stop l hk h0 h, if_neg h]
theorem bytes_short {y : InsV} (h : y.chk = 0) : y.bytes.length ≤ 100 := bytes_len (op := y.op) (a := y.a) (b := y.b) (c := y.c) (n := y.n) (chk_ok h).args
theorem bytes_pos (y : InsV) : 0 < y.bytes.length := by unfold InsV.bytes; rw [List.length_append, bytesV_len]; omega
/-- What has been joined: all, or more than there may be. -/
def JoinedL (l : List InsV) (xs : List Int) : Prop := xs <+: allB l ∧ (xs = allB l ∨ 4096 < xs.length) ∧ xs.length ≤ 4196
set_option maxRecDepth 100000 in
set_option maxHeartbeats 4000000 in
theorem join7_any (V : Value) (l : List InsV) (w : World) (h : IsCode w w.heap.size V l) : Calls Tryz.prog 104 #[V] w (JoinI w l) := by
  obtain ⟨A, cap, rfl⟩ := h.len
  have HC := Lib.hid h
  have hm := h.1
  unfold maxLen at hm
  obtain ⟨n, hn⟩ : ∃ n, n = l.length := ⟨_, rfl⟩
  have HN := Lib.hid hn
  rw [← hn] at hm HC ⊢
  clear h hn
  go_enter Tryz.func104, Tryz.ntmps104
  go_wp2
  go_loopw [4, 11] (fun out i wr => ∃ k : Nat, k ≤ n ∧ i = .int .i64 k ∧ Hid (firstE (l.take k) = 0 ∧ ∃ xs, JoinedL (l.take k) xs ∧ OutB w wr out xs)) (fun _ i _ => n - (intOf i).toNat)
  case atStart => exact ⟨0, by omega, rfl, ⟨rfl, [], ⟨List.prefix_refl _, .inl rfl, by simp⟩, OutB.nil (Below.refl _ _)⟩⟩
  case round =>
    obtain ⟨k, hk, rfl, HR⟩ := hrel
    obtain ⟨h0, xs, hj, ho⟩ := HR.out
    have H0 := Lib.hid h0
    have HJ := Lib.hid hj
    have HO := Lib.hid ho
    obtain ⟨oA, oc, hoe⟩ := owns_len ho.own
    subst hoe
    have hxl := hj.2.2
    clear HR h0 hj ho
    by_cases hlt : k < n
    · have hkl : k < l.length := by rw [← HN.out]; exact hlt
      obtain ⟨b, off, cap', hV, hcp, hbB, hcl⟩ := HC.out.plain (by omega)
      rw [← HN.out] at hV
      cases hV
      obtain ⟨X, hX, hcell⟩ := hcl k hkl
      have hb := HO.out.bel
      have hcl' : ∀ j, j < 6 → wr.cell? ⟨b, off + k * 6 + j, none⟩ = some (insCell (l.getD k .zero) X j) := fun j hj => (hb.cell (p := ⟨b, off + k * 6 + j, none⟩) hbB).trans (hcell j hj)
      have HTK := Lib.hid (code_take l hkl)
      have HST := Lib.hid (fun h => join_stop hkl H0.out h)
      obtain ⟨⟨op, a, b1, c, n1, args⟩, hy⟩ : ∃ y, y = l.getD k .zero := ⟨_, rfl⟩
      rw [← hy] at hX hcl' HTK HST
      have c0 : wr.cell? ⟨b, off + k * 6, none⟩ = some (.int .i64 op) := hcl' 0 (by omega)
      have c1 : wr.cell? ⟨b, off + k * 6 + 1, none⟩ = some (.int .i64 a) := hcl' 1 (by omega)
      have c2 : wr.cell? ⟨b, off + k * 6 + 2, none⟩ = some (.int .i64 b1) := hcl' 2 (by omega)
      have c3 : wr.cell? ⟨b, off + k * 6 + 3, none⟩ = some (.int .i64 c) := hcl' 3 (by omega)
      have c4 : wr.cell? ⟨b, off + k * 6 + 4, none⟩ = some (.int .i64 n1) := hcl' 4 (by omega)
      have c5 : wr.cell? ⟨b, off + k * 6 + 5, none⟩ = some X := hcl' 5 (by omega)
      have hXw := (hX.below hb (Nat.le_refl _)).more hb.size
      dsimp only at hXw
      have ha := (Below.refl wr.heap.size wr).alloc (Nat.le_refl _) (.cells (insCells op a b1 c n1 X) 28)
      have HP := Lib.hid (put7_any op a b1 c n1 X args _ ((hXw.below ha (Nat.le_refl _)).more ha.size))
      have HOA := Lib.hid (HO.out.grow ha)
      obtain ⟨XA, Xc, rfl⟩ := hX.len
      have k0 : (0 : Int) ≤ (k : Int) := by omega
      have k1 : (k : Int) < (n : Int) := by omega
      clear hcl' hcell hX hXw ha hy hcl hb hcp
      by_cases hz : InsV.chk ⟨op, a, b1, c, n1, args⟩ = 0
      · have HP2 := Lib.hid (HP.out.mono fun e w' hh => hh.resolve_left (fun h => h.1 hz))
        have HF := Lib.hid (show firstE (l.take (k + 1)) = 0 by rw [HTK.out]; exact first_snoc _ _ H0.out hz)
        have HBS := Lib.hid (bytes_short hz)
        have HBP := Lib.hid (bytes_pos ⟨op, a, b1, c, n1, args⟩)
        have HBD := Lib.hid (InsV.bytes_bd ⟨op, a, b1, c, n1, args⟩)
        have HAS := Lib.hid (all_snoc (l.take k) ⟨op, a, b1, c, n1, args⟩)
        rw [← HTK.out] at HAS
        generalize InsV.bytes ⟨op, a, b1, c, n1, args⟩ = ys at *
        clear HP HST hz
        by_cases hle : xs.length ≤ 4096
        · have hleI : (xs.length : Int) ≤ 4096 := by omega
          go_wp2_with (first
            | (go_at_call 121; (with_reducible refine HP2.out.mono ?_); rintro e w2 ⟨_, v2, rfl, ho⟩; have HO2 := Lib.hid ho; have HO3 := Lib.hid (HOA.out.grow ho.bel); clear ho)
            | (at_builtin; refine wpList_outB rfl _ _ rfl rfl rfl HO3.out HO2.out.own HBD.out HBP.out (by have := HBS.out; omega) ?_; intro V6 w6 ho hb; have HO6 := Lib.hid ho; clear ho hb))
          go_roundw
          case rel => exact ⟨k + 1, by omega, by go_num, ⟨HF.out, _, (by
            obtain ⟨h1, h2, h3⟩ := HJ.out
            have he : xs = allB (l.take k) := h2.resolve_right (by omega)
            rw [he] at HO6 ⊢
            refine ⟨by rw [HAS.out]; exact List.prefix_refl _, .inl HAS.out.symm, ?_⟩
            rw [List.length_append, ← he]
            have := HBS.out
            omega), HO6.out⟩⟩
          case measure => simp [intOf]; omega
        · have hleI : ¬ (xs.length : Int) ≤ 4096 := by omega
          go_wp2_with (go_at_call 121; (with_reducible refine HP2.out.mono ?_); rintro e w2 ⟨_, v2, rfl, ho⟩; have HO3 := Lib.hid (HOA.out.grow ho.bel); clear ho)
          go_roundw
          case rel => exact ⟨k + 1, by omega, by go_num, ⟨HF.out, xs, (by
            obtain ⟨h1, h2, h3⟩ := HJ.out
            exact ⟨by rw [HAS.out]; exact h1.trans (List.prefix_append _ _), .inr (by omega), h3⟩), HO3.out⟩⟩
          case measure => simp [intOf]; omega
      · have HZ := Lib.hid hz
        have HJE := Lib.hid (HST.out hz)
        have HP2 := Lib.hid (HP.out.mono fun e w' hh => hh.resolve_right (fun h => hz h.1))
        generalize InsV.chk ⟨op, a, b1, c, n1, args⟩ = z at HP2 HJE HZ
        have hne : (z != 0) = true := by simpa using HZ.out
        clear HP HST hz
        go_wp2_with (go_at_call 121; (with_reducible refine HP2.out.mono ?_); rintro e w2 ⟨_, rfl, hb⟩; have HB2 := Lib.hid (HOA.out.bel.trans (hb.mono HOA.out.bel.size)); clear hb)
        go_ret2
        exact join_bad HJE.out HZ.out HB2.out
    · obtain rfl : k = n := by omega
      have htk : l.take k = l := by rw [HN.out]; exact List.take_length
      have hfe := H0.out
      rw [htk] at hfe HJ
      have HFE := Lib.hid hfe
      by_cases hle : xs.length ≤ 4096
      · have hleI : ¬ (4096 : Int) < (xs.length : Int) := by omega
        have HE : Hid (xs = allB l) := Lib.hid (HJ.out.2.1.resolve_right (by omega))
        have HL := Lib.hid hle
        clear htk hfe
        go_wp2
        go_ret2
        refine join_good ?_ (by rw [← HE.out]; exact HO.out)
        unfold joinE
        rw [if_pos HFE.out, ← HE.out, if_neg (by have := HL.out; omega)]
      · have hleI : (4096 : Int) < (xs.length : Int) := by omega
        have HL : Hid (4096 < (allB l).length) := Lib.hid (by have := HJ.out.1.length_le; omega)
        clear htk hfe
        go_wp2
        go_ret2
        refine join_bad ?_ (show (3 : Int) ≠ 0 by decide) HO.out.bel
        unfold joinE
        rw [if_pos HFE.out, if_pos HL.out]
end Go.Proofs.YtohlifeenhaifaaGreatDoor

/- (Code07K) The landed code.Split: the instructions of bytes, and their places. Contract; no condition but that the bytes are few. -/
namespace Go.Proofs.YtohlifeenhaifaaGreatDoor
open Go.RowKit Go.Shelf
set_option linter.unusedVariables false
set_option linter.unusedSimpArgs false

def SplitDone (w : World) (s : SplitV) (e : Ending) (w' : World) : Prop :=
  Below w.heap.size w w' ∧ ((s.err ≠ 0 ∧ e = .returned (.tuple #[.slice none 0 0, .slice none 0 0, .agg #[.int .i64 s.err, .int .i64 s.at_]])) ∨
   (s.err = 0 ∧ ∃ V P Xs, e = .returned (.tuple #[V, P, .agg #[.int .i64 0, .int .i64 0]]) ∧ OwnC w.heap.size w' V s.l Xs ∧ OutN w.heap.size w' P s.ps))
theorem split_bad {w w' : World} {s : SplitV} {z k : Int} {e : Ending} (hs : s.err = z ∧ s.at_ = k) (h0 : z ≠ 0) (hb : Below w.heap.size w w') (he : e = .returned (.tuple #[.slice none 0 0, .slice none 0 0, .agg #[.int .i64 z, .int .i64 k]])) : SplitDone w s e w' :=
  ⟨hb, .inl ⟨by rw [hs.1]; exact h0, by rw [hs.1, hs.2]; exact he⟩⟩
theorem split_good {w w' : World} {s : SplitV} {l : List InsV} {ps : List Int} {V P : Value} {Xs : List Value} {e : Ending} (hs : s = ⟨0, 0, l, ps⟩) (hb : Below w.heap.size w w') (ho : OwnC w.heap.size w' V l Xs) (hp : OutN w.heap.size w' P ps) (he : e = .returned (.tuple #[V, P, .agg #[.int .i64 0, .int .i64 0]])) : SplitDone w s e w' :=
  ⟨hb, .inr (by rw [hs]; exact ⟨rfl, V, P, Xs, he, ho, hp⟩)⟩
theorem OwnC.base {base base' : Nat} {W : World} {V : Value} {l : List InsV} {Xs : List Value} (h : OwnC base W V l Xs) (hb : base' ≤ base) : OwnC base' W V l Xs := ⟨Owns.base h.own hb, h.len, h.inn, h.nums⟩
/-- What Split has made so far. -/
structure SplAt (w W : World) (V P : Value) (l : List InsV) (ps : List Int) (Xs : List Value) : Prop where
  own : OwnC (w.heap.size + 1) W V l Xs
  pls : OutN (w.heap.size + 1) W P ps
  bel : Below w.heap.size w W
  fau : flt W w.heap.size 0 0
  apart : ∀ i, i < l.length → ∀ g, (Xs.getD i (.slice none 0 0)).ownBlock = some g → some g ≠ P.ownBlock
  size : w.heap.size + 1 ≤ W.heap.size
theorem SplAt.call {w W W' : World} {V P : Value} {l : List InsV} {ps : List Int} {Xs : List Value} (h : SplAt w W V P l ps Xs) (hb : Below W.heap.size W W') : SplAt w W' V P l ps Xs :=
  ⟨h.own.below hb (Nat.le_refl _), Owns.below h.pls hb (Nat.le_refl _), h.bel.trans (hb.mono h.bel.size), (hb.block _ (heap_lt h.fau)).trans h.fau, h.apart, Nat.le_trans h.size hb.size⟩
theorem SplAt.app {w W W1 W2 : World} {V P V1 P2 X : Value} {l : List InsV} {ps : List Int} {Xs : List Value} {y : InsV} {k : Int} {B : Nat} (h : SplAt w W V P l ps Xs)
    (hX : OutN B W X y.args) (hPB : ∀ g, P.ownBlock = some g → g < B)
    (h1 : OwnC (w.heap.size + 1) W1 V1 (l ++ [y]) (Xs ++ [X])) (hb1 : Below (w.heap.size + 1) W W1)
    (hs1 : W.heap.size ≤ W1.heap.size) (h2 : OutN (w.heap.size + 1) W2 P2 (ps ++ [k])) (hb2 : Below (w.heap.size + 1) W1 W2) (hk2 : ∀ i, i < W1.heap.size → some i ≠ P.ownBlock → W2.heap[i]? = W1.heap[i]?) (hs2 : W1.heap.size ≤ W2.heap.size)
    (hp1 : OutN (w.heap.size + 1) W1 P ps) (hw : P2.ownBlock = P.ownBlock ∨ P2.ownBlock = some (W1.heap.size + 1)) : SplAt w W2 V1 P2 (l ++ [y]) (ps ++ [k]) (Xs ++ [X]) := by
  have hap : ∀ i, i < (l ++ [y]).length → ∀ g, ((Xs ++ [X]).getD i (.slice none 0 0)).ownBlock = some g → some g ≠ P.ownBlock := by
    intro i hi g hg
    rw [List.length_append] at hi
    simp only [List.length_cons, List.length_nil, Nat.zero_add] at hi
    rw [getD_snoc Xs X _ (by rw [h.own.len]; exact hi), h.own.len] at hg
    by_cases hlt : i < l.length
    · rw [if_pos hlt] at hg
      exact h.apart i hlt g hg
    · rw [if_neg hlt] at hg
      intro e
      have := (hX.lt hg).1
      have := hPB g e.symm
      omega
  have hlt1 : ∀ i, i < (l ++ [y]).length → ∀ g, ((Xs ++ [X]).getD i (.slice none 0 0)).ownBlock = some g → g < W1.heap.size := fun i hi g hg => ((h1.nums i hi).lt hg).2
  have hbut : But (fun k => some k = P.ownBlock) W1 W2 := ⟨hb2.os, hb2.tape, hb2.output, hb2.size, fun i hi hn => hk2 i hi hn⟩
  refine ⟨h1.but hbut (fun g hg e => ?_) (fun i hi g hg e => hap i hi g hg e), h2, ?_, ?_, fun i hi g hg => ?_, ?_⟩
  · obtain ⟨c1, e1⟩ := h1.own.typed hg
    obtain ⟨c2, e2⟩ := hp1.typed e.symm
    rw [e1] at e2
    injection e2 with e2
    injection e2 with _ e2 _
    exact absurd e2 (by decide)
  · exact h.bel.trans ((hb1.trans hb2).mono (Nat.le_succ _))
  · have h3 := h.fau
    unfold flt at h3 ⊢
    rw [(hb1.trans hb2).block _ (Nat.lt_succ_self _)]
    exact h3
  · rcases hw with hw | hw
    · rw [hw]; exact hap i hi g hg
    · rw [hw]
      intro e
      have := hlt1 i hi g hg
      injection e with e
      omega
  · have := h.size
    omega
theorem got_insB {b : List Int} (hb : ∀ x ∈ b, 0 ≤ x ∧ x < 256) {k : Nat} (hk : k ≤ b.length) (h : (getI b k).err = 0) : InsB (getI b k).y := by
  have hc := (put_get hb hk h).2.1
  have ho := chk_ok hc
  generalize (getI b k).y = y at *
  have h1 := hc
  unfold InsV.chk checkV at h1
  have h2 := ho.op
  have hbare := ho.bare
  unfold bareV at hbare
  rw [Bool.and_eq_true, Bool.and_eq_true] at hbare
  obtain ⟨b1, b2, b3⟩ := hbare
  have fitI : ∀ q x, FitQ q x → q ∈ y.letters → InI x := by
    intro q x hf hq
    unfold FitQ at hf
    unfold InI
    split at hf
    · omega
    · rename_i h5
      have hw : (256 : Int) ^ widthV q ≤ 65536 := by
        unfold widthV
        rw [if_neg h5]
        (repeat' split) <;> decide
      omega
  have hreg : ∀ (L rs : List Int) (n : Int) (args : List Int) i, i < regN L → i < rs.length → ∃ q, q ∈ L ∧ (q, rs.getD i 0) ∈ itemsL n args L rs := by
    intro L
    induction L with
    | nil => intro rs n args i hi _; simp [regN] at hi
    | cons q L ih =>
      intro rs n args i hi hr
      simp only [regN] at hi
      by_cases hq : isReg q = true
      · match rs, i with
        | [], i => simp at hr
        | r :: rs, 0 => exact ⟨q, by simp, by simp [itemsL, heldOf, hq]⟩
        | r :: rs, i + 1 =>
          simp only [hq, if_true] at hi
          obtain ⟨q', h1, h2⟩ := ih rs n args i (by omega) (by simpa using hr)
          refine ⟨q', by simp [h1], ?_⟩
          simp only [itemsL, restOf, hq, if_true, List.tail_cons, List.mem_append]
          exact .inr (by simpa using h2)
      · simp only [hq] at hi
        obtain ⟨q', h1, h2⟩ := ih rs n args i (by simpa using hi) hr
        refine ⟨q', by simp [h1], ?_⟩
        simp only [itemsL, restOf, hq, List.mem_append]
        exact .inr (by simpa using h2)
  have hnum : ∀ (L rs : List Int) (n : Int) (args : List Int), hasN L = true → ∃ q, q ∈ L ∧ (q, n) ∈ itemsL n args L rs := by
    intro L
    induction L with
    | nil => intro rs n args h; simp [hasN] at h
    | cons q L ih =>
      intro rs n args h
      have e : hasN (q :: L) = (isNumQ q || hasN L) := by simp [hasN, isNumQ]
      rw [e] at h
      by_cases hq : isNumQ q = true
      · have hq' := hq
        simp only [isNumQ, Bool.and_eq_true, Bool.not_eq_true'] at hq'
        refine ⟨q, by simp, ?_⟩
        have h8 : q ≠ 108 := by simpa using hq'.2
        simp [itemsL, heldOf, hq'.1, h8]
      · obtain ⟨q', h1, h2⟩ := ih (restOf q rs) n args (by simpa [hq] using h)
        exact ⟨q', by simp [h1], by simp only [itemsL, List.mem_append]; exact .inr h2⟩
  have i0 : InI (0 : Int) := by unfold InI; omega
  have hr3 : regN y.letters ≤ 3 := okShape_reg (shapes_ok y.op)
  have regI : ∀ i, i < 3 → InI ([y.a, y.b, y.c].getD i 0) := by
    intro i hi
    by_cases hlt : i < regN y.letters
    · obtain ⟨q, hq, hm⟩ := hreg y.letters [y.a, y.b, y.c] y.n y.args i hlt (by simpa using hi)
      exact fitI _ _ (ho.fit _ hm) hq
    · have hz : [y.a, y.b, y.c].getD i 0 = 0 := by
        have hm : [y.a, y.b, y.c].getD i 0 ∈ [y.a, y.b, y.c].drop (regN y.letters) := by
          have e : [y.a, y.b, y.c].getD i 0 = ([y.a, y.b, y.c].drop (regN y.letters)).getD (i - regN y.letters) 0 := by
            simp only [List.getD, List.getElem?_drop]
            congr 2
            omega
          rw [e]
          exact getD_mem (by simp; omega)
        have := List.all_eq_true.1 b1 _ hm
        simpa using this
      rw [hz]; exact i0
  refine ⟨by unfold InI; omega, regI 0 (by omega), regI 1 (by omega), regI 2 (by omega), ?_⟩
  cases hn : hasN y.letters
  · simp [hn] at b2
    rw [b2]; exact i0
  · obtain ⟨q, hq, hm⟩ := hnum y.letters [y.a, y.b, y.c] y.n y.args hn
    exact fitI _ _ (ho.fit _ hm) hq
theorem getI_gotV {b : List Int} {k : Nat} (h : k ≤ b.length) : gotV b k = getI b k := by
  unfold gotV
  rw [if_neg (by omega)]
  rfl
theorem split_step {b : List Int} {f k : Nat} {l : List InsV} {ps : List Int} (hk : k < b.length) (h : (getI b k).err = 0) : splitF b (f + 1) k l ps = splitF b f (getI b k).next (l ++ [(getI b k).y]) (ps ++ [(k : Int)]) := by
  simp only [splitF, if_pos hk, if_pos h]
theorem split_stop {b : List Int} {f k : Nat} {l : List InsV} {ps : List Int} (hk : k < b.length) (h : (getI b k).err ≠ 0) : splitF b (f + 1) k l ps = ⟨(getI b k).err, (getI b k).at_, [], []⟩ := by
  simp only [splitF, if_pos hk, if_neg h]
theorem split_end {b : List Int} {f : Nat} {l : List InsV} {ps : List Int} : splitF b f b.length l ps = ⟨0, 0, l, ps⟩ := by
  cases f <;> simp [splitF]
end Go.Proofs.YtohlifeenhaifaaGreatDoor

/- (Laws07A) What the statements of layer 7 ask again and again: is, fails, awake; and the chapter's examples. Contracts; no condition. -/
namespace Go.Proofs.YtohlifeenhaifaaGreatDoor
open Go.RowKit Go.Shelf
set_option linter.unusedVariables false
set_option linter.unusedSimpArgs false

theorem makes_of {f : FuncId} {args : Array Value} {w : World} {v : Value} (h : Calls Tryz.prog f args w (Makes w v)) : Calls Tryz.prog f args w fun e w' => e = .returned v ∧ Below w.heap.size w w' := h
theorem eqF_yes (z k : Int) (w : World) : (binOp .eql 41 (.agg #[.int .i64 z, .int .i64 k]) (.agg #[.int .i64 z, .int .i64 k])).run Tryz.prog w = .ok (.bool true) w := by go_simp
theorem bytes_new (w : World) (xs : List Int) (hx : ∀ x ∈ xs, 0 ≤ x ∧ x < 256) (cs : Array Value) (hcs : cs = (xs.map (Value.int .u8)).toArray) (hl : xs.length ≤ 1000) : IsBytes (w.alloc (.cells cs 5)) (w.heap.size + 1) (.slice (some ⟨w.heap.size, 0, none⟩) xs.length xs.length) xs := by
  subst hcs
  refine ⟨hx, by unfold maxLen; omega, .inr ⟨⟨w.heap.size, 0, none⟩, xs.length, rfl, Nat.le_refl _, fun _ => Nat.lt_succ_self _, fun i hi => ?_⟩⟩
  have e : (⟨w.heap.size, 0, none⟩ : Addr).add i = ⟨w.heap.size, i, none⟩ := by unfold Addr.add; split <;> simp_all
  rw [e, cell_of_row _ _ _ _ _ _ (heap_alloc_new w _)]
  simp [List.getElem?_eq_getElem hi, List.getD]
theorem nums_new (w : World) (xs : List Int) (cs : Array Value) (hcs : cs = (xs.map (Value.int .i64)).toArray) (hl : xs.length ≤ 1000) : IsNums .i64 (w.alloc (.cells cs 3)) (w.heap.size + 1) (.slice (some ⟨w.heap.size, 0, none⟩) xs.length xs.length) xs := by
  subst hcs
  refine IsNums.of_row (t := 3) (heap_alloc_new w _) (Nat.lt_succ_self _) (by unfold maxLen; omega) (Nat.le_refl _)
theorem got_add : gotV [0, 3, 0, 1, 2] 1 = ⟨0, 0, ⟨3, 0, 1, 2, 0, []⟩, 5⟩ := by kernel_rfl
theorem chk_add : InsV.chk ⟨3, 0, 1, 2, 0, []⟩ = 0 := by kernel_rfl
theorem bytes_add : InsV.bytes ⟨3, 0, 1, 2, 0, []⟩ = [3, 0, 1, 2] := by kernel_rfl
theorem chk_nop : InsV.chk ⟨0, 0, 0, 0, 0, []⟩ = 0 := by kernel_rfl
theorem bytes_nop : InsV.bytes ⟨0, 0, 0, 0, 0, []⟩ = [0] := by kernel_rfl
/-- Two boxes and a fault, made one behind the other. -/
structure Box3 (w1 W : World) (op a b c n : Int) (X : Value) (z k : Int) (op' a' b' c' n' : Int) (X' : Value) : Prop where
  ins : W.heap[w1.heap.size]? = some (.cells (insCells op a b c n X) 28 (0, 0))
  fau : flt W (w1.heap.size + 1) z k
  add : W.heap[w1.heap.size + 1 + 1]? = some (.cells (insCells op' a' b' c' n' X') 28 (0, 0))
theorem Box3.grow {w1 W W' : World} {op a b c n : Int} {X : Value} {z k : Int} {op' a' b' c' n' : Int} {X' : Value} (h : Box3 w1 W op a b c n X z k op' a' b' c' n' X') (hb : Below W.heap.size W W') : Box3 w1 W' op a b c n X z k op' a' b' c' n' X' :=
  ⟨(hb.block _ (heap_lt h.ins)).trans h.ins, (hb.block _ (heap_lt h.fau)).trans h.fau, (hb.block _ (heap_lt h.add)).trans h.add⟩
theorem box3_new (w1 : World) (op a b c n : Int) (X : Value) (z k : Int) (op' a' b' c' n' : Int) (X' : Value) :
    Box3 w1 (((w1.alloc (.cells (insCells op a b c n X) 28)).alloc (.cells #[.int .i64 z, .int .i64 k] 41)).alloc (.cells (insCells op' a' b' c' n' X') 28)) op a b c n X z k op' a' b' c' n' X' := by
  refine ⟨?_, ?_, ?_⟩
  · rw [Below.heap_alloc _ _ _ (by simp; omega), Below.heap_alloc _ _ _ (by simp)]
    exact heap_alloc_new _ _
  · show _ = _
    rw [Below.heap_alloc _ _ _ (by simp)]
    have := heap_alloc_new (w1.alloc (.cells (insCells op a b c n X) 28)) (.cells #[.int .i64 z, .int .i64 k] 41)
    rwa [World.size_alloc] at this
  · have := heap_alloc_new ((w1.alloc (.cells (insCells op a b c n X) 28)).alloc (.cells #[.int .i64 z, .int .i64 k] 41)) (.cells (insCells op' a' b' c' n' X') 28)
    simpa using this
end Go.Proofs.YtohlifeenhaifaaGreatDoor

/- (Laws07B) The chapter's examples of layer 7 are answered as it says (CodeKnown). Contract; no condition. -/
namespace Go.Proofs.YtohlifeenhaifaaGreatDoor
open Go.RowKit Go.Shelf
set_option linter.unusedVariables false
set_option linter.unusedSimpArgs false

theorem chk_k1 : InsV.chk ⟨1, 1, 0, 0, -2, []⟩ = 0 := by kernel_rfl
theorem bytes_k1 : InsV.bytes ⟨1, 1, 0, 0, -2, []⟩ = [1, 1, 254, 255, 255, 255, 255, 255, 255, 255] := by kernel_rfl
theorem chk_k2 : InsV.chk ⟨28, 3, 0, 0, 5, [1, 2]⟩ = 0 := by kernel_rfl
theorem bytes_k2 : InsV.bytes ⟨28, 3, 0, 0, 5, [1, 2]⟩ = [28, 3, 5, 2, 1, 2] := by kernel_rfl
theorem chk_k3 : InsV.chk ⟨2, 64, 0, 0, 0, []⟩ = 5 := by kernel_rfl
theorem got_k1 : (gotV [3, 0, 1] 0).err = 4 ∧ (gotV [3, 0, 1] 0).at_ = 3 := ⟨by kernel_rfl, by kernel_rfl⟩
theorem got_k2 : (gotV [33] 0).err = 16 ∧ (gotV [33] 0).at_ = 0 := ⟨by kernel_rfl, by kernel_rfl⟩
theorem got_k3 : (gotV [] 0).err = 4 ∧ (gotV [] 0).at_ = 0 := ⟨by kernel_rfl, by kernel_rfl⟩
theorem got_k4 : (gotV [28, 3, 5, 9] 0).err = 3 ∧ (gotV [28, 3, 5, 9] 0).at_ = 0 := ⟨by kernel_rfl, by kernel_rfl⟩
theorem got_k5 : (gotV [2, 64, 0] 0).err = 5 ∧ (gotV [2, 64, 0] 0).at_ = 0 := ⟨by kernel_rfl, by kernel_rfl⟩
theorem got_k6 : (gotV [] 1).err = 2 ∧ (gotV [] 1).at_ = 0 := ⟨by kernel_rfl, by kernel_rfl⟩
theorem split_k : splitV [0, 0, 29, 1] = ⟨0, 0, [⟨0, 0, 0, 0, 0, []⟩, ⟨0, 0, 0, 0, 0, []⟩, ⟨29, 1, 0, 0, 0, []⟩], [0, 1, 2]⟩ := by kernel_rfl
theorem nil_bytes (w : World) (B : Nat) : IsBytes w B (.slice none 0 0) [] := ⟨by simp, by simp, .inl ⟨rfl, rfl⟩⟩
/-- What is got of the four bytes: three instructions, of which the last is kept at hand. -/
def Split4 (W : World) (e : Ending) (w' : World) : Prop :=
  ∃ b off cap X P c, e = .returned (.tuple #[.slice (some ⟨b, off, none⟩) 3 cap, .slice P 3 c, .agg #[.int .i64 0, .int .i64 0]]) ∧ 3 ≤ cap ∧ Below W.heap.size W w' ∧ b < w'.heap.size ∧ IsNums .i64 w' w'.heap.size (.slice P 3 c) [0, 1, 2] ∧ IsNums .i64 w' w'.heap.size X [] ∧
    w'.cell? ⟨b, off + 12, none⟩ = some (.int .i64 29) ∧ w'.cell? ⟨b, off + 13, none⟩ = some (.int .i64 1) ∧ w'.cell? ⟨b, off + 14, none⟩ = some (.int .i64 0) ∧ w'.cell? ⟨b, off + 15, none⟩ = some (.int .i64 0) ∧ w'.cell? ⟨b, off + 16, none⟩ = some (.int .i64 0) ∧ w'.cell? ⟨b, off + 17, none⟩ = some X
theorem same_three (W : World) (g : Nat) (P : Option Addr) (pc : Nat) (hg : g = W.heap.size) (hp : IsNums .i64 W W.heap.size (.slice P 3 pc) [0, 1, 2]) :
    Calls Tryz.prog 36 #[.slice P 3 pc, .slice (some ⟨g, 0, none⟩) 3 3] (W.alloc (.cells #[.int .i64 0, .int .i64 1, .int .i64 2] 3)) fun e w' => e = .returned (.bool true) ∧ Below W.heap.size W w' := by
  subst hg
  have ha : Below W.heap.size W (W.alloc (.cells #[.int .i64 0, .int .i64 1, .int .i64 2] 3)) := (Below.refl _ W).alloc (Nat.le_refl _) _
  refine (sameInts_any _ _ [0, 1, 2] [0, 1, 2] _ _ _ (hp.below ha (Nat.le_refl _)) (nums_new W [0, 1, 2] _ rfl (by decide))).mono ?_
  rintro e w' ⟨rfl, k, rfl⟩
  exact ⟨rfl, below_drewN ha k⟩
theorem cell_grow {B : Nat} {W W' : World} {b o : Nat} {v : Value} (h : W.cell? ⟨b, o, none⟩ = some v) (hb : Below B W W') (hB : b < B) : W'.cell? ⟨b, o, none⟩ = some v := (hb.cell (p := ⟨b, o, none⟩) hB).trans h
end Go.Proofs.YtohlifeenhaifaaGreatDoor
