/- Lemmas of Flow10G, Laws10A, Laws10B, each with its own remark. -/
import Derived.Test.YtfdblmjgpoocpaaGreatS18
/- (Flow10G) The landed blocks and Blocks. Contracts; no condition but what each names. -/
namespace Go.Proofs.YtfdblmjgpoocpaaGreat
open Go.RowKit
set_option linter.unusedVariables false
set_option linter.unusedSimpArgs false

theorem addr_zero (b k : Nat) : (⟨b, 0, none⟩ : Addr).add k = ⟨b, k, none⟩ := by unfold Addr.add; split <;> simp_all
/-- An append of one number to numbers of which nothing more is known. -/
theorem wpList_outA {W : World} {ops : Array Oper} {rest : List Oper} {o : Oper} {a : Act} {Q : Exit → Act → World → Prop} (hgd : o.guard = none) (s x : Operand)
    (ho : o.op = .call { callee := .builtin .append, args := #[s, x], argTypes := #[35, 35] }) {V : Value} {xs : List Int} {z : Int} {base : Nat} (hs : a.eval s = V) (hx : a.eval x = .slice (some ⟨W.heap.size, 0, none⟩) 1 1) (h : W.ownsRow base 3 1 V xs.length (xs.map (Value.int .i64)))
    (hb : base ≤ W.heap.size) (hl : xs.length ≤ 1000000)
    (hK : ∀ V' W', Owns W' base 3 1 AnyCell V' (xs ++ [z]).length ((xs ++ [z]).map (Value.int .i64)) → Below base W W' → wpList Tryz.prog ops Q rest (a.put o.dst V') W') :
    wpList Tryz.prog ops Q (o :: rest) a (W.alloc (.cells #[.int .i64 z] 3)) := by
  obtain ⟨i, hi, h1, h2, h3⟩ := info_parts int_info
  have ha : Below W.heap.size W (W.alloc (.cells #[.int .i64 z] 3)) := (Below.refl W.heap.size W).alloc (Nat.le_refl _) (.cells #[.int .i64 z] 3)
  have h0 : Owns W base 3 1 AnyCell V xs.length (xs.map (Value.int .i64)) := ⟨h, fun _ _ _ _ _ _ _ _ => trivial⟩
  have hg := Owns.below h0 ha (Nat.le_refl _)
  refine wpList_append_q _ hgd s x 35 ho base 3 i _ 1 8 Tryz.underlying35 hi h1 h2 h3 rfl (by decide) AnyCell (fun _ _ => trivial) V xs.length (xs.map (Value.int .i64)) hs hg ⟨W.heap.size, 0, none⟩ 1 1 [.int .i64 z] hx rfl (news_one _ _ _) (by intro u hu; simp at hu; subst hu; rfl) (fun _ _ => trivial) (by unfold maxLen; omega) (by omega) (by simp; omega) ?_
  intro V' W' ho' hg'
  have e : World.grownBy (W.alloc (.cells #[.int .i64 z] 3)) W' V.ownBlock := hg'
  exact hK V' W' (by rw [List.length_append, List.map_append]; exact ho') ((ha.mono hb).grown e (by simp; omega) fun j hj => (h0.lt hj).1)
end Go.Proofs.YtfdblmjgpoocpaaGreat

/- (Laws10A) What the statements of layer 10 share: lists, bools and blocks that are the same; is a number among some; are instructions too many; the chapter's code. Contracts; no condition but what each names. -/
namespace Go.Proofs.YtfdblmjgpoocpaaGreat
open Go.RowKit
set_option linter.unusedVariables false
set_option linter.unusedSimpArgs false

/-- Lists of numbers to be read. -/
def IsLs (w : World) (B : Nat) (V : Value) (n : Nat) (ll : Nat → List Int) : Prop :=
  n ≤ maxLen ∧ ((n = 0 ∧ ∃ a cap, V = .slice a 0 cap) ∨
    ∃ b off cap, V = .slice (some ⟨b, off, none⟩) n cap ∧ n ≤ cap ∧ b < B ∧ ∀ i, i < n → ∃ X, IsNums .i64 w B X (ll i) ∧ w.cell? ⟨b, off + i, none⟩ = some X)
theorem IsLs.len {w : World} {B n : Nat} {V : Value} {ll : Nat → List Int} (h : IsLs w B V n ll) : ∃ a cap, V = .slice a n cap := by
  rcases h.2 with ⟨rfl, a, cap, h⟩ | ⟨b, off, cap, h, _⟩
  · exact ⟨a, cap, h⟩
  · exact ⟨_, cap, h⟩
theorem IsLs.plain {w : World} {B n : Nat} {V : Value} {ll : Nat → List Int} (h : IsLs w B V n ll) (hn : 0 < n) :
    ∃ b off cap, V = .slice (some ⟨b, off, none⟩) n cap ∧ n ≤ cap ∧ b < B ∧ ∀ i, i < n → ∃ X, IsNums .i64 w B X (ll i) ∧ w.cell? ⟨b, off + i, none⟩ = some X := by
  rcases h.2 with ⟨rfl, _⟩ | h
  · omega
  · exact h
theorem IsLs.below {w w' : World} {B B' n : Nat} {V : Value} {ll : Nat → List Int} (h : IsLs w B V n ll) (hb : Below B' w w') (hB : B ≤ B') : IsLs w' B V n ll := by
  refine ⟨h.1, ?_⟩
  rcases h.2 with h0 | ⟨b, off, cap, h1, h2, h3, h4⟩
  · exact .inl h0
  · refine .inr ⟨b, off, cap, h1, h2, h3, fun i hi => ?_⟩
    obtain ⟨X, hX, hc⟩ := h4 i hi
    exact ⟨X, hX.below hb hB, (hb.cell (p := ⟨b, off + i, none⟩) (Nat.lt_of_lt_of_le h3 hB)).trans hc⟩
theorem IsLs.more {w : World} {B B' n : Nat} {V : Value} {ll : Nat → List Int} (h : IsLs w B V n ll) (hB : B ≤ B') : IsLs w B' V n ll := by
  refine ⟨h.1, ?_⟩
  rcases h.2 with h0 | ⟨b, off, cap, h1, h2, h3, h4⟩
  · exact .inl h0
  · refine .inr ⟨b, off, cap, h1, h2, Nat.lt_of_lt_of_le h3 hB, fun i hi => ?_⟩
    obtain ⟨X, hX, hc⟩ := h4 i hi
    exact ⟨X, hX.more hB, hc⟩
theorem Lists.ls {base : Nat} {w : World} {g n : Nat} {Xs : Nat → Value} {ll : Nat → List Int} (h : Lists base w g n Xs ll) (hn : n ≤ maxLen) : IsLs w w.heap.size (.slice (some ⟨g, 0, none⟩) n n) n ll :=
  ⟨hn, .inr ⟨g, 0, n, rfl, Nat.le_refl _, h.row.lt, fun i hi => ⟨_, IsNums.of_owns (h.own i hi) (Nat.le_refl _), by rw [Nat.zero_add]; exact h.row.cell hi⟩⟩⟩
theorem quiet_of10 {P : Program} {f : FuncId} {args : Array Value} {w : World} {q n : Nat} {v : Value} (h : Calls P f args (w.drewN (q + n)) (Drawn2 (w.drewN (q + n)) v)) :
    Calls P f args (w.drewN (q + n)) fun e w'' => e = .returned v ∧ ∃ m, w'' = w.drewN (q + m) := h.mono fun _ _ ⟨he, k, hm⟩ => ⟨he, n + k, by rw [hm]; simp [World.drewN, Nat.add_assoc]⟩
theorem same_refl (xs : List Int) : sameL xs xs = true := decide_eq_true rfl
/-- Bools to be read. -/
def IsBools (w : World) (B : Nat) (V : Value) (n : Nat) (r : Nat → Bool) : Prop :=
  n ≤ maxLen ∧ ((n = 0 ∧ ∃ a cap, V = .slice a 0 cap) ∨
    ∃ b off cap, V = .slice (some ⟨b, off, none⟩) n cap ∧ n ≤ cap ∧ b < B ∧ ∀ i, i < n → w.cell? ⟨b, off + i, none⟩ = some (.bool (r i)))
theorem IsBools.len {w : World} {B n : Nat} {V : Value} {r : Nat → Bool} (h : IsBools w B V n r) : ∃ a cap, V = .slice a n cap := by
  rcases h.2 with ⟨rfl, a, cap, h⟩ | ⟨b, off, cap, h, _⟩
  · exact ⟨a, cap, h⟩
  · exact ⟨_, cap, h⟩
theorem IsBools.plain {w : World} {B n : Nat} {V : Value} {r : Nat → Bool} (h : IsBools w B V n r) (hn : 0 < n) :
    ∃ b off cap, V = .slice (some ⟨b, off, none⟩) n cap ∧ n ≤ cap ∧ b < B ∧ ∀ i, i < n → w.cell? ⟨b, off + i, none⟩ = some (.bool (r i)) := by
  rcases h.2 with ⟨rfl, _⟩ | h
  · omega
  · exact h
theorem IsBools.below {w w' : World} {B B' n : Nat} {V : Value} {r : Nat → Bool} (h : IsBools w B V n r) (hb : Below B' w w') (hB : B ≤ B') : IsBools w' B V n r := by
  refine ⟨h.1, ?_⟩
  rcases h.2 with h0 | ⟨b, off, cap, h1, h2, h3, h4⟩
  · exact .inl h0
  · exact .inr ⟨b, off, cap, h1, h2, h3, fun i hi => (hb.cell (p := ⟨b, off + i, none⟩) (Nat.lt_of_lt_of_le h3 hB)).trans (h4 i hi)⟩
theorem IsBools.more {w : World} {B B' n : Nat} {V : Value} {r : Nat → Bool} (h : IsBools w B V n r) (hB : B ≤ B') : IsBools w B' V n r := by
  refine ⟨h.1, ?_⟩
  rcases h.2 with h0 | ⟨b, off, cap, h1, h2, h3, h4⟩
  · exact .inl h0
  · exact .inr ⟨b, off, cap, h1, h2, Nat.lt_of_lt_of_le h3 hB, h4⟩
theorem RowAt.bools {w : World} {g n : Nat} {r : Nat → Bool} (h : RowAt w g n 4 (boolsV r)) (hn : n ≤ maxLen) : IsBools w w.heap.size (.slice (some ⟨g, 0, none⟩) n n) n r :=
  ⟨hn, .inr ⟨g, 0, n, rfl, Nat.le_refl _, h.lt, fun i hi => by rw [Nat.zero_add]; exact h.cell hi⟩⟩
end Go.Proofs.YtfdblmjgpoocpaaGreat

/- (Laws10B) More of what the statements of layer 10 share: blocks that are the same, is a number among some, are instructions too many, the chapter's code. Contracts; no condition but what each names. -/
namespace Go.Proofs.YtfdblmjgpoocpaaGreat
open Go.RowKit
set_option linter.unusedVariables false
set_option linter.unusedSimpArgs false

def sixV : List InsV := [⟨1, 0, 0, 0, 0, []⟩, ⟨26, 0, 0, 0, 14, []⟩, ⟨0, 0, 0, 0, 0, []⟩, ⟨25, 0, 0, 0, 0, []⟩, ⟨29, 0, 0, 0, 0, []⟩, ⟨29, 0, 0, 0, 0, []⟩]
def sixCells : Array Value := (cellsC sixV (List.replicate 6 (.slice none 0 0))).toArray
/-- Code in a block that is made now, all of no arguments. -/
theorem code_new (w : World) (l : List InsV) (cs : Array Value) (hcs : cs.toList = cellsC l (List.replicate l.length (.slice none 0 0))) (hl : l.length ≤ 1000) (hi : ∀ y ∈ l, InsB y) (ha : ∀ y ∈ l, y.args = []) (h0 : 0 < l.length) :
    IsCode (w.alloc (.cells cs 37)) (w.heap.size + 1) (.slice (some ⟨w.heap.size, 0, none⟩) l.length l.length) l := by
  refine ⟨by unfold maxLen; omega, hi, .inr ⟨w.heap.size, 0, l.length, rfl, Nat.le_refl _, Nat.lt_succ_self _, fun i hi => ⟨.slice none 0 0, ?_, fun j hj => ?_⟩⟩⟩
  · have : (l.getD i .zero).args = [] := ha _ (by simp [List.getD, List.getElem?_eq_getElem hi])
    rw [this]
    exact ⟨by simp, .inl ⟨rfl, rfl⟩⟩
  · rw [cell_of_row _ _ _ _ _ _ (heap_alloc_new w _), ← Array.getElem?_toList, hcs, Nat.zero_add, cellsC_at l _ (by simp) hi hj]
    simp [List.getD, hi]
theorem six_in : ∀ y ∈ sixV, InsB y := by
  intro y hy
  simp [sixV] at hy
  rcases hy with rfl | rfl | rfl | rfl | rfl <;> exact ⟨by unfold InI; decide, by unfold InI; decide, by unfold InI; decide, by unfold InI; decide, by unfold InI; decide⟩
end Go.Proofs.YtfdblmjgpoocpaaGreat
