/- Rows of instructions: what they are in memory, and those that a call makes by append. Plain lemmas; no condition but what each names. -/
import Derived.Test.YtobbjphpngckgaaCode07H
import Derived.Test.YtobbjphpngckgaaMathC06
namespace Go.Proofs.Ytobbjphpngckgaa
open Go.RowKit Go.Shelf
set_option linter.unusedVariables false
set_option linter.unusedSimpArgs false

/-- Append to a slice of one's own: what it holds then, and where: in the block that it had, or in a new one. -/
theorem run_append_where {P : Program} (w : World) (base : Nat) (t ty e : TypeId) (i : TypeInfo) (z : Value) (size bytes : Nat) (ht : P.underlying t = some (.slice e)) (hi : P.info? e = some i) (hz : i.zero = some z)
    (hsize : i.size = size) (hby : i.bytes = bytes) (hzs : z.cells.size = size) (hsz : 0 < size)
    (v : Value) (n : Nat) (xs : List Value) (hown : w.ownsRow base e size v n xs)
    (a : Addr) (m c : Nat) (hm0 : 0 < m) (news : List Value) (hl : news.length = m * size) (hnews : ∀ j u, news[j]? = some u → w.cell? (a.add j) = some u) (h1 : ∀ u ∈ news, u.oneCell' = true)
    (h63 : n + m ≤ maxLen) (hbytes : (n + m) * bytes ≤ 140737488355328) (hbase : base ≤ w.heap.size) :
    ∃ v' w', (Builtin.append_ #[t, t] ty #[v, .slice (some a) m c]).run P w = .ok v' w' ∧ w'.ownsRow base e size v' (n + m) (xs ++ news) ∧ w.grownBy w' v.ownBlock ∧ (v'.ownBlock = v.ownBlock ∨ v'.ownBlock = some w.heap.size) := by
  obtain ⟨v', w', hr, h2, h3, _⟩ := run_append_own (P := P) w base t ty e i z size bytes ht hi hz hsize hby hzs hsz v n xs hown a m c news hl hnews h1 h63 hbytes hbase
  refine ⟨v', w', hr, h2, h3, ?_⟩
  subst hsize
  subst hby
  have hsmall : n + m ≤ 9223372036854775807 := by simp only [maxLen] at h63; omega
  rcases hown.2 with ⟨rfl, rfl⟩ | ⟨g, cap, cur, rfl, hbg, hg, hnc, hcm, hcs, htake⟩
  · have hr' := run_append_nil (P := P) w t ty e i z ht hi hz a m c news hl hnews (by omega) (by omega) (by have hb := hbytes; simp only [Nat.zero_add] at hb; omega)
    rw [hr'] at hr
    injection hr with hv hw
    subst hv
    exact .inr (by simp [Value.ownBlock])
  · by_cases hroom : n + m ≤ cap
    · have hfit : n * i.size + news.length ≤ cur.size := by rw [hl, hcs, ← Nat.add_mul]; exact Nat.mul_le_mul_right _ hroom
      have hr' := run_append_room (P := P) w t ty e i ht hi g n cap cur hg a m c news hl hnews h1 hroom hfit
      rw [hr'] at hr
      injection hr with hv hw
      subst hv
      exact .inl (by simp [Value.ownBlock])
    · have holds : ∀ j u, xs[j]? = some u → w.cell? ((⟨g, 0, none⟩ : Addr).add j) = some u := hown.cells (g := g) rfl
      have hr' := run_append_grow (P := P) w t ty e i z ht hi hz ⟨g, 0, none⟩ n cap xs hown.1 holds a m c news hl hnews (by omega) (by omega) (growslice_fits (by omega) hbytes)
      rw [hr'] at hr
      injection hr with hv hw
      subst hv
      exact .inr (by simp [Value.ownBlock])

/-- The numbers of an instruction are the machine's. -/
structure InsB (y : InsV) : Prop where
  op : InI y.op
  a : InI y.a
  b : InI y.b
  c : InI y.c
  n : InI y.n
def insCell (y : InsV) (X : Value) : Nat → Value
  | 0 => .int .i64 y.op
  | 1 => .int .i64 y.a
  | 2 => .int .i64 y.b
  | 3 => .int .i64 y.c
  | 4 => .int .i64 y.n
  | _ => X
/-- Instructions in a row. -/
def IsCode (w : World) (B : Nat) (V : Value) (l : List InsV) : Prop :=
  l.length ≤ maxLen ∧ (∀ y ∈ l, InsB y) ∧ ((l = [] ∧ ∃ a cap, V = .slice a 0 cap) ∨
    ∃ b off cap, V = .slice (some ⟨b, off, none⟩) l.length cap ∧ l.length ≤ cap ∧ b < B ∧ ∀ i, i < l.length → ∃ X, IsNums .i64 w B X (l.getD i .zero).args ∧ ∀ j, j < 6 → w.cell? ⟨b, off + i * 6 + j, none⟩ = some (insCell (l.getD i .zero) X j))
section
variable {w w' : World} {B B' : Nat} {V : Value} {l : List InsV}
theorem IsCode.len (h : IsCode w B V l) : ∃ a cap, V = .slice a l.length cap := by
  rcases h.2.2 with ⟨rfl, a, cap, h⟩ | ⟨b, off, cap, h, _⟩
  · exact ⟨a, cap, h⟩
  · exact ⟨_, cap, h⟩
theorem IsCode.but {R : Nat → Prop} (h : IsCode w B V l) (hb : But R w w') (hB : B ≤ w.heap.size) (hr : ∀ k, k < B → ¬ R k) : IsCode w' B V l := by
  refine ⟨h.1, h.2.1, ?_⟩
  rcases h.2.2 with h0 | ⟨b, off, cap, h1, h2, h3, h4⟩
  · exact .inl h0
  · refine .inr ⟨b, off, cap, h1, h2, h3, fun i hi => ?_⟩
    obtain ⟨X, hX, hc⟩ := h4 i hi
    refine ⟨X, hX.but hb hB hr, fun j hj => ?_⟩
    rw [hb.cell (p := ⟨b, off + i * 6 + j, none⟩) (show b < _ by omega) (hr b h3)]
    exact hc j hj
theorem IsCode.below (h : IsCode w B V l) (hb : Below B' w w') (hB : B ≤ B') (hs : B ≤ w.heap.size) : IsCode w' B V l :=
  h.but (R := fun k => B ≤ k) ⟨hb.os, hb.tape, hb.output, hb.size, fun k hk hn => hb.block k (by omega)⟩ hs (fun k hk hn => by omega)
theorem IsCode.more (h : IsCode w B V l) (hB : B ≤ B') : IsCode w B' V l := by
  refine ⟨h.1, h.2.1, ?_⟩
  rcases h.2.2 with h0 | ⟨b, off, cap, h1, h2, h3, h4⟩
  · exact .inl h0
  · exact .inr ⟨b, off, cap, h1, h2, by omega, fun i hi => by
      obtain ⟨X, hX, hc⟩ := h4 i hi
      exact ⟨X, hX.more hB, hc⟩⟩
/-- Where there is an instruction, the row's address is a plain one. -/
theorem IsCode.plain (h : IsCode w B V l) (hn : 0 < l.length) : ∃ b off cap, V = .slice (some ⟨b, off, none⟩) l.length cap ∧ l.length ≤ cap ∧ b < B ∧ ∀ i, i < l.length → ∃ X, IsNums .i64 w B X (l.getD i .zero).args ∧ ∀ j, j < 6 → w.cell? ⟨b, off + i * 6 + j, none⟩ = some (insCell (l.getD i .zero) X j) := by
  rcases h.2.2 with ⟨rfl, _⟩ | h0
  · simp at hn
  · exact h0
theorem code_getD (h : IsCode w B V l) {i : Nat} (hi : i < l.length) : InsB (l.getD i .zero) := by
  have e : l.getD i .zero = l[i] := by simp [List.getD, List.getElem?_eq_getElem hi]
  rw [e]
  exact h.2.1 _ (List.getElem_mem hi)
end
theorem code_take (l : List InsV) {i : Nat} (hi : i < l.length) : l.take (i + 1) = l.take i ++ [l.getD i .zero] := by
  rw [List.take_add_one, List.getElem?_eq_getElem hi]
  simp [List.getD, List.getElem?_eq_getElem hi]

/-! ### Instructions that a call makes by append -/
def insList (y : InsV) (X : Value) : List Value := [.int .i64 y.op, .int .i64 y.a, .int .i64 y.b, .int .i64 y.c, .int .i64 y.n, X]
def cellsC : List InsV → List Value → List Value
  | y :: l, X :: Xs => insList y X ++ cellsC l Xs
  | _, _ => []
theorem cellsC_length : ∀ (l : List InsV) (Xs : List Value), Xs.length = l.length → (cellsC l Xs).length = l.length * 6
  | [], [], _ => rfl
  | y :: l, X :: Xs, h => by
    simp only [cellsC, List.length_append, cellsC_length l Xs (by simpa using h), insList, List.length_cons, List.length_nil]
    omega
theorem insList_at (y : InsV) (X : Value) {j : Nat} (hj : j < 6) : (insList y X)[j]? = some (insCell y X j) := by
  rcases (show j = 0 ∨ j = 1 ∨ j = 2 ∨ j = 3 ∨ j = 4 ∨ j = 5 by omega) with rfl | rfl | rfl | rfl | rfl | rfl <;> rfl
theorem cellsC_at : ∀ (l : List InsV) (Xs : List Value) {i j : Nat}, Xs.length = l.length → i < l.length → j < 6 → (cellsC l Xs)[i * 6 + j]? = some (insCell (l.getD i .zero) (Xs.getD i (.slice none 0 0)) j)
  | [], _, i, j, _, hi, _ => absurd hi (by simp)
  | y :: l, [], i, j, h, _, _ => absurd h (by simp)
  | y :: l, X :: Xs, 0, j, _, _, hj => by
    simp only [cellsC]
    rw [List.getElem?_append_left (by simp [insList]; omega)]
    simpa using insList_at y X hj
  | y :: l, X :: Xs, i + 1, j, h, hi, hj => by
    simp only [cellsC]
    rw [List.getElem?_append_right (by simp [insList]; omega)]
    have e : (i + 1) * 6 + j - (insList y X).length = i * 6 + j := by simp [insList]; omega
    rw [e, cellsC_at l Xs (by simpa using h) (by simpa using hi) hj]
    rfl
theorem cellsC_append : ∀ (l : List InsV) (Xs : List Value) (y : InsV) (X : Value), Xs.length = l.length → cellsC (l ++ [y]) (Xs ++ [X]) = cellsC l Xs ++ insList y X
  | [], [], y, X, _ => by simp [cellsC]
  | z :: l, Z :: Xs, y, X, h => by
    simp only [List.cons_append, cellsC, cellsC_append l Xs y X (by simpa using h), List.append_assoc]
def AnyCell (_ : Value) : Prop := True
structure OwnC (base : Nat) (W : World) (V : Value) (l : List InsV) (Xs : List Value) : Prop where
  own : Owns W base 35 6 AnyCell V l.length (cellsC l Xs)
  len : Xs.length = l.length
  inn : ∀ y ∈ l, InsB y
  nums : ∀ i, i < l.length → OutN 0 W (Xs.getD i (.slice none 0 0)) (l.getD i .zero).args
theorem OwnC.nil (base : Nat) (W : World) : OwnC base W (.slice none 0 0) [] [] := ⟨Owns.nil _ _ _ _ _, rfl, by simp, fun i hi => absurd hi (by simp)⟩
section
variable {base : Nat} {W W' : World} {V : Value} {l : List InsV} {Xs : List Value}
theorem OwnC.below {B : Nat} (h : OwnC base W V l Xs) (hb : Below B W W') (hB : W.heap.size ≤ B) : OwnC base W' V l Xs :=
  ⟨h.own.below hb hB, h.len, h.inn, fun i hi => Owns.below (h.nums i hi) hb hB⟩
theorem OwnC.but {R : Nat → Prop} (h : OwnC base W V l Xs) (hb : But R W W') (h1 : ∀ g, V.ownBlock = some g → ¬ R g) (h2 : ∀ i, i < l.length → ∀ g, (Xs.getD i (.slice none 0 0)).ownBlock = some g → ¬ R g) : OwnC base W' V l Xs :=
  ⟨h.own.but hb h1, h.len, h.inn, fun i hi => Owns.but (h.nums i hi) hb (h2 i hi)⟩
theorem OwnC.code (h : OwnC base W V l Xs) (hl : l.length ≤ 1000000) : IsCode W W.heap.size V l := by
  refine ⟨by unfold maxLen; omega, h.inn, ?_⟩
  rcases h.own.1.2 with ⟨rfl, h0⟩ | ⟨g, cap, cur, rfl, h1, h2, h3, h4, h5, h6⟩
  · exact .inl ⟨List.eq_nil_of_length_eq_zero h0, none, 0, rfl⟩
  · exact .inr ⟨g, 0, cap, rfl, h3, (h.own.lt (g := g) (by simp [Value.ownBlock])).2, fun i hi => ⟨_, IsNums.of_owns (h.nums i hi) (Nat.le_refl _), fun j hj => by
      have := h.own.1.cells (g := g) rfl (i * 6 + j) _ (cellsC_at l Xs h.len hi hj)
      rw [← this]
      congr 1
      unfold Addr.add
      split <;> simp_all⟩⟩
end
theorem ins_info : (Try.prog.info? 35).map (fun i => (i.zero, i.size, i.bytes)) = some (some (.agg (insCells 0 0 0 0 0 (.slice none 0 0))), 6, 64) := by kernel_rfl
theorem one_ins (w : World) (y : InsV) (X : Value) : ∀ j u, (insList y X)[j]? = some u → (w.alloc (.cells (insCells y.op y.a y.b y.c y.n X) 35)).cell? ((⟨w.heap.size, 0, none⟩ : Addr).add j) = some u := by
  intro j u hu
  have e : (⟨w.heap.size, 0, none⟩ : Addr).add j = ⟨w.heap.size, j, none⟩ := by unfold Addr.add; split <;> simp_all
  rw [e, cell_of_row _ _ _ _ _ _ (heap_alloc_new w _), ← Array.getElem?_toList]
  exact hu
theorem getD_snoc {α : Type} (l : List α) (y d : α) {i : Nat} (hi : i < l.length + 1) : (l ++ [y]).getD i d = if i < l.length then l.getD i d else y := by
  by_cases h : i < l.length
  · rw [if_pos h]; simp [List.getD, List.getElem?_append_left h]
  · obtain rfl : i = l.length := by omega
    rw [if_neg h]; simp [List.getD]
/-- An append of one instruction, at the operation. -/
theorem wpList_outC {W : World} {ops : Array Oper} {rest : List Oper} {o : Oper} {a : Act} {Q : Exit → Act → World → Prop} (hgd : o.guard = none) (s x : Operand)
    (ho : o.op = .call { callee := .builtin .append, args := #[s, x], argTypes := #[22, 22] }) {V X : Value} {l : List InsV} {Xs : List Value} {y : InsV} {base g : Nat} (hs : a.eval s = V) (hx : a.eval x = .slice (some ⟨g, 0, none⟩) 1 1) (hgs : g = W.heap.size)
    (h : OwnC base W V l Xs) (hX : OutN 0 W X y.args) (hX1 : X.oneCell' = true) (hy : InsB y) (hb : base ≤ W.heap.size) (hl : l.length ≤ 1000000)
    (hK : ∀ V' W', OwnC base W' V' (l ++ [y]) (Xs ++ [X]) → Below base W W' → (∀ i, i < W.heap.size → some i ≠ V.ownBlock → W'.heap[i]? = W.heap[i]?) → (∀ (e : TypeId) (s : Nat) (K : Value → Prop) (v : Value) (n : Nat) (xs : List Value), e ≠ 35 → Owns W base e s K v n xs → Owns W' base e s K v n xs) → wpList Try.prog ops Q rest (a.put o.dst V') W') :
    wpList Try.prog ops Q (o :: rest) a (W.alloc (.cells (insCells y.op y.a y.b y.c y.n X) 35)) := by
  subst hgs
  obtain ⟨i, hi, h1, h2, h3⟩ := info_parts ins_info
  have ha : Below W.heap.size W (W.alloc (.cells (insCells y.op y.a y.b y.c y.n X) 35)) := (Below.refl W.heap.size W).alloc (Nat.le_refl _) _
  have hg := Owns.below h.own ha (Nat.le_refl _)
  refine wpList_append_q _ hgd s x 22 ho base 35 i _ 6 64 Try.underlying22 hi h1 h2 h3 rfl (by decide) AnyCell (fun _ _ => trivial) V l.length (cellsC l Xs) hs hg ⟨W.heap.size, 0, none⟩ 1 1 (insList y X) hx rfl (one_ins W y X) (by intro u hu; simp [insList] at hu; rcases hu with rfl | rfl | rfl | rfl | rfl | rfl <;> first | rfl | exact hX1) (fun _ _ => trivial) (by unfold maxLen; omega) (by omega) (by simp; omega) ?_
  intro V' W' ho' hg'
  have e : World.grownBy (W.alloc (.cells (insCells y.op y.a y.b y.c y.n X) 35)) W' V.ownBlock := hg'
  have hblk : ∀ i, i < W.heap.size → some i ≠ V.ownBlock → W'.heap[i]? = W.heap[i]? := fun i hi hn => (e.block i (by simp; omega) hn).trans (ha.block i hi)
  have hsz : W.heap.size ≤ W'.heap.size := Nat.le_trans (by simp) e.size
  have hkeep : ∀ (bs : Nat) (e : TypeId) (s : Nat) (K : Value → Prop) (v : Value) (n : Nat) (xs : List Value), e ≠ 35 → Owns W bs e s K v n xs → Owns W' bs e s K v n xs := fun bs e s K v n xs he hv => by
    refine hv.of_blocks (fun g hg => hblk g (hv.lt hg).2 (fun e' => ?_)) hsz
    obtain ⟨c1, h1⟩ := hv.typed hg
    obtain ⟨c2, h2⟩ := h.own.typed e'.symm
    rw [h1] at h2
    injection h2 with h2
    injection h2 with _ h2 _
    exact he h2
  refine hK V' W' ⟨?_, by simp [h.len], fun z hz => ?_, fun i hi => ?_⟩ ((ha.mono hb).grown e (by simp; omega) fun j hj => (h.own.lt hj).1) hblk (fun e s K v n xs he hv => hkeep _ e s K v n xs he hv)
  · rw [List.length_append, cellsC_append l Xs y X h.len]; exact ho'
  · rcases List.mem_append.1 hz with hz | hz
    · exact h.inn z hz
    · simp at hz; subst hz; exact hy
  · rw [List.length_append] at hi
    simp only [List.length_cons, List.length_nil, Nat.zero_add] at hi
    rw [getD_snoc l y .zero hi, getD_snoc Xs X _ (by rw [h.len]; exact hi), h.len]
    by_cases hlt : i < l.length
    · rw [if_pos hlt, if_pos hlt]
      exact hkeep 0 _ _ _ _ _ _ (by decide) (h.nums i hlt)
    · rw [if_neg hlt, if_neg hlt]
      exact hkeep 0 _ _ _ _ _ _ (by decide) hX
/-- An append of one number, at the operation, and where it lies. -/
theorem wpList_outW {W : World} {ops : Array Oper} {rest : List Oper} {o : Oper} {a : Act} {Q : Exit → Act → World → Prop} (hgd : o.guard = none) (s x : Operand)
    (ho : o.op = .call { callee := .builtin .append, args := #[s, x], argTypes := #[33, 33] }) {V : Value} {xs : List Int} {z : Int} {base : Nat} (hs : a.eval s = V) (hx : a.eval x = .slice (some ⟨W.heap.size, 0, none⟩) 1 1) (h : OutN base W V xs)
    (hb : base ≤ W.heap.size) (hl : xs.length ≤ 1000000)
    (hK : ∀ V' W', OutN base W' V' (xs ++ [z]) → Below base W W' → (∀ i, i < W.heap.size → some i ≠ V.ownBlock → W'.heap[i]? = W.heap[i]?) → W.heap.size ≤ W'.heap.size → (V'.ownBlock = V.ownBlock ∨ V'.ownBlock = some (W.heap.size + 1)) → wpList Try.prog ops Q rest (a.put o.dst V') W') :
    wpList Try.prog ops Q (o :: rest) a (W.alloc (.cells #[.int .i64 z] 3)) := by
  obtain ⟨i, hi, h1, h2, h3⟩ := info_parts int_info
  have ha : Below W.heap.size W (W.alloc (.cells #[.int .i64 z] 3)) := (Below.refl W.heap.size W).alloc (Nat.le_refl _) (.cells #[.int .i64 z] 3)
  have hg := Owns.below h ha (Nat.le_refl _)
  refine wpList_plain hgd fun _ hK' => ?_
  obtain ⟨V', W', hr, ho', hg'⟩ := run_append_q (P := Try.prog) _ base 33 o.type 3 i _ 1 8 Try.underlying33 hi h1 h2 h3 rfl (by decide) (IsNum .i64) (zero_num .i64) V xs.length (xs.map (Value.int .i64)) hg ⟨W.heap.size, 0, none⟩ 1 1 [.int .i64 z] rfl (news_one _ _ _) (by intro u hu; simp at hu; subst hu; rfl) (by intro u hu; simp at hu; subst hu; exact ⟨_, rfl⟩) (by unfold maxLen; omega) (by omega) (by simp; omega)
  obtain ⟨V2, W2, hr2, _, _, hw2⟩ := run_append_where (P := Try.prog) _ base 33 o.type 3 i _ 1 8 Try.underlying33 hi h1 h2 h3 rfl (by decide) V xs.length (xs.map (Value.int .i64)) hg.1 ⟨W.heap.size, 0, none⟩ 1 1 (by decide) [.int .i64 z] rfl (news_one _ _ _) (by intro u hu; simp at hu; subst hu; rfl) (by unfold maxLen; omega) (by omega) (by simp; omega)
  rw [hr] at hr2
  injection hr2 with e1 e2
  subst e1 e2
  have e : World.grownBy (W.alloc (.cells #[.int .i64 z] 3)) W' V.ownBlock := hg'
  unfold Oper.wp execOp
  simp only [ho, resolve, invoke, builtin, Sem.run_bind, Sem.run_pure, Result.andThen_ok, List.map_toArray, List.map_cons, List.map_nil, hs, hx, hr]
  exact hK' _ _ (hK V' W' (by rw [OutN, List.length_append, List.map_append]; exact ho') ((ha.mono hb).grown e (by simp; omega) fun j hj => (h.lt hj).1) (fun i hi hn => (e.block i (by simp; omega) hn).trans (ha.block i hi)) (Nat.le_trans (by simp) e.size) (by simpa using hw2))
end Go.Proofs.Ytobbjphpngckgaa
