/- Lemmas of Mod08A, Mod08B, Mod08C, Mod08D, Mod08E, each with its own remark. -/
import Derived.Test.YtohlifeenhaifaaGreatDoorS05
import Derived.Test.YtohlifeenhaifaaGreatDoorS08
import Derived.Deep.RegionHeldLaw
/- (Mod08A) Rows of functions: what they are in memory, and those that a call makes by append. Plain lemmas; no condition but what each names. -/
namespace Go.Proofs.YtohlifeenhaifaaGreatDoor
open Go.RowKit Go.Shelf
set_option linter.unusedVariables false
set_option linter.unusedSimpArgs false

/-- The numbers of a function are the machine's. -/
structure FunB (f : FunV) : Prop where
  params : InI f.params
  regs : InI f.regs
  area : InI f.area
def funCell (f : FunV) (C : Value) : Nat → Value
  | 0 => .int .i64 f.params
  | 1 => .int .i64 f.regs
  | 2 => .int .i64 f.area
  | _ => C
/-- Functions in a row. -/
def IsFuns (w : World) (B : Nat) (V : Value) (l : List FunV) : Prop :=
  l.length ≤ maxLen ∧ (∀ f ∈ l, FunB f) ∧ ((l = [] ∧ ∃ a cap, V = .slice a 0 cap) ∨
    ∃ b off cap, V = .slice (some ⟨b, off, none⟩) l.length cap ∧ l.length ≤ cap ∧ b < B ∧ ∀ i, i < l.length → ∃ C, IsCode w B C (l.getD i .zero).code ∧ ∀ j, j < 4 → w.cell? ⟨b, off + i * 4 + j, none⟩ = some (funCell (l.getD i .zero) C j))
section
variable {w w' : World} {B B' : Nat} {V : Value} {l : List FunV}
theorem IsFuns.len (h : IsFuns w B V l) : ∃ a cap, V = .slice a l.length cap := by
  rcases h.2.2 with ⟨rfl, a, cap, h⟩ | ⟨b, off, cap, h, _⟩
  · exact ⟨a, cap, h⟩
  · exact ⟨_, cap, h⟩
theorem IsFuns.but {R : Nat → Prop} (h : IsFuns w B V l) (hb : But R w w') (hB : B ≤ w.heap.size) (hr : ∀ k, k < B → ¬ R k) : IsFuns w' B V l := by
  refine ⟨h.1, h.2.1, ?_⟩
  rcases h.2.2 with h0 | ⟨b, off, cap, h1, h2, h3, h4⟩
  · exact .inl h0
  · refine .inr ⟨b, off, cap, h1, h2, h3, fun i hi => ?_⟩
    obtain ⟨C, hC, hc⟩ := h4 i hi
    refine ⟨C, hC.but hb hB hr, fun j hj => ?_⟩
    rw [hb.cell (p := ⟨b, off + i * 4 + j, none⟩) (show b < _ by omega) (hr b h3)]
    exact hc j hj
theorem IsFuns.below (h : IsFuns w B V l) (hb : Below B' w w') (hB : B ≤ B') (hs : B ≤ w.heap.size) : IsFuns w' B V l :=
  h.but (R := fun k => B ≤ k) ⟨hb.os, hb.tape, hb.output, hb.size, fun k hk hn => hb.block k (by omega)⟩ hs (fun k hk hn => by omega)
theorem IsFuns.more (h : IsFuns w B V l) (hB : B ≤ B') : IsFuns w B' V l := by
  refine ⟨h.1, h.2.1, ?_⟩
  rcases h.2.2 with h0 | ⟨b, off, cap, h1, h2, h3, h4⟩
  · exact .inl h0
  · exact .inr ⟨b, off, cap, h1, h2, by omega, fun i hi => by
      obtain ⟨C, hC, hc⟩ := h4 i hi
      exact ⟨C, hC.more hB, hc⟩⟩
/-- Further on in the same memory. -/
theorem IsFuns.grow (h : IsFuns w w.heap.size V l) (hb : Below w.heap.size w w') : IsFuns w' w'.heap.size V l := (h.below hb (Nat.le_refl _) (Nat.le_refl _)).more hb.size
theorem IsCode.grow {C : Value} {c : List InsV} (h : IsCode w w.heap.size C c) (hb : Below w.heap.size w w') : IsCode w' w'.heap.size C c := (h.below hb (Nat.le_refl _) (Nat.le_refl _)).more hb.size
theorem IsBytes.grow {C : Value} {c : List Int} (h : IsBytes w w.heap.size C c) (hb : Below w.heap.size w w') : IsBytes w' w'.heap.size C c := (h.below hb (Nat.le_refl _)).more hb.size
theorem IsFuns.plain (h : IsFuns w B V l) (hn : 0 < l.length) : ∃ b off cap, V = .slice (some ⟨b, off, none⟩) l.length cap ∧ l.length ≤ cap ∧ b < B ∧ ∀ i, i < l.length → ∃ C, IsCode w B C (l.getD i .zero).code ∧ ∀ j, j < 4 → w.cell? ⟨b, off + i * 4 + j, none⟩ = some (funCell (l.getD i .zero) C j) := by
  rcases h.2.2 with ⟨rfl, _⟩ | h0
  · simp at hn
  · exact h0
theorem funs_getD (h : IsFuns w B V l) {i : Nat} (hi : i < l.length) : FunB (l.getD i .zero) := by
  have e : l.getD i .zero = l[i] := by simp [List.getD, List.getElem?_eq_getElem hi]
  rw [e]
  exact h.2.1 _ (List.getElem_mem hi)
end
theorem funs_take (l : List FunV) {i : Nat} (hi : i < l.length) : l.take (i + 1) = l.take i ++ [l.getD i .zero] := by
  rw [List.take_add_one, List.getElem?_eq_getElem hi]
  simp [List.getD, List.getElem?_eq_getElem hi]
theorem cells4 {w : World} {b' : Nat} {p r a : Int} {C : Value} {T : TypeId} (h : w.heap[b']? = some (.cells #[.int .i64 p, .int .i64 r, .int .i64 a, C] T (0, 0))) :
    w.cell? ⟨b', 0, none⟩ = some (.int .i64 p) ∧ w.cell? ⟨b', 1, none⟩ = some (.int .i64 r) ∧ w.cell? ⟨b', 2, none⟩ = some (.int .i64 a) ∧ w.cell? ⟨b', 3, none⟩ = some C := by
  simp [World.cell?, h]
theorem cells2 {w : World} {b' : Nat} {D F : Value} {T : TypeId} (h : w.heap[b']? = some (.cells #[D, F] T (0, 0))) :
    w.cell? ⟨b', 0, none⟩ = some D ∧ w.cell? ⟨b', 1, none⟩ = some F := by
  simp [World.cell?, h]

/-! ### Functions that a call makes by append -/
def funList (f : FunV) (C : Value) : List Value := [.int .i64 f.params, .int .i64 f.regs, .int .i64 f.area, C]
def cellsF : List FunV → List Value → List Value
  | f :: l, C :: Cs => funList f C ++ cellsF l Cs
  | _, _ => []
theorem cellsF_length : ∀ (l : List FunV) (Cs : List Value), Cs.length = l.length → (cellsF l Cs).length = l.length * 4
  | [], [], _ => rfl
  | f :: l, C :: Cs, h => by
    simp only [cellsF, List.length_append, cellsF_length l Cs (by simpa using h), funList, List.length_cons, List.length_nil]
    omega
theorem funList_at (f : FunV) (C : Value) {j : Nat} (hj : j < 4) : (funList f C)[j]? = some (funCell f C j) := by
  rcases (show j = 0 ∨ j = 1 ∨ j = 2 ∨ j = 3 by omega) with rfl | rfl | rfl | rfl <;> rfl
theorem cellsF_at : ∀ (l : List FunV) (Cs : List Value) {i j : Nat}, Cs.length = l.length → i < l.length → j < 4 → (cellsF l Cs)[i * 4 + j]? = some (funCell (l.getD i .zero) (Cs.getD i (.slice none 0 0)) j)
  | [], _, i, j, _, hi, _ => absurd hi (by simp)
  | f :: l, [], i, j, h, _, _ => absurd h (by simp)
  | f :: l, C :: Cs, 0, j, _, _, hj => by
    simp only [cellsF]
    rw [List.getElem?_append_left (by simp [funList]; omega)]
    simpa using funList_at f C hj
  | f :: l, C :: Cs, i + 1, j, h, hi, hj => by
    simp only [cellsF]
    rw [List.getElem?_append_right (by simp [funList]; omega)]
    have e : (i + 1) * 4 + j - (funList f C).length = i * 4 + j := by simp [funList]; omega
    rw [e, cellsF_at l Cs (by simpa using h) (by simpa using hi) hj]
    rfl
theorem cellsF_append : ∀ (l : List FunV) (Cs : List Value) (f : FunV) (C : Value), Cs.length = l.length → cellsF (l ++ [f]) (Cs ++ [C]) = cellsF l Cs ++ funList f C
  | [], [], f, C, _ => by simp [cellsF]
  | z :: l, Z :: Cs, f, C, h => by
    simp only [List.cons_append, cellsF, cellsF_append l Cs f C (by simpa using h), List.append_assoc]
/-- Instructions that stand below a bound, or that have been made by append. -/
def CodeAt (base : Nat) (W : World) (C : Value) (l : List InsV) : Prop := (∃ B, B ≤ base ∧ B ≤ W.heap.size ∧ IsCode W B C l) ∨ ∃ bs Xs, OwnC bs W C l Xs ∧ l.length ≤ 1000000
section
variable {base base' : Nat} {W W' : World} {C : Value} {l : List InsV}
theorem CodeAt.but {R : Nat → Prop} (h : CodeAt base W C l) (hb : But R W W') (h1 : ∀ k, k < base → ¬ R k) (h2 : ∀ k c, W.heap[k]? = some (.cells c 28 (0, 0)) → ¬ R k) (h3 : ∀ k c, W.heap[k]? = some (.cells c 3 (0, 0)) → ¬ R k) : CodeAt base W' C l := by
  rcases h with ⟨B, hB, hs, hc⟩ | ⟨bs, Xs, ho, hl⟩
  · exact .inl ⟨B, hB, Nat.le_trans hs hb.size, hc.but hb hs (fun k hk => h1 k (Nat.lt_of_lt_of_le hk hB))⟩
  · refine .inr ⟨bs, Xs, ho.but hb (fun g hg => ?_) (fun i hi g hg => ?_), hl⟩
    · obtain ⟨c, e⟩ := ho.own.typed hg
      exact h2 _ _ e
    · obtain ⟨c, e⟩ := (ho.nums i hi).typed hg
      exact h3 _ _ e
theorem CodeAt.below {B : Nat} (h : CodeAt base W C l) (hb : Below B W W') (hB : W.heap.size ≤ B) : CodeAt base W' C l :=
  h.but (But.of_below (R := NoBlock) (hb.mono hB)) (fun _ _ h => h) (fun _ _ _ h => h) (fun _ _ _ h => h)
theorem CodeAt.raise (h : CodeAt base W C l) (hb : base ≤ base') : CodeAt base' W C l := by
  rcases h with ⟨B, hB, hs, hc⟩ | h
  · exact .inl ⟨B, Nat.le_trans hB hb, hs, hc⟩
  · exact .inr h
theorem CodeAt.code (h : CodeAt base W C l) : IsCode W W.heap.size C l := by
  rcases h with ⟨B, hB, hs, hc⟩ | ⟨bs, Xs, ho, hl⟩
  · exact hc.more hs
  · exact ho.code hl
theorem CodeAt.one (h : CodeAt base W C l) : C.oneCell' = true := by
  obtain ⟨a, cap, rfl⟩ := h.code.len
  rfl
end
structure OwnF (t : TypeId) (base : Nat) (W : World) (V : Value) (l : List FunV) (Cs : List Value) : Prop where
  own : Owns W base t 4 AnyCell V l.length (cellsF l Cs)
  len : Cs.length = l.length
  inn : ∀ f ∈ l, FunB f
  codes : ∀ i, i < l.length → CodeAt base W (Cs.getD i (.slice none 0 0)) (l.getD i .zero).code
theorem OwnF.nil (t : TypeId) (base : Nat) (W : World) : OwnF t base W (.slice none 0 0) [] [] := ⟨Owns.nil _ _ _ _ _, rfl, by simp, fun i hi => absurd hi (by simp)⟩
section
variable {t : TypeId} {base : Nat} {W W' : World} {V : Value} {l : List FunV} {Cs : List Value}
theorem OwnF.below {B : Nat} (h : OwnF t base W V l Cs) (hb : Below B W W') (hB : W.heap.size ≤ B) : OwnF t base W' V l Cs :=
  ⟨h.own.below hb hB, h.len, h.inn, fun i hi => (h.codes i hi).below hb hB⟩
theorem OwnF.but {R : Nat → Prop} (h : OwnF t base W V l Cs) (hb : But R W W') (h0 : ∀ g, V.ownBlock = some g → ¬ R g) (h1 : ∀ k, k < base → ¬ R k) (h2 : ∀ k c, W.heap[k]? = some (.cells c 28 (0, 0)) → ¬ R k) (h3 : ∀ k c, W.heap[k]? = some (.cells c 3 (0, 0)) → ¬ R k) : OwnF t base W' V l Cs :=
  ⟨h.own.but hb h0, h.len, h.inn, fun i hi => (h.codes i hi).but hb h1 h2 h3⟩
theorem OwnF.funs (h : OwnF t base W V l Cs) (hl : l.length ≤ 1000000) : IsFuns W W.heap.size V l := by
  refine ⟨by unfold maxLen; omega, h.inn, ?_⟩
  rcases h.own.1.2 with ⟨rfl, h0⟩ | ⟨g, cap, cur, rfl, h1, h2, h3, h4, h5, h6⟩
  · exact .inl ⟨List.eq_nil_of_length_eq_zero h0, none, 0, rfl⟩
  · exact .inr ⟨g, 0, cap, rfl, h3, (h.own.lt (g := g) (by simp [Value.ownBlock])).2, fun i hi => ⟨_, (h.codes i hi).code, fun j hj => by
      have := h.own.1.cells (g := g) rfl (i * 4 + j) _ (cellsF_at l Cs h.len hi hj)
      rw [← this]
      congr 1
      unfold Addr.add
      split <;> simp_all⟩⟩
end
theorem one_fun (w : World) (f : FunV) (C : Value) (t : TypeId) : ∀ j u, (funList f C)[j]? = some u → (w.alloc (.cells #[.int .i64 f.params, .int .i64 f.regs, .int .i64 f.area, C] t)).cell? ((⟨w.heap.size, 0, none⟩ : Addr).add j) = some u := by
  intro j u hu
  have e : (⟨w.heap.size, 0, none⟩ : Addr).add j = ⟨w.heap.size, j, none⟩ := by unfold Addr.add; split <;> simp_all
  rw [e, cell_of_row _ _ _ _ _ _ (heap_alloc_new w _), ← Array.getElem?_toList]
  exact hu
/-- What an append of one function leaves. -/
structure MoreF (t : TypeId) (base : Nat) (W W' : World) (V V' : Value) (l : List FunV) (Cs : List Value) (f : FunV) (C : Value) : Prop where
  own : OwnF t base W' V' (l ++ [f]) (Cs ++ [C])
  bel : Below base W W'
  blk : ∀ i, i < W.heap.size → some i ≠ V.ownBlock → W'.heap[i]? = W.heap[i]?
  size : W.heap.size ≤ W'.heap.size
theorem run_outF {W : World} {t ts ty : TypeId} {z : Value} (hts : Tryz.prog.underlying ts = some (.slice t)) (hinf : (Tryz.prog.info? t).map (fun i => (i.zero, i.size, i.bytes)) = some (some z, 4, 48)) (hz4 : z.cells.size = 4) (hti : t ≠ 28) (htn : t ≠ 3)
    {V C : Value} {l : List FunV} {Cs : List Value} {f : FunV} {base : Nat}
    (h : OwnF t base W V l Cs) (hC : CodeAt base W C f.code) (hf : FunB f) (hb : base ≤ W.heap.size) (hl : l.length ≤ 1000000) :
    ∃ V' W', (Builtin.append_ #[ts, ts] ty #[V, .slice (some ⟨W.heap.size, 0, none⟩) 1 1]).run Tryz.prog (W.alloc (.cells #[.int .i64 f.params, .int .i64 f.regs, .int .i64 f.area, C] t)) = .ok V' W' ∧ MoreF t base W W' V V' l Cs f C := by
  obtain ⟨i, hi, h1, h2, h3⟩ := info_parts hinf
  have ha : Below W.heap.size W (W.alloc (.cells #[.int .i64 f.params, .int .i64 f.regs, .int .i64 f.area, C] t)) := (Below.refl W.heap.size W).alloc (Nat.le_refl _) _
  have hg := Owns.below h.own ha (Nat.le_refl _)
  obtain ⟨V', W', hr, ho', hg'⟩ := run_append_q (P := Tryz.prog) _ base ts ty t i _ 4 48 hts hi h1 h2 h3 hz4 (by decide) AnyCell (fun _ _ => trivial) V l.length (cellsF l Cs) hg ⟨W.heap.size, 0, none⟩ 1 1 (funList f C) rfl (one_fun W f C t) (by intro u hu; simp [funList] at hu; rcases hu with rfl | rfl | rfl | rfl <;> first | rfl | exact hC.one) (fun _ _ => trivial) (by unfold maxLen; omega) (by omega) (by simp; omega)
  refine ⟨V', W', hr, ?_⟩
  have e : World.grownBy (W.alloc (.cells #[.int .i64 f.params, .int .i64 f.regs, .int .i64 f.area, C] t)) W' V.ownBlock := hg'
  have hblk : ∀ i, i < W.heap.size → some i ≠ V.ownBlock → W'.heap[i]? = W.heap[i]? := fun i hi hn => (e.block i (by simp; omega) hn).trans (ha.block i hi)
  have hsz : W.heap.size ≤ W'.heap.size := Nat.le_trans (by simp) e.size
  have hbel : Below base W W' := (ha.mono hb).grown e (by simp; omega) fun j hj => (h.own.lt hj).1
  have hbut : But (fun k => some k = V.ownBlock) W W' := ⟨hbel.os, hbel.tape, hbel.output, hsz, fun k hk hn => hblk k hk hn⟩
  have htyp : ∀ (u : TypeId), u ≠ t → ∀ k c, W.heap[k]? = some (.cells c u (0, 0)) → ¬ some k = V.ownBlock := fun u hu k c hc e' => by
    obtain ⟨c2, h2⟩ := h.own.typed e'.symm
    rw [hc] at h2
    injection h2 with h2
    injection h2 with _ h2 _
    exact hu h2
  have hlow : ∀ k, k < base → ¬ some k = V.ownBlock := fun k hk e' => by have := (h.own.lt e'.symm).1; omega
  refine ⟨⟨?_, by simp [h.len], fun z hz => ?_, fun i hi => ?_⟩, hbel, hblk, hsz⟩
  · rw [List.length_append, cellsF_append l Cs f C h.len]; exact ho'
  · rcases List.mem_append.1 hz with hz | hz
    · exact h.inn z hz
    · simp at hz; subst hz; exact hf
  · rw [List.length_append] at hi
    simp only [List.length_cons, List.length_nil, Nat.zero_add] at hi
    rw [getD_snoc l f .zero hi, getD_snoc Cs C _ (by rw [h.len]; exact hi), h.len]
    by_cases hlt : i < l.length
    · rw [if_pos hlt, if_pos hlt]
      exact (h.codes i hlt).but hbut hlow (htyp _ (Ne.symm hti)) (htyp _ (Ne.symm htn))
    · rw [if_neg hlt, if_neg hlt]
      exact hC.but hbut hlow (htyp _ (Ne.symm hti)) (htyp _ (Ne.symm htn))
theorem func_info : (Tryz.prog.info? 53).map (fun i => (i.zero, i.size, i.bytes)) = some (some (.agg #[.int .i64 0, .int .i64 0, .int .i64 0, .slice none 0 0]), 4, 48) := by kernel_rfl
theorem function_info : (Tryz.prog.info? 82).map (fun i => (i.zero, i.size, i.bytes)) = some (some (.agg #[.int .i64 0, .int .i64 0, .int .i64 0, .slice none 0 0]), 4, 48) := by kernel_rfl
/-- An append of one function, at the operation. -/
theorem wpList_outF {W : World} {ops : Array Oper} {rest : List Oper} {o : Oper} {a : Act} {Q : Exit → Act → World → Prop} (hgd : o.guard = none) (s x : Operand)
    (ho : o.op = .call { callee := .builtin .append, args := #[s, x], argTypes := #[23, 23] }) {V C : Value} {l : List FunV} {Cs : List Value} {f : FunV} {base g : Nat} (hs : a.eval s = V) (hx : a.eval x = .slice (some ⟨g, 0, none⟩) 1 1) (hgs : g = W.heap.size)
    (h : OwnF 53 base W V l Cs) (hC : CodeAt base W C f.code) (hf : FunB f) (hb : base ≤ W.heap.size) (hl : l.length ≤ 1000000)
    (hK : ∀ V' W', MoreF 53 base W W' V V' l Cs f C → wpList Tryz.prog ops Q rest (a.put o.dst V') W') :
    wpList Tryz.prog ops Q (o :: rest) a (W.alloc (.cells #[.int .i64 f.params, .int .i64 f.regs, .int .i64 f.area, C] 53)) := by
  subst hgs
  refine wpList_plain hgd fun _ hK' => ?_
  obtain ⟨V', W', hr, hm⟩ := run_outF (ty := o.type) Tryz.underlying23 func_info rfl (by decide) (by decide) h hC hf hb hl
  unfold Oper.wp execOp
  simp only [ho, resolve, invoke, builtin, Sem.run_bind, Sem.run_pure, Result.andThen_ok, List.map_toArray, List.map_cons, List.map_nil, hs, hx, hr]
  exact hK' _ _ (hK V' W' hm)
theorem wpList_outG {W : World} {ops : Array Oper} {rest : List Oper} {o : Oper} {a : Act} {Q : Exit → Act → World → Prop} (hgd : o.guard = none) (s x : Operand)
    (ho : o.op = .call { callee := .builtin .append, args := #[s, x], argTypes := #[81, 81] }) {V C : Value} {l : List FunV} {Cs : List Value} {f : FunV} {base g : Nat} (hs : a.eval s = V) (hx : a.eval x = .slice (some ⟨g, 0, none⟩) 1 1) (hgs : g = W.heap.size)
    (h : OwnF 82 base W V l Cs) (hC : CodeAt base W C f.code) (hf : FunB f) (hb : base ≤ W.heap.size) (hl : l.length ≤ 1000000)
    (hK : ∀ V' W', MoreF 82 base W W' V V' l Cs f C → wpList Tryz.prog ops Q rest (a.put o.dst V') W') :
    wpList Tryz.prog ops Q (o :: rest) a (W.alloc (.cells #[.int .i64 f.params, .int .i64 f.regs, .int .i64 f.area, C] 82)) := by
  subst hgs
  refine wpList_plain hgd fun _ hK' => ?_
  obtain ⟨V', W', hr, hm⟩ := run_outF (ty := o.type) Tryz.underlying81 function_info rfl (by decide) (by decide) h hC hf hb hl
  unfold Oper.wp execOp
  simp only [ho, resolve, invoke, builtin, Sem.run_bind, Sem.run_pure, Result.andThen_ok, List.map_toArray, List.map_cons, List.map_nil, hs, hx, hr]
  exact hK' _ _ (hK V' W' hm)
end Go.Proofs.YtohlifeenhaifaaGreatDoor

/- (Mod08B) The landed module's small functions: some, framed, mark, low; bytes' Equal. Contracts; no condition but what each names. -/
namespace Go.Proofs.YtohlifeenhaifaaGreatDoor
open Go.RowKit Go.Shelf
set_option linter.unusedVariables false
set_option linter.unusedSimpArgs false

theorem some_any (n : Int) (w : World) : Calls Tryz.prog 81 #[.int .i64 n] w fun e w' => e = .returned (.bool (someV n)) ∧ w = w' := by
  by_cases h1 : 1 ≤ n
  · by_cases h2 : n ≤ 64
    · have HE : Hid (someV n = true) := Lib.hid (decide_eq_true ⟨h1, h2⟩)
      go_enter Tryz.func81, Tryz.ntmps81
      go_wp2
      go_ret
      exact ⟨ret_bool HE.out.symm, rfl⟩
    · have HE : Hid (someV n = false) := Lib.hid (decide_eq_false fun h => h2 h.2)
      go_enter Tryz.func81, Tryz.ntmps81
      go_wp2
      go_ret
      exact ⟨ret_bool HE.out.symm, rfl⟩
  · have HE : Hid (someV n = false) := Lib.hid (decide_eq_false fun h => h1 h.1)
    go_enter Tryz.func81, Tryz.ntmps81
    go_wp2
    go_ret
    exact ⟨ret_bool HE.out.symm, rfl⟩
set_option maxHeartbeats 2000000 in
theorem framed_any (p r a : Int) (A : Option Addr) (n cap : Nat) (w : World) : Calls Tryz.prog 103 #[.agg #[.int .i64 p, .int .i64 r, .int .i64 a, .slice A n cap]] w (Makes w (.bool (framedV p r a))) := by
  have hB0 : Below w.heap.size w (w.alloc (.cells #[.int .i64 p, .int .i64 r, .int .i64 a, .slice A n cap] 82)) := (Below.refl _ w).alloc (Nat.le_refl _) _
  have HB0 := Lib.hid hB0
  have hk0 := heap_alloc_new w (.cells #[.int .i64 p, .int .i64 r, .int .i64 a, .slice A n cap] 82)
  obtain ⟨c0, c1, c2, c3⟩ := cells4 hk0
  clear hB0 hk0
  by_cases h0 : 0 ≤ r
  case neg =>
    have HE : Hid (framedV p r a = false) := Lib.hid (decide_eq_false (by omega))
    go_enter Tryz.func103, Tryz.ntmps103
    go_wp2
    all_goals (go_ret; exact ⟨ret_bool HE.out.symm, HB0.out⟩)
  by_cases h1 : r ≤ 64
  case neg =>
    have HE : Hid (framedV p r a = false) := Lib.hid (decide_eq_false (by omega))
    go_enter Tryz.func103, Tryz.ntmps103
    go_wp2
    all_goals (go_ret; exact ⟨ret_bool HE.out.symm, HB0.out⟩)
  by_cases h2 : 0 ≤ p
  case neg =>
    have HE : Hid (framedV p r a = false) := Lib.hid (decide_eq_false (by omega))
    go_enter Tryz.func103, Tryz.ntmps103
    go_wp2
    all_goals (go_ret; exact ⟨ret_bool HE.out.symm, HB0.out⟩)
  by_cases h3 : p ≤ min r 8
  case neg =>
    have h3b : ¬ p ≤ 8 ∨ ¬ p ≤ r := by omega
    have HE : Hid (framedV p r a = false) := Lib.hid (decide_eq_false (by omega))
    go_enter Tryz.func103, Tryz.ntmps103
    go_wp2
    all_goals (go_ret; exact ⟨ret_bool HE.out.symm, HB0.out⟩)
  by_cases h4 : 0 ≤ a
  case neg =>
    have HE : Hid (framedV p r a = false) := Lib.hid (decide_eq_false (by omega))
    go_enter Tryz.func103, Tryz.ntmps103
    go_wp2
    all_goals (go_ret; exact ⟨ret_bool HE.out.symm, HB0.out⟩)
  by_cases h5 : a ≤ 4096
  case neg =>
    have HE : Hid (framedV p r a = false) := Lib.hid (decide_eq_false (by omega))
    go_enter Tryz.func103, Tryz.ntmps103
    go_wp2
    all_goals (go_ret; exact ⟨ret_bool HE.out.symm, HB0.out⟩)
  have h3r : p ≤ r := by omega
  have h3e : p ≤ 8 := by omega
  have HE : Hid (framedV p r a = true) := Lib.hid (decide_eq_true (by omega))
  go_enter Tryz.func103, Tryz.ntmps103
  go_wp2
  all_goals (go_ret; exact ⟨ret_bool HE.out.symm, HB0.out⟩)

theorem outB_new (w : World) (xs : List Int) (hx : ∀ x ∈ xs, 0 ≤ x ∧ x < 256) (cs : Array Value) (hcs : cs = (xs.map (Value.int .u8)).toArray) (hl : xs.length ≤ 1000) :
    OutB w (w.alloc (.cells cs 5)) (.slice (some ⟨w.heap.size, 0, none⟩) xs.length xs.length) xs := by
  subst hcs
  have hn := heap_alloc_new w (.cells (xs.map (Value.int .u8)).toArray 5)
  refine ⟨⟨⟨by simp, .inr ⟨w.heap.size, xs.length, (xs.map (Value.int .u8)).toArray, rfl, Nat.le_refl _, hn, Nat.le_refl _, by unfold maxLen; omega, by simp, by simpa using List.take_of_length_le (by simp)⟩⟩, fun g cur t fr hg hc => ?_⟩, (Below.refl _ w).alloc (Nat.le_refl _) _⟩
  simp [Value.ownBlock] at hg
  subst hg
  rw [hn] at hc
  injection hc with hc
  injection hc with hc _ _
  subst hc
  simpa using u8_cells hx
theorem equalB_any (X Y : Value) (xs ys : List Int) (w : World) (B C : Nat) (hX : IsBytes w B X xs) (hY : IsBytes w C Y ys) :
    Calls Tryz.prog 43 #[X, Y] w fun e w' => e = .returned (.bool (xs == ys)) ∧ w = w' := by
  have cx := conv_bytes (P := Tryz.prog) hX Tryz.underlying22 Tryz.underlying5 Tryz.underlying9
  have cy := conv_bytes (P := Tryz.prog) hY Tryz.underlying22 Tryz.underlying5 Tryz.underlying9
  have e := beq_strOfNums hX.1 hY.1
  have E := Lib.hid e
  clear e hX hY
  go_enter Tryz.func43, Tryz.ntmps43
  go_wp2
  go_ret
  exact ⟨ret_bool E.out, rfl⟩
end Go.Proofs.YtohlifeenhaifaaGreatDoor

/- (Mod08C) The landed module's function.code and functions: a function's bytes, or its error; a module's functions as values that can be asked. Contracts; no condition but that what is handed in lies in memory. -/
namespace Go.Proofs.YtohlifeenhaifaaGreatDoor
open Go.RowKit Go.Shelf
set_option linter.unusedVariables false
set_option linter.unusedSimpArgs false

/-- Bytes, or an error beside which there are none. -/
def PutsU (w : World) (z : Int) (xs : List Int) (e : Ending) (w' : World) : Prop := ∃ V, e = .returned (.tuple #[V, .int .i64 z]) ∧ OutB w w' V xs
def goodB (z : Int) (xs : List Int) : List Int := if z = 0 then xs else []
theorem puts_bad {w w' : World} {E z : Int} {xs : List Int} (hz : E = z) (h0 : z ≠ 0) (hb : Below w.heap.size w w') : PutsU w E (goodB E xs) (.returned (.tuple #[.slice none 0 0, .int .i64 z])) w' := by
  subst hz
  unfold goodB
  rw [if_neg h0]
  exact ⟨_, rfl, OutB.nil hb⟩
theorem puts_good {w w' : World} {E : Int} {xs : List Int} {V : Value} (hz : E = 0) (ho : OutB w w' V xs) : PutsU w E (goodB E xs) (.returned (.tuple #[V, .int .i64 0])) w' := by
  subst hz
  exact ⟨V, rfl, ho⟩
theorem first_at8 {r a : Int} : ∀ (l : List InsV) {k : Nat}, k < l.length → firstC r a (l.take k) = 0 → (l.getD k .zero).err r a ≠ 0 → firstC r a l = (l.getD k .zero).err r a
  | [], k, hk, _, _ => absurd hk (by simp)
  | y :: l, 0, _, _, h => by
    simp only [List.getD_cons_zero] at h ⊢
    simp only [firstC, if_neg h]
  | y :: l, k + 1, hk, h0, h => by
    simp only [List.take_succ_cons, firstC] at h0
    by_cases hy : y.err r a = 0
    · rw [if_pos hy] at h0
      simp only [firstC, if_pos hy, List.getD_cons_succ] at h ⊢
      exact first_at8 l (by simpa using hk) h0 h
    · rw [if_neg hy] at h0
      exact absurd h0 hy
theorem first_snoc8 {r a : Int} : ∀ (l : List InsV) (y : InsV), firstC r a l = 0 → y.err r a = 0 → firstC r a (l ++ [y]) = 0
  | [], y, _, h => by simp [firstC, h]
  | z :: l, y, h0, h => by
    simp only [List.cons_append, firstC] at h0 ⊢
    by_cases hz : z.err r a = 0
    · rw [if_pos hz] at h0 ⊢
      exact first_snoc8 l y h0 h
    · rw [if_neg hz] at h0
      exact absurd h0 hz
theorem ferr_frame {p r a : Int} {l : List InsV} (h : framedV p r a = false) : FunV.err ⟨p, r, a, l⟩ = 2 := by
  unfold FunV.err
  rw [if_neg (by simp [h])]
theorem ferr_join {p r a : Int} {l : List InsV} (h : framedV p r a = true) (hj : joinE l ≠ 0) : FunV.err ⟨p, r, a, l⟩ = joinE l := by
  unfold FunV.err
  rw [if_pos h, if_neg hj]
theorem ferr_code {p r a : Int} {l : List InsV} (h : framedV p r a = true) (hj : joinE l = 0) : FunV.err ⟨p, r, a, l⟩ = firstC r a l := by
  unfold FunV.err
  rw [if_pos h, if_pos hj]
set_option maxRecDepth 100000 in
set_option maxHeartbeats 4000000 in
theorem fcode_any (p r a : Int) (C : Value) (l : List InsV) (w : World) (h : IsCode w w.heap.size C l) :
    Calls Tryz.prog 82 #[.agg #[.int .i64 p, .int .i64 r, .int .i64 a, C]] w (PutsU w (FunV.err ⟨p, r, a, l⟩) (goodB (FunV.err ⟨p, r, a, l⟩) (allB l))) := by
  have HCw := Lib.hid (fun W (hb : Below w.heap.size w W) => h.grow hb)
  have HJ := Lib.hid (fun W (hb : Below w.heap.size w W) => join7_any C l W (h.grow hb))
  have hm := h.1
  unfold maxLen at hm
  obtain ⟨A, cap, hCe⟩ := h.len
  subst hCe
  have hB0 : Below w.heap.size w (w.alloc (.cells #[.int .i64 p, .int .i64 r, .int .i64 a, .slice A l.length cap] 82)) := (Below.refl _ w).alloc (Nat.le_refl _) _
  have HB0 := Lib.hid hB0
  have hk0 := heap_alloc_new w (.cells #[.int .i64 p, .int .i64 r, .int .i64 a, .slice A l.length cap] 82)
  have HK0 := Lib.hid hk0
  obtain ⟨c0, c1, c2, c3⟩ := cells4 hk0
  have HF := Lib.hid (fun W => framed_any p r a A l.length cap W)
  clear hB0 hk0 h
  cases hf : framedV p r a
  · have HE := Lib.hid (ferr_frame (l := l) hf)
    rw [hf] at HF
    clear hf
    go_enter Tryz.func82, Tryz.ntmps82
    go_wp2_with (go_at_call 103; (with_reducible refine (HF.out _).mono ?_); rintro e w1 ⟨rfl, hb⟩; have HB1 := Lib.hid (HB0.out.trans (hb.mono HB0.out.size)); clear hb)
    go_ret2
    exact puts_bad HE.out (by decide) HB1.out
  rw [hf] at HF
  by_cases hj : joinE l = 0
  case neg =>
    have HE := Lib.hid (ferr_join hf hj)
    have HJ2 := Lib.hid (fun W hb => (HJ.out W hb).mono fun e w' hh => hh.resolve_right (fun h => hj h.1))
    have HZ := Lib.hid hj
    generalize joinE l = z at HJ2 HE HZ hj
    have hne : (z != 0) = true := by simpa using hj
    clear hf hj HJ
    go_enter Tryz.func82, Tryz.ntmps82
    go_wp2_with (first
      | (go_at_call 103; (with_reducible refine (HF.out _).mono ?_); rintro e w1 ⟨rfl, hb⟩; have HB1 := Lib.hid (HB0.out.trans (hb.mono HB0.out.size)); have hk1 := (hb.block _ (heap_lt HK0.out)).trans HK0.out; obtain ⟨d0, d1, d2, d3⟩ := cells4 hk1; clear hb hk1)
      | (go_at_call 104; (with_reducible refine (HJ2.out _ HB1.out).mono ?_); rintro e w2 ⟨_, rfl, hb⟩; have HB2 := Lib.hid (HB1.out.trans (hb.mono HB1.out.size)); clear hb))
    go_ret2
    exact puts_bad HE.out HZ.out HB2.out
  have HE := Lib.hid (ferr_code hf hj)
  have HJ2 := Lib.hid (fun W hb => (HJ.out W hb).mono fun e w' hh => (hh.resolve_left (fun h => h.1 hj)).2)
  clear hf hj HJ
  obtain ⟨n, hn⟩ : ∃ n, n = l.length := ⟨_, rfl⟩
  have HN := Lib.hid hn
  rw [← hn] at hm HCw HJ2 HF HK0 HB0 c0 c1 c2 c3 ⊢
  clear hn
  go_enter Tryz.func82, Tryz.ntmps82
  go_wp2_with (first
    | (go_at_call 103; (with_reducible refine (HF.out _).mono ?_); rintro e w1 ⟨rfl, hb⟩; have HB1 := Lib.hid (HB0.out.trans (hb.mono HB0.out.size)); have hk1 := (hb.block _ (heap_lt HK0.out)).trans HK0.out; have HK1 := Lib.hid hk1; obtain ⟨d0, d1, d2, d3⟩ := cells4 hk1; clear hb hk1)
    | (go_at_call 104; (with_reducible refine (HJ2.out _ HB1.out).mono ?_); rintro e w2 ⟨v2, rfl, ho⟩; have HB2 := Lib.hid (HB1.out.trans (ho.bel.mono HB1.out.size)); have hk2 := (ho.bel.block _ (heap_lt HK1.out)).trans HK1.out; have HK2 := Lib.hid hk2; have HO2 := Lib.hid (ho.up HB1.out); obtain ⟨e0, e1, e2, e3⟩ := cells4 hk2; clear ho hk2))
  go_loopw [24] (fun i wr => ∃ k : Nat, k ≤ n ∧ i = .int .i64 k ∧ Hid (firstC r a (l.take k) = 0 ∧ Below w2.heap.size w2 wr)) (fun i _ => n - (intOf i).toNat)
  case atStart => exact ⟨0, by omega, rfl, ⟨rfl, Below.refl _ _⟩⟩
  case round =>
    obtain ⟨k, hk, rfl, HR⟩ := hrel
    obtain ⟨h0, hb⟩ := HR.out
    have H0 := Lib.hid h0
    have HBr := Lib.hid hb
    clear HR h0 hb
    by_cases hlt : k < n
    · have hkl : k < l.length := by rw [← HN.out]; exact hlt
      have hbw := HB2.out.trans (HBr.out.mono HB2.out.size)
      obtain ⟨b, off, cap', hV, hcp, hbB, hcl⟩ := (HCw.out _ hbw).plain (by omega)
      rw [← HN.out] at hV
      cases hV
      obtain ⟨X, hX, hcell⟩ := hcl k hkl
      have HTK := Lib.hid (code_take l hkl)
      have HST := Lib.hid (fun h => first_at8 (r := r) (a := a) l hkl H0.out h)
      obtain ⟨⟨op, a', b1, c, n1, args⟩, hy⟩ : ∃ y, y = l.getD k .zero := ⟨_, rfl⟩
      rw [← hy] at hX hcell HTK HST
      have f0 : wr.cell? ⟨b, off + k * 6, none⟩ = some (.int .i64 op) := hcell 0 (by omega)
      have f1 : wr.cell? ⟨b, off + k * 6 + 1, none⟩ = some (.int .i64 a') := hcell 1 (by omega)
      have f2 : wr.cell? ⟨b, off + k * 6 + 2, none⟩ = some (.int .i64 b1) := hcell 2 (by omega)
      have f3 : wr.cell? ⟨b, off + k * 6 + 3, none⟩ = some (.int .i64 c) := hcell 3 (by omega)
      have f4 : wr.cell? ⟨b, off + k * 6 + 4, none⟩ = some (.int .i64 n1) := hcell 4 (by omega)
      have f5 : wr.cell? ⟨b, off + k * 6 + 5, none⟩ = some X := hcell 5 (by omega)
      have ha := (Below.refl wr.heap.size wr).alloc (Nat.le_refl _) (.cells (insCells op a' b1 c n1 X) 28)
      have HCk := Lib.hid (check_any op a' b1 c n1 X args r a _ ((hX.below ha (Nat.le_refl _)).more ha.size))
      have HBa := Lib.hid (HBr.out.trans (ha.mono HBr.out.size))
      have hk3 := ((HBr.out.block _ (heap_lt HK2.out)).trans HK2.out)
      obtain ⟨g0, g1, g2, g3⟩ := cells4 ((ha.block _ (heap_lt hk3)).trans hk3)
      obtain ⟨XA, Xc, rfl⟩ := hX.len
      have k0 : (0 : Int) ≤ (k : Int) := by omega
      have k1 : (k : Int) < (n : Int) := by omega
      clear hcell hX ha hy hcl hcp hbw hk3
      by_cases hz : InsV.err ⟨op, a', b1, c, n1, args⟩ r a = 0
      · have hz' : checkV op a' b1 c n1 args r a = 0 := hz
        rw [hz'] at HCk
        have HFs := Lib.hid (show firstC r a (l.take (k + 1)) = 0 by rw [HTK.out]; exact first_snoc8 _ _ H0.out hz)
        clear hz hz' HST
        go_wp2_with (go_at_call 105; (with_reducible refine HCk.out.mono ?_); rintro e w3 ⟨rfl, hb⟩; have HB3 := Lib.hid (HBa.out.trans (hb.mono HBa.out.size)); clear hb)
        go_roundw
        case rel => exact ⟨k + 1, by omega, by go_num, ⟨HFs.out, HB3.out⟩⟩
        case measure => simp [intOf]; omega
      · have HZ := Lib.hid hz
        have HFe := Lib.hid (HE.out.trans (HST.out hz))
        have hzv : InsV.err ⟨op, a', b1, c, n1, args⟩ r a = checkV op a' b1 c n1 args r a := rfl
        rw [hzv] at HFe HZ hz
        generalize checkV op a' b1 c n1 args r a = z at HCk HFe HZ hz
        have hne : (z != 0) = true := by simpa using hz
        clear hz hzv HST
        go_wp2_with (go_at_call 105; (with_reducible refine HCk.out.mono ?_); rintro e w3 ⟨rfl, hb⟩; have HB3 := Lib.hid (HB2.out.trans ((HBa.out.trans (hb.mono HBa.out.size)).mono HB2.out.size)); clear hb)
        go_ret2
        exact puts_bad HFe.out HZ.out HB3.out
    · obtain rfl : k = n := by omega
      have htk : l.take k = l := by rw [HN.out]; exact List.take_length
      have hfe := H0.out
      rw [htk] at hfe
      have HFe := Lib.hid (HE.out.trans hfe)
      have HOe := Lib.hid (OutB.mk (HO2.out.own.below HBr.out (Nat.le_refl _)) (HB2.out.trans (HBr.out.mono HB2.out.size)))
      clear htk hfe
      go_wp2
      go_ret2
      exact puts_good HFe.out HOe.out
set_option maxRecDepth 100000 in
set_option maxHeartbeats 4000000 in
theorem functions_any (DA : Option Addr) (dn dc : Nat) (F : Value) (fs : List FunV) (w : World) (h : IsFuns w w.heap.size F fs) (hs : fs.length ≤ 100000) :
    Calls Tryz.prog 45 #[.agg #[.slice DA dn dc, F]] w fun e w' => ∃ V Cs, e = .returned V ∧ OwnF 82 w.heap.size w' V fs Cs ∧ Below w.heap.size w w' := by
  have HF := Lib.hid h
  obtain ⟨A, cap, hFe⟩ := h.len
  subst hFe
  obtain ⟨n, hn⟩ : ∃ n, n = fs.length := ⟨_, rfl⟩
  have HN := Lib.hid hn
  rw [← hn] at hs HF ⊢
  have hB0 : Below w.heap.size w (w.alloc (.cells #[.slice DA dn dc, .slice A n cap] 25)) := (Below.refl _ w).alloc (Nat.le_refl _) _
  have HB0 := Lib.hid hB0
  obtain ⟨c0, c1⟩ := cells2 (heap_alloc_new w (.cells #[.slice DA dn dc, .slice A n cap] 25))
  clear h hn hB0
  go_enter Tryz.func45, Tryz.ntmps45
  go_wp2
  go_loopw [3, 9] (fun out i wr => ∃ (k : Nat) (Cs : List Value), k ≤ n ∧ i = .int .i64 k ∧ Hid (OwnF 82 w.heap.size wr out (fs.take k) Cs ∧ Below w.heap.size w wr)) (fun _ i _ => n - (intOf i).toNat)
  case atStart => exact ⟨0, [], by omega, rfl, ⟨OwnF.nil _ _ _, HB0.out⟩⟩
  case round =>
    obtain ⟨k, Cs, hk, rfl, HR⟩ := hrel
    obtain ⟨ho, hb⟩ := HR.out
    have HO := Lib.hid ho
    have HB := Lib.hid hb
    obtain ⟨oA, oc, hoe⟩ := owns_len ho.own
    subst hoe
    clear HR ho
    by_cases hlt : k < n
    · have hkl : k < fs.length := by rw [← HN.out]; exact hlt
      obtain ⟨b, off, cap', hV, hcp, hbB, hcl⟩ := HF.out.plain (by omega)
      rw [← HN.out] at hV
      cases hV
      obtain ⟨C, hC, hcell⟩ := hcl k hkl
      have hcl' : ∀ j, j < 4 → wr.cell? ⟨b, off + k * 4 + j, none⟩ = some (funCell (fs.getD k .zero) C j) := fun j hj => (hb.cell (p := ⟨b, off + k * 4 + j, none⟩) hbB).trans (hcell j hj)
      have HTK := Lib.hid (funs_take fs hkl)
      have hin := funs_getD HF.out hkl
      have hlk : (fs.take k).length = k := by rw [List.length_take]; omega
      obtain ⟨⟨p, r, a, c⟩, hy⟩ : ∃ y, y = fs.getD k .zero := ⟨_, rfl⟩
      rw [← hy] at hC hcl' HTK hin
      dsimp only at hC
      have f0 : wr.cell? ⟨b, off + k * 4, none⟩ = some (.int .i64 p) := hcl' 0 (by omega)
      have f1 : wr.cell? ⟨b, off + k * 4 + 1, none⟩ = some (.int .i64 r) := hcl' 1 (by omega)
      have f2 : wr.cell? ⟨b, off + k * 4 + 2, none⟩ = some (.int .i64 a) := hcl' 2 (by omega)
      have f3 : wr.cell? ⟨b, off + k * 4 + 3, none⟩ = some C := hcl' 3 (by omega)
      have ha := (Below.refl wr.heap.size wr).alloc (Nat.le_refl _) (.cells #[.int .i64 p, .int .i64 r, .int .i64 a, C] 53)
      have HO2 := Lib.hid (HO.out.below ha (Nat.le_refl _))
      have HB2 := Lib.hid (HB.out.trans (ha.mono HB.out.size))
      have HC2 := Lib.hid (show CodeAt w.heap.size (wr.alloc (.cells #[.int .i64 p, .int .i64 r, .int .i64 a, C] 53)) C c from .inl ⟨w.heap.size, Nat.le_refl _, HB2.out.size, hC.below HB2.out (Nat.le_refl _) (Nat.le_refl _)⟩)
      have HIN := Lib.hid hin
      have HLK := Lib.hid hlk
      obtain ⟨CA, Cc, rfl⟩ := hC.len
      have k0 : (0 : Int) ≤ (k : Int) := by omega
      have k1 : (k : Int) < (n : Int) := by omega
      clear hcl' hcell hC hy hcl hcp hin hlk hkl ha hb
      generalize fs.take k = lk at *
      go_wp2_with (at_builtin; refine wpList_outG rfl _ _ rfl (f := ⟨p, r, a, c⟩) rfl rfl (by simp) HO2.out HC2.out HIN.out HB2.out.size (by have := HLK.out; omega) ?_; intro V3 w3 hm; have HM := Lib.hid hm; clear hm)
      go_roundw
      case rel => exact ⟨k + 1, _, by omega, by go_num, ⟨by rw [HTK.out]; exact HM.out.own, HB2.out.trans HM.out.bel⟩⟩
      case measure => simp [intOf]; omega
    · obtain rfl : k = n := by omega
      have htk : fs.take k = fs := by rw [HN.out]; exact List.take_length
      have HTE := Lib.hid htk
      clear htk hb
      go_wp2
      go_ret
      have HOO := HO.out
      generalize Value.slice oA (fs.take k).length oc = U at HOO ⊢
      rw [HTE.out] at HOO
      exact ⟨_, _, rfl, HOO, HB.out⟩
end Go.Proofs.YtohlifeenhaifaaGreatDoor

/- (Mod08D) Rows of rows of bytes; bytes that are appended, none of them too; the landed module's codes, Check. Contracts; no condition but that what is handed in lies in memory. -/
namespace Go.Proofs.YtohlifeenhaifaaGreatDoor
open Go.RowKit Go.Shelf
set_option linter.unusedVariables false
set_option linter.unusedSimpArgs false

/-- Rows of bytes, in a row. -/
def IsRows (w : World) (B : Nat) (V : Value) (l : List (List Int)) : Prop :=
  l.length ≤ maxLen ∧ ((l = [] ∧ ∃ a cap, V = .slice a 0 cap) ∨
    ∃ b off cap, V = .slice (some ⟨b, off, none⟩) l.length cap ∧ l.length ≤ cap ∧ b < B ∧ ∀ i, i < l.length → ∃ X, IsBytes w B X (l.getD i []) ∧ w.cell? ⟨b, off + i, none⟩ = some X)
theorem IsRows.len {w : World} {B : Nat} {V : Value} {l : List (List Int)} (h : IsRows w B V l) : ∃ a cap, V = .slice a l.length cap := by
  rcases h.2 with ⟨rfl, a, cap, h⟩ | ⟨b, off, cap, h, _⟩
  · exact ⟨a, cap, h⟩
  · exact ⟨_, cap, h⟩
theorem IsRows.below {w w' : World} {B B' : Nat} {V : Value} {l : List (List Int)} (h : IsRows w B V l) (hb : Below B' w w') (hB : B ≤ B') : IsRows w' B V l := by
  refine ⟨h.1, ?_⟩
  rcases h.2 with h0 | ⟨b, off, cap, h1, h2, h3, h4⟩
  · exact .inl h0
  · refine .inr ⟨b, off, cap, h1, h2, h3, fun i hi => ?_⟩
    obtain ⟨X, hX, hc⟩ := h4 i hi
    exact ⟨X, hX.below hb hB, (hb.cell (p := ⟨b, off + i, none⟩) (Nat.lt_of_lt_of_le h3 hB)).trans hc⟩
theorem IsRows.more {w : World} {B B' : Nat} {V : Value} {l : List (List Int)} (h : IsRows w B V l) (hB : B ≤ B') : IsRows w B' V l := by
  refine ⟨h.1, ?_⟩
  rcases h.2 with h0 | ⟨b, off, cap, h1, h2, h3, h4⟩
  · exact .inl h0
  · exact .inr ⟨b, off, cap, h1, h2, Nat.lt_of_lt_of_le h3 hB, fun i hi => by
      obtain ⟨X, hX, hc⟩ := h4 i hi
      exact ⟨X, hX.more hB, hc⟩⟩
theorem IsRows.grow {w w' : World} {V : Value} {l : List (List Int)} (h : IsRows w w.heap.size V l) (hb : Below w.heap.size w w') : IsRows w' w'.heap.size V l := (h.below hb (Nat.le_refl _)).more hb.size
theorem IsRows.plain {w : World} {B : Nat} {V : Value} {l : List (List Int)} (h : IsRows w B V l) (hn : 0 < l.length) :
    ∃ b off cap, V = .slice (some ⟨b, off, none⟩) l.length cap ∧ l.length ≤ cap ∧ b < B ∧ ∀ i, i < l.length → ∃ X, IsBytes w B X (l.getD i []) ∧ w.cell? ⟨b, off + i, none⟩ = some X := by
  rcases h.2 with ⟨rfl, _⟩ | h0
  · simp at hn
  · exact h0
/-- Rows of bytes that a call makes by append. -/
structure OwnS (base : Nat) (W : World) (V : Value) (l : List (List Int)) (Xs : List Value) : Prop where
  own : Owns W base 22 1 AnyCell V l.length Xs
  len : Xs.length = l.length
  nums : ∀ i, i < l.length → Owns W 0 5 1 IsU8 (Xs.getD i (.slice none 0 0)) (l.getD i []).length ((l.getD i []).map (Value.int .u8))
  bd : ∀ xs ∈ l, ∀ x ∈ xs, 0 ≤ x ∧ x < 256
theorem OwnS.nil (base : Nat) (W : World) : OwnS base W (.slice none 0 0) [] [] := ⟨Owns.nil _ _ _ _ _, rfl, fun i hi => absurd hi (by simp), by simp⟩
theorem OwnS.below {base B : Nat} {W W' : World} {V : Value} {l : List (List Int)} {Xs : List Value} (h : OwnS base W V l Xs) (hb : Below B W W') (hB : W.heap.size ≤ B) : OwnS base W' V l Xs :=
  ⟨h.own.below hb hB, h.len, fun i hi => Owns.below (h.nums i hi) hb hB, h.bd⟩
theorem add_plain (g i : Nat) : (⟨g, 0, none⟩ : Addr).add i = ⟨g, 0 + i, none⟩ := by unfold Addr.add; split <;> simp_all
theorem OwnS.rows {base : Nat} {W : World} {V : Value} {l : List (List Int)} {Xs : List Value} (h : OwnS base W V l Xs) (hl : l.length ≤ 1000000) : IsRows W W.heap.size V l := by
  refine ⟨by unfold maxLen; omega, ?_⟩
  rcases h.own.1.2 with ⟨rfl, h0⟩ | ⟨g, cap, cur, rfl, h1, h2, h3, h4, h5, h6⟩
  · exact .inl ⟨List.eq_nil_of_length_eq_zero h0, none, 0, rfl⟩
  · refine .inr ⟨g, 0, cap, rfl, h3, (h.own.lt (g := g) (by simp [Value.ownBlock])).2, fun i hi => ⟨Xs.getD i (.slice none 0 0), IsBytes.of_owns (h.nums i hi) (h.bd _ ?_) (Nat.le_refl _), ?_⟩⟩
    · have e : l.getD i [] = l[i] := by simp [List.getD, List.getElem?_eq_getElem hi]
      rw [e]
      exact List.getElem_mem hi
    · have hx : Xs[i]? = some (Xs.getD i (.slice none 0 0)) := by simp [List.getD, List.getElem?_eq_getElem (show i < Xs.length by rw [h.len]; exact hi)]
      rw [← add_plain]
      exact h.own.1.cells (g := g) rfl i _ hx
theorem row_info : (Tryz.prog.info? 22).map (fun i => (i.zero, i.size, i.bytes)) = some (some (.slice none 0 0), 1, 24) := by kernel_rfl
/-- An append of one row of bytes, at the operation. -/
theorem wpList_outS {W : World} {ops : Array Oper} {rest : List Oper} {o : Oper} {a : Act} {Q : Exit → Act → World → Prop} (hgd : o.guard = none) (s x : Operand)
    (ho : o.op = .call { callee := .builtin .append, args := #[s, x], argTypes := #[86, 86] }) {V X : Value} {l : List (List Int)} {Xs : List Value} {xs : List Int} {base b0 g : Nat} (hs : a.eval s = V) (hx : a.eval x = .slice (some ⟨g, 0, none⟩) 1 1) (hgs : g = W.heap.size)
    (h : OwnS base W V l Xs) (hX : Owns W b0 5 1 IsU8 X xs.length (xs.map (Value.int .u8))) (hX1 : X.oneCell' = true) (hbd : ∀ x ∈ xs, 0 ≤ x ∧ x < 256) (hb : base ≤ W.heap.size) (hl : l.length ≤ 1000000)
    (hK : ∀ V' W', OwnS base W' V' (l ++ [xs]) (Xs ++ [X]) → Below base W W' → W.heap.size ≤ W'.heap.size → wpList Tryz.prog ops Q rest (a.put o.dst V') W') :
    wpList Tryz.prog ops Q (o :: rest) a (W.alloc (.cells #[X] 22)) := by
  subst hgs
  obtain ⟨i, hi, h1, h2, h3⟩ := info_parts row_info
  have ha : Below W.heap.size W (W.alloc (.cells #[X] 22)) := (Below.refl W.heap.size W).alloc (Nat.le_refl _) _
  have hg := Owns.below h.own ha (Nat.le_refl _)
  refine wpList_append_q _ hgd s x 86 ho base 22 i _ 1 24 Tryz.underlying86 hi h1 h2 h3 rfl (by decide) AnyCell (fun _ _ => trivial) V l.length Xs hs hg ⟨W.heap.size, 0, none⟩ 1 1 [X] hx rfl (news_one _ _ _) (by intro u hu; simp at hu; subst hu; exact hX1) (fun _ _ => trivial) (by unfold maxLen; omega) (by omega) (by simp; omega) ?_
  intro V' W' ho' hg'
  have e : World.grownBy (W.alloc (.cells #[X] 22)) W' V.ownBlock := hg'
  have hblk : ∀ i, i < W.heap.size → some i ≠ V.ownBlock → W'.heap[i]? = W.heap[i]? := fun i hi hn => (e.block i (by simp; omega) hn).trans (ha.block i hi)
  have hsz : W.heap.size ≤ W'.heap.size := Nat.le_trans (by simp) e.size
  have hkeep : ∀ (bs : Nat) (v : Value) (n : Nat) (ys : List Value), Owns W bs 5 1 IsU8 v n ys → Owns W' bs 5 1 IsU8 v n ys := fun bs v n ys hv => by
    refine hv.of_blocks (fun g hg => hblk g (hv.lt hg).2 (fun e' => ?_)) hsz
    obtain ⟨c1, h1⟩ := hv.typed hg
    obtain ⟨c2, h2⟩ := h.own.typed e'.symm
    rw [h1] at h2
    injection h2 with h2
    injection h2 with _ h2 _
    exact absurd h2 (by decide)
  refine hK V' W' ⟨by rw [List.length_append]; exact ho', by simp [h.len], fun i hi => ?_, fun z hz => ?_⟩ ((ha.mono hb).grown e (by simp; omega) fun j hj => (h.own.lt hj).1) hsz
  · rw [List.length_append] at hi
    simp only [List.length_cons, List.length_nil, Nat.zero_add] at hi
    rw [getD_snoc l xs [] hi, getD_snoc Xs X _ (by rw [h.len]; exact hi), h.len]
    by_cases hlt : i < l.length
    · rw [if_pos hlt, if_pos hlt]
      exact hkeep _ _ _ _ (h.nums i hlt)
    · rw [if_neg hlt, if_neg hlt]
      exact hkeep _ _ _ _ (Owns.base hX (Nat.zero_le _))
  · rcases List.mem_append.1 hz with hz | hz
    · exact h.bd z hz
    · simp at hz; subst hz; exact hbd
theorem OwnS.lower {base base' : Nat} {W : World} {V : Value} {l : List (List Int)} {Xs : List Value} (h : OwnS base W V l Xs) (hb : base' ≤ base) : OwnS base' W V l Xs := ⟨Owns.base h.own hb, h.len, h.nums, h.bd⟩
theorem firstF_at : ∀ (l : List FunV) {k : Nat}, k < l.length → firstF (l.take k) = 0 → (l.getD k .zero).err ≠ 0 → firstF l = (l.getD k .zero).err
  | [], k, hk, _, _ => absurd hk (by simp)
  | y :: l, 0, _, _, h => by
    simp only [List.getD_cons_zero] at h ⊢
    simp only [firstF, if_neg h]
  | y :: l, k + 1, hk, h0, h => by
    simp only [List.take_succ_cons, firstF] at h0
    by_cases hy : y.err = 0
    · rw [if_pos hy] at h0
      simp only [firstF, if_pos hy, List.getD_cons_succ] at h ⊢
      exact firstF_at l (by simpa using hk) h0 h
    · rw [if_neg hy] at h0
      exact absurd h0 hy
theorem firstF_snoc : ∀ (l : List FunV) (y : FunV), firstF l = 0 → y.err = 0 → firstF (l ++ [y]) = 0
  | [], y, _, h => by simp [firstF, h]
  | z :: l, y, h0, h => by
    simp only [List.cons_append, firstF] at h0 ⊢
    by_cases hz : z.err = 0
    · rw [if_pos hz] at h0 ⊢
      exact firstF_snoc l y h0 h
    · rw [if_neg hz] at h0
      exact absurd h0 hz
theorem allB_bd (l : List InsV) : ∀ x ∈ allB l, 0 ≤ x ∧ x < 256 := by
  intro x hx
  obtain ⟨y, _, hy⟩ := List.mem_flatMap.1 hx
  exact InsV.bytes_bd y x hy
/-- The functions' code, as bytes; or an error. -/
def rowsV (fs : List FunV) : List (List Int) := fs.map (fun f => allB f.code)
def CodesI (w : World) (m : ModV) (e : Ending) (w' : World) : Prop :=
  (m.err ≠ 0 ∧ e = .returned (.tuple #[.slice none 0 0, .int .i64 m.err]) ∧ Below w.heap.size w w') ∨
  (m.err = 0 ∧ ∃ V Xs, e = .returned (.tuple #[V, .int .i64 0]) ∧ OwnS w.heap.size w' V (rowsV m.funcs) Xs ∧ Below w.heap.size w w')
theorem codes_bad {w w' : World} {m : ModV} {z : Int} (h : m.err = z) (h0 : z ≠ 0) (hb : Below w.heap.size w w') : CodesI w m (.returned (.tuple #[.slice none 0 0, .int .i64 z])) w' := .inl ⟨by rw [h]; exact h0, by rw [h], hb⟩
theorem codes_good {w w' : World} {m : ModV} {V : Value} {Xs : List Value} (h : m.err = 0) (ho : OwnS w.heap.size w' V (rowsV m.funcs) Xs) (hb : Below w.heap.size w w') : CodesI w m (.returned (.tuple #[V, .int .i64 0])) w' := .inr ⟨h, V, Xs, rfl, ho, hb⟩
theorem merr_data {data : List Int} {fs : List FunV} (h : 8192 < data.length) : (ModV.mk data fs).err = 3 := by unfold ModV.err; rw [if_pos h]
theorem merr_some {data : List Int} {fs : List FunV} (h : ¬ 8192 < data.length) (h2 : someV fs.length = false) : (ModV.mk data fs).err = 2 := by unfold ModV.err; rw [if_neg h, if_neg (by simp [h2])]
theorem merr_funs {data : List Int} {fs : List FunV} (h : ¬ 8192 < data.length) (h2 : someV fs.length = true) : (ModV.mk data fs).err = firstF fs := by unfold ModV.err; rw [if_neg h, if_pos h2]
set_option maxRecDepth 100000 in
set_option maxHeartbeats 4000000 in
theorem codes_any (D F : Value) (data : List Int) (fs : List FunV) (w : World) (hD : IsBytes w w.heap.size D data) (hF : IsFuns w w.heap.size F fs) :
    Calls Tryz.prog 47 #[.agg #[D, F]] w (CodesI w ⟨data, fs⟩) := by
  have hFl := hF.1
  have hDl := hD.2.1
  unfold maxLen at hFl hDl
  have HFw := Lib.hid (fun W (hb : Below w.heap.size w W) => hF.grow hb)
  obtain ⟨DA, dc, hDe⟩ := hD.len
  obtain ⟨FA, fc, hFe⟩ := hF.len
  subst hDe hFe
  have hB0 : Below w.heap.size w (w.alloc (.cells #[.slice DA data.length dc, .slice FA fs.length fc] 25)) := (Below.refl _ w).alloc (Nat.le_refl _) _
  have HB0 := Lib.hid hB0
  have hk0 := heap_alloc_new w (.cells #[.slice DA data.length dc, .slice FA fs.length fc] 25)
  have HK0 := Lib.hid hk0
  obtain ⟨c0, c1⟩ := cells2 hk0
  clear hB0 hk0 hD hF
  by_cases hd : 8192 < data.length
  · have HE := Lib.hid (merr_data (fs := fs) hd)
    have hdI : (8192 : Int) < (data.length : Int) := by omega
    clear hd
    go_enter Tryz.func47, Tryz.ntmps47
    go_wp2
    go_ret2
    exact codes_bad HE.out (by decide) HB0.out
  have hdI : ¬ (8192 : Int) < (data.length : Int) := by omega
  have HSm := Lib.hid (fun W => some_any fs.length W)
  cases hs : someV fs.length
  · have HE := Lib.hid (merr_some hd hs)
    rw [hs] at HSm
    clear hd hs
    go_enter Tryz.func47, Tryz.ntmps47
    go_wp2_with (go_at_call 81; (with_reducible refine (HSm.out _).mono ?_); rintro e w1 ⟨rfl, rfl⟩)
    go_ret2
    exact codes_bad HE.out (by decide) HB0.out
  have hs64 : fs.length ≤ 64 := by have := of_decide_eq_true hs; omega
  have HE := Lib.hid (merr_funs hd hs)
  rw [hs] at HSm
  clear hd hs
  have HFu := Lib.hid (fun W (hb : Below w.heap.size w W) => functions_any DA data.length dc (.slice FA fs.length fc) fs W (HFw.out W hb) (by omega))
  obtain ⟨n, hn⟩ : ∃ n, n = fs.length := ⟨_, rfl⟩
  have HN := Lib.hid hn
  rw [← hn] at hs64 HFw HSm HFu HK0 HB0 c0 c1 hFl ⊢
  clear hn
  go_enter Tryz.func47, Tryz.ntmps47
  go_wp2_with (first
    | (go_at_call 81; (with_reducible refine (HSm.out _).mono ?_); rintro e w1 ⟨rfl, rfl⟩)
    | (go_at_call 45; (with_reducible refine (HFu.out _ HB0.out).mono ?_); rintro e w2 ⟨V2, Cs2, rfl, ho, hb⟩; have HB2 := Lib.hid (HB0.out.trans (hb.mono HB0.out.size)); obtain ⟨oA, oc, hoe⟩ := owns_len ho.own; have hfu := ho.funs (by rw [← HN.out]; omega); subst hoe; have HFR := Lib.hid hfu; rw [← HN.out] at HFR ⊢; clear ho hb hfu))
  go_loopw [4, 21] (fun all i wr => ∃ (k : Nat) (Xs : List Value), k ≤ n ∧ i = .int .i64 k ∧ Hid (firstF (fs.take k) = 0 ∧ OwnS w2.heap.size wr all (rowsV (fs.take k)) Xs ∧ Below w2.heap.size w2 wr)) (fun _ i _ => n - (intOf i).toNat)
  case atStart => exact ⟨0, [], by omega, rfl, ⟨rfl, OwnS.nil _ _, Below.refl _ _⟩⟩
  case round =>
    obtain ⟨k, Xs, hk, rfl, HR⟩ := hrel
    obtain ⟨h0, ho, hb⟩ := HR.out
    have H0 := Lib.hid h0
    have HO := Lib.hid ho
    have HBr := Lib.hid hb
    obtain ⟨aA, ac, hae⟩ := owns_len ho.own
    subst hae
    clear HR h0 ho hb
    by_cases hlt : k < n
    · have hkl : k < fs.length := by rw [← HN.out]; exact hlt
      have hfr := HFR.out.grow HBr.out
      obtain ⟨b, off, cap', hV, hcp, hbB, hcl⟩ := hfr.plain (by omega)
      rw [← HN.out] at hV
      cases hV
      obtain ⟨C, hC, hcell⟩ := hcl k hkl
      have HTK := Lib.hid (funs_take fs hkl)
      have HST := Lib.hid (fun h => firstF_at fs hkl H0.out h)
      have hlk : (rowsV (fs.take k)).length = k := by unfold rowsV; rw [List.length_map, List.length_take]; omega
      have HLK := Lib.hid hlk
      obtain ⟨⟨p, r, a, c⟩, hy⟩ : ∃ y, y = fs.getD k .zero := ⟨_, rfl⟩
      rw [← hy] at hC hcell HTK HST
      dsimp only at hC
      have f0 : wr.cell? ⟨b, off + k * 4, none⟩ = some (.int .i64 p) := hcell 0 (by omega)
      have f1 : wr.cell? ⟨b, off + k * 4 + 1, none⟩ = some (.int .i64 r) := hcell 1 (by omega)
      have f2 : wr.cell? ⟨b, off + k * 4 + 2, none⟩ = some (.int .i64 a) := hcell 2 (by omega)
      have f3 : wr.cell? ⟨b, off + k * 4 + 3, none⟩ = some C := hcell 3 (by omega)
      have ha := (Below.refl wr.heap.size wr).alloc (Nat.le_refl _) (.cells #[.int .i64 p, .int .i64 r, .int .i64 a, C] 82)
      have HFc := Lib.hid (fcode_any p r a C c _ (hC.grow ha))
      have HBa := Lib.hid (HBr.out.trans (ha.mono HBr.out.size))
      have HO2 := Lib.hid (HO.out.below ha (Nat.le_refl _))
      obtain ⟨CA, Cc, rfl⟩ := hC.len
      have k0 : (0 : Int) ≤ (k : Int) := by omega
      have k1 : (k : Int) < (n : Int) := by omega
      clear hcell hC ha hy hcl hcp hfr hlk
      by_cases hz : FunV.err ⟨p, r, a, c⟩ = 0
      · rw [hz] at HFc
        have HFs := Lib.hid (show firstF (fs.take (k + 1)) = 0 by rw [HTK.out]; exact firstF_snoc _ _ H0.out hz)
        have HRw := Lib.hid (show rowsV (fs.take (k + 1)) = rowsV (fs.take k) ++ [allB c] by rw [HTK.out]; simp [rowsV])
        have HBD := Lib.hid (allB_bd c)
        clear hz HST
        rw [show goodB 0 (allB c) = allB c from rfl] at HFc
        generalize rowsV (fs.take k) = lk at *
        go_wp2_with (first
          | (go_at_call 82; (with_reducible refine HFc.out.mono ?_); rintro e w3 ⟨V3, rfl, hw⟩; have HW3 := Lib.hid hw.own; have HB3 := Lib.hid (HBa.out.trans (hw.bel.mono HBa.out.size)); have HO3 := Lib.hid (HO2.out.below hw.bel (Nat.le_refl _)); obtain ⟨vA, vc, hve⟩ := owns_len hw.own; subst hve; clear hw)
          | (at_builtin; refine wpList_outS rfl _ _ rfl rfl rfl (by simp) HO3.out HW3.out rfl HBD.out HB3.out.size (by have := HLK.out; omega) ?_; intro V4 w4 ho hb hsz; have HO4 := Lib.hid ho; have HB4 := Lib.hid (HB3.out.trans hb); clear ho hb hsz))
        go_roundw
        case rel => exact ⟨k + 1, _, by omega, by go_num, ⟨HFs.out, by rw [HRw.out]; exact HO4.out, HB4.out⟩⟩
        case measure => simp [intOf]; omega
      · have HZ := Lib.hid hz
        have HFe := Lib.hid (HE.out.trans (HST.out hz))
        generalize FunV.err ⟨p, r, a, c⟩ = z at HFc HFe HZ hz
        have hne : (z != 0) = true := by simpa using hz
        clear hz HST
        go_wp2_with (go_at_call 82; (with_reducible refine HFc.out.mono ?_); rintro e w3 ⟨V3, rfl, hw⟩; have HB3 := Lib.hid (HB2.out.trans ((HBa.out.trans (hw.bel.mono HBa.out.size)).mono HB2.out.size)); clear hw)
        go_ret2
        exact codes_bad HFe.out HZ.out HB3.out
    · obtain rfl : k = n := by omega
      have htk : fs.take k = fs := by rw [HN.out]; exact List.take_length
      have hfe := H0.out
      rw [htk] at hfe HO
      have HFe := Lib.hid (HE.out.trans hfe)
      have HBe := Lib.hid (HB2.out.trans (HBr.out.mono HB2.out.size))
      clear htk hfe
      have hll : (rowsV (fs.take k)).length = (rowsV fs).length := by rw [show fs.take k = fs by rw [HN.out]; exact List.take_length]
      rw [hll]
      clear hll
      go_wp2
      go_ret2
      exact codes_good HFe.out (HO.out.lower HB2.out.size) HBe.out
set_option maxHeartbeats 2000000 in
theorem check8_any (D F : Value) (data : List Int) (fs : List FunV) (w : World) (hD : IsBytes w w.heap.size D data) (hF : IsFuns w w.heap.size F fs) :
    Calls Tryz.prog 24 #[.agg #[D, F]] w (Makes w (.int .i64 (ModV.mk data fs).err)) := by
  obtain ⟨DA, dc, hDe⟩ := hD.len
  obtain ⟨FA, fc, hFe⟩ := hF.len
  have hB0 : Below w.heap.size w (w.alloc (.cells #[D, F] 25)) := (Below.refl _ w).alloc (Nat.le_refl _) _
  have HB0 := Lib.hid hB0
  have HC := Lib.hid (codes_any D F data fs _ (hD.grow hB0) (hF.grow hB0))
  have hk0 := heap_alloc_new w (.cells #[D, F] 25)
  obtain ⟨c0, c1⟩ := cells2 hk0
  subst hDe hFe
  generalize ModV.mk data fs = m at *
  clear hB0 hk0 hD hF
  by_cases hz : m.err = 0
  · have HC2 := Lib.hid (HC.out.mono fun e w' hh => (hh.resolve_left (fun h => h.1 hz)).2)
    have HZ := Lib.hid hz
    clear hz HC
    go_enter Tryz.func24, Tryz.ntmps24
    go_wp2_with (go_at_call 47; (with_reducible refine HC2.out.mono ?_); rintro e w1 ⟨V, Xs, rfl, _, hb⟩; have HB1 := Lib.hid (HB0.out.trans (hb.mono HB0.out.size)); clear hb)
    go_ret
    exact ⟨ret_int HZ.out.symm, HB1.out⟩
  · have HC2 := Lib.hid (HC.out.mono fun e w' hh => (hh.resolve_right (fun h => hz h.1)).2)
    clear hz HC
    go_enter Tryz.func24, Tryz.ntmps24
    go_wp2_with (go_at_call 47; (with_reducible refine HC2.out.mono ?_); rintro e w1 ⟨rfl, hb⟩; have HB1 := Lib.hid (HB0.out.trans (hb.mono HB0.out.size)); clear hb)
    go_ret
    exact ⟨rfl, HB1.out⟩
end Go.Proofs.YtohlifeenhaifaaGreatDoor

/- (Mod08E) The landed module.written and Put: a module's bytes. Contracts; no condition but that what is handed in lies in memory, and, for written, that it is no more than a module may have. -/
namespace Go.Proofs.YtohlifeenhaifaaGreatDoor
open Go.RowKit Go.Shelf
set_option linter.unusedVariables false
set_option linter.unusedSimpArgs false

theorem news_of_bytes {w : World} {ad : Addr} {xs : List Int} (h : ∀ i, i < xs.length → w.cell? (ad.add i) = some (.int .u8 (xs.getD i 0))) : ∀ j u, (xs.map (Value.int .u8))[j]? = some u → w.cell? (ad.add j) = some u := by
  intro j u hu
  obtain ⟨hj, rfl⟩ := List.getElem?_eq_some_iff.1 hu
  simp only [List.length_map] at hj
  rw [h j hj]
  simp [List.getD, List.getElem?_eq_getElem hj]
/-- Append of bytes, none of them too, to bytes that a call has made. -/
theorem append_bytes {w W : World} {ty : TypeId} {B : Nat} {V X : Value} {xs ys : List Int} (h : OutB w W V xs) (hX : IsBytes W B X ys) (hl : xs.length + ys.length ≤ 1000000) :
    ∃ V' W', (Builtin.append_ #[22, 22] ty #[V, X]).run Tryz.prog W = .ok V' W' ∧ OutB w W' V' (xs ++ ys) ∧ ∀ i, i < W.heap.size → some i ≠ V.ownBlock → W'.heap[i]? = W.heap[i]? := by
  obtain ⟨i, hi, h1, h2, h3⟩ := info_parts u8_info
  rcases hX.2.2 with ⟨rfl, rfl⟩ | ⟨ad, cap, rfl, e1, e2, e3⟩
  · refine ⟨V, W, ?_, by simpa using h, fun _ _ _ => rfl⟩
    rcases h.own.1.2 with ⟨rfl, h0⟩ | ⟨g, cap, cur, rfl, _, _, hnc, _⟩
    · simp [Builtin.append_, run_underlying Tryz.underlying22, sizeOf, typeInfo, hi, Builtin.lenOf, Builtin.firstCells]
    · simp [Builtin.append_, run_underlying Tryz.underlying22, sizeOf, typeInfo, hi, Builtin.lenOf, Builtin.firstCells, hnc, storeCells]
  · obtain ⟨V', W', hr, hO, hg⟩ := run_append_q (P := Tryz.prog) W w.heap.size 22 ty 5 i _ 1 1 Tryz.underlying22 hi h1 h2 h3 rfl (by decide) IsU8 zero_u8 V xs.length (xs.map (Value.int .u8)) h.own ad ys.length cap (ys.map (Value.int .u8)) (by simp) (news_of_bytes e3) (by intro u hu; obtain ⟨z, _, rfl⟩ := List.mem_map.1 hu; rfl) (u8_cells hX.1) (by unfold maxLen; omega) (by omega) h.bel.size
    exact ⟨V', W', hr, ⟨by rw [List.length_append, List.map_append]; exact hO, h.bel.grown hg h.bel.size fun j hj => (h.own.lt hj).1⟩, fun i hi hn => hg.block i hi hn⟩
theorem wpList_outX {w W : World} {ops : Array Oper} {rest : List Oper} {o : Oper} {a : Act} {Q : Exit → Act → World → Prop} (hgd : o.guard = none) (s x : Operand)
    (ho : o.op = .call { callee := .builtin .append, args := #[s, x], argTypes := #[22, 22] }) {V X : Value} {xs ys : List Int} {B : Nat} (hs : a.eval s = V) (hx : a.eval x = X) (h : OutB w W V xs)
    (hX : IsBytes W B X ys) (hl : xs.length + ys.length ≤ 1000000)
    (hK : ∀ V' W', OutB w W' V' (xs ++ ys) → (∀ i, i < W.heap.size → some i ≠ V.ownBlock → W'.heap[i]? = W.heap[i]?) → wpList Tryz.prog ops Q rest (a.put o.dst V') W') :
    wpList Tryz.prog ops Q (o :: rest) a W := by
  refine wpList_plain hgd fun _ hK' => ?_
  obtain ⟨V', W', hr, ho', hb'⟩ := append_bytes (ty := o.type) h hX hl
  unfold Oper.wp execOp
  simp only [ho, resolve, invoke, builtin, Sem.run_bind, Sem.run_pure, Result.andThen_ok, List.map_toArray, List.map_cons, List.map_nil, hs, hx, hr]
  exact hK' _ _ (hK V' W' ho' hb')
theorem step_outX {w W : World} {ops : Array Oper} {o : Oper} {a : Act} {K : Act → World → Prop} {Q : Exit → Act → World → Prop} {E : Prop} (hgd : o.guard = none) (s x : Operand)
    (ho : o.op = .call { callee := .builtin .append, args := #[s, x], argTypes := #[22, 22] }) {V X : Value} {xs ys : List Int} {B : Nat} (hs : a.eval s = V) (hx : a.eval x = X) (h : OutB w W V xs)
    (hX : IsBytes W B X ys) (hl : xs.length + ys.length ≤ 1000000)
    (hK : ∀ V' W', OutB w W' V' (xs ++ ys) → (∀ i, i < W.heap.size → some i ≠ V.ownBlock → W'.heap[i]? = W.heap[i]?) → K (a.put o.dst V') W') :
    if Region.wanted o (yielded ops a.tmps) = true then Oper.wp Tryz.prog o a W K Q else E :=
  step_out hgd s x _ ho V X hs hx (fun V' W' => OutB w W' V' (xs ++ ys) ∧ ∀ i, i < W.heap.size → some i ≠ V.ownBlock → W'.heap[i]? = W.heap[i]?) (append_bytes h hX hl) fun V' W' hh => hK V' W' hh.1 hh.2
theorem outB_is {w W : World} {V : Value} {xs : List Int} (h : OutB w W V xs) (hx : ∀ x ∈ xs, 0 ≤ x ∧ x < 256) : IsBytes W W.heap.size V xs := h.bytes hx (Nat.le_refl _)
/-- No more than a function, a module may have. -/
def FewF (fs : List FunV) : Prop := ∀ f ∈ fs, (allB f.code).length ≤ 4096
theorem fun_len (f : FunV) : f.bytes.length = 6 + (allB f.code).length := by
  unfold FunV.bytes
  simp only [List.length_append, bytesV_len]
  omega
theorem allF_snoc (l : List FunV) (f : FunV) : allF (l ++ [f]) = allF l ++ f.bytes := by simp [allF]
theorem allF_len : ∀ (l : List FunV), FewF l → (allF l).length ≤ l.length * 4102
  | [], _ => by simp [allF]
  | f :: l, h => by
    have h1 := allF_len l (fun g hg => h g (List.mem_cons_of_mem _ hg))
    have h2 := h f (by simp)
    have h3 : allF (f :: l) = f.bytes ++ allF l := by simp [allF]
    rw [h3, List.length_append, fun_len, List.length_cons]
    omega
theorem fewF_take {l : List FunV} (h : FewF l) (k : Nat) : FewF (l.take k) := fun f hf => h f (List.mem_of_mem_take hf)
def wrB (data : List Int) (n : Nat) (fs : List FunV) : List Int := ((markL ++ bytesV data.length 2) ++ data) ++ bytesV n 1 ++ allF fs
theorem wrB_len {data : List Int} {n : Nat} {fs : List FunV} (hd : data.length ≤ 8192) (hf : FewF fs) (h64 : fs.length ≤ 64) : (wrB data n fs).length ≤ 300000 := by
  have := allF_len fs hf
  have hm : fs.length * 4102 ≤ 64 * 4102 := Nat.mul_le_mul_right _ h64
  unfold wrB
  simp only [List.length_append, bytesV_len, show markL.length = 3 from rfl]
  omega
theorem wrB_end (data : List Int) (fs : List FunV) : wrB data fs.length fs = (ModV.mk data fs).bytes := by unfold wrB ModV.bytes; simp only [List.append_assoc]
theorem wrB_snoc (data : List Int) (n : Nat) (fs : List FunV) (f : FunV) : wrB data n fs ++ bytesV f.params 1 ++ bytesV f.regs 1 ++ bytesV f.area 2 ++ bytesV (allB f.code).length 2 ++ allB f.code = wrB data n (fs ++ [f]) := by
  unfold wrB
  rw [allF_snoc]
  unfold FunV.bytes
  simp only [List.append_assoc]
theorem OutB.name {w W : World} {V : Value} {xs : List Int} (h : OutB w W V xs) : ∃ (ys : List Int) (A : Option Addr) (c : Nat), Hid (ys = xs) ∧ V = .slice A ys.length c ∧ Hid (OutB w W V ys) := by
  obtain ⟨A, c, e⟩ := owns_len h.own
  exact ⟨xs, A, c, Lib.hid rfl, e, Lib.hid h⟩
/-- A box of another kind stands while bytes are appended. -/
theorem box_keep {w0 W W' : World} {V : Value} {xs : List Int} {bx : Nat} {cs : Array Value} {T : TypeId} (ho : OutB w0 W V xs) (hT : T ≠ 5) (hk : W.heap[bx]? = some (.cells cs T (0, 0))) (hb : ∀ i, i < W.heap.size → some i ≠ V.ownBlock → W'.heap[i]? = W.heap[i]?) : W'.heap[bx]? = some (.cells cs T (0, 0)) :=
  (hb bx (heap_lt hk) (ho.own.not_own hk (fun cur e => by injection e with _ e _; exact hT e))).trans hk
theorem box_below {W W' : World} {bx : Nat} {o : Obj} (hk : W.heap[bx]? = some o) (hb : Below W.heap.size W W') : W'.heap[bx]? = some o := (hb.block _ (heap_lt hk)).trans hk
end Go.Proofs.YtohlifeenhaifaaGreatDoor
