/- Deeds in rows: what they are in memory; an append of one. Plain lemmas; no condition but what each names. -/
import Derived.Test.YtkfdgpgildanbaaGreatMath14
namespace Go.Proofs.YtkfdgpgildanbaaGreat
open Go.RowKit
set_option linter.unusedVariables false
set_option linter.unusedSimpArgs false

def AnyC14 (_ : Value) : Prop := True
def cellsD (L : List (Int × Int)) : List Value := L.flatMap fun d => [.int .i64 d.1, .int .i64 d.2]
theorem cellsD_len : ∀ (L : List (Int × Int)), (cellsD L).length = L.length * 2
  | [] => rfl
  | d :: L => by
    have := cellsD_len L
    unfold cellsD at this ⊢
    simp only [List.flatMap_cons, List.length_append, this, List.length_cons, List.length_nil]
    omega
theorem cellsD_app (L M : List (Int × Int)) : cellsD (L ++ M) = cellsD L ++ cellsD M := by unfold cellsD; rw [List.flatMap_append]
theorem cellsD_at : ∀ (L : List (Int × Int)) (i : Nat), i < L.length → (cellsD L)[i * 2]? = some (.int .i64 (L.getD i (0, 0)).1) ∧ (cellsD L)[i * 2 + 1]? = some (.int .i64 (L.getD i (0, 0)).2)
  | [], i, h => absurd h (by simp)
  | d :: L, 0, _ => ⟨rfl, rfl⟩
  | d :: L, i + 1, h => by
    have e : cellsD (d :: L) = [.int .i64 d.1, .int .i64 d.2] ++ cellsD L := rfl
    obtain ⟨h1, h2⟩ := cellsD_at L i (by simpa using h)
    rw [e, List.getElem?_append_right (by simp; omega), List.getElem?_append_right (by simp; omega)]
    have e1 : (i + 1) * 2 - [Value.int .i64 d.1, .int .i64 d.2].length = i * 2 := by simp; omega
    have e2 : (i + 1) * 2 + 1 - [Value.int .i64 d.1, .int .i64 d.2].length = i * 2 + 1 := by simp; omega
    rw [e1, e2, h1, h2]
    exact ⟨rfl, rfl⟩
theorem cellsD_one : ∀ (L : List (Int × Int)), ∀ u ∈ cellsD L, u.oneCell' = true := by
  intro L u hu
  unfold cellsD at hu
  obtain ⟨d, _, h⟩ := List.mem_flatMap.1 hu
  simp at h
  rcases h with rfl | rfl <;> rfl
theorem getD_mem14 {L : List (Int × Int)} {i : Nat} (h : i < L.length) : L.getD i (0, 0) ∈ L := by
  rw [List.getD_eq_getElem?_getD, List.getElem?_eq_getElem h]; exact List.getElem_mem h
theorem take_snoc14 {L : List (Int × Int)} {i : Nat} (h : i < L.length) : L.take (i + 1) = L.take i ++ [L.getD i (0, 0)] := by
  rw [List.take_succ_eq_append_getElem h, List.getD_eq_getElem?_getD, List.getElem?_eq_getElem h]; rfl
/-- Deeds to be read. -/
def IsDeeds (w : World) (B : Nat) (V : Value) (L : List (Int × Int)) : Prop :=
  L.length ≤ maxLen ∧ ((V = .slice none 0 0 ∧ L = []) ∨
    ∃ b off sp cap, V = .slice (some ⟨b, off, sp⟩) L.length cap ∧ L.length ≤ cap ∧ (0 < L.length → sp = none ∧ b < B) ∧
      ∀ i, i < L.length → w.cell? ⟨b, off + i * 2, none⟩ = some (.int .i64 (L.getD i (0, 0)).1) ∧ w.cell? ⟨b, off + i * 2 + 1, none⟩ = some (.int .i64 (L.getD i (0, 0)).2))
section
variable {w w' : World} {B B' : Nat} {V : Value} {L : List (Int × Int)}
theorem IsDeeds.len (h : IsDeeds w B V L) : ∃ A cap, V = .slice A L.length cap ∧ L.length ≤ cap := by
  rcases h.2 with ⟨h0, rfl⟩ | ⟨b, off, sp, cap, h1, h2, _⟩
  · exact ⟨none, 0, h0, Nat.le_refl _⟩
  · exact ⟨_, cap, h1, h2⟩
theorem IsDeeds.but {R : Nat → Prop} (h : IsDeeds w B V L) (hb : But R w w') (hB : B ≤ w.heap.size) (hr : ∀ k, k < B → ¬ R k) : IsDeeds w' B V L := by
  refine ⟨h.1, ?_⟩
  rcases h.2 with h0 | ⟨b, off, sp, cap, h1, h2, h3, h4⟩
  · exact .inl h0
  · refine .inr ⟨b, off, sp, cap, h1, h2, h3, fun i hi => ?_⟩
    have hbB := (h3 (by omega)).2
    rw [hb.cell (p := ⟨b, off + i * 2, none⟩) (show b < _ by omega) (hr b hbB), hb.cell (p := ⟨b, off + i * 2 + 1, none⟩) (show b < _ by omega) (hr b hbB)]
    exact h4 i hi
theorem IsDeeds.more (h : IsDeeds w B V L) (hB : B ≤ B') : IsDeeds w B' V L := by
  refine ⟨h.1, ?_⟩
  rcases h.2 with h0 | ⟨b, off, sp, cap, h1, h2, h3, h4⟩
  · exact .inl h0
  · exact .inr ⟨b, off, sp, cap, h1, h2, fun hn => ⟨(h3 hn).1, Nat.lt_of_lt_of_le (h3 hn).2 hB⟩, h4⟩
theorem IsDeeds.below (h : IsDeeds w B V L) (hb : Below B' w w') (hB : B ≤ B') : IsDeeds w' B V L := by
  refine ⟨h.1, ?_⟩
  rcases h.2 with h0 | ⟨b, off, sp, cap, h1, h2, h3, h4⟩
  · exact .inl h0
  · refine .inr ⟨b, off, sp, cap, h1, h2, h3, fun i hi => ?_⟩
    have hbB := (h3 (by omega)).2
    rw [hb.cell (p := ⟨b, off + i * 2, none⟩) (show b < _ by omega), hb.cell (p := ⟨b, off + i * 2 + 1, none⟩) (show b < _ by omega)]
    exact h4 i hi
theorem IsDeeds.grow (h : IsDeeds w w.heap.size V L) (hb : Below w.heap.size w w') : IsDeeds w' w'.heap.size V L := (h.below hb (Nat.le_refl _)).more hb.size
theorem IsDeeds.plain (h : IsDeeds w B V L) (hn : 0 < L.length) : ∃ b off cap, V = .slice (some ⟨b, off, none⟩) L.length cap ∧ L.length ≤ cap ∧ b < B ∧
    ∀ i, i < L.length → w.cell? ⟨b, off + i * 2, none⟩ = some (.int .i64 (L.getD i (0, 0)).1) ∧ w.cell? ⟨b, off + i * 2 + 1, none⟩ = some (.int .i64 (L.getD i (0, 0)).2) := by
  rcases h.2 with ⟨_, rfl⟩ | ⟨b, off, sp, cap, h1, h2, h3, h4⟩
  · simp at hn
  · obtain ⟨rfl, hb⟩ := h3 hn
    exact ⟨b, off, cap, h1, h2, hb, h4⟩
theorem IsDeeds.nil (w : World) (B : Nat) : IsDeeds w B (.slice none 0 0) [] := ⟨by simp [maxLen], .inl ⟨rfl, rfl⟩⟩
theorem IsDeeds.of_owns {base : Nat} {K : Value → Prop} {n : Nat} (h : Owns w base 182 2 K V n (cellsD L)) (hB : w.heap.size ≤ B) : IsDeeds w B V L := by
  have hn : L.length = n := by have := h.1.1; rw [cellsD_len] at this; omega
  subst hn
  rcases h.1.2 with ⟨rfl, h0⟩ | ⟨g, cap, cur, rfl, h1, h2, h3, h4, h5, h6⟩
  · have : L = [] := List.eq_nil_of_length_eq_zero h0
    subst this
    exact IsDeeds.nil _ _
  · refine ⟨Nat.le_trans h3 h4, .inr ⟨g, 0, none, cap, rfl, h3, fun _ => ⟨rfl, Nat.lt_of_lt_of_le (heap_lt h2) hB⟩, fun i hi => ?_⟩⟩
    obtain ⟨c1, c2⟩ := cellsD_at L i hi
    have e : ∀ j, (⟨g, 0, none⟩ : Addr).add j = ⟨g, 0 + j, none⟩ := fun j => by unfold Addr.add; split <;> simp_all
    refine ⟨?_, ?_⟩
    · rw [← e]; exact h.1.cells (g := g) rfl _ _ c1
    · rw [show (⟨g, 0 + i * 2 + 1, none⟩ : Addr) = ⟨g, 0 + (i * 2 + 1), none⟩ by congr 1, ← e]; exact h.1.cells (g := g) rfl _ _ c2
/-- The first deeds of a row. -/
theorem IsDeeds.take {A : Option Addr} {n cap k : Nat} (h : IsDeeds w B (.slice A n cap) L) (hk : k ≤ L.length) : IsDeeds w B (.slice A k cap) (L.take k) := by
  have hl : (L.take k).length = k := by rw [List.length_take]; omega
  refine ⟨by have := h.1; omega, ?_⟩
  rcases h.2 with ⟨he, rfl⟩ | ⟨b, off, sp, cap', he, h1, h2, h3⟩
  · injection he with e1 e2 e3
    subst e1 e3
    obtain rfl : k = 0 := by simpa using hk
    exact .inl ⟨rfl, rfl⟩
  · injection he with e1 e2 e3
    subst e1 e3
    refine .inr ⟨b, off, sp, cap, by rw [hl], by omega, fun hn => h2 (by omega), fun i hi => ?_⟩
    rw [hl] at hi
    have h4 := h3 i (by omega)
    have e : (L.take k).getD i (0, 0) = L.getD i (0, 0) := by simp [List.getD, hi]
    rw [e]
    exact h4
end
theorem deed_info : (Tryz.prog.info? 182).map (fun i => (i.zero, i.size, i.bytes)) = some (some (.agg #[.int .i64 0, .int .i64 0]), 2, 16) := by kernel_rfl
theorem one_deed (w : World) (a b : Int) : ∀ j u, (cellsD [(a, b)])[j]? = some u → (w.alloc (.cells #[.int .i64 a, .int .i64 b] 182)).cell? ((⟨w.heap.size, 0, none⟩ : Addr).add j) = some u := by
  intro j u hu
  have e : (⟨w.heap.size, 0, none⟩ : Addr).add j = ⟨w.heap.size, j, none⟩ := by unfold Addr.add; split <;> simp_all
  rw [e, cell_of_row _ _ _ _ _ _ (heap_alloc_new w _), ← Array.getElem?_toList]
  exact hu
theorem run_where14 {P : Program} (w : World) (base : Nat) (t ty e : TypeId) (i : TypeInfo) (z : Value) (size bytes : Nat) (ht : P.underlying t = some (.slice e)) (hi : P.info? e = some i) (hz : i.zero = some z)
    (hsize : i.size = size) (hby : i.bytes = bytes) (hzs : z.cells.size = size) (hsz : 0 < size)
    (v : Value) (n : Nat) (xs : List Value) (hown : w.ownsRow base e size v n xs)
    (a : Addr) (m c : Nat) (hm0 : 0 < m) (news : List Value) (hl : news.length = m * size) (hnews : ∀ j u, news[j]? = some u → w.cell? (a.add j) = some u) (h1 : ∀ u ∈ news, u.oneCell' = true)
    (h63 : n + m ≤ maxLen) (hbytes : (n + m) * bytes ≤ 140737488355328) (hbase : base ≤ w.heap.size) :
    ∃ v' w', (Builtin.append_ #[t, t] ty #[v, .slice (some a) m c]).run P w = .ok v' w' ∧ w'.ownsRow base e size v' (n + m) (xs ++ news) ∧ w.grownBy w' v.ownBlock ∧ (v'.ownBlock = v.ownBlock ∨ v'.ownBlock = some w.heap.size) := by
  obtain ⟨v', w', hr, h2, h3, _⟩ := run_append_own (P := P) w base t ty e i z size bytes ht hi hz hsize hby hzs hsz v n xs hown a m c news hl hnews h1 h63 hbytes hbase
  refine ⟨v', w', hr, h2, h3, ?_⟩
  subst hsize
  subst hby
  have hsmall : n + m ≤ 9223372036854775807 := by simp only [maxLen] at h63; omega
  rcases hown.2 with ⟨rfl, rfl⟩ | ⟨g, cap, cur, rfl, hbg, hg, hnc, hcm, hcs, htake⟩
  · have hr' := run_append_nil (P := P) w t ty e i z ht hi hz a m c news hl hnews (by omega) (by omega) (by have hb := hbytes; simp only [Nat.zero_add] at hb; omega)
    rw [hr'] at hr
    injection hr with hv hw
    subst hv
    exact .inr (by simp [Value.ownBlock])
  · by_cases hroom : n + m ≤ cap
    · have hfit : n * i.size + news.length ≤ cur.size := by rw [hl, hcs, ← Nat.add_mul]; exact Nat.mul_le_mul_right _ hroom
      have hr' := run_append_room (P := P) w t ty e i ht hi g n cap cur hg a m c news hl hnews h1 hroom hfit
      rw [hr'] at hr
      injection hr with hv hw
      subst hv
      exact .inl (by simp [Value.ownBlock])
    · have holds : ∀ j u, xs[j]? = some u → w.cell? ((⟨g, 0, none⟩ : Addr).add j) = some u := hown.cells (g := g) rfl
      have hr' := run_append_grow (P := P) w t ty e i z ht hi hz ⟨g, 0, none⟩ n cap xs hown.1 holds a m c news hl hnews (by omega) (by omega) (growslice_fits (by omega) hbytes)
      rw [hr'] at hr
      injection hr with hv hw
      subst hv
      exact .inr (by simp [Value.ownBlock])
/-- What an append of a deed leaves. -/
structure MoreD (base : Nat) (W W' : World) (V V' : Value) (L : List (Int × Int)) (a b : Int) : Prop where
  own : Owns W' base 182 2 AnyC14 V' (L.length + 1) (cellsD (L ++ [(a, b)]))
  blk : ∀ i, i < W.heap.size → some i ≠ V.ownBlock → W'.heap[i]? = W.heap[i]?
  bel : Below base W W'
  size : W.heap.size ≤ W'.heap.size
  whr : V'.ownBlock = V.ownBlock ∨ ∃ g, V'.ownBlock = some g ∧ W.heap.size ≤ g
/-- An append of one deed, at the operation. -/
theorem wpList_deed {W : World} {ops : Array Oper} {rest : List Oper} {o : Oper} {act : Act} {Q : Exit → Act → World → Prop} {ts : TypeId} (hgd : o.guard = none) (s x : Operand)
    (ho : o.op = .call { callee := .builtin .append, args := #[s, x], argTypes := #[ts, ts] }) (hts : Tryz.prog.underlying ts = some (.slice 182)) {V : Value} {L : List (Int × Int)} {a b : Int} {base g : Nat} (hs : act.eval s = V) (hx : act.eval x = .slice (some ⟨g, 0, none⟩) 1 1) (hgs : g = W.heap.size)
    (h : Owns W base 182 2 AnyC14 V L.length (cellsD L)) (hb : base ≤ W.heap.size) (hl : L.length ≤ 1000000)
    (hK : ∀ V' W', MoreD base W W' V V' L a b → wpList Tryz.prog ops Q rest (act.put o.dst V') W') :
    wpList Tryz.prog ops Q (o :: rest) act (W.alloc (.cells #[.int .i64 a, .int .i64 b] 182)) := by
  subst hgs
  obtain ⟨i, hi, h1, h2, h3⟩ := info_parts deed_info
  have ha : Below W.heap.size W (W.alloc (.cells #[.int .i64 a, .int .i64 b] 182)) := (Below.refl W.heap.size W).alloc (Nat.le_refl _) _
  have hg := Owns.below h ha (Nat.le_refl _)
  refine wpList_plain hgd fun _ hK' => ?_
  obtain ⟨V', W', hr, ho', hg'⟩ := run_append_q (P := Tryz.prog) _ base ts o.type 182 i _ 2 16 hts hi h1 h2 h3 rfl (by decide) AnyC14 (fun _ _ => trivial) V L.length (cellsD L) hg ⟨W.heap.size, 0, none⟩ 1 1 (cellsD [(a, b)]) rfl (one_deed W a b) (cellsD_one _) (fun _ _ => trivial) (by unfold maxLen; omega) (by omega) (by simp; omega)
  obtain ⟨V2, W2, hr2, _, _, hw2⟩ := run_where14 (P := Tryz.prog) _ base ts o.type 182 i _ 2 16 hts hi h1 h2 h3 rfl (by decide) V L.length (cellsD L) hg.1 ⟨W.heap.size, 0, none⟩ 1 1 (by decide) (cellsD [(a, b)]) rfl (one_deed W a b) (cellsD_one _) (by unfold maxLen; omega) (by omega) (by simp; omega)
  rw [hr] at hr2
  injection hr2 with e1 e2
  subst e1 e2
  have e : World.grownBy (W.alloc (.cells #[.int .i64 a, .int .i64 b] 182)) W' V.ownBlock := hg'
  unfold Oper.wp execOp
  simp only [ho, resolve, invoke, builtin, Sem.run_bind, Sem.run_pure, Result.andThen_ok, List.map_toArray, List.map_cons, List.map_nil, hs, hx, hr]
  refine hK' _ _ (hK V' W' ⟨by rw [cellsD_app]; exact ho', fun i hi hn => (e.block i (by simp; omega) hn).trans (ha.block i hi), (ha.mono hb).grown e (by simp; omega) fun j hj => (h.lt hj).1, Nat.le_trans (by simp) e.size, ?_⟩)
  rcases hw2 with h | h
  · exact .inl h
  · exact .inr ⟨_, h, by simp⟩
end Go.Proofs.YtkfdgpgildanbaaGreat
