import Derived.Test.YtkfdgpgildanbaaGreatS01
import Derived.Lib.ItoaNum
import Derived.Laws.BytesArg
import Derived.RangeFuncNested
import Derived.RangeFuncBound
import Derived.RangeFuncCalls
import Derived.RangeFuncLeaves
import Derived.Shelf.RegionOpen
import Derived.WalkKit
import Derived.OwnWalkIn
import Derived.TacticsInMore
import Derived.LoopNIn
import Derived.LoopIn
import Derived.Deep.RegionHeld3
import Derived.Deep.QuietTactic
import Derived.BigQuiet
namespace Go.Proofs.YtkfdgpgildanbaaGreat
set_option linter.unusedVariables false
set_option linter.unusedSimpArgs false
def gotB (d : Int × Int) : Bool := d.1 == 1 && decide (0 ≤ d.2 ∧ d.2 ≤ 255)
def gotN (d : Int × Int) : Bool := d.1 == 1 && d.2 == -1
def putB (d : Int × Int) : Bool := d.1 == 2 && decide (0 ≤ d.2 ∧ d.2 ≤ 255)
def okD (d : Int × Int) : Bool := gotB d || gotN d || putB d
def okE (k c : Int) : Bool := (k == 1 && decide (0 ≤ c ∧ c ≤ 255)) || (k == 2 && (c == 1 || c == 2)) || ((k == 3 || k == 4) && c == 0)
def goodL : Bool → List (Int × Int) → Bool
  | _, [] => true
  | o, d :: l => okD d && !(o && gotB d) && goodL (o || gotN d) l
def okO (L : List (Int × Int)) (k c : Int) : Bool := decide (L.length ≤ 100000) && okE k c && goodL false L
theorem okD_cases {d : Int × Int} (h : okD d = true) : (d.1 = 1 ∧ -1 ≤ d.2 ∧ d.2 ≤ 255) ∨ (d.1 = 2 ∧ 0 ≤ d.2 ∧ d.2 ≤ 255) := by
  unfold okD gotB gotN putB at h
  simp only [Bool.or_eq_true, Bool.and_eq_true, beq_iff_eq, decide_eq_true_eq] at h
  omega
theorem okE_cases {k c : Int} (h : okE k c = true) : (k = 1 ∧ 0 ≤ c ∧ c ≤ 255) ∨ (k = 2 ∧ (c = 1 ∨ c = 2)) ∨ ((k = 3 ∨ k = 4) ∧ c = 0) := by
  unfold okE at h
  simp only [Bool.or_eq_true, Bool.and_eq_true, beq_iff_eq, decide_eq_true_eq] at h
  omega
end Go.Proofs.YtkfdgpgildanbaaGreat
namespace Go.Proofs.YtkfdgpgildanbaaGreat
open Go.RowKit
set_option linter.unusedVariables false
set_option linter.unusedSimpArgs false
def AnyC14 (_ : Value) : Prop := True
def cellsD (L : List (Int × Int)) : List Value := L.flatMap fun d => [.int .i64 d.1, .int .i64 d.2]
theorem cellsD_len : ∀ (L : List (Int × Int)), (cellsD L).length = L.length * 2
  | [] => rfl
  | d :: L => by
    have := cellsD_len L
    unfold cellsD at this ⊢
    simp only [List.flatMap_cons, List.length_append, this, List.length_cons, List.length_nil]
    omega
theorem cellsD_app (L M : List (Int × Int)) : cellsD (L ++ M) = cellsD L ++ cellsD M := by unfold cellsD; rw [List.flatMap_append]
theorem cellsD_at : ∀ (L : List (Int × Int)) (i : Nat), i < L.length → (cellsD L)[i * 2]? = some (.int .i64 (L.getD i (0, 0)).1) ∧ (cellsD L)[i * 2 + 1]? = some (.int .i64 (L.getD i (0, 0)).2)
  | [], i, h => absurd h (by simp)
  | d :: L, 0, _ => ⟨rfl, rfl⟩
  | d :: L, i + 1, h => by
    have e : cellsD (d :: L) = [.int .i64 d.1, .int .i64 d.2] ++ cellsD L := rfl
    obtain ⟨h1, h2⟩ := cellsD_at L i (by simpa using h)
    rw [e, List.getElem?_append_right (by simp; omega), List.getElem?_append_right (by simp; omega)]
    have e1 : (i + 1) * 2 - [Value.int .i64 d.1, .int .i64 d.2].length = i * 2 := by simp; omega
    have e2 : (i + 1) * 2 + 1 - [Value.int .i64 d.1, .int .i64 d.2].length = i * 2 + 1 := by simp; omega
    rw [e1, e2, h1, h2]
    exact ⟨rfl, rfl⟩
theorem cellsD_one : ∀ (L : List (Int × Int)), ∀ u ∈ cellsD L, u.oneCell' = true := by
  intro L u hu
  unfold cellsD at hu
  obtain ⟨d, _, h⟩ := List.mem_flatMap.1 hu
  simp at h
  rcases h with rfl | rfl <;> rfl
theorem take_snoc14 {L : List (Int × Int)} {i : Nat} (h : i < L.length) : L.take (i + 1) = L.take i ++ [L.getD i (0, 0)] := by
  rw [List.take_succ_eq_append_getElem h, List.getD_eq_getElem?_getD, List.getElem?_eq_getElem h]; rfl
def IsDeeds (w : World) (B : Nat) (V : Value) (L : List (Int × Int)) : Prop :=
  L.length ≤ maxLen ∧ ((V = .slice none 0 0 ∧ L = []) ∨
    ∃ b off sp cap, V = .slice (some ⟨b, off, sp⟩) L.length cap ∧ L.length ≤ cap ∧ (0 < L.length → sp = none ∧ b < B) ∧
      ∀ i, i < L.length → w.cell? ⟨b, off + i * 2, none⟩ = some (.int .i64 (L.getD i (0, 0)).1) ∧ w.cell? ⟨b, off + i * 2 + 1, none⟩ = some (.int .i64 (L.getD i (0, 0)).2))
section
variable {w w' : World} {B B' : Nat} {V : Value} {L : List (Int × Int)}
theorem IsDeeds.len (h : IsDeeds w B V L) : ∃ A cap, V = .slice A L.length cap ∧ L.length ≤ cap := by
  rcases h.2 with ⟨h0, rfl⟩ | ⟨b, off, sp, cap, h1, h2, _⟩
  · exact ⟨none, 0, h0, Nat.le_refl _⟩
  · exact ⟨_, cap, h1, h2⟩
theorem IsDeeds.but {R : Nat → Prop} (h : IsDeeds w B V L) (hb : But R w w') (hB : B ≤ w.heap.size) (hr : ∀ k, k < B → ¬ R k) : IsDeeds w' B V L := by
  refine ⟨h.1, ?_⟩
  rcases h.2 with h0 | ⟨b, off, sp, cap, h1, h2, h3, h4⟩
  · exact .inl h0
  · refine .inr ⟨b, off, sp, cap, h1, h2, h3, fun i hi => ?_⟩
    have hbB := (h3 (by omega)).2
    rw [hb.cell (p := ⟨b, off + i * 2, none⟩) (show b < _ by omega) (hr b hbB), hb.cell (p := ⟨b, off + i * 2 + 1, none⟩) (show b < _ by omega) (hr b hbB)]
    exact h4 i hi
theorem IsDeeds.more (h : IsDeeds w B V L) (hB : B ≤ B') : IsDeeds w B' V L := by
  refine ⟨h.1, ?_⟩
  rcases h.2 with h0 | ⟨b, off, sp, cap, h1, h2, h3, h4⟩
  · exact .inl h0
  · exact .inr ⟨b, off, sp, cap, h1, h2, fun hn => ⟨(h3 hn).1, Nat.lt_of_lt_of_le (h3 hn).2 hB⟩, h4⟩
theorem IsDeeds.below (h : IsDeeds w B V L) (hb : Below B' w w') (hB : B ≤ B') : IsDeeds w' B V L := by
  refine ⟨h.1, ?_⟩
  rcases h.2 with h0 | ⟨b, off, sp, cap, h1, h2, h3, h4⟩
  · exact .inl h0
  · refine .inr ⟨b, off, sp, cap, h1, h2, h3, fun i hi => ?_⟩
    have hbB := (h3 (by omega)).2
    rw [hb.cell (p := ⟨b, off + i * 2, none⟩) (show b < _ by omega), hb.cell (p := ⟨b, off + i * 2 + 1, none⟩) (show b < _ by omega)]
    exact h4 i hi
theorem IsDeeds.grow (h : IsDeeds w w.heap.size V L) (hb : Below w.heap.size w w') : IsDeeds w' w'.heap.size V L := (h.below hb (Nat.le_refl _)).more hb.size
theorem IsDeeds.plain (h : IsDeeds w B V L) (hn : 0 < L.length) : ∃ b off cap, V = .slice (some ⟨b, off, none⟩) L.length cap ∧ L.length ≤ cap ∧ b < B ∧
    ∀ i, i < L.length → w.cell? ⟨b, off + i * 2, none⟩ = some (.int .i64 (L.getD i (0, 0)).1) ∧ w.cell? ⟨b, off + i * 2 + 1, none⟩ = some (.int .i64 (L.getD i (0, 0)).2) := by
  rcases h.2 with ⟨_, rfl⟩ | ⟨b, off, sp, cap, h1, h2, h3, h4⟩
  · simp at hn
  · obtain ⟨rfl, hb⟩ := h3 hn
    exact ⟨b, off, cap, h1, h2, hb, h4⟩
theorem IsDeeds.nil (w : World) (B : Nat) : IsDeeds w B (.slice none 0 0) [] := ⟨by simp [maxLen], .inl ⟨rfl, rfl⟩⟩
theorem IsDeeds.of_owns {base : Nat} {K : Value → Prop} {n : Nat} (h : Owns w base 182 2 K V n (cellsD L)) (hB : w.heap.size ≤ B) : IsDeeds w B V L := by
  have hn : L.length = n := by have := h.1.1; rw [cellsD_len] at this; omega
  subst hn
  rcases h.1.2 with ⟨rfl, h0⟩ | ⟨g, cap, cur, rfl, h1, h2, h3, h4, h5, h6⟩
  · have : L = [] := List.eq_nil_of_length_eq_zero h0
    subst this
    exact IsDeeds.nil _ _
  · refine ⟨Nat.le_trans h3 h4, .inr ⟨g, 0, none, cap, rfl, h3, fun _ => ⟨rfl, Nat.lt_of_lt_of_le (heap_lt h2) hB⟩, fun i hi => ?_⟩⟩
    obtain ⟨c1, c2⟩ := cellsD_at L i hi
    have e : ∀ j, (⟨g, 0, none⟩ : Addr).add j = ⟨g, 0 + j, none⟩ := fun j => by unfold Addr.add; split <;> simp_all
    refine ⟨?_, ?_⟩
    · rw [← e]; exact h.1.cells (g := g) rfl _ _ c1
    · rw [show (⟨g, 0 + i * 2 + 1, none⟩ : Addr) = ⟨g, 0 + (i * 2 + 1), none⟩ by congr 1, ← e]; exact h.1.cells (g := g) rfl _ _ c2
theorem IsDeeds.take {A : Option Addr} {n cap k : Nat} (h : IsDeeds w B (.slice A n cap) L) (hk : k ≤ L.length) : IsDeeds w B (.slice A k cap) (L.take k) := by
  have hl : (L.take k).length = k := by rw [List.length_take]; omega
  refine ⟨by have := h.1; omega, ?_⟩
  rcases h.2 with ⟨he, rfl⟩ | ⟨b, off, sp, cap', he, h1, h2, h3⟩
  · injection he with e1 e2 e3
    subst e1 e3
    obtain rfl : k = 0 := by simpa using hk
    exact .inl ⟨rfl, rfl⟩
  · injection he with e1 e2 e3
    subst e1 e3
    refine .inr ⟨b, off, sp, cap, by rw [hl], by omega, fun hn => h2 (by omega), fun i hi => ?_⟩
    rw [hl] at hi
    have h4 := h3 i (by omega)
    have e : (L.take k).getD i (0, 0) = L.getD i (0, 0) := by simp [List.getD, hi]
    rw [e]
    exact h4
end
theorem deed_info : (Tryz.prog.info? 182).map (fun i => (i.zero, i.size, i.bytes)) = some (some (.agg #[.int .i64 0, .int .i64 0]), 2, 16) := by kernel_rfl
theorem one_deed (w : World) (a b : Int) : ∀ j u, (cellsD [(a, b)])[j]? = some u → (w.alloc (.cells #[.int .i64 a, .int .i64 b] 182)).cell? ((⟨w.heap.size, 0, none⟩ : Addr).add j) = some u := by
  intro j u hu
  have e : (⟨w.heap.size, 0, none⟩ : Addr).add j = ⟨w.heap.size, j, none⟩ := by unfold Addr.add; split <;> simp_all
  rw [e, cell_of_row _ _ _ _ _ _ (heap_alloc_new w _), ← Array.getElem?_toList]
  exact hu
theorem run_where14 {P : Program} (w : World) (base : Nat) (t ty e : TypeId) (i : TypeInfo) (z : Value) (size bytes : Nat) (ht : P.underlying t = some (.slice e)) (hi : P.info? e = some i) (hz : i.zero = some z)
    (hsize : i.size = size) (hby : i.bytes = bytes) (hzs : z.cells.size = size) (hsz : 0 < size)
    (v : Value) (n : Nat) (xs : List Value) (hown : w.ownsRow base e size v n xs)
    (a : Addr) (m c : Nat) (hm0 : 0 < m) (news : List Value) (hl : news.length = m * size) (hnews : ∀ j u, news[j]? = some u → w.cell? (a.add j) = some u) (h1 : ∀ u ∈ news, u.oneCell' = true)
    (h63 : n + m ≤ maxLen) (hbytes : (n + m) * bytes ≤ 140737488355328) (hbase : base ≤ w.heap.size) :
    ∃ v' w', (Builtin.append_ #[t, t] ty #[v, .slice (some a) m c]).run P w = .ok v' w' ∧ w'.ownsRow base e size v' (n + m) (xs ++ news) ∧ w.grownBy w' v.ownBlock ∧ (v'.ownBlock = v.ownBlock ∨ v'.ownBlock = some w.heap.size) := by
  obtain ⟨v', w', hr, h2, h3, _⟩ := run_append_own (P := P) w base t ty e i z size bytes ht hi hz hsize hby hzs hsz v n xs hown a m c news hl hnews h1 h63 hbytes hbase
  refine ⟨v', w', hr, h2, h3, ?_⟩
  subst hsize
  subst hby
  have hsmall : n + m ≤ 9223372036854775807 := by simp only [maxLen] at h63; omega
  rcases hown.2 with ⟨rfl, rfl⟩ | ⟨g, cap, cur, rfl, hbg, hg, hnc, hcm, hcs, htake⟩
  · have hr' := run_append_nil (P := P) w t ty e i z ht hi hz a m c news hl hnews (by omega) (by omega) (by have hb := hbytes; simp only [Nat.zero_add] at hb; omega)
    rw [hr'] at hr
    injection hr with hv hw
    subst hv
    exact .inr (by simp [Value.ownBlock])
  · by_cases hroom : n + m ≤ cap
    · have hfit : n * i.size + news.length ≤ cur.size := by rw [hl, hcs, ← Nat.add_mul]; exact Nat.mul_le_mul_right _ hroom
      have hr' := run_append_room (P := P) w t ty e i ht hi g n cap cur hg a m c news hl hnews h1 hroom hfit
      rw [hr'] at hr
      injection hr with hv hw
      subst hv
      exact .inl (by simp [Value.ownBlock])
    · have holds : ∀ j u, xs[j]? = some u → w.cell? ((⟨g, 0, none⟩ : Addr).add j) = some u := hown.cells (g := g) rfl
      have hr' := run_append_grow (P := P) w t ty e i z ht hi hz ⟨g, 0, none⟩ n cap xs hown.1 holds a m c news hl hnews (by omega) (by omega) (growslice_fits (by omega) hbytes)
      rw [hr'] at hr
      injection hr with hv hw
      subst hv
      exact .inr (by simp [Value.ownBlock])
structure MoreD (base : Nat) (W W' : World) (V V' : Value) (L : List (Int × Int)) (a b : Int) : Prop where
  own : Owns W' base 182 2 AnyC14 V' (L.length + 1) (cellsD (L ++ [(a, b)]))
  blk : ∀ i, i < W.heap.size → some i ≠ V.ownBlock → W'.heap[i]? = W.heap[i]?
  bel : Below base W W'
  size : W.heap.size ≤ W'.heap.size
  whr : V'.ownBlock = V.ownBlock ∨ ∃ g, V'.ownBlock = some g ∧ W.heap.size ≤ g
theorem wpList_deed {W : World} {ops : Array Oper} {rest : List Oper} {o : Oper} {act : Act} {Q : Exit → Act → World → Prop} {ts : TypeId} (hgd : o.guard = none) (s x : Operand)
    (ho : o.op = .call { callee := .builtin .append, args := #[s, x], argTypes := #[ts, ts] }) (hts : Tryz.prog.underlying ts = some (.slice 182)) {V : Value} {L : List (Int × Int)} {a b : Int} {base g : Nat} (hs : act.eval s = V) (hx : act.eval x = .slice (some ⟨g, 0, none⟩) 1 1) (hgs : g = W.heap.size)
    (h : Owns W base 182 2 AnyC14 V L.length (cellsD L)) (hb : base ≤ W.heap.size) (hl : L.length ≤ 1000000)
    (hK : ∀ V' W', MoreD base W W' V V' L a b → wpList Tryz.prog ops Q rest (act.put o.dst V') W') :
    wpList Tryz.prog ops Q (o :: rest) act (W.alloc (.cells #[.int .i64 a, .int .i64 b] 182)) := by
  subst hgs
  obtain ⟨i, hi, h1, h2, h3⟩ := info_parts deed_info
  have ha : Below W.heap.size W (W.alloc (.cells #[.int .i64 a, .int .i64 b] 182)) := (Below.refl W.heap.size W).alloc (Nat.le_refl _) _
  have hg := Owns.below h ha (Nat.le_refl _)
  refine wpList_plain hgd fun _ hK' => ?_
  obtain ⟨V', W', hr, ho', hg'⟩ := run_append_q (P := Tryz.prog) _ base ts o.type 182 i _ 2 16 hts hi h1 h2 h3 rfl (by decide) AnyC14 (fun _ _ => trivial) V L.length (cellsD L) hg ⟨W.heap.size, 0, none⟩ 1 1 (cellsD [(a, b)]) rfl (one_deed W a b) (cellsD_one _) (fun _ _ => trivial) (by unfold maxLen; omega) (by omega) (by simp; omega)
  obtain ⟨V2, W2, hr2, _, _, hw2⟩ := run_where14 (P := Tryz.prog) _ base ts o.type 182 i _ 2 16 hts hi h1 h2 h3 rfl (by decide) V L.length (cellsD L) hg.1 ⟨W.heap.size, 0, none⟩ 1 1 (by decide) (cellsD [(a, b)]) rfl (one_deed W a b) (cellsD_one _) (by unfold maxLen; omega) (by omega) (by simp; omega)
  rw [hr] at hr2
  injection hr2 with e1 e2
  subst e1 e2
  have e : World.grownBy (W.alloc (.cells #[.int .i64 a, .int .i64 b] 182)) W' V.ownBlock := hg'
  unfold Oper.wp execOp
  simp only [ho, resolve, invoke, builtin, Sem.run_bind, Sem.run_pure, Result.andThen_ok, List.map_toArray, List.map_cons, List.map_nil, hs, hx, hr]
  refine hK' _ _ (hK V' W' ⟨by rw [cellsD_app]; exact ho', fun i hi hn => (e.block i (by simp; omega) hn).trans (ha.block i hi), (ha.mono hb).grown e (by simp; omega) fun j hj => (h.lt hj).1, Nat.le_trans (by simp) e.size, ?_⟩)
  rcases hw2 with h | h
  · exact .inl h
  · exact .inr ⟨_, h, by simp⟩
end Go.Proofs.YtkfdgpgildanbaaGreat
namespace Go.Proofs.YtkfdgpgildanbaaGreat
open Go.RowKit
set_option linter.unusedVariables false
set_option linter.unusedSimpArgs false
def OwnB (base : Nat) (W : World) (X : Value) (xs : List Int) : Prop :=
  xs.length ≤ 140737488355328 ∧ (∀ x ∈ xs, 0 ≤ x ∧ x < 256) ∧ ((X = .slice none 0 0 ∧ xs = []) ∨
    ∃ g off cap cur, X = .slice (some ⟨g, off, none⟩) xs.length cap ∧ xs.length ≤ cap ∧ base ≤ g ∧ W.heap[g]? = some (.cells cur 5 (0, 0)) ∧ ∀ i, i < xs.length → cur[off + i]? = some (.int .u8 (xs.getD i 0)))
section
variable {base : Nat} {W W' : World} {X : Value} {xs : List Int}
theorem OwnB.len (h : OwnB base W X xs) : ∃ A cap, X = .slice A xs.length cap := by
  rcases h.2.2 with ⟨h0, rfl⟩ | ⟨g, off, cap, cur, h1, _⟩
  · exact ⟨none, 0, h0⟩
  · exact ⟨_, cap, h1⟩
theorem OwnB.bytes (h : OwnB base W X xs) : IsBytes W W.heap.size X xs := by
  refine ⟨h.2.1, by have := h.1; unfold maxLen; omega, ?_⟩
  rcases h.2.2 with h0 | ⟨g, off, cap, cur, h1, h2, h3, h4, h5⟩
  · exact .inl h0
  · refine .inr ⟨_, cap, h1, h2, fun _ => heap_lt h4, fun i hi => ?_⟩
    have e : (⟨g, off, none⟩ : Addr).add i = ⟨g, off + i, none⟩ := by unfold Addr.add; split <;> simp_all
    rw [e, cell_of_row _ _ _ _ _ _ h4]
    exact h5 i hi
theorem OwnB.but {R : Nat → Prop} (h : OwnB base W X xs) (hb : But R W W') (hr : ∀ k c, base ≤ k → W.heap[k]? = some (.cells c 5 (0, 0)) → ¬ R k) : OwnB base W' X xs := by
  refine ⟨h.1, h.2.1, ?_⟩
  rcases h.2.2 with h0 | ⟨g, off, cap, cur, h1, h2, h3, h4, h5⟩
  · exact .inl h0
  · exact .inr ⟨g, off, cap, cur, h1, h2, h3, hb.heap h4 (hr g cur h3 h4), h5⟩
theorem OwnB.base' {base' : Nat} (h : OwnB base W X xs) (hb : base' ≤ base) : OwnB base' W X xs := by
  refine ⟨h.1, h.2.1, ?_⟩
  rcases h.2.2 with h0 | ⟨g, off, cap, cur, h1, h2, h3, h4, h5⟩
  · exact .inl h0
  · exact .inr ⟨g, off, cap, cur, h1, h2, Nat.le_trans hb h3, h4, h5⟩
theorem OwnB.of_owns {K : Value → Prop} {n : Nat} (h : Owns W base 5 1 K X n (xs.map (Value.int .u8))) (hx : ∀ x ∈ xs, 0 ≤ x ∧ x < 256) (hl : xs.length ≤ 140737488355328) : OwnB base W X xs := by
  have hn : xs.length = n := by simpa using h.1.1
  subst hn
  refine ⟨hl, hx, ?_⟩
  rcases h.1.2 with ⟨rfl, h0⟩ | ⟨g, cap, cur, rfl, h1, h2, h3, h4, h5, h6⟩
  · exact .inl ⟨rfl, List.eq_nil_of_length_eq_zero h0⟩
  · refine .inr ⟨g, 0, cap, cur, rfl, h3, h1, h2, fun i hi => ?_⟩
    have h7 : (xs.map (Value.int .u8))[i]? = some (.int .u8 (xs.getD i 0)) := by
      rw [List.getElem?_map, List.getElem?_eq_getElem hi]; simp [List.getD, List.getElem?_eq_getElem hi]
    rw [← h6, List.getElem?_take, if_pos (by omega)] at h7
    simpa using h7
theorem OwnB.first {x : Int} {ys : List Int} (h : OwnB base W X (x :: ys)) : ∃ g off cap, X = .slice (some ⟨g, off, none⟩) (ys.length + 1) cap ∧ ys.length + 1 ≤ cap ∧ W.cell? ⟨g, off, none⟩ = some (.int .u8 x) ∧
    ∀ (W' : World) (o' : Nat), (cap ≠ 1 → o' = off + 1) → (∀ c, W.heap[g]? = some (.cells c 5 (0, 0)) → W'.heap[g]? = some (.cells c 5 (0, 0))) → OwnB base W' (.slice (some ⟨g, o', none⟩) ys.length (cap - 1)) ys := by
  rcases h.2.2 with ⟨_, h0⟩ | ⟨g, off, cap, cur, h1, h2, h3, h4, h5⟩
  · cases h0
  · refine ⟨g, off, cap, h1, h2, ?_, fun W' o' ho hW => ⟨?_, fun z hz => h.2.1 z (List.mem_cons_of_mem _ hz), .inr ⟨g, o', cap - 1, cur, rfl, ?_, h3, hW _ h4, fun i hi => ?_⟩⟩⟩
    · rw [cell_of_row _ _ _ _ _ _ h4]
      exact h5 0 (by simp)
    · have := h.1; simp only [List.length_cons] at this; omega
    · simp only [List.length_cons] at h2; omega
    · simp only [List.length_cons] at h2
      have e := ho (by omega)
      subst e
      have := h5 (i + 1) (by simp; omega)
      rw [show off + 1 + i = off + (i + 1) by omega, this]
      rfl
end
structure Tape14 (base : Nat) (W : World) (tb : Nat) (X V : Value) (xs : List Int) (L : List (Int × Int)) : Prop where
  box : W.heap[tb]? = some (.cells #[.pointer (some ⟨tb, 0, none⟩), X, V] 179 (0, 0))
  left : OwnB base W X xs
  done : Owns W base 182 2 AnyC14 V L.length (cellsD L)
  few : L.length ≤ 100000
theorem typed14 {w : World} {base : Nat} {e : TypeId} {size : Nat} {K : Value → Prop} {v : Value} {n : Nat} {xs : List Value} (h : Owns w base e size K v n xs) {g : Nat} (hg : v.ownBlock = some g) : base ≤ g ∧ ∃ cur, w.heap[g]? = some (.cells cur e (0, 0)) := by
  rcases h.1.2 with ⟨rfl, h0⟩ | ⟨g', cap, cur, rfl, h1, h2, h3⟩
  · simp [Value.ownBlock] at hg
  · simp [Value.ownBlock] at hg
    subst hg
    exact ⟨h1, _, h2⟩
theorem types14 {w : World} {k : Nat} {c c' : Array Value} {t t' : TypeId} (h : w.heap[k]? = some (.cells c t (0, 0))) (h' : w.heap[k]? = some (.cells c' t' (0, 0))) (ht : t ≠ t') : False := by
  rw [h] at h'
  injection h' with h'
  injection h' with _ h' _
  exact ht h'
theorem cells3_14 {w : World} {b' : Nat} {a b c : Value} {T : TypeId} (h : w.heap[b']? = some (.cells #[a, b, c] T (0, 0))) :
    w.cell? ⟨b', 0, none⟩ = some a ∧ w.cell? ⟨b', 1, none⟩ = some b ∧ w.cell? ⟨b', 2, none⟩ = some c := by
  simp [World.cell?, h]
theorem cells2_14 {w : World} {b' : Nat} {a b : Value} {T : TypeId} (h : w.heap[b']? = some (.cells #[a, b] T (0, 0))) : w.cell? ⟨b', 0, none⟩ = some a ∧ w.cell? ⟨b', 1, none⟩ = some b := by
  simp [World.cell?, h]
theorem cells1_14 {w : World} {b' : Nat} {a : Value} {T : TypeId} (h : w.heap[b']? = some (.cells #[a] T (0, 0))) : w.cell? ⟨b', 0, none⟩ = some a := by
  simp [World.cell?, h]
theorem owns_len14 {w : World} {base : Nat} {e : TypeId} {size : Nat} {K : Value → Prop} {v : Value} {n : Nat} {xs : List Value} (h : Owns w base e size K v n xs) : ∃ A cap, v = .slice A n cap := by
  rcases h.1.2 with ⟨rfl, h0⟩ | ⟨g, cap, cur, rfl, _⟩
  · exact ⟨none, 0, by rw [h0]⟩
  · exact ⟨_, cap, rfl⟩
theorem box_below14 {W W' : World} {bx : Nat} {o : Obj} (hk : W.heap[bx]? = some o) (hb : Below W.heap.size W W') : W'.heap[bx]? = some o := (hb.block _ (heap_lt hk)).trans hk
structure Wt14 (tb : Nat) (V V' : Value) (w w' : World) : Prop where
  but : But (fun k => k = tb ∨ V.ownBlock = some k) w w'
  whr : V'.ownBlock = V.ownBlock ∨ ∃ g, V'.ownBlock = some g ∧ w.heap.size ≤ g
section
variable {base : Nat} {W W' : World} {tb : Nat} {X V : Value} {xs : List Int} {L : List (Int × Int)}
theorem Tape14.cells (h : Tape14 base W tb X V xs L) : W.cell? ⟨tb, 0, none⟩ = some (.pointer (some ⟨tb, 0, none⟩)) ∧ W.cell? ⟨tb, 1, none⟩ = some X ∧ W.cell? ⟨tb, 2, none⟩ = some V := cells3_14 h.box
theorem Tape14.lt (h : Tape14 base W tb X V xs L) : tb < W.heap.size := heap_lt h.box
theorem Tape14.free (h : Tape14 base W tb X V xs L) (o : Nat) : W.frozen? ⟨tb, o, none⟩ = false := frozen_of_row W tb o _ _ h.box
theorem Tape14.but {R : Nat → Prop} (h : Tape14 base W tb X V xs L) (hb : But R W W') (h1 : ¬ R tb) (h2 : ∀ k c, base ≤ k → W.heap[k]? = some (.cells c 5 (0, 0)) → ¬ R k) (h3 : ∀ g, V.ownBlock = some g → ¬ R g) : Tape14 base W' tb X V xs L :=
  ⟨hb.heap h.box h1, h.left.but hb h2, h.done.but hb h3, h.few⟩
theorem Tape14.grow (h : Tape14 base W tb X V xs L) (hb : Below W.heap.size W W') : Tape14 base W' tb X V xs L :=
  h.but (But.of_below (R := NoBlock) hb) (fun h => h) (fun _ _ _ _ h => h) (fun _ _ h => h)
theorem Tape14.ne (h : Tape14 base W tb X V xs L) : some tb ≠ V.ownBlock := fun e => by
  obtain ⟨_, c, hc⟩ := typed14 h.done e.symm
  exact types14 hc h.box (by decide)
theorem Tape14.more {V' : Value} {a b : Int} (h : Tape14 base W tb X V xs L) (hM : MoreD base W W' V V' L a b) (hf : L.length < 100000) :
    Tape14 base (W'.setCell ⟨tb, 2, none⟩ V') tb X V' xs (L ++ [(a, b)]) ∧ Wt14 tb V V' W (W'.setCell ⟨tb, 2, none⟩ V') := by
  have hbx : W'.heap[tb]? = some (.cells #[.pointer (some ⟨tb, 0, none⟩), X, V] 179 (0, 0)) := (hM.blk tb h.lt h.ne).trans h.box
  have hset := heap_setCell_same W' tb 2 _ _ V' hbx
  have hb1 : But (fun k => k = tb ∨ V.ownBlock = some k) W W' := ⟨hM.bel.os, hM.bel.tape, hM.bel.output, hM.size, fun k hk hn => hM.blk k hk (fun e => hn (.inr e.symm))⟩
  have hbut : But (fun k => k = tb ∨ V.ownBlock = some k) W (W'.setCell ⟨tb, 2, none⟩ V') := hb1.setCell (p := ⟨tb, 2, none⟩) (.inl (.inl rfl)) _
  have hbut2 : But (OneBlock tb) W' (W'.setCell ⟨tb, 2, none⟩ V') := (But.refl (OneBlock tb) W').setCell (p := ⟨tb, 2, none⟩) (.inl rfl) _
  refine ⟨⟨hset, h.left.but hbut (fun k c _ hc => ?_), ?_, by simp; omega⟩, ⟨hbut, hM.whr⟩⟩
  · rintro (rfl | e)
    · exact types14 hc h.box (by decide)
    · obtain ⟨_, c', hc'⟩ := typed14 h.done e
      exact types14 hc hc' (by decide)
  · rw [List.length_append]
    refine hM.own.but hbut2 (fun g hg e => ?_)
    have e' : g = tb := e
    subst e'
    obtain ⟨_, c, hc⟩ := typed14 hM.own hg
    exact types14 hc hbx (by decide)
end
theorem tape_info : ∃ j, Tryz.prog.info? 179 = some j := Option.isSome_iff_exists.1 (by kernel_rfl)
theorem eql_self14 (a : Addr) (w : World) : (binOp .eql 72 (.pointer (some a)) (.pointer (some a))).run Tryz.prog w = .ok (.bool true) w := by
  obtain ⟨j, hj⟩ := tape_info
  exact run_eql_ptr_same w a Tryz.underlying72 hj
theorem valid14 {base tb : Nat} {w : World} {X V : Value} {xs : List Int} {L : List (Int × Int)} (h : Tape14 base w tb X V xs L) :
    Calls Tryz.prog 134 #[.pointer (some ⟨tb, 0, none⟩)] w fun e w' => e = .returned (.bool true) ∧ w = w' := by
  obtain ⟨c0, c1, c2⟩ := h.cells
  have he := eql_self14
  clear h
  go_enter Tryz.func134, Tryz.ntmps134
  go_wp2
  go_ret
  exact ⟨rfl, rfl⟩
set_option maxRecDepth 100000 in
theorem refusal14 {base tb : Nat} {w : World} {X V : Value} {xs : List Int} {L : List (Int × Int)} (h : Tape14 base w tb X V xs L) (hn : L.length < 100000) :
    Calls Tryz.prog 158 #[.pointer (some ⟨tb, 0, none⟩)] w fun e w' => e = .returned (.int .i64 0) ∧ w = w' := by
  have HV := Lib.hid (valid14 h)
  obtain ⟨c0, c1, c2⟩ := h.cells
  obtain ⟨A, cap, hVe⟩ := owns_len14 h.done
  subst hVe
  clear h
  generalize L.length = n at *
  have hI : decide ((100000 : Int) ≤ (n : Int)) = false := decide_eq_false (by omega)
  clear hn
  go_enter Tryz.func158, Tryz.ntmps158
  go_wp2_with (go_at_call 134; (with_reducible refine HV.out.mono ?_); rintro e w' ⟨rfl, rfl⟩)
  go_ret
  exact ⟨rfl, rfl⟩
theorem u8_mod14 (b : Int) : IntKind.i64.wrap (IntKind.u8.wrap b) = b % 256 := by
  have e : IntKind.u8.wrap b = b % 256 := by simp [IntKind.wrap, IntKind.bits, IntKind.signed]
  rw [e]
  exact IntWalk.i64_in _ (by omega)
end Go.Proofs.YtkfdgpgildanbaaGreat
namespace Go.Proofs.YtkfdgpgildanbaaGreat
open Go.RowKit
set_option linter.unusedVariables false
def SeqMoves {α : Type} (F : Fence) (n : Nat) (P : Program) (gf : Nat) (lb : Array Value) (encs : α → Array Value) (Mv Kp : World → World → Prop) (S Sp : List α → Prop) (W : World) : Prop :=
  ∀ (l : Nat) (J X : List α → World → Prop), (∀ s A B, Mv A B → J s A → J s B) → (∀ s A B, Mv A B → X s A → X s B) →
    (∀ s x A, J s A → Sp (s ++ [x]) → YieldAt F (n - 1) P l (encs x) A fun e B => (e = .returned (.bool true) ∧ J (s ++ [x]) B ∧ Kp A B) ∨ (e = .returned (.bool false) ∧ X (s ++ [x]) B)) →
    J [] W → CallsIn F n P gf (#[.func (.yield l) #[] #[]] ++ lb) W fun e B => (∃ v, e = .returned v) ∧ ((∃ s, S s ∧ J s B) ∨ ∃ s, Sp s ∧ X s B)
def BookAt (b : Nat) (r : LoopState → Option Code → Loop) (st : LoopState) (pe : Option Code) (W : World) : Prop := W.heap[b + 1]? = some (.loop (r st pe)) ∧ W.heap[b]? = some (.deferred (some []))
def Turns (b : Nat) (I : World → Prop) : Prop := ∀ A l o o', b ≤ l → A.heap[l]? = some o → o.isCells = false → I A → I (A.putObj l o')
section
variable {F : Fence} {n : Nat} {P : Program}
theorem range_moves {α : Type} {g : Operand} {ps : Array Tmp} {assign body : Code} {Q : Exit → Act → World → Prop} {a : Act} {w : World} (hro : F.round = none) (h1 : 1 ≤ n) {gf : Nat} {lb : Array Value}
    (hg : a.eval g = .func (.func gf) #[] lb) (hF : F.fn gf) (eg : ∀ args w, (callFunc gf args).run P w = .ok (.enter gf args) w) {encs : α → Array Value} {Mv Kp : World → World → Prop} {S Sp : List α → Prop}
    (hseq : ∀ W, Below w.heap.size w W → SeqMoves F (n - 1) P gf lb encs Mv Kp S Sp W) (hKt : ∀ {A B C : World}, Kp A B → Kp B C → Kp A C)
    (hKb : ∀ (A : World) l o o', w.heap.size ≤ l → A.heap[l]? = some o → o.isCells = false → o.isWalk = false → Kp A (A.putObj l o')) (hMv : ∀ A B (k : Nat) (o : Obj), Mv A B → A.heap[k]? = some o → o.isCells = false → B.heap[k]? = some o)
    (hps : ∀ x, (encs x).size = ps.size) (I X : List α → World → Prop) (hIm : ∀ s A B, Mv A B → I s A → I s B) (hXm : ∀ s A B, Mv A B → X s A → X s B) (hIt : ∀ s, Turns w.heap.size (I s)) (hXt : ∀ s, Turns w.heap.size (X s))
    (h0 : ∀ W, Below w.heap.size w W → I [] W) (a₁ : α → Act)
    (hassign : ∀ (l : Nat) (x : α) (W : World) (K : Act → World → Prop), K (a₁ x) W →
      assign.wpIn (F.inRound l) (n - 1 - 1) P (Exit.then K (fun _ _ _ => False)) { tmps := (ps.zip (encs x)).foldl (fun t (p, v) => t.setIfInBounds p v) a.tmps, defers := [] } W)
    (hbody : ∀ (l : Nat) (s : List α) (x : α) (W : World), I s W → Sp (s ++ [x]) → body.wpIn (F.inRound l) (n - 1 - 1) P (ownPostK Kp I (fun c s W => c = .ret ∧ X s W) (s ++ [x]) W) (a₁ x) W)
    (hdone : ∀ (D : Nat) (s : List α) (W : World), w.heap.size ≤ D → S s → I s W → W.heap[D]? = some (.deferred (some [])) → Q .normal { a with defers := { target := .collected D, args := #[] } :: a.defers } W)
    (hstop : ∀ (D : Nat) (s : List α) (W : World), w.heap.size ≤ D → Sp s → X s W → W.heap[D]? = some (.deferred (some [])) → Code.wpIn F n P .ret Q { a with defers := { target := .collected D, args := #[] } :: a.defers } W) :
    (Code.rangeFunc g ps assign body).wpIn F n P Q a w := by
  refine wpIn_rangeFunc fun fn hfn => ?_
  rw [hro]
  obtain ⟨r, hr⟩ : ∃ r : LoopState → Option Code → Loop, r = fun st pe => { state := st, pending := pe, fn, tmps := a.tmps, params := ps, assign, body, defers := w.heap.size } := ⟨_, rfl⟩
  obtain ⟨W1, hW1⟩ : ∃ W1, W1 = (w.alloc (.deferred (some []))).alloc (.loop (r .ready none)) := ⟨_, rfl⟩
  have hb1 : Below w.heap.size w W1 := by
    rw [hW1]
    exact ((Below.refl _ w).alloc (Nat.le_refl _) _).alloc (by simp) _
  have hbook : BookAt w.heap.size r .ready none W1 := by
    constructor
    · rw [hW1]
      have := heap_alloc_new (w.alloc (.deferred (some []))) (.loop (r .ready none))
      rwa [World.size_alloc] at this
    · rw [hW1]
      exact (Below.heap_alloc _ _ _ (by simp)).trans (heap_alloc_new w _)
  have bookMv : ∀ {st pe A B}, Mv A B → BookAt w.heap.size r st pe A → BookAt w.heap.size r st pe B := fun hm hb => ⟨hMv _ _ _ _ hm hb.1 rfl, hMv _ _ _ _ hm hb.2 rfl⟩
  -- what the end of a round does to the book
  have close : ∀ (jump : Option Code) (A B : World), BookAt w.heap.size r .busy none A → KeepsOthers A B → ∃ C, (Instr.endRound (w.heap.size + 1) jump).run P B = .ok (.bool jump.isNone) C ∧
      BookAt w.heap.size r (if jump.isNone then .ready else .done) jump C ∧ (∀ I : World → Prop, Turns w.heap.size I → I B → I C) ∧ Kp B C := fun jump A B hA hk => by
    have hl := hk.same _ _ hA.1 rfl
    refine ⟨_, by have := run_endRound (P := P) jump hl; rw [hr] at this; exact this, ⟨by rw [World.putObj_heap_same (heap_lt hl), hr], (World.putObj_heap_other (by omega)).trans (hk.same _ _ hA.2 rfl)⟩, fun I ht hi => ht _ _ _ _ (by omega) hl rfl hi, hKb _ _ _ _ (by omega) hl rfl rfl⟩
  refine ⟨w.heap.size + 1, [{ target := .collected w.heap.size, args := #[] }], W1, { target := .fn (.func gf) lb, args := #[.func (.yield (w.heap.size + 1)) #[] #[]] }, W1, gf, #[.func (.yield (w.heap.size + 1)) #[] #[]] ++ lb, W1, ?_, ?_, ?_, ?_, fun _ => h1, ?_⟩
  · rw [hW1, hr]
    exact run_enterLoop_outer _ _ _ _ _
  · simp only [resolve, hg]
    simp [go_sem]
  · intro f' hf'
    simp [Target.leads] at hf'
    subst hf'
    exact hF
  · simp [invoke, go_sem, eg]
  · refine (hseq W1 hb1 (w.heap.size + 1) (fun s W => I s W ∧ BookAt w.heap.size r .ready none W) (fun s W => X s W ∧ BookAt w.heap.size r .done (some .ret) W) (fun s A B hm h => ⟨hIm s A B hm h.1, bookMv hm h.2⟩) (fun s A B hm h => ⟨hXm s A B hm h.1, bookMv hm h.2⟩) ?_ ⟨h0 W1 hb1, hbook⟩).mono ?_
    · rintro s x A ⟨hi, hbk⟩ hlen
      have hyd := run_yield (P := P) (args := encs x) hbk.1 (by rw [hr]; exact hps x)
      have hbg := run_beginRound (P := P) hbk.1 (by rw [hr])
      have hpo := World.putObj_heap_same (o := .loop { r .ready none with state := .busy }) (heap_lt hbk.1)
      have hbusy : BookAt w.heap.size r .busy none (A.putObj (w.heap.size + 1) (.loop { r .ready none with state := .busy })) := ⟨by rw [hpo, hr], (World.putObj_heap_other (by omega)).trans hbk.2⟩
      have hkp := hKb A _ _ (.loop { r .ready none with state := .busy }) (show w.heap.size ≤ w.heap.size + 1 by omega) hbk.1 rfl rfl
      have hi2 := hIt s A _ _ (.loop { r .ready none with state := .busy }) (show w.heap.size ≤ w.heap.size + 1 by omega) hbk.1 rfl hi
      rw [hr] at hyd
      refine ⟨fn, _, assign, body, hyd, roundIn_of_wpIn hfn (hassign _ x A _ ⟨_, hbg, wpIn_mono (hbody _ s x _ hi2 hlen) ?_⟩)⟩
      intro e b B hp
      match e, hp with
      | .normal, ⟨hk, hkp2, hi3⟩ =>
        obtain ⟨C, hC, hbC, hIC, hKC⟩ := close none _ B hbusy hk
        exact ⟨_, _, hC, .inl ⟨rfl, ⟨hIC _ (hIt _) hi3, hbC⟩, hKt (hKt hkp hkp2) hKC⟩⟩
      | .ret, ⟨hk, _, hx⟩ =>
        obtain ⟨C, hC, hbC, hIC, hKC⟩ := close (some .ret) _ B hbusy hk
        exact ⟨_, _, hC, .inr ⟨rfl, hIC _ (hXt _) hx, hbC⟩⟩
      | .exit id, ⟨_, h, _⟩ => cases h
      | .goto t, ⟨_, h, _⟩ => cases h
      | .panic ch, h => exact h.elim
      | .outgrown, h => exact h.elim
    · rintro e B ⟨⟨v, rfl⟩, (⟨s, hS, hi, hbk⟩ | ⟨s, hSp, hx, hbk⟩)⟩
      · have he := run_endLoop (P := P) hbk.1 (by rw [hr]; simp)
        refine ⟨none, _, by rw [he, hr], hdone _ s _ (Nat.le_refl _) hS (hIt s _ _ _ _ (by omega) hbk.1 rfl hi) ((World.putObj_heap_other (by omega)).trans hbk.2)⟩
      · have he := run_endLoop (P := P) hbk.1 (by rw [hr]; simp)
        refine ⟨some .ret, _, by rw [he, hr], hstop _ s _ (Nat.le_refl _) hSp (hXt s _ _ _ _ (by omega) hbk.1 rfl hx) ((World.putObj_heap_other (by omega)).trans hbk.2)⟩
end
end Go.Proofs.YtkfdgpgildanbaaGreat
namespace Go.Proofs.YtkfdgpgildanbaaGreat
open Go.RowKit
set_option linter.unusedVariables false
section
variable {F : Fence} {n : Nat} {P : Program}
theorem range_boxes {α : Type} {g : Operand} {ps : Array Tmp} {assign body : Code} {Q : Exit → Act → World → Prop} {a : Act} {w : World} (hro : F.round = none) (h1 : 1 ≤ n) {gf : Nat} {lb : Array Value}
    (hg : a.eval g = .func (.func gf) #[] lb) (hF : F.fn gf) (eg : ∀ args w, (callFunc gf args).run P w = .ok (.enter gf args) w) {encs : α → Array Value} {Mv Kp : World → World → Prop} {S Sp : List α → Prop}
    (hseq : ∀ W, Below w.heap.size w W → SeqMoves F (n - 1) P gf lb encs Mv Kp S Sp W) (hKt : ∀ {A B C : World}, Kp A B → Kp B C → Kp A C) (hMK : ∀ {A B : World}, Mv A B → Kp A B)
    (hKb : ∀ (A : World) l o o', w.heap.size ≤ l → A.heap[l]? = some o → o.isCells = false → o.isWalk = false → Kp A (A.putObj l o')) (hMv : ∀ A B (k : Nat) (o : Obj), Mv A B → A.heap[k]? = some o → o.isCells = false → B.heap[k]? = some o)
    (hps : ∀ x, (encs x).size = ps.size) (I X : List α → World → Prop) (hIm : ∀ s A B, Mv A B → I s A → I s B) (hXm : ∀ s A B, Mv A B → X s A → X s B) (hIt : ∀ s, Turns w.heap.size (I s)) (hXt : ∀ s, Turns w.heap.size (X s))
    (h0 : ∀ W, Below w.heap.size w W → I [] W) (a₁ : α → World → Act) (W₁ : α → World → World) (hW₁ : ∀ x A, Mv A (W₁ x A))
    (hassign : ∀ (l : Nat) (x : α) (W : World) (K : Act → World → Prop), K (a₁ x W) (W₁ x W) →
      assign.wpIn (F.inRound l) (n - 1 - 1) P (Exit.then K (fun _ _ _ => False)) { tmps := (ps.zip (encs x)).foldl (fun t (p, v) => t.setIfInBounds p v) a.tmps, defers := [] } W)
    (hbody : ∀ (l : Nat) (s : List α) (x : α) (W0 W : World), I s W0 → I s W → Sp (s ++ [x]) → (∀ (k : Nat) (o : Obj), (W₁ x W0).heap[k]? = some o → o.isCells = true → W.heap[k]? = some o) → (W₁ x W0).heap.size ≤ W.heap.size →
      body.wpIn (F.inRound l) (n - 1 - 1) P (ownPostK Kp I (fun c s W => c = .ret ∧ X s W) (s ++ [x]) W) (a₁ x W0) W)
    (hdone : ∀ (D : Nat) (s : List α) (W : World), w.heap.size ≤ D → S s → I s W → W.heap[D]? = some (.deferred (some [])) → Q .normal { a with defers := { target := .collected D, args := #[] } :: a.defers } W)
    (hstop : ∀ (D : Nat) (s : List α) (W : World), w.heap.size ≤ D → Sp s → X s W → W.heap[D]? = some (.deferred (some [])) → Code.wpIn F n P .ret Q { a with defers := { target := .collected D, args := #[] } :: a.defers } W) :
    (Code.rangeFunc g ps assign body).wpIn F n P Q a w := by
  refine wpIn_rangeFunc fun fn hfn => ?_
  rw [hro]
  obtain ⟨r, hr⟩ : ∃ r : LoopState → Option Code → Loop, r = fun st pe => { state := st, pending := pe, fn, tmps := a.tmps, params := ps, assign, body, defers := w.heap.size } := ⟨_, rfl⟩
  obtain ⟨W1, hW1⟩ : ∃ W1, W1 = (w.alloc (.deferred (some []))).alloc (.loop (r .ready none)) := ⟨_, rfl⟩
  have hb1 : Below w.heap.size w W1 := by
    rw [hW1]
    exact ((Below.refl _ w).alloc (Nat.le_refl _) _).alloc (by simp) _
  have hbook : BookAt w.heap.size r .ready none W1 := by
    constructor
    · rw [hW1]
      have := heap_alloc_new (w.alloc (.deferred (some []))) (.loop (r .ready none))
      rwa [World.size_alloc] at this
    · rw [hW1]
      exact (Below.heap_alloc _ _ _ (by simp)).trans (heap_alloc_new w _)
  have bookMv : ∀ {st pe A B}, Mv A B → BookAt w.heap.size r st pe A → BookAt w.heap.size r st pe B := fun hm hb => ⟨hMv _ _ _ _ hm hb.1 rfl, hMv _ _ _ _ hm hb.2 rfl⟩
  have close : ∀ (jump : Option Code) (A B : World), BookAt w.heap.size r .busy none A → KeepsOthers A B → ∃ C, (Instr.endRound (w.heap.size + 1) jump).run P B = .ok (.bool jump.isNone) C ∧
      BookAt w.heap.size r (if jump.isNone then .ready else .done) jump C ∧ (∀ I : World → Prop, Turns w.heap.size I → I B → I C) ∧ Kp B C := fun jump A B hA hk => by
    have hl := hk.same _ _ hA.1 rfl
    refine ⟨_, by have := run_endRound (P := P) jump hl; rw [hr] at this; exact this, ⟨by rw [World.putObj_heap_same (heap_lt hl), hr], (World.putObj_heap_other (by omega)).trans (hk.same _ _ hA.2 rfl)⟩, fun I ht hi => ht _ _ _ _ (by omega) hl rfl hi, hKb _ _ _ _ (by omega) hl rfl rfl⟩
  refine ⟨w.heap.size + 1, [{ target := .collected w.heap.size, args := #[] }], W1, { target := .fn (.func gf) lb, args := #[.func (.yield (w.heap.size + 1)) #[] #[]] }, W1, gf, #[.func (.yield (w.heap.size + 1)) #[] #[]] ++ lb, W1, ?_, ?_, ?_, ?_, fun _ => h1, ?_⟩
  · rw [hW1, hr]
    exact run_enterLoop_outer _ _ _ _ _
  · simp only [resolve, hg]
    simp [go_sem]
  · intro f' hf'
    simp [Target.leads] at hf'
    subst hf'
    exact hF
  · simp [invoke, go_sem, eg]
  · refine (hseq W1 hb1 (w.heap.size + 1) (fun s W => I s W ∧ BookAt w.heap.size r .ready none W) (fun s W => X s W ∧ BookAt w.heap.size r .done (some .ret) W) (fun s A B hm h => ⟨hIm s A B hm h.1, bookMv hm h.2⟩) (fun s A B hm h => ⟨hXm s A B hm h.1, bookMv hm h.2⟩) ?_ ⟨h0 W1 hb1, hbook⟩).mono ?_
    · rintro s x A0 ⟨hi0, hbk0⟩ hlen
      have hyd := run_yield (P := P) (args := encs x) hbk0.1 (by rw [hr]; exact hps x)
      have hm := hW₁ x A0
      obtain ⟨A, hA⟩ : ∃ A, A = W₁ x A0 := ⟨_, rfl⟩
      have hi : I s A := by rw [hA]; exact hIm s _ _ hm hi0
      have hbk : BookAt w.heap.size r .ready none A := by rw [hA]; exact bookMv hm hbk0
      have hkA : Kp A0 A := by rw [hA]; exact hMK hm
      have hbg := run_beginRound (P := P) hbk.1 (by rw [hr])
      have hpo := World.putObj_heap_same (o := .loop { r .ready none with state := .busy }) (heap_lt hbk.1)
      have hbusy : BookAt w.heap.size r .busy none (A.putObj (w.heap.size + 1) (.loop { r .ready none with state := .busy })) := ⟨by rw [hpo, hr], (World.putObj_heap_other (by omega)).trans hbk.2⟩
      have hkp := hKb A _ _ (.loop { r .ready none with state := .busy }) (show w.heap.size ≤ w.heap.size + 1 by omega) hbk.1 rfl rfl
      have hi2 := hIt s A _ _ (.loop { r .ready none with state := .busy }) (show w.heap.size ≤ w.heap.size + 1 by omega) hbk.1 rfl hi
      have hcells : ∀ (k : Nat) (o : Obj), (W₁ x A0).heap[k]? = some o → o.isCells = true → (A.putObj (w.heap.size + 1) (.loop { r .ready none with state := .busy })).heap[k]? = some o := fun k o hk hc => by
        rw [← hA] at hk
        refine (World.putObj_heap_other (fun e => ?_)).trans hk
        subst e
        rw [hbk.1] at hk
        injection hk with hk
        subst hk
        cases hc
      rw [hr] at hyd
      refine ⟨fn, _, assign, body, hyd, roundIn_of_wpIn hfn (hassign _ x A0 _ ?_)⟩
      rw [← hA]
      refine ⟨_, hbg, wpIn_mono (hbody _ s x A0 _ hi0 hi2 hlen hcells (by rw [← hA]; simp [World.putObj])) ?_⟩
      intro e b B hp
      match e, hp with
      | .normal, ⟨hk, hkp2, hi3⟩ =>
        obtain ⟨C, hC, hbC, hIC, hKC⟩ := close none _ B hbusy hk
        exact ⟨_, _, hC, .inl ⟨rfl, ⟨hIC _ (hIt _) hi3, hbC⟩, hKt hkA (hKt (hKt hkp hkp2) hKC)⟩⟩
      | .ret, ⟨hk, _, hx⟩ =>
        obtain ⟨C, hC, hbC, hIC, hKC⟩ := close (some .ret) _ B hbusy hk
        exact ⟨_, _, hC, .inr ⟨rfl, hIC _ (hXt _) hx, hbC⟩⟩
      | .exit id, ⟨_, h, _⟩ => cases h
      | .goto t, ⟨_, h, _⟩ => cases h
      | .panic ch, h => exact h.elim
      | .outgrown, h => exact h.elim
    · rintro e B ⟨⟨v, rfl⟩, (⟨s, hS, hi, hbk⟩ | ⟨s, hSp, hx, hbk⟩)⟩
      · have he := run_endLoop (P := P) hbk.1 (by rw [hr]; simp)
        refine ⟨none, _, by rw [he, hr], hdone _ s _ (Nat.le_refl _) hS (hIt s _ _ _ _ (by omega) hbk.1 rfl hi) ((World.putObj_heap_other (by omega)).trans hbk.2)⟩
      · have he := run_endLoop (P := P) hbk.1 (by rw [hr]; simp)
        refine ⟨some .ret, _, by rw [he, hr], hstop _ s _ (Nat.le_refl _) hSp (hXt s _ _ _ _ (by omega) hbk.1 rfl hx) ((World.putObj_heap_other (by omega)).trans hbk.2)⟩
end
end Go.Proofs.YtkfdgpgildanbaaGreat
namespace Go.Proofs.YtkfdgpgildanbaaGreat
open Go.RowKit
set_option linter.unusedVariables false
set_option linter.unusedSimpArgs false
theorem Tape14.next {base tb : Nat} {w : World} {X V X' : Value} {xs ys : List Int} {L : List (Int × Int)} (h : Tape14 base w tb X V xs L) (hX : ∀ (W' : World), (∀ (g : Nat) (c : Array Value), w.heap[g]? = some (.cells c 5 (0, 0)) → W'.heap[g]? = some (.cells c 5 (0, 0))) → OwnB base W' X' ys) :
    Tape14 base (w.setCell ⟨tb, 1, none⟩ X') tb X' V ys L := by
  have hset := heap_setCell_same w tb 1 _ _ X' h.box
  have hbut : But (OneBlock tb) w (w.setCell ⟨tb, 1, none⟩ X') := (But.refl (OneBlock tb) w).setCell (p := ⟨tb, 1, none⟩) (.inl rfl) _
  refine ⟨hset, hX _ (fun g c hc => hbut.heap hc (fun e => ?_)), h.done.but hbut (fun g hg e => ?_), h.few⟩
  · have e' : g = tb := e
    subst e'
    exact types14 hc h.box (by decide)
  · have e' : g = tb := e
    subst e'
    exact h.ne hg.symm
theorem slice_one14 (g off n cap o' : Nat) (hc : n + 1 ≤ cap) (ho : o' = if cap = 1 then off else off + 1) : ∀ W, (Instr.slice 22 (.slice (some ⟨g, off, none⟩) (n + 1) cap) (some (.int .i64 1)) none none).run Tryz.prog W = .ok (.slice (some ⟨g, o', none⟩) n (cap - 1)) W := by
  intro W
  have h1 : ¬ cap = 0 := by omega
  by_cases h2 : cap = 1
  · subst h2
    obtain rfl : n = 0 := by omega
    rw [if_pos rfl] at ho
    subst ho
    simp [go_sem, Tryz.underlying22, Tryz.sizeOf5]
  · rw [if_neg h2] at ho
    subst ho
    have h3 : 1 ≤ cap := by omega
    have h4 : ¬ cap - 1 = 0 := by omega
    have h5 : ¬ (cap : Int) = 1 := by omega
    simp [go_sem, Tryz.underlying22, Tryz.sizeOf5, h1, h2, h3, h4, h5]
    intro h6
    exact absurd h6 (by omega)
end Go.Proofs.YtkfdgpgildanbaaGreat
namespace Go.Proofs.YtkfdgpgildanbaaGreat
open Go.RowKit
set_option linter.unusedVariables false
set_option linter.unusedSimpArgs false
theorem eqlB_nil14 (a : Option Addr) (n c : Nat) (w : World) : (binOp .eql 22 (.slice a n c) (.slice none 0 0)).run Tryz.prog w = .ok (.bool a.isNone) w := Lib.run_eql_slice_nil w 22 5 a n c 0 0 Tryz.underlying22
theorem eqlR_nil14 (a : Option Addr) (n c : Nat) (w : World) : (binOp .eql 177 (.slice a n c) (.slice none 0 0)).run Tryz.prog w = .ok (.bool a.isNone) w := Lib.run_eql_slice_nil w 177 182 a n c 0 0 Tryz.underlying177
theorem cloneB14 (X : Value) (xs : List Int) (w : World) (hX : IsBytes w w.heap.size X xs) (hm : xs.length ≤ 140737488355328) : Calls Tryz.prog 58 #[X] w (CopyDone w xs) := by
  rcases hX.2.2 with ⟨rfl, rfl⟩ | ⟨ad, cap, rfl, h1, h2, h3⟩
  · have hsn := eqlB_nil14
    clear hX
    go_enter Tryz.func58, Tryz.ntmps58
    go_wp2
    go_ret
    exact ⟨_, rfl, Owns.nil _ _ _ _ _, Below.refl _ _⟩
  · obtain ⟨i0, hi, hz0, hz1, hz2⟩ := info_parts u8_info
    have HI := Lib.hid hi
    have HZ0 := Lib.hid hz0
    have HZ1 := Lib.hid hz1
    have HZ2 := Lib.hid hz2
    have hx := hX.1
    have news : ∀ j u, (xs.map (Value.int .u8))[j]? = some u → (w.alloc (.cells #[] 5)).cell? (ad.add j) = some u := by
      intro j u hj
      have hl : j < xs.length := by
        rcases Nat.lt_or_ge j xs.length with h | h
        · exact h
        · rw [List.getElem?_eq_none (by simpa using h)] at hj
          cases hj
      have hbl : (ad.add j).block = ad.block := by unfold Addr.add; split <;> rfl
      rw [World.cell?_alloc_lt w _ _ (by rw [hbl]; exact h2 (by omega)), h3 j hl]
      simp [List.getElem?_eq_getElem hl] at hj
      subst hj
      simp [List.getD, List.getElem?_eq_getElem hl]
    have hmade := Owns.made w w.heap.size 5 1 IsU8 (Nat.le_refl _)
    have HN := Lib.hid news
    have HM := Lib.hid hmade
    have HK := Lib.hid (u8_cells hx)
    clear hi hz0 hz1 hz2 news hmade hX hx h1 h2 h3
    have hsn := eqlB_nil14
    go_enter Tryz.func58, Tryz.ntmps58
    go_wp2_with (at_builtin; refine wpList_append_q _ rfl (.tmp 5) (.tmp 6) 22 rfl w.heap.size 5 i0 _ 1 1 Tryz.underlying22 HI.out HZ0.out HZ1.out HZ2.out rfl (by decide) IsU8 zero_u8 _ 0 [] rfl HM.out ad xs.length cap (xs.map (Value.int .u8)) rfl (by simp) HN.out (ints_oneCell _ _) HK.out (by simp only [maxLen]; omega) (by omega) (by simp) ?_; intro v' w1 hown' hgrow; have R0 := Lib.hid hown'; have R1 := Lib.hid hgrow; clear hown' hgrow)
    go_ret
    refine ⟨_, rfl, ?_, ((Below.refl _ _).alloc (Nat.le_refl _) _).grown R1.out (by simp) (fun g hg => (HM.out.lt hg).1)⟩
    have h := R0.out
    simpa using h
def DeedsDone (w : World) (L : List (Int × Int)) (e : Ending) (w' : World) : Prop :=
  ∃ v, e = .returned v ∧ Owns w' w.heap.size 182 2 AnyC14 v L.length (cellsD L) ∧ Below w.heap.size w w'
theorem newsD14 {w : World} {b off : Nat} {sp : Option _} {L : List (Int × Int)} {o : Obj} (h2 : 0 < L.length → sp = none ∧ b < w.heap.size)
    (h3 : ∀ i, i < L.length → w.cell? ⟨b, off + i * 2, none⟩ = some (.int .i64 (L.getD i (0, 0)).1) ∧ w.cell? ⟨b, off + i * 2 + 1, none⟩ = some (.int .i64 (L.getD i (0, 0)).2)) :
    ∀ j u, (cellsD L)[j]? = some u → (w.alloc o).cell? ((⟨b, off, sp⟩ : Addr).add j) = some u := by
  intro j u hj
  have hl : j < L.length * 2 := by
    rcases Nat.lt_or_ge j (L.length * 2) with h | h
    · exact h
    · rw [List.getElem?_eq_none (by rw [cellsD_len]; exact h)] at hj
      cases hj
  obtain ⟨rfl, hb⟩ := h2 (by omega)
  have e : (⟨b, off, none⟩ : Addr).add j = ⟨b, off + j, none⟩ := by unfold Addr.add; split <;> simp_all
  rw [e, World.cell?_alloc_lt w _ _ hb]
  obtain ⟨c1, c2⟩ := cellsD_at L (j / 2) (by omega)
  obtain ⟨d1, d2⟩ := h3 (j / 2) (by omega)
  rcases Nat.mod_two_eq_zero_or_one j with h | h
  · have hj2 : j = j / 2 * 2 := by omega
    rw [hj2] at hj ⊢
    rw [c1] at hj
    rw [d1, hj]
  · have hj2 : j = j / 2 * 2 + 1 := by omega
    rw [hj2] at hj ⊢
    rw [c2] at hj
    rw [show off + (j / 2 * 2 + 1) = off + j / 2 * 2 + 1 by omega, d2, hj]
theorem cloneD14 (X : Value) (L : List (Int × Int)) (w : World) (hX : IsDeeds w w.heap.size X L) (hm : L.length ≤ 8796093022208) : Calls Tryz.prog 136 #[X] w (DeedsDone w L) := by
  rcases hX.2 with ⟨rfl, rfl⟩ | ⟨b, off, sp, cap, rfl, h1, h2, h3⟩
  · have hsn := eqlR_nil14
    clear hX
    go_enter Tryz.func136, Tryz.ntmps136
    go_wp2
    go_ret
    exact ⟨_, rfl, Owns.nil _ _ _ _ _, Below.refl _ _⟩
  · obtain ⟨i0, hi, hz0, hz1, hz2⟩ := info_parts deed_info
    have HI := Lib.hid hi
    have HZ0 := Lib.hid hz0
    have HZ1 := Lib.hid hz1
    have HZ2 := Lib.hid hz2
    have HN := Lib.hid (newsD14 (o := .cells #[] 182) h2 h3)
    have hmade := Owns.made w w.heap.size 182 2 AnyC14 (Nat.le_refl _)
    have HM := Lib.hid hmade
    clear hi hz0 hz1 hz2 hmade hX h1 h2 h3
    have hsn := eqlR_nil14
    go_enter Tryz.func136, Tryz.ntmps136
    go_wp2_with (at_builtin; refine wpList_append_q _ rfl (.tmp 5) (.tmp 6) 177 rfl w.heap.size 182 i0 _ 2 16 Tryz.underlying177 HI.out HZ0.out HZ1.out HZ2.out rfl (by decide) AnyC14 (fun _ _ => trivial) _ 0 [] rfl HM.out ⟨b, off, sp⟩ L.length cap (cellsD L) rfl (cellsD_len L) HN.out (cellsD_one L) (fun _ _ => trivial) (by simp only [maxLen]; omega) (by omega) (by simp) ?_; intro v' w1 hown' hgrow; have R0 := Lib.hid hown'; have R1 := Lib.hid hgrow; clear hown' hgrow)
    go_ret
    refine ⟨_, rfl, ?_, ((Below.refl _ _).alloc (Nat.le_refl _) _).grown R1.out (by simp) (fun g hg => (HM.out.lt hg).1)⟩
    have h := R0.out
    simpa using h
def NewTape (w : World) (xs : List Int) (L : List (Int × Int)) (e : Ending) (w' : World) : Prop :=
  ∃ tb X V, e = .returned (.pointer (some ⟨tb, 0, none⟩)) ∧ w.heap.size ≤ tb ∧ Tape14 w.heap.size w' tb X V xs L ∧ Below w.heap.size w w'
theorem over14 {base : Nat} {w : World} {X V : Value} {xs : List Int} {L : List (Int × Int)} (hX : OwnB base w X xs) (hV : Owns w base 182 2 AnyC14 V L.length (cellsD L)) (hf : L.length ≤ 100000) :
    Calls Tryz.prog 135 #[X, V] w fun e w' => e = .returned (.pointer (some ⟨w.heap.size, 0, none⟩)) ∧ Tape14 base w' w.heap.size X V xs L ∧ Below w.heap.size w w' := by
  obtain ⟨A, cap, hVe⟩ := owns_len14 hV
  obtain ⟨XA, xcap, hXe⟩ := hX.len
  subst hVe hXe
  have hx := heap_alloc_new w (.cells #[.pointer none, .slice XA xs.length xcap, .slice A L.length cap] 179)
  have hset := heap_alloc_new w (.cells #[.pointer (some ⟨w.heap.size, 0, none⟩), .slice XA xs.length xcap, .slice A L.length cap] 179)
  have hb2 : Below w.heap.size w (w.alloc (.cells #[.pointer (some ⟨w.heap.size, 0, none⟩), .slice XA xs.length xcap, .slice A L.length cap] 179)) := (Below.refl _ _).alloc (Nat.le_refl _) _
  have HP : Hid (Tape14 base (w.alloc (.cells #[.pointer (some ⟨w.heap.size, 0, none⟩), .slice XA xs.length xcap, .slice A L.length cap] 179)) w.heap.size (.slice XA xs.length xcap) (.slice A L.length cap) xs L ∧ Below w.heap.size w (w.alloc (.cells #[.pointer (some ⟨w.heap.size, 0, none⟩), .slice XA xs.length xcap, .slice A L.length cap] 179))) :=
    Lib.hid ⟨⟨hset, hX.but (But.of_below (R := NoBlock) hb2) (fun _ _ _ _ h => h), hV.but (But.of_below (R := NoBlock) hb2) (fun _ _ h => h), hf⟩, hb2⟩
  obtain ⟨c0, c1, c2⟩ := cells3_14 hx
  have g0 := frozen_of_row _ w.heap.size 0 _ _ hx
  clear hx hset hb2 hX hV c1 c2 hf
  generalize L.length = n at *
  generalize xs.length = m at *
  go_enter Tryz.func135, Tryz.ntmps135
  go_wp2
  go_ret
  exact ⟨rfl, HP.out⟩
set_option maxRecDepth 100000 in
theorem new14 (X : Value) (xs : List Int) (w : World) (hX : IsBytes w w.heap.size X xs) (hm : xs.length ≤ 140737488355328) : Calls Tryz.prog 170 #[X] w (NewTape w xs []) := by
  have HC := Lib.hid (cloneB14 X xs w hX hm)
  have HX := Lib.hid hX.1
  have HM := Lib.hid hm
  have HOv := Lib.hid (fun (V : Value) (W : World) (h : OwnB w.heap.size W V xs) => over14 h (Owns.nil W w.heap.size 182 2 AnyC14) (L := []) (Nat.zero_le _))
  clear hX hm
  go_enter Tryz.func170, Tryz.ntmps170
  go_wp2_with (first
    | (go_at_call 58; (with_reducible refine HC.out.mono ?_); rintro e w1 ⟨v, rfl, ho, hb⟩; have HO := Lib.hid (OwnB.of_owns ho HX.out HM.out); have HB := Lib.hid hb; clear ho hb)
    | (go_at_call 135; (with_reducible refine (HOv.out _ _ HO.out).mono ?_); rintro e w2 ⟨rfl, ht, hb⟩; have HT := Lib.hid ht; have HB2 := Lib.hid (HB.out.trans (hb.mono HB.out.size)); have HS := Lib.hid HB.out.size; clear ht hb))
  go_ret
  exact ⟨_, _, _, rfl, HS.out, HT.out, HB2.out⟩
theorem deeds14 {base tb : Nat} {w : World} {X V : Value} {xs : List Int} {L : List (Int × Int)} (h : Tape14 base w tb X V xs L) :
    Calls Tryz.prog 141 #[.pointer (some ⟨tb, 0, none⟩)] w (DeedsDone w L) := by
  have HV := Lib.hid (valid14 h)
  have HC := Lib.hid (cloneD14 V L w (IsDeeds.of_owns h.done (Nat.le_refl _)) (Nat.le_trans h.few (by decide)))
  obtain ⟨c0, c1, c2⟩ := h.cells
  clear h
  go_enter Tryz.func141, Tryz.ntmps141
  go_wp2_with (first
    | (go_at_call 134; (with_reducible refine HV.out.mono ?_); rintro e w' ⟨rfl, rfl⟩)
    | (go_at_call 136; (with_reducible refine HC.out.mono ?_); rintro e w1 ⟨v, rfl, ho, hb⟩; have HO := Lib.hid ho; have HB := Lib.hid hb; clear ho hb))
  go_ret
  exact ⟨_, rfl, HO.out, HB.out⟩
theorem left14 {base tb : Nat} {w : World} {X V : Value} {xs : List Int} {L : List (Int × Int)} (h : Tape14 base w tb X V xs L) :
    Calls Tryz.prog 142 #[.pointer (some ⟨tb, 0, none⟩)] w fun e w' => e = .returned (.int .i64 xs.length) ∧ w = w' := by
  have HV := Lib.hid (valid14 h)
  obtain ⟨c0, c1, c2⟩ := h.cells
  obtain ⟨XA, xcap, hXe⟩ := h.left.len
  subst hXe
  clear h
  generalize xs.length = n at *
  go_enter Tryz.func142, Tryz.ntmps142
  go_wp2_with (go_at_call 134; (with_reducible refine HV.out.mono ?_); rintro e w' ⟨rfl, rfl⟩)
  go_ret
  exact ⟨rfl, rfl⟩
end Go.Proofs.YtkfdgpgildanbaaGreat
namespace Go.Proofs.YtkfdgpgildanbaaGreat
open Go.RowKit
set_option linter.unusedVariables false
set_option linter.unusedSimpArgs false
def Drew14 (w : World) (v : Value) (e : Ending) (w' : World) : Prop := e = .returned v ∧ ∃ n, w' = w.drewN n
theorem drewSame14 {P : Program} {f : FuncId} {args : Array Value} {u : World} {v : Value} (h : Calls P f args u fun e w' => e = .returned v ∧ u = w') : Calls P f args u (Drew14 u v) :=
  h.mono fun _ _ hh => ⟨hh.1, 0, hh.2.symm⟩
theorem IsDeeds.drewN {w : World} {B : Nat} {X : Value} {L : List (Int × Int)} (h : IsDeeds w B X L) (n : Nat) : IsDeeds (w.drewN n) B X L := h
theorem below_drewN14 {w w' : World} {n : Nat} (h : w' = w.drewN n) : Below w.heap.size w w' := by subst h; exact below_drewN (Below.refl _ _) n
theorem takeD_step {L M : List (Int × Int)} {k : Nat} (h : L.take k = M.take k) (hx : k < L.length) (hy : k < M.length) (he : L.getD k (0, 0) = M.getD k (0, 0)) : L.take (k + 1) = M.take (k + 1) := by
  rw [take_snoc14 hx, take_snoc14 hy, h, he]
theorem neD {L M : List (Int × Int)} {k : Nat} (he : L.getD k (0, 0) ≠ M.getD k (0, 0)) : (L == M) = false := by
  rw [beq_eq_false_iff_ne]
  intro h
  exact he (by rw [h])
theorem neqD_same (w : World) (a b : Int) : (binOp .neq 182 (.agg #[.int .i64 a, .int .i64 b]) (.agg #[.int .i64 a, .int .i64 b])).run Tryz.prog w = .ok (.bool false) w := by go_simp
theorem neqD_diff (w : World) (a b c d : Int) (h : ¬ (a = c ∧ b = d)) : (binOp .neq 182 (.agg #[.int .i64 a, .int .i64 b]) (.agg #[.int .i64 c, .int .i64 d])).run Tryz.prog w = .ok (.bool true) w := by
  by_cases h0 : a = c
  · subst h0
    have h1 : (b == d) = false := by simpa using fun e => h ⟨rfl, e⟩
    go_simp
  · have h1 : (a == c) = false := by simpa using h0
    go_simp
theorem equalD_len (X Y : Value) (L M : List (Int × Int)) (w : World) (B C : Nat) (hX : IsDeeds w B X L) (hY : IsDeeds w C Y M) (hne : L.length ≠ M.length) :
    Calls Tryz.prog 140 #[X, Y] w fun e w' => e = .returned (.bool (L == M)) ∧ w = w' := by
  obtain ⟨A1, c1, rfl, b1⟩ := hX.len
  obtain ⟨A2, c2, rfl, b2⟩ := hY.len
  rw [show (L == M) = false by rw [beq_eq_false_iff_ne]; intro h; exact hne (by rw [h])]
  have hne' : ((L.length : Int) != (M.length : Int)) = true := by simpa using (by omega : ¬ (L.length : Int) = M.length)
  have hne2 : ((L.length : Int) == (M.length : Int)) = false := by simpa using (by omega : ¬ (L.length : Int) = M.length)
  clear hX hY hne
  go_enter Tryz.func140, Tryz.ntmps140
  go_wp2
  go_ret
  exact ⟨rfl, rfl⟩
theorem eq_of_takes {L M : List (Int × Int)} {n : Nat} (hx : L.length = n) (hy : M.length = n) (h : L.take n = M.take n) : (L == M) = true := by
  rw [List.take_of_length_le (by omega), List.take_of_length_le (by omega)] at h
  rw [h]
  exact beq_self_eq_true _
set_option maxRecDepth 100000 in
set_option maxHeartbeats 2000000 in
theorem equalD_same (b1 o1 c1 b2 o2 c2 n : Nat) (L M : List (Int × Int)) (w : World) (hn : n ≤ 9223372036854775807) (hx : L.length = n) (hy : M.length = n)
    (h1 : ∀ i, i < n → w.cell? ⟨b1, o1 + i * 2, none⟩ = some (.int .i64 (L.getD i (0, 0)).1) ∧ w.cell? ⟨b1, o1 + i * 2 + 1, none⟩ = some (.int .i64 (L.getD i (0, 0)).2))
    (h2 : ∀ i, i < n → w.cell? ⟨b2, o2 + i * 2, none⟩ = some (.int .i64 (M.getD i (0, 0)).1) ∧ w.cell? ⟨b2, o2 + i * 2 + 1, none⟩ = some (.int .i64 (M.getD i (0, 0)).2)) (r1 : n ≤ c1) (r2 : n ≤ c2) :
    Calls Tryz.prog 140 #[.slice (some ⟨b1, o1, none⟩) n c1, .slice (some ⟨b2, o2, none⟩) n c2] w (Drew14 w (.bool (L == M))) := by
  have H1 := Lib.hid h1
  have H2 := Lib.hid h2
  have HX := Lib.hid hx
  have HY := Lib.hid hy
  clear h1 h2 hx hy
  go_enter Tryz.func140, Tryz.ntmps140
  go_wp2
  go_loopw [13] (fun i wr => ∃ k q : Nat, k ≤ n ∧ i = .int .i64 k ∧ wr = w.drewN q ∧ L.take k = M.take k) (fun i _ => n - (intOf i).toNat)
  case atStart => exact ⟨0, 0, by omega, rfl, rfl, rfl⟩
  case round =>
    obtain ⟨k, q, hk, rfl, rfl, ht⟩ := hrel
    have HT := Lib.hid ht
    clear ht
    by_cases hlt : k < n
    · obtain ⟨g1, g2⟩ := H1.out k hlt
      obtain ⟨g3, g4⟩ := H2.out k hlt
      obtain ⟨⟨a, b⟩, hx⟩ : ∃ x, x = L.getD k (0, 0) := ⟨_, rfl⟩
      obtain ⟨⟨c, d⟩, hy⟩ : ∃ y, y = M.getD k (0, 0) := ⟨_, rfl⟩
      rw [← hx] at g1 g2
      rw [← hy] at g3 g4
      dsimp only at g1 g2 g3 g4
      have GX := Lib.hid hx
      have GY := Lib.hid hy
      clear hx hy
      have k0 : (0 : Int) ≤ (k : Int) := by omega
      have k1 : (k : Int) < (n : Int) := by omega
      by_cases he : a = c ∧ b = d
      · obtain ⟨rfl, rfl⟩ := he
        have hs := Lib.hid (takeD_step HT.out (by rw [HX.out]; exact hlt) (by rw [HY.out]; exact hlt) (by rw [← GX.out, ← GY.out]))
        have hq := fun w => neqD_same w a b
        go_wp2
        go_quiet (fail)
        go_wp2
        go_roundw
        case rel => exact ⟨k + 1, _, by omega, by go_num, rfl, hs.out⟩
        case measure => simp [intOf]; omega
      · have hs := Lib.hid (neD (L := L) (M := M) (k := k) (by rw [← GX.out, ← GY.out]; intro e; injection e with e1 e2; exact he ⟨e1, e2⟩))
        have hq := fun w => neqD_diff w a b c d he
        clear he
        go_wp2
        go_quiet (fail)
        go_wp2
        go_ret
        rw [hs.out]
        exact ⟨rfl, _, World.drewN_drewN _ _ _⟩
    · obtain rfl : k = n := by omega
      go_wp2
      go_ret
      rw [eq_of_takes HX.out HY.out HT.out]
      exact ⟨rfl, q, rfl⟩
set_option maxRecDepth 100000 in
theorem equalD_none (A B : Option Addr) (c d : Nat) (w : World) : Calls Tryz.prog 140 #[.slice A 0 c, .slice B 0 d] w fun e w' => e = .returned (.bool true) ∧ w = w' := by
  go_enter Tryz.func140, Tryz.ntmps140
  go_wp2
  go_loopw [13] (fun i wr => i = .int .i64 0 ∧ wr = w) (fun _ _ => 0)
  case atStart => exact ⟨rfl, rfl⟩
  case round =>
    obtain ⟨rfl, rfl⟩ := hrel
    go_wp2
    go_ret
    exact ⟨rfl, rfl⟩
theorem equalD (X Y : Value) (L M : List (Int × Int)) (w : World) (B C : Nat) (hX : IsDeeds w B X L) (hY : IsDeeds w C Y M) :
    Calls Tryz.prog 140 #[X, Y] w (Drew14 w (.bool (L == M))) := by
  by_cases he : L.length = M.length
  · by_cases hp : 0 < L.length
    · obtain ⟨b1, o1, c1, rfl, r1, _, g1⟩ := hX.plain hp
      obtain ⟨b2, o2, c2, rfl, r2, _, g2⟩ := hY.plain (by omega)
      have hm := hX.1
      unfold maxLen at hm
      rw [← he] at g2 r2 ⊢
      exact equalD_same b1 o1 c1 b2 o2 c2 L.length L M w (by omega) rfl he.symm g1 g2 r1 r2
    · obtain ⟨A1, c1, rfl, _⟩ := hX.len
      obtain ⟨A2, c2, rfl, _⟩ := hY.len
      obtain rfl : L = [] := List.eq_nil_of_length_eq_zero (by omega)
      obtain rfl : M = [] := List.eq_nil_of_length_eq_zero (by omega)
      exact drewSame14 (equalD_none A1 A2 c1 c2 w)
  · exact drewSame14 (equalD_len X Y L M w B C hX hY he)
def FullD (w : World) (g cap : Nat) : Prop := ∃ cur, w.heap[g]? = some (.cells cur 182 (0, 0)) ∧ cur.size = cap * 2
theorem FullD.cell {w : World} {g cap : Nat} (h : FullD w g cap) {k : Nat} (hk : k < cap * 2) : (∃ v, w.cell? ⟨g, k, none⟩ = some v) ∧ w.frozen? ⟨g, k, none⟩ = false := by
  obtain ⟨cur, h1, h2⟩ := h
  refine ⟨⟨cur[k]'(by omega), ?_⟩, frozen_of_row w g k cur _ h1⟩
  rw [cell_of_row w g k cur _ _ h1, Array.getElem?_eq_getElem (by omega)]
theorem FullD.set {w : World} {g cap : Nat} (h : FullD w g cap) (k : Nat) (u : Value) : FullD (w.setCell ⟨g, k, none⟩ u) g cap := by
  obtain ⟨cur, h1, h2⟩ := h
  exact ⟨cur.setIfInBounds k u, heap_setCell_same w g k cur _ u h1, by simpa using h2⟩
end Go.Proofs.YtkfdgpgildanbaaGreat
