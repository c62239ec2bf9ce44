/- Acts, the calls that the statements of layer 2 are handed: how a struct of them, and a slice of structs, reads as plain numbers and bytes. Plain lemmas; no condition but what each names. -/
import Derived.Test.YthcefpakjkojgaaRows
import Derived.Test.YthcefpakjkojgaaMemG
import Derived.Deep.Slices
import Derived.ChangeSame
import Derived.ChangeShapes
import Derived.WideShapes
namespace Go.Proofs.Ythcefpakjkojgaa
open Go.RowKit Go.ChangeShapes Go.WideShapes
set_option linter.unusedVariables false

/-- An act, in plain numbers and bytes. -/
structure ActV where
  kind : Int
  n : Int
  at' : Int
  v : Int
  b : Value
  bs : List Int
def ActV.cell (A : ActV) : Nat → Value
  | 0 => .int .i64 A.kind
  | 1 => .int .i64 A.n
  | 2 => .int .u64 A.at'
  | 3 => .int .u64 A.v
  | _ => A.b
def ActV.cells (A : ActV) : List Value := [.int .i64 A.kind, .int .i64 A.n, .int .u64 A.at', .int .u64 A.v, A.b]
def ActV.zero : ActV := ⟨0, 0, 0, 0, .slice none 0 0, []⟩
structure ActV.ok (A : ActV) (w : World) (B : Nat) : Prop where
  k : -9223372036854775808 ≤ A.kind ∧ A.kind < 9223372036854775808
  n : -9223372036854775808 ≤ A.n ∧ A.n < 9223372036854775808
  a : 0 ≤ A.at' ∧ A.at' < 18446744073709551616
  v : 0 ≤ A.v ∧ A.v < 18446744073709551616
  b : IsBytes w B A.b A.bs
theorem ActV.ok.but {A : ActV} {w w' : World} {B : Nat} {R : Nat → Prop} (h : A.ok w B) (hb : But R w w') (hB : B ≤ w.heap.size) (hr : ∀ k, k < B → ¬ R k) : A.ok w' B :=
  ⟨h.k, h.n, h.a, h.v, h.b.but hb hB hr⟩
theorem ActV.ok.below {A : ActV} {w w' : World} {B B' : Nat} (h : A.ok w B) (hb : Below B' w w') (hB : B ≤ B') : A.ok w' B :=
  ⟨h.k, h.n, h.a, h.v, h.b.below hb hB⟩

section
variable {H : Type} {enc : TypeId × Value → H} {w : World}
theorem open_bytes {fuel : Nat} {c : Value} {x : DataW H × List MemPlace} (h : DataW.trod enc Try.prog w 0 (fun _ => true) true fuel 33 [c] = some x) : ∃ zs, IsBytes w w.heap.size c zs := by
  rcases open_ints Try.underlying33 Try.underlying5 (by kernel_rfl) h with ⟨hcs, _⟩ | ⟨a, l, cap, zs, hcs, _, hl, hm, hz, _, hcell, hwz⟩
  · injection hcs with hcs _
    subst hcs
    exact ⟨[], IsBytes.none w _⟩
  · injection hcs with hcs _
    subst hcs
    exact ⟨_, IsBytes.of_row hl hm (by simpa using hz) hcell hwz⟩
theorem open_act {fuel : Nat} {cs : List Value} {x : DataW H × List MemPlace} (h : DataW.trod enc Try.prog w 0 (fun _ => true) true fuel 35 cs = some x) : ∃ A : ActV, cs = A.cells ∧ A.ok w w.heap.size := by
  obtain ⟨xs, n, _, _, hl, hx, hf⟩ := DataW.trod_struct Try.underlying35 h
  have hC : Try.prog.cellsOf 35 = 5 := by kernel_rfl
  have c1 : Try.prog.cellsOf 3 = 1 := by kernel_rfl
  have c2 : Try.prog.cellsOf 32 = 1 := by kernel_rfl
  have c3 : Try.prog.cellsOf 33 = 1 := by kernel_rfl
  rw [hC] at hl
  match cs, hl with
  | [v0, v1, v2, v3, v4], _ =>
    match xs, hx with
    | [y0, y1, y2, y3, y4], _ =>
      have h0 := hf 0 _ rfl
      have h1 := hf 1 _ rfl
      have h2 := hf 2 _ rfl
      have h3 := hf 3 _ rfl
      have h4 := hf 4 _ rfl
      simp [c1] at h0
      simp [c1] at h1
      simp [c2] at h2
      simp [c2] at h3
      simp [c3] at h4
      obtain ⟨k, e0, _, w0⟩ := DataW.trod_int Try.underlying3 h0
      obtain ⟨n, e1, _, w1⟩ := DataW.trod_int Try.underlying3 h1
      obtain ⟨a, e2, _, w2⟩ := DataW.trod_int Try.underlying32 h2
      obtain ⟨v, e3, _, w3⟩ := DataW.trod_int Try.underlying32 h3
      obtain ⟨zs, hz⟩ := open_bytes (c := v4) h4
      injection e0 with e0 _
      injection e1 with e1 _
      injection e2 with e2 _
      injection e3 with e3 _
      subst e0 e1 e2 e3
      exact ⟨⟨k, n, a, v, v4, zs⟩, rfl, ⟨wf_i64 w0, wf_i64 w1, wf_u64 w2, wf_u64 w3, hz⟩⟩
end

/-- Acts in a row. -/
def IsActs (w : World) (B : Nat) (V : Value) (l : List ActV) : Prop :=
  l.length ≤ maxLen ∧ (∀ A ∈ l, A.ok w B) ∧ ((l = [] ∧ ∃ a cap, V = .slice a 0 cap) ∨
    ∃ b off cap, V = .slice (some ⟨b, off, none⟩) l.length cap ∧ l.length ≤ cap ∧ b < B ∧ ∀ i, i < l.length → ∀ j, j < 5 → w.cell? ⟨b, off + i * 5 + j, none⟩ = some ((l.getD i .zero).cell j))
theorem IsActs.len {w : World} {B : Nat} {V : Value} {l : List ActV} (h : IsActs w B V l) : ∃ a cap, V = .slice a l.length cap := by
  rcases h.2.2 with ⟨rfl, a, cap, h⟩ | ⟨b, off, cap, h, _⟩
  · exact ⟨a, cap, h⟩
  · exact ⟨_, cap, h⟩
theorem IsActs.but {w w' : World} {B : Nat} {V : Value} {l : List ActV} {R : Nat → Prop} (h : IsActs w B V l) (hb : But R w w') (hB : B ≤ w.heap.size) (hr : ∀ k, k < B → ¬ R k) : IsActs w' B V l := by
  refine ⟨h.1, fun A hA => (h.2.1 A hA).but hb hB hr, ?_⟩
  rcases h.2.2 with h0 | ⟨b, off, cap, h1, h2, h3, h4⟩
  · exact .inl h0
  · refine .inr ⟨b, off, cap, h1, h2, h3, fun i hi j hj => ?_⟩
    rw [hb.cell (p := ⟨b, off + i * 5 + j, none⟩) (show b < _ by omega) (hr b h3)]
    exact h4 i hi j hj
theorem IsActs.below {w w' : World} {B B' : Nat} {V : Value} {l : List ActV} (h : IsActs w B V l) (hb : Below B' w w') (hB : B ≤ B') (hs : B ≤ w.heap.size) : IsActs w' B V l :=
  h.but (R := fun k => B ≤ k) ⟨hb.os, hb.tape, hb.output, hb.size, fun k hk hn => hb.block k (by omega)⟩ hs (fun k hk hn => by omega)
theorem list_of {α : Type} {n : Nat} (d : α) {Q : Nat → α → Prop} (h : ∀ i, i < n → ∃ A, Q i A) : ∃ l : List α, l.length = n ∧ ∀ i, i < n → Q i (l.getD i d) := by
  induction n with
  | zero => exact ⟨[], rfl, fun i hi => by omega⟩
  | succ n ih =>
    obtain ⟨l, hl, hq⟩ := ih (fun i hi => h i (by omega))
    obtain ⟨A, hA⟩ := h n (by omega)
    refine ⟨l ++ [A], by simp [hl], fun i hi => ?_⟩
    by_cases e : i < n
    · have : (l ++ [A]).getD i d = l.getD i d := by simp [List.getD, List.getElem?_append_left (by omega : i < l.length)]
      rw [this]
      exact hq i e
    · obtain rfl : i = n := by omega
      have : (l ++ [A]).getD i d = A := by simp [List.getD, ← hl]
      rw [this]
      exact hA
theorem ActV.cells_cell (A : ActV) {j : Nat} (hj : j < 5) : A.cells[j]? = some (A.cell j) := by
  have : j = 0 ∨ j = 1 ∨ j = 2 ∨ j = 3 ∨ j = 4 := by omega
  rcases this with rfl | rfl | rfl | rfl | rfl <;> rfl
theorem add_twice (a : Addr) (h : a.spot = none) (i j : Nat) : (a.add i).add j = ⟨a.block, a.off + i + j, none⟩ := by
  obtain ⟨b, o, s⟩ := a
  simp only at h
  subst h
  unfold Addr.add
  split <;> split <;> simp_all [Nat.add_assoc]
theorem open_acts {H : Type} {enc : TypeId × Value → H} {w : World} {fuel : Nat} {V : Value} {x : DataW H × List MemPlace} (h : DataW.trod enc Try.prog w 0 (fun _ => true) true fuel 22 [V] = some x) : ∃ l, IsActs w w.heap.size V l := by
  have hC : Try.prog.cellsOf 35 = 5 := by kernel_rfl
  rcases Go.Deep.open_slice Try.underlying22 h with ⟨hcs, _⟩ | ⟨a, len, cap, m, n, D, Pl, hcs, _, hl, hm, hmm, _, hi⟩
  · injection hcs with hcs _
    subst hcs
    exact ⟨[], by simp, by simp, .inl ⟨rfl, none, 0, rfl⟩⟩
  · injection hcs with hcs _
    subst hcs
    obtain rfl : m = cap := by simpa using hmm
    by_cases h0 : len = 0
    · subst h0
      exact ⟨[], by simp, by simp, .inl ⟨rfl, some a, m, rfl⟩⟩
    have hs : a.spot = none := by
      obtain ⟨cs', hc, ht⟩ := hi 0 (by omega)
      obtain ⟨_, hlen, hcell⟩ := World.cells?_some hc
      rw [hC] at hcell hlen
      have h1 := hcell 0 (by omega)
      have e : a.add (0 * 5) = a := by simp [Addr.add]
      rw [e] at h1
      have e2 : a.add 0 = a := by simp [Addr.add]
      rw [e2, List.getElem?_eq_getElem (by omega)] at h1
      exact World.cell?_spot h1
    have hb : a.block < w.heap.size := by
      obtain ⟨cs', hc, ht⟩ := hi 0 (by omega)
      obtain ⟨_, hlen, hcell⟩ := World.cells?_some hc
      rw [hC] at hcell hlen
      have h1 := hcell 0 (by omega)
      rw [List.getElem?_eq_getElem (by omega), add_twice a hs] at h1
      exact block_lt_of_cell (a := ⟨a.block, _, none⟩) h1
    have hq : ∀ i, i < len → ∃ A : ActV, A.ok w w.heap.size ∧ ∀ j, j < 5 → w.cell? ⟨a.block, a.off + i * 5 + j, none⟩ = some (A.cell j) := by
      intro i hil
      obtain ⟨cs', hc, ht⟩ := hi i (by omega)
      obtain ⟨A, rfl, hA⟩ := open_act ht
      obtain ⟨_, hlen, hcell⟩ := World.cells?_some hc
      refine ⟨A, hA, fun j hj => ?_⟩
      have h1 := hcell j (by rw [hC]; exact hj)
      rw [hC, add_twice a hs, A.cells_cell hj] at h1
      exact h1
    obtain ⟨l, hll, hlq⟩ := list_of .zero hq
    refine ⟨l, by omega, fun A hA => ?_, .inr ⟨a.block, a.off, m, ?_, by omega, hb, fun i hi j hj => (hlq i (by omega)).2 j hj⟩⟩
    · obtain ⟨i, hi, rfl⟩ := List.getElem_of_mem hA
      have := (hlq i (by omega)).1
      simpa [List.getD, List.getElem?_eq_getElem hi] using this
    · rw [hll]
      obtain ⟨b, o, s⟩ := a
      simp only at hs
      subst hs
      rfl
end Go.Proofs.Ythcefpakjkojgaa
