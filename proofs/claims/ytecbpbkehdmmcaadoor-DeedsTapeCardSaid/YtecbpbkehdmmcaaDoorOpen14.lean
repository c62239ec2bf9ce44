/- How outcomes, bytes, bools and numbers that are handed to a statement are opened. Plain lemmas; no condition but what each names. -/
import Derived.Test.YtecbpbkehdmmcaaDoorLaws14A
import Derived.Test.YtecbpbkehdmmcaaDoorRows
import Derived.ChangeSame
import Derived.ChangeShapes
import Derived.WideShapes
import Derived.Deep.Slices
import Derived.SizedLaws
namespace Go.Proofs.YtecbpbkehdmmcaaDoor
open Go.RowKit Go.ChangeShapes Go.WideShapes
set_option linter.unusedVariables false

def InI14 (x : Int) : Prop := -9223372036854775808 ≤ x ∧ x < 9223372036854775808
theorem wf_i64_14 {z : Int} (h : (Lit.int .i64 z).wf = true) : InI14 z := by
  simp [Lit.wf, IntKind.min, IntKind.max, IntKind.signed, IntKind.bits] at h
  unfold InI14
  omega
theorem list_of14 {α : Type} {n : Nat} (d : α) {Q : Nat → α → Prop} (h : ∀ i, i < n → ∃ A, Q i A) : ∃ l : List α, l.length = n ∧ ∀ i, i < n → Q i (l.getD i d) := by
  induction n with
  | zero => exact ⟨[], rfl, fun i hi => by omega⟩
  | succ n ih =>
    obtain ⟨l, hl, hq⟩ := ih (fun i hi => h i (by omega))
    obtain ⟨A, hA⟩ := h n (by omega)
    refine ⟨l ++ [A], by simp [hl], fun i hi => ?_⟩
    by_cases e : i < n
    · have : (l ++ [A]).getD i d = l.getD i d := by simp [List.getD, List.getElem?_append_left (by omega : i < l.length)]
      rw [this]
      exact hq i e
    · obtain rfl : i = n := by omega
      have : (l ++ [A]).getD i d = A := by simp [List.getD, ← hl]
      rw [this]
      exact hA
theorem add_plain14 (a : Addr) (h : a.spot = none) (i : Nat) : a.add i = ⟨a.block, a.off + i, none⟩ := by
  obtain ⟨b, o, s⟩ := a
  simp only at h
  subst h
  unfold Addr.add
  split <;> simp_all
theorem add_twice14 (a : Addr) (h : a.spot = none) (i j : Nat) : (a.add i).add j = ⟨a.block, a.off + i + j, none⟩ := by
  rw [add_plain14 a h, add_plain14 _ rfl]
theorem trod_places14 {H : Type} {enc : TypeId × Value → H} {w : World} {t : TypeId} {v : Value} {d : DataW H} {p : List MemPlace} (h : DataW.Trod enc Tryd.prog w 0 (fun _ => true) true t v d p) : ∀ x ∈ p, x.block < w.heap.size := by
  obtain ⟨m, hm⟩ := h
  exact DataW.trod_lt m _ _ _ hm
/-- Bools to be read. -/
def IsBools14 (w : World) (B : Nat) (V : Value) (n : Nat) (r : Nat → Bool) : Prop :=
  n ≤ maxLen ∧ ((n = 0 ∧ ∃ a cap, V = .slice a 0 cap) ∨
    ∃ b off cap, V = .slice (some ⟨b, off, none⟩) n cap ∧ n ≤ cap ∧ b < B ∧ ∀ i, i < n → w.cell? ⟨b, off + i, none⟩ = some (.bool (r i)))
/-- Numbers to be read. -/
def IsInts14 (w : World) (B : Nat) (V : Value) (zs : List Int) : Prop :=
  zs.length ≤ maxLen ∧ (∀ z ∈ zs, InI14 z) ∧ ((zs.length = 0 ∧ ∃ a cap, V = .slice a 0 cap) ∨
    ∃ b off cap, V = .slice (some ⟨b, off, none⟩) zs.length cap ∧ zs.length ≤ cap ∧ b < B ∧ ∀ i, i < zs.length → w.cell? ⟨b, off + i, none⟩ = some (.int .i64 (zs.getD i 0)))
section
variable {H : Type} {enc : TypeId × Value → H} {w : World}
set_option maxRecDepth 100000 in
theorem open_bools14 {fuel : Nat} {V : Value} {x : DataW H × List MemPlace} (h : DataW.trod enc Tryd.prog w 0 (fun _ => true) true fuel 23 [V] = some x) : ∃ n r, IsBools14 w w.heap.size V n r := by
  have hC : Tryd.prog.cellsOf 4 = 1 := by kernel_rfl
  rcases Go.Deep.open_slice1 Tryd.underlying23 hC h with ⟨hcs, _⟩ | ⟨a, len, cap, m, n, V', D, Pl, hcs, _, hl, hm, hmm, _, hi⟩
  · injection hcs with hcs _
    subst hcs
    exact ⟨0, fun _ => false, by simp, .inl ⟨rfl, none, 0, rfl⟩⟩
  · injection hcs with hcs _
    subst hcs
    obtain rfl : m = cap := by simpa using hmm
    have hb : ∀ i, i < m → ∃ b, w.cell? (a.add i) = some (.bool b) := fun i hi' => by
      obtain ⟨h1, h2⟩ := hi i hi'
      obtain ⟨b, h3, _⟩ := DataW.trod_bool Tryd.underlying4 h2
      have : V' i = .bool b := by simpa using h3
      exact ⟨b, by rw [h1, this]⟩
    by_cases h0 : len = 0
    · subst h0
      exact ⟨0, fun _ => false, by simp, .inl ⟨rfl, some a, m, rfl⟩⟩
    obtain ⟨b0, h1⟩ := hb 0 (by omega)
    have e : a.add 0 = a := by simp [Addr.add]
    rw [e] at h1
    have hs : a.spot = none := World.cell?_spot h1
    have hlt : a.block < w.heap.size := World.block_lt_of_cell? w _ h1
    refine ⟨len, fun i => if h : i < m then (hb i h).choose else false, by omega, .inr ⟨a.block, a.off, m, ?_, hl, hlt, fun i hil => ?_⟩⟩
    · obtain ⟨b, o, s⟩ := a
      simp only at hs
      subst hs
      rfl
    · have hi' : i < m := by omega
      have := (hb i hi').choose_spec
      simp only [dif_pos hi']
      rw [← this]
      have e2 := add_plain14 a hs i
      rw [e2]
set_option maxRecDepth 100000 in
theorem open_bools14_value {r : Reach} {b0 : Nat} {v : Value} {d : DataW H} {p : List MemPlace} (hv : Value.okWide Tryd.prog w r b0 23 v)
    (h : DataW.Trod enc Tryd.prog w 0 (fun _ => true) true 23 v d p) : ∃ n r, IsBools14 w w.heap.size v n r := by
  obtain ⟨a, len, cap, rfl⟩ := okWide_slice Tryd.underlying23 hv
  obtain ⟨fuel, hf⟩ := h
  exact open_bools14 hf
set_option maxRecDepth 100000 in
theorem open_nums14_value {r : Reach} {b0 : Nat} {v : Value} {d : DataW H} {p : List MemPlace} (hv : Value.okWide Tryd.prog w r b0 24 v)
    (h : DataW.Trod enc Tryd.prog w 0 (fun _ => true) true 24 v d p) : ∃ zs, IsInts14 w w.heap.size v zs ∧ True := by
  obtain ⟨a, len, cap, rfl⟩ := okWide_slice Tryd.underlying24 hv
  obtain ⟨fuel, hf⟩ := h
  rcases open_ints Tryd.underlying24 Tryd.underlying3 (by kernel_rfl) hf with ⟨hcs, _⟩ | ⟨a, l, cap, zs, hcs, _, hl, hm, hz, _, hcell, hwz⟩
  · injection hcs with hcs _
    injection hcs with h1 h2 h3
    subst h1 h2 h3
    exact ⟨[], ⟨by simp, by simp, .inl ⟨rfl, none, 0, rfl⟩⟩, trivial⟩
  · injection hcs with hcs _
    injection hcs with h1 h2 h3
    subst h1 h2 h3
    by_cases h0 : len = 0
    · subst h0
      exact ⟨[], ⟨by simp, by simp, .inl ⟨rfl, some a, _, rfl⟩⟩, trivial⟩
    have hz' : zs.length = cap := by simpa using hz
    have hlen : (zs.take len).length = len := by simp; omega
    have h1 := hcell 0 (by omega)
    have e : a.add 0 = a := by simp [Addr.add]
    rw [e] at h1
    have hs : a.spot = none := World.cell?_spot h1
    have hlt : a.block < w.heap.size := World.block_lt_of_cell? w _ h1
    refine ⟨zs.take len, ⟨by omega, fun z hz => wf_i64_14 (hwz z (List.mem_of_mem_take hz)), .inr ⟨a.block, a.off, cap, ?_, by omega, hlt, fun i hi => ?_⟩⟩, trivial⟩
    · rw [hlen]
      obtain ⟨b, o, s⟩ := a
      simp only at hs
      subst hs
      rfl
    · rw [hlen] at hi
      have h2 := hcell i (by omega)
      rw [add_plain14 a hs i] at h2
      rw [h2]
      simp [List.getD, hi]
set_option maxRecDepth 100000 in
theorem open_bytes14 {r : Reach} {b0 : Nat} {v : Value} {d : DataW H} {p : List MemPlace} (hv : Value.okWide Tryd.prog w r b0 22 v)
    (h : DataW.Trod enc Tryd.prog w 0 (fun _ => true) true 22 v d p) : ∃ zs, IsBytes w w.heap.size v zs := by
  obtain ⟨a, len, cap, rfl⟩ := okWide_slice Tryd.underlying22 hv
  obtain ⟨fuel, hf⟩ := h
  rcases open_ints Tryd.underlying22 Tryd.underlying5 (by kernel_rfl) hf with ⟨hcs, _⟩ | ⟨a, l, cap, zs, hcs, _, hl, hm, hz, _, hcell, hwz⟩
  · injection hcs with hcs _
    rw [hcs]
    exact ⟨[], by simp, by simp, .inl ⟨rfl, rfl⟩⟩
  · injection hcs with hcs _
    rw [hcs]
    exact ⟨_, IsBytes.of_row hl hm (by simpa using hz) hcell hwz⟩
set_option maxRecDepth 100000 in
theorem open_bytes14_sized {r : Reach} {b0 : Nat} {v : Value} {d : DataW H} {p : List MemPlace} (hv : Value.okWide Tryd.prog w r b0 22 v)
    (h : DataW.Trod enc Tryd.prog w 0 (fun _ => true) true 22 v d p) {ts : List TypeId} {ds : List (DataW H)} {j : Nat} (ht : ts[j]? = some 22) (hd : ds[j]? = some d)
    (hsz : (DataW.weightsEach Tryd.prog ts ds).all (· ≤ reachBytes) = true) : ∃ zs, IsBytes w w.heap.size v zs ∧ zs.length ≤ 140737488351232 := by
  obtain ⟨a, len, cap, rfl⟩ := okWide_slice Tryd.underlying22 hv
  obtain ⟨fuel, hf⟩ := h
  rcases open_ints Tryd.underlying22 Tryd.underlying5 (by kernel_rfl) hf with ⟨hcs, _⟩ | ⟨a, l, cap, zs, hcs, _, hl, hm, hz, hx, hcell, hwz⟩
  · injection hcs with hcs _
    rw [hcs]
    exact ⟨[], ⟨by simp, by simp, .inl ⟨rfl, rfl⟩⟩, by simp⟩
  · injection hcs with hcs _
    rw [hcs]
    injection hx with hx _
    subst hx
    have h1 := sized_slice hsz ht hd Tryd.underlying22
    have hb : Tryd.prog.bytesOf 5 = 1 := by kernel_rfl
    rw [hb] at h1
    simp [lits] at h1
    refine ⟨_, IsBytes.of_row hl hm (by simpa using hz) hcell hwz, ?_⟩
    have hr : reachBytes = 140737488351232 := rfl
    rw [hr] at h1
    simp
    omega
set_option maxRecDepth 100000 in
theorem open_deed {fuel : Nat} {cs : List Value} {x : DataW H × List MemPlace} (h : DataW.trod enc Tryd.prog w 0 (fun _ => true) true fuel 60 cs = some x) :
    ∃ d : Int × Int, cs = [.int .i64 d.1, .int .i64 d.2] ∧ InI14 d.1 ∧ InI14 d.2 := by
  obtain ⟨xs, n, _, _, hl, hx, hf⟩ := DataW.trod_struct Tryd.underlying60 h
  have hC : Tryd.prog.cellsOf 60 = 2 := by kernel_rfl
  have c1 : Tryd.prog.cellsOf 3 = 1 := by kernel_rfl
  rw [hC] at hl
  match cs, hl with
  | [v0, v1], _ =>
    match xs, hx with
    | [y0, y1], _ =>
      have h0 := hf 0 _ rfl
      have h1 := hf 1 _ rfl
      simp [c1] at h0
      simp [c1] at h1
      obtain ⟨a, e0, _, w0⟩ := DataW.trod_int Tryd.underlying3 h0
      obtain ⟨b, e1, _, w1⟩ := DataW.trod_int Tryd.underlying3 h1
      injection e0 with e0 _
      injection e1 with e1 _
      subst e0 e1
      exact ⟨(a, b), rfl, wf_i64_14 w0, wf_i64_14 w1⟩
def InD (d : Int × Int) : Prop := InI14 d.1 ∧ InI14 d.2
set_option maxRecDepth 100000 in
theorem open_deeds {fuel : Nat} {V : Value} {x : DataW H × List MemPlace} (h : DataW.trod enc Tryd.prog w 0 (fun _ => true) true fuel 29 [V] = some x) : ∃ L, IsDeeds w w.heap.size V L ∧ ∀ d ∈ L, InD d := by
  have hC : Tryd.prog.cellsOf 60 = 2 := by kernel_rfl
  rcases Go.Deep.open_slice Tryd.underlying29 h with ⟨hcs, _⟩ | ⟨a, len, cap, m, n, D, Pl, hcs, _, hl, hm, hmm, _, hi⟩
  · injection hcs with hcs _
    subst hcs
    exact ⟨[], ⟨by simp, .inl ⟨rfl, rfl⟩⟩, by simp⟩
  · injection hcs with hcs _
    subst hcs
    obtain rfl : m = cap := by simpa using hmm
    by_cases h0 : len = 0
    · subst h0
      obtain ⟨b, o, s⟩ := a
      exact ⟨[], ⟨by simp, .inr ⟨b, o, s, m, rfl, by simp, fun h => by simp at h, fun i hi => by simp at hi⟩⟩, by simp⟩
    have hs : a.spot = none := by
      obtain ⟨cs', hc, ht⟩ := hi 0 (by omega)
      obtain ⟨_, hlen, hcell⟩ := World.cells?_some hc
      rw [hC] at hcell hlen
      have h1 := hcell 0 (by omega)
      have e : a.add (0 * 2) = a := by simp [Addr.add]
      rw [e] at h1
      have e2 : a.add 0 = a := by simp [Addr.add]
      rw [e2, List.getElem?_eq_getElem (by omega)] at h1
      exact World.cell?_spot h1
    have hb : a.block < w.heap.size := by
      obtain ⟨cs', hc, ht⟩ := hi 0 (by omega)
      obtain ⟨_, hlen, hcell⟩ := World.cells?_some hc
      rw [hC] at hcell hlen
      have h1 := hcell 0 (by omega)
      rw [List.getElem?_eq_getElem (by omega), add_twice14 a hs] at h1
      exact World.block_lt_of_cell? w ⟨a.block, _, none⟩ h1
    have hq : ∀ i, i < len → ∃ d : Int × Int, InD d ∧ w.cell? ⟨a.block, a.off + i * 2, none⟩ = some (.int .i64 d.1) ∧ w.cell? ⟨a.block, a.off + i * 2 + 1, none⟩ = some (.int .i64 d.2) := by
      intro i hil
      obtain ⟨cs', hc, ht⟩ := hi i (by omega)
      obtain ⟨d, rfl, hd⟩ := open_deed ht
      obtain ⟨_, hlen, hcell⟩ := World.cells?_some hc
      have h1 := hcell 0 (by rw [hC]; omega)
      have h2 := hcell 1 (by rw [hC]; omega)
      rw [hC, add_twice14 a hs] at h1 h2
      exact ⟨d, hd, h1, h2⟩
    obtain ⟨l, hll, hlq⟩ := list_of14 (0, 0) hq
    subst hll
    obtain ⟨b, o, s⟩ := a
    simp only at hs
    subst hs
    refine ⟨l, ⟨by omega, .inr ⟨b, o, none, m, rfl, hl, fun _ => ⟨rfl, hb⟩, fun i hi => (hlq i hi).2⟩⟩, fun y hy => ?_⟩
    obtain ⟨i, hi, rfl⟩ := List.getElem_of_mem hy
    have := (hlq i (by omega)).1
    simpa [List.getD, List.getElem?_eq_getElem hi] using this
set_option maxRecDepth 100000 in
theorem open_outcome {fuel : Nat} {cs : List Value} {x : DataW H × List MemPlace} (h : DataW.trod enc Tryd.prog w 0 (fun _ => true) true fuel 47 cs = some x) :
    ∃ (V : Value) (L : List (Int × Int)) (k c : Int), cs = [V, .int .i64 k, .int .i64 c] ∧ IsDeeds w w.heap.size V L ∧ (∀ d ∈ L, InD d) ∧ InI14 k ∧ InI14 c := by
  obtain ⟨xs, n, _, _, hl, hx, hf⟩ := DataW.trod_struct Tryd.underlying47 h
  have hC : Tryd.prog.cellsOf 47 = 3 := by kernel_rfl
  have c1 : Tryd.prog.cellsOf 29 = 1 := by kernel_rfl
  have c2 : Tryd.prog.cellsOf 45 = 2 := by kernel_rfl
  rw [hC] at hl
  match cs, hl with
  | [v0, v1, v2], _ =>
    match xs, hx with
    | [y0, y1], _ =>
      have h0 := hf 0 _ rfl
      have h1 := hf 1 _ rfl
      simp [c1] at h0
      simp [c2] at h1
      obtain ⟨L, hL, hD⟩ := open_deeds (V := v0) h0
      obtain ⟨xs2, n2, _, _, hl2, hx2, hf2⟩ := DataW.trod_struct Tryd.underlying45 h1
      have c3 : Tryd.prog.cellsOf 3 = 1 := by kernel_rfl
      match xs2, hx2 with
      | [z0, z1], _ =>
        have g0 := hf2 0 _ rfl
        have g1 := hf2 1 _ rfl
        simp [c3] at g0
        simp [c3] at g1
        obtain ⟨a, e0, _, w0⟩ := DataW.trod_int Tryd.underlying3 g0
        obtain ⟨b, e1, _, w1⟩ := DataW.trod_int Tryd.underlying3 g1
        injection e0 with e0 _
        injection e1 with e1 _
        subst e0 e1
        exact ⟨v0, L, a, b, rfl, hL, hD, wf_i64_14 w0, wf_i64_14 w1⟩
set_option maxRecDepth 100000 in
theorem open_outcome_value {r : Reach} {b0 : Nat} {v : Value} {d : DataW H} {p : List MemPlace} (hv : Value.okWide Tryd.prog w r b0 47 v)
    (h : DataW.Trod enc Tryd.prog w 0 (fun _ => true) true 47 v d p) : ∃ (V : Value) (L : List (Int × Int)) (k c : Int), v = .agg #[V, .int .i64 k, .int .i64 c] ∧ IsDeeds w w.heap.size V L ∧ (∀ d ∈ L, InD d) ∧ InI14 k ∧ InI14 c := by
  obtain ⟨cs, rfl, hsz⟩ := okWide_struct Tryd.underlying47 hv
  obtain ⟨fuel, hf⟩ := h
  obtain ⟨V, L, k, c, hA, hD, hI⟩ := open_outcome hf
  refine ⟨V, L, k, c, ?_, hD, hI⟩
  obtain ⟨l⟩ := cs
  simp [Value.cells] at hA
  subst hA
  rfl
end
end Go.Proofs.YtecbpbkehdmmcaaDoor
