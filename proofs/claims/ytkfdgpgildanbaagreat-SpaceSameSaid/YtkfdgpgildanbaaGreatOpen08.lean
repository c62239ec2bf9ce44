import Derived.Test.YtkfdgpgildanbaaGreatS09
import Derived.Test.YtkfdgpgildanbaaGreatS10
namespace Go.Proofs.YtkfdgpgildanbaaGreat
open Go.RowKit Go.ChangeShapes Go.WideShapes
set_option linter.unusedVariables false
section
variable {H : Type} {enc : TypeId × Value → H} {w : World}
theorem open_byt {fuel : Nat} {c : Value} {x : DataW H × List MemPlace} (h : DataW.trod enc Tryz.prog w 0 (fun _ => true) true fuel 22 [c] = some x) : ∃ zs, IsBytes w w.heap.size c zs := by
  rcases open_ints Tryz.underlying22 Tryz.underlying5 (by kernel_rfl) h with ⟨hcs, _⟩ | ⟨a, l, cap, zs, hcs, _, hl, hm, hz, _, hcell, hwz⟩
  · injection hcs with hcs _
    subst hcs
    exact ⟨[], by simp, by simp, .inl ⟨rfl, rfl⟩⟩
  · injection hcs with hcs _
    subst hcs
    exact ⟨_, IsBytes.of_row hl hm (by simpa using hz) hcell hwz⟩
set_option maxRecDepth 100000 in
theorem open_fun {fuel : Nat} {cs : List Value} {x : DataW H × List MemPlace} (h : DataW.trod enc Tryz.prog w 0 (fun _ => true) true fuel 112 cs = some x) :
    ∃ (f : FunV) (C : Value), cs = [.int .i64 f.params, .int .i64 f.regs, .int .i64 f.area, C] ∧ IsCode w w.heap.size C f.code ∧ FunB f := by
  obtain ⟨xs, n, _, _, hl, hx, hf⟩ := DataW.trod_struct Tryz.underlying112 h
  have hC : Tryz.prog.cellsOf 112 = 4 := by kernel_rfl
  have c1 : Tryz.prog.cellsOf 3 = 1 := by kernel_rfl
  have c2 : Tryz.prog.cellsOf 110 = 1 := by kernel_rfl
  rw [hC] at hl
  match cs, hl with
  | [v0, v1, v2, v3], _ =>
    match xs, hx with
    | [y0, y1, y2, y3], _ =>
      have h0 := hf 0 _ rfl
      have h1 := hf 1 _ rfl
      have h2 := hf 2 _ rfl
      have h3 := hf 3 _ rfl
      simp [c1] at h0
      simp [c1] at h1
      simp [c1] at h2
      simp [c2] at h3
      obtain ⟨a, e0, _, w0⟩ := DataW.trod_int Tryz.underlying3 h0
      obtain ⟨b, e1, _, w1⟩ := DataW.trod_int Tryz.underlying3 h1
      obtain ⟨c, e2, _, w2⟩ := DataW.trod_int Tryz.underlying3 h2
      obtain ⟨l, hcode⟩ := open_code (V := v3) h3
      injection e0 with e0 _
      injection e1 with e1 _
      injection e2 with e2 _
      subst e0 e1 e2
      exact ⟨⟨a, b, c, l⟩, v3, rfl, hcode, ⟨wf_i64 w0, wf_i64 w1, wf_i64 w2⟩⟩
set_option maxRecDepth 100000 in
theorem open_funs {fuel : Nat} {V : Value} {x : DataW H × List MemPlace} (h : DataW.trod enc Tryz.prog w 0 (fun _ => true) true fuel 23 [V] = some x) : ∃ l, IsFuns w w.heap.size V l := by
  have hC : Tryz.prog.cellsOf 112 = 4 := by kernel_rfl
  rcases Go.Deep.open_slice Tryz.underlying23 h with ⟨hcs, _⟩ | ⟨a, len, cap, m, n, D, Pl, hcs, _, hl, hm, hmm, _, hi⟩
  · injection hcs with hcs _
    subst hcs
    exact ⟨[], by simp, by simp, .inl ⟨rfl, none, 0, rfl⟩⟩
  · injection hcs with hcs _
    subst hcs
    obtain rfl : m = cap := by simpa using hmm
    by_cases h0 : len = 0
    · subst h0
      exact ⟨[], by simp, by simp, .inl ⟨rfl, some a, m, rfl⟩⟩
    have hs : a.spot = none := by
      obtain ⟨cs', hc, ht⟩ := hi 0 (by omega)
      obtain ⟨_, hlen, hcell⟩ := World.cells?_some hc
      rw [hC] at hcell hlen
      have h1 := hcell 0 (by omega)
      have e : a.add (0 * 4) = a := by simp [Addr.add]
      rw [e] at h1
      have e2 : a.add 0 = a := by simp [Addr.add]
      rw [e2, List.getElem?_eq_getElem (by omega)] at h1
      exact World.cell?_spot h1
    have hb : a.block < w.heap.size := by
      obtain ⟨cs', hc, ht⟩ := hi 0 (by omega)
      obtain ⟨_, hlen, hcell⟩ := World.cells?_some hc
      rw [hC] at hcell hlen
      have h1 := hcell 0 (by omega)
      rw [List.getElem?_eq_getElem (by omega), add_twice7 a hs] at h1
      exact block_lt_of_cell (a := ⟨a.block, _, none⟩) h1
    have hq : ∀ i, i < len → ∃ f : FunV, FunB f ∧ ∃ C, IsCode w w.heap.size C f.code ∧ ∀ j, j < 4 → w.cell? ⟨a.block, a.off + i * 4 + j, none⟩ = some (funCell f C j) := by
      intro i hil
      obtain ⟨cs', hc, ht⟩ := hi i (by omega)
      obtain ⟨f, C, rfl, hcode, hfb⟩ := open_fun ht
      obtain ⟨_, hlen, hcell⟩ := World.cells?_some hc
      refine ⟨f, hfb, C, hcode, fun j hj => ?_⟩
      have h1 := hcell j (by rw [hC]; exact hj)
      rw [hC, add_twice7 a hs] at h1
      rw [h1]
      exact funList_at f C hj
    obtain ⟨l, hll, hlq⟩ := list_of7 .zero hq
    refine ⟨l, by omega, fun y hy => ?_, .inr ⟨a.block, a.off, m, ?_, by omega, hb, fun i hi => (hlq i (by omega)).2⟩⟩
    · obtain ⟨i, hi, rfl⟩ := List.getElem_of_mem hy
      have := (hlq i (by omega)).1
      simpa [List.getD, List.getElem?_eq_getElem hi] using this
    · rw [hll]
      obtain ⟨b, o, s⟩ := a
      simp only at hs
      subst hs
      rfl
set_option maxRecDepth 100000 in
theorem open_mod {fuel : Nat} {cs : List Value} {x : DataW H × List MemPlace} (h : DataW.trod enc Tryz.prog w 0 (fun _ => true) true fuel 25 cs = some x) :
    ∃ (D F : Value) (data : List Int) (fs : List FunV), cs = [D, F] ∧ IsBytes w w.heap.size D data ∧ IsFuns w w.heap.size F fs := by
  obtain ⟨xs, n, _, _, hl, hx, hf⟩ := DataW.trod_struct Tryz.underlying25 h
  have hC : Tryz.prog.cellsOf 25 = 2 := by kernel_rfl
  have c1 : Tryz.prog.cellsOf 22 = 1 := by kernel_rfl
  have c2 : Tryz.prog.cellsOf 23 = 1 := by kernel_rfl
  rw [hC] at hl
  match cs, hl with
  | [v0, v1], _ =>
    match xs, hx with
    | [y0, y1], _ =>
      have h0 := hf 0 _ rfl
      have h1 := hf 1 _ rfl
      simp [c1] at h0
      simp [c2] at h1
      obtain ⟨zs, hz⟩ := open_byt (c := v0) h0
      obtain ⟨l, hlf⟩ := open_funs (V := v1) h1
      exact ⟨v0, v1, zs, l, rfl, hz, hlf⟩
set_option maxRecDepth 100000 in
theorem open_module_value {r : Reach} {b0 : Nat} {v : Value} {d : DataW H} {p : List MemPlace} (hv : Value.okWide Tryz.prog w r b0 25 v)
    (h : DataW.Trod enc Tryz.prog w 0 (fun _ => true) true 25 v d p) : ∃ (D F : Value) (data : List Int) (fs : List FunV), v = .agg #[D, F] ∧ IsBytes w w.heap.size D data ∧ IsFuns w w.heap.size F fs := by
  obtain ⟨cs, rfl, hsz⟩ := okWide_struct Tryz.underlying25 hv
  obtain ⟨fuel, hf⟩ := h
  obtain ⟨D, F, data, fs, hA, hD, hF⟩ := open_mod hf
  refine ⟨D, F, data, fs, ?_, hD, hF⟩
  obtain ⟨l⟩ := cs
  simp [Value.cells] at hA
  subst hA
  rfl
end
end Go.Proofs.YtkfdgpgildanbaaGreat
