/- How an instruction that is handed to a statement is opened, with its numbers' bounds. Plain lemma; no condition. -/
import Derived.Test.YtohlifeenhaifaaGreatDoorS05
namespace Go.Proofs.YtohlifeenhaifaaGreatDoor
open Go.RowKit Go.ChangeShapes Go.WideShapes
set_option linter.unusedVariables false

theorem open_nums13 {H : Type} {enc : TypeId × Value → H} {w : World} {fuel : Nat} {c : Value} {x : DataW H × List MemPlace} (h : DataW.trod enc Tryz.prog w 0 (fun _ => true) true fuel 26 [c] = some x) : ∃ zs, IsNums .i64 w w.heap.size c zs ∧ ∀ z ∈ zs, (Lit.int .i64 z).wf = true := by
  rcases open_ints Tryz.underlying26 Tryz.underlying3 (by kernel_rfl) h with ⟨hcs, _⟩ | ⟨a, l, cap, zs, hcs, _, hl, hm, hz, _, hcell, hwz⟩
  · injection hcs with hcs _
    subst hcs
    exact ⟨[], ⟨by simp, .inl ⟨rfl, rfl⟩⟩, by simp⟩
  · injection hcs with hcs _
    subst hcs
    exact ⟨_, IsNums.of_cells hl hm (by simpa using hz) hcell, fun z hz => hwz z (List.mem_of_mem_take hz)⟩
set_option maxRecDepth 100000 in
theorem open_ins13 {H : Type} {enc : TypeId × Value → H} {w : World} {fuel : Nat} {cs : List Value} {x : DataW H × List MemPlace} (h : DataW.trod enc Tryz.prog w 0 (fun _ => true) true fuel 28 cs = some x) :
    ∃ op a b c n X args, cs = [.int .i64 op, .int .i64 a, .int .i64 b, .int .i64 c, .int .i64 n, X] ∧ IsNums .i64 w w.heap.size X args ∧ InsIn op a b c n ∧ ∀ z ∈ args, (Lit.int .i64 z).wf = true := by
  obtain ⟨xs, n, _, _, hl, hx, hf⟩ := DataW.trod_struct Tryz.underlying28 h
  have hC : Tryz.prog.cellsOf 28 = 6 := by kernel_rfl
  have c1 : Tryz.prog.cellsOf 3 = 1 := by kernel_rfl
  have c2 : Tryz.prog.cellsOf 26 = 1 := by kernel_rfl
  rw [hC] at hl
  match cs, hl with
  | [v0, v1, v2, v3, v4, v5], _ =>
    match xs, hx with
    | [y0, y1, y2, y3, y4, y5], _ =>
      have h0 := hf 0 _ rfl
      have h1 := hf 1 _ rfl
      have h2 := hf 2 _ rfl
      have h3 := hf 3 _ rfl
      have h4 := hf 4 _ rfl
      have h5 := hf 5 _ rfl
      simp [c1] at h0
      simp [c1] at h1
      simp [c1] at h2
      simp [c1] at h3
      simp [c1] at h4
      simp [c2] at h5
      obtain ⟨a, e0, _, w0⟩ := DataW.trod_int Tryz.underlying3 h0
      obtain ⟨b, e1, _, w1⟩ := DataW.trod_int Tryz.underlying3 h1
      obtain ⟨c, e2, _, w2⟩ := DataW.trod_int Tryz.underlying3 h2
      obtain ⟨d, e3, _, w3⟩ := DataW.trod_int Tryz.underlying3 h3
      obtain ⟨f, e4, _, w4⟩ := DataW.trod_int Tryz.underlying3 h4
      obtain ⟨zs, hz, hzw⟩ := open_nums13 (c := v5) h5
      injection e0 with e0 _
      injection e1 with e1 _
      injection e2 with e2 _
      injection e3 with e3 _
      injection e4 with e4 _
      subst e0 e1 e2 e3 e4
      exact ⟨a, b, c, d, f, v5, zs, rfl, hz, ⟨wf_i64 w0, wf_i64 w1, wf_i64 w2, wf_i64 w3, wf_i64 w4⟩, hzw⟩
set_option maxRecDepth 100000 in
theorem open_ins13_value {H : Type} {enc : TypeId × Value → H} {w : World} {r : Reach} {b0 : Nat} {v : Value} {d : DataW H} {p : List MemPlace} (hv : Value.okWide Tryz.prog w r b0 28 v)
    (h : DataW.Trod enc Tryz.prog w 0 (fun _ => true) true 28 v d p) : ∃ op a b c n X args, v = .agg (insCells op a b c n X) ∧ IsNums .i64 w w.heap.size X args ∧ InsIn op a b c n ∧ ∀ z ∈ args, (Lit.int .i64 z).wf = true := by
  obtain ⟨cs, rfl, hsz⟩ := okWide_struct Tryz.underlying28 hv
  obtain ⟨fuel, hf⟩ := h
  obtain ⟨op, a, b, c, n, X, args, hA, hok, hin⟩ := open_ins13 hf
  refine ⟨op, a, b, c, n, X, args, ?_, hok, hin⟩
  obtain ⟨l⟩ := cs
  simp [Value.cells] at hA
  subst hA
  rfl
end Go.Proofs.YtohlifeenhaifaaGreatDoor
