/- The bytecode's operations: which there are, their names and shapes; an operation is found by its name. Contracts of the landed functions; no condition but that a number is one of the machine's. -/
import Derived.WalkKit
import Derived.ProofKit
import Derived.Below
import Derived.WalkSpells
import Derived.WalkLawsBesides
import Derived.Deep.WholeRow
import Derived.Lib.Hide
import Derived.Lib.SliceRun
import Derived.BigQuiet
import Derived.Deep.QuietTactic
import Derived.Test.YtobbjphpngckgaaChecked
import Derived.Test.YtobbjphpngckgaaBut
namespace Go.Proofs.Ytobbjphpngckgaa
open Go.RowKit
set_option linter.unusedVariables false
set_option linter.unusedSimpArgs false

def nameL : List ByteArray := [⟨#[110, 111, 112]⟩, ⟨#[99, 111, 110, 115, 116]⟩, ⟨#[109, 111, 118]⟩, ⟨#[97, 100, 100]⟩, ⟨#[115, 117, 98]⟩, ⟨#[109, 117, 108]⟩, ⟨#[100, 105, 118]⟩, ⟨#[100, 105, 118, 117]⟩, ⟨#[114, 101, 109]⟩, ⟨#[114, 101, 109, 117]⟩, ⟨#[97, 110, 100]⟩, ⟨#[111, 114]⟩, ⟨#[120, 111, 114]⟩, ⟨#[115, 104, 108]⟩, ⟨#[115, 104, 114]⟩, ⟨#[115, 97, 114]⟩, ⟨#[108, 116]⟩, ⟨#[108, 116, 117]⟩, ⟨#[101, 113]⟩, ⟨#[110, 101]⟩, ⟨#[101, 120, 116]⟩, ⟨#[108, 111, 97, 100]⟩, ⟨#[115, 116, 111, 114, 101]⟩, ⟨#[108, 101, 97]⟩, ⟨#[100, 97, 116, 97]⟩, ⟨#[106, 109, 112]⟩, ⟨#[98, 114, 122]⟩, ⟨#[98, 114, 110, 122]⟩, ⟨#[99, 97, 108, 108]⟩, ⟨#[114, 101, 116]⟩, ⟨#[103, 101, 116, 98]⟩, ⟨#[112, 117, 116, 98]⟩, ⟨#[101, 120, 105, 116]⟩]
def shapeL : List ByteArray := [⟨#[]⟩, ⟨#[119, 105]⟩, ⟨#[119, 114]⟩, ⟨#[119, 114, 114]⟩, ⟨#[119, 114, 114]⟩, ⟨#[119, 114, 114]⟩, ⟨#[119, 114, 114]⟩, ⟨#[119, 114, 114]⟩, ⟨#[119, 114, 114]⟩, ⟨#[119, 114, 114]⟩, ⟨#[119, 114, 114]⟩, ⟨#[119, 114, 114]⟩, ⟨#[119, 114, 114]⟩, ⟨#[119, 114, 114]⟩, ⟨#[119, 114, 114]⟩, ⟨#[119, 114, 114]⟩, ⟨#[119, 114, 114]⟩, ⟨#[119, 114, 114]⟩, ⟨#[119, 114, 114]⟩, ⟨#[119, 114, 114]⟩, ⟨#[119, 114, 107]⟩, ⟨#[119, 114, 109]⟩, ⟨#[114, 114, 122]⟩, ⟨#[119, 102]⟩, ⟨#[119, 100]⟩, ⟨#[116]⟩, ⟨#[114, 116]⟩, ⟨#[114, 116]⟩, ⟨#[119, 99, 108]⟩, ⟨#[114]⟩, ⟨#[119]⟩, ⟨#[114]⟩, ⟨#[114]⟩]
def nameB (k : Nat) : ByteArray := nameL.getD k ⟨#[]⟩
def shapeB (k : Nat) : ByteArray := shapeL.getD k ⟨#[]⟩
/-- The name, the shape of a number; none where it is no operation. -/
def nameI (op : Int) : ByteArray := if 0 ≤ op ∧ op < 33 then nameB op.toNat else ⟨#[]⟩
def shapeI (op : Int) : ByteArray := if 0 ≤ op ∧ op < 33 then shapeB op.toNat else ⟨#[]⟩
theorem run_index_texts {P : Program} {t e : TypeId} {n : Nat} {i : TypeInfo} (h : P.underlying t = some (.array n e)) (hi : P.info? e = some i) (hs : i.size = 1) (hu : P.underlying e = some .string) (cs : Array Value) (k : Nat) (hk : k < n) (v : ByteArray) (hv : cs[k]? = some (.string v)) (w : World) :
    (Instr.index t (.agg cs) (.int .i64 k)).run P w = .ok (.string v) w := by
  have hn : 0 ≤ (k : Int) ∧ (k : Int) < (n : Int) := by omega
  simp [Instr.index, run_underlying h, asIntOf, hn, hk, go_sem, sizeOf, typeInfo, hi, hs, run_underlying hu, hv, part, isAgg]
theorem text_info : (Try.prog.info? 9).map (fun i => (i.zero, i.size, i.bytes)) = some (some (.string ⟨#[]⟩), 1, 16) := by kernel_rfl
def namesA : Value := .agg #[.string ⟨#[110, 111, 112]⟩, .string ⟨#[99, 111, 110, 115, 116]⟩, .string ⟨#[109, 111, 118]⟩, .string ⟨#[97, 100, 100]⟩, .string ⟨#[115, 117, 98]⟩, .string ⟨#[109, 117, 108]⟩, .string ⟨#[100, 105, 118]⟩, .string ⟨#[100, 105, 118, 117]⟩, .string ⟨#[114, 101, 109]⟩, .string ⟨#[114, 101, 109, 117]⟩, .string ⟨#[97, 110, 100]⟩, .string ⟨#[111, 114]⟩, .string ⟨#[120, 111, 114]⟩, .string ⟨#[115, 104, 108]⟩, .string ⟨#[115, 104, 114]⟩, .string ⟨#[115, 97, 114]⟩, .string ⟨#[108, 116]⟩, .string ⟨#[108, 116, 117]⟩, .string ⟨#[101, 113]⟩, .string ⟨#[110, 101]⟩, .string ⟨#[101, 120, 116]⟩, .string ⟨#[108, 111, 97, 100]⟩, .string ⟨#[115, 116, 111, 114, 101]⟩, .string ⟨#[108, 101, 97]⟩, .string ⟨#[100, 97, 116, 97]⟩, .string ⟨#[106, 109, 112]⟩, .string ⟨#[98, 114, 122]⟩, .string ⟨#[98, 114, 110, 122]⟩, .string ⟨#[99, 97, 108, 108]⟩, .string ⟨#[114, 101, 116]⟩, .string ⟨#[103, 101, 116, 98]⟩, .string ⟨#[112, 117, 116, 98]⟩, .string ⟨#[101, 120, 105, 116]⟩]
def shapesA : Value := .agg #[.string ⟨#[]⟩, .string ⟨#[119, 105]⟩, .string ⟨#[119, 114]⟩, .string ⟨#[119, 114, 114]⟩, .string ⟨#[119, 114, 114]⟩, .string ⟨#[119, 114, 114]⟩, .string ⟨#[119, 114, 114]⟩, .string ⟨#[119, 114, 114]⟩, .string ⟨#[119, 114, 114]⟩, .string ⟨#[119, 114, 114]⟩, .string ⟨#[119, 114, 114]⟩, .string ⟨#[119, 114, 114]⟩, .string ⟨#[119, 114, 114]⟩, .string ⟨#[119, 114, 114]⟩, .string ⟨#[119, 114, 114]⟩, .string ⟨#[119, 114, 114]⟩, .string ⟨#[119, 114, 114]⟩, .string ⟨#[119, 114, 114]⟩, .string ⟨#[119, 114, 114]⟩, .string ⟨#[119, 114, 114]⟩, .string ⟨#[119, 114, 107]⟩, .string ⟨#[119, 114, 109]⟩, .string ⟨#[114, 114, 122]⟩, .string ⟨#[119, 102]⟩, .string ⟨#[119, 100]⟩, .string ⟨#[116]⟩, .string ⟨#[114, 116]⟩, .string ⟨#[114, 116]⟩, .string ⟨#[119, 99, 108]⟩, .string ⟨#[114]⟩, .string ⟨#[119]⟩, .string ⟨#[114]⟩, .string ⟨#[114]⟩]
def opB (op : Int) : Bool := decide (0 ≤ op ∧ op < 33)
theorem opB_yes {op : Int} (h : 0 ≤ op ∧ op < 33) : opB op = true := decide_eq_true h
theorem opB_no {op : Int} (h : ¬ (0 ≤ op ∧ op < 33)) : opB op = false := decide_eq_false h

theorem names_same : namesA = .agg (nameL.map Value.string).toArray := by kernel_rfl
theorem name_at {k : Nat} (hk : k < 33) (w : World) : (Instr.index 92 namesA (.int .i64 k)).run Try.prog w = .ok (.string (nameB k)) w := by
  rw [names_same]
  have hl : nameL.length = 33 := by kernel_rfl
  obtain ⟨i0, hi, h0, h1, h2⟩ := info_parts text_info
  exact run_index_texts Try.underlying92 hi h1 Try.underlying9 _ k hk _ (by simp [nameB, List.getD, hl, hk]) w
def namesC : Array Value := #[.string ⟨#[110, 111, 112]⟩, .string ⟨#[99, 111, 110, 115, 116]⟩, .string ⟨#[109, 111, 118]⟩, .string ⟨#[97, 100, 100]⟩, .string ⟨#[115, 117, 98]⟩, .string ⟨#[109, 117, 108]⟩, .string ⟨#[100, 105, 118]⟩, .string ⟨#[100, 105, 118, 117]⟩, .string ⟨#[114, 101, 109]⟩, .string ⟨#[114, 101, 109, 117]⟩, .string ⟨#[97, 110, 100]⟩, .string ⟨#[111, 114]⟩, .string ⟨#[120, 111, 114]⟩, .string ⟨#[115, 104, 108]⟩, .string ⟨#[115, 104, 114]⟩, .string ⟨#[115, 97, 114]⟩, .string ⟨#[108, 116]⟩, .string ⟨#[108, 116, 117]⟩, .string ⟨#[101, 113]⟩, .string ⟨#[110, 101]⟩, .string ⟨#[101, 120, 116]⟩, .string ⟨#[108, 111, 97, 100]⟩, .string ⟨#[115, 116, 111, 114, 101]⟩, .string ⟨#[108, 101, 97]⟩, .string ⟨#[100, 97, 116, 97]⟩, .string ⟨#[106, 109, 112]⟩, .string ⟨#[98, 114, 122]⟩, .string ⟨#[98, 114, 110, 122]⟩, .string ⟨#[99, 97, 108, 108]⟩, .string ⟨#[114, 101, 116]⟩, .string ⟨#[103, 101, 116, 98]⟩, .string ⟨#[112, 117, 116, 98]⟩, .string ⟨#[101, 120, 105, 116]⟩]
theorem namesC_cells : namesC.all (·.oneCell') = true := by kernel_rfl
theorem namesC_info : (Try.prog.info? 92).map (·.size) = some namesC.size := by kernel_rfl
theorem namesC_results : Try.f71.results = #[.cell 0 92] := by kernel_rfl
set_option maxRecDepth 100000 in
set_option maxHeartbeats 2000000 in
theorem names_any (w : World) : Calls Try.prog 71 #[] w fun e w' => e = .returned namesA ∧ Below w.heap.size w w' := by
  go_enter Try.func71, Try.ntmps71
  go_wp2_with (with_reducible refine wpList_store_row rfl 92 (.tmp 0) (.tmp 1) rfl w.heap.size namesC ?c1 ?c2 92 ?old ?c3 namesC_info ?c4 namesC_cells ?_)
  case c3 => exact heap_alloc_new _ _
  case c1 => rfl
  case c2 => rfl
  case c4 => rfl
  rw [World.setRow_alloc_new]
  exact bodyPost_ret (v := .agg namesC) (results_cell_row namesC_results _ _ w.heap.size 92 namesC (0, 0) (.array 33 9) rfl (heap_alloc_new _ _) Try.underlying92 rfl namesC_info) rfl ⟨rfl, (Below.refl _ _).alloc (Nat.le_refl _) _⟩

theorem shapes_same : shapesA = .agg (shapeL.map Value.string).toArray := by kernel_rfl
theorem shape_at {k : Nat} (hk : k < 33) (w : World) : (Instr.index 92 shapesA (.int .i64 k)).run Try.prog w = .ok (.string (shapeB k)) w := by
  rw [shapes_same]
  have hl : shapeL.length = 33 := by kernel_rfl
  obtain ⟨i0, hi, h0, h1, h2⟩ := info_parts text_info
  exact run_index_texts Try.underlying92 hi h1 Try.underlying9 _ k hk _ (by simp [shapeB, List.getD, hl, hk]) w
def shapesC : Array Value := #[.string ⟨#[]⟩, .string ⟨#[119, 105]⟩, .string ⟨#[119, 114]⟩, .string ⟨#[119, 114, 114]⟩, .string ⟨#[119, 114, 114]⟩, .string ⟨#[119, 114, 114]⟩, .string ⟨#[119, 114, 114]⟩, .string ⟨#[119, 114, 114]⟩, .string ⟨#[119, 114, 114]⟩, .string ⟨#[119, 114, 114]⟩, .string ⟨#[119, 114, 114]⟩, .string ⟨#[119, 114, 114]⟩, .string ⟨#[119, 114, 114]⟩, .string ⟨#[119, 114, 114]⟩, .string ⟨#[119, 114, 114]⟩, .string ⟨#[119, 114, 114]⟩, .string ⟨#[119, 114, 114]⟩, .string ⟨#[119, 114, 114]⟩, .string ⟨#[119, 114, 114]⟩, .string ⟨#[119, 114, 114]⟩, .string ⟨#[119, 114, 107]⟩, .string ⟨#[119, 114, 109]⟩, .string ⟨#[114, 114, 122]⟩, .string ⟨#[119, 102]⟩, .string ⟨#[119, 100]⟩, .string ⟨#[116]⟩, .string ⟨#[114, 116]⟩, .string ⟨#[114, 116]⟩, .string ⟨#[119, 99, 108]⟩, .string ⟨#[114]⟩, .string ⟨#[119]⟩, .string ⟨#[114]⟩, .string ⟨#[114]⟩]
theorem shapesC_cells : shapesC.all (·.oneCell') = true := by kernel_rfl
theorem shapesC_info : (Try.prog.info? 92).map (·.size) = some shapesC.size := by kernel_rfl
theorem shapesC_results : Try.f68.results = #[.cell 0 92] := by kernel_rfl
set_option maxRecDepth 100000 in
set_option maxHeartbeats 2000000 in
theorem shapes_any (w : World) : Calls Try.prog 68 #[] w fun e w' => e = .returned shapesA ∧ Below w.heap.size w w' := by
  go_enter Try.func68, Try.ntmps68
  go_wp2_with (with_reducible refine wpList_store_row rfl 92 (.tmp 0) (.tmp 1) rfl w.heap.size shapesC ?c1 ?c2 92 ?old ?c3 shapesC_info ?c4 shapesC_cells ?_)
  case c3 => exact heap_alloc_new _ _
  case c1 => rfl
  case c2 => rfl
  case c4 => rfl
  rw [World.setRow_alloc_new]
  exact bodyPost_ret (v := .agg shapesC) (results_cell_row shapesC_results _ _ w.heap.size 92 shapesC (0, 0) (.array 33 9) rfl (heap_alloc_new _ _) Try.underlying92 rfl shapesC_info) rfl ⟨rfl, (Below.refl _ _).alloc (Nat.le_refl _) _⟩

theorem exists_any (op : Int) (w : World) : Calls Try.prog 49 #[.int .i64 op] w fun e w' => e = .returned (.bool (opB op)) ∧ w = w' := by
  by_cases h0 : 0 ≤ op
  · by_cases h1 : op < 33
    · rw [opB_yes ⟨h0, h1⟩]
      go_enter Try.func49, Try.ntmps49
      go_wp2
      go_ret
      exact ⟨rfl, rfl⟩
    · rw [opB_no (by omega)]
      go_enter Try.func49, Try.ntmps49
      go_wp2
      go_ret
      exact ⟨rfl, rfl⟩
  · rw [opB_no (by omega)]
    go_enter Try.func49, Try.ntmps49
    go_wp2
    go_ret
    exact ⟨rfl, rfl⟩
/-- What a call ends with that only makes memory of its own. -/
def Makes (w : World) (v : Value) (e : Ending) (w' : World) : Prop := e = .returned v ∧ Below w.heap.size w w'

theorem name_yes {k : Nat} (hk : k < 33) (w : World) : Calls Try.prog 63 #[.int .i64 k] w (Makes w (.string (nameB k))) := by
  have hb := opB_yes (op := (k : Int)) ⟨by omega, by omega⟩
  have hx := fun w => name_at hk w
  generalize nameB k = s at hx ⊢
  have HE := Lib.hid (exists_any (k : Int) w)
  have HN := Lib.hid (names_any w)
  rw [hb] at HE
  clear hb
  generalize namesA = A at hx HN
  go_enter Try.func63, Try.ntmps63
  go_wp2_with (first | (go_at_call 49; (with_reducible refine HE.out.mono ?_); rintro e w1 ⟨rfl, rfl⟩) | (go_at_call 71; (with_reducible refine HN.out.mono ?_); rintro e w1 ⟨rfl, hB⟩; have HB := Lib.hid hB; clear hB))
  go_ret
  exact ⟨rfl, HB.out⟩
theorem name_no {op : Int} (h : ¬ (0 ≤ op ∧ op < 33)) (w : World) : Calls Try.prog 63 #[.int .i64 op] w (Makes w (.string ⟨#[]⟩)) := by
  have hb := opB_no h
  have HE := Lib.hid (exists_any op w)
  rw [hb] at HE
  clear hb h
  go_enter Try.func63, Try.ntmps63
  go_wp2_with (go_at_call 49; (with_reducible refine HE.out.mono ?_); rintro e w1 ⟨rfl, rfl⟩)
  go_ret
  exact ⟨rfl, Below.refl _ _⟩
theorem name_any (op : Int) (w : World) : Calls Try.prog 63 #[.int .i64 op] w (Makes w (.string (nameI op))) := by
  unfold nameI
  split
  · rename_i h
    obtain ⟨k, rfl⟩ : ∃ k : Nat, op = k := ⟨op.toNat, by omega⟩
    exact name_yes (by omega) w
  · rename_i h
    exact name_no h w

theorem shape_yes {k : Nat} (hk : k < 33) (w : World) : Calls Try.prog 55 #[.int .i64 k] w (Makes w (.string (shapeB k))) := by
  have hb := opB_yes (op := (k : Int)) ⟨by omega, by omega⟩
  have hx := fun w => shape_at hk w
  generalize shapeB k = s at hx ⊢
  have HE := Lib.hid (exists_any (k : Int) w)
  have HN := Lib.hid (shapes_any w)
  rw [hb] at HE
  clear hb
  generalize shapesA = A at hx HN
  go_enter Try.func55, Try.ntmps55
  go_wp2_with (first | (go_at_call 49; (with_reducible refine HE.out.mono ?_); rintro e w1 ⟨rfl, rfl⟩) | (go_at_call 68; (with_reducible refine HN.out.mono ?_); rintro e w1 ⟨rfl, hB⟩; have HB := Lib.hid hB; clear hB))
  go_ret
  exact ⟨rfl, HB.out⟩
theorem shape_no {op : Int} (h : ¬ (0 ≤ op ∧ op < 33)) (w : World) : Calls Try.prog 55 #[.int .i64 op] w (Makes w (.string ⟨#[]⟩)) := by
  have hb := opB_no h
  have HE := Lib.hid (exists_any op w)
  rw [hb] at HE
  clear hb h
  go_enter Try.func55, Try.ntmps55
  go_wp2_with (go_at_call 49; (with_reducible refine HE.out.mono ?_); rintro e w1 ⟨rfl, rfl⟩)
  go_ret
  exact ⟨rfl, Below.refl _ _⟩
theorem shape_any (op : Int) (w : World) : Calls Try.prog 55 #[.int .i64 op] w (Makes w (.string (shapeI op))) := by
  unfold shapeI
  split
  · rename_i h
    obtain ⟨k, rfl⟩ : ∃ k : Nat, op = k := ⟨op.toNat, by omega⟩
    exact shape_yes (by omega) w
  · rename_i h
    exact shape_no h w

end Go.Proofs.Ytobbjphpngckgaa
