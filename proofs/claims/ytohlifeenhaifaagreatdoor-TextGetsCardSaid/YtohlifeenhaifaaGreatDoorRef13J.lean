/- How many fields an operation has, in the document's own words. Contract; no condition but that they are few. -/
import Derived.Test.YtohlifeenhaifaaGreatDoorRef13I
import Derived.Laws.MakeOwn
namespace Go.Proofs.YtohlifeenhaifaaGreatDoor
open Go.RowKit Go.Shelf
set_option linter.unusedVariables false
set_option linter.unusedSimpArgs false
theorem made_zeros13 (n : Nat) : madeCells (Value.int .i64 0).cells (n * 1) = ((List.replicate n (0 : Int)).map (Value.int .i64)).toArray := by
  apply Array.ext
  · simp [madeCells]
  · intro i h1 h2
    simp [madeCells, Value.cells, Nat.mod_one]
theorem make_zeros13 (n : Nat) (hn : n ≤ 100000) (w : World) : (Instr.makeSlice 26 (.int .i64 (n : Int)) (.int .i64 (n : Int))).run Tryz.prog w = .ok (.slice (some ⟨w.heap.size, 0, none⟩) n n) (w.alloc (.cells ((List.replicate n (0 : Int)).map (Value.int .i64)).toArray 3)) := by
  obtain ⟨i, h1, h2, h3, h4⟩ := info_parts int_info
  have h := run_make (P := Tryz.prog) w 26 3 i _ Tryz.underlying26 h1 h2 .i64 .i64 (n : Int) (n : Int) (by omega) (Int.le_refl _) (by rw [h4]; omega) (by omega)
  rw [h3] at h
  rw [← made_zeros13]
  simpa using h
set_option maxRecDepth 100000 in
set_option maxHeartbeats 4000000 in
theorem rmany13_any (op : Int) (n : Nat) (w : World) (hn : n ≤ 100000) : Calls Tryz.prog 75 #[.int .i64 op, .int .i64 n] w (Makes w (.bool (fieldsP op (List.replicate n 0)).isSome)) := by
  have hb : Below w.heap.size w (w.alloc (.cells ((List.replicate n (0 : Int)).map (Value.int .i64)).toArray 3)) := (Below.refl _ w).alloc (Nat.le_refl _) _
  have hx := heap_alloc_new w (.cells ((List.replicate n (0 : Int)).map (Value.int .i64)).toArray 3)
  have hm := make_zeros13 n hn w
  obtain ⟨w0, hw0⟩ : ∃ w0, w0 = w.alloc (.cells ((List.replicate n (0 : Int)).map (Value.int .i64)).toArray 3) := ⟨_, rfl⟩
  obtain ⟨g, hg⟩ : ∃ g, g = w.heap.size := ⟨_, rfl⟩
  have hnum : IsNums .i64 w0 w0.heap.size (.slice (some ⟨g, 0, none⟩) (List.replicate n (0 : Int)).length n) (List.replicate n 0) := by
    rw [hw0, hg]
    exact IsNums.of_row hx (by simp) (by unfold maxLen; simp; omega) (by simp)
  rw [← hw0, ← hg] at hm
  rw [← hw0] at hb
  rw [List.length_replicate] at hnum
  have HF := Lib.hid (rfields13_any op _ _ w0 hnum (by simp; omega))
  have HB := Lib.hid hb
  clear hnum hx hw0 hb hg
  generalize fieldsP op (List.replicate n 0) = O at *
  go_enter Tryz.func75, Tryz.ntmps75
  go_wp2_with (go_at_call 77; (with_reducible refine HF.out.mono ?_); rintro e w1 ⟨y, A, nx, c, rfl, hz, hb⟩; unfold insCells; have HB1 := Lib.hid (HB.out.trans (hb.mono HB.out.size)); clear hb hz)

  go_ret
  exact ⟨rfl, HB1.out.trans (((Below.refl _ w1).alloc (Nat.le_refl _) _).mono HB1.out.size)⟩
end Go.Proofs.YtohlifeenhaifaaGreatDoor
