/- A row of package rvcode's table: its cells, what bits are its own, and which row an operation has. No condition. -/
import Derived.Test.YtcglfbjfllohjaaRows03
import Derived.Laws.EntriesVeiled
import Derived.BigQuiet
namespace Go.Proofs.Ytcglfbjfllohjaa
open Go.RowKit
set_option linter.unusedVariables false

def namesB : List ByteArray := [⟨#[]⟩, ⟨#[108, 117, 105]⟩, ⟨#[97, 117, 105, 112, 99]⟩, ⟨#[106, 97, 108]⟩, ⟨#[106, 97, 108, 114]⟩, ⟨#[98, 101, 113]⟩, ⟨#[98, 110, 101]⟩, ⟨#[98, 108, 116]⟩, ⟨#[98, 103, 101]⟩, ⟨#[98, 108, 116, 117]⟩, ⟨#[98, 103, 101, 117]⟩, ⟨#[108, 98]⟩, ⟨#[108, 104]⟩, ⟨#[108, 119]⟩, ⟨#[108, 100]⟩, ⟨#[108, 98, 117]⟩, ⟨#[108, 104, 117]⟩, ⟨#[108, 119, 117]⟩, ⟨#[115, 98]⟩, ⟨#[115, 104]⟩, ⟨#[115, 119]⟩, ⟨#[115, 100]⟩, ⟨#[97, 100, 100, 105]⟩, ⟨#[115, 108, 116, 105]⟩, ⟨#[115, 108, 116, 105, 117]⟩, ⟨#[120, 111, 114, 105]⟩, ⟨#[111, 114, 105]⟩, ⟨#[97, 110, 100, 105]⟩, ⟨#[115, 108, 108, 105]⟩, ⟨#[115, 114, 108, 105]⟩, ⟨#[115, 114, 97, 105]⟩, ⟨#[97, 100, 100, 105, 119]⟩, ⟨#[115, 108, 108, 105, 119]⟩, ⟨#[115, 114, 108, 105, 119]⟩, ⟨#[115, 114, 97, 105, 119]⟩, ⟨#[97, 100, 100]⟩, ⟨#[115, 117, 98]⟩, ⟨#[115, 108, 108]⟩, ⟨#[115, 108, 116]⟩, ⟨#[115, 108, 116, 117]⟩, ⟨#[120, 111, 114]⟩, ⟨#[115, 114, 108]⟩, ⟨#[115, 114, 97]⟩, ⟨#[111, 114]⟩, ⟨#[97, 110, 100]⟩, ⟨#[97, 100, 100, 119]⟩, ⟨#[115, 117, 98, 119]⟩, ⟨#[115, 108, 108, 119]⟩, ⟨#[115, 114, 108, 119]⟩, ⟨#[115, 114, 97, 119]⟩, ⟨#[109, 117, 108]⟩, ⟨#[109, 117, 108, 104]⟩, ⟨#[109, 117, 108, 104, 115, 117]⟩, ⟨#[109, 117, 108, 104, 117]⟩, ⟨#[100, 105, 118]⟩, ⟨#[100, 105, 118, 117]⟩, ⟨#[114, 101, 109]⟩, ⟨#[114, 101, 109, 117]⟩, ⟨#[109, 117, 108, 119]⟩, ⟨#[100, 105, 118, 119]⟩, ⟨#[100, 105, 118, 117, 119]⟩, ⟨#[114, 101, 109, 119]⟩, ⟨#[114, 101, 109, 117, 119]⟩, ⟨#[101, 99, 97, 108, 108]⟩]
def nameB (k : Nat) : ByteArray := namesB.getD k ⟨#[]⟩
def letB (k : Nat) : Int := if k = 0 then 0 else (rvRowN k).form.letter
def aB (k : Nat) : Int := if k = 0 then 0 else ((rvRowN k).a : Int)
def bB (k : Nat) : Int := if k = 0 then 0 else ((rvRowN k).b : Int)
def cB (k : Nat) : Int := if k = 0 then 0 else ((rvRowN k).c : Int)
def RowCell (k : Nat) : Prop := rows1[k * 5]? = some (.string (nameB k)) ∧ rows1[k * 5 + 1]? = some (.int .u8 (letB k)) ∧ rows1[k * 5 + 2]? = some (.int .u8 (aB k)) ∧ rows1[k * 5 + 3]? = some (.int .u8 (bB k)) ∧ rows1[k * 5 + 4]? = some (.int .u8 (cB k))
set_option maxRecDepth 100000 in
theorem row_cell : ∀ (k : Nat), k < 64 → RowCell k
  | 0, _ => ⟨by kernel_rfl, by kernel_rfl, by kernel_rfl, by kernel_rfl, by kernel_rfl⟩
  | 1, _ => ⟨by kernel_rfl, by kernel_rfl, by kernel_rfl, by kernel_rfl, by kernel_rfl⟩
  | 2, _ => ⟨by kernel_rfl, by kernel_rfl, by kernel_rfl, by kernel_rfl, by kernel_rfl⟩
  | 3, _ => ⟨by kernel_rfl, by kernel_rfl, by kernel_rfl, by kernel_rfl, by kernel_rfl⟩
  | 4, _ => ⟨by kernel_rfl, by kernel_rfl, by kernel_rfl, by kernel_rfl, by kernel_rfl⟩
  | 5, _ => ⟨by kernel_rfl, by kernel_rfl, by kernel_rfl, by kernel_rfl, by kernel_rfl⟩
  | 6, _ => ⟨by kernel_rfl, by kernel_rfl, by kernel_rfl, by kernel_rfl, by kernel_rfl⟩
  | 7, _ => ⟨by kernel_rfl, by kernel_rfl, by kernel_rfl, by kernel_rfl, by kernel_rfl⟩
  | 8, _ => ⟨by kernel_rfl, by kernel_rfl, by kernel_rfl, by kernel_rfl, by kernel_rfl⟩
  | 9, _ => ⟨by kernel_rfl, by kernel_rfl, by kernel_rfl, by kernel_rfl, by kernel_rfl⟩
  | 10, _ => ⟨by kernel_rfl, by kernel_rfl, by kernel_rfl, by kernel_rfl, by kernel_rfl⟩
  | 11, _ => ⟨by kernel_rfl, by kernel_rfl, by kernel_rfl, by kernel_rfl, by kernel_rfl⟩
  | 12, _ => ⟨by kernel_rfl, by kernel_rfl, by kernel_rfl, by kernel_rfl, by kernel_rfl⟩
  | 13, _ => ⟨by kernel_rfl, by kernel_rfl, by kernel_rfl, by kernel_rfl, by kernel_rfl⟩
  | 14, _ => ⟨by kernel_rfl, by kernel_rfl, by kernel_rfl, by kernel_rfl, by kernel_rfl⟩
  | 15, _ => ⟨by kernel_rfl, by kernel_rfl, by kernel_rfl, by kernel_rfl, by kernel_rfl⟩
  | 16, _ => ⟨by kernel_rfl, by kernel_rfl, by kernel_rfl, by kernel_rfl, by kernel_rfl⟩
  | 17, _ => ⟨by kernel_rfl, by kernel_rfl, by kernel_rfl, by kernel_rfl, by kernel_rfl⟩
  | 18, _ => ⟨by kernel_rfl, by kernel_rfl, by kernel_rfl, by kernel_rfl, by kernel_rfl⟩
  | 19, _ => ⟨by kernel_rfl, by kernel_rfl, by kernel_rfl, by kernel_rfl, by kernel_rfl⟩
  | 20, _ => ⟨by kernel_rfl, by kernel_rfl, by kernel_rfl, by kernel_rfl, by kernel_rfl⟩
  | 21, _ => ⟨by kernel_rfl, by kernel_rfl, by kernel_rfl, by kernel_rfl, by kernel_rfl⟩
  | 22, _ => ⟨by kernel_rfl, by kernel_rfl, by kernel_rfl, by kernel_rfl, by kernel_rfl⟩
  | 23, _ => ⟨by kernel_rfl, by kernel_rfl, by kernel_rfl, by kernel_rfl, by kernel_rfl⟩
  | 24, _ => ⟨by kernel_rfl, by kernel_rfl, by kernel_rfl, by kernel_rfl, by kernel_rfl⟩
  | 25, _ => ⟨by kernel_rfl, by kernel_rfl, by kernel_rfl, by kernel_rfl, by kernel_rfl⟩
  | 26, _ => ⟨by kernel_rfl, by kernel_rfl, by kernel_rfl, by kernel_rfl, by kernel_rfl⟩
  | 27, _ => ⟨by kernel_rfl, by kernel_rfl, by kernel_rfl, by kernel_rfl, by kernel_rfl⟩
  | 28, _ => ⟨by kernel_rfl, by kernel_rfl, by kernel_rfl, by kernel_rfl, by kernel_rfl⟩
  | 29, _ => ⟨by kernel_rfl, by kernel_rfl, by kernel_rfl, by kernel_rfl, by kernel_rfl⟩
  | 30, _ => ⟨by kernel_rfl, by kernel_rfl, by kernel_rfl, by kernel_rfl, by kernel_rfl⟩
  | 31, _ => ⟨by kernel_rfl, by kernel_rfl, by kernel_rfl, by kernel_rfl, by kernel_rfl⟩
  | 32, _ => ⟨by kernel_rfl, by kernel_rfl, by kernel_rfl, by kernel_rfl, by kernel_rfl⟩
  | 33, _ => ⟨by kernel_rfl, by kernel_rfl, by kernel_rfl, by kernel_rfl, by kernel_rfl⟩
  | 34, _ => ⟨by kernel_rfl, by kernel_rfl, by kernel_rfl, by kernel_rfl, by kernel_rfl⟩
  | 35, _ => ⟨by kernel_rfl, by kernel_rfl, by kernel_rfl, by kernel_rfl, by kernel_rfl⟩
  | 36, _ => ⟨by kernel_rfl, by kernel_rfl, by kernel_rfl, by kernel_rfl, by kernel_rfl⟩
  | 37, _ => ⟨by kernel_rfl, by kernel_rfl, by kernel_rfl, by kernel_rfl, by kernel_rfl⟩
  | 38, _ => ⟨by kernel_rfl, by kernel_rfl, by kernel_rfl, by kernel_rfl, by kernel_rfl⟩
  | 39, _ => ⟨by kernel_rfl, by kernel_rfl, by kernel_rfl, by kernel_rfl, by kernel_rfl⟩
  | 40, _ => ⟨by kernel_rfl, by kernel_rfl, by kernel_rfl, by kernel_rfl, by kernel_rfl⟩
  | 41, _ => ⟨by kernel_rfl, by kernel_rfl, by kernel_rfl, by kernel_rfl, by kernel_rfl⟩
  | 42, _ => ⟨by kernel_rfl, by kernel_rfl, by kernel_rfl, by kernel_rfl, by kernel_rfl⟩
  | 43, _ => ⟨by kernel_rfl, by kernel_rfl, by kernel_rfl, by kernel_rfl, by kernel_rfl⟩
  | 44, _ => ⟨by kernel_rfl, by kernel_rfl, by kernel_rfl, by kernel_rfl, by kernel_rfl⟩
  | 45, _ => ⟨by kernel_rfl, by kernel_rfl, by kernel_rfl, by kernel_rfl, by kernel_rfl⟩
  | 46, _ => ⟨by kernel_rfl, by kernel_rfl, by kernel_rfl, by kernel_rfl, by kernel_rfl⟩
  | 47, _ => ⟨by kernel_rfl, by kernel_rfl, by kernel_rfl, by kernel_rfl, by kernel_rfl⟩
  | 48, _ => ⟨by kernel_rfl, by kernel_rfl, by kernel_rfl, by kernel_rfl, by kernel_rfl⟩
  | 49, _ => ⟨by kernel_rfl, by kernel_rfl, by kernel_rfl, by kernel_rfl, by kernel_rfl⟩
  | 50, _ => ⟨by kernel_rfl, by kernel_rfl, by kernel_rfl, by kernel_rfl, by kernel_rfl⟩
  | 51, _ => ⟨by kernel_rfl, by kernel_rfl, by kernel_rfl, by kernel_rfl, by kernel_rfl⟩
  | 52, _ => ⟨by kernel_rfl, by kernel_rfl, by kernel_rfl, by kernel_rfl, by kernel_rfl⟩
  | 53, _ => ⟨by kernel_rfl, by kernel_rfl, by kernel_rfl, by kernel_rfl, by kernel_rfl⟩
  | 54, _ => ⟨by kernel_rfl, by kernel_rfl, by kernel_rfl, by kernel_rfl, by kernel_rfl⟩
  | 55, _ => ⟨by kernel_rfl, by kernel_rfl, by kernel_rfl, by kernel_rfl, by kernel_rfl⟩
  | 56, _ => ⟨by kernel_rfl, by kernel_rfl, by kernel_rfl, by kernel_rfl, by kernel_rfl⟩
  | 57, _ => ⟨by kernel_rfl, by kernel_rfl, by kernel_rfl, by kernel_rfl, by kernel_rfl⟩
  | 58, _ => ⟨by kernel_rfl, by kernel_rfl, by kernel_rfl, by kernel_rfl, by kernel_rfl⟩
  | 59, _ => ⟨by kernel_rfl, by kernel_rfl, by kernel_rfl, by kernel_rfl, by kernel_rfl⟩
  | 60, _ => ⟨by kernel_rfl, by kernel_rfl, by kernel_rfl, by kernel_rfl, by kernel_rfl⟩
  | 61, _ => ⟨by kernel_rfl, by kernel_rfl, by kernel_rfl, by kernel_rfl, by kernel_rfl⟩
  | 62, _ => ⟨by kernel_rfl, by kernel_rfl, by kernel_rfl, by kernel_rfl, by kernel_rfl⟩
  | 63, _ => ⟨by kernel_rfl, by kernel_rfl, by kernel_rfl, by kernel_rfl, by kernel_rfl⟩
  | n + 64, h => absurd h (Nat.not_lt.2 (Nat.le_add_left 64 n))
/-- The value that a row is. -/
def rowVal (k : Nat) : Value := .agg #[.string (nameB k), .int .u8 (letB k), .int .u8 (aB k), .int .u8 (bB k), .int .u8 (cB k)]
/-- The table's cells, in a world. -/
theorem rows_cells {w : World} {g : Nat} (h : w.heap[g]? = some (.cells rows1 40 (0, 0))) {k : Nat} (hk : k < 64) :
    w.cell? ⟨g, k * 5, none⟩ = some (.string (nameB k)) ∧ w.cell? ⟨g, k * 5 + 1, none⟩ = some (.int .u8 (letB k)) ∧ w.cell? ⟨g, k * 5 + 2, none⟩ = some (.int .u8 (aB k)) ∧ w.cell? ⟨g, k * 5 + 3, none⟩ = some (.int .u8 (bB k)) ∧ w.cell? ⟨g, k * 5 + 4, none⟩ = some (.int .u8 (cB k)) := by
  obtain ⟨h0, h1, h2, h3, h4⟩ := row_cell k hk
  exact ⟨(cell_of_row _ _ _ _ _ _ h).trans h0, (cell_of_row _ _ _ _ _ _ h).trans h1, (cell_of_row _ _ _ _ _ _ h).trans h2, (cell_of_row _ _ _ _ _ _ h).trans h3, (cell_of_row _ _ _ _ _ _ h).trans h4⟩


theorem bcell {W w1 : World} (hb : Below W.heap.size W w1) : (∀ b o, b < W.heap.size → w1.cell? ⟨b, o, none⟩ = W.cell? ⟨b, o, none⟩) ∧ (∀ b o, b < W.heap.size → w1.frozen? ⟨b, o, none⟩ = W.frozen? ⟨b, o, none⟩) :=
  ⟨fun b o h => hb.cell (p := ⟨b, o, none⟩) h, fun b o h => hb.frozen (p := ⟨b, o, none⟩) h⟩
def RowOfYes (w : World) (k : Nat) (e : Ending) (w' : World) : Prop := e = .returned (.tuple #[rowVal k, .bool true]) ∧ Below w.heap.size w w'
def RowOfNo (w : World) (e : Ending) (w' : World) : Prop := e = .returned (.tuple #[.agg #[.string ⟨#[]⟩, .int .u8 0, .int .u8 0, .int .u8 0, .int .u8 0], .bool false]) ∧ Below w.heap.size w w'
theorem rowOf_no (op : Int) (w : World) (h : op < 1 ∨ 63 < op) : Calls Try.prog 23 #[.int .i64 op] w (RowOfNo w) := by
  rcases h with h | h
  · go_enter Try.func23, Try.ntmps23
    go_wp2
    exact bodyPost_ret (v := .tuple #[.agg #[.string ⟨#[]⟩, .int .u8 0, .int .u8 0, .int .u8 0, .int .u8 0], .bool false]) (by simp [results, Try.results23, go_sem]) rfl ⟨rfl, (Below.refl _ _).alloc (Nat.le_refl _) _⟩
  · have h' : ¬ op < 1 := by omega
    go_enter Try.func23, Try.ntmps23
    go_wp2
    exact bodyPost_ret (v := .tuple #[.agg #[.string ⟨#[]⟩, .int .u8 0, .int .u8 0, .int .u8 0, .int .u8 0], .bool false]) (by simp [results, Try.results23, go_sem]) rfl ⟨rfl, (Below.refl _ _).alloc (Nat.le_refl _) _⟩
set_option maxHeartbeats 1000000 in
theorem rowOf_yes (k : Nat) (w : World) (h : 1 ≤ k) (h' : k ≤ 63) : Calls Try.prog 23 #[.int .i64 k] w (RowOfYes w k) := by
  have h1 : (1 : Int) ≤ (k : Int) := by omega
  have h2 : (k : Int) ≤ 63 := by omega
  obtain ⟨s0, hs0⟩ : ∃ s0, s0 = nameB k := ⟨_, rfl⟩
  obtain ⟨s1, hs1⟩ : ∃ s1, s1 = letB k := ⟨_, rfl⟩
  obtain ⟨s2, hs2⟩ : ∃ s2, s2 = aB k := ⟨_, rfl⟩
  obtain ⟨s3, hs3⟩ : ∃ s3, s3 = bB k := ⟨_, rfl⟩
  obtain ⟨s4, hs4⟩ : ∃ s4, s4 = cB k := ⟨_, rfl⟩
  have HR := Lib.hid (show rowVal k = .agg #[.string s0, .int .u8 s1, .int .u8 s2, .int .u8 s3, .int .u8 s4] by rw [hs0, hs1, hs2, hs3, hs4]; rfl)
  have HC := Lib.hid (fun (w : World) (g : Nat) h => (rows_cells (w := w) (g := g) h (k := k) (by omega)))
  rw [← hs0, ← hs1, ← hs2, ← hs3, ← hs4] at HC
  clear hs0 hs1 hs2 hs3 hs4
  have HZ := Lib.hid (show ∀ o : Obj, (w.alloc o).heap.size = w.heap.size + 1 from fun o => by simp)
  go_enter Try.func23, Try.ntmps23
  go_wp2_with (go_at_call 33; (with_reducible refine (rows_any _).mono ?_); rintro e w1 ⟨rfl, hg, hb⟩; rw [HZ.out] at hg; obtain ⟨c0, c1, c2, c3, c4⟩ := HC.out _ _ hg; have HB := Lib.hid hb; have zz := heap_lt hg; obtain ⟨q1, q2⟩ := bcell hb; rw [HZ.out] at q1 q2; clear hg hb)

  have e0 : w1.cell? ⟨w.heap.size, 0, none⟩ = some (.string ⟨#[]⟩) := by rw [q1 _ _ (by omega)]; exact new_cell _ _ _ _ _ _ rfl rfl
  have e1 : w1.cell? ⟨w.heap.size, 1, none⟩ = some (.int .u8 0) := by rw [q1 _ _ (by omega)]; exact new_cell _ _ _ _ _ _ rfl rfl
  have e2 : w1.cell? ⟨w.heap.size, 2, none⟩ = some (.int .u8 0) := by rw [q1 _ _ (by omega)]; exact new_cell _ _ _ _ _ _ rfl rfl
  have e3 : w1.cell? ⟨w.heap.size, 3, none⟩ = some (.int .u8 0) := by rw [q1 _ _ (by omega)]; exact new_cell _ _ _ _ _ _ rfl rfl
  have e4 : w1.cell? ⟨w.heap.size, 4, none⟩ = some (.int .u8 0) := by rw [q1 _ _ (by omega)]; exact new_cell _ _ _ _ _ _ rfl rfl
  exact bodyPost_ret (v := .tuple #[.agg #[.string s0, .int .u8 s1, .int .u8 s2, .int .u8 s3, .int .u8 s4], .bool true]) (by simp [results, Try.results23, go_sem, e0, e1, e2, e3, e4]) rfl ⟨by rw [HR.out],
    (((((((Below.refl _ _).alloc (Nat.le_refl _) _).trans (HB.out.mono (by simp))).setCell (p := ⟨w.heap.size, 0, none⟩) (Nat.le_refl _) _).setCell (p := ⟨w.heap.size, 1, none⟩) (Nat.le_refl _) _).setCell (p := ⟨w.heap.size, 2, none⟩) (Nat.le_refl _) _).setCell (p := ⟨w.heap.size, 3, none⟩) (Nat.le_refl _) _).setCell (p := ⟨w.heap.size, 4, none⟩) (Nat.le_refl _) _⟩
/-- The bits that a form's row has for its own, and where they stand. -/
def ownV (f : RvForm) (a b c : Int) : Int :=
  match f with
  | .R | .Y => bits .or .u32 (bits .or .u32 a (b * 4096)) (c * 33554432 % 4294967296)
  | .X => bits .or .u32 (bits .or .u32 a (b * 4096)) (c * 67108864 % 4294967296)
  | _ => bits .or .u32 a (b * 4096)
def maskV : RvForm → Int
  | .U | .J => 127
  | .I | .S | .B => 28799
  | .R | .Y => 4261441663
  | .X => 4227887231
  | .E => 4294967295
def OwnDone (w : World) (o m : Int) (e : Ending) (w' : World) : Prop := e = .returned (.tuple #[.int .u32 o, .int .u32 m]) ∧ Below w.heap.size w w'
theorem own_R (s : ByteArray) (a b c : Int) (w : World) (ha : 0 ≤ a) (ha' : a < 256) (hb : 0 ≤ b) (hb' : b < 256) (hc : 0 ≤ c) (hc' : c < 256) :
    Calls Try.prog 27 #[.agg #[.string s, .int .u8 82, .int .u8 a, .int .u8 b, .int .u8 c]] w (OwnDone w (ownV .R a b c) (maskV .R)) := by
  go_enter Try.func27, Try.ntmps27
  go_wp2
  go_ret2
  exact ⟨ret_int2 (by simp [ownV]) rfl, (Below.refl _ _).alloc (Nat.le_refl _) _⟩
theorem own_I (s : ByteArray) (a b c : Int) (w : World) (ha : 0 ≤ a) (ha' : a < 256) (hb : 0 ≤ b) (hb' : b < 256) (hc : 0 ≤ c) (hc' : c < 256) :
    Calls Try.prog 27 #[.agg #[.string s, .int .u8 73, .int .u8 a, .int .u8 b, .int .u8 c]] w (OwnDone w (ownV .I a b c) (maskV .I)) := by
  go_enter Try.func27, Try.ntmps27
  go_wp2
  go_ret2
  exact ⟨ret_int2 (by simp [ownV]) rfl, (Below.refl _ _).alloc (Nat.le_refl _) _⟩
theorem own_X (s : ByteArray) (a b c : Int) (w : World) (ha : 0 ≤ a) (ha' : a < 256) (hb : 0 ≤ b) (hb' : b < 256) (hc : 0 ≤ c) (hc' : c < 256) :
    Calls Try.prog 27 #[.agg #[.string s, .int .u8 88, .int .u8 a, .int .u8 b, .int .u8 c]] w (OwnDone w (ownV .X a b c) (maskV .X)) := by
  go_enter Try.func27, Try.ntmps27
  go_wp2
  go_ret2
  exact ⟨ret_int2 (by simp [ownV]) rfl, (Below.refl _ _).alloc (Nat.le_refl _) _⟩
theorem own_Y (s : ByteArray) (a b c : Int) (w : World) (ha : 0 ≤ a) (ha' : a < 256) (hb : 0 ≤ b) (hb' : b < 256) (hc : 0 ≤ c) (hc' : c < 256) :
    Calls Try.prog 27 #[.agg #[.string s, .int .u8 89, .int .u8 a, .int .u8 b, .int .u8 c]] w (OwnDone w (ownV .Y a b c) (maskV .Y)) := by
  go_enter Try.func27, Try.ntmps27
  go_wp2
  go_ret2
  exact ⟨ret_int2 (by simp [ownV]) rfl, (Below.refl _ _).alloc (Nat.le_refl _) _⟩
theorem own_S (s : ByteArray) (a b c : Int) (w : World) (ha : 0 ≤ a) (ha' : a < 256) (hb : 0 ≤ b) (hb' : b < 256) (hc : 0 ≤ c) (hc' : c < 256) :
    Calls Try.prog 27 #[.agg #[.string s, .int .u8 83, .int .u8 a, .int .u8 b, .int .u8 c]] w (OwnDone w (ownV .S a b c) (maskV .S)) := by
  go_enter Try.func27, Try.ntmps27
  go_wp2
  go_ret2
  exact ⟨ret_int2 (by simp [ownV]) rfl, (Below.refl _ _).alloc (Nat.le_refl _) _⟩
theorem own_B (s : ByteArray) (a b c : Int) (w : World) (ha : 0 ≤ a) (ha' : a < 256) (hb : 0 ≤ b) (hb' : b < 256) (hc : 0 ≤ c) (hc' : c < 256) :
    Calls Try.prog 27 #[.agg #[.string s, .int .u8 66, .int .u8 a, .int .u8 b, .int .u8 c]] w (OwnDone w (ownV .B a b c) (maskV .B)) := by
  go_enter Try.func27, Try.ntmps27
  go_wp2
  go_ret2
  exact ⟨ret_int2 (by simp [ownV]) rfl, (Below.refl _ _).alloc (Nat.le_refl _) _⟩
theorem own_U (s : ByteArray) (a b c : Int) (w : World) (ha : 0 ≤ a) (ha' : a < 256) (hb : 0 ≤ b) (hb' : b < 256) (hc : 0 ≤ c) (hc' : c < 256) :
    Calls Try.prog 27 #[.agg #[.string s, .int .u8 85, .int .u8 a, .int .u8 b, .int .u8 c]] w (OwnDone w (ownV .U a b c) (maskV .U)) := by
  go_enter Try.func27, Try.ntmps27
  go_wp2
  go_ret2
  exact ⟨ret_int2 (by simp [ownV]) rfl, (Below.refl _ _).alloc (Nat.le_refl _) _⟩
theorem own_J (s : ByteArray) (a b c : Int) (w : World) (ha : 0 ≤ a) (ha' : a < 256) (hb : 0 ≤ b) (hb' : b < 256) (hc : 0 ≤ c) (hc' : c < 256) :
    Calls Try.prog 27 #[.agg #[.string s, .int .u8 74, .int .u8 a, .int .u8 b, .int .u8 c]] w (OwnDone w (ownV .J a b c) (maskV .J)) := by
  go_enter Try.func27, Try.ntmps27
  go_wp2
  go_ret2
  exact ⟨ret_int2 (by simp [ownV]) rfl, (Below.refl _ _).alloc (Nat.le_refl _) _⟩
theorem own_E (s : ByteArray) (a b c : Int) (w : World) (ha : 0 ≤ a) (ha' : a < 256) (hb : 0 ≤ b) (hb' : b < 256) (hc : 0 ≤ c) (hc' : c < 256) :
    Calls Try.prog 27 #[.agg #[.string s, .int .u8 69, .int .u8 a, .int .u8 b, .int .u8 c]] w (OwnDone w (ownV .E a b c) (maskV .E)) := by
  go_enter Try.func27, Try.ntmps27
  go_wp2
  go_ret2
  exact ⟨ret_int2 (by simp [ownV]) rfl, (Below.refl _ _).alloc (Nat.le_refl _) _⟩
theorem own_0 (s : ByteArray) (w : World) : Calls Try.prog 27 #[.agg #[.string s, .int .u8 0, .int .u8 0, .int .u8 0, .int .u8 0]] w (OwnDone w 0 4294967295) := by
  go_enter Try.func27, Try.ntmps27
  go_wp2
  go_ret2
  exact ⟨ret_int2 rfl rfl, (Below.refl _ _).alloc (Nat.le_refl _) _⟩
theorem own_any (f : RvForm) (s : ByteArray) (a b c : Int) (w : World) (ha : 0 ≤ a) (ha' : a < 256) (hb : 0 ≤ b) (hb' : b < 256) (hc : 0 ≤ c) (hc' : c < 256) :
    Calls Try.prog 27 #[.agg #[.string s, .int .u8 f.letter, .int .u8 a, .int .u8 b, .int .u8 c]] w (OwnDone w (ownV f a b c) (maskV f)) := by
  cases f
  · exact own_R s a b c w ha ha' hb hb' hc hc'
  · exact own_I s a b c w ha ha' hb hb' hc hc'
  · exact own_X s a b c w ha ha' hb hb' hc hc'
  · exact own_Y s a b c w ha ha' hb hb' hc hc'
  · exact own_S s a b c w ha ha' hb hb' hc hc'
  · exact own_B s a b c w ha ha' hb hb' hc hc'
  · exact own_U s a b c w ha ha' hb hb' hc hc'
  · exact own_J s a b c w ha ha' hb hb' hc hc'
  · exact own_E s a b c w ha ha' hb hb' hc hc'
end Go.Proofs.Ytcglfbjfllohjaa
