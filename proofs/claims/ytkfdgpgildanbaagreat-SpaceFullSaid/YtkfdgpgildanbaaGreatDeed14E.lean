/- Deeds held against each other, copied, written over: slices.Equal, and the statements' helpers. Contracts; no condition but what each names. -/
import Derived.Test.YtkfdgpgildanbaaGreatDeed14D
import Derived.Deep.QuietTactic
import Derived.BigQuiet
namespace Go.Proofs.YtkfdgpgildanbaaGreat
open Go.RowKit
set_option linter.unusedVariables false
set_option linter.unusedSimpArgs false

/-- A result, and no more than draws. -/
def Drew14 (w : World) (v : Value) (e : Ending) (w' : World) : Prop := e = .returned v ∧ ∃ n, w' = w.drewN n
theorem quiet14 {P : Program} {f : FuncId} {args : Array Value} {w : World} {n : Nat} {v : Value}
    (h : Calls P f args (w.drewN n) (Drew14 (w.drewN n) v)) : Calls P f args (w.drewN n) fun e w'' => e = .returned v ∧ ∃ m, w'' = w.drewN m :=
  h.mono fun _ _ ⟨he, m, hm⟩ => ⟨he, n + m, by rw [hm, World.drewN_drewN]⟩
theorem quietAdd14 {P : Program} {f : FuncId} {args : Array Value} {w : World} {a n : Nat} {v : Value}
    (h : Calls P f args (w.drewN (a + n)) (Drew14 (w.drewN (a + n)) v)) : Calls P f args (w.drewN (a + n)) fun e w'' => e = .returned v ∧ ∃ m, w'' = w.drewN (a + m) :=
  h.mono fun _ _ ⟨he, m, hm⟩ => ⟨he, n + m, by rw [hm, World.drewN_drewN, Nat.add_assoc]⟩
theorem drewSame14 {P : Program} {f : FuncId} {args : Array Value} {u : World} {v : Value} (h : Calls P f args u fun e w' => e = .returned v ∧ u = w') : Calls P f args u (Drew14 u v) :=
  h.mono fun _ _ hh => ⟨hh.1, 0, hh.2.symm⟩
theorem IsDeeds.drewN {w : World} {B : Nat} {X : Value} {L : List (Int × Int)} (h : IsDeeds w B X L) (n : Nat) : IsDeeds (w.drewN n) B X L := h
theorem below_drewN14 {w w' : World} {n : Nat} (h : w' = w.drewN n) : Below w.heap.size w w' := by subst h; exact below_drewN (Below.refl _ _) n
theorem takeD_step {L M : List (Int × Int)} {k : Nat} (h : L.take k = M.take k) (hx : k < L.length) (hy : k < M.length) (he : L.getD k (0, 0) = M.getD k (0, 0)) : L.take (k + 1) = M.take (k + 1) := by
  rw [take_snoc14 hx, take_snoc14 hy, h, he]
theorem neD {L M : List (Int × Int)} {k : Nat} (he : L.getD k (0, 0) ≠ M.getD k (0, 0)) : (L == M) = false := by
  rw [beq_eq_false_iff_ne]
  intro h
  exact he (by rw [h])
theorem neqD_same (w : World) (a b : Int) : (binOp .neq 182 (.agg #[.int .i64 a, .int .i64 b]) (.agg #[.int .i64 a, .int .i64 b])).run Tryz.prog w = .ok (.bool false) w := by go_simp
theorem neqD_diff (w : World) (a b c d : Int) (h : ¬ (a = c ∧ b = d)) : (binOp .neq 182 (.agg #[.int .i64 a, .int .i64 b]) (.agg #[.int .i64 c, .int .i64 d])).run Tryz.prog w = .ok (.bool true) w := by
  by_cases h0 : a = c
  · subst h0
    have h1 : (b == d) = false := by simpa using fun e => h ⟨rfl, e⟩
    go_simp
  · have h1 : (a == c) = false := by simpa using h0
    go_simp
theorem equalD_len (X Y : Value) (L M : List (Int × Int)) (w : World) (B C : Nat) (hX : IsDeeds w B X L) (hY : IsDeeds w C Y M) (hne : L.length ≠ M.length) :
    Calls Tryz.prog 140 #[X, Y] w fun e w' => e = .returned (.bool (L == M)) ∧ w = w' := by
  obtain ⟨A1, c1, rfl, b1⟩ := hX.len
  obtain ⟨A2, c2, rfl, b2⟩ := hY.len
  rw [show (L == M) = false by rw [beq_eq_false_iff_ne]; intro h; exact hne (by rw [h])]
  have hne' : ((L.length : Int) != (M.length : Int)) = true := by simpa using (by omega : ¬ (L.length : Int) = M.length)
  have hne2 : ((L.length : Int) == (M.length : Int)) = false := by simpa using (by omega : ¬ (L.length : Int) = M.length)
  clear hX hY hne
  go_enter Tryz.func140, Tryz.ntmps140
  go_wp2
  go_ret
  exact ⟨rfl, rfl⟩
theorem eq_of_takes {L M : List (Int × Int)} {n : Nat} (hx : L.length = n) (hy : M.length = n) (h : L.take n = M.take n) : (L == M) = true := by
  rw [List.take_of_length_le (by omega), List.take_of_length_le (by omega)] at h
  rw [h]
  exact beq_self_eq_true _
set_option maxRecDepth 100000 in
set_option maxHeartbeats 2000000 in
theorem equalD_same (b1 o1 c1 b2 o2 c2 n : Nat) (L M : List (Int × Int)) (w : World) (hn : n ≤ 9223372036854775807) (hx : L.length = n) (hy : M.length = n)
    (h1 : ∀ i, i < n → w.cell? ⟨b1, o1 + i * 2, none⟩ = some (.int .i64 (L.getD i (0, 0)).1) ∧ w.cell? ⟨b1, o1 + i * 2 + 1, none⟩ = some (.int .i64 (L.getD i (0, 0)).2))
    (h2 : ∀ i, i < n → w.cell? ⟨b2, o2 + i * 2, none⟩ = some (.int .i64 (M.getD i (0, 0)).1) ∧ w.cell? ⟨b2, o2 + i * 2 + 1, none⟩ = some (.int .i64 (M.getD i (0, 0)).2)) (r1 : n ≤ c1) (r2 : n ≤ c2) :
    Calls Tryz.prog 140 #[.slice (some ⟨b1, o1, none⟩) n c1, .slice (some ⟨b2, o2, none⟩) n c2] w (Drew14 w (.bool (L == M))) := by
  have H1 := Lib.hid h1
  have H2 := Lib.hid h2
  have HX := Lib.hid hx
  have HY := Lib.hid hy
  clear h1 h2 hx hy
  go_enter Tryz.func140, Tryz.ntmps140
  go_wp2
  go_loopw [13] (fun i wr => ∃ k q : Nat, k ≤ n ∧ i = .int .i64 k ∧ wr = w.drewN q ∧ L.take k = M.take k) (fun i _ => n - (intOf i).toNat)
  case atStart => exact ⟨0, 0, by omega, rfl, rfl, rfl⟩
  case round =>
    obtain ⟨k, q, hk, rfl, rfl, ht⟩ := hrel
    have HT := Lib.hid ht
    clear ht
    by_cases hlt : k < n
    · obtain ⟨g1, g2⟩ := H1.out k hlt
      obtain ⟨g3, g4⟩ := H2.out k hlt
      obtain ⟨⟨a, b⟩, hx⟩ : ∃ x, x = L.getD k (0, 0) := ⟨_, rfl⟩
      obtain ⟨⟨c, d⟩, hy⟩ : ∃ y, y = M.getD k (0, 0) := ⟨_, rfl⟩
      rw [← hx] at g1 g2
      rw [← hy] at g3 g4
      dsimp only at g1 g2 g3 g4
      have GX := Lib.hid hx
      have GY := Lib.hid hy
      clear hx hy
      have k0 : (0 : Int) ≤ (k : Int) := by omega
      have k1 : (k : Int) < (n : Int) := by omega
      by_cases he : a = c ∧ b = d
      · obtain ⟨rfl, rfl⟩ := he
        have hs := Lib.hid (takeD_step HT.out (by rw [HX.out]; exact hlt) (by rw [HY.out]; exact hlt) (by rw [← GX.out, ← GY.out]))
        have hq := fun w => neqD_same w a b
        go_wp2
        go_quiet (fail)
        go_wp2
        go_roundw
        case rel => exact ⟨k + 1, _, by omega, by go_num, rfl, hs.out⟩
        case measure => simp [intOf]; omega
      · have hs := Lib.hid (neD (L := L) (M := M) (k := k) (by rw [← GX.out, ← GY.out]; intro e; injection e with e1 e2; exact he ⟨e1, e2⟩))
        have hq := fun w => neqD_diff w a b c d he
        clear he
        go_wp2
        go_quiet (fail)
        go_wp2
        go_ret
        rw [hs.out]
        exact ⟨rfl, _, World.drewN_drewN _ _ _⟩
    · obtain rfl : k = n := by omega
      go_wp2
      go_ret
      rw [eq_of_takes HX.out HY.out HT.out]
      exact ⟨rfl, q, rfl⟩
set_option maxRecDepth 100000 in
theorem equalD_none (A B : Option Addr) (c d : Nat) (w : World) : Calls Tryz.prog 140 #[.slice A 0 c, .slice B 0 d] w fun e w' => e = .returned (.bool true) ∧ w = w' := by
  go_enter Tryz.func140, Tryz.ntmps140
  go_wp2
  go_loopw [13] (fun i wr => i = .int .i64 0 ∧ wr = w) (fun _ _ => 0)
  case atStart => exact ⟨rfl, rfl⟩
  case round =>
    obtain ⟨rfl, rfl⟩ := hrel
    go_wp2
    go_ret
    exact ⟨rfl, rfl⟩
theorem equalD (X Y : Value) (L M : List (Int × Int)) (w : World) (B C : Nat) (hX : IsDeeds w B X L) (hY : IsDeeds w C Y M) :
    Calls Tryz.prog 140 #[X, Y] w (Drew14 w (.bool (L == M))) := by
  by_cases he : L.length = M.length
  · by_cases hp : 0 < L.length
    · obtain ⟨b1, o1, c1, rfl, r1, _, g1⟩ := hX.plain hp
      obtain ⟨b2, o2, c2, rfl, r2, _, g2⟩ := hY.plain (by omega)
      have hm := hX.1
      unfold maxLen at hm
      rw [← he] at g2 r2 ⊢
      exact equalD_same b1 o1 c1 b2 o2 c2 L.length L M w (by omega) rfl he.symm g1 g2 r1 r2
    · obtain ⟨A1, c1, rfl, _⟩ := hX.len
      obtain ⟨A2, c2, rfl, _⟩ := hY.len
      obtain rfl : L = [] := List.eq_nil_of_length_eq_zero (by omega)
      obtain rfl : M = [] := List.eq_nil_of_length_eq_zero (by omega)
      exact drewSame14 (equalD_none A1 A2 c1 c2 w)
  · exact drewSame14 (equalD_len X Y L M w B C hX hY he)

/-- A block of so many deeds. -/
def FullD (w : World) (g cap : Nat) : Prop := ∃ cur, w.heap[g]? = some (.cells cur 182 (0, 0)) ∧ cur.size = cap * 2
theorem FullD.cell {w : World} {g cap : Nat} (h : FullD w g cap) {k : Nat} (hk : k < cap * 2) : (∃ v, w.cell? ⟨g, k, none⟩ = some v) ∧ w.frozen? ⟨g, k, none⟩ = false := by
  obtain ⟨cur, h1, h2⟩ := h
  refine ⟨⟨cur[k]'(by omega), ?_⟩, frozen_of_row w g k cur _ h1⟩
  rw [cell_of_row w g k cur _ _ h1, Array.getElem?_eq_getElem (by omega)]
theorem FullD.set {w : World} {g cap : Nat} (h : FullD w g cap) (k : Nat) (u : Value) : FullD (w.setCell ⟨g, k, none⟩ u) g cap := by
  obtain ⟨cur, h1, h2⟩ := h
  exact ⟨cur.setIfInBounds k u, heap_setCell_same w g k cur _ u h1, by simpa using h2⟩
end Go.Proofs.YtkfdgpgildanbaaGreat
