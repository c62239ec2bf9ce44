/- What the statements of layer 10 share: lists, bools and blocks that are the same; is a number among some; are instructions too many; the chapter's code. Contracts; no condition but what each names. -/
import Derived.Test.YtgoedemibdkpdaaGreatFlow10G
namespace Go.Proofs.YtgoedemibdkpdaaGreat
open Go.RowKit
set_option linter.unusedVariables false
set_option linter.unusedSimpArgs false

/-- Lists of numbers to be read. -/
def IsLs (w : World) (B : Nat) (V : Value) (n : Nat) (ll : Nat → List Int) : Prop :=
  n ≤ maxLen ∧ ((n = 0 ∧ ∃ a cap, V = .slice a 0 cap) ∨
    ∃ b off cap, V = .slice (some ⟨b, off, none⟩) n cap ∧ n ≤ cap ∧ b < B ∧ ∀ i, i < n → ∃ X, IsNums .i64 w B X (ll i) ∧ w.cell? ⟨b, off + i, none⟩ = some X)
theorem IsLs.len {w : World} {B n : Nat} {V : Value} {ll : Nat → List Int} (h : IsLs w B V n ll) : ∃ a cap, V = .slice a n cap := by
  rcases h.2 with ⟨rfl, a, cap, h⟩ | ⟨b, off, cap, h, _⟩
  · exact ⟨a, cap, h⟩
  · exact ⟨_, cap, h⟩
theorem IsLs.plain {w : World} {B n : Nat} {V : Value} {ll : Nat → List Int} (h : IsLs w B V n ll) (hn : 0 < n) :
    ∃ b off cap, V = .slice (some ⟨b, off, none⟩) n cap ∧ n ≤ cap ∧ b < B ∧ ∀ i, i < n → ∃ X, IsNums .i64 w B X (ll i) ∧ w.cell? ⟨b, off + i, none⟩ = some X := by
  rcases h.2 with ⟨rfl, _⟩ | h
  · omega
  · exact h
theorem IsLs.below {w w' : World} {B B' n : Nat} {V : Value} {ll : Nat → List Int} (h : IsLs w B V n ll) (hb : Below B' w w') (hB : B ≤ B') : IsLs w' B V n ll := by
  refine ⟨h.1, ?_⟩
  rcases h.2 with h0 | ⟨b, off, cap, h1, h2, h3, h4⟩
  · exact .inl h0
  · refine .inr ⟨b, off, cap, h1, h2, h3, fun i hi => ?_⟩
    obtain ⟨X, hX, hc⟩ := h4 i hi
    exact ⟨X, hX.below hb hB, (hb.cell (p := ⟨b, off + i, none⟩) (Nat.lt_of_lt_of_le h3 hB)).trans hc⟩
theorem IsLs.more {w : World} {B B' n : Nat} {V : Value} {ll : Nat → List Int} (h : IsLs w B V n ll) (hB : B ≤ B') : IsLs w B' V n ll := by
  refine ⟨h.1, ?_⟩
  rcases h.2 with h0 | ⟨b, off, cap, h1, h2, h3, h4⟩
  · exact .inl h0
  · refine .inr ⟨b, off, cap, h1, h2, Nat.lt_of_lt_of_le h3 hB, fun i hi => ?_⟩
    obtain ⟨X, hX, hc⟩ := h4 i hi
    exact ⟨X, hX.more hB, hc⟩
theorem Lists.ls {base : Nat} {w : World} {g n : Nat} {Xs : Nat → Value} {ll : Nat → List Int} (h : Lists base w g n Xs ll) (hn : n ≤ maxLen) : IsLs w w.heap.size (.slice (some ⟨g, 0, none⟩) n n) n ll :=
  ⟨hn, .inr ⟨g, 0, n, rfl, Nat.le_refl _, h.row.lt, fun i hi => ⟨_, IsNums.of_owns (h.own i hi) (Nat.le_refl _), by rw [Nat.zero_add]; exact h.row.cell hi⟩⟩⟩
theorem quiet_of10 {P : Program} {f : FuncId} {args : Array Value} {w : World} {q n : Nat} {v : Value} (h : Calls P f args (w.drewN (q + n)) (Drawn2 (w.drewN (q + n)) v)) :
    Calls P f args (w.drewN (q + n)) fun e w'' => e = .returned v ∧ ∃ m, w'' = w.drewN (q + m) := h.mono fun _ _ ⟨he, k, hm⟩ => ⟨he, n + k, by rw [hm]; simp [World.drewN, Nat.add_assoc]⟩
theorem same_refl (xs : List Int) : sameL xs xs = true := decide_eq_true rfl
set_option maxRecDepth 100000 in
set_option maxHeartbeats 4000000 in
theorem sameLists_yes (V U : Value) (n : Nat) (ll : Nat → List Int) (w : World) (B C : Nat) (hV : IsLs w B V n ll) (hU : IsLs w C U n ll) : Calls Tryz.prog 15 #[V, U] w (Drawn2 w (.bool true)) := by
  obtain ⟨A1, c1, rfl⟩ := hV.len
  obtain ⟨A2, c2, rfl⟩ := hU.len
  have hl := hV.1
  unfold maxLen at hl
  have HV := Lib.hid hV
  have HU := Lib.hid hU
  clear hV hU
  go_enter Tryz.func15, Tryz.ntmps15
  go_wp2
  go_loopw [5] (fun i wr => ∃ k q : Nat, k ≤ n ∧ i = .int .i64 k ∧ wr = w.drewN q) (fun i _ => n - (intOf i).toNat)
  case atStart => exact ⟨0, 0, by omega, rfl, rfl⟩
  case round =>
    obtain ⟨k, q, hk, rfl, rfl⟩ := hrel
    by_cases hlt : k < n
    · obtain ⟨b1, o1, cp1, e1, _, _, hc1⟩ := HV.out.plain (by omega)
      obtain ⟨b2, o2, cp2, e2, _, _, hc2⟩ := HU.out.plain (by omega)
      cases e1
      cases e2
      obtain ⟨X1, hX1, d1⟩ := hc1 k hlt
      obtain ⟨X2, hX2, d2⟩ := hc2 k hlt
      have HS := Lib.hid (fun m => quiet_of10 (w := w) (q := q) (n := m) (by have := sameInts_any X1 X2 (ll k) (ll k) (w.drewN (q + m)) B C hX1 hX2; rw [same_refl] at this; exact this))
      have HX1 := Lib.hid hX1
      have HX2 := Lib.hid hX2
      have k0 : (0 : Int) ≤ (k : Int) := by omega
      have k1 : (k : Int) < (n : Int) := by omega
      clear hc1 hc2 hX1 hX2
      go_wp2
      go_quiet ((go_at_call 27; with_reducible exact HS.out _))
      go_wp2
      go_roundw
      case rel => exact ⟨k + 1, _, by omega, by go_num, rfl⟩
      case measure => simp [intOf]; omega
    · obtain rfl : k = n := by omega
      go_wp2
      go_ret
      exact ⟨rfl, _, rfl⟩
/-- Bools to be read. -/
def IsBools (w : World) (B : Nat) (V : Value) (n : Nat) (r : Nat → Bool) : Prop :=
  n ≤ maxLen ∧ ((n = 0 ∧ ∃ a cap, V = .slice a 0 cap) ∨
    ∃ b off cap, V = .slice (some ⟨b, off, none⟩) n cap ∧ n ≤ cap ∧ b < B ∧ ∀ i, i < n → w.cell? ⟨b, off + i, none⟩ = some (.bool (r i)))
theorem IsBools.len {w : World} {B n : Nat} {V : Value} {r : Nat → Bool} (h : IsBools w B V n r) : ∃ a cap, V = .slice a n cap := by
  rcases h.2 with ⟨rfl, a, cap, h⟩ | ⟨b, off, cap, h, _⟩
  · exact ⟨a, cap, h⟩
  · exact ⟨_, cap, h⟩
theorem IsBools.plain {w : World} {B n : Nat} {V : Value} {r : Nat → Bool} (h : IsBools w B V n r) (hn : 0 < n) :
    ∃ b off cap, V = .slice (some ⟨b, off, none⟩) n cap ∧ n ≤ cap ∧ b < B ∧ ∀ i, i < n → w.cell? ⟨b, off + i, none⟩ = some (.bool (r i)) := by
  rcases h.2 with ⟨rfl, _⟩ | h
  · omega
  · exact h
theorem IsBools.below {w w' : World} {B B' n : Nat} {V : Value} {r : Nat → Bool} (h : IsBools w B V n r) (hb : Below B' w w') (hB : B ≤ B') : IsBools w' B V n r := by
  refine ⟨h.1, ?_⟩
  rcases h.2 with h0 | ⟨b, off, cap, h1, h2, h3, h4⟩
  · exact .inl h0
  · exact .inr ⟨b, off, cap, h1, h2, h3, fun i hi => (hb.cell (p := ⟨b, off + i, none⟩) (Nat.lt_of_lt_of_le h3 hB)).trans (h4 i hi)⟩
theorem IsBools.more {w : World} {B B' n : Nat} {V : Value} {r : Nat → Bool} (h : IsBools w B V n r) (hB : B ≤ B') : IsBools w B' V n r := by
  refine ⟨h.1, ?_⟩
  rcases h.2 with h0 | ⟨b, off, cap, h1, h2, h3, h4⟩
  · exact .inl h0
  · exact .inr ⟨b, off, cap, h1, h2, Nat.lt_of_lt_of_le h3 hB, h4⟩
theorem RowAt.bools {w : World} {g n : Nat} {r : Nat → Bool} (h : RowAt w g n 4 (boolsV r)) (hn : n ≤ maxLen) : IsBools w w.heap.size (.slice (some ⟨g, 0, none⟩) n n) n r :=
  ⟨hn, .inr ⟨g, 0, n, rfl, Nat.le_refl _, h.lt, fun i hi => by rw [Nat.zero_add]; exact h.cell hi⟩⟩
set_option maxRecDepth 100000 in
set_option maxHeartbeats 4000000 in
theorem sameBools_yes (V U : Value) (n : Nat) (r : Nat → Bool) (w : World) (B C : Nat) (hV : IsBools w B V n r) (hU : IsBools w C U n r) : Calls Tryz.prog 16 #[V, U] w (Drawn2 w (.bool true)) := by
  obtain ⟨A1, c1, rfl⟩ := hV.len
  obtain ⟨A2, c2, rfl⟩ := hU.len
  have hl := hV.1
  unfold maxLen at hl
  have HV := Lib.hid hV
  have HU := Lib.hid hU
  clear hV hU
  go_enter Tryz.func16, Tryz.ntmps16
  go_wp2
  go_loopw [5] (fun i wr => ∃ k q : Nat, k ≤ n ∧ i = .int .i64 k ∧ wr = w.drewN q) (fun i _ => n - (intOf i).toNat)
  case atStart => exact ⟨0, 0, by omega, rfl, rfl⟩
  case round =>
    obtain ⟨k, q, hk, rfl, rfl⟩ := hrel
    by_cases hlt : k < n
    · obtain ⟨b1, o1, cp1, e1, _, _, hc1⟩ := HV.out.plain (by omega)
      obtain ⟨b2, o2, cp2, e2, _, _, hc2⟩ := HU.out.plain (by omega)
      cases e1
      cases e2
      have d1 := hc1 k hlt
      have d2 := hc2 k hlt
      generalize r k = rk at *
      have e3 : (rk != rk) = false := by cases rk <;> rfl
      have k0 : (0 : Int) ≤ (k : Int) := by omega
      have k1 : (k : Int) < (n : Int) := by omega
      clear hc1 hc2
      go_wp2
      go_quiet (fail)
      go_wp2
      go_roundw
      case rel => exact ⟨k + 1, _, by omega, by go_num, rfl⟩
      case measure => simp [intOf]; omega
    · obtain rfl : k = n := by omega
      go_wp2
      go_ret
      exact ⟨rfl, _, rfl⟩
end Go.Proofs.YtgoedemibdkpdaaGreat
