/- Copies of two instructions and the boxes for them, made in whatever order. Plain lemmas; no condition but what each names. -/
import Derived.Test.YtbcfdjpnckikdaaAwake06
import Derived.Test.YtbcfdjpnckikdaaLawsE06
namespace Go.Proofs.Ytbcfdjpnckikdaa
open Go.RowKit
set_option linter.unusedVariables false
set_option linter.unusedSimpArgs false
theorem cells_freeze {w : World} {p : Nat} {cs : Array Value} {T : TypeId} (h : w.heap[p]? = some (.cells cs T (0, 0))) (k : Nat) : w.frozen? ⟨p, k, none⟩ = false := by
  simp [World.frozen?, h]
/-- Above B0: empty boxes stand at A, copies C. -/
structure Pk (B0 W : World) (A : List Nat) (C : List (Value × List Int)) : Prop where
  bel : Below B0.heap.size B0 W
  al : ∀ p ∈ A, B0.heap.size ≤ p ∧ p < W.heap.size ∧ W.heap[p]? = some (.cells (insCells 0 0 0 0 0 (.slice none 0 0)) 28 (0, 0))
  cp : ∀ q ∈ C, IsNums .i64 W W.heap.size q.1 q.2 ∧ ∀ p ∈ A, ∀ x l c, q.1 = .slice (some x) l c → 0 < q.2.length → x.block ≠ p
theorem Pk.start (w : World) : Pk w w [] [] := ⟨Below.refl _ _, by simp, by simp⟩
theorem Pk.drew {B0 W : World} {A : List Nat} {C : List (Value × List Int)} (h : Pk B0 W A C) : Pk B0 W.drew A C :=
  ⟨h.bel.drew, h.al, fun q hq => ⟨(h.cp q hq).1.below (Below.refl W.heap.size W).drew (Nat.le_refl _), (h.cp q hq).2⟩⟩
theorem IsNums.lt {K : IntKind} {w : World} {B : Nat} {X : Value} {xs : List Int} (h : IsNums K w B X xs) (hn : 0 < xs.length) {x : Addr} {l c : Nat} (e : X = .slice (some x) l c) : x.block < B := by
  rcases h.2 with ⟨_, rfl⟩ | ⟨ad, cap, h1, h2, h3, h4⟩
  · simp at hn
  · rw [h1] at e
    injection e with e1 e2 e3
    injection e1 with e1
    subst e1
    exact h3 hn
theorem IsNums.away {K : IntKind} {w w' : World} {B : Nat} {X : Value} {xs : List Int} (h : IsNums K w B X xs) (hb : ∀ x l c, X = .slice (some x) l c → 0 < xs.length → w'.heap[x.block]? = w.heap[x.block]?) : IsNums K w' B X xs := by
  refine ⟨h.1, ?_⟩
  rcases h.2 with h0 | ⟨ad, cap, h1, h2, h3, h4⟩
  · exact .inl h0
  · refine .inr ⟨ad, cap, h1, h2, h3, fun i hi => ?_⟩
    rw [World.cell?_of_block (show w'.heap[(ad.add i).block]? = w.heap[(ad.add i).block]? by rw [add_block]; exact hb ad _ cap h1 (by omega))]
    exact h4 i hi
theorem Pk.alloc {B0 W : World} {A : List Nat} {C : List (Value × List Int)} (h : Pk B0 W A C) : Pk B0 (W.alloc (.cells (insCells 0 0 0 0 0 (.slice none 0 0)) 28)) (W.heap.size :: A) C := by
  have hb : Below W.heap.size W (W.alloc (.cells (insCells 0 0 0 0 0 (.slice none 0 0)) 28)) := (Below.refl _ W).alloc (Nat.le_refl _) _
  refine ⟨h.bel.trans (hb.mono h.bel.size), ?_, ?_⟩
  · intro p hp
    rcases List.mem_cons.1 hp with rfl | hp
    · exact ⟨h.bel.size, by simp, heap_alloc_new _ _⟩
    · obtain ⟨h1, h2, h3⟩ := h.al p hp
      exact ⟨h1, Nat.lt_of_lt_of_le h2 hb.size, (hb.block p h2).trans h3⟩
  · intro q hq
    obtain ⟨h1, h2⟩ := h.cp q hq
    refine ⟨(h1.below hb (Nat.le_refl _)).more hb.size, fun p hp x l c e hn => ?_⟩
    rcases List.mem_cons.1 hp with rfl | hp
    · exact Nat.ne_of_lt (h1.lt hn e)
    · exact h2 p hp x l c e hn
theorem Pk.call {B0 W w' : World} {A : List Nat} {C : List (Value × List Int)} (h : Pk B0 W A C) {v : Value} {xs : List Int} {e : TypeId} {Q : Value → Prop} {n : Nat} (ho : Owns w' W.heap.size e 1 Q v n (xs.map (Value.int .i64))) (hb : Below W.heap.size W w') : Pk B0 w' A ((v, xs) :: C) := by
  refine ⟨h.bel.trans (hb.mono h.bel.size), ?_, ?_⟩
  · intro p hp
    obtain ⟨h1, h2, h3⟩ := h.al p hp
    exact ⟨h1, Nat.lt_of_lt_of_le h2 hb.size, (hb.block p h2).trans h3⟩
  · intro q hq
    rcases List.mem_cons.1 hq with rfl | hq
    · refine ⟨IsNums.of_owns ho (Nat.le_refl _), fun p hp x l c e hn => ?_⟩
      have h2 := (h.al p hp).2.1
      have h3 := IsNums.of_owns ho (Nat.le_refl _)
      have h4 : W.heap.size ≤ x.block := by
        rcases ho.1.2 with ⟨h0, _⟩ | ⟨g, cap, cur, h5, _⟩
        · simp [h0] at e
        · have h6 := (ho.lt (g := g) (by simp only at e; rw [h5]; simp [Value.ownBlock])).1
          simp only at e
          rw [h5] at e
          injection e with e1 e2 e3
          injection e1 with e1
          rw [← e1]
          exact h6
      omega
    · obtain ⟨h1, h2⟩ := h.cp q hq
      exact ⟨(h1.below hb (Nat.le_refl _)).more hb.size, h2⟩
theorem Pk.facts {B0 W : World} {A : List Nat} {C : List (Value × List Int)} (h : Pk B0 W A C) {p : Nat} (hp : p ∈ A) :
    SixC W p 0 0 0 0 0 (.slice none 0 0) ∧ (∀ k, W.frozen? ⟨p, k, none⟩ = false) ∧ p < W.heap.size :=
  ⟨cells6 (h.al p hp).2.2, cells_freeze (h.al p hp).2.2, (h.al p hp).2.1⟩

abbrev TwoC (w : World) (b1 b2 : Nat) (op a b c n : Int) (X : Value) (op' a' b' c' n' : Int) (X' : Value) : Prop :=
  w.cell? ⟨b1, 0, none⟩ = some (.int .i64 op) ∧ w.cell? ⟨b1, 1, none⟩ = some (.int .i64 a) ∧ w.cell? ⟨b1, 2, none⟩ = some (.int .i64 b) ∧ w.cell? ⟨b1, 3, none⟩ = some (.int .i64 c) ∧ w.cell? ⟨b1, 4, none⟩ = some (.int .i64 n) ∧ w.cell? ⟨b1, 5, none⟩ = some X ∧
  w.cell? ⟨b2, 0, none⟩ = some (.int .i64 op') ∧ w.cell? ⟨b2, 1, none⟩ = some (.int .i64 a') ∧ w.cell? ⟨b2, 2, none⟩ = some (.int .i64 b') ∧ w.cell? ⟨b2, 3, none⟩ = some (.int .i64 c') ∧ w.cell? ⟨b2, 4, none⟩ = some (.int .i64 n') ∧ w.cell? ⟨b2, 5, none⟩ = some X'
theorem two_of {w : World} {b1 b2 : Nat} {op a b c n : Int} {X : Value} {op' a' b' c' n' : Int} {X' : Value} (h1 : SixC w b1 op a b c n X) (h2 : SixC w b2 op' a' b' c' n' X') : TwoC w b1 b2 op a b c n X op' a' b' c' n' X' :=
  ⟨h1.1, h1.2.1, h1.2.2.1, h1.2.2.2.1, h1.2.2.2.2.1, h1.2.2.2.2.2, h2⟩
theorem Pk.two {B0 W : World} {A : List Nat} {C : List (Value × List Int)} (h : Pk B0 W A C) {b1 b2 : Nat} {op a b c n : Int} {X : Value} {op' a' b' c' n' : Int} {X' : Value} (h1 : Held B0 b1 op a b c n X) (h2 : Held B0 b2 op' a' b' c' n' X') : TwoC W b1 b2 op a b c n X op' a' b' c' n' X' :=
  two_of (h1.below h.bel).six (h2.below h.bel).six
theorem copy_pk (op a b c n : Int) (X : Value) (xs : List Int) (B0 : World) (hX : IsNums .i64 B0 B0.heap.size X xs) (hm : xs.length ≤ 1000000000) {b1 b2 : Nat} {op1 a1 b1' c1 n1 : Int} {X1 : Value} {op2 a2 b2' c2 n2 : Int} {X2 : Value} (h1 : Held B0 b1 op1 a1 b1' c1 n1 X1) (h2 : Held B0 b2 op2 a2 b2' c2 n2 X2) (W : World) (A : List Nat) (C : List (Value × List Int)) (h : Pk B0 W A C) :
    Calls Try.prog 15 #[.agg (insCells op a b c n X)] W (fun e w' => ∃ S l cap, e = .returned (.agg (insCells op a b c n (.slice S l cap))) ∧ Pk B0 w' A ((.slice S l cap, xs) :: C) ∧ TwoC w' b1 b2 op1 a1 b1' c1 n1 X1 op2 a2 b2' c2 n2 X2) := by
  refine (copyIns_any op a b c n X xs W ((hX.below h.bel (Nat.le_refl _)).more h.bel.size) hm).mono ?_
  rintro e w' ⟨v, rfl, ho, hb⟩
  obtain ⟨S, l, cap, rfl⟩ := owns_slice ho.1
  have hp := h.call ho hb
  exact ⟨S, l, cap, rfl, hp, hp.two h1 h2⟩
theorem by_fun {P : Program} {md : Region.Mode} {ops : Array Oper} {Q : Exit → Act → World → Prop} {S : World → Prop} {fuel : Nat} {listed : Array Bool} {a : Act} {w : World} (h : ∀ G : Nat → Array Bool → Act → World → Prop, G = wpAnyH P md ops Q S → G fuel listed a w) : wpAnyH P md ops Q S fuel listed a w := h _ rfl
theorem Pk.bel_but {B0 W W' : World} {A : List Nat} {C : List (Value × List Int)} (h : Pk B0 W A C) (hb : But (fun k => k ∈ A) W W') : Below B0.heap.size B0 W' :=
  But.below h.bel hb h.bel.size (fun k hk => (h.al k hk).1)
theorem Pk.two_but {B0 W W' : World} {A : List Nat} {C : List (Value × List Int)} (h : Pk B0 W A C) (hb : But (fun k => k ∈ A) W W') {b1 b2 : Nat} {op a b c n : Int} {X : Value} {op' a' b' c' n' : Int} {X' : Value} (h1 : Held B0 b1 op a b c n X) (h2 : Held B0 b2 op' a' b' c' n' X') : TwoC W' b1 b2 op a b c n X op' a' b' c' n' X' :=
  two_of (h1.below (h.bel_but hb)).six (h2.below (h.bel_but hb)).six
theorem Pk.nums_but {B0 W W' : World} {A : List Nat} {C : List (Value × List Int)} (h : Pk B0 W A C) (hb : But (fun k => k ∈ A) W W') {v : Value} {xs : List Int} (hq : (v, xs) ∈ C) : IsNums .i64 W' W'.heap.size v xs := by
  obtain ⟨h1, h2⟩ := h.cp _ hq
  refine (h1.away fun x l c e hn => hb.block x.block (h1.lt hn e) ?_).more hb.size
  intro hp
  exact h2 _ hp x l c e hn rfl
theorem Pk.quad {w B0 W W' : World} {A : List Nat} {b1 b2 b3 b4 : Nat} {op a b c n : Int} {X : Value} {args : List Int} {op' a' b' c' n' : Int} {X' : Value} {args' : List Int} {v1 v2 : Value} (h : Pk B0 W A [(v2, args'), (v1, args)]) (hb : But (fun k => k ∈ A) W W') (hw : Below w.heap.size w B0)
    (h1 : Held B0 b1 op a b c n X) (h2 : Held B0 b2 op' a' b' c' n' X') (n1 : IsNums .i64 B0 B0.heap.size X args) (n2 : IsNums .i64 B0 B0.heap.size X' args') (h3 : SixC W' b3 op a b c n v1) (h4 : SixC W' b4 op' a' b' c' n' v2) (l3 : b3 < W'.heap.size) (l4 : b4 < W'.heap.size) :
    Quad w W' b1 b2 b3 b4 op a b c n X args op' a' b' c' n' X' args' v1 v2 :=
  have hbel := h.bel_but hb
  ⟨h1.below hbel, h2.below hbel, ⟨h3, l3⟩, ⟨h4, l4⟩, (n1.below hbel (Nat.le_refl _)).more hbel.size, (n2.below hbel (Nat.le_refl _)).more hbel.size, h.nums_but hb (by simp), h.nums_but hb (by simp), hw.trans (hbel.mono hw.size)⟩

end Go.Proofs.Ytbcfdjpnckikdaa
