/- The second half of the body of the statement on which instructions may be: what is asked once both are copied. Contract; no condition but that all stand in memory, and a number is the machine's. -/
import Derived.Test.YtbcfdjpnckikdaaAwake06
import Derived.Test.YtbcfdjpnckikdaaMathC06
import Derived.Test.YtbcfdjpnckikdaaRefE06
import Derived.Deep.RegionHeld3
namespace Go.Proofs.Ytbcfdjpnckikdaa
open Go.RowKit
set_option linter.unusedVariables false
set_option linter.unusedSimpArgs false

/-- Four boxes stand: both instructions, and a copy of each. -/
structure Quad (w0 w : World) (b1 b2 b3 b4 : Nat) (op a b c n : Int) (X : Value) (args : List Int) (op' a' b' c' n' : Int) (X' : Value) (args' : List Int) (v1 v2 : Value) : Prop where
  h1 : Held w b1 op a b c n X
  h2 : Held w b2 op' a' b' c' n' X'
  h3 : Held w b3 op a b c n v1
  h4 : Held w b4 op' a' b' c' n' v2
  n1 : IsNums .i64 w w.heap.size X args
  n2 : IsNums .i64 w w.heap.size X' args'
  n3 : IsNums .i64 w w.heap.size v1 args
  n4 : IsNums .i64 w w.heap.size v2 args'
  bel : Below w0.heap.size w0 w
theorem Quad.below {w0 w w' : World} {b1 b2 b3 b4 : Nat} {op a b c n : Int} {X : Value} {args : List Int} {op' a' b' c' n' : Int} {X' : Value} {args' : List Int} {v1 v2 : Value} (h : Quad w0 w b1 b2 b3 b4 op a b c n X args op' a' b' c' n' X' args' v1 v2) (hb : Below w.heap.size w w') : Quad w0 w' b1 b2 b3 b4 op a b c n X args op' a' b' c' n' X' args' v1 v2 :=
  ⟨h.h1.below hb, h.h2.below hb, h.h3.below hb, h.h4.below hb, (h.n1.below hb (Nat.le_refl _)).more hb.size, (h.n2.below hb (Nat.le_refl _)).more hb.size, (h.n3.below hb (Nat.le_refl _)).more hb.size, (h.n4.below hb (Nat.le_refl _)).more hb.size, h.bel.trans (hb.mono h.bel.size)⟩
theorem Quad.drew {w0 w : World} {b1 b2 b3 b4 : Nat} {op a b c n : Int} {X : Value} {args : List Int} {op' a' b' c' n' : Int} {X' : Value} {args' : List Int} {v1 v2 : Value} (h : Quad w0 w b1 b2 b3 b4 op a b c n X args op' a' b' c' n' X' args' v1 v2) : Quad w0 w.drew b1 b2 b3 b4 op a b c n X args op' a' b' c' n' X' args' v1 v2 := h.below ((Below.refl _ _).drew)
theorem Quad.six {w0 w : World} {b1 b2 b3 b4 : Nat} {op a b c n : Int} {X : Value} {args : List Int} {op' a' b' c' n' : Int} {X' : Value} {args' : List Int} {v1 v2 : Value} (h : Quad w0 w b1 b2 b3 b4 op a b c n X args op' a' b' c' n' X' args' v1 v2) :
    w.cell? ⟨b1, 0, none⟩ = some (.int .i64 op) ∧ w.cell? ⟨b1, 1, none⟩ = some (.int .i64 a) ∧ w.cell? ⟨b1, 2, none⟩ = some (.int .i64 b) ∧ w.cell? ⟨b1, 3, none⟩ = some (.int .i64 c) ∧ w.cell? ⟨b1, 4, none⟩ = some (.int .i64 n) ∧ w.cell? ⟨b1, 5, none⟩ = some X ∧ w.cell? ⟨b2, 0, none⟩ = some (.int .i64 op') ∧ w.cell? ⟨b2, 1, none⟩ = some (.int .i64 a') ∧ w.cell? ⟨b2, 2, none⟩ = some (.int .i64 b') ∧ w.cell? ⟨b2, 3, none⟩ = some (.int .i64 c') ∧ w.cell? ⟨b2, 4, none⟩ = some (.int .i64 n') ∧ w.cell? ⟨b2, 5, none⟩ = some X' ∧ w.cell? ⟨b3, 0, none⟩ = some (.int .i64 op) ∧ w.cell? ⟨b3, 1, none⟩ = some (.int .i64 a) ∧ w.cell? ⟨b3, 2, none⟩ = some (.int .i64 b) ∧ w.cell? ⟨b3, 3, none⟩ = some (.int .i64 c) ∧ w.cell? ⟨b3, 4, none⟩ = some (.int .i64 n) ∧ w.cell? ⟨b3, 5, none⟩ = some v1 ∧ w.cell? ⟨b4, 0, none⟩ = some (.int .i64 op') ∧ w.cell? ⟨b4, 1, none⟩ = some (.int .i64 a') ∧ w.cell? ⟨b4, 2, none⟩ = some (.int .i64 b') ∧ w.cell? ⟨b4, 3, none⟩ = some (.int .i64 c') ∧ w.cell? ⟨b4, 4, none⟩ = some (.int .i64 n') ∧ w.cell? ⟨b4, 5, none⟩ = some v2 := by
  obtain ⟨a0, a1, a2, a3, a4, a5⟩ := h.h1.six
  obtain ⟨c0, c1, c2, c3, c4, c5⟩ := h.h2.six
  obtain ⟨d0, d1, d2, d3, d4, d5⟩ := h.h3.six
  obtain ⟨e0, e1, e2, e3, e4, e5⟩ := h.h4.six
  exact ⟨a0, a1, a2, a3, a4, a5, c0, c1, c2, c3, c4, c5, d0, d1, d2, d3, d4, d5, e0, e1, e2, e3, e4, e5⟩

set_option maxHeartbeats 8000000 in
set_option maxRecDepth 100000 in
theorem checks_rest (op a b c n : Int) (X : Value) (args : List Int) (op' a' b' c' n' : Int) (X' : Value) (args' : List Int) (v1 v2 : Value) (regs area : Int) (w0 w : World) (b1 b2 b3 b4 : Nat) (hQ : Quad w0 w b1 b2 b3 b4 op a b c n X args op' a' b' c' n' X' args' v1 v2) (hn : InI n) (K : Act → World → Prop)
    (u0 u1 u6 u7 u11 u12 u13 u14 u15 u16 u17 u18 u19 u20 u21 u22 u23 u24 u25 : Value)
    (hK : ∀ x, ∀ w', Below w0.heap.size w0 w' → K { tmps := x, defers := [] } w') : True := trivial

end Go.Proofs.Ytbcfdjpnckikdaa
