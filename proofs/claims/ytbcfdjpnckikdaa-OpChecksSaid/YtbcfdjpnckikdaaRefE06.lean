/- The document's own way of telling whether two instructions are the same (twinshaftref06.Same). Contract; no condition but that the arguments are instructions in memory. -/
import Derived.Test.YtbcfdjpnckikdaaCheck06
namespace Go.Proofs.Ytbcfdjpnckikdaa
open Go.RowKit
set_option linter.unusedVariables false
set_option linter.unusedSimpArgs false

set_option maxHeartbeats 4000000 in
set_option maxRecDepth 100000 in
theorem rsame_any (op a b c n : Int) (X : Value) (args : List Int) (op' a' b' c' n' : Int) (X' : Value) (args' : List Int) (w : World) (hX : IsNums .i64 w w.heap.size X args) (hX' : IsNums .i64 w w.heap.size X' args') :
    Calls Try.prog 19 #[.agg (insCells op a b c n X), .agg (insCells op' a' b' c' n' X')] w (Makes w (.bool (sameV op a b c n args op' a' b' c' n' args'))) := by
  obtain ⟨A1, C1, rfl⟩ := hX.len
  obtain ⟨A2, C2, rfl⟩ := hX'.len
  have hm := hX.1
  have hm' := hX'.1
  unfold maxLen at hm hm'
  have hB0 : Below w.heap.size w ((w.alloc (.cells (insCells op a b c n (.slice A1 args.length C1)) 28)).alloc (.cells (insCells op' a' b' c' n' (.slice A2 args'.length C2)) 28)) := ((Below.refl _ w).alloc (Nat.le_refl _) _).alloc (by simp) _
  have HX := Lib.hid (hX.below hB0 (Nat.le_refl _))
  have HX' := Lib.hid (hX'.below hB0 (Nat.le_refl _))
  have HB := Lib.hid hB0
  clear hX hX' hB0
  by_cases h0 : op = op'
  case neg =>
    have hf : sameV op a b c n args op' a' b' c' n' args' = false := decide_eq_false (fun h => h0 (by exact h.1))
    have e1 : (op != op') = true := by simpa using h0
    have HF := Lib.hid hf
    clear hf h0
    go_enter Try.func19, Try.ntmps19
    go_wp2
    go_ret
    rw [HF.out]
    exact ⟨rfl, HB.out⟩
  subst h0
  by_cases h1 : a = a'
  case neg =>
    have hf : sameV op a b c n args op a' b' c' n' args' = false := decide_eq_false (fun h => h1 (by exact h.2.1))
    have e1 : (a != a') = true := by simpa using h1
    have HF := Lib.hid hf
    clear hf h1
    go_enter Try.func19, Try.ntmps19
    go_wp2
    go_ret
    rw [HF.out]
    exact ⟨rfl, HB.out⟩
  subst h1
  by_cases h2 : b = b'
  case neg =>
    have hf : sameV op a b c n args op a b' c' n' args' = false := decide_eq_false (fun h => h2 (by exact h.2.2.1))
    have e1 : (b != b') = true := by simpa using h2
    have HF := Lib.hid hf
    clear hf h2
    go_enter Try.func19, Try.ntmps19
    go_wp2
    go_ret
    rw [HF.out]
    exact ⟨rfl, HB.out⟩
  subst h2
  by_cases h3 : c = c'
  case neg =>
    have hf : sameV op a b c n args op a b c' n' args' = false := decide_eq_false (fun h => h3 (by exact h.2.2.2.1))
    have e1 : (c != c') = true := by simpa using h3
    have HF := Lib.hid hf
    clear hf h3
    go_enter Try.func19, Try.ntmps19
    go_wp2
    go_ret
    rw [HF.out]
    exact ⟨rfl, HB.out⟩
  subst h3
  by_cases h4 : n = n'
  case neg =>
    have hf : sameV op a b c n args op a b c n' args' = false := decide_eq_false (fun h => h4 (by exact h.2.2.2.2.1))
    have e1 : (n != n') = true := by simpa using h4
    have HF := Lib.hid hf
    clear hf h4
    go_enter Try.func19, Try.ntmps19
    go_wp2
    go_ret
    rw [HF.out]
    exact ⟨rfl, HB.out⟩
  subst h4
  have hf : sameV op a b c n args op a b c n args' = sameL args args' := by simp [sameV, sameL]
  have HF := Lib.hid hf
  clear hf
  by_cases hl : args.length = args'.length
  case neg =>
    have HL := Lib.hid (sameL_len hl)
    obtain ⟨p, hp⟩ : ∃ p, p = args.length := ⟨_, rfl⟩
    obtain ⟨q, hq⟩ : ∃ q, q = args'.length := ⟨_, rfl⟩
    rw [← hp, ← hq] at HB
    rw [← hp, ← hq]
    have e3 : decide (p = q) = false := decide_eq_false (by omega)
    have e1 : ((p : Int) != (q : Int)) = true := by simp; omega
    rw [← hp] at hm
    rw [← hq] at hm'
    clear hp hq hl HX HX'
    go_enter Try.func19, Try.ntmps19
    go_wp2
    go_ret
    rw [HF.out, HL.out]
    exact ⟨rfl, HB.out⟩
  obtain ⟨w2, hw2⟩ : ∃ w2, w2 = ((w.alloc (.cells (insCells op a b c n (.slice A1 args.length C1)) 28)).alloc (.cells (insCells op a b c n (.slice A2 args'.length C2)) 28)) := ⟨_, rfl⟩
  have hr1 : w2.heap[w.heap.size]? = some (.cells (insCells op a b c n (.slice A1 args.length C1)) 28 (0, 0)) := by
    rw [hw2, Below.heap_alloc _ _ _ (by simp)]; exact heap_alloc_new _ _
  have hr2 : w2.heap[w.heap.size + 1]? = some (.cells (insCells op a b c n (.slice A2 args'.length C2)) 28 (0, 0)) := by
    have := heap_alloc_new (w.alloc (.cells (insCells op a b c n (.slice A1 args.length C1)) 28)) (.cells (insCells op a b c n (.slice A2 args'.length C2)) 28)
    rw [World.size_alloc] at this
    rw [hw2]; exact this
  rw [← hw2] at HB HX HX'
  have c5 := (cells6 hr1).2.2.2.2.2
  have d5 := (cells6 hr2).2.2.2.2.2
  have HW := Lib.hid hw2
  clear hr1 hr2 hw2
  by_cases hp : 0 < args.length
  · obtain ⟨b1, o1, c1', e1, r1, _, g1⟩ := HX.out.plain hp
    obtain ⟨b2, o2, c2', e2, r2, _, g2⟩ := HX'.out.plain (by omega)
    cases e1
    cases e2
    have H1 := Lib.hid g1
    rw [← hl] at g2 d5
    have H2 := Lib.hid g2
    rw [← hl] at HW
    rw [← hl]
    obtain ⟨N, hn⟩ : ∃ N, N = args.length := ⟨_, rfl⟩
    have HN1 := Lib.hid hn.symm
    have HN2 := Lib.hid (hl.symm.trans hn.symm)
    rw [← hn] at H1 H2 hm HW c5 d5 ⊢
    clear g1 g2 HX HX' hp hl hn r1 r2 hm'
    go_enter Try.func19, Try.ntmps19
    go_wp2
    rw [← HW.out]
    go_loopw [5] (fun i wr => ∃ k q : Nat, k ≤ N ∧ i = .int .i64 k ∧ wr = w2.drewN q ∧ ∀ t, t < k → args.getD t 0 = args'.getD t 0) (fun i _ => N - (intOf i).toNat)
    case atStart => exact ⟨0, 0, by omega, rfl, rfl, fun t ht => by omega⟩
    case round =>
      obtain ⟨k, q, hk, rfl, rfl, hs⟩ := hrel
      have HS := Lib.hid hs
      clear hs
      by_cases hlt : k < N
      · have g1 := H1.out k hlt
        have g2 := H2.out k hlt
        obtain ⟨x, hx⟩ : ∃ x, x = args.getD k 0 := ⟨_, rfl⟩
        obtain ⟨y, hy⟩ : ∃ y, y = args'.getD k 0 := ⟨_, rfl⟩
        rw [← hx] at g1
        rw [← hy] at g2
        have HXY := Lib.hid (And.intro hx hy)
        clear hx hy
        have k0 : (0 : Int) ≤ (k : Int) := by omega
        have k1 : (k : Int) < (N : Int) := by omega
        by_cases hxy : x = y
        · have e1 : (x == y) = true := by simpa using hxy
          have e2 : (x != y) = false := by simpa using hxy
          have HE := Lib.hid hxy
          clear hxy
          go_wp2
          go_quiet (fail)
          go_wp2
          go_roundw
          case rel => exact ⟨k + 1, _, by omega, by go_num, rfl, fun t ht => by
            by_cases e : t = k
            · subst e
              exact HXY.out.1.symm.trans (HE.out.trans HXY.out.2)
            · exact HS.out t (by omega)⟩
          case measure => simp [intOf]; omega
        · have e1 : (x == y) = false := by simpa using hxy
          have e2 : (x != y) = true := by simpa using hxy
          have HE : Hid (sameL args args' = false) := Lib.hid (sameL_at (k := k) (by rw [← HXY.out.1, ← HXY.out.2]; exact hxy))
          clear hxy
          go_wp2
          go_quiet (fail)
          go_wp2
          go_ret
          rw [HF.out, HE.out]
          exact ⟨rfl, below_drewN (below_drewN HB.out _) _⟩
      · obtain rfl : k = N := by omega
        have HE := Lib.hid (sameL_all HN1.out HN2.out HS.out)
        go_wp2
        go_ret
        rw [HF.out, HE.out]
        exact ⟨rfl, below_drewN HB.out _⟩
  · have h0 : args.length = 0 := by omega
    have h1 : args'.length = 0 := by omega
    have HE := Lib.hid (sameL_all h0 h1 (fun k hk => by omega))
    rw [h0] at c5 HW
    rw [h1] at d5 HW
    rw [h0, h1]
    clear HX HX' hp h0 h1 hl hm hm'
    go_enter Try.func19, Try.ntmps19
    go_wp2
    rw [← HW.out]
    go_loopw [5] (fun i wr => i = .int .i64 0 ∧ wr = w2) (fun i _ => 0)
    case atStart => exact ⟨rfl, rfl⟩
    case round =>
      obtain ⟨rfl, rfl⟩ := hrel
      go_wp2
      go_ret
      rw [HF.out, HE.out]
      exact ⟨rfl, HB.out⟩

end Go.Proofs.Ytbcfdjpnckikdaa
