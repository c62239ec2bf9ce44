/- Instructions and lists of numbers: are two the same; one in memory of its own; a choice (op.Same and the functions that the statements share). Contracts; no condition but what each names. -/
import Derived.Test.YtobbjphpngckgaaFld06
import Derived.Test.YtobbjphpngckgaaMath06
namespace Go.Proofs.Ytobbjphpngckgaa
open Go.RowKit
set_option linter.unusedVariables false
set_option linter.unusedSimpArgs false

def sameL (xs ys : List Int) : Bool := decide (xs = ys)
def Drawn2 (w : World) (v : Value) (e : Ending) (w' : World) : Prop := e = .returned v ∧ ∃ k, w' = w.drewN k
theorem sameL_len {xs ys : List Int} (h : xs.length ≠ ys.length) : sameL xs ys = false := decide_eq_false (fun e => h (by rw [e]))
theorem sameL_at {xs ys : List Int} {k : Nat} (h : xs.getD k 0 ≠ ys.getD k 0) : sameL xs ys = false := decide_eq_false (fun e => h (by rw [e]))
theorem sameL_all {xs ys : List Int} {n : Nat} (h1 : xs.length = n) (h2 : ys.length = n) (h : ∀ k, k < n → xs.getD k 0 = ys.getD k 0) : sameL xs ys = true := by
  refine decide_eq_true (List.ext_getElem (by omega) fun k hk hk' => ?_)
  have := h k (by omega)
  simpa [List.getD, hk, hk'] using this

set_option maxHeartbeats 2000000 in
theorem sameInts_any (X Y : Value) (xs ys : List Int) (w : World) (B C : Nat) (hX : IsNums .i64 w B X xs) (hY : IsNums .i64 w C Y ys) :
    Calls Try.prog 27 #[X, Y] w (Drawn2 w (.bool (sameL xs ys))) := by
  obtain ⟨A1, c1, rfl⟩ := hX.len
  obtain ⟨A2, c2, rfl⟩ := hY.len
  by_cases hl : xs.length = ys.length
  · by_cases hp : 0 < xs.length
    · obtain ⟨b1, o1, c1', e1, r1, _, g1⟩ := hX.plain hp
      obtain ⟨b2, o2, c2', e2, r2, _, g2⟩ := hY.plain (by omega)
      cases e1
      cases e2
      have hm := hX.1
      unfold maxLen at hm
      have H1 := Lib.hid g1
      rw [← hl] at g2
      have H2 := Lib.hid g2
      rw [← hl]
      obtain ⟨n, hn⟩ : ∃ n, n = xs.length := ⟨_, rfl⟩
      have HN1 := Lib.hid hn.symm
      have HN2 := Lib.hid (hl.symm.trans hn.symm)
      rw [← hn] at H1 H2 hm ⊢
      clear g1 g2 hX hY hp hl hn r1 r2
      go_enter Try.func27, Try.ntmps27
      go_wp2
      go_loopw [5] (fun i wr => ∃ k q : Nat, k ≤ n ∧ i = .int .i64 k ∧ wr = w.drewN q ∧ ∀ t, t < k → xs.getD t 0 = ys.getD t 0) (fun i _ => n - (intOf i).toNat)
      case atStart => exact ⟨0, 0, by omega, rfl, rfl, fun t ht => by omega⟩
      case round =>
        obtain ⟨k, q, hk, rfl, rfl, hs⟩ := hrel
        have HS := Lib.hid hs
        clear hs
        by_cases hlt : k < n
        · have g1 := H1.out k hlt
          have g2 := H2.out k hlt
          obtain ⟨x, hx⟩ : ∃ x, x = xs.getD k 0 := ⟨_, rfl⟩
          obtain ⟨y, hy⟩ : ∃ y, y = ys.getD k 0 := ⟨_, rfl⟩
          rw [← hx] at g1
          rw [← hy] at g2
          have HXY := Lib.hid (And.intro hx hy)
          clear hx hy
          have k0 : (0 : Int) ≤ (k : Int) := by omega
          have k1 : (k : Int) < (n : Int) := by omega
          by_cases hxy : x = y
          · have e1 : (x == y) = true := by simpa using hxy
            have e2 : (x != y) = false := by simpa using hxy
            have HE := Lib.hid hxy
            clear hxy
            go_wp2
            go_quiet (fail)
            go_wp2
            go_roundw
            case rel => exact ⟨k + 1, _, by omega, by go_num, rfl, fun t ht => by
              by_cases e : t = k
              · subst e
                exact HXY.out.1.symm.trans (HE.out.trans HXY.out.2)
              · exact HS.out t (by omega)⟩
            case measure => simp [intOf]; omega
          · have e1 : (x == y) = false := by simpa using hxy
            have e2 : (x != y) = true := by simpa using hxy
            have HE : Hid (sameL xs ys = false) := Lib.hid (sameL_at (k := k) (by rw [← HXY.out.1, ← HXY.out.2]; exact hxy))
            clear hxy
            go_wp2
            go_quiet (fail)
            go_wp2
            go_ret
            rw [HE.out]
            exact ⟨rfl, _, World.drewN_drewN _ _ _⟩
        · obtain rfl : k = n := by omega
          have HE := Lib.hid (sameL_all HN1.out HN2.out HS.out)
          go_wp2
          go_ret
          rw [HE.out]
          exact ⟨rfl, q, rfl⟩
    · have h0 : xs.length = 0 := by omega
      have h1 : ys.length = 0 := by omega
      have HE := Lib.hid (sameL_all h0 h1 (fun k hk => by omega))
      rw [h0, h1]
      clear hX hY hp h0 h1 hl
      go_enter Try.func27, Try.ntmps27
      go_wp2
      go_loopw [5] (fun i wr => i = .int .i64 0 ∧ wr = w) (fun i _ => 0)
      case atStart => exact ⟨rfl, rfl⟩
      case round =>
        obtain ⟨rfl, rfl⟩ := hrel
        go_wp2
        go_ret
        rw [HE.out]
        exact ⟨rfl, 0, rfl⟩
  · have HE := Lib.hid (sameL_len hl)
    have hm := hX.1
    have hm2 := hY.1
    unfold maxLen at hm hm2
    generalize xs.length = p at hl hm ⊢
    generalize ys.length = q at hl hm2 ⊢
    have e1 : ((p : Int) != (q : Int)) = true := by simp; omega
    have e2 : ((p : Int) == (q : Int)) = false := by simp; omega
    have e3 : decide (p = q) = false := decide_eq_false hl
    clear hX hY
    go_enter Try.func27, Try.ntmps27
    go_wp2
    go_ret
    rw [HE.out]
    exact ⟨rfl, 0, rfl⟩

set_option maxHeartbeats 2000000 in
theorem equalInts_any (X Y : Value) (xs ys : List Int) (w : World) (B C : Nat) (hX : IsNums .i64 w B X xs) (hY : IsNums .i64 w C Y ys) :
    Calls Try.prog 53 #[X, Y] w (Drawn2 w (.bool (sameL xs ys))) := by
  obtain ⟨A1, c1, rfl⟩ := hX.len
  obtain ⟨A2, c2, rfl⟩ := hY.len
  by_cases hl : xs.length = ys.length
  · by_cases hp : 0 < xs.length
    · obtain ⟨b1, o1, c1', e1, r1, _, g1⟩ := hX.plain hp
      obtain ⟨b2, o2, c2', e2, r2, _, g2⟩ := hY.plain (by omega)
      cases e1
      cases e2
      have hm := hX.1
      unfold maxLen at hm
      have H1 := Lib.hid g1
      rw [← hl] at g2
      have H2 := Lib.hid g2
      rw [← hl]
      obtain ⟨n, hn⟩ : ∃ n, n = xs.length := ⟨_, rfl⟩
      have HN1 := Lib.hid hn.symm
      have HN2 := Lib.hid (hl.symm.trans hn.symm)
      rw [← hn] at H1 H2 hm ⊢
      clear g1 g2 hX hY hp hl hn r1 r2
      go_enter Try.func53, Try.ntmps53
      go_wp2
      go_loopw [13] (fun i wr => ∃ k q : Nat, k ≤ n ∧ i = .int .i64 k ∧ wr = w.drewN q ∧ ∀ t, t < k → xs.getD t 0 = ys.getD t 0) (fun i _ => n - (intOf i).toNat)
      case atStart => exact ⟨0, 0, by omega, rfl, rfl, fun t ht => by omega⟩
      case round =>
        obtain ⟨k, q, hk, rfl, rfl, hs⟩ := hrel
        have HS := Lib.hid hs
        clear hs
        by_cases hlt : k < n
        · have g1 := H1.out k hlt
          have g2 := H2.out k hlt
          obtain ⟨x, hx⟩ : ∃ x, x = xs.getD k 0 := ⟨_, rfl⟩
          obtain ⟨y, hy⟩ : ∃ y, y = ys.getD k 0 := ⟨_, rfl⟩
          rw [← hx] at g1
          rw [← hy] at g2
          have HXY := Lib.hid (And.intro hx hy)
          clear hx hy
          have k0 : (0 : Int) ≤ (k : Int) := by omega
          have k1 : (k : Int) < (n : Int) := by omega
          by_cases hxy : x = y
          · have e1 : (x == y) = true := by simpa using hxy
            have e2 : (x != y) = false := by simpa using hxy
            have HE := Lib.hid hxy
            clear hxy
            go_wp2
            go_quiet (fail)
            go_wp2
            go_roundw
            case rel => exact ⟨k + 1, _, by omega, by go_num, rfl, fun t ht => by
              by_cases e : t = k
              · subst e
                exact HXY.out.1.symm.trans (HE.out.trans HXY.out.2)
              · exact HS.out t (by omega)⟩
            case measure => simp [intOf]; omega
          · have e1 : (x == y) = false := by simpa using hxy
            have e2 : (x != y) = true := by simpa using hxy
            have HE : Hid (sameL xs ys = false) := Lib.hid (sameL_at (k := k) (by rw [← HXY.out.1, ← HXY.out.2]; exact hxy))
            clear hxy
            go_wp2
            go_quiet (fail)
            go_wp2
            go_ret
            rw [HE.out]
            exact ⟨rfl, _, World.drewN_drewN _ _ _⟩
        · obtain rfl : k = n := by omega
          have HE := Lib.hid (sameL_all HN1.out HN2.out HS.out)
          go_wp2
          go_ret
          rw [HE.out]
          exact ⟨rfl, q, rfl⟩
    · have h0 : xs.length = 0 := by omega
      have h1 : ys.length = 0 := by omega
      have HE := Lib.hid (sameL_all h0 h1 (fun k hk => by omega))
      rw [h0, h1]
      clear hX hY hp h0 h1 hl
      go_enter Try.func53, Try.ntmps53
      go_wp2
      go_loopw [13] (fun i wr => i = .int .i64 0 ∧ wr = w) (fun i _ => 0)
      case atStart => exact ⟨rfl, rfl⟩
      case round =>
        obtain ⟨rfl, rfl⟩ := hrel
        go_wp2
        go_ret
        rw [HE.out]
        exact ⟨rfl, 0, rfl⟩
  · have HE := Lib.hid (sameL_len hl)
    have hm := hX.1
    have hm2 := hY.1
    unfold maxLen at hm hm2
    generalize xs.length = p at hl hm ⊢
    generalize ys.length = q at hl hm2 ⊢
    have e1 : ((p : Int) != (q : Int)) = true := by simp; omega
    have e2 : ((p : Int) == (q : Int)) = false := by simp; omega
    have e3 : decide (p = q) = false := decide_eq_false hl
    clear hX hY
    go_enter Try.func53, Try.ntmps53
    go_wp2
    go_ret
    rw [HE.out]
    exact ⟨rfl, 0, rfl⟩

def sameV (op a b c n : Int) (args : List Int) (op' a' b' c' n' : Int) (args' : List Int) : Bool := decide (op = op' ∧ a = a' ∧ b = b' ∧ c = c' ∧ n = n' ∧ args = args')

set_option maxHeartbeats 4000000 in
set_option maxRecDepth 100000 in
theorem same_any (op a b c n : Int) (X : Value) (args : List Int) (op' a' b' c' n' : Int) (X' : Value) (args' : List Int) (w : World) (hX : IsNums .i64 w w.heap.size X args) (hX' : IsNums .i64 w w.heap.size X' args') :
    Calls Try.prog 34 #[.agg (insCells op a b c n X), .agg (insCells op' a' b' c' n' X')] w (Makes w (.bool (sameV op a b c n args op' a' b' c' n' args'))) := by
  have hB0 : Below w.heap.size w ((w.alloc (.cells (insCells op a b c n X) 35)).alloc (.cells (insCells op' a' b' c' n' X') 35)) := ((Below.refl _ w).alloc (Nat.le_refl _) _).alloc (by simp) _
  have HX := Lib.hid (hX.below hB0 (Nat.le_refl _))
  have HX' := Lib.hid (hX'.below hB0 (Nat.le_refl _))
  have HB := Lib.hid hB0
  clear hX hX' hB0
  by_cases h0 : op = op'
  case neg =>
    have hf : sameV op a b c n args op' a' b' c' n' args' = false := decide_eq_false (fun h => h0 (by exact h.1))
    have e1 : (op == op') = false := by simpa using h0
    have HF := Lib.hid hf
    clear hf h0
    go_enter Try.func34, Try.ntmps34
    go_wp2
    go_ret
    rw [HF.out]
    exact ⟨rfl, HB.out⟩
  subst h0
  by_cases h1 : a = a'
  case neg =>
    have hf : sameV op a b c n args op a' b' c' n' args' = false := decide_eq_false (fun h => h1 (by exact h.2.1))
    have e1 : (a == a') = false := by simpa using h1
    have HF := Lib.hid hf
    clear hf h1
    go_enter Try.func34, Try.ntmps34
    go_wp2
    go_ret
    rw [HF.out]
    exact ⟨rfl, HB.out⟩
  subst h1
  by_cases h2 : b = b'
  case neg =>
    have hf : sameV op a b c n args op a b' c' n' args' = false := decide_eq_false (fun h => h2 (by exact h.2.2.1))
    have e1 : (b == b') = false := by simpa using h2
    have HF := Lib.hid hf
    clear hf h2
    go_enter Try.func34, Try.ntmps34
    go_wp2
    go_ret
    rw [HF.out]
    exact ⟨rfl, HB.out⟩
  subst h2
  by_cases h3 : c = c'
  case neg =>
    have hf : sameV op a b c n args op a b c' n' args' = false := decide_eq_false (fun h => h3 (by exact h.2.2.2.1))
    have e1 : (c == c') = false := by simpa using h3
    have HF := Lib.hid hf
    clear hf h3
    go_enter Try.func34, Try.ntmps34
    go_wp2
    go_ret
    rw [HF.out]
    exact ⟨rfl, HB.out⟩
  subst h3
  by_cases h4 : n = n'
  case neg =>
    have hf : sameV op a b c n args op a b c n' args' = false := decide_eq_false (fun h => h4 (by exact h.2.2.2.2.1))
    have e1 : (n == n') = false := by simpa using h4
    have HF := Lib.hid hf
    clear hf h4
    go_enter Try.func34, Try.ntmps34
    go_wp2
    go_ret
    rw [HF.out]
    exact ⟨rfl, HB.out⟩
  subst h4
  have hf : sameV op a b c n args op a b c n args' = sameL args args' := by simp [sameV, sameL]
  have HF := Lib.hid hf
  clear hf
  go_enter Try.func34, Try.ntmps34
  go_wp2_with (go_at_call 53; (with_reducible refine (equalInts_any _ _ _ _ _ _ _ HX.out HX'.out).mono ?_); rintro e w' ⟨rfl, k, rfl⟩)
  go_ret
  rw [HF.out]
  exact ⟨rfl, below_drewN HB.out k⟩

set_option maxHeartbeats 4000000 in
set_option maxRecDepth 100000 in
theorem sameIns_any (op a b c n : Int) (X : Value) (args : List Int) (op' a' b' c' n' : Int) (X' : Value) (args' : List Int) (w : World) (hX : IsNums .i64 w w.heap.size X args) (hX' : IsNums .i64 w w.heap.size X' args') :
    Calls Try.prog 26 #[.agg (insCells op a b c n X), .agg (insCells op' a' b' c' n' X')] w (Makes w (.bool (sameV op a b c n args op' a' b' c' n' args'))) := by
  have hB0 : Below w.heap.size w ((w.alloc (.cells (insCells op a b c n X) 35)).alloc (.cells (insCells op' a' b' c' n' X') 35)) := ((Below.refl _ w).alloc (Nat.le_refl _) _).alloc (by simp) _
  have HX := Lib.hid (hX.below hB0 (Nat.le_refl _))
  have HX' := Lib.hid (hX'.below hB0 (Nat.le_refl _))
  have HB := Lib.hid hB0
  clear hX hX' hB0
  by_cases h0 : op = op'
  case neg =>
    have hf : sameV op a b c n args op' a' b' c' n' args' = false := decide_eq_false (fun h => h0 (by exact h.1))
    have e1 : (op == op') = false := by simpa using h0
    have HF := Lib.hid hf
    clear hf h0
    go_enter Try.func26, Try.ntmps26
    go_wp2
    go_ret
    rw [HF.out]
    exact ⟨rfl, HB.out⟩
  subst h0
  by_cases h1 : a = a'
  case neg =>
    have hf : sameV op a b c n args op a' b' c' n' args' = false := decide_eq_false (fun h => h1 (by exact h.2.1))
    have e1 : (a == a') = false := by simpa using h1
    have HF := Lib.hid hf
    clear hf h1
    go_enter Try.func26, Try.ntmps26
    go_wp2
    go_ret
    rw [HF.out]
    exact ⟨rfl, HB.out⟩
  subst h1
  by_cases h2 : b = b'
  case neg =>
    have hf : sameV op a b c n args op a b' c' n' args' = false := decide_eq_false (fun h => h2 (by exact h.2.2.1))
    have e1 : (b == b') = false := by simpa using h2
    have HF := Lib.hid hf
    clear hf h2
    go_enter Try.func26, Try.ntmps26
    go_wp2
    go_ret
    rw [HF.out]
    exact ⟨rfl, HB.out⟩
  subst h2
  by_cases h3 : c = c'
  case neg =>
    have hf : sameV op a b c n args op a b c' n' args' = false := decide_eq_false (fun h => h3 (by exact h.2.2.2.1))
    have e1 : (c == c') = false := by simpa using h3
    have HF := Lib.hid hf
    clear hf h3
    go_enter Try.func26, Try.ntmps26
    go_wp2
    go_ret
    rw [HF.out]
    exact ⟨rfl, HB.out⟩
  subst h3
  by_cases h4 : n = n'
  case neg =>
    have hf : sameV op a b c n args op a b c n' args' = false := decide_eq_false (fun h => h4 (by exact h.2.2.2.2.1))
    have e1 : (n == n') = false := by simpa using h4
    have HF := Lib.hid hf
    clear hf h4
    go_enter Try.func26, Try.ntmps26
    go_wp2
    go_ret
    rw [HF.out]
    exact ⟨rfl, HB.out⟩
  subst h4
  have hf : sameV op a b c n args op a b c n args' = sameL args args' := by simp [sameV, sameL]
  have HF := Lib.hid hf
  clear hf
  go_enter Try.func26, Try.ntmps26
  go_wp2_with (go_at_call 27; (with_reducible refine (sameInts_any _ _ _ _ _ _ _ HX.out HX'.out).mono ?_); rintro e w' ⟨rfl, k, rfl⟩)
  go_ret
  rw [HF.out]
  exact ⟨rfl, below_drewN HB.out k⟩

def CopyInsDone (w : World) (op a b c n : Int) (args : List Int) (e : Ending) (w' : World) : Prop := ∃ v, e = .returned (.agg (insCells op a b c n v)) ∧ Owns w' w.heap.size 3 1 (IsNum .i64) v args.length (args.map (Value.int .i64)) ∧ Below w.heap.size w w'
theorem ints_one (K : IntKind) (xs : List Int) : ∀ u ∈ xs.map (Value.int K), u.oneCell' = true := by
  intro u hu
  obtain ⟨x, hx, rfl⟩ := List.mem_map.1 hu
  rfl
theorem news_of_nums {w w' : World} {ad : Addr} {xs : List Int} (h : ∀ i, i < xs.length → w.cell? (ad.add i) = some (.int .i64 (xs.getD i 0))) (hc : ∀ i, i < xs.length → w'.cell? (ad.add i) = w.cell? (ad.add i)) :
    ∀ j u, (xs.map (Value.int .i64))[j]? = some u → w'.cell? (ad.add j) = some u := by
  intro j u hj
  have hl : j < xs.length := by
    rcases Nat.lt_or_ge j xs.length with h | h
    · exact h
    · rw [List.getElem?_eq_none (by simpa using h)] at hj
      cases hj
  rw [hc j hl, h j hl]
  simp [List.getElem?_eq_getElem hl] at hj
  subst hj
  simp [List.getD, List.getElem?_eq_getElem hl]
set_option maxHeartbeats 2000000 in
theorem copyIns_none (op a b c n : Int) (w : World) : Calls Try.prog 35 #[.agg (insCells op a b c n (.slice none 0 0))] w (CopyInsDone w op a b c n []) := by
  go_enter Try.func35, Try.ntmps35
  go_wp2
  exact bodyPost_ret (v := .agg (insCells op a b c n (.slice (some ⟨w.heap.size + 2, 0, none⟩) 0 0))) (by simp [results, Try.results35, go_sem]) rfl ⟨_, rfl, (by
    have h := Owns.made ((w.alloc (.cells (insCells op a b c n (.slice (some ⟨w.heap.size + 2, 0, none⟩) 0 0)) 35)).alloc (.cells (insCells op a b c n (.slice (some ⟨w.heap.size + 2, 0, none⟩) 0 0)) 35)) w.heap.size 3 1 (IsNum .i64) (by simp; omega)
    rw [World.size_alloc, World.size_alloc] at h
    exact h), (((Below.refl _ w).alloc (Nat.le_refl _) _).alloc (by simp) _).alloc (by simp; omega) _⟩
theorem owns_slice {w : World} {base : Nat} {e : TypeId} {size : Nat} {v : Value} {n : Nat} {xs : List Value} (h : w.ownsRow base e size v n xs) : ∃ A l cap, v = .slice A l cap := by
  rcases h.2 with ⟨rfl, _⟩ | ⟨g, cap, cur, rfl, _⟩
  · exact ⟨_, _, _, rfl⟩
  · exact ⟨_, _, _, rfl⟩
theorem cells6 {w : World} {b' : Nat} {op a b c n : Int} {X : Value} {T : TypeId} (h : w.heap[b']? = some (.cells (insCells op a b c n X) T (0, 0))) :
    w.cell? ⟨b', 0, none⟩ = some (.int .i64 op) ∧ w.cell? ⟨b', 1, none⟩ = some (.int .i64 a) ∧ w.cell? ⟨b', 2, none⟩ = some (.int .i64 b) ∧ w.cell? ⟨b', 3, none⟩ = some (.int .i64 c) ∧ w.cell? ⟨b', 4, none⟩ = some (.int .i64 n) ∧ w.cell? ⟨b', 5, none⟩ = some X := by
  simp [World.cell?, h]
theorem free6 {w : World} {b' : Nat} {op a b c n : Int} {X : Value} {T : TypeId} (h : w.heap[b']? = some (.cells (insCells op a b c n X) T (0, 0))) (o : Nat) : w.frozen? ⟨b', o, none⟩ = false := by
  exact frozen_of_row w b' o _ _ h
set_option maxHeartbeats 2000000 in
theorem copyIns_some (op a b c n : Int) (ad : Addr) (cap : Nat) (xs : List Int) (w : World) (hm : xs.length ≤ 1000000000) (hc : ∀ i, i < xs.length → w.cell? (ad.add i) = some (.int .i64 (xs.getD i 0))) (hb : 0 < xs.length → ad.block < w.heap.size) :
    Calls Try.prog 35 #[.agg (insCells op a b c n (.slice (some ad) xs.length cap))] w (CopyInsDone w op a b c n xs) := by
  obtain ⟨i0, hi, hz0, hz1, hz2⟩ := info_parts int_info
  have HI := Lib.hid hi
  have HZ0 := Lib.hid hz0
  have HZ1 := Lib.hid hz1
  have HZ2 := Lib.hid hz2
  have hB1 : Below w.heap.size w (((w.alloc (.cells (insCells op a b c n (.slice (some ad) xs.length cap)) 35)).alloc (.cells (insCells 0 0 0 0 0 (.slice none 0 0)) 35)).alloc (.cells #[] 3)) := (((Below.refl _ w).alloc (Nat.le_refl _) _).alloc (by simp) _).alloc (by simp; omega) _
  have news := news_of_nums hc (fun i hi => hB1.cell (p := ad.add i) (by rw [add_block]; exact hb (by omega)))
  have hmade := Owns.made ((w.alloc (.cells (insCells op a b c n (.slice (some ad) xs.length cap)) 35)).alloc (.cells (insCells 0 0 0 0 0 (.slice none 0 0)) 35)) (w.heap.size + 1 + 1) 3 1 (IsNum .i64) (by simp)
  rw [World.size_alloc, World.size_alloc] at hmade
  have hx0 : (((w.alloc (.cells (insCells op a b c n (.slice (some ad) xs.length cap)) 35)).alloc (.cells (insCells 0 0 0 0 0 (.slice none 0 0)) 35)).alloc (.cells #[] 3)).heap[w.heap.size]? = some (.cells (insCells op a b c n (.slice (some ad) xs.length cap)) 35 (0, 0)) := by
    rw [Below.heap_alloc _ _ _ (by simp; omega), Below.heap_alloc _ _ _ (by simp)]
    exact heap_alloc_new _ _
  have hx1 : (((w.alloc (.cells (insCells op a b c n (.slice (some ad) xs.length cap)) 35)).alloc (.cells (insCells 0 0 0 0 0 (.slice none 0 0)) 35)).alloc (.cells #[] 3)).heap[w.heap.size + 1]? = some (.cells (insCells 0 0 0 0 0 (.slice none 0 0)) 35 (0, 0)) := by
    rw [Below.heap_alloc _ _ _ (by simp)]
    have := heap_alloc_new (w.alloc (.cells (insCells op a b c n (.slice (some ad) xs.length cap)) 35)) (.cells (insCells 0 0 0 0 0 (.slice none 0 0)) 35)
    rwa [World.size_alloc] at this
  have HB1 := Lib.hid hB1
  have HN := Lib.hid news
  have HM := Lib.hid hmade
  have HK := Lib.hid (num_cells .i64 xs)
  have HX0 := Lib.hid hx0
  have HX1 := Lib.hid hx1
  clear hi hz0 hz1 hz2 news hmade hc hb hB1 hx0 hx1
  go_enter Try.func35, Try.ntmps35
  go_wp2_with (at_builtin; refine wpList_append_q _ rfl (.tmp 3) (.tmp 5) 33 rfl (w.heap.size + 1 + 1) 3 i0 _ 1 8 Try.underlying33 HI.out HZ0.out HZ1.out HZ2.out rfl (by decide) (IsNum .i64) (zero_num .i64) _ 0 [] rfl HM.out ad xs.length cap (xs.map (Value.int .i64)) rfl (by simp) HN.out (ints_one .i64 xs) HK.out (by simp only [maxLen]; omega) (by omega) (by simp) ?_; intro v' w2 hown' hgrow; have hgrow' : World.grownBy _ w2 (some (w.heap.size + 1 + 1)) := hgrow; clear hgrow; have hgrow := hgrow'; clear hgrow'; obtain ⟨A', l', cap', rfl⟩ := owns_slice hown'.1; have HO := Lib.hid hown'; have HG := Lib.hid hgrow; clear hown' hgrow; have hb0 := (HG.out.block w.heap.size (by simp; omega) (by simp; omega)).trans HX0.out; have hb1 := (HG.out.block (w.heap.size + 1) (by simp) (by simp)).trans HX1.out; have HY0 := Lib.hid hb0; have HY1 := Lib.hid hb1; obtain ⟨c0, c1, c2, c3, c4, c5⟩ := cells6 hb0; obtain ⟨d0, d1, d2, d3, d4, d5⟩ := cells6 hb1; have f5 := free6 hb0 5; have g0 := free6 hb1 0; have g1 := free6 hb1 1; have g2 := free6 hb1 2; have g3 := free6 hb1 3; have g4 := free6 hb1 4; have g5 := free6 hb1 5; clear hb0 hb1)
  have hbut := ((((((((But.refl (fun k => k = w.heap.size ∨ k = w.heap.size + 1) w2).setCell (p := ⟨w.heap.size, 5, none⟩) (.inl (.inl rfl)) (.slice A' l' cap')).setCell (p := ⟨w.heap.size + 1, 0, none⟩) (.inl (.inr rfl)) (.int .i64 op)).setCell (p := ⟨w.heap.size + 1, 1, none⟩) (.inl (.inr rfl)) (.int .i64 a)).setCell (p := ⟨w.heap.size + 1, 2, none⟩) (.inl (.inr rfl)) (.int .i64 b)).setCell (p := ⟨w.heap.size + 1, 3, none⟩) (.inl (.inr rfl)) (.int .i64 c)).setCell (p := ⟨w.heap.size + 1, 4, none⟩) (.inl (.inr rfl)) (.int .i64 n)).setCell (p := ⟨w.heap.size + 1, 5, none⟩) (.inl (.inr rfl)) (.slice A' l' cap'))
  have hbel : Below w.heap.size w w2 := HB1.out.grown HG.out (by simp; omega) (fun g hg => by cases hg; omega)
  refine bodyPost_ret (v := .agg (insCells op a b c n (.slice A' l' cap'))) (by simp [results, Try.results35, go_sem, d0, d1, d2, d3, d4, d5]) rfl ⟨_, rfl, ?_, But.below hbel hbut (by have := hbel.size; omega) (fun k hk => by omega)⟩
  have h := (HO.out.base (base' := w.heap.size) (by omega)).but hbut (fun g hg hk => by have := (HO.out.lt hg).1; omega)
  simpa using h
theorem copyIns_any (op a b c n : Int) (X : Value) (xs : List Int) (w : World) (hX : IsNums .i64 w w.heap.size X xs) (hm : xs.length ≤ 1000000000) : Calls Try.prog 35 #[.agg (insCells op a b c n X)] w (CopyInsDone w op a b c n xs) := by
  rcases hX.2 with ⟨rfl, rfl⟩ | ⟨ad, cap, rfl, h1, h2, h3⟩
  · exact copyIns_none op a b c n w
  · exact copyIns_some op a b c n ad cap xs w hm h3 h2

end Go.Proofs.Ytobbjphpngckgaa
