import Derived.Test.YtkfdgpgildanbaaGreatCopy15
import Derived.ChangeKeysEq
import Derived.BigQuiet
import Derived.Deep.QuietTactic
namespace Go.Proofs.YtkfdgpgildanbaaGreat
open Go.RowKit Go.Shelf
set_option linter.unusedVariables false
set_option linter.unusedSimpArgs false
def lkT (L : List LinkV) : List (Int × Int × Int × Int) := L.map (fun l => ((l.f : Int), l.at_, l.back, l.res))
theorem lkT_len (L : List LinkV) : (lkT L).length = L.length := by simp [lkT]
theorem cellsL_at (K : IntKind) : ∀ (L : List LinkV) (i : Nat), i < L.length → (cellsL K L)[i * 4]? = some (.int .i64 ((lkT L).getD i (0, 0, 0, 0)).1) ∧ (cellsL K L)[i * 4 + 1]? = some (.int K ((lkT L).getD i (0, 0, 0, 0)).2.1) ∧ (cellsL K L)[i * 4 + 2]? = some (.int .i64 ((lkT L).getD i (0, 0, 0, 0)).2.2.1) ∧ (cellsL K L)[i * 4 + 3]? = some (.int .i64 ((lkT L).getD i (0, 0, 0, 0)).2.2.2)
  | [], i, h => by simp at h
  | x :: L, 0, h => by simp [cellsL, linkC, lkT]
  | x :: L, i + 1, h => by
    have hi : i < L.length := by simpa using h
    have ih := cellsL_at K L i hi
    have e : cellsL K (x :: L) = linkC K x ++ cellsL K L := by simp [cellsL]
    have el : (linkC K x).length = 4 := rfl
    have e2 : ∀ j, (cellsL K (x :: L))[(i + 1) * 4 + j]? = (cellsL K L)[i * 4 + j]? := fun j => by
      rw [e, List.getElem?_append_right (by rw [el]; omega), el]
      congr 1
      omega
    have e3 : (lkT (x :: L)).getD (i + 1) (0, 0, 0, 0) = (lkT L).getD i (0, 0, 0, 0) := by simp [lkT]
    rw [e3]
    exact ⟨(e2 0).trans ih.1, (e2 1).trans ih.2.1, (e2 2).trans ih.2.2.1, (e2 3).trans ih.2.2.2⟩
theorem takeX_step {α : Type} {L M : List α} {d : α} {k : Nat} (h : L.take k = M.take k) (hx : k < L.length) (hy : k < M.length) (he : L.getD k d = M.getD k d) : L.take (k + 1) = M.take (k + 1) := by
  rw [List.take_add_one, List.take_add_one, h, List.getElem?_eq_getElem hx, List.getElem?_eq_getElem hy]
  simp only [List.getD, List.getElem?_eq_getElem hx, List.getElem?_eq_getElem hy, Option.getD_some] at he
  rw [he]
theorem eqL4 (w : World) (a0 a1 a2 a3 b0 b1 b2 b3 : Int) : (Op.equalIn 10000 136 (.agg #[.int .i64 a0, .int .i64 a1, .int .i64 a2, .int .i64 a3]) (.agg #[.int .i64 b0, .int .i64 b1, .int .i64 b2, .int .i64 b3])).run Tryz.prog w = .ok (a0 == b0 && (a1 == b1 && (a2 == b2 && a3 == b3))) w := by
  have hc : Tryz.prog.cellsOf 3 = 1 := by kernel_rfl
  have hs : (Tryz.prog.info? 3).isSome = true := by kernel_rfl
  obtain ⟨i, hi⟩ := Option.isSome_iff_exists.1 hs
  rw [run_equalIn_array w 9999 _ _ Tryz.underlying136 hi, hc]
  have he : ∀ (a b : Int), (Op.equalIn 9999 3 (.int .i64 a) (.int .i64 b)).run Tryz.prog w = .ok (a == b) w := fun a b => run_equalIn_int w 9998 3 .i64 .i64 a b Tryz.underlying3
  have hr : List.range 4 = [0, 1, 2, 3] := rfl
  rw [hr]
  by_cases h0 : a0 = b0
  · by_cases h1 : a1 = b1
    · by_cases h2 : a2 = b2
      · by_cases h3 : a3 = b3 <;> simp [Op.eqItems, part, isAgg, run_underlying Tryz.underlying3, he, h0, h1, h2, h3]
      · simp [Op.eqItems, part, isAgg, run_underlying Tryz.underlying3, he, h0, h1, h2]
    · simp [Op.eqItems, part, isAgg, run_underlying Tryz.underlying3, he, h0, h1]
  · simp [Op.eqItems, part, isAgg, run_underlying Tryz.underlying3, he, h0]
theorem neqL4_same (w : World) (a0 a1 a2 a3 : Int) : (binOp .neq 136 (.agg #[.int .i64 a0, .int .i64 a1, .int .i64 a2, .int .i64 a3]) (.agg #[.int .i64 a0, .int .i64 a1, .int .i64 a2, .int .i64 a3])).run Tryz.prog w = .ok (.bool false) w := by
  rw [run_neq_struct, eqL4]
  simp
theorem neqL4_diff (w : World) (a b : Int × Int × Int × Int) (h : a ≠ b) : (binOp .neq 136 (.agg #[.int .i64 a.1, .int .i64 a.2.1, .int .i64 a.2.2.1, .int .i64 a.2.2.2]) (.agg #[.int .i64 b.1, .int .i64 b.2.1, .int .i64 b.2.2.1, .int .i64 b.2.2.2])).run Tryz.prog w = .ok (.bool true) w := by
  rw [run_neq_struct, eqL4]
  have : (a.1 == b.1 && (a.2.1 == b.2.1 && (a.2.2.1 == b.2.2.1 && a.2.2.2 == b.2.2.2))) = false := by
    rw [Bool.eq_false_iff]
    intro c
    simp at c
    obtain ⟨a0, a1, a2, a3⟩ := a
    obtain ⟨b0, b1, b2, b3⟩ := b
    simp at c
    obtain ⟨rfl, rfl, rfl, rfl⟩ := c
    exact h rfl
  rw [this]
  rfl
section
variable {w : World} {L M : List LinkV}
theorem equalL_len (A1 A2 : Option Addr) (c1 c2 : Nat) (w : World) (hne : L.length ≠ M.length) :
    Calls Tryz.prog 75 #[.slice A1 L.length c1, .slice A2 M.length c2] w fun e w' => e = .returned (.bool false) ∧ w = w' := by
  have hne' : ((L.length : Int) != (M.length : Int)) = true := by simpa using (by omega : ¬ (L.length : Int) = M.length)
  have hne2 : ((L.length : Int) == (M.length : Int)) = false := by simpa using (by omega : ¬ (L.length : Int) = M.length)
  clear hne
  go_enter Tryz.func75, Tryz.ntmps75
  go_wp2
  go_ret
  exact ⟨rfl, rfl⟩
set_option maxRecDepth 100000 in
set_option maxHeartbeats 4000000 in
theorem equalL_same (b1 o1 c1 b2 o2 c2 n : Nat) (L M : List (Int × Int × Int × Int)) (w : World) (hn : n ≤ 9223372036854775807) (hx : L.length = n) (hy : M.length = n)
    (h1 : ∀ i, i < n → w.cell? ⟨b1, o1 + i * 4, none⟩ = some (.int .i64 (L.getD i (0, 0, 0, 0)).1) ∧ w.cell? ⟨b1, o1 + i * 4 + 1, none⟩ = some (.int .i64 (L.getD i (0, 0, 0, 0)).2.1) ∧ w.cell? ⟨b1, o1 + i * 4 + 2, none⟩ = some (.int .i64 (L.getD i (0, 0, 0, 0)).2.2.1) ∧ w.cell? ⟨b1, o1 + i * 4 + 3, none⟩ = some (.int .i64 (L.getD i (0, 0, 0, 0)).2.2.2))
    (h2 : ∀ i, i < n → w.cell? ⟨b2, o2 + i * 4, none⟩ = some (.int .i64 (M.getD i (0, 0, 0, 0)).1) ∧ w.cell? ⟨b2, o2 + i * 4 + 1, none⟩ = some (.int .i64 (M.getD i (0, 0, 0, 0)).2.1) ∧ w.cell? ⟨b2, o2 + i * 4 + 2, none⟩ = some (.int .i64 (M.getD i (0, 0, 0, 0)).2.2.1) ∧ w.cell? ⟨b2, o2 + i * 4 + 3, none⟩ = some (.int .i64 (M.getD i (0, 0, 0, 0)).2.2.2)) (r1 : n ≤ c1) (r2 : n ≤ c2) :
    Calls Tryz.prog 75 #[.slice (some ⟨b1, o1, none⟩) n c1, .slice (some ⟨b2, o2, none⟩) n c2] w (Drew14 w (.bool (decide (L = M)))) := by
  have H1 := Lib.hid h1
  have H2 := Lib.hid h2
  have HX := Lib.hid hx
  have HY := Lib.hid hy
  clear h1 h2 hx hy
  go_enter Tryz.func75, Tryz.ntmps75
  go_wp2
  go_loopw [13] (fun i wr => ∃ k q : Nat, k ≤ n ∧ i = .int .i64 k ∧ wr = w.drewN q ∧ L.take k = M.take k) (fun i _ => n - (intOf i).toNat)
  case atStart => exact ⟨0, 0, by omega, rfl, rfl, rfl⟩
  case round =>
    obtain ⟨k, q, hk, rfl, rfl, ht⟩ := hrel
    have HT := Lib.hid ht
    clear ht
    by_cases hlt : k < n
    · obtain ⟨g1, g2, g3, g4⟩ := H1.out k hlt
      obtain ⟨k1, k2, k3, k4⟩ := H2.out k hlt
      obtain ⟨a, hx⟩ : ∃ x, x = L.getD k (0, 0, 0, 0) := ⟨_, rfl⟩
      obtain ⟨b, hy⟩ : ∃ y, y = M.getD k (0, 0, 0, 0) := ⟨_, rfl⟩
      rw [← hx] at g1 g2 g3 g4
      rw [← hy] at k1 k2 k3 k4
      have GX := Lib.hid hx
      have GY := Lib.hid hy
      clear hx hy
      have i0 : (0 : Int) ≤ (k : Int) := by omega
      have i1 : (k : Int) < (n : Int) := by omega
      by_cases he : a = b
      · subst he
        have hs := Lib.hid (takeX_step HT.out (by rw [HX.out]; exact hlt) (by rw [HY.out]; exact hlt) (GX.out.symm.trans GY.out))
        have hq := fun w => neqL4_same w a.1 a.2.1 a.2.2.1 a.2.2.2
        go_wp2
        go_quiet (fail)
        go_wp2
        go_roundw
        case rel => exact ⟨k + 1, _, by omega, by go_num, rfl, hs.out⟩
        case measure => simp [intOf]; omega
      · have hs := Lib.hid (show ¬ L = M from fun e => he (by rw [GX.out, GY.out, e]))
        have hq := fun w => neqL4_diff w a b he
        clear he
        go_wp2
        go_quiet (fail)
        go_wp2
        go_ret
        rw [decide_eq_false hs.out]
        exact ⟨rfl, _, World.drewN_drewN _ _ _⟩
    · obtain rfl : k = n := by omega
      go_wp2
      go_ret
      have e : L = M := by
        have := HT.out
        rw [List.take_of_length_le (by rw [HX.out]; exact Nat.le_refl _), List.take_of_length_le (by rw [HY.out]; exact Nat.le_refl _)] at this
        exact this
      rw [decide_eq_true e]
      exact ⟨rfl, q, rfl⟩
set_option maxRecDepth 100000 in
theorem equalL_none (A B : Option Addr) (c d : Nat) (w : World) : Calls Tryz.prog 75 #[.slice A 0 c, .slice B 0 d] w fun e w' => e = .returned (.bool true) ∧ w = w' := by
  go_enter Tryz.func75, Tryz.ntmps75
  go_wp2
  go_loopw [13] (fun i wr => i = .int .i64 0 ∧ wr = w) (fun _ _ => 0)
  case atStart => exact ⟨rfl, rfl⟩
  case round =>
    obtain ⟨rfl, rfl⟩ := hrel
    go_wp2
    go_ret
    exact ⟨rfl, rfl⟩
set_option maxRecDepth 100000 in
theorem equalE_none15 (A B : Option Addr) (c d : Nat) (w : World) : Calls Tryz.prog 78 #[.slice A 0 c, .slice B 0 d] w fun e w' => e = .returned (.bool true) ∧ w = w' := by
  go_enter Tryz.func78, Tryz.ntmps78
  go_wp2
  go_loopw [13] (fun i wr => i = .int .i64 0 ∧ wr = w) (fun _ _ => 0)
  case atStart => exact ⟨rfl, rfl⟩
  case round =>
    obtain ⟨rfl, rfl⟩ := hrel
    go_wp2
    go_ret
    exact ⟨rfl, rfl⟩
theorem RowIn.len {w : World} {X : Value} {n : Nat} {xs : List Value} (h : RowIn w X n xs) : ∃ a cap, X = .slice a n cap := by
  rcases h.2 with ⟨rfl, _, a, cap, h⟩ | ⟨b, off, cap, h, _⟩
  · exact ⟨a, cap, h⟩
  · exact ⟨_, cap, h⟩
theorem equalL_any (X Y : Value) (L M : List LinkV) (w : World) (hX : RowIn w X L.length (cellsL .i64 L)) (hY : RowIn w Y M.length (cellsL .i64 M)) :
    Calls Tryz.prog 75 #[X, Y] w (Drew14 w (.bool (decide (lkT L = lkT M)))) := by
  by_cases he : L.length = M.length
  · by_cases hp : 0 < L.length
    · rcases hX.2 with ⟨h0, _⟩ | ⟨b1, o1, c1, rfl, r1, _, g1⟩
      · omega
      rcases hY.2 with ⟨h0, _⟩ | ⟨b2, o2, c2, rfl, r2, _, g2⟩
      · omega
      have hm := hX.1
      unfold maxLen at hm
      rw [← he] at r2 ⊢
      refine equalL_same b1 o1 c1 b2 o2 c2 L.length (lkT L) (lkT M) w (by omega) (lkT_len L) (by rw [lkT_len, he]) (fun i hi => ?_) (fun i hi => ?_) r1 r2
      · obtain ⟨e1, e2, e3, e4⟩ := cellsL_at .i64 L i hi
        exact ⟨g1 _ _ e1, g1 _ _ e2, g1 _ _ e3, g1 _ _ e4⟩
      · obtain ⟨e1, e2, e3, e4⟩ := cellsL_at .i64 M i (by omega)
        exact ⟨g2 _ _ e1, g2 _ _ e2, g2 _ _ e3, g2 _ _ e4⟩
    · obtain ⟨A1, c1, rfl⟩ := hX.len
      obtain ⟨A2, c2, rfl⟩ := hY.len
      obtain rfl : L = [] := List.eq_nil_of_length_eq_zero (by omega)
      obtain rfl : M = [] := List.eq_nil_of_length_eq_zero (by omega)
      exact drewSame14 (equalL_none A1 A2 c1 c2 w)
  · obtain ⟨A1, c1, rfl⟩ := hX.len
    obtain ⟨A2, c2, rfl⟩ := hY.len
    rw [decide_eq_false (fun e => he (by have := congrArg List.length e; rwa [lkT_len, lkT_len] at this))]
    exact drewSame14 (equalL_len A1 A2 c1 c2 w he)
theorem equalE15 (X Y : Value) (xs ys : List Int) (w : World) (B C : Nat) (hX : IsBytes w B X xs) (hY : IsBytes w C Y ys) :
    Calls Tryz.prog 78 #[X, Y] w (Drew w (.bool (xs == ys))) := by
  by_cases hp : 0 < xs.length
  · exact equal_any X Y xs ys w B C hX hY hp
  · by_cases he : xs.length = ys.length
    · obtain ⟨A1, c1, rfl⟩ := hX.len
      obtain ⟨A2, c2, rfl⟩ := hY.len
      obtain rfl : xs = [] := List.eq_nil_of_length_eq_zero (by omega)
      obtain rfl : ys = [] := List.eq_nil_of_length_eq_zero (by simpa using he.symm)
      exact (equalE_none15 A1 A2 c1 c2 w).mono fun e w' ⟨h1, h2⟩ => by subst h2; exact ⟨h1, 0, rfl⟩
    · exact (equal_len X Y xs ys w B C hX hY he).mono fun e w' ⟨h1, h2⟩ => by subst h2; exact ⟨h1, 0, rfl⟩
end
theorem slice_from15 (g off n cap j o' : Nat) (hj : j ≤ n) (hc : n ≤ cap) (ho : o' = if cap = j then off else off + j) : ∀ W, (Instr.slice 22 (.slice (some ⟨g, off, none⟩) n cap) (some (.int .i64 j)) none none).run Tryz.prog W = .ok (.slice (some ⟨g, o', none⟩) (n - j) (cap - j)) W := by
  intro W
  by_cases h2 : cap = j
  · subst h2
    obtain rfl : n = cap := by omega
    rw [if_pos rfl] at ho
    subst ho
    by_cases h0 : n = 0
    · subst h0
      simp [go_sem, Tryz.underlying22, Tryz.sizeOf5]
    · simp [go_sem, Tryz.underlying22, Tryz.sizeOf5, h0]
  · rw [if_neg h2] at ho
    subst ho
    have h3 : j ≤ cap := by omega
    have h4 : ¬ cap - j = 0 := by omega
    have h5 : ¬ (cap : Int) = (j : Int) := by omega
    have h6 : (j : Int) ≤ (n : Int) := by omega
    have h7 : (j : Int) ≤ (cap : Int) := by omega
    have h8 : (n : Int) ≤ (cap : Int) := by omega
    simp [go_sem, Tryz.underlying22, Tryz.sizeOf5, h2, h3, h4, h5, h6, h7, h8, hj, hc]
theorem slice_nil15 : ∀ W, (Instr.slice 22 (.slice none 0 0) (some (.int .i64 ((0 : Nat) : Int))) none none).run Tryz.prog W = .ok (.slice none 0 0) W := fun W => by simp [go_sem, Tryz.underlying22, Tryz.sizeOf5]
theorem slice_rest15 {W : World} {X : Value} {xs : List Int} (h : OwnB 0 W X xs) (j : Nat) (hj : j ≤ xs.length) : ∃ V, (∀ W, (Instr.slice 22 X (some (.int .i64 (j : Int))) none none).run Tryz.prog W = .ok V W) ∧ IsBytes W W.heap.size V (xs.drop j) ∧ ∃ a c, V = .slice a (xs.length - j) c := by
  have hb := h.bytes
  have hbd : ∀ x ∈ xs.drop j, 0 ≤ x ∧ x < 256 := fun x hx => hb.1 x (List.mem_of_mem_drop hx)
  rcases h.2.2 with ⟨rfl, h0⟩ | ⟨g, off, cap, cur, rfl, h2, h3, h4, h5⟩
  · subst h0
    obtain rfl : j = 0 := by simpa using hj
    exact ⟨_, slice_nil15, hb, none, 0, rfl⟩
  · have hl : (xs.drop j).length = xs.length - j := by simp
    refine ⟨_, fun W => slice_from15 g off xs.length cap j _ hj h2 rfl W, ⟨hbd, by have := hb.2.1; rw [hl]; omega, .inr ⟨⟨g, if cap = j then off else off + j, none⟩, cap - j, by rw [hl], by rw [hl]; omega, fun _ => heap_lt h4, fun i hi => ?_⟩⟩, _, _, rfl⟩
    rw [hl] at hi
    have hcj : ¬ cap = j := by omega
    rw [if_neg hcj]
    have e : (⟨g, off + j, none⟩ : Addr).add i = ⟨g, off + j + i, none⟩ := by unfold Addr.add; split <;> simp_all
    rw [e, cell_of_row _ _ _ _ _ _ h4, Nat.add_assoc, h5 (j + i) (by omega)]
    simp [List.getD, List.getElem?_drop]
def RestDone (W : World) (xs : List Int) (e : Ending) (W' : World) : Prop := ∃ V, e = .returned V ∧ IsBytes W W.heap.size V xs ∧ ∃ q, W' = W.drewN q
set_option maxRecDepth 100000 in
set_option maxHeartbeats 4000000 in
theorem rest15 {W : World} {sb : Nat} {p : Loc} {S : SpV} (h : LaidAt W sb p S) : Calls Tryz.prog 79 #[.pointer (some ⟨sb, 0, none⟩)] W (RestDone W S.left) := by
  obtain ⟨q, hq⟩ := h.pre
  have hlen : S.inp.length = q.length + S.left.length := by rw [hq]; simp
  obtain ⟨V, hs, hV, va, vc, hve⟩ := slice_rest15 h.inp q.length (by omega)
  rw [show S.inp.drop q.length = S.left by rw [hq]; simp] at hV
  obtain ⟨IA, ic, hIe⟩ := h.inp.len
  have HL := Lib.hid (fun n => left14 (h.tape.grow (below_drewN (Below.refl _ W) n)))
  obtain ⟨⟨d0, d1, d2, d3, d4, d5⟩, ⟨d6, d7, d8, d9, d10, d11⟩, d12, d13, d14, d15, d16, d17⟩ := cells18 (show W.heap[sb]? = some (.cells #[_, _, _, _, _, _, _, _, _, _, _, _, _, _, _, _, _, _] 80 (0, 0)) from h.box)
  rw [hIe] at d7 hs
  have HV := Lib.hid hV
  have hb := h.inp.1
  obtain ⟨j, hj⟩ : ∃ j, j = q.length := ⟨_, rfl⟩
  obtain ⟨n, hn⟩ : ∃ n, n = S.inp.length := ⟨_, rfl⟩
  obtain ⟨k, hk⟩ : ∃ k, k = S.left.length := ⟨_, rfl⟩
  rw [← hj] at hs
  rw [← hn] at hs d7 hve
  rw [← hk] at HL
  have hw : IntKind.i64.wrap ((n : Int) - (k : Int)) = (j : Int) := by rw [IntWalk.i64_in _ (by omega)]; omega
  clear h hq hlen hV hIe hb hj hn hk d0 d1 d2 d3 d4 d5 d6 d8 d9 d11 d12 d13 d14 d15 d16 d17
  subst hve
  go_enter Tryz.func79, Tryz.ntmps79
  go_wp2
  go_quiet ((go_at_call 142; with_reducible exact quiet_left (HL.out _)))
  go_wp2
  go_ret
  exact ⟨_, rfl, HV.out, _, rfl⟩
end Go.Proofs.YtkfdgpgildanbaaGreat
