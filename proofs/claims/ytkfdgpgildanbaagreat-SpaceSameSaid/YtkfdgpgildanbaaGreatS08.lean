import Derived.Test.YtkfdgpgildanbaaGreatS07
import Derived.Defers
import Derived.Test.YtkfdgpgildanbaaGreatS05
namespace Go.Proofs.YtkfdgpgildanbaaGreat
open Go.RowKit Go.Shelf
set_option linter.unusedVariables false
set_option linter.unusedSimpArgs false
section
variable {w W : World} {b : List Int} {X : Value} {p : Nat} {op a b' c n : Int} {V : Value} {z k : Int}
end
end Go.Proofs.YtkfdgpgildanbaaGreat
namespace Go.Proofs.YtkfdgpgildanbaaGreat
open Go.RowKit Go.Shelf
set_option linter.unusedVariables false
set_option linter.unusedSimpArgs false
structure InsB (y : InsV) : Prop where
  op : InI y.op
  a : InI y.a
  b : InI y.b
  c : InI y.c
  n : InI y.n
def insCell (y : InsV) (X : Value) : Nat → Value
  | 0 => .int .i64 y.op
  | 1 => .int .i64 y.a
  | 2 => .int .i64 y.b
  | 3 => .int .i64 y.c
  | 4 => .int .i64 y.n
  | _ => X
def IsCode (w : World) (B : Nat) (V : Value) (l : List InsV) : Prop :=
  l.length ≤ maxLen ∧ (∀ y ∈ l, InsB y) ∧ ((l = [] ∧ ∃ a cap, V = .slice a 0 cap) ∨
    ∃ b off cap, V = .slice (some ⟨b, off, none⟩) l.length cap ∧ l.length ≤ cap ∧ b < B ∧ ∀ i, i < l.length → ∃ X, IsNums .i64 w B X (l.getD i .zero).args ∧ ∀ j, j < 6 → w.cell? ⟨b, off + i * 6 + j, none⟩ = some (insCell (l.getD i .zero) X j))
section
variable {w w' : World} {B B' : Nat} {V : Value} {l : List InsV}
theorem IsCode.len (h : IsCode w B V l) : ∃ a cap, V = .slice a l.length cap := by
  rcases h.2.2 with ⟨rfl, a, cap, h⟩ | ⟨b, off, cap, h, _⟩
  · exact ⟨a, cap, h⟩
  · exact ⟨_, cap, h⟩
theorem IsCode.but {R : Nat → Prop} (h : IsCode w B V l) (hb : But R w w') (hB : B ≤ w.heap.size) (hr : ∀ k, k < B → ¬ R k) : IsCode w' B V l := by
  refine ⟨h.1, h.2.1, ?_⟩
  rcases h.2.2 with h0 | ⟨b, off, cap, h1, h2, h3, h4⟩
  · exact .inl h0
  · refine .inr ⟨b, off, cap, h1, h2, h3, fun i hi => ?_⟩
    obtain ⟨X, hX, hc⟩ := h4 i hi
    refine ⟨X, hX.but hb hB hr, fun j hj => ?_⟩
    rw [hb.cell (p := ⟨b, off + i * 6 + j, none⟩) (show b < _ by omega) (hr b h3)]
    exact hc j hj
theorem IsCode.below (h : IsCode w B V l) (hb : Below B' w w') (hB : B ≤ B') (hs : B ≤ w.heap.size) : IsCode w' B V l :=
  h.but (R := fun k => B ≤ k) ⟨hb.os, hb.tape, hb.output, hb.size, fun k hk hn => hb.block k (by omega)⟩ hs (fun k hk hn => by omega)
theorem IsCode.more (h : IsCode w B V l) (hB : B ≤ B') : IsCode w B' V l := by
  refine ⟨h.1, h.2.1, ?_⟩
  rcases h.2.2 with h0 | ⟨b, off, cap, h1, h2, h3, h4⟩
  · exact .inl h0
  · exact .inr ⟨b, off, cap, h1, h2, by omega, fun i hi => by
      obtain ⟨X, hX, hc⟩ := h4 i hi
      exact ⟨X, hX.more hB, hc⟩⟩
theorem IsCode.plain (h : IsCode w B V l) (hn : 0 < l.length) : ∃ b off cap, V = .slice (some ⟨b, off, none⟩) l.length cap ∧ l.length ≤ cap ∧ b < B ∧ ∀ i, i < l.length → ∃ X, IsNums .i64 w B X (l.getD i .zero).args ∧ ∀ j, j < 6 → w.cell? ⟨b, off + i * 6 + j, none⟩ = some (insCell (l.getD i .zero) X j) := by
  rcases h.2.2 with ⟨rfl, _⟩ | h0
  · simp at hn
  · exact h0
theorem code_getD (h : IsCode w B V l) {i : Nat} (hi : i < l.length) : InsB (l.getD i .zero) := by
  have e : l.getD i .zero = l[i] := by simp [List.getD, List.getElem?_eq_getElem hi]
  rw [e]
  exact h.2.1 _ (List.getElem_mem hi)
end
theorem code_take (l : List InsV) {i : Nat} (hi : i < l.length) : l.take (i + 1) = l.take i ++ [l.getD i .zero] := by
  rw [List.take_add_one, List.getElem?_eq_getElem hi]
  simp [List.getD, List.getElem?_eq_getElem hi]
def insList (y : InsV) (X : Value) : List Value := [.int .i64 y.op, .int .i64 y.a, .int .i64 y.b, .int .i64 y.c, .int .i64 y.n, X]
def cellsC : List InsV → List Value → List Value
  | y :: l, X :: Xs => insList y X ++ cellsC l Xs
  | _, _ => []
theorem cellsC_length : ∀ (l : List InsV) (Xs : List Value), Xs.length = l.length → (cellsC l Xs).length = l.length * 6
  | [], [], _ => rfl
  | y :: l, X :: Xs, h => by
    simp only [cellsC, List.length_append, cellsC_length l Xs (by simpa using h), insList, List.length_cons, List.length_nil]
    omega
theorem insList_at (y : InsV) (X : Value) {j : Nat} (hj : j < 6) : (insList y X)[j]? = some (insCell y X j) := by
  rcases (show j = 0 ∨ j = 1 ∨ j = 2 ∨ j = 3 ∨ j = 4 ∨ j = 5 by omega) with rfl | rfl | rfl | rfl | rfl | rfl <;> rfl
theorem cellsC_at : ∀ (l : List InsV) (Xs : List Value) {i j : Nat}, Xs.length = l.length → i < l.length → j < 6 → (cellsC l Xs)[i * 6 + j]? = some (insCell (l.getD i .zero) (Xs.getD i (.slice none 0 0)) j)
  | [], _, i, j, _, hi, _ => absurd hi (by simp)
  | y :: l, [], i, j, h, _, _ => absurd h (by simp)
  | y :: l, X :: Xs, 0, j, _, _, hj => by
    simp only [cellsC]
    rw [List.getElem?_append_left (by simp [insList]; omega)]
    simpa using insList_at y X hj
  | y :: l, X :: Xs, i + 1, j, h, hi, hj => by
    simp only [cellsC]
    rw [List.getElem?_append_right (by simp [insList]; omega)]
    have e : (i + 1) * 6 + j - (insList y X).length = i * 6 + j := by simp [insList]; omega
    rw [e, cellsC_at l Xs (by simpa using h) (by simpa using hi) hj]
    rfl
def AnyCell (_ : Value) : Prop := True
structure OwnC (base : Nat) (W : World) (V : Value) (l : List InsV) (Xs : List Value) : Prop where
  own : Owns W base 115 6 AnyCell V l.length (cellsC l Xs)
  len : Xs.length = l.length
  inn : ∀ y ∈ l, InsB y
  nums : ∀ i, i < l.length → OutN 0 W (Xs.getD i (.slice none 0 0)) (l.getD i .zero).args
theorem OwnC.nil (base : Nat) (W : World) : OwnC base W (.slice none 0 0) [] [] := ⟨Owns.nil _ _ _ _ _, rfl, by simp, fun i hi => absurd hi (by simp)⟩
section
variable {base : Nat} {W W' : World} {V : Value} {l : List InsV} {Xs : List Value}
theorem OwnC.below {B : Nat} (h : OwnC base W V l Xs) (hb : Below B W W') (hB : W.heap.size ≤ B) : OwnC base W' V l Xs :=
  ⟨h.own.below hb hB, h.len, h.inn, fun i hi => Owns.below (h.nums i hi) hb hB⟩
theorem OwnC.but {R : Nat → Prop} (h : OwnC base W V l Xs) (hb : But R W W') (h1 : ∀ g, V.ownBlock = some g → ¬ R g) (h2 : ∀ i, i < l.length → ∀ g, (Xs.getD i (.slice none 0 0)).ownBlock = some g → ¬ R g) : OwnC base W' V l Xs :=
  ⟨h.own.but hb h1, h.len, h.inn, fun i hi => Owns.but (h.nums i hi) hb (h2 i hi)⟩
theorem OwnC.code (h : OwnC base W V l Xs) (hl : l.length ≤ 1000000) : IsCode W W.heap.size V l := by
  refine ⟨by unfold maxLen; omega, h.inn, ?_⟩
  rcases h.own.1.2 with ⟨rfl, h0⟩ | ⟨g, cap, cur, rfl, h1, h2, h3, h4, h5, h6⟩
  · exact .inl ⟨List.eq_nil_of_length_eq_zero h0, none, 0, rfl⟩
  · exact .inr ⟨g, 0, cap, rfl, h3, (h.own.lt (g := g) (by simp [Value.ownBlock])).2, fun i hi => ⟨_, IsNums.of_owns (h.nums i hi) (Nat.le_refl _), fun j hj => by
      have := h.own.1.cells (g := g) rfl (i * 6 + j) _ (cellsC_at l Xs h.len hi hj)
      rw [← this]
      congr 1
      unfold Addr.add
      split <;> simp_all⟩⟩
end
theorem ins_info : (Tryz.prog.info? 115).map (fun i => (i.zero, i.size, i.bytes)) = some (some (.agg (insCells 0 0 0 0 0 (.slice none 0 0))), 6, 64) := by kernel_rfl
theorem getD_snoc {α : Type} (l : List α) (y d : α) {i : Nat} (hi : i < l.length + 1) : (l ++ [y]).getD i d = if i < l.length then l.getD i d else y := by
  by_cases h : i < l.length
  · rw [if_pos h]; simp [List.getD, List.getElem?_append_left h]
  · obtain rfl : i = l.length := by omega
    rw [if_neg h]; simp [List.getD]
end Go.Proofs.YtkfdgpgildanbaaGreat
namespace Go.Proofs.YtkfdgpgildanbaaGreat
open Go.RowKit Go.Shelf
set_option linter.unusedVariables false
set_option linter.unusedSimpArgs false
theorem first_stop : ∀ (l : List InsV) {k : Nat}, k < l.length → firstE (l.take k) = 0 → (l.getD k .zero).chk ≠ 0 → firstE l = (l.getD k .zero).chk
  | [], k, hk, _, _ => absurd hk (by simp)
  | y :: l, 0, _, _, h => by
    simp only [List.getD_cons_zero] at h ⊢
    simp only [firstE, if_neg h]
  | y :: l, k + 1, hk, h0, h => by
    simp only [List.take_succ_cons, firstE] at h0
    by_cases hy : y.chk = 0
    · rw [if_pos hy] at h0
      simp only [firstE, if_pos hy, List.getD_cons_succ] at h ⊢
      exact first_stop l (by simpa using hk) h0 h
    · rw [if_neg hy] at h0
      exact absurd h0 hy
theorem first_snoc : ∀ (l : List InsV) (y : InsV), firstE l = 0 → y.chk = 0 → firstE (l ++ [y]) = 0
  | [], y, _, h => by simp [firstE, h]
  | z :: l, y, h0, h => by
    simp only [List.cons_append, firstE] at h0 ⊢
    by_cases hz : z.chk = 0
    · rw [if_pos hz] at h0 ⊢
      exact first_snoc l y h0 h
    · rw [if_neg hz] at h0
      exact absurd h0 hz
theorem all_snoc (l : List InsV) (y : InsV) : allB (l ++ [y]) = allB l ++ y.bytes := by simp [allB]
def JoinI (w : World) (l : List InsV) (e : Ending) (w' : World) : Prop :=
  (joinE l ≠ 0 ∧ e = .returned (.tuple #[.slice none 0 0, .int .i64 (joinE l)]) ∧ Below w.heap.size w w') ∨
  (joinE l = 0 ∧ ∃ v, e = .returned (.tuple #[v, .int .i64 0]) ∧ OutB w w' v (allB l))
theorem join_good {w w' : World} {l : List InsV} {v : Value} (h : joinE l = 0) (ho : OutB w w' v (allB l)) : JoinI w l (.returned (.tuple #[v, .int .i64 0])) w' := .inr ⟨h, _, rfl, ho⟩
theorem join_bad {w w' : World} {l : List InsV} {z : Int} (h : joinE l = z) (h0 : z ≠ 0) (hb : Below w.heap.size w w') : JoinI w l (.returned (.tuple #[.slice none 0 0, .int .i64 z])) w' := .inl ⟨by rw [h]; exact h0, by rw [h], hb⟩
theorem join_stop {l : List InsV} {k : Nat} (hk : k < l.length) (h0 : firstE (l.take k) = 0) (h : (l.getD k .zero).chk ≠ 0) : joinE l = (l.getD k .zero).chk := by
  unfold joinE
  rw [first_stop l hk h0 h, if_neg h]
theorem bytes_short {y : InsV} (h : y.chk = 0) : y.bytes.length ≤ 100 := bytes_len (op := y.op) (a := y.a) (b := y.b) (c := y.c) (n := y.n) (chk_ok h).args
theorem bytes_pos (y : InsV) : 0 < y.bytes.length := by unfold InsV.bytes; rw [List.length_append, bytesV_len]; omega
def JoinedL (l : List InsV) (xs : List Int) : Prop := xs <+: allB l ∧ (xs = allB l ∨ 4096 < xs.length) ∧ xs.length ≤ 4196
set_option maxRecDepth 100000 in
set_option maxHeartbeats 4000000 in
theorem join7_any (V : Value) (l : List InsV) (w : World) (h : IsCode w w.heap.size V l) : Calls Tryz.prog 187 #[V] w (JoinI w l) := by
  obtain ⟨A, cap, rfl⟩ := h.len
  have HC := Lib.hid h
  have hm := h.1
  unfold maxLen at hm
  obtain ⟨n, hn⟩ : ∃ n, n = l.length := ⟨_, rfl⟩
  have HN := Lib.hid hn
  rw [← hn] at hm HC ⊢
  clear h hn
  go_enter Tryz.func187, Tryz.ntmps187
  go_wp2
  go_loopw [4, 11] (fun out i wr => ∃ k : Nat, k ≤ n ∧ i = .int .i64 k ∧ Hid (firstE (l.take k) = 0 ∧ ∃ xs, JoinedL (l.take k) xs ∧ OutB w wr out xs)) (fun _ i _ => n - (intOf i).toNat)
  case atStart => exact ⟨0, by omega, rfl, ⟨rfl, [], ⟨List.prefix_refl _, .inl rfl, by simp⟩, OutB.nil (Below.refl _ _)⟩⟩
  case round =>
    obtain ⟨k, hk, rfl, HR⟩ := hrel
    obtain ⟨h0, xs, hj, ho⟩ := HR.out
    have H0 := Lib.hid h0
    have HJ := Lib.hid hj
    have HO := Lib.hid ho
    obtain ⟨oA, oc, hoe⟩ := owns_len ho.own
    subst hoe
    have hxl := hj.2.2
    clear HR h0 hj ho
    by_cases hlt : k < n
    · have hkl : k < l.length := by rw [← HN.out]; exact hlt
      obtain ⟨b, off, cap', hV, hcp, hbB, hcl⟩ := HC.out.plain (by omega)
      rw [← HN.out] at hV
      cases hV
      obtain ⟨X, hX, hcell⟩ := hcl k hkl
      have hb := HO.out.bel
      have hcl' : ∀ j, j < 6 → wr.cell? ⟨b, off + k * 6 + j, none⟩ = some (insCell (l.getD k .zero) X j) := fun j hj => (hb.cell (p := ⟨b, off + k * 6 + j, none⟩) hbB).trans (hcell j hj)
      have HTK := Lib.hid (code_take l hkl)
      have HST := Lib.hid (fun h => join_stop hkl H0.out h)
      obtain ⟨⟨op, a, b1, c, n1, args⟩, hy⟩ : ∃ y, y = l.getD k .zero := ⟨_, rfl⟩
      rw [← hy] at hX hcl' HTK HST
      have c0 : wr.cell? ⟨b, off + k * 6, none⟩ = some (.int .i64 op) := hcl' 0 (by omega)
      have c1 : wr.cell? ⟨b, off + k * 6 + 1, none⟩ = some (.int .i64 a) := hcl' 1 (by omega)
      have c2 : wr.cell? ⟨b, off + k * 6 + 2, none⟩ = some (.int .i64 b1) := hcl' 2 (by omega)
      have c3 : wr.cell? ⟨b, off + k * 6 + 3, none⟩ = some (.int .i64 c) := hcl' 3 (by omega)
      have c4 : wr.cell? ⟨b, off + k * 6 + 4, none⟩ = some (.int .i64 n1) := hcl' 4 (by omega)
      have c5 : wr.cell? ⟨b, off + k * 6 + 5, none⟩ = some X := hcl' 5 (by omega)
      have hXw := (hX.below hb (Nat.le_refl _)).more hb.size
      dsimp only at hXw
      have ha := (Below.refl wr.heap.size wr).alloc (Nat.le_refl _) (.cells (insCells op a b1 c n1 X) 115)
      have HP := Lib.hid (put7_any op a b1 c n1 X args _ ((hXw.below ha (Nat.le_refl _)).more ha.size))
      have HOA := Lib.hid (HO.out.grow ha)
      obtain ⟨XA, Xc, rfl⟩ := hX.len
      have k0 : (0 : Int) ≤ (k : Int) := by omega
      have k1 : (k : Int) < (n : Int) := by omega
      clear hcl' hcell hX hXw ha hy hcl hb hcp
      by_cases hz : InsV.chk ⟨op, a, b1, c, n1, args⟩ = 0
      · have HP2 := Lib.hid (HP.out.mono fun e w' hh => hh.resolve_left (fun h => h.1 hz))
        have HF := Lib.hid (show firstE (l.take (k + 1)) = 0 by rw [HTK.out]; exact first_snoc _ _ H0.out hz)
        have HBS := Lib.hid (bytes_short hz)
        have HBP := Lib.hid (bytes_pos ⟨op, a, b1, c, n1, args⟩)
        have HBD := Lib.hid (InsV.bytes_bd ⟨op, a, b1, c, n1, args⟩)
        have HAS := Lib.hid (all_snoc (l.take k) ⟨op, a, b1, c, n1, args⟩)
        rw [← HTK.out] at HAS
        generalize InsV.bytes ⟨op, a, b1, c, n1, args⟩ = ys at *
        clear HP HST hz
        by_cases hle : xs.length ≤ 4096
        · have hleI : (xs.length : Int) ≤ 4096 := by omega
          go_wp2_with (first
            | (go_at_call 202; (with_reducible refine HP2.out.mono ?_); rintro e w2 ⟨_, v2, rfl, ho⟩; have HO2 := Lib.hid ho; have HO3 := Lib.hid (HOA.out.grow ho.bel); clear ho)
            | (at_builtin; refine wpList_outB rfl _ _ rfl rfl rfl HO3.out HO2.out.own HBD.out HBP.out (by have := HBS.out; omega) ?_; intro V6 w6 ho hb; have HO6 := Lib.hid ho; clear ho hb))
          go_roundw
          case rel => exact ⟨k + 1, by omega, by go_num, ⟨HF.out, _, (by
            obtain ⟨h1, h2, h3⟩ := HJ.out
            have he : xs = allB (l.take k) := h2.resolve_right (by omega)
            rw [he] at HO6 ⊢
            refine ⟨by rw [HAS.out]; exact List.prefix_refl _, .inl HAS.out.symm, ?_⟩
            rw [List.length_append, ← he]
            have := HBS.out
            omega), HO6.out⟩⟩
          case measure => simp [intOf]; omega
        · have hleI : ¬ (xs.length : Int) ≤ 4096 := by omega
          go_wp2_with (go_at_call 202; (with_reducible refine HP2.out.mono ?_); rintro e w2 ⟨_, v2, rfl, ho⟩; have HO3 := Lib.hid (HOA.out.grow ho.bel); clear ho)
          go_roundw
          case rel => exact ⟨k + 1, by omega, by go_num, ⟨HF.out, xs, (by
            obtain ⟨h1, h2, h3⟩ := HJ.out
            exact ⟨by rw [HAS.out]; exact h1.trans (List.prefix_append _ _), .inr (by omega), h3⟩), HO3.out⟩⟩
          case measure => simp [intOf]; omega
      · have HZ := Lib.hid hz
        have HJE := Lib.hid (HST.out hz)
        have HP2 := Lib.hid (HP.out.mono fun e w' hh => hh.resolve_right (fun h => hz h.1))
        generalize InsV.chk ⟨op, a, b1, c, n1, args⟩ = z at HP2 HJE HZ
        have hne : (z != 0) = true := by simpa using HZ.out
        clear HP HST hz
        go_wp2_with (go_at_call 202; (with_reducible refine HP2.out.mono ?_); rintro e w2 ⟨_, rfl, hb⟩; have HB2 := Lib.hid (HOA.out.bel.trans (hb.mono HOA.out.bel.size)); clear hb)
        go_ret2
        exact join_bad HJE.out HZ.out HB2.out
    · obtain rfl : k = n := by omega
      have htk : l.take k = l := by rw [HN.out]; exact List.take_length
      have hfe := H0.out
      rw [htk] at hfe HJ
      have HFE := Lib.hid hfe
      by_cases hle : xs.length ≤ 4096
      · have hleI : ¬ (4096 : Int) < (xs.length : Int) := by omega
        have HE : Hid (xs = allB l) := Lib.hid (HJ.out.2.1.resolve_right (by omega))
        have HL := Lib.hid hle
        clear htk hfe
        go_wp2
        go_ret2
        refine join_good ?_ (by rw [← HE.out]; exact HO.out)
        unfold joinE
        rw [if_pos HFE.out, ← HE.out, if_neg (by have := HL.out; omega)]
      · have hleI : (4096 : Int) < (xs.length : Int) := by omega
        have HL : Hid (4096 < (allB l).length) := Lib.hid (by have := HJ.out.1.length_le; omega)
        clear htk hfe
        go_wp2
        go_ret2
        refine join_bad ?_ (show (3 : Int) ≠ 0 by decide) HO.out.bel
        unfold joinE
        rw [if_pos HFE.out, if_pos HL.out]
end Go.Proofs.YtkfdgpgildanbaaGreat
namespace Go.Proofs.YtkfdgpgildanbaaGreat
open Go.RowKit Go.Shelf
set_option linter.unusedVariables false
set_option linter.unusedSimpArgs false
theorem OwnC.base {base base' : Nat} {W : World} {V : Value} {l : List InsV} {Xs : List Value} (h : OwnC base W V l Xs) (hb : base' ≤ base) : OwnC base' W V l Xs := ⟨Owns.base h.own hb, h.len, h.inn, h.nums⟩
end Go.Proofs.YtkfdgpgildanbaaGreat
namespace Go.Proofs.YtkfdgpgildanbaaGreat
open Go.RowKit Go.Shelf
set_option linter.unusedVariables false
set_option linter.unusedSimpArgs false
theorem makes_of {f : FuncId} {args : Array Value} {w : World} {v : Value} (h : Calls Tryz.prog f args w (Makes w v)) : Calls Tryz.prog f args w fun e w' => e = .returned v ∧ Below w.heap.size w w' := h
end Go.Proofs.YtkfdgpgildanbaaGreat
namespace Go.Proofs.YtkfdgpgildanbaaGreat
open Go.RowKit Go.Shelf
set_option linter.unusedVariables false
set_option linter.unusedSimpArgs false
end Go.Proofs.YtkfdgpgildanbaaGreat
