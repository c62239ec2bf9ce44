/- The landed code.Join: the bytes of instructions. Contract; no condition but that the instructions lie in a row. -/
import Derived.Test.YtobbjphpngckgaaCode07I
namespace Go.Proofs.Ytobbjphpngckgaa
open Go.RowKit Go.Shelf
set_option linter.unusedVariables false
set_option linter.unusedSimpArgs false

theorem first_stop : ∀ (l : List InsV) {k : Nat}, k < l.length → firstE (l.take k) = 0 → (l.getD k .zero).chk ≠ 0 → firstE l = (l.getD k .zero).chk
  | [], k, hk, _, _ => absurd hk (by simp)
  | y :: l, 0, _, _, h => by
    simp only [List.getD_cons_zero] at h ⊢
    simp only [firstE, if_neg h]
  | y :: l, k + 1, hk, h0, h => by
    simp only [List.take_succ_cons, firstE] at h0
    by_cases hy : y.chk = 0
    · rw [if_pos hy] at h0
      simp only [firstE, if_pos hy, List.getD_cons_succ] at h ⊢
      exact first_stop l (by simpa using hk) h0 h
    · rw [if_neg hy] at h0
      exact absurd h0 hy
theorem first_snoc : ∀ (l : List InsV) (y : InsV), firstE l = 0 → y.chk = 0 → firstE (l ++ [y]) = 0
  | [], y, _, h => by simp [firstE, h]
  | z :: l, y, h0, h => by
    simp only [List.cons_append, firstE] at h0 ⊢
    by_cases hz : z.chk = 0
    · rw [if_pos hz] at h0 ⊢
      exact first_snoc l y h0 h
    · rw [if_neg hz] at h0
      exact absurd h0 hz
theorem all_snoc (l : List InsV) (y : InsV) : allB (l ++ [y]) = allB l ++ y.bytes := by simp [allB]
def JoinI (w : World) (l : List InsV) (e : Ending) (w' : World) : Prop :=
  (joinE l ≠ 0 ∧ e = .returned (.tuple #[.slice none 0 0, .int .i64 (joinE l)]) ∧ Below w.heap.size w w') ∨
  (joinE l = 0 ∧ ∃ v, e = .returned (.tuple #[v, .int .i64 0]) ∧ OutB w w' v (allB l))
theorem join_good {w w' : World} {l : List InsV} {v : Value} (h : joinE l = 0) (ho : OutB w w' v (allB l)) : JoinI w l (.returned (.tuple #[v, .int .i64 0])) w' := .inr ⟨h, _, rfl, ho⟩
theorem join_bad {w w' : World} {l : List InsV} {z : Int} (h : joinE l = z) (h0 : z ≠ 0) (hb : Below w.heap.size w w') : JoinI w l (.returned (.tuple #[.slice none 0 0, .int .i64 z])) w' := .inl ⟨by rw [h]; exact h0, by rw [h], hb⟩
theorem join_stop {l : List InsV} {k : Nat} (hk : k < l.length) (h0 : firstE (l.take k) = 0) (h : (l.getD k .zero).chk ≠ 0) : joinE l = (l.getD k .zero).chk := by
  unfold joinE
  rw [first_stop l hk h0 h, if_neg h]
theorem bytes_short {y : InsV} (h : y.chk = 0) : y.bytes.length ≤ 100 := bytes_len (op := y.op) (a := y.a) (b := y.b) (c := y.c) (n := y.n) (chk_ok h).args
theorem bytes_pos (y : InsV) : 0 < y.bytes.length := by unfold InsV.bytes; rw [List.length_append, bytesV_len]; omega
/-- What has been joined: all, or more than there may be. -/
def JoinedL (l : List InsV) (xs : List Int) : Prop := xs <+: allB l ∧ (xs = allB l ∨ 4096 < xs.length) ∧ xs.length ≤ 4196
set_option maxRecDepth 100000 in
set_option maxHeartbeats 4000000 in
theorem join7_any (V : Value) (l : List InsV) (w : World) (h : IsCode w w.heap.size V l) : Calls Try.prog 12 #[V] w (JoinI w l) := by
  obtain ⟨A, cap, rfl⟩ := h.len
  have HC := Lib.hid h
  have hm := h.1
  unfold maxLen at hm
  obtain ⟨n, hn⟩ : ∃ n, n = l.length := ⟨_, rfl⟩
  have HN := Lib.hid hn
  rw [← hn] at hm HC ⊢
  clear h hn
  go_enter Try.func12, Try.ntmps12
  go_wp2
  go_loopw [4, 11] (fun out i wr => ∃ k : Nat, k ≤ n ∧ i = .int .i64 k ∧ Hid (firstE (l.take k) = 0 ∧ ∃ xs, JoinedL (l.take k) xs ∧ OutB w wr out xs)) (fun _ i _ => n - (intOf i).toNat)
  case atStart => exact ⟨0, by omega, rfl, ⟨rfl, [], ⟨List.prefix_refl _, .inl rfl, by simp⟩, OutB.nil (Below.refl _ _)⟩⟩
  case round =>
    obtain ⟨k, hk, rfl, HR⟩ := hrel
    obtain ⟨h0, xs, hj, ho⟩ := HR.out
    have H0 := Lib.hid h0
    have HJ := Lib.hid hj
    have HO := Lib.hid ho
    obtain ⟨oA, oc, hoe⟩ := owns_len ho.own
    subst hoe
    have hxl := hj.2.2
    clear HR h0 hj ho
    by_cases hlt : k < n
    · have hkl : k < l.length := by rw [← HN.out]; exact hlt
      obtain ⟨b, off, cap', hV, hcp, hbB, hcl⟩ := HC.out.plain (by omega)
      rw [← HN.out] at hV
      cases hV
      obtain ⟨X, hX, hcell⟩ := hcl k hkl
      have hb := HO.out.bel
      have hcl' : ∀ j, j < 6 → wr.cell? ⟨b, off + k * 6 + j, none⟩ = some (insCell (l.getD k .zero) X j) := fun j hj => (hb.cell (p := ⟨b, off + k * 6 + j, none⟩) hbB).trans (hcell j hj)
      have HTK := Lib.hid (code_take l hkl)
      have HST := Lib.hid (fun h => join_stop hkl H0.out h)
      obtain ⟨⟨op, a, b1, c, n1, args⟩, hy⟩ : ∃ y, y = l.getD k .zero := ⟨_, rfl⟩
      rw [← hy] at hX hcl' HTK HST
      have c0 : wr.cell? ⟨b, off + k * 6, none⟩ = some (.int .i64 op) := hcl' 0 (by omega)
      have c1 : wr.cell? ⟨b, off + k * 6 + 1, none⟩ = some (.int .i64 a) := hcl' 1 (by omega)
      have c2 : wr.cell? ⟨b, off + k * 6 + 2, none⟩ = some (.int .i64 b1) := hcl' 2 (by omega)
      have c3 : wr.cell? ⟨b, off + k * 6 + 3, none⟩ = some (.int .i64 c) := hcl' 3 (by omega)
      have c4 : wr.cell? ⟨b, off + k * 6 + 4, none⟩ = some (.int .i64 n1) := hcl' 4 (by omega)
      have c5 : wr.cell? ⟨b, off + k * 6 + 5, none⟩ = some X := hcl' 5 (by omega)
      have hXw := (hX.below hb (Nat.le_refl _)).more hb.size
      dsimp only at hXw
      have ha := (Below.refl wr.heap.size wr).alloc (Nat.le_refl _) (.cells (insCells op a b1 c n1 X) 35)
      have HP := Lib.hid (put7_any op a b1 c n1 X args _ ((hXw.below ha (Nat.le_refl _)).more ha.size))
      have HOA := Lib.hid (HO.out.grow ha)
      obtain ⟨XA, Xc, rfl⟩ := hX.len
      have k0 : (0 : Int) ≤ (k : Int) := by omega
      have k1 : (k : Int) < (n : Int) := by omega
      clear hcl' hcell hX hXw ha hy hcl hb hcp
      by_cases hz : InsV.chk ⟨op, a, b1, c, n1, args⟩ = 0
      · have HP2 := Lib.hid (HP.out.mono fun e w' hh => hh.resolve_left (fun h => h.1 hz))
        have HF := Lib.hid (show firstE (l.take (k + 1)) = 0 by rw [HTK.out]; exact first_snoc _ _ H0.out hz)
        have HBS := Lib.hid (bytes_short hz)
        have HBP := Lib.hid (bytes_pos ⟨op, a, b1, c, n1, args⟩)
        have HBD := Lib.hid (InsV.bytes_bd ⟨op, a, b1, c, n1, args⟩)
        have HAS := Lib.hid (all_snoc (l.take k) ⟨op, a, b1, c, n1, args⟩)
        rw [← HTK.out] at HAS
        generalize InsV.bytes ⟨op, a, b1, c, n1, args⟩ = ys at *
        clear HP HST hz
        by_cases hle : xs.length ≤ 4096
        · have hleI : (xs.length : Int) ≤ 4096 := by omega
          go_wp2_with (first
            | (go_at_call 16; (with_reducible refine HP2.out.mono ?_); rintro e w2 ⟨_, v2, rfl, ho⟩; have HO2 := Lib.hid ho; have HO3 := Lib.hid (HOA.out.grow ho.bel); clear ho)
            | (at_builtin; refine wpList_outB rfl _ _ rfl rfl rfl HO3.out HO2.out.own HBD.out HBP.out (by have := HBS.out; omega) ?_; intro V6 w6 ho hb; have HO6 := Lib.hid ho; clear ho hb))
          go_roundw
          case rel => exact ⟨k + 1, by omega, by go_num, ⟨HF.out, _, (by
            obtain ⟨h1, h2, h3⟩ := HJ.out
            have he : xs = allB (l.take k) := h2.resolve_right (by omega)
            rw [he] at HO6 ⊢
            refine ⟨by rw [HAS.out]; exact List.prefix_refl _, .inl HAS.out.symm, ?_⟩
            rw [List.length_append, ← he]
            have := HBS.out
            omega), HO6.out⟩⟩
          case measure => simp [intOf]; omega
        · have hleI : ¬ (xs.length : Int) ≤ 4096 := by omega
          go_wp2_with (go_at_call 16; (with_reducible refine HP2.out.mono ?_); rintro e w2 ⟨_, v2, rfl, ho⟩; have HO3 := Lib.hid (HOA.out.grow ho.bel); clear ho)
          go_roundw
          case rel => exact ⟨k + 1, by omega, by go_num, ⟨HF.out, xs, (by
            obtain ⟨h1, h2, h3⟩ := HJ.out
            exact ⟨by rw [HAS.out]; exact h1.trans (List.prefix_append _ _), .inr (by omega), h3⟩), HO3.out⟩⟩
          case measure => simp [intOf]; omega
      · have HZ := Lib.hid hz
        have HJE := Lib.hid (HST.out hz)
        have HP2 := Lib.hid (HP.out.mono fun e w' hh => hh.resolve_right (fun h => hz h.1))
        generalize InsV.chk ⟨op, a, b1, c, n1, args⟩ = z at HP2 HJE HZ
        have hne : (z != 0) = true := by simpa using HZ.out
        clear HP HST hz
        go_wp2_with (go_at_call 16; (with_reducible refine HP2.out.mono ?_); rintro e w2 ⟨_, rfl, hb⟩; have HB2 := Lib.hid (HOA.out.bel.trans (hb.mono HOA.out.bel.size)); clear hb)
        go_ret2
        exact join_bad HJE.out HZ.out HB2.out
    · obtain rfl : k = n := by omega
      have htk : l.take k = l := by rw [HN.out]; exact List.take_length
      have hfe := H0.out
      rw [htk] at hfe HJ
      have HFE := Lib.hid hfe
      by_cases hle : xs.length ≤ 4096
      · have hleI : ¬ (4096 : Int) < (xs.length : Int) := by omega
        have HE : Hid (xs = allB l) := Lib.hid (HJ.out.2.1.resolve_right (by omega))
        have HL := Lib.hid hle
        clear htk hfe
        go_wp2
        go_ret2
        refine join_good ?_ (by rw [← HE.out]; exact HO.out)
        unfold joinE
        rw [if_pos HFE.out, ← HE.out, if_neg (by have := HL.out; omega)]
      · have hleI : (4096 : Int) < (xs.length : Int) := by omega
        have HL : Hid (4096 < (allB l).length) := Lib.hid (by have := HJ.out.1.length_le; omega)
        clear htk hfe
        go_wp2
        go_ret2
        refine join_bad ?_ (show (3 : Int) ≠ 0 by decide) HO.out.bel
        unfold joinE
        rw [if_pos HFE.out, if_pos HL.out]
end Go.Proofs.Ytobbjphpngckgaa
