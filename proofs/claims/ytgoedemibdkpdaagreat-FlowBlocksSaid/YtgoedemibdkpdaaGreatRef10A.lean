/- The document's own places, at and Check of layer 10. Contracts; no condition but that the instructions are few. -/
import Derived.Test.YtgoedemibdkpdaaGreatRGoes10
import Derived.Test.YtgoedemibdkpdaaGreatS15
import Derived.Test.YtgoedemibdkpdaaGreatMath10D
namespace Go.Proofs.YtgoedemibdkpdaaGreat
open Go.RowKit Go.Shelf
set_option linter.unusedVariables false
set_option linter.unusedSimpArgs false

theorem at_first : ∀ {ps : List Int} {t : Int} {k : Nat}, k < ps.length → ps.getD k 0 = t → (∀ j, j < k → ps.getD j 0 ≠ t) → atV ps t = (k : Int)
  | [], _, _, h, _, _ => absurd h (by simp)
  | p :: ps, t, 0, _, h, _ => by
    simp at h
    simp [atV, h]
  | p :: ps, t, k + 1, hk, h, hn => by
    have h0 := hn 0 (by omega)
    simp at h0
    have ih := at_first (ps := ps) (t := t) (k := k) (by simpa using hk) (by simpa using h) (fun j hj => by simpa using hn (j + 1) (by omega))
    simp only [atV, if_neg h0, ih]
    rw [if_neg (by omega)]
    omega
theorem at_never {ps : List Int} {t : Int} (h : ∀ j, j < ps.length → ps.getD j 0 ≠ t) : atV ps t = -1 := by
  have hb := atV_lb ps t
  rcases Int.lt_or_le (atV ps t) 0 with h0 | h0
  · omega
  · obtain ⟨k, hk⟩ : ∃ k : Nat, atV ps t = k := ⟨_, (Int.toNat_of_nonneg h0).symm⟩
    have hs := atV_some hk
    exact absurd hs.2 (h k hs.1)
/-- What is read of an instruction. -/
def InsR (W : World) (b o : Nat) (op a b1 c n1 : Int) (X : Value) (args : List Int) : Prop :=
  IsNums .i64 W W.heap.size X args ∧ W.cell? ⟨b, o, none⟩ = some (.int .i64 op) ∧ W.cell? ⟨b, o + 1, none⟩ = some (.int .i64 a) ∧ W.cell? ⟨b, o + 2, none⟩ = some (.int .i64 b1) ∧
    W.cell? ⟨b, o + 3, none⟩ = some (.int .i64 c) ∧ W.cell? ⟨b, o + 4, none⟩ = some (.int .i64 n1) ∧ W.cell? ⟨b, o + 5, none⟩ = some X
/-- An instruction of a row, as it is read later on. -/
theorem code_cells {w : World} {A : Option Addr} {n cap k : Nat} {l : List InsV} (h : IsCode w w.heap.size (.slice A n cap) l) (hn : n = l.length) (hk : k < n) :
    ∃ b off op a b1 c n1 args YA Yc, A = some ⟨b, off, none⟩ ∧ l.getD k .zero = ⟨op, a, b1, c, n1, args⟩ ∧ InI n1 ∧ ∀ W, Below w.heap.size w W → InsR W b (off + k * 6) op a b1 c n1 (.slice YA args.length Yc) args := by
  have hkl : k < l.length := by omega
  obtain ⟨b, off, cap', hV, _, hbB, hcl⟩ := h.plain (by omega)
  obtain ⟨X, hX, hc⟩ := hcl k hkl
  have hin := (code_getD h hkl).n
  obtain ⟨⟨op, a, b1, c, n1, args⟩, hy⟩ : ∃ y, y = l.getD k .zero := ⟨_, rfl⟩
  rw [← hy] at hX hc hin
  obtain ⟨YA, Yc, hYe⟩ := hX.len
  subst hYe
  refine ⟨b, off, op, a, b1, c, n1, args, YA, Yc, ?_, hy.symm, hin, fun W hb => ?_⟩
  · injection hV
  · have hc' : ∀ j, j < 6 → W.cell? ⟨b, off + k * 6 + j, none⟩ = some (insCell ⟨op, a, b1, c, n1, args⟩ (.slice YA args.length Yc) j) := fun j hj => (hb.cell (p := ⟨b, off + k * 6 + j, none⟩) hbB).trans (hc j hj)
    exact ⟨(hX.below hb (Nat.le_refl _)).more hb.size, hc' 0 (by omega), hc' 1 (by omega), hc' 2 (by omega), hc' 3 (by omega), hc' 4 (by omega), hc' 5 (by omega)⟩
theorem places_take {l : List InsV} {k : Nat} (hk : k < l.length) : (placesV l 0).take (k + 1) = (placesV l 0).take k ++ [((allB (l.take k)).length : Int)] := by
  have hk' : k < (placesV l 0).length := by rw [placesV_length]; exact hk
  rw [List.take_add_one, List.getElem?_eq_getElem hk']
  have e := placesV_at l 0 hk
  simp only [List.getD, List.getElem?_eq_getElem hk', Option.getD_some, Nat.zero_add] at e
  rw [e]
  rfl
theorem take_len10 {l : List InsV} {k : Nat} (hk : k < l.length) : (allB (l.take (k + 1))).length = (allB (l.take k)).length + (l.getD k .zero).bytes.length := by
  rw [(all_at hk).2, List.length_append]
theorem take_le10 (l : List InsV) (k : Nat) : (allB (l.take k)).length ≤ (allB l).length := by
  have : allB l = allB (l.take k) ++ allB (l.drop k) := by
    unfold allB
    rw [← List.flatMap_append, List.take_append_drop]
  rw [this, List.length_append]
  omega
set_option maxRecDepth 100000 in
set_option maxHeartbeats 4000000 in
theorem rplaces_any (A : Option Addr) (n cap : Nat) (l : List InsV) (w : World) (hn : n = l.length) (h : IsCode w w.heap.size (.slice A n cap) l) (hj : joinE l = 0) :
    Calls Tryz.prog 23 #[.slice A n cap] w fun e w' => Below w.heap.size w w' ∧ ∃ P, e = .returned P ∧ OutN w.heap.size w' P (placesV l 0) := by
  have HC := Lib.hid h
  have HF := Lib.hid (first_all hj)
  have hn4 : n ≤ 4096 := by have := all_length l; have := (first_all hj).2; omega
  have hn4I : (n : Int) ≤ 4096 := by omega
  have HN := Lib.hid hn
  clear h hn hj
  go_enter Tryz.func23, Tryz.ntmps23
  go_wp2
  go_loopw [3, 4, 5] (fun out at' i wr => ∃ k : Nat, k ≤ n ∧ i = .int .i64 k ∧ at' = .int .i64 ((allB (l.take k)).length : Nat) ∧ Hid (OutN w.heap.size wr out ((placesV l 0).take k) ∧ Below w.heap.size w wr)) (fun _ _ i _ => n - (intOf i).toNat)
  case atStart => exact ⟨0, by omega, rfl, by simp [allB], ⟨Owns.nil _ _ _ _ _, Below.refl _ _⟩⟩
  case round =>
    obtain ⟨k, hk, rfl, rfl, HR⟩ := hrel
    obtain ⟨ho, hb⟩ := HR.out
    have HO := Lib.hid ho
    have HB := Lib.hid hb
    obtain ⟨oA, oc, hoe, _⟩ := out_len ho
    have hlen : ((placesV l 0).take k).length = k := by rw [List.length_take, placesV_length, ← HN.out]; omega
    rw [hlen] at hoe
    subst hoe
    have HLN := Lib.hid hlen
    have hap := take_le10 l k
    have hap2 : (allB (l.take k)).length ≤ 4096 := by have := HF.out.2; omega
    have HAP := Lib.hid hap2
    clear HR ho hlen hap
    by_cases hlt : k < n
    · have hkl : k < l.length := by rw [← HN.out]; exact hlt
      obtain ⟨b, off, op, a, b1, c, n1, args, YA, Yc, hA, hy, hin, hcc⟩ := code_cells HC.out HN.out hlt
      cases hA
      have HCC := Lib.hid hcc
      have HIN := Lib.hid hin
      have HPT := Lib.hid (places_take hkl)
      have hat := take_len10 hkl
      have hfa := first_at l hkl HF.out.1
      rw [hy] at hat hfa
      have hle : lenV ⟨op, a, b1, c, n1, args⟩ = (InsV.bytes ⟨op, a, b1, c, n1, args⟩).length := by unfold lenV; rw [if_pos hfa]
      have hap3 := take_le10 l (k + 1)
      have hap4 := HF.out.2
      have HQ1 := Lib.hid (show (allB (l.take (k + 1))).length = (allB (l.take k)).length + lenV ⟨op, a, b1, c, n1, args⟩ by rw [hle]; exact hat)
      have hlv : lenV ⟨op, a, b1, c, n1, args⟩ ≤ 4096 := by rw [hle]; omega
      have HRL := Lib.hid (fun W hX => rlength7_any op a b1 c n1 (.slice YA args.length Yc) args W hX HIN.out)
      generalize lenV ⟨op, a, b1, c, n1, args⟩ = q1 at *
      generalize (allB (l.take k)).length = q0 at *
      have k0 : (0 : Int) ≤ (k : Int) := by omega
      have k1 : (k : Int) < (n : Int) := by omega
      have p0 : (q0 : Int) ≤ 4096 := by omega
      have p1 : (q1 : Int) ≤ 4096 := by omega
      have hs : (q0 : Int) + (q1 : Int) = ((q0 + q1 : Nat) : Int) := by omega
      have HS := Lib.hid hs
      clear hcc hin hy hat hfa hle hap3 hap4 hap2 hlv hkl hs hb
      go_wp2_with (first
        | (at_builtin; (refine wpList_outN (W := wr) (z := (q0 : Int)) (base := w.heap.size) rfl (.tmp 12) (.tmp 14) rfl rfl rfl HO.out HB.out.size (by rw [HLN.out]; omega) ?_; intro V6 w6 ho hb6 _; have HO6 := Lib.hid ho; have HB6 := Lib.hid (HB.out.trans hb6); obtain ⟨hX6, c0, c1, c2, c3, c4, c5⟩ := HCC.out w6 HB6.out; have HX6 := Lib.hid hX6; obtain ⟨a6, cp6, h6, _⟩ := out_len ho; generalize hq6 : (_ ++ [(q0 : Int)]).length = q6 at h6; subst h6; clear ho hb6 hX6 hq6))
        | (go_at_call 42; (with_reducible refine (HRL.out w6 HX6.out).mono ?_); rintro e w7 ⟨rfl, hb⟩; have HB7 := Lib.hid (HB6.out.trans (hb.mono HB6.out.size)); have HO7 := Lib.hid (HO6.out.below hb (Nat.le_refl _)); clear hb))
      go_roundw
      case rel => exact ⟨k + 1, by omega, by go_num, by rw [HQ1.out]; exact congrArg (Value.int .i64) HS.out, ⟨by rw [HPT.out]; exact HO7.out, HB7.out⟩⟩
      case measure => simp [intOf]; omega
    · obtain rfl : k = n := by omega
      have hte : (placesV l 0).take k = placesV l 0 := by have := placesV_length l 0; rw [HN.out, ← this]; exact List.take_length
      have HTE := Lib.hid hte
      clear hte
      go_wp2
      go_ret
      refine ⟨HB.out, _, rfl, ?_⟩
      rw [← HTE.out]
      exact HO.out
set_option maxHeartbeats 4000000 in
theorem rat_any (X : Value) (ps : List Int) (z : Int) (w : World) (B : Nat) (h : IsNums .i64 w B X ps) : Calls Tryz.prog 40 #[X, .int .i64 z] w fun e w' => e = .returned (.int .i64 (atV ps z)) ∧ w = w' := by
  obtain ⟨A, cap, rfl⟩ := h.len
  have hl := h.1
  unfold maxLen at hl
  obtain ⟨n, hn⟩ : ∃ n, n = ps.length := ⟨_, rfl⟩
  have HN := Lib.hid hn
  have HX := Lib.hid h
  rw [← hn] at HX hl ⊢
  clear h hn
  go_enter Tryz.func40, Tryz.ntmps40
  go_wp2
  go_loop [5] (fun i => ∃ k : Nat, k ≤ n ∧ i = .int .i64 k ∧ Hid (∀ j, j < k → ps.getD j 0 ≠ z)) (fun i => n - (intOf i).toNat)
  case atStart => exact ⟨0, by omega, rfl, fun j hj => by omega⟩
  case round =>
    obtain ⟨k, hk, rfl, HA⟩ := hrel
    by_cases hlt : k < n
    · have hkl : k < ps.length := by rw [← HN.out]; exact hlt
      obtain ⟨b, off, cap', hV, _, _, hc⟩ := HX.out.plain (by omega)
      rw [← HN.out] at hV
      cases hV
      have d1 := hc k hkl
      have k0 : (0 : Int) ≤ (k : Int) := by omega
      have k1 : (k : Int) < (n : Int) := by omega
      clear hc
      by_cases he : ps.getD k 0 = z
      · have HE : Hid (atV ps z = (k : Int)) := Lib.hid (at_first hkl he HA.out)
        rw [he] at d1
        clear he
        go_wp2
        go_ret
        exact ⟨by rw [HE.out]; rfl, rfl⟩
      · have HE := Lib.hid he
        obtain ⟨x, hx⟩ : ∃ x, x = ps.getD k 0 := ⟨_, rfl⟩
        rw [← hx] at d1 he
        have e1 : (x == z) = false := by simpa using he
        clear he hx
        go_wp2
        go_round
        case rel => exact ⟨k + 1, by omega, by go_num, fun j hj => by
          by_cases e : j = k
          · subst e; exact HE.out
          · exact HA.out j (by omega)⟩
        case measure => simp [intOf]; omega
    · obtain rfl : k = n := by omega
      have HE : Hid (atV ps z = -1) := Lib.hid (at_never (fun j hj => HA.out j (by rw [HN.out]; exact hj)))
      go_wp2
      go_ret
      exact ⟨by rw [HE.out]; rfl, rfl⟩
end Go.Proofs.YtgoedemibdkpdaaGreat
