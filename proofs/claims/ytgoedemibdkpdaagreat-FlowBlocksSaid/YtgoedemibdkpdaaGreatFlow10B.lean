/- The landed targets and Check. Contracts; no condition but that the instructions lie in a row. -/
import Derived.Test.YtgoedemibdkpdaaGreatFlow10A
namespace Go.Proofs.YtgoedemibdkpdaaGreat
open Go.RowKit
set_option linter.unusedVariables false
set_option linter.unusedSimpArgs false

theorem check_join {l : List InsV} (h : joinE l ≠ 0) : check10 l = joinE l := by unfold check10; rw [if_pos h]
theorem check_none {l : List InsV} (h : joinE l = 0) (h0 : l.length = 0) : check10 l = 10 := by unfold check10; rw [if_neg (not_not_intro h), if_pos h0]
theorem check_stray {l : List InsV} (h : joinE l = 0) {k : Nat} (hk : k < l.length) (hs : strayB (placesV l 0) (l.getD k .zero) = true) : check10 l = 13 := by
  unfold check10
  rw [if_neg (not_not_intro h), if_neg (by omega), if_pos]
  rw [List.any_eq_true]
  exact ⟨l.getD k .zero, by simp [List.getD, List.getElem?_eq_getElem hk], hs⟩
theorem check_rest {l : List InsV} (h : joinE l = 0) (h0 : 0 < l.length) (hs : ∀ k, k < l.length → strayB (placesV l 0) (l.getD k .zero) = false) : check10 l = if flsV (lastV l) then 10 else 0 := by
  unfold check10
  rw [if_neg (not_not_intro h), if_neg (by omega), if_neg]
  intro hc
  obtain ⟨y, hy, hb⟩ := List.any_eq_true.1 hc
  obtain ⟨k, hk, rfl⟩ := List.getElem_of_mem hy
  have := hs k hk
  have e : l.getD k .zero = l[k] := by simp [List.getD, List.getElem?_eq_getElem hk]
  rw [e, hb] at this
  cases this
theorem tgt_in {y : InsV} (h : InI y.n) : InI (tgtV y) := by
  rw [tgt_has]
  split
  · exact h
  · exact ⟨by decide, by decide⟩
theorem out_row {w : World} {base g n : Nat} {f : Nat → Int} {xs : List Int} (hg : base ≤ g) (h : RowAt w g n 3 (fun i => .int .i64 (f i))) (hn : n ≤ maxLen) (hl : xs.length = n) (hx : ∀ i, i < n → xs.getD i 0 = f i) : OutN base w (.slice (some ⟨g, 0, none⟩) n n) xs := by
  obtain ⟨cur, h1, h2, h3⟩ := h
  have e : cur.toList = xs.map (Value.int .i64) := by
    apply List.ext_getElem?
    intro i
    rw [Array.getElem?_toList, List.getElem?_map]
    rcases Nat.lt_or_ge i n with hi | hi
    · rw [h3 i hi, List.getElem?_eq_getElem (by omega)]
      show some (Value.int .i64 (f i)) = _
      rw [← hx i hi]
      simp [List.getD, List.getElem?_eq_getElem (show i < xs.length by omega)]
    · rw [Array.getElem?_eq_none (by omega), List.getElem?_eq_none (by omega)]
      rfl
  have := OutN.of_block (cap := n) (ys := xs) hg h1 (by omega) hn h2 (by rw [e]; exact List.take_of_length_le (by simp)) (by rw [e]; exact num_cells _ _)
  rwa [hl] at this
def TargetsN (w : World) (l : List InsV) (n : Nat) (e : Ending) (w' : World) : Prop :=
  Below w.heap.size w w' ∧ ((check10 l ≠ 0 ∧ e = .returned (.tuple #[.slice none 0 0, .int .i64 (check10 l)])) ∨
    (check10 l = 0 ∧ ∃ g, e = .returned (.tuple #[.slice (some ⟨g, 0, none⟩) n n, .int .i64 0]) ∧ OutN w.heap.size w' (.slice (some ⟨g, 0, none⟩) n n) (goalsV l)))
def TargetsDone (w : World) (l : List InsV) (e : Ending) (w' : World) : Prop := TargetsN w l l.length e w'
theorem targets_bad {w w' : World} {l : List InsV} {n : Nat} {z : Int} (h : check10 l = z) (h0 : z ≠ 0) (hb : Below w.heap.size w w') : TargetsN w l n (.returned (.tuple #[.slice none 0 0, .int .i64 z])) w' :=
  ⟨hb, .inl ⟨by rw [h]; exact h0, by rw [h]⟩⟩
/-- What targets has in memory. -/
structure TarAt (w W2 wr : World) (lb gb n k : Nat) (l : List InsV) : Prop where
  but : But (OneBlock gb) W2 wr
  row : RowAt wr gb n 3 (fun i => .int .i64 (if i < k then goalV (placesV l 0) (l.getD i .zero) else 0))
  ok : ∀ i, i < k → strayB (placesV l 0) (l.getD i .zero) = false
set_option maxRecDepth 100000 in
set_option maxHeartbeats 16000000 in
theorem targets_any (V : Value) (l : List InsV) (w : World) (h : IsCode w w.heap.size V l) : Calls Tryz.prog 18 #[V] w (TargetsDone w l) := by
  have HJ := Lib.hid (join7_any V l w h)
  obtain ⟨A, cap, rfl⟩ := h.len
  by_cases hj : joinE l = 0
  case neg =>
    have HC := Lib.hid (check_join hj)
    have HJ2 := Lib.hid (HJ.out.mono fun e w' hh => hh.resolve_right (fun h => hj h.1))
    have HN := Lib.hid hj
    have hne : (joinE l != 0) = true := by simpa using hj
    generalize joinE l = z at *
    clear h hj HJ
    go_enter Tryz.func18, Tryz.ntmps18
    go_wp2_with (go_at_call 30; (with_reducible refine HJ2.out.mono ?_); rintro e w1 ⟨_, rfl, hb⟩; have HB1 := Lib.hid hb; clear hb)
    go_ret2
    exact targets_bad HC.out HN.out HB1.out
  case pos =>
    have HJ2 := Lib.hid (HJ.out.mono fun e w' hh => (hh.resolve_left (fun h => h.1 hj)).2)
    clear HJ
    by_cases h0 : l.length = 0
    · have HC := Lib.hid (check_none hj h0)
      rw [h0] at HJ2 ⊢
      clear h
      go_enter Tryz.func18, Tryz.ntmps18
      go_wp2_with (go_at_call 30; (with_reducible refine HJ2.out.mono ?_); rintro e w1 ⟨v, rfl, ho⟩; obtain ⟨bA, bc, hvb⟩ := owns_len ho.own; subst hvb; have HB1 := Lib.hid ho.bel; clear ho)
      go_ret2
      exact targets_bad HC.out (by decide) HB1.out
    · have hln : l.length ≤ 4096 := by have := all_length l; have := (first_all hj).2; omega
      have hbd : ∀ x ∈ allB l, 0 ≤ x ∧ x < 256 := by
        intro x hx
        obtain ⟨y, _, hy⟩ := List.mem_flatMap.1 hx
        exact y.bytes_bd x hy
      have HNB := Lib.hid (fun X W hX => numbers_any X l W hX hj)
      have HC := Lib.hid h
      have HIN := Lib.hid h.2.1
      have HST := Lib.hid (fun k hk hs => check_stray hj (k := k) hk hs)
      have HRE := Lib.hid (fun hs => check_rest hj (by omega) hs)
      have HBD := Lib.hid hbd
      obtain ⟨n, hn⟩ : ∃ n, n = l.length := ⟨_, rfl⟩
      have HN := Lib.hid hn
      have hmk := make_ints n (by omega)
      have HMI := Lib.hid (fun W => ints_made n W)
      show Calls _ _ _ _ (TargetsN w l l.length)
      rw [← hn] at HC HJ2 hln h0 HST HRE ⊢
      have hn0 : 0 < n := by omega
      have hn0' : ((n : Int) == 0) = false := by simpa using (by omega : ¬ (n : Int) = 0)
      have hn1 : (n : Int) ≤ 4096 := by omega
      have hn2 : (0 : Int) < (n : Int) := by omega
      have HLN := Lib.hid hln
      clear h hj hn hbd
      generalize madeCells (Value.int .i64 0).cells (n * 1) = mi at *
      go_enter Tryz.func18, Tryz.ntmps18
      go_wp2_with (first
        | (go_at_call 30; go_loud ((with_reducible refine HJ2.out.mono ?_); rintro e w1 ⟨v, rfl, ho⟩; obtain ⟨bA, bc, hvb⟩ := owns_len ho.own; subst hvb; have HB1 := Lib.hid ho.bel; have HX1 := Lib.hid (ho.bytes HBD.out (Nat.le_refl _)); clear ho))
        | (go_at_call 31; (with_reducible refine (HNB.out _ _ HX1.out).mono ?_); rintro e w2 ⟨hb, lb, m, rfl, hlb, hlab⟩; have HB2 := Lib.hid (HB1.out.trans (hb.mono HB1.out.size)); have HL2 := Lib.hid hlab; have HLB := Lib.hid (Nat.le_trans HB1.out.size hlb); clear hb hlb hlab))
      obtain ⟨W2, hW2⟩ : ∃ W2, W2 = w2.alloc (.cells mi 3) := ⟨_, rfl⟩
      have HMK := Lib.hid (HMI.out w2)
      rw [← hW2] at HMK
      have hb2 : Below w2.heap.size w2 W2 := by rw [hW2]; exact (Below.refl _ _).alloc (Nat.le_refl _) _
      have HBW := Lib.hid (HB2.out.trans (hb2.mono HB2.out.size))
      have HLW := Lib.hid (HL2.out.below hb2 HL2.out.lt)
      have HLT := Lib.hid HL2.out.lt
      have HGB := Lib.hid HB2.out.size
      have HCW := Lib.hid ((HC.out.below HBW.out (Nat.le_refl _) (Nat.le_refl _)))
      have HWL := Lib.hid (show w2.heap.size < W2.heap.size by rw [hW2]; simp)
      clear hb2 HL2
      go_loopw [31] (fun i wr => ∃ k : Nat, k ≤ n ∧ i = .int .i64 k ∧ Hid (TarAt w W2 wr lb w2.heap.size n k l)) (fun i _ => n - (intOf i).toNat)
      case atStart => exact ⟨0, by omega, rfl, ⟨by rw [← hW2]; exact But.refl _ _, by rw [← hW2]; exact HMK.out.congr fun i hi => by simp [intsV], fun i hi => absurd hi (by omega)⟩⟩
      case round =>
        clear hW2
        obtain ⟨k, hk, rfl, HR⟩ := hrel
        have hcw : IsCode wr w.heap.size (.slice A n cap) l := HCW.out.but HR.out.but (Nat.le_trans HGB.out (Nat.le_of_lt HWL.out)) (fun j hj hc => by rw [show j = w2.heap.size from hc] at hj; have := HGB.out; omega)
        have HCR := Lib.hid hcw
        obtain ⟨b, off, cap', hV, hcp, hbB, hcl⟩ := hcw.plain (by rw [← HN.out]; omega)
        rw [← HN.out] at hV
        cases hV
        clear hcw hcp
        by_cases hlt : k < n
        · have hkl : k < l.length := by rw [← HN.out]; exact hlt
          obtain ⟨X, hX, hcell⟩ := hcl k hkl
          have hin := code_getD HC.out hkl
          obtain ⟨⟨op, a, b1, c, n1, args⟩, hy⟩ : ∃ y, y = l.getD k .zero := ⟨_, rfl⟩
          have HY := Lib.hid hy
          rw [← hy] at hX hcell hin
          have c0 : wr.cell? ⟨b, off + k * 6, none⟩ = some (.int .i64 op) := hcell 0 (by omega)
          have c1 : wr.cell? ⟨b, off + k * 6 + 1, none⟩ = some (.int .i64 a) := hcell 1 (by omega)
          have c2 : wr.cell? ⟨b, off + k * 6 + 2, none⟩ = some (.int .i64 b1) := hcell 2 (by omega)
          have c3 : wr.cell? ⟨b, off + k * 6 + 3, none⟩ = some (.int .i64 c) := hcell 3 (by omega)
          have c4 : wr.cell? ⟨b, off + k * 6 + 4, none⟩ = some (.int .i64 n1) := hcell 4 (by omega)
          have c5 : wr.cell? ⟨b, off + k * 6 + 5, none⟩ = some X := hcell 5 (by omega)
          have g0 := HR.out.row.cell hlt
          have g1 := HR.out.row.frozen k
          rw [if_neg (Nat.lt_irrefl k)] at g0
          dsimp only at hX
          obtain ⟨XA, Xc, rfl⟩ := hX.len
          have hgw : w2.heap.size < wr.heap.size := by have := HR.out.but.size; have := HWL.out; omega
          have k0 : (0 : Int) ≤ (k : Int) := by omega
          have k1 : (k : Int) < (n : Int) := by omega
          -- the world when Target is called
          obtain ⟨W3, hW3⟩ : ∃ W3, W3 = (wr.setCell ⟨w2.heap.size, k, none⟩ (.int .i64 (-1))).alloc (.cells #[.int .i64 op, .int .i64 a, .int .i64 b1, .int .i64 c, .int .i64 n1, .slice XA args.length Xc] 37) := ⟨_, rfl⟩
          have hbut3 : But (OneBlock w2.heap.size) W2 W3 := by rw [hW3]; exact (HR.out.but.setCell (p := ⟨w2.heap.size, k, none⟩) (.inl rfl) _).alloc _
          have hrow3 : RowAt W3 w2.heap.size n 3 (fun i => if i = k then .int .i64 (-1) else .int .i64 (if i < k then goalV (placesV l 0) (l.getD i .zero) else 0)) := by
            have := HR.out.row.set k (.int .i64 (-1))
            rw [hW3]
            exact this.below ((Below.refl (wr.setCell ⟨w2.heap.size, k, none⟩ (.int .i64 (-1))).heap.size _).alloc (Nat.le_refl _) _) this.lt
          have hX3 : IsNums .i64 W3 W3.heap.size (.slice XA args.length Xc) args := by
            have := (hX.but (w' := W3) (R := OneBlock w2.heap.size) (by rw [hW3]; exact ((But.refl (OneBlock w2.heap.size) wr).setCell (p := ⟨w2.heap.size, k, none⟩) (.inl rfl) _).alloc _) (by have := HR.out.but.size; have := HGB.out; have := HWL.out; omega) (fun j hj hc => by rw [show j = w2.heap.size from hc] at hj; have := HGB.out; omega))
            exact this.more (by have := hbut3.size; have := HGB.out; have := HWL.out; omega)
          have HT := Lib.hid (target_any op a b1 c n1 (.slice XA args.length Xc) args W3 hX3)
          have HTE : Hid (firstV 116 (itemsOf (shapeI op) a b1 c n1 args) = tgtV ⟨op, a, b1, c, n1, args⟩) := Lib.hid rfl
          rw [HTE.out] at HT
          have HI := Lib.hid (tgt_in (y := ⟨op, a, b1, c, n1, args⟩) hin.n)
          have HB3 := Lib.hid hbut3
          have HR3 := Lib.hid hrow3
          have HSB : Hid (strayB (placesV l 0) ⟨op, a, b1, c, n1, args⟩ = decide (0 ≤ tgtV ⟨op, a, b1, c, n1, args⟩ ∧ atV (placesV l 0) (tgtV ⟨op, a, b1, c, n1, args⟩) < 0)) := Lib.hid rfl
          have HGO : Hid (goalV (placesV l 0) ⟨op, a, b1, c, n1, args⟩ = if 0 ≤ tgtV ⟨op, a, b1, c, n1, args⟩ then atV (placesV l 0) (tgtV ⟨op, a, b1, c, n1, args⟩) else -1) := Lib.hid rfl
          generalize tgtV ⟨op, a, b1, c, n1, args⟩ = t at *
          have HW3 := Lib.hid hW3
          clear hcell hX hcl hin hy hbut3 hrow3 hX3 HTE
          by_cases ht : 0 ≤ t
          · have ht' : (0 : Int) ≤ t := ht
            have hlk : ∀ W, Below W3.heap.size W3 W → (Instr.lookup 64 (.map (some lb)) (.int .i64 t) true).run Tryz.prog W = .ok (.tuple #[.int .i64 ((lookV (placesV l 0) t).getD 0), .bool (lookV (placesV l 0) t).isSome]) W := fun W hb =>
              ((HLW.out.but HB3.out (fun hc => by have : lb = w2.heap.size := hc; have := HLT.out; omega)).below hb (by have := HB3.out.size; have := HLT.out; have := HWL.out; omega)).look_ok HI.out
            have HLK := Lib.hid hlk
            clear hlk
            by_cases hat : atV (placesV l 0) t < 0
            · have el : lookV (placesV l 0) t = none := by unfold lookV; rw [if_pos hat]
              rw [el] at HLK
              have HE := Lib.hid (HST.out k (by exact hlt) (by rw [← HY.out, HSB.out]; exact decide_eq_true ⟨ht, hat⟩))
              clear hat el
              go_wp2_with (go_at_call 32; rw [← hW3]; (with_reducible refine HT.out.mono ?_); rintro e w4 ⟨rfl, hb⟩; have lk := HLK.out w4 hb; have HB4 := Lib.hid (HB3.out.trans (But.of_below hb)); clear hb)
              go_ret2
              exact targets_bad HE.out (by decide) (But.below HBW.out HB4.out HBW.out.size (fun j hj => by rw [show j = w2.heap.size from hj]; exact HGB.out))
            · have el : lookV (placesV l 0) t = some (atV (placesV l 0) t) := by unfold lookV; rw [if_neg hat]
              rw [el] at HLK
              have HS0 := Lib.hid (show strayB (placesV l 0) ⟨op, a, b1, c, n1, args⟩ = false by rw [HSB.out]; exact decide_eq_false (fun hc => hat hc.2))
              have HG0 := Lib.hid (show goalV (placesV l 0) ⟨op, a, b1, c, n1, args⟩ = atV (placesV l 0) t by rw [HGO.out, if_pos ht])
              generalize atV (placesV l 0) t = q at *
              clear hat el
              go_wp2_with (go_at_call 32; rw [← hW3]; (with_reducible refine HT.out.mono ?_); rintro e w4 ⟨rfl, hb⟩; have lk := HLK.out w4 hb; have HR4 := Lib.hid (HR3.out.below hb HR3.out.lt); have g2 := HR4.out.cell hlt; have g3 := HR4.out.frozen k; rw [if_pos rfl] at g2; have HB4 := Lib.hid (HB3.out.trans (But.of_below hb)); clear hb)
              go_roundw
              case rel =>
                refine ⟨k + 1, by omega, by go_num, ⟨HB4.out.setCell (p := ⟨w2.heap.size, k, none⟩) (.inl rfl) _, (HR4.out.set k _).congr fun i hi => ?_, fun i hi => ?_⟩⟩
                · by_cases e : i = k
                  · subst e
                    rw [if_pos rfl, if_pos (by omega), ← HY.out, HG0.out]
                  · rw [if_neg e, if_neg e]
                    by_cases e2 : i < k
                    · rw [if_pos e2, if_pos (by omega)]
                    · rw [if_neg e2, if_neg (by omega)]
                · by_cases e : i = k
                  · subst e
                    rw [← HY.out]
                    exact HS0.out
                  · exact HR.out.ok i (by omega)
              case measure => simp [intOf]; omega
          · have ht' : ¬ (0 : Int) ≤ t := ht
            have HS0 := Lib.hid (show strayB (placesV l 0) ⟨op, a, b1, c, n1, args⟩ = false by rw [HSB.out]; exact decide_eq_false (fun hc => ht hc.1))
            have HG0 := Lib.hid (show goalV (placesV l 0) ⟨op, a, b1, c, n1, args⟩ = -1 by rw [HGO.out, if_neg ht])
            go_wp2_with (go_at_call 32; rw [← hW3]; (with_reducible refine HT.out.mono ?_); rintro e w4 ⟨rfl, hb⟩; have HR4 := Lib.hid (HR3.out.below hb HR3.out.lt); have HB4 := Lib.hid (HB3.out.trans (But.of_below hb)); clear hb)
            go_roundw
            case rel =>
              refine ⟨k + 1, by omega, by go_num, ⟨HB4.out, HR4.out.congr fun i hi => ?_, fun i hi => ?_⟩⟩
              · by_cases e : i = k
                · subst e
                  rw [if_pos rfl, if_pos (by omega), ← HY.out, HG0.out]
                · rw [if_neg e]
                  by_cases e2 : i < k
                  · rw [if_pos e2, if_pos (by omega)]
                  · rw [if_neg e2, if_neg (by omega)]
              · by_cases e : i = k
                · subst e
                  rw [← HY.out]
                  exact HS0.out
                · exact HR.out.ok i (by omega)
            case measure => simp [intOf]; omega
        · obtain rfl : k = n := by omega
          obtain ⟨X, hX, hcell⟩ := hcl (k - 1) (by rw [← HN.out]; omega)
          have hy : lastV l = l.getD (k - 1) .zero := by unfold lastV; rw [HN.out]
          rw [← hy] at hX hcell
          have HCK := Lib.hid (HRE.out (fun i hi => HR.out.ok i (by have := HN.out; omega)))
          obtain ⟨m, hm⟩ : ∃ m, m = k - 1 := ⟨_, rfl⟩
          rw [← hm] at hcell
          have hm' : (k : Int) - 1 = (m : Int) := by omega
          have hmw : wrap64 ((k : Int) - 1) = (m : Int) := by rw [hm']; unfold wrap64; omega
          have m0 : (0 : Int) ≤ (m : Int) := by omega
          have m1 : (m : Int) < (k : Int) := by omega
          generalize lastV l = y at *
          obtain ⟨op, a, b1, c, n1, args⟩ := y
          have c0 : wr.cell? ⟨b, off + m * 6, none⟩ = some (.int .i64 op) := hcell 0 (by omega)
          have c1 : wr.cell? ⟨b, off + m * 6 + 1, none⟩ = some (.int .i64 a) := hcell 1 (by omega)
          have c2 : wr.cell? ⟨b, off + m * 6 + 2, none⟩ = some (.int .i64 b1) := hcell 2 (by omega)
          have c3 : wr.cell? ⟨b, off + m * 6 + 3, none⟩ = some (.int .i64 c) := hcell 3 (by omega)
          have c4 : wr.cell? ⟨b, off + m * 6 + 4, none⟩ = some (.int .i64 n1) := hcell 4 (by omega)
          have c5 : wr.cell? ⟨b, off + m * 6 + 5, none⟩ = some X := hcell 5 (by omega)
          obtain ⟨XA, Xc, rfl⟩ := hX.len
          have HF := Lib.hid (falls_any op a b1 c n1 (.slice XA args.length Xc) wr)
          have HFE : Hid (flsV ⟨op, a, b1, c, n1, args⟩ = fallsV op) := Lib.hid rfl
          rw [HFE.out] at HCK
          clear hcell hX hcl hy hm HFE
          cases hf : fallsV op with
          | true =>
            rw [hf] at HF
            have HCK2 : Hid (check10 l = 10) := Lib.hid (by have := HCK.out; rw [hf] at this; simpa using this)
            clear HCK
            go_wp2_with (go_at_call 33; (with_reducible refine HF.out.mono ?_); rintro e w4 ⟨rfl, hb⟩; have HB4 := Lib.hid (HR.out.but.trans (But.of_below hb)); clear hb)
            go_ret2
            exact targets_bad HCK2.out (by decide) (But.below HBW.out HB4.out HBW.out.size (fun j hj => by rw [show j = w2.heap.size from hj]; exact HGB.out))
          | false =>
            rw [hf] at HF
            have HCK2 : Hid (check10 l = 0) := Lib.hid (by have := HCK.out; rw [hf] at this; simpa using this)
            clear HCK
            go_wp2_with (go_at_call 33; (with_reducible refine HF.out.mono ?_); rintro e w4 ⟨rfl, hb⟩; have HR4 := Lib.hid (HR.out.row.below hb HR.out.row.lt); have HB4 := Lib.hid (HR.out.but.trans (But.of_below hb)); clear hb)
            go_ret2
            refine ⟨But.below HBW.out HB4.out HBW.out.size (fun j hj => by rw [show j = w2.heap.size from hj]; exact HGB.out), .inr ⟨HCK2.out, w2.heap.size, rfl, ?_⟩⟩
            refine out_row HGB.out HR4.out (by have := HLN.out; unfold maxLen; omega) (by simp [goalsV, HN.out]) (fun i hi => ?_)
            rw [if_pos hi]
            simp [goalsV, List.getD, List.getElem?_eq_getElem (show i < l.length by rw [← HN.out]; exact hi)]
end Go.Proofs.YtgoedemibdkpdaaGreat
