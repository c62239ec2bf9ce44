/- The landed leaders. Contract; no condition but that the instructions lie in a row and that the goals are theirs. -/
import Derived.Test.YtgoedemibdkpdaaGreatFlow10E
namespace Go.Proofs.YtgoedemibdkpdaaGreat
open Go.RowKit
set_option linter.unusedVariables false
set_option linter.unusedSimpArgs false

def LeadDone (w : World) (l : List InsV) (e : Ending) (w' : World) : Prop :=
  Below w.heap.size w w' ∧ ∃ V, e = .returned V ∧ OutN w.heap.size w' V (leadI l)
theorem own_below {base : Nat} {w W W' : World} {V : Value} {xs : List Int} (h : Below base w W) (ho : OutN base W V xs) (hb : But (OwnB V) W W') (hw : base ≤ w.heap.size) : Below base w W' :=
  But.below h hb (Nat.le_trans hw h.size) (fun k hk => by
    by_cases hv : V = .slice none 0 0
    · subst hv; simp [OwnB, Value.ownBlock] at hk
    · exact (ho.lt hk).1)
theorem zero_new (w : World) : OutN w.heap.size (w.alloc (.cells #[.int .i64 0] 3)) (.slice (some ⟨w.heap.size, 0, none⟩) 1 1) [0] :=
  OutN.of_block (cap := 1) (ys := [0]) (Nat.le_refl _) (heap_alloc_new w _) (by decide) (by decide) rfl rfl (fun u hu => by simp at hu; subst hu; exact ⟨_, rfl⟩)
set_option maxRecDepth 100000 in
set_option maxHeartbeats 16000000 in
theorem leaders_any (V : Value) (l : List InsV) (g0 o0 cp0 : Nat) (w : World) (h : IsCode w w.heap.size V l) (hg : IsNums .i64 w w.heap.size (.slice (some ⟨g0, o0, none⟩) l.length cp0) (goalsV l)) (hln : l.length ≤ 4096) (hl0 : 0 < l.length) :
    Calls Tryz.prog 20 #[V, .slice (some ⟨g0, o0, none⟩) l.length cp0] w (LeadDone w l) := by
  obtain ⟨A, cap, rfl⟩ := h.len
  have HC := Lib.hid h
  have HG := Lib.hid hg
  have HTL := Lib.hid (tidy_leaders hl0)
  obtain ⟨n, hn⟩ : ∃ n, n = l.length := ⟨_, rfl⟩
  have HN := Lib.hid hn
  rw [← hn] at HC HG hln HTL ⊢
  have hn1 : (n : Int) ≤ 4096 := by omega
  have HZ := Lib.hid (zero_new w)
  have HRL := Lib.hid (fun k => rawL_len l k)
  have HRS := Lib.hid (fun k => rawL_succ l k)
  clear h hg hn hl0
  go_enter Tryz.func20, Tryz.ntmps20
  go_wp2
  go_loopw [5, 12] (fun out i wr => ∃ (k : Nat), k ≤ n ∧ i = .int .i64 k ∧ Hid (OutN w.heap.size wr out (rawL l k) ∧ Below w.heap.size w wr)) (fun _ i _ => n - (intOf i).toNat)
  case atStart => exact ⟨0, by omega, rfl, ⟨HZ.out, (Below.refl _ _).alloc (Nat.le_refl _) _⟩⟩
  case round =>
    obtain ⟨k, hk, rfl, HR⟩ := hrel
    obtain ⟨ho, hb⟩ := HR.out
    obtain ⟨oA, oc, hoe, _⟩ := out_len ho
    have HO := Lib.hid ho
    have HB := Lib.hid hb
    have HLN : Hid ((rawL l k).length ≤ 20000) := Lib.hid (by have := HRL.out k; omega)
    obtain ⟨ol, hol⟩ : ∃ ol, ol = (rawL l k).length := ⟨_, rfl⟩
    have HOL := Lib.hid hol
    rw [← hol] at hoe
    subst hoe
    clear ho hol HR
    by_cases hlt : k < n
    · have hadd : wrap64 ((k : Int) + 1) = (k : Int) + 1 := by unfold wrap64; omega
      have k0 : (0 : Int) ≤ (k : Int) := by omega
      have k1 : (k : Int) < (n : Int) := by omega
      have hcw : IsCode wr w.heap.size (.slice A n cap) l := HC.out.below hb (Nat.le_refl _) (Nat.le_refl _)
      obtain ⟨b, off, cap', hV, hcp, hbB, hcl⟩ := hcw.plain (by rw [← HN.out]; omega)
      rw [← HN.out] at hV
      cases hV
      clear hcw hcp
      have hkl : k < l.length := by rw [← HN.out]; exact hlt
      obtain ⟨X, hX, hcell⟩ := hcl k hkl
      have hgn := HG.out.below hb (Nat.le_refl _)
      have hgll : (goalsV l).length = n := by rw [HN.out]; simp [goalsV]
      obtain ⟨gb, go, gc, hV, _, hgB, hgc⟩ := hgn.plain (by rw [hgll]; omega)
      rw [hgll] at hV
      cases hV
      have hgk := hgc k (by rw [hgll]; exact hlt)
      have hgl : (goalsV l).getD k 0 = goalV (placesV l 0) (l.getD k .zero) := by simp [goalsV, List.getD, List.getElem?_eq_getElem hkl]
      rw [hgl] at hgk
      have hgbd := (goal_bd (placesV l 0) (l.getD k .zero)).1
      have HR1 : Hid (rawL1 l k = (if 0 ≤ goalV (placesV l 0) (l.getD k .zero) then [goalV (placesV l 0) (l.getD k .zero)] else []) ++ (if (0 ≤ goalV (placesV l 0) (l.getD k .zero) ∨ flsV (l.getD k .zero) = false) ∧ k + 1 < l.length then [(k : Int) + 1] else [])) := Lib.hid rfl
      rw [← HN.out] at HR1
      generalize goalV (placesV l 0) (l.getD k .zero) = gv at *
      obtain ⟨⟨op, a, b1, c, n1, args⟩, hy⟩ : ∃ y, y = l.getD k .zero := ⟨_, rfl⟩
      rw [← hy] at hX hcell HR1
      have c0 : wr.cell? ⟨b, off + k * 6, none⟩ = some (.int .i64 op) := hcell 0 (by omega)
      have c1 : wr.cell? ⟨b, off + k * 6 + 1, none⟩ = some (.int .i64 a) := hcell 1 (by omega)
      have c2 : wr.cell? ⟨b, off + k * 6 + 2, none⟩ = some (.int .i64 b1) := hcell 2 (by omega)
      have c3 : wr.cell? ⟨b, off + k * 6 + 3, none⟩ = some (.int .i64 c) := hcell 3 (by omega)
      have c4 : wr.cell? ⟨b, off + k * 6 + 4, none⟩ = some (.int .i64 n1) := hcell 4 (by omega)
      have c5 : wr.cell? ⟨b, off + k * 6 + 5, none⟩ = some X := hcell 5 (by omega)
      dsimp only at hX
      obtain ⟨XA, Xc, rfl⟩ := hX.len
      have hbox := (Below.refl wr.heap.size wr).alloc (Nat.le_refl _) (.cells (insCells op a b1 c n1 (.slice XA args.length Xc)) 37)
      have HF := Lib.hid (falls_any op a b1 c n1 (.slice XA args.length Xc) (wr.alloc (.cells (insCells op a b1 c n1 (.slice XA args.length Xc)) 37)))
      have HFE : Hid (flsV ⟨op, a, b1, c, n1, args⟩ = fallsV op) := Lib.hid rfl
      rw [HFE.out] at HR1
      have HO1 := Lib.hid (HO.out.below hbox (Nat.le_refl _))
      have HB1 := Lib.hid (HB.out.alloc HB.out.size (.cells (insCells op a b1 c n1 (.slice XA args.length Xc)) 37))
      have HGO : Hid (∀ W, Below w.heap.size w W → W.cell? ⟨g0, o0 + k, none⟩ = some (.int .i64 gv)) := Lib.hid (fun W hb2 => (hb2.cell (p := ⟨g0, o0 + k, none⟩) hgB).trans ((hb.cell (p := ⟨g0, o0 + k, none⟩) hgB).symm.trans hgk))
      have HLT := Lib.hid hlt
      have HRK := Lib.hid (HRS.out k)
      clear hcell hX hcl hy hgn hgc hgk hgl hgll HFE
      generalize rawL l k = rk at *
      have gk1 := HGO.out _ HB1.out
      clear hbox hb
      by_cases hg0 : 0 ≤ gv
      · have gne : (gv != (-1)) = true := by simp; omega
        by_cases hk2 : k + 1 < n
        · have hk3 : (k : Int) + 1 < (n : Int) := by omega
          have HE : Hid (rawL1 l k = [gv] ++ [(k : Int) + 1]) := Lib.hid (by rw [HR1.out, if_pos hg0, if_pos ⟨.inl hg0, hk2⟩])
          go_wp2_with (first
            | (at_builtin; (refine wpList_outN (W := (wr.alloc (.cells (insCells op a b1 c n1 (.slice XA args.length Xc)) 37))) (z := gv) rfl (.tmp 22) (.tmp 27) rfl rfl (show Value.slice (some ⟨wr.heap.size + 1, 0, none⟩) 1 1 = Value.slice (some ⟨(wr.alloc (.cells (insCells op a b1 c n1 (.slice XA args.length Xc)) 37)).heap.size, 0, none⟩) 1 1 by simp) HO1.out HB1.out.size (by have := HLN.out; simp; omega) ?_; intro V6 w6 ho hb hk; obtain ⟨a6, c6, h6, _⟩ := out_len ho; obtain ⟨q6, hq6⟩ : ∃ q, q = (rk ++ [gv]).length := ⟨_, rfl⟩; rw [← hq6] at h6; subst h6; have HO6 := Lib.hid ho; have HB6 := Lib.hid (HB1.out.trans hb); have gk6 := HGO.out _ HB6.out; clear ho hb hk hq6))
            | (at_builtin; (refine wpList_outN (z := (k : Int) + 1) rfl _ _ rfl rfl rfl HO6.out HB6.out.size (by have := HLN.out; simp; omega) ?_; intro V7 w7 ho hb hk; obtain ⟨a7, c7, h7, _⟩ := out_len ho; obtain ⟨q7, hq7⟩ : ∃ q, q = (rk ++ [gv] ++ [(k : Int) + 1]).length := ⟨_, rfl⟩; rw [← hq7] at h7; subst h7; have HO7 := Lib.hid ho; have HB7 := Lib.hid (HB6.out.trans hb); have gk7 := HGO.out _ HB7.out; clear ho hb hk hq7)))
          go_roundw
          case rel => exact ⟨k + 1, by omega, by go_num, ⟨by rw [HRK.out, HE.out]; rw [← List.append_assoc]; exact HO7.out, HB7.out⟩⟩
          case measure => simp [intOf]; omega
        · have hk3 : ¬ (k : Int) + 1 < (n : Int) := by omega
          have HE : Hid (rawL1 l k = [gv]) := Lib.hid (by rw [HR1.out, if_pos hg0, if_neg (fun hc => hk2 hc.2), List.append_nil])
          go_wp2_with (at_builtin; (refine wpList_outN (W := (wr.alloc (.cells (insCells op a b1 c n1 (.slice XA args.length Xc)) 37))) (z := gv) rfl (.tmp 22) (.tmp 27) rfl rfl (show Value.slice (some ⟨wr.heap.size + 1, 0, none⟩) 1 1 = Value.slice (some ⟨(wr.alloc (.cells (insCells op a b1 c n1 (.slice XA args.length Xc)) 37)).heap.size, 0, none⟩) 1 1 by simp) HO1.out HB1.out.size (by have := HLN.out; simp; omega) ?_; intro V6 w6 ho hb hk; obtain ⟨a6, c6, h6, _⟩ := out_len ho; obtain ⟨q6, hq6⟩ : ∃ q, q = (rk ++ [gv]).length := ⟨_, rfl⟩; rw [← hq6] at h6; subst h6; have HO6 := Lib.hid ho; have HB6 := Lib.hid (HB1.out.trans hb); have gk6 := HGO.out _ HB6.out; clear ho hb hk hq6))
          go_roundw
          case rel => exact ⟨k + 1, by omega, by go_num, ⟨by rw [HRK.out, HE.out]; exact HO6.out, HB6.out⟩⟩
          case measure => simp [intOf]; omega
      · obtain rfl : gv = -1 := by omega
        cases hf : fallsV op with
        | true =>
          rw [hf] at HF HR1
          have HE : Hid (rawL1 l k = []) := Lib.hid (by rw [HR1.out, if_neg hg0, if_neg (fun hc => hc.1.elim hg0 (fun h => by cases h))]; rfl)
          go_wp2_with (go_at_call 33; (with_reducible refine HF.out.mono ?_); rintro e w4 ⟨rfl, hb⟩; have HO4 := Lib.hid (HO1.out.below hb (Nat.le_refl _)); have HB4 := Lib.hid (HB1.out.trans (hb.mono HB1.out.size)); have gk4 := HGO.out _ HB4.out; clear hb)
          go_roundw
          case rel => exact ⟨k + 1, by omega, by go_num, ⟨by rw [HRK.out, HE.out]; rw [List.append_nil]; exact HO4.out, HB4.out⟩⟩
          case measure => simp [intOf]; omega
        | false =>
          rw [hf] at HF HR1
          by_cases hk2 : k + 1 < n
          · have hk3 : (k : Int) + 1 < (n : Int) := by omega
            have HE : Hid (rawL1 l k = [(k : Int) + 1]) := Lib.hid (by rw [HR1.out, if_neg hg0, if_pos ⟨.inr rfl, hk2⟩]; rfl)
            go_wp2_with (first
              | (go_at_call 33; (with_reducible refine HF.out.mono ?_); rintro e w4 ⟨rfl, hb⟩; have HO4 := Lib.hid (HO1.out.below hb (Nat.le_refl _)); have HB4 := Lib.hid (HB1.out.trans (hb.mono HB1.out.size)); have gk4 := HGO.out _ HB4.out; clear hb)
              | (at_builtin; (refine wpList_outN (z := (k : Int) + 1) rfl _ _ rfl rfl rfl HO4.out HB4.out.size (by have := HLN.out; simp; omega) ?_; intro V7 w7 ho hb hk; obtain ⟨a7, c7, h7, _⟩ := out_len ho; obtain ⟨q7, hq7⟩ : ∃ q, q = (rk ++ [(k : Int) + 1]).length := ⟨_, rfl⟩; rw [← hq7] at h7; subst h7; have HO7 := Lib.hid ho; have HB7 := Lib.hid (HB4.out.trans hb); have gk7 := HGO.out _ HB7.out; clear ho hb hk hq7)))
            go_roundw
            case rel => exact ⟨k + 1, by omega, by go_num, ⟨by rw [HRK.out, HE.out]; exact HO7.out, HB7.out⟩⟩
            case measure => simp [intOf]; omega
          · have hk3 : ¬ (k : Int) + 1 < (n : Int) := by omega
            have HE : Hid (rawL1 l k = []) := Lib.hid (by rw [HR1.out, if_neg hg0, if_neg (fun hc => hk2 hc.2)]; rfl)
            go_wp2_with (go_at_call 33; (with_reducible refine HF.out.mono ?_); rintro e w4 ⟨rfl, hb⟩; have HO4 := Lib.hid (HO1.out.below hb (Nat.le_refl _)); have HB4 := Lib.hid (HB1.out.trans (hb.mono HB1.out.size)); have gk4 := HGO.out _ HB4.out; clear hb)
            go_roundw
            case rel => exact ⟨k + 1, by omega, by go_num, ⟨by rw [HRK.out, HE.out]; rw [List.append_nil]; exact HO4.out, HB4.out⟩⟩
            case measure => simp [intOf]; omega
    · obtain rfl : k = n := by omega
      have HSO := Lib.hid (sort_any w.heap.size wr _ _ HO.out (by have := HLN.out; omega))
      go_wp2_with (first
        | (go_at_call 36; (with_reducible refine HSO.out.mono ?_); rintro e w2 ⟨rfl, ho, hb⟩; have HO2 := Lib.hid ho; have HB2 := Lib.hid (own_below HB.out HO.out hb (Nat.le_refl _)); clear ho hb)
        | (go_at_call 37; (with_reducible refine (compact_any w.heap.size w2 _ _ HO2.out (by have := HLN.out; rw [sort_length]; omega)).mono ?_); rintro e w3 ⟨V3, rfl, ho, hb⟩; have HO3 := Lib.hid ho; have HB3 := Lib.hid (own_below HB2.out HO2.out hb (Nat.le_refl _)); clear ho hb))
      go_ret
      refine ⟨HB3.out, _, rfl, ?_⟩
      rw [← HTL.out]
      exact HO3.out
end Go.Proofs.YtgoedemibdkpdaaGreat
