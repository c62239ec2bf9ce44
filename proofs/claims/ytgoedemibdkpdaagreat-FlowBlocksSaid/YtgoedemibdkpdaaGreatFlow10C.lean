/- The landed followers. Contract; no condition but that the instructions lie in a row and that the goals are theirs. -/
import Derived.Test.YtgoedemibdkpdaaGreatFlow10B
import Derived.Test.YtgoedemibdkpdaaGreatS15
import Derived.Deep.RegionLaw
namespace Go.Proofs.YtgoedemibdkpdaaGreat
open Go.RowKit
set_option linter.unusedVariables false
set_option linter.unusedSimpArgs false

def FolDone (w : World) (l : List InsV) (n : Nat) (e : Ending) (w' : World) : Prop :=
  Below w.heap.size w w' ∧ ∃ g Xs, e = .returned (.slice (some ⟨g, 0, none⟩) n n) ∧ Lists w.heap.size w' g n Xs (nextV l)
theorem but_own {W W' : World} {V : Value} {base : Nat} (hb : Below base W W') (hk : ∀ i, i < W.heap.size → some i ≠ V.ownBlock → W'.heap[i]? = W.heap[i]?) (hs : W.heap.size ≤ W'.heap.size) : But (OwnB V) W W' :=
  ⟨hb.os, hb.tape, hb.output, hs, fun i hi hn => hk i hi (fun e => hn e.symm)⟩
theorem cellD_but {R : Nat → Prop} {w w' : World} (h : But R w w') {b o : Nat} (hk : b < w.heap.size) (hn : ¬ R b) : w'.cell? ⟨b, o, none⟩ = w.cell? ⟨b, o, none⟩ := h.cell (p := ⟨b, o, none⟩) hk hn
/-- What followers has in memory ahead of a round. -/
structure FolIn (w W1 wr : World) (g n k : Nat) (Xs : Nat → Value) (l : List InsV) : Prop where
  but : But (OneBlock g) W1 wr
  lists : Lists w.heap.size wr g n Xs (fun i => if i < k then nextV l i else [])
  rest : ∀ i, k ≤ i → i < n → Xs i = .slice none 0 0
theorem FolIn.next {w W1 wr W : World} {g n k : Nat} {Xs : Nat → Value} {V : Value} {l : List InsV} {xs : List Int} (h : FolIn w W1 wr g n k Xs l) (hf : FolAt wr W g n k Xs V xs) (hx : xs = nextV l k) (hw : w.heap.size ≤ wr.heap.size) :
    FolIn w W1 W g n (k + 1) (fun i => if i = k then V else Xs i) l := by
  have hl := hf.done h.lists hw
  refine ⟨h.but.trans hf.but, ⟨hl.ge, hl.row, fun i hi => ?_⟩, fun i h1 h2 => ?_⟩
  · have := hl.own i hi
    by_cases e : i = k
    · subst e
      rw [if_pos (by omega), ← hx]
      simpa using this
    · simp only [if_neg e] at this ⊢
      by_cases e2 : i < k
      · rw [if_pos e2] at this
        rw [if_pos (by omega)]
        exact this
      · rw [if_neg e2] at this
        rw [if_neg (by omega)]
        exact this
  · rw [if_neg (by omega)]
    exact h.rest i (by omega) h2
set_option maxRecDepth 100000 in
set_option maxHeartbeats 16000000 in
theorem followers_any (V : Value) (l : List InsV) (g0 o0 cp0 : Nat) (w : World) (h : IsCode w w.heap.size V l) (hg : IsNums .i64 w w.heap.size (.slice (some ⟨g0, o0, none⟩) l.length cp0) (goalsV l)) (hln : l.length ≤ 4096) :
    Calls Tryz.prog 21 #[V, .slice (some ⟨g0, o0, none⟩) l.length cp0] w (FolDone w l l.length) := by
  obtain ⟨A, cap, rfl⟩ := h.len
  have HC := Lib.hid h
  have HG := Lib.hid hg
  obtain ⟨n, hn⟩ : ∃ n, n = l.length := ⟨_, rfl⟩
  have HN := Lib.hid hn
  have hmk := make_lists n (by omega)
  have HMI := Lib.hid (lists_made n w)
  rw [← hn] at HC HG hln ⊢
  have hn1 : (n : Int) ≤ 4096 := by omega
  clear h hg hn
  generalize madeCells (Value.slice none 0 0).cells (n * 1) = mi at *
  go_enter Tryz.func21, Tryz.ntmps21
  go_wp2
  obtain ⟨W1, hW1⟩ : ∃ W1, W1 = w.alloc (.cells mi 32) := ⟨_, rfl⟩
  have hbw : Below w.heap.size w W1 := by rw [hW1]; exact (Below.refl _ _).alloc (Nat.le_refl _) _
  rw [← hW1] at HMI
  have HBW := Lib.hid hbw
  have HWL := Lib.hid (show w.heap.size < W1.heap.size by rw [hW1]; simp)
  have HCW := Lib.hid (HC.out.below hbw (Nat.le_refl _) (Nat.le_refl _))
  have HGW := Lib.hid (HG.out.below hbw (Nat.le_refl _))
  clear hbw
  go_loopw [13] (fun i wr => ∃ (k : Nat) (Xs : Nat → Value), k ≤ n ∧ i = .int .i64 k ∧ Hid (FolIn w W1 wr w.heap.size n k Xs l)) (fun i _ => n - (intOf i).toNat)
  case atStart => exact ⟨0, fun _ => .slice none 0 0, by omega, rfl, ⟨by rw [← hW1]; exact But.refl _ _, by rw [← hW1]; exact ⟨Nat.le_refl _, HMI.out, fun i hi => Owns.nil _ _ _ _ _⟩, fun _ _ _ => rfl⟩⟩
  case round =>
    clear hW1
    obtain ⟨k, Xs, hk, rfl, HR⟩ := hrel
    have hnot : ∀ j, j < w.heap.size → ¬ OneBlock w.heap.size j := fun j hj hc => by rw [show j = w.heap.size from hc] at hj; omega
    have hgw : w.heap.size < wr.heap.size := Nat.lt_of_lt_of_le HWL.out HR.out.but.size
    have hcw : IsCode wr w.heap.size (.slice A n cap) l := HCW.out.but HR.out.but (Nat.le_of_lt HWL.out) hnot
    by_cases hlt : k < n
    · have hadd : wrap64 ((k : Int) + 1) = (k : Int) + 1 := by unfold wrap64; omega
      have k0 : (0 : Int) ≤ (k : Int) := by omega
      have k1 : (k : Int) < (n : Int) := by omega
      obtain ⟨b, off, cap', hV, hcp, hbB, hcl⟩ := hcw.plain (by rw [← HN.out]; omega)
      rw [← HN.out] at hV
      cases hV
      clear hcw hcp
      have hkl : k < l.length := by rw [← HN.out]; exact hlt
      obtain ⟨X, hX, hcell⟩ := hcl k hkl
      have hgn := HGW.out.but HR.out.but (Nat.le_of_lt HWL.out) hnot
      have hgll : (goalsV l).length = n := by rw [HN.out]; simp [goalsV]
      obtain ⟨gb, go, gc, hV, _, hgB, hgc⟩ := hgn.plain (by rw [hgll]; omega)
      rw [hgll] at hV
      cases hV
      have hgk := hgc k (by rw [hgll]; exact hlt)
      have hgl : (goalsV l).getD k 0 = goalV (placesV l 0) (l.getD k .zero) := by simp [goalsV, List.getD, List.getElem?_eq_getElem hkl]
      rw [hgl] at hgk
      have hgbd := (goal_bd (placesV l 0) (l.getD k .zero)).1
      have hghi := goal_lt (l := l) (n := k)
      rw [← HN.out] at hghi
      have HTD := Lib.hid (tidy_next (flsV (l.getD k .zero)) (goalV (placesV l 0) (l.getD k .zero)) k)
      have HNX : Hid (nextV l k = nxV (flsV (l.getD k .zero)) (goalV (placesV l 0) (l.getD k .zero)) k) := Lib.hid rfl
      rw [← HNX.out] at HTD
      generalize goalV (placesV l 0) (l.getD k .zero) = gv at *
      obtain ⟨⟨op, a, b1, c, n1, args⟩, hy⟩ : ∃ y, y = l.getD k .zero := ⟨_, rfl⟩
      rw [← hy] at hX hcell HTD
      have c0 : wr.cell? ⟨b, off + k * 6, none⟩ = some (.int .i64 op) := hcell 0 (by omega)
      have c1 : wr.cell? ⟨b, off + k * 6 + 1, none⟩ = some (.int .i64 a) := hcell 1 (by omega)
      have c2 : wr.cell? ⟨b, off + k * 6 + 2, none⟩ = some (.int .i64 b1) := hcell 2 (by omega)
      have c3 : wr.cell? ⟨b, off + k * 6 + 3, none⟩ = some (.int .i64 c) := hcell 3 (by omega)
      have c4 : wr.cell? ⟨b, off + k * 6 + 4, none⟩ = some (.int .i64 n1) := hcell 4 (by omega)
      have c5 : wr.cell? ⟨b, off + k * 6 + 5, none⟩ = some X := hcell 5 (by omega)
      dsimp only at hX
      obtain ⟨XA, Xc, rfl⟩ := hX.len
      have hbox := (Below.refl wr.heap.size wr).alloc (Nat.le_refl _) (.cells (insCells op a b1 c n1 (.slice XA args.length Xc)) 37)
      have HF := Lib.hid (falls_any op a b1 c n1 (.slice XA args.length Xc) (wr.alloc (.cells (insCells op a b1 c n1 (.slice XA args.length Xc)) 37)))
      have HFE : Hid (flsV ⟨op, a, b1, c, n1, args⟩ = fallsV op) := Lib.hid rfl
      rw [HFE.out] at HTD
      have HFA := Lib.hid ((FolAt.start HR.out.lists.row (HR.out.rest k (Nat.le_refl _) hlt)).grow hbox)
      have HSO := Lib.hid (fun W V xs h hl => sort_any wr.heap.size W V xs h hl)
      have HCO := Lib.hid (fun W V xs h hl => compact_any wr.heap.size W V xs h hl)
      have HGO : Hid (∀ W, But (OneBlock w.heap.size) wr W → W.cell? ⟨g0, o0 + k, none⟩ = some (.int .i64 gv)) := Lib.hid (fun W hb => (cellD_but hb (by omega) (hnot _ hgB)).trans hgk)
      have HWR := Lib.hid (Nat.le_of_lt hgw)
      have HLT := Lib.hid hlt
      clear hcell hX hcl hy hgn hgc hgk hgl hgll HFE HNX hbox hnot
      cases hf : fallsV op with
      | true =>
        rw [hf] at HF HTD
        by_cases hg0 : 0 ≤ gv
        · have gne : (gv != (-1)) = true := by simp; omega
          have HTE : Hid (Lib.compact (sortV [(k : Int) + 1, gv]) = nextV l k) := Lib.hid (by have := HTD.out; unfold tidyV rawN at this; rw [if_pos rfl, if_pos hg0] at this; exact this)
          clear HTD hf
          go_wp2_with (first
            | (go_at_call 33; (with_reducible refine HF.out.mono ?_); rintro e w2 ⟨rfl, hb⟩; have HF2 := Lib.hid (HFA.out.grow hb); have hgk2 := HGO.out w2 HF2.out.but; obtain ⟨p2, q2⟩ := HF2.out.cell HLT.out; have HS2 := Lib.hid HF2.out.but.size; clear hb)
            | (at_builtin; (refine wpList_outW rfl _ _ rfl (xs := []) rfl rfl HF2.out.own HS2.out (by decide) ?_; intro V6 w6 ho hb hk6 hs6 hw6; have ho : OutN wr.heap.size w6 V6 [(k : Int) + 1] := ho; have HM6 := Lib.hid (HF2.out.mid (but_own hb hk6 hs6) ho); obtain ⟨a6, c6, h6⟩ := owns_len ho; have h6 : V6 = .slice a6 1 c6 := h6; subst h6; obtain ⟨p6, q6⟩ := HM6.out.cell HLT.out; have HF7 := Lib.hid HM6.out.lay; have hgk6 := HGO.out _ HM6.out.but; have hgk7 := HGO.out _ HF7.out.but; have HS7 := Lib.hid HF7.out.but.size; clear ho hb hk6 hs6 hw6)))
          have HF7d := Lib.hid (show FolAt wr (w6.setCell ⟨w.heap.size, k, none⟩ (.slice a6 1 c6)).drew w.heap.size n k Xs (.slice a6 1 c6) [(k : Int) + 1] from HF7.out.grow (Below.refl _ _).drew)
          have HF7a := Lib.hid (HF7.out.grow ((Below.refl (w6.setCell ⟨w.heap.size, k, none⟩ (.slice a6 1 c6)).heap.size _).alloc (Nat.le_refl _) (.cells #[.int .i64 gv] 3)))
          obtain ⟨p7, q7⟩ := HF7.out.cell HLT.out
          obtain ⟨p7a, q7a⟩ := HF7a.out.cell HLT.out
          go_region_law ((refine step_outW (W := (w6.setCell ⟨w.heap.size, k, none⟩ (.slice a6 1 c6)).drew) (V := .slice a6 1 c6) (xs := [(k : Int) + 1]) (z := gv) (base := wr.heap.size) rfl (.tmp 41) (.tmp 46) rfl rfl (show Value.slice (some ⟨w6.heap.size, 0, none⟩) 1 1 = _ by simp) HF7d.out.own (by have := HS7.out; simpa using this) (by simp) ?_; intro V8 w8 ho hb hk8 hs8 hw8; have ho : OutN wr.heap.size w8 V8 [(k : Int) + 1, gv] := ho; have HM8 := Lib.hid (HF7d.out.mid (but_own hb hk8 hs8) ho); obtain ⟨a8, c8, h8⟩ := owns_len ho; have h8 : V8 = .slice a8 2 c8 := h8; subst h8; obtain ⟨p8, q8⟩ := HM8.out.cell HLT.out; have HF9 := Lib.hid HM8.out.lay; clear ho hb hk8 hs8 hw8))
          all_goals go_wp2_with (first
            | (go_at_call 36; (with_reducible refine (HSO.out _ _ _ HF9.out.own (by simp)).mono ?_); rintro e w9 ⟨rfl, ho, hb⟩; have HF10 := Lib.hid (HF9.out.touch hb ho); obtain ⟨p10, q10⟩ := HF10.out.cell HLT.out; clear ho hb)
            | (go_at_call 37; (with_reducible refine (HCO.out _ _ _ HF10.out.own (by rw [sort_length]; simp)).mono ?_); rintro e w11 ⟨V11, rfl, ho, hb⟩; have HM11 := Lib.hid (HF10.out.mid hb ho); obtain ⟨p11, q11⟩ := HM11.out.cell HLT.out; have HF12 := Lib.hid HM11.out.lay; obtain ⟨m, hm⟩ : ∃ m, m = (Lib.compact (sortV [(k : Int) + 1, gv])).length := ⟨_, rfl⟩; obtain ⟨a11, c11, h11⟩ := owns_len ho; rw [← hm] at h11; subst h11; clear ho hb hm))
          all_goals
            go_roundw
            case rel => exact ⟨k + 1, _, by omega, by go_num, HR.out.next HF12.out HTE.out HWR.out⟩
            case measure => simp [intOf]; omega
        · obtain rfl : gv = -1 := by omega
          have HTE : Hid (Lib.compact (sortV [(k : Int) + 1]) = nextV l k) := Lib.hid (by have := HTD.out; unfold tidyV rawN at this; rw [if_pos rfl, if_neg hg0] at this; exact this)
          clear HTD hf
          go_wp2_with (first
            | (go_at_call 33; (with_reducible refine HF.out.mono ?_); rintro e w2 ⟨rfl, hb⟩; have HF2 := Lib.hid (HFA.out.grow hb); have hgk2 := HGO.out w2 HF2.out.but; obtain ⟨p2, q2⟩ := HF2.out.cell HLT.out; have HS2 := Lib.hid HF2.out.but.size; clear hb)
            | (at_builtin; (refine wpList_outW rfl _ _ rfl (xs := []) rfl rfl HF2.out.own HS2.out (by decide) ?_; intro V6 w6 ho hb hk6 hs6 hw6; have ho : OutN wr.heap.size w6 V6 [(k : Int) + 1] := ho; have HM6 := Lib.hid (HF2.out.mid (but_own hb hk6 hs6) ho); obtain ⟨a6, c6, h6⟩ := owns_len ho; have h6 : V6 = .slice a6 1 c6 := h6; subst h6; obtain ⟨p6, q6⟩ := HM6.out.cell HLT.out; have HF7 := Lib.hid HM6.out.lay; have hgk6 := HGO.out _ HM6.out.but; have hgk7 := HGO.out _ HF7.out.but; have HS7 := Lib.hid HF7.out.but.size; clear ho hb hk6 hs6 hw6))
            | (go_at_call 36; (with_reducible refine (HSO.out _ _ _ HF7.out.own (by simp)).mono ?_); rintro e w9 ⟨rfl, ho, hb⟩; have HF10 := Lib.hid (HF7.out.touch hb ho); obtain ⟨p10, q10⟩ := HF10.out.cell HLT.out; clear ho hb)
            | (go_at_call 37; (with_reducible refine (HCO.out _ _ _ HF10.out.own (by rw [sort_length]; simp)).mono ?_); rintro e w11 ⟨V11, rfl, ho, hb⟩; have HM11 := Lib.hid (HF10.out.mid hb ho); obtain ⟨p11, q11⟩ := HM11.out.cell HLT.out; have HF12 := Lib.hid HM11.out.lay; obtain ⟨m, hm⟩ : ∃ m, m = (Lib.compact (sortV [(k : Int) + 1])).length := ⟨_, rfl⟩; obtain ⟨a11, c11, h11⟩ := owns_len ho; rw [← hm] at h11; subst h11; clear ho hb hm))
          go_roundw
          case rel => exact ⟨k + 1, _, by omega, by go_num, HR.out.next HF12.out HTE.out HWR.out⟩
          case measure => simp [intOf]; omega
      | false =>
        rw [hf] at HF HTD
        by_cases hg0 : 0 ≤ gv
        · have gne : (gv != (-1)) = true := by simp; omega
          have HTE : Hid (Lib.compact (sortV [gv]) = nextV l k) := Lib.hid (by have := HTD.out; unfold tidyV rawN at this; rw [if_neg (by simp), if_pos hg0] at this; exact this)
          clear HTD hf
          go_wp2_with ((go_at_call 33; (with_reducible refine HF.out.mono ?_); rintro e w2 ⟨rfl, hb⟩; have HF2 := Lib.hid (HFA.out.grow hb); have hgk2 := HGO.out w2 HF2.out.but; obtain ⟨p2, q2⟩ := HF2.out.cell HLT.out; have HS2 := Lib.hid HF2.out.but.size; clear hb))
          have HF7d := Lib.hid (show FolAt wr w2.drew w.heap.size n k Xs (.slice none 0 0) [] from HF2.out.grow (Below.refl _ _).drew)
          have HF7a := Lib.hid (HF2.out.grow ((Below.refl w2.heap.size w2).alloc (Nat.le_refl _) (.cells #[.int .i64 gv] 3)))
          obtain ⟨p7a, q7a⟩ := HF7a.out.cell HLT.out
          go_region_law ((refine step_outW (W := w2.drew) (V := .slice none 0 0) (xs := []) (z := gv) (base := wr.heap.size) rfl (.tmp 41) (.tmp 46) rfl rfl rfl HF7d.out.own HS2.out (by decide) ?_; intro V8 w8 ho hb hk8 hs8 hw8; have ho : OutN wr.heap.size w8 V8 [gv] := ho; have HM8 := Lib.hid (HF7d.out.mid (but_own hb hk8 hs8) ho); obtain ⟨a8, c8, h8⟩ := owns_len ho; have h8 : V8 = .slice a8 1 c8 := h8; subst h8; obtain ⟨p8, q8⟩ := HM8.out.cell HLT.out; have HF9 := Lib.hid HM8.out.lay; clear ho hb hk8 hs8 hw8))
          all_goals go_wp2_with (first
            | (go_at_call 36; (with_reducible refine (HSO.out _ _ _ HF9.out.own (by simp)).mono ?_); rintro e w9 ⟨rfl, ho, hb⟩; have HF10 := Lib.hid (HF9.out.touch hb ho); obtain ⟨p10, q10⟩ := HF10.out.cell HLT.out; clear ho hb)
            | (go_at_call 37; (with_reducible refine (HCO.out _ _ _ HF10.out.own (by rw [sort_length]; simp)).mono ?_); rintro e w11 ⟨V11, rfl, ho, hb⟩; have HM11 := Lib.hid (HF10.out.mid hb ho); obtain ⟨p11, q11⟩ := HM11.out.cell HLT.out; have HF12 := Lib.hid HM11.out.lay; obtain ⟨m, hm⟩ : ∃ m, m = (Lib.compact (sortV [gv])).length := ⟨_, rfl⟩; obtain ⟨a11, c11, h11⟩ := owns_len ho; rw [← hm] at h11; subst h11; clear ho hb hm))
          all_goals
            go_roundw
            case rel => exact ⟨k + 1, _, by omega, by go_num, HR.out.next HF12.out HTE.out HWR.out⟩
            case measure => simp [intOf]; omega
        · obtain rfl : gv = -1 := by omega
          have HTE : Hid (Lib.compact (sortV []) = nextV l k) := Lib.hid (by have := HTD.out; unfold tidyV rawN at this; rw [if_neg (by simp), if_neg hg0] at this; exact this)
          clear HTD hf
          go_wp2_with (first
            | (go_at_call 33; (with_reducible refine HF.out.mono ?_); rintro e w2 ⟨rfl, hb⟩; have HF2 := Lib.hid (HFA.out.grow hb); have hgk2 := HGO.out w2 HF2.out.but; obtain ⟨p2, q2⟩ := HF2.out.cell HLT.out; have HS2 := Lib.hid HF2.out.but.size; clear hb)
            | (go_at_call 36; (with_reducible refine (HSO.out _ _ _ HF2.out.own (by simp)).mono ?_); rintro e w9 ⟨rfl, ho, hb⟩; have HF10 := Lib.hid (HF2.out.touch hb ho); obtain ⟨p10, q10⟩ := HF10.out.cell HLT.out; clear ho hb)
            | (go_at_call 37; (with_reducible refine (HCO.out _ _ _ HF10.out.own (by rw [sort_length]; simp)).mono ?_); rintro e w11 ⟨V11, rfl, ho, hb⟩; have HM11 := Lib.hid (HF10.out.mid hb ho); obtain ⟨p11, q11⟩ := HM11.out.cell HLT.out; have HF12 := Lib.hid HM11.out.lay; obtain ⟨m, hm⟩ : ∃ m, m = (Lib.compact (sortV [])).length := ⟨_, rfl⟩; obtain ⟨a11, c11, h11⟩ := owns_len ho; rw [← hm] at h11; subst h11; clear ho hb hm))
          go_roundw
          case rel => exact ⟨k + 1, _, by omega, by go_num, HR.out.next HF12.out HTE.out HWR.out⟩
          case measure => simp [intOf]; omega
    · obtain rfl : k = n := by omega
      go_wp2
      go_ret
      refine ⟨But.below HBW.out HR.out.but HBW.out.size (fun j hj => by rw [show j = w.heap.size from hj]; exact Nat.le_refl _), _, _, rfl, HR.out.lists.ge, HR.out.lists.row, fun i hi => ?_⟩
      have := HR.out.lists.own i hi
      rw [if_pos hi] at this
      exact this
end Go.Proofs.YtgoedemibdkpdaaGreat
