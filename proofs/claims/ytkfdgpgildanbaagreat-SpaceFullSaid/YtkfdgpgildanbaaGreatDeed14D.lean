/- The landed tape: Clone of bytes and of deeds, over, New, Deeds, Left, Copy. Contracts; no condition but that the tape lies in memory. -/
import Derived.Test.YtkfdgpgildanbaaGreatDeed14C
import Derived.Deep.RegionHeld3
namespace Go.Proofs.YtkfdgpgildanbaaGreat
open Go.RowKit
set_option linter.unusedVariables false
set_option linter.unusedSimpArgs false

theorem eqlB_nil14 (a : Option Addr) (n c : Nat) (w : World) : (binOp .eql 22 (.slice a n c) (.slice none 0 0)).run Tryz.prog w = .ok (.bool a.isNone) w := Lib.run_eql_slice_nil w 22 5 a n c 0 0 Tryz.underlying22
theorem eqlR_nil14 (a : Option Addr) (n c : Nat) (w : World) : (binOp .eql 177 (.slice a n c) (.slice none 0 0)).run Tryz.prog w = .ok (.bool a.isNone) w := Lib.run_eql_slice_nil w 177 182 a n c 0 0 Tryz.underlying177
theorem cloneB14 (X : Value) (xs : List Int) (w : World) (hX : IsBytes w w.heap.size X xs) (hm : xs.length ≤ 140737488355328) : Calls Tryz.prog 58 #[X] w (CopyDone w xs) := by
  rcases hX.2.2 with ⟨rfl, rfl⟩ | ⟨ad, cap, rfl, h1, h2, h3⟩
  · have hsn := eqlB_nil14
    clear hX
    go_enter Tryz.func58, Tryz.ntmps58
    go_wp2
    go_ret
    exact ⟨_, rfl, Owns.nil _ _ _ _ _, Below.refl _ _⟩
  · obtain ⟨i0, hi, hz0, hz1, hz2⟩ := info_parts u8_info
    have HI := Lib.hid hi
    have HZ0 := Lib.hid hz0
    have HZ1 := Lib.hid hz1
    have HZ2 := Lib.hid hz2
    have hx := hX.1
    have news : ∀ j u, (xs.map (Value.int .u8))[j]? = some u → (w.alloc (.cells #[] 5)).cell? (ad.add j) = some u := by
      intro j u hj
      have hl : j < xs.length := by
        rcases Nat.lt_or_ge j xs.length with h | h
        · exact h
        · rw [List.getElem?_eq_none (by simpa using h)] at hj
          cases hj
      have hbl : (ad.add j).block = ad.block := by unfold Addr.add; split <;> rfl
      rw [World.cell?_alloc_lt w _ _ (by rw [hbl]; exact h2 (by omega)), h3 j hl]
      simp [List.getElem?_eq_getElem hl] at hj
      subst hj
      simp [List.getD, List.getElem?_eq_getElem hl]
    have hmade := Owns.made w w.heap.size 5 1 IsU8 (Nat.le_refl _)
    have HN := Lib.hid news
    have HM := Lib.hid hmade
    have HK := Lib.hid (u8_cells hx)
    clear hi hz0 hz1 hz2 news hmade hX hx h1 h2 h3
    have hsn := eqlB_nil14
    go_enter Tryz.func58, Tryz.ntmps58
    go_wp2_with (at_builtin; refine wpList_append_q _ rfl (.tmp 5) (.tmp 6) 22 rfl w.heap.size 5 i0 _ 1 1 Tryz.underlying22 HI.out HZ0.out HZ1.out HZ2.out rfl (by decide) IsU8 zero_u8 _ 0 [] rfl HM.out ad xs.length cap (xs.map (Value.int .u8)) rfl (by simp) HN.out (ints_oneCell _ _) HK.out (by simp only [maxLen]; omega) (by omega) (by simp) ?_; intro v' w1 hown' hgrow; have R0 := Lib.hid hown'; have R1 := Lib.hid hgrow; clear hown' hgrow)
    go_ret
    refine ⟨_, rfl, ?_, ((Below.refl _ _).alloc (Nat.le_refl _) _).grown R1.out (by simp) (fun g hg => (HM.out.lt hg).1)⟩
    have h := R0.out
    simpa using h
/-- A row of deeds in memory of its own. -/
def DeedsDone (w : World) (L : List (Int × Int)) (e : Ending) (w' : World) : Prop :=
  ∃ v, e = .returned v ∧ Owns w' w.heap.size 182 2 AnyC14 v L.length (cellsD L) ∧ Below w.heap.size w w'
theorem newsD14 {w : World} {b off : Nat} {sp : Option _} {L : List (Int × Int)} {o : Obj} (h2 : 0 < L.length → sp = none ∧ b < w.heap.size)
    (h3 : ∀ i, i < L.length → w.cell? ⟨b, off + i * 2, none⟩ = some (.int .i64 (L.getD i (0, 0)).1) ∧ w.cell? ⟨b, off + i * 2 + 1, none⟩ = some (.int .i64 (L.getD i (0, 0)).2)) :
    ∀ j u, (cellsD L)[j]? = some u → (w.alloc o).cell? ((⟨b, off, sp⟩ : Addr).add j) = some u := by
  intro j u hj
  have hl : j < L.length * 2 := by
    rcases Nat.lt_or_ge j (L.length * 2) with h | h
    · exact h
    · rw [List.getElem?_eq_none (by rw [cellsD_len]; exact h)] at hj
      cases hj
  obtain ⟨rfl, hb⟩ := h2 (by omega)
  have e : (⟨b, off, none⟩ : Addr).add j = ⟨b, off + j, none⟩ := by unfold Addr.add; split <;> simp_all
  rw [e, World.cell?_alloc_lt w _ _ hb]
  obtain ⟨c1, c2⟩ := cellsD_at L (j / 2) (by omega)
  obtain ⟨d1, d2⟩ := h3 (j / 2) (by omega)
  rcases Nat.mod_two_eq_zero_or_one j with h | h
  · have hj2 : j = j / 2 * 2 := by omega
    rw [hj2] at hj ⊢
    rw [c1] at hj
    rw [d1, hj]
  · have hj2 : j = j / 2 * 2 + 1 := by omega
    rw [hj2] at hj ⊢
    rw [c2] at hj
    rw [show off + (j / 2 * 2 + 1) = off + j / 2 * 2 + 1 by omega, d2, hj]
theorem cloneD14 (X : Value) (L : List (Int × Int)) (w : World) (hX : IsDeeds w w.heap.size X L) (hm : L.length ≤ 8796093022208) : Calls Tryz.prog 136 #[X] w (DeedsDone w L) := by
  rcases hX.2 with ⟨rfl, rfl⟩ | ⟨b, off, sp, cap, rfl, h1, h2, h3⟩
  · have hsn := eqlR_nil14
    clear hX
    go_enter Tryz.func136, Tryz.ntmps136
    go_wp2
    go_ret
    exact ⟨_, rfl, Owns.nil _ _ _ _ _, Below.refl _ _⟩
  · obtain ⟨i0, hi, hz0, hz1, hz2⟩ := info_parts deed_info
    have HI := Lib.hid hi
    have HZ0 := Lib.hid hz0
    have HZ1 := Lib.hid hz1
    have HZ2 := Lib.hid hz2
    have HN := Lib.hid (newsD14 (o := .cells #[] 182) h2 h3)
    have hmade := Owns.made w w.heap.size 182 2 AnyC14 (Nat.le_refl _)
    have HM := Lib.hid hmade
    clear hi hz0 hz1 hz2 hmade hX h1 h2 h3
    have hsn := eqlR_nil14
    go_enter Tryz.func136, Tryz.ntmps136
    go_wp2_with (at_builtin; refine wpList_append_q _ rfl (.tmp 5) (.tmp 6) 177 rfl w.heap.size 182 i0 _ 2 16 Tryz.underlying177 HI.out HZ0.out HZ1.out HZ2.out rfl (by decide) AnyC14 (fun _ _ => trivial) _ 0 [] rfl HM.out ⟨b, off, sp⟩ L.length cap (cellsD L) rfl (cellsD_len L) HN.out (cellsD_one L) (fun _ _ => trivial) (by simp only [maxLen]; omega) (by omega) (by simp) ?_; intro v' w1 hown' hgrow; have R0 := Lib.hid hown'; have R1 := Lib.hid hgrow; clear hown' hgrow)
    go_ret
    refine ⟨_, rfl, ?_, ((Below.refl _ _).alloc (Nat.le_refl _) _).grown R1.out (by simp) (fun g hg => (HM.out.lt hg).1)⟩
    have h := R0.out
    simpa using h
/-- A tape that was made. -/
def NewTape (w : World) (xs : List Int) (L : List (Int × Int)) (e : Ending) (w' : World) : Prop :=
  ∃ tb X V, e = .returned (.pointer (some ⟨tb, 0, none⟩)) ∧ w.heap.size ≤ tb ∧ Tape14 w.heap.size w' tb X V xs L ∧ Below w.heap.size w w'
theorem over14 {base : Nat} {w : World} {X V : Value} {xs : List Int} {L : List (Int × Int)} (hX : OwnB base w X xs) (hV : Owns w base 182 2 AnyC14 V L.length (cellsD L)) (hf : L.length ≤ 100000) :
    Calls Tryz.prog 135 #[X, V] w fun e w' => e = .returned (.pointer (some ⟨w.heap.size, 0, none⟩)) ∧ Tape14 base w' w.heap.size X V xs L ∧ Below w.heap.size w w' := by
  obtain ⟨A, cap, hVe⟩ := owns_len14 hV
  obtain ⟨XA, xcap, hXe⟩ := hX.len
  subst hVe hXe
  have hx := heap_alloc_new w (.cells #[.pointer none, .slice XA xs.length xcap, .slice A L.length cap] 179)
  have hset := heap_alloc_new w (.cells #[.pointer (some ⟨w.heap.size, 0, none⟩), .slice XA xs.length xcap, .slice A L.length cap] 179)
  have hb2 : Below w.heap.size w (w.alloc (.cells #[.pointer (some ⟨w.heap.size, 0, none⟩), .slice XA xs.length xcap, .slice A L.length cap] 179)) := (Below.refl _ _).alloc (Nat.le_refl _) _
  have HP : Hid (Tape14 base (w.alloc (.cells #[.pointer (some ⟨w.heap.size, 0, none⟩), .slice XA xs.length xcap, .slice A L.length cap] 179)) w.heap.size (.slice XA xs.length xcap) (.slice A L.length cap) xs L ∧ Below w.heap.size w (w.alloc (.cells #[.pointer (some ⟨w.heap.size, 0, none⟩), .slice XA xs.length xcap, .slice A L.length cap] 179))) :=
    Lib.hid ⟨⟨hset, hX.but (But.of_below (R := NoBlock) hb2) (fun _ _ _ _ h => h), hV.but (But.of_below (R := NoBlock) hb2) (fun _ _ h => h), hf⟩, hb2⟩
  obtain ⟨c0, c1, c2⟩ := cells3_14 hx
  have g0 := frozen_of_row _ w.heap.size 0 _ _ hx
  clear hx hset hb2 hX hV c1 c2 hf
  generalize L.length = n at *
  generalize xs.length = m at *
  go_enter Tryz.func135, Tryz.ntmps135
  go_wp2
  go_ret
  exact ⟨rfl, HP.out⟩
set_option maxRecDepth 100000 in
theorem new14 (X : Value) (xs : List Int) (w : World) (hX : IsBytes w w.heap.size X xs) (hm : xs.length ≤ 140737488355328) : Calls Tryz.prog 170 #[X] w (NewTape w xs []) := by
  have HC := Lib.hid (cloneB14 X xs w hX hm)
  have HX := Lib.hid hX.1
  have HM := Lib.hid hm
  have HOv := Lib.hid (fun (V : Value) (W : World) (h : OwnB w.heap.size W V xs) => over14 h (Owns.nil W w.heap.size 182 2 AnyC14) (L := []) (Nat.zero_le _))
  clear hX hm
  go_enter Tryz.func170, Tryz.ntmps170
  go_wp2_with (first
    | (go_at_call 58; (with_reducible refine HC.out.mono ?_); rintro e w1 ⟨v, rfl, ho, hb⟩; have HO := Lib.hid (OwnB.of_owns ho HX.out HM.out); have HB := Lib.hid hb; clear ho hb)
    | (go_at_call 135; (with_reducible refine (HOv.out _ _ HO.out).mono ?_); rintro e w2 ⟨rfl, ht, hb⟩; have HT := Lib.hid ht; have HB2 := Lib.hid (HB.out.trans (hb.mono HB.out.size)); have HS := Lib.hid HB.out.size; clear ht hb))
  go_ret
  exact ⟨_, _, _, rfl, HS.out, HT.out, HB2.out⟩
theorem deeds14 {base tb : Nat} {w : World} {X V : Value} {xs : List Int} {L : List (Int × Int)} (h : Tape14 base w tb X V xs L) :
    Calls Tryz.prog 141 #[.pointer (some ⟨tb, 0, none⟩)] w (DeedsDone w L) := by
  have HV := Lib.hid (valid14 h)
  have HC := Lib.hid (cloneD14 V L w (IsDeeds.of_owns h.done (Nat.le_refl _)) (Nat.le_trans h.few (by decide)))
  obtain ⟨c0, c1, c2⟩ := h.cells
  clear h
  go_enter Tryz.func141, Tryz.ntmps141
  go_wp2_with (first
    | (go_at_call 134; (with_reducible refine HV.out.mono ?_); rintro e w' ⟨rfl, rfl⟩)
    | (go_at_call 136; (with_reducible refine HC.out.mono ?_); rintro e w1 ⟨v, rfl, ho, hb⟩; have HO := Lib.hid ho; have HB := Lib.hid hb; clear ho hb))
  go_ret
  exact ⟨_, rfl, HO.out, HB.out⟩
theorem deedsNo14 {w : World} {p : Value} (h : NoTape w p) : Calls Tryz.prog 141 #[p] w fun e w' => e = .returned (.slice none 0 0) ∧ w = w' := by
  have HV := Lib.hid (validNo14 h)
  clear h
  go_enter Tryz.func141, Tryz.ntmps141
  go_wp2_with (go_at_call 134; (with_reducible refine HV.out.mono ?_); rintro e w' ⟨rfl, rfl⟩)
  go_ret
  exact ⟨rfl, rfl⟩
theorem left14 {base tb : Nat} {w : World} {X V : Value} {xs : List Int} {L : List (Int × Int)} (h : Tape14 base w tb X V xs L) :
    Calls Tryz.prog 142 #[.pointer (some ⟨tb, 0, none⟩)] w fun e w' => e = .returned (.int .i64 xs.length) ∧ w = w' := by
  have HV := Lib.hid (valid14 h)
  obtain ⟨c0, c1, c2⟩ := h.cells
  obtain ⟨XA, xcap, hXe⟩ := h.left.len
  subst hXe
  clear h
  generalize xs.length = n at *
  go_enter Tryz.func142, Tryz.ntmps142
  go_wp2_with (go_at_call 134; (with_reducible refine HV.out.mono ?_); rintro e w' ⟨rfl, rfl⟩)
  go_ret
  exact ⟨rfl, rfl⟩
theorem leftNo14 {w : World} {p : Value} (h : NoTape w p) : Calls Tryz.prog 142 #[p] w fun e w' => e = .returned (.int .i64 0) ∧ w = w' := by
  have HV := Lib.hid (validNo14 h)
  clear h
  go_enter Tryz.func142, Tryz.ntmps142
  go_wp2_with (go_at_call 134; (with_reducible refine HV.out.mono ?_); rintro e w' ⟨rfl, rfl⟩)
  go_ret
  exact ⟨rfl, rfl⟩
theorem copyNo14 {w : World} {p : Value} (h : NoTape w p) : Calls Tryz.prog 70 #[p] w fun e w' => e = .returned (.pointer none) ∧ w = w' := by
  have HV := Lib.hid (validNo14 h)
  clear h
  go_enter Tryz.func70, Tryz.ntmps70
  go_wp2_with (go_at_call 134; (with_reducible refine HV.out.mono ?_); rintro e w' ⟨rfl, rfl⟩)
  go_ret
  exact ⟨rfl, rfl⟩
set_option maxRecDepth 100000 in
set_option maxHeartbeats 4000000 in
theorem copy14 {base tb : Nat} {w : World} {X V : Value} {xs : List Int} {L : List (Int × Int)} (h : Tape14 base w tb X V xs L) :
    Calls Tryz.prog 70 #[.pointer (some ⟨tb, 0, none⟩)] w (NewTape w xs L) := by
  have HV := Lib.hid (valid14 h)
  have H := Lib.hid h
  have HG : Hid (∀ W, Below w.heap.size w W → W.cell? ⟨tb, 1, none⟩ = some X ∧ W.cell? ⟨tb, 2, none⟩ = some V) := Lib.hid (fun W hb => (h.grow hb).cells.2)
  have HX := Lib.hid h.left.2.1
  have HXL := Lib.hid h.left.1
  have HCB : Hid (∀ W, Below w.heap.size w W → Calls Tryz.prog 58 #[X] W (CopyDone W xs)) := Lib.hid (fun W hb => cloneB14 X xs W (h.grow hb).left.bytes h.left.1)
  have HCD : Hid (∀ W, Below w.heap.size w W → Calls Tryz.prog 136 #[V] W (DeedsDone W L)) := Lib.hid (fun W hb => cloneD14 V L W (IsDeeds.of_owns (h.grow hb).done (Nat.le_refl _)) (Nat.le_trans h.few (by decide)))
  have HOv : Hid (∀ (A B : Value) (W : World), OwnB w.heap.size W A xs → Owns W w.heap.size 182 2 AnyC14 B L.length (cellsD L) → Calls Tryz.prog 135 #[A, B] W fun e w' => e = .returned (.pointer (some ⟨W.heap.size, 0, none⟩)) ∧ Tape14 w.heap.size w' W.heap.size A B xs L ∧ Below W.heap.size W w') := Lib.hid (fun A B W h1 h2 => over14 h1 h2 h.few)
  obtain ⟨c0, c1, c2⟩ := h.cells
  have HD := Lib.hid (show Below w.heap.size w w.drew from (Below.refl _ w).drew)
  clear h
  go_enter Tryz.func70, Tryz.ntmps70
  go_wp2_with (go_at_call 134; (with_reducible refine HV.out.mono ?_); rintro e w' ⟨rfl, rfl⟩)
  go_region_held3 (fun W => W.cell? ⟨tb, 1, none⟩ = some X ∧ W.cell? ⟨tb, 2, none⟩ = some V)
    (first | with_reducible exact HG.out _ HB3.out | with_reducible exact HG.out _ HB2.out | with_reducible exact HG.out _ HB1.out | go_keep)
    (first
      | (go_at_call 58; (with_reducible refine (HCB.out _ HD.out).mono ?_); rintro e w1 ⟨v1, rfl, ho, hb⟩; have HB1 := Lib.hid (HD.out.trans (hb.mono HD.out.size)); have HO1 := Lib.hid (show OwnB w.heap.size w1 v1 xs from OwnB.of_owns ho HX.out HXL.out); clear ho hb)
      | (go_at_call 136; (with_reducible refine (HCD.out _ HB1.out).mono ?_); rintro e w2 ⟨v2, rfl, ho, hb⟩; have HB2 := Lib.hid (HB1.out.trans (hb.mono HB1.out.size)); have HO2 := Lib.hid (show Owns w2 w.heap.size 182 2 AnyC14 v2 L.length (cellsD L) from ho.base HB1.out.size); have HO3 := Lib.hid (HO1.out.but (But.of_below (R := NoBlock) hb) (fun _ _ _ _ h => h)); clear ho hb)
      | (go_at_call 135; (with_reducible refine (HOv.out _ _ _ HO3.out HO2.out).mono ?_); rintro e w3 ⟨rfl, ht, hb⟩; have HB3 := Lib.hid (HB2.out.trans (hb.mono HB2.out.size)); have HT := Lib.hid ht; have HS := Lib.hid HB2.out.size; clear ht hb))
  all_goals
    go_wp2
    go_ret
    exact ⟨_, _, _, rfl, HS.out, HT.out, HB3.out⟩
end Go.Proofs.YtkfdgpgildanbaaGreat
