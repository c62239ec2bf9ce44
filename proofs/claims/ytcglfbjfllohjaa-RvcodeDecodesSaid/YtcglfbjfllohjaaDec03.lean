/- A word decoded: the contract of rvcode.Decode, for any word. No condition but that the word has 32 bits. -/
import Derived.Test.YtcglfbjfllohjaaEncB03
namespace Go.Proofs.Ytcglfbjfllohjaa
open Go.RowKit
set_option linter.unusedVariables false

theorem results_cell_slot {P : Program} {fn : Func} {p q : Tmp} {ty : TypeId} (h : fn.results = #[.cell p ty, .tmp q]) (tmps : Array Value) (w : World) (g : Nat) (t : TypeId) (cs : Array Value) (fr : Nat × Nat) (d : TypeDesc)
    (hp : tmps.getD p undef = .pointer (some ⟨g, 0, none⟩)) (hg : w.heap[g]? = some (.cells cs t fr))
    (hu : P.underlying ty = some d) (hd : (match d with | .struct _ | .array _ _ => true | _ => false) = true) (hi : (P.info? ty).map (·.size) = some cs.size) :
    (results fn tmps).run P w = .ok (.tuple #[.agg cs, tmps.getD q undef]) w := by
  have hp' : tmps[p]?.getD undef = .pointer (some ⟨g, 0, none⟩) := by simpa using hp
  simp [results, h, hp', asAddr, run_loadVar_row w g t ty cs fr d hg hu hd hi]
theorem fiveD_set {w1 : World} {g : Nat} {t : TypeId} {v0 v1 v2 v3 v4 c0 c1 c2 c3 c4 : Value} (h : w1.heap[g]? = some (.cells #[c0, c1, c2, c3, c4] t (0, 0))) :
    (((((w1.setCell ⟨g, 0, none⟩ v0).setCell ⟨g, 1, none⟩ v1).setCell ⟨g, 2, none⟩ v2).setCell ⟨g, 3, none⟩ v3).setCell ⟨g, 4, none⟩ v4).heap[g]? = some (.cells #[v0, v1, v2, v3, v4] t (0, 0)) := by
  have e0 := heap_setCell_same w1 g 0 _ t v0 h
  have e1 := heap_setCell_same _ g 1 _ t v1 e0
  have e2 := heap_setCell_same _ g 2 _ t v2 e1
  have e3 := heap_setCell_same _ g 3 _ t v3 e2
  have e4 := heap_setCell_same _ g 4 _ t v4 e3
  exact e4
theorem fiveD_below {B : Nat} {w w1 : World} {g : Nat} {v0 v1 v2 v3 v4 : Value} (h : Below B w w1) (hg : B ≤ g) :
    Below B w (((((w1.setCell ⟨g, 0, none⟩ v0).setCell ⟨g, 1, none⟩ v1).setCell ⟨g, 2, none⟩ v2).setCell ⟨g, 3, none⟩ v3).setCell ⟨g, 4, none⟩ v4) :=
  ((((h.setCell (p := ⟨g, 0, none⟩) hg _).setCell (p := ⟨g, 1, none⟩) hg _).setCell (p := ⟨g, 2, none⟩) hg _).setCell (p := ⟨g, 3, none⟩) hg _).setCell (p := ⟨g, 4, none⟩) hg _
theorem blockD_free {w : World} {g : Nat} {cs : Array Value} {t : TypeId} (h : w.heap[g]? = some (.cells cs t (0, 0))) (j : Nat) : w.frozen? ⟨g, j, none⟩ = false := by simp [World.frozen?, h]
theorem rvD_size : (Try.prog.info? 23).map (·.size) = some 5 := by kernel_rfl
/-- What Decode answers. -/
def DecDone (w : World) (x : Int) (e : Ending) (w' : World) : Prop :=
  ((∃ y : RvV, IsWord y x ∧ e = .returned (.tuple #[.agg #[.int .i64 y.op, .int .i64 y.rd, .int .i64 y.rs1, .int .i64 y.rs2, .int .i64 y.imm], .int .i64 0])) ∨
    ((∀ y, ¬ IsWord y x) ∧ e = .returned (.tuple #[.agg #[.int .i64 0, .int .i64 0, .int .i64 0, .int .i64 0, .int .i64 0], .int .i64 16]))) ∧ Below w.heap.size w w'
/-- The loop's state: the answer's place untouched, the table, no row that fits so far. -/
structure DecAt (w W : World) (x : Int) (g k : Nat) (wr : World) : Prop where
  res : wr.heap[w.heap.size]? = some (.cells #[.int .i64 0, .int .i64 0, .int .i64 0, .int .i64 0, .int .i64 0] 23 (0, 0))
  row : wr.heap[g]? = some (.cells rows1 40 (0, 0))
  bel : Below w.heap.size w wr
  no : ∀ j : Nat, 1 ≤ j → j < k → ¬ IsWord (readsV j x) x
theorem DecAt.grow {w W wr wr' : World} {x : Int} {g k : Nat} (h : DecAt w W x g k wr) (hb : Below wr.heap.size wr wr') : DecAt w W x g k wr' :=
  ⟨(hb.block _ (heap_lt h.res)).trans h.res, (hb.block _ (heap_lt h.row)).trans h.row, h.bel.trans (hb.mono h.bel.size), h.no⟩
theorem DecAt.next {w W wr : World} {x : Int} {g k : Nat} (h : DecAt w W x g k wr) (hk : 1 ≤ k → ¬ IsWord (readsV k x) x) : DecAt w W x g (k + 1) wr :=
  ⟨h.res, h.row, h.bel, fun j h1 h2 => by
    by_cases e : j = k
    · subst e; exact hk h1
    · exact h.no j h1 (by omega)⟩
theorem DecAt.none {w W wr : World} {x : Int} {g : Nat} (h : DecAt w W x g 64 wr) : ∀ y, ¬ IsWord y x := fun y hy => by
  have h1 := (isWord_at hy).1
  have h2 := (isWord_at hy).2.1
  refine h.no y.op.toNat (by omega) (by omega) ?_
  rw [show ((y.op.toNat : Nat) : Int) = y.op by omega]
  exact isWord_row hy
set_option maxHeartbeats 8000000 in
set_option maxRecDepth 100000 in
theorem dec_any (x : Int) (w : World) (hx : 0 ≤ x) (hx' : x < 4294967296) : Calls Try.prog 19 #[.int .u32 x] w (DecDone w x) := by
  have HX := Lib.hid (And.intro hx hx')
  go_enter Try.func19, Try.ntmps19
  go_wp2_with (go_at_call 33; (with_reducible refine (rows_any _).mono ?_); rintro e w1 ⟨rfl, hg, hb⟩; have HG := Lib.hid hg; have HB := Lib.hid hb; clear hg hb)
  have hst : DecAt w w x (w.heap.size + 1) 0 w1 :=
    ⟨(HB.out.block _ (by simp)).trans (heap_alloc_new w _), by have := HG.out; simpa using this, ((Below.refl _ _).alloc (Nat.le_refl _) _).trans (HB.out.mono (by simp)), fun j h1 h2 => by omega⟩
  have HST := Lib.hid hst
  clear hst HG HB
  go_loopw [11] (fun i wr => ∃ k : Nat, k ≤ 64 ∧ i = .int .i64 k ∧ Hid (DecAt w w x (w.heap.size + 1) k wr)) (fun i _ => 64 - (intOf i).toNat)
  case atStart => exact ⟨0, by omega, rfl, HST⟩
  case round =>
    obtain ⟨k, hk, rfl, hq⟩ := hrel
    by_cases hlt : k < 64
    · obtain ⟨c0, c1, c2, c3, c4⟩ := rows_cells hq.out.row hlt
      have hgl := heap_lt hq.out.row
      have hk0 : (0 : Int) ≤ (k : Int) := by omega
      have hk1 : (k : Int) < 64 := by omega
      by_cases h0 : k = 0
      · subst h0
        have e1 : letB 0 = 0 := rfl
        have e2 : aB 0 = 0 := rfl
        have e3 : bB 0 = 0 := rfl
        have e4 : cB 0 = 0 := rfl
        rw [e1] at c1
        rw [e2] at c2
        rw [e3] at c3
        rw [e4] at c4
        clear e1 e2 e3 e4
        generalize nameB 0 = s0 at *
        have c0 : wr.cell? ⟨w.heap.size + 1, 0, none⟩ = some (.string s0) := c0
        have c1 : wr.cell? ⟨w.heap.size + 1, 1, none⟩ = some (.int .u8 0) := c1
        have c2 : wr.cell? ⟨w.heap.size + 1, 2, none⟩ = some (.int .u8 0) := c2
        have c3 : wr.cell? ⟨w.heap.size + 1, 3, none⟩ = some (.int .u8 0) := c3
        have c4 : wr.cell? ⟨w.heap.size + 1, 4, none⟩ = some (.int .u8 0) := c4
        go_wp2_with (go_at_call 27; (with_reducible refine (own_0 _ _).mono ?_); rintro e w2 ⟨rfl, hb⟩; have B2 := Lib.hid hb; have fm := (hb.cell (p := ⟨wr.heap.size, 1, none⟩) (by simp)).trans (new_cell _ _ _ _ _ _ rfl rfl); clear hb)
        go_roundw
        case rel => exact ⟨1, by omega, by go_num, Lib.hid (((hq.out.grow ((Below.refl _ _).alloc (Nat.le_refl _) _)).grow B2.out).next (by omega))⟩
        case measure => simp [intOf]
      · have hk2 : 1 ≤ k := by omega
        have hkn := row_known hk2 (by omega : k ≤ 63)
        have hfi := found_iff hk2 (by omega : k ≤ 63) hx hx'
        have hsp := split_is (rvRowN k).form x hx hx'
        have hL : letB k ≠ 0 := by
          rw [letB_form hk2]
          cases (rvRowN k).form <;> decide
        have hL1 : (letB k == 0) = false := by simpa using hL
        have hL2 : (letB k != 0) = true := by simpa using hL
        have HSP := Lib.hid hsp
        obtain ⟨l, hl⟩ : ∃ l, l = fdsV (rvRowN k).form.letter := ⟨_, rfl⟩
        rw [← hl] at hkn
        have HL := Lib.hid hl
        clear hl
        generalize nameB k = s0 at *
        generalize letB k = L at *
        generalize ownV (rvRowN k).form (aB k) (bB k) (cB k) = o at *
        generalize maskV (rvRowN k).form = m at *
        generalize aB k = a at *
        generalize bB k = b at *
        generalize cB k = c at *
        have HK := Lib.hid hkn
        have HFI := Lib.hid hfi
        clear hkn hsp
        by_cases he : bits .and .u32 x m = o
        · have hE : (bits .and .u32 x m == o) = true := by simpa using he
          have HY := Lib.hid (hfi.1 he)
          clear hfi he hL
          go_wp2_with (first
            | (go_at_call 27; (with_reducible refine (HK.out.own _).mono ?_); rintro e w2 ⟨rfl, hb⟩; have B2 := Lib.hid hb; have fm := (hb.cell (p := ⟨wr.heap.size, 1, none⟩) (by simp)).trans (new_cell _ _ _ _ _ (.int .u8 L) rfl rfl); clear hb)
            | (go_at_call 24; (with_reducible refine (HK.out.fields _).mono ?_); rintro e w3 ⟨V, rfl, hV, hb⟩; have B3 := Lib.hid hb; have HS := Lib.hid (split_any _ _ _ x _ hV HX.out.1 HX.out.2 HK.out.len); clear hb hV)
            | (go_at_call 26; (with_reducible refine HS.out.mono ?_); rintro e w4 ⟨rfl, hb⟩; have B4 := Lib.hid hb; have D4 := Lib.hid ((((hq.out.grow ((Below.refl _ _).alloc (Nat.le_refl _) _)).grow B2.out).grow B3.out).grow hb); have z0 := cell_of_row w4 w.heap.size 0 _ _ _ D4.out.res; have z1 := cell_of_row w4 w.heap.size 1 _ _ _ D4.out.res; have z2 := cell_of_row w4 w.heap.size 2 _ _ _ D4.out.res; have z3 := cell_of_row w4 w.heap.size 3 _ _ _ D4.out.res; have z4 := cell_of_row w4 w.heap.size 4 _ _ _ D4.out.res; simp at z0 z1 z2 z3 z4; have f0 := blockD_free D4.out.res 0; have f1 := blockD_free D4.out.res 1; have f2 := blockD_free D4.out.res 2; have f3 := blockD_free D4.out.res 3; have f4 := blockD_free D4.out.res 4; have zl := heap_lt D4.out.res; clear hb))
          have h5 := fiveD_set (v0 := .int .i64 k) (v1 := .int .i64 (splitV l x 0)) (v2 := .int .i64 (splitV l x 1)) (v3 := .int .i64 (splitV l x 2)) (v4 := .int .i64 (splitV l x 3)) D4.out.res
          have b5 := fiveD_below (v0 := .int .i64 k) (v1 := .int .i64 (splitV l x 0)) (v2 := .int .i64 (splitV l x 1)) (v3 := .int .i64 (splitV l x 2)) (v4 := .int .i64 (splitV l x 3)) D4.out.bel (Nat.le_refl w.heap.size)
          have l5 := heap_lt h5
          generalize ((((w4.setCell ⟨w.heap.size, 0, none⟩ (.int .i64 k)).setCell ⟨w.heap.size, 1, none⟩ (.int .i64 (splitV l x 0))).setCell ⟨w.heap.size, 2, none⟩ (.int .i64 (splitV l x 1))).setCell ⟨w.heap.size, 3, none⟩ (.int .i64 (splitV l x 2))).setCell ⟨w.heap.size, 4, none⟩ (.int .i64 (splitV l x 3)) = W5 at h5 b5 l5 ⊢
          have h6 := (heap_alloc_old W5 (.cells #[.int .i64 (splitV l x 0), .int .i64 (splitV l x 1), .int .i64 (splitV l x 2), .int .i64 (splitV l x 3)] 46) l5).trans h5
          refine bodyPost_ret (v := .tuple #[.agg #[.int .i64 k, .int .i64 (splitV l x 0), .int .i64 (splitV l x 1), .int .i64 (splitV l x 2), .int .i64 (splitV l x 3)], .int .i64 0])
            (results_cell_slot (fn := Try.f19) Try.results19 _ _ w.heap.size 23 _ (0, 0) _ rfl h6 Try.underlying23 rfl rvD_size) rfl ⟨.inl ⟨readsV k x, HY.out, ?_⟩, b5.alloc (Nat.le_of_lt l5) _⟩
          rw [HL.out, HSP.out.s0, HSP.out.s1, HSP.out.s2, HSP.out.s3]
          rfl
        · have hE : (bits .and .u32 x m == o) = false := by simpa using he
          have HN := Lib.hid (fun h => he (hfi.2 h))
          clear hfi he hL
          go_wp2_with (go_at_call 27; (with_reducible refine (HK.out.own _).mono ?_); rintro e w2 ⟨rfl, hb⟩; have B2 := Lib.hid hb; have fm := (hb.cell (p := ⟨wr.heap.size, 1, none⟩) (by simp)).trans (new_cell _ _ _ _ _ (.int .u8 L) rfl rfl); clear hb)
          go_roundw
          case rel => exact ⟨k + 1, by omega, by go_num, Lib.hid (((hq.out.grow ((Below.refl _ _).alloc (Nat.le_refl _) _)).grow B2.out).next (fun _ => HN.out))⟩
          case measure => simp [intOf]; omega
    · obtain rfl : k = 64 := by omega
      have z0 : wr.cell? ⟨w.heap.size, 0, none⟩ = some (.int .i64 0) := cell_of_row _ _ _ _ _ _ hq.out.res
      have z1 : wr.cell? ⟨w.heap.size, 1, none⟩ = some (.int .i64 0) := cell_of_row _ _ _ _ _ _ hq.out.res
      have z2 : wr.cell? ⟨w.heap.size, 2, none⟩ = some (.int .i64 0) := cell_of_row _ _ _ _ _ _ hq.out.res
      have z3 : wr.cell? ⟨w.heap.size, 3, none⟩ = some (.int .i64 0) := cell_of_row _ _ _ _ _ _ hq.out.res
      have z4 : wr.cell? ⟨w.heap.size, 4, none⟩ = some (.int .i64 0) := cell_of_row _ _ _ _ _ _ hq.out.res
      have f0 := blockD_free hq.out.res 0
      have f1 := blockD_free hq.out.res 1
      have f2 := blockD_free hq.out.res 2
      have f3 := blockD_free hq.out.res 3
      have f4 := blockD_free hq.out.res 4
      go_wp2
      exact bodyPost_ret (v := .tuple #[.agg #[.int .i64 0, .int .i64 0, .int .i64 0, .int .i64 0, .int .i64 0], .int .i64 16]) (results_cell_slot (fn := Try.f19) Try.results19 _ _ w.heap.size 23 _ (0, 0) _ rfl (fiveD_set hq.out.res) Try.underlying23 rfl rvD_size) rfl
        ⟨.inr ⟨hq.out.none, rfl⟩, fiveD_below hq.out.bel (Nat.le_refl _)⟩
theorem dec_yes {y : RvV} {x : Int} (h : IsWord y x) (w : World) : Calls Try.prog 19 #[.int .u32 x] w fun e w' => e = .returned (.tuple #[.agg #[.int .i64 y.op, .int .i64 y.rd, .int .i64 y.rs1, .int .i64 y.rs2, .int .i64 y.imm], .int .i64 0]) ∧ Below w.heap.size w w' := by
  have hf := enc_facts h.1
  rw [h.2] at hf
  refine (dec_any x w hf.2.2.2.2.1 hf.2.2.2.2.2).mono fun e w' hd => ?_
  obtain ⟨h1 | h1, hb⟩ := hd
  · obtain ⟨z, hz, he⟩ := h1
    rw [isWord_one hz h] at he
    exact ⟨he, hb⟩
  · exact absurd h (h1.1 y)
theorem dec_no {x : Int} (hx : 0 ≤ x) (hx' : x < 4294967296) (h : ∀ y, ¬ IsWord y x) (w : World) : Calls Try.prog 19 #[.int .u32 x] w fun e w' => e = .returned (.tuple #[.agg #[.int .i64 0, .int .i64 0, .int .i64 0, .int .i64 0, .int .i64 0], .int .i64 16]) ∧ Below w.heap.size w w' := by
  refine (dec_any x w hx hx').mono fun e w' hd => ?_
  obtain ⟨h1 | h1, hb⟩ := hd
  · obtain ⟨z, hz, he⟩ := h1
    exact absurd hz (h z)
  · exact ⟨h1.2, hb⟩
end Go.Proofs.Ytcglfbjfllohjaa
