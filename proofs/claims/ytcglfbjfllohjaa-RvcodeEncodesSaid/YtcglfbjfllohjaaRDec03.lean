/- The document's own way of layer 3: a word decoded: the contract of its Decode, for any word. No condition but that the word has 32 bits. -/
import Derived.Test.YtcglfbjfllohjaaRvAll03
import Derived.Test.YtcglfbjfllohjaaDec03
namespace Go.Proofs.Ytcglfbjfllohjaa
open Go.RowKit
set_option linter.unusedVariables false

/-- The loop's state: the answer's place untouched, the table, no row that fits so far. -/
structure RDecAt (w : World) (x : Int) (k : Nat) (wr : World) : Prop where
  res : wr.heap[w.heap.size]? = some (.cells #[.int .i64 0, .int .i64 0, .int .i64 0, .int .i64 0, .int .i64 0] 23 (0, 0))
  row : wr.heap[w.heap.size + 1]? = some (.cells rowsR 52 (0, 0))
  bel : Below w.heap.size w wr
  no : ∀ j : Nat, 1 ≤ j → j < k → ¬ IsWord (readsV j x) x
theorem RDecAt.grow {w wr wr' : World} {x : Int} {k : Nat} (h : RDecAt w x k wr) (hb : Below wr.heap.size wr wr') : RDecAt w x k wr' :=
  ⟨(hb.block _ (heap_lt h.res)).trans h.res, (hb.block _ (heap_lt h.row)).trans h.row, h.bel.trans (hb.mono h.bel.size), h.no⟩
theorem RDecAt.next {w wr : World} {x : Int} {k : Nat} (h : RDecAt w x k wr) (hk : ¬ IsWord (readsV k x) x) : RDecAt w x (k + 1) wr :=
  ⟨h.res, h.row, h.bel, fun j h1 h2 => by
    by_cases e : j = k
    · subst e; exact hk
    · exact h.no j h1 (by omega)⟩
theorem RDecAt.none {w wr : World} {x : Int} (h : RDecAt w x 64 wr) : ∀ y, ¬ IsWord y x := fun y hy => by
  have h1 := (isWord_at hy).1
  have h2 := (isWord_at hy).2.1
  refine h.no y.op.toNat (by omega) (by omega) ?_
  rw [show ((y.op.toNat : Nat) : Int) = y.op by omega]
  exact isWord_row hy
theorem reads_is_ok {k : Nat} (h : 1 ≤ k) (h' : k ≤ 63) (x : Int) : (readsV k x).ok := by
  have hr := reads_ok (rvRowN k).form x
  exact ⟨⟨by show (1 : Int) ≤ k; omega, by show (k : Int) ≤ 63; omega⟩, hr.1, hr.2.1, hr.2.2.1, hr.2.2.2⟩
theorem imm_in {f : RvForm} {n : Int} (h : immOk f n) : InI n := by
  unfold InI
  cases f <;> simp only [immOk] at h <;> omega
theorem enc_word {x : RvV} (h : x.ok) : 0 ≤ encV x ∧ encV x < 4294967296 := (enc_facts h).2.2.2.2
set_option maxHeartbeats 8000000 in
set_option maxRecDepth 100000 in
theorem rdec_any (x : Int) (w : World) (hx : 0 ≤ x) (hx' : x < 4294967296) : Calls Try.prog 20 #[.int .u32 x] w (DecDone w x) := by
  have HX := Lib.hid (And.intro hx hx')
  go_enter Try.func20, Try.ntmps20
  go_wp2_with (go_at_call 34; (with_reducible refine (rrows_any _).mono ?_); rintro e w1 ⟨rfl, rfl⟩)
  have HST := Lib.hid (show RDecAt w x 1 ((w.alloc (.cells #[.int .i64 0, .int .i64 0, .int .i64 0, .int .i64 0, .int .i64 0] 23)).alloc (.cells rowsR 52)) from
    ⟨(heap_alloc_old _ _ (show w.heap.size < (w.alloc (.cells #[.int .i64 0, .int .i64 0, .int .i64 0, .int .i64 0, .int .i64 0] 23)).heap.size by simp)).trans (heap_alloc_new w _), by
      have := heap_alloc_new (w.alloc (.cells #[.int .i64 0, .int .i64 0, .int .i64 0, .int .i64 0, .int .i64 0] 23)) (.cells rowsR 52)
      simpa using this, ((Below.refl _ _).alloc (Nat.le_refl _) _).alloc (by simp) _, fun j h1 h2 => by omega⟩)
  go_loopw [5] (fun i wr => ∃ k : Nat, 1 ≤ k ∧ k ≤ 64 ∧ i = .int .i64 k ∧ Hid (RDecAt w x k wr)) (fun i _ => 64 - (intOf i).toNat)
  case atStart => exact ⟨1, by omega, by omega, rfl, HST⟩
  case round =>
    obtain ⟨k, hk1, hk, rfl, hq⟩ := hrel
    by_cases hlt : k ≤ 63
    · obtain ⟨c0, c1, c2, c3, c4⟩ := rrows_cells hq.out.row hk1 (by omega)
      have hrd := fun w => rreads_any k x hk1 hlt hx hx' w
      have hok := reads_is_ok hk1 hlt x
      have hen := fun w => renc_yes hok (imm_in hok.imm) w
      have hwb := enc_word hok
      have hat : IsWord (readsV k x) x ↔ encV (readsV k x) = x := ⟨fun h => h.2, fun h => ⟨hok, h⟩⟩
      have hA : x % 128 ≠ aB k → ¬ IsWord (readsV k x) x := fun h hw => by
        have := (isWord_at hw).2.2.1
        have e : aB k = ((rvRowN k).a : Int) := by unfold aB; rw [if_neg (by omega)]
        exact h (this.trans e.symm)
      have hab := (row_bd hk1 hlt).1
      obtain ⟨y, hy⟩ : ∃ y, y = readsV k x := ⟨_, rfl⟩
      rw [← hy] at hrd hen hwb hat hA hok
      have HY := Lib.hid hy
      clear hy
      obtain ⟨y0, y1, y2, y3, y4⟩ := y
      obtain ⟨v, hv⟩ : ∃ v, v = encV ⟨y0, y1, y2, y3, y4⟩ := ⟨_, rfl⟩
      rw [← hv] at hen hat hwb
      clear hv
      have HRD0 := Lib.hid hrd
      have HEN := Lib.hid hen
      have HAT := Lib.hid hat
      generalize nameB k = s0 at *
      generalize FormStr (rvRowN k).form = s1 at *
      generalize aB k = a at *
      generalize bB k = b at *
      generalize cB k = c at *
      clear hrd hen hat hok c0 c1 c3 c4
      obtain ⟨j, rfl⟩ : ∃ j, k = j + 1 := ⟨k - 1, by omega⟩
      have hrd2 := HRD0.out
      rw [show ((j + 1 : Nat) : Int) = (j : Int) + 1 by omega] at hrd2
      have HRD := Lib.hid hrd2
      clear hrd2
      have hgl := heap_lt hq.out.row
      have hj1 : (0 : Int) ≤ (j : Int) := by omega
      have hj2 : (j : Int) < 63 := by omega
      have c2 : wr.cell? ⟨w.heap.size + 1, j * 5 + 2, none⟩ = some (.int .u32 a) := c2
      by_cases ha : x % 128 = a
      · have hE : (a == x % 128) = true := by simpa using ha.symm
        have hE2 : (a != x % 128) = false := by simpa using ha.symm
        clear hA ha
        by_cases hvx : v = x
        · subst hvx
          have HW := Lib.hid (HAT.out.2 rfl)
          go_wp2_with (first
            | (go_at_call 35; (with_reducible refine (HRD.out _).mono ?_); rintro e w2 ⟨rfl, hb⟩; have B2 := Lib.hid hb; clear hb)
            | (go_at_call 11; (with_reducible refine (HEN.out _).mono ?_); rintro e w3 ⟨rfl, hb⟩; have B3 := Lib.hid hb; have D3 := Lib.hid (((hq.out.grow B2.out).grow ((Below.refl _ _).alloc (Nat.le_refl _) _)).grow hb); have z0 := cell_of_row w3 w.heap.size 0 _ _ _ D3.out.res; have z1 := cell_of_row w3 w.heap.size 1 _ _ _ D3.out.res; have z2 := cell_of_row w3 w.heap.size 2 _ _ _ D3.out.res; have z3 := cell_of_row w3 w.heap.size 3 _ _ _ D3.out.res; have z4 := cell_of_row w3 w.heap.size 4 _ _ _ D3.out.res; simp at z0 z1 z2 z3 z4; have f0 := blockD_free D3.out.res 0; have f1 := blockD_free D3.out.res 1; have f2 := blockD_free D3.out.res 2; have f3 := blockD_free D3.out.res 3; have f4 := blockD_free D3.out.res 4; have zl := heap_lt D3.out.res; have g0 := (hb.cell (p := ⟨w2.heap.size, 0, none⟩) (by simp)).trans (new_cell w2 _ _ _ _ (.int .i64 y0) rfl rfl); have g1 := (hb.cell (p := ⟨w2.heap.size, 1, none⟩) (by simp)).trans (new_cell w2 _ _ _ _ (.int .i64 y1) rfl rfl); have g2 := (hb.cell (p := ⟨w2.heap.size, 2, none⟩) (by simp)).trans (new_cell w2 _ _ _ _ (.int .i64 y2) rfl rfl); have g3 := (hb.cell (p := ⟨w2.heap.size, 3, none⟩) (by simp)).trans (new_cell w2 _ _ _ _ (.int .i64 y3) rfl rfl); have g4 := (hb.cell (p := ⟨w2.heap.size, 4, none⟩) (by simp)).trans (new_cell w2 _ _ _ _ (.int .i64 y4) rfl rfl); clear hb))
          exact bodyPost_ret (v := .tuple #[.agg #[.int .i64 y0, .int .i64 y1, .int .i64 y2, .int .i64 y3, .int .i64 y4], .int .i64 0])
            (results_cell_slot (fn := Try.f20) Try.results20 _ _ w.heap.size 23 _ (0, 0) _ rfl (fiveD_set D3.out.res) Try.underlying23 rfl rvD_size) rfl
            ⟨.inl ⟨⟨y0, y1, y2, y3, y4⟩, HW.out, rfl⟩, fiveD_below D3.out.bel (Nat.le_refl _)⟩
        · have hvE : (v == x) = false := by simpa using hvx
          have HN := Lib.hid (fun h => hvx (HAT.out.1 h))
          clear hvx
          go_wp2_with (first
            | (go_at_call 35; (with_reducible refine (HRD.out _).mono ?_); rintro e w2 ⟨rfl, hb⟩; have B2 := Lib.hid hb; clear hb)
            | (go_at_call 11; (with_reducible refine (HEN.out _).mono ?_); rintro e w3 ⟨rfl, hb⟩; have B3 := Lib.hid hb; clear hb))
          go_roundw
          case rel => exact ⟨j + 1 + 1, by omega, by omega, by go_num, Lib.hid ((((hq.out.grow B2.out).grow ((Below.refl _ _).alloc (Nat.le_refl _) _)).grow B3.out).next (by rw [← HY.out]; exact HN.out))⟩
          case measure => simp [intOf]; omega
      · have hE : (a == x % 128) = false := by simpa using fun h => ha h.symm
        have hE2 : (a != x % 128) = true := by simpa using fun h => ha h.symm
        have HN := Lib.hid (hA ha)
        clear hA ha
        go_wp2
        go_roundw
        case rel => exact ⟨j + 1 + 1, by omega, by omega, by go_num, Lib.hid (hq.out.next (by rw [← HY.out]; exact HN.out))⟩
        case measure => simp [intOf]; omega
    · obtain rfl : k = 64 := by omega
      have z0 : wr.cell? ⟨w.heap.size, 0, none⟩ = some (.int .i64 0) := cell_of_row _ _ _ _ _ _ hq.out.res
      have z1 : wr.cell? ⟨w.heap.size, 1, none⟩ = some (.int .i64 0) := cell_of_row _ _ _ _ _ _ hq.out.res
      have z2 : wr.cell? ⟨w.heap.size, 2, none⟩ = some (.int .i64 0) := cell_of_row _ _ _ _ _ _ hq.out.res
      have z3 : wr.cell? ⟨w.heap.size, 3, none⟩ = some (.int .i64 0) := cell_of_row _ _ _ _ _ _ hq.out.res
      have z4 : wr.cell? ⟨w.heap.size, 4, none⟩ = some (.int .i64 0) := cell_of_row _ _ _ _ _ _ hq.out.res
      have f0 := blockD_free hq.out.res 0
      have f1 := blockD_free hq.out.res 1
      have f2 := blockD_free hq.out.res 2
      have f3 := blockD_free hq.out.res 3
      have f4 := blockD_free hq.out.res 4
      go_wp2
      exact bodyPost_ret (v := .tuple #[.agg #[.int .i64 0, .int .i64 0, .int .i64 0, .int .i64 0, .int .i64 0], .int .i64 16]) (results_cell_slot (fn := Try.f20) Try.results20 _ _ w.heap.size 23 _ (0, 0) _ rfl (fiveD_set hq.out.res) Try.underlying23 rfl rvD_size) rfl
        ⟨.inr ⟨hq.out.none, rfl⟩, fiveD_below hq.out.bel (Nat.le_refl _)⟩
theorem rdec_yes {y : RvV} {x : Int} (h : IsWord y x) (w : World) : Calls Try.prog 20 #[.int .u32 x] w fun e w' => e = .returned (.tuple #[.agg #[.int .i64 y.op, .int .i64 y.rd, .int .i64 y.rs1, .int .i64 y.rs2, .int .i64 y.imm], .int .i64 0]) ∧ Below w.heap.size w w' := by
  have hf := enc_facts h.1
  rw [h.2] at hf
  refine (rdec_any x w hf.2.2.2.2.1 hf.2.2.2.2.2).mono fun e w' hd => ?_
  obtain ⟨h1 | h1, hb⟩ := hd
  · obtain ⟨z, hz, he⟩ := h1
    rw [isWord_one hz h] at he
    exact ⟨he, hb⟩
  · exact absurd h (h1.1 y)
theorem rdec_no {x : Int} (hx : 0 ≤ x) (hx' : x < 4294967296) (h : ∀ y, ¬ IsWord y x) (w : World) : Calls Try.prog 20 #[.int .u32 x] w fun e w' => e = .returned (.tuple #[.agg #[.int .i64 0, .int .i64 0, .int .i64 0, .int .i64 0, .int .i64 0], .int .i64 16]) ∧ Below w.heap.size w w' := by
  refine (rdec_any x w hx hx').mono fun e w' hd => ?_
  obtain ⟨h1 | h1, hb⟩ := hd
  · obtain ⟨z, hz, he⟩ := h1
    exact absurd hz (h z)
  · exact ⟨h1.2, hb⟩
end Go.Proofs.Ytcglfbjfllohjaa
