/- The document's own reader of layer 8: number, block, head. Contracts; no condition but that the reader lies in memory, its place within its bytes. -/
import Derived.Test.YtimhlbejjbnofaaRef08B
import Derived.Test.YtimhlbejjbnofaaS13
namespace Go.Proofs.Ytimhlbejjbnofaa
open Go.RowKit Go.Shelf
set_option linter.unusedVariables false
set_option linter.unusedSimpArgs false

/-- What a read of a number leaves. -/
structure RNum (w : World) (rb B : Nat) (X : Value) (b : List Int) (r : Rd × Int) (e : Ending) (w' : World) : Prop where
  ret : e = .returned (.int .i64 r.2)
  rd : RrAt w' rb B X b r.1
  but : But (OneBlock rb) w w'
theorem drop_getD8 (l : List Int) {k : Nat} (h : k < l.length) : l.drop k = l.getD k 0 :: l.drop (k + 1) := by
  rw [List.drop_eq_getElem_cons h]
  simp [List.getD, List.getElem?_eq_getElem h]
set_option maxHeartbeats 4000000 in
theorem rnumber_any (w : World) (rb B : Nat) (X : Value) (b : List Int) (s : Rd) (n : Nat) (hR : RrAt w rb B X b s) (hn : 0 < n ∧ n ≤ 2) :
    Calls Try.prog 48 #[.pointer (some ⟨rb, 0, none⟩), .int .i64 n] w (RNum w rb B X b (numR b s n)) := by
  have HT := Lib.hid (rtake_any w rb B X b s n hR (by omega) (fun _ => by omega))
  have hL := (take_len (b := b) (s := s) (n := n)).1
  have hbd := take_bd (s := s) (n := n) hR.byt.1
  have hnum : numR b s n = ((takeR b s n).1, numV (takeR b s n).2) := rfl
  rw [hnum]
  generalize takeR b s n = r at *
  obtain ⟨s1, ys⟩ := r
  dsimp only at hL hbd ⊢
  obtain ⟨L, hLe⟩ : ∃ L, L = ys.length := ⟨_, rfl⟩
  have HLe := Lib.hid hLe
  rw [← hLe] at hL
  have hL2 : L ≤ 2 := by omega
  have HBD := Lib.hid hbd
  have hsub : IntKind.i64.wrap ((L : Int) - 1) = (L : Int) - 1 := by rw [IntKind.wrap_i64]; omega
  clear hnum hbd hR hL hLe
  go_enter Try.func48, Try.ntmps48
  go_wp2_with (go_at_call 69; (with_reducible refine HT.out.mono ?_); rintro e w1 ⟨⟨V1, rfl, hv⟩, hr, hb⟩; have HV := Lib.hid hv; obtain ⟨A1, c1, hve⟩ := hv.len; rw [← HLe.out] at hve; subst hve; have HR1 := Lib.hid hr; have HB1 := Lib.hid hb; clear hv hr hb)
  go_loop [6, 7] (fun x i => ∃ (k : Nat) (i0 : Int), k ≤ L ∧ i0 + 1 = k ∧ i = .int .i64 i0 ∧ x = .int .i64 (numV (ys.drop k))) (fun _ i => (intOf i + 1).toNat)
  case atStart => exact ⟨L, (L : Int) - 1, Nat.le_refl _, by omega, rfl, by rw [HLe.out, List.drop_length]; rfl⟩
  case round =>
    obtain ⟨k, i0, hk, hi, rfl, rfl⟩ := hrel
    by_cases hk0 : k = 0
    · subst hk0
      obtain rfl : i0 = -1 := by omega
      clear hi
      go_wp2
      go_ret
      exact ⟨rfl, HR1.out, HB1.out⟩
    · obtain ⟨j, rfl⟩ : ∃ j, k = j + 1 := ⟨k - 1, by omega⟩
      obtain rfl : i0 = (j : Int) := by omega
      have hjl : j < ys.length := by rw [← HLe.out]; omega
      obtain ⟨g, off, cap', hve, hcp, hgB, hcl⟩ := HV.out.plain (by omega)
      rw [← HLe.out] at hve
      cases hve
      have hc := hcl j hjl
      have hy := HBD.out (ys.getD j 0) (by simp [List.getD, List.getElem?_eq_getElem hjl])
      have hdr := drop_getD8 ys hjl
      have hm := numV_bd (xs := ys.drop (j + 1)) (fun x hx => HBD.out x (List.mem_of_mem_drop hx))
      have hm2 : numV (ys.drop (j + 1)) < 256 := by
        refine Int.lt_of_lt_of_le hm.2 ?_
        have : (ys.drop (j + 1)).length = 0 ∨ (ys.drop (j + 1)).length = 1 := by rw [List.length_drop, ← HLe.out]; omega
        rcases this with h | h <;> rw [h] <;> decide
      have hm0 := hm.1
      have hnv : numV (ys.drop j) = 256 * numV (ys.drop (j + 1)) + ys.getD j 0 := by rw [hdr]; show _ + _ = _; omega
      generalize numV (ys.drop (j + 1)) = m at *
      generalize ys.getD j 0 = y at *
      generalize hz : numV (ys.drop j) = z at *
      have HZ := Lib.hid hz
      have e1 : IntKind.i64.wrap (256 * m) = 256 * m := by rw [IntKind.wrap_i64]; omega
      have e2 : IntKind.i64.wrap (256 * m + y) = z := by rw [IntKind.wrap_i64]; omega
      have e3 : IntKind.i64.wrap ((j : Int) - 1) = (j : Int) - 1 := by rw [IntKind.wrap_i64]; omega
      have e4 : IntKind.i64.wrap y = y := by rw [IntKind.wrap_i64]; omega
      have y0 := hy.1
      have y1 := hy.2
      have j0 : (0 : Int) ≤ (j : Int) := by omega
      have j1 : (j : Int) < (L : Int) := by omega
      clear hi hk0 hjl hcl hcp hm hm2 hm0 hdr hnv hz hy
      go_wp2
      go_round
      case rel => exact ⟨j, (j : Int) - 1, by omega, by omega, rfl, by rw [HZ.out]⟩
      case measure => simp [intOf]
theorem rnumber_one (w : World) (rb B : Nat) (X : Value) (b : List Int) (s : Rd) (hR : RrAt w rb B X b s) :
    Calls Try.prog 48 #[.pointer (some ⟨rb, 0, none⟩), .int .i64 1] w (RNum w rb B X b (numR b s 1)) := rnumber_any w rb B X b s 1 hR (by decide)
theorem rnumber_two (w : World) (rb B : Nat) (X : Value) (b : List Int) (s : Rd) (hR : RrAt w rb B X b s) :
    Calls Try.prog 48 #[.pointer (some ⟨rb, 0, none⟩), .int .i64 2] w (RNum w rb B X b (numR b s 2)) := rnumber_any w rb B X b s 2 hR (by decide)
theorem rtake_three (w : World) (rb B : Nat) (X : Value) (b : List Int) (s : Rd) (hR : RrAt w rb B X b s) :
    Calls Try.prog 69 #[.pointer (some ⟨rb, 0, none⟩), .int .i64 3] w (RTake w rb B X b (takeR b s 3)) := rtake_any w rb B X b s 3 hR (by decide) (fun _ => by omega)
/-- An append of bytes to bytes that were made above a bound. -/
theorem wpList_outO {W : World} {ops : Array Oper} {rest : List Oper} {o : Oper} {a : Act} {Q : Exit → Act → World → Prop} (hgd : o.guard = none) (s x : Operand)
    (ho : o.op = .call { callee := .builtin .append, args := #[s, x], argTypes := #[22, 22] }) {V X : Value} {xs ys : List Int} {B base : Nat} (hs : a.eval s = V) (hx : a.eval x = X) (h : Owns W base 5 1 IsU8 V xs.length (xs.map (Value.int .u8)))
    (hX : IsBytes W B X ys) (hb : base ≤ W.heap.size) (hl : xs.length + ys.length ≤ 1100000)
    (hK : ∀ V' W', Owns W' base 5 1 IsU8 V' (xs ++ ys).length ((xs ++ ys).map (Value.int .u8)) → But (fun k => some k = V.ownBlock) W W' → wpList Try.prog ops Q rest (a.put o.dst V') W') :
    wpList Try.prog ops Q (o :: rest) a W := by
  obtain ⟨i, hi, h1, h2, h3⟩ := info_parts u8_info
  have hr : ∃ V' W', (Builtin.append_ #[22, 22] o.type #[V, X]).run Try.prog W = .ok V' W' ∧ Owns W' base 5 1 IsU8 V' (xs ++ ys).length ((xs ++ ys).map (Value.int .u8)) ∧ But (fun k => some k = V.ownBlock) W W' := by
    rcases hX.2.2 with ⟨rfl, rfl⟩ | ⟨ad, cap, rfl, e1, e2, e3⟩
    · refine ⟨V, W, ?_, by simpa using h, But.refl _ _⟩
      rcases h.1.2 with ⟨rfl, h0⟩ | ⟨g, cap, cur, rfl, _, _, hnc, _⟩
      · simp [Builtin.append_, run_underlying Try.underlying22, sizeOf, typeInfo, hi, Builtin.lenOf, Builtin.firstCells]
      · simp [Builtin.append_, run_underlying Try.underlying22, sizeOf, typeInfo, hi, Builtin.lenOf, Builtin.firstCells, hnc, storeCells]
    · obtain ⟨V', W', hr, hO, hg⟩ := run_append_q (P := Try.prog) W base 22 o.type 5 i _ 1 1 Try.underlying22 hi h1 h2 h3 rfl (by decide) IsU8 zero_u8 V xs.length (xs.map (Value.int .u8)) h ad ys.length cap (ys.map (Value.int .u8)) (by simp) (news_of_bytes e3) (by intro u hu; obtain ⟨z, _, rfl⟩ := List.mem_map.1 hu; rfl) (u8_cells hX.1) (by unfold maxLen; omega) (by omega) hb
      have e : World.grownBy W W' V.ownBlock := hg
      have hbel : Below base W W' := (Below.refl base W).grown e hb fun j hj => (h.lt hj).1
      exact ⟨V', W', hr, by rw [List.length_append, List.map_append]; exact hO, hbel.os, hbel.tape, hbel.output, e.size, fun k hk hn => e.block k hk hn⟩
  obtain ⟨V', W', hr, hO, hB⟩ := hr
  refine wpList_plain hgd fun _ hK' => ?_
  unfold Oper.wp execOp
  simp only [ho, resolve, invoke, builtin, Sem.run_bind, Sem.run_pure, Result.andThen_ok, List.map_toArray, List.map_cons, List.map_nil, hs, hx, hr]
  exact hK' _ _ (hK V' W' hO hB)
theorem own_at {n k c g : Nat} (h : (Value.slice (some ⟨n, 0, none⟩) k c).ownBlock = some g) : g = n := by
  simp [Value.ownBlock] at h
  exact h.symm
/-- What a read of a block leaves. -/
structure RBlock (w : World) (rb B : Nat) (X : Value) (b : List Int) (r : Rd × List Int) (e : Ending) (w' : World) : Prop where
  ret : ∃ V, e = .returned V ∧ Owns w' w.heap.size 5 1 IsU8 V r.2.length (r.2.map (Value.int .u8))
  rd : RrAt w' rb B X b r.1
  but : But (OneBlock rb) w w'
theorem empty_owns (w : World) : Owns (w.alloc (.cells #[] 5)) w.heap.size 5 1 IsU8 (.slice (some ⟨w.heap.size, 0, none⟩) 0 0) ([] : List Int).length (([] : List Int).map (Value.int .u8)) := Owns.made w _ _ _ _ (Nat.le_refl _)
set_option maxHeartbeats 4000000 in
set_option maxRecDepth 100000 in
theorem rblock_any (w : World) (rb B : Nat) (X : Value) (b : List Int) (s : Rd) (most : Int) (hR : RrAt w rb B X b s) :
    Calls Try.prog 47 #[.pointer (some ⟨rb, 0, none⟩), .int .i64 most] w (RBlock w rb B X b (blockR b s most)) := by
  have HN := Lib.hid (rnumber_two w rb B X b s hR)
  obtain ⟨c0, c1, c2, c3⟩ := hR.cells
  have hbd := num_bd (b := b) (s := s) (n := 2) hR.byt.1 (by omega)
  have hlt := hR.lt
  have hlow := hR.low
  have hsm := hR.small
  have HTw : Hid (cntR b s most = (numR b s 2).1.need (decide ((numR b s 2).2 ≤ most)) 3 s.pos) := Lib.hid rfl
  have htwo := fun h => cnt_two (b := b) (s := s) (most := most) h
  have hbl : blockR b s most = takeR b (cntR b s most) (numR b s 2).2.toNat := rfl
  have hbk := block_len (b := b) (s := s) (most := most)
  rw [hbl] at hbk ⊢
  obtain ⟨q, hq⟩ : ∃ q : Nat, (numR b s 2).2 = (q : Int) := ⟨(numR b s 2).2.toNat, by omega⟩
  have hqt : (numR b s 2).2.toNat = q := by omega
  rw [hqt] at hbk ⊢
  have hq6 : q ≤ 65536 := by omega
  generalize numR b s 2 = r1 at *
  obtain ⟨s1, m⟩ := r1
  dsimp only at hq HTw
  subst hq
  generalize cntR b s most = s2 at *
  have HK : Hid (∀ W, RrAt W rb B X b s2 → Calls Try.prog 69 #[.pointer (some ⟨rb, 0, none⟩), .int .i64 q] W (RTake W rb B X b (takeR b s2 q))) := Lib.hid fun W hr => rtake_any W rb B X b s2 q hr (by omega) (fun h => by have := htwo h; omega)
  generalize takeR b s2 q = r4 at *
  obtain ⟨s4, ys⟩ := r4
  dsimp only at hbk
  have HYL := Lib.hid (Nat.le_trans hbk hsm)
  clear htwo hbl hqt hq6 hbk hsm hbd hR
  by_cases hle : (q : Int) ≤ most
  · have hgt : ¬ most < (q : Int) := by omega
    have HS2 : Hid (s2 = s1) := Lib.hid (by rw [HTw.out, decide_eq_true hle]; exact Rd.need_yes _ _ _)
    clear hle
    go_enter Try.func47, Try.ntmps47
    go_wp2_with (first
      | (go_at_call 48; (with_reducible refine HN.out.mono ?_); rintro e w1 ⟨rfl, hr, hb⟩; have HR1 := Lib.hid (show RrAt w1 rb B X b s2 by rw [HS2.out]; exact hr); have HB1 := Lib.hid hb; clear hr hb)
      | (go_at_call 69; (with_reducible refine (HK.out _ (HR1.out.grow ((Below.refl w1.heap.size w1).alloc (Nat.le_refl _) _))).mono ?_); rintro e w4 ⟨⟨V4, rfl, hv⟩, hr, hb⟩; obtain ⟨A4, c4, hve⟩ := hv.len; subst hve; have HV4 := Lib.hid hv; have HR4 := Lib.hid hr; have HB4 := Lib.hid hb; clear hv hr hb)
      | (at_builtin; refine wpList_outO (base := w1.heap.size) (xs := []) rfl (.tmp 19) (.tmp 22) rfl rfl rfl (Owns.but (empty_owns w1) HB4.out (fun g hg e => by have h1 := own_at hg; have e' : g = rb := e; have := HB1.out.size; omega)) HV4.out (by have := HB4.out.size; simp at this; omega) (by have := HYL.out; simp; omega) ?_; intro V5 w5 ho hb; have HO5 := Lib.hid ho; have HB5 := Lib.hid hb; clear ho hb))
    go_ret
    have hs1 := HB1.out.size
    have hbut : But (OneBlock rb) w w5 := but_own (rb := rb) (F := .slice (some ⟨w1.heap.size, 0, none⟩) 0 0) ((HB1.out.trans (But.of_below (R := OneBlock rb) ((Below.refl w1.heap.size w1).alloc (Nat.le_refl _) (.cells #[] 5)))).trans HB4.out) (HB5.out.mono fun k hk => .inr hk) (fun g hg => by have h1 := own_at hg; omega)
    refine ⟨⟨V5, rfl, ?_⟩, HR4.out.but HB5.out (fun e => by have h1 := own_at e.symm; omega) (fun k hk e => by have h1 := own_at e.symm; omega), hbut⟩
    have := Owns.base HO5.out hs1
    simpa using this
  · have hgt : most < (q : Int) := by omega
    have HS2 : Hid (s2 = s1.need false 3 s.pos) := Lib.hid (by rw [HTw.out, decide_eq_false hle])
    clear hle
    go_enter Try.func47, Try.ntmps47
    go_wp2_with (first
      | (go_at_call 48; (with_reducible refine HN.out.mono ?_); rintro e w1 ⟨rfl, hr, hb⟩; have HR1 := Lib.hid hr; have HB1 := Lib.hid hb; clear hr hb)
      | (go_at_call 49; (with_reducible refine (rfails_any w1 rb B X b s1 3 s.pos HR1.out).mono ?_); rintro e w2 ⟨rfl, hr, hb⟩; have HR2 := Lib.hid (show RrAt w2 rb B X b s2 by rw [HS2.out]; exact hr); have HB2 := Lib.hid (HB1.out.trans hb); clear hr hb)
      | (go_at_call 69; (with_reducible refine (HK.out _ (HR2.out.grow ((Below.refl w2.heap.size w2).alloc (Nat.le_refl _) _))).mono ?_); rintro e w4 ⟨⟨V4, rfl, hv⟩, hr, hb⟩; obtain ⟨A4, c4, hve⟩ := hv.len; subst hve; have HV4 := Lib.hid hv; have HR4 := Lib.hid hr; have HB4 := Lib.hid hb; clear hv hr hb)
      | (at_builtin; refine wpList_outO (base := w2.heap.size) (xs := []) rfl (.tmp 19) (.tmp 22) rfl rfl rfl (Owns.but (empty_owns w2) HB4.out (fun g hg e => by have h1 := own_at hg; have e' : g = rb := e; have := HB2.out.size; omega)) HV4.out (by have := HB4.out.size; simp at this; omega) (by have := HYL.out; simp; omega) ?_; intro V5 w5 ho hb; have HO5 := Lib.hid ho; have HB5 := Lib.hid hb; clear ho hb))
    go_ret
    have hs1 := HB2.out.size
    have hbut : But (OneBlock rb) w w5 := but_own (rb := rb) (F := .slice (some ⟨w2.heap.size, 0, none⟩) 0 0) ((HB2.out.trans (But.of_below (R := OneBlock rb) ((Below.refl w2.heap.size w2).alloc (Nat.le_refl _) (.cells #[] 5)))).trans HB4.out) (HB5.out.mono fun k hk => .inr hk) (fun g hg => by have h1 := own_at hg; omega)
    refine ⟨⟨V5, rfl, ?_⟩, HR4.out.but HB5.out (fun e => by have h1 := own_at e.symm; omega) (fun k hk e => by have h1 := own_at e.symm; omega), hbut⟩
    have := Owns.base HO5.out hs1
    simpa using this
/-! ### The first three bytes -/
def okTo (b : List Int) (k : Nat) : Bool := (List.range k).all (fun i => decide (b.length ≤ i) || (b.getD i 0 == markL.getD i 0))
theorem okTo_succ (b : List Int) (k : Nat) : okTo b (k + 1) = (okTo b k && (decide (b.length ≤ k) || (b.getD k 0 == markL.getD k 0))) := by
  unfold okTo
  rw [List.range_succ, List.all_append]
  simp
theorem okTo_end (b : List Int) {k : Nat} (hk : k ≤ 3) (h : k = 3 ∨ b.length ≤ k) : okTo b k = (b.take 3 == markL.take (b.take 3).length) := by
  have h3 : okTo b 3 = (b.take 3 == markL.take (b.take 3).length) := by
    unfold okTo markL
    match b with
    | [] => rfl
    | [x] => simp [List.range, List.range.loop]
    | [x, y] => simp [List.range, List.range.loop]
    | x :: y :: z :: t =>
      have e1 : ¬ (t.length + 1 + 1 + 1 ≤ 0) := by omega
      have e2 : ¬ (t.length + 1 + 1 + 1 ≤ 1) := by omega
      have e3 : ¬ (t.length + 1 + 1 + 1 ≤ 2) := by omega
      simp [List.range, List.range.loop, e1, e2, e3]
  rcases h with rfl | h
  · exact h3
  rw [← h3]
  have stay : ∀ j, b.length ≤ j → okTo b (j + 1) = okTo b j := fun j hj => by rw [okTo_succ, decide_eq_true hj]; simp
  rcases (show k = 0 ∨ k = 1 ∨ k = 2 ∨ k = 3 by omega) with rfl | rfl | rfl | rfl
  · rw [stay 2 (by omega), stay 1 (by omega), stay 0 (by omega)]
  · rw [stay 2 (by omega), stay 1 (by omega)]
  · rw [stay 2 (by omega)]
  · rfl
theorem need_need (s : Rd) (h h' : Bool) {e : Int} (he : e ≠ 0) (k : Int) : (s.need h e k).need h' e k = s.need (h && h') e k := by
  by_cases h0 : s.err = 0
  · cases h
    · rw [Rd.need_no h0, Rd.need_bad (by exact he)]
      rw [Bool.false_and, Rd.need_no h0]
    · rw [Rd.need_yes, Bool.true_and]
  · rw [Rd.need_bad h0, Rd.need_bad h0, Rd.need_bad h0]
set_option maxHeartbeats 4000000 in
set_option maxRecDepth 100000 in
theorem rhead_any (w : World) (rb B : Nat) (X : Value) (b : List Int) (hR : RrAt w rb B X b Rd.zero) :
    Calls Try.prog 46 #[.pointer (some ⟨rb, 0, none⟩)] w (RStep w rb B X b (headR b)) := by
  have hlt := hR.lt
  have hlow := hR.low
  have hsm := hR.small
  have hb0 : Below w.heap.size w (w.alloc (.cells #[.int .u8 84, .int .u8 87, .int .u8 1] 5)) := (Below.refl _ w).alloc (Nat.le_refl _) _
  have HB0 := Lib.hid (But.of_below (R := OneBlock rb) hb0)
  have HR0 := Lib.hid (hR.grow hb0)
  have HK0 := Lib.hid (heap_alloc_new w (.cells #[.int .u8 84, .int .u8 87, .int .u8 1] 5))
  obtain ⟨XA, xc, hXe⟩ := hR.byt.len
  subst hXe
  obtain ⟨L, hL⟩ : ∃ L, L = b.length := ⟨_, rfl⟩
  have HL := Lib.hid hL
  rw [← hL] at HR0 hsm ⊢
  obtain ⟨w0, hw0⟩ : ∃ w0, w0 = w.alloc (.cells #[.int .u8 84, .int .u8 87, .int .u8 1] 5) := ⟨_, rfl⟩
  rw [← hw0] at HB0 HR0 HK0
  have HW0 := Lib.hid hw0
  clear hR hb0 hL hw0
  go_enter Try.func46, Try.ntmps46
  go_wp2
  rw [← HW0.out]
  go_loopw [3] (fun i wr => ∃ k : Nat, k ≤ 3 ∧ i = .int .i64 k ∧ Hid (RrAt wr rb B (.slice XA L xc) b (Rd.zero.need (okTo b k) 10 0) ∧ But (OneBlock rb) w0 wr)) (fun i _ => 3 - (intOf i).toNat)
  case atStart => exact ⟨0, by omega, rfl, ⟨by have : okTo b 0 = true := rfl
                                               rw [this, Rd.need_yes]; exact HR0.out, But.refl _ _⟩⟩
  case round =>
    obtain ⟨k, hk, rfl, HR⟩ := hrel
    have HRr := Lib.hid HR.out.1
    have HBr := Lib.hid HR.out.2
    obtain ⟨c0, c1, c2, c3⟩ := HR.out.1.cells
    have hkr := HR.out.2.heap HK0.out (show ¬ w.heap.size = rb by omega)
    clear HR
    by_cases hend : k = 3 ∨ L ≤ k
    · have HE := Lib.hid (okTo_end b hk (by rw [← HL.out]; exact hend))
      have HT := Lib.hid (rtake_three wr rb B (.slice XA L xc) b (Rd.zero.need (okTo b k) 10 0) HRr.out)
      rw [HE.out] at HT
      have hgo : (¬ (k : Int) < 3) ∨ ((k : Int) < 3 ∧ ¬ (k : Int) < (L : Int)) := by omega
      clear hend hkr
      rcases hgo with g1 | ⟨g1, g2⟩
      · go_wp2_with (go_at_call 69; (with_reducible refine HT.out.mono ?_); rintro e w4 ⟨⟨V4, rfl, hv⟩, hr, hb⟩; have HR4 := Lib.hid hr; have HB4 := Lib.hid ((HB0.out.trans HBr.out).trans hb); clear hv hr hb)
        go_end0
        exact ⟨rfl, HR4.out, HB4.out⟩
      · go_wp2_with (go_at_call 69; (with_reducible refine HT.out.mono ?_); rintro e w4 ⟨⟨V4, rfl, hv⟩, hr, hb⟩; have HR4 := Lib.hid hr; have HB4 := Lib.hid ((HB0.out.trans HBr.out).trans hb); clear hv hr hb)
        go_end0
        exact ⟨rfl, HR4.out, HB4.out⟩
    · have g1 : (k : Int) < 3 := by omega
      have g2 : (k : Int) < (L : Int) := by omega
      have g3 : (0 : Int) ≤ (k : Int) := by omega
      have hkl : k < b.length := by rw [← HL.out]; omega
      have hdk : decide (b.length ≤ k) = false := decide_eq_false (by omega)
      obtain ⟨g, off, cap', hve, hcp, hgB, hcl⟩ := HRr.out.byt.plain (by omega)
      rw [← HL.out] at hve
      cases hve
      have hc := hcl k hkl
      obtain ⟨m, hm⟩ : ∃ m, m = markL.getD k 0 := ⟨_, rfl⟩
      have hmc : wr.cell? ⟨w.heap.size, k, none⟩ = some (.int .u8 m) := by
        rw [cell_of_row _ _ _ _ _ _ hkr, hm]
        rcases (show k = 0 ∨ k = 1 ∨ k = 2 by omega) with rfl | rfl | rfl <;> rfl
      have hsu := okTo_succ b k
      rw [hdk, Bool.false_or, ← hm] at hsu
      generalize b.getD k 0 = y at *
      have hnn := need_need Rd.zero (okTo b k) (y == m) (e := 10) (by decide) 0
      rw [← hsu] at hnn
      have HNN := Lib.hid hnn
      have HF := Lib.hid (fun j => rfails_any (wr.drewN j) rb B (.slice (some ⟨g, off, none⟩) L xc) b (Rd.zero.need (okTo b k) 10 0) 10 0 (HRr.out.drewN j))
      generalize Rd.zero.need (okTo b k) 10 0 = sk at *
      clear hend hkr hkl hdk hcl hcp hm hsu hnn
      by_cases hy : y = m
      · have hyb : (y != m) = false := by simpa using hy
        have HY : Hid ((y == m) = true) := Lib.hid (by simpa using hy)
        clear hy
        go_wp2
        go_quiet (fail)
        go_wp2
        go_roundw
        case rel => exact ⟨k + 1, by omega, by go_num, ⟨by rw [← HNN.out, HY.out, Rd.need_yes]; exact HRr.out.drewN _, HBr.out.drewN _⟩⟩
        case measure => simp [intOf]; omega
      · have hyb : (y != m) = true := by simpa using hy
        have HY : Hid ((y == m) = false) := Lib.hid (by simpa using hy)
        clear hy
        go_wp2
        go_quiet (fail)
        go_wp2_with (go_at_call 49; (with_reducible refine (HF.out _).mono ?_); rintro e w4 ⟨rfl, hr, hb⟩; have HR4 := Lib.hid hr; have HB4 := Lib.hid ((HBr.out.drewN _).trans hb); clear hr hb)
        go_roundw
        case rel => exact ⟨k + 1, by omega, by go_num, ⟨by rw [← HNN.out, HY.out]; exact HR4.out, HB4.out⟩⟩
        case measure => simp [intOf]; omega
end Go.Proofs.Ytimhlbejjbnofaa
