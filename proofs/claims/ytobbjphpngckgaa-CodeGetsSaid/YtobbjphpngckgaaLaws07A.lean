/- What the statements of layer 7 ask again and again: is, fails, awake; and the chapter's examples. Contracts; no condition. -/
import Derived.Test.YtobbjphpngckgaaCode07K
namespace Go.Proofs.Ytobbjphpngckgaa
open Go.RowKit Go.Shelf
set_option linter.unusedVariables false
set_option linter.unusedSimpArgs false

theorem makes_of {f : FuncId} {args : Array Value} {w : World} {v : Value} (h : Calls Try.prog f args w (Makes w v)) : Calls Try.prog f args w fun e w' => e = .returned v ∧ Below w.heap.size w w' := h
theorem eqF_yes (z k : Int) (w : World) : (binOp .eql 41 (.agg #[.int .i64 z, .int .i64 k]) (.agg #[.int .i64 z, .int .i64 k])).run Try.prog w = .ok (.bool true) w := by go_simp
theorem bytes_new (w : World) (xs : List Int) (hx : ∀ x ∈ xs, 0 ≤ x ∧ x < 256) (cs : Array Value) (hcs : cs = (xs.map (Value.int .u8)).toArray) (hl : xs.length ≤ 1000) : IsBytes (w.alloc (.cells cs 5)) (w.heap.size + 1) (.slice (some ⟨w.heap.size, 0, none⟩) xs.length xs.length) xs := by
  subst hcs
  refine ⟨hx, by unfold maxLen; omega, .inr ⟨⟨w.heap.size, 0, none⟩, xs.length, rfl, Nat.le_refl _, fun _ => Nat.lt_succ_self _, fun i hi => ?_⟩⟩
  have e : (⟨w.heap.size, 0, none⟩ : Addr).add i = ⟨w.heap.size, i, none⟩ := by unfold Addr.add; split <;> simp_all
  rw [e, cell_of_row _ _ _ _ _ _ (heap_alloc_new w _)]
  simp [List.getElem?_eq_getElem hi, List.getD]
theorem nums_new (w : World) (xs : List Int) (cs : Array Value) (hcs : cs = (xs.map (Value.int .i64)).toArray) (hl : xs.length ≤ 1000) : IsNums .i64 (w.alloc (.cells cs 3)) (w.heap.size + 1) (.slice (some ⟨w.heap.size, 0, none⟩) xs.length xs.length) xs := by
  subst hcs
  refine IsNums.of_row (t := 3) (heap_alloc_new w _) (Nat.lt_succ_self _) (by unfold maxLen; omega) (Nat.le_refl _)
set_option maxHeartbeats 4000000 in
theorem is_yes7 (op a b c n : Int) (X : Value) (args : List Int) (Y : Value) (ys : List Int) (w : World) (hX : IsNums .i64 w w.heap.size X args) (hY : IsBytes w w.heap.size Y ys)
    (hc : InsV.chk ⟨op, a, b, c, n, args⟩ = 0) (hb : InsV.bytes ⟨op, a, b, c, n, args⟩ = ys) :
    Calls Try.prog 30 #[.agg (insCells op a b c n X), Y] w (Makes w (.bool true)) := by
  have hB0 : Below w.heap.size w (w.alloc (.cells (insCells op a b c n X) 35)) := (Below.refl _ w).alloc (Nat.le_refl _) _
  have hX0 := (hX.below hB0 (Nat.le_refl _)).more hB0.size
  have HP := Lib.hid ((put7_any op a b c n X args _ hX0).mono fun e w' hh => (hh.resolve_left (fun h => h.1 hc)).2)
  have HL := Lib.hid (fun W (hb : Below w.heap.size w W) => length7_any op a b c n X args W ((hX.below hb (Nat.le_refl _)).more hb.size))
  have hlen : lenV ⟨op, a, b, c, n, args⟩ = ys.length := by unfold lenV; rw [if_pos hc, hb]
  rw [hlen] at HL
  rw [hb] at HP
  have HB0 := Lib.hid hB0
  have HBD := Lib.hid (hb ▸ InsV.bytes_bd ⟨op, a, b, c, n, args⟩ : ∀ x ∈ ys, 0 ≤ x ∧ x < 256)
  obtain ⟨XA, Xc, rfl⟩ := hX.len
  have hk0 := heap_alloc_new w (.cells (insCells op a b c n (.slice XA args.length Xc)) 35)
  obtain ⟨c0, c1, c2, c3, c4, c5⟩ := cells6 hk0
  have HK0 := Lib.hid hk0
  obtain ⟨YA, Yc, rfl⟩ := hY.len
  have HY := Lib.hid hY
  clear hX0 hB0 hk0 hX hc hb hlen hY
  go_enter Try.func30, Try.ntmps30
  go_wp2_with (first
    | (go_at_call 16; (with_reducible refine HP.out.mono ?_); rintro e w1 ⟨v, rfl, ho⟩; have HO := Lib.hid ho; have HB1 := Lib.hid (HB0.out.trans (ho.bel.mono HB0.out.size)); have hk1 := (ho.bel.block w.heap.size (by simp)).trans HK0.out; obtain ⟨d0, d1, d2, d3, d4, d5⟩ := cells6 hk1; have HS := Lib.hid (sameBytes_yes _ _ _ _ _ _ (ho.bytes HBD.out (Nat.le_refl _)) (HY.out.below HB1.out (Nat.le_refl _))); clear ho hk1)
    | (go_at_call 14; (with_reducible refine HS.out.mono ?_); rintro e w2 ⟨rfl, rfl⟩)
    | (go_at_call 18; (with_reducible refine (HL.out _ HB1.out).mono ?_); rintro e w3 ⟨rfl, hb⟩; have HB3 := Lib.hid (HB1.out.trans (hb.mono HB1.out.size)); clear hb))
  go_ret
  exact ⟨by first | rfl | simp, HB3.out⟩
set_option maxHeartbeats 4000000 in
theorem fails_yes7 (Y : Value) (ys : List Int) (z k : Int) (w : World) (hY : IsBytes w w.heap.size Y ys) (hl : ys.length ≤ 1000000) (hz : z ≠ 0) (hg : (gotV ys 0).err = z ∧ (gotV ys 0).at_ = k) :
    Calls Try.prog 31 #[Y, .int .i64 z, .int .i64 k] w (Makes w (.bool true)) := by
  have HG := Lib.hid ((get7_any Y ys 0 w hY hl).mono fun e w' hh => And.intro hh.1 (hh.2.resolve_right (fun h => hz (hg.1.symm.trans h.1))).2)
  rw [hg.1, hg.2] at HG
  have heq := fun W => eqF_yes z k W
  have HSI := Lib.hid (fun W => sameIns_any 0 0 0 0 0 (.slice none 0 0) [] 0 0 0 0 0 (.slice none 0 0) [] W (nums_nil _ _) (nums_nil _ _))
  rw [show sameV 0 0 0 0 0 [] 0 0 0 0 0 [] = true from rfl] at HSI
  clear hY hl hz hg
  go_enter Try.func31, Try.ntmps31
  go_wp2_with (first
    | (go_at_call 22; (with_reducible refine HG.out.mono ?_); rintro e w1 ⟨hb, rfl⟩; have HB1 := Lib.hid hb; have ha := ((Below.refl w1.heap.size w1).alloc (Nat.le_refl _) (.cells (insCells 0 0 0 0 0 (.slice none 0 0)) 35)).alloc (by simp) (.cells #[.int .i64 z, .int .i64 k] 41); have HB2 := Lib.hid (hb.trans (ha.mono hb.size)); clear hb ha)
    | (go_at_call 26; (with_reducible refine (HSI.out _).mono ?_); rintro e w3 ⟨rfl, hb⟩; have HB3 := Lib.hid (HB2.out.trans (hb.mono HB2.out.size)); clear hb))
  go_ret
  exact ⟨by first | rfl | simp, HB3.out⟩
theorem is_at (op a b c n : Int) (X : Value) (args : List Int) (ys : List Int) (hys : ∀ x ∈ ys, 0 ≤ x ∧ x < 256) (cs : Array Value) (L : Nat) (hcs : cs = (ys.map (Value.int .u8)).toArray) (hL : L = ys.length) (hl : ys.length ≤ 1000)
    (hc : InsV.chk ⟨op, a, b, c, n, args⟩ = 0) (hb : InsV.bytes ⟨op, a, b, c, n, args⟩ = ys) (W : World) (g : Nat) (hg : g = W.heap.size) (hX : IsNums .i64 W W.heap.size X args) :
    Calls Try.prog 30 #[.agg (insCells op a b c n X), .slice (some ⟨g, 0, none⟩) L L] (W.alloc (.cells cs 5)) fun e w' => e = .returned (.bool true) ∧ Below W.heap.size W w' := by
  subst hg hL
  have ha : Below W.heap.size W (W.alloc (.cells cs 5)) := (Below.refl _ W).alloc (Nat.le_refl _) _
  refine (is_yes7 op a b c n X args _ ys _ ((hX.below ha (Nat.le_refl _)).more ha.size) ((bytes_new W ys hys cs hcs hl).more (by simp)) hc hb).mono ?_
  rintro e w' ⟨rfl, hb⟩
  exact ⟨rfl, ha.trans (hb.mono ha.size)⟩
theorem fails_at (ys : List Int) (hys : ∀ x ∈ ys, 0 ≤ x ∧ x < 256) (cs : Array Value) (L : Nat) (hcs : cs = (ys.map (Value.int .u8)).toArray) (hL : L = ys.length) (hl : ys.length ≤ 1000) (z k : Int) (hz : z ≠ 0) (hgv : (gotV ys 0).err = z ∧ (gotV ys 0).at_ = k)
    (W : World) (g : Nat) (hg : g = W.heap.size) :
    Calls Try.prog 31 #[.slice (some ⟨g, 0, none⟩) L L, .int .i64 z, .int .i64 k] (W.alloc (.cells cs 5)) fun e w' => e = .returned (.bool true) ∧ Below W.heap.size W w' := by
  subst hg hL
  have ha : Below W.heap.size W (W.alloc (.cells cs 5)) := (Below.refl _ W).alloc (Nat.le_refl _) _
  refine (fails_yes7 _ ys z k _ ((bytes_new W ys hys cs hcs hl).more (by simp)) (by omega) hz hgv).mono ?_
  rintro e w' ⟨rfl, hb⟩
  exact ⟨rfl, ha.trans (hb.mono ha.size)⟩
theorem got_add : gotV [0, 3, 0, 1, 2] 1 = ⟨0, 0, ⟨3, 0, 1, 2, 0, []⟩, 5⟩ := by kernel_rfl
theorem chk_add : InsV.chk ⟨3, 0, 1, 2, 0, []⟩ = 0 := by kernel_rfl
theorem bytes_add : InsV.bytes ⟨3, 0, 1, 2, 0, []⟩ = [3, 0, 1, 2] := by kernel_rfl
theorem chk_nop : InsV.chk ⟨0, 0, 0, 0, 0, []⟩ = 0 := by kernel_rfl
theorem bytes_nop : InsV.bytes ⟨0, 0, 0, 0, 0, []⟩ = [0] := by kernel_rfl
theorem get_at_add (W : World) (g : Nat) (hg : g = W.heap.size) :
    Calls Try.prog 22 #[.slice (some ⟨g, 0, none⟩) 5 5, .int .i64 1] (W.alloc (.cells #[.int .u8 0, .int .u8 3, .int .u8 0, .int .u8 1, .int .u8 2] 5)) fun e w' =>
      ∃ A c, e = .returned (.tuple #[.agg (insCells 3 0 1 2 0 (.slice A 0 c)), .int .i64 5, .agg #[.int .i64 0, .int .i64 0]]) ∧ Below W.heap.size W w' ∧ IsNums .i64 w' w'.heap.size (.slice A 0 c) [] := by
  subst hg
  have ha : Below W.heap.size W (W.alloc (.cells #[.int .u8 0, .int .u8 3, .int .u8 0, .int .u8 1, .int .u8 2] 5)) := (Below.refl _ W).alloc (Nat.le_refl _) _
  refine (get7_any _ [0, 3, 0, 1, 2] 1 _ ((bytes_new W [0, 3, 0, 1, 2] (by decide) _ rfl (by decide)).more (by simp)) (by decide)).mono ?_
  rw [got_add]
  rintro e w' ⟨hb, ⟨h, _⟩ | ⟨_, V, rfl, ho⟩⟩
  · exact absurd rfl h
  · obtain ⟨A, c, rfl⟩ := owns_len ho
    exact ⟨A, c, rfl, ha.trans (hb.mono ha.size), IsNums.of_owns ho (Nat.le_refl _)⟩
/-- Two boxes and a fault, made one behind the other. -/
structure Box3 (w1 W : World) (op a b c n : Int) (X : Value) (z k : Int) (op' a' b' c' n' : Int) (X' : Value) : Prop where
  ins : W.heap[w1.heap.size]? = some (.cells (insCells op a b c n X) 35 (0, 0))
  fau : flt W (w1.heap.size + 1) z k
  add : W.heap[w1.heap.size + 1 + 1]? = some (.cells (insCells op' a' b' c' n' X') 35 (0, 0))
theorem Box3.grow {w1 W W' : World} {op a b c n : Int} {X : Value} {z k : Int} {op' a' b' c' n' : Int} {X' : Value} (h : Box3 w1 W op a b c n X z k op' a' b' c' n' X') (hb : Below W.heap.size W W') : Box3 w1 W' op a b c n X z k op' a' b' c' n' X' :=
  ⟨(hb.block _ (heap_lt h.ins)).trans h.ins, (hb.block _ (heap_lt h.fau)).trans h.fau, (hb.block _ (heap_lt h.add)).trans h.add⟩
theorem box3_new (w1 : World) (op a b c n : Int) (X : Value) (z k : Int) (op' a' b' c' n' : Int) (X' : Value) :
    Box3 w1 (((w1.alloc (.cells (insCells op a b c n X) 35)).alloc (.cells #[.int .i64 z, .int .i64 k] 41)).alloc (.cells (insCells op' a' b' c' n' X') 35)) op a b c n X z k op' a' b' c' n' X' := by
  refine ⟨?_, ?_, ?_⟩
  · rw [Below.heap_alloc _ _ _ (by simp; omega), Below.heap_alloc _ _ _ (by simp)]
    exact heap_alloc_new _ _
  · show _ = _
    rw [Below.heap_alloc _ _ _ (by simp)]
    have := heap_alloc_new (w1.alloc (.cells (insCells op a b c n X) 35)) (.cells #[.int .i64 z, .int .i64 k] 41)
    rwa [World.size_alloc] at this
  · have := heap_alloc_new ((w1.alloc (.cells (insCells op a b c n X) 35)).alloc (.cells #[.int .i64 z, .int .i64 k] 41)) (.cells (insCells op' a' b' c' n' X') 35)
    simpa using this
set_option maxRecDepth 100000 in
set_option maxHeartbeats 8000000 in
theorem awake7_any (w : World) : Calls Try.prog 10 #[] w (Makes w (.bool true)) := by
  have HG := Lib.hid (fun W g hg => get_at_add W g hg)
  have heq := fun W => eqF_yes 0 0 W
  have HI1 := Lib.hid (fun W g hg => is_at 3 0 1 2 0 (.slice none 0 0) [] [3, 0, 1, 2] (by decide) #[.int .u8 3, .int .u8 0, .int .u8 1, .int .u8 2] 4 rfl rfl (by decide) chk_add bytes_add W g hg (nums_nil _ _))
  have HI2 := Lib.hid (fun W g hg => is_at 0 0 0 0 0 (.slice none 0 0) [] [0] (by decide) #[.int .u8 0] 1 rfl rfl (by decide) chk_nop bytes_nop W g hg (nums_nil _ _))
  go_enter Try.func10, Try.ntmps10
  go_wp2_with (first
    | (go_at_call 22; (with_reducible refine (HG.out _ _ rfl).mono ?_); rintro e w1 ⟨A, c, rfl, hb, ho⟩; have ha := (((Below.refl w1.heap.size w1).alloc (Nat.le_refl _) (.cells (insCells 3 0 1 2 0 (.slice A 0 c)) 35)).alloc (by simp) (.cells #[.int .i64 0, .int .i64 0] 41)).alloc (by simp; omega) (.cells (insCells 3 0 1 2 0 (.slice none 0 0)) 35); have HB1 := Lib.hid (hb.trans (ha.mono hb.size)); have HO1 := Lib.hid ((ho.below ha (Nat.le_refl _)).more ha.size); have HX1 := Lib.hid (box3_new w1 3 0 1 2 0 (.slice A 0 c) 0 0 3 0 1 2 0 (.slice none 0 0)); obtain ⟨d0, d1, d2, d3, d4, d5⟩ := cells6 HX1.out.add; clear hb ho ha)
    | (go_at_call 30; (with_reducible refine (HI1.out _ _ (by simp)).mono ?_); rintro e w2 ⟨rfl, hb⟩; have HB2 := Lib.hid (HB1.out.trans (hb.mono HB1.out.size)); have HO2 := Lib.hid ((HO1.out.below hb (Nat.le_refl _)).more hb.size); have HX2 := Lib.hid (HX1.out.grow hb); clear hb)
    | (go_at_call 30; (with_reducible refine (HI2.out _ _ rfl).mono ?_); rintro e w3 ⟨rfl, hb⟩; have HB3 := Lib.hid (HB2.out.trans (hb.mono HB2.out.size)); have HO3 := Lib.hid ((HO2.out.below hb (Nat.le_refl _)).more hb.size); have HX3 := Lib.hid (HX2.out.grow hb); obtain ⟨k0, k1, k2, k3, k4, k5⟩ := cells6 HX3.out.ins; obtain ⟨j0, j1, j2, j3, j4, j5⟩ := cells6 HX3.out.add; have q0 := flt0 HX3.out.fau; have q1 := flt1 HX3.out.fau; clear hb)
    | (go_at_call 26; (with_reducible refine (sameIns_any 3 0 1 2 0 _ [] 3 0 1 2 0 _ [] _ HO3.out (nums_nil _ _)).mono ?_); rintro e w4 ⟨rfl, hb⟩; have HB4 := Lib.hid (HB3.out.trans (hb.mono HB3.out.size)); clear hb))
  go_ret
  exact ⟨by first | rfl | simp [sameV], HB4.out⟩
end Go.Proofs.Ytobbjphpngckgaa
