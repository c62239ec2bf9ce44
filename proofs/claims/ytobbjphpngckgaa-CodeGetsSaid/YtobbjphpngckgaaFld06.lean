/- The landed op.fields: an iterator over an instruction's fields, letter by letter: its contract, for every body of a loop that keeps all cells but those of one box of the loop's own and of the slice in it. -/
import Derived.Test.YtobbjphpngckgaaSeq06
import Derived.Test.YtobbjphpngckgaaOp06A
import Derived.Test.YtobbjphpngckgaaMath06
import Derived.Test.YtobbjphpngckgaaNums06
namespace Go.Proofs.Ytobbjphpngckgaa
open Go.RowKit Go.Shelf
set_option linter.unusedVariables false
set_option linter.unusedSimpArgs false
attribute [local go_sem] Oper.semAt_some

abbrev insCells (op a b c n : Int) (X : Value) : Array Value := #[.int .i64 op, .int .i64 a, .int .i64 b, .int .i64 c, .int .i64 n, X]
theorem fields_in (op a b c n : Int) (X : Value) (w : World) : Calls Try.prog 65 #[.agg (insCells op a b c n X)] w fun e w' => e = .returned (.func (.func 73) #[] #[.pointer (some ⟨w.heap.size, 0, none⟩)]) ∧ w.alloc (.cells (insCells op a b c n X) 35) = w' := by
  go_enter Try.func65, Try.ntmps65
  go_wp2
  go_ret
  exact ⟨rfl, rfl⟩
def encF (x : Int × Int) : Array Value := #[.int .i32 x.1, .int .i64 x.2]
/-- What the iterator knows of memory, between two rounds: the box, its own row of registers, Args, the place in the text. -/
structure FldAt (Ro bI R T : Nat) (op a b c n : Int) (X : Value) (sh : ByteArray) (W1 : World) (k : Nat) (w : World) : Prop where
  keep : KeepC Ro W1 w
  it : w.heap[T]? = some (.stringIter sh k)
theorem abide {J : List (Int × Int) → World → Prop} {B : Nat} (hJ : AbidesFrom B J) {pre : List (Int × Int)} {A C : World} (h : Below A.heap.size A C) (hj : J pre A) : J pre C :=
  hJ pre A C none hj (grown_of_below h) (fun r e => by cases e)
theorem abide_turn {J : List (Int × Int) → World → Prop} {B : Nat} (hJ : AbidesFrom B J) {pre : List (Int × Int)} {A : World} {T k k' : Nat} {sh : ByteArray} (hB : B ≤ T) (hT : A.heap[T]? = some (.stringIter sh k)) (hj : J pre A) : J pre (A.iterAt T sh k') :=
  hJ pre A _ (some T) hj (grown_iterAt A T sh k') (fun r e => by cases e; exact ⟨hB, _, hT, rfl⟩)
theorem keep_turn {Ro T k k' : Nat} {sh : ByteArray} {A : World} (hR : Ro < A.heap.size) (hRT : Ro ≠ T) (hT : A.heap[T]? = some (.stringIter sh k)) : KeepC Ro A (A.iterAt T sh k') :=
  KeepC.turn (grown_iterAt A T sh k') hR (by simpa using hRT) (fun r e => by cases e; exact ⟨_, hT, rfl⟩)
/-- The registers that are left. -/
def RegS (R j : Nat) (r : Value) : Prop := ∃ A, r = .slice A (3 - j) (3 - j) ∧ (j < 3 → A = some ⟨R, j, none⟩)
theorem iterPos_of {w : World} {T k : Nat} {sh : ByteArray} (h : w.heap[T]? = some (.stringIter sh k)) : w.iterPos T = k := by simp [World.iterPos, h]
set_option maxRecDepth 100000 in
set_option maxHeartbeats 4000000 in
theorem fields1_in (m : Nat) (hm : 3 ≤ m) (l Ro bI : Nat) (op a b c n : Int) (X : Value) (args : List Int) (sh : ByteArray) (hsh : okShape sh = true) (hop : shapeI op = sh)
    (J Jx : List (Int × Int) → World → Prop) (W : World) (hJ : AbidesFrom W.heap.size J)
    (hY : ∀ pre x W1, J pre W1 → pre.length < (itemsOf sh a b c n args).length → YieldAt Fence.wide (m - 1) Try.prog l (encF x) W1 fun e W' =>
      (e = .returned (.bool true) ∧ J (pre ++ [x]) W' ∧ KpO Ro W1 W') ∨ (e = .returned (.bool false) ∧ Jx (pre ++ [x]) W'))
    (hbox : W.heap[bI]? = some (.cells (insCells op a b c n X) 35 (0, 0))) (hX : IsNums .i64 W W.heap.size X args)
    (hR : Ro < W.heap.size) (hfree : ∀ g, g ≠ Ro → ¬ InReach Ro W g) (hbI : bI ≠ Ro) (hXR : ∀ ad len cap, X = .slice (some ad) len cap → 0 < len → ad.block ≠ Ro) (h0 : J [] W) :
    CallsIn Fence.wide m Try.prog 73 #[.func (.yield l) #[] #[], .pointer (some ⟨bI, 0, none⟩)] W fun e W' => (∃ v, e = .returned v) ∧
      ((∃ ys, ys = itemsOf sh a b c n args ∧ J ys W') ∨ (∃ pre, pre <+: itemsOf sh a b c n args ∧ Jx pre W')) := by
  have h1 : 1 ≤ m := by omega
  have hlI := heap_lt hbox
  have cA : W.cell? ⟨bI, 1, none⟩ = some (.int .i64 a) := by simp [World.cell?, hbox]
  have cB : W.cell? ⟨bI, 2, none⟩ = some (.int .i64 b) := by simp [World.cell?, hbox]
  have cC : W.cell? ⟨bI, 3, none⟩ = some (.int .i64 c) := by simp [World.cell?, hbox]
  have cN : W.cell? ⟨bI, 4, none⟩ = some (.int .i64 n) := by simp [World.cell?, hbox]
  have cX : W.cell? ⟨bI, 5, none⟩ = some X := by simp [World.cell?, hbox]
  have cO : W.cell? ⟨bI, 0, none⟩ = some (.int .i64 op) := by simp [World.cell?, hbox]
  obtain ⟨w1, hw1⟩ : ∃ w1, w1 = W.alloc (.cells #[.int .i64 a, .int .i64 b, .int .i64 c] 3) := ⟨_, rfl⟩
  have hb1 : Below W.heap.size W w1 := by rw [hw1]; exact (Below.refl _ _).alloc (Nat.le_refl _) _
  have cO1 : w1.cell? ⟨bI, 0, none⟩ = some (.int .i64 op) := (hb1.cell (p := ⟨bI, 0, none⟩) hlI).trans cO
  have HS := Lib.hid (fun w => shape_any op w)
  rw [hop] at HS
  have HJ := Lib.hid hJ
  have HY := Lib.hid hY
  have HB := Lib.hid hbox
  have HX := Lib.hid hX
  have HF := Lib.hid hfree
  have HXR := Lib.hid hXR
  have HW := Lib.hid hw1
  have Hop := Lib.hid hop
  have Hsh := Lib.hid hsh
  clear hop hJ hY hbox hX hfree hXR hsh
  refine callsIn_of_wp Try.func73 rfl trivial ?_ rfl
  simp only [Try.ntmps73, List.size_toArray, List.length_cons, List.length_nil, Nat.reduceAdd, Nat.reduceSub, Array.replicate_succ, Array.replicate_zero, List.push_toArray, List.append_toArray, List.nil_append, List.cons_append]
  rw [hw1] at cO1
  clear hw1
  gi_wp2_with (refine ⟨trivial, ?_⟩; gi_at_call 55; (with_reducible refine (callsIn_wide.2 (HS.out _)).mono ?_); rintro e w2 ⟨rfl, hb2⟩; have HB2 := Lib.hid hb2; clear hb2)
  obtain ⟨T, hT0⟩ : ∃ T, T = w2.heap.size := ⟨_, rfl⟩
  obtain ⟨w3, hw3⟩ : ∃ w3, w3 = w2.iter sh 0 := ⟨_, rfl⟩
  rw [← hw3, ← hT0]
  have s1 : (W.alloc (.cells #[.int .i64 a, .int .i64 b, .int .i64 c] 3)).heap.size = W.heap.size + 1 := by simp
  have s2 := HB2.out.size
  have hb3 : Below W.heap.size W w3 := by
    rw [hw3]
    exact (((Below.refl _ _).alloc (Nat.le_refl _) _).trans (HB2.out.mono (by simp))).alloc (by omega) _
  have hRow : w3.heap[W.heap.size]? = some (.cells #[.int .i64 a, .int .i64 b, .int .i64 c] 3 (0, 0)) := by
    rw [hw3]
    refine (Below.heap_alloc w2 _ _ (by omega)).trans ((HB2.out.block _ (by omega)).trans ?_)
    exact heap_alloc_new _ _
  have hT3 : w3.heap[T]? = some (.stringIter sh 0) := by rw [hw3, hT0]; exact World.iter_heap _ _ _
  have hJ3 : J [] w3 := abide HJ.out (hb3.mono (Nat.le_refl _)) h0
  have hRoC : w3.cell? ⟨Ro, 0, none⟩ = W.cell? ⟨Ro, 0, none⟩ := hb3.cell (p := ⟨Ro, 0, none⟩) hR
  have hF3 : ∀ g, g ≠ Ro → ¬ InReach Ro w3 g := fun g hg h => HF.out g hg (inReach_same hRoC h)
  have cN3 : w3.cell? ⟨bI, 4, none⟩ = some (.int .i64 n) := (hb3.cell (p := ⟨bI, 4, none⟩) hlI).trans cN
  have cX3 : w3.cell? ⟨bI, 5, none⟩ = some X := (hb3.cell (p := ⟨bI, 5, none⟩) hlI).trans cX
  have hX3 : IsNums .i64 w3 W.heap.size X args := HX.out.below hb3 (Nat.le_refl _)
  have hTW : W.heap.size ≤ T := by omega
  have hs3 : T < w3.heap.size := heap_lt hT3
  obtain ⟨R, hRW⟩ : ∃ R, R = W.heap.size := ⟨_, rfl⟩
  rw [← hRW] at hRow ⊢
  have hR1 : R ≠ Ro := by omega
  have hR3 : Ro < w3.heap.size := by omega
  have hR4 : R < w3.heap.size := heap_lt hRow
  have hRT : Ro ≠ T := by omega
  have HRow := Lib.hid hRow
  have HT3 := Lib.hid hT3
  have HJ3 := Lib.hid hJ3
  have HF3 := Lib.hid hF3
  have HX3 := Lib.hid hX3
  have HcN := Lib.hid cN3
  have HcX := Lib.hid cX3
  have HTW := Lib.hid hTW
  have HRT := Lib.hid hRT
  clear hw3 hT0 s1 s2 hb3 hRow hT3 hJ3 hRoC hF3 cN3 cX3 hX3 hTW HB2 HW cA cB cC cN cX cO cO1 hb1 w1 hRW h0 hRT HS
  clear w2
  gi_loopw [3] (fun r wr => ∃ (k j : Nat) (pre : List (Int × Int)), k ≤ sh.size ∧ j + regN ((lettersOf sh).drop k) ≤ 3 ∧ itemsOf sh a b c n args = pre ++ itemsL n args ((lettersOf sh).drop k) ([a, b, c].drop j) ∧ RegS R j r ∧ J pre wr ∧ KeepC Ro w3 wr ∧ wr.heap[T]? = some (.stringIter sh k)) (fun _ wr => sh.size - wr.iterPos T)
  case atStart => exact ⟨0, 0, [], Nat.zero_le _, by simpa using okShape_reg Hsh.out, rfl, ⟨_, rfl, fun _ => rfl⟩, HJ3.out, KeepC.refl _ _, HT3.out⟩
  case round =>
    obtain ⟨k, j, pre, hk, hj, hi, hr, hJr, hKr, hTr⟩ := hrel
    have HT := Lib.hid hTr
    have HJr := Lib.hid hJr
    have HKr := Lib.hid hKr
    by_cases hlt : k < sh.size
    · have hq0 := okShape_lt Hsh.out hlt
      have hnx0 : ∀ ty, (Instr.next (.pointer (some ⟨T, 0, none⟩)) true ty).run Try.prog wr = _ := fun ty => Lib.run_next_ascii_at wr T sh k ty hTr hlt hq0
      have hdr := letters_drop sh hlt
      rw [hdr] at hi hj
      obtain ⟨q, hq⟩ : ∃ q : Int, q = (sh[k].toNat : Int) := ⟨_, rfl⟩
      rw [← hq] at hnx0 hi hj
      have hi2 := items_step hi
      obtain ⟨w', hw'⟩ : ∃ w', w' = wr.iterAt T sh (k + 1) := ⟨_, rfl⟩
      rw [← hw'] at hnx0
      have hnx : ∀ ty, (Instr.next (.pointer (some ⟨T, 0, none⟩)) true ty).run Try.prog wr = .ok (.tuple #[.bool true, .int .i64 k, .int .i32 q]) w' := hnx0
      have hsr := hKr.size
      have hKt : KeepC Ro wr w' := by rw [hw']; exact keep_turn (by omega) HRT.out hTr
      have hTt : w'.heap[T]? = some (.stringIter sh (k + 1)) := by rw [hw']; exact Lib.iterAt_heap _ _ _ _ _ hTr
      have hJt : J pre w' := by rw [hw']; exact abide_turn HJ.out HTW.out hTr hJr
      have hst := hKt.size
      have hK3 := hKr.trans hKt
      have cNt : w'.cell? ⟨bI, 4, none⟩ = some (.int .i64 n) := hK3.cell HcN.out (HF3.out _ hbI)
      obtain ⟨w4, hw4⟩ : ∃ w4, w4 = w'.alloc (.cells #[.int .i64 n] 3) := ⟨_, rfl⟩
      have hb4 : Below w'.heap.size w' w4 := by rw [hw4]; exact (Below.refl _ _).alloc (Nat.le_refl _) _
      have hK4 : KeepC Ro w3 w4 := hK3.trans (KeepC.below hb4 (by omega))
      have hJ4 : J pre w4 := abide HJ.out hb4 hJt
      have hT4 : w4.heap[T]? = some (.stringIter sh (k + 1)) := (hb4.block _ (heap_lt hTt)).trans hTt
      have hnew : w4.heap[w'.heap.size]? = some (.cells #[.int .i64 n] 3 (0, 0)) := by rw [hw4]; exact heap_alloc_new _ _
      have hbd : ∀ g, InReach Ro w' g → g < w'.heap.size := hK3.bound (fun g hg => by
        by_cases e : g = Ro
        · omega
        · exact absurd hg (HF3.out _ e))
      have hnfree : ¬ InReach Ro w4 w'.heap.size := fun h => absurd (hbd _ (inReach_same (hb4.cell (p := ⟨Ro, 0, none⟩) (show Ro < _ by omega)) h)) (by omega)
      have cX4 : w4.cell? ⟨bI, 5, none⟩ = some X := hK4.cell HcX.out (HF3.out _ hbI)
      have hX4 : ∀ b' o' v, w3.cell? ⟨b', o', none⟩ = some v → b' ≠ Ro → w4.cell? ⟨b', o', none⟩ = some v ∧ ¬ InReach Ro w4 b' := fun b' o' v hv hb => ⟨hK4.cell hv (HF3.out _ hb), hK4.free (p := ⟨b', o', none⟩) hv (HF3.out _ hb)⟩
      have hRow4 := hK4.cells R _ HRow.out rfl (HF3.out _ hR1)
      have cN4 : w4.cell? ⟨w'.heap.size, 0, none⟩ = some (.int .i64 n) := by simp [World.cell?, hnew]
      have HX4 := Lib.hid hX4
      have HRow4 := Lib.hid hRow4
      have HN4 := Lib.hid cN4
      have HNF := Lib.hid hnfree
      have HK4 := Lib.hid hK4
      have HJ4 := Lib.hid hJ4
      have HT4 := Lib.hid hT4
      have Hq := Lib.hid hq
      have Hw4 := Lib.hid hw4
      have HI := Lib.hid hi2
      have HN0 := Lib.hid hj
      have cX5 : (w'.alloc (.cells #[.int .i64 n] 3)).cell? ⟨bI, 5, none⟩ = some X := by rw [← hw4]; exact cX4
      clear hX4 hRow4 cN4 hnfree hK4 hJ4 hT4 hq hw' hw4 hi hi2 hj hnx0 hdr hTr hJr hKr hKt hTt hJt hK3 hb4 hbd hnew cX4 hq0
      simp only [regN] at HN0
      by_cases hreg : isReg q = true
      · have hj3 : j < 3 := by have := HN0.out; simp only [hreg, if_true] at this; omega
        obtain ⟨A, rfl, hA⟩ := hr
        obtain rfl := hA hj3
        obtain ⟨x, hx⟩ : ∃ x : Int, x = ([a, b, c].drop j).headD 0 := ⟨_, rfl⟩
        have HI' : Hid (itemsOf sh a b c n args = pre ++ ([x]).map (fun x => (q, x)) ++ itemsL n args ((lettersOf sh).drop (k + 1)) ([a, b, c].drop (j + 1))) := by
          have h := HI.out
          simp only [heldOf, restOf, hreg, if_true, List.tail_drop, ← hx] at h
          exact h
        have HN : Hid ((j + 1) + regN ((lettersOf sh).drop (k + 1)) ≤ 3) := by
          have h := HN0.out
          simp only [hreg, if_true] at h
          exact Lib.hid (by omega)
        clear HI HN0 hA
        have HI := HI'
        clear HI'
        have HC4 : Hid (∀ t, t < 1 → w4.cell? ⟨R, j + t, none⟩ = some (.int .i64 (([x] : List Int).getD t 0))) := Lib.hid (fun t ht => by
          obtain rfl : t = 0 := by omega
          rw [hx]
          rcases (show j = 0 ∨ j = 1 ∨ j = 2 by omega) with rfl | rfl | rfl <;> simp [World.cell?, HRow4.out.1])
        clear hx
        have HF4 : Hid (¬ InReach Ro w4 R) := Lib.hid HRow4.out.2
        have hregq : q = 119 ∨ q = 114 := of_decide_eq_true hreg
        rcases hregq with rfl | rfl <;> rcases (show j = 0 ∨ j = 1 ∨ j = 2 by omega) with rfl | rfl | rfl
        · simp only [Nat.sub_zero, Nat.reduceSub, Nat.zero_add] at HC4 ⊢
          gi_wp2
          gi_region
          gi_wp2
          rw [← Hw4.out]
          obtain ⟨w5, hw5⟩ : ∃ w5, w5 = w4.drew := ⟨_, rfl⟩
          rw [← hw5]
          have hb5 : Below w4.heap.size w4 w5 := by rw [hw5]; exact (Below.refl _ _).drew
          have HK45 := Lib.hid (KeepC.below hb5 (Nat.lt_of_lt_of_le hR3 HK4.out.size))
          have hJ5 : J pre w5 := abide HJ.out hb5 HJ4.out
          have hT5 : w5.heap[T]? = some (.stringIter sh (k + 1)) := by rw [hw5]; exact HT4.out
          clear HJ4 HT4 hb5 hw5
          have HJ4 := Lib.hid hJ5
          have HT4 := Lib.hid hT5
          clear hJ5 hT5
          gi_loopw [40] (fun i wi => ∃ t : Nat, t ≤ 1 ∧ i = .int .i64 t ∧ J (pre ++ (([x]).take t).map (fun x => (119, x))) wi ∧ KeepC Ro w4 wi ∧ wi.heap[T]? = some (.stringIter sh (k + 1))) (fun i _ => 1 - (intOf i).toNat)
          case atStart => exact ⟨0, Nat.zero_le _, rfl, by simpa using HJ4.out, HK45.out, HT4.out⟩
          case round =>
            obtain ⟨t, ht, rfl, hJi, hKi, hTi⟩ := hrel
            have HJi := Lib.hid hJi
            have HKi := Lib.hid hKi
            have HTi := Lib.hid hTi
            have HSi := Lib.hid (Nat.le_trans HK4.out.size hKi.size)
            clear hJi hKi hTi
            by_cases hlt2 : t < 1
            · obtain rfl : t = 0 := by omega
              have hci := HKi.out.cell (HC4.out 0 (by simp)) HF4.out
              simp only [Nat.add_zero, List.getD_cons_zero] at hci
              obtain ⟨fn, tmps, assign, body, hy, hRd⟩ := HY.out _ (119, (([x]).getD 0 0)) _ HJi.out (items_lt HI.out (show 0 < ([x]).length from by simp))
              have HRd := Lib.hid hRd
              clear hRd
              dsimp only [encF] at hy
              simp only [List.getD_cons_zero] at hy
              gi_wp2
              refine HRd.out.mono ?_
              rintro e W3 (⟨rfl, hJ3, hk3⟩ | ⟨rfl, hJx3⟩)
              · have HJ3' := Lib.hid hJ3
                have HK3 := Lib.hid hk3
                clear hJ3 hk3
                gi_wp2
                go_roundw
                case rel => exact ⟨0 + 1, by omega, by go_num, by rw [take_snocF ([x]) (show 0 < ([x]).length from by simp) (fun x => (119, x)), ← List.append_assoc]; exact HJ3'.out, HKi.out.trans HK3.out.1, HK3.out.2.same _ _ HTi.out rfl⟩
                case measure => simp [intOf] <;> omega
              · have HJ3' := Lib.hid hJx3
                clear hJx3
                gi_wp2
                refine bodyPost_ret (results_none rfl _ _ _) rfl ?_
                exact ⟨⟨_, rfl⟩, .inr ⟨pre ++ (([x]).take (0 + 1)).map (fun x => (119, x)), items_pre HI.out _, by rw [take_snocF ([x]) (show 0 < ([x]).length from by simp) (fun x => (119, x)), ← List.append_assoc]; exact HJ3'.out⟩⟩
            · obtain rfl : t = 1 := by omega
              gi_wp2
              go_roundw
              case rel => exact ⟨k + 1, _, pre ++ ([x]).map (fun x => (119, x)), hlt, HN.out, HI.out, ⟨_, rfl, fun h => by first | rfl | omega⟩, by have := HJi.out; rw [List.take_of_length_le (by simp)] at this; exact this, HK4.out.trans HKi.out, HTi.out⟩
              case measure => rw [iterPos_of HTi.out, iterPos_of HT.out]; omega
        · simp only [Nat.sub_zero, Nat.reduceSub, Nat.zero_add] at HC4 ⊢
          gi_wp2
          gi_region
          gi_wp2
          rw [← Hw4.out]
          obtain ⟨w5, hw5⟩ : ∃ w5, w5 = w4.drew := ⟨_, rfl⟩
          rw [← hw5]
          have hb5 : Below w4.heap.size w4 w5 := by rw [hw5]; exact (Below.refl _ _).drew
          have HK45 := Lib.hid (KeepC.below hb5 (Nat.lt_of_lt_of_le hR3 HK4.out.size))
          have hJ5 : J pre w5 := abide HJ.out hb5 HJ4.out
          have hT5 : w5.heap[T]? = some (.stringIter sh (k + 1)) := by rw [hw5]; exact HT4.out
          clear HJ4 HT4 hb5 hw5
          have HJ4 := Lib.hid hJ5
          have HT4 := Lib.hid hT5
          clear hJ5 hT5
          gi_loopw [40] (fun i wi => ∃ t : Nat, t ≤ 1 ∧ i = .int .i64 t ∧ J (pre ++ (([x]).take t).map (fun x => (119, x))) wi ∧ KeepC Ro w4 wi ∧ wi.heap[T]? = some (.stringIter sh (k + 1))) (fun i _ => 1 - (intOf i).toNat)
          case atStart => exact ⟨0, Nat.zero_le _, rfl, by simpa using HJ4.out, HK45.out, HT4.out⟩
          case round =>
            obtain ⟨t, ht, rfl, hJi, hKi, hTi⟩ := hrel
            have HJi := Lib.hid hJi
            have HKi := Lib.hid hKi
            have HTi := Lib.hid hTi
            have HSi := Lib.hid (Nat.le_trans HK4.out.size hKi.size)
            clear hJi hKi hTi
            by_cases hlt2 : t < 1
            · obtain rfl : t = 0 := by omega
              have hci := HKi.out.cell (HC4.out 0 (by simp)) HF4.out
              simp only [Nat.add_zero, List.getD_cons_zero] at hci
              obtain ⟨fn, tmps, assign, body, hy, hRd⟩ := HY.out _ (119, (([x]).getD 0 0)) _ HJi.out (items_lt HI.out (show 0 < ([x]).length from by simp))
              have HRd := Lib.hid hRd
              clear hRd
              dsimp only [encF] at hy
              simp only [List.getD_cons_zero] at hy
              gi_wp2
              refine HRd.out.mono ?_
              rintro e W3 (⟨rfl, hJ3, hk3⟩ | ⟨rfl, hJx3⟩)
              · have HJ3' := Lib.hid hJ3
                have HK3 := Lib.hid hk3
                clear hJ3 hk3
                gi_wp2
                go_roundw
                case rel => exact ⟨0 + 1, by omega, by go_num, by rw [take_snocF ([x]) (show 0 < ([x]).length from by simp) (fun x => (119, x)), ← List.append_assoc]; exact HJ3'.out, HKi.out.trans HK3.out.1, HK3.out.2.same _ _ HTi.out rfl⟩
                case measure => simp [intOf] <;> omega
              · have HJ3' := Lib.hid hJx3
                clear hJx3
                gi_wp2
                refine bodyPost_ret (results_none rfl _ _ _) rfl ?_
                exact ⟨⟨_, rfl⟩, .inr ⟨pre ++ (([x]).take (0 + 1)).map (fun x => (119, x)), items_pre HI.out _, by rw [take_snocF ([x]) (show 0 < ([x]).length from by simp) (fun x => (119, x)), ← List.append_assoc]; exact HJ3'.out⟩⟩
            · obtain rfl : t = 1 := by omega
              gi_wp2
              go_roundw
              case rel => exact ⟨k + 1, _, pre ++ ([x]).map (fun x => (119, x)), hlt, HN.out, HI.out, ⟨_, rfl, fun h => by first | rfl | omega⟩, by have := HJi.out; rw [List.take_of_length_le (by simp)] at this; exact this, HK4.out.trans HKi.out, HTi.out⟩
              case measure => rw [iterPos_of HTi.out, iterPos_of HT.out]; omega
        · simp only [Nat.sub_zero, Nat.reduceSub, Nat.zero_add] at HC4 ⊢
          gi_wp2
          gi_region
          gi_wp2
          rw [← Hw4.out]
          obtain ⟨w5, hw5⟩ : ∃ w5, w5 = w4.drew := ⟨_, rfl⟩
          rw [← hw5]
          have hb5 : Below w4.heap.size w4 w5 := by rw [hw5]; exact (Below.refl _ _).drew
          have HK45 := Lib.hid (KeepC.below hb5 (Nat.lt_of_lt_of_le hR3 HK4.out.size))
          have hJ5 : J pre w5 := abide HJ.out hb5 HJ4.out
          have hT5 : w5.heap[T]? = some (.stringIter sh (k + 1)) := by rw [hw5]; exact HT4.out
          clear HJ4 HT4 hb5 hw5
          have HJ4 := Lib.hid hJ5
          have HT4 := Lib.hid hT5
          clear hJ5 hT5
          gi_loopw [40] (fun i wi => ∃ t : Nat, t ≤ 1 ∧ i = .int .i64 t ∧ J (pre ++ (([x]).take t).map (fun x => (119, x))) wi ∧ KeepC Ro w4 wi ∧ wi.heap[T]? = some (.stringIter sh (k + 1))) (fun i _ => 1 - (intOf i).toNat)
          case atStart => exact ⟨0, Nat.zero_le _, rfl, by simpa using HJ4.out, HK45.out, HT4.out⟩
          case round =>
            obtain ⟨t, ht, rfl, hJi, hKi, hTi⟩ := hrel
            have HJi := Lib.hid hJi
            have HKi := Lib.hid hKi
            have HTi := Lib.hid hTi
            have HSi := Lib.hid (Nat.le_trans HK4.out.size hKi.size)
            clear hJi hKi hTi
            by_cases hlt2 : t < 1
            · obtain rfl : t = 0 := by omega
              have hci := HKi.out.cell (HC4.out 0 (by simp)) HF4.out
              simp only [Nat.add_zero, List.getD_cons_zero] at hci
              obtain ⟨fn, tmps, assign, body, hy, hRd⟩ := HY.out _ (119, (([x]).getD 0 0)) _ HJi.out (items_lt HI.out (show 0 < ([x]).length from by simp))
              have HRd := Lib.hid hRd
              clear hRd
              dsimp only [encF] at hy
              simp only [List.getD_cons_zero] at hy
              gi_wp2
              refine HRd.out.mono ?_
              rintro e W3 (⟨rfl, hJ3, hk3⟩ | ⟨rfl, hJx3⟩)
              · have HJ3' := Lib.hid hJ3
                have HK3 := Lib.hid hk3
                clear hJ3 hk3
                gi_wp2
                go_roundw
                case rel => exact ⟨0 + 1, by omega, by go_num, by rw [take_snocF ([x]) (show 0 < ([x]).length from by simp) (fun x => (119, x)), ← List.append_assoc]; exact HJ3'.out, HKi.out.trans HK3.out.1, HK3.out.2.same _ _ HTi.out rfl⟩
                case measure => simp [intOf] <;> omega
              · have HJ3' := Lib.hid hJx3
                clear hJx3
                gi_wp2
                refine bodyPost_ret (results_none rfl _ _ _) rfl ?_
                exact ⟨⟨_, rfl⟩, .inr ⟨pre ++ (([x]).take (0 + 1)).map (fun x => (119, x)), items_pre HI.out _, by rw [take_snocF ([x]) (show 0 < ([x]).length from by simp) (fun x => (119, x)), ← List.append_assoc]; exact HJ3'.out⟩⟩
            · obtain rfl : t = 1 := by omega
              gi_wp2
              go_roundw
              case rel => exact ⟨k + 1, _, pre ++ ([x]).map (fun x => (119, x)), hlt, HN.out, HI.out, ⟨_, rfl, fun h => by first | rfl | omega⟩, by have := HJi.out; rw [List.take_of_length_le (by simp)] at this; exact this, HK4.out.trans HKi.out, HTi.out⟩
              case measure => rw [iterPos_of HTi.out, iterPos_of HT.out]; omega
        · simp only [Nat.sub_zero, Nat.reduceSub, Nat.zero_add] at HC4 ⊢
          gi_wp2
          gi_region
          gi_wp2
          rw [← Hw4.out]
          obtain ⟨w5, hw5⟩ : ∃ w5, w5 = w4.drew := ⟨_, rfl⟩
          rw [← hw5]
          have hb5 : Below w4.heap.size w4 w5 := by rw [hw5]; exact (Below.refl _ _).drew
          have HK45 := Lib.hid (KeepC.below hb5 (Nat.lt_of_lt_of_le hR3 HK4.out.size))
          have hJ5 : J pre w5 := abide HJ.out hb5 HJ4.out
          have hT5 : w5.heap[T]? = some (.stringIter sh (k + 1)) := by rw [hw5]; exact HT4.out
          clear HJ4 HT4 hb5 hw5
          have HJ4 := Lib.hid hJ5
          have HT4 := Lib.hid hT5
          clear hJ5 hT5
          gi_loopw [40] (fun i wi => ∃ t : Nat, t ≤ 1 ∧ i = .int .i64 t ∧ J (pre ++ (([x]).take t).map (fun x => (114, x))) wi ∧ KeepC Ro w4 wi ∧ wi.heap[T]? = some (.stringIter sh (k + 1))) (fun i _ => 1 - (intOf i).toNat)
          case atStart => exact ⟨0, Nat.zero_le _, rfl, by simpa using HJ4.out, HK45.out, HT4.out⟩
          case round =>
            obtain ⟨t, ht, rfl, hJi, hKi, hTi⟩ := hrel
            have HJi := Lib.hid hJi
            have HKi := Lib.hid hKi
            have HTi := Lib.hid hTi
            have HSi := Lib.hid (Nat.le_trans HK4.out.size hKi.size)
            clear hJi hKi hTi
            by_cases hlt2 : t < 1
            · obtain rfl : t = 0 := by omega
              have hci := HKi.out.cell (HC4.out 0 (by simp)) HF4.out
              simp only [Nat.add_zero, List.getD_cons_zero] at hci
              obtain ⟨fn, tmps, assign, body, hy, hRd⟩ := HY.out _ (114, (([x]).getD 0 0)) _ HJi.out (items_lt HI.out (show 0 < ([x]).length from by simp))
              have HRd := Lib.hid hRd
              clear hRd
              dsimp only [encF] at hy
              simp only [List.getD_cons_zero] at hy
              gi_wp2
              refine HRd.out.mono ?_
              rintro e W3 (⟨rfl, hJ3, hk3⟩ | ⟨rfl, hJx3⟩)
              · have HJ3' := Lib.hid hJ3
                have HK3 := Lib.hid hk3
                clear hJ3 hk3
                gi_wp2
                go_roundw
                case rel => exact ⟨0 + 1, by omega, by go_num, by rw [take_snocF ([x]) (show 0 < ([x]).length from by simp) (fun x => (114, x)), ← List.append_assoc]; exact HJ3'.out, HKi.out.trans HK3.out.1, HK3.out.2.same _ _ HTi.out rfl⟩
                case measure => simp [intOf] <;> omega
              · have HJ3' := Lib.hid hJx3
                clear hJx3
                gi_wp2
                refine bodyPost_ret (results_none rfl _ _ _) rfl ?_
                exact ⟨⟨_, rfl⟩, .inr ⟨pre ++ (([x]).take (0 + 1)).map (fun x => (114, x)), items_pre HI.out _, by rw [take_snocF ([x]) (show 0 < ([x]).length from by simp) (fun x => (114, x)), ← List.append_assoc]; exact HJ3'.out⟩⟩
            · obtain rfl : t = 1 := by omega
              gi_wp2
              go_roundw
              case rel => exact ⟨k + 1, _, pre ++ ([x]).map (fun x => (114, x)), hlt, HN.out, HI.out, ⟨_, rfl, fun h => by first | rfl | omega⟩, by have := HJi.out; rw [List.take_of_length_le (by simp)] at this; exact this, HK4.out.trans HKi.out, HTi.out⟩
              case measure => rw [iterPos_of HTi.out, iterPos_of HT.out]; omega
        · simp only [Nat.sub_zero, Nat.reduceSub, Nat.zero_add] at HC4 ⊢
          gi_wp2
          gi_region
          gi_wp2
          rw [← Hw4.out]
          obtain ⟨w5, hw5⟩ : ∃ w5, w5 = w4.drew := ⟨_, rfl⟩
          rw [← hw5]
          have hb5 : Below w4.heap.size w4 w5 := by rw [hw5]; exact (Below.refl _ _).drew
          have HK45 := Lib.hid (KeepC.below hb5 (Nat.lt_of_lt_of_le hR3 HK4.out.size))
          have hJ5 : J pre w5 := abide HJ.out hb5 HJ4.out
          have hT5 : w5.heap[T]? = some (.stringIter sh (k + 1)) := by rw [hw5]; exact HT4.out
          clear HJ4 HT4 hb5 hw5
          have HJ4 := Lib.hid hJ5
          have HT4 := Lib.hid hT5
          clear hJ5 hT5
          gi_loopw [40] (fun i wi => ∃ t : Nat, t ≤ 1 ∧ i = .int .i64 t ∧ J (pre ++ (([x]).take t).map (fun x => (114, x))) wi ∧ KeepC Ro w4 wi ∧ wi.heap[T]? = some (.stringIter sh (k + 1))) (fun i _ => 1 - (intOf i).toNat)
          case atStart => exact ⟨0, Nat.zero_le _, rfl, by simpa using HJ4.out, HK45.out, HT4.out⟩
          case round =>
            obtain ⟨t, ht, rfl, hJi, hKi, hTi⟩ := hrel
            have HJi := Lib.hid hJi
            have HKi := Lib.hid hKi
            have HTi := Lib.hid hTi
            have HSi := Lib.hid (Nat.le_trans HK4.out.size hKi.size)
            clear hJi hKi hTi
            by_cases hlt2 : t < 1
            · obtain rfl : t = 0 := by omega
              have hci := HKi.out.cell (HC4.out 0 (by simp)) HF4.out
              simp only [Nat.add_zero, List.getD_cons_zero] at hci
              obtain ⟨fn, tmps, assign, body, hy, hRd⟩ := HY.out _ (114, (([x]).getD 0 0)) _ HJi.out (items_lt HI.out (show 0 < ([x]).length from by simp))
              have HRd := Lib.hid hRd
              clear hRd
              dsimp only [encF] at hy
              simp only [List.getD_cons_zero] at hy
              gi_wp2
              refine HRd.out.mono ?_
              rintro e W3 (⟨rfl, hJ3, hk3⟩ | ⟨rfl, hJx3⟩)
              · have HJ3' := Lib.hid hJ3
                have HK3 := Lib.hid hk3
                clear hJ3 hk3
                gi_wp2
                go_roundw
                case rel => exact ⟨0 + 1, by omega, by go_num, by rw [take_snocF ([x]) (show 0 < ([x]).length from by simp) (fun x => (114, x)), ← List.append_assoc]; exact HJ3'.out, HKi.out.trans HK3.out.1, HK3.out.2.same _ _ HTi.out rfl⟩
                case measure => simp [intOf] <;> omega
              · have HJ3' := Lib.hid hJx3
                clear hJx3
                gi_wp2
                refine bodyPost_ret (results_none rfl _ _ _) rfl ?_
                exact ⟨⟨_, rfl⟩, .inr ⟨pre ++ (([x]).take (0 + 1)).map (fun x => (114, x)), items_pre HI.out _, by rw [take_snocF ([x]) (show 0 < ([x]).length from by simp) (fun x => (114, x)), ← List.append_assoc]; exact HJ3'.out⟩⟩
            · obtain rfl : t = 1 := by omega
              gi_wp2
              go_roundw
              case rel => exact ⟨k + 1, _, pre ++ ([x]).map (fun x => (114, x)), hlt, HN.out, HI.out, ⟨_, rfl, fun h => by first | rfl | omega⟩, by have := HJi.out; rw [List.take_of_length_le (by simp)] at this; exact this, HK4.out.trans HKi.out, HTi.out⟩
              case measure => rw [iterPos_of HTi.out, iterPos_of HT.out]; omega
        · simp only [Nat.sub_zero, Nat.reduceSub, Nat.zero_add] at HC4 ⊢
          gi_wp2
          gi_region
          gi_wp2
          rw [← Hw4.out]
          obtain ⟨w5, hw5⟩ : ∃ w5, w5 = w4.drew := ⟨_, rfl⟩
          rw [← hw5]
          have hb5 : Below w4.heap.size w4 w5 := by rw [hw5]; exact (Below.refl _ _).drew
          have HK45 := Lib.hid (KeepC.below hb5 (Nat.lt_of_lt_of_le hR3 HK4.out.size))
          have hJ5 : J pre w5 := abide HJ.out hb5 HJ4.out
          have hT5 : w5.heap[T]? = some (.stringIter sh (k + 1)) := by rw [hw5]; exact HT4.out
          clear HJ4 HT4 hb5 hw5
          have HJ4 := Lib.hid hJ5
          have HT4 := Lib.hid hT5
          clear hJ5 hT5
          gi_loopw [40] (fun i wi => ∃ t : Nat, t ≤ 1 ∧ i = .int .i64 t ∧ J (pre ++ (([x]).take t).map (fun x => (114, x))) wi ∧ KeepC Ro w4 wi ∧ wi.heap[T]? = some (.stringIter sh (k + 1))) (fun i _ => 1 - (intOf i).toNat)
          case atStart => exact ⟨0, Nat.zero_le _, rfl, by simpa using HJ4.out, HK45.out, HT4.out⟩
          case round =>
            obtain ⟨t, ht, rfl, hJi, hKi, hTi⟩ := hrel
            have HJi := Lib.hid hJi
            have HKi := Lib.hid hKi
            have HTi := Lib.hid hTi
            have HSi := Lib.hid (Nat.le_trans HK4.out.size hKi.size)
            clear hJi hKi hTi
            by_cases hlt2 : t < 1
            · obtain rfl : t = 0 := by omega
              have hci := HKi.out.cell (HC4.out 0 (by simp)) HF4.out
              simp only [Nat.add_zero, List.getD_cons_zero] at hci
              obtain ⟨fn, tmps, assign, body, hy, hRd⟩ := HY.out _ (114, (([x]).getD 0 0)) _ HJi.out (items_lt HI.out (show 0 < ([x]).length from by simp))
              have HRd := Lib.hid hRd
              clear hRd
              dsimp only [encF] at hy
              simp only [List.getD_cons_zero] at hy
              gi_wp2
              refine HRd.out.mono ?_
              rintro e W3 (⟨rfl, hJ3, hk3⟩ | ⟨rfl, hJx3⟩)
              · have HJ3' := Lib.hid hJ3
                have HK3 := Lib.hid hk3
                clear hJ3 hk3
                gi_wp2
                go_roundw
                case rel => exact ⟨0 + 1, by omega, by go_num, by rw [take_snocF ([x]) (show 0 < ([x]).length from by simp) (fun x => (114, x)), ← List.append_assoc]; exact HJ3'.out, HKi.out.trans HK3.out.1, HK3.out.2.same _ _ HTi.out rfl⟩
                case measure => simp [intOf] <;> omega
              · have HJ3' := Lib.hid hJx3
                clear hJx3
                gi_wp2
                refine bodyPost_ret (results_none rfl _ _ _) rfl ?_
                exact ⟨⟨_, rfl⟩, .inr ⟨pre ++ (([x]).take (0 + 1)).map (fun x => (114, x)), items_pre HI.out _, by rw [take_snocF ([x]) (show 0 < ([x]).length from by simp) (fun x => (114, x)), ← List.append_assoc]; exact HJ3'.out⟩⟩
            · obtain rfl : t = 1 := by omega
              gi_wp2
              go_roundw
              case rel => exact ⟨k + 1, _, pre ++ ([x]).map (fun x => (114, x)), hlt, HN.out, HI.out, ⟨_, rfl, fun h => by first | rfl | omega⟩, by have := HJi.out; rw [List.take_of_length_le (by simp)] at this; exact this, HK4.out.trans HKi.out, HTi.out⟩
              case measure => rw [iterPos_of HTi.out, iterPos_of HT.out]; omega
      · have hq1 : q ≠ 119 ∧ q ≠ 114 := by
          have h := of_decide_eq_false (Bool.eq_false_iff.2 hreg)
          omega
        have e1 : (q == 119) = false := by simpa using hq1.1
        have e2 : (q == 114) = false := by simpa using hq1.2
        obtain ⟨A, rfl, hA⟩ := hr
        have HA := Lib.hid hA
        have HN : Hid (j + regN ((lettersOf sh).drop (k + 1)) ≤ 3) := by
          have h := HN0.out
          simp only [hreg, if_false, Nat.zero_add] at h
          exact Lib.hid (by simpa using h)
        have hI := HI.out
        simp only [heldOf, restOf, hreg, if_false] at hI
        clear HI HN0 hA
        by_cases hq8 : q = 108
        · subst hq8
          have HI : Hid (itemsOf sh a b c n args = pre ++ args.map (fun x => ((108 : Int), x)) ++ itemsL n args ((lettersOf sh).drop (k + 1)) ([a, b, c].drop j)) := Lib.hid (by simpa using hI)
          clear hI hq1 e1 e2
          rw [← Hw4.out] at cX5
          by_cases hpos : 0 < args.length
          · obtain ⟨b', o', cap, rfl, hlc, hbB, hcs⟩ := HX3.out.plain hpos
            have hb' : b' ≠ Ro := HXR.out _ _ _ rfl hpos
            have hm := HX3.out.1
            unfold maxLen at hm
            have HC4 := Lib.hid (fun t ht => (HX4.out b' (o' + t) _ (hcs t ht) hb').1)
            have HF4 : Hid (¬ InReach Ro w4 b') := Lib.hid (HX4.out b' (o' + 0) _ (hcs 0 hpos) hb').2
            clear hcs
            rw [Hw4.out] at cX5
            gi_wp2
            rw [← Hw4.out]
            gi_loopw [40] (fun i wi => ∃ t : Nat, t ≤ args.length ∧ i = .int .i64 t ∧ J (pre ++ ((args).take t).map (fun x => ((108 : Int), x))) wi ∧ KeepC Ro w4 wi ∧ wi.heap[T]? = some (.stringIter sh (k + 1))) (fun i _ => args.length - (intOf i).toNat)
            case atStart => exact ⟨0, Nat.zero_le _, rfl, by simpa using HJ4.out, KeepC.refl _ _, HT4.out⟩
            case round =>
              obtain ⟨t, ht, rfl, hJi, hKi, hTi⟩ := hrel
              have HJi := Lib.hid hJi
              have HKi := Lib.hid hKi
              have HTi := Lib.hid hTi
              have HSi := Lib.hid (Nat.le_trans HK4.out.size hKi.size)
              clear hJi hKi hTi
              by_cases hlt2 : t < args.length
              · have hci := HKi.out.cell (HC4.out t hlt2) HF4.out
                obtain ⟨x, hx⟩ : ∃ x, x = args.getD t 0 := ⟨_, rfl⟩
                have HXX := Lib.hid hx
                rw [← hx] at hci
                clear hx
                have t0 : (0 : Int) ≤ (t : Int) := by omega
                obtain ⟨fn, tmps, assign, body, hy, hRd⟩ := HY.out _ ((108 : Int), x) _ HJi.out (items_lt HI.out (show t < (args).length from hlt2))
                have HRd := Lib.hid hRd
                clear hRd
                dsimp only [encF] at hy
                gi_wp2
                refine HRd.out.mono ?_
                rintro e W3 (⟨rfl, hJ3, hk3⟩ | ⟨rfl, hJx3⟩)
                · have HJ3' := Lib.hid hJ3
                  have HK3 := Lib.hid hk3
                  clear hJ3 hk3
                  gi_wp2
                  go_roundw
                  case rel => exact ⟨t + 1, by omega, by go_num, by rw [take_snocF (args) (show t < (args).length from hlt2) (fun x => ((108 : Int), x)), ← List.append_assoc]; rw [← HXX.out]; exact HJ3'.out, HKi.out.trans HK3.out.1, HK3.out.2.same _ _ HTi.out rfl⟩
                  case measure => simp [intOf] <;> omega
                · have HJ3' := Lib.hid hJx3
                  clear hJx3
                  gi_wp2
                  refine bodyPost_ret (results_none rfl _ _ _) rfl ?_
                  exact ⟨⟨_, rfl⟩, .inr ⟨pre ++ ((args).take (t + 1)).map (fun x => ((108 : Int), x)), items_pre HI.out _, by rw [take_snocF (args) (show t < (args).length from hlt2) (fun x => ((108 : Int), x)), ← List.append_assoc]; rw [← HXX.out]; exact HJ3'.out⟩⟩
              · obtain rfl : t = args.length := by omega
                gi_wp2
                go_roundw
                case rel => exact ⟨k + 1, _, pre ++ (args).map (fun x => ((108 : Int), x)), hlt, HN.out, HI.out, ⟨_, rfl, HA.out⟩, by have := HJi.out; rw [List.take_of_length_le (by simp)] at this; exact this, HK4.out.trans HKi.out, HTi.out⟩
                case measure => rw [iterPos_of HTi.out, iterPos_of HT.out]; omega
          · have hz : args.length = 0 := by omega
            obtain ⟨A', cap', rfl⟩ := HX3.out.len
            have hnil : args = [] := List.eq_nil_of_length_eq_zero hz
            subst hnil
            rw [Hw4.out] at cX5
            simp only [List.length_nil] at cX5
            clear hz hpos
            gi_wp2
            rw [← Hw4.out]
            gi_loopw [40] (fun i wi => ∃ t : Nat, t ≤ 0 ∧ i = .int .i64 t ∧ J (pre ++ ((([] : List Int)).take t).map (fun x => ((108 : Int), x))) wi ∧ KeepC Ro w4 wi ∧ wi.heap[T]? = some (.stringIter sh (k + 1))) (fun i _ => 0 - (intOf i).toNat)
            case atStart => exact ⟨0, Nat.zero_le _, rfl, by simpa using HJ4.out, KeepC.refl _ _, HT4.out⟩
            case round =>
              obtain ⟨t, ht, rfl, hJi, hKi, hTi⟩ := hrel
              have HJi := Lib.hid hJi
              have HKi := Lib.hid hKi
              have HTi := Lib.hid hTi
              have HSi := Lib.hid (Nat.le_trans HK4.out.size hKi.size)
              clear hJi hKi hTi
              obtain rfl : t = 0 := by omega
              gi_wp2
              go_roundw
              case rel => exact ⟨k + 1, _, pre ++ (([] : List Int)).map (fun x => ((108 : Int), x)), hlt, HN.out, HI.out, ⟨_, rfl, HA.out⟩, by have := HJi.out; rw [List.take_of_length_le (by simp)] at this; exact this, HK4.out.trans HKi.out, HTi.out⟩
              case measure => rw [iterPos_of HTi.out, iterPos_of HT.out]; omega
        · have e3 : (q == 108) = false := by simpa using hq8
          have HI : Hid (itemsOf sh a b c n args = pre ++ ([n]).map (fun x => (q, x)) ++ itemsL n args ((lettersOf sh).drop (k + 1)) ([a, b, c].drop j)) := Lib.hid (by simpa [hq8] using hI)
          clear hI hq1 hq8
          have HC4 : Hid (∀ t, t < 1 → w4.cell? ⟨w'.heap.size, t, none⟩ = some (.int .i64 (([n] : List Int).getD t 0))) := Lib.hid (fun t ht => by
            obtain rfl : t = 0 := by omega
            exact HN4.out)
          have HF4 := HNF
          gi_wp2
          rw [← Hw4.out]
          gi_loopw [40] (fun i wi => ∃ t : Nat, t ≤ 1 ∧ i = .int .i64 t ∧ J (pre ++ (([n]).take t).map (fun x => (q, x))) wi ∧ KeepC Ro w4 wi ∧ wi.heap[T]? = some (.stringIter sh (k + 1))) (fun i _ => 1 - (intOf i).toNat)
          case atStart => exact ⟨0, Nat.zero_le _, rfl, by simpa using HJ4.out, KeepC.refl _ _, HT4.out⟩
          case round =>
            obtain ⟨t, ht, rfl, hJi, hKi, hTi⟩ := hrel
            have HJi := Lib.hid hJi
            have HKi := Lib.hid hKi
            have HTi := Lib.hid hTi
            have HSi := Lib.hid (Nat.le_trans HK4.out.size hKi.size)
            clear hJi hKi hTi
            by_cases hlt2 : t < 1
            · obtain rfl : t = 0 := by omega
              have hci := HKi.out.cell (HC4.out 0 (by simp)) HF4.out
              simp only [Nat.add_zero, List.getD_cons_zero] at hci
              obtain ⟨fn, tmps, assign, body, hy, hRd⟩ := HY.out _ (q, (([n]).getD 0 0)) _ HJi.out (items_lt HI.out (show 0 < ([n]).length from by simp))
              have HRd := Lib.hid hRd
              clear hRd
              dsimp only [encF] at hy
              simp only [List.getD_cons_zero] at hy
              gi_wp2
              refine HRd.out.mono ?_
              rintro e W3 (⟨rfl, hJ3, hk3⟩ | ⟨rfl, hJx3⟩)
              · have HJ3' := Lib.hid hJ3
                have HK3 := Lib.hid hk3
                clear hJ3 hk3
                gi_wp2
                go_roundw
                case rel => exact ⟨0 + 1, by omega, by go_num, by rw [take_snocF ([n]) (show 0 < ([n]).length from by simp) (fun x => (q, x)), ← List.append_assoc]; exact HJ3'.out, HKi.out.trans HK3.out.1, HK3.out.2.same _ _ HTi.out rfl⟩
                case measure => simp [intOf] <;> omega
              · have HJ3' := Lib.hid hJx3
                clear hJx3
                gi_wp2
                refine bodyPost_ret (results_none rfl _ _ _) rfl ?_
                exact ⟨⟨_, rfl⟩, .inr ⟨pre ++ (([n]).take (0 + 1)).map (fun x => (q, x)), items_pre HI.out _, by rw [take_snocF ([n]) (show 0 < ([n]).length from by simp) (fun x => (q, x)), ← List.append_assoc]; exact HJ3'.out⟩⟩
            · obtain rfl : t = 1 := by omega
              gi_wp2
              go_roundw
              case rel => exact ⟨k + 1, _, pre ++ ([n]).map (fun x => (q, x)), hlt, HN.out, HI.out, ⟨_, rfl, HA.out⟩, by have := HJi.out; rw [List.take_of_length_le (by simp)] at this; exact this, HK4.out.trans HKi.out, HTi.out⟩
              case measure => rw [iterPos_of HTi.out, iterPos_of HT.out]; omega
    · obtain rfl : k = sh.size := by omega
      have hnx : ∀ ty, (Instr.next (.pointer (some ⟨T, 0, none⟩)) true ty).run Try.prog wr = .ok (.tuple #[.bool false]) wr := fun ty => Lib.run_next_end_at wr T sh sh.size ty hTr (by omega)
      rw [letters_end] at hi
      have HI := Lib.hid hi
      clear hi hTr hJr hKr hj
      gi_wp2
      go_end0
      exact ⟨⟨_, rfl⟩, .inl ⟨pre, (HI.out.trans (by simp [itemsL])).symm, HJr.out⟩⟩
end Go.Proofs.Ytobbjphpngckgaa
