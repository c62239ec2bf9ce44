/- Lemmas of Text13E, Text13F, Text13G, each with its own remark. -/
import Derived.Test.YtohlifeenhaifaaGreatDoorS28
import Derived.BigRegion
/- (Text13E) The landed text: where an instruction keeps the numbers of its line. Contract; no condition but what it names. -/
namespace Go.Proofs.YtohlifeenhaifaaGreatDoor
open Go.RowKit Go.Shelf
set_option linter.unusedVariables false
set_option linter.unusedSimpArgs false

def argP (A : Option Addr) (i : Nat) : Addr := ⟨(A.getD ⟨0, 0, none⟩).block, (A.getD ⟨0, 0, none⟩).off + i, none⟩
/-- The places of an instruction's fields, letter by letter. -/
def ptrL (bI : Nat) (A : Option Addr) (m : Nat) : List Int → Nat → List Addr
  | [], _ => []
  | q :: L, j => if isReg q then ⟨bI, 1 + j, none⟩ :: ptrL bI A m L (j + 1) else if q = 108 then (List.range m).map (argP A) ++ ptrL bI A m L j else ⟨bI, 4, none⟩ :: ptrL bI A m L j
def ptrV (l : List Addr) : List Value := l.map (fun p => .pointer (some p))
def IsPtr (u : Value) : Prop := ∃ p, u = .pointer p
theorem zero_ptr : ∀ u ∈ (Value.pointer none).cells.toList, IsPtr u := by
  intro u hu
  simp [Value.cells] at hu
  exact ⟨_, hu⟩
theorem ptrV_len (l : List Addr) : (ptrV l).length = l.length := by simp [ptrV]
theorem ptrV_snoc (l : List Addr) (p : Addr) : ptrV l ++ [.pointer (some p)] = ptrV (l ++ [p]) := by simp [ptrV]
theorem ptr_info : (Tryz.prog.info? 65).map (fun i => (i.zero, i.size, i.bytes)) = some (some (.pointer none), 1, 8) := by kernel_rfl
theorem ptrL_len (bI : Nat) (A : Option Addr) (m : Nat) : ∀ (L : List Int) (j : Nat), (ptrL bI A m L j).length ≤ L.length * (m + 1)
  | [], j => by simp [ptrL]
  | q :: L, j => by
    have h1 := ptrL_len bI A m L (j + 1)
    have h2 := ptrL_len bI A m L j
    simp only [ptrL, List.length_cons, Nat.add_mul]
    split
    · simp only [List.length_cons]; omega
    · split
      · simp only [List.length_append, List.length_map, List.length_range]; omega
      · simp only [List.length_cons]; omega
theorem cells3p {w : World} {b' : Nat} {T : TypeId} {bI : Nat} (h : w.heap[b']? = some (.cells #[.pointer (some ⟨bI, 1, none⟩), .pointer (some ⟨bI, 2, none⟩), .pointer (some ⟨bI, 3, none⟩)] T (0, 0))) : ∀ j, j < 3 → w.cell? ⟨b', j, none⟩ = some (.pointer (some ⟨bI, 1 + j, none⟩)) := fun j hj => by
  rcases (show j = 0 ∨ j = 1 ∨ j = 2 by omega) with rfl | rfl | rfl <;> simp [World.cell?, h]
def PtrsDone (w : World) (ps : List Addr) (e : Ending) (w' : World) : Prop := ∃ V, e = .returned V ∧ Owns w' w.heap.size 65 1 IsPtr V ps.length (ptrV ps) ∧ Below w.heap.size w w'
/-- What is known of memory between two letters: all as it was but the place in the text; and what has been gathered. -/
structure GthAt (w3 : World) (T : Nat) (sh : ByteArray) (k : Nat) (V : Value) (pre : List Addr) (W : World) : Prop where
  own : Owns W w3.heap.size 65 1 IsPtr V pre.length (ptrV pre)
  but : But (OneBlock T) w3 W
  it : W.heap[T]? = some (.stringIter sh k)
theorem GthAt.cell {w3 W : World} {T : Nat} {sh : ByteArray} {k : Nat} {V : Value} {pre : List Addr} (h : GthAt w3 T sh k V pre W) {b o : Nat} {v : Value} (hc : w3.cell? ⟨b, o, none⟩ = some v) (hb : b ≠ T) : W.cell? ⟨b, o, none⟩ = some v := by
  have hlt : b < w3.heap.size := by
    rcases Nat.lt_or_ge b w3.heap.size with h | h
    · exact h
    · simp [World.cell?, Array.getElem?_eq_none h] at hc
  rw [h.but.cell (p := ⟨b, o, none⟩) hlt (oneBlock_not hb)]
  exact hc
theorem GthAt.turn {w3 W : World} {T : Nat} {sh : ByteArray} {k : Nat} {V : Value} {pre : List Addr} (h : GthAt w3 T sh k V pre W) (hT : T < w3.heap.size) (k' : Nat) : GthAt w3 T sh k' V pre (W.iterAt T sh k') := by
  have hg := grown_iterAt W T sh k'
  refine ⟨h.own.of_blocks (fun g hg' => hg.block g (h.own.lt hg').2 (fun e => by have := (h.own.lt hg').1; injection e with e; omega)) hg.size, h.but.trans ⟨hg.os, hg.tape, hg.output, hg.size, fun j hj hn => hg.block j hj (fun e => hn (by injection e))⟩, Lib.iterAt_heap _ _ _ _ _ h.it⟩
theorem GthAt.more {w3 W W' : World} {T : Nat} {sh : ByteArray} {k : Nat} {V V' : Value} {pre : List Addr} {p : Addr} (h : GthAt w3 T sh k V pre W) (hT : T < w3.heap.size) (hM : More1 65 w3.heap.size IsPtr W W' V V' (ptrV pre) (.pointer (some p))) : GthAt w3 T sh k V' (pre ++ [p]) W' := by
  have ho := hM.own
  rw [ptrV_snoc, ptrV_len] at ho
  exact ⟨ho, ⟨hM.bel.os.trans h.but.os, hM.bel.tape.trans h.but.tape, hM.bel.output.trans h.but.output, Nat.le_trans h.but.size hM.size, fun j hj hn => (hM.bel.block j hj).trans (h.but.block j hj hn)⟩, (hM.bel.block T hT).trans h.it⟩
theorem GthAt.list {w3 W : World} {T : Nat} {sh : ByteArray} {k : Nat} {V : Value} {pre : List Addr} (h : GthAt w3 T sh k V pre W) : Owns W w3.heap.size 65 1 IsPtr V (ptrV pre).length (ptrV pre) := by
  rw [ptrV_len]; exact h.own
set_option maxRecDepth 100000 in
set_option maxHeartbeats 8000000 in
theorem fields13_ptr (bI : Nat) (op a b c n : Int) (A : Option Addr) (m cap : Nat) (w : World) (hbox : w.heap[bI]? = some (.cells (insCells op a b c n (.slice A m cap)) 28 (0, 0))) (hm : m ≤ 1000000) (hcap : m ≤ cap) (hA : 0 < m → ∃ ab ao, A = some ⟨ab, ao, none⟩) :
    Calls Tryz.prog 31 #[.pointer (some ⟨bI, 0, none⟩)] w (PtrsDone w (ptrL bI A m (lettersOf (shapeI op)) 0)) := by
  have HS := Lib.hid (fun w => shape_any op w)
  have Hsh := Lib.hid (shapes_ok op)
  have hlen3 := (shape_len13 op).1
  generalize shapeI op = sh at *
  have HL := Lib.hid hlen3
  have hlI := heap_lt hbox
  obtain ⟨w1, hw1⟩ : ∃ w1, w1 = (w.alloc (.cells #[.pointer (some ⟨bI, 1, none⟩), .pointer (some ⟨bI, 2, none⟩), .pointer (some ⟨bI, 3, none⟩)] 65)).drew := ⟨_, rfl⟩
  have hb1 : Below w.heap.size w w1 := by rw [hw1]; exact ((Below.refl _ _).alloc (Nat.le_refl _) _).drew
  have hR1 : w1.heap[w.heap.size]? = some (.cells #[.pointer (some ⟨bI, 1, none⟩), .pointer (some ⟨bI, 2, none⟩), .pointer (some ⟨bI, 3, none⟩)] 65 (0, 0)) := by
    rw [hw1]; exact heap_alloc_new w _
  have hbox1 : w1.heap[bI]? = some (.cells (insCells op a b c n (.slice A m cap)) 28 (0, 0)) := (hb1.block bI hlI).trans hbox
  obtain ⟨cO, -, -, -, -, -⟩ := cells6 hbox1
  have HB1 := Lib.hid hb1
  have HR1 := Lib.hid hR1
  have HX1 := Lib.hid hbox1
  have Hw1 := Lib.hid hw1
  have HA := Lib.hid hA
  rw [hw1] at cO
  clear hb1 hR1 hbox1 hbox hA hlen3 hw1
  go_enter Tryz.func31, Tryz.ntmps31
  go_wp2
  go_region
  go_wp2_with (go_at_call 56; rw [← Hw1.out]; (with_reducible refine (HS.out _).mono ?_); rintro e w2 ⟨rfl, hb2⟩; have HB2 := Lib.hid hb2; clear hb2)
  obtain ⟨T, hT0⟩ : ∃ T, T = w2.heap.size := ⟨_, rfl⟩
  obtain ⟨w3, hw3⟩ : ∃ w3, w3 = w2.iter sh 0 := ⟨_, rfl⟩
  rw [← hw3, ← hT0]
  have s1 := HB1.out.size
  have s2 := HB2.out.size
  have hR1lt := heap_lt HR1.out
  have hX1lt := heap_lt HX1.out
  have hb3 : Below w.heap.size w w3 := by
    rw [hw3]
    exact ((HB1.out.trans (HB2.out.mono s1))).alloc (by omega) _
  have hb13 : Below w1.heap.size w1 w3 := by
    rw [hw3]
    exact HB2.out.alloc s2 _
  have hT3 : w3.heap[T]? = some (.stringIter sh 0) := by rw [hw3, hT0]; exact World.iter_heap _ _ _
  have hTW := heap_lt hT3
  have hR3 := (hb13.block _ hR1lt).trans HR1.out
  have hX3 := (hb13.block _ hX1lt).trans HX1.out
  obtain ⟨R, hRe⟩ : ∃ R, R = w.heap.size := ⟨_, rfl⟩
  rw [← hRe] at hR3 ⊢
  have hRT : R ≠ T := by omega
  have hbT : bI ≠ T := by omega
  have HR := Lib.hid (cells3p hR3)
  obtain ⟨-, -, -, -, c4, c5⟩ := cells6 hX3
  have HC5 := Lib.hid c5
  have HG0 : Hid (GthAt w3 T sh 0 (.slice none 0 0) [] w3) := Lib.hid ⟨Owns.nil _ _ _ _ _, But.refl _ _, hT3⟩
  have HB3 := Lib.hid hb3
  have HTW := Lib.hid hTW
  have HTL : Hid (w.heap.size ≤ T) := Lib.hid (by rw [hT0]; omega)
  have HLW : Hid (w.heap.size ≤ w3.heap.size) := Lib.hid hb3.size
  clear hT0 hw3 s1 s2 hR1lt hX1lt hb3 hb13 hT3 hTW hR3 hX3 HB1 HR1 HX1 Hw1 HB2 HS cO c4 c5 hRe hlI
  clear w1 w2
  go_loopw [3, 4] (fun v3 v4 wr => ∃ (k j : Nat) (pre : List Addr), k ≤ sh.size ∧ RegS R j v4 ∧ Hid (GthAt w3 T sh k v3 pre wr ∧ j + regN ((lettersOf sh).drop k) ≤ 3 ∧ ptrL bI A m (lettersOf sh) 0 = pre ++ ptrL bI A m ((lettersOf sh).drop k) j ∧ pre.length ≤ k * (m + 1))) (fun _ _ wr => sh.size - wr.iterPos T)
  case atStart => exact ⟨0, 0, [], Nat.zero_le _, ⟨_, rfl, fun _ => rfl⟩, Lib.hid ⟨HG0.out, by simpa using okShape_reg Hsh.out, rfl, Nat.zero_le _⟩⟩
  case round =>
    obtain ⟨k, j, pre, hk, hr, HG⟩ := hrel
    have hTr := HG.out.1.it
    by_cases hlt : k < sh.size
    · have hq0 := okShape_lt Hsh.out hlt
      have hnx0 : ∀ ty, (Instr.next (.pointer (some ⟨T, 0, none⟩)) true ty).run Tryz.prog wr = _ := fun ty => Lib.run_next_ascii_at wr T sh k ty hTr hlt hq0
      have hdr := letters_drop sh hlt
      have hj := HG.out.2.1
      have hi := HG.out.2.2.1
      rw [hdr] at hi hj
      obtain ⟨q, hq⟩ : ∃ q : Int, q = (sh[k].toNat : Int) := ⟨_, rfl⟩
      rw [← hq] at hnx0 hi hj
      obtain ⟨w', hw'⟩ : ∃ w', w' = wr.iterAt T sh (k + 1) := ⟨_, rfl⟩
      rw [← hw'] at hnx0
      have hnx : ∀ ty, (Instr.next (.pointer (some ⟨T, 0, none⟩)) true ty).run Tryz.prog wr = .ok (.tuple #[.bool true, .int .i64 k, .int .i32 q]) w' := hnx0
      have HT : Hid (GthAt w3 T sh (k + 1) _ pre w') := Lib.hid (by rw [hw']; exact HG.out.1.turn HTW.out (k + 1))
      have HI := Lib.hid hi
      have HJ := Lib.hid hj
      have HKM : Hid (pre.length ≤ k * (m + 1) ∧ k < 3 ∧ (ptrV pre).length ≤ 100000000) := Lib.hid ⟨HG.out.2.2.2, by
        have h1 := HL.out
        have h2 : (lettersOf sh).length = sh.size := by unfold lettersOf; rw [List.length_map]; exact Array.length_toList
        omega, by
        have h1 := HL.out
        have h2 : (lettersOf sh).length = sh.size := by unfold lettersOf; rw [List.length_map]; exact Array.length_toList
        have h3 := HG.out.2.2.2
        have h4 : k * (m + 1) ≤ 3 * 1000001 := Nat.mul_le_mul (by omega) (by omega)
        rw [ptrV_len]
        omega⟩
      have HIP := Lib.hid (iterPos_of hTr)
      have HSZ := Lib.hid HT.out.but.size
      obtain ⟨A3, c3, he3⟩ := owns_len HT.out.own
      subst he3
      clear hi hj hq hw' hnx0 hdr hTr hq0
      by_cases hreg : isReg q = true
      · have HI' : Hid (ptrL bI A m (lettersOf sh) 0 = (pre ++ [⟨bI, 1 + j, none⟩]) ++ ptrL bI A m ((lettersOf sh).drop (k + 1)) (j + 1)) := Lib.hid (by rw [HI.out]; simp [ptrL, hreg])
        have HJ' : Hid (j + 1 + regN ((lettersOf sh).drop (k + 1)) ≤ 3) := Lib.hid (by have := HJ.out; simp only [regN, hreg, if_true] at this; omega)
        have hj3 : j < 3 := by have := HJ'.out; omega
        obtain ⟨A4, rfl, hA4⟩ := hr
        obtain rfl := hA4 hj3
        have hregq : q = 119 ∨ q = 114 := of_decide_eq_true hreg
        have hcr : w'.cell? ⟨R, j, none⟩ = some (.pointer (some ⟨bI, 1 + j, none⟩)) := HT.out.cell (HR.out j hj3) hRT
        clear hreg hA4
        rcases hregq with rfl | rfl <;> rcases (show j = 0 ∨ j = 1 ∨ j = 2 by omega) with rfl | rfl | rfl
        all_goals
          simp only [Nat.sub_zero, Nat.reduceSub, Nat.reduceAdd, Nat.zero_add] at hcr ⊢
          go_wp2_with (at_builtin; refine wpList_one1 rfl (.tmp 37) (.tmp 41) rfl Tryz.underlying62 ptr_info rfl zero_ptr rfl rfl rfl HT.out.list ⟨_, rfl⟩ rfl HSZ.out (by have := HKM.out.2.2; omega) (by decide) ?_; intro V' W' hM; have hG := GthAt.more HT.out HTW.out hM; have ho := hG.own; rw [List.length_append, List.length_singleton] at ho; obtain ⟨A', c', he'⟩ := owns_len ho; subst he'; have HG2 := Lib.hid hG; clear hM hG ho)
          go_roundw
          case rel => exact ⟨k + 1, _, pre ++ [_], hlt, ⟨_, rfl, fun h => by first | rfl | omega⟩, Lib.hid ⟨HG2.out, HJ'.out, HI'.out, by have := HKM.out.1; simp only [List.length_append, List.length_singleton, Nat.add_mul, Nat.one_mul]; omega⟩⟩
          case measure => rw [iterPos_of HG2.out.it, HIP.out]; omega
      · by_cases h108 : q = 108
        · subst h108
          have HI' : Hid (ptrL bI A m (lettersOf sh) 0 = (pre ++ (List.range m).map (argP A)) ++ ptrL bI A m ((lettersOf sh).drop (k + 1)) j) := Lib.hid (by rw [HI.out]; simp [ptrL, hreg])
          have HJ' : Hid (j + regN ((lettersOf sh).drop (k + 1)) ≤ 3) := Lib.hid (by have := HJ.out; simp only [regN, hreg] at this; simpa using this)
          have hc5 : w'.cell? ⟨bI, 5, none⟩ = some (.slice A m cap) := HT.out.cell HC5.out hbT
          clear hreg
          go_wp2
          go_loopw [3, 7, 52] (fun v3 _ v52 wi => ∃ t : Nat, t ≤ m ∧ v52 = .int .i64 t ∧ Hid (GthAt w3 T sh (k + 1) v3 (pre ++ (List.range t).map (argP A)) wi)) (fun _ _ v52 _ => m - (intOf v52).toNat)
          case atStart => exact ⟨0, Nat.zero_le _, rfl, by simpa using HT⟩
          case round =>
            obtain ⟨t, ht, rfl, HGi⟩ := hrel
            have HSZi := Lib.hid HGi.out.but.size
            obtain ⟨Ai, ci, hei⟩ := owns_len HGi.out.own
            subst hei
            have hln : (pre ++ (List.range t).map (argP A)).length = pre.length + t := by simp
            have hci : wr.cell? ⟨bI, 5, none⟩ = some (.slice A m cap) := HGi.out.cell HC5.out hbT
            have HLi : Hid ((ptrV (pre ++ (List.range t).map (argP A))).length ≤ 1000000000) := Lib.hid (by rw [ptrV_len, hln]; have := HKM.out.2.2; rw [ptrV_len] at this; omega)
            have HRS : Hid ((List.range (t + 1)).map (argP A) = (List.range t).map (argP A) ++ [argP A t]) := Lib.hid (by rw [List.range_succ, List.map_append]; rfl)
            by_cases hlt2 : t < m
            · obtain ⟨ab, ao, hAe⟩ := HA.out (by omega)
              have HAP : Hid (argP A t = ⟨ab, ao + t, none⟩) := Lib.hid (by rw [hAe]; rfl)
              have HLS := Lib.hid HGi.out.list
              subst hAe
              rw [hln] at HLS ⊢
              go_wp2_with (at_builtin; refine wpList_one1 rfl (.tmp 55) (.tmp 62) rfl Tryz.underlying62 ptr_info rfl zero_ptr rfl rfl rfl HLS.out ⟨_, rfl⟩ rfl HSZi.out HLi.out (by decide) ?_; intro V' W' hM; have hG := GthAt.more (by rw [hln] at HGi; exact HGi.out) HTW.out hM; have ho := hG.own; rw [List.length_append, List.length_singleton, hln] at ho; obtain ⟨A', c', he'⟩ := owns_len ho; subst he'; have HG2 := Lib.hid hG; clear hM hG ho)
              go_roundw
              case rel => exact ⟨t + 1, by omega, by go_num, Lib.hid (by rw [HRS.out, HAP.out, ← List.append_assoc]; exact HG2.out)⟩
              case measure => simp [intOf]; omega
            · have htm : t = m := by omega
              subst htm
              have HGj := HGi
              rw [hln] at HGj ⊢
              go_wp2
              go_roundw
              case rel => exact ⟨k + 1, j, _, hlt, hr, Lib.hid ⟨HGj.out, HJ'.out, HI'.out, by have := HKM.out.1; simp only [List.length_append, List.length_map, List.length_range, Nat.add_mul, Nat.one_mul]; omega⟩⟩
              case measure => rw [iterPos_of HGi.out.it, HIP.out]; omega
        · have HI' : Hid (ptrL bI A m (lettersOf sh) 0 = (pre ++ [⟨bI, 4, none⟩]) ++ ptrL bI A m ((lettersOf sh).drop (k + 1)) j) := Lib.hid (by rw [HI.out]; simp [ptrL, hreg, h108])
          have HJ' : Hid (j + regN ((lettersOf sh).drop (k + 1)) ≤ 3) := Lib.hid (by have := HJ.out; simp only [regN, hreg] at this; simpa using this)
          have e1 : (q == 119) = false := by rw [beq_eq_false_iff_ne]; rintro rfl; exact hreg (by decide)
          have e2 : (q == 114) = false := by rw [beq_eq_false_iff_ne]; rintro rfl; exact hreg (by decide)
          have e3 : (q == 108) = false := by rw [beq_eq_false_iff_ne]; exact h108
          clear hreg h108
          go_wp2_with (at_builtin; refine wpList_one1 rfl (.tmp 28) (.tmp 32) rfl Tryz.underlying62 ptr_info rfl zero_ptr rfl rfl rfl HT.out.list ⟨_, rfl⟩ rfl HSZ.out (by have := HKM.out.2.2; omega) (by decide) ?_; intro V' W' hM; have hG := GthAt.more HT.out HTW.out hM; have ho := hG.own; rw [List.length_append, List.length_singleton] at ho; obtain ⟨A', c', he'⟩ := owns_len ho; subst he'; have HG2 := Lib.hid hG; clear hM hG ho)
          go_roundw
          case rel => exact ⟨k + 1, j, pre ++ [_], hlt, hr, Lib.hid ⟨HG2.out, HJ'.out, HI'.out, by have := HKM.out.1; simp only [List.length_append, List.length_singleton, Nat.add_mul, Nat.one_mul]; omega⟩⟩
          case measure => rw [iterPos_of HG2.out.it, HIP.out]; omega
    · have hke : k = sh.size := by omega
      subst hke
      have hnx : ∀ ty, (Instr.next (.pointer (some ⟨T, 0, none⟩)) true ty).run Tryz.prog wr = .ok (.tuple #[.bool false]) wr := fun ty => Lib.run_next_end_at wr T sh sh.size ty hTr (by omega)
      have HE : Hid (ptrL bI A m (lettersOf sh) 0 = pre) := Lib.hid (by have := HG.out.2.2.1; rw [letters_end] at this; simpa [ptrL] using this)
      have HB := Lib.hid (But.below (R := OneBlock T) HB3.out HG.out.1.but HLW.out (fun k hk => by have hk' : k = T := hk; have := HTL.out; omega))
      have HO : Hid (Owns wr w.heap.size 65 1 IsPtr _ pre.length (ptrV pre)) := Lib.hid (HG.out.1.own.base HLW.out)
      go_wp2
      go_ret
      exact ⟨_, rfl, by rw [HE.out]; exact HO.out, HB.out⟩
end Go.Proofs.YtohlifeenhaifaaGreatDoor

/- (Text13F) The landed text: numbers put into fields. Contract; no condition but what it names. -/
namespace Go.Proofs.YtohlifeenhaifaaGreatDoor
open Go.RowKit Go.Shelf
set_option linter.unusedVariables false
set_option linter.unusedSimpArgs false

/-- A block's cells behind stores of numbers, one place behind the other. -/
def setsB (b : Nat) : List Addr → List Int → Array Value → Array Value
  | p :: ps, n :: ns, cs => setsB b ps ns (if p.block = b then cs.setIfInBounds p.off (.int .i64 n) else cs)
  | _, _, cs => cs
theorem setsB_size (b : Nat) : ∀ (ps : List Addr) (ns : List Int) (cs : Array Value), (setsB b ps ns cs).size = cs.size
  | [], _, _ => rfl
  | _ :: _, [], _ => rfl
  | p :: ps, n :: ns, cs => by
    unfold setsB
    rw [setsB_size b ps ns]
    split <;> simp
theorem setsB_snoc (b : Nat) : ∀ (ps : List Addr) (ns : List Int) (p : Addr) (n : Int) (cs : Array Value), ps.length = ns.length →
    setsB b (ps ++ [p]) (ns ++ [n]) cs = if p.block = b then (setsB b ps ns cs).setIfInBounds p.off (.int .i64 n) else setsB b ps ns cs
  | [], [], p, n, cs, _ => by simp [setsB]
  | [], _ :: _, _, _, _, h => by simp at h
  | _ :: _, [], _, _, _, h => by simp at h
  | q :: ps, m :: ns, p, n, cs, h => by
    simp only [List.cons_append, setsB]
    exact setsB_snoc b ps ns p n _ (by simpa using h)
/-- Memory behind such stores. -/
structure FillAt (w W : World) (ps : List Addr) (ns : List Int) : Prop where
  blk : ∀ (b : Nat) (cs : Array Value) (t : TypeId), w.heap[b]? = some (.cells cs t (0, 0)) → W.heap[b]? = some (.cells (setsB b ps ns cs) t (0, 0))
  but : But (fun b => ∃ p ∈ ps, p.block = b) w W
theorem FillAt.nil (w : World) : FillAt w w [] [] := ⟨fun b cs t h => h, But.refl _ _⟩
theorem FillAt.grow {w W W' : World} {ps : List Addr} {ns : List Int} (h : FillAt w W ps ns) (hb : Below W.heap.size W W') : FillAt w W' ps ns :=
  ⟨fun b cs t hc => by
    have h1 := h.blk b cs t hc
    exact (hb.block b (heap_lt h1)).trans h1, h.but.trans ⟨hb.os, hb.tape, hb.output, hb.size, fun k hk _ => hb.block k hk⟩⟩
theorem FillAt.put {w W : World} {ps : List Addr} {ns : List Int} (h : FillAt w W ps ns) (hl : ps.length = ns.length) (b o : Nat) (x : Int) : FillAt w (W.setCell ⟨b, o, none⟩ (.int .i64 x)) (ps ++ [⟨b, o, none⟩]) (ns ++ [x]) := by
  refine ⟨fun b' cs t hc => ?_, (h.but.mono fun k ⟨p, hp, e⟩ => ⟨p, List.mem_append_left _ hp, e⟩).setCell (p := ⟨b, o, none⟩) (.inl ⟨⟨b, o, none⟩, by simp, rfl⟩) _⟩
  have h1 := h.blk b' cs t hc
  rw [setsB_snoc b' ps ns _ _ _ hl]
  split
  · rename_i e
    have e' : b = b' := e
    subst e'
    exact heap_setCell_same W b o _ _ (.int .i64 x) h1
  · rename_i e
    exact (Below.heap_setCell W ⟨b, o, none⟩ _ b' (fun e' => e e'.symm)).trans h1
/-- Places in a row of their own. -/
def IsPtrs (w : World) (L : Nat) (V : Value) (ps : List Addr) : Prop :=
  (∃ a cap, V = .slice a ps.length cap) ∧ (0 < ps.length → ∃ b off cap, V = .slice (some ⟨b, off, none⟩) ps.length cap ∧ ps.length ≤ cap ∧ L ≤ b ∧ b < w.heap.size ∧ ∀ i, i < ps.length → w.cell? ⟨b, off + i, none⟩ = some (.pointer (some (ps.getD i ⟨0, 0, none⟩))))
theorem IsPtrs.of_owns {w : World} {L : Nat} {V : Value} {ps : List Addr} {t : TypeId} {K : Value → Prop} (h : Owns w L t 1 K V ps.length (ptrV ps)) : IsPtrs w L V ps := by
  obtain ⟨A, c, he⟩ := owns_len h
  refine ⟨⟨A, c, he⟩, fun hp => ?_⟩
  rcases h.1.2 with ⟨rfl, h0⟩ | ⟨g, cap, cur, rfl, h1, h2, h3, h4, h5, h6⟩
  · omega
  · refine ⟨g, 0, cap, rfl, h3, h1, heap_lt h2, fun i hi => ?_⟩
    have h := h.1.cells (g := g) rfl i _ (List.getElem?_eq_getElem (show i < (ptrV ps).length by rw [ptrV_len]; exact hi))
    rw [show (⟨g, 0, none⟩ : Addr).add i = ⟨g, 0 + i, none⟩ from by unfold Addr.add; split <;> simp_all] at h
    rw [h]
    simp [ptrV, List.getD, List.getElem?_eq_getElem hi]
def fillE (ws : List (List Int)) (m : Nat) : Int := if ws.length ≠ m then 10 else if numsP ws = none then 5 else 0
def FillDone (w : World) (ps : List Addr) (ws : List (List Int)) (e : Ending) (w' : World) : Prop :=
  ∃ k ns, e = .returned (.int .i64 (fillE ws ps.length)) ∧ k ≤ ps.length ∧ ns.length = k ∧ (∀ x ∈ ns, InI x) ∧ FillAt w w' (ps.take k) ns ∧ (fillE ws ps.length = 0 → k = ps.length ∧ numsP ws = some ns)
theorem nums_snoc : ∀ (l : List (List Int)) (w : List Int) (ns : List Int) (x : Int), numsP l = some ns → numP w = some x → numsP (l ++ [w]) = some (ns ++ [x])
  | [], w, ns, x, h, hx => by
    simp only [numsP, Option.some.injEq] at h
    subst h
    simp [numsP, hx]
  | v :: l, w, ns, x, h, hx => by
    simp only [numsP] at h
    split at h
    · rename_i n ms h1 h2
      injection h with h
      subst h
      simp only [List.cons_append, numsP, h1, nums_snoc l w ms x h2 hx]
    · cases h
theorem nums_none : ∀ (l : List (List Int)) (w : List Int), w ∈ l → numP w = none → numsP l = none
  | v :: l, w, hm, hw => by
    simp only [numsP]
    rcases List.mem_cons.1 hm with rfl | hm
    · rw [hw]
    · rw [nums_none l w hm hw]
      split
      · rename_i h; cases h
      · rfl
theorem getD_map {l : List ByteArray} {k : Nat} (hk : k < l.length) : (l.map lettersOf).take (k + 1) = (l.map lettersOf).take k ++ [lettersOf (l.getD k ⟨#[]⟩)] ∧ lettersOf (l.getD k ⟨#[]⟩) ∈ l.map lettersOf := by
  have e : l.getD k ⟨#[]⟩ = l[k] := by simp [List.getD, List.getElem?_eq_getElem hk]
  rw [e]
  refine ⟨?_, List.mem_map_of_mem (List.getElem_mem hk)⟩
  rw [List.take_add_one, List.getElem?_map, List.getElem?_eq_getElem hk]
  rfl
set_option maxRecDepth 100000 in
set_option maxHeartbeats 8000000 in
theorem fill13_any (V P : Value) (l : List ByteArray) (ps : List Addr) (B0 L : Nat) (w0 w : World) (hE : Env13 w0) (h0 : Below w0.heap.size w0 w) (hB0 : w0.heap.size ≤ B0) (hBw : B0 ≤ w.heap.size) (hV : IsStrs w B0 V l) (hsz : ∀ x ∈ l, x.size ≤ 4294967295)
    (hP : IsPtrs w L P ps) (hp : ∀ p ∈ ps, p.spot = none ∧ B0 ≤ p.block ∧ p.block < L ∧ ∃ cs t, w.heap[p.block]? = some (.cells cs t (0, 0)) ∧ p.off < cs.size) (hps : ps.length ≤ 1000000000) :
    Calls Tryz.prog 99 #[V, P] w (FillDone w ps (l.map lettersOf)) := by
  obtain ⟨VA, vc, hVe⟩ := hV.len
  obtain ⟨PA, pc, hPe⟩ := hP.1
  have hm := hV.1
  unfold maxLen at hm
  by_cases hne : l.length = ps.length
  case neg =>
    have hf : fillE (l.map lettersOf) ps.length = 10 := by unfold fillE; rw [if_pos (by rw [List.length_map]; exact hne)]
    have HF : Hid (FillDone w ps (l.map lettersOf) (.returned (.int .i64 10)) w) := Lib.hid ⟨0, [], by rw [hf], Nat.zero_le _, rfl, by simp, by rw [List.take_zero]; exact FillAt.nil w, fun h => by rw [hf] at h; cases h⟩
    subst hVe hPe
    generalize l.length = n at *
    generalize hme : ps.length = m at *
    have t1 : ((n : Int) != (m : Int)) = true := by rw [bne_iff_ne]; omega
    have t2 : (n != m) = true := by rw [bne_iff_ne]; exact hne
    clear hme hV hP hp hE h0 hsz hne hf
    go_enter Tryz.func99, Tryz.ntmps99
    go_wp2
    go_ret
    exact HF.out
  case pos =>
    obtain ⟨m, hme⟩ : ∃ m, m = ps.length := ⟨_, rfl⟩
    have HN : Hid (l.length = m ∧ ps.length = m) := Lib.hid ⟨by omega, hme.symm⟩
    rw [hne, ← hme] at hVe
    rw [← hme] at hPe
    have HV := Lib.hid hV
    have HP := Lib.hid hP.2
    have Hp := Lib.hid hp
    have HE := Lib.hid hE
    have H0 := Lib.hid h0
    have HB := Lib.hid (And.intro hB0 hBw)
    have HSZ := Lib.hid hsz
    have HNum : Hid (∀ (s : ByteArray) (v : Int) (W : World), s.size ≤ 4294967295 → numP (lettersOf s) = some v → Env13 W → Calls Tryz.prog 13 #[.string s] W (Makes W (.tuple #[.int .i64 v, .bool true]))) := Lib.hid (fun s v W h1 h2 h3 => number13_some s (by omega) v h2 W h3)
    have HNon : Hid (∀ (s : ByteArray) (W : World), s.size ≤ 4294967295 → numP (lettersOf s) = none → Env13 W → Calls Tryz.prog 13 #[.string s] W (Makes W (.tuple #[.int .i64 0, .bool false]))) := Lib.hid (fun s W h1 h2 h3 => number13_none s (by omega) h2 W h3)
    have hm2 : m ≤ 1000000000 := by omega
    subst hVe hPe
    clear hV hP hp hE h0 hB0 hBw hsz hne hme hm hps
    go_enter Tryz.func99, Tryz.ntmps99
    go_wp2
    go_loopw [16] (fun v16 wr => ∃ (k : Nat) (ns : List Int), v16 = .int .i64 k ∧ k ≤ m ∧ Hid (ns.length = k ∧ numsP ((l.map lettersOf).take k) = some ns ∧ FillAt w wr (ps.take k) ns)) (fun v16 _ => m - (intOf v16).toNat)
    case atStart => exact ⟨0, [], rfl, Nat.zero_le _, Lib.hid ⟨rfl, rfl, FillAt.nil w⟩⟩
    case round =>
      obtain ⟨k, ns, rfl, hk, HR⟩ := hrel
      have HEr : Hid (Env13 wr ∧ Below w0.heap.size w0 wr) := by
        have hb : Below w0.heap.size w0 wr := But.below H0.out HR.out.2.2.but H0.out.size (fun b ⟨p, hp, e⟩ => by have := (Hp.out p (List.mem_of_mem_take hp)).2.1; have := HB.out.1; omega)
        exact Lib.hid ⟨HE.out.grow hb, hb⟩
      by_cases hlt : k < m
      · obtain ⟨vb, vo, vc', hVe, _, hvb, hvc⟩ := HV.out.plain (by have := HN.out.1; omega)
        rw [HN.out.1] at hVe
        injection hVe with e1 _ e3
        subst e1 e3
        obtain ⟨pb, po, pc', hPe, _, hpL, hpb, hpc⟩ := HP.out (by have := HN.out.2; omega)
        rw [HN.out.2] at hPe
        injection hPe with e1 _ e3
        subst e1 e3
        have hkl : k < l.length := by have := HN.out.1; omega
        have hkp : k < ps.length := by have := HN.out.2; omega
        have hpm : ps.getD k ⟨0, 0, none⟩ ∈ ps := by
          rw [List.getD_eq_getElem?_getD, List.getElem?_eq_getElem hkp]
          exact List.getElem_mem hkp
        obtain ⟨hsp, hpB, hpLt, cs, t, hcs, hoff⟩ := Hp.out _ hpm
        have HTP : Hid (ps.take (k + 1) = ps.take k ++ [ps.getD k ⟨0, 0, none⟩]) := Lib.hid (by rw [List.take_add_one, List.getElem?_eq_getElem hkp]; simp [List.getD, List.getElem?_eq_getElem hkp])
        have hcv : wr.cell? ⟨vb, vo + k, none⟩ = some (.string (l.getD k ⟨#[]⟩)) := (HR.out.2.2.but.cell (p := ⟨vb, vo + k, none⟩) (show vb < _ by have := HB.out.2; omega) (fun ⟨q, hq, e⟩ => by have e' : q.block = vb := e; have := (Hp.out q (List.mem_of_mem_take hq)).2.1; omega)).trans (hvc k hkl)
        have hcp : wr.cell? ⟨pb, po + k, none⟩ = some (.pointer (some (ps.getD k ⟨0, 0, none⟩))) := (HR.out.2.2.but.cell (p := ⟨pb, po + k, none⟩) hpb (fun ⟨q, hq, e⟩ => by have e' : q.block = pb := e; have := (Hp.out q (List.mem_of_mem_take hq)).2.2.1; omega)).trans (hpc k hkp)
        obtain ⟨⟨b, o, sp⟩, hpe⟩ : ∃ p, ps.getD k ⟨0, 0, none⟩ = p := ⟨_, rfl⟩
        rw [hpe] at hsp hpB hpLt hcs hoff HTP hcp
        have hsp' : sp = none := hsp
        subst hsp'
        have hblk := HR.out.2.2.blk b cs t hcs
        have hoff' : o < (setsB b (ps.take k) ns cs).size := by rw [setsB_size]; exact hoff
        obtain ⟨u, hu⟩ : ∃ u, wr.cell? ⟨b, o, none⟩ = some u := ⟨(setsB b (ps.take k) ns cs)[o], by simp [World.cell?, hblk, hoff']⟩
        have hfr := frozen_of_row wr b o _ _ hblk
        have hbl := heap_lt hblk
        have HU := Lib.hid (And.intro hu (And.intro hfr hbl))
        have HS := Lib.hid (HSZ.out (l.getD k ⟨#[]⟩) (by rw [List.getD_eq_getElem?_getD, List.getElem?_eq_getElem hkl]; exact List.getElem_mem hkl))
        have HG := Lib.hid (getD_map hkl)
        generalize l.getD k ⟨#[]⟩ = s at *
        have hlt2 : (k : Int) < (m : Int) := by omega
        clear hvc hpc hpm hpe hsp hpB hpLt hcs hoff hblk hoff' hu hfr hkl hkp
        cases hnum : numP (lettersOf s) with
        | some x =>
          have HNX : Hid (numsP ((l.map lettersOf).take (k + 1)) = some (ns ++ [x])) := Lib.hid (by rw [HG.out.1]; exact nums_snoc _ _ _ _ HR.out.2.1 hnum)
          have HC := Lib.hid (HNum.out s x wr HS.out hnum HEr.out.1)
          clear hnum
          go_wp2_with (go_at_call 13; (with_reducible refine HC.out.mono ?_); rintro e w1 ⟨rfl, hb1⟩; have HB1 := Lib.hid hb1; have c1 := (hb1.cell (p := ⟨b, o, none⟩) HU.out.2.2).trans HU.out.1; have f1 := (hb1.frozen (p := ⟨b, o, none⟩) HU.out.2.2).trans HU.out.2.1; clear hb1)
          go_roundw
          case rel => exact ⟨k + 1, ns ++ [x], by go_num, by omega, Lib.hid ⟨by simp [HR.out.1], HNX.out, by rw [HTP.out]; exact (HR.out.2.2.grow HB1.out).put (by rw [List.length_take, HR.out.1]; have := HN.out.2; omega) b o x⟩⟩
          case measure => simp [intOf]; omega
        | none =>
          have HF : Hid (∀ W, Below wr.heap.size wr W → FillDone w ps (l.map lettersOf) (.returned (.int .i64 5)) W) := Lib.hid (fun W hb => by
            have hf : fillE (l.map lettersOf) ps.length = 5 := by
              unfold fillE
              rw [if_neg (by rw [List.length_map]; have := HN.out; omega), if_pos (nums_none _ _ HG.out.2 hnum)]
            exact ⟨k, ns, by rw [hf], by have := HN.out.2; omega, HR.out.1, (nums_canon _ _ HR.out.2.1).2, HR.out.2.2.grow hb, fun h => by rw [hf] at h; cases h⟩)
          have HC := Lib.hid (HNon.out s wr HS.out hnum HEr.out.1)
          clear hnum
          go_wp2_with (go_at_call 13; (with_reducible refine HC.out.mono ?_); rintro e w1 ⟨rfl, hb1⟩; have HB1 := Lib.hid hb1; clear hb1)
          go_ret
          exact HF.out _ HB1.out
      · have hkm : k = m := by omega
        subst hkm
        have HF : Hid (FillDone w ps (l.map lettersOf) (.returned (.int .i64 0)) wr) := by
          have h1 := HR.out.2.1
          have h2 := HN.out
          rw [List.take_of_length_le (by rw [List.length_map]; omega)] at h1
          have hf : fillE (l.map lettersOf) ps.length = 0 := by unfold fillE; rw [if_neg (by rw [List.length_map]; omega), if_neg (by rw [h1]; simp)]
          exact Lib.hid ⟨k, ns, by rw [hf], by omega, HR.out.1, (nums_canon _ _ h1).2, HR.out.2.2, fun _ => ⟨h2.2.symm, h1⟩⟩
        go_wp2
        go_ret
        exact HF.out
end Go.Proofs.YtohlifeenhaifaaGreatDoor

/- (Text13G) The landed text: an instruction's line. Contract; no condition but what it names. -/
namespace Go.Proofs.YtohlifeenhaifaaGreatDoor
open Go.RowKit Go.Shelf
set_option linter.unusedVariables false
set_option linter.unusedSimpArgs false

theorem items_from (n : Int) (args : List Int) : ∀ (L rs : List Int), ∀ x ∈ (itemsL n args L rs).map (·.2), x = 0 ∨ x = n ∨ x ∈ args ∨ x ∈ rs
  | [], rs, x, h => by simp [itemsL] at h
  | q :: L, rs, x, h => by
    simp only [itemsL, List.map_append, List.mem_append, List.map_map] at h
    rcases h with h | h
    · unfold heldOf at h
      split at h
      · simp at h
        cases rs with
        | nil => exact .inl h
        | cons r rs => simp at h; exact .inr (.inr (.inr (by simp [h])))
      · split at h
        · simp at h; exact .inr (.inr (.inl h))
        · simp at h; exact .inr (.inl h)
    · rcases items_from n args L (restOf q rs) x h with h | h | h | h
      · exact .inl h
      · exact .inr (.inl h)
      · exact .inr (.inr (.inl h))
      · refine .inr (.inr (.inr ?_))
        unfold restOf at h
        split at h
        · exact List.mem_of_mem_tail h
        · exact h
theorem getD_left {α : Type} {l r : List α} (d : α) (i : Nat) (_ : True) (h : i < l.length) : (l ++ r).getD i d = l.getD i d := by
  rw [List.getD_eq_getElem?_getD, List.getD_eq_getElem?_getD, List.getElem?_append_left h]
theorem getD_right {α : Type} {l r : List α} (d : α) (i : Nat) (_ : True) (h : l.length ≤ i) : (l ++ r).getD i d = r.getD (i - l.length) d := by
  rw [List.getD_eq_getElem?_getD, List.getD_eq_getElem?_getD, List.getElem?_append_right h]
/-- What lies at the places of an instruction's fields. -/
theorem ptr_vals (w : World) (bI : Nat) (A : Option Addr) (r : List Int) (n : Int) (args : List Int) (hr : r.length = 3) (h1 : ∀ j, j < 3 → w.cell? ⟨bI, 1 + j, none⟩ = some (.int .i64 (r.getD j 0))) (h4 : w.cell? ⟨bI, 4, none⟩ = some (.int .i64 n))
    (hA : ∀ i, i < args.length → w.cell? (argP A i) = some (.int .i64 (args.getD i 0))) : ∀ (L : List Int) (j : Nat), j + regN L ≤ 3 →
    (ptrL bI A args.length L j).length = ((itemsL n args L (r.drop j)).map (·.2)).length ∧ ∀ i, i < (ptrL bI A args.length L j).length → w.cell? ((ptrL bI A args.length L j).getD i ⟨0, 0, none⟩) = some (.int .i64 (((itemsL n args L (r.drop j)).map (·.2)).getD i 0))
  | [], j, _ => by simp [ptrL, itemsL]
  | q :: L, j, h => by
    by_cases hq : isReg q = true
    · have hj : j < 3 := by simp only [regN, hq, if_true] at h; omega
      have ih := ptr_vals w bI A r n args hr h1 h4 hA L (j + 1) (by simp only [regN, hq, if_true] at h; omega)
      have ei : (itemsL n args (q :: L) (r.drop j)).map (·.2) = r.getD j 0 :: (itemsL n args L (r.drop (j + 1))).map (·.2) := by
        simp only [itemsL, heldOf, restOf, hq, if_true, List.tail_drop, List.map_append]
        simp [List.headD_eq_head?_getD, List.head?_drop, List.getD]
      have ep : ptrL bI A args.length (q :: L) j = ⟨bI, 1 + j, none⟩ :: ptrL bI A args.length L (j + 1) := by simp [ptrL, hq]
      rw [ei, ep]
      refine ⟨by simp only [List.length_cons]; rw [ih.1], fun i hi => ?_⟩
      cases i with
      | zero => exact h1 j hj
      | succ i => simpa using ih.2 i (by simpa using hi)
    · have hqf : isReg q = false := by simpa using hq
      have hN : j + regN L ≤ 3 := by simp only [regN, hqf] at h; simpa using h
      have ih := ptr_vals w bI A r n args hr h1 h4 hA L j hN
      by_cases hc : q = 108
      · have ei : (itemsL n args (q :: L) (r.drop j)).map (·.2) = args ++ (itemsL n args L (r.drop j)).map (·.2) := by
          simp [itemsL, heldOf, restOf, hqf, hc, show isReg 108 = false from rfl, Function.comp_def]
        have ep : ptrL bI A args.length (q :: L) j = (List.range args.length).map (argP A) ++ ptrL bI A args.length L j := by simp [ptrL, hqf, hc, show isReg 108 = false from rfl]
        rw [ei, ep]
        refine ⟨by simp only [List.length_append, List.length_map, List.length_range]; have := ih.1; rw [List.length_map] at this; omega, fun i hi => ?_⟩
        by_cases hi2 : i < args.length
        · rw [getD_left _ _ trivial (by simpa using hi2), getD_left _ _ trivial hi2]
          rw [List.getD_eq_getElem?_getD, List.getElem?_map, List.getElem?_range hi2]
          exact hA i hi2
        · simp only [List.length_append, List.length_map, List.length_range] at hi
          rw [getD_right _ _ trivial (by simp; omega), getD_right _ _ trivial (by omega)]
          simp only [List.length_map, List.length_range]
          exact ih.2 _ (by omega)
      · have ei : (itemsL n args (q :: L) (r.drop j)).map (·.2) = n :: (itemsL n args L (r.drop j)).map (·.2) := by
          simp [itemsL, heldOf, restOf, hqf, hc]
        have ep : ptrL bI A args.length (q :: L) j = ⟨bI, 4, none⟩ :: ptrL bI A args.length L j := by simp [ptrL, hqf, hc]
        rw [ei, ep]
        refine ⟨by simp only [List.length_cons]; rw [ih.1], fun i hi => ?_⟩
        cases i with
        | zero => exact h4
        | succ i => simpa using ih.2 i (by simpa using hi)
theorem vals_from {y : InsV} (hI : InI y.a ∧ InI y.b ∧ InI y.c ∧ InI y.n) (hA : ∀ x ∈ y.args, InI x) : ∀ x ∈ valsV y, InI x := by
  intro x hx
  rcases items_from _ _ _ _ x hx with rfl | rfl | h | h
  · unfold InI; omega
  · exact hI.2.2.2
  · exact hA x h
  · simp at h
    rcases h with rfl | rfl | rfl
    · exact hI.1
    · exact hI.2.1
    · exact hI.2.2.1
theorem args_at {w : World} {B : Nat} {X : Value} {xs : List Int} (h : IsNums .i64 w B X xs) : ∃ A cap, X = .slice A xs.length cap ∧ xs.length ≤ cap ∧ (0 < xs.length → ∃ ab ao, A = some ⟨ab, ao, none⟩ ∧ ab < B) ∧ ∀ i, i < xs.length → w.cell? (argP A i) = some (.int .i64 (xs.getD i 0)) := by
  by_cases hp : 0 < xs.length
  · obtain ⟨b, off, cap, rfl, h1, h2, h3⟩ := h.plain hp
    exact ⟨_, cap, rfl, h1, fun _ => ⟨b, off, rfl, h2⟩, h3⟩
  · obtain ⟨A, cap, rfl⟩ := h.len
    have h0 : xs.length = 0 := by omega
    exact ⟨A, cap, rfl, by omega, fun h => absurd h hp, fun i hi => by omega⟩
set_option maxRecDepth 100000 in
set_option maxHeartbeats 8000000 in
theorem ins13_any (y : InsV) (X : Value) (w : World) (hX : IsNums .i64 w w.heap.size X y.args) (hI : InI y.a ∧ InI y.b ∧ InI y.c ∧ InI y.n) (hAr : ∀ x ∈ y.args, InI x) (hm : y.args.length ≤ 100000) (hE : Env13 w) :
    Calls Tryz.prog 15 #[.agg (insCells y.op y.a y.b y.c y.n X)] w (Makes w (.string (strOfNums (insT y)))) := by
  obtain ⟨A, cap, rfl, hcap, hAb, hAc⟩ := args_at hX
  obtain ⟨w1, hw1⟩ : ∃ w1, w1 = w.alloc (.cells (insCells y.op y.a y.b y.c y.n (.slice A y.args.length cap)) 28) := ⟨_, rfl⟩
  have hb1 : Below w.heap.size w w1 := by rw [hw1]; exact (Below.refl _ _).alloc (Nat.le_refl _) _
  have hbox : w1.heap[w.heap.size]? = some (.cells (insCells y.op y.a y.b y.c y.n (.slice A y.args.length cap)) 28 (0, 0)) := by rw [hw1]; exact heap_alloc_new w _
  have HF := Lib.hid (fields13_ptr w.heap.size y.op y.a y.b y.c y.n A y.args.length cap w1 hbox (by omega) hcap (fun h => by obtain ⟨ab, ao, e, _⟩ := hAb h; exact ⟨ab, ao, e⟩))
  obtain ⟨c0, c1, c2, c3, c4, c5⟩ := cells6 hbox
  have hv := ptr_vals w1 w.heap.size A [y.a, y.b, y.c] y.n y.args rfl (fun j hj => by rcases (show j = 0 ∨ j = 1 ∨ j = 2 by omega) with rfl | rfl | rfl <;> assumption) c4 (fun i hi => by
    obtain ⟨ab, ao, e, hlt⟩ := hAb (by omega)
    rw [← hAc i hi]
    exact hb1.cell (by rw [e]; exact hlt)) (lettersOf (shapeI y.op)) 0 (by simpa using okShape_reg (shapes_ok y.op))
  rw [List.drop_zero] at hv
  have hvv : (itemsL y.n y.args (lettersOf (shapeI y.op)) [y.a, y.b, y.c]).map (·.2) = valsV y := rfl
  rw [hvv] at hv
  have hL : (ptrL w.heap.size A y.args.length (lettersOf (shapeI y.op)) 0).length ≤ 1000000 := by
    have h1 := ptrL_len w.heap.size A y.args.length (lettersOf (shapeI y.op)) 0
    have h2 := (shape_len13 y.op).1
    have h3 : (lettersOf (shapeI y.op)).length * (y.args.length + 1) ≤ 3 * 100001 := Nat.mul_le_mul h2 (by omega)
    omega
  have hbd : ∀ p ∈ ptrL w.heap.size A y.args.length (lettersOf (shapeI y.op)) 0, True := fun _ _ => trivial
  have HN := Lib.hid (fun w => name_any y.op w)
  have HJ : Hid (∀ (V : Value) (W : World), IsNums .i64 W W.heap.size V (valsV y) → Env13 W → Calls Tryz.prog 32 #[.string (nameI y.op), V] W (Makes W (.string (strOfNums (insT y))))) := Lib.hid (fun V W hV hEW => by
    have h := joined13_any (lettersOf (nameI y.op)) V (valsV y) W hV (vals_from hI hAr) (by rw [← hv.1]; exact hL) (by have := (shape_len13 y.op).2; omega) hEW
    rw [str_letters] at h
    rw [insT_join]
    exact h)
  generalize valsV y = vs at *
  generalize ptrL w.heap.size A y.args.length (lettersOf (shapeI y.op)) 0 = ps at *
  obtain ⟨m, hme⟩ : ∃ m, m = ps.length := ⟨_, rfl⟩
  have HM : Hid (ps.length = m ∧ vs.length = m ∧ m ≤ 1000000) := Lib.hid ⟨hme.symm, by omega, by omega⟩
  have HV := Lib.hid hv.2
  have HE := Lib.hid (hE.grow hb1)
  have HB1 := Lib.hid hb1
  have Hw1 := Lib.hid hw1
  have HBX := Lib.hid hbox
  rw [hw1] at c0
  clear hX hI hAr hm hE hcap hAb hAc hb1 hbox c1 c2 c3 c4 c5 hv hvv hL hbd hme hw1
  generalize y.args.length = na at *
  have hmb := HM.out.2.2
  go_enter Tryz.func15, Tryz.ntmps15
  go_wp2_with (go_at_call 31; rw [← Hw1.out]; (with_reducible refine HF.out.mono ?_); rintro e w2 ⟨V, rfl, hV, hb2⟩; have HP := Lib.hid (IsPtrs.of_owns hV); obtain ⟨VA, vc, hVe⟩ := owns_len hV; subst hVe; rw [HM.out.1] at HP ⊢; have HB2 := Lib.hid hb2; clear hV hb2)
  have HPw : Hid (Below w.heap.size w w2) := Lib.hid (HB1.out.trans (HB2.out.mono HB1.out.size))
  go_loopw [3, 5, 8] (fun v3 _ v8 wr => ∃ k : Nat, v8 = .int .i64 k ∧ k ≤ m ∧ Hid (Owns wr w2.heap.size 3 1 (IsNum .i64) v3 k ((vs.take k).map (Value.int .i64)) ∧ Below w2.heap.size w2 wr)) (fun _ _ v8 _ => m - (intOf v8).toNat)
  case atStart => exact ⟨0, rfl, Nat.zero_le _, Lib.hid ⟨Owns.nil _ _ _ _ _, Below.refl _ _⟩⟩
  case round =>
    obtain ⟨k, rfl, hk, HR⟩ := hrel
    obtain ⟨A3, c3, he3⟩ := owns_len HR.out.1
    subst he3
    by_cases hlt : k < m
    · obtain ⟨pb, po, pc, hVe, _, _, hpb, hpc⟩ := HP.out.2 (by have := HM.out; omega)
      rw [HM.out.1] at hVe
      injection hVe with e1 _ e3
      subst e1 e3
      have hkp : k < ps.length := by have := HM.out.1; omega
      have hkv : k < vs.length := by have := HM.out.2.1; omega
      have hcp : wr.cell? ⟨pb, po + k, none⟩ = some (.pointer (some (ps.getD k ⟨0, 0, none⟩))) := (HR.out.2.cell (p := ⟨pb, po + k, none⟩) hpb).trans (hpc k hkp)
      have hpv := HV.out k hkp
      have hlv := Lib.lt_of_cell hpv
      have hcv : wr.cell? (ps.getD k ⟨0, 0, none⟩) = some (.int .i64 (vs.getD k 0)) := (HR.out.2.cell (Nat.lt_of_lt_of_le hlv HB2.out.size)).trans ((HB2.out.cell hlv).trans hpv)
      have HT : Hid ((vs.take (k + 1)).map (Value.int .i64) = (vs.take k).map (Value.int .i64) ++ [.int .i64 (vs.getD k 0)]) := Lib.hid (by rw [take_snoc' hkv, List.map_append]; rfl)
      have HLen : Hid (((vs.take k).map (Value.int .i64)).length = k) := Lib.hid (by rw [List.length_map, List.length_take]; omega)
      have HO1 : Hid (Owns wr w2.heap.size 3 1 (IsNum .i64) (.slice A3 k c3) ((vs.take k).map (Value.int .i64)).length ((vs.take k).map (Value.int .i64))) := by
        have := HR.out.1
        rw [HLen.out]
        exact Lib.hid this
      have HZ := Lib.hid HR.out.2.size
      generalize ps.getD k ⟨0, 0, none⟩ = p at *
      generalize vs.getD k 0 = x at *
      clear hpc hpv hlv hkp hkv
      go_wp2_with (at_builtin; refine wpList_one1 rfl (.tmp 12) (.tmp 16) rfl Tryz.underlying26 int_info rfl (zero_num .i64) rfl rfl rfl HO1.out ⟨_, rfl⟩ rfl HZ.out (by rw [HLen.out]; have := HM.out.2.2; omega) (by decide) ?_; intro V' W' hM; have hO2 := hM.own; rw [List.length_append, HLen.out, List.length_singleton] at hO2; have HO2 := Lib.hid hO2; have HMo := Lib.hid hM.bel; obtain ⟨A', c', he'⟩ := owns_len hO2; subst he'; clear hM hO2)
      go_roundw
      case rel => exact ⟨k + 1, by go_num, by omega, Lib.hid ⟨by rw [HT.out]; exact HO2.out, HR.out.2.trans HMo.out⟩⟩
      case measure => simp [intOf]; omega
    · have hkm : k = m := by omega
      subst hkm
      have HVn : Hid (IsNums .i64 wr wr.heap.size (.slice A3 k c3) vs) := Lib.hid (IsNums.of_owns (by have := HR.out.1; rw [List.take_of_length_le (by have := HM.out.2.1; omega)] at this; exact this) (Nat.le_refl _))
      have HB := Lib.hid (HPw.out.trans (HR.out.2.mono HPw.out.size))
      have HEr : Hid (Env13 wr) := Lib.hid (HE.out.grow (HB2.out.trans (HR.out.2.mono HB2.out.size)))
      have hc0 : wr.cell? ⟨w.heap.size, 0, none⟩ = some (.int .i64 y.op) := (HR.out.2.cell (p := ⟨w.heap.size, 0, none⟩) (show w.heap.size < _ by have := heap_lt HBX.out; have := HB2.out.size; omega)).trans ((HB2.out.cell (p := ⟨w.heap.size, 0, none⟩) (heap_lt HBX.out)).trans (cells6 HBX.out).1)
      go_wp2_with (first
        | (go_at_call 33; (with_reducible refine (HN.out _).mono ?_); rintro e w4 ⟨rfl, hb4⟩; have HB4 := Lib.hid hb4; clear hb4)
        | (go_at_call 32; (with_reducible refine (HJ.out _ _ ((HVn.out.below HB4.out (Nat.le_refl _)).more HB4.out.size) (HEr.out.grow HB4.out)).mono ?_); rintro e w5 ⟨rfl, hb5⟩; have HB5 := Lib.hid hb5; clear hb5))
      go_ret
      exact ⟨rfl, (HB.out.trans (HB4.out.mono HB.out.size)).trans (HB5.out.mono (Nat.le_trans HB.out.size HB4.out.size))⟩
end Go.Proofs.YtohlifeenhaifaaGreatDoor
