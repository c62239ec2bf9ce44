/- Lemmas of Seq06, Fld06, Ins06, First06, each with its own remark. -/
import Derived.RangeFuncNested
import Derived.RangeFuncBound
import Derived.RangeFuncBox
import Derived.RangeFuncCalls
import Derived.RangeFuncLeaves
import Derived.Shelf.RegionOpen
import Derived.WalkKit
import Derived.OwnWalkIn
import Derived.TacticsInMore
import Derived.LoopNIn
import Derived.LoopIn
import Derived.Lib.OthersKept
import Derived.Test.YtohlifeenhaifaaGreatDoorS01
/- (Seq06) What the body of a loop over an iterator keeps of memory: all cells, but those of one box of the loop's own and of the slice in it. Plain lemmas over any program; no condition but what each names. -/
namespace Go.Proofs.YtohlifeenhaifaaGreatDoor
open Go.RowKit
set_option linter.unusedVariables false

/-- The blocks that the body may write: the box Ro, and what the slice in it leads to. -/
def InReach (Ro : Nat) (w : World) (b : Nat) : Prop := b = Ro ∨ ∃ o s len cap, w.cell? ⟨Ro, 0, none⟩ = some (.slice (some ⟨b, o, s⟩) len cap)
theorem inReach_same {Ro b : Nat} {A B : World} (h : B.cell? ⟨Ro, 0, none⟩ = A.cell? ⟨Ro, 0, none⟩) (hb : InReach Ro B b) : InReach Ro A b := by
  rcases hb with hb | ⟨o, s, len, cap, hc⟩
  · exact .inl hb
  · exact .inr ⟨o, s, len, cap, by rw [← h]; exact hc⟩
theorem inReach_num {Ro b : Nat} {A : World} {v : Value} (h : A.cell? ⟨Ro, 0, none⟩ = some v) (hv : ∀ a len cap, v ≠ .slice (some a) len cap) (hb : b ≠ Ro) : ¬ InReach Ro A b := by
  rintro (h1 | ⟨o, s, len, cap, hc⟩)
  · exact hb h1
  · rw [h] at hc
    exact hv _ _ _ (Option.some.inj hc)
structure KeepC (Ro : Nat) (A B : World) : Prop where
  size : A.heap.size ≤ B.heap.size
  cells : ∀ (b : Nat) (o : Obj), A.heap[b]? = some o → o.isCells = true → ¬ InReach Ro A b → B.heap[b]? = some o ∧ ¬ InReach Ro B b
  bound : (∀ b, InReach Ro A b → b < A.heap.size) → ∀ b, InReach Ro B b → b < B.heap.size
theorem KeepC.refl (Ro : Nat) (A : World) : KeepC Ro A A := ⟨Nat.le_refl _, fun _ _ h _ hn => ⟨h, hn⟩, fun h => h⟩
theorem KeepC.trans {Ro : Nat} {A B C : World} (h : KeepC Ro A B) (k : KeepC Ro B C) : KeepC Ro A C :=
  ⟨Nat.le_trans h.size k.size, fun b o ho hc hn => have q := h.cells b o ho hc hn; k.cells b o q.1 hc q.2, fun hb => k.bound (h.bound hb)⟩
theorem KeepC.below {Ro : Nat} {A B : World} (h : Below A.heap.size A B) (hR : Ro < A.heap.size) : KeepC Ro A B :=
  ⟨h.size, fun b o ho _ hn => ⟨(h.block b (heap_lt ho)).trans ho, fun hb => hn (inReach_same (h.cell (p := ⟨Ro, 0, none⟩) hR) hb)⟩,
   fun hA b hb => Nat.lt_of_lt_of_le (hA b (inReach_same (h.cell (p := ⟨Ro, 0, none⟩) hR) hb)) h.size⟩
theorem KeepC.turn {Ro : Nat} {A B : World} {row : Option Nat} (h : A.grownBy B row) (hR : Ro < A.heap.size) (hr : some Ro ≠ row) (hw : ∀ r, row = some r → ∃ o : Obj, A.heap[r]? = some o ∧ o.isCells = false) : KeepC Ro A B :=
  ⟨h.size, fun b o ho hc hn => ⟨(h.block b (heap_lt ho) (fun e => by
      obtain ⟨o', ho', hc'⟩ := hw b e.symm
      rw [ho] at ho'; cases ho'; rw [hc] at hc'; cases hc')).trans ho, fun hb => hn (inReach_same (World.cell?_of_block (w := A) (h.block Ro hR hr)) hb)⟩,
   fun hA b hb => Nat.lt_of_lt_of_le (hA b (inReach_same (World.cell?_of_block (w := A) (h.block Ro hR hr)) hb)) h.size⟩
theorem KeepC.cell {Ro : Nat} {A B : World} (h : KeepC Ro A B) {p : Addr} {v : Value} (hv : A.cell? p = some v) (hn : ¬ InReach Ro A p.block) : B.cell? p = some v := by
  obtain ⟨x, hx, hc⟩ := cells_of_cell hv
  have q := h.cells p.block x hx hc hn
  rw [World.cell?_of_block (w := A) (show B.heap[p.block]? = A.heap[p.block]? by rw [q.1]; exact hx.symm)]
  exact hv
theorem KeepC.free {Ro : Nat} {A B : World} (h : KeepC Ro A B) {p : Addr} {v : Value} (hv : A.cell? p = some v) (hn : ¬ InReach Ro A p.block) : ¬ InReach Ro B p.block := by
  obtain ⟨x, hx, hc⟩ := cells_of_cell hv
  exact (h.cells p.block x hx hc hn).2
def KpO (Ro : Nat) (A B : World) : Prop := KeepC Ro A B ∧ KeepsWalks A B
theorem kpO_t {Ro : Nat} {A B C : World} (h : KpO Ro A B) (k : KpO Ro B C) : KpO Ro A C := ⟨h.1.trans k.1, h.2.trans k.2⟩
theorem kpO_b {Ro : Nat} {w : World} (hR : Ro < w.heap.size) (W : World) (l : Nat) (o o' : Obj) (hl : w.heap.size ≤ l) (h : W.heap[l]? = some o) (hc : o.isCells = false) (hw : o.isWalk = false) : KpO Ro W (W.putObj l o') := by
  have hlt := heap_lt h
  exact ⟨KeepC.turn (grownBy_putObj' W l o') (by omega) (by simp; omega) (fun r e => by cases e; exact ⟨o, h, hc⟩), KeepsWalks.putObj _ h hw⟩
theorem kpO_refl (Ro : Nat) (A : World) : KpO Ro A A := ⟨KeepC.refl _ _, KeepsWalks.refl _⟩
theorem grown_of_below {A B : World} (h : Below A.heap.size A B) : A.grownBy B none := ⟨h.os, h.tape, h.output, h.size, fun k hk _ => h.block k hk⟩
theorem grown_iterAt (W : World) (k : Nat) (s : ByteArray) (p : Nat) : W.grownBy (W.iterAt k s p) (some k) :=
  ⟨rfl, rfl, rfl, by rw [Lib.iterAt_size]; exact Nat.le_refl _, fun j _ hj => Lib.iterAt_other W k j s p (fun e => hj (by rw [e]))⟩
/-- A value that leads nowhere. -/
def NoAddr (v : Value) : Prop := ∀ a len cap, v ≠ .slice (some a) len cap
end Go.Proofs.YtohlifeenhaifaaGreatDoor

/- (Fld06) The landed op.fields: an iterator over an instruction's fields, letter by letter: its contract, for every body of a loop that keeps all cells but those of one box of the loop's own and of the slice in it. -/
namespace Go.Proofs.YtohlifeenhaifaaGreatDoor
open Go.RowKit Go.Shelf
set_option linter.unusedVariables false
set_option linter.unusedSimpArgs false
attribute [local go_sem] Oper.semAt_some

abbrev insCells (op a b c n : Int) (X : Value) : Array Value := #[.int .i64 op, .int .i64 a, .int .i64 b, .int .i64 c, .int .i64 n, X]
theorem fields_in (op a b c n : Int) (X : Value) (w : World) : Calls Tryz.prog 144 #[.agg (insCells op a b c n X)] w fun e w' => e = .returned (.func (.func 153) #[] #[.pointer (some ⟨w.heap.size, 0, none⟩)]) ∧ w.alloc (.cells (insCells op a b c n X) 28) = w' := by
  go_enter Tryz.func144, Tryz.ntmps144
  go_wp2
  go_ret
  exact ⟨rfl, rfl⟩
def encF (x : Int × Int) : Array Value := #[.int .i32 x.1, .int .i64 x.2]
/-- What the iterator knows of memory, between two rounds: the box, its own row of registers, Args, the place in the text. -/
structure FldAt (Ro bI R T : Nat) (op a b c n : Int) (X : Value) (sh : ByteArray) (W1 : World) (k : Nat) (w : World) : Prop where
  keep : KeepC Ro W1 w
  it : w.heap[T]? = some (.stringIter sh k)
theorem abide {J : List (Int × Int) → World → Prop} {B : Nat} (hJ : AbidesFrom B J) {pre : List (Int × Int)} {A C : World} (h : Below A.heap.size A C) (hj : J pre A) : J pre C :=
  hJ pre A C none hj (grown_of_below h) (fun r e => by cases e)
theorem abide_turn {J : List (Int × Int) → World → Prop} {B : Nat} (hJ : AbidesFrom B J) {pre : List (Int × Int)} {A : World} {T k k' : Nat} {sh : ByteArray} (hB : B ≤ T) (hT : A.heap[T]? = some (.stringIter sh k)) (hj : J pre A) : J pre (A.iterAt T sh k') :=
  hJ pre A _ (some T) hj (grown_iterAt A T sh k') (fun r e => by cases e; exact ⟨hB, _, hT, rfl⟩)
theorem keep_turn {Ro T k k' : Nat} {sh : ByteArray} {A : World} (hR : Ro < A.heap.size) (hRT : Ro ≠ T) (hT : A.heap[T]? = some (.stringIter sh k)) : KeepC Ro A (A.iterAt T sh k') :=
  KeepC.turn (grown_iterAt A T sh k') hR (by simpa using hRT) (fun r e => by cases e; exact ⟨_, hT, rfl⟩)
/-- The registers that are left. -/
def RegS (R j : Nat) (r : Value) : Prop := ∃ A, r = .slice A (3 - j) (3 - j) ∧ (j < 3 → A = some ⟨R, j, none⟩)
theorem iterPos_of {w : World} {T k : Nat} {sh : ByteArray} (h : w.heap[T]? = some (.stringIter sh k)) : w.iterPos T = k := by simp [World.iterPos, h]
set_option maxRecDepth 100000 in
set_option maxHeartbeats 4000000 in
theorem fields1_in (m : Nat) (hm : 3 ≤ m) (l Ro bI : Nat) (op a b c n : Int) (X : Value) (args : List Int) (sh : ByteArray) (hsh : okShape sh = true) (hop : shapeI op = sh)
    (J Jx : List (Int × Int) → World → Prop) (W : World) (hJ : AbidesFrom W.heap.size J)
    (hY : ∀ pre x W1, J pre W1 → pre.length < (itemsOf sh a b c n args).length → YieldAt Fence.wide (m - 1) Tryz.prog l (encF x) W1 fun e W' =>
      (e = .returned (.bool true) ∧ J (pre ++ [x]) W' ∧ KpO Ro W1 W') ∨ (e = .returned (.bool false) ∧ Jx (pre ++ [x]) W'))
    (hbox : W.heap[bI]? = some (.cells (insCells op a b c n X) 28 (0, 0))) (hX : IsNums .i64 W W.heap.size X args)
    (hR : Ro < W.heap.size) (hfree : ∀ g, g ≠ Ro → ¬ InReach Ro W g) (hbI : bI ≠ Ro) (hXR : ∀ ad len cap, X = .slice (some ad) len cap → 0 < len → ad.block ≠ Ro) (h0 : J [] W) :
    CallsIn Fence.wide m Tryz.prog 153 #[.func (.yield l) #[] #[], .pointer (some ⟨bI, 0, none⟩)] W fun e W' => (∃ v, e = .returned v) ∧
      ((∃ ys, ys = itemsOf sh a b c n args ∧ J ys W') ∨ (∃ pre, pre <+: itemsOf sh a b c n args ∧ Jx pre W')) := by
  have h1 : 1 ≤ m := by omega
  have hlI := heap_lt hbox
  have cA : W.cell? ⟨bI, 1, none⟩ = some (.int .i64 a) := by simp [World.cell?, hbox]
  have cB : W.cell? ⟨bI, 2, none⟩ = some (.int .i64 b) := by simp [World.cell?, hbox]
  have cC : W.cell? ⟨bI, 3, none⟩ = some (.int .i64 c) := by simp [World.cell?, hbox]
  have cN : W.cell? ⟨bI, 4, none⟩ = some (.int .i64 n) := by simp [World.cell?, hbox]
  have cX : W.cell? ⟨bI, 5, none⟩ = some X := by simp [World.cell?, hbox]
  have cO : W.cell? ⟨bI, 0, none⟩ = some (.int .i64 op) := by simp [World.cell?, hbox]
  obtain ⟨w1, hw1⟩ : ∃ w1, w1 = W.alloc (.cells #[.int .i64 a, .int .i64 b, .int .i64 c] 3) := ⟨_, rfl⟩
  have hb1 : Below W.heap.size W w1 := by rw [hw1]; exact (Below.refl _ _).alloc (Nat.le_refl _) _
  have cO1 : w1.cell? ⟨bI, 0, none⟩ = some (.int .i64 op) := (hb1.cell (p := ⟨bI, 0, none⟩) hlI).trans cO
  have HS := Lib.hid (fun w => shape_any op w)
  rw [hop] at HS
  have HJ := Lib.hid hJ
  have HY := Lib.hid hY
  have HB := Lib.hid hbox
  have HX := Lib.hid hX
  have HF := Lib.hid hfree
  have HXR := Lib.hid hXR
  have HW := Lib.hid hw1
  have Hop := Lib.hid hop
  have Hsh := Lib.hid hsh
  clear hop hJ hY hbox hX hfree hXR hsh
  refine callsIn_of_wp Tryz.func153 rfl trivial ?_ rfl
  simp only [Tryz.ntmps153, List.size_toArray, List.length_cons, List.length_nil, Nat.reduceAdd, Nat.reduceSub, Array.replicate_succ, Array.replicate_zero, List.push_toArray, List.append_toArray, List.nil_append, List.cons_append]
  rw [hw1] at cO1
  clear hw1
  gi_wp2_with (refine ⟨trivial, ?_⟩; gi_at_call 56; (with_reducible refine (callsIn_wide.2 (HS.out _)).mono ?_); rintro e w2 ⟨rfl, hb2⟩; have HB2 := Lib.hid hb2; clear hb2)
  obtain ⟨T, hT0⟩ : ∃ T, T = w2.heap.size := ⟨_, rfl⟩
  obtain ⟨w3, hw3⟩ : ∃ w3, w3 = w2.iter sh 0 := ⟨_, rfl⟩
  rw [← hw3, ← hT0]
  have s1 : (W.alloc (.cells #[.int .i64 a, .int .i64 b, .int .i64 c] 3)).heap.size = W.heap.size + 1 := by simp
  have s2 := HB2.out.size
  have hb3 : Below W.heap.size W w3 := by
    rw [hw3]
    exact (((Below.refl _ _).alloc (Nat.le_refl _) _).trans (HB2.out.mono (by simp))).alloc (by omega) _
  have hRow : w3.heap[W.heap.size]? = some (.cells #[.int .i64 a, .int .i64 b, .int .i64 c] 3 (0, 0)) := by
    rw [hw3]
    refine (Below.heap_alloc w2 _ _ (by omega)).trans ((HB2.out.block _ (by omega)).trans ?_)
    exact heap_alloc_new _ _
  have hT3 : w3.heap[T]? = some (.stringIter sh 0) := by rw [hw3, hT0]; exact World.iter_heap _ _ _
  have hJ3 : J [] w3 := abide HJ.out (hb3.mono (Nat.le_refl _)) h0
  have hRoC : w3.cell? ⟨Ro, 0, none⟩ = W.cell? ⟨Ro, 0, none⟩ := hb3.cell (p := ⟨Ro, 0, none⟩) hR
  have hF3 : ∀ g, g ≠ Ro → ¬ InReach Ro w3 g := fun g hg h => HF.out g hg (inReach_same hRoC h)
  have cN3 : w3.cell? ⟨bI, 4, none⟩ = some (.int .i64 n) := (hb3.cell (p := ⟨bI, 4, none⟩) hlI).trans cN
  have cX3 : w3.cell? ⟨bI, 5, none⟩ = some X := (hb3.cell (p := ⟨bI, 5, none⟩) hlI).trans cX
  have hX3 : IsNums .i64 w3 W.heap.size X args := HX.out.below hb3 (Nat.le_refl _)
  have hTW : W.heap.size ≤ T := by omega
  have hs3 : T < w3.heap.size := heap_lt hT3
  obtain ⟨R, hRW⟩ : ∃ R, R = W.heap.size := ⟨_, rfl⟩
  rw [← hRW] at hRow ⊢
  have hR1 : R ≠ Ro := by omega
  have hR3 : Ro < w3.heap.size := by omega
  have hR4 : R < w3.heap.size := heap_lt hRow
  have hRT : Ro ≠ T := by omega
  have HRow := Lib.hid hRow
  have HT3 := Lib.hid hT3
  have HJ3 := Lib.hid hJ3
  have HF3 := Lib.hid hF3
  have HX3 := Lib.hid hX3
  have HcN := Lib.hid cN3
  have HcX := Lib.hid cX3
  have HTW := Lib.hid hTW
  have HRT := Lib.hid hRT
  clear hw3 hT0 s1 s2 hb3 hRow hT3 hJ3 hRoC hF3 cN3 cX3 hX3 hTW HB2 HW cA cB cC cN cX cO cO1 hb1 w1 hRW h0 hRT HS
  clear w2
  gi_loopw [3] (fun r wr => ∃ (k j : Nat) (pre : List (Int × Int)), k ≤ sh.size ∧ j + regN ((lettersOf sh).drop k) ≤ 3 ∧ itemsOf sh a b c n args = pre ++ itemsL n args ((lettersOf sh).drop k) ([a, b, c].drop j) ∧ RegS R j r ∧ J pre wr ∧ KeepC Ro w3 wr ∧ wr.heap[T]? = some (.stringIter sh k)) (fun _ wr => sh.size - wr.iterPos T)
  case atStart => exact ⟨0, 0, [], Nat.zero_le _, by simpa using okShape_reg Hsh.out, rfl, ⟨_, rfl, fun _ => rfl⟩, HJ3.out, KeepC.refl _ _, HT3.out⟩
  case round =>
    obtain ⟨k, j, pre, hk, hj, hi, hr, hJr, hKr, hTr⟩ := hrel
    have HT := Lib.hid hTr
    have HJr := Lib.hid hJr
    have HKr := Lib.hid hKr
    by_cases hlt : k < sh.size
    · have hq0 := okShape_lt Hsh.out hlt
      have hnx0 : ∀ ty, (Instr.next (.pointer (some ⟨T, 0, none⟩)) true ty).run Tryz.prog wr = _ := fun ty => Lib.run_next_ascii_at wr T sh k ty hTr hlt hq0
      have hdr := letters_drop sh hlt
      rw [hdr] at hi hj
      obtain ⟨q, hq⟩ : ∃ q : Int, q = (sh[k].toNat : Int) := ⟨_, rfl⟩
      rw [← hq] at hnx0 hi hj
      have hi2 := items_step hi
      obtain ⟨w', hw'⟩ : ∃ w', w' = wr.iterAt T sh (k + 1) := ⟨_, rfl⟩
      rw [← hw'] at hnx0
      have hnx : ∀ ty, (Instr.next (.pointer (some ⟨T, 0, none⟩)) true ty).run Tryz.prog wr = .ok (.tuple #[.bool true, .int .i64 k, .int .i32 q]) w' := hnx0
      have hsr := hKr.size
      have hKt : KeepC Ro wr w' := by rw [hw']; exact keep_turn (by omega) HRT.out hTr
      have hTt : w'.heap[T]? = some (.stringIter sh (k + 1)) := by rw [hw']; exact Lib.iterAt_heap _ _ _ _ _ hTr
      have hJt : J pre w' := by rw [hw']; exact abide_turn HJ.out HTW.out hTr hJr
      have hst := hKt.size
      have hK3 := hKr.trans hKt
      have cNt : w'.cell? ⟨bI, 4, none⟩ = some (.int .i64 n) := hK3.cell HcN.out (HF3.out _ hbI)
      obtain ⟨w4, hw4⟩ : ∃ w4, w4 = w'.alloc (.cells #[.int .i64 n] 3) := ⟨_, rfl⟩
      have hb4 : Below w'.heap.size w' w4 := by rw [hw4]; exact (Below.refl _ _).alloc (Nat.le_refl _) _
      have hK4 : KeepC Ro w3 w4 := hK3.trans (KeepC.below hb4 (by omega))
      have hJ4 : J pre w4 := abide HJ.out hb4 hJt
      have hT4 : w4.heap[T]? = some (.stringIter sh (k + 1)) := (hb4.block _ (heap_lt hTt)).trans hTt
      have hnew : w4.heap[w'.heap.size]? = some (.cells #[.int .i64 n] 3 (0, 0)) := by rw [hw4]; exact heap_alloc_new _ _
      have hbd : ∀ g, InReach Ro w' g → g < w'.heap.size := hK3.bound (fun g hg => by
        by_cases e : g = Ro
        · omega
        · exact absurd hg (HF3.out _ e))
      have hnfree : ¬ InReach Ro w4 w'.heap.size := fun h => absurd (hbd _ (inReach_same (hb4.cell (p := ⟨Ro, 0, none⟩) (show Ro < _ by omega)) h)) (by omega)
      have cX4 : w4.cell? ⟨bI, 5, none⟩ = some X := hK4.cell HcX.out (HF3.out _ hbI)
      have hX4 : ∀ b' o' v, w3.cell? ⟨b', o', none⟩ = some v → b' ≠ Ro → w4.cell? ⟨b', o', none⟩ = some v ∧ ¬ InReach Ro w4 b' := fun b' o' v hv hb => ⟨hK4.cell hv (HF3.out _ hb), hK4.free (p := ⟨b', o', none⟩) hv (HF3.out _ hb)⟩
      have hRow4 := hK4.cells R _ HRow.out rfl (HF3.out _ hR1)
      have cN4 : w4.cell? ⟨w'.heap.size, 0, none⟩ = some (.int .i64 n) := by simp [World.cell?, hnew]
      have HX4 := Lib.hid hX4
      have HRow4 := Lib.hid hRow4
      have HN4 := Lib.hid cN4
      have HNF := Lib.hid hnfree
      have HK4 := Lib.hid hK4
      have HJ4 := Lib.hid hJ4
      have HT4 := Lib.hid hT4
      have Hq := Lib.hid hq
      have Hw4 := Lib.hid hw4
      have HI := Lib.hid hi2
      have HN0 := Lib.hid hj
      have cX5 : (w'.alloc (.cells #[.int .i64 n] 3)).cell? ⟨bI, 5, none⟩ = some X := by rw [← hw4]; exact cX4
      clear hX4 hRow4 cN4 hnfree hK4 hJ4 hT4 hq hw' hw4 hi hi2 hj hnx0 hdr hTr hJr hKr hKt hTt hJt hK3 hb4 hbd hnew cX4 hq0
      simp only [regN] at HN0
      by_cases hreg : isReg q = true
      · have hj3 : j < 3 := by have := HN0.out; simp only [hreg, if_true] at this; omega
        obtain ⟨A, rfl, hA⟩ := hr
        obtain rfl := hA hj3
        obtain ⟨x, hx⟩ : ∃ x : Int, x = ([a, b, c].drop j).headD 0 := ⟨_, rfl⟩
        have HI' : Hid (itemsOf sh a b c n args = pre ++ ([x]).map (fun x => (q, x)) ++ itemsL n args ((lettersOf sh).drop (k + 1)) ([a, b, c].drop (j + 1))) := by
          have h := HI.out
          simp only [heldOf, restOf, hreg, if_true, List.tail_drop, ← hx] at h
          exact h
        have HN : Hid ((j + 1) + regN ((lettersOf sh).drop (k + 1)) ≤ 3) := by
          have h := HN0.out
          simp only [hreg, if_true] at h
          exact Lib.hid (by omega)
        clear HI HN0 hA
        have HI := HI'
        clear HI'
        have HC4 : Hid (∀ t, t < 1 → w4.cell? ⟨R, j + t, none⟩ = some (.int .i64 (([x] : List Int).getD t 0))) := Lib.hid (fun t ht => by
          obtain rfl : t = 0 := by omega
          rw [hx]
          rcases (show j = 0 ∨ j = 1 ∨ j = 2 by omega) with rfl | rfl | rfl <;> simp [World.cell?, HRow4.out.1])
        clear hx
        have HF4 : Hid (¬ InReach Ro w4 R) := Lib.hid HRow4.out.2
        have hregq : q = 119 ∨ q = 114 := of_decide_eq_true hreg
        rcases hregq with rfl | rfl <;> rcases (show j = 0 ∨ j = 1 ∨ j = 2 by omega) with rfl | rfl | rfl
        · simp only [Nat.sub_zero, Nat.reduceSub, Nat.zero_add] at HC4 ⊢
          gi_wp2
          gi_region
          gi_wp2
          rw [← Hw4.out]
          obtain ⟨w5, hw5⟩ : ∃ w5, w5 = w4.drew := ⟨_, rfl⟩
          rw [← hw5]
          have hb5 : Below w4.heap.size w4 w5 := by rw [hw5]; exact (Below.refl _ _).drew
          have HK45 := Lib.hid (KeepC.below hb5 (Nat.lt_of_lt_of_le hR3 HK4.out.size))
          have hJ5 : J pre w5 := abide HJ.out hb5 HJ4.out
          have hT5 : w5.heap[T]? = some (.stringIter sh (k + 1)) := by rw [hw5]; exact HT4.out
          clear HJ4 HT4 hb5 hw5
          have HJ4 := Lib.hid hJ5
          have HT4 := Lib.hid hT5
          clear hJ5 hT5
          gi_loopw [40] (fun i wi => ∃ t : Nat, t ≤ 1 ∧ i = .int .i64 t ∧ J (pre ++ (([x]).take t).map (fun x => (119, x))) wi ∧ KeepC Ro w4 wi ∧ wi.heap[T]? = some (.stringIter sh (k + 1))) (fun i _ => 1 - (intOf i).toNat)
          case atStart => exact ⟨0, Nat.zero_le _, rfl, by simpa using HJ4.out, HK45.out, HT4.out⟩
          case round =>
            obtain ⟨t, ht, rfl, hJi, hKi, hTi⟩ := hrel
            have HJi := Lib.hid hJi
            have HKi := Lib.hid hKi
            have HTi := Lib.hid hTi
            have HSi := Lib.hid (Nat.le_trans HK4.out.size hKi.size)
            clear hJi hKi hTi
            by_cases hlt2 : t < 1
            · obtain rfl : t = 0 := by omega
              have hci := HKi.out.cell (HC4.out 0 (by simp)) HF4.out
              simp only [Nat.add_zero, List.getD_cons_zero] at hci
              obtain ⟨fn, tmps, assign, body, hy, hRd⟩ := HY.out _ (119, (([x]).getD 0 0)) _ HJi.out (items_lt HI.out (show 0 < ([x]).length from by simp))
              have HRd := Lib.hid hRd
              clear hRd
              dsimp only [encF] at hy
              simp only [List.getD_cons_zero] at hy
              gi_wp2
              refine HRd.out.mono ?_
              rintro e W3 (⟨rfl, hJ3, hk3⟩ | ⟨rfl, hJx3⟩)
              · have HJ3' := Lib.hid hJ3
                have HK3 := Lib.hid hk3
                clear hJ3 hk3
                gi_wp2
                go_roundw
                case rel => exact ⟨0 + 1, by omega, by go_num, by rw [take_snocF ([x]) (show 0 < ([x]).length from by simp) (fun x => (119, x)), ← List.append_assoc]; exact HJ3'.out, HKi.out.trans HK3.out.1, HK3.out.2.same _ _ HTi.out rfl⟩
                case measure => simp [intOf] <;> omega
              · have HJ3' := Lib.hid hJx3
                clear hJx3
                gi_wp2
                refine bodyPost_ret (results_none rfl _ _ _) rfl ?_
                exact ⟨⟨_, rfl⟩, .inr ⟨pre ++ (([x]).take (0 + 1)).map (fun x => (119, x)), items_pre HI.out _, by rw [take_snocF ([x]) (show 0 < ([x]).length from by simp) (fun x => (119, x)), ← List.append_assoc]; exact HJ3'.out⟩⟩
            · obtain rfl : t = 1 := by omega
              gi_wp2
              go_roundw
              case rel => exact ⟨k + 1, _, pre ++ ([x]).map (fun x => (119, x)), hlt, HN.out, HI.out, ⟨_, rfl, fun h => by first | rfl | omega⟩, by have := HJi.out; rw [List.take_of_length_le (by simp)] at this; exact this, HK4.out.trans HKi.out, HTi.out⟩
              case measure => rw [iterPos_of HTi.out, iterPos_of HT.out]; omega
        · simp only [Nat.sub_zero, Nat.reduceSub, Nat.zero_add] at HC4 ⊢
          gi_wp2
          gi_region
          gi_wp2
          rw [← Hw4.out]
          obtain ⟨w5, hw5⟩ : ∃ w5, w5 = w4.drew := ⟨_, rfl⟩
          rw [← hw5]
          have hb5 : Below w4.heap.size w4 w5 := by rw [hw5]; exact (Below.refl _ _).drew
          have HK45 := Lib.hid (KeepC.below hb5 (Nat.lt_of_lt_of_le hR3 HK4.out.size))
          have hJ5 : J pre w5 := abide HJ.out hb5 HJ4.out
          have hT5 : w5.heap[T]? = some (.stringIter sh (k + 1)) := by rw [hw5]; exact HT4.out
          clear HJ4 HT4 hb5 hw5
          have HJ4 := Lib.hid hJ5
          have HT4 := Lib.hid hT5
          clear hJ5 hT5
          gi_loopw [40] (fun i wi => ∃ t : Nat, t ≤ 1 ∧ i = .int .i64 t ∧ J (pre ++ (([x]).take t).map (fun x => (119, x))) wi ∧ KeepC Ro w4 wi ∧ wi.heap[T]? = some (.stringIter sh (k + 1))) (fun i _ => 1 - (intOf i).toNat)
          case atStart => exact ⟨0, Nat.zero_le _, rfl, by simpa using HJ4.out, HK45.out, HT4.out⟩
          case round =>
            obtain ⟨t, ht, rfl, hJi, hKi, hTi⟩ := hrel
            have HJi := Lib.hid hJi
            have HKi := Lib.hid hKi
            have HTi := Lib.hid hTi
            have HSi := Lib.hid (Nat.le_trans HK4.out.size hKi.size)
            clear hJi hKi hTi
            by_cases hlt2 : t < 1
            · obtain rfl : t = 0 := by omega
              have hci := HKi.out.cell (HC4.out 0 (by simp)) HF4.out
              simp only [Nat.add_zero, List.getD_cons_zero] at hci
              obtain ⟨fn, tmps, assign, body, hy, hRd⟩ := HY.out _ (119, (([x]).getD 0 0)) _ HJi.out (items_lt HI.out (show 0 < ([x]).length from by simp))
              have HRd := Lib.hid hRd
              clear hRd
              dsimp only [encF] at hy
              simp only [List.getD_cons_zero] at hy
              gi_wp2
              refine HRd.out.mono ?_
              rintro e W3 (⟨rfl, hJ3, hk3⟩ | ⟨rfl, hJx3⟩)
              · have HJ3' := Lib.hid hJ3
                have HK3 := Lib.hid hk3
                clear hJ3 hk3
                gi_wp2
                go_roundw
                case rel => exact ⟨0 + 1, by omega, by go_num, by rw [take_snocF ([x]) (show 0 < ([x]).length from by simp) (fun x => (119, x)), ← List.append_assoc]; exact HJ3'.out, HKi.out.trans HK3.out.1, HK3.out.2.same _ _ HTi.out rfl⟩
                case measure => simp [intOf] <;> omega
              · have HJ3' := Lib.hid hJx3
                clear hJx3
                gi_wp2
                refine bodyPost_ret (results_none rfl _ _ _) rfl ?_
                exact ⟨⟨_, rfl⟩, .inr ⟨pre ++ (([x]).take (0 + 1)).map (fun x => (119, x)), items_pre HI.out _, by rw [take_snocF ([x]) (show 0 < ([x]).length from by simp) (fun x => (119, x)), ← List.append_assoc]; exact HJ3'.out⟩⟩
            · obtain rfl : t = 1 := by omega
              gi_wp2
              go_roundw
              case rel => exact ⟨k + 1, _, pre ++ ([x]).map (fun x => (119, x)), hlt, HN.out, HI.out, ⟨_, rfl, fun h => by first | rfl | omega⟩, by have := HJi.out; rw [List.take_of_length_le (by simp)] at this; exact this, HK4.out.trans HKi.out, HTi.out⟩
              case measure => rw [iterPos_of HTi.out, iterPos_of HT.out]; omega
        · simp only [Nat.sub_zero, Nat.reduceSub, Nat.zero_add] at HC4 ⊢
          gi_wp2
          gi_region
          gi_wp2
          rw [← Hw4.out]
          obtain ⟨w5, hw5⟩ : ∃ w5, w5 = w4.drew := ⟨_, rfl⟩
          rw [← hw5]
          have hb5 : Below w4.heap.size w4 w5 := by rw [hw5]; exact (Below.refl _ _).drew
          have HK45 := Lib.hid (KeepC.below hb5 (Nat.lt_of_lt_of_le hR3 HK4.out.size))
          have hJ5 : J pre w5 := abide HJ.out hb5 HJ4.out
          have hT5 : w5.heap[T]? = some (.stringIter sh (k + 1)) := by rw [hw5]; exact HT4.out
          clear HJ4 HT4 hb5 hw5
          have HJ4 := Lib.hid hJ5
          have HT4 := Lib.hid hT5
          clear hJ5 hT5
          gi_loopw [40] (fun i wi => ∃ t : Nat, t ≤ 1 ∧ i = .int .i64 t ∧ J (pre ++ (([x]).take t).map (fun x => (119, x))) wi ∧ KeepC Ro w4 wi ∧ wi.heap[T]? = some (.stringIter sh (k + 1))) (fun i _ => 1 - (intOf i).toNat)
          case atStart => exact ⟨0, Nat.zero_le _, rfl, by simpa using HJ4.out, HK45.out, HT4.out⟩
          case round =>
            obtain ⟨t, ht, rfl, hJi, hKi, hTi⟩ := hrel
            have HJi := Lib.hid hJi
            have HKi := Lib.hid hKi
            have HTi := Lib.hid hTi
            have HSi := Lib.hid (Nat.le_trans HK4.out.size hKi.size)
            clear hJi hKi hTi
            by_cases hlt2 : t < 1
            · obtain rfl : t = 0 := by omega
              have hci := HKi.out.cell (HC4.out 0 (by simp)) HF4.out
              simp only [Nat.add_zero, List.getD_cons_zero] at hci
              obtain ⟨fn, tmps, assign, body, hy, hRd⟩ := HY.out _ (119, (([x]).getD 0 0)) _ HJi.out (items_lt HI.out (show 0 < ([x]).length from by simp))
              have HRd := Lib.hid hRd
              clear hRd
              dsimp only [encF] at hy
              simp only [List.getD_cons_zero] at hy
              gi_wp2
              refine HRd.out.mono ?_
              rintro e W3 (⟨rfl, hJ3, hk3⟩ | ⟨rfl, hJx3⟩)
              · have HJ3' := Lib.hid hJ3
                have HK3 := Lib.hid hk3
                clear hJ3 hk3
                gi_wp2
                go_roundw
                case rel => exact ⟨0 + 1, by omega, by go_num, by rw [take_snocF ([x]) (show 0 < ([x]).length from by simp) (fun x => (119, x)), ← List.append_assoc]; exact HJ3'.out, HKi.out.trans HK3.out.1, HK3.out.2.same _ _ HTi.out rfl⟩
                case measure => simp [intOf] <;> omega
              · have HJ3' := Lib.hid hJx3
                clear hJx3
                gi_wp2
                refine bodyPost_ret (results_none rfl _ _ _) rfl ?_
                exact ⟨⟨_, rfl⟩, .inr ⟨pre ++ (([x]).take (0 + 1)).map (fun x => (119, x)), items_pre HI.out _, by rw [take_snocF ([x]) (show 0 < ([x]).length from by simp) (fun x => (119, x)), ← List.append_assoc]; exact HJ3'.out⟩⟩
            · obtain rfl : t = 1 := by omega
              gi_wp2
              go_roundw
              case rel => exact ⟨k + 1, _, pre ++ ([x]).map (fun x => (119, x)), hlt, HN.out, HI.out, ⟨_, rfl, fun h => by first | rfl | omega⟩, by have := HJi.out; rw [List.take_of_length_le (by simp)] at this; exact this, HK4.out.trans HKi.out, HTi.out⟩
              case measure => rw [iterPos_of HTi.out, iterPos_of HT.out]; omega
        · simp only [Nat.sub_zero, Nat.reduceSub, Nat.zero_add] at HC4 ⊢
          gi_wp2
          gi_region
          gi_wp2
          rw [← Hw4.out]
          obtain ⟨w5, hw5⟩ : ∃ w5, w5 = w4.drew := ⟨_, rfl⟩
          rw [← hw5]
          have hb5 : Below w4.heap.size w4 w5 := by rw [hw5]; exact (Below.refl _ _).drew
          have HK45 := Lib.hid (KeepC.below hb5 (Nat.lt_of_lt_of_le hR3 HK4.out.size))
          have hJ5 : J pre w5 := abide HJ.out hb5 HJ4.out
          have hT5 : w5.heap[T]? = some (.stringIter sh (k + 1)) := by rw [hw5]; exact HT4.out
          clear HJ4 HT4 hb5 hw5
          have HJ4 := Lib.hid hJ5
          have HT4 := Lib.hid hT5
          clear hJ5 hT5
          gi_loopw [40] (fun i wi => ∃ t : Nat, t ≤ 1 ∧ i = .int .i64 t ∧ J (pre ++ (([x]).take t).map (fun x => (114, x))) wi ∧ KeepC Ro w4 wi ∧ wi.heap[T]? = some (.stringIter sh (k + 1))) (fun i _ => 1 - (intOf i).toNat)
          case atStart => exact ⟨0, Nat.zero_le _, rfl, by simpa using HJ4.out, HK45.out, HT4.out⟩
          case round =>
            obtain ⟨t, ht, rfl, hJi, hKi, hTi⟩ := hrel
            have HJi := Lib.hid hJi
            have HKi := Lib.hid hKi
            have HTi := Lib.hid hTi
            have HSi := Lib.hid (Nat.le_trans HK4.out.size hKi.size)
            clear hJi hKi hTi
            by_cases hlt2 : t < 1
            · obtain rfl : t = 0 := by omega
              have hci := HKi.out.cell (HC4.out 0 (by simp)) HF4.out
              simp only [Nat.add_zero, List.getD_cons_zero] at hci
              obtain ⟨fn, tmps, assign, body, hy, hRd⟩ := HY.out _ (114, (([x]).getD 0 0)) _ HJi.out (items_lt HI.out (show 0 < ([x]).length from by simp))
              have HRd := Lib.hid hRd
              clear hRd
              dsimp only [encF] at hy
              simp only [List.getD_cons_zero] at hy
              gi_wp2
              refine HRd.out.mono ?_
              rintro e W3 (⟨rfl, hJ3, hk3⟩ | ⟨rfl, hJx3⟩)
              · have HJ3' := Lib.hid hJ3
                have HK3 := Lib.hid hk3
                clear hJ3 hk3
                gi_wp2
                go_roundw
                case rel => exact ⟨0 + 1, by omega, by go_num, by rw [take_snocF ([x]) (show 0 < ([x]).length from by simp) (fun x => (114, x)), ← List.append_assoc]; exact HJ3'.out, HKi.out.trans HK3.out.1, HK3.out.2.same _ _ HTi.out rfl⟩
                case measure => simp [intOf] <;> omega
              · have HJ3' := Lib.hid hJx3
                clear hJx3
                gi_wp2
                refine bodyPost_ret (results_none rfl _ _ _) rfl ?_
                exact ⟨⟨_, rfl⟩, .inr ⟨pre ++ (([x]).take (0 + 1)).map (fun x => (114, x)), items_pre HI.out _, by rw [take_snocF ([x]) (show 0 < ([x]).length from by simp) (fun x => (114, x)), ← List.append_assoc]; exact HJ3'.out⟩⟩
            · obtain rfl : t = 1 := by omega
              gi_wp2
              go_roundw
              case rel => exact ⟨k + 1, _, pre ++ ([x]).map (fun x => (114, x)), hlt, HN.out, HI.out, ⟨_, rfl, fun h => by first | rfl | omega⟩, by have := HJi.out; rw [List.take_of_length_le (by simp)] at this; exact this, HK4.out.trans HKi.out, HTi.out⟩
              case measure => rw [iterPos_of HTi.out, iterPos_of HT.out]; omega
        · simp only [Nat.sub_zero, Nat.reduceSub, Nat.zero_add] at HC4 ⊢
          gi_wp2
          gi_region
          gi_wp2
          rw [← Hw4.out]
          obtain ⟨w5, hw5⟩ : ∃ w5, w5 = w4.drew := ⟨_, rfl⟩
          rw [← hw5]
          have hb5 : Below w4.heap.size w4 w5 := by rw [hw5]; exact (Below.refl _ _).drew
          have HK45 := Lib.hid (KeepC.below hb5 (Nat.lt_of_lt_of_le hR3 HK4.out.size))
          have hJ5 : J pre w5 := abide HJ.out hb5 HJ4.out
          have hT5 : w5.heap[T]? = some (.stringIter sh (k + 1)) := by rw [hw5]; exact HT4.out
          clear HJ4 HT4 hb5 hw5
          have HJ4 := Lib.hid hJ5
          have HT4 := Lib.hid hT5
          clear hJ5 hT5
          gi_loopw [40] (fun i wi => ∃ t : Nat, t ≤ 1 ∧ i = .int .i64 t ∧ J (pre ++ (([x]).take t).map (fun x => (114, x))) wi ∧ KeepC Ro w4 wi ∧ wi.heap[T]? = some (.stringIter sh (k + 1))) (fun i _ => 1 - (intOf i).toNat)
          case atStart => exact ⟨0, Nat.zero_le _, rfl, by simpa using HJ4.out, HK45.out, HT4.out⟩
          case round =>
            obtain ⟨t, ht, rfl, hJi, hKi, hTi⟩ := hrel
            have HJi := Lib.hid hJi
            have HKi := Lib.hid hKi
            have HTi := Lib.hid hTi
            have HSi := Lib.hid (Nat.le_trans HK4.out.size hKi.size)
            clear hJi hKi hTi
            by_cases hlt2 : t < 1
            · obtain rfl : t = 0 := by omega
              have hci := HKi.out.cell (HC4.out 0 (by simp)) HF4.out
              simp only [Nat.add_zero, List.getD_cons_zero] at hci
              obtain ⟨fn, tmps, assign, body, hy, hRd⟩ := HY.out _ (114, (([x]).getD 0 0)) _ HJi.out (items_lt HI.out (show 0 < ([x]).length from by simp))
              have HRd := Lib.hid hRd
              clear hRd
              dsimp only [encF] at hy
              simp only [List.getD_cons_zero] at hy
              gi_wp2
              refine HRd.out.mono ?_
              rintro e W3 (⟨rfl, hJ3, hk3⟩ | ⟨rfl, hJx3⟩)
              · have HJ3' := Lib.hid hJ3
                have HK3 := Lib.hid hk3
                clear hJ3 hk3
                gi_wp2
                go_roundw
                case rel => exact ⟨0 + 1, by omega, by go_num, by rw [take_snocF ([x]) (show 0 < ([x]).length from by simp) (fun x => (114, x)), ← List.append_assoc]; exact HJ3'.out, HKi.out.trans HK3.out.1, HK3.out.2.same _ _ HTi.out rfl⟩
                case measure => simp [intOf] <;> omega
              · have HJ3' := Lib.hid hJx3
                clear hJx3
                gi_wp2
                refine bodyPost_ret (results_none rfl _ _ _) rfl ?_
                exact ⟨⟨_, rfl⟩, .inr ⟨pre ++ (([x]).take (0 + 1)).map (fun x => (114, x)), items_pre HI.out _, by rw [take_snocF ([x]) (show 0 < ([x]).length from by simp) (fun x => (114, x)), ← List.append_assoc]; exact HJ3'.out⟩⟩
            · obtain rfl : t = 1 := by omega
              gi_wp2
              go_roundw
              case rel => exact ⟨k + 1, _, pre ++ ([x]).map (fun x => (114, x)), hlt, HN.out, HI.out, ⟨_, rfl, fun h => by first | rfl | omega⟩, by have := HJi.out; rw [List.take_of_length_le (by simp)] at this; exact this, HK4.out.trans HKi.out, HTi.out⟩
              case measure => rw [iterPos_of HTi.out, iterPos_of HT.out]; omega
        · simp only [Nat.sub_zero, Nat.reduceSub, Nat.zero_add] at HC4 ⊢
          gi_wp2
          gi_region
          gi_wp2
          rw [← Hw4.out]
          obtain ⟨w5, hw5⟩ : ∃ w5, w5 = w4.drew := ⟨_, rfl⟩
          rw [← hw5]
          have hb5 : Below w4.heap.size w4 w5 := by rw [hw5]; exact (Below.refl _ _).drew
          have HK45 := Lib.hid (KeepC.below hb5 (Nat.lt_of_lt_of_le hR3 HK4.out.size))
          have hJ5 : J pre w5 := abide HJ.out hb5 HJ4.out
          have hT5 : w5.heap[T]? = some (.stringIter sh (k + 1)) := by rw [hw5]; exact HT4.out
          clear HJ4 HT4 hb5 hw5
          have HJ4 := Lib.hid hJ5
          have HT4 := Lib.hid hT5
          clear hJ5 hT5
          gi_loopw [40] (fun i wi => ∃ t : Nat, t ≤ 1 ∧ i = .int .i64 t ∧ J (pre ++ (([x]).take t).map (fun x => (114, x))) wi ∧ KeepC Ro w4 wi ∧ wi.heap[T]? = some (.stringIter sh (k + 1))) (fun i _ => 1 - (intOf i).toNat)
          case atStart => exact ⟨0, Nat.zero_le _, rfl, by simpa using HJ4.out, HK45.out, HT4.out⟩
          case round =>
            obtain ⟨t, ht, rfl, hJi, hKi, hTi⟩ := hrel
            have HJi := Lib.hid hJi
            have HKi := Lib.hid hKi
            have HTi := Lib.hid hTi
            have HSi := Lib.hid (Nat.le_trans HK4.out.size hKi.size)
            clear hJi hKi hTi
            by_cases hlt2 : t < 1
            · obtain rfl : t = 0 := by omega
              have hci := HKi.out.cell (HC4.out 0 (by simp)) HF4.out
              simp only [Nat.add_zero, List.getD_cons_zero] at hci
              obtain ⟨fn, tmps, assign, body, hy, hRd⟩ := HY.out _ (114, (([x]).getD 0 0)) _ HJi.out (items_lt HI.out (show 0 < ([x]).length from by simp))
              have HRd := Lib.hid hRd
              clear hRd
              dsimp only [encF] at hy
              simp only [List.getD_cons_zero] at hy
              gi_wp2
              refine HRd.out.mono ?_
              rintro e W3 (⟨rfl, hJ3, hk3⟩ | ⟨rfl, hJx3⟩)
              · have HJ3' := Lib.hid hJ3
                have HK3 := Lib.hid hk3
                clear hJ3 hk3
                gi_wp2
                go_roundw
                case rel => exact ⟨0 + 1, by omega, by go_num, by rw [take_snocF ([x]) (show 0 < ([x]).length from by simp) (fun x => (114, x)), ← List.append_assoc]; exact HJ3'.out, HKi.out.trans HK3.out.1, HK3.out.2.same _ _ HTi.out rfl⟩
                case measure => simp [intOf] <;> omega
              · have HJ3' := Lib.hid hJx3
                clear hJx3
                gi_wp2
                refine bodyPost_ret (results_none rfl _ _ _) rfl ?_
                exact ⟨⟨_, rfl⟩, .inr ⟨pre ++ (([x]).take (0 + 1)).map (fun x => (114, x)), items_pre HI.out _, by rw [take_snocF ([x]) (show 0 < ([x]).length from by simp) (fun x => (114, x)), ← List.append_assoc]; exact HJ3'.out⟩⟩
            · obtain rfl : t = 1 := by omega
              gi_wp2
              go_roundw
              case rel => exact ⟨k + 1, _, pre ++ ([x]).map (fun x => (114, x)), hlt, HN.out, HI.out, ⟨_, rfl, fun h => by first | rfl | omega⟩, by have := HJi.out; rw [List.take_of_length_le (by simp)] at this; exact this, HK4.out.trans HKi.out, HTi.out⟩
              case measure => rw [iterPos_of HTi.out, iterPos_of HT.out]; omega
      · have hq1 : q ≠ 119 ∧ q ≠ 114 := by
          have h := of_decide_eq_false (Bool.eq_false_iff.2 hreg)
          omega
        have e1 : (q == 119) = false := by simpa using hq1.1
        have e2 : (q == 114) = false := by simpa using hq1.2
        obtain ⟨A, rfl, hA⟩ := hr
        have HA := Lib.hid hA
        have HN : Hid (j + regN ((lettersOf sh).drop (k + 1)) ≤ 3) := by
          have h := HN0.out
          simp only [hreg, if_false, Nat.zero_add] at h
          exact Lib.hid (by simpa using h)
        have hI := HI.out
        simp only [heldOf, restOf, hreg, if_false] at hI
        clear HI HN0 hA
        by_cases hq8 : q = 108
        · subst hq8
          have HI : Hid (itemsOf sh a b c n args = pre ++ args.map (fun x => ((108 : Int), x)) ++ itemsL n args ((lettersOf sh).drop (k + 1)) ([a, b, c].drop j)) := Lib.hid (by simpa using hI)
          clear hI hq1 e1 e2
          rw [← Hw4.out] at cX5
          by_cases hpos : 0 < args.length
          · obtain ⟨b', o', cap, rfl, hlc, hbB, hcs⟩ := HX3.out.plain hpos
            have hb' : b' ≠ Ro := HXR.out _ _ _ rfl hpos
            have hm := HX3.out.1
            unfold maxLen at hm
            have HC4 := Lib.hid (fun t ht => (HX4.out b' (o' + t) _ (hcs t ht) hb').1)
            have HF4 : Hid (¬ InReach Ro w4 b') := Lib.hid (HX4.out b' (o' + 0) _ (hcs 0 hpos) hb').2
            clear hcs
            rw [Hw4.out] at cX5
            gi_wp2
            rw [← Hw4.out]
            gi_loopw [40] (fun i wi => ∃ t : Nat, t ≤ args.length ∧ i = .int .i64 t ∧ J (pre ++ ((args).take t).map (fun x => ((108 : Int), x))) wi ∧ KeepC Ro w4 wi ∧ wi.heap[T]? = some (.stringIter sh (k + 1))) (fun i _ => args.length - (intOf i).toNat)
            case atStart => exact ⟨0, Nat.zero_le _, rfl, by simpa using HJ4.out, KeepC.refl _ _, HT4.out⟩
            case round =>
              obtain ⟨t, ht, rfl, hJi, hKi, hTi⟩ := hrel
              have HJi := Lib.hid hJi
              have HKi := Lib.hid hKi
              have HTi := Lib.hid hTi
              have HSi := Lib.hid (Nat.le_trans HK4.out.size hKi.size)
              clear hJi hKi hTi
              by_cases hlt2 : t < args.length
              · have hci := HKi.out.cell (HC4.out t hlt2) HF4.out
                obtain ⟨x, hx⟩ : ∃ x, x = args.getD t 0 := ⟨_, rfl⟩
                have HXX := Lib.hid hx
                rw [← hx] at hci
                clear hx
                have t0 : (0 : Int) ≤ (t : Int) := by omega
                obtain ⟨fn, tmps, assign, body, hy, hRd⟩ := HY.out _ ((108 : Int), x) _ HJi.out (items_lt HI.out (show t < (args).length from hlt2))
                have HRd := Lib.hid hRd
                clear hRd
                dsimp only [encF] at hy
                gi_wp2
                refine HRd.out.mono ?_
                rintro e W3 (⟨rfl, hJ3, hk3⟩ | ⟨rfl, hJx3⟩)
                · have HJ3' := Lib.hid hJ3
                  have HK3 := Lib.hid hk3
                  clear hJ3 hk3
                  gi_wp2
                  go_roundw
                  case rel => exact ⟨t + 1, by omega, by go_num, by rw [take_snocF (args) (show t < (args).length from hlt2) (fun x => ((108 : Int), x)), ← List.append_assoc]; rw [← HXX.out]; exact HJ3'.out, HKi.out.trans HK3.out.1, HK3.out.2.same _ _ HTi.out rfl⟩
                  case measure => simp [intOf] <;> omega
                · have HJ3' := Lib.hid hJx3
                  clear hJx3
                  gi_wp2
                  refine bodyPost_ret (results_none rfl _ _ _) rfl ?_
                  exact ⟨⟨_, rfl⟩, .inr ⟨pre ++ ((args).take (t + 1)).map (fun x => ((108 : Int), x)), items_pre HI.out _, by rw [take_snocF (args) (show t < (args).length from hlt2) (fun x => ((108 : Int), x)), ← List.append_assoc]; rw [← HXX.out]; exact HJ3'.out⟩⟩
              · obtain rfl : t = args.length := by omega
                gi_wp2
                go_roundw
                case rel => exact ⟨k + 1, _, pre ++ (args).map (fun x => ((108 : Int), x)), hlt, HN.out, HI.out, ⟨_, rfl, HA.out⟩, by have := HJi.out; rw [List.take_of_length_le (by simp)] at this; exact this, HK4.out.trans HKi.out, HTi.out⟩
                case measure => rw [iterPos_of HTi.out, iterPos_of HT.out]; omega
          · have hz : args.length = 0 := by omega
            obtain ⟨A', cap', rfl⟩ := HX3.out.len
            have hnil : args = [] := List.eq_nil_of_length_eq_zero hz
            subst hnil
            rw [Hw4.out] at cX5
            simp only [List.length_nil] at cX5
            clear hz hpos
            gi_wp2
            rw [← Hw4.out]
            gi_loopw [40] (fun i wi => ∃ t : Nat, t ≤ 0 ∧ i = .int .i64 t ∧ J (pre ++ ((([] : List Int)).take t).map (fun x => ((108 : Int), x))) wi ∧ KeepC Ro w4 wi ∧ wi.heap[T]? = some (.stringIter sh (k + 1))) (fun i _ => 0 - (intOf i).toNat)
            case atStart => exact ⟨0, Nat.zero_le _, rfl, by simpa using HJ4.out, KeepC.refl _ _, HT4.out⟩
            case round =>
              obtain ⟨t, ht, rfl, hJi, hKi, hTi⟩ := hrel
              have HJi := Lib.hid hJi
              have HKi := Lib.hid hKi
              have HTi := Lib.hid hTi
              have HSi := Lib.hid (Nat.le_trans HK4.out.size hKi.size)
              clear hJi hKi hTi
              obtain rfl : t = 0 := by omega
              gi_wp2
              go_roundw
              case rel => exact ⟨k + 1, _, pre ++ (([] : List Int)).map (fun x => ((108 : Int), x)), hlt, HN.out, HI.out, ⟨_, rfl, HA.out⟩, by have := HJi.out; rw [List.take_of_length_le (by simp)] at this; exact this, HK4.out.trans HKi.out, HTi.out⟩
              case measure => rw [iterPos_of HTi.out, iterPos_of HT.out]; omega
        · have e3 : (q == 108) = false := by simpa using hq8
          have HI : Hid (itemsOf sh a b c n args = pre ++ ([n]).map (fun x => (q, x)) ++ itemsL n args ((lettersOf sh).drop (k + 1)) ([a, b, c].drop j)) := Lib.hid (by simpa [hq8] using hI)
          clear hI hq1 hq8
          have HC4 : Hid (∀ t, t < 1 → w4.cell? ⟨w'.heap.size, t, none⟩ = some (.int .i64 (([n] : List Int).getD t 0))) := Lib.hid (fun t ht => by
            obtain rfl : t = 0 := by omega
            exact HN4.out)
          have HF4 := HNF
          gi_wp2
          rw [← Hw4.out]
          gi_loopw [40] (fun i wi => ∃ t : Nat, t ≤ 1 ∧ i = .int .i64 t ∧ J (pre ++ (([n]).take t).map (fun x => (q, x))) wi ∧ KeepC Ro w4 wi ∧ wi.heap[T]? = some (.stringIter sh (k + 1))) (fun i _ => 1 - (intOf i).toNat)
          case atStart => exact ⟨0, Nat.zero_le _, rfl, by simpa using HJ4.out, KeepC.refl _ _, HT4.out⟩
          case round =>
            obtain ⟨t, ht, rfl, hJi, hKi, hTi⟩ := hrel
            have HJi := Lib.hid hJi
            have HKi := Lib.hid hKi
            have HTi := Lib.hid hTi
            have HSi := Lib.hid (Nat.le_trans HK4.out.size hKi.size)
            clear hJi hKi hTi
            by_cases hlt2 : t < 1
            · obtain rfl : t = 0 := by omega
              have hci := HKi.out.cell (HC4.out 0 (by simp)) HF4.out
              simp only [Nat.add_zero, List.getD_cons_zero] at hci
              obtain ⟨fn, tmps, assign, body, hy, hRd⟩ := HY.out _ (q, (([n]).getD 0 0)) _ HJi.out (items_lt HI.out (show 0 < ([n]).length from by simp))
              have HRd := Lib.hid hRd
              clear hRd
              dsimp only [encF] at hy
              simp only [List.getD_cons_zero] at hy
              gi_wp2
              refine HRd.out.mono ?_
              rintro e W3 (⟨rfl, hJ3, hk3⟩ | ⟨rfl, hJx3⟩)
              · have HJ3' := Lib.hid hJ3
                have HK3 := Lib.hid hk3
                clear hJ3 hk3
                gi_wp2
                go_roundw
                case rel => exact ⟨0 + 1, by omega, by go_num, by rw [take_snocF ([n]) (show 0 < ([n]).length from by simp) (fun x => (q, x)), ← List.append_assoc]; exact HJ3'.out, HKi.out.trans HK3.out.1, HK3.out.2.same _ _ HTi.out rfl⟩
                case measure => simp [intOf] <;> omega
              · have HJ3' := Lib.hid hJx3
                clear hJx3
                gi_wp2
                refine bodyPost_ret (results_none rfl _ _ _) rfl ?_
                exact ⟨⟨_, rfl⟩, .inr ⟨pre ++ (([n]).take (0 + 1)).map (fun x => (q, x)), items_pre HI.out _, by rw [take_snocF ([n]) (show 0 < ([n]).length from by simp) (fun x => (q, x)), ← List.append_assoc]; exact HJ3'.out⟩⟩
            · obtain rfl : t = 1 := by omega
              gi_wp2
              go_roundw
              case rel => exact ⟨k + 1, _, pre ++ ([n]).map (fun x => (q, x)), hlt, HN.out, HI.out, ⟨_, rfl, HA.out⟩, by have := HJi.out; rw [List.take_of_length_le (by simp)] at this; exact this, HK4.out.trans HKi.out, HTi.out⟩
              case measure => rw [iterPos_of HTi.out, iterPos_of HT.out]; omega
    · obtain rfl : k = sh.size := by omega
      have hnx : ∀ ty, (Instr.next (.pointer (some ⟨T, 0, none⟩)) true ty).run Tryz.prog wr = .ok (.tuple #[.bool false]) wr := fun ty => Lib.run_next_end_at wr T sh sh.size ty hTr (by omega)
      rw [letters_end] at hi
      have HI := Lib.hid hi
      clear hi hTr hJr hKr hj
      gi_wp2
      go_end0
      exact ⟨⟨_, rfl⟩, .inl ⟨pre, (HI.out.trans (by simp [itemsL])).symm, HJr.out⟩⟩
end Go.Proofs.YtohlifeenhaifaaGreatDoor

/- (Ins06) Instructions and lists of numbers: are two the same; one in memory of its own; a choice (op.Same and the functions that the statements share). Contracts; no condition but what each names. -/
namespace Go.Proofs.YtohlifeenhaifaaGreatDoor
open Go.RowKit
set_option linter.unusedVariables false
set_option linter.unusedSimpArgs false

def sameL (xs ys : List Int) : Bool := decide (xs = ys)
def Drawn2 (w : World) (v : Value) (e : Ending) (w' : World) : Prop := e = .returned v ∧ ∃ k, w' = w.drewN k
theorem sameL_len {xs ys : List Int} (h : xs.length ≠ ys.length) : sameL xs ys = false := decide_eq_false (fun e => h (by rw [e]))
theorem sameL_at {xs ys : List Int} {k : Nat} (h : xs.getD k 0 ≠ ys.getD k 0) : sameL xs ys = false := decide_eq_false (fun e => h (by rw [e]))
theorem sameL_all {xs ys : List Int} {n : Nat} (h1 : xs.length = n) (h2 : ys.length = n) (h : ∀ k, k < n → xs.getD k 0 = ys.getD k 0) : sameL xs ys = true := by
  refine decide_eq_true (List.ext_getElem (by omega) fun k hk hk' => ?_)
  have := h k (by omega)
  simpa [List.getD, hk, hk'] using this

set_option maxHeartbeats 2000000 in
theorem sameInts_any (X Y : Value) (xs ys : List Int) (w : World) (B C : Nat) (hX : IsNums .i64 w B X xs) (hY : IsNums .i64 w C Y ys) :
    Calls Tryz.prog 36 #[X, Y] w (Drawn2 w (.bool (sameL xs ys))) := by
  obtain ⟨A1, c1, rfl⟩ := hX.len
  obtain ⟨A2, c2, rfl⟩ := hY.len
  by_cases hl : xs.length = ys.length
  · by_cases hp : 0 < xs.length
    · obtain ⟨b1, o1, c1', e1, r1, _, g1⟩ := hX.plain hp
      obtain ⟨b2, o2, c2', e2, r2, _, g2⟩ := hY.plain (by omega)
      cases e1
      cases e2
      have hm := hX.1
      unfold maxLen at hm
      have H1 := Lib.hid g1
      rw [← hl] at g2
      have H2 := Lib.hid g2
      rw [← hl]
      obtain ⟨n, hn⟩ : ∃ n, n = xs.length := ⟨_, rfl⟩
      have HN1 := Lib.hid hn.symm
      have HN2 := Lib.hid (hl.symm.trans hn.symm)
      rw [← hn] at H1 H2 hm ⊢
      clear g1 g2 hX hY hp hl hn r1 r2
      go_enter Tryz.func36, Tryz.ntmps36
      go_wp2
      go_loopw [5] (fun i wr => ∃ k q : Nat, k ≤ n ∧ i = .int .i64 k ∧ wr = w.drewN q ∧ ∀ t, t < k → xs.getD t 0 = ys.getD t 0) (fun i _ => n - (intOf i).toNat)
      case atStart => exact ⟨0, 0, by omega, rfl, rfl, fun t ht => by omega⟩
      case round =>
        obtain ⟨k, q, hk, rfl, rfl, hs⟩ := hrel
        have HS := Lib.hid hs
        clear hs
        by_cases hlt : k < n
        · have g1 := H1.out k hlt
          have g2 := H2.out k hlt
          obtain ⟨x, hx⟩ : ∃ x, x = xs.getD k 0 := ⟨_, rfl⟩
          obtain ⟨y, hy⟩ : ∃ y, y = ys.getD k 0 := ⟨_, rfl⟩
          rw [← hx] at g1
          rw [← hy] at g2
          have HXY := Lib.hid (And.intro hx hy)
          clear hx hy
          have k0 : (0 : Int) ≤ (k : Int) := by omega
          have k1 : (k : Int) < (n : Int) := by omega
          by_cases hxy : x = y
          · have e1 : (x == y) = true := by simpa using hxy
            have e2 : (x != y) = false := by simpa using hxy
            have HE := Lib.hid hxy
            clear hxy
            go_wp2
            go_quiet (fail)
            go_wp2
            go_roundw
            case rel => exact ⟨k + 1, _, by omega, by go_num, rfl, fun t ht => by
              by_cases e : t = k
              · subst e
                exact HXY.out.1.symm.trans (HE.out.trans HXY.out.2)
              · exact HS.out t (by omega)⟩
            case measure => simp [intOf]; omega
          · have e1 : (x == y) = false := by simpa using hxy
            have e2 : (x != y) = true := by simpa using hxy
            have HE : Hid (sameL xs ys = false) := Lib.hid (sameL_at (k := k) (by rw [← HXY.out.1, ← HXY.out.2]; exact hxy))
            clear hxy
            go_wp2
            go_quiet (fail)
            go_wp2
            go_ret
            rw [HE.out]
            exact ⟨rfl, _, World.drewN_drewN _ _ _⟩
        · obtain rfl : k = n := by omega
          have HE := Lib.hid (sameL_all HN1.out HN2.out HS.out)
          go_wp2
          go_ret
          rw [HE.out]
          exact ⟨rfl, q, rfl⟩
    · have h0 : xs.length = 0 := by omega
      have h1 : ys.length = 0 := by omega
      have HE := Lib.hid (sameL_all h0 h1 (fun k hk => by omega))
      rw [h0, h1]
      clear hX hY hp h0 h1 hl
      go_enter Tryz.func36, Tryz.ntmps36
      go_wp2
      go_loopw [5] (fun i wr => i = .int .i64 0 ∧ wr = w) (fun i _ => 0)
      case atStart => exact ⟨rfl, rfl⟩
      case round =>
        obtain ⟨rfl, rfl⟩ := hrel
        go_wp2
        go_ret
        rw [HE.out]
        exact ⟨rfl, 0, rfl⟩
  · have HE := Lib.hid (sameL_len hl)
    have hm := hX.1
    have hm2 := hY.1
    unfold maxLen at hm hm2
    generalize xs.length = p at hl hm ⊢
    generalize ys.length = q at hl hm2 ⊢
    have e1 : ((p : Int) != (q : Int)) = true := by simp; omega
    have e2 : ((p : Int) == (q : Int)) = false := by simp; omega
    have e3 : decide (p = q) = false := decide_eq_false hl
    clear hX hY
    go_enter Tryz.func36, Tryz.ntmps36
    go_wp2
    go_ret
    rw [HE.out]
    exact ⟨rfl, 0, rfl⟩

set_option maxHeartbeats 2000000 in
theorem equalInts_any (X Y : Value) (xs ys : List Int) (w : World) (B C : Nat) (hX : IsNums .i64 w B X xs) (hY : IsNums .i64 w C Y ys) :
    Calls Tryz.prog 102 #[X, Y] w (Drawn2 w (.bool (sameL xs ys))) := by
  obtain ⟨A1, c1, rfl⟩ := hX.len
  obtain ⟨A2, c2, rfl⟩ := hY.len
  by_cases hl : xs.length = ys.length
  · by_cases hp : 0 < xs.length
    · obtain ⟨b1, o1, c1', e1, r1, _, g1⟩ := hX.plain hp
      obtain ⟨b2, o2, c2', e2, r2, _, g2⟩ := hY.plain (by omega)
      cases e1
      cases e2
      have hm := hX.1
      unfold maxLen at hm
      have H1 := Lib.hid g1
      rw [← hl] at g2
      have H2 := Lib.hid g2
      rw [← hl]
      obtain ⟨n, hn⟩ : ∃ n, n = xs.length := ⟨_, rfl⟩
      have HN1 := Lib.hid hn.symm
      have HN2 := Lib.hid (hl.symm.trans hn.symm)
      rw [← hn] at H1 H2 hm ⊢
      clear g1 g2 hX hY hp hl hn r1 r2
      go_enter Tryz.func102, Tryz.ntmps102
      go_wp2
      go_loopw [13] (fun i wr => ∃ k q : Nat, k ≤ n ∧ i = .int .i64 k ∧ wr = w.drewN q ∧ ∀ t, t < k → xs.getD t 0 = ys.getD t 0) (fun i _ => n - (intOf i).toNat)
      case atStart => exact ⟨0, 0, by omega, rfl, rfl, fun t ht => by omega⟩
      case round =>
        obtain ⟨k, q, hk, rfl, rfl, hs⟩ := hrel
        have HS := Lib.hid hs
        clear hs
        by_cases hlt : k < n
        · have g1 := H1.out k hlt
          have g2 := H2.out k hlt
          obtain ⟨x, hx⟩ : ∃ x, x = xs.getD k 0 := ⟨_, rfl⟩
          obtain ⟨y, hy⟩ : ∃ y, y = ys.getD k 0 := ⟨_, rfl⟩
          rw [← hx] at g1
          rw [← hy] at g2
          have HXY := Lib.hid (And.intro hx hy)
          clear hx hy
          have k0 : (0 : Int) ≤ (k : Int) := by omega
          have k1 : (k : Int) < (n : Int) := by omega
          by_cases hxy : x = y
          · have e1 : (x == y) = true := by simpa using hxy
            have e2 : (x != y) = false := by simpa using hxy
            have HE := Lib.hid hxy
            clear hxy
            go_wp2
            go_quiet (fail)
            go_wp2
            go_roundw
            case rel => exact ⟨k + 1, _, by omega, by go_num, rfl, fun t ht => by
              by_cases e : t = k
              · subst e
                exact HXY.out.1.symm.trans (HE.out.trans HXY.out.2)
              · exact HS.out t (by omega)⟩
            case measure => simp [intOf]; omega
          · have e1 : (x == y) = false := by simpa using hxy
            have e2 : (x != y) = true := by simpa using hxy
            have HE : Hid (sameL xs ys = false) := Lib.hid (sameL_at (k := k) (by rw [← HXY.out.1, ← HXY.out.2]; exact hxy))
            clear hxy
            go_wp2
            go_quiet (fail)
            go_wp2
            go_ret
            rw [HE.out]
            exact ⟨rfl, _, World.drewN_drewN _ _ _⟩
        · obtain rfl : k = n := by omega
          have HE := Lib.hid (sameL_all HN1.out HN2.out HS.out)
          go_wp2
          go_ret
          rw [HE.out]
          exact ⟨rfl, q, rfl⟩
    · have h0 : xs.length = 0 := by omega
      have h1 : ys.length = 0 := by omega
      have HE := Lib.hid (sameL_all h0 h1 (fun k hk => by omega))
      rw [h0, h1]
      clear hX hY hp h0 h1 hl
      go_enter Tryz.func102, Tryz.ntmps102
      go_wp2
      go_loopw [13] (fun i wr => i = .int .i64 0 ∧ wr = w) (fun i _ => 0)
      case atStart => exact ⟨rfl, rfl⟩
      case round =>
        obtain ⟨rfl, rfl⟩ := hrel
        go_wp2
        go_ret
        rw [HE.out]
        exact ⟨rfl, 0, rfl⟩
  · have HE := Lib.hid (sameL_len hl)
    have hm := hX.1
    have hm2 := hY.1
    unfold maxLen at hm hm2
    generalize xs.length = p at hl hm ⊢
    generalize ys.length = q at hl hm2 ⊢
    have e1 : ((p : Int) != (q : Int)) = true := by simp; omega
    have e2 : ((p : Int) == (q : Int)) = false := by simp; omega
    have e3 : decide (p = q) = false := decide_eq_false hl
    clear hX hY
    go_enter Tryz.func102, Tryz.ntmps102
    go_wp2
    go_ret
    rw [HE.out]
    exact ⟨rfl, 0, rfl⟩

def sameV (op a b c n : Int) (args : List Int) (op' a' b' c' n' : Int) (args' : List Int) : Bool := decide (op = op' ∧ a = a' ∧ b = b' ∧ c = c' ∧ n = n' ∧ args = args')

set_option maxHeartbeats 4000000 in
set_option maxRecDepth 100000 in
theorem same_any (op a b c n : Int) (X : Value) (args : List Int) (op' a' b' c' n' : Int) (X' : Value) (args' : List Int) (w : World) (hX : IsNums .i64 w w.heap.size X args) (hX' : IsNums .i64 w w.heap.size X' args') :
    Calls Tryz.prog 80 #[.agg (insCells op a b c n X), .agg (insCells op' a' b' c' n' X')] w (Makes w (.bool (sameV op a b c n args op' a' b' c' n' args'))) := by
  have hB0 : Below w.heap.size w ((w.alloc (.cells (insCells op a b c n X) 28)).alloc (.cells (insCells op' a' b' c' n' X') 28)) := ((Below.refl _ w).alloc (Nat.le_refl _) _).alloc (by simp) _
  have HX := Lib.hid (hX.below hB0 (Nat.le_refl _))
  have HX' := Lib.hid (hX'.below hB0 (Nat.le_refl _))
  have HB := Lib.hid hB0
  clear hX hX' hB0
  by_cases h0 : op = op'
  case neg =>
    have hf : sameV op a b c n args op' a' b' c' n' args' = false := decide_eq_false (fun h => h0 (by exact h.1))
    have e1 : (op == op') = false := by simpa using h0
    have HF := Lib.hid hf
    clear hf h0
    go_enter Tryz.func80, Tryz.ntmps80
    go_wp2
    go_ret
    rw [HF.out]
    exact ⟨rfl, HB.out⟩
  subst h0
  by_cases h1 : a = a'
  case neg =>
    have hf : sameV op a b c n args op a' b' c' n' args' = false := decide_eq_false (fun h => h1 (by exact h.2.1))
    have e1 : (a == a') = false := by simpa using h1
    have HF := Lib.hid hf
    clear hf h1
    go_enter Tryz.func80, Tryz.ntmps80
    go_wp2
    go_ret
    rw [HF.out]
    exact ⟨rfl, HB.out⟩
  subst h1
  by_cases h2 : b = b'
  case neg =>
    have hf : sameV op a b c n args op a b' c' n' args' = false := decide_eq_false (fun h => h2 (by exact h.2.2.1))
    have e1 : (b == b') = false := by simpa using h2
    have HF := Lib.hid hf
    clear hf h2
    go_enter Tryz.func80, Tryz.ntmps80
    go_wp2
    go_ret
    rw [HF.out]
    exact ⟨rfl, HB.out⟩
  subst h2
  by_cases h3 : c = c'
  case neg =>
    have hf : sameV op a b c n args op a b c' n' args' = false := decide_eq_false (fun h => h3 (by exact h.2.2.2.1))
    have e1 : (c == c') = false := by simpa using h3
    have HF := Lib.hid hf
    clear hf h3
    go_enter Tryz.func80, Tryz.ntmps80
    go_wp2
    go_ret
    rw [HF.out]
    exact ⟨rfl, HB.out⟩
  subst h3
  by_cases h4 : n = n'
  case neg =>
    have hf : sameV op a b c n args op a b c n' args' = false := decide_eq_false (fun h => h4 (by exact h.2.2.2.2.1))
    have e1 : (n == n') = false := by simpa using h4
    have HF := Lib.hid hf
    clear hf h4
    go_enter Tryz.func80, Tryz.ntmps80
    go_wp2
    go_ret
    rw [HF.out]
    exact ⟨rfl, HB.out⟩
  subst h4
  have hf : sameV op a b c n args op a b c n args' = sameL args args' := by simp [sameV, sameL]
  have HF := Lib.hid hf
  clear hf
  go_enter Tryz.func80, Tryz.ntmps80
  go_wp2_with (go_at_call 102; (with_reducible refine (equalInts_any _ _ _ _ _ _ _ HX.out HX'.out).mono ?_); rintro e w' ⟨rfl, k, rfl⟩)
  go_ret
  rw [HF.out]
  exact ⟨rfl, below_drewN HB.out k⟩

set_option maxHeartbeats 4000000 in
set_option maxRecDepth 100000 in
theorem sameIns_any (op a b c n : Int) (X : Value) (args : List Int) (op' a' b' c' n' : Int) (X' : Value) (args' : List Int) (w : World) (hX : IsNums .i64 w w.heap.size X args) (hX' : IsNums .i64 w w.heap.size X' args') :
    Calls Tryz.prog 17 #[.agg (insCells op a b c n X), .agg (insCells op' a' b' c' n' X')] w (Makes w (.bool (sameV op a b c n args op' a' b' c' n' args'))) := by
  have hB0 : Below w.heap.size w ((w.alloc (.cells (insCells op a b c n X) 28)).alloc (.cells (insCells op' a' b' c' n' X') 28)) := ((Below.refl _ w).alloc (Nat.le_refl _) _).alloc (by simp) _
  have HX := Lib.hid (hX.below hB0 (Nat.le_refl _))
  have HX' := Lib.hid (hX'.below hB0 (Nat.le_refl _))
  have HB := Lib.hid hB0
  clear hX hX' hB0
  by_cases h0 : op = op'
  case neg =>
    have hf : sameV op a b c n args op' a' b' c' n' args' = false := decide_eq_false (fun h => h0 (by exact h.1))
    have e1 : (op == op') = false := by simpa using h0
    have HF := Lib.hid hf
    clear hf h0
    go_enter Tryz.func17, Tryz.ntmps17
    go_wp2
    go_ret
    rw [HF.out]
    exact ⟨rfl, HB.out⟩
  subst h0
  by_cases h1 : a = a'
  case neg =>
    have hf : sameV op a b c n args op a' b' c' n' args' = false := decide_eq_false (fun h => h1 (by exact h.2.1))
    have e1 : (a == a') = false := by simpa using h1
    have HF := Lib.hid hf
    clear hf h1
    go_enter Tryz.func17, Tryz.ntmps17
    go_wp2
    go_ret
    rw [HF.out]
    exact ⟨rfl, HB.out⟩
  subst h1
  by_cases h2 : b = b'
  case neg =>
    have hf : sameV op a b c n args op a b' c' n' args' = false := decide_eq_false (fun h => h2 (by exact h.2.2.1))
    have e1 : (b == b') = false := by simpa using h2
    have HF := Lib.hid hf
    clear hf h2
    go_enter Tryz.func17, Tryz.ntmps17
    go_wp2
    go_ret
    rw [HF.out]
    exact ⟨rfl, HB.out⟩
  subst h2
  by_cases h3 : c = c'
  case neg =>
    have hf : sameV op a b c n args op a b c' n' args' = false := decide_eq_false (fun h => h3 (by exact h.2.2.2.1))
    have e1 : (c == c') = false := by simpa using h3
    have HF := Lib.hid hf
    clear hf h3
    go_enter Tryz.func17, Tryz.ntmps17
    go_wp2
    go_ret
    rw [HF.out]
    exact ⟨rfl, HB.out⟩
  subst h3
  by_cases h4 : n = n'
  case neg =>
    have hf : sameV op a b c n args op a b c n' args' = false := decide_eq_false (fun h => h4 (by exact h.2.2.2.2.1))
    have e1 : (n == n') = false := by simpa using h4
    have HF := Lib.hid hf
    clear hf h4
    go_enter Tryz.func17, Tryz.ntmps17
    go_wp2
    go_ret
    rw [HF.out]
    exact ⟨rfl, HB.out⟩
  subst h4
  have hf : sameV op a b c n args op a b c n args' = sameL args args' := by simp [sameV, sameL]
  have HF := Lib.hid hf
  clear hf
  go_enter Tryz.func17, Tryz.ntmps17
  go_wp2_with (go_at_call 36; (with_reducible refine (sameInts_any _ _ _ _ _ _ _ HX.out HX'.out).mono ?_); rintro e w' ⟨rfl, k, rfl⟩)
  go_ret
  rw [HF.out]
  exact ⟨rfl, below_drewN HB.out k⟩

def CopyInsDone (w : World) (op a b c n : Int) (args : List Int) (e : Ending) (w' : World) : Prop := ∃ v, e = .returned (.agg (insCells op a b c n v)) ∧ Owns w' w.heap.size 3 1 (IsNum .i64) v args.length (args.map (Value.int .i64)) ∧ Below w.heap.size w w'
theorem ints_one (K : IntKind) (xs : List Int) : ∀ u ∈ xs.map (Value.int K), u.oneCell' = true := by
  intro u hu
  obtain ⟨x, hx, rfl⟩ := List.mem_map.1 hu
  rfl
theorem news_of_nums {w w' : World} {ad : Addr} {xs : List Int} (h : ∀ i, i < xs.length → w.cell? (ad.add i) = some (.int .i64 (xs.getD i 0))) (hc : ∀ i, i < xs.length → w'.cell? (ad.add i) = w.cell? (ad.add i)) :
    ∀ j u, (xs.map (Value.int .i64))[j]? = some u → w'.cell? (ad.add j) = some u := by
  intro j u hj
  have hl : j < xs.length := by
    rcases Nat.lt_or_ge j xs.length with h | h
    · exact h
    · rw [List.getElem?_eq_none (by simpa using h)] at hj
      cases hj
  rw [hc j hl, h j hl]
  simp [List.getElem?_eq_getElem hl] at hj
  subst hj
  simp [List.getD, List.getElem?_eq_getElem hl]
set_option maxHeartbeats 2000000 in
theorem copyIns_none (op a b c n : Int) (w : World) : Calls Tryz.prog 10 #[.agg (insCells op a b c n (.slice none 0 0))] w (CopyInsDone w op a b c n []) := by
  go_enter Tryz.func10, Tryz.ntmps10
  go_wp2
  exact bodyPost_ret (v := .agg (insCells op a b c n (.slice (some ⟨w.heap.size + 2, 0, none⟩) 0 0))) (by simp [results, Tryz.results10, go_sem]) rfl ⟨_, rfl, (by
    have h := Owns.made ((w.alloc (.cells (insCells op a b c n (.slice (some ⟨w.heap.size + 2, 0, none⟩) 0 0)) 28)).alloc (.cells (insCells op a b c n (.slice (some ⟨w.heap.size + 2, 0, none⟩) 0 0)) 28)) w.heap.size 3 1 (IsNum .i64) (by simp; omega)
    rw [World.size_alloc, World.size_alloc] at h
    exact h), (((Below.refl _ w).alloc (Nat.le_refl _) _).alloc (by simp) _).alloc (by simp; omega) _⟩
theorem owns_slice {w : World} {base : Nat} {e : TypeId} {size : Nat} {v : Value} {n : Nat} {xs : List Value} (h : w.ownsRow base e size v n xs) : ∃ A l cap, v = .slice A l cap := by
  rcases h.2 with ⟨rfl, _⟩ | ⟨g, cap, cur, rfl, _⟩
  · exact ⟨_, _, _, rfl⟩
  · exact ⟨_, _, _, rfl⟩
theorem cells6 {w : World} {b' : Nat} {op a b c n : Int} {X : Value} {T : TypeId} (h : w.heap[b']? = some (.cells (insCells op a b c n X) T (0, 0))) :
    w.cell? ⟨b', 0, none⟩ = some (.int .i64 op) ∧ w.cell? ⟨b', 1, none⟩ = some (.int .i64 a) ∧ w.cell? ⟨b', 2, none⟩ = some (.int .i64 b) ∧ w.cell? ⟨b', 3, none⟩ = some (.int .i64 c) ∧ w.cell? ⟨b', 4, none⟩ = some (.int .i64 n) ∧ w.cell? ⟨b', 5, none⟩ = some X := by
  simp [World.cell?, h]
theorem free6 {w : World} {b' : Nat} {op a b c n : Int} {X : Value} {T : TypeId} (h : w.heap[b']? = some (.cells (insCells op a b c n X) T (0, 0))) (o : Nat) : w.frozen? ⟨b', o, none⟩ = false := by
  exact frozen_of_row w b' o _ _ h
set_option maxHeartbeats 2000000 in
theorem copyIns_some (op a b c n : Int) (ad : Addr) (cap : Nat) (xs : List Int) (w : World) (hm : xs.length ≤ 1000000000) (hc : ∀ i, i < xs.length → w.cell? (ad.add i) = some (.int .i64 (xs.getD i 0))) (hb : 0 < xs.length → ad.block < w.heap.size) :
    Calls Tryz.prog 10 #[.agg (insCells op a b c n (.slice (some ad) xs.length cap))] w (CopyInsDone w op a b c n xs) := by
  obtain ⟨i0, hi, hz0, hz1, hz2⟩ := info_parts int_info
  have HI := Lib.hid hi
  have HZ0 := Lib.hid hz0
  have HZ1 := Lib.hid hz1
  have HZ2 := Lib.hid hz2
  have hB1 : Below w.heap.size w (((w.alloc (.cells (insCells op a b c n (.slice (some ad) xs.length cap)) 28)).alloc (.cells (insCells 0 0 0 0 0 (.slice none 0 0)) 28)).alloc (.cells #[] 3)) := (((Below.refl _ w).alloc (Nat.le_refl _) _).alloc (by simp) _).alloc (by simp; omega) _
  have news := news_of_nums hc (fun i hi => hB1.cell (p := ad.add i) (by rw [add_block]; exact hb (by omega)))
  have hmade := Owns.made ((w.alloc (.cells (insCells op a b c n (.slice (some ad) xs.length cap)) 28)).alloc (.cells (insCells 0 0 0 0 0 (.slice none 0 0)) 28)) (w.heap.size + 1 + 1) 3 1 (IsNum .i64) (by simp)
  rw [World.size_alloc, World.size_alloc] at hmade
  have hx0 : (((w.alloc (.cells (insCells op a b c n (.slice (some ad) xs.length cap)) 28)).alloc (.cells (insCells 0 0 0 0 0 (.slice none 0 0)) 28)).alloc (.cells #[] 3)).heap[w.heap.size]? = some (.cells (insCells op a b c n (.slice (some ad) xs.length cap)) 28 (0, 0)) := by
    rw [Below.heap_alloc _ _ _ (by simp; omega), Below.heap_alloc _ _ _ (by simp)]
    exact heap_alloc_new _ _
  have hx1 : (((w.alloc (.cells (insCells op a b c n (.slice (some ad) xs.length cap)) 28)).alloc (.cells (insCells 0 0 0 0 0 (.slice none 0 0)) 28)).alloc (.cells #[] 3)).heap[w.heap.size + 1]? = some (.cells (insCells 0 0 0 0 0 (.slice none 0 0)) 28 (0, 0)) := by
    rw [Below.heap_alloc _ _ _ (by simp)]
    have := heap_alloc_new (w.alloc (.cells (insCells op a b c n (.slice (some ad) xs.length cap)) 28)) (.cells (insCells 0 0 0 0 0 (.slice none 0 0)) 28)
    rwa [World.size_alloc] at this
  have HB1 := Lib.hid hB1
  have HN := Lib.hid news
  have HM := Lib.hid hmade
  have HK := Lib.hid (num_cells .i64 xs)
  have HX0 := Lib.hid hx0
  have HX1 := Lib.hid hx1
  clear hi hz0 hz1 hz2 news hmade hc hb hB1 hx0 hx1
  go_enter Tryz.func10, Tryz.ntmps10
  go_wp2_with (at_builtin; refine wpList_append_q _ rfl (.tmp 3) (.tmp 5) 26 rfl (w.heap.size + 1 + 1) 3 i0 _ 1 8 Tryz.underlying26 HI.out HZ0.out HZ1.out HZ2.out rfl (by decide) (IsNum .i64) (zero_num .i64) _ 0 [] rfl HM.out ad xs.length cap (xs.map (Value.int .i64)) rfl (by simp) HN.out (ints_one .i64 xs) HK.out (by simp only [maxLen]; omega) (by omega) (by simp) ?_; intro v' w2 hown' hgrow; have hgrow' : World.grownBy _ w2 (some (w.heap.size + 1 + 1)) := hgrow; clear hgrow; have hgrow := hgrow'; clear hgrow'; obtain ⟨A', l', cap', rfl⟩ := owns_slice hown'.1; have HO := Lib.hid hown'; have HG := Lib.hid hgrow; clear hown' hgrow; have hb0 := (HG.out.block w.heap.size (by simp; omega) (by simp; omega)).trans HX0.out; have hb1 := (HG.out.block (w.heap.size + 1) (by simp) (by simp)).trans HX1.out; have HY0 := Lib.hid hb0; have HY1 := Lib.hid hb1; obtain ⟨c0, c1, c2, c3, c4, c5⟩ := cells6 hb0; obtain ⟨d0, d1, d2, d3, d4, d5⟩ := cells6 hb1; have f5 := free6 hb0 5; have g0 := free6 hb1 0; have g1 := free6 hb1 1; have g2 := free6 hb1 2; have g3 := free6 hb1 3; have g4 := free6 hb1 4; have g5 := free6 hb1 5; clear hb0 hb1)
  have hbut := ((((((((But.refl (fun k => k = w.heap.size ∨ k = w.heap.size + 1) w2).setCell (p := ⟨w.heap.size, 5, none⟩) (.inl (.inl rfl)) (.slice A' l' cap')).setCell (p := ⟨w.heap.size + 1, 0, none⟩) (.inl (.inr rfl)) (.int .i64 op)).setCell (p := ⟨w.heap.size + 1, 1, none⟩) (.inl (.inr rfl)) (.int .i64 a)).setCell (p := ⟨w.heap.size + 1, 2, none⟩) (.inl (.inr rfl)) (.int .i64 b)).setCell (p := ⟨w.heap.size + 1, 3, none⟩) (.inl (.inr rfl)) (.int .i64 c)).setCell (p := ⟨w.heap.size + 1, 4, none⟩) (.inl (.inr rfl)) (.int .i64 n)).setCell (p := ⟨w.heap.size + 1, 5, none⟩) (.inl (.inr rfl)) (.slice A' l' cap'))
  have hbel : Below w.heap.size w w2 := HB1.out.grown HG.out (by simp; omega) (fun g hg => by cases hg; omega)
  refine bodyPost_ret (v := .agg (insCells op a b c n (.slice A' l' cap'))) (by simp [results, Tryz.results10, go_sem, d0, d1, d2, d3, d4, d5]) rfl ⟨_, rfl, ?_, But.below hbel hbut (by have := hbel.size; omega) (fun k hk => by omega)⟩
  have h := (HO.out.base (base' := w.heap.size) (by omega)).but hbut (fun g hg hk => by have := (HO.out.lt hg).1; omega)
  simpa using h
theorem copyIns_any (op a b c n : Int) (X : Value) (xs : List Int) (w : World) (hX : IsNums .i64 w w.heap.size X xs) (hm : xs.length ≤ 1000000000) : Calls Tryz.prog 10 #[.agg (insCells op a b c n X)] w (CopyInsDone w op a b c n xs) := by
  rcases hX.2 with ⟨rfl, rfl⟩ | ⟨ad, cap, rfl, h1, h2, h3⟩
  · exact copyIns_none op a b c n w
  · exact copyIns_some op a b c n ad cap xs w hm h3 h2

end Go.Proofs.YtohlifeenhaifaaGreatDoor

/- (First06) The landed op.Writes and op.Target: the first field of a letter. Contracts; no condition but that the argument is an instruction in memory. -/
namespace Go.Proofs.YtohlifeenhaifaaGreatDoor
open Go.RowKit Go.Shelf
set_option linter.unusedVariables false
set_option linter.unusedSimpArgs false
attribute [local go_sem] Oper.semAt_some

theorem shapes_ok (op : Int) : okShape (shapeI op) = true := by
  unfold shapeI
  split
  · rename_i h
    have h2 : shapeL.all okShape = true := by kernel_rfl
    have hl : shapeL.length = 33 := by kernel_rfl
    have hk : op.toNat < shapeL.length := by omega
    have e : shapeB op.toNat = shapeL[op.toNat] := by simp [shapeB, List.getD, hk]
    rw [e]
    exact List.all_eq_true.1 h2 _ (List.getElem_mem hk)
  · rfl
/-- op.fields hands back a value that gives all fields, or as many as the loop's body asks for. -/
theorem fields_stops (m : Nat) (hm : 3 ≤ m) (Ro bI : Nat) (op a b c n : Int) (X : Value) (args : List Int) (w : World)
    (hbox : w.heap[bI]? = some (.cells (insCells op a b c n X) 28 (0, 0))) (hX : IsNums .i64 w w.heap.size X args)
    (hR : Ro < w.heap.size) {v : Value} (hv : w.cell? ⟨Ro, 0, none⟩ = some v) (hna : NoAddr v) (hbI : bI ≠ Ro) (hXR : ∀ ad len cap, X = .slice (some ad) len cap → 0 < len → ad.block ≠ Ro) :
    SeqStopsK Fence.wide m Tryz.prog 153 #[.pointer (some ⟨bI, 0, none⟩)] encF (KpO Ro) (fun ys => ys = itemsOf (shapeI op) a b c n args) (fun pre => pre <+: itemsOf (shapeI op) a b c n args) (itemsOf (shapeI op) a b c n args).length w := fun l J Jx W hW hJ hJx hY h0 => by
  have hlI := heap_lt hbox
  have hRo : W.cell? ⟨Ro, 0, none⟩ = w.cell? ⟨Ro, 0, none⟩ := hW.cell (p := ⟨Ro, 0, none⟩) hR
  exact fields1_in m hm l Ro bI op a b c n X args (shapeI op) (shapes_ok op) rfl J Jx W hJ hY ((hW.block bI hlI).trans hbox) ((hX.below hW (Nat.le_refl _)).more hW.size) (Nat.lt_of_lt_of_le hR hW.size)
    (fun g hg => inReach_num (hRo.trans hv) hna hg) hbI hXR h0
/-- The number of the first field of a letter, -1 where there is none. -/
def firstV (q : Int) (l : List (Int × Int)) : Int := match l.find? (fun x => x.1 == q) with | some x => x.2 | none => -1
theorem first_none {q : Int} {l : List (Int × Int)} (h : ∀ p ∈ l, p.1 ≠ q) : firstV q l = -1 := by
  have : l.find? (fun x => x.1 == q) = none := by
    rw [List.find?_eq_none]
    intro x hx
    simpa using h x hx
  simp [firstV, this]
theorem first_some {q : Int} {l ini : List (Int × Int)} {x : Int × Int} (hp : ini ++ [x] <+: l) (h : ∀ p ∈ ini, p.1 ≠ q) (hx : x.1 = q) : firstV q l = x.2 := by
  obtain ⟨t, rfl⟩ := hp
  have h1 : ini.find? (fun x => x.1 == q) = none := by
    rw [List.find?_eq_none]
    intro x hx
    simpa using h x hx
  simp [firstV, List.find?_append, h1, hx]
/-- A struct that is handed over: its cells, and Args in memory. -/
structure InsAt (w : World) (B : Nat) (op a b c n : Int) (X : Value) (args : List Int) : Prop where
  args : IsNums .i64 w B X args
theorem nums_block {K : IntKind} {w : World} {B : Nat} {X : Value} {xs : List Int} (h : IsNums K w B X xs) : ∀ ad len cap, X = .slice (some ad) len cap → 0 < len → ad.block < B := by
  intro ad len cap e hl
  rcases h.2 with ⟨h1, _⟩ | ⟨ad', cap', h1, _, h3, _⟩
  · rw [h1] at e; cases e
  · rw [h1] at e; cases e; exact h3 hl
theorem noAddr_int (K : IntKind) (z : Int) : NoAddr (.int K z) := fun a len cap e => by cases e
theorem noAddr_bool (z : Bool) : NoAddr (.bool z) := fun a len cap e => by cases e
theorem noAddr_nil : NoAddr (.slice none 0 0) := fun a len cap e => by cases e

end Go.Proofs.YtohlifeenhaifaaGreatDoor
