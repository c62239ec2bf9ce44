/- Lemmas of Code07A, Code07B, Code07C, Code07D, Code07E, each with its own remark. -/
import Derived.Test.YtohlifeenhaifaaGreatDoorS05
import Derived.Test.YtohlifeenhaifaaGreatDoorS01
import Derived.Test.YtohlifeenhaifaaGreatDoorS02
import Derived.StillTailTactics
import Derived.Deep.RegionHeld3
/- (Code07A) Layer 7: bytes that a call makes by append; the landed code.width, code.low, code.check. Contracts; no condition but that a size is one of a word's. -/
namespace Go.Proofs.YtohlifeenhaifaaGreatDoor
open Go.RowKit Go.Shelf
set_option linter.unusedVariables false
set_option linter.unusedSimpArgs false

/-- Bytes that a call makes by append. -/
structure OutB (w W : World) (V : Value) (xs : List Int) : Prop where
  own : Owns W w.heap.size 5 1 IsU8 V xs.length (xs.map (Value.int .u8))
  bel : Below w.heap.size w W
theorem OutB.nil {w W : World} (h : Below w.heap.size w W) : OutB w W (.slice none 0 0) [] := ⟨Owns.nil _ _ _ _ _, h⟩
theorem OutB.drew {w W : World} {V : Value} {xs : List Int} (h : OutB w W V xs) : OutB w W.drew V xs := ⟨h.own.drew, h.bel.drew⟩
theorem OutB.grow {w W W' : World} {V : Value} {xs : List Int} (h : OutB w W V xs) (hb : Below W.heap.size W W') : OutB w W' V xs :=
  ⟨h.own.below hb (Nat.le_refl _), h.bel.trans (hb.mono h.bel.size)⟩
theorem OutB.up {w0 w W : World} {V : Value} {xs : List Int} (h : OutB w W V xs) (hb : Below w0.heap.size w0 w) : OutB w0 W V xs :=
  ⟨h.own.base hb.size, hb.trans (h.bel.mono hb.size)⟩
theorem Owns.typed {w : World} {base : Nat} {e : TypeId} {size : Nat} {K : Value → Prop} {v : Value} {n : Nat} {xs : List Value} (h : Owns w base e size K v n xs) {g : Nat} (hg : v.ownBlock = some g) : ∃ cur, w.heap[g]? = some (.cells cur e (0, 0)) := by
  rcases h.1.2 with ⟨rfl, _⟩ | ⟨g', cap, cur, rfl, h1, h2, _⟩
  · simp [Value.ownBlock] at hg
  · simp [Value.ownBlock] at hg
    subst hg
    exact ⟨_, h2⟩
/-- A block of another kind is not the row's own. -/
theorem Owns.not_own {w : World} {base : Nat} {e : TypeId} {size : Nat} {K : Value → Prop} {v : Value} {n : Nat} {xs : List Value} (h : Owns w base e size K v n xs) {g : Nat} {o : Obj} (hg : w.heap[g]? = some o) (ho : ∀ cur, o ≠ .cells cur e (0, 0)) : some g ≠ v.ownBlock := by
  intro e'
  obtain ⟨cur, hc⟩ := h.typed e'.symm
  rw [hg] at hc
  exact ho cur (Option.some.inj hc)
theorem OutB.bytes {w W : World} {V : Value} {xs : List Int} (h : OutB w W V xs) (hx : ∀ x ∈ xs, 0 ≤ x ∧ x < 256) {B : Nat} (hB : W.heap.size ≤ B) : IsBytes W B V xs := IsBytes.of_owns h.own hx hB
/-- What is appended, at the operation. -/
theorem wpList_outB {w W : World} {ops : Array Oper} {rest : List Oper} {o : Oper} {a : Act} {Q : Exit → Act → World → Prop} (hgd : o.guard = none) (s x : Operand)
    (ho : o.op = .call { callee := .builtin .append, args := #[s, x], argTypes := #[22, 22] }) {V X : Value} {xs ys : List Int} {base : Nat} (hs : a.eval s = V) (hx : a.eval x = X) (h : OutB w W V xs)
    (hX : Owns W base 5 1 IsU8 X ys.length (ys.map (Value.int .u8))) (hy : ∀ y ∈ ys, 0 ≤ y ∧ y < 256) (hp : 0 < ys.length) (hl : xs.length + ys.length ≤ 1000000)
    (hK : ∀ V' W', OutB w W' V' (xs ++ ys) → (∀ i, i < W.heap.size → some i ≠ V.ownBlock → W'.heap[i]? = W.heap[i]?) → wpList Tryz.prog ops Q rest (a.put o.dst V') W') :
    wpList Tryz.prog ops Q (o :: rest) a W := by
  obtain ⟨i, hi, h1, h2, h3⟩ := info_parts u8_info
  rcases hX.1.2 with ⟨rfl, h0⟩ | ⟨g, cap, cur, rfl, e1, e2, e3, e4, e5, e6⟩
  · rw [h0] at hp; exact absurd hp (by simp)
  · refine wpList_append_q _ hgd s x 22 ho w.heap.size 5 i _ 1 1 Tryz.underlying22 hi h1 h2 h3 rfl (by decide) IsU8 zero_u8 V xs.length (xs.map (Value.int .u8)) hs h.own ⟨g, 0, none⟩ ys.length cap (ys.map (Value.int .u8)) hx (by simp) (fun j u hj => hX.1.cells (g := g) rfl j u hj) (by intro u hu; obtain ⟨z, _, rfl⟩ := List.mem_map.1 hu; rfl) (u8_cells hy) (by unfold maxLen; omega) (by omega) (by have := h.bel.size; omega) ?_
    intro V' W' ho' hg'
    exact hK V' W' ⟨by rw [List.length_append, List.map_append]; exact ho', h.bel.grown hg' h.bel.size fun j hj => (h.own.lt hj).1⟩ (fun i hi hn => hg'.block i hi hn)

theorem width7_any (q : Int) (w : World) : Calls Tryz.prog 152 #[.int .i32 q] w fun e w' => e = .returned (.int .i64 (widthV q)) ∧ w = w' := by
  by_cases h105 : q = 105
  · subst h105
    go_enter Tryz.func152, Tryz.ntmps152
    go_wp2
    go_ret
    exact ⟨rfl, rfl⟩
  by_cases h102 : q = 102
  · subst h102
    go_enter Tryz.func152, Tryz.ntmps152
    go_wp2
    go_ret
    exact ⟨rfl, rfl⟩
  by_cases h100 : q = 100
  · subst h100
    go_enter Tryz.func152, Tryz.ntmps152
    go_wp2
    go_ret
    exact ⟨rfl, rfl⟩
  by_cases h116 : q = 116
  · subst h116
    go_enter Tryz.func152, Tryz.ntmps152
    go_wp2
    go_ret
    exact ⟨rfl, rfl⟩
  have hw : widthV q = 1 := by unfold widthV; rw [if_neg h105, if_neg h102, if_neg h100, if_neg h116]
  rw [hw]
  have e105 : (q == 105) = false := by simpa using h105
  have e102 : (q == 102) = false := by simpa using h102
  have e100 : (q == 100) = false := by simpa using h100
  have e116 : (q == 116) = false := by simpa using h116
  clear h105 h102 h100 h116 hw
  go_enter Tryz.func152, Tryz.ntmps152
  go_wp2
  go_ret
  exact ⟨rfl, rfl⟩

theorem byteV_mod (n : Int) {k : Nat} (hk : k < 8) : byteV (n % 18446744073709551616) k = byteV n k := by
  have h := congrArg (fun l => l[k]?) (bytesV_mod n)
  simpa [bytesV, List.getElem?_map, List.getElem?_range hk] using h
theorem bytesV_mod' (n : Int) {s : Nat} (hs : s ≤ 8) : bytesV (n % 18446744073709551616) s = bytesV n s := by
  unfold bytesV
  apply List.map_congr_left
  intro k hk
  exact byteV_mod n (by have := List.mem_range.1 hk; omega)
def LowDone (w : World) (xs : List Int) (e : Ending) (w' : World) : Prop := ∃ v, e = .returned v ∧ OutB w w' v xs
theorem low_any (n : Int) (s : Nat) (w : World) (hs : sizedB s = true) : Calls Tryz.prog 151 #[.int .i64 n, .int .i64 s] w (LowDone w (bytesV n s)) := by
  have hs8 : s ≤ 8 := by rcases sized_cases hs with h | h | h | h <;> omega
  have hp := fun w => put_yes (IntKind.u64.wrap n) s w (by rw [IntKind.wrap_u64]; omega) (by rw [IntKind.wrap_u64]; omega) hs
  rw [show bytesV (IntKind.u64.wrap n) s = bytesV n s by rw [IntKind.wrap_u64, bytesV_mod' n hs8]] at hp
  have HP := Lib.hid hp
  clear hp hs hs8
  go_enter Tryz.func151, Tryz.ntmps151
  go_wp2_with (go_at_call 154; (with_reducible refine (HP.out _).mono ?_); rintro e w1 ⟨v, rfl, ho, hb⟩; have HO := Lib.hid (OutB.mk ho hb); clear ho hb)
  go_ret
  exact ⟨_, rfl, HO.out⟩
theorem check7_any (op a b c n : Int) (X : Value) (args : List Int) (w : World) (hX : IsNums .i64 w w.heap.size X args) :
    Calls Tryz.prog 142 #[.agg (insCells op a b c n X)] w (Makes w (.int .i64 (InsV.chk ⟨op, a, b, c, n, args⟩))) := by
  have hB0 : Below w.heap.size w (w.alloc (.cells (insCells op a b c n X) 28)) := (Below.refl _ w).alloc (Nat.le_refl _) _
  have HB0 := Lib.hid hB0
  have HC := Lib.hid (check_any op a b c n X args 64 4096 _ ((hX.below hB0 (Nat.le_refl _)).more hB0.size))
  obtain ⟨XA, Xc, rfl⟩ := hX.len
  obtain ⟨e0, he0⟩ : ∃ e0, e0 = InsV.chk ⟨op, a, b, c, n, args⟩ := ⟨_, rfl⟩
  have he1 : checkV op a b c n args 64 4096 = e0 := he0.symm
  rw [he1] at HC
  rw [← he0]
  clear hX hB0 he0 he1
  go_enter Tryz.func142, Tryz.ntmps142
  go_wp2_with (go_at_call 105; (with_reducible refine HC.out.mono ?_); rintro e w1 ⟨rfl, hb⟩; have HB1 := Lib.hid (HB0.out.trans (hb.mono HB0.out.size)); clear hb)
  go_ret
  exact ⟨rfl, HB1.out⟩
end Go.Proofs.YtohlifeenhaifaaGreatDoor

/- (Code07B) The landed code.written: the bytes of an instruction. Contract; no condition but that the list is short. -/
namespace Go.Proofs.YtohlifeenhaifaaGreatDoor
open Go.RowKit Go.Shelf
set_option linter.unusedVariables false
set_option linter.unusedSimpArgs false

structure WrAt (w wr : World) (b0 R T : Nat) (op a b c n : Int) (X : Value) (sh : ByteArray) (k : Nat) (V : Value) (xs : List Int) : Prop where
  box : wr.heap[b0]? = some (.cells (insCells op a b c n X) 28 (0, 0))
  row : wr.heap[R]? = some (.cells #[.int .i64 a, .int .i64 b, .int .i64 c] 3 (0, 0))
  it : wr.heap[T]? = some (.stringIter sh k)
  out : OutB w wr V xs
  low : w.heap.size ≤ T
section
variable {w wr : World} {b0 R T : Nat} {op a b c n : Int} {X : Value} {sh : ByteArray} {k : Nat} {V : Value} {xs : List Int}
theorem turn_block (k' : Nat) {i : Nat} (hi : i ≠ T) (hl : i < wr.heap.size) : (wr.iterAt T sh k').heap[i]? = wr.heap[i]? := (grown_iterAt wr T sh k').block i hl (by intro e; cases e; exact hi rfl)
theorem WrAt.turn (h : WrAt w wr b0 R T op a b c n X sh k V xs) (k' : Nat) : WrAt w (wr.iterAt T sh k') b0 R T op a b c n X sh k' V xs := by
  have hb := h.box
  have hr := h.row
  have hi := h.it
  refine ⟨?_, ?_, Lib.iterAt_heap _ _ _ _ _ hi, ⟨?_, ?_⟩, h.low⟩
  · rw [turn_block k' (by rintro rfl; rw [hb] at hi; cases hi) (heap_lt hb)]; exact hb
  · rw [turn_block k' (by rintro rfl; rw [hr] at hi; cases hi) (heap_lt hr)]; exact hr
  · refine h.out.own.of_blocks (fun g hg => turn_block k' ?_ (h.out.own.lt hg).2) (grown_iterAt wr T sh k').size
    rintro rfl
    exact h.out.own.not_own hi (fun cur e => by cases e) hg.symm
  · exact h.out.bel.grown (grown_iterAt wr T sh k') h.out.bel.size (fun j hj => by cases hj; exact h.low)
theorem WrAt.call {w1 : World} (h : WrAt w wr b0 R T op a b c n X sh k V xs) (hb : Below wr.heap.size wr w1) : WrAt w w1 b0 R T op a b c n X sh k V xs :=
  ⟨(hb.block _ (heap_lt h.box)).trans h.box, (hb.block _ (heap_lt h.row)).trans h.row, (hb.block _ (heap_lt h.it)).trans h.it, h.out.grow hb, h.low⟩
theorem WrAt.app {w1 : World} {V' : Value} {xs' : List Int} (h : WrAt w wr b0 R T op a b c n X sh k V xs) (ho : OutB w w1 V' xs') (hb : ∀ i, i < wr.heap.size → some i ≠ V.ownBlock → w1.heap[i]? = wr.heap[i]?) : WrAt w w1 b0 R T op a b c n X sh k V' xs' :=
  ⟨(hb _ (heap_lt h.box) (h.out.own.not_own h.box (fun cur e => by injection e with _ e _; exact absurd e (by decide)))).trans h.box,
   (hb _ (heap_lt h.row) (h.out.own.not_own h.row (fun cur e => by injection e with _ e _; exact absurd e (by decide)))).trans h.row,
   (hb _ (heap_lt h.it) (h.out.own.not_own h.it (fun cur e => by cases e))).trans h.it, ho, h.low⟩
end
theorem low_one (n : Int) (w : World) : Calls Tryz.prog 151 #[.int .i64 n, .int .i64 1] w (LowDone w (bytesV n 1)) := low_any n 1 w (by decide)
theorem bytes_len {op a b c n : Int} {args : List Int} (h8 : args.length ≤ 8) : (InsV.bytes ⟨op, a, b, c, n, args⟩).length ≤ 100 := by
  have h0 : (InsV.bytes ⟨op, a, b, c, n, args⟩).length = 1 + (putL n args (InsV.letters ⟨op, a, b, c, n, args⟩) [a, b, c]).length := by
    show (bytesV op 1 ++ putL n args (InsV.letters ⟨op, a, b, c, n, args⟩) [a, b, c]).length = _
    rw [List.length_append, bytesV_len]
  rw [h0]
  have h1 := putL_len (n := n) (args := args) (L := InsV.letters ⟨op, a, b, c, n, args⟩) (rs := [a, b, c])
  have h2 : (InsV.letters ⟨op, a, b, c, n, args⟩).length ≤ 3 := by
    have := shapes_small op
    simp [InsV.letters, lettersOf]
    exact this
  have h3 : (InsV.letters ⟨op, a, b, c, n, args⟩).length * (8 + args.length) ≤ 3 * 16 := Nat.mul_le_mul h2 (by omega)
  omega
set_option maxRecDepth 100000 in
set_option maxHeartbeats 8000000 in
theorem written_any (op a b c n : Int) (X : Value) (args : List Int) (w : World) (hX : IsNums .i64 w w.heap.size X args) (h8 : args.length ≤ 8) :
    Calls Tryz.prog 143 #[.agg (insCells op a b c n X)] w (LowDone w (InsV.bytes ⟨op, a, b, c, n, args⟩)) := by
  have hB0 : Below w.heap.size w (w.alloc (.cells (insCells op a b c n X) 28)) := (Below.refl _ w).alloc (Nat.le_refl _) _
  obtain ⟨sh, hsh⟩ : ∃ sh, sh = shapeI op := ⟨_, rfl⟩
  have HT := Lib.hid (bytes_len (op := op) (a := a) (b := b) (c := c) (n := n) h8)
  have hE : InsV.bytes ⟨op, a, b, c, n, args⟩ = bytesV op 1 ++ putL n args (lettersOf sh) [a, b, c] := by rw [hsh]; rfl
  have HL1 := Lib.hid (fun n W => low_one n W)
  have HS := Lib.hid (fun W => shape_any op W)
  have HSH := Lib.hid (show okShape sh = true by rw [hsh]; exact shapes_ok op)
  rw [← hsh] at HS
  obtain ⟨ys, hys⟩ : ∃ ys, ys = InsV.bytes ⟨op, a, b, c, n, args⟩ := ⟨_, rfl⟩
  rw [← hys] at HT hE ⊢
  have HE := Lib.hid hE
  obtain ⟨XA, Xc, hXe⟩ := hX.len
  subst hXe
  have HX := Lib.hid hX
  have hk0 := cells6 (heap_alloc_new w (.cells (insCells op a b c n (.slice XA args.length Xc)) 28))
  obtain ⟨c0, c1, c2, c3, c4, c5⟩ := hk0
  have HB0 := Lib.hid hB0
  have a8 : (args.length : Int) ≤ 8 := by omega
  clear hX hB0 hys hsh hE h8
  go_enter Tryz.func143, Tryz.ntmps143
  go_wp2_with (first
    | (go_at_call 151; (with_reducible refine (HL1.out _ _).mono ?_); rintro e w1 ⟨v1, rfl, ho⟩; have HO := Lib.hid (ho.up HB0.out); have hb := ho.bel; have hs1 := hb.size; have c1' := (hb.cell (p := ⟨w.heap.size, 0, none⟩) (by simp)).trans c0; have c2' := (hb.cell (p := ⟨w.heap.size, 1, none⟩) (by simp)).trans c1; have c3' := (hb.cell (p := ⟨w.heap.size, 2, none⟩) (by simp)).trans c2; have c4' := (hb.cell (p := ⟨w.heap.size, 3, none⟩) (by simp)).trans c3; have hbx := (hb.block w.heap.size (by simp)).trans (heap_alloc_new w _); have HBX := Lib.hid hbx; have HS1 := Lib.hid hs1; have c5' : (w1.alloc (.cells #[.int .i64 a, .int .i64 b, .int .i64 c] 3)).cell? ⟨w.heap.size, 0, none⟩ = some (.int .i64 op) := (Below.cell ((Below.refl w1.heap.size w1).alloc (Nat.le_refl _) _) (p := ⟨w.heap.size, 0, none⟩) (heap_lt hbx)).trans c1'; clear ho hb hs1 hbx)
    | (go_at_call 56; (with_reducible refine (HS.out _).mono ?_); rintro e w2 ⟨rfl, hb⟩; have B2 := Lib.hid hb; clear hb))
  obtain ⟨T, hT0⟩ : ∃ T, T = w2.heap.size := ⟨_, rfl⟩
  obtain ⟨w3, hw3⟩ : ∃ w3, w3 = w2.iter sh 0 := ⟨_, rfl⟩
  rw [← hw3, ← hT0]
  have s1 : (w1.alloc (.cells #[.int .i64 a, .int .i64 b, .int .i64 c] 3)).heap.size = w1.heap.size + 1 := by simp
  have s2 := B2.out.size
  have hb13 : Below w1.heap.size w1 w3 := by
    rw [hw3]
    exact (((Below.refl _ _).alloc (Nat.le_refl _) _).trans (B2.out.mono (by simp))).alloc (by omega) _
  have s0 := HS1.out
  simp only [World.size_alloc] at s0
  have hRow : w3.heap[w1.heap.size]? = some (.cells #[.int .i64 a, .int .i64 b, .int .i64 c] 3 (0, 0)) := by
    rw [hw3]
    refine (Below.heap_alloc w2 _ _ (by omega)).trans ((B2.out.block _ (by omega)).trans ?_)
    exact heap_alloc_new _ _
  have H3 : WrAt w w3 w.heap.size w1.heap.size T op a b c n (.slice XA args.length Xc) sh 0 v1 (bytesV op 1) :=
    ⟨(hb13.block _ (by omega)).trans HBX.out, hRow, by rw [hw3, hT0]; exact World.iter_heap _ _ _, HO.out.grow hb13, by omega⟩
  obtain ⟨R, hR⟩ : ∃ R, R = w1.heap.size := ⟨_, rfl⟩
  rw [← hR] at H3 ⊢
  have H3 := Lib.hid H3
  clear hR hRow s0 s1 s2 hb13 hw3 hT0 B2 HBX HO HS1 c1' c2' c3' c4' c5' c0 c1 c2 c3 c4 c5 HB0 HS w1 w2
  go_loopw [3, 4] (fun V r wr => ∃ (k j : Nat) (xs : List Int), k ≤ sh.size ∧ j + regN ((lettersOf sh).drop k) ≤ 3 ∧ ys = xs ++ putL n args ((lettersOf sh).drop k) ([a, b, c].drop j) ∧ RegS R j r ∧ Hid (WrAt w wr w.heap.size R T op a b c n (.slice XA args.length Xc) sh k V xs)) (fun _ _ wr => sh.size - wr.iterPos T)
  case atStart => exact ⟨0, 0, _, Nat.zero_le _, by simpa using okShape_reg HSH.out, HE.out, ⟨_, rfl, fun _ => rfl⟩, H3⟩
  case round =>
    obtain ⟨k, j, xs, hk, hj, hi, hr, HR⟩ := hrel
    clear H3 HE
    by_cases hlt : k < sh.size
    · have hq0 := okShape_lt HSH.out hlt
      have hnx0 : ∀ ty, (Instr.next (.pointer (some ⟨T, 0, none⟩)) true ty).run Tryz.prog wr = _ := fun ty => Lib.run_next_ascii_at wr T sh k ty HR.out.it hlt hq0
      have hdr := letters_drop sh hlt
      rw [hdr] at hi hj
      obtain ⟨q, hq⟩ : ∃ q : Int, q = (sh[k].toNat : Int) := ⟨_, rfl⟩
      rw [← hq] at hnx0 hi hj
      have hi2 : ys = (xs ++ heldB n args q ([a, b, c].drop j)) ++ putL n args ((lettersOf sh).drop (k + 1)) (restOf q ([a, b, c].drop j)) := by rw [hi]; simp [putL]
      have hlen : xs.length + (heldB n args q ([a, b, c].drop j)).length ≤ 100 := by
        have h1 := congrArg List.length hi2
        have h2 := HT.out
        simp only [List.length_append] at h1
        omega
      obtain ⟨w', hw'⟩ : ∃ w', w' = wr.iterAt T sh (k + 1) := ⟨_, rfl⟩
      have HP := Lib.hid (iterPos_of HR.out.it)
      have HR1 := Lib.hid (HR.out.turn (k + 1))
      rw [← hw'] at hnx0 HR1
      have hnx : ∀ ty, (Instr.next (.pointer (some ⟨T, 0, none⟩)) true ty).run Tryz.prog wr = .ok (.tuple #[.bool true, .int .i64 k, .int .i32 q]) w' := hnx0
      obtain ⟨d0, d1, d2, d3, d4, d5⟩ := cells6 HR1.out.box
      have hrow := HR1.out.row
      have e0 : w'.cell? ⟨R, 0, none⟩ = some (.int .i64 a) := by simp [World.cell?, hrow]
      have e1 : w'.cell? ⟨R, 1, none⟩ = some (.int .i64 b) := by simp [World.cell?, hrow]
      have e2 : w'.cell? ⟨R, 2, none⟩ = some (.int .i64 c) := by simp [World.cell?, hrow]
      have HX1 := Lib.hid ((HX.out.below HR1.out.out.bel (Nat.le_refl _)).more HR1.out.out.bel.size)
      have HI := Lib.hid hi2
      have HN0 := Lib.hid hj
      have HLn := Lib.hid hlen
      have HWd := Lib.hid (fun W => width7_any q W)
      clear hi hi2 hj hlen hnx0 hdr hw' hq hq0 hrow HR
      simp only [regN] at HN0
      by_cases hreg : isReg q = true
      · have hj3 : j < 3 := by have := HN0.out; simp only [hreg, if_true] at this; omega
        obtain ⟨A, rfl, hA⟩ := hr
        obtain rfl := hA hj3
        have hw1 : widthV q = 1 := reg_width hreg
        rw [hw1] at HWd
        have HN : Hid ((j + 1) + regN ((lettersOf sh).drop (k + 1)) ≤ 3) := by
          have h := HN0.out
          simp only [hreg, if_true] at h
          exact Lib.hid (by omega)
        have HI' : Hid (ys = (xs ++ bytesV (([a, b, c].drop j).headD 0) 1) ++ putL n args ((lettersOf sh).drop (k + 1)) ([a, b, c].drop (j + 1))) := by
          have h := HI.out
          simp only [heldB, restOf, hreg, if_true, List.tail_drop] at h
          exact Lib.hid h
        have HLn' : Hid (xs.length + 1 ≤ 100) := by
          have h := HLn.out
          simp only [heldB, hreg, if_true, bytesV_len] at h
          exact Lib.hid h
        clear HI HN0 HLn hA hw1
        have hregq : q = 119 ∨ q = 114 := of_decide_eq_true hreg
        clear hreg
        rcases hregq with rfl | rfl <;> rcases (show j = 0 ∨ j = 1 ∨ j = 2 by omega) with rfl | rfl | rfl
        all_goals
          simp only [Nat.sub_zero, Nat.reduceSub, Nat.zero_add] at HI' HN ⊢
          go_wp2_with (first
            | (go_at_call 152; (with_reducible refine (HWd.out _).mono ?_); rintro e w4 ⟨rfl, rfl⟩)
            | (go_at_call 151; (with_reducible refine (HL1.out _ _).mono ?_); rintro e w5 ⟨v5, rfl, ho⟩; have HO5 := Lib.hid ho; have HR5 := Lib.hid (HR1.out.call ho.bel); clear ho)
            | (at_builtin; refine wpList_outB rfl _ _ rfl rfl rfl HR5.out.out HO5.out.own (bytesV_bd _ _) (by rw [bytesV_len]; decide) (by rw [bytesV_len]; have := HLn'.out; omega) ?_; intro V6 w6 ho hb; have HR6 := Lib.hid (HR5.out.app ho hb); clear ho hb))
          go_roundw
          case rel => exact ⟨k + 1, _, _, hlt, HN.out, HI'.out, ⟨_, rfl, fun h => by first | rfl | omega⟩, HR6⟩
          case measure => rw [iterPos_of HR6.out.it, HP.out]; omega
      · have hq1 : ¬ (q = 119 ∨ q = 114) := fun h => hreg (decide_eq_true h)
        have g1 : (q == 119) = false := by simp; omega
        have g2 : (q == 114) = false := by simp; omega
        by_cases hq8 : q = 108
        · subst hq8
          have hc8 : heldB n args 108 ([a, b, c].drop j) = bytesV args.length 1 ++ args.flatMap (fun x => bytesV x 1) := by unfold heldB; rw [if_neg (by decide), if_pos rfl]
          have hr8 : restOf 108 ([a, b, c].drop j) = [a, b, c].drop j := by unfold restOf; rw [if_neg (by decide)]
          rw [hc8, hr8] at HI
          rw [hc8] at HLn
          have HN : Hid (j + regN ((lettersOf sh).drop (k + 1)) ≤ 3) := by
            have h := HN0.out
            rw [if_neg (by decide)] at h
            exact Lib.hid (by omega)
          rw [show widthV 108 = 1 from rfl] at HWd
          have HLn' : Hid (xs.length + (1 + args.length) ≤ 100) := by
            have h := HLn.out
            rw [List.length_append, bytesV_len, args_bytes, List.length_map] at h
            exact Lib.hid h
          clear HN0 HLn hc8 hr8 hreg hq1
          go_wp2_with (first
            | (go_at_call 152; (with_reducible refine (HWd.out _).mono ?_); rintro e w4 ⟨rfl, rfl⟩)
            | (go_at_call 151; (with_reducible refine (HL1.out _ _).mono ?_); rintro e w5 ⟨v5, rfl, ho⟩; have HO5 := Lib.hid ho; have HR5 := Lib.hid (HR1.out.call ho.bel); clear ho)
            | (at_builtin; refine wpList_outB rfl _ _ rfl rfl rfl HR5.out.out HO5.out.own (bytesV_bd _ _) (by rw [bytesV_len]; decide) (by rw [bytesV_len]; have := HLn'.out; omega) ?_; intro V6 w6 ho hb; have HR6 := Lib.hid (HR5.out.app ho hb); clear ho hb; obtain ⟨f0, f1, f2, f3, f4, f5⟩ := cells6 HR6.out.box))
          have HX6 := Lib.hid ((HX.out.below HR6.out.out.bel (Nat.le_refl _)).more HR6.out.out.bel.size)
          clear d0 d1 d2 d3 d4 d5 e0 e1 e2 f0 f1 f2 f3 f4 HR1 HX1 HO5 HR5 hnx
          go_loopw [3, 60] (fun V i wi => ∃ t : Nat, t ≤ args.length ∧ i = .int .i64 t ∧ Hid (WrAt w wi w.heap.size R T op a b c n (.slice XA args.length Xc) sh (k + 1) V (xs ++ bytesV args.length 1 ++ (args.take t).flatMap (fun x => bytesV x 1)))) (fun _ i _ => args.length - (intOf i).toNat)
          case atStart => exact ⟨0, by omega, rfl, by simpa using HR6⟩
          case round =>
            obtain ⟨t, ht, rfl, HRt⟩ := hrel
            by_cases hlt2 : t < args.length
            · obtain ⟨b', o', cap', hXe, hcp, _, hcl⟩ := HX.out.plain (by omega)
              cases hXe
              have hct := (HRt.out.out.bel.cell (p := ⟨b', o' + t, none⟩) (by
                have := HX.out
                rcases this.2 with ⟨h, _⟩ | ⟨ad, cap2, h, _, hb2, _⟩
                · cases h
                · cases h; exact hb2 (by omega))).trans (hcl t hlt2)
              have htk : (args.take (t + 1)).flatMap (fun x => bytesV x 1) = (args.take t).flatMap (fun x => bytesV x 1) ++ bytesV (args.getD t 0) 1 := by
                rw [take_snoc' hlt2, List.flatMap_append]
                simp
              have HTK := Lib.hid htk
              have hltI : (t : Int) < (args.length : Int) := by omega
              have HLt : Hid ((xs ++ bytesV args.length 1 ++ (args.take t).flatMap (fun x => bytesV x 1)).length + 1 ≤ 1000000) := Lib.hid (by
                rw [args_bytes, List.length_append, List.length_append, bytesV_len, List.length_map, List.length_take]
                have := HLn'.out
                omega)
              clear htk hcl hcp
              obtain ⟨z, hz⟩ : ∃ z, z = args.getD t 0 := ⟨_, rfl⟩
              rw [← hz] at hct HTK
              clear hz
              go_wp2_with (first
                | (go_at_call 151; (with_reducible refine (HL1.out _ _).mono ?_); rintro e w7 ⟨v7, rfl, ho⟩; have HO7 := Lib.hid ho; have HR7 := Lib.hid (HRt.out.call ho.bel); clear ho)
                | (at_builtin; refine wpList_outB rfl _ _ rfl rfl rfl HR7.out.out HO7.out.own (bytesV_bd _ _) (by rw [bytesV_len]; decide) (by rw [bytesV_len]; exact HLt.out) ?_; intro V8 w8 ho hb; have HR8 := Lib.hid (HR7.out.app ho hb); clear ho hb))
              go_roundw
              case rel => exact ⟨t + 1, by omega, by go_num, by rw [HTK.out, ← List.append_assoc]; exact HR8⟩
              case measure => simp [intOf]; omega
            · obtain rfl : t = args.length := by omega
              rw [List.take_length] at HRt
              go_wp2
              go_roundw
              case rel => exact ⟨k + 1, j, _, hlt, HN.out, HI.out, hr, by rw [List.append_assoc] at HRt; exact HRt⟩
              case measure => rw [iterPos_of HRt.out.it, HP.out]; omega
        · have g3 : (q == 108) = false := by simpa using hq8
          have hc8 : heldB n args q ([a, b, c].drop j) = bytesV n (widthV q) := by unfold heldB; rw [if_neg hreg, if_neg hq8]
          have hr8 : restOf q ([a, b, c].drop j) = [a, b, c].drop j := by unfold restOf; rw [if_neg hreg]
          rw [hc8, hr8] at HI
          rw [hc8, bytesV_len] at HLn
          have HN : Hid (j + regN ((lettersOf sh).drop (k + 1)) ≤ 3) := by
            have h := HN0.out
            rw [if_neg hreg] at h
            exact Lib.hid (by omega)
          have HLq := Lib.hid (fun W => low_any n (widthV q) W (width_sized q))
          have HW1 := Lib.hid (width_le q).1
          generalize widthV q = s at HI HLn HWd HLq HW1
          clear HN0 hc8 hr8 hreg hq1 hq8
          go_wp2_with (first
            | (go_at_call 152; (with_reducible refine (HWd.out _).mono ?_); rintro e w4 ⟨rfl, rfl⟩)
            | (go_at_call 151; (with_reducible refine (HLq.out _).mono ?_); rintro e w5 ⟨v5, rfl, ho⟩; have HO5 := Lib.hid ho; have HR5 := Lib.hid (HR1.out.call ho.bel); clear ho)
            | (at_builtin; refine wpList_outB rfl _ _ rfl rfl rfl HR5.out.out HO5.out.own (bytesV_bd _ _) (by rw [bytesV_len]; exact HW1.out) (by rw [bytesV_len]; have := HLn.out; omega) ?_; intro V6 w6 ho hb; have HR6 := Lib.hid (HR5.out.app ho hb); clear ho hb))
          go_roundw
          case rel => exact ⟨k + 1, j, _, hlt, HN.out, HI.out, hr, HR6⟩
          case measure => rw [iterPos_of HR6.out.it, HP.out]; omega
    · obtain rfl : k = sh.size := by omega
      have hnx : ∀ ty, (Instr.next (.pointer (some ⟨T, 0, none⟩)) true ty).run Tryz.prog wr = .ok (.tuple #[.bool false]) wr := fun ty => Lib.run_next_end_at wr T sh sh.size ty HR.out.it (by omega)
      rw [letters_end] at hi
      have HI : Hid (ys = xs) := Lib.hid (by rw [hi]; first | done | simp [putL])
      clear hi hj
      go_wp2
      go_ret
      exact ⟨_, rfl, by rw [HI.out]; exact HR.out.out⟩
end Go.Proofs.YtohlifeenhaifaaGreatDoor

/- (Code07C) The landed code.Put and code.Length: the bytes of an instruction that can be put, and how many. Contracts; no condition but that the argument is an instruction in memory. -/
namespace Go.Proofs.YtohlifeenhaifaaGreatDoor
open Go.RowKit Go.Shelf
set_option linter.unusedVariables false
set_option linter.unusedSimpArgs false

/-- What Put ends with. -/
def PutI (w : World) (y : InsV) (e : Ending) (w' : World) : Prop :=
  (y.chk ≠ 0 ∧ e = .returned (.tuple #[.slice none 0 0, .int .i64 y.chk]) ∧ Below w.heap.size w w') ∨
  (y.chk = 0 ∧ ∃ v, e = .returned (.tuple #[v, .int .i64 0]) ∧ OutB w w' v y.bytes)
theorem puti_good {w w' : World} {y : InsV} {v : Value} (h : y.chk = 0) (ho : OutB w w' v y.bytes) : PutI w y (.returned (.tuple #[v, .int .i64 0])) w' := .inr ⟨h, _, rfl, ho⟩
theorem puti_bad {w w' : World} {y : InsV} {e0 : Int} (h : y.chk = e0) (h0 : e0 ≠ 0) (hb : Below w.heap.size w w') : PutI w y (.returned (.tuple #[.slice none 0 0, .int .i64 e0])) w' := .inl ⟨by rw [h]; exact h0, by rw [h], hb⟩
set_option maxHeartbeats 2000000 in
theorem put7_any (op a b c n : Int) (X : Value) (args : List Int) (w : World) (hX : IsNums .i64 w w.heap.size X args) :
    Calls Tryz.prog 121 #[.agg (insCells op a b c n X)] w (PutI w ⟨op, a, b, c, n, args⟩) := by
  have hB0 : Below w.heap.size w (w.alloc (.cells (insCells op a b c n X) 28)) := (Below.refl _ w).alloc (Nat.le_refl _) _
  have hX0 := (hX.below hB0 (Nat.le_refl _)).more hB0.size
  have HC := Lib.hid (check7_any op a b c n X args _ hX0)
  have HWr := Lib.hid (fun (h8 : args.length ≤ 8) W (hb : Below w.heap.size w W) => written_any op a b c n X args W ((hX.below hb (Nat.le_refl _)).more hb.size) h8)
  have HB0 := Lib.hid hB0
  obtain ⟨XA, Xc, rfl⟩ := hX.len
  have hk0 := heap_alloc_new w (.cells (insCells op a b c n (.slice XA args.length Xc)) 28)
  have HK0 := Lib.hid hk0
  by_cases h0 : InsV.chk ⟨op, a, b, c, n, args⟩ = 0
  · have h8 := (chk_ok h0).args
    have HWr := Lib.hid (HWr.out h8)
    have HH := Lib.hid h0
    rw [h0] at HC
    obtain ⟨c0, c1, c2, c3, c4, c5⟩ := cells6 hk0
    clear h0 h8 hX hX0 hB0 hk0
    go_enter Tryz.func121, Tryz.ntmps121
    go_wp2_with (first
      | (go_at_call 142; (with_reducible refine HC.out.mono ?_); rintro e w1 ⟨rfl, hb⟩; have HB1 := Lib.hid (HB0.out.trans (hb.mono HB0.out.size)); have hk1 := (hb.block w.heap.size (by simp)).trans HK0.out; obtain ⟨d0, d1, d2, d3, d4, d5⟩ := cells6 hk1; clear hb hk1)
      | (go_at_call 143; (with_reducible refine (HWr.out _ HB1.out).mono ?_); rintro e w2 ⟨v, rfl, ho⟩; have HO := Lib.hid (ho.up HB1.out); clear ho))
    go_ret2
    exact puti_good HH.out HO.out
  · obtain ⟨e0, he0⟩ : ∃ e0, e0 = InsV.chk ⟨op, a, b, c, n, args⟩ := ⟨_, rfl⟩
    have HE := Lib.hid he0.symm
    rw [← he0] at HC h0
    have HH := Lib.hid h0
    have hne : (e0 != 0) = true := by simpa using h0
    obtain ⟨c0, c1, c2, c3, c4, c5⟩ := cells6 hk0
    clear h0 hX hX0 hB0 hk0 HWr he0
    go_enter Tryz.func121, Tryz.ntmps121
    go_wp2_with (go_at_call 142; (with_reducible refine HC.out.mono ?_); rintro e w1 ⟨rfl, hb⟩; have HB1 := Lib.hid (HB0.out.trans (hb.mono HB0.out.size)); clear hb)
    go_ret2
    exact puti_bad HE.out HH.out HB1.out
def lenV (y : InsV) : Nat := if y.chk = 0 then y.bytes.length else 0
theorem owns_len {w : World} {base : Nat} {e : TypeId} {size : Nat} {K : Value → Prop} {v : Value} {n : Nat} {xs : List Value} (h : Owns w base e size K v n xs) : ∃ A cap, v = .slice A n cap := by
  rcases h.1.2 with ⟨rfl, h0⟩ | ⟨g, cap, cur, rfl, _⟩
  · subst h0; exact ⟨_, _, rfl⟩
  · exact ⟨_, _, rfl⟩
theorem puti_len {w0 w w1 : World} {y : InsV} {e : Ending} (hb0 : Below w0.heap.size w0 w) (h : PutI w y e w1) : ∃ A1 L1 c1' e1, e = .returned (.tuple #[.slice A1 (L1 : Nat) c1', .int .i64 e1]) ∧ Hid (L1 = lenV y ∧ Below w0.heap.size w0 w1) := by
  rcases h with ⟨h0, rfl, hb⟩ | ⟨h0, v, rfl, ho⟩
  · exact ⟨none, 0, 0, _, rfl, Lib.hid ⟨by unfold lenV; rw [if_neg h0], hb0.trans (hb.mono hb0.size)⟩⟩
  · obtain ⟨A, cap, rfl⟩ := owns_len ho.own
    exact ⟨A, _, cap, 0, rfl, Lib.hid ⟨by unfold lenV; rw [if_pos h0], hb0.trans (ho.bel.mono hb0.size)⟩⟩
end Go.Proofs.YtohlifeenhaifaaGreatDoor

/- (Code07D) The landed code's input: (*input).number and (*input).list. Contracts; no condition but that the input's place is within its bytes. -/
namespace Go.Proofs.YtohlifeenhaifaaGreatDoor
open Go.RowKit Go.Shelf
set_option linter.unusedVariables false
set_option linter.unusedSimpArgs false

section
variable {w w' : World} {nb B : Nat} {X : Value} {p : Nat} {b : List Int}
end
theorem quiet_same7 {P : Program} {f : FuncId} {args : Array Value} {w : World} {n : Nat} {v : Value} (h : Calls P f args (w.drewN n) fun e w' => e = .returned v ∧ w.drewN n = w') :
    Calls P f args (w.drewN n) fun e w'' => e = .returned v ∧ ∃ m, w'' = w.drewN m := h.mono fun _ _ ⟨he, hm⟩ => ⟨he, n, hm.symm⟩
theorem wrap_same (x : Int) : wrapI x = wrap64 x := by unfold wrapI wrap64; rw [IntKind.wrap_i64]
theorem getV_num {xs : List Int} (h : sizedB xs.length = true) : getV xs = numV xs ∧ getE xs = 0 := by
  have : ¬ 8 < xs.length := by rcases sized_cases h with h | h | h | h <;> omega
  unfold getV getE
  rw [if_neg this, if_pos h, if_neg this, if_pos h]
  exact ⟨rfl, rfl⟩
theorem bytes_part {w : World} {B : Nat} {g off cap : Nat} {b : List Int} (h : IsBytes w B (.slice (some ⟨g, off, none⟩) b.length cap) b) (hp : ∀ i, i < b.length → w.cell? ⟨g, off + i, none⟩ = some (.int .u8 (b.getD i 0))) (hg : g < B) {p s : Nat} (hs : p + s ≤ b.length) {cap' : Nat} (hc : s ≤ cap') :
    IsBytes w B (.slice (some ⟨g, off + p, none⟩) s cap') ((b.drop p).take s) := by
  have hl : ((b.drop p).take s).length = s := part_len hs
  refine ⟨fun x hx => h.1 x (List.mem_of_mem_drop (List.mem_of_mem_take hx)), by have := h.2.1; omega, .inr ⟨⟨g, off + p, none⟩, cap', by rw [hl], by omega, fun _ => hg, fun i hi => ?_⟩⟩
  rw [hl] at hi
  have e : (⟨g, off + p, none⟩ : Addr).add i = ⟨g, off + (p + i), none⟩ := by unfold Addr.add; split <;> simp_all [Nat.add_assoc]
  rw [e, hp (p + i) (by omega)]
  simp [List.getD, hi]
end Go.Proofs.YtohlifeenhaifaaGreatDoor

/- (Code07E) The landed (*input).list: so many registers. Contract; no condition but that the input's place is within its bytes. -/
namespace Go.Proofs.YtohlifeenhaifaaGreatDoor
open Go.RowKit Go.Shelf
set_option linter.unusedVariables false
set_option linter.unusedSimpArgs false

theorem But.then_below {R : Nat → Prop} {B : Nat} {a b c : World} (h : But R a b) (hb : Below B b c) (hB : a.heap.size ≤ B) : But R a c :=
  ⟨hb.os.trans h.os, hb.tape.trans h.tape, hb.output.trans h.output, Nat.le_trans h.size hb.size, fun k hk hn => (hb.block k (Nat.lt_of_lt_of_le hk hB)).trans (h.block k hk hn)⟩
/-- Numbers in a row of the call's own. -/
abbrev OutN (base : Nat) (W : World) (V : Value) (xs : List Int) : Prop := Owns W base 3 1 (IsNum .i64) V xs.length (xs.map (Value.int .i64))
theorem wpList_outN {W : World} {ops : Array Oper} {rest : List Oper} {o : Oper} {a : Act} {Q : Exit → Act → World → Prop} (hgd : o.guard = none) (s x : Operand)
    (ho : o.op = .call { callee := .builtin .append, args := #[s, x], argTypes := #[26, 26] }) {V : Value} {xs : List Int} {z : Int} {base : Nat} (hs : a.eval s = V) (hx : a.eval x = .slice (some ⟨W.heap.size, 0, none⟩) 1 1) (h : OutN base W V xs)
    (hb : base ≤ W.heap.size) (hl : xs.length ≤ 1000000)
    (hK : ∀ V' W', OutN base W' V' (xs ++ [z]) → Below base W W' → (∀ i, i < W.heap.size → some i ≠ V.ownBlock → W'.heap[i]? = W.heap[i]?) → wpList Tryz.prog ops Q rest (a.put o.dst V') W') :
    wpList Tryz.prog ops Q (o :: rest) a (W.alloc (.cells #[.int .i64 z] 3)) := by
  obtain ⟨i, hi, h1, h2, h3⟩ := info_parts int_info
  have ha : Below W.heap.size W (W.alloc (.cells #[.int .i64 z] 3)) := (Below.refl W.heap.size W).alloc (Nat.le_refl _) (.cells #[.int .i64 z] 3)
  have hg := Owns.below h ha (Nat.le_refl _)
  refine wpList_append_q _ hgd s x 26 ho base 3 i _ 1 8 Tryz.underlying26 hi h1 h2 h3 rfl (by decide) (IsNum .i64) (zero_num .i64) V xs.length (xs.map (Value.int .i64)) hs hg ⟨W.heap.size, 0, none⟩ 1 1 [.int .i64 z] hx rfl (news_one _ _ _) (by intro u hu; simp at hu; subst hu; rfl) (by intro u hu; simp at hu; subst hu; exact ⟨_, rfl⟩) (by unfold maxLen; omega) (by omega) (by simp; omega) ?_
  intro V' W' ho' hg'
  have e : World.grownBy (W.alloc (.cells #[.int .i64 z] 3)) W' V.ownBlock := hg'
  refine hK V' W' (by rw [OutN, List.length_append, List.map_append]; exact ho') ((ha.mono hb).grown e (by simp; omega) fun j hj => (h.lt hj).1) (fun i hi hn => (e.block i (by simp; omega) hn).trans (ha.block i hi))

theorem num_one {b : List Int} (hb : ∀ x ∈ b, 0 ≤ x ∧ x < 256) {p : Nat} (h : p + 1 ≤ b.length) : wrapI (numV ((b.drop p).take 1)) = b.getD p 0 := by
  have hx := hb _ (getD_mem (show p < b.length by omega))
  rw [show (b.drop p).take 1 = [b.getD p 0] from by rw [getD_cons (by omega)]; simp, numV_one, wrap_same]
  unfold wrap64
  omega
theorem out_append {b : List Int} {p t : Nat} (h : p + t + 1 ≤ b.length) : (b.drop p).take (t + 1) = (b.drop p).take t ++ [b.getD (p + t) 0] := by
  rw [take_snoc' (by simp; omega)]
  simp [List.getD]
end Go.Proofs.YtohlifeenhaifaaGreatDoor
