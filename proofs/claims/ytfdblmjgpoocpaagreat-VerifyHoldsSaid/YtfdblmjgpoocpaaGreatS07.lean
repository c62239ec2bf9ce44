/- Lemmas of Code07F, Code07G, each with its own remark. -/
import Derived.Test.YtfdblmjgpoocpaaGreatS06
/- (Code07F) The landed (*input).fields: the fields of an instruction. Contract; no condition but that the input's place is within its bytes. -/
namespace Go.Proofs.YtfdblmjgpoocpaaGreat
open Go.RowKit Go.Shelf
set_option linter.unusedVariables false
set_option linter.unusedSimpArgs false

def TwoBlocks (a b : Nat) : Nat → Prop := fun k => k = a ∨ k = b
structure FldI (w wr : World) (nb B ib R T : Nat) (op : Int) (X : Value) (b : List Int) (sh : ByteArray) (k p : Nat) (a1 a2 a3 n : Int) (V : Value) (args : List Int) : Prop where
  inp : InpAt wr nb B X p b
  box : wr.heap[ib]? = some (.cells (insCells op a1 a2 a3 n V) 37 (0, 0))
  row : wr.heap[R]? = some (.cells #[.pointer (some ⟨ib, 1, none⟩), .pointer (some ⟨ib, 2, none⟩), .pointer (some ⟨ib, 3, none⟩)] 99 (0, 0))
  it : wr.heap[T]? = some (.stringIter sh k)
  own : OutN w.heap.size wr V args
  but : But (TwoBlocks nb ib) w wr
  lowR : w.heap.size ≤ R
  lowT : w.heap.size ≤ T
  lowi : B ≤ ib
  ibw : ib < w.heap.size
  nbw : nb < w.heap.size
section
variable {w wr : World} {nb B ib R T : Nat} {op : Int} {X : Value} {b : List Int} {sh : ByteArray} {k p : Nat} {a1 a2 a3 n : Int} {V : Value} {args : List Int}
theorem FldI.ne (h : FldI w wr nb B ib R T op X b sh k p a1 a2 a3 n V args) : nb ≠ ib ∧ R ≠ T ∧ nb < R ∧ ib < R ∧ nb < T ∧ ib < T := by
  have h1 := h.inp.blk
  have h2 := h.box
  have h3 := h.row
  have h4 := h.it
  have := h.lowR
  have := h.lowT
  have := h.ibw
  have := h.nbw
  refine ⟨?_, ?_, by omega, by omega, by omega, by omega⟩
  · rintro rfl
    rw [h1] at h2
    injection h2 with h2
    injection h2 with _ h2 _
    exact absurd h2 (by decide)
  · rintro rfl
    rw [h3] at h4
    injection h4 with h4
    cases h4
theorem FldI.turn (h : FldI w wr nb B ib R T op X b sh k p a1 a2 a3 n V args) (k' : Nat) : FldI w (wr.iterAt T sh k') nb B ib R T op X b sh k' p a1 a2 a3 n V args := by
  obtain ⟨n1, n2, n3, n4, n5, n6⟩ := h.ne
  have hg := grown_iterAt wr T sh k'
  have hT := h.lowT
  have hbt : But (OneBlock T) wr (wr.iterAt T sh k') := ⟨hg.os, hg.tape, hg.output, hg.size, fun i hi hn => hg.block i hi (by intro e; cases e; exact hn rfl)⟩
  refine ⟨h.inp.but hbt (show ¬ nb = T by omega) (fun i hi e => by have e' : i = T := e; have := h.inp.low; omega), hbt.heap h.box (show ¬ ib = T by omega), hbt.heap h.row (show ¬ R = T by omega), Lib.iterAt_heap _ _ _ _ _ h.it, Owns.but h.own hbt (fun g hg' e => ?_), ?_, h.lowR, h.lowT, h.lowi, h.ibw, h.nbw⟩
  · have e' : g = T := e
    subst e'
    exact h.own.not_own h.it (fun cur e => by cases e) hg'.symm
  · exact ⟨hbt.os.trans h.but.os, hbt.tape.trans h.but.tape, hbt.output.trans h.but.output, Nat.le_trans h.but.size hbt.size, fun i hi hn => (hbt.block i (Nat.lt_of_lt_of_le hi h.but.size) (show ¬ i = T by omega)).trans (h.but.block i hi hn)⟩
theorem FldI.num {w1 : World} {p' : Nat} (h : FldI w wr nb B ib R T op X b sh k p a1 a2 a3 n V args) (hi : InpAt w1 nb B X p' b) (hb : But (OneBlock nb) wr w1) : FldI w w1 nb B ib R T op X b sh k p' a1 a2 a3 n V args := by
  obtain ⟨n1, n2, n3, n4, n5, n6⟩ := h.ne
  refine ⟨hi, hb.heap h.box (show ¬ ib = nb by omega), hb.heap h.row (show ¬ R = nb by omega), hb.heap h.it (show ¬ T = nb by omega), Owns.but h.own hb (fun g hg' e => ?_), h.but.trans (hb.mono fun i hi => .inl hi), h.lowR, h.lowT, h.lowi, h.ibw, h.nbw⟩
  have e' : g = nb := e
  have := (h.own.lt hg').1
  have := h.nbw
  omega
theorem FldI.drew (h : FldI w wr nb B ib R T op X b sh k p a1 a2 a3 n V args) : FldI w wr.drew nb B ib R T op X b sh k p a1 a2 a3 n V args :=
  ⟨h.inp.drewN 1, h.box, h.row, h.it, Owns.drew h.own, h.but.drew, h.lowR, h.lowT, h.lowi, h.ibw, h.nbw⟩
theorem FldI.set (h : FldI w wr nb B ib R T op X b sh k p a1 a2 a3 n V args) {j : Nat} {v : Value} {b1 b2 b3 m : Int} {V' : Value} {args' : List Int} (hc : (insCells op a1 a2 a3 n V).setIfInBounds j v = insCells op b1 b2 b3 m V')
    (ho : OutN w.heap.size wr V' args') : FldI w (wr.setCell ⟨ib, j, none⟩ v) nb B ib R T op X b sh k p b1 b2 b3 m V' args' := by
  obtain ⟨n1, n2, n3, n4, n5, n6⟩ := h.ne
  have hb : But (OneBlock ib) wr (wr.setCell ⟨ib, j, none⟩ v) := (But.refl (OneBlock ib) wr).setCell (p := ⟨ib, j, none⟩) (.inl rfl) _
  refine ⟨h.inp.but hb (show ¬ nb = ib by omega) (fun i hi e => by have e' : i = ib := e; have := h.lowi; omega), ?_, hb.heap h.row (show ¬ R = ib by omega), hb.heap h.it (show ¬ T = ib by omega), Owns.but ho hb (fun g hg' e => ?_), h.but.trans (hb.mono fun i hi => .inr hi), h.lowR, h.lowT, h.lowi, h.ibw, h.nbw⟩
  · have := heap_setCell_same wr ib j _ _ v h.box
    rw [hc] at this
    exact this
  · have e' : g = ib := e
    have := (ho.lt hg').1
    have := h.ibw
    omega
end
/-- The registers' places that are left. -/
def RegP (R j : Nat) (r : Value) : Prop := ∃ A, r = .slice A (3 - j) (3 - j) ∧ (j < 3 → A = some ⟨R, j, none⟩)
def FieldsDone (w : World) (nb B ib : Nat) (op : Int) (X : Value) (b : List Int) (r : Int × RdV) (e : Ending) (w' : World) : Prop :=
  But (TwoBlocks nb ib) w w' ∧ (∃ p', InpAt w' nb B X p' b ∧ (r.1 = 0 → p' = r.2.pos)) ∧ e = .returned (.int .i64 r.1) ∧
  (r.1 = 0 → ∃ V, w'.heap[ib]? = some (.cells (insCells op (r.2.rs.getD 0 0) (r.2.rs.getD 1 0) (r.2.rs.getD 2 0) r.2.n V) 37 (0, 0)) ∧ OutN w.heap.size w' V r.2.args)
theorem fields_bad {w w' : World} {nb B ib p' : Nat} {op : Int} {X : Value} {b : List Int} {r : Int × RdV} {z : Int} (hr : r.1 = z) (hz : z ≠ 0) (hb : But (TwoBlocks nb ib) w w') (hi : InpAt w' nb B X p' b) : FieldsDone w nb B ib op X b r (.returned (.int .i64 z)) w' :=
  ⟨hb, ⟨p', hi, fun h => absurd (hr.symm.trans h) hz⟩, by rw [hr], fun h => absurd (hr.symm.trans h) hz⟩
theorem fields_good {w w' : World} {nb B ib : Nat} {op : Int} {X : Value} {b : List Int} {r : Int × RdV} {s : RdV} {V : Value} (hr : r = (0, s)) (hb : But (TwoBlocks nb ib) w w') (hi : InpAt w' nb B X s.pos b)
    (hx : w'.heap[ib]? = some (.cells (insCells op (s.rs.getD 0 0) (s.rs.getD 1 0) (s.rs.getD 2 0) s.n V) 37 (0, 0))) (ho : OutN w.heap.size w' V s.args) : FieldsDone w nb B ib op X b r (.returned (.int .i64 0)) w' := by
  subst hr
  exact ⟨hb, ⟨_, hi, fun _ => rfl⟩, rfl, fun _ => ⟨V, hx, ho⟩⟩
theorem numin_noS (nb B p s : Nat) (X : Value) (b : List Int) (w : World) (h : InpAt w nb B X p b) (hp : p ≤ b.length) (hs : sizedB s = true) (hl : b.length < p + s) :
    Calls Tryz.prog 137 #[.pointer (some ⟨nb, 0, none⟩), .int .i64 s] w fun e w' => e = .returned (.tuple #[.int .i64 0, .int .i64 4]) ∧ InpAt w' nb B X p b ∧ But (OneBlock nb) w w' := by
  refine (numin_any nb B p s X b w h hp hs).mono ?_
  rintro e w' (⟨_, rfl, hi, hb⟩ | ⟨hf, _⟩)
  · exact ⟨rfl, hi, hb⟩
  · omega
theorem numin_yesS (nb B p s : Nat) (X : Value) (b : List Int) (w : World) (h : InpAt w nb B X p b) (hs : sizedB s = true) (hl : p + s ≤ b.length) :
    Calls Tryz.prog 137 #[.pointer (some ⟨nb, 0, none⟩), .int .i64 s] w fun e w' => e = .returned (.tuple #[.int .i64 (wrapI (numV ((b.drop p).take s))), .int .i64 0]) ∧ InpAt w' nb B X (p + s) b ∧ But (OneBlock nb) w w' := by
  refine (numin_any nb B p s X b w h (by omega) hs).mono ?_
  rintro e w' (⟨hf, _⟩ | ⟨_, rfl, hi, hb⟩)
  · omega
  · exact ⟨rfl, hi, hb⟩
theorem readQ_reg_no {b : List Int} {q : Int} {s : RdV} (hq : isReg q = true) (h : b.length < s.pos + 1) : readQ b q s = (4, s) := by
  unfold readQ
  rw [if_neg (by rintro rfl; simp [isReg] at hq), reg_width hq, if_pos h]
theorem readQ_reg_yes {b : List Int} {q : Int} {s : RdV} (hq : isReg q = true) (h : s.pos + 1 ≤ b.length) : readQ b q s = (0, ⟨s.pos + 1, s.rs ++ [b.getD s.pos 0], s.n, s.args⟩) := by
  unfold readQ
  rw [if_neg (by rintro rfl; simp [isReg] at hq), reg_width hq, if_neg (by omega), if_pos hq, show (b.drop s.pos).take 1 = [b.getD s.pos 0] from by rw [getD_cons (by omega)]; simp, numV_one]
theorem readQ_num_no {b : List Int} {q : Int} {s : RdV} (hq : isReg q = false) (h8 : q ≠ 108) (h : b.length < s.pos + widthV q) : readQ b q s = (4, s) := by
  unfold readQ
  rw [if_neg h8, if_pos h]
theorem readQ_num_yes {b : List Int} {q : Int} {s : RdV} (hq : isReg q = false) (h8 : q ≠ 108) (h : s.pos + widthV q ≤ b.length) : readQ b q s = (0, ⟨s.pos + widthV q, s.rs, wrapI (numV ((b.drop s.pos).take (widthV q))), s.args⟩) := by
  unfold readQ
  rw [if_neg h8, if_neg (by omega), if_neg (by simp [hq])]
theorem list_cases (nb B : Nat) (X : Value) (b : List Int) (w : World) (s : RdV) (h : InpAt w nb B X s.pos b) (hp : s.pos ≤ b.length) :
    (∃ z : Int, z ≠ 0 ∧ readQ b 108 s = (z, s) ∧ Calls Tryz.prog 147 #[.pointer (some ⟨nb, 0, none⟩), .int .i64 1] w fun e w' => e = .returned (.tuple #[.slice none 0 0, .int .i64 z]) ∧ But (OneBlock nb) w w' ∧ ∃ p', InpAt w' nb B X p' b) ∨
    (∃ p' args, readQ b 108 s = (0, ⟨p', s.rs, s.n, args⟩) ∧ p' ≤ b.length ∧ Calls Tryz.prog 147 #[.pointer (some ⟨nb, 0, none⟩), .int .i64 1] w fun e w' => ∃ V, e = .returned (.tuple #[V, .int .i64 0]) ∧ But (OneBlock nb) w w' ∧ InpAt w' nb B X p' b ∧ OutN w.heap.size w' V args) := by
  have hL := list7_any nb B s.pos X b w h hp
  unfold readQ
  rw [if_pos rfl]
  by_cases h1 : b.length < s.pos + 1
  · rw [if_pos h1]
    refine .inl ⟨4, by decide, rfl, hL.mono ?_⟩
    rintro e w' ⟨hb, p', hi, ⟨_, rfl⟩ | ⟨⟨hf, _⟩, _⟩ | ⟨⟨hf, _⟩, _⟩⟩
    · exact ⟨rfl, hb, p', hi⟩
    · omega
    · omega
  rw [if_neg h1]
  by_cases h2 : 8 < b.getD s.pos 0
  · rw [if_pos h2]
    refine .inl ⟨3, by decide, rfl, hL.mono ?_⟩
    rintro e w' ⟨hb, p', hi, ⟨hf | ⟨_, hf, _⟩, rfl⟩ | ⟨⟨hf, _⟩, rfl⟩ | ⟨⟨_, hf, _⟩, _⟩⟩
    · omega
    · omega
    · exact ⟨rfl, hb, p', hi⟩
    · omega
  rw [if_neg h2]
  by_cases h3 : b.length < s.pos + 1 + (b.getD s.pos 0).toNat
  · rw [if_pos h3]
    refine .inl ⟨4, by decide, rfl, hL.mono ?_⟩
    rintro e w' ⟨hb, p', hi, ⟨_, rfl⟩ | ⟨⟨_, hf⟩, _⟩ | ⟨⟨_, _, hf, _⟩, _⟩⟩
    · exact ⟨rfl, hb, p', hi⟩
    · omega
    · omega
  rw [if_neg h3]
  refine .inr ⟨_, _, rfl, by omega, hL.mono ?_⟩
  rintro e w' ⟨hb, p', hi, ⟨hf | ⟨_, _, hf⟩, _⟩ | ⟨⟨_, hf⟩, _⟩ | ⟨⟨_, _, _, rfl⟩, V, rfl, ho⟩⟩
  · omega
  · omega
  · omega
  · exact ⟨V, rfl, hb, hi, ho⟩
theorem readL_stop {b : List Int} {q : Int} {L : List Int} {s : RdV} {z : Int} (h : readQ b q s = (z, s)) (hz : z ≠ 0) : readL b (q :: L) s = (z, s) := by
  simp only [readL, h, if_neg hz]
theorem readL_go {b : List Int} {q : Int} {L : List Int} {s s' : RdV} (h : readQ b q s = (0, s')) : readL b (q :: L) s = readL b L s' := by
  simp only [readL, h, if_true]
set_option maxRecDepth 100000 in
set_option maxHeartbeats 8000000 in
theorem fields7_any (nb B ib p : Nat) (op : Int) (X : Value) (b : List Int) (w : World) (h : InpAt w nb B X p b) (hp : p ≤ b.length)
    (hbox : w.heap[ib]? = some (.cells (insCells op 0 0 0 0 (.slice none 0 0)) 37 (0, 0))) (hBi : B ≤ ib) :
    Calls Tryz.prog 139 #[.pointer (some ⟨nb, 0, none⟩), .pointer (some ⟨ib, 0, none⟩)] w (FieldsDone w nb B ib op X b (readL b (lettersOf (shapeI op)) ⟨p, [], 0, []⟩)) := by
  obtain ⟨sh, hsh⟩ : ∃ sh, sh = shapeI op := ⟨_, rfl⟩
  obtain ⟨r, hr⟩ : ∃ r, r = readL b (lettersOf (shapeI op)) ⟨p, [], 0, []⟩ := ⟨_, rfl⟩
  rw [← hr]
  rw [← hsh] at hr
  have HE := Lib.hid hr
  have HS := Lib.hid (fun W => shape_any op W)
  have HSH := Lib.hid (show okShape sh = true by rw [hsh]; exact shapes_ok op)
  rw [← hsh] at HS
  have HIn := Lib.hid h
  have HBox := Lib.hid hbox
  have hibw := heap_lt hbox
  have hnbw := h.lt
  obtain ⟨c0, c1, c2, c3, c4, c5⟩ := cells6 hbox
  clear hr hsh h hbox
  go_enter Tryz.func139, Tryz.ntmps139
  go_wp2
  go_region
  have hb1 : Below w.heap.size w ((w.alloc (.cells #[.pointer (some ⟨ib, 1, none⟩), .pointer (some ⟨ib, 2, none⟩), .pointer (some ⟨ib, 3, none⟩)] 99)).drew) := ((Below.refl w.heap.size w).alloc (Nat.le_refl _) _).drew
  have cO := (Below.cell hb1 (p := ⟨ib, 0, none⟩) hibw).trans c0
  have hR : (w.alloc (.cells #[.pointer (some ⟨ib, 1, none⟩), .pointer (some ⟨ib, 2, none⟩), .pointer (some ⟨ib, 3, none⟩)] 99)).drew.heap[w.heap.size]? = some (.cells #[.pointer (some ⟨ib, 1, none⟩), .pointer (some ⟨ib, 2, none⟩), .pointer (some ⟨ib, 3, none⟩)] 99 (0, 0)) := heap_alloc_new w _
  have hsz : (w.alloc (.cells #[.pointer (some ⟨ib, 1, none⟩), .pointer (some ⟨ib, 2, none⟩), .pointer (some ⟨ib, 3, none⟩)] 99)).drew.heap.size = w.heap.size + 1 := by show (w.alloc _).heap.size = _; simp
  generalize (w.alloc (.cells #[.pointer (some ⟨ib, 1, none⟩), .pointer (some ⟨ib, 2, none⟩), .pointer (some ⟨ib, 3, none⟩)] 99)).drew = w1 at *
  have HB1 := Lib.hid hb1
  have HR1 := Lib.hid hR
  have HSZ := Lib.hid hsz
  clear c0 c1 c2 c3 c4 c5 hb1 hR hsz
  go_wp2_with (go_at_call 60; (with_reducible refine (HS.out _).mono ?_); rintro e w2 ⟨rfl, hb⟩; have B2 := Lib.hid hb; clear hb)
  obtain ⟨T, hT0⟩ : ∃ T, T = w2.heap.size := ⟨_, rfl⟩
  obtain ⟨w3, hw3⟩ : ∃ w3, w3 = w2.iter sh 0 := ⟨_, rfl⟩
  rw [← hw3, ← hT0]
  have s2 := B2.out.size
  have s1 := HSZ.out
  have hb13 : Below w1.heap.size w1 w3 := by
    rw [hw3]
    exact B2.out.alloc (by omega) _
  have hb03 : Below w.heap.size w w3 := HB1.out.trans (hb13.mono HB1.out.size)
  have H3 : FldI w w3 nb B ib w.heap.size T op X b sh 0 p 0 0 0 0 (.slice none 0 0) [] :=
    ⟨HIn.out.below hb03 hnbw, (hb03.block _ hibw).trans HBox.out, (hb13.block _ (by omega)).trans HR1.out, by rw [hw3, hT0]; exact World.iter_heap _ _ _, Owns.nil _ _ _ _ _, But.of_below hb03, Nat.le_refl _, by omega, hBi, hibw, hnbw⟩
  obtain ⟨R, hRR⟩ : ∃ R, R = w.heap.size := ⟨_, rfl⟩
  rw [← hRR] at H3 ⊢
  have HRR := Lib.hid hRR
  have H3 := Lib.hid H3
  clear hRR s1 s2 hb13 hb03 hw3 hT0 B2 HB1 HR1 HSZ HS cO w1 w2
  go_loopw [5] (fun rg wr => ∃ (k : Nat) (s : RdV) (V : Value), k ≤ sh.size ∧ s.pos ≤ b.length ∧ r = readL b ((lettersOf sh).drop k) s ∧ s.rs.length + regN ((lettersOf sh).drop k) ≤ 3 ∧ RegP R s.rs.length rg ∧ Hid (FldI w wr nb B ib R T op X b sh k s.pos (s.rs.getD 0 0) (s.rs.getD 1 0) (s.rs.getD 2 0) s.n V s.args)) (fun _ wr => sh.size - wr.iterPos T)
  case atStart => exact ⟨0, ⟨p, [], 0, []⟩, _, Nat.zero_le _, hp, HE.out, by simpa using okShape_reg HSH.out, ⟨_, rfl, fun _ => rfl⟩, H3⟩
  case round =>
    obtain ⟨k, ⟨ps, rs, n, args⟩, V, hk, hps, hE, hj, hr, HR⟩ := hrel
    dsimp only at hps hE hj hr HR
    clear H3 HE HIn HBox
    by_cases hlt : k < sh.size
    · have hq0 := okShape_lt HSH.out hlt
      have hnx0 : ∀ ty, (Instr.next (.pointer (some ⟨T, 0, none⟩)) true ty).run Tryz.prog wr = _ := fun ty => Lib.run_next_ascii_at wr T sh k ty HR.out.it hlt hq0
      have hdr := letters_drop sh hlt
      rw [hdr] at hE hj
      obtain ⟨q, hq⟩ : ∃ q : Int, q = (sh[k].toNat : Int) := ⟨_, rfl⟩
      rw [← hq] at hnx0 hE hj
      obtain ⟨w', hw'⟩ : ∃ w', w' = wr.iterAt T sh (k + 1) := ⟨_, rfl⟩
      have HP := Lib.hid (iterPos_of HR.out.it)
      have HR1 := Lib.hid (HR.out.turn (k + 1))
      rw [← hw'] at hnx0 HR1
      have hnx : ∀ ty, (Instr.next (.pointer (some ⟨T, 0, none⟩)) true ty).run Tryz.prog wr = .ok (.tuple #[.bool true, .int .i64 k, .int .i32 q]) w' := hnx0
      have hrow := HR1.out.row
      have e0 : w'.cell? ⟨R, 0, none⟩ = some (.pointer (some ⟨ib, 1, none⟩)) := by simp [World.cell?, hrow]
      have e1 : w'.cell? ⟨R, 1, none⟩ = some (.pointer (some ⟨ib, 2, none⟩)) := by simp [World.cell?, hrow]
      have e2 : w'.cell? ⟨R, 2, none⟩ = some (.pointer (some ⟨ib, 3, none⟩)) := by simp [World.cell?, hrow]
      have HI := Lib.hid hE
      have HN0 := Lib.hid hj
      have HWd := Lib.hid (fun W => width7_any q W)
      clear hE hj hnx0 hdr hw' hq hq0 hrow HR
      simp only [regN] at HN0
      by_cases hreg : isReg q = true
      · have hj3 : rs.length < 3 := by have := HN0.out; simp only [hreg, if_true] at this; omega
        obtain ⟨A, rfl, hA⟩ := hr
        obtain rfl := hA hj3
        have hw1 : widthV q = 1 := reg_width hreg
        rw [hw1] at HWd
        have HN : Hid ((rs.length + 1) + regN ((lettersOf sh).drop (k + 1)) ≤ 3) := by
          have h := HN0.out
          simp only [hreg, if_true] at h
          exact Lib.hid (by omega)
        clear HN0 hA hw1
        have hx0 : (readQ b q ⟨ps, rs, n, args⟩ = (4, ⟨ps, rs, n, args⟩) ∧ b.length < ps + 1) ∨ (readQ b q ⟨ps, rs, n, args⟩ = (0, ⟨ps + 1, rs ++ [b.getD ps 0], n, args⟩) ∧ ps + 1 ≤ b.length) := by
          by_cases hav : b.length < ps + 1
          · exact .inl ⟨readQ_reg_no hreg hav, hav⟩
          · exact .inr ⟨readQ_reg_yes hreg (by show ps + 1 ≤ b.length; omega), by omega⟩
        have hregq : q = 119 ∨ q = 114 := of_decide_eq_true hreg
        clear hreg
        rcases hx0 with ⟨hQ, hav⟩ | ⟨hQ, hav⟩
        · have HQ := Lib.hid (HI.out.trans (readL_stop hQ (by decide)))
          have HNm := Lib.hid (fun W (hf : InpAt W nb B X ps b) => numin_no1 nb B ps X b W hf hps hav)
          clear hQ hav HI
          rcases rs with _ | ⟨x, _ | ⟨y, _ | ⟨_, _⟩⟩⟩
          · simp only [List.length_nil, List.length_cons, Nat.sub_zero, Nat.reduceSub, Nat.reduceAdd, Nat.zero_add] at HN ⊢
            simp only [List.getD_nil, List.getD_cons_zero, List.getD_cons_succ] at HR1
            clear hj3
            rcases hregq with rfl | rfl
            all_goals
              go_wp2_with (go_at_call 119; (with_reducible refine (HWd.out _).mono ?_); rintro e w4 ⟨rfl, rfl⟩)
              go_region_held3 (fun W => W.cell? ⟨R, 0, none⟩ = some (.pointer (some ⟨ib, 1, none⟩))) (first | with_reducible exact HK3.out | with_reducible exact HK2.out | go_keep)
                ((go_at_call 137; (with_reducible refine (HNm.out _ HR1.out.drew.inp).mono ?_); rintro e w4 ⟨rfl, hi, hb⟩; have HR2 := Lib.hid (HR1.out.drew.num hi hb); have HF2 := Lib.hid (HR2.out.set (j := 1) (v := .int .i64 0) (b1 := 0) (b2 := 0) (b3 := 0) (m := n) rfl HR2.out.own); have f4 := free6 HR2.out.box 1; obtain ⟨d0, d1, d2, d3, d4, d5⟩ := cells6 HR2.out.box; have HK2 : Hid (w4.cell? ⟨R, 0, none⟩ = some (.pointer (some ⟨ib, 1, none⟩))) := Lib.hid (by simp [World.cell?, HR2.out.row]); have HK3 : Hid ((w4.setCell ⟨ib, 1, none⟩ (.int .i64 0)).cell? ⟨R, 0, none⟩ = some (.pointer (some ⟨ib, 1, none⟩))) := Lib.hid (by simp [World.cell?, HF2.out.row]); clear hi hb))
              go_wp2
              go_ret
              exact fields_bad (by rw [HQ.out]) (by decide) HF2.out.but HF2.out.inp
          · simp only [List.length_nil, List.length_cons, Nat.sub_zero, Nat.reduceSub, Nat.reduceAdd, Nat.zero_add] at HN ⊢
            simp only [List.getD_nil, List.getD_cons_zero, List.getD_cons_succ] at HR1
            clear hj3
            rcases hregq with rfl | rfl
            all_goals
              go_wp2_with (go_at_call 119; (with_reducible refine (HWd.out _).mono ?_); rintro e w4 ⟨rfl, rfl⟩)
              go_region_held3 (fun W => W.cell? ⟨R, 1, none⟩ = some (.pointer (some ⟨ib, 2, none⟩))) (first | with_reducible exact HK3.out | with_reducible exact HK2.out | go_keep)
                ((go_at_call 137; (with_reducible refine (HNm.out _ HR1.out.drew.inp).mono ?_); rintro e w4 ⟨rfl, hi, hb⟩; have HR2 := Lib.hid (HR1.out.drew.num hi hb); have HF2 := Lib.hid (HR2.out.set (j := 2) (v := .int .i64 0) (b1 := x) (b2 := 0) (b3 := 0) (m := n) rfl HR2.out.own); have f4 := free6 HR2.out.box 2; obtain ⟨d0, d1, d2, d3, d4, d5⟩ := cells6 HR2.out.box; have HK2 : Hid (w4.cell? ⟨R, 1, none⟩ = some (.pointer (some ⟨ib, 2, none⟩))) := Lib.hid (by simp [World.cell?, HR2.out.row]); have HK3 : Hid ((w4.setCell ⟨ib, 2, none⟩ (.int .i64 0)).cell? ⟨R, 1, none⟩ = some (.pointer (some ⟨ib, 2, none⟩))) := Lib.hid (by simp [World.cell?, HF2.out.row]); clear hi hb))
              go_wp2
              go_ret
              exact fields_bad (by rw [HQ.out]) (by decide) HF2.out.but HF2.out.inp
          · simp only [List.length_nil, List.length_cons, Nat.sub_zero, Nat.reduceSub, Nat.reduceAdd, Nat.zero_add] at HN ⊢
            simp only [List.getD_nil, List.getD_cons_zero, List.getD_cons_succ] at HR1
            clear hj3
            rcases hregq with rfl | rfl
            all_goals
              go_wp2_with (go_at_call 119; (with_reducible refine (HWd.out _).mono ?_); rintro e w4 ⟨rfl, rfl⟩)
              go_region_held3 (fun W => W.cell? ⟨R, 2, none⟩ = some (.pointer (some ⟨ib, 3, none⟩))) (first | with_reducible exact HK3.out | with_reducible exact HK2.out | go_keep)
                ((go_at_call 137; (with_reducible refine (HNm.out _ HR1.out.drew.inp).mono ?_); rintro e w4 ⟨rfl, hi, hb⟩; have HR2 := Lib.hid (HR1.out.drew.num hi hb); have HF2 := Lib.hid (HR2.out.set (j := 3) (v := .int .i64 0) (b1 := x) (b2 := y) (b3 := 0) (m := n) rfl HR2.out.own); have f4 := free6 HR2.out.box 3; obtain ⟨d0, d1, d2, d3, d4, d5⟩ := cells6 HR2.out.box; have HK2 : Hid (w4.cell? ⟨R, 2, none⟩ = some (.pointer (some ⟨ib, 3, none⟩))) := Lib.hid (by simp [World.cell?, HR2.out.row]); have HK3 : Hid ((w4.setCell ⟨ib, 3, none⟩ (.int .i64 0)).cell? ⟨R, 2, none⟩ = some (.pointer (some ⟨ib, 3, none⟩))) := Lib.hid (by simp [World.cell?, HF2.out.row]); clear hi hb))
              go_wp2
              go_ret
              exact fields_bad (by rw [HQ.out]) (by decide) HF2.out.but HF2.out.inp
          · simp at hj3; omega
        · have HQ := Lib.hid (HI.out.trans (readL_go hQ))
          have HNm := Lib.hid (fun W (hf : InpAt W nb B X ps b) => numin_yes1 nb B ps X b W hf hav)
          have HLE := Lib.hid hav
          clear hQ hav HI
          generalize b.getD ps 0 = z at HNm HQ
          rcases rs with _ | ⟨x, _ | ⟨y, _ | ⟨_, _⟩⟩⟩
          · simp only [List.length_nil, List.length_cons, Nat.sub_zero, Nat.reduceSub, Nat.reduceAdd, Nat.zero_add] at HN ⊢
            simp only [List.getD_nil, List.getD_cons_zero, List.getD_cons_succ] at HR1
            clear hj3
            rcases hregq with rfl | rfl
            all_goals
              go_wp2_with (go_at_call 119; (with_reducible refine (HWd.out _).mono ?_); rintro e w4 ⟨rfl, rfl⟩)
              go_region_held3 (fun W => W.cell? ⟨R, 0, none⟩ = some (.pointer (some ⟨ib, 1, none⟩))) (first | with_reducible exact HK3.out | with_reducible exact HK2.out | go_keep)
                ((go_at_call 137; (with_reducible refine (HNm.out _ HR1.out.drew.inp).mono ?_); rintro e w4 ⟨rfl, hi, hb⟩; have HR2 := Lib.hid (HR1.out.drew.num hi hb); have HF2 := Lib.hid (HR2.out.set (j := 1) (v := .int .i64 z) (b1 := z) (b2 := 0) (b3 := 0) (m := n) rfl HR2.out.own); have f4 := free6 HR2.out.box 1; obtain ⟨d0, d1, d2, d3, d4, d5⟩ := cells6 HR2.out.box; have HK2 : Hid (w4.cell? ⟨R, 0, none⟩ = some (.pointer (some ⟨ib, 1, none⟩))) := Lib.hid (by simp [World.cell?, HR2.out.row]); have HK3 : Hid ((w4.setCell ⟨ib, 1, none⟩ (.int .i64 z)).cell? ⟨R, 0, none⟩ = some (.pointer (some ⟨ib, 1, none⟩))) := Lib.hid (by simp [World.cell?, HF2.out.row]); clear hi hb))
              go_wp2
              go_roundw
              case rel => exact ⟨k + 1, ⟨ps + 1, [] ++ [z], n, args⟩, V, hlt, HLE.out, HQ.out, HN.out, ⟨_, rfl, fun h => by first | rfl | exact absurd h (by simp)⟩, HF2⟩
              case measure => rw [iterPos_of HF2.out.it, HP.out]; omega
          · simp only [List.length_nil, List.length_cons, Nat.sub_zero, Nat.reduceSub, Nat.reduceAdd, Nat.zero_add] at HN ⊢
            simp only [List.getD_nil, List.getD_cons_zero, List.getD_cons_succ] at HR1
            clear hj3
            rcases hregq with rfl | rfl
            all_goals
              go_wp2_with (go_at_call 119; (with_reducible refine (HWd.out _).mono ?_); rintro e w4 ⟨rfl, rfl⟩)
              go_region_held3 (fun W => W.cell? ⟨R, 1, none⟩ = some (.pointer (some ⟨ib, 2, none⟩))) (first | with_reducible exact HK3.out | with_reducible exact HK2.out | go_keep)
                ((go_at_call 137; (with_reducible refine (HNm.out _ HR1.out.drew.inp).mono ?_); rintro e w4 ⟨rfl, hi, hb⟩; have HR2 := Lib.hid (HR1.out.drew.num hi hb); have HF2 := Lib.hid (HR2.out.set (j := 2) (v := .int .i64 z) (b1 := x) (b2 := z) (b3 := 0) (m := n) rfl HR2.out.own); have f4 := free6 HR2.out.box 2; obtain ⟨d0, d1, d2, d3, d4, d5⟩ := cells6 HR2.out.box; have HK2 : Hid (w4.cell? ⟨R, 1, none⟩ = some (.pointer (some ⟨ib, 2, none⟩))) := Lib.hid (by simp [World.cell?, HR2.out.row]); have HK3 : Hid ((w4.setCell ⟨ib, 2, none⟩ (.int .i64 z)).cell? ⟨R, 1, none⟩ = some (.pointer (some ⟨ib, 2, none⟩))) := Lib.hid (by simp [World.cell?, HF2.out.row]); clear hi hb))
              go_wp2
              go_roundw
              case rel => exact ⟨k + 1, ⟨ps + 1, [x] ++ [z], n, args⟩, V, hlt, HLE.out, HQ.out, HN.out, ⟨_, rfl, fun h => by first | rfl | exact absurd h (by simp)⟩, HF2⟩
              case measure => rw [iterPos_of HF2.out.it, HP.out]; omega
          · simp only [List.length_nil, List.length_cons, Nat.sub_zero, Nat.reduceSub, Nat.reduceAdd, Nat.zero_add] at HN ⊢
            simp only [List.getD_nil, List.getD_cons_zero, List.getD_cons_succ] at HR1
            clear hj3
            rcases hregq with rfl | rfl
            all_goals
              go_wp2_with (go_at_call 119; (with_reducible refine (HWd.out _).mono ?_); rintro e w4 ⟨rfl, rfl⟩)
              go_region_held3 (fun W => W.cell? ⟨R, 2, none⟩ = some (.pointer (some ⟨ib, 3, none⟩))) (first | with_reducible exact HK3.out | with_reducible exact HK2.out | go_keep)
                ((go_at_call 137; (with_reducible refine (HNm.out _ HR1.out.drew.inp).mono ?_); rintro e w4 ⟨rfl, hi, hb⟩; have HR2 := Lib.hid (HR1.out.drew.num hi hb); have HF2 := Lib.hid (HR2.out.set (j := 3) (v := .int .i64 z) (b1 := x) (b2 := y) (b3 := z) (m := n) rfl HR2.out.own); have f4 := free6 HR2.out.box 3; obtain ⟨d0, d1, d2, d3, d4, d5⟩ := cells6 HR2.out.box; have HK2 : Hid (w4.cell? ⟨R, 2, none⟩ = some (.pointer (some ⟨ib, 3, none⟩))) := Lib.hid (by simp [World.cell?, HR2.out.row]); have HK3 : Hid ((w4.setCell ⟨ib, 3, none⟩ (.int .i64 z)).cell? ⟨R, 2, none⟩ = some (.pointer (some ⟨ib, 3, none⟩))) := Lib.hid (by simp [World.cell?, HF2.out.row]); clear hi hb))
              go_wp2
              go_roundw
              case rel => exact ⟨k + 1, ⟨ps + 1, [x, y] ++ [z], n, args⟩, V, hlt, HLE.out, HQ.out, HN.out, ⟨_, rfl, fun h => by first | rfl | exact absurd h (by simp)⟩, HF2⟩
              case measure => rw [iterPos_of HF2.out.it, HP.out]; omega
          · simp at hj3; omega
      · have hq1 : ¬ (q = 119 ∨ q = 114) := fun h => hreg (decide_eq_true h)
        have g1 : (q == 119) = false := by simp; omega
        have g2 : (q == 114) = false := by simp; omega
        have HN : Hid (rs.length + regN ((lettersOf sh).drop (k + 1)) ≤ 3) := by
          have h := HN0.out
          rw [if_neg hreg] at h
          exact Lib.hid (by omega)
        have hreg' : isReg q = false := by simpa using hreg
        clear HN0 hreg hq1
        by_cases hq8 : q = 108
        · subst hq8
          rw [show widthV 108 = 1 from rfl] at HWd
          rcases list_cases nb B X b w' ⟨ps, rs, n, args⟩ HR1.out.inp hps with ⟨z, hz, hQ, hL⟩ | ⟨p', args', hQ, hp', hL⟩
          · have HQ := Lib.hid (HI.out.trans (readL_stop hQ hz))
            have HL := Lib.hid hL
            have HZ := Lib.hid hz
            have hne : (z != 0) = true := by simpa using hz
            clear hQ hL hz hreg'
            go_wp2_with (first
              | (go_at_call 119; (with_reducible refine (HWd.out _).mono ?_); rintro e w4 ⟨rfl, rfl⟩)
              | (go_at_call 147; (with_reducible refine HL.out.mono ?_); rintro e w4 ⟨rfl, hb, p4, hi⟩; have HR2 := Lib.hid (HR1.out.num hi hb); have HF2 := Lib.hid (HR2.out.set (j := 5) (v := .slice none 0 0) (b1 := rs.getD 0 0) (b2 := rs.getD 1 0) (b3 := rs.getD 2 0) (m := n) (args' := []) rfl (Owns.nil _ _ _ _ _)); have f4 := free6 HR2.out.box 5; obtain ⟨d0, d1, d2, d3, d4, d5⟩ := cells6 HR2.out.box; clear hi hb))
            go_ret
            exact fields_bad (by rw [HQ.out]) HZ.out HF2.out.but HF2.out.inp
          · have HQ := Lib.hid (HI.out.trans (readL_go hQ))
            have HL := Lib.hid hL
            have HSW := Lib.hid HR1.out.but.size
            clear hQ hL hreg'
            go_wp2_with (first
              | (go_at_call 119; (with_reducible refine (HWd.out _).mono ?_); rintro e w4 ⟨rfl, rfl⟩)
              | (go_at_call 147; (with_reducible refine HL.out.mono ?_); rintro e w4 ⟨V4, rfl, hb, hi, ho⟩; have HR2 := Lib.hid (HR1.out.num hi hb); have HF2 := Lib.hid (HR2.out.set (j := 5) (v := V4) (b1 := rs.getD 0 0) (b2 := rs.getD 1 0) (b3 := rs.getD 2 0) (m := n) rfl (Owns.base ho HSW.out)); have f4 := free6 HR2.out.box 5; obtain ⟨d0, d1, d2, d3, d4, d5⟩ := cells6 HR2.out.box; obtain ⟨A4, c4, hV4⟩ := owns_len ho; subst hV4; clear hi hb ho))
            go_roundw
            case rel => exact ⟨k + 1, ⟨p', rs, n, args'⟩, _, hlt, hp', HQ.out, HN.out, hr, HF2⟩
            case measure => rw [iterPos_of HF2.out.it, HP.out]; omega
        · have g3 : (q == 108) = false := by simpa using hq8
          have hws := width_sized q
          by_cases hav : b.length < ps + widthV q
          · have HQ := Lib.hid (HI.out.trans (readL_stop (readQ_num_no (s := ⟨ps, rs, n, args⟩) hreg' hq8 hav) (by decide)))
            have HNm := Lib.hid (numin_noS nb B ps (widthV q) X b w' HR1.out.inp hps hws hav)
            generalize widthV q = sz at HWd HNm
            clear hav hws hq8 hreg'
            go_wp2_with (first
              | (go_at_call 119; (with_reducible refine (HWd.out _).mono ?_); rintro e w4 ⟨rfl, rfl⟩)
              | (go_at_call 137; (with_reducible refine HNm.out.mono ?_); rintro e w4 ⟨rfl, hi, hb⟩; have HR2 := Lib.hid (HR1.out.num hi hb); have HF2 := Lib.hid (HR2.out.set (j := 4) (v := .int .i64 0) (b1 := rs.getD 0 0) (b2 := rs.getD 1 0) (b3 := rs.getD 2 0) (m := 0) rfl HR2.out.own); have f4 := free6 HR2.out.box 4; obtain ⟨d0, d1, d2, d3, d4, d5⟩ := cells6 HR2.out.box; clear hi hb))
            go_ret
            exact fields_bad (by rw [HQ.out]) (by decide) HF2.out.but HF2.out.inp
          · have HQ := Lib.hid (HI.out.trans (readL_go (readQ_num_yes (s := ⟨ps, rs, n, args⟩) hreg' hq8 (by show ps + widthV q ≤ b.length; omega))))
            have HNm := Lib.hid (numin_yesS nb B ps (widthV q) X b w' HR1.out.inp hws (by omega))
            have HLE := Lib.hid (show ps + widthV q ≤ b.length by omega)
            generalize widthV q = sz at HWd HNm HQ HLE
            clear hav hws hq8 hreg'
            generalize wrapI (numV ((b.drop ps).take sz)) = z at HNm HQ
            go_wp2_with (first
              | (go_at_call 119; (with_reducible refine (HWd.out _).mono ?_); rintro e w4 ⟨rfl, rfl⟩)
              | (go_at_call 137; (with_reducible refine HNm.out.mono ?_); rintro e w4 ⟨rfl, hi, hb⟩; have HR2 := Lib.hid (HR1.out.num hi hb); have HF2 := Lib.hid (HR2.out.set (j := 4) (v := .int .i64 z) (b1 := rs.getD 0 0) (b2 := rs.getD 1 0) (b3 := rs.getD 2 0) (m := z) rfl HR2.out.own); have f4 := free6 HR2.out.box 4; obtain ⟨d0, d1, d2, d3, d4, d5⟩ := cells6 HR2.out.box; clear hi hb))
            go_roundw
            case rel => exact ⟨k + 1, ⟨ps + sz, rs, z, args⟩, V, hlt, HLE.out, HQ.out, HN.out, hr, HF2⟩
            case measure => rw [iterPos_of HF2.out.it, HP.out]; omega
    · obtain rfl : k = sh.size := by omega
      have hnx : ∀ ty, (Instr.next (.pointer (some ⟨T, 0, none⟩)) true ty).run Tryz.prog wr = .ok (.tuple #[.bool false]) wr := fun ty => Lib.run_next_end_at wr T sh sh.size ty HR.out.it (by omega)
      rw [letters_end] at hE
      have HI : Hid (r = (0, ⟨ps, rs, n, args⟩)) := Lib.hid hE
      clear hE hj
      go_wp2
      go_ret
      exact fields_good HI.out HR.out.but HR.out.inp HR.out.box HR.out.own
end Go.Proofs.YtfdblmjgpoocpaaGreat

/- (Code07G) The landed (*input).instruction: an instruction is read. Contract; no condition but that the input's place is within its bytes. -/
namespace Go.Proofs.YtfdblmjgpoocpaaGreat
open Go.RowKit Go.Shelf
set_option linter.unusedVariables false
set_option linter.unusedSimpArgs false

abbrev set6 (W : World) (g : Nat) (v0 v1 v2 v3 v4 v5 : Value) : World := (((((W.setCell ⟨g, 0, none⟩ v0).setCell ⟨g, 1, none⟩ v1).setCell ⟨g, 2, none⟩ v2).setCell ⟨g, 3, none⟩ v3).setCell ⟨g, 4, none⟩ v4).setCell ⟨g, 5, none⟩ v5
theorem but_set6 {R : Nat → Prop} {w W : World} (h : But R w W) {g : Nat} (hg : R g ∨ w.heap.size ≤ g) (v0 v1 v2 v3 v4 v5 : Value) : But R w (set6 W g v0 v1 v2 v3 v4 v5) :=
  (((((h.setCell (p := ⟨g, 0, none⟩) hg v0).setCell (p := ⟨g, 1, none⟩) hg v1).setCell (p := ⟨g, 2, none⟩) hg v2).setCell (p := ⟨g, 3, none⟩) hg v3).setCell (p := ⟨g, 4, none⟩) hg v4).setCell (p := ⟨g, 5, none⟩) hg v5
theorem only6 (W : World) (g : Nat) (v0 v1 v2 v3 v4 v5 : Value) : But (OneBlock g) W (set6 W g v0 v1 v2 v3 v4 v5) := but_set6 (But.refl (OneBlock g) W) (.inl rfl) v0 v1 v2 v3 v4 v5

def InstrDone (w : World) (nb B : Nat) (X : Value) (p : Nat) (b : List Int) (e : Ending) (w' : World) : Prop :=
  But (OneBlock nb) w w' ∧ (((getI b p).err ≠ 0 ∧ e = .returned (.tuple #[.agg (insCells 0 0 0 0 0 (.slice none 0 0)), .int .i64 (getI b p).err]) ∧ ∃ p', InpAt w' nb B X p' b) ∨
   ((getI b p).err = 0 ∧ ∃ V, e = .returned (.tuple #[.agg (insCells (getI b p).y.op (getI b p).y.a (getI b p).y.b (getI b p).y.c (getI b p).y.n V), .int .i64 0]) ∧ InpAt w' nb B X (getI b p).next b ∧ OutN w.heap.size w' V (getI b p).y.args))
theorem instr_bad {w w' : World} {nb B p p' : Nat} {X : Value} {b : List Int} {z : Int} {e : Ending} (hz : (getI b p).err = z) (h0 : z ≠ 0) (hb : But (OneBlock nb) w w') (hi : InpAt w' nb B X p' b) (he : e = .returned (.tuple #[.agg (insCells 0 0 0 0 0 (.slice none 0 0)), .int .i64 z])) : InstrDone w nb B X p b e w' :=
  ⟨hb, .inl ⟨by rw [hz]; exact h0, by rw [hz]; exact he, p', hi⟩⟩
theorem instr_good {w w' : World} {nb B p : Nat} {X : Value} {b : List Int} {y : InsV} {next : Nat} {V : Value} {e : Ending} (hz : getI b p = ⟨0, 0, y, next⟩) (hb : But (OneBlock nb) w w') (hi : InpAt w' nb B X next b) (ho : OutN w.heap.size w' V y.args) (he : e = .returned (.tuple #[.agg (insCells y.op y.a y.b y.c y.n V), .int .i64 0])) : InstrDone w nb B X p b e w' :=
  ⟨hb, .inr (by rw [hz]; exact ⟨rfl, V, he, hi, ho⟩)⟩
theorem names_full : nameL.all (fun s => !s.toList.isEmpty) = true := by kernel_rfl
theorem name_full {op : Int} (h : 0 ≤ op ∧ op < 33) : (nameI op).toList.isEmpty = false := by
  have hl : nameL.length = 33 := by kernel_rfl
  have hk : op.toNat < nameL.length := by omega
  have e : nameI op = nameL[op.toNat] := by unfold nameI nameB; rw [if_pos h]; simp [List.getD, hk]
  rw [e]
  have := List.all_eq_true.1 names_full _ (List.getElem_mem hk)
  simpa using this
theorem instr_set {w w1 : World} {nb B p' : Nat} {X : Value} {b : List Int} (hb : But (OneBlock nb) w w1) (hi : InpAt w1 nb B X p' b) (hnw : nb < w.heap.size) (v0 v1 v2 v3 v4 v5 : Value) :
    But (OneBlock nb) w (set6 w1 w.heap.size v0 v1 v2 v3 v4 v5) ∧ InpAt (set6 w1 w.heap.size v0 v1 v2 v3 v4 v5) nb B X p' b := by
  refine ⟨but_set6 hb (.inr (Nat.le_refl _)) _ _ _ _ _ _, hi.but (only6 _ _ _ _ _ _ _ _) (show ¬ nb = w.heap.size by omega) (fun k hk e => ?_)⟩
  have e' : k = w.heap.size := e
  have := hi.low
  omega
theorem own_set {base : Nat} {w1 : World} {g : Nat} {V : Value} {xs : List Int} (h : OutN base w1 V xs) (hg : g < base) (v0 v1 v2 v3 v4 v5 : Value) : OutN base (set6 w1 g v0 v1 v2 v3 v4 v5) V xs := by
  refine Owns.but h (only6 _ _ _ _ _ _ _ _) (fun k hk e => ?_)
  have e' : k = g := e
  have := (h.lt hk).1
  omega
theorem but_two {w W w3 : World} {nb ib : Nat} (h : But (OneBlock nb) w W) (hb : But (TwoBlocks nb ib) W w3) (hi : w.heap.size ≤ ib) : But (OneBlock nb) w w3 :=
  ⟨hb.os.trans h.os, hb.tape.trans h.tape, hb.output.trans h.output, Nat.le_trans h.size hb.size, fun k hk hn => (hb.block k (Nat.lt_of_lt_of_le hk h.size) (fun e => by
    rcases e with e | e
    · exact hn e
    · omega)).trans (h.block k hk hn)⟩
set_option maxRecDepth 100000 in
set_option maxHeartbeats 8000000 in
theorem instr_any (nb B p : Nat) (X : Value) (b : List Int) (w : World) (h : InpAt w nb B X p b) (hp : p ≤ b.length) :
    Calls Tryz.prog 121 #[.pointer (some ⟨nb, 0, none⟩)] w (InstrDone w nb B X p b) := by
  have hnw := h.lt
  have hlow := h.low
  have hby := h.byt.1
  have hb0 : Below w.heap.size w (w.alloc (.cells (insCells 0 0 0 0 0 (.slice none 0 0)) 37)) := (Below.refl _ w).alloc (Nat.le_refl _) _
  have h0 := h.below hb0 hnw
  have HB0 := Lib.hid (But.of_below (R := OneBlock nb) hb0)
  have HRB := Lib.hid (heap_alloc_new w (.cells (insCells 0 0 0 0 0 (.slice none 0 0)) 37))
  have HS0 := Lib.hid (show (w.alloc (.cells (insCells 0 0 0 0 0 (.slice none 0 0)) 37)).heap.size = w.heap.size + 1 by simp)
  by_cases h1 : b.length < p + 1
  · have HN := Lib.hid (numin_no1 nb B p X b _ h0 hp h1)
    have HG : Hid ((getI b p).err = 4) := Lib.hid (by unfold getI; rw [if_pos (by omega)])
    clear h hb0 h0 h1 hby
    go_enter Tryz.func121, Tryz.ntmps121
    go_wp2_with (go_at_call 137; (with_reducible refine HN.out.mono ?_); rintro e w1 ⟨rfl, hi, hb⟩; have HI := Lib.hid (instr_set (HB0.out.trans hb) hi hnw (.int .i64 0) (.int .i64 0) (.int .i64 0) (.int .i64 0) (.int .i64 0) (.slice none 0 0)); have hr1 := hb.heap HRB.out (show ¬ w.heap.size = nb by omega); obtain ⟨d0, d1, d2, d3, d4, d5⟩ := cells6 hr1; have g0 := free6 hr1 0; have g1 := free6 hr1 1; have g2 := free6 hr1 2; have g3 := free6 hr1 3; have g4 := free6 hr1 4; have g5 := free6 hr1 5; clear hi hb hr1)
    refine bodyPost_ret (v := .tuple #[.agg (insCells 0 0 0 0 0 (.slice none 0 0)), .int .i64 4]) (by simp [results, Tryz.results121, go_sem, d0, d1, d2, d3, d4, d5]) rfl ?_
    exact instr_bad HG.out (by decide) HI.out.1 HI.out.2 rfl
  have hx := hby _ (getD_mem (show p < b.length by omega))
  have hg : getI b p = if 33 ≤ b.getD p 0 then ⟨16, p, .zero, 0⟩ else if (readL b (lettersOf (shapeI (b.getD p 0))) (startV p)).1 = 4 then ⟨4, b.length, .zero, 0⟩
      else if (readL b (lettersOf (shapeI (b.getD p 0))) (startV p)).1 = 3 then ⟨3, p, .zero, 0⟩
      else if (insOf (b.getD p 0) (readL b (lettersOf (shapeI (b.getD p 0))) (startV p)).2).chk ≠ 0 then ⟨5, p, .zero, 0⟩
      else ⟨0, 0, insOf (b.getD p 0) (readL b (lettersOf (shapeI (b.getD p 0))) (startV p)).2, (readL b (lettersOf (shapeI (b.getD p 0))) (startV p)).2.pos⟩ := by
    conv => lhs; unfold getI
    rw [if_neg (by omega)]
  have HN := Lib.hid (numin_yes1 nb B p X b _ h0 (by omega))
  obtain ⟨op, hop⟩ : ∃ op, op = b.getD p 0 := ⟨_, rfl⟩
  rw [← hop] at hg HN hx
  by_cases h33 : 33 ≤ op
  · rw [if_pos h33] at hg
    have HG : Hid ((getI b p).err = 16) := Lib.hid (by rw [hg])
    have HNm := Lib.hid (fun W => name_no (op := op) (by omega) W)
    clear h hb0 h0 h1 hby hg hx hop h33
    go_enter Tryz.func121, Tryz.ntmps121
    go_wp2_with (first
      | (go_at_call 137; (with_reducible refine HN.out.mono ?_); rintro e w1 ⟨rfl, hi, hb⟩; have HI1 := Lib.hid hi; have HB1 := Lib.hid (HB0.out.trans hb); have HR1 := Lib.hid (hb.heap HRB.out (show ¬ w.heap.size = nb by omega)); clear hi hb)
      | (go_at_call 138; (with_reducible refine (HNm.out _).mono ?_); rintro e w2 ⟨rfl, hb⟩; have HI := Lib.hid (instr_set (HB1.out.then_below hb HB1.out.size) (HI1.out.below hb HI1.out.lt) hnw (.int .i64 0) (.int .i64 0) (.int .i64 0) (.int .i64 0) (.int .i64 0) (.slice none 0 0)); have hr2 := (hb.block _ (heap_lt HR1.out)).trans HR1.out; obtain ⟨d0, d1, d2, d3, d4, d5⟩ := cells6 hr2; have g0 := free6 hr2 0; have g1 := free6 hr2 1; have g2 := free6 hr2 2; have g3 := free6 hr2 3; have g4 := free6 hr2 4; have g5 := free6 hr2 5; clear hb hr2))
    refine bodyPost_ret (v := .tuple #[.agg (insCells 0 0 0 0 0 (.slice none 0 0)), .int .i64 16]) (by simp [results, Tryz.results121, go_sem, d0, d1, d2, d3, d4, d5]) rfl ?_
    exact instr_bad HG.out (by decide) HI.out.1 HI.out.2 rfl
  rw [if_neg h33] at hg
  have hop33 : 0 ≤ op ∧ op < 33 := ⟨hx.1, by omega⟩
  have hnf := name_full hop33
  have HNm := Lib.hid (fun W => name_any op W)
  obtain ⟨r, hr⟩ : ∃ r, r = readL b (lettersOf (shapeI op)) (startV p) := ⟨_, rfl⟩
  rw [← hr] at hg
  have HFl := Lib.hid (fun W ib (hi : InpAt W nb B X (p + 1) b) hbox hBi => fields7_any nb B ib (p + 1) op X b W hi (show p + 1 ≤ b.length by omega) hbox hBi)
  rw [show readL b (lettersOf (shapeI op)) ⟨p + 1, [], 0, []⟩ = r from hr.symm] at HFl
  have hkinds := readL_kinds b (lettersOf (shapeI op)) (startV p)
  rw [← hr] at hkinds
  generalize nameI op = nm at hnf HNm
  have HNF := Lib.hid hnf
  have hn1 : ¬ nm.toList = [] := by intro e; rw [e] at hnf; simp at hnf
  have hn2 : (nm.toList == []) = false := by simpa using hn1
  clear h hb0 h0 h1 hby hx hop h33 hr
  by_cases hr0 : r.1 = 0
  · obtain ⟨s', hs'⟩ : ∃ s', s' = r.2 := ⟨_, rfl⟩
    have hr0' : r = (0, s') := by rw [hs', ← hr0]
    rw [hr0'] at hg HFl
    simp only [] at hg
    rw [if_neg (by decide), if_neg (by decide)] at hg
    obtain ⟨ps, rs, n, args⟩ := s'
    have hio : insOf op ⟨ps, rs, n, args⟩ = ⟨op, rs.getD 0 0, rs.getD 1 0, rs.getD 2 0, n, args⟩ := rfl
    rw [hio] at hg
    clear hio hkinds hs' hr0 hr0' hop33 hnf
    generalize hA : rs.getD 0 0 = a1 at hg
    generalize hB : rs.getD 1 0 = a2 at hg
    generalize hC : rs.getD 2 0 = a3 at hg
    have HFv : Hid (rs.getD 0 0 = a1 ∧ rs.getD 1 0 = a2 ∧ rs.getD 2 0 = a3) := Lib.hid ⟨hA, hB, hC⟩
    have HCk := Lib.hid (fun W V (h : IsNums .i64 W W.heap.size V args) => check7_any op a1 a2 a3 n V args W h)
    clear hA hB hC
    obtain ⟨z, hz⟩ : ∃ z, z = InsV.chk ⟨op, a1, a2, a3, n, args⟩ := ⟨_, rfl⟩
    rw [← hz] at HCk hg
    by_cases hz0 : z = 0
    · have HG : Hid (getI b p = ⟨0, 0, ⟨op, a1, a2, a3, n, args⟩, ps⟩) := Lib.hid (by rw [hg, if_neg (by simp [hz0])])
      rw [hz0] at HCk
      clear hg hz hz0 z
      go_enter Tryz.func121, Tryz.ntmps121
      go_wp2_with (first
        | (go_at_call 137; (with_reducible refine HN.out.mono ?_); rintro e w1 ⟨rfl, hi, hb⟩; have HI1 := Lib.hid hi; have HB1 := Lib.hid (HB0.out.trans hb); have HR1 := Lib.hid (hb.heap HRB.out (show ¬ w.heap.size = nb by omega)); clear hi hb)
        | (go_at_call 138; (with_reducible refine (HNm.out _).mono ?_); rintro e w2 ⟨rfl, hb⟩; have HI2 := Lib.hid (HI1.out.below hb HI1.out.lt); have HB2 := Lib.hid (HB1.out.then_below hb HB1.out.size); have HR2 := Lib.hid ((hb.block _ (heap_lt HR1.out)).trans HR1.out); clear hb; have ha := (Below.refl w2.heap.size w2).alloc (Nat.le_refl _) (.cells (insCells op 0 0 0 0 (.slice none 0 0)) 37); have HB3 := Lib.hid (HB2.out.then_below ha HB2.out.size); have HI3 := Lib.hid (HI2.out.below ha HI2.out.lt); have HR3 := Lib.hid ((ha.block _ (heap_lt HR2.out)).trans HR2.out); have HX3 := Lib.hid (heap_alloc_new w2 (.cells (insCells op 0 0 0 0 (.slice none 0 0)) 37)); have HS3 := Lib.hid (show (w2.alloc (.cells (insCells op 0 0 0 0 (.slice none 0 0)) 37)).heap.size = w2.heap.size + 1 by simp); clear ha)
        | (go_at_call 139; (with_reducible refine (HFl.out _ _ HI3.out HX3.out (by have := HI2.out.low; have := HI2.out.lt; omega)).mono ?_); rintro e w3 ⟨hb, ⟨p', hi, hpos⟩, rfl, hgd⟩; obtain ⟨V5, hx5, ho5⟩ := hgd rfl; have hpos' := hpos rfl; subst hpos'; have hlr := heap_lt HR2.out; have HLT : Hid (w.heap.size < (w2.alloc (.cells (insCells op 0 0 0 0 (.slice none 0 0)) 37)).heap.size) := Lib.hid (by rw [HS3.out]; omega); have HI5 := Lib.hid hi; have HB5 := Lib.hid (but_two HB3.out hb (by omega)); have HR5 := Lib.hid (hb.heap HR3.out (show ¬ (w.heap.size = nb ∨ w.heap.size = w2.heap.size) by omega)); dsimp only at hx5 ho5; rw [HFv.out.1, HFv.out.2.1, HFv.out.2.2] at hx5; obtain ⟨VA, Vc, hV5⟩ := owns_len ho5; subst hV5; have HX5 := Lib.hid hx5; have HO5 := Lib.hid ho5; have HNU := Lib.hid (IsNums.of_owns ho5 (Nat.le_refl _)); obtain ⟨k0, k1, k2, k3, k4, k5⟩ := cells6 hx5; clear hb hi hpos hgd hx5 ho5)
        | (go_at_call 96; (with_reducible refine (HCk.out _ _ HNU.out).mono ?_); rintro e w4 ⟨rfl, hb⟩; have HI4 := Lib.hid (HI5.out.below hb HI5.out.lt); have HB4 := Lib.hid (HB5.out.then_below hb HB5.out.size); have hr4 := (hb.block _ (heap_lt HR5.out)).trans HR5.out; have hx4 := (hb.block _ (heap_lt HX5.out)).trans HX5.out; have HO4 := Lib.hid (Owns.below HO5.out hb (Nat.le_refl _)); obtain ⟨d0, d1, d2, d3, d4, d5⟩ := cells6 hr4; have g0 := free6 hr4 0; have g1 := free6 hr4 1; have g2 := free6 hr4 2; have g3 := free6 hr4 3; have g4 := free6 hr4 4; have g5 := free6 hr4 5; obtain ⟨k0, k1, k2, k3, k4, k5⟩ := cells6 hx4; clear hb hr4 hx4))
      have HF := Lib.hid (instr_set HB4.out HI4.out hnw (.int .i64 op) (.int .i64 a1) (.int .i64 a2) (.int .i64 a3) (.int .i64 n) (.slice VA args.length Vc))
      have HO := Lib.hid (own_set HO4.out (g := w.heap.size) HLT.out (.int .i64 op) (.int .i64 a1) (.int .i64 a2) (.int .i64 a3) (.int .i64 n) (.slice VA args.length Vc))
      refine bodyPost_ret (v := .tuple #[.agg (insCells op a1 a2 a3 n (.slice VA args.length Vc)), .int .i64 0]) (by simp [results, Tryz.results121, go_sem, d0, d1, d2, d3, d4, d5]) rfl ?_
      exact instr_good HG.out HF.out.1 HF.out.2 (Owns.base HO.out (Nat.le_of_lt HLT.out)) rfl
    · have HG : Hid ((getI b p).err = 5) := Lib.hid (by rw [hg, if_pos hz0])
      have hne : (z != 0) = true := by simpa using hz0
      clear hg hz hz0
      go_enter Tryz.func121, Tryz.ntmps121
      go_wp2_with (first
        | (go_at_call 137; (with_reducible refine HN.out.mono ?_); rintro e w1 ⟨rfl, hi, hb⟩; have HI1 := Lib.hid hi; have HB1 := Lib.hid (HB0.out.trans hb); have HR1 := Lib.hid (hb.heap HRB.out (show ¬ w.heap.size = nb by omega)); clear hi hb)
        | (go_at_call 138; (with_reducible refine (HNm.out _).mono ?_); rintro e w2 ⟨rfl, hb⟩; have HI2 := Lib.hid (HI1.out.below hb HI1.out.lt); have HB2 := Lib.hid (HB1.out.then_below hb HB1.out.size); have HR2 := Lib.hid ((hb.block _ (heap_lt HR1.out)).trans HR1.out); clear hb; have ha := (Below.refl w2.heap.size w2).alloc (Nat.le_refl _) (.cells (insCells op 0 0 0 0 (.slice none 0 0)) 37); have HB3 := Lib.hid (HB2.out.then_below ha HB2.out.size); have HI3 := Lib.hid (HI2.out.below ha HI2.out.lt); have HR3 := Lib.hid ((ha.block _ (heap_lt HR2.out)).trans HR2.out); have HX3 := Lib.hid (heap_alloc_new w2 (.cells (insCells op 0 0 0 0 (.slice none 0 0)) 37)); have HS3 := Lib.hid (show (w2.alloc (.cells (insCells op 0 0 0 0 (.slice none 0 0)) 37)).heap.size = w2.heap.size + 1 by simp); clear ha)
        | (go_at_call 139; (with_reducible refine (HFl.out _ _ HI3.out HX3.out (by have := HI2.out.low; have := HI2.out.lt; omega)).mono ?_); rintro e w3 ⟨hb, ⟨p', hi, hpos⟩, rfl, hgd⟩; obtain ⟨V5, hx5, ho5⟩ := hgd rfl; have hpos' := hpos rfl; subst hpos'; have hlr := heap_lt HR2.out; have HLT : Hid (w.heap.size < (w2.alloc (.cells (insCells op 0 0 0 0 (.slice none 0 0)) 37)).heap.size) := Lib.hid (by rw [HS3.out]; omega); have HI5 := Lib.hid hi; have HB5 := Lib.hid (but_two HB3.out hb (by omega)); have HR5 := Lib.hid (hb.heap HR3.out (show ¬ (w.heap.size = nb ∨ w.heap.size = w2.heap.size) by omega)); dsimp only at hx5 ho5; rw [HFv.out.1, HFv.out.2.1, HFv.out.2.2] at hx5; obtain ⟨VA, Vc, hV5⟩ := owns_len ho5; subst hV5; have HX5 := Lib.hid hx5; have HO5 := Lib.hid ho5; have HNU := Lib.hid (IsNums.of_owns ho5 (Nat.le_refl _)); obtain ⟨k0, k1, k2, k3, k4, k5⟩ := cells6 hx5; clear hb hi hpos hgd hx5 ho5)
        | (go_at_call 96; (with_reducible refine (HCk.out _ _ HNU.out).mono ?_); rintro e w4 ⟨rfl, hb⟩; have HI4 := Lib.hid (HI5.out.below hb HI5.out.lt); have HB4 := Lib.hid (HB5.out.then_below hb HB5.out.size); have hr4 := (hb.block _ (heap_lt HR5.out)).trans HR5.out; obtain ⟨d0, d1, d2, d3, d4, d5⟩ := cells6 hr4; have g0 := free6 hr4 0; have g1 := free6 hr4 1; have g2 := free6 hr4 2; have g3 := free6 hr4 3; have g4 := free6 hr4 4; have g5 := free6 hr4 5; clear hb hr4))
      have HF := Lib.hid (instr_set HB4.out HI4.out hnw (.int .i64 0) (.int .i64 0) (.int .i64 0) (.int .i64 0) (.int .i64 0) (.slice none 0 0))
      refine bodyPost_ret (v := .tuple #[.agg (insCells 0 0 0 0 0 (.slice none 0 0)), .int .i64 5]) (by simp [results, Tryz.results121, go_sem, d0, d1, d2, d3, d4, d5]) rfl ?_
      exact instr_bad HG.out (by decide) HF.out.1 HF.out.2 rfl
  · obtain ⟨z, hz⟩ : ∃ z, z = r.1 := ⟨_, rfl⟩
    have HG : Hid ((getI b p).err = z) := Lib.hid (by rw [hg, hz]; rcases hkinds with h | h | h <;> simp [h] at hr0 ⊢)
    rw [← hz] at hr0
    have HZ := Lib.hid hr0
    have HZR := Lib.hid hz
    have hne : (z != 0) = true := by simpa using hr0
    clear hr0 hz hkinds hg hop33 hnf
    go_enter Tryz.func121, Tryz.ntmps121
    go_wp2_with (first
      | (go_at_call 137; (with_reducible refine HN.out.mono ?_); rintro e w1 ⟨rfl, hi, hb⟩; have HI1 := Lib.hid hi; have HB1 := Lib.hid (HB0.out.trans hb); have HR1 := Lib.hid (hb.heap HRB.out (show ¬ w.heap.size = nb by omega)); clear hi hb)
      | (go_at_call 138; (with_reducible refine (HNm.out _).mono ?_); rintro e w2 ⟨rfl, hb⟩; have HI2 := Lib.hid (HI1.out.below hb HI1.out.lt); have HB2 := Lib.hid (HB1.out.then_below hb HB1.out.size); have HR2 := Lib.hid ((hb.block _ (heap_lt HR1.out)).trans HR1.out); clear hb; have ha := (Below.refl w2.heap.size w2).alloc (Nat.le_refl _) (.cells (insCells op 0 0 0 0 (.slice none 0 0)) 37); have HB3 := Lib.hid (HB2.out.then_below ha HB2.out.size); have HI3 := Lib.hid (HI2.out.below ha HI2.out.lt); have HR3 := Lib.hid ((ha.block _ (heap_lt HR2.out)).trans HR2.out); have HX3 := Lib.hid (heap_alloc_new w2 (.cells (insCells op 0 0 0 0 (.slice none 0 0)) 37)); have HS3 := Lib.hid (show (w2.alloc (.cells (insCells op 0 0 0 0 (.slice none 0 0)) 37)).heap.size = w2.heap.size + 1 by simp); clear ha)
      | (go_at_call 139; (with_reducible refine (HFl.out _ _ HI3.out HX3.out (by have := HI2.out.low; have := HI2.out.lt; omega)).mono ?_); rintro e w3 ⟨hb, ⟨p', hi, _⟩, he, _⟩; rw [← HZR.out] at he; subst he; have hlr := heap_lt HR2.out; have HI := Lib.hid (instr_set (but_two HB3.out hb (by omega)) hi hnw (.int .i64 0) (.int .i64 0) (.int .i64 0) (.int .i64 0) (.int .i64 0) (.slice none 0 0)); have hr3 := hb.heap HR3.out (show ¬ (w.heap.size = nb ∨ w.heap.size = w2.heap.size) by omega); obtain ⟨d0, d1, d2, d3, d4, d5⟩ := cells6 hr3; have g0 := free6 hr3 0; have g1 := free6 hr3 1; have g2 := free6 hr3 2; have g3 := free6 hr3 3; have g4 := free6 hr3 4; have g5 := free6 hr3 5; clear hb hi hr3))
    refine bodyPost_ret (v := .tuple #[.agg (insCells 0 0 0 0 0 (.slice none 0 0)), .int .i64 z]) (by simp [results, Tryz.results121, go_sem, d0, d1, d2, d3, d4, d5]) rfl ?_
    exact instr_bad HG.out HZ.out HI.out.1 HI.out.2 rfl
end Go.Proofs.YtfdblmjgpoocpaaGreat
