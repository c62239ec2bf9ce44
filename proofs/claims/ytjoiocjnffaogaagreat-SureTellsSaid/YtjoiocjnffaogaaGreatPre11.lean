/- The landed predecessors. Contract; no condition but that what follows is in rows. -/
import Derived.Test.YtjoiocjnffaogaaGreatHeap11A
import Derived.Test.YtjoiocjnffaogaaGreatS18
namespace Go.Proofs.YtjoiocjnffaogaaGreat
open Go.RowKit Go.Shelf
set_option linter.unusedVariables false
set_option linter.unusedSimpArgs false

/-- A row of lists, read in any world that has its blocks as they were. -/
theorem lists_row {base g n k : Nat} {w : World} {Xs : Nat → Value} {nx : Nat → List Int} (h : Lists base w g n Xs nx) (hk : k < n) :
    ∃ XA Xc, ∀ W : World, (∀ b, base ≤ b → b < w.heap.size → W.heap[b]? = w.heap[b]?) → W.cell? ⟨g, k, none⟩ = some (.slice XA (nx k).length Xc) ∧ (∀ j, j < (nx k).length → ∃ b, XA = some ⟨b, 0, none⟩ ∧ W.cell? ⟨b, j, none⟩ = some (.int .i64 ((nx k).getD j 0))) := by
  obtain ⟨A, cap, he, _⟩ := out_len (h.own k hk)
  refine ⟨A, cap, fun W hW => ⟨?_, fun j hj => ?_⟩⟩
  · rw [World.cell?_of_block (hW g h.ge h.row.lt), h.row.cell hk, he]
  · have ho := h.own k hk
    have hv : Xs k ≠ .slice none 0 0 := fun e => by
      rw [e] at ho
      rcases ho.1.2 with ⟨_, h0⟩ | ⟨_, _, _, h0, _⟩
      · omega
      · cases h0
    obtain ⟨g', cap', cur, he', h1, h2, h3, h4, h5, h6, h7, h8⟩ := ho.parts hv
    rw [he'] at he ho
    simp only [Value.slice.injEq] at he
    obtain ⟨rfl, _, _⟩ := he
    refine ⟨g', rfl, ?_⟩
    rw [World.cell?_of_block (hW g' h1 h2)]
    have := ho.1.cells (g := g') rfl j (.int .i64 ((nx k).getD j 0)) (by simp [List.getD, List.getElem?_eq_getElem hj])
    rw [← this]
    congr 1
    unfold Addr.add
    split <;> simp_all
/-- What predecessors has in memory. -/
structure PreAt (w wr : World) (n : Nat) (Ys : Nat → Value) (P : Nat → List Int) : Prop where
  bel : Below w.heap.size w wr
  row : RowAt wr w.heap.size n 35 Ys
  own : ∀ i, i < n → OutN w.heap.size wr (Ys i) (P i)
  apart : ∀ i j, i < n → j < n → i ≠ j → ∀ b, (Ys i).ownBlock = some b → (Ys j).ownBlock ≠ some b
def addP (P : Nat → List Int) (x a : Nat) : Nat → List Int := fun i => if i = x then P i ++ [(a : Int)] else P i
theorem PreAt.lists {w wr : World} {n : Nat} {Ys : Nat → Value} {P : Nat → List Int} (h : PreAt w wr n Ys P) : Lists w.heap.size wr w.heap.size n Ys P := ⟨Nat.le_refl _, h.row, h.own⟩
theorem PreAt.start (w : World) (n : Nat) : PreAt w (w.alloc (.cells (madeCells (Value.slice none 0 0).cells (n * 1)) 35)) n (fun _ => .slice none 0 0) (fun _ => []) :=
  ⟨(Below.refl _ _).alloc (Nat.le_refl _) _, lists_made n w, fun i _ => Owns.nil _ _ _ _ _, fun i j _ _ _ b hb => by simp [Value.ownBlock] at hb⟩
/-- One is appended to a row. -/
theorem PreAt.mid {w wr w' : World} {n x a : Nat} {Ys : Nat → Value} {P : Nat → List Int} {V' : Value} (h : PreAt w wr n Ys P) (hx : x < n) (ho : OutN w.heap.size w' V' (P x ++ [(a : Int)])) (hb : Below w.heap.size wr w')
    (hk : ∀ i, i < wr.heap.size → some i ≠ (Ys x).ownBlock → w'.heap[i]? = wr.heap[i]?) (hs : wr.heap.size ≤ w'.heap.size) (hw : V'.ownBlock = (Ys x).ownBlock ∨ V'.ownBlock = some (wr.heap.size + 1)) :
    RowAt w' w.heap.size n 35 Ys ∧ PreAt w (w'.setCell ⟨w.heap.size, x, none⟩ V') n (fun i => if i = x then V' else Ys i) (addP P x a) := by
  have hrow : RowAt w' w.heap.size n 35 Ys := h.row.heap (hk _ h.row.lt (fun e => own_ne (h.own x hx) h.row (by unfold OwnB; exact e.symm)))
  have hset := (But.refl (OneBlock w.heap.size) w').setCell (p := ⟨w.heap.size, x, none⟩) (.inl rfl) V'
  have hne : ∀ (v : Value) (xs : List Int), OutN w.heap.size w' v xs → OutN w.heap.size (w'.setCell ⟨w.heap.size, x, none⟩ V') v xs := fun v xs hv => hv.but hset (fun g hg e => own_ne hv hrow (by unfold OwnB; rw [show w.heap.size = g from e.symm]; exact hg))
  refine ⟨hrow, ⟨(h.bel.trans hb).setCell (p := ⟨w.heap.size, x, none⟩) (Nat.le_refl _) _, (hrow.set x V').congr fun i hi => rfl, fun i hi => ?_, fun i j hi hj hij b hbk => ?_⟩⟩
  · unfold addP
    by_cases e : i = x
    · subst e
      rw [if_pos rfl, if_pos rfl]
      exact hne _ _ ho
    · rw [if_neg e, if_neg e]
      refine hne _ _ (Owns.of_blocks (h.own i hi) (fun g hg => hk g ((h.own i hi).lt hg).2 (fun e2 => ?_)) hs)
      exact h.apart i x hi hx e g hg e2.symm
  · have hfar : ∀ k, k < n → (Ys k).ownBlock ≠ some (wr.heap.size + 1) := fun k hk e => by have := ((h.own k hk).lt e).2; omega
    by_cases e : i = x
    · subst e
      simp only [if_true] at hbk
      have hji : ¬ j = i := fun h => hij h.symm
      simp only [if_neg hji]
      intro hj2
      rcases hw with hw | hw
      · rw [hw] at hbk
        exact h.apart i j hi hj hij b hbk hj2
      · rw [hw] at hbk
        injection hbk with hbk
        subst hbk
        exact hfar j hj hj2
    · simp only [if_neg e] at hbk
      by_cases e2 : j = x
      · subst e2
        simp only [if_true]
        intro hj2
        rcases hw with hw | hw
        · rw [hw] at hj2
          exact h.apart i j hi hj hij b hbk hj2
        · rw [hw] at hj2
          injection hj2 with hj2
          subst hj2
          exact hfar i hi hbk
      · simp only [if_neg e2]
        exact h.apart i j hi hj hij b hbk
theorem PreAt.grow {w wr W : World} {n : Nat} {Ys : Nat → Value} {P : Nat → List Int} (h : PreAt w wr n Ys P) (hb : Below wr.heap.size wr W) : PreAt w W n Ys P :=
  ⟨h.bel.trans (hb.mono h.bel.size), h.row.below hb h.row.lt, fun i hi => Owns.below (h.own i hi) hb (Nat.le_refl _), h.apart⟩
/-- Who goes where, so far: all of the first k, and the first j of what follows k. -/
structure PreM (n : Nat) (nx : Nat → List Int) (k j : Nat) (P : Nat → List Int) : Prop where
  mem : ∀ i, i < n → ∀ a : Int, a ∈ P i ↔ (∃ b, b < k ∧ a = (b : Int) ∧ (i : Int) ∈ nx b) ∨ (a = (k : Int) ∧ (i : Int) ∈ (nx k).take j)
  len : ∀ i, i < n → (P i).length ≤ 2 * k + j
theorem PreM.start (n : Nat) (nx : Nat → List Int) : PreM n nx 0 0 (fun _ => []) := ⟨fun i hi a => by simp, fun i hi => by simp⟩
theorem PreM.add {n k j x : Nat} {nx : Nat → List Int} {P : Nat → List Int} (h : PreM n nx k j P) (hj : j < (nx k).length) (hx : (nx k).getD j 0 = (x : Int)) : PreM n nx k (j + 1) (addP P x k) := by
  have e : (nx k).take (j + 1) = (nx k).take j ++ [(x : Int)] := by
    rw [List.take_add_one, List.getElem?_eq_getElem hj]
    simp [List.getD, List.getElem?_eq_getElem hj] at hx
    simp [hx]
  refine ⟨fun i hi a => ?_, fun i hi => ?_⟩
  · unfold addP
    rw [e]
    by_cases ei : i = x
    · subst ei
      rw [if_pos rfl, List.mem_append, h.mem i hi a, List.mem_singleton, List.mem_append, List.mem_singleton]
      constructor
      · rintro ((h1 | h1) | h1)
        · exact .inl h1
        · exact .inr ⟨h1.1, .inl h1.2⟩
        · exact .inr ⟨h1, .inr rfl⟩
      · rintro (h1 | ⟨h1, _⟩)
        · exact .inl (.inl h1)
        · exact .inr h1
    · rw [if_neg ei, h.mem i hi a]
      have : ¬ (i : Int) = (x : Int) := by omega
      simp [this]
  · unfold addP
    have := h.len i hi
    split
    · rw [List.length_append]; simp; omega
    · omega
theorem PreM.next {n k : Nat} {nx : Nat → List Int} {P : Nat → List Int} (h : PreM n nx k (nx k).length P) (h2 : (nx k).length ≤ 2) : PreM n nx (k + 1) 0 P := by
  refine ⟨fun i hi a => ?_, fun i hi => by have := h.len i hi; omega⟩
  rw [h.mem i hi a, List.take_length, List.take_zero]
  constructor
  · rintro (⟨b, h1, h3, h4⟩ | ⟨h1, h3⟩)
    · exact .inl ⟨b, by omega, h3, h4⟩
    · exact .inl ⟨k, by omega, h1, h3⟩
  · rintro (⟨b, h1, h3, h4⟩ | ⟨_, h3⟩)
    · by_cases e : b = k
      · subst e; exact .inr ⟨h3, h4⟩
      · exact .inl ⟨b, by omega, h3, h4⟩
    · cases h3
def PreDone (w : World) (n : Nat) (nx : Nat → List Int) (e : Ending) (w' : World) : Prop :=
  ∃ Ys P, e = .returned (.slice (some ⟨w.heap.size, 0, none⟩) n n) ∧ Lists w.heap.size w' w.heap.size n Ys P ∧ Below w.heap.size w w' ∧ (∀ i, i < n → ∀ a : Int, a ∈ P i ↔ ∃ b, b < n ∧ a = (b : Int) ∧ (i : Int) ∈ nx b) ∧ ∀ i, i < n → (P i).length ≤ 20000
set_option maxRecDepth 100000 in
set_option maxHeartbeats 16000000 in
theorem predecessors11 (base g n : Nat) (Xs : Nat → Value) (nx : Nat → List Int) (w : World) (hL : Lists base w g n Xs nx) (hn : n ≤ 4096) (hb : ∀ i, i < n → ∀ x ∈ nx i, 0 ≤ x ∧ x < n) (h2 : ∀ i, (nx i).length ≤ 2) :
    Calls Tryz.prog 27 #[.slice (some ⟨g, 0, none⟩) n n] w (PreDone w n nx) := by
  have HLR := Lib.hid (fun k hk => lists_row (k := k) hL hk)
  have HBD := Lib.hid hb
  have H2 := Lib.hid h2
  have hmk := make_lists n (by omega)
  have HP0 := Lib.hid (PreAt.start w n)
  generalize madeCells (Value.slice none 0 0).cells (n * 1) = mb at *
  have hnI : (n : Int) ≤ 4096 := by omega
  have HN4 := Lib.hid hn
  clear hL hb h2 hn
  go_enter Tryz.func27, Tryz.ntmps27
  go_wp2
  go_loopw [13] (fun v wr => ∃ (k : Nat) (Ys : Nat → Value) (P : Nat → List Int), k ≤ n ∧ v = .int .i64 k ∧ Hid (PreAt w wr n Ys P ∧ PreM n nx k 0 P)) (fun v _ => n - (intOf v).toNat)
  case atStart => exact ⟨0, _, _, by omega, rfl, HP0.out, PreM.start n nx⟩
  case round =>
    obtain ⟨k, Ys, P, hk, rfl, HR⟩ := hrel
    by_cases hlt : k < n
    · have hadd : wrap64 ((k : Int) + 1) = (k : Int) + 1 := by unfold wrap64; omega
      have k0 : (0 : Int) ≤ (k : Int) := by omega
      have k1 : (k : Int) < (n : Int) := by omega
      obtain ⟨XA, Xc, hrow⟩ := HLR.out k hlt
      have HROW := Lib.hid hrow
      obtain ⟨xl, hxl⟩ : ∃ xl, xl = (nx k).length := ⟨_, rfl⟩
      have HXL := Lib.hid hxl
      have c0 := (hrow wr (fun b _ hb => HR.out.1.bel.block b hb)).1
      rw [← hxl] at c0
      have xl2 : xl ≤ 2 := by rw [hxl]; exact H2.out k
      have HLT := Lib.hid hlt
      clear hrow hxl hlt
      go_wp2
      go_loopw [20] (fun v wi => ∃ (j : Nat) (Zs : Nat → Value) (R : Nat → List Int), j ≤ xl ∧ v = .int .i64 j ∧ Hid (PreAt w wi n Zs R ∧ PreM n nx k j R)) (fun v _ => xl - (intOf v).toNat)
      case atStart => exact ⟨0, Ys, P, by omega, rfl, HR.out⟩
      case round =>
        obtain ⟨j, Zs, R, hj, rfl, HI⟩ := hrel
        by_cases hjl : j < xl
        · have hadj : wrap64 ((j : Int) + 1) = (j : Int) + 1 := by unfold wrap64; omega
          have j0 : (0 : Int) ≤ (j : Int) := by omega
          have j1 : (j : Int) < (xl : Int) := by omega
          have hjl' : j < (nx k).length := by rw [← HXL.out]; exact hjl
          obtain ⟨b, hXA, hcj⟩ := (HROW.out wr (fun b _ hb => HI.out.1.bel.block b hb)).2 j hjl'
          subst hXA
          have hxm : (nx k).getD j 0 ∈ nx k := by rw [List.getD, List.getElem?_eq_getElem hjl']; exact List.getElem_mem hjl'
          have hxb := HBD.out k HLT.out _ hxm
          obtain ⟨x, hx⟩ : ∃ x : Nat, (nx k).getD j 0 = x := ⟨((nx k).getD j 0).toNat, by omega⟩
          rw [hx] at hcj hxb
          have x0 : (0 : Int) ≤ (x : Int) := hxb.1
          have x1 : (x : Int) < (n : Int) := hxb.2
          have hxn : x < n := by omega
          have r0 := HI.out.1.row.cell hxn
          have q0 := HI.out.1.row.frozen x
          have ho := HI.out.1.own x hxn
          obtain ⟨pA, pc, hpe, _⟩ := out_len ho
          obtain ⟨pl, hpl⟩ : ∃ pl, pl = (R x).length := ⟨_, rfl⟩
          rw [← hpl] at hpe
          rw [hpe] at r0
          have HO := Lib.hid ho
          rw [hpe] at HO
          have HPE := Lib.hid hpe
          have HSX := Lib.hid hxn
          have HPL : Hid ((R x).length ≤ 1000000) := Lib.hid (by have := HI.out.2.len x hxn; have := HN4.out; have := HLT.out; omega)
          have HMID := Lib.hid (fun V' w' ho hb hk hs hw => HI.out.1.mid (x := x) (a := k) (V' := V') (w' := w') hxn ho hb hk hs hw)
          have HSZ : Hid (w.heap.size ≤ wr.heap.size) := Lib.hid HI.out.1.bel.size
          have HADD := Lib.hid (HI.out.2.add hjl' hx)
          have HJ := Lib.hid hjl
          clear hx hxm hxb hjl hjl' ho hpe hpl
          go_wp2_with (at_builtin; (refine wpList_outW (W := wr) (V := .slice pA pl pc) (xs := R x) (z := (k : Int)) rfl _ _ rfl rfl rfl HO.out HSZ.out HPL.out ?_; intro V6 w6 ho hb hk6 hs6 hw6; have HM := Lib.hid (HMID.out V6 w6 ho hb (by rw [HPE.out]; exact hk6) hs6 (by rw [HPE.out]; exact hw6)); obtain ⟨a6, c6, h6⟩ := owns_len ho; generalize (R x ++ [(k : Int)]).length = q6 at h6; subst h6; have r6 := HM.out.1.cell HSX.out; have q6' := HM.out.1.frozen x; clear ho hb hk6 hs6 hw6))
          go_roundw
          case rel => exact ⟨j + 1, _, _, by have := HJ.out; omega, by go_num, HM.out.2, HADD.out⟩
          case measure => have := HJ.out; simp [intOf]; omega
        · obtain rfl : j = xl := by omega
          have HNX : Hid (PreM n nx (k + 1) 0 R) := Lib.hid (PreM.next (by rw [← HXL.out]; exact HI.out.2) (H2.out k))
          go_wp2
          go_roundw
          case rel => exact ⟨k + 1, Zs, R, by have := HLT.out; omega, by go_num, HI.out.1, HNX.out⟩
          case measure => have := HLT.out; simp [intOf]; omega
    · obtain rfl : k = n := by omega
      go_wp2
      go_ret
      refine ⟨Ys, P, rfl, HR.out.1.lists, HR.out.1.bel, fun i hi a => ?_, fun i hi => by have := HR.out.2.len i hi; have := HN4.out; omega⟩
      rw [HR.out.2.mem i hi a]
      simp
end Go.Proofs.YtjoiocjnffaogaaGreat
