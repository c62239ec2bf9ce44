/- The landed tape: where it lies, what a deed more leaves; valid, refusal, Put, Get. Contracts; no condition but that the tape lies in memory. -/
import Derived.Test.YtkfdgpgildanbaaGreatDeed14A
namespace Go.Proofs.YtkfdgpgildanbaaGreat
open Go.RowKit
set_option linter.unusedVariables false
set_option linter.unusedSimpArgs false

/-- Bytes of a tape's own, some of them behind. -/
def OwnB (base : Nat) (W : World) (X : Value) (xs : List Int) : Prop :=
  xs.length ≤ 140737488355328 ∧ (∀ x ∈ xs, 0 ≤ x ∧ x < 256) ∧ ((X = .slice none 0 0 ∧ xs = []) ∨
    ∃ g off cap cur, X = .slice (some ⟨g, off, none⟩) xs.length cap ∧ xs.length ≤ cap ∧ base ≤ g ∧ W.heap[g]? = some (.cells cur 5 (0, 0)) ∧ ∀ i, i < xs.length → cur[off + i]? = some (.int .u8 (xs.getD i 0)))
section
variable {base : Nat} {W W' : World} {X : Value} {xs : List Int}
theorem OwnB.len (h : OwnB base W X xs) : ∃ A cap, X = .slice A xs.length cap := by
  rcases h.2.2 with ⟨h0, rfl⟩ | ⟨g, off, cap, cur, h1, _⟩
  · exact ⟨none, 0, h0⟩
  · exact ⟨_, cap, h1⟩
theorem OwnB.bytes (h : OwnB base W X xs) : IsBytes W W.heap.size X xs := by
  refine ⟨h.2.1, by have := h.1; unfold maxLen; omega, ?_⟩
  rcases h.2.2 with h0 | ⟨g, off, cap, cur, h1, h2, h3, h4, h5⟩
  · exact .inl h0
  · refine .inr ⟨_, cap, h1, h2, fun _ => heap_lt h4, fun i hi => ?_⟩
    have e : (⟨g, off, none⟩ : Addr).add i = ⟨g, off + i, none⟩ := by unfold Addr.add; split <;> simp_all
    rw [e, cell_of_row _ _ _ _ _ _ h4]
    exact h5 i hi
theorem OwnB.but {R : Nat → Prop} (h : OwnB base W X xs) (hb : But R W W') (hr : ∀ k c, base ≤ k → W.heap[k]? = some (.cells c 5 (0, 0)) → ¬ R k) : OwnB base W' X xs := by
  refine ⟨h.1, h.2.1, ?_⟩
  rcases h.2.2 with h0 | ⟨g, off, cap, cur, h1, h2, h3, h4, h5⟩
  · exact .inl h0
  · exact .inr ⟨g, off, cap, cur, h1, h2, h3, hb.heap h4 (hr g cur h3 h4), h5⟩
theorem OwnB.base' {base' : Nat} (h : OwnB base W X xs) (hb : base' ≤ base) : OwnB base' W X xs := by
  refine ⟨h.1, h.2.1, ?_⟩
  rcases h.2.2 with h0 | ⟨g, off, cap, cur, h1, h2, h3, h4, h5⟩
  · exact .inl h0
  · exact .inr ⟨g, off, cap, cur, h1, h2, Nat.le_trans hb h3, h4, h5⟩
theorem OwnB.of_owns {K : Value → Prop} {n : Nat} (h : Owns W base 5 1 K X n (xs.map (Value.int .u8))) (hx : ∀ x ∈ xs, 0 ≤ x ∧ x < 256) (hl : xs.length ≤ 140737488355328) : OwnB base W X xs := by
  have hn : xs.length = n := by simpa using h.1.1
  subst hn
  refine ⟨hl, hx, ?_⟩
  rcases h.1.2 with ⟨rfl, h0⟩ | ⟨g, cap, cur, rfl, h1, h2, h3, h4, h5, h6⟩
  · exact .inl ⟨rfl, List.eq_nil_of_length_eq_zero h0⟩
  · refine .inr ⟨g, 0, cap, cur, rfl, h3, h1, h2, fun i hi => ?_⟩
    have h7 : (xs.map (Value.int .u8))[i]? = some (.int .u8 (xs.getD i 0)) := by
      rw [List.getElem?_map, List.getElem?_eq_getElem hi]; simp [List.getD, List.getElem?_eq_getElem hi]
    rw [← h6, List.getElem?_take, if_pos (by omega)] at h7
    simpa using h7
/-- Where the first byte lies. -/
theorem OwnB.first {x : Int} {ys : List Int} (h : OwnB base W X (x :: ys)) : ∃ g off cap, X = .slice (some ⟨g, off, none⟩) (ys.length + 1) cap ∧ ys.length + 1 ≤ cap ∧ W.cell? ⟨g, off, none⟩ = some (.int .u8 x) ∧
    ∀ (W' : World) (o' : Nat), (cap ≠ 1 → o' = off + 1) → (∀ c, W.heap[g]? = some (.cells c 5 (0, 0)) → W'.heap[g]? = some (.cells c 5 (0, 0))) → OwnB base W' (.slice (some ⟨g, o', none⟩) ys.length (cap - 1)) ys := by
  rcases h.2.2 with ⟨_, h0⟩ | ⟨g, off, cap, cur, h1, h2, h3, h4, h5⟩
  · cases h0
  · refine ⟨g, off, cap, h1, h2, ?_, fun W' o' ho hW => ⟨?_, fun z hz => h.2.1 z (List.mem_cons_of_mem _ hz), .inr ⟨g, o', cap - 1, cur, rfl, ?_, h3, hW _ h4, fun i hi => ?_⟩⟩⟩
    · rw [cell_of_row _ _ _ _ _ _ h4]
      exact h5 0 (by simp)
    · have := h.1; simp only [List.length_cons] at this; omega
    · simp only [List.length_cons] at h2; omega
    · simp only [List.length_cons] at h2
      have e := ho (by omega)
      subst e
      have := h5 (i + 1) (by simp; omega)
      rw [show off + 1 + i = off + (i + 1) by omega, this]
      rfl
end
/-- A tape in its box: what is left, what was done. -/
structure Tape14 (base : Nat) (W : World) (tb : Nat) (X V : Value) (xs : List Int) (L : List (Int × Int)) : Prop where
  box : W.heap[tb]? = some (.cells #[.pointer (some ⟨tb, 0, none⟩), X, V] 179 (0, 0))
  left : OwnB base W X xs
  done : Owns W base 182 2 AnyC14 V L.length (cellsD L)
  few : L.length ≤ 100000
theorem typed14 {w : World} {base : Nat} {e : TypeId} {size : Nat} {K : Value → Prop} {v : Value} {n : Nat} {xs : List Value} (h : Owns w base e size K v n xs) {g : Nat} (hg : v.ownBlock = some g) : base ≤ g ∧ ∃ cur, w.heap[g]? = some (.cells cur e (0, 0)) := by
  rcases h.1.2 with ⟨rfl, h0⟩ | ⟨g', cap, cur, rfl, h1, h2, h3⟩
  · simp [Value.ownBlock] at hg
  · simp [Value.ownBlock] at hg
    subst hg
    exact ⟨h1, _, h2⟩
theorem types14 {w : World} {k : Nat} {c c' : Array Value} {t t' : TypeId} (h : w.heap[k]? = some (.cells c t (0, 0))) (h' : w.heap[k]? = some (.cells c' t' (0, 0))) (ht : t ≠ t') : False := by
  rw [h] at h'
  injection h' with h'
  injection h' with _ h' _
  exact ht h'
theorem cells3_14 {w : World} {b' : Nat} {a b c : Value} {T : TypeId} (h : w.heap[b']? = some (.cells #[a, b, c] T (0, 0))) :
    w.cell? ⟨b', 0, none⟩ = some a ∧ w.cell? ⟨b', 1, none⟩ = some b ∧ w.cell? ⟨b', 2, none⟩ = some c := by
  simp [World.cell?, h]
theorem cells2_14 {w : World} {b' : Nat} {a b : Value} {T : TypeId} (h : w.heap[b']? = some (.cells #[a, b] T (0, 0))) : w.cell? ⟨b', 0, none⟩ = some a ∧ w.cell? ⟨b', 1, none⟩ = some b := by
  simp [World.cell?, h]
theorem cells1_14 {w : World} {b' : Nat} {a : Value} {T : TypeId} (h : w.heap[b']? = some (.cells #[a] T (0, 0))) : w.cell? ⟨b', 0, none⟩ = some a := by
  simp [World.cell?, h]
theorem owns_len14 {w : World} {base : Nat} {e : TypeId} {size : Nat} {K : Value → Prop} {v : Value} {n : Nat} {xs : List Value} (h : Owns w base e size K v n xs) : ∃ A cap, v = .slice A n cap := by
  rcases h.1.2 with ⟨rfl, h0⟩ | ⟨g, cap, cur, rfl, _⟩
  · exact ⟨none, 0, by rw [h0]⟩
  · exact ⟨_, cap, rfl⟩
theorem box_below14 {W W' : World} {bx : Nat} {o : Obj} (hk : W.heap[bx]? = some o) (hb : Below W.heap.size W W') : W'.heap[bx]? = some o := (hb.block _ (heap_lt hk)).trans hk
/-- What a deed more changes: the box, the row of deeds. -/
structure Wt14 (tb : Nat) (V V' : Value) (w w' : World) : Prop where
  but : But (fun k => k = tb ∨ V.ownBlock = some k) w w'
  whr : V'.ownBlock = V.ownBlock ∨ ∃ g, V'.ownBlock = some g ∧ w.heap.size ≤ g
section
variable {base : Nat} {W W' : World} {tb : Nat} {X V : Value} {xs : List Int} {L : List (Int × Int)}
theorem Tape14.cells (h : Tape14 base W tb X V xs L) : W.cell? ⟨tb, 0, none⟩ = some (.pointer (some ⟨tb, 0, none⟩)) ∧ W.cell? ⟨tb, 1, none⟩ = some X ∧ W.cell? ⟨tb, 2, none⟩ = some V := cells3_14 h.box
theorem Tape14.lt (h : Tape14 base W tb X V xs L) : tb < W.heap.size := heap_lt h.box
theorem Tape14.free (h : Tape14 base W tb X V xs L) (o : Nat) : W.frozen? ⟨tb, o, none⟩ = false := frozen_of_row W tb o _ _ h.box
theorem Tape14.but {R : Nat → Prop} (h : Tape14 base W tb X V xs L) (hb : But R W W') (h1 : ¬ R tb) (h2 : ∀ k c, base ≤ k → W.heap[k]? = some (.cells c 5 (0, 0)) → ¬ R k) (h3 : ∀ g, V.ownBlock = some g → ¬ R g) : Tape14 base W' tb X V xs L :=
  ⟨hb.heap h.box h1, h.left.but hb h2, h.done.but hb h3, h.few⟩
theorem Tape14.grow (h : Tape14 base W tb X V xs L) (hb : Below W.heap.size W W') : Tape14 base W' tb X V xs L :=
  h.but (But.of_below (R := NoBlock) hb) (fun h => h) (fun _ _ _ _ h => h) (fun _ _ h => h)
theorem Tape14.ne (h : Tape14 base W tb X V xs L) : some tb ≠ V.ownBlock := fun e => by
  obtain ⟨_, c, hc⟩ := typed14 h.done e.symm
  exact types14 hc h.box (by decide)
/-- A deed more. -/
theorem Tape14.more {V' : Value} {a b : Int} (h : Tape14 base W tb X V xs L) (hM : MoreD base W W' V V' L a b) (hf : L.length < 100000) :
    Tape14 base (W'.setCell ⟨tb, 2, none⟩ V') tb X V' xs (L ++ [(a, b)]) ∧ Wt14 tb V V' W (W'.setCell ⟨tb, 2, none⟩ V') := by
  have hbx : W'.heap[tb]? = some (.cells #[.pointer (some ⟨tb, 0, none⟩), X, V] 179 (0, 0)) := (hM.blk tb h.lt h.ne).trans h.box
  have hset := heap_setCell_same W' tb 2 _ _ V' hbx
  have hb1 : But (fun k => k = tb ∨ V.ownBlock = some k) W W' := ⟨hM.bel.os, hM.bel.tape, hM.bel.output, hM.size, fun k hk hn => hM.blk k hk (fun e => hn (.inr e.symm))⟩
  have hbut : But (fun k => k = tb ∨ V.ownBlock = some k) W (W'.setCell ⟨tb, 2, none⟩ V') := hb1.setCell (p := ⟨tb, 2, none⟩) (.inl (.inl rfl)) _
  have hbut2 : But (OneBlock tb) W' (W'.setCell ⟨tb, 2, none⟩ V') := (But.refl (OneBlock tb) W').setCell (p := ⟨tb, 2, none⟩) (.inl rfl) _
  refine ⟨⟨hset, h.left.but hbut (fun k c _ hc => ?_), ?_, by simp; omega⟩, ⟨hbut, hM.whr⟩⟩
  · rintro (rfl | e)
    · exact types14 hc h.box (by decide)
    · obtain ⟨_, c', hc'⟩ := typed14 h.done e
      exact types14 hc hc' (by decide)
  · rw [List.length_append]
    refine hM.own.but hbut2 (fun g hg e => ?_)
    have e' : g = tb := e
    subst e'
    obtain ⟨_, c, hc⟩ := typed14 hM.own hg
    exact types14 hc hbx (by decide)
end
/-- What a call of a tape leaves. -/
def TapeDone (base tb : Nat) (w : World) (V : Value) (v : Value) (xs : List Int) (L : List (Int × Int)) (e : Ending) (w' : World) : Prop :=
  ∃ X' V', e = .returned v ∧ Tape14 base w' tb X' V' xs L ∧ Wt14 tb V V' w w'
theorem tape_info : ∃ j, Tryz.prog.info? 179 = some j := Option.isSome_iff_exists.1 (by kernel_rfl)
theorem eql_self14 (a : Addr) (w : World) : (binOp .eql 72 (.pointer (some a)) (.pointer (some a))).run Tryz.prog w = .ok (.bool true) w := by
  obtain ⟨j, hj⟩ := tape_info
  exact run_eql_ptr_same w a Tryz.underlying72 hj
theorem eql_nil14 (a : Addr) (w : World) : (binOp .eql 72 (.pointer none) (.pointer (some a))).run Tryz.prog w = .ok (.bool false) w := by
  have h : ∀ d : Nat, (Op.equalIn (d + 1) 72 (.pointer none) (.pointer (some a))).run Tryz.prog w = .ok false w := fun d => by
    simp [Op.equalIn, run_underlying Tryz.underlying72]
  simp only [binOp]
  simp [Op.equal, Op.maxDepth, h 9999]
theorem valid14 {base tb : Nat} {w : World} {X V : Value} {xs : List Int} {L : List (Int × Int)} (h : Tape14 base w tb X V xs L) :
    Calls Tryz.prog 134 #[.pointer (some ⟨tb, 0, none⟩)] w fun e w' => e = .returned (.bool true) ∧ w = w' := by
  obtain ⟨c0, c1, c2⟩ := h.cells
  have he := eql_self14
  clear h
  go_enter Tryz.func134, Tryz.ntmps134
  go_wp2
  go_ret
  exact ⟨rfl, rfl⟩
theorem validNil14 (w : World) : Calls Tryz.prog 134 #[.pointer none] w fun e w' => e = .returned (.bool false) ∧ w = w' := by
  go_enter Tryz.func134, Tryz.ntmps134
  go_wp2
  go_ret
  exact ⟨rfl, rfl⟩
theorem validZero14 {tb : Nat} {w : World} {X V : Value} (h : w.heap[tb]? = some (.cells #[.pointer none, X, V] 179 (0, 0))) :
    Calls Tryz.prog 134 #[.pointer (some ⟨tb, 0, none⟩)] w fun e w' => e = .returned (.bool false) ∧ w = w' := by
  obtain ⟨c0, c1, c2⟩ := cells3_14 h
  have he := eql_nil14
  clear h
  go_enter Tryz.func134, Tryz.ntmps134
  go_wp2
  go_ret
  exact ⟨rfl, rfl⟩
/-- No tape: nil, or one that nobody made. -/
def NoTape (w : World) (p : Value) : Prop := p = .pointer none ∨ ∃ tb X V, p = .pointer (some ⟨tb, 0, none⟩) ∧ w.heap[tb]? = some (.cells #[.pointer none, X, V] 179 (0, 0))
theorem validNo14 {w : World} {p : Value} (h : NoTape w p) : Calls Tryz.prog 134 #[p] w fun e w' => e = .returned (.bool false) ∧ w = w' := by
  rcases h with rfl | ⟨tb, X, V, rfl, h⟩
  · exact validNil14 w
  · exact validZero14 h
set_option maxRecDepth 100000 in
theorem refusal14 {base tb : Nat} {w : World} {X V : Value} {xs : List Int} {L : List (Int × Int)} (h : Tape14 base w tb X V xs L) (hn : L.length < 100000) :
    Calls Tryz.prog 158 #[.pointer (some ⟨tb, 0, none⟩)] w fun e w' => e = .returned (.int .i64 0) ∧ w = w' := by
  have HV := Lib.hid (valid14 h)
  obtain ⟨c0, c1, c2⟩ := h.cells
  obtain ⟨A, cap, hVe⟩ := owns_len14 h.done
  subst hVe
  clear h
  generalize L.length = n at *
  have hI : decide ((100000 : Int) ≤ (n : Int)) = false := decide_eq_false (by omega)
  clear hn
  go_enter Tryz.func158, Tryz.ntmps158
  go_wp2_with (go_at_call 134; (with_reducible refine HV.out.mono ?_); rintro e w' ⟨rfl, rfl⟩)
  go_ret
  exact ⟨rfl, rfl⟩
set_option maxRecDepth 100000 in
theorem refusalFull14 {base tb : Nat} {w : World} {X V : Value} {xs : List Int} {L : List (Int × Int)} (h : Tape14 base w tb X V xs L) (hn : ¬ L.length < 100000) :
    Calls Tryz.prog 158 #[.pointer (some ⟨tb, 0, none⟩)] w fun e w' => e = .returned (.int .i64 8) ∧ w = w' := by
  have HV := Lib.hid (valid14 h)
  obtain ⟨c0, c1, c2⟩ := h.cells
  obtain ⟨A, cap, hVe⟩ := owns_len14 h.done
  subst hVe
  clear h
  generalize L.length = n at *
  have hI : decide ((100000 : Int) ≤ (n : Int)) = true := decide_eq_true (by omega)
  clear hn
  go_enter Tryz.func158, Tryz.ntmps158
  go_wp2_with (go_at_call 134; (with_reducible refine HV.out.mono ?_); rintro e w' ⟨rfl, rfl⟩)
  go_ret
  exact ⟨rfl, rfl⟩
theorem refusalNo14 {w : World} {p : Value} (h : NoTape w p) : Calls Tryz.prog 158 #[p] w fun e w' => e = .returned (.int .i64 1) ∧ w = w' := by
  have HV := Lib.hid (validNo14 h)
  clear h
  go_enter Tryz.func158, Tryz.ntmps158
  go_wp2_with (go_at_call 134; (with_reducible refine HV.out.mono ?_); rintro e w' ⟨rfl, rfl⟩)
  go_ret
  exact ⟨rfl, rfl⟩
theorem u8_mod14 (b : Int) : IntKind.i64.wrap (IntKind.u8.wrap b) = b % 256 := by
  have e : IntKind.u8.wrap b = b % 256 := by simp [IntKind.wrap, IntKind.bits, IntKind.signed]
  rw [e]
  exact IntWalk.i64_in _ (by omega)
end Go.Proofs.YtkfdgpgildanbaaGreat
