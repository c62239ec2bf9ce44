/- What the library's variables hold; a number's word; strings.Builder: what a write leaves, block by block. Contracts; no condition but what each names. -/
import Derived.Test.YtecbpbkehdmmcaaDoorDeed14J
import Derived.Test.YtecbpbkehdmmcaaDoorShelf
import Derived.WalkSmall
import Derived.Shelf.Strings.BuilderK
namespace Go.Proofs.YtecbpbkehdmmcaaDoor
open Go.RowKit Go.Shelf
set_option linter.unusedVariables false
set_option linter.unusedSimpArgs false

/-- What the library's variables hold: a table of powers of ten. -/
def Env14 (w : World) : Prop := ∀ nm, Tryd.prog.globalNamed nm = some (Tryd.laysM171_ren.g 17) → Lib.TabIs Tryd.prog w nm .u64 Lib.pow10Tab
theorem var_grow14 {P : Program} {n : String} {w w' : World} {cs : Array Value} (hv : w.var? P n = some cs) (hb : Below w.heap.size w w') : w'.var? P n = some cs := by
  cases hg : P.globalNamed n with
  | none => simp [World.var?, hg] at hv
  | some g =>
    have hlt : g < w.heap.size := by
      rcases Nat.lt_or_ge g w.heap.size with h | h
      · exact h
      · simp [World.var?, hg, Array.getElem?_eq_none h] at hv
    exact var?_below hb hg hlt hv
theorem Env14.grow {w w' : World} (h : Env14 w) (hb : Below w.heap.size w w') : Env14 w' := fun nm hg => var_grow14 (h nm hg) hb
theorem below_grow14 (w : World) (n : Nat) (os : Array Obj) : Below w.heap.size w (Sort.grow (w.drewN n) os) :=
  ⟨rfl, rfl, rfl, by show w.heap.size ≤ (w.heap ++ os).size; rw [Array.size_append]; omega, fun j hj => by
    show (w.heap ++ os)[j]? = w.heap[j]?
    rw [Array.getElem?_append_left hj]⟩
theorem itoaC14 (n : Int) (hn : -9223372036854775808 ≤ n ∧ n < 9223372036854775808) (w : World) (hE : Env14 w) : Calls Tryd.prog 62 #[.int .i64 n] w (Makes w (.string (strOfNums (num14 n)))) := by
  refine (Any.strconv_Itoa Tryd.laysM171 n (by omega) (by omega) w (hE _ Tryd.laysM171.m17)).mono ?_
  rintro e w' ⟨rfl, k, os, rfl⟩
  exact ⟨by rw [itoa_str14], below_grow14 w k os⟩
/-- Nothing but one box, and blocks of bytes from a place on. -/
def Wb14 (ob bb : Nat) (w w' : World) : Prop := But (fun k => k = ob ∨ (bb ≤ k ∧ ∃ c, w.heap[k]? = some (.cells c 5 (0, 0)))) w w'
theorem Wb14.of_but {R : Nat → Prop} {ob bb : Nat} {w w' : World} (h : But R w w') (hr : ∀ k, R k → k = ob ∨ (bb ≤ k ∧ ∃ c, w.heap[k]? = some (.cells c 5 (0, 0)))) : Wb14 ob bb w w' := h.mono hr
theorem Wb14.of_below {ob bb : Nat} {w w' : World} (h : Below w.heap.size w w') : Wb14 ob bb w w' := But.of_below h
theorem Wb14.refl (ob bb : Nat) (w : World) : Wb14 ob bb w w := But.refl _ w
theorem Wb14.trans {ob bb : Nat} {a b c : World} (h : Wb14 ob bb a b) (k : Wb14 ob bb b c) : Wb14 ob bb a c :=
  ⟨k.os.trans h.os, k.tape.trans h.tape, k.output.trans h.output, Nat.le_trans h.size k.size, fun i hi hr => by
    have e := h.block i hi hr
    exact (k.block i (Nat.lt_of_lt_of_le hi h.size) (fun hb => hr (by rw [e] at hb; exact hb))).trans e⟩
theorem Wb14.keep {ob bb k : Nat} {w w' : World} {o : Obj} (h : Wb14 ob bb w w') (hk : w.heap[k]? = some o) (h1 : k ≠ ob) (h2 : ∀ c, o ≠ .cells c 5 (0, 0)) : w'.heap[k]? = some o :=
  (h.block k (heap_lt hk) (by
    rintro (e | ⟨_, c, hc⟩)
    · exact h1 e
    · rw [hk] at hc; injection hc with hc; exact h2 c hc)).trans hk
/-- A builder that holds a text. -/
def Bld14 (base ob : Nat) (s : ByteArray) (W : World) : Prop :=
  ∃ A V, W.heap[ob]? = some (.cells #[A, V] 71 (0, 0)) ∧ (A = .pointer none ∨ A = .pointer (some ⟨ob, 0, none⟩)) ∧ W.ownsRow base 5 1 V s.size (Lib.strCells s) ∧ V.ownBlock ≠ some ob
theorem row_but14 {R : Nat → Prop} {A B : World} {base n : Nat} {t : TypeId} {V : Value} {xs : List Value} (h : A.ownsRow base t 1 V n xs) (hb : But R A B) (hr : ∀ g, V.ownBlock = some g → ¬ R g) : B.ownsRow base t 1 V n xs := by
  refine ⟨h.1, ?_⟩
  rcases h.2 with h0 | ⟨g, cap, cur, rfl, h1, h2, h3⟩
  · exact .inl h0
  · exact .inr ⟨g, cap, cur, rfl, h1, hb.heap h2 (hr g rfl), h3⟩
theorem row_typed14 {A : World} {base n : Nat} {t : TypeId} {V : Value} {xs : List Value} (h : A.ownsRow base t 1 V n xs) {g : Nat} (hg : V.ownBlock = some g) : base ≤ g ∧ ∃ c, A.heap[g]? = some (.cells c t (0, 0)) := by
  rcases h.2 with ⟨rfl, h0⟩ | ⟨g', cap, cur, rfl, h1, h2, h3⟩
  · cases hg
  · simp [Value.ownBlock] at hg
    subst hg
    exact ⟨h1, _, h2⟩
theorem Bld14.but {R : Nat → Prop} {A B : World} {base ob : Nat} {s : ByteArray} (h : Bld14 base ob s A) (hb : But R A B) (h1 : ¬ R ob) (h2 : ∀ k c, A.heap[k]? = some (.cells c 5 (0, 0)) → base ≤ k → ¬ R k) : Bld14 base ob s B := by
  obtain ⟨P, V, a1, a2, a3, a4⟩ := h
  exact ⟨P, V, hb.heap a1 h1, a2, row_but14 a3 hb (fun g hg => by obtain ⟨h3, c, hc⟩ := row_typed14 a3 hg; exact h2 g c hc h3), a4⟩
theorem Bld14.grow {A B : World} {base ob : Nat} {s : ByteArray} (h : Bld14 base ob s A) (hb : Below A.heap.size A B) : Bld14 base ob s B := h.but (But.of_below (R := NoBlock) hb) (fun h => h) (fun _ _ _ _ h => h)
theorem Bld14.lt {A : World} {base ob : Nat} {s : ByteArray} (h : Bld14 base ob s A) : ob < A.heap.size := by
  obtain ⟨P, V, a1, _⟩ := h
  exact heap_lt a1
theorem bld_new14 (w : World) (base : Nat) : Bld14 base w.heap.size ⟨#[]⟩ (w.alloc (.cells #[.pointer none, .slice none 0 0] 71)) :=
  ⟨_, _, heap_alloc_new w _, .inl rfl, ⟨by simp [Lib.strCells, ByteArray.size], .inl ⟨rfl, rfl⟩⟩, by simp [Value.ownBlock]⟩
theorem str_cells_app14 (s t : ByteArray) : Lib.strCells (s ++ t) = Lib.strCells s ++ Lib.strCells t := by
  rw [Lib.strCells_eq, Lib.strCells_eq, Lib.strCells_eq, ← Lib.byteCells_append]
  congr 1
theorem bld_size14 : (Tryd.prog.info? 71).map (·.size) = some 2 := by kernel_rfl
theorem bld_lies14 : liesAt Tryd.prog Tryd.prog.depth 71 (2 / Tryd.prog.cellsOf 71) 0 71 1 = true := by kernel_rfl
set_option maxRecDepth 100000 in
theorem copyFresh14 (b : Nat) (w : World) (h0 : w.cell? ⟨b, 0, none⟩ = some (.pointer none)) (hsh : w.shape? b = some (71, 2)) (hfz : w.frozen? ⟨b, 0, none⟩ = false) :
    Calls Tryd.prog 95 #[.pointer (some ⟨b, 0, none⟩)] w fun e w' => e = .returned (.tuple #[]) ∧ w' = w.setCell ⟨b, 0, none⟩ (.pointer (some ⟨b, 0, none⟩)) := by
  obtain ⟨j, hj, hjs⟩ := Option.map_eq_some_iff.1 bld_size14
  have HLI := Lib.hid bld_lies14
  have HSH := Lib.hid hsh
  have HJ := Lib.hid hj
  have HJS := Lib.hid hjs
  clear hsh hj hjs
  go_enter Tryd.func95, Tryd.ntmps95
  go_wp2
  rw [Lib.run_to_unsafe w ⟨b, 0, none⟩ Tryd.underlying69 Tryd.underlying119 HJ.out (by rw [HJS.out]; decide) HSH.out (Nat.zero_lt_succ 1)]
  simp only [Result.andThen]
  rw [Oper.upon_value]
  go_wp2
  rw [run_callFunc_extern Tryd.func96 (by kernel_rfl) (by kernel_rfl) (by kernel_rfl) (e := Extern.AbiNoEscape.same) (by kernel_rfl)]
  rw [Lib.run_noEscape]
  simp only [Result.andThen]
  rw [Oper.upon_value]
  go_wp2
  rw [Lib.run_from_unsafe w ⟨b, 0, none⟩ Tryd.underlying119 Tryd.underlying69 HJ.out HSH.out HLI.out]
  simp only [Result.andThen]
  rw [Oper.upon_value]
  go_wp2
  go_end0
  exact ⟨rfl, rfl⟩
set_option maxRecDepth 100000 in
theorem copyUsed14 (b : Nat) (w : World) (h0 : w.cell? ⟨b, 0, none⟩ = some (.pointer (some ⟨b, 0, none⟩))) :
    Calls Tryd.prog 95 #[.pointer (some ⟨b, 0, none⟩)] w fun e w' => e = .returned (.tuple #[]) ∧ w' = w := by
  obtain ⟨j, hj, hjs⟩ := Option.map_eq_some_iff.1 bld_size14
  have HJ := Lib.hid hj
  clear hj hjs
  go_enter Tryd.func95, Tryd.ntmps95
  go_wp2
  rw [Lib.run_neq_ptr_same w _ Tryd.underlying69 HJ.out]
  go_wp2
  go_end0
  exact ⟨rfl, rfl⟩
theorem copyB14 (base b : Nat) (s : ByteArray) (w : World) (h : Bld14 base b s w) : Calls Tryd.prog 95 #[.pointer (some ⟨b, 0, none⟩)] w fun e w' => e = .returned (.tuple #[]) ∧ Bld14 base b s w' ∧ But (OneBlock b) w w' := by
  obtain ⟨P, V, h1, h2, h3, h4⟩ := h
  rcases h2 with rfl | rfl
  · refine (copyFresh14 b w (cells2_14 h1).1 (by simp [World.shape?, h1]) (frozen_of_row w b 0 _ _ h1)).mono ?_
    rintro e w' ⟨rfl, rfl⟩
    have hb : But (OneBlock b) w (w.setCell ⟨b, 0, none⟩ (.pointer (some ⟨b, 0, none⟩))) := (But.refl (OneBlock b) w).setCell (p := ⟨b, 0, none⟩) (.inl rfl) _
    exact ⟨rfl, ⟨_, V, heap_setCell_same w b 0 _ _ _ h1, .inr rfl, row_but14 h3 hb (fun g hg e => h4 (by have e' : g = b := e; rw [← e']; exact hg)), h4⟩, hb⟩
  · refine (copyUsed14 b w (cells2_14 h1).1).mono ?_
    rintro e w' ⟨rfl, rfl⟩
    exact ⟨rfl, ⟨_, V, h1, .inr rfl, h3, h4⟩, But.refl _ _⟩
def WroteDone14 (base b : Nat) (s t : ByteArray) (w : World) (e : Ending) (w' : World) : Prop := e = .returned (.tuple #[.int .i64 t.size, .nilIface]) ∧ Bld14 base b (s ++ t) w' ∧ Wb14 b base w w'
set_option maxRecDepth 100000 in
set_option maxHeartbeats 4000000 in
theorem write14 (base b : Nat) (s t : ByteArray) (w : World) (h : Bld14 base b s w) (hl : s.size + t.size ≤ 1000000000) (hbw : base ≤ w.heap.size) :
    Calls Tryd.prog 94 #[.pointer (some ⟨b, 0, none⟩), .string t] w (WroteDone14 base b s t w) := by
  obtain ⟨i0, hi, hz0, hz1, hz2⟩ := info_parts u8_info
  have HC := Lib.hid (copyB14 base b s w h)
  have HL := Lib.hid hl
  have HBW := Lib.hid hbw
  clear h hl hbw
  go_enter Tryd.func94, Tryd.ntmps94
  go_wp2_with (go_at_call 95; (with_reducible refine HC.out.mono ?_))
  rintro e w1 ⟨rfl, ⟨P, V, h1, h2, h3, h4⟩, hb1⟩
  have c1 := (cells2_14 h1).2
  have HB1 := Lib.hid hb1
  obtain ⟨A, cap, hVe⟩ : ∃ A cap, V = .slice A s.size cap := by
    rcases h3.2 with ⟨rfl, h0⟩ | ⟨g, cap, cur, rfl, _⟩
    · exact ⟨none, 0, by rw [h0]⟩
    · exact ⟨_, _, rfl⟩
  subst hVe
  have H1 := Lib.hid h1
  have H2 := Lib.hid h2
  have H3 := Lib.hid h3
  have H4 := Lib.hid h4
  clear h1 h2 h3 h4 hb1
  go_wp2_with (at_builtin; refine Lib.wpList_append_own_string _ rfl (.tmp 12) (.tmp 13) 22 9 rfl base 5 i0 Tryd.underlying22 Tryd.underlying9 hi hz0 hz1 hz2 _ _ _ rfl H3.out t rfl ?c3 ?c4 ?c5 ?_)
  case c3 => have := HL.out; unfold maxLen; omega
  case c4 => have := HL.out; omega
  case c5 => exact Nat.le_trans HBW.out HB1.out.size
  intro v' w2 hown' hgrow _
  have hb2 : w2.heap[b]? = some (.cells #[P, .slice A s.size cap] 71 (0, 0)) := (hgrow.block b (heap_lt H1.out) (fun e => H4.out e.symm)).trans H1.out
  obtain ⟨d0, d1⟩ := cells2_14 hb2
  have f1 := frozen_of_row w2 b 1 _ _ hb2
  obtain ⟨ao, n', cap', rfl⟩ : ∃ ao n' cap, v' = .slice ao n' cap := by
    rcases hown'.2 with ⟨hv, _⟩ | ⟨g, cap, cur, hv, _⟩
    · exact ⟨_, _, _, hv⟩
    · exact ⟨_, _, _, hv⟩
  have hne : (Value.slice ao n' cap').ownBlock ≠ some b := fun e => by
    obtain ⟨_, c, hc⟩ := row_typed14 hown' e
    exact types14 hc hb2 (by decide)
  have hset : But (OneBlock b) w2 (w2.setCell ⟨b, 1, none⟩ (.slice ao n' cap')) := (But.refl (OneBlock b) w2).setCell (p := ⟨b, 1, none⟩) (.inl rfl) _
  have HPost : Hid (Bld14 base b (s ++ t) (w2.setCell ⟨b, 1, none⟩ (.slice ao n' cap')) ∧ Wb14 b base w (w2.setCell ⟨b, 1, none⟩ (.slice ao n' cap'))) := Lib.hid ⟨⟨P, _, heap_setCell_same w2 b 1 _ _ _ hb2, H2.out, by
      rw [str_cells_app14, ByteArray.size_append]
      exact row_but14 hown' hset (fun g hg e => hne (by have e' : g = b := e; rw [← e']; exact hg)), hne⟩, by
    refine ((Wb14.of_but HB1.out (fun k e => .inl e)).trans ?_).trans (Wb14.of_but hset (fun k e => .inl e))
    refine Wb14.of_but (R := fun k => some k = (Value.slice A s.size cap).ownBlock) ⟨hgrow.os, hgrow.tape, hgrow.output, hgrow.size, fun k hk hn => hgrow.block k hk hn⟩ (fun k e => ?_)
    obtain ⟨h1, c, hc⟩ := row_typed14 H3.out e.symm
    exact .inr ⟨h1, _, hc⟩⟩
  clear hown' hgrow hset hne
  go_wp2
  go_ret2
  exact ⟨rfl, HPost.out.1, HPost.out.2⟩
theorem string14 (B base b : Nat) (s : ByteArray) (w : World) (h : Bld14 base b s w) (h1 : B ≤ base) (h2 : B ≤ b) (h3 : B ≤ w.heap.size) : Calls Tryd.prog 45 #[.pointer (some ⟨b, 0, none⟩)] w fun e w' => e = .returned (.string s) ∧ Below B w w' := by
  obtain ⟨P, V, a1, a2, a3, a4⟩ := h
  have hrow : w.ownsRow B 5 1 V s.size (Lib.strCells s) := ⟨a3.1, by
    rcases a3.2 with h0 | ⟨g, cap, cur, e, b1, b2⟩
    · exact .inl h0
    · exact .inr ⟨g, cap, cur, e, Nat.le_trans h1 b1, b2⟩⟩
  have hl : (Lib.byteCells s.data.toList).length = s.size := by rw [Lib.byteCells_length]; exact Array.length_toList
  have hB : Lib.IsBuilderF 71 5 B b (Lib.byteCells s.data.toList) w := by
    rcases a2 with rfl | rfl
    · exact .inl ⟨h2, V, a1, by rw [hl]; exact World.ownsRowF_of hrow, a4⟩
    · exact .inr ⟨h2, V, a1, by rw [hl]; exact World.ownsRowF_of hrow, a4⟩
  refine (Any.Builder_String_any_k Tryd.lays169 Tryd.Builder_Extra_169 B b s.data.toList w hB h3).mono ?_
  rintro e w' ⟨rfl, _, hb, hk⟩
  exact ⟨rfl, hb⟩
end Go.Proofs.YtecbpbkehdmmcaaDoor
