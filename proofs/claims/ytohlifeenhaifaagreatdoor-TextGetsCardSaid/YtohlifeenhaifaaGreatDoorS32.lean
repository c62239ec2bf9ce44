/- Lemmas of Bld13, Chunk13, Writ13, WritB13, each with its own remark. -/
import Derived.Test.YtohlifeenhaifaaGreatDoorS30
import Derived.Shelf.Strings.BuilderK
import Derived.Test.YtohlifeenhaifaaGreatDoorS31
import Derived.Test.YtohlifeenhaifaaGreatDoorS29
import Derived.Test.YtohlifeenhaifaaGreatDoorS27
import Derived.Laws.Concat
/- (Bld13) strings.Builder: what a write leaves, block by block. Contracts; no condition but what each names. -/
namespace Go.Proofs.YtohlifeenhaifaaGreatDoor
open Go.RowKit Go.Shelf
set_option linter.unusedVariables false
set_option linter.unusedSimpArgs false

/-- Nothing but one box, and blocks of bytes from a place on. -/
def Wb13 (ob bb : Nat) (w w' : World) : Prop := But (fun k => k = ob ∨ (bb ≤ k ∧ ∃ c, w.heap[k]? = some (.cells c 5 (0, 0)))) w w'
theorem Wb13.of_but {R : Nat → Prop} {ob bb : Nat} {w w' : World} (h : But R w w') (hr : ∀ k, R k → k = ob ∨ (bb ≤ k ∧ ∃ c, w.heap[k]? = some (.cells c 5 (0, 0)))) : Wb13 ob bb w w' := h.mono hr
theorem Wb13.of_below {ob bb : Nat} {w w' : World} (h : Below w.heap.size w w') : Wb13 ob bb w w' := But.of_below h
theorem Wb13.refl (ob bb : Nat) (w : World) : Wb13 ob bb w w := But.refl _ w
theorem Wb13.trans {ob bb : Nat} {a b c : World} (h : Wb13 ob bb a b) (k : Wb13 ob bb b c) : Wb13 ob bb a c :=
  ⟨k.os.trans h.os, k.tape.trans h.tape, k.output.trans h.output, Nat.le_trans h.size k.size, fun i hi hr => by
    have e := h.block i hi hr
    exact (k.block i (Nat.lt_of_lt_of_le hi h.size) (fun hb => hr (by rw [e] at hb; exact hb))).trans e⟩
theorem Wb13.wr {ob bb : Nat} {w w' : World} (h : Wb13 ob bb w w') : Wr13 ob bb w w' := Wr13.of_but h (fun k e => by
  rcases e with e | ⟨e, c, hc⟩
  · exact .inl e
  · exact .inr ⟨e, _, _, _, hc⟩)
theorem Wb13.keep {ob bb k : Nat} {w w' : World} {o : Obj} (h : Wb13 ob bb w w') (hk : w.heap[k]? = some o) (h1 : k ≠ ob) (h2 : ∀ c, o ≠ .cells c 5 (0, 0)) : w'.heap[k]? = some o :=
  (h.block k (heap_lt hk) (by
    rintro (e | ⟨_, c, hc⟩)
    · exact h1 e
    · rw [hk] at hc; injection hc with hc; exact h2 c hc)).trans hk
/-- A builder that holds a text. -/
def Bld13 (base ob : Nat) (s : ByteArray) (W : World) : Prop :=
  ∃ A V, W.heap[ob]? = some (.cells #[A, V] 91 (0, 0)) ∧ (A = .pointer none ∨ A = .pointer (some ⟨ob, 0, none⟩)) ∧ W.ownsRow base 5 1 V s.size (Lib.strCells s) ∧ V.ownBlock ≠ some ob
theorem row_but13 {R : Nat → Prop} {A B : World} {base n : Nat} {t : TypeId} {V : Value} {xs : List Value} (h : A.ownsRow base t 1 V n xs) (hb : But R A B) (hr : ∀ g, V.ownBlock = some g → ¬ R g) : B.ownsRow base t 1 V n xs := by
  refine ⟨h.1, ?_⟩
  rcases h.2 with h0 | ⟨g, cap, cur, rfl, h1, h2, h3⟩
  · exact .inl h0
  · exact .inr ⟨g, cap, cur, rfl, h1, hb.heap h2 (hr g rfl), h3⟩
theorem row_typed13 {A : World} {base n : Nat} {t : TypeId} {V : Value} {xs : List Value} (h : A.ownsRow base t 1 V n xs) {g : Nat} (hg : V.ownBlock = some g) : base ≤ g ∧ ∃ c, A.heap[g]? = some (.cells c t (0, 0)) := by
  rcases h.2 with ⟨rfl, h0⟩ | ⟨g', cap, cur, rfl, h1, h2, h3⟩
  · cases hg
  · simp [Value.ownBlock] at hg
    subst hg
    exact ⟨h1, _, h2⟩
theorem Bld13.but {R : Nat → Prop} {A B : World} {base ob : Nat} {s : ByteArray} (h : Bld13 base ob s A) (hb : But R A B) (h1 : ¬ R ob) (h2 : ∀ k c, A.heap[k]? = some (.cells c 5 (0, 0)) → base ≤ k → ¬ R k) : Bld13 base ob s B := by
  obtain ⟨P, V, a1, a2, a3, a4⟩ := h
  exact ⟨P, V, hb.heap a1 h1, a2, row_but13 a3 hb (fun g hg => by obtain ⟨h3, c, hc⟩ := row_typed13 a3 hg; exact h2 g c hc h3), a4⟩
theorem Bld13.grow {A B : World} {base ob : Nat} {s : ByteArray} (h : Bld13 base ob s A) (hb : Below A.heap.size A B) : Bld13 base ob s B := h.but (But.of_below (R := NoBlock) hb) (fun h => h) (fun _ _ _ _ h => h)
theorem Bld13.lt {A : World} {base ob : Nat} {s : ByteArray} (h : Bld13 base ob s A) : ob < A.heap.size := by
  obtain ⟨P, V, a1, _⟩ := h
  exact heap_lt a1
theorem bld_new13 (w : World) (base : Nat) : Bld13 base w.heap.size ⟨#[]⟩ (w.alloc (.cells #[.pointer none, .slice none 0 0] 91)) :=
  ⟨_, _, heap_alloc_new w _, .inl rfl, ⟨by simp [Lib.strCells, ByteArray.size], .inl ⟨rfl, rfl⟩⟩, by simp [Value.ownBlock]⟩
theorem str_cells_app (s t : ByteArray) : Lib.strCells (s ++ t) = Lib.strCells s ++ Lib.strCells t := by
  rw [Lib.strCells_eq, Lib.strCells_eq, Lib.strCells_eq, ← Lib.byteCells_append]
  congr 1
theorem copyFresh13 (b : Nat) (w : World) (h0 : w.cell? ⟨b, 0, none⟩ = some (.pointer none)) (hsh : w.shape? b = some (91, 2)) (hfz : w.frozen? ⟨b, 0, none⟩ = false) :
    Calls Tryz.prog 84 #[.pointer (some ⟨b, 0, none⟩)] w fun e w' => e = .returned (.tuple #[]) ∧ w' = w.setCell ⟨b, 0, none⟩ (.pointer (some ⟨b, 0, none⟩)) :=
  Any.Builder_copyCheck_fresh { Tryz.lays156 with } Tryz.Builder_Extra_156.toX72 b w h0 hsh hfz
theorem copyUsed13 (b : Nat) (w : World) (h0 : w.cell? ⟨b, 0, none⟩ = some (.pointer (some ⟨b, 0, none⟩))) :
    Calls Tryz.prog 84 #[.pointer (some ⟨b, 0, none⟩)] w fun e w' => e = .returned (.tuple #[]) ∧ w' = w :=
  Any.Builder_copyCheck_used { Tryz.lays156 with } Tryz.Builder_Extra_156.toX72 b w h0
theorem copy13 (base b : Nat) (s : ByteArray) (w : World) (h : Bld13 base b s w) : Calls Tryz.prog 84 #[.pointer (some ⟨b, 0, none⟩)] w fun e w' => e = .returned (.tuple #[]) ∧ Bld13 base b s w' ∧ But (OneBlock b) w w' := by
  obtain ⟨P, V, h1, h2, h3, h4⟩ := h
  rcases h2 with rfl | rfl
  · refine (copyFresh13 b w (cells2 h1).1 (by simp [World.shape?, h1]) (frozen_of_row w b 0 _ _ h1)).mono ?_
    rintro e w' ⟨rfl, rfl⟩
    have hb : But (OneBlock b) w (w.setCell ⟨b, 0, none⟩ (.pointer (some ⟨b, 0, none⟩))) := (But.refl (OneBlock b) w).setCell (p := ⟨b, 0, none⟩) (.inl rfl) _
    exact ⟨rfl, ⟨_, V, heap_setCell_same w b 0 _ _ _ h1, .inr rfl, row_but13 h3 hb (fun g hg e => h4 (by have e' : g = b := e; rw [← e']; exact hg)), h4⟩, hb⟩
  · refine (copyUsed13 b w (cells2 h1).1).mono ?_
    rintro e w' ⟨rfl, rfl⟩
    exact ⟨rfl, ⟨_, V, h1, .inr rfl, h3, h4⟩, But.refl _ _⟩
theorem u8_info13 : (Tryz.prog.info? 5).map (fun i => (i.zero, i.size, i.bytes)) = some (some (.int .u8 0), 1, 1) := by kernel_rfl
def WroteDone (base b : Nat) (s t : ByteArray) (w : World) (e : Ending) (w' : World) : Prop := e = .returned (.tuple #[.int .i64 t.size, .nilIface]) ∧ Bld13 base b (s ++ t) w' ∧ Wb13 b base w w'
set_option maxRecDepth 100000 in
set_option maxHeartbeats 4000000 in
theorem write13 (base b : Nat) (s t : ByteArray) (w : World) (h : Bld13 base b s w) (hl : s.size + t.size ≤ 1000000000) (hbw : base ≤ w.heap.size) :
    Calls Tryz.prog 49 #[.pointer (some ⟨b, 0, none⟩), .string t] w (WroteDone base b s t w) := by
  obtain ⟨i0, hi, hz0, hz1, hz2⟩ := info_parts u8_info13
  have HC := Lib.hid (copy13 base b s w h)
  have HL := Lib.hid hl
  have HBW := Lib.hid hbw
  clear h hl hbw
  go_enter Tryz.func49, Tryz.ntmps49
  go_wp2_with (go_at_call 84; (with_reducible refine HC.out.mono ?_))
  rintro e w1 ⟨rfl, ⟨P, V, h1, h2, h3, h4⟩, hb1⟩
  have c1 := (cells2 h1).2
  have HB1 := Lib.hid hb1
  obtain ⟨A, cap, hVe⟩ : ∃ A cap, V = .slice A s.size cap := by
    rcases h3.2 with ⟨rfl, h0⟩ | ⟨g, cap, cur, rfl, _⟩
    · exact ⟨none, 0, by rw [h0]⟩
    · exact ⟨_, _, rfl⟩
  subst hVe
  have H1 := Lib.hid h1
  have H2 := Lib.hid h2
  have H3 := Lib.hid h3
  have H4 := Lib.hid h4
  clear h1 h2 h3 h4 hb1
  go_wp2_with (at_builtin; refine Lib.wpList_append_own_string _ rfl (.tmp 12) (.tmp 13) 22 9 rfl base 5 i0 Tryz.underlying22 Tryz.underlying9 hi hz0 hz1 hz2 _ _ _ rfl H3.out t rfl ?c3 ?c4 ?c5 ?_)
  case c3 => have := HL.out; unfold maxLen; omega
  case c4 => have := HL.out; omega
  case c5 => exact Nat.le_trans HBW.out HB1.out.size
  intro v' w2 hown' hgrow _
  have hb2 : w2.heap[b]? = some (.cells #[P, .slice A s.size cap] 91 (0, 0)) := (hgrow.block b (heap_lt H1.out) (fun e => H4.out e.symm)).trans H1.out
  obtain ⟨d0, d1⟩ := cells2 hb2
  have f1 := frozen_of_row w2 b 1 _ _ hb2
  obtain ⟨ao, n', cap', rfl⟩ : ∃ ao n' cap, v' = .slice ao n' cap := by
    rcases hown'.2 with ⟨hv, _⟩ | ⟨g, cap, cur, hv, _⟩
    · exact ⟨_, _, _, hv⟩
    · exact ⟨_, _, _, hv⟩
  have hne : (Value.slice ao n' cap').ownBlock ≠ some b := fun e => by
    obtain ⟨_, c, hc⟩ := row_typed13 hown' e
    exact typed_ne hc (by decide) hb2
  have hset : But (OneBlock b) w2 (w2.setCell ⟨b, 1, none⟩ (.slice ao n' cap')) := (But.refl (OneBlock b) w2).setCell (p := ⟨b, 1, none⟩) (.inl rfl) _
  have HPost : Hid (Bld13 base b (s ++ t) (w2.setCell ⟨b, 1, none⟩ (.slice ao n' cap')) ∧ Wb13 b base w (w2.setCell ⟨b, 1, none⟩ (.slice ao n' cap'))) := Lib.hid ⟨⟨P, _, heap_setCell_same w2 b 1 _ _ _ hb2, H2.out, by
      rw [str_cells_app, ByteArray.size_append]
      exact row_but13 hown' hset (fun g hg e => hne (by have e' : g = b := e; rw [← e']; exact hg)), hne⟩, by
    refine ((Wb13.of_but HB1.out (fun k e => .inl e)).trans ?_).trans (Wb13.of_but hset (fun k e => .inl e))
    refine Wb13.of_but (R := fun k => some k = (Value.slice A s.size cap).ownBlock) ⟨hgrow.os, hgrow.tape, hgrow.output, hgrow.size, fun k hk hn => hgrow.block k hk hn⟩ (fun k e => ?_)
    obtain ⟨h1, c, hc⟩ := row_typed13 H3.out e.symm
    exact .inr ⟨h1, _, hc⟩⟩
  clear hown' hgrow hset hne
  go_wp2
  go_ret2
  exact ⟨rfl, HPost.out.1, HPost.out.2⟩
theorem string13 (B base b : Nat) (s : ByteArray) (w : World) (h : Bld13 base b s w) (h1 : B ≤ base) (h2 : B ≤ b) (h3 : B ≤ w.heap.size) : Calls Tryz.prog 50 #[.pointer (some ⟨b, 0, none⟩)] w fun e w' => e = .returned (.string s) ∧ Below B w w' ∧ Lib.OthersKept 5 (some b) w w' := by
  obtain ⟨P, V, a1, a2, a3, a4⟩ := h
  have hrow : w.ownsRow B 5 1 V s.size (Lib.strCells s) := ⟨a3.1, by
    rcases a3.2 with h0 | ⟨g, cap, cur, e, b1, b2⟩
    · exact .inl h0
    · exact .inr ⟨g, cap, cur, e, Nat.le_trans h1 b1, b2⟩⟩
  have hl : (Lib.byteCells s.data.toList).length = s.size := by rw [Lib.byteCells_length]; exact Array.length_toList
  have hB : Lib.IsBuilderF 91 5 B b (Lib.byteCells s.data.toList) w := by
    rcases a2 with rfl | rfl
    · exact .inl ⟨h2, V, a1, by rw [hl]; exact World.ownsRowF_of hrow, a4⟩
    · exact .inr ⟨h2, V, a1, by rw [hl]; exact World.ownsRowF_of hrow, a4⟩
  refine (Any.Builder_String_any_k Tryz.lays169 Tryz.Builder_Extra_169 B b s.data.toList w hB h3).mono ?_
  rintro e w' ⟨rfl, _, hb, hk⟩
  exact ⟨rfl, hb, hk⟩
end Go.Proofs.YtohlifeenhaifaaGreatDoor

/- (Chunk13) slices.Chunk over bytes, sixteen at a time. Contract; no condition but what it names. -/
namespace Go.Proofs.YtohlifeenhaifaaGreatDoor
open Go.RowKit Go.Shelf
set_option linter.unusedVariables false
set_option linter.unusedSimpArgs false

/-- Where pieces begin, and how long they are. -/
def chunkIx (n : Nat) (i : Nat) : List (Nat × Nat) := if h : i < n then (i, min 16 (n - i)) :: chunkIx n (i + 16) else []
termination_by n - i
theorem chunkIx_yes {n i : Nat} (h : i < n) : chunkIx n i = (i, min 16 (n - i)) :: chunkIx n (i + 16) := by rw [chunkIx, dif_pos h]
theorem chunkIx_no {n i : Nat} (h : ¬ i < n) : chunkIx n i = [] := by rw [chunkIx, dif_neg h]
def pieceL (l : List Int) (p : Nat × Nat) : List Int := (l.drop p.1).take p.2
theorem chunk_map (l : List Int) : ∀ (k i : Nat), l.length - i ≤ k → (chunkIx l.length i).map (pieceL l) = chunk16 (l.drop i)
  | 0, i, h => by
    rw [chunkIx_no (by omega), List.drop_eq_nil_of_le (by omega), chunk16, dif_pos rfl]
    rfl
  | k + 1, i, h => by
    by_cases hi : i < l.length
    · rw [chunkIx_yes hi, List.map_cons, chunk_map l k (i + 16) (by omega)]
      conv => rhs; rw [chunk16]
      rw [dif_neg (by intro e; have := congrArg List.length e; simp at this; omega), List.drop_drop]
      congr 1
      unfold pieceL
      simp only
      by_cases h16 : 16 ≤ l.length - i
      · rw [Nat.min_eq_left h16]
      · rw [Nat.min_eq_right (by omega), List.take_of_length_le (by simp), List.take_of_length_le (by simp; omega)]
    · rw [chunkIx_no hi, List.drop_eq_nil_of_le (by omega), chunk16, dif_pos rfl]
      rfl
theorem chunk_in {n : Nat} : ∀ (k i : Nat), n - i ≤ k → ∀ p ∈ chunkIx n i, p.1 + p.2 ≤ n ∧ 0 < p.2 ∧ p.2 ≤ 16
  | 0, i, h, p, hp => by rw [chunkIx_no (by omega)] at hp; cases hp
  | k + 1, i, h, p, hp => by
    by_cases hi : i < n
    · rw [chunkIx_yes hi] at hp
      rcases List.mem_cons.1 hp with rfl | hp
      · simp only; omega
      · exact chunk_in k (i + 16) (by omega) p hp
    · rw [chunkIx_no hi] at hp; cases hp
def Mw13 (A B : World) : Prop := B = A.drew
def Kq13 (vb : Nat) (A B : World) : Prop := ∀ k, vb ≤ k → k < vb + 2 → B.heap[k]? = A.heap[k]?
structure Chk13 (vb : Nat) (V : Value) (w : World) : Prop where
  val : w.heap[vb]? = some (.cells #[V] 22 (0, 0))
  num : w.heap[vb + 1]? = some (.cells #[.int .i64 16] 3 (0, 0))
theorem Chk13.kq {vb : Nat} {V : Value} {A B : World} (h : Chk13 vb V A) (k : Kq13 vb A B) : Chk13 vb V B := ⟨(k _ (by omega) (by omega)).trans h.val, (k _ (by omega) (by omega)).trans h.num⟩
theorem slice_from13 (A off n cap i : Nat) (hi : i < n) (hc : n ≤ cap) : ∀ W, (Instr.slice 22 (.slice (some ⟨A, off, none⟩) n cap) (some (.int .i64 i)) none none).run Tryz.prog W = .ok (.slice (some ⟨A, off + i, none⟩) (n - i) (cap - i)) W := by
  intro W
  have h1 : ¬ cap - i = 0 := by omega
  have h2 : i ≤ n := by omega
  have h3 : ¬ cap = i := by omega
  simp [go_sem, Tryz.underlying22, Tryz.sizeOf5, h1, h2, h3]
theorem slice_part13 (A off n cap i k q : Nat) (hq : q = i + k) (hi : q ≤ n) (hk : 0 < k) (hc : n ≤ cap) : ∀ W, (Instr.slice 22 (.slice (some ⟨A, off, none⟩) n cap) (some (.int .i64 i)) (some (.int .i64 q)) (some (.int .i64 q))).run Tryz.prog W = .ok (.slice (some ⟨A, off + i, none⟩) k k) W := by
  intro W
  have h1 : ¬ q = i := by omega
  have h2 : q ≤ cap := by omega
  have h3 : i ≤ q := by omega
  have h4 : q - i = k := by omega
  simp [go_sem, Tryz.underlying22, Tryz.sizeOf5, h1, h2, h3, h4]
attribute [local go_sem] Oper.semAt_some
set_option maxRecDepth 100000 in
set_option maxHeartbeats 4000000 in
theorem chunk13_moves (n : Nat) (hn : 3 ≤ n) (vb A off len cap : Nat) (Ad : Option Addr) (hAd : 0 < len → Ad = some ⟨A, off, none⟩) (W : World) (h : Chk13 vb (.slice Ad len cap) W) (hc : len ≤ cap) (hl : len ≤ 1000000) :
    SeqMoves Fence.wide n Tryz.prog 83 #[.pointer (some ⟨vb, 0, none⟩), .pointer (some ⟨vb + 1, 0, none⟩)] (fun p : Nat × Nat => #[.slice (some ⟨A, off + p.1, none⟩) p.2 p.2]) Mw13 (Kq13 vb)
      (fun l => l = chunkIx len 0) (fun l => ∃ t, chunkIx len 0 = l ++ t) W := by
  intro l J X hJ hX hY h0
  have h1 : 1 ≤ n := by omega
  have hmo : Tryz.prog.follows .mixedOrders = true := by kernel_rfl
  refine callsIn_of_wp Tryz.func83 rfl trivial ?_ rfl
  simp only [Tryz.ntmps83, List.size_toArray, List.length_cons, List.length_nil, Nat.reduceAdd, Nat.reduceSub, Array.replicate_succ, Array.replicate_zero, List.push_toArray, List.append_toArray, List.nil_append, List.cons_append]
  gi_wp2
  gi_loopw [4, 5] (fun v4 _ wr => ∃ (pre : List (Nat × Nat)) (i : Nat), v4 = .int .i64 i ∧ i ≤ len + 16 ∧ Hid (J pre wr ∧ Chk13 vb (.slice Ad len cap) wr ∧ chunkIx len 0 = pre ++ chunkIx len i)) (fun v4 _ _ => len + 16 - (intOf v4).toNat)
  case atStart => exact ⟨[], 0, rfl, by omega, Lib.hid ⟨h0, h, rfl⟩⟩
  case round =>
    obtain ⟨pre, i, rfl, hib, HR⟩ := hrel
    have c0 := cells1 HR.out.2.1.val
    have c1 := cells1 HR.out.2.1.num
    by_cases hi : i < len
    · have hAe := hAd (by omega)
      subst hAe
      have hsl := slice_from13 A off len cap i hi hc
      obtain ⟨k, hk⟩ : ∃ k, k = min 16 (len - i) := ⟨_, rfl⟩
      obtain ⟨r, hr⟩ : ∃ r, r = len - i := ⟨_, rfl⟩
      have hmin : min (16 : Int) (r : Int) = (k : Int) := by omega
      obtain ⟨q, hq⟩ : ∃ q, q = i + k := ⟨_, rfl⟩
      have hsp := slice_part13 A off len cap i k q hq (by omega) (by omega) hc
      have hsum : (i : Int) + (k : Int) = (q : Int) := by omega
      have HIx : Hid (chunkIx len i = (i, k) :: chunkIx len (i + 16)) := Lib.hid (by rw [chunkIx_yes hi, hk])
      have hiL : (i : Int) < (len : Int) := by omega
      have hqb : q ≤ 1000000 := by omega
      rw [← hr] at hsl
      have HI := Lib.hid hi
      have HJd := Lib.hid (hJ _ _ _ rfl HR.out.1)
      obtain ⟨fn, tmps, assign, body, hy, hR⟩ := hY pre (i, k) wr.drew HJd.out ⟨chunkIx len (i + 16), by rw [HR.out.2.2, HIx.out]; simp⟩
      try dsimp only at hy
      clear hk hr hq hi
      gi_wp2
      gi_region_with_o (fail)
      all_goals
        gi_wp2
        refine hR.mono ?_
        rintro e W' (⟨rfl, hJ', hk⟩ | ⟨rfl, hX'⟩)
        · have HJ' := Lib.hid hJ'
          have HS : Hid (Chk13 vb (.slice (some ⟨A, off, none⟩) len cap) W') := Lib.hid (Chk13.kq (A := wr.drew) ⟨HR.out.2.1.val, HR.out.2.1.num⟩ hk)
          have d0 := cells1 HS.out.val
          have d1 := cells1 HS.out.num
          obtain ⟨i2, hi2⟩ : ∃ i2, i2 = i + 16 := ⟨_, rfl⟩
          have hi3 : (i : Int) + 16 = (i2 : Int) := by omega
          have hi4 : i2 ≤ 1000016 := by omega
          have HI2 := Lib.hid hi2
          clear hJ' hk c0 c1 hi2
          gi_wp2
          go_roundw
          case rel =>
            exact ⟨pre ++ [(i, k)], i2, rfl, by have := HI2.out; have := HI.out; omega, Lib.hid ⟨HJ'.out, HS.out, by rw [HR.out.2.2, HIx.out, HI2.out]; simp⟩⟩
          case measure =>
            have h1 := HI2.out
            have h2 := HI.out
            simp [intOf]
            omega
        · have HX' := Lib.hid hX'
          clear hX'
          gi_wp2
          refine bodyPost_ret (results_none rfl _ _ _) rfl ?_
          exact ⟨⟨_, rfl⟩, .inr ⟨_, ⟨chunkIx len (i + 16), by rw [HR.out.2.2, HIx.out]; simp⟩, HX'.out⟩⟩
    · have hiL : ¬ (i : Int) < (len : Int) := by omega
      have HE : Hid (chunkIx len 0 = pre) := Lib.hid (by rw [HR.out.2.2, chunkIx_no hi]; simp)
      clear hi
      gi_wp2
      go_end0
      exact ⟨⟨_, rfl⟩, .inl (by rw [HE.out]; exact HR.out.1)⟩
end Go.Proofs.YtohlifeenhaifaaGreatDoor

/- (Writ13) A module's text, piece by piece; what stands in memory while it is written. Plain lemmas; no condition but what each names. -/
namespace Go.Proofs.YtohlifeenhaifaaGreatDoor
open Go.RowKit Go.Shelf
set_option linter.unusedVariables false
set_option linter.unusedSimpArgs false

theorem items_args13 (n : Int) (args : List Int) : ∀ (L rs : List Int), conL L = true → ∀ x ∈ args, (108, x) ∈ itemsL n args L rs
  | [], rs, h, x, hx => by simp [conL] at h
  | q :: L, rs, h, x, hx => by
    simp only [itemsL, List.mem_append]
    by_cases hq : q = 108
    · subst hq
      exact .inl (by simp [heldOf, show isReg 108 = false from rfl]; exact hx)
    · exact .inr (items_args13 n args L _ (by simpa [conL, hq] using h) x hx)
theorem args_in13 {y : InsV} (h : y.chk = 0) : ∀ x ∈ y.args, InI x := by
  have ho := chk_ok h
  intro x hx
  by_cases hc : conL y.letters = true
  · have hf := ho.fit _ (items_args13 y.n y.args y.letters [y.a, y.b, y.c] hc x hx)
    unfold FitQ at hf
    simp [widthV] at hf
    unfold InI
    omega
  · have hb := ho.bare
    unfold bareV at hb
    rw [Bool.and_eq_true, Bool.and_eq_true] at hb
    have := hb.2.2
    simp [hc] at this
    rw [this] at hx
    cases hx
theorem fun13_of {f : FunV} (h : f.err = 0) (hb : FunB f) (hi : ∀ y ∈ f.code, InsB y) : Fun13 f :=
  ⟨hb, fun y hy => ⟨ferr_chk h y hy, hi y hy, args_in13 (ferr_chk h y hy)⟩⟩
theorem funs13_of {w : World} {B : Nat} {F : Value} {data : List Int} {fs : List FunV} (hF : IsFuns w B F fs) (he : (ModV.mk data fs).err = 0) : ∀ f ∈ fs, Fun13 f := by
  intro f hf
  refine fun13_of (mem_err13 (err_funs13 he) f hf) (hF.2.1 f hf) ?_
  obtain ⟨b, off, cap, _, _, _, hc⟩ := hF.plain (List.length_pos_of_mem hf)
  obtain ⟨i, hi, rfl⟩ := List.getElem_of_mem hf
  obtain ⟨C, hC, _⟩ := hc i hi
  rw [List.getD_eq_getElem?_getD, List.getElem?_eq_getElem hi] at hC
  exact hC.2.1
theorem textOf_app (a b : List (List Int)) : textOf (a ++ b) = textOf a ++ textOf b := by simp [textOf]
theorem textOf_one (l : List Int) : textOf [l] = l ++ [10] := by simp [textOf]
theorem strT_snoc (a : List (List Int)) (l : List Int) : strOfNums (textOf (a ++ [l])) = strOfNums (textOf a) ++ (strOfNums l ++ ⟨#[10]⟩) := by
  rw [textOf_app, str_app, textOf_one, str_app]
  rfl
/-- The line of a piece of the data. -/
def pieceT (data : List Int) (p : Nat × Nat) : List Int := joinW (bytesW :: (pieceL data p).map numL)
theorem pieces_text (data : List Int) : (chunkIx data.length 0).map (pieceT data) = (chunk16 data).map (fun c => joinW (bytesW :: c.map numL)) := by
  have h := chunk_map data data.length 0 (by omega)
  rw [List.drop_zero] at h
  rw [← h, List.map_map]
  rfl
theorem put_but13 (A : World) (l : Nat) (o : Obj) : But (OneBlock l) A (A.putObj l o) := by
  have h := grownBy_putObj' A l o
  exact ⟨h.os, h.tape, h.output, h.size, fun k hk hn => h.block k hk (fun e => hn (by injection e))⟩
/-- What stands in memory while a text is written. -/
structure Wrt13 (w : World) (D F : Value) (t : List (List Int)) (W : World) : Prop where
  bld : Bld13 (w.heap.size + 4) (w.heap.size + 1) (strOfNums (textOf t)) W
  mod : W.heap[w.heap.size]? = some (.cells #[D, F] 25 (0, 0))
  bel : Below w.heap.size w W
  big : w.heap.size + 4 ≤ W.heap.size
theorem Wrt13.but {R : Nat → Prop} {w A B : World} {D F : Value} {t : List (List Int)} (h : Wrt13 w D F t A) (hb : But R A B) (h1 : ∀ k c t, A.heap[k]? = some (.cells c t (0, 0)) → ¬ R k) (h2 : ∀ k, R k → w.heap.size ≤ k) : Wrt13 w D F t B := by
  obtain ⟨P, V, a1, a2, a3, a4⟩ := h.bld
  exact ⟨h.bld.but hb (h1 _ _ _ a1) (fun k c hc _ => h1 _ _ _ hc), hb.heap h.mod (h1 _ _ _ h.mod), But.below h.bel hb h.bel.size h2, Nat.le_trans h.big hb.size⟩
theorem Wrt13.turns {w : World} {D F : Value} {t : List (List Int)} {b : Nat} (hb : w.heap.size ≤ b) : Turns b (Wrt13 w D F t) := fun A l o o' hl ho hc h => by
  have e1 : ∀ k, OneBlock l k → k = l := fun k e => e
  exact h.but (put_but13 A l o') (fun k c t hk e => by
    have := e1 k e
    subst this
    rw [hk] at ho
    injection ho with ho
    subst ho
    cases hc) (fun k e => by have := e1 k e; omega)
theorem Wrt13.drew {w A : World} {D F : Value} {t : List (List Int)} (h : Wrt13 w D F t A) : Wrt13 w D F t A.drew :=
  h.but (But.refl NoBlock A).drew (fun _ _ _ _ h => h) (fun _ h => h.elim)
theorem Wrt13.grow {w A B : World} {D F : Value} {t : List (List Int)} (h : Wrt13 w D F t A) (hb : Below A.heap.size A B) : Wrt13 w D F t B :=
  h.but (But.of_below (R := NoBlock) hb) (fun _ _ _ _ h => h) (fun _ h => h.elim)
/-- A line more. -/
theorem Wrt13.line {w A B C : World} {D F : Value} {t : List (List Int)} (h : Wrt13 w D F t A) (l : List Int) (hb : Below A.heap.size A B) (hB : Bld13 (w.heap.size + 4) (w.heap.size + 1) (strOfNums (textOf t) ++ (strOfNums l ++ ⟨#[10]⟩)) C) (hw : Wb13 (w.heap.size + 1) (w.heap.size + 4) B C) :
    Wrt13 w D F (t ++ [l]) C ∧ Wb13 (w.heap.size + 1) (w.heap.size + 4) A C := by
  have h2 := h.grow hb
  refine ⟨⟨by rw [strT_snoc]; exact hB, hw.keep h2.mod (by omega) (fun c e => by injection e with _ e _; exact absurd e (by decide)), h2.bel.trans (hw.wr.below (by omega) (by omega) h2.bel.size), Nat.le_trans h2.big hw.size⟩, (Wb13.of_below hb).trans hw⟩
theorem wr_oth13 {rb bb : Nat} {A B : World} {base : Nat} {s : ByteArray} (h : Wr13 rb bb A B) (hb : Bld13 base rb s A) : KeepsOthers A B := by
  obtain ⟨P, V, hr, _⟩ := hb
  exact ⟨h.size, fun k o ho hc => (h.block k (heap_lt ho) (by
    rintro (rfl | ⟨_, c', t', f', e⟩)
    · rw [hr] at ho; injection ho with ho; subst ho; cases hc
    · rw [e] at ho; injection ho with ho; subst ho; cases hc)).trans ho⟩
theorem wpListIn_one1 {F : Fence} {n : Nat} {P : Program} {W : World} {ops : Array Oper} {rest : List Oper} {o : Oper} {a : Act} {Q : Exit → Act → World → Prop} (hgd : o.guard = none) (s x : Operand) {ts t : TypeId}
    (ho : o.op = .call { callee := .builtin .append, args := #[s, x], argTypes := #[ts, ts] }) {z : Value} {bytes : Nat} (hts : P.underlying ts = some (.slice t)) (hinf : (P.info? t).map (fun i => (i.zero, i.size, i.bytes)) = some (some z, 1, bytes)) (hz1 : z.cells.size = 1)
    {K : Value → Prop} (hKz : ∀ u ∈ z.cells.toList, K u) {V u : Value} {xs : List Value} {base g : Nat} (hs : a.eval s = V) (hx : a.eval x = .slice (some ⟨g, 0, none⟩) 1 1) (hgs : g = W.heap.size)
    (h : Owns W base t 1 K V xs.length xs) (hu : K u) (hu1 : u.oneCell' = true) (hb : base ≤ W.heap.size) (hl : xs.length ≤ 1000000000) (hby : bytes ≤ 100000)
    (hK : ∀ V' W', More1 t base K W W' V V' xs u → wpListIn F n P ops Q rest (a.put o.dst V') W') :
    wpListIn F n P ops Q (o :: rest) a (W.alloc (.cells #[u] t)) := by
  subst hgs
  refine wpListIn_plain hgd fun _ hK' => ?_
  obtain ⟨V', W', hr, hm⟩ := run_one1 (ty := o.type) hts hinf hz1 hKz h hu hu1 hb hl hby
  unfold Oper.wpIn
  refine ⟨?_, ?_⟩
  · simp [Oper.about, ho, resolve, Target.leads, Sem.run_pure]
  · rw [Oper.semAt_plain F _ _ (by rw [ho]; intro c hc; cases hc)]
    simp only [execOp, ho, resolve, invoke, builtin, Sem.run_bind, Sem.run_pure, Result.andThen_ok, List.map_toArray, List.map_cons, List.map_nil, hs, hx, hr]
    exact hK' _ _ (hK V' W' hm)
theorem owns_nums13 {w : World} {base : Nat} {V : Value} {xs : List Int} (h : Owns w base 3 1 (IsNum .i64) V xs.length (xs.map (Value.int .i64))) (hl : xs.length ≤ 1000000000) : IsNums .i64 w w.heap.size V xs := by
  refine ⟨by unfold maxLen; omega, ?_⟩
  rcases h.1.2 with ⟨rfl, h0⟩ | ⟨g, cap, cur, rfl, h1, h2, h3, h4, h5, h6⟩
  · exact .inl ⟨rfl, List.eq_nil_of_length_eq_zero h0⟩
  · refine .inr ⟨⟨g, 0, none⟩, cap, rfl, h3, fun _ => heap_lt h2, fun i hi => ?_⟩
    exact h.1.cells (g := g) rfl i (.int .i64 (xs.getD i 0)) (by rw [List.getElem?_map, List.getElem?_eq_getElem hi]; simp [List.getD, List.getElem?_eq_getElem hi])
end Go.Proofs.YtohlifeenhaifaaGreatDoor

/- (WritB13) The landed text.written: a module's text. Contract; no condition but what it names. -/
namespace Go.Proofs.YtohlifeenhaifaaGreatDoor
open Go.RowKit Go.Shelf
set_option linter.unusedVariables false
set_option linter.unusedSimpArgs false

abbrev chunkW (V : Value) (w : World) : World := (w.alloc (.cells #[V] 22)).alloc (.cells #[.int .i64 16] 3)
theorem chunkSeq13 (V : Value) (A : Option Addr) (n c : Nat) (hV : V = .slice A n c) (w : World) : Calls Tryz.prog 48 #[V, .int .i64 16] w fun e w' =>
    e = .returned (.func (.func 83) #[] #[.pointer (some ⟨w.heap.size, 0, none⟩), .pointer (some ⟨w.heap.size + 1, 0, none⟩)]) ∧ chunkW V w = w' := by
  subst hV
  go_enter Tryz.func48, Tryz.ntmps48
  go_wp2
  go_ret
  simp
theorem startW13 (D F : Value) (w : World) : ∃ W0, W0 = chunkW D ((w.alloc (.cells #[D, F] 25)).alloc (.cells #[.pointer none, .slice none 0 0] 91)) ∧ W0.heap.size = w.heap.size + 4 ∧ Chk13 (w.heap.size + 2) D W0 ∧ Wrt13 w D F [] W0 := by
  obtain ⟨W1, h1⟩ : ∃ W1, W1 = w.alloc (.cells #[D, F] 25) := ⟨_, rfl⟩
  obtain ⟨W2, h2⟩ : ∃ W2, W2 = W1.alloc (.cells #[.pointer none, .slice none 0 0] 91) := ⟨_, rfl⟩
  obtain ⟨W3, h3⟩ : ∃ W3, W3 = W2.alloc (.cells #[D] 22) := ⟨_, rfl⟩
  obtain ⟨W4, h4⟩ : ∃ W4, W4 = W3.alloc (.cells #[.int .i64 16] 3) := ⟨_, rfl⟩
  have s1 : W1.heap.size = w.heap.size + 1 := by rw [h1]; simp
  have s2 : W2.heap.size = w.heap.size + 2 := by rw [h2]; simp; omega
  have s3 : W3.heap.size = w.heap.size + 3 := by rw [h3]; simp; omega
  have s4 : W4.heap.size = w.heap.size + 4 := by rw [h4]; simp; omega
  have b1 : Below w.heap.size w W1 := by rw [h1]; exact (Below.refl _ _).alloc (Nat.le_refl _) _
  have b2 : Below W1.heap.size W1 W2 := by rw [h2]; exact (Below.refl _ _).alloc (Nat.le_refl _) _
  have b3 : Below W2.heap.size W2 W3 := by rw [h3]; exact (Below.refl _ _).alloc (Nat.le_refl _) _
  have b4 : Below W3.heap.size W3 W4 := by rw [h4]; exact (Below.refl _ _).alloc (Nat.le_refl _) _
  have k0 := heap_alloc_new w (.cells #[D, F] 25)
  have k1 := bld_new13 W1 (w.heap.size + 4)
  have k2 := heap_alloc_new W2 (.cells #[D] 22)
  have k3 := heap_alloc_new W3 (.cells #[.int .i64 16] 3)
  rw [← h1] at k0
  rw [← h2, s1] at k1
  rw [← h3, s2] at k2
  rw [← h4, s3] at k3
  have b24 : Below W2.heap.size W2 W4 := b3.trans (b4.mono (by omega))
  refine ⟨W4, by rw [h4, h3, h2, h1], s4, ⟨(b4.block _ (by omega)).trans k2, k3⟩, k1.grow b24, (b24.block _ (by omega)).trans ((b2.block _ (by omega)).trans k0), b1.trans ((b2.trans (b24.mono (by omega))).mono (by omega)), by omega⟩
theorem take_getD13 {α : Type} (l : List α) (d : α) {k : Nat} (h : k < l.length) : l.take (k + 1) = l.take k ++ [l.getD k d] := by
  rw [List.take_succ_eq_append_getElem h, List.getD_eq_getElem?_getD, List.getElem?_eq_getElem h]
  rfl
theorem ins_lnS (y : InsV) : strOfNums (insLn y) = ⟨#[32, 32]⟩ ++ strOfNums (insT y) := by
  have e : insLn y = [32, 32] ++ insT y := by unfold insLn; rw [insT_join]; rfl
  rw [e, str_app]
  rfl
attribute [local go_sem] Oper.semAt_some
set_option maxRecDepth 100000 in
set_option maxHeartbeats 16000000 in
theorem written13_in (n : Nat) (hn : 6 ≤ n) (D F : Value) (data : List Int) (fs : List FunV) (w : World) (hD : IsBytes w w.heap.size D data) (hF : IsFuns w w.heap.size F fs) (hG : ∀ f ∈ fs, Fun13 f) (hT : (textM ⟨data, fs⟩).length ≤ 100000000) (hl : data.length ≤ 1000000) (hE : Env13 w) :
    CallsIn Fence.wide n Tryz.prog 26 #[.agg #[D, F]] w (Makes w (.string (strOfNums (textM ⟨data, fs⟩)))) := by
  have h1 : 1 ≤ n := by omega
  obtain ⟨DA, dc, hDe⟩ := hD.len
  obtain ⟨FA, fc, hFe⟩ := hF.len
  have HD := Lib.hid hD
  have HF := Lib.hid hF
  have HG := Lib.hid hG
  have HT := Lib.hid hT
  have HE := Lib.hid hE
  have HLn := Lib.hid hl
  obtain ⟨dn, hdn⟩ : ∃ dn, dn = data.length := ⟨_, rfl⟩
  obtain ⟨fn0, hfn⟩ : ∃ fn0, fn0 = fs.length := ⟨_, rfl⟩
  rw [← hdn] at hDe
  rw [← hfn] at hFe
  have HDn := Lib.hid hdn
  have HFn := Lib.hid hfn
  have hfmax := hF.1
  unfold maxLen at hfmax
  rw [← hfn] at hfmax
  have HDe := Lib.hid hDe
  have HFe := Lib.hid hFe
  subst hDe hFe
  clear hD hF hG hT hE hl hdn hfn
  refine callsIn_of_wp_marks Tryz.func26 rfl trivial ?_ rfl
  simp only [Tryz.ntmps26, List.size_toArray, List.length_cons, List.length_nil, Nat.reduceAdd, Nat.reduceSub, Array.replicate_succ, Array.replicate_zero, List.push_toArray, List.append_toArray, List.nil_append, List.cons_append]
  gi_wp2_with (refine ⟨trivial, ?_⟩; gi_at_call 48; (with_reducible refine (callsIn_wide.2 (chunkSeq13 _ _ _ _ rfl _)).mono ?_); rintro e w' ⟨rfl, rfl⟩)
  obtain ⟨W0, hW0, hs0, hchk, hwrt⟩ := startW13 (.slice DA dn dc) (.slice FA fn0 fc) w
  rw [← hW0]
  clear hW0
  simp only [Nat.add_assoc, Nat.reduceAdd]
  have HM0 := Lib.hid hwrt
  have HS0 := Lib.hid hs0
  have HChk := Lib.hid hchk
  have hdc : dn ≤ dc := by
    by_cases h0 : 0 < data.length
    · obtain ⟨_, _, _, hv, hc, _⟩ := HD.out.plain h0
      injection hv with _ _ hv
      have := HDn.out
      omega
    · have := HDn.out; omega
  have HAd : Hid (∃ A off, 0 < dn → DA = some ⟨A, off, none⟩ ∧ A < w.heap.size ∧ ∀ i, i < dn → w.cell? ⟨A, off + i, none⟩ = some (.int .u8 (data.getD i 0))) := Lib.hid (by
    by_cases h0 : 0 < data.length
    · obtain ⟨A, off, c, hv, hc, hA, hcl⟩ := HD.out.plain h0
      injection hv with hv _ _
      exact ⟨A, off, fun _ => ⟨hv, hA, fun i hi => hcl i (by have := HDn.out; omega)⟩⟩
    · exact ⟨0, 0, fun h => absurd h (by have := HDn.out; omega)⟩)
  obtain ⟨A, off, hAd⟩ := HAd.out
  have HA := Lib.hid hAd
  clear hwrt hs0 hchk hAd HAd
  refine range_moves (n := n) (w := W0) rfl h1 (gf := 83) (lb := #[.pointer (some ⟨w.heap.size + 2, 0, none⟩), .pointer (some ⟨w.heap.size + 3, 0, none⟩)]) rfl trivial (enters_of Tryz.func83 (by kernel_rfl) rfl)
    (fun W hb => chunk13_moves (n - 1) (by omega) (w.heap.size + 2) A off dn dc DA (fun h => (HA.out h).1) W ⟨(hb.block _ (by have := HS0.out; omega)).trans HChk.out.val, (hb.block _ (by have := HS0.out; omega)).trans HChk.out.num⟩ hdc (by have := HLn.out; have := HDn.out; omega))
    (fun h k i h1 h2 => (k i h1 h2).trans (h i h1 h2)) (fun A l o o' hl _ _ _ i h1 h2 => World.putObj_heap_other (by have := HS0.out; omega)) (fun A B k o hm ho hc => by have e : B = A.drew := hm; subst e; exact ho) (fun _ => rfl)
    (fun pre W => Wrt13 w (.slice DA dn dc) (.slice FA fn0 fc) (pre.map (pieceT data)) W) (fun _ W => False) (fun _ _ _ hm h => by have e := hm; unfold Mw13 at e; subst e; exact h.drew) (fun _ _ _ hm h => h) (fun _ => Wrt13.turns (by have := HS0.out; omega)) (fun _ _ _ _ _ _ _ _ h => h)
    (fun W hb => HM0.out.grow hb)
    (fun p => { tmps := #[.agg #[.slice DA dn dc, .slice FA fn0 fc], .pointer (some ⟨w.heap.size, 0, none⟩), .string ⟨#[]⟩, .pointer (some ⟨w.heap.size + 1, 0, none⟩), .slice (some ⟨A, off + p.1, none⟩) p.2 p.2, undef, undef, undef, undef, undef, undef, undef, .pointer (some ⟨w.heap.size, 0, none⟩), .slice DA dn dc, .func (.func 83) #[] #[.pointer (some ⟨w.heap.size + 2, 0, none⟩), .pointer (some ⟨w.heap.size + 3, 0, none⟩)], .slice (some ⟨A, off + p.1, none⟩) p.2 p.2, undef, undef, undef, undef, undef, undef, undef, undef, undef, undef, undef, undef, undef, undef, undef, undef, undef, undef, undef, undef, undef, undef, undef, undef, undef, undef, undef, undef, undef, undef, undef, undef, undef, undef, undef, undef, undef, undef, undef, undef, undef, undef, undef, undef, undef, undef, undef, undef], defers := [] }) ?assign ?body ?done ?stop
  case assign =>
    intro l x W K hK
    gi_wp2
    exact hK
  case body =>
    rintro l pre ⟨pi, pk⟩ W hw ⟨t, ht⟩
    have hin := chunk_in (n := dn) dn 0 (by omega) (pi, pk) (by rw [ht]; simp)
    simp only at hin
    have hpk : pk ≤ 16 := hin.2.2
    have HPos : Hid (0 < dn) := Lib.hid (by omega)
    obtain ⟨hA1, hA2, hA3⟩ := HA.out (by omega)
    have HC : Hid (∀ j, j < pk → W.cell? ⟨A, off + pi + j, none⟩ = some (.int .u8 ((pieceL data (pi, pk)).getD j 0))) := Lib.hid (fun j hj => by
      have h1 := hA3 (pi + j) (by omega)
      rw [show off + pi + j = off + (pi + j) by omega, hw.bel.cell (p := ⟨A, off + (pi + j), none⟩) hA2, h1]
      congr 2
      unfold pieceL
      simp only [List.getD_eq_getElem?_getD]
      rw [List.getElem?_take, if_pos hj, List.getElem?_drop])
    have hlp : (pieceL data (pi, pk)).length = pk := by unfold pieceL; simp; have := HDn.out; omega
    have hbd : ∀ x ∈ pieceL data (pi, pk), 0 ≤ x ∧ x < 256 := fun x hx => HD.out.1 x (List.mem_of_mem_drop (List.mem_of_mem_take hx))
    have hpre : textM ⟨data, fs⟩ = textOf (pre.map (pieceT data)) ++ (pieceT data (pi, pk) ++ [10]) ++ (textOf (t.map (pieceT data)) ++ textOf (fs.flatMap funLn)) := by
      unfold textM linesM
      have h2 := pieces_text data
      rw [← HDn.out, ht] at h2
      rw [← h2, textOf_app]
      simp [textOf]
    have hsz := congrArg List.length hpre
    simp only [List.length_append, List.length_singleton] at hsz
    have hjl : (pieceT data (pi, pk)).length ≤ 100000000 := by have := HT.out; omega
    obtain ⟨ns, hns⟩ : ∃ ns, ns = pieceL data (pi, pk) := ⟨_, rfl⟩
    rw [← hns] at HC hlp hbd
    have hin2 : ∀ x ∈ ns, InI x := fun x hx => by have := hbd x hx; unfold InI; omega
    have HIn := Lib.hid hin2
    have HNs := Lib.hid hlp
    have HBd := Lib.hid hbd
    obtain ⟨jn, hjn⟩ : ∃ jn, jn = strOfNums (pieceT data (pi, pk)) := ⟨_, rfl⟩
    have hjs : jn.size ≤ 100000000 := by rw [hjn, str_size]; exact hjl
    have HJoin : Hid (∀ (V : Value) (W2 : World), Owns W2 W.heap.size 3 1 (IsNum .i64) V ns.length (ns.map (Value.int .i64)) → Below W.heap.size W W2 → Calls Tryz.prog 32 #[.string ⟨#[98, 121, 116, 101, 115]⟩, V] W2 (Makes W2 (.string jn))) := Lib.hid (fun V W2 hV hb => by
      have h := joined13_any bytesW V ns W2 (owns_nums13 hV (by omega)) hin2 (by omega) (by decide) (HE.out.grow (hw.bel.trans (hb.mono hw.bel.size)))
      rw [show strOfNums bytesW = ⟨#[98, 121, 116, 101, 115]⟩ by decide +kernel] at h
      rw [hjn, pieceT, ← hns]
      exact h)
    have HWrite : Hid (∀ W2, Below W.heap.size W W2 → Calls Tryz.prog 49 #[.pointer (some ⟨w.heap.size + 1, 0, none⟩), .string (jn ++ ⟨#[10]⟩)] W2 (WroteDone (w.heap.size + 4) (w.heap.size + 1) (strOfNums (textOf (pre.map (pieceT data)))) (jn ++ ⟨#[10]⟩) W2)) := Lib.hid (fun W2 hb =>
      write13 _ _ _ _ W2 (hw.grow hb).bld (by
        rw [str_size, ByteArray.size_append, hjn, str_size, show (⟨#[10]⟩ : ByteArray).size = 1 from rfl]
        have := HT.out
        omega) (hw.grow hb).big)
    have HW := Lib.hid hw
    have HJn := Lib.hid hjn
    clear hpre hsz hjl hns hjn hw ht hin hA1 hA2 hA3 hlp hbd hin2
    gi_wp2
    gi_loopw [5, 7, 18] (fun v5 _ v18 wr => ∃ k : Nat, v18 = .int .i64 k ∧ k ≤ pk ∧ Hid (Owns wr W.heap.size 3 1 (IsNum .i64) v5 k ((ns.take k).map (Value.int .i64)) ∧ Below W.heap.size W wr)) (fun _ _ v18 _ => pk - (intOf v18).toNat)
    case atStart => exact ⟨0, rfl, Nat.zero_le _, Lib.hid ⟨Owns.nil _ _ _ _ _, Below.refl _ _⟩⟩
    case round =>
      obtain ⟨k, rfl, hk, HR⟩ := hrel
      obtain ⟨A5, c5, he5⟩ := owns_len HR.out.1
      subst he5
      by_cases hlt : k < pk
      · have hcv : wr.cell? ⟨A, off + pi + k, none⟩ = some (.int .u8 (ns.getD k 0)) := (HR.out.2.cell (p := ⟨A, off + pi + k, none⟩) (show A < W.heap.size by have := (HA.out HPos.out).2.1; have := HW.out.bel.size; omega)).trans (HC.out k hlt)
        have HT2 : Hid (ns.take (k + 1) = ns.take k ++ [ns.getD k 0] ∧ 0 ≤ ns.getD k 0 ∧ ns.getD k 0 < 256) := Lib.hid ⟨take_snoc' (by have := HNs.out; omega), by
          have hlt2 : k < ns.length := by have := HNs.out; omega
          have e : ns.getD k 0 = ns[k] := by simp [List.getD, List.getElem?_eq_getElem hlt2]
          rw [e]
          exact HBd.out _ (List.getElem_mem hlt2)⟩
        have HLen : Hid (((ns.take k).map (Value.int .i64)).length = k) := Lib.hid (by rw [List.length_map, List.length_take]; have := HNs.out; omega)
        have HO1 : Hid (Owns wr W.heap.size 3 1 (IsNum .i64) (.slice A5 k c5) ((ns.take k).map (Value.int .i64)).length ((ns.take k).map (Value.int .i64))) := by rw [HLen.out]; exact Lib.hid HR.out.1
        have HZ := Lib.hid HR.out.2.size
        have hx0 := HT2.out.2.1
        have hx1 := HT2.out.2.2
        generalize ns.getD k 0 = x at *
        gi_wp2_with (gi_at_builtin; refine wpListIn_one1 rfl (.tmp 22) (.tmp 25) rfl Tryz.underlying26 int_info rfl (zero_num .i64) rfl rfl rfl HO1.out ⟨_, rfl⟩ rfl HZ.out (by rw [HLen.out]; omega) (by decide) ?_; intro V' W' hM; have hO2 := hM.own; rw [List.length_append, HLen.out, List.length_singleton] at hO2; have HO2 := Lib.hid hO2; have HMo := Lib.hid hM.bel; obtain ⟨A', c', he'⟩ := owns_len hO2; subst he'; clear hM hO2)
        go_roundw
        case rel =>
          refine ⟨k + 1, by go_num, by omega, Lib.hid ⟨?_, HR.out.2.trans HMo.out⟩⟩
          rw [HT2.out.1, List.map_append]
          exact HO2.out
        case measure => simp [intOf]; omega
      · have hkm : k = pk := by omega
        subst hkm
        have HO : Hid (Owns wr W.heap.size 3 1 (IsNum .i64) (.slice A5 k c5) ns.length (ns.map (Value.int .i64))) := Lib.hid (by
          have h := HR.out.1
          rw [List.take_of_length_le (by rw [HNs.out]; exact Nat.le_refl _)] at h
          rw [HNs.out]
          exact h)
        have hcat : ¬ (9223372036854775807 : Int) < (jn.size : Int) + 1 := by omega
        gi_wp2
        refine ⟨trivial, fun h => by (simp [Fence.wide] at h), ?_⟩
        (with_reducible refine (CallsIn.inRound l (callsIn_wide.2 (HJoin.out _ _ HO.out HR.out.2))).mono ?_)
        rintro e W2 ⟨rfl, hb2⟩
        have HB2 := Lib.hid (HR.out.2.trans (hb2.mono HR.out.2.size))
        clear hb2
        gi_wp2
        refine ⟨trivial, fun h => by (simp [Fence.wide] at h), ?_⟩
        (with_reducible refine (CallsIn.inRound l (callsIn_wide.2 (HWrite.out _ HB2.out))).mono ?_)
        rintro e W3 ⟨rfl, hbl, hwr⟩
        have HL := Lib.hid (HW.out.line (pieceT data (pi, k)) HB2.out (by rw [← HJn.out]; exact hbl) hwr)
        clear hbl hwr
        gi_wp2
        exact ⟨wr_oth13 HL.out.2.wr HW.out.bld, fun i h1 h2 => HL.out.2.block i (by have := HW.out.big; omega) (by rintro (e | ⟨e, _⟩) <;> omega), by show Wrt13 w _ _ ((pre ++ [(pi, k)]).map (pieceT data)) _; rw [List.map_append]; exact HL.out.1⟩
  case done =>
    intro Dd ys W hDd hS hmid hK
    obtain ⟨T0, hT0⟩ : ∃ T0, T0 = (chunk16 data).map (fun c => joinW (bytesW :: c.map numL)) := ⟨_, rfl⟩
    have hys : ys.map (pieceT data) = T0 := by
      have h := pieces_text data
      rw [hS, HDn.out, h, hT0]
    rw [hys] at hmid
    have HTx : Hid (∀ k, k ≤ fs.length → (textOf (T0 ++ (fs.take k).flatMap funLn)).length ≤ 100000000) := Lib.hid (fun k hk => by
      have h := HT.out
      unfold textM linesM at h
      try simp only at h
      rw [← hT0] at h
      have e : fs = fs.take k ++ fs.drop k := (List.take_append_drop k fs).symm
      rw [e, List.flatMap_append, ← List.append_assoc, textOf_app, List.length_append] at h
      omega)
    have HTM : Hid (textM ⟨data, fs⟩ = textOf (T0 ++ fs.flatMap funLn)) := Lib.hid (by unfold textM linesM; rw [hT0])
    have HM := Lib.hid hmid
    have HK := Lib.hid hK
    have HDd := Lib.hid hDd
    have hm1 := (cells2 hmid.mod).2
    clear hys hT0 hmid hK hS hDd
    gi_wp2
    gi_loopw [35] (fun v35 wr => ∃ k : Nat, v35 = .int .i64 k ∧ k ≤ fn0 ∧ Hid (Wrt13 w (.slice DA dn dc) (.slice FA fn0 fc) (T0 ++ (fs.take k).flatMap funLn) wr ∧ wr.heap[Dd]? = some (.deferred (some [])))) (fun v35 _ => fn0 - (intOf v35).toNat)
    case atStart => exact ⟨0, rfl, Nat.zero_le _, Lib.hid ⟨by simpa using HM.out, HK.out⟩⟩
    case round =>
      obtain ⟨k, rfl, hk, HR⟩ := hrel
      by_cases hlt : k < fn0
      · have HKl := Lib.hid hlt
        have hkl : k < fs.length := by rw [← HFn.out]; exact hlt
        obtain ⟨b, fo, cap', hV, hcp, hbB, hcl⟩ := HF.out.plain (by omega)
        rw [← HFn.out] at hV
        injection hV with e1 _ e3
        subst e1 e3
        obtain ⟨C, hC, hcell⟩ := hcl k hkl
        obtain ⟨⟨p, r, a, l⟩, hy⟩ : ∃ y, y = fs.getD k .zero := ⟨_, rfl⟩
        rw [← hy] at hC hcell
        dsimp only at hC
        have hmem : (⟨p, r, a, l⟩ : FunV) ∈ fs := by rw [hy]; simp [List.getD, List.getElem?_eq_getElem hkl]
        have HFun := Lib.hid (HG.out _ hmem)
        have HTk : Hid (fs.take (k + 1) = fs.take k ++ [⟨p, r, a, l⟩]) := Lib.hid (by rw [hy]; exact take_getD13 fs _ hkl)
        have hbl := HR.out.1.bel
        have f0 : wr.cell? ⟨b, fo + k * 4, none⟩ = some (.int .i64 p) := (hbl.cell (p := ⟨b, fo + k * 4, none⟩) hbB).trans (hcell 0 (by omega))
        have f1 : wr.cell? ⟨b, fo + k * 4 + 1, none⟩ = some (.int .i64 r) := (hbl.cell (p := ⟨b, fo + k * 4 + 1, none⟩) hbB).trans (hcell 1 (by omega))
        have f2 : wr.cell? ⟨b, fo + k * 4 + 2, none⟩ = some (.int .i64 a) := (hbl.cell (p := ⟨b, fo + k * 4 + 2, none⟩) hbB).trans (hcell 2 (by omega))
        have f3 : wr.cell? ⟨b, fo + k * 4 + 3, none⟩ = some C := (hbl.cell (p := ⟨b, fo + k * 4 + 3, none⟩) hbB).trans (hcell 3 (by omega))
        obtain ⟨CA, cc, hCe⟩ := hC.len
        obtain ⟨cn, hcn⟩ : ∃ cn, cn = l.length := ⟨_, rfl⟩
        rw [← hcn] at hCe
        subst hCe
        have HC := Lib.hid hC
        have HCn := Lib.hid hcn
        have hcmax := hC.1
        unfold maxLen at hcmax
        rw [← hcn] at hcmax
        have HBl := Lib.hid hbl
        clear hcell hC hy hcl hcp hmem hcn hbl
        obtain ⟨W1, hW1⟩ : ∃ W1, W1 = (wr.alloc (.cells #[.int .i64 p, .int .i64 r, .int .i64 a, .slice CA cn cc] 53)).alloc (.cells #[.int .i64 p, .int .i64 r, .int .i64 a] 3) := ⟨_, rfl⟩
        have hb1 : Below wr.heap.size wr W1 := by rw [hW1]; exact ((Below.refl _ _).alloc (Nat.le_refl _) _).alloc (by simp) _
        have hfb : W1.heap[wr.heap.size]? = some (.cells #[.int .i64 p, .int .i64 r, .int .i64 a, .slice CA cn cc] 53 (0, 0)) := by rw [hW1]; exact (Below.heap_alloc _ _ _ (by simp)).trans (heap_alloc_new wr _)
        have hnb : W1.heap[wr.heap.size + 1]? = some (.cells #[.int .i64 p, .int .i64 r, .int .i64 a] 3 (0, 0)) := by
          rw [hW1]
          have := heap_alloc_new (wr.alloc (.cells #[.int .i64 p, .int .i64 r, .int .i64 a, .slice CA cn cc] 53)) (.cells #[.int .i64 p, .int .i64 r, .int .i64 a] 3)
          rwa [World.size_alloc] at this
        have hNums : IsNums .i64 W1 W1.heap.size (.slice (some ⟨wr.heap.size + 1, 0, none⟩) 3 3) [p, r, a] := ⟨by unfold maxLen; simp, .inr ⟨⟨wr.heap.size + 1, 0, none⟩, 3, rfl, by simp, fun _ => heap_lt hnb, fun i hi => by
          have hi3 : i < 3 := hi
          rcases (show i = 0 ∨ i = 1 ∨ i = 2 by omega) with rfl | rfl | rfl <;> simp [World.cell?, hnb, Addr.add]⟩⟩
        obtain ⟨fl, hfl⟩ : ∃ fl, fl = joinW [funcW, numL p, numL r, numL a] := ⟨_, rfl⟩
        obtain ⟨fj, hfj⟩ : ∃ fj, fj = strOfNums fl := ⟨_, rfl⟩
        have hpin : ∀ x ∈ [p, r, a], InI x := fun x hx => by
          have h := HFun.out.bd
          simp at hx
          rcases hx with rfl | rfl | rfl
          · exact h.params
          · exact h.regs
          · exact h.area
        have HJoinF : Hid (Calls Tryz.prog 32 #[.string ⟨#[102, 117, 110, 99]⟩, .slice (some ⟨wr.heap.size + 1, 0, none⟩) 3 3] W1 (Makes W1 (.string fj))) := Lib.hid (by
          have h := joined13_any funcW _ [p, r, a] W1 hNums hpin (by simp) (by decide) (HE.out.grow (HBl.out.trans (hb1.mono HBl.out.size)))
          rw [show strOfNums funcW = ⟨#[102, 117, 110, 99]⟩ by decide +kernel] at h
          rw [hfj, hfl]
          exact h)
        obtain ⟨T1, hT1⟩ : ∃ T1, T1 = T0 ++ (fs.take k).flatMap funLn := ⟨_, rfl⟩
        have HTy : Hid (∀ j, j ≤ l.length → (textOf (T1 ++ [fl] ++ (l.take j).map insLn)).length ≤ 100000000) := Lib.hid (fun j hj => by
          have h := HTx.out (k + 1) hkl
          rw [HTk.out, List.flatMap_append, ← List.append_assoc, ← hT1] at h
          have e : ([⟨p, r, a, l⟩] : List FunV).flatMap funLn = [fl] ++ ((l.take j).map insLn ++ (l.drop j).map insLn) := by
            rw [← List.map_append, List.take_append_drop, hfl]
            simp [funLn]
          rw [e, ← List.append_assoc, ← List.append_assoc, textOf_app, List.length_append] at h
          omega)
        have hfs : fj.size ≤ 100000000 := by
          have h := HTy.out 0 (Nat.zero_le _)
          rw [List.take_zero, List.map_nil, List.append_nil, textOf_app, List.length_append, textOf_one, List.length_append] at h
          rw [hfj, str_size]
          omega
        have HWriteF : Hid (∀ W2, Below wr.heap.size wr W2 → Calls Tryz.prog 49 #[.pointer (some ⟨w.heap.size + 1, 0, none⟩), .string (fj ++ ⟨#[10]⟩)] W2 (WroteDone (w.heap.size + 4) (w.heap.size + 1) (strOfNums (textOf T1)) (fj ++ ⟨#[10]⟩) W2)) := Lib.hid (fun W2 hb =>
          write13 _ _ _ _ W2 (by rw [hT1]; exact (HR.out.1.grow hb).bld) (by
            have h := HTy.out 0 (Nat.zero_le _)
            rw [List.take_zero, List.map_nil, List.append_nil, textOf_app, List.length_append] at h
            rw [str_size, ByteArray.size_append, show (⟨#[10]⟩ : ByteArray).size = 1 from rfl]
            omega) (HR.out.1.grow hb).big)
        have HB1 := Lib.hid hb1
        have HFB := Lib.hid hfb
        have HWW1 := Lib.hid hW1
        have HFJ := Lib.hid hfj
        have HFL := Lib.hid hfl
        have HT1 := Lib.hid hT1
        have hcat : ¬ (9223372036854775807 : Int) < (fj.size : Int) + 1 := by omega
        clear hb1 hfb hnb hNums hpin hW1 hfj hfl hT1 hkl
        gi_wp2
        rw [← HWW1.out]
        refine ⟨trivial, ?_⟩
        (with_reducible refine (callsIn_wide.2 HJoinF.out).mono ?_)
        rintro e W2 ⟨rfl, hb2⟩
        have HB2 := Lib.hid (HB1.out.trans (hb2.mono HB1.out.size))
        have HFB2 := Lib.hid (box_below HFB.out hb2)
        clear hb2
        gi_wp2
        refine ⟨trivial, ?_⟩
        (with_reducible refine (callsIn_wide.2 (HWriteF.out _ HB2.out)).mono ?_)
        rintro e W3 ⟨rfl, hbd, hwb⟩
        have HFB3 := Lib.hid (hwb.keep HFB2.out (by have := HR.out.1.bel.size; have := HR.out.1.big; omega) (fun c e => by injection e with _ e _; exact absurd e (by decide)))
        have HL := Lib.hid (HR.out.1.line fl HB2.out (by rw [← HFJ.out, ← HT1.out]; exact hbd) hwb)
        rw [← HT1.out] at HL
        have HK3 := Lib.hid (HL.out.2.keep HR.out.2 (by have := HDd.out; have := HS0.out; omega) (fun c e => by cases e))
        have hc3 := (cells4 HFB3.out).2.2.2
        clear hbd hwb hfs f0 f1 f2 f3
        gi_wp2
        gi_loopw [52] (fun v52 wq => ∃ j : Nat, v52 = .int .i64 j ∧ j ≤ cn ∧ Hid (Wrt13 w (.slice DA dn dc) (.slice (some ⟨b, fo, none⟩) fn0 fc) (T1 ++ [fl] ++ (l.take j).map insLn) wq ∧ wq.heap[Dd]? = some (.deferred (some [])))) (fun v52 _ => cn - (intOf v52).toNat)
        case atStart => exact ⟨0, rfl, Nat.zero_le _, Lib.hid ⟨by simpa using HL.out.1, HK3.out⟩⟩
        case round =>
          obtain ⟨j, rfl, hj, HQ⟩ := hrel
          by_cases hjl : j < cn
          · have HJl := Lib.hid hjl
            have hjl2 : j < l.length := by rw [← HCn.out]; exact hjl
            obtain ⟨cb, co, cap2, hV2, _, hcbB, hcl2⟩ := HC.out.plain (by omega)
            rw [← HCn.out] at hV2
            injection hV2 with e1 _ e3
            subst e1 e3
            obtain ⟨X, hX, hcx⟩ := hcl2 j hjl2
            obtain ⟨y, hy⟩ : ∃ y, y = l.getD j .zero := ⟨_, rfl⟩
            rw [← hy] at hX hcx
            have hmem : y ∈ l := by rw [hy]; simp [List.getD, List.getElem?_eq_getElem hjl2]
            have hIns := HFun.out.code y hmem
            have HTj : Hid (l.take (j + 1) = l.take j ++ [y]) := Lib.hid (by rw [hy]; exact take_getD13 l _ hjl2)
            have hbq := HQ.out.1.bel
            have g0 : wr.cell? ⟨cb, co + j * 6, none⟩ = some (.int .i64 y.op) := (hbq.cell (p := ⟨cb, co + j * 6, none⟩) hcbB).trans (hcx 0 (by omega))
            have g1 : wr.cell? ⟨cb, co + j * 6 + 1, none⟩ = some (.int .i64 y.a) := (hbq.cell (p := ⟨cb, co + j * 6 + 1, none⟩) hcbB).trans (hcx 1 (by omega))
            have g2 : wr.cell? ⟨cb, co + j * 6 + 2, none⟩ = some (.int .i64 y.b) := (hbq.cell (p := ⟨cb, co + j * 6 + 2, none⟩) hcbB).trans (hcx 2 (by omega))
            have g3 : wr.cell? ⟨cb, co + j * 6 + 3, none⟩ = some (.int .i64 y.c) := (hbq.cell (p := ⟨cb, co + j * 6 + 3, none⟩) hcbB).trans (hcx 3 (by omega))
            have g4 : wr.cell? ⟨cb, co + j * 6 + 4, none⟩ = some (.int .i64 y.n) := (hbq.cell (p := ⟨cb, co + j * 6 + 4, none⟩) hcbB).trans (hcx 4 (by omega))
            have g5 : wr.cell? ⟨cb, co + j * 6 + 5, none⟩ = some X := (hbq.cell (p := ⟨cb, co + j * 6 + 5, none⟩) hcbB).trans (hcx 5 (by omega))
            obtain ⟨XA, xc, hXe⟩ := hX.len
            obtain ⟨xn, hxn⟩ : ∃ xn, xn = y.args.length := ⟨_, rfl⟩
            rw [← hxn] at hXe
            subst hXe
            obtain ⟨W4, hW4⟩ : ∃ W4, W4 = wr.alloc (.cells (insCells y.op y.a y.b y.c y.n (.slice XA xn xc)) 28) := ⟨_, rfl⟩
            have hb4 : Below wr.heap.size wr W4 := by rw [hW4]; exact (Below.refl _ _).alloc (Nat.le_refl _) _
            have hXr : IsNums .i64 W4 W4.heap.size (.slice XA xn xc) y.args := (hX.below (hbq.trans (hb4.mono hbq.size)) (Nat.le_refl _)).more (Nat.le_trans hbq.size hb4.size)
            have hok := chk_ok hIns.chk
            obtain ⟨ij, hij⟩ : ∃ ij, ij = strOfNums (insT y) := ⟨_, rfl⟩
            have HIns2 : Hid (Calls Tryz.prog 15 #[.agg #[.int .i64 y.op, .int .i64 y.a, .int .i64 y.b, .int .i64 y.c, .int .i64 y.n, .slice XA xn xc]] W4 (Makes W4 (.string ij))) := Lib.hid (by
              rw [hij]
              exact ins13_any y (.slice XA xn xc) W4 hXr ⟨hIns.bd.a, hIns.bd.b, hIns.bd.c, hIns.bd.n⟩ hIns.args (by have := hok.args; omega) (HE.out.grow (hbq.trans (hb4.mono hbq.size))))
            have hsz4 : (textOf (T1 ++ [fl] ++ (l.take j).map insLn)).length + ((insLn y).length + 1) ≤ 100000000 := by
              have h := HTy.out (j + 1) hjl2
              rw [HTj.out, List.map_append, ← List.append_assoc, textOf_app, List.length_append] at h
              simp only [List.map_cons, List.map_nil, textOf_one, List.length_append, List.length_singleton] at h
              exact h
            have hil : (insLn y).length = 2 + ij.size := by
              rw [hij, str_size]
              have e : insLn y = [32, 32] ++ insT y := by unfold insLn; rw [insT_join]; rfl
              rw [e]; simp; omega
            have HLine : Hid (strOfNums (insLn y) = ⟨#[32, 32]⟩ ++ ij) := Lib.hid (by rw [hij]; exact ins_lnS y)
            have HWriteI : Hid (∀ W2, Below wr.heap.size wr W2 → Calls Tryz.prog 49 #[.pointer (some ⟨w.heap.size + 1, 0, none⟩), .string (⟨#[32, 32]⟩ ++ ij ++ ⟨#[10]⟩)] W2 (WroteDone (w.heap.size + 4) (w.heap.size + 1) (strOfNums (textOf (T1 ++ [fl] ++ (l.take j).map insLn))) (⟨#[32, 32]⟩ ++ ij ++ ⟨#[10]⟩) W2)) := Lib.hid (fun W2 hb =>
              write13 _ _ _ _ W2 (HQ.out.1.grow hb).bld (by
                rw [str_size, ByteArray.size_append, ByteArray.size_append, show (⟨#[10]⟩ : ByteArray).size = 1 from rfl, show (⟨#[32, 32]⟩ : ByteArray).size = 2 from rfl]
                omega) (HQ.out.1.grow hb).big)
            have hcat1 : ¬ (9223372036854775807 : Int) < 2 + (ij.size : Int) := by omega
            have hcat2 : ¬ (9223372036854775807 : Int) < 2 + (ij.size : Int) + 1 := by omega
            have HB4 := Lib.hid hb4
            have HW4 := Lib.hid hW4
            clear hX hcx hy hmem hIns hbq hXr hok hij hsz4 hil hb4 hW4 hjl2 hxn hcat
            gi_wp2
            refine ⟨trivial, ?_⟩
            rw [show wr.alloc (.cells #[.int .i64 y.op, .int .i64 y.a, .int .i64 y.b, .int .i64 y.c, .int .i64 y.n, .slice XA xn xc] 28) = W4 from HW4.out.symm]
            (with_reducible refine (callsIn_wide.2 HIns2.out).mono ?_)
            rintro e W5 ⟨rfl, hb5⟩
            have HB5 := Lib.hid (HB4.out.trans (hb5.mono HB4.out.size))
            clear hb5
            gi_wp2
            refine ⟨trivial, ?_⟩
            (with_reducible refine (callsIn_wide.2 (HWriteI.out _ HB5.out)).mono ?_)
            rintro e W6 ⟨rfl, hbd, hwb⟩
            have HL2 := Lib.hid (HQ.out.1.line (insLn y) HB5.out (by rw [HLine.out]; exact hbd) hwb)
            have HK6 := Lib.hid (HL2.out.2.keep HQ.out.2 (by have := HDd.out; have := HS0.out; omega) (fun c e => by cases e))
            clear hbd hwb
            gi_wp2
            go_roundw
            case rel => exact ⟨j + 1, by go_num, HJl.out, Lib.hid ⟨by rw [HTj.out, List.map_append, ← List.append_assoc]; exact HL2.out.1, HK6.out⟩⟩
            case measure => have := HJl.out; simp [intOf]; omega
          · have hje : j = cn := by omega
            subst hje
            have HEnd : Hid (Wrt13 w (.slice DA dn dc) (.slice (some ⟨b, fo, none⟩) fn0 fc) (T0 ++ (fs.take (k + 1)).flatMap funLn) wr) := Lib.hid (by
              have h := HQ.out.1
              rw [List.take_of_length_le (by rw [HCn.out]; exact Nat.le_refl _)] at h
              rw [HTk.out, List.flatMap_append, ← List.append_assoc, ← HT1.out]
              have e : ([⟨p, r, a, l⟩] : List FunV).flatMap funLn = [fl] ++ l.map insLn := by rw [HFL.out]; simp [funLn]
              rw [e, ← List.append_assoc]
              exact h)
            clear hcat
            gi_wp2
            go_roundw
            case rel => exact ⟨k + 1, by go_num, HKl.out, Lib.hid ⟨HEnd.out, HQ.out.2⟩⟩
            case measure => have := HKl.out; simp [intOf]; omega
      · have hke : k = fn0 := by omega
        subst hke
        have HEnd : Hid (Wrt13 w (.slice DA dn dc) (.slice FA k fc) (T0 ++ fs.flatMap funLn) wr) := Lib.hid (by
          have h := HR.out.1
          rw [List.take_of_length_le (by rw [HFn.out]; exact Nat.le_refl _)] at h
          exact h)
        have HStr := Lib.hid (string13 w.heap.size (w.heap.size + 4) (w.heap.size + 1) _ wr HEnd.out.bld (by omega) (by omega) HEnd.out.bel.size)
        rw [← HTM.out] at HStr
        gi_wp2_with (refine ⟨trivial, ?_⟩; gi_at_call 50; (with_reducible refine (callsIn_wide.2 HStr.out).mono ?_); rintro e W7 ⟨rfl, hb7, hk7⟩; have HB7 := Lib.hid hb7; have HK7 := Lib.hid (hk7 Dd _ HR.out.2 (by intro e; injection e with e; have := HDd.out; have := HS0.out; omega) (fun c fz e => by cases e)); clear hb7 hk7)
        refine ⟨by simp, .inl ⟨_, _, rfl, run_takeDeferred HK7.out, ?_⟩⟩
        exact ⟨_, results_tmp rfl _ _ _, rfl, But.below (HEnd.out.bel.trans HB7.out) (put_but13 W7 Dd _) (Nat.le_trans HEnd.out.bel.size HB7.out.size) (fun k e => by have e' : k = Dd := e; have := HDd.out; have := HS0.out; omega)⟩
  case stop =>
    intro D ys W hD hSp hbad hK
    exact hbad.elim
theorem written13_any (D F : Value) (data : List Int) (fs : List FunV) (w : World) (hD : IsBytes w w.heap.size D data) (hF : IsFuns w w.heap.size F fs) (hG : ∀ f ∈ fs, Fun13 f) (hT : (textM ⟨data, fs⟩).length ≤ 100000000) (hl : data.length ≤ 1000000) (hE : Env13 w) :
    Calls Tryz.prog 26 #[.agg #[D, F]] w (Makes w (.string (strOfNums (textM ⟨data, fs⟩)))) :=
  callsIn_wide.1 (written13_in 6 (Nat.le_refl _) D F data fs w hD hF hG hT hl hE)
def putT (data : List Int) (fs : List FunV) : ByteArray := if (ModV.mk data fs).err = 0 then strOfNums (textM ⟨data, fs⟩) else ⟨#[]⟩
set_option maxRecDepth 100000 in
set_option maxHeartbeats 4000000 in
/-- text.Put. -/
theorem put13_any (D F : Value) (data : List Int) (fs : List FunV) (w : World) (hD : IsBytes w w.heap.size D data) (hF : IsFuns w w.heap.size F fs) (hT : (ModV.mk data fs).err = 0 → (textM ⟨data, fs⟩).length ≤ 100000000) (hl : data.length ≤ 1000000) (hE : Env13 w) :
    Calls Tryz.prog 11 #[.agg #[D, F]] w (Makes w (.tuple #[.string (putT data fs), .int .i64 (ModV.mk data fs).err])) := by
  obtain ⟨DA, dc, hDe⟩ := hD.len
  obtain ⟨FA, fc, hFe⟩ := hF.len
  obtain ⟨w0, hw0⟩ : ∃ w0, w0 = w.alloc (.cells #[D, F] 25) := ⟨_, rfl⟩
  have hb0 : Below w.heap.size w w0 := by rw [hw0]; exact (Below.refl _ _).alloc (Nat.le_refl _) _
  have hk0 := heap_alloc_new w (.cells #[D, F] 25)
  rw [← hw0] at hk0
  have HC : Hid (Calls Tryz.prog 24 #[.agg #[D, F]] w0 (Makes w0 (.int .i64 (ModV.mk data fs).err))) := Lib.hid (check8_any D F data fs w0 (hD.grow hb0) (hF.grow hb0))
  by_cases he : (ModV.mk data fs).err = 0
  · have HW : Hid (∀ W, Below w.heap.size w W → Calls Tryz.prog 26 #[.agg #[D, F]] W (Makes W (.string (strOfNums (textM ⟨data, fs⟩))))) := Lib.hid (fun W hb => written13_any D F data fs W (hD.grow hb) (hF.grow hb) (funs13_of hF he) (hT he) hl (hE.grow hb))
    have hp : putT data fs = strOfNums (textM ⟨data, fs⟩) := by unfold putT; rw [if_pos he]
    rw [hp, he]
    rw [he] at HC
    subst hDe hFe
    have HB0 := Lib.hid hb0
    have HK0 := Lib.hid hk0
    have HW0 := Lib.hid hw0
    clear hD hF hT hE hl he hp hb0 hk0 hw0
    generalize strOfNums (textM ⟨data, fs⟩) = t at *
    generalize data.length = dn at *
    generalize fs.length = fn0 at *
    go_enter Tryz.func11, Tryz.ntmps11
    go_wp2_with (first | (go_at_call 24; rw [← HW0.out]; (with_reducible refine HC.out.mono ?_); rintro e w1 ⟨rfl, hb1⟩; have HB1 := Lib.hid (HB0.out.trans (hb1.mono HB0.out.size)); obtain ⟨c0, c1⟩ := cells2 (box_below HK0.out hb1); clear hb1) | (go_at_call 26; (with_reducible refine (HW.out _ HB1.out).mono ?_); rintro e w2 ⟨rfl, hb2⟩; have HB2 := Lib.hid hb2; clear hb2))
    go_ret2
    exact ⟨rfl, HB1.out.trans (HB2.out.mono HB1.out.size)⟩
  · have hp : putT data fs = ⟨#[]⟩ := by unfold putT; rw [if_neg he]
    rw [hp]
    subst hDe hFe
    generalize (ModV.mk data fs).err = z at *
    have hz : (z != 0) = true := by simpa using he
    have HB0 := Lib.hid hb0
    have HW0 := Lib.hid hw0
    clear hD hF hT hE hl he hp hb0 hk0 hw0
    generalize data.length = dn at *
    generalize fs.length = fn0 at *
    go_enter Tryz.func11, Tryz.ntmps11
    go_wp2_with (go_at_call 24; rw [← HW0.out]; (with_reducible refine HC.out.mono ?_); rintro e w1 ⟨rfl, hb1⟩; have HB1 := Lib.hid (HB0.out.trans (hb1.mono HB0.out.size)); clear hb1)
    go_ret2
    exact ⟨rfl, HB1.out⟩
end Go.Proofs.YtohlifeenhaifaaGreatDoor
