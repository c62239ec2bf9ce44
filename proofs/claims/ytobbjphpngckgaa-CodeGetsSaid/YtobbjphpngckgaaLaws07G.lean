/- CodeGets: which instruction stands at a place of bytes, and which all of them are, beside the document's own Get and Split. Contract; no condition but that the bytes lie in a row. -/
import Derived.Test.YtobbjphpngckgaaRef07E
import Derived.Test.YtobbjphpngckgaaKit07C
import Derived.Test.YtobbjphpngckgaaMath07C
import Derived.Test.YtobbjphpngckgaaKitBytes
namespace Go.Proofs.Ytobbjphpngckgaa
open Go.RowKit Go.Shelf
set_option linter.unusedVariables false
set_option linter.unusedSimpArgs false

theorem got_uni (g : GotV) : ∃ (y : InsV) (nx z k : Int), ∀ w e w', GotDone w g e w' → ∃ V, e = .returned (.tuple #[.agg (insCells y.op y.a y.b y.c y.n V), .int .i64 nx, .agg #[.int .i64 z, .int .i64 k]]) ∧ OutN w.heap.size w' V y.args ∧ Below w.heap.size w w' := by
  by_cases h : g.err = 0
  · refine ⟨g.y, g.next, 0, 0, fun w e w' hd => ?_⟩
    obtain ⟨hb, ⟨h1, _⟩ | ⟨_, V, rfl, ho⟩⟩ := hd
    · exact absurd h h1
    · exact ⟨V, rfl, ho, hb⟩
  · refine ⟨.zero, 0, g.err, g.at_, fun w e w' hd => ?_⟩
    obtain ⟨hb, ⟨_, rfl⟩ | ⟨h1, _⟩⟩ := hd
    · exact ⟨.slice none 0 0, rfl, Owns.nil _ _ _ _ _, hb⟩
    · exact absurd h1 h
theorem split_uni {b : List Int} (hb : ∀ x ∈ b, 0 ≤ x ∧ x < 256) (h6 : b.length ≤ 600) : ∃ (l : List InsV) (ps : List Int) (z k : Int), l.length ≤ 600 ∧ ∀ w e w', SplitDone w (splitV b) e w' → ∃ V P Xs, e = .returned (.tuple #[V, P, .agg #[.int .i64 z, .int .i64 k]]) ∧ OwnC w.heap.size w' V l Xs ∧ OutN w.heap.size w' P ps ∧ Below w.heap.size w w' := by
  by_cases h : (splitV b).err = 0
  · have hl : (splitV b).l.length ≤ 600 := by
      have h2 : splitV b = splitF b (b.length + 1) 0 [] [] := by unfold splitV; rw [if_neg (by omega)]
      rw [h2] at h ⊢
      obtain ⟨m, hm, _, hd⟩ := split_ok hb (b.length + 1) 0 [] [] (Nat.zero_le _) (by omega) h
      rw [hm]
      have := all_length m
      rw [← hd] at this
      simp at this ⊢
      omega
    refine ⟨(splitV b).l, (splitV b).ps, 0, 0, hl, fun w e w' hd => ?_⟩
    obtain ⟨hb, ⟨h1, _⟩ | ⟨_, V, P, Xs, rfl, ho, hp⟩⟩ := hd
    · exact absurd h h1
    · exact ⟨V, P, Xs, rfl, ho, hp, hb⟩
  · refine ⟨[], [], (splitV b).err, (splitV b).at_, by simp, fun w e w' hd => ?_⟩
    obtain ⟨hb, ⟨_, rfl⟩ | ⟨h1, _⟩⟩ := hd
    · exact ⟨_, _, [], rfl, OwnC.nil _ _, Owns.nil _ _ _ _ _, hb⟩
    · exact absurd h1 h
/-- What a call of Get left, in its two boxes. -/
structure GtAt (W : World) (bx : Nat) (y : InsV) (z k : Int) (X : Value) : Prop where
  ins : W.heap[bx]? = some (.cells (insCells y.op y.a y.b y.c y.n X) 35 (0, 0))
  fau : flt W (bx + 1) z k
  num : IsNums .i64 W W.heap.size X y.args
theorem GtAt.grow {W W' : World} {bx : Nat} {y : InsV} {z k : Int} {X : Value} (h : GtAt W bx y z k X) (hb : Below W.heap.size W W') : GtAt W' bx y z k X :=
  ⟨(hb.block _ (heap_lt h.ins)).trans h.ins, (hb.block _ (heap_lt h.fau)).trans h.fau, (h.num.below hb (Nat.le_refl _)).more hb.size⟩
theorem gt_below {W : World} (w2 : World) (c1 c2 : Array Value) (hb : Below W.heap.size W w2) : Below W.heap.size W ((w2.alloc (.cells c1 35)).alloc (.cells c2 41)) :=
  hb.trans ((((Below.refl w2.heap.size w2).alloc (Nat.le_refl _) (.cells c1 35)).alloc (by simp) (.cells c2 41)).mono hb.size)
theorem gt_new {B : Nat} {w2 : World} {y : InsV} {z k : Int} {X : Value} (ho : OutN B w2 X y.args) :
    GtAt ((w2.alloc (.cells (insCells y.op y.a y.b y.c y.n X) 35)).alloc (.cells #[.int .i64 z, .int .i64 k] 41)) w2.heap.size y z k X := by
  have ha := ((Below.refl w2.heap.size w2).alloc (Nat.le_refl _) (.cells (insCells y.op y.a y.b y.c y.n X) 35)).alloc (by simp) (.cells #[.int .i64 z, .int .i64 k] 41)
  refine ⟨?_, ?_, IsNums.of_owns (Owns.below ho ha (Nat.le_refl _)) (Nat.le_refl _)⟩
  · rw [Below.heap_alloc _ _ _ (by simp)]
    exact heap_alloc_new _ _
  · have := heap_alloc_new (w2.alloc (.cells (insCells y.op y.a y.b y.c y.n X) 35)) (.cells #[.int .i64 z, .int .i64 k] 41)
    rw [World.size_alloc] at this
    exact this
/-- What a call of Split left, its fault in a box. -/
structure SpAt (base : Nat) (W : World) (bx : Nat) (z k : Int) (V P : Value) (l : List InsV) (ps : List Int) : Prop where
  fau : flt W bx z k
  code : IsCode W W.heap.size V l
  own : OutN base W P ps
theorem SpAt.grow {base : Nat} {W W' : World} {bx : Nat} {z k : Int} {V P : Value} {l : List InsV} {ps : List Int} (h : SpAt base W bx z k V P l ps) (hb : Below W.heap.size W W') : SpAt base W' bx z k V P l ps :=
  ⟨(hb.block _ (heap_lt h.fau)).trans h.fau, (h.code.below hb (Nat.le_refl _) (Nat.le_refl _)).more hb.size, Owns.below h.own hb (Nat.le_refl _)⟩
theorem SpAt.nums {base : Nat} {W : World} {bx : Nat} {z k : Int} {V P : Value} {l : List InsV} {ps : List Int} (h : SpAt base W bx z k V P l ps) : IsNums .i64 W W.heap.size P ps := IsNums.of_owns h.own (Nat.le_refl _)
theorem sp_below {W : World} (w2 : World) (c2 : Array Value) (hb : Below W.heap.size W w2) : Below W.heap.size W (w2.alloc (.cells c2 41)) :=
  hb.trans (((Below.refl w2.heap.size w2).alloc (Nat.le_refl _) (.cells c2 41)).mono hb.size)
theorem sp_new {base : Nat} {w2 : World} {z k : Int} {V P : Value} {l : List InsV} {ps : List Int} {Xs : List Value} (hl : l.length ≤ 600) (hc : OwnC base w2 V l Xs) (hp : OutN base w2 P ps) :
    SpAt base (w2.alloc (.cells #[.int .i64 z, .int .i64 k] 41)) w2.heap.size z k V P l ps := by
  have ha := (Below.refl w2.heap.size w2).alloc (Nat.le_refl _) (.cells #[.int .i64 z, .int .i64 k] 41)
  exact ⟨heap_alloc_new _ _, ((hc.below ha (Nat.le_refl _)).code (by omega)), Owns.below hp ha (Nat.le_refl _)⟩
set_option maxRecDepth 100000 in
set_option maxHeartbeats 16000000 in
theorem gets_law (X : Value) (b : List Int) (at_ : Int) (w : World) (h : IsBytes w w.heap.size X b) : Calls Try.prog 4 #[X, .int .i64 at_] w (Makes w (.bool true)) := by
  have HK := Lib.hid (fun W => awake7_any W)
  have HX := Lib.hid (fun W (hb : Below w.heap.size w W) => (h.below hb (Nat.le_refl _)).more hb.size)
  have hmx := h.2.1
  unfold maxLen at hmx
  by_cases h6 : b.length ≤ 600
  · have hBD := h.1
    have HBD := Lib.hid hBD
    obtain ⟨y, nx, z, kk, hgu⟩ := got_uni (gotV b at_)
    obtain ⟨l, ps, z2, k2, hl6, hsu⟩ := split_uni hBD h6
    have HLn := Lib.hid (lent_any X b w h (by omega))
    have HG := Lib.hid (fun Y W hY => (get7_any Y b at_ W hY (by omega)).mono fun e w' hh => hgu W e w' hh)
    have HRG := Lib.hid (fun Y W hY => (rget7_any Y b at_ W hY (by omega)).mono fun e w' hh => hgu W e w' hh)
    have HS := Lib.hid (fun Y W hY => (split7_any Y b W hY).mono fun e w' hh => hsu W e w' hh)
    have HRS := Lib.hid (fun Y W hY => (rsplit7_any Y b W hY).mono fun e w' hh => hsu W e w' hh)
    have HSI := Lib.hid (fun W A B hA hB => sameIns_any y.op y.a y.b y.c y.n A y.args y.op y.a y.b y.c y.n B y.args W hA hB)
    rw [show sameV y.op y.a y.b y.c y.n y.args y.op y.a y.b y.c y.n y.args = true from sameY_refl y] at HSI
    have HSC := Lib.hid (fun W A B hA hB => sameCode_any A B l l W hA hB)
    rw [(sameCV_iff l l).2 rfl] at HSC
    have HSN := Lib.hid (fun W A B hA hB => sameInts_any A B ps ps W W.heap.size W.heap.size hA hB)
    rw [show sameL ps ps = true by unfold sameL; simp] at HSN
    have HL6 := Lib.hid hl6
    have hnx : (nx == nx) = true := beq_self_eq_true _
    have he1 := fun W => eqF_yes z kk W
    have he2 := fun W => eqF_yes z2 k2 W
    have H6 := Lib.hid h6
    obtain ⟨A, cap, hXe⟩ := h.len
    subst hXe
    have h6I : ¬ (600 : Int) < (b.length : Int) := by omega
    clear h hgu hsu hl6 hBD h6
    go_enter Try.func4, Try.ntmps4
    go_wp2_with (first
      | (go_at_call 21; (with_reducible refine HLn.out.mono ?_); rintro e w1 ⟨g, rfl, hg, hL, hb⟩; have B1 := Lib.hid hb; have L1 := Lib.hid hL; have Y1 := Lib.hid (hL.bytes HBD.out (by unfold maxLen; have := H6.out; omega) hL.lt (show b.length ≤ b.length + 3 by omega)); clear hg hL hb)
      | (go_at_call 22; (with_reducible refine (HG.out _ _ Y1.out).mono ?_); rintro e w2 ⟨V, rfl, ho, hb⟩; obtain ⟨xA, xc, hxe⟩ := owns_len ho; subst hxe; have G2 := Lib.hid (gt_new (z := z) (k := kk) ho); have b2 := gt_below w2 (insCells y.op y.a y.b y.c y.n (.slice xA y.args.length xc)) #[.int .i64 z, .int .i64 kk] hb; have B2 := Lib.hid b2; have X2 := Lib.hid (HX.out _ (B1.out.trans (b2.mono B1.out.size))); clear ho hb b2)
      | (go_at_call 23; (with_reducible refine (HRG.out _ _ X2.out).mono ?_); rintro e w3 ⟨V, rfl, ho, hb⟩; obtain ⟨rA, rc, hre⟩ := owns_len ho; subst hre; have R3 := Lib.hid (gt_new (z := z) (k := kk) ho); have b3 := gt_below w3 (insCells y.op y.a y.b y.c y.n (.slice rA y.args.length rc)) #[.int .i64 z, .int .i64 kk] hb; have G3 := Lib.hid (G2.out.grow b3); have B3 := Lib.hid (B2.out.trans (b3.mono B2.out.size)); have Y3 := Lib.hid ((Y1.out.below B3.out (Nat.le_refl _)).more B3.out.size); clear ho hb b3)
      | (go_at_call 24; (with_reducible refine (HS.out _ _ Y3.out).mono ?_); rintro e w4 ⟨V, P, Xs, rfl, hc, hp, hb⟩; obtain ⟨vA, vc, hve⟩ := owns_len hc.own; obtain ⟨pA, pc, hpe⟩ := owns_len hp; subst hve hpe; have S4 := Lib.hid (sp_new (z := z2) (k := k2) HL6.out hc hp); have b4 := sp_below w4 #[.int .i64 z2, .int .i64 k2] hb; have G4 := Lib.hid (G3.out.grow b4); have R4 := Lib.hid (R3.out.grow b4); have B4 := Lib.hid (B3.out.trans (b4.mono B3.out.size)); have X4 := Lib.hid (HX.out _ (B1.out.trans (B4.out.mono B1.out.size))); clear hc hp hb b4)
      | (go_at_call 25; (with_reducible refine (HRS.out _ _ X4.out).mono ?_); rintro e w5 ⟨V, P, Xs, rfl, hc, hp, hb⟩; obtain ⟨tA, tc, hte⟩ := owns_len hc.own; obtain ⟨qA, qc, hqe⟩ := owns_len hp; subst hte hqe; have T5 := Lib.hid (sp_new (z := z2) (k := k2) HL6.out hc hp); have b5 := sp_below w5 #[.int .i64 z2, .int .i64 k2] hb; have G5 := Lib.hid (G4.out.grow b5); have R5 := Lib.hid (R4.out.grow b5); have S5 := Lib.hid (S4.out.grow b5); have B5 := Lib.hid (B4.out.trans (b5.mono B4.out.size)); obtain ⟨a0, a1, a2, a3, a4, a5⟩ := cells6 G5.out.ins; obtain ⟨c0, c1, c2, c3, c4, c5⟩ := cells6 R5.out.ins; clear hc hp hb b5)
      | (go_at_call 26; (with_reducible refine (HSI.out _ _ _ G5.out.num R5.out.num).mono ?_); rintro e w6 ⟨rfl, hb⟩; have G6 := Lib.hid (G5.out.grow hb); have R6 := Lib.hid (R5.out.grow hb); have S6 := Lib.hid (S5.out.grow hb); have T6 := Lib.hid (T5.out.grow hb); have B6 := Lib.hid (B5.out.trans (hb.mono B5.out.size)); have m0 := flt0 G6.out.fau; have m1 := flt1 G6.out.fau; have n0 := flt0 R6.out.fau; have n1 := flt1 R6.out.fau; clear hb)
      | (go_at_call 20; (with_reducible refine (HSC.out _ _ _ S6.out.code T6.out.code).mono ?_); rintro e w7 ⟨rfl, hb⟩; have S7 := Lib.hid (S6.out.grow hb); have T7 := Lib.hid (T6.out.grow hb); have B7 := Lib.hid (B6.out.trans (hb.mono B6.out.size)); clear hb)
      | (go_at_call 27; (with_reducible refine (HSN.out _ _ _ S7.out.nums T7.out.nums).mono ?_); rintro e w8 ⟨rfl, jj, rfl⟩; have hb := below_drewN (Below.refl w7.heap.size w7) jj; have S8 := Lib.hid (S7.out.grow hb); have T8 := Lib.hid (T7.out.grow hb); have B8 := Lib.hid (B7.out.trans (hb.mono B7.out.size)); have o0 := flt0 S8.out.fau; have o1 := flt1 S8.out.fau; have t0 := flt0 T8.out.fau; have t1 := flt1 T8.out.fau; clear hb)
      | (go_at_call 28; (with_reducible refine (overInts_any _ _ _ _ _ S8.out.own).mono ?_); rintro e w9 ⟨rfl, hb⟩; have B9 := Lib.hid (B8.out.trans (hb.mono B3.out.size)); have HKp := Lib.hid (kept_yes _ b g _ _ (L1.out.below B9.out L1.out.lt) (HX.out _ (B1.out.trans (B9.out.mono B1.out.size))) (by have := H6.out; omega)); clear hb)
      | (go_at_call 29; (with_reducible refine HKp.out.mono ?_); rintro e w10 ⟨rfl, hb⟩; have B10 := Lib.hid (B9.out.trans (hb.mono B9.out.size)); clear hb)
      | (go_at_call 10; (with_reducible refine (HK.out _).mono ?_); rintro e w11 ⟨rfl, hb⟩; have B11 := Lib.hid (B1.out.trans ((B10.out.trans (hb.mono B10.out.size)).mono B1.out.size)); clear hb))
    go_ret
    exact ⟨by first | rfl | simp, B11.out⟩
  · have h6I : (600 : Int) < (b.length : Int) := by omega
    obtain ⟨A, cap, hXe⟩ := h.len
    subst hXe
    clear h h6
    go_enter Try.func4, Try.ntmps4
    go_wp2_with (go_at_call 10; (with_reducible refine (HK.out _).mono ?_); rintro e w1 ⟨rfl, hb⟩; have B1 := Lib.hid hb; clear hb)
    go_ret
    exact ⟨rfl, B1.out⟩
end Go.Proofs.Ytobbjphpngckgaa
