/- TextGets' call: what is read of any text is the document's. No condition but that the library's variables lie in memory. -/
import Derived.Test.YtohlifeenhaifaaGreatDoorLaws13D
import Derived.Test.YtohlifeenhaifaaGreatDoorRef13Q
import Derived.Test.YtohlifeenhaifaaGreatDoorRef08S
import Derived.Test.YtohlifeenhaifaaGreatDoorOver13
import Derived.Deep.RegionHeld3
import Derived.Deep.CutRange
namespace Go.Proofs.YtohlifeenhaifaaGreatDoor
open Go.RowKit Go.Shelf
set_option linter.unusedVariables false
set_option linter.unusedSimpArgs false
/-- What the landed Get has told, in its boxes. -/
structure Ga13 (W : World) (bx : Nat) (D F : Value) (z k : Int) (data : List Int) (fs : List FunV) : Prop where
  mod : W.heap[bx]? = some (.cells #[D, F] 25 (0, 0))
  fau : W.heap[bx + 1]? = some (.cells #[.int .i64 z, .int .i64 k] 41 (0, 0))
  dat : IsBytes W W.heap.size D data
  funs : IsFuns W W.heap.size F fs
theorem Ga13.grow {W W' : World} {bx : Nat} {D F : Value} {z k : Int} {data : List Int} {fs : List FunV} (h : Ga13 W bx D F z k data fs) (hb : Below W.heap.size W W') : Ga13 W' bx D F z k data fs :=
  ⟨box_below h.mod hb, box_below h.fau hb, h.dat.grow hb, h.funs.grow hb⟩
theorem Ga13.cells {W : World} {bx : Nat} {D F : Value} {z k : Int} {data : List Int} {fs : List FunV} (h : Ga13 W bx D F z k data fs) : W.cell? ⟨bx, 0, none⟩ = some D ∧ W.cell? ⟨bx, 1, none⟩ = some F ∧ W.cell? ⟨bx + 1, 0, none⟩ = some (.int .i64 z) ∧ W.cell? ⟨bx + 1, 1, none⟩ = some (.int .i64 k) :=
  ⟨(cells2 h.mod).1, (cells2 h.mod).2, (cells2 h.fau).1, (cells2 h.fau).2⟩
theorem ga13_new {w w2 : World} {base : Nat} {D F : Value} {z k : Int} {data : List Int} {fs : List FunV} {Cs : List Value} (ho : OutB w w2 D data) (hd : ∀ x ∈ data, 0 ≤ x ∧ x < 256) (hf : OwnF 53 base w2 F fs Cs) (hl : fs.length ≤ 1000000) :
    Ga13 ((w2.alloc (.cells #[D, F] 25)).alloc (.cells #[.int .i64 z, .int .i64 k] 41)) w2.heap.size D F z k data fs ∧ Below w.heap.size w ((w2.alloc (.cells #[D, F] 25)).alloc (.cells #[.int .i64 z, .int .i64 k] 41)) ∧ Owns ((w2.alloc (.cells #[D, F] 25)).alloc (.cells #[.int .i64 z, .int .i64 k] 41)) w.heap.size 5 1 IsU8 D data.length (data.map (Value.int .u8)) := by
  have hb : Below w2.heap.size w2 ((w2.alloc (.cells #[D, F] 25)).alloc (.cells #[.int .i64 z, .int .i64 k] 41)) := ((Below.refl _ w2).alloc (Nat.le_refl _) _).alloc (by simp) _
  refine ⟨⟨?_, ?_, (outB_is ho hd).grow hb, (hf.funs hl).grow hb⟩, ho.bel.trans (hb.mono ho.bel.size), ho.own.below hb (Nat.le_refl _)⟩
  · rw [Below.heap_alloc _ _ _ (by simp)]
    exact heap_alloc_new _ _
  · have := heap_alloc_new (w2.alloc (.cells #[D, F] 25)) (.cells #[.int .i64 z, .int .i64 k] 41)
    rw [World.size_alloc] at this
    exact this
/-- What the document's Get has told, in its boxes, apart from another's bytes. -/
structure Bk13 (W : World) (A : Value) (bx : Nat) (D F : Value) (z k : Int) (data : List Int) (fs : List FunV) (Cs : List Value) : Prop where
  mod : W.heap[bx]? = some (.cells #[D, F] 25 (0, 0))
  flt : W.heap[bx + 1]? = some (.cells #[.int .i64 z, .int .i64 k] 41 (0, 0))
  dat : Owns W 0 5 1 IsU8 D data.length (data.map (Value.int .u8))
  fns : OwnF 53 0 W F fs Cs
  apt : ∀ g, A.ownBlock = some g → D.ownBlock ≠ some g
section
variable {w W W' : World} {A : Value} {bx : Nat} {D F : Value} {z k : Int} {data : List Int} {fs : List FunV} {Cs : List Value}
theorem Bk13.grow (h : Bk13 W A bx D F z k data fs Cs) (hb : Below W.heap.size W W') : Bk13 W' A bx D F z k data fs Cs :=
  ⟨box_below h.mod hb, box_below h.flt hb, h.dat.below hb (Nat.le_refl _), h.fns.below hb (Nat.le_refl _), h.apt⟩
theorem Bk13.over {base n : Nat} {xs : List Value} (h : Bk13 W A bx D F z k data fs Cs) (O : Owns W base 5 1 IsU8 A n xs) (hb : But (fun k => A.ownBlock = some k) W W') : Bk13 W' A bx D F z k data fs Cs := by
  have hn : ∀ (t : TypeId), 5 ≠ t → ∀ k c', W.heap[k]? = some (.cells c' t (0, 0)) → ¬ A.ownBlock = some k := fun t h1 k c' hc e => by
    obtain ⟨c, hc2⟩ := O.typed e
    exact typed_ne hc2 h1 hc
  refine ⟨hb.heap h.mod (hn _ (by decide) _ _ h.mod), hb.heap h.flt (hn _ (by decide) _ _ h.flt), h.dat.but hb (fun g hg e => h.apt g e hg), h.fns.but hb (fun g hg e => ?_) (fun k hk => absurd hk (Nat.not_lt_zero _)) (hn _ (by decide)) (hn _ (by decide)), h.apt⟩
  obtain ⟨c, hc⟩ := h.fns.own.typed hg
  exact hn _ (by decide) _ _ hc e
theorem Bk13.got (h : Bk13 W A bx D F z k data fs Cs) (hd : ∀ x ∈ data, 0 ≤ x ∧ x < 256) (hl : fs.length ≤ 1000000) : Ga13 W bx D F z k data fs :=
  ⟨h.mod, h.flt, IsBytes.of_owns h.dat hd (Nat.le_refl _), h.fns.funs hl⟩
theorem bk13_new {w2 : World} {base n : Nat} {xs : List Value} (O : Owns w base 5 1 IsU8 A n xs) (ho : OutB w w2 D data) (hf : OwnF 53 0 w2 F fs Cs) :
    Bk13 ((w2.alloc (.cells #[D, F] 25)).alloc (.cells #[.int .i64 z, .int .i64 k] 41)) A w2.heap.size D F z k data fs Cs := by
  have hb : Below w2.heap.size w2 ((w2.alloc (.cells #[D, F] 25)).alloc (.cells #[.int .i64 z, .int .i64 k] 41)) := ((Below.refl _ w2).alloc (Nat.le_refl _) _).alloc (by simp) _
  refine ⟨?_, ?_, (ho.own.base (Nat.zero_le _)).below hb (Nat.le_refl _), hf.below hb (Nat.le_refl _), fun g hg e => ?_⟩
  · rw [Below.heap_alloc _ _ _ (by simp)]
    exact heap_alloc_new _ _
  · have := heap_alloc_new (w2.alloc (.cells #[D, F] 25)) (.cells #[.int .i64 z, .int .i64 k] 41)
    rw [World.size_alloc] at this
    exact this
  · have h1 := (O.lt hg).2
    have h2 := (ho.own.lt e).1
    omega
end
/-- What both have told. -/
structure Gs13 (w W : World) (b1 b2 : Nat) (D F D' F' : Value) (z k : Int) (data : List Int) (fs : List FunV) (Cs : List Value) : Prop where
  one : Ga13 W b1 D F z k data fs
  own : Owns W w.heap.size 5 1 IsU8 D data.length (data.map (Value.int .u8))
  two : Bk13 W D b2 D' F' z k data fs Cs
  bel : Below w.heap.size w W
theorem Gs13.grow {w W W' : World} {b1 b2 : Nat} {D F D' F' : Value} {z k : Int} {data : List Int} {fs : List FunV} {Cs : List Value} (h : Gs13 w W b1 b2 D F D' F' z k data fs Cs) (hb : Below W.heap.size W W') : Gs13 w W' b1 b2 D F D' F' z k data fs Cs :=
  ⟨h.one.grow hb, h.own.below hb (Nat.le_refl _), h.two.grow hb, h.bel.trans (hb.mono h.bel.size)⟩
theorem Gs13.cells {w W : World} {b1 b2 : Nat} {D F D' F' : Value} {z k : Int} {data : List Int} {fs : List FunV} {Cs : List Value} (h : Gs13 w W b1 b2 D F D' F' z k data fs Cs) :
    W.cell? ⟨b1, 0, none⟩ = some D ∧ W.cell? ⟨b1, 1, none⟩ = some F ∧ W.cell? ⟨b1 + 1, 0, none⟩ = some (.int .i64 z) ∧ W.cell? ⟨b1 + 1, 1, none⟩ = some (.int .i64 k) ∧ W.cell? ⟨b2, 0, none⟩ = some D' ∧ W.cell? ⟨b2, 1, none⟩ = some F' ∧ W.cell? ⟨b2 + 1, 0, none⟩ = some (.int .i64 z) ∧ W.cell? ⟨b2 + 1, 1, none⟩ = some (.int .i64 k) :=
  ⟨(cells2 h.one.mod).1, (cells2 h.one.mod).2, (cells2 h.one.fau).1, (cells2 h.one.fau).2, (cells2 h.two.mod).1, (cells2 h.two.mod).2, (cells2 h.two.flt).1, (cells2 h.two.flt).2⟩
set_option maxRecDepth 100000 in
set_option maxHeartbeats 20000000 in
theorem gets13_any (s : ByteArray) (w : World) (hE : Env13 w) : Calls Tryz.prog 4 #[.string s] w (Makes w (.bool true)) := by
  have HAW := Lib.hid (fun W (hb : Below w.heap.size w W) => awake13_any W (hE.grow hb))
  have HEV := Lib.hid (fun W (hb : Below w.heap.size w W) => hE.grow hb)
  clear hE
  by_cases h4 : 4000 < s.size
  · have h4I : (4000 : Int) < (s.size : Int) := by omega
    clear h4
    go_enter Tryz.func4, Tryz.ntmps4
    go_wp2_with (go_at_call 9; (with_reducible refine (HAW.out _ (Below.refl _ _)).mono ?_); rintro e w2 ⟨rfl, hb⟩; have HB := Lib.hid hb; clear hb)
    go_ret
    exact ⟨rfl, HB.out⟩
  have h4I : ¬ (4000 : Int) < (s.size : Int) := by omega
  have hR : ∀ W, Calls Tryz.prog 19 #[.string s] W (MGotDone W (got13 (lettersOf s))) := fun W => rget13_any s W (by omega)
  have hG : ∀ W, Below w.heap.size w W → Calls Tryz.prog 18 #[.string s] W (MGotDone W (got13 (lettersOf s))) := fun W hb => get13_any s W (HEV.out W hb)
  have h1 := got13_bd (lettersOf s)
  have h3 := cnt_fun (m := (got13 (lettersOf s)).m)
  have hls : (lettersOf s).length ≤ 4000 := by rw [letters_len13]; omega
  generalize got13 (lettersOf s) = g at *
  obtain ⟨z, k, ⟨data, fs⟩⟩ := g
  dsimp only at h1 h3
  have HR := Lib.hid hR
  have HG := Lib.hid hG
  have HBD := Lib.hid h1.1
  have HFL : Hid (fs.length ≤ 100000) := Lib.hid (by have := h3.2.1; have := h1.2; omega)
  have HRS : Hid (∀ (W : World) (D F D' F' : Value), IsBytes W W.heap.size D data → IsFuns W W.heap.size F fs → IsBytes W W.heap.size D' data → IsFuns W W.heap.size F' fs → Calls Tryz.prog 20 #[.agg #[D, F], .agg #[D', F']] W (Makes W (.bool true))) := Lib.hid (fun W D F D' F' h1 h2 h3 h4 => by
    have h := rsame8_any D F D' F' data data fs fs W h1 h2 h3 h4
    rw [sameM_refl] at h
    exact h)
  have HMS : Hid (∀ (W : World) (D F D' F' : Value), IsBytes W W.heap.size D data → IsFuns W W.heap.size F fs → IsBytes W W.heap.size D' data → IsFuns W W.heap.size F' fs → Calls Tryz.prog 21 #[.agg #[D, F], .agg #[D', F']] W (Makes W (.bool true))) := Lib.hid (fun W D F D' F' h1 h2 h3 h4 => by
    have h := same8_any D F D' F' data data fs fs W h1 h2 h3 h4 HFL.out HFL.out
    rw [sameM_refl] at h
    exact h)
  have hEq := eqF_yes z k
  obtain ⟨dn, hdn⟩ : ∃ n, n = data.length := ⟨_, rfl⟩
  obtain ⟨fn, hfn⟩ : ∃ n, n = fs.length := ⟨_, rfl⟩
  have HN := Lib.hid (And.intro hdn hfn)
  clear h1 h3 hls h4 hR hG hdn hfn
  go_enter Tryz.func4, Tryz.ntmps4
  go_upto_region 5 with (first
    | (go_at_call 18; (with_reducible refine (HG.out _ (Below.refl _ _)).mono ?_); rintro e w2 ⟨D2, F2, Cs2, rfl, ho, hf⟩; obtain ⟨dA, dc, hde⟩ := owns_len ho.own; obtain ⟨fA, fc, hfe⟩ := owns_len hf.own; dsimp only at hde hfe; rw [← HN.out.1] at hde; rw [← HN.out.2] at hfe; subst hde hfe; obtain ⟨hG, hb, hw⟩ := ga13_new (z := z) (k := k) ho HBD.out hf (Nat.le_trans HFL.out (by decide)); have G2 := Lib.hid hG; have O2 := Lib.hid hw; have N2 := Lib.hid hb; clear ho hf hG hb hw)
    | (go_at_call 19; (with_reducible refine (HR.out _).mono ?_); rintro e w3 ⟨D3, F3, Cs3, rfl, ho, hf⟩; obtain ⟨dA3, dc3, hde⟩ := owns_len ho.own; obtain ⟨fA3, fc3, hfe⟩ := owns_len hf.own; dsimp only at hde hfe; rw [← HN.out.1] at hde; rw [← HN.out.2] at hfe; subst hde hfe; have hB := bk13_new (z := z) (k := k) O2.out ho hf; obtain ⟨-, hb, -⟩ := ga13_new (z := z) (k := k) ho HBD.out hf (Nat.le_trans HFL.out (by decide)); have S3 : Hid (Gs13 w _ w2.heap.size w3.heap.size (.slice dA dn dc) (.slice fA fn fc) (.slice dA3 dn dc3) (.slice fA3 fn fc3) z k data fs Cs3) := Lib.hid ⟨G2.out.grow hb, O2.out.below hb (Nat.le_refl _), hB, N2.out.trans (hb.mono N2.out.size)⟩; clear ho hf hB hb))
  refine (show ∀ W, Gs13 w W w2.heap.size w3.heap.size (.slice dA dn dc) (.slice fA fn fc) (.slice dA3 dn dc3) (.slice fA3 fn fc3) z k data fs Cs3 → Code.wp _ _ _ _ W from fun W4 h4 => ?_) _ S3.out
  clear G2 O2 N2 S3
  have H4 := Lib.hid h4
  obtain ⟨a0, a1, a2, a3, b0, b1, b2, b3⟩ := h4.cells
  have HD4 := Lib.hid (show Below W4.heap.size W4 W4.drew from (Below.refl _ W4).drew)
  clear h4
  go_cut [7] from 24 to 40 (fun s7 W => s7 = .bool true ∧ Hid (Gs13 w W w2.heap.size w3.heap.size (.slice dA dn dc) (.slice fA fn fc) (.slice dA3 dn dc3) (.slice fA3 fn fc3) z k data fs Cs3))
  case first =>
    go_region_held3 (fun W => W.cell? ⟨w2.heap.size, 0, none⟩ = some (.slice dA dn dc) ∧ W.cell? ⟨w2.heap.size, 1, none⟩ = some (.slice fA fn fc) ∧ W.cell? ⟨w2.heap.size + 1, 0, none⟩ = some (.int .i64 z) ∧ W.cell? ⟨w2.heap.size + 1, 1, none⟩ = some (.int .i64 k) ∧ W.cell? ⟨w3.heap.size, 0, none⟩ = some (.slice dA3 dn dc3) ∧ W.cell? ⟨w3.heap.size, 1, none⟩ = some (.slice fA3 fn fc3) ∧ W.cell? ⟨w3.heap.size + 1, 0, none⟩ = some (.int .i64 z) ∧ W.cell? ⟨w3.heap.size + 1, 1, none⟩ = some (.int .i64 k))
      (first | with_reducible exact H7.out.cells | with_reducible exact H6.out.cells | with_reducible exact H5.out.cells | go_keep)
      (first
        | (go_at_call 20; (with_reducible refine (HRS.out _ _ _ _ _ (H4.out.grow HD4.out).one.dat (H4.out.grow HD4.out).one.funs ((H4.out.grow HD4.out).two.got HBD.out (Nat.le_trans HFL.out (by decide))).dat ((H4.out.grow HD4.out).two.got HBD.out (Nat.le_trans HFL.out (by decide))).funs).mono ?_); rintro e w5 ⟨rfl, hb⟩; have H5 := Lib.hid ((H4.out.grow HD4.out).grow hb); clear hb)
        | (go_at_call 21; (with_reducible refine (HMS.out _ _ _ _ _ H5.out.one.dat H5.out.one.funs (H5.out.two.got HBD.out (Nat.le_trans HFL.out (by decide))).dat (H5.out.two.got HBD.out (Nat.le_trans HFL.out (by decide))).funs).mono ?_); rintro e w6 ⟨rfl, hb⟩; have H6 := Lib.hid (H5.out.grow hb); clear hb)
        | (go_at_call 20; (with_reducible refine (HRS.out _ _ _ _ _ H6.out.one.dat H6.out.one.funs (H6.out.two.got HBD.out (Nat.le_trans HFL.out (by decide))).dat (H6.out.two.got HBD.out (Nat.le_trans HFL.out (by decide))).funs).mono ?_); rintro e w7 ⟨rfl, hb⟩; have H7 := Lib.hid (H6.out.grow hb); clear hb))
    all_goals
      go_wp2
      go_meet
      case rel => exact ⟨by first | rfl | trivial | simp, H7⟩
  case rest =>
    obtain ⟨rfl, H8⟩ := hcut
    clear H4 a0 a1 a2 a3 b0 b1 b2 b3 HD4
    obtain ⟨a0, a1, a2, a3, b0, b1, b2, b3⟩ := H8.out.cells
    go_upto_region 7 with (go_at_call 22; (with_reducible refine (over_own _ _ _ _ _ H8.out.own).mono ?_); rintro e w5 ⟨rfl, hb⟩; have B5 := Lib.hid (But.below H8.out.bel hb H8.out.bel.size (fun j hj => (H8.out.own.lt hj).1)); have T5 := Lib.hid (H8.out.two.over H8.out.own hb); clear hb)
    clear a0 a1 a2 a3 b0 b1 b2 b3 H8
    go_upto_region 8 with (go_at_call 18; (with_reducible refine (HG.out _ B5.out).mono ?_); rintro e w6 ⟨D6, F6, Cs6, rfl, ho, hf⟩; obtain ⟨dA6, dc6, hde⟩ := owns_len ho.own; obtain ⟨fA6, fc6, hfe⟩ := owns_len hf.own; dsimp only at hde hfe; rw [← HN.out.1] at hde; rw [← HN.out.2] at hfe; subst hde hfe; obtain ⟨hG, hb, -⟩ := ga13_new (z := z) (k := k) ho HBD.out hf (Nat.le_trans HFL.out (by decide)); have G6 := Lib.hid hG; have T6 := Lib.hid (T5.out.grow hb); have B6 := Lib.hid (B5.out.trans (hb.mono B5.out.size)); clear ho hf hG hb)
    clear T5 B5
    refine (show ∀ W, Ga13 W w6.heap.size (.slice dA6 dn dc6) (.slice fA6 fn fc6) z k data fs → Bk13 W (.slice dA dn dc) w3.heap.size (.slice dA3 dn dc3) (.slice fA3 fn fc3) z k data fs Cs3 → Below w.heap.size w W → Code.wp _ _ _ _ W from fun W7 g7 t7 b7 => ?_) _ G6.out T6.out B6.out
    clear G6 T6 B6
    have G7 := Lib.hid g7
    have T7 := Lib.hid t7
    have B7 := Lib.hid b7
    obtain ⟨a0, a1, a2, a3⟩ := g7.cells
    obtain ⟨b0, b1, b2, b3⟩ := (t7.got HBD.out (Nat.le_trans HFL.out (by decide))).cells
    clear g7 t7 b7
    go_wp2_with (first
      | (go_at_call 20; (with_reducible refine (HRS.out _ _ _ _ _ G7.out.dat G7.out.funs (T7.out.got HBD.out (Nat.le_trans HFL.out (by decide))).dat (T7.out.got HBD.out (Nat.le_trans HFL.out (by decide))).funs).mono ?_); rintro e w8 ⟨rfl, hb⟩; have B8 := Lib.hid (B7.out.trans (hb.mono B7.out.size)); clear a0 a1 a2 a3 b0 b1 b2 b3; obtain ⟨a0, a1, a2, a3⟩ := (G7.out.grow hb).cells; obtain ⟨b0, b1, b2, b3⟩ := ((T7.out.grow hb).got HBD.out (Nat.le_trans HFL.out (by decide))).cells; clear hb)
      | (go_at_call 9; (with_reducible refine (HAW.out _ B8.out).mono ?_); rintro e w9 ⟨rfl, hb⟩; have B9 := Lib.hid (B8.out.trans (hb.mono B8.out.size)); clear hb))
    go_ret
    exact ⟨by first | rfl | simp, B9.out⟩
end Go.Proofs.YtohlifeenhaifaaGreatDoor
