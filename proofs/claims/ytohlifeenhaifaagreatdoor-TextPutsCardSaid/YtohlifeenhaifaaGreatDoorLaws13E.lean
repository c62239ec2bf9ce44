/- TextPuts' call: what is put, an instruction's line and a number are the document's. No condition but that the module and the instruction lie in memory. -/
import Derived.Test.YtohlifeenhaifaaGreatDoorLaws13D
import Derived.Test.YtohlifeenhaifaaGreatDoorRef13D
import Derived.Test.YtohlifeenhaifaaGreatDoorRef13E
import Derived.Deep.RegionHeld3
import Derived.Deep.CutRange
namespace Go.Proofs.YtohlifeenhaifaaGreatDoor
open Go.RowKit Go.Shelf
set_option linter.unusedVariables false
set_option linter.unusedSimpArgs false

/-- A module and an instruction that came in, in their boxes. -/
structure Two13 (w W : World) (D F : Value) (data : List Int) (fs : List FunV) (op a b c n : Int) (X : Value) (args : List Int) : Prop where
  box : W.heap[w.heap.size]? = some (.cells #[D, F] 25 (0, 0))
  ins : W.heap[w.heap.size + 1]? = some (.cells (insCells op a b c n X) 28 (0, 0))
  dat : IsBytes W W.heap.size D data
  funs : IsFuns W W.heap.size F fs
  nums : IsNums .i64 W W.heap.size X args
  bel : Below w.heap.size w W
theorem Two13.grow {w W W' : World} {D F : Value} {data : List Int} {fs : List FunV} {op a b c n : Int} {X : Value} {args : List Int} (h : Two13 w W D F data fs op a b c n X args) (hb : Below W.heap.size W W') : Two13 w W' D F data fs op a b c n X args :=
  ⟨box_below h.box hb, box_below h.ins hb, h.dat.grow hb, h.funs.grow hb, (h.nums.below hb (Nat.le_refl _)).more hb.size, h.bel.trans (hb.mono h.bel.size)⟩
theorem two13_new {w : World} {D F : Value} {data : List Int} {fs : List FunV} {op a b c n : Int} {X : Value} {args : List Int} (hD : IsBytes w w.heap.size D data) (hF : IsFuns w w.heap.size F fs) (hX : IsNums .i64 w w.heap.size X args) :
    Two13 w ((w.alloc (.cells #[D, F] 25)).alloc (.cells (insCells op a b c n X) 28)) D F data fs op a b c n X args := by
  have hB0 : Below w.heap.size w ((w.alloc (.cells #[D, F] 25)).alloc (.cells (insCells op a b c n X) 28)) := ((Below.refl _ w).alloc (Nat.le_refl _) _).alloc (by simp) _
  refine ⟨?_, ?_, hD.grow hB0, hF.grow hB0, (hX.below hB0 (Nat.le_refl _)).more hB0.size, hB0⟩
  · rw [Below.heap_alloc _ _ _ (by simp)]
    exact heap_alloc_new _ _
  · have := heap_alloc_new (w.alloc (.cells #[D, F] 25)) (.cells (insCells op a b c n X) 28)
    rw [World.size_alloc] at this
    exact this
/-- The landed Number in the document's words. -/
theorem number13_all (s : ByteArray) (hs : s.size ≤ 4000) (w : World) (hE : Env13 w) : Calls Tryz.prog 13 #[.string s] w (Makes w (numA13 (lettersOf s))) := by
  unfold numA13
  cases h : numP (lettersOf s) with
  | none => exact number13_none s (by omega) h w hE
  | some v => exact number13_some s (by omega) v h w hE
theorem numA_form (s : List Int) : ∃ (v : Int) (b : Bool), numA13 s = .tuple #[.int .i64 v, .bool b] := by
  unfold numA13
  cases numP s with
  | none => exact ⟨0, false, rfl⟩
  | some v => exact ⟨v, true, rfl⟩
/-- The copy of an instruction, in its box. -/
structure Cpy13 (W : World) (cb : Nat) (op a b c n : Int) (X : Value) (args : List Int) : Prop where
  ins : W.heap[cb]? = some (.cells (insCells op a b c n X) 28 (0, 0))
  nums : IsNums .i64 W W.heap.size X args
theorem Cpy13.grow {W W' : World} {cb : Nat} {op a b c n : Int} {X : Value} {args : List Int} (h : Cpy13 W cb op a b c n X args) (hb : Below W.heap.size W W') : Cpy13 W' cb op a b c n X args :=
  ⟨box_below h.ins hb, (h.nums.below hb (Nat.le_refl _)).more hb.size⟩
theorem cpy13_new {w W : World} {op a b c n : Int} {X : Value} {args : List Int} {k : Nat} (ho : Owns W w.heap.size 3 1 (IsNum .i64) X k (args.map (Value.int .i64))) : Cpy13 (W.alloc (.cells (insCells op a b c n X) 28)) W.heap.size op a b c n X args := by
  have hb : Below W.heap.size W (W.alloc (.cells (insCells op a b c n X) 28)) := (Below.refl _ _).alloc (Nat.le_refl _) _
  exact ⟨heap_alloc_new W _, ((IsNums.of_owns ho (Nat.le_refl _)).below hb (Nat.le_refl _)).more hb.size⟩
theorem ins12 {W : World} {g h : Nat} {op a b c n : Int} {X Y : Value} (h1 : W.heap[g]? = some (.cells (insCells op a b c n X) 28 (0, 0))) (h2 : W.heap[h]? = some (.cells (insCells op a b c n Y) 28 (0, 0))) :
    W.cell? ⟨g, 0, none⟩ = some (.int .i64 op) ∧ W.cell? ⟨g, 1, none⟩ = some (.int .i64 a) ∧ W.cell? ⟨g, 2, none⟩ = some (.int .i64 b) ∧ W.cell? ⟨g, 3, none⟩ = some (.int .i64 c) ∧ W.cell? ⟨g, 4, none⟩ = some (.int .i64 n) ∧ W.cell? ⟨g, 5, none⟩ = some X ∧
      W.cell? ⟨h, 0, none⟩ = some (.int .i64 op) ∧ W.cell? ⟨h, 1, none⟩ = some (.int .i64 a) ∧ W.cell? ⟨h, 2, none⟩ = some (.int .i64 b) ∧ W.cell? ⟨h, 3, none⟩ = some (.int .i64 c) ∧ W.cell? ⟨h, 4, none⟩ = some (.int .i64 n) ∧ W.cell? ⟨h, 5, none⟩ = some Y := by
  obtain ⟨a0, a1, a2, a3, a4, a5⟩ := cells6 h1
  obtain ⟨b0, b1, b2, b3, b4, b5⟩ := cells6 h2
  exact ⟨a0, a1, a2, a3, a4, a5, b0, b1, b2, b3, b4, b5⟩
set_option maxRecDepth 100000 in
set_option maxHeartbeats 20000000 in
theorem puts13_any (D F : Value) (data : List Int) (fs : List FunV) (op a b c n : Int) (X : Value) (args : List Int) (s : ByteArray) (w : World) (hE : Env13 w) (hD : IsBytes w w.heap.size D data) (hF : IsFuns w w.heap.size F fs) (hX : IsNums .i64 w w.heap.size X args) (hI : InI a ∧ InI b ∧ InI c ∧ InI n) (hAr : ∀ x ∈ args, InI x) :
    Calls Tryz.prog 3 #[.agg #[D, F], .agg (insCells op a b c n X), .string s] w (Makes w (.bool true)) := by
  obtain ⟨DA, dc, hDe⟩ := hD.len
  obtain ⟨FA, fc, hFe⟩ := hF.len
  obtain ⟨XA, xc, hXe⟩ := hX.len
  subst hDe hFe hXe
  have h0 := two13_new (op := op) (a := a) (b := b) (c := c) (n := n) hD hF hX
  have HAW := Lib.hid (fun W (hb : Below w.heap.size w W) => awake13_any W (hE.grow hb))
  have HLG := Lib.hid (fun W (h : Two13 w W (.slice DA data.length dc) (.slice FA fs.length fc) data fs op a b c n (.slice XA args.length xc) args) => long13_any _ _ data fs W h.dat h.funs)
  have HFD : Hid ((ModV.mk data fs).err = 0 → ∀ f ∈ fs, Fun13 f) := Lib.hid (fun h => funs13_of hF h)
  have HDB := Lib.hid (show ∀ x ∈ data, 0 ≤ x ∧ x < 256 from hD.1)
  have HEV := Lib.hid (fun W (hb : Below w.heap.size w W) => hE.grow hb)
  have HII := Lib.hid hI
  have HAR := Lib.hid hAr
  have H0 := Lib.hid h0
  obtain ⟨m, hm⟩ : ∃ m, m = args.length := ⟨_, rfl⟩
  have HM := Lib.hid hm
  rw [← hm] at H0 HLG h0 ⊢
  obtain ⟨a0, a1⟩ := cells2 h0.box
  clear hE hD hF hX hI hAr hm
  by_cases hL : longM13 ⟨data, fs⟩ = true
  · rw [hL] at HLG
    clear h0
    go_enter Tryz.func3, Tryz.ntmps3
    go_wp2_with (first
      | (go_at_call 8; (with_reducible refine (HLG.out _ H0.out).mono ?_); rintro e w1 ⟨rfl, hb⟩; have H1 := Lib.hid (H0.out.grow hb); clear hb)
      | (go_at_call 9; (with_reducible refine (HAW.out _ H1.out.bel).mono ?_); rintro e w2 ⟨rfl, hb⟩; have H2 := Lib.hid (H1.out.grow hb); clear hb))
    go_ret
    exact ⟨rfl, H2.out.bel⟩
  have hL2 : longM13 ⟨data, fs⟩ = false := by simpa using hL
  have HFEW := Lib.hid (long13_few hL2)
  rw [hL2] at HLG
  clear hL hL2 h0
  by_cases h20 : 20 < m
  · have h20I : (20 : Int) < (m : Int) := by omega
    go_enter Tryz.func3, Tryz.ntmps3
    go_wp2_with (first
      | (go_at_call 8; (with_reducible refine (HLG.out _ H0.out).mono ?_); rintro e w1 ⟨rfl, hb⟩; have H1 := Lib.hid (H0.out.grow hb); obtain ⟨b0, b1, b2, b3, b4, b5⟩ := cells6 H1.out.ins; clear hb)
      | (go_at_call 9; (with_reducible refine (HAW.out _ H1.out.bel).mono ?_); rintro e w2 ⟨rfl, hb⟩; have H2 := Lib.hid (H1.out.grow hb); clear hb))
    go_ret
    exact ⟨rfl, H2.out.bel⟩
  have h20I : ¬ (20 : Int) < (m : Int) := by omega
  by_cases h40 : 40 < s.size
  · have h40I : (40 : Int) < (s.size : Int) := by omega
    go_enter Tryz.func3, Tryz.ntmps3
    go_wp2_with (first
      | (go_at_call 8; (with_reducible refine (HLG.out _ H0.out).mono ?_); rintro e w1 ⟨rfl, hb⟩; have H1 := Lib.hid (H0.out.grow hb); obtain ⟨b0, b1, b2, b3, b4, b5⟩ := cells6 H1.out.ins; clear hb)
      | (go_at_call 9; (with_reducible refine (HAW.out _ H1.out.bel).mono ?_); rintro e w2 ⟨rfl, hb⟩; have H2 := Lib.hid (H1.out.grow hb); clear hb))
    go_ret
    exact ⟨rfl, H2.out.bel⟩
  have h40I : ¬ (40 : Int) < (s.size : Int) := by omega
  have H20 := Lib.hid h20
  have H40 := Lib.hid h40
  clear h20 h40
  have HT : Hid ((ModV.mk data fs).err = 0 → (textM ⟨data, fs⟩).length ≤ 400000) := Lib.hid (fun h => text_few HDB.out (HFD.out h) HFEW.out.1 HFEW.out.2.1 (fun f hf => (HFEW.out.2.2 f hf).1))
  have HPU : Hid (∀ W, Two13 w W (.slice DA data.length dc) (.slice FA fs.length fc) data fs op a b c n (.slice XA m xc) args → Calls Tryz.prog 11 #[.agg #[.slice DA data.length dc, .slice FA fs.length fc]] W (Makes W (.tuple #[.string (putT data fs), .int .i64 (ModV.mk data fs).err]))) := Lib.hid (fun W h => put13_any _ _ data fs W h.dat h.funs (fun he => Nat.le_trans (HT.out he) (by decide)) (Nat.le_trans HFEW.out.1 (by decide)) (HEV.out W h.bel))
  have HRP : Hid (∀ W, Two13 w W (.slice DA data.length dc) (.slice FA fs.length fc) data fs op a b c n (.slice XA m xc) args → Calls Tryz.prog 12 #[.agg #[.slice DA data.length dc, .slice FA fs.length fc]] W (Makes W (.tuple #[.string (putT data fs), .int .i64 (ModV.mk data fs).err]))) := Lib.hid (fun W h => rput13_any _ _ data fs W h.dat h.funs (fun f hf => Nat.le_trans (HFEW.out.2.2 f hf).1 (by decide)) HT.out (Nat.le_trans HFEW.out.1 (by decide)) (Nat.le_trans HFEW.out.2.1 (by decide)))
  obtain ⟨nv, nb, hnf⟩ := numA_form (lettersOf s)
  have HN1 : Hid (∀ W, Below w.heap.size w W → Calls Tryz.prog 13 #[.string s] W (Makes W (.tuple #[.int .i64 nv, .bool nb]))) := Lib.hid (fun W hb => by
    rw [← hnf]
    exact number13_all s (by have := H40.out; omega) W (HEV.out W hb))
  have HN2 : Hid (∀ W, Calls Tryz.prog 14 #[.string s] W (Makes W (.tuple #[.int .i64 nv, .bool nb]))) := Lib.hid (fun W => by
    rw [← hnf]
    exact rnumber13_any s (by have := H40.out; omega) W)
  obtain ⟨L, hLn⟩ : ∃ L, L = strOfNums (insT ⟨op, a, b, c, n, args⟩) := ⟨_, rfl⟩
  have HI1 : Hid (∀ (W : World) (X : Value), IsNums .i64 W W.heap.size X args → Below w.heap.size w W → Calls Tryz.prog 15 #[.agg #[.int .i64 op, .int .i64 a, .int .i64 b, .int .i64 c, .int .i64 n, X]] W (Makes W (.string L))) := Lib.hid (fun W X hX hb => by
    rw [hLn]
    exact ins13_any ⟨op, a, b, c, n, args⟩ X W hX HII.out HAR.out (by have := H20.out; have := HM.out; show args.length ≤ 100000; omega) (HEV.out W hb))
  have HI2 : Hid (∀ (W : World) (X : Value), IsNums .i64 W W.heap.size X args → Calls Tryz.prog 16 #[.agg #[.int .i64 op, .int .i64 a, .int .i64 b, .int .i64 c, .int .i64 n, X]] W (Makes W (.string L))) := Lib.hid (fun W X hX => by
    rw [hLn]
    exact rins13_any op a b c n X args W hX HII.out HAR.out (by have := H20.out; have := HM.out; omega))
  have HSI : Hid (∀ (W : World) (X Y : Value), IsNums .i64 W W.heap.size X args → IsNums .i64 W W.heap.size Y args → Calls Tryz.prog 17 #[.agg #[.int .i64 op, .int .i64 a, .int .i64 b, .int .i64 c, .int .i64 n, X], .agg #[.int .i64 op, .int .i64 a, .int .i64 b, .int .i64 c, .int .i64 n, Y]] W (Makes W (.bool true))) := Lib.hid (fun W X Y h1 h2 => by
    have h := sameIns_any op a b c n X args op a b c n Y args W h1 h2
    rw [show sameV op a b c n args op a b c n args = true by simp [sameV]] at h
    exact h)
  have HCI : Hid (∀ W, Two13 w W (.slice DA data.length dc) (.slice FA fs.length fc) data fs op a b c n (.slice XA m xc) args → Calls Tryz.prog 10 #[.agg #[.int .i64 op, .int .i64 a, .int .i64 b, .int .i64 c, .int .i64 n, .slice XA m xc]] W (CopyInsDone W op a b c n args)) := Lib.hid (fun W h => copyIns_any op a b c n _ args W h.nums (by have := H20.out; have := HM.out; omega))
  clear hnf hLn HT
  generalize putT data fs = A at *
  generalize (ModV.mk data fs).err = er at *
  have hee : (er == er) = true := by simp
  go_enter Tryz.func3, Tryz.ntmps3
  go_upto_region 8 with (first
    | (go_at_call 8; (with_reducible refine (HLG.out _ H0.out).mono ?_); rintro e w1 ⟨rfl, hb⟩; have H1 := Lib.hid (H0.out.grow hb); obtain ⟨b0, b1, b2, b3, b4, b5⟩ := cells6 H1.out.ins; clear hb)
    | (go_at_call 10; (with_reducible refine (HCI.out _ H1.out).mono ?_); rintro e w2 ⟨v, rfl, ho, hb⟩; obtain ⟨vA, vc, hve⟩ := owns_len ho; subst hve; have HC2 := Lib.hid (cpy13_new (op := op) (a := a) (b := b) (c := c) (n := n) ho); have H2 := Lib.hid ((H1.out.grow hb).grow ((Below.refl _ w2).alloc (Nat.le_refl _) (.cells (insCells op a b c n (.slice vA args.length vc)) 28))); obtain ⟨e0, e1⟩ := cells2 H2.out.box; clear ho hb)
    | (go_at_call 11; (with_reducible refine (HPU.out _ H2.out).mono ?_); rintro e w3 ⟨rfl, hb⟩; have H3 := Lib.hid (H2.out.grow hb); have HC3 := Lib.hid (HC2.out.grow hb); obtain ⟨f0, f1⟩ := cells2 H3.out.box; clear hb)
    | (go_at_call 12; (with_reducible refine (HRP.out _ H3.out).mono ?_); rintro e w4 ⟨rfl, hb⟩; have H4 := Lib.hid (H3.out.grow hb); have HC4 := Lib.hid (HC3.out.grow hb); clear hb)
    | (go_at_call 13; (with_reducible refine (HN1.out _ H4.out.bel).mono ?_); rintro e w5 ⟨rfl, hb⟩; have H5 := Lib.hid (H4.out.grow hb); have HC5 := Lib.hid (HC4.out.grow hb); clear hb)
    | (go_at_call 14; (with_reducible refine (HN2.out _).mono ?_); rintro e w6 ⟨rfl, hb⟩; have H6 := Lib.hid (H5.out.grow hb); have HC6 := Lib.hid (HC5.out.grow hb); clear hb))
  clear a0 a1 b0 b1 b2 b3 b4 b5 e0 e1 f0 f1
  obtain ⟨x0, x1, x2, x3, x4, x5, y0, y1, y2, y3, y4, y5⟩ := ins12 HC6.out.ins H6.out.ins
  have HD6 := Lib.hid (show Below w6.heap.size w6 w6.drew from (Below.refl _ w6).drew)
  have hnn : (nv == nv) = true := by simp
  go_region_held3 (fun W => W.cell? ⟨w2.heap.size, 0, none⟩ = some (.int .i64 op) ∧ W.cell? ⟨w2.heap.size, 1, none⟩ = some (.int .i64 a) ∧ W.cell? ⟨w2.heap.size, 2, none⟩ = some (.int .i64 b) ∧ W.cell? ⟨w2.heap.size, 3, none⟩ = some (.int .i64 c) ∧ W.cell? ⟨w2.heap.size, 4, none⟩ = some (.int .i64 n) ∧ W.cell? ⟨w2.heap.size, 5, none⟩ = some (.slice vA args.length vc) ∧ W.cell? ⟨w.heap.size + 1, 0, none⟩ = some (.int .i64 op) ∧ W.cell? ⟨w.heap.size + 1, 1, none⟩ = some (.int .i64 a) ∧ W.cell? ⟨w.heap.size + 1, 2, none⟩ = some (.int .i64 b) ∧ W.cell? ⟨w.heap.size + 1, 3, none⟩ = some (.int .i64 c) ∧ W.cell? ⟨w.heap.size + 1, 4, none⟩ = some (.int .i64 n) ∧ W.cell? ⟨w.heap.size + 1, 5, none⟩ = some (.slice XA m xc))
    (first | with_reducible exact ins12 HCA.out.ins HA.out.ins | with_reducible exact ins12 HC9.out.ins H9.out.ins | with_reducible exact ins12 HC8.out.ins H8.out.ins | with_reducible exact ins12 HC7.out.ins H7.out.ins | go_keep)
    (first
      | (go_at_call 15; (with_reducible refine (HI1.out _ _ ((HC6.out.grow HD6.out).nums) ((H6.out.grow HD6.out).bel)).mono ?_); rintro e w7 ⟨rfl, hb⟩; have H7 := Lib.hid ((H6.out.grow HD6.out).grow hb); have HC7 := Lib.hid ((HC6.out.grow HD6.out).grow hb); clear hb)
      | (go_at_call 16; (with_reducible refine (HI2.out _ _ H7.out.nums).mono ?_); rintro e w8 ⟨rfl, hb⟩; have H8 := Lib.hid (H7.out.grow hb); have HC8 := Lib.hid (HC7.out.grow hb); clear hb)
      | (go_at_call 17; (with_reducible refine (HSI.out _ _ _ HC8.out.nums H8.out.nums).mono ?_); rintro e w9 ⟨rfl, hb⟩; have H9 := Lib.hid (H8.out.grow hb); have HC9 := Lib.hid (HC8.out.grow hb); clear hb)
      | (go_at_call 9; (with_reducible refine (HAW.out _ H9.out.bel).mono ?_); rintro e wA ⟨rfl, hb⟩; have HA := Lib.hid (H9.out.grow hb); have HCA := Lib.hid (HC9.out.grow hb); clear hb))
  all_goals
    go_wp2
    go_ret
    exact ⟨by first | rfl | simp, HA.out.bel⟩
end Go.Proofs.YtohlifeenhaifaaGreatDoor
