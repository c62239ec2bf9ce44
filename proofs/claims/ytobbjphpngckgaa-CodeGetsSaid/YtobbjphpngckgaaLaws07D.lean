/- CodeBack: instructions that can be put are split as they were, each at its place. Contract; no condition but that the instructions lie in a row. -/
import Derived.Test.YtobbjphpngckgaaLaws07B
import Derived.Test.YtobbjphpngckgaaLaws07C
namespace Go.Proofs.Ytobbjphpngckgaa
open Go.RowKit Go.Shelf
set_option linter.unusedVariables false
set_option linter.unusedSimpArgs false

def placesV : List InsV → Nat → List Int
  | [], _ => []
  | y :: l, p => (p : Int) :: placesV l (p + y.bytes.length)
theorem placesV_length : ∀ (l : List InsV) (p : Nat), (placesV l p).length = l.length
  | [], _ => rfl
  | y :: l, p => by simp [placesV, placesV_length l]
theorem allB_cons (y : InsV) (l : List InsV) : allB (y :: l) = y.bytes ++ allB l := by simp [allB]
theorem placesV_at : ∀ (l : List InsV) (p : Nat) {i : Nat}, i < l.length → (placesV l p).getD i 0 = ((p + (allB (l.take i)).length : Nat) : Int)
  | [], _, i, hi => absurd hi (by simp)
  | y :: l, p, 0, _ => by simp [placesV, allB]
  | y :: l, p, i + 1, hi => by
    simp only [placesV, List.getD_cons_succ, List.take_succ_cons, allB_cons, List.length_append]
    rw [placesV_at l _ (by simpa using hi)]
    congr 1
    omega
theorem all_length : ∀ l : List InsV, l.length ≤ (allB l).length
  | [] => by simp
  | y :: l => by
    rw [allB_cons, List.length_append, List.length_cons]
    have := bytes_pos y
    have := all_length l
    omega
theorem split_all {b : List Int} : ∀ (m : List InsV) (f at_ : Nat) (l : List InsV) (ps : List Int), firstE m = 0 → at_ ≤ b.length → b.drop at_ = allB m → m.length ≤ f → splitF b f at_ l ps = ⟨0, 0, l ++ m, ps ++ placesV m at_⟩
  | [], f, at_, l, ps, _, ha, hd, _ => by
    have : at_ = b.length := by
      have := congrArg List.length hd
      simp [allB] at this
      omega
    subst this
    rw [split_end]
    simp [placesV]
  | y :: m, f, at_, l, ps, h0, ha, hd, hf => by
    have hy : y.chk = 0 := by
      simp only [firstE] at h0
      split at h0
      · assumption
      · rename_i h; exact absurd h0 h
    have hm : firstE m = 0 := by simpa only [firstE, if_pos hy] using h0
    rw [allB_cons] at hd
    obtain ⟨h1, h2, h3⟩ := drop_parts hd (bytes_pos y)
    have hp := bytes_pos y
    have hg := get_put hy hd
    obtain ⟨f', rfl⟩ : ∃ f', f = f' + 1 := ⟨f - 1, by simp at hf; omega⟩
    rw [split_step (by omega) (by rw [hg]), hg]
    dsimp only
    rw [split_all m f' _ _ _ hm (by omega) h3 (by simpa using hf)]
    simp [placesV]
theorem first_all {l : List InsV} (h : joinE l = 0) : firstE l = 0 ∧ (allB l).length ≤ 4096 := by
  unfold joinE at h
  by_cases h0 : firstE l = 0
  · rw [if_pos h0] at h
    refine ⟨h0, ?_⟩
    split at h
    · omega
    · omega
  · rw [if_neg h0] at h
    exact absurd h h0
theorem split_join {l : List InsV} (h : joinE l = 0) : splitV (allB l) = ⟨0, 0, l, placesV l 0⟩ := by
  obtain ⟨h0, hl⟩ := first_all h
  unfold splitV
  rw [if_neg (by omega), split_all l _ 0 [] [] h0 (Nat.zero_le _) (by simp) (by have := all_length l; omega)]
  simp
theorem first_at : ∀ (l : List InsV) {i : Nat}, i < l.length → firstE l = 0 → (l.getD i .zero).chk = 0
  | [], i, hi, _ => absurd hi (by simp)
  | y :: l, i, hi, h => by
    have hy : y.chk = 0 := by
      simp only [firstE] at h
      split at h
      · assumption
      · rename_i h'; exact absurd h h'
    cases i with
    | zero => simpa using hy
    | succ i =>
      simp only [List.getD_cons_succ]
      exact first_at l (by simpa using hi) (by simpa only [firstE, if_pos hy] using h)
theorem all_at {l : List InsV} {i : Nat} (hi : i < l.length) : (allB l).drop (allB (l.take i)).length = (l.getD i .zero).bytes ++ allB (l.drop (i + 1)) ∧ allB (l.take (i + 1)) = allB (l.take i) ++ (l.getD i .zero).bytes := by
  have h1 : l = l.take i ++ (l.getD i .zero :: l.drop (i + 1)) := by
    conv => lhs; rw [← List.take_append_drop i l, List.drop_eq_getElem_cons hi]
    simp [List.getD, List.getElem?_eq_getElem hi]
  refine ⟨?_, by rw [code_take l hi, all_snoc]⟩
  have h2 : allB l = allB (l.take i) ++ ((l.getD i .zero).bytes ++ allB (l.drop (i + 1))) := by
    conv => lhs; rw [h1]
    unfold allB
    rw [List.flatMap_append, List.flatMap_cons]
  rw [h2, List.drop_left]
theorem get_at_place {l : List InsV} (h : joinE l = 0) {i : Nat} (hi : i < l.length) : getI (allB l) (allB (l.take i)).length = ⟨0, 0, l.getD i .zero, (allB (l.take i)).length + (l.getD i .zero).bytes.length⟩ ∧ (allB (l.take i)).length < (allB l).length := by
  obtain ⟨h0, hl⟩ := first_all h
  have hc := first_at l hi h0
  have ha := (all_at hi).1
  refine ⟨get_put hc ha, ?_⟩
  have := (drop_parts ha (bytes_pos _)).1
  have := bytes_pos (l.getD i .zero)
  omega
theorem neqF_no (z k : Int) (w : World) : (binOp .neq 41 (.agg #[.int .i64 z, .int .i64 k]) (.agg #[.int .i64 z, .int .i64 k])).run Try.prog w = .ok (.bool false) w := by go_simp
/-- What a round has at hand: what was got, and where. -/
structure BkAt (w W : World) (bx : Nat) (y : InsV) (X : Value) : Prop where
  ins : W.heap[bx]? = some (.cells (insCells y.op y.a y.b y.c y.n X) 35 (0, 0))
  fau : flt W (bx + 1) 0 0
  num : IsNums .i64 W W.heap.size X y.args
  bel : Below w.heap.size w W
theorem BkAt.grow {w W W' : World} {bx : Nat} {y : InsV} {X : Value} (h : BkAt w W bx y X) (hb : Below W.heap.size W W') : BkAt w W' bx y X :=
  ⟨(hb.block _ (heap_lt h.ins)).trans h.ins, (hb.block _ (heap_lt h.fau)).trans h.fau, (h.num.below hb (Nat.le_refl _)).more hb.size, h.bel.trans (hb.mono h.bel.size)⟩
theorem BkAt.drew {w W : World} {bx : Nat} {y : InsV} {X : Value} (h : BkAt w W bx y X) : BkAt w W.drew bx y X := ⟨h.ins, h.fau, nums_drew h.num, h.bel.drew⟩
theorem bk_cells {w W : World} {bx b o : Nat} {y : InsV} {X Xi : Value} (h : BkAt w W bx y X) (hb : b < w.heap.size) (hc : ∀ j, j < 6 → w.cell? ⟨b, o + j, none⟩ = some (insCell y Xi j)) :
    W.cell? ⟨bx, 0, none⟩ = some (.int .i64 y.op) ∧ W.cell? ⟨bx, 1, none⟩ = some (.int .i64 y.a) ∧ W.cell? ⟨bx, 2, none⟩ = some (.int .i64 y.b) ∧ W.cell? ⟨bx, 3, none⟩ = some (.int .i64 y.c) ∧ W.cell? ⟨bx, 4, none⟩ = some (.int .i64 y.n) ∧ W.cell? ⟨bx, 5, none⟩ = some X ∧
    W.cell? ⟨bx + 1, 0, none⟩ = some (.int .i64 0) ∧ W.cell? ⟨bx + 1, 1, none⟩ = some (.int .i64 0) ∧
    W.cell? ⟨b, o, none⟩ = some (.int .i64 y.op) ∧ W.cell? ⟨b, o + 1, none⟩ = some (.int .i64 y.a) ∧ W.cell? ⟨b, o + 2, none⟩ = some (.int .i64 y.b) ∧ W.cell? ⟨b, o + 3, none⟩ = some (.int .i64 y.c) ∧ W.cell? ⟨b, o + 4, none⟩ = some (.int .i64 y.n) ∧ W.cell? ⟨b, o + 5, none⟩ = some Xi := by
  obtain ⟨c0, c1, c2, c3, c4, c5⟩ := cells6 h.ins
  have hw : ∀ j, j < 6 → W.cell? ⟨b, o + j, none⟩ = some (insCell y Xi j) := fun j hj => (h.bel.cell (p := ⟨b, o + j, none⟩) hb).trans (hc j hj)
  exact ⟨c0, c1, c2, c3, c4, c5, flt0 h.fau, flt1 h.fau, hw 0 (by omega), hw 1 (by omega), hw 2 (by omega), hw 3 (by omega), hw 4 (by omega), hw 5 (by omega)⟩
theorem bk_new {w wr w5 : World} {y : InsV} {X : Value} (hbw : Below w.heap.size w wr) (hb : Below wr.heap.size wr w5) (ho : OutN wr.heap.size w5 X y.args) :
    BkAt w ((w5.alloc (.cells (insCells y.op y.a y.b y.c y.n X) 35)).alloc (.cells #[.int .i64 0, .int .i64 0] 41)) w5.heap.size y X := by
  have ha := ((Below.refl w5.heap.size w5).alloc (Nat.le_refl _) (.cells (insCells y.op y.a y.b y.c y.n X) 35)).alloc (by simp) (.cells #[.int .i64 0, .int .i64 0] 41)
  refine ⟨?_, ?_, IsNums.of_owns (Owns.below ho ha (Nat.le_refl _)) (Nat.le_refl _), hbw.trans ((hb.trans (ha.mono hb.size)).mono hbw.size)⟩
  · rw [Below.heap_alloc _ _ _ (by simp)]
    exact heap_alloc_new _ _
  · have := heap_alloc_new (w5.alloc (.cells (insCells y.op y.a y.b y.c y.n X) 35)) (.cells #[.int .i64 0, .int .i64 0] 41)
    rw [World.size_alloc] at this
    exact this
theorem bk_below {wr : World} (w5 : World) (y : InsV) (X : Value) (hb : Below wr.heap.size wr w5) : Below wr.heap.size w5 ((w5.alloc (.cells (insCells y.op y.a y.b y.c y.n X) 35)).alloc (.cells #[.int .i64 0, .int .i64 0] 41)) :=
  (((Below.refl w5.heap.size w5).alloc (Nat.le_refl _) (.cells (insCells y.op y.a y.b y.c y.n X) 35)).alloc (by simp) (.cells #[.int .i64 0, .int .i64 0] 41)).mono hb.size
theorem get_place {l : List InsV} (h : joinE l = 0) {i : Nat} (hi : i < l.length) (V : Value) (W : World) (hV : IsBytes W W.heap.size V (allB l)) :
    Calls Try.prog 22 #[V, .int .i64 ((allB (l.take i)).length : Nat)] W fun e w' => Below W.heap.size W w' ∧ ∃ X, e = .returned (.tuple #[.agg (insCells (l.getD i .zero).op (l.getD i .zero).a (l.getD i .zero).b (l.getD i .zero).c (l.getD i .zero).n X), .int .i64 (((allB (l.take i)).length + (l.getD i .zero).bytes.length : Nat) : Int), .agg #[.int .i64 0, .int .i64 0]]) ∧
      OutN W.heap.size w' X (l.getD i .zero).args := by
  obtain ⟨hg, hlt⟩ := get_at_place h hi
  refine (get7_any V (allB l) _ W hV (by have := (first_all h).2; omega)).mono ?_
  rw [getI_gotV (by omega), hg]
  rintro e w' ⟨hb, ⟨h, _⟩ | ⟨_, X, rfl, ho⟩⟩
  · exact absurd rfl h
  · exact ⟨hb, X, rfl, ho⟩
set_option maxRecDepth 100000 in
set_option maxHeartbeats 16000000 in
theorem back_law (V : Value) (l : List InsV) (w : World) (h : IsCode w w.heap.size V l) : Calls Try.prog 6 #[V] w (Makes w (.bool true)) := by
  have HK := Lib.hid (fun W => known7_any W)
  have HC := Lib.hid (fun W (hb : Below w.heap.size w W) => (h.below hb (Nat.le_refl _) (Nat.le_refl _)).more hb.size)
  have HLg : Hid (∀ W, Below w.heap.size w W → Calls Try.prog 9 #[V, .int .i64 60] W fun e w' => e = .returned (.bool (longV l 60)) ∧ W = w') := Lib.hid (fun W hb => long_any V l 60 W _ (HC.out W hb) (by decide))
  have HJ := Lib.hid (fun W hb => join7_any V l W (HC.out W hb))
  have HC0 := Lib.hid h
  obtain ⟨A, cap, hV⟩ := h.len
  subst hV
  have hm := h.1
  unfold maxLen at hm
  clear h
  cases hlg : longV l 60
  · rw [hlg] at HLg
    have hln := (long_no hlg).1
    by_cases hj : joinE l = 0
    · have HJ0 := Lib.hid (fun W hb => (HJ.out W hb).mono fun e w' hh => (hh.resolve_left (fun h => h.1 hj)).2)
      have HSJ := Lib.hid (split_join hj)
      have HJE := Lib.hid hj
      obtain ⟨n, hn⟩ : ∃ n, n = l.length := ⟨_, rfl⟩
      have HN := Lib.hid hn
      have hall := (first_all hj).2
      obtain ⟨b, hbq⟩ : ∃ b, b = allB l := ⟨_, rfl⟩
      have HBQ := Lib.hid hbq
      have HBD : Hid (∀ x ∈ b, 0 ≤ x ∧ x < 256) := Lib.hid (by rw [hbq]; intro x hx; obtain ⟨y, _, hy⟩ := List.mem_flatMap.1 hx; exact y.bytes_bd x hy)
      rw [← hbq] at hall HSJ
      change Hid (∀ W, Below w.heap.size w W → Calls _ _ _ _ (fun e w' => ∃ v, e = .returned (.tuple #[v, .int .i64 0]) ∧ OutB W w' v (allB l))) at HJ0
      rw [← hbq] at HJ0
      rw [← hn] at hm hln HLg HJ0 HC0 HC HJ ⊢
      clear hj hn hbq HJ
      go_enter Try.func6, Try.ntmps6
      go_wp2_with (first
        | (go_at_call 5; (with_reducible refine (HK.out _).mono ?_); rintro e w1 ⟨rfl, hb⟩; have B1 := Lib.hid hb; clear hb)
        | (go_at_call 9; (with_reducible refine (HLg.out _ B1.out).mono ?_); rintro e w2 ⟨rfl, rfl⟩)
        | (go_at_call 12; (with_reducible refine (HJ0.out _ B1.out).mono ?_); rintro e w2 ⟨vb, rfl, ho⟩; obtain ⟨bA, bc, hvb⟩ := owns_len ho.own; subst hvb; have HB2 := Lib.hid (ho.bytes HBD.out (Nat.le_refl _)); have B2 := Lib.hid (B1.out.trans (ho.bel.mono B1.out.size)); have HS := Lib.hid (split7_any _ b _ HB2.out); rw [HSJ.out] at HS; clear ho)
        | (go_at_call 24; (with_reducible refine HS.out.mono ?_); rintro e w3 ⟨hb, ⟨hbad, _⟩ | ⟨_, VM, P, Xs, rfl, hc, hp⟩⟩; exact absurd rfl hbad; dsimp only at hc hp; obtain ⟨pA, pc, hpe⟩ := owns_len hp; obtain ⟨mA, mc, hme⟩ := owns_len hc.own; rw [placesV_length, ← HN.out] at hpe; rw [← HN.out] at hme; subst hpe hme; have hC3 := hc.code (by have := HN.out; omega); have hP3 := IsNums.of_owns hp (Nat.le_refl _); have ha := (Below.refl w3.heap.size w3).alloc (Nat.le_refl _) (.cells #[.int .i64 0, .int .i64 0] 41); have B3 := Lib.hid (B2.out.trans ((hb.trans (ha.mono hb.size)).mono B2.out.size)); have HB3 := Lib.hid (((HB2.out.below hb (Nat.le_refl _)).below (B' := w3.heap.size) ha hb.size).more (Nat.le_trans hb.size ha.size)); have HP3 := Lib.hid ((hP3.below ha (Nat.le_refl _)).more ha.size); have HSC := Lib.hid (sameCode_any _ _ l l _ ((hC3.below ha (Nat.le_refl _) (Nat.le_refl _)).more ha.size) (HC.out _ B3.out)); rw [(sameCV_iff l l).2 rfl] at HSC; have F3 := Lib.hid (show flt (w3.alloc (.cells #[.int .i64 0, .int .i64 0] 41)) w3.heap.size 0 0 from heap_alloc_new _ _); clear hb ha hc hp hC3 hP3)
        | (go_at_call 20; (with_reducible refine HSC.out.mono ?_); rintro e w4 ⟨rfl, hb⟩; have B4 := Lib.hid (B3.out.trans (hb.mono B3.out.size)); have HB4 := Lib.hid ((HB3.out.below hb (Nat.le_refl _)).more hb.size); have HP4 := Lib.hid ((HP3.out.below hb (Nat.le_refl _)).more hb.size); clear hb))
      have hne0 := fun W => neqF_no 0 0 W
      go_loopw [9, 10] (fun at_ i wr => ∃ k : Nat, k ≤ n ∧ i = .int .i64 k ∧ at_ = .int .i64 ((allB (l.take k)).length : Nat) ∧ Hid (Below w4.heap.size w4 wr)) (fun _ i _ => n - (intOf i).toNat)
      case atStart => exact ⟨0, by omega, rfl, by simp [allB], Below.refl _ _⟩
      case round =>
        obtain ⟨k, hk, rfl, rfl, HR⟩ := hrel
        by_cases hlt : k < n
        · have hkl : k < l.length := by rw [← HN.out]; exact hlt
          obtain ⟨g, off, cap2, hV, _, hgB, hcl⟩ := HC0.out.plain (by omega)
          rw [← HN.out] at hV
          cases hV
          obtain ⟨Xi, hXi, hcell⟩ := hcl k hkl
          have hG := get_place HJE.out hkl (.slice bA b.length bc) wr (by rw [← HBQ.out]; exact (HB4.out.below HR.out (Nat.le_refl _)).more HR.out.size)
          have hpl := HP4.out
          obtain ⟨gp, op, cp, hPe, _, hgp, hpc⟩ := hpl.plain (by rw [placesV_length]; omega)
          rw [placesV_length, ← HN.out] at hPe
          cases hPe
          have hpk := hpc k (by rw [placesV_length]; exact hkl)
          rw [placesV_at l 0 hkl, Nat.zero_add] at hpk
          have hpr := (HR.out.cell (p := ⟨gp, op + k, none⟩) hgp).trans hpk
          have hta := (all_at hkl).2
          have hbw := B4.out.trans (HR.out.mono B4.out.size)
          have hck := first_at l hkl (first_all HJE.out).1
          have hlb : ((allB (l.take k)).length : Int) ≤ 4096 ∧ (((l.getD k .zero).bytes.length : Nat) : Int) ≤ 100 := by
            have h1 := (get_at_place HJE.out hkl).2
            have h2 := bytes_short hck
            have h3 := (first_all HJE.out).2
            omega
          have hlen : lenV (l.getD k .zero) = (l.getD k .zero).bytes.length := by unfold lenV; rw [if_pos hck]
          have HG := Lib.hid hG
          have HXi := Lib.hid (fun W (hb : Below w.heap.size w W) => (hXi.below hb (Nat.le_refl _)).more hb.size)
          have hlb2 := hlb.2
          have hlb1 := hlb.1
          obtain ⟨y, hy⟩ : ∃ y, y = l.getD k .zero := ⟨_, rfl⟩
          rw [← hy] at HG hcell HXi hta hck hlb2 hlen
          have HSI := Lib.hid (fun W X hX (hb : Below w.heap.size w W) => sameIns_any y.op y.a y.b y.c y.n X y.args y.op y.a y.b y.c y.n Xi y.args W hX (HXi.out W hb))
          rw [show sameV y.op y.a y.b y.c y.n y.args y.op y.a y.b y.c y.n y.args = true from sameY_refl y] at HSI
          have HLn := Lib.hid (fun W (hb : Below w.heap.size w W) => length7_any y.op y.a y.b y.c y.n Xi y.args W (HXi.out W hb))
          change Hid (∀ W, Below w.heap.size w W → Calls _ _ _ _ (Makes W (.int .i64 (lenV y)))) at HLn
          rw [hlen] at HLn
          have HCk := Lib.hid (fun W X (hX : IsNums .i64 W W.heap.size X y.args) => check_any y.op y.a y.b y.c y.n X y.args 64 4096 W hX)
          rw [show checkV y.op y.a y.b y.c y.n y.args 64 4096 = 0 from hck] at HCk
          obtain ⟨XA, xc, hXe⟩ := hXi.len
          rw [← hy] at hXe
          subst hXe
          have HCL := Lib.hid hcell
          have HTA := Lib.hid hta
          have HBW := Lib.hid hbw
          have hltI : (k : Int) < (n : Int) := by omega
          have hgp0 := hgp
          have hta2 : (allB (l.take (k + 1))).length = (allB (l.take k)).length + y.bytes.length := by rw [hta, List.length_append]
          generalize (allB (l.take k)).length = pa at *
          have HTL := Lib.hid hta2
          clear hta2
          have HPR := Lib.hid (And.intro hpr (Nat.lt_of_lt_of_le hgp HR.out.size))
          clear hG hcl hXi hpl hpc hpk hta hck hlb hlen hcell hbw hy hgp
          go_wp2_with (go_at_call 22; (with_reducible refine HG.out.mono ?_); rintro e w5 ⟨hb, X, rfl, ho⟩; obtain ⟨oA, oc, hoe⟩ := owns_len ho; subst hoe; have K5 := Lib.hid (bk_new HBW.out hb ho); have HPP := Lib.hid ((((Below.refl w5.heap.size w5).alloc (Nat.le_refl _) (.cells (insCells y.op y.a y.b y.c y.n (.slice oA y.args.length oc)) 35)).alloc (by simp) (.cells #[.int .i64 0, .int .i64 0] 41)).cell (p := ⟨gp, op + k, none⟩) (Nat.lt_of_lt_of_le HPR.out.2 hb.size) |>.trans ((hb.cell (p := ⟨gp, op + k, none⟩) HPR.out.2).trans HPR.out.1)); have HKK := Lib.hid (bk_cells K5.out hgB HCL.out); obtain ⟨a0, a1, a2, a3, a4, a5, b0, b1, c0, c1, c2, c3, c4, c5⟩ := HKK.out; have pp := HPP.out; have B5 := Lib.hid (HR.out.trans ((hb.trans (bk_below w5 y (.slice oA y.args.length oc) hb)).mono HR.out.size)); clear hb ho)
          clear a0 a1 a2 a3 a4 a5 b0 b1 c0 c1 c2 c3 c4 c5 pp
          refine (show ∀ W, BkAt w W w5.heap.size y (.slice oA y.args.length oc) → W.cell? ⟨gp, op + k, none⟩ = some (.int .i64 pa) → Below w4.heap.size w4 W → gp < W.heap.size → Code.wp _ _ _ _ W from fun W hK hp hB hgw => ?_) _ K5.out HPP.out B5.out (Nat.lt_of_lt_of_le hgp0 B5.out.size)
          have K0 := Lib.hid hK
          have B0 := Lib.hid hB
          have P0 := Lib.hid hp
          obtain ⟨pp, a0, a1, a2, a3, a4, a5, b0, b1, c0, c1, c2, c3, c4, c5⟩ := And.intro hp (bk_cells hK hgB HCL.out)
          have hwr : IntKind.i64.wrap ((pa : Int) + (y.bytes.length : Int)) = (pa : Int) + (y.bytes.length : Int) := by rw [IntKind.wrap_i64]; omega
          clear hK hp hB
          go_region_held3 (fun W => W.cell? ⟨gp, op + k, none⟩ = some (.int .i64 pa) ∧ W.cell? ⟨w5.heap.size, 0, none⟩ = some (.int .i64 y.op) ∧ W.cell? ⟨w5.heap.size, 1, none⟩ = some (.int .i64 y.a) ∧ W.cell? ⟨w5.heap.size, 2, none⟩ = some (.int .i64 y.b) ∧ W.cell? ⟨w5.heap.size, 3, none⟩ = some (.int .i64 y.c) ∧ W.cell? ⟨w5.heap.size, 4, none⟩ = some (.int .i64 y.n) ∧ W.cell? ⟨w5.heap.size, 5, none⟩ = some (.slice oA y.args.length oc) ∧ W.cell? ⟨w5.heap.size + 1, 0, none⟩ = some (.int .i64 0) ∧ W.cell? ⟨w5.heap.size + 1, 1, none⟩ = some (.int .i64 0) ∧ W.cell? ⟨g, off + k * 6, none⟩ = some (.int .i64 y.op) ∧ W.cell? ⟨g, off + k * 6 + 1, none⟩ = some (.int .i64 y.a) ∧ W.cell? ⟨g, off + k * 6 + 2, none⟩ = some (.int .i64 y.b) ∧ W.cell? ⟨g, off + k * 6 + 3, none⟩ = some (.int .i64 y.c) ∧ W.cell? ⟨g, off + k * 6 + 4, none⟩ = some (.int .i64 y.n) ∧ W.cell? ⟨g, off + k * 6 + 5, none⟩ = some (.slice XA y.args.length xc)) (first | with_reducible exact HK8.out | with_reducible exact HK7.out | with_reducible exact HK6.out | go_keep)
            (first
              | (go_at_call 26; (with_reducible refine (HSI.out _ _ K0.out.drew.num K0.out.drew.bel).mono ?_); rintro e w6 ⟨rfl, hb⟩; have K6 := Lib.hid (K0.out.drew.grow hb); have P6 := Lib.hid (cell_grow (W := W.drew) P0.out hb hgw); have HK6 := Lib.hid (And.intro P6.out (bk_cells K6.out hgB HCL.out)); have B6 := Lib.hid ((B0.out.drew).trans (hb.mono B0.out.size)); have hg6 := Nat.lt_of_lt_of_le hgw hb.size; clear hb)
              | (go_at_call 18; (with_reducible refine (HLn.out _ K6.out.bel).mono ?_); rintro e w7 ⟨rfl, hb⟩; have K7 := Lib.hid (K6.out.grow hb); have P7 := Lib.hid (cell_grow P6.out hb hg6); have HK7 := Lib.hid (And.intro P7.out (bk_cells K7.out hgB HCL.out)); have B7 := Lib.hid (B6.out.trans (hb.mono B6.out.size)); have hg7 := Nat.lt_of_lt_of_le hg6 hb.size; clear hb)
              | (go_at_call 32; (with_reducible refine (HCk.out _ _ K7.out.num).mono ?_); rintro e w8 ⟨rfl, hb⟩; have K8 := Lib.hid (K7.out.grow hb); have P8 := Lib.hid (cell_grow P7.out hb hg7); have HK8 := Lib.hid (And.intro P8.out (bk_cells K8.out hgB HCL.out)); have B8 := Lib.hid (B7.out.trans (hb.mono B7.out.size)); clear hb))
          all_goals
            go_wp2
            go_roundw
            case rel => exact ⟨k + 1, by omega, by go_num, by rw [HTL.out]; first | rfl | go_num, B8.out⟩
            case measure => simp [intOf]; omega
        · obtain rfl : k = n := by omega
          have htk : l.take k = l := by rw [HN.out]; exact List.take_length
          have HLL : Hid ((allB (l.take k)).length = b.length) := Lib.hid (by rw [htk, HBQ.out])
          have HBB := Lib.hid (B4.out.trans (HR.out.mono B4.out.size))
          generalize (allB (l.take k)).length = pa at *
          have hpab : ((pa : Int) == (b.length : Int)) = true := beq_iff_eq.2 (by rw [HLL.out])
          clear htk
          go_wp2
          go_ret
          exact ⟨by first | rfl | (simp [HLL.out]; done) | simp, HBB.out⟩
    · have HJ0 := Lib.hid (fun W hb => (HJ.out W hb).mono fun e w' hh => (hh.resolve_right (fun h => hj h.1)).2)
      have hne : (joinE l != 0) = true := by simpa using hj
      generalize joinE l = z at HJ0 hne
      clear hlg hj HJ
      go_enter Try.func6, Try.ntmps6
      go_wp2_with (first
        | (go_at_call 5; (with_reducible refine (HK.out _).mono ?_); rintro e w1 ⟨rfl, hb⟩; have B1 := Lib.hid hb; clear hb)
        | (go_at_call 9; (with_reducible refine (HLg.out _ B1.out).mono ?_); rintro e w2 ⟨rfl, rfl⟩)
        | (go_at_call 12; (with_reducible refine (HJ0.out _ B1.out).mono ?_); rintro e w2 ⟨rfl, hb⟩; have B2 := Lib.hid (B1.out.trans (hb.mono B1.out.size)); clear hb))
      go_ret
      exact ⟨by first | rfl | simp, B2.out⟩
  · rw [hlg] at HLg
    clear hlg HJ
    go_enter Try.func6, Try.ntmps6
    go_wp2_with (first
      | (go_at_call 5; (with_reducible refine (HK.out _).mono ?_); rintro e w1 ⟨rfl, hb⟩; have B1 := Lib.hid hb; clear hb)
      | (go_at_call 9; (with_reducible refine (HLg.out _ B1.out).mono ?_); rintro e w2 ⟨rfl, rfl⟩))
    go_ret
    exact ⟨rfl, B1.out⟩
end Go.Proofs.Ytobbjphpngckgaa
