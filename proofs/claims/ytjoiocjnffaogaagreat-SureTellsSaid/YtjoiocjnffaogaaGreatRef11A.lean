/- The document's own Writes and Reads of layer 6, and to which instructions there is a way on which a register was not written (layer 11). Contracts; no condition but what each names. -/
import Derived.Test.YtjoiocjnffaogaaGreatReg11
import Derived.Test.YtjoiocjnffaogaaGreatMath11B
import Derived.Test.YtjoiocjnffaogaaGreatS18
import Derived.Test.YtjoiocjnffaogaaGreatS19
namespace Go.Proofs.YtjoiocjnffaogaaGreat
open Go.RowKit Go.Shelf
set_option linter.unusedVariables false
set_option linter.unusedSimpArgs false

theorem letter_one (b : UInt8) (q : Int) (h : (b.toNat : Int) = q) : lettersOf ⟨#[b]⟩ = [q] := by simp [lettersOf, h]
set_option maxHeartbeats 4000000 in
theorem rwrites_any (op a b c n : Int) (X : Value) (args : List Int) (w : World) : Calls Tryz.prog 37 #[.agg (insCells op a b c n X)] w (Makes w (.int .i64 (wrtV ⟨op, a, b, c, n, args⟩))) := by
  have hB0 : Below w.heap.size w (w.alloc (.cells (insCells op a b c n X) 37)) := (Below.refl _ w).alloc (Nat.le_refl _) _
  have HB0 := Lib.hid hB0
  obtain ⟨c0, c1, c2, c3, c4, c5⟩ := cells6 (heap_alloc_new w (.cells (insCells op a b c n X) 37))
  have HQ := Lib.hid (fun W => regq_any ⟨#[119]⟩ 119 op a b c n X W (letter_one 119 119 rfl) (by decide))
  have HWP := Lib.hid (wrt_pick ⟨op, a, b, c, n, args⟩)
  dsimp only at HWP
  clear hB0
  generalize pickR 119 (lettersOf (shapeI op)) [a, b, c] = ps at *
  cases ps with
  | nil =>
    go_enter Tryz.func37, Tryz.ntmps37
    go_wp2_with (go_at_call 39; (with_reducible refine (HQ.out _).mono ?_); rintro e w1 ⟨hb, V, rfl, ho⟩; obtain ⟨vA, vc, hve, _⟩ := out_len ho; have hve2 : V = .slice vA 0 vc := hve; subst hve2; have HB1 := Lib.hid (HB0.out.trans (hb.mono HB0.out.size)); clear hb ho hve)
    go_ret
    rw [HWP.out]
    exact ⟨rfl, HB1.out⟩
  | cons x ps =>
    obtain ⟨k, hk⟩ : ∃ k, k = ps.length := ⟨_, rfl⟩
    have HKL := Lib.hid hk
    clear hk
    go_enter Tryz.func37, Tryz.ntmps37
    go_wp2_with (go_at_call 39; (with_reducible refine (HQ.out _).mono ?_); rintro e w1 ⟨hb, V, rfl, ho⟩; obtain ⟨vb, vo, vc, hve, -, -, hvc⟩ := (IsNums.of_owns ho (Nat.le_refl _)).plain (by simp); have hve2 : V = .slice (some ⟨vb, vo, none⟩) (k + 1) vc := (by rw [hve, List.length_cons, HKL.out]); subst hve2; have z0 : w1.cell? ⟨vb, vo, none⟩ = some (.int .i64 x) := hvc 0 (by simp); have HB1 := Lib.hid (HB0.out.trans (hb.mono HB0.out.size)); have kp : (0 : Int) ≤ (k : Int) := (by omega); clear hb ho hve hvc)
    go_ret
    rw [HWP.out]
    exact ⟨rfl, HB1.out⟩
theorem count_memq (L : List Int) (q : Int) : (0 < hasL L [q]) ↔ q ∈ L := by
  induction L with
  | nil => simp [hasL]
  | cons x L ih =>
    have : hasL (x :: L) [q] = [q].count x + hasL L [q] := by simp [hasL]
    rw [this, List.mem_cons, ← ih]
    by_cases h : q = x
    · subst h; simp; omega
    · have : ([q] : List Int).count x = 0 := by
        rw [List.count_eq_zero]
        simpa using fun e => h e.symm
      rw [this]
      simp [h]
/-- An append of numbers that came in to numbers of the call's own, at the operation. -/
theorem wpList_outS {W : World} {ops : Array Oper} {rest : List Oper} {o : Oper} {a : Act} {Q : Exit → Act → World → Prop} (hgd : o.guard = none) (s x : Operand)
    (ho : o.op = .call { callee := .builtin .append, args := #[s, x], argTypes := #[35, 35] }) {V X : Value} {xs ys : List Int} {base B : Nat} (hs : a.eval s = V) (hx : a.eval x = X) (h : OutN base W V xs) (hX : IsNums .i64 W B X ys)
    (hb : base ≤ W.heap.size) (hl : xs.length + ys.length ≤ 1000000)
    (hK : ∀ V' W', OutN base W' V' (xs ++ ys) → Below base W W' → wpList Tryz.prog ops Q rest (a.put o.dst V') W') :
    wpList Tryz.prog ops Q (o :: rest) a W :=
  wpList_plain hgd fun _ hk => by
    obtain ⟨i0, hi, hz0, hz1, hz2⟩ := info_parts int_info
    obtain ⟨V', W', hr, ho', hg'⟩ := append_nums W base 35 o.type 3 i0 Tryz.underlying35 hi hz0 hz1 hz2 V xs ys h B X hX (by omega) hb
    unfold Oper.wp execOp
    simp only [ho, resolve, invoke, builtin, Sem.run_bind, Sem.run_pure, Result.andThen_ok, List.map_toArray, List.map_cons, List.map_nil, hs, hx, hr]
    exact hk _ _ (hK V' W' ho' ((Below.refl base W).grown hg' hb (fun g hg => (h.lt hg).1)))
set_option maxRecDepth 100000 in
set_option maxHeartbeats 4000000 in
theorem rreads_any (op a b c n : Int) (XA : Option Addr) (Xc : Nat) (args : List Int) (w : World) (hX : IsNums .i64 w w.heap.size (.slice XA args.length Xc) args) (hal : args.length ≤ 1000) :
    Calls Tryz.prog 22 #[.agg (insCells op a b c n (.slice XA args.length Xc))] w (RegQ w (rdsV ⟨op, a, b, c, n, args⟩)) := by
  have hB0 : Below w.heap.size w (w.alloc (.cells (insCells op a b c n (.slice XA args.length Xc)) 37)) := (Below.refl _ w).alloc (Nat.le_refl _) _
  have HB0 := Lib.hid hB0
  have hcl := cells6 (heap_alloc_new w (.cells (insCells op a b c n (.slice XA args.length Xc)) 37))
  obtain ⟨c0, c1, c2, c3, c4, c5⟩ := hcl
  have HC0 := Lib.hid c0
  have HC5 := Lib.hid c5
  have HQ := Lib.hid (fun W => regq_any ⟨#[114]⟩ 114 op a b c n (.slice XA args.length Xc) W (letter_one 114 114 rfl) (by decide))
  have HRP := Lib.hid (rds_pick ⟨op, a, b, c, n, args⟩)
  dsimp only at HRP
  have HH := Lib.hid (fun w => has_any (shapeI op) ⟨#[108]⟩ w (shape_small op) (by decide))
  have hhm : 0 < hasV (shapeI op) ⟨#[108]⟩ ↔ (lettersOf (shapeI op)).contains 108 = true := by
    unfold hasV
    rw [letter_one 108 108 rfl, count_memq]
    simp
  have hpl := pick_len 114 (lettersOf (shapeI op)) [a, b, c]
  rw [letters_len] at hpl
  have hsm := shape_small op
  have HPL : Hid ((pickR 114 (lettersOf (shapeI op)) [a, b, c]).length ≤ 100) := Lib.hid (by omega)
  have HXW := Lib.hid (fun W (hb : Below w.heap.size w W) => (hX.below hb (Nat.le_refl _)).more hb.size)
  have HAL := Lib.hid hal
  generalize hasV (shapeI op) ⟨#[108]⟩ = hv at *
  generalize pickR 114 (lettersOf (shapeI op)) [a, b, c] = ps at *
  clear hB0 hpl hsm hX
  by_cases hc : (lettersOf (shapeI op)).contains 108 = true
  · rw [hc, if_pos rfl] at HRP
    have hv0 : (0 : Int) < (hv : Int) := by have := hhm.2 hc; omega
    generalize hal2 : args.length = m at *
    have HM2 := Lib.hid hal2
    clear hc hhm hal hal2
    go_enter Tryz.func22, Tryz.ntmps22
    go_wp2_with (first
      | (go_at_call 39; (with_reducible refine (HQ.out _).mono ?_); rintro e w1 ⟨hb, V, rfl, ho⟩; have HB1 := Lib.hid (HB0.out.trans (hb.mono HB0.out.size)); have HO1 := Lib.hid (ho.base HB0.out.size); have d0 := (hb.cell (p := ⟨w.heap.size, 0, none⟩) (by simp)).trans HC0.out; have d5 := (hb.cell (p := ⟨w.heap.size, 5, none⟩) (by simp)).trans HC5.out; clear hb ho)
      | (go_at_call 41; (with_reducible refine (rshape_any op _).mono ?_); rintro e w2 ⟨rfl, rfl⟩)
      | (go_at_call 40; (with_reducible refine (HH.out _).mono ?_); rintro e w3 ⟨rfl, kd, rfl⟩)
      | (at_builtin; (refine wpList_outS (W := w1.drewN kd) (base := w.heap.size) (ys := args) rfl (.tmp 11) (.tmp 13) rfl rfl rfl (HO1.out.drewN kd) (HXW.out _ (below_drewN HB1.out kd)) HB1.out.size (by have := HPL.out; have := HAL.out; have := HM2.out; omega) ?_; intro V6 w6 ho hb6; have HO6 := Lib.hid ho; have HB6 := Lib.hid ((below_drewN HB1.out kd).trans hb6); clear ho hb6)))
    go_ret
    refine ⟨HB6.out, _, rfl, ?_⟩
    rw [HRP.out]
    exact HO6.out
  · have hc : (lettersOf (shapeI op)).contains 108 = false := by simpa using hc
    rw [hc, if_neg (by simp), List.append_nil] at HRP
    have hv0 : ¬ (0 : Int) < (hv : Int) := fun h => by have := hhm.1 (by omega); rw [hc] at this; cases this
    generalize hal2 : args.length = m at *
    have HM2 := Lib.hid hal2
    clear hc hhm hal hal2
    go_enter Tryz.func22, Tryz.ntmps22
    go_wp2_with (first
      | (go_at_call 39; (with_reducible refine (HQ.out _).mono ?_); rintro e w1 ⟨hb, V, rfl, ho⟩; have HB1 := Lib.hid (HB0.out.trans (hb.mono HB0.out.size)); have HO1 := Lib.hid (ho.base HB0.out.size); have d0 := (hb.cell (p := ⟨w.heap.size, 0, none⟩) (by simp)).trans HC0.out; clear hb ho)
      | (go_at_call 41; (with_reducible refine (rshape_any op _).mono ?_); rintro e w2 ⟨rfl, rfl⟩)
      | (go_at_call 40; (with_reducible refine (HH.out _).mono ?_); rintro e w3 ⟨rfl, kd, rfl⟩))
    go_ret
    refine ⟨below_drewN HB1.out kd, _, rfl, ?_⟩
    rw [HRP.out]
    exact HO1.out.drewN kd
def WayN (w : World) (l : List InsV) (r n : Nat) (e : Ending) (w' : World) : Prop :=
  Below w.heap.size w w' ∧ ∃ gb, e = .returned (.slice (some ⟨gb, 0, none⟩) n n) ∧ w.heap.size ≤ gb ∧ RowAt w' gb n 4 (boolsV fun i => (wayL l r).getD i false)
theorem Swr.old {n : Nat} {nx : Nat → List Int} {m0 m : Nat → Bool} {b : Bool} {a q xn : Nat} (h : Swr n nx m0 (fun i => if i = xn then true else m i) (b || !m xn) a (q + 1)) (hx : m xn = true) : Swr n nx m0 m b a (q + 1) := by
  rw [hx] at h
  have e : (fun i => if i = xn then true else m i) = m := by
    funext i
    by_cases e : i = xn
    · subst e; rw [if_pos rfl, hx]
    · rw [if_neg e]
  rw [e] at h
  simpa using h
set_option maxRecDepth 100000 in
set_option maxHeartbeats 16000000 in
theorem without_any (A : Option Addr) (n cap : Nat) (N : Value) (l : List InsV) (r : Nat) (w : World) (hn : n = l.length) (h : IsCode w w.heap.size (.slice A n cap) l) (hN : IsLs w w.heap.size N n (nextV l)) (hg : Good10 l) (hs : n ≤ 1000) :
    Calls Tryz.prog 20 #[.slice A n cap, N, .int .i64 r] w (WayN w l r n) := by
  have HC := Lib.hid h
  have HN := Lib.hid hn
  have hnp : 0 < n := by have := hg.pos; omega
  have HNP := Lib.hid hnp
  have hnI : (0 : Int) < (n : Int) := by omega
  obtain ⟨gl, ol, cl, hV, _, hgB, hgl⟩ := hN.plain hnp
  subst hV
  have HGL := Lib.hid hgl
  have HGB := Lib.hid hgB
  have hmk := make_bools n (by omega)
  have HMB : Hid (∀ W : World, RwAt W (W.alloc (.cells (madeCells (Value.bool false).cells (n * 1)) 4)) n (fun _ => false)) := Lib.hid (fun W => ⟨(Below.refl _ _).alloc (Nat.le_refl _) _, bools_made n W⟩)
  have HMS : Hid (∀ W : World, RwAt W (W.alloc (.cells ((madeCells (Value.bool false).cells (n * 1)).setIfInBounds 0 (.bool true)) 4)) n (fun i => if i = 0 then true else false)) := Lib.hid (fun W => ⟨(Below.refl _ _).alloc (Nat.le_refl _) _, _, heap_alloc_new W _, by simp [madeCells], fun i hi => by
    rw [Array.getElem?_setIfInBounds]
    by_cases e : 0 = i
    · subst e
      rw [if_pos rfl, if_pos (by simp [madeCells]; omega)]
      rfl
    · rw [if_neg e, made_row rfl hi]
      have e2 : ¬ i = 0 := fun h => e h.symm
      simp [boolsV, e2]⟩)
  generalize madeCells (Value.bool false).cells (n * 1) = mb at *
  have HNB : Hid (∀ i, i < n → ∀ x ∈ nextR l r i, 0 ≤ x ∧ x < (n : Int)) := Lib.hid (fun i hi x hx => by have := nextR_bd hg r i (by omega) x hx; omega)
  have HCT := Lib.hid (fun m => cnt_le m n)
  have HWY := Lib.hid (wayL_is hg r)
  rw [← hn] at HWY
  have ex := (HMB.out w).row.cell HNP.out
  have fz := (HMB.out w).row.frozen 0
  unfold boolsV at ex
  have HS0 := Lib.hid (HMS.out w)
  clear h hn hg hN hgl hgB
  go_enter Tryz.func20, Tryz.ntmps20
  go_wp2
  clear ex fz
  go_loopg [8] (n + 1) (fun gk v8 wr => ∃ b : Bool, v8 = .bool b ∧ Hid (RHead w n (nextR l r) gk b wr))
  case atStart => exact ⟨true, rfl, (fun i => if i = 0 then true else false), HS0.out, rfl, fun i hi hm => by
    by_cases e : i = 0
    · subst e; exact .zero
    · simp [e] at hm, by simp, fun _ => by have := HCT.out (fun i => if i = 0 then true else false); omega⟩
  case round =>
    obtain ⟨b, rfl, HR⟩ := hrel
    obtain ⟨m0, hw0, hz0, hr0, hc0, hk0⟩ := HR.out
    have HW0 := Lib.hid hw0
    have HZ0 := Lib.hid hz0
    have HR0 := Lib.hid hr0
    clear HR hw0 hz0 hr0
    cases b with
    | false =>
      have HCL := Lib.hid (hc0 rfl)
      clear hc0 hk0
      have HEQ : Hid ((List.range n).map m0 = wayL l r) := Lib.hid ((closed_reach HNP.out HNB.out HZ0.out HCL.out HR0.out).uniq HWY.out)
      go_wp2
      go_ret
      refine ⟨HW0.out.bel, w.heap.size, rfl, Nat.le_refl _, HW0.out.row.congr fun i hi => ?_⟩
      rw [← HEQ.out]
      simp [boolsV, List.getD, hi]
    | true =>
      have HK0 := Lib.hid (hk0 rfl)
      clear hc0 hk0
      obtain ⟨wo, rfl⟩ : ∃ wo, wo = wr := ⟨_, rfl⟩
      go_wp2
      go_loopw [8, 9] (fun v8 v9 wr => ∃ (b : Bool) (a : Nat), a ≤ n ∧ v8 = .bool b ∧ v9 = .int .i64 a ∧ Hid (∃ m, RwAt w wr n m ∧ Swr n (nextR l r) m0 m b a 0)) (fun _ v9 _ => n - (intOf v9).toNat)
      case atStart => exact ⟨false, 0, by omega, rfl, rfl, _, HW0.out, Swr.start HR0.out⟩
      case round =>
        obtain ⟨b, a, ha, rfl, rfl, HA⟩ := hrel
        obtain ⟨m1, hw1, hs1⟩ := HA.out
        have HW1 := Lib.hid hw1
        have HS1 := Lib.hid hs1
        clear HA hs1
        obtain ⟨wp, rfl⟩ : ∃ wp, wp = wr := ⟨_, rfl⟩
        by_cases hlt : a < n
        · obtain ⟨cb, co, op, ca, b1, c, n1, args, YA, Yc, hA, hy, hin, hcc⟩ := code_cells HC.out HN.out hlt
          cases hA
          obtain ⟨hX, c0, c1, c2, c3, c4, c5⟩ := hcc wp HW1.out.bel
          have HWR := Lib.hid (fun W => rwrites_any op ca b1 c n1 (.slice YA args.length Yc) args W)
          rw [← hy] at HWR
          have k0 : (0 : Int) ≤ (a : Int) := by omega
          have k1 : (a : Int) < (n : Int) := by omega
          have b0 := hw1.row.cell hlt
          unfold boolsV at b0
          have HLT := Lib.hid hlt
          have HNE : Hid (nextR l r a = if wrtV (l.getD a .zero) = (r : Int) then [] else nextV l a) := Lib.hid rfl
          generalize hwv : wrtV (l.getD a .zero) = wv at HWR HNE
          clear hX hy hin hcc hw1 hlt hwv
          cases hma : m1 a with
          | false =>
            have HSq := Lib.hid (HS1.out.row_no HLT.out hma)
            rw [hma] at b0
            clear hma
            go_wp2
            go_roundw
            case rel => exact ⟨b, a + 1, by omega, rfl, by go_num, _, HW1.out, HSq.out⟩
            case measure => simp [intOf]; omega
          | true =>
            have HMA := Lib.hid hma
            rw [hma] at b0
            clear hma
            by_cases hwr : wv = (r : Int)
            · have HSq := Lib.hid (Swr.row_yes (n := n) (nx := nextR l r) (m0 := m0) (m := m1) (b := b) (a := a) (by rw [HNE.out, if_pos hwr]; exact HS1.out))
              have e1 : (wv == (r : Int)) = true := by simpa using hwr
              clear hwr
              go_wp2_with (go_at_call 37; (with_reducible refine (HWR.out wp).mono ?_); rintro e w5 ⟨rfl, hb⟩; have HW5 := Lib.hid (HW1.out.grow hb); clear hb)
              go_roundw
              case rel => exact ⟨b, a + 1, by omega, rfl, by go_num, _, HW5.out, HSq.out⟩
              case measure => simp [intOf]; omega
            · have e1 : (wv == (r : Int)) = false := by simpa using hwr
              have HNV : Hid (nextR l r a = nextV l a) := Lib.hid (by rw [HNE.out, if_neg hwr])
              obtain ⟨X, hX, hxc⟩ := HGL.out a HLT.out
              obtain ⟨xA, xc, hXe⟩ := hX.len
              have xl2 := nextV_two l a
              obtain ⟨xl, hxl⟩ : ∃ xl, xl = (nextV l a).length := ⟨_, rfl⟩
              rw [← hxl] at hXe xl2
              subst hXe
              have HXL := Lib.hid hxl
              have xl3 : (xl : Int) ≤ 2 := by omega
              have HXW := Lib.hid (fun W (hb : Below w.heap.size w W) => And.intro ((hX.below hb (Nat.le_refl _)).more hb.size) ((hb.cell (p := ⟨gl, ol + a, none⟩) HGB.out).trans hxc))
              clear hwr hX hxc hxl
              go_wp2_with (go_at_call 37; (with_reducible refine (HWR.out wp).mono ?_); rintro e w5 ⟨rfl, hb⟩; have HW5 := Lib.hid (HW1.out.grow hb); obtain ⟨-, x0⟩ := HXW.out w5 HW5.out.bel; clear hb)
              go_loopw [8, 10] (fun v8 v10 wi => ∃ (b : Bool) (q : Nat), q ≤ xl ∧ v8 = .bool b ∧ v10 = .int .i64 q ∧ Hid (∃ m, RwAt w wi n m ∧ Swr n (nextR l r) m0 m b a q ∧ m a = true)) (fun _ v10 _ => xl - (intOf v10).toNat)
              case atStart => exact ⟨b, 0, by omega, rfl, rfl, _, HW5.out, HS1.out, HMA.out⟩
              case round =>
                obtain ⟨b, q, hq, rfl, rfl, HQ⟩ := hrel
                obtain ⟨m, hw, hs, hma⟩ := HQ.out
                clear x0
                obtain ⟨hXN, x0⟩ := HXW.out wr hw.bel
                have q0 : (0 : Int) ≤ (q : Int) := by omega
                by_cases hql : q < xl
                · have q1 : (q : Int) < (xl : Int) := by omega
                  have hql2 : q < (nextV l a).length := by rw [← HXL.out]; exact hql
                  obtain ⟨nb, no, nc, hV, _, _, hnc⟩ := hXN.plain (by rw [← HXL.out]; omega)
                  rw [← HXL.out] at hV
                  cases hV
                  have hx1 := hnc q hql2
                  have hql3 : q < (nextR l r a).length := by rw [HNV.out]; exact hql2
                  have hmem : (nextR l r a).getD q 0 ∈ nextR l r a := by rw [List.getD, List.getElem?_eq_getElem hql3]; exact List.getElem_mem hql3
                  have hxb := HNB.out a HLT.out _ hmem
                  have hst := hs.step HLT.out hql3 hma HNB.out
                  rw [HNV.out] at hxb hst
                  have hmem2 := hmem
                  generalize (nextV l a).getD q 0 = x at *
                  obtain ⟨xn, rfl⟩ : ∃ xn : Nat, x = xn := ⟨x.toNat, by omega⟩
                  rw [Int.toNat_natCast] at hst
                  have y0 : (0 : Int) ≤ (xn : Int) := by omega
                  have y1 : (xn : Int) < (n : Int) := hxb.2
                  have b1 := hw.row.cell (i := xn) (by omega)
                  have fz := hw.row.frozen xn
                  unfold boolsV at b1
                  have HST := Lib.hid hst
                  have HSE := Lib.hid (hw.set xn true)
                  have HWq := Lib.hid hw
                  have HMA2 : Hid ((if a = xn then true else m a) = true) := Lib.hid (by
                    by_cases e : a = xn
                    · rw [if_pos e]
                    · rw [if_neg e]; exact hma)
                  have HMA3 := Lib.hid hma
                  cases hmx : m xn with
                  | true =>
                    have HSO := Lib.hid (Swr.old HST.out hmx)
                    rw [hmx] at b1
                    clear HQ hw hs hnc hmem hmem2 hxb hst hql2 hql3 hma hXN hmx
                    go_wp2
                    go_roundw
                    case rel => exact ⟨b, q + 1, by omega, rfl, by go_num, _, HWq.out, HSO.out, HMA3.out⟩
                    case measure => simp [intOf]; omega
                  | false =>
                    have HSN : Hid (Swr n (nextR l r) m0 (fun i => if i = xn then true else m i) true a (q + 1)) := Lib.hid (by have := HST.out; rw [hmx] at this; simpa using this)
                    rw [hmx] at b1
                    clear HQ hw hs hnc hmem hmem2 hxb hst hql2 hql3 hma hXN hmx
                    go_wp2
                    go_roundw
                    case rel => exact ⟨true, q + 1, by omega, rfl, by go_num, _, HSE.out, HSN.out, HMA2.out⟩
                    case measure => simp [intOf]; omega
                · obtain rfl : q = xl := by omega
                  have HWq := Lib.hid hw
                  have HSq := Lib.hid (Swr.row_yes (n := n) (nx := nextR l r) (m0 := m0) (m := m) (b := b) (a := a) (by rw [HNV.out, ← HXL.out]; exact hs))
                  clear HQ hw hs hma hXN
                  go_wp2
                  go_roundw
                  case rel => exact ⟨b, a + 1, by omega, rfl, by go_num, _, HWq.out, HSq.out⟩
                  case measure => simp [intOf]; omega
        · obtain rfl : n = a := by omega
          have HHD : Hid (RHead w n (nextR l r) (gk - 1) b wp ∧ gk - 1 < gk) := Lib.hid ⟨⟨m1, HW1.out, HS1.out.mono 0 HZ0.out, HS1.out.rch, fun h => by subst h; exact HS1.out.shut HNB.out, fun h => by subst h; have := HS1.out.less; have := HK0.out; omega⟩, by have := HK0.out; omega⟩
          clear hw1
          go_wp2
          go_roundg (gk - 1)
          case measure => exact HHD.out.2
          case rel => exact ⟨b, rfl, HHD.out.1⟩
end Go.Proofs.YtjoiocjnffaogaaGreat
