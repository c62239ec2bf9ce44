/- Lemmas of Reg11, Ref11A, Ref11B, Ref11C, each with its own remark. -/
import Derived.Test.YtfdblmjgpoocpaaGreatS20
import Derived.Test.YtfdblmjgpoocpaaGreatS18
import Derived.Test.YtfdblmjgpoocpaaGreatS19
import Derived.StillTailTactics
/- (Reg11) The document's own registers of one letter, Writes and Reads of layer 6. Contracts; no condition but that the argument is an instruction in memory. -/
namespace Go.Proofs.YtfdblmjgpoocpaaGreat
open Go.RowKit
set_option linter.unusedVariables false
set_option linter.unusedSimpArgs false

/-- A letter is found among one. -/
theorem has_one {S s : ByteArray} {q : Int} {k : Nat} (hS : lettersOf S = [q]) (h : k < s.size) : hasV S (s.extract k (k + 1)) = if (s[k].toNat : Int) = q then 1 else 0 := by
  have e : lettersOf (s.extract k (k + 1)) = [(s[k].toNat : Int)] := by
    have hl : (s.extract k (k + 1)).size = 1 := by simp; omega
    apply List.ext_getElem
    · simp [letters_len, hl]
    · intro i h1 h2
      have hi : i = 0 := by simp [letters_len, hl] at h1; omega
      subst hi
      rw [letters_at _ (by omega), ByteArray.getElem_extract]
      simp
  unfold hasV hasL
  rw [e, hS]
  by_cases hq : (s[k].toNat : Int) = q
  · rw [if_pos hq]; simp [hq]
  · rw [if_neg hq]; simp [hq]
def RegQ (w : World) (xs : List Int) (e : Ending) (w' : World) : Prop := Below w.heap.size w w' ∧ ∃ V, e = .returned V ∧ OutN w.heap.size w' V xs
set_option maxHeartbeats 8000000 in
set_option maxRecDepth 100000 in
theorem regq_any (S : ByteArray) (q op a b c n : Int) (X : Value) (w : World) (hS : lettersOf S = [q]) (hSs : S.size ≤ 100) : Calls Tryz.prog 89 #[.agg (insCells op a b c n X), .string S] w (RegQ w (pickR q (lettersOf (shapeI op)) [a, b, c])) := by
  obtain ⟨sh, hsh⟩ : ∃ sh, sh = shapeI op := ⟨_, rfl⟩
  have HS := Lib.hid (fun w => rshape_any op w)
  have hok := shapes_ok op
  have hsm := shapes_small op
  rw [← hsh] at HS hok hsm ⊢
  have hr3 := okShape_reg hok
  obtain ⟨L, hL⟩ : ∃ L, L = lettersOf sh := ⟨_, rfl⟩
  have hlen : L.length = sh.size := by rw [hL, letters_len]
  rw [← hL] at hr3 ⊢
  have HH := Lib.hid (fun (t : ByteArray) (w : World) (ht : t.size ≤ 100) => has_any S t w hSs ht)
  have HQ1 := Lib.hid (fun (k : Nat) (h : k < sh.size) => has_one (s := sh) hS h)
  have HL := Lib.hid hL
  have HLen := Lib.hid hlen
  clear hsh hok hL hlen hS hSs
  go_enter Tryz.func89, Tryz.ntmps89
  go_wp2_with (go_at_call 90; (with_reducible refine (HS.out _).mono ?_); rintro e w1 ⟨rfl, rfl⟩)
  obtain ⟨R, hR⟩ : ∃ R, R = w.heap.size + 1 := ⟨_, rfl⟩
  obtain ⟨w1, hw1⟩ : ∃ w1, w1 = (w.alloc (.cells (insCells op a b c n X) 37)).alloc (.cells #[.int .i64 a, .int .i64 b, .int .i64 c] 3) := ⟨_, rfl⟩
  have hrow : w1.heap[R]? = some (.cells #[.int .i64 a, .int .i64 b, .int .i64 c] 3 (0, 0)) := by
    rw [hw1, hR]
    have := heap_alloc_new (w.alloc (.cells (insCells op a b c n X) 37)) (.cells #[.int .i64 a, .int .i64 b, .int .i64 c] 3)
    simpa using this
  have hb1 : Below w.heap.size w w1 := by rw [hw1]; exact ((Below.refl _ w).alloc (Nat.le_refl _) _).alloc (by simp) _
  rw [← hw1, ← hR]
  have HRow := Lib.hid hrow
  have HB1 := Lib.hid hb1
  have hRW : w.heap.size < R := by omega
  clear hw1 hR hrow hb1
  go_loopw [7, 8, 9] (fun out at' i wr => ∃ k j : Nat, k ≤ sh.size ∧ i = .int .i64 k ∧ at' = .int .i64 j ∧ j = regN (L.take k) ∧ Hid (OutN (R + 1) wr out (pickR q (L.take k) [a, b, c]) ∧ Below w.heap.size w wr ∧ wr.heap[R]? = some (.cells #[.int .i64 a, .int .i64 b, .int .i64 c] 3 (0, 0)))) (fun _ _ i _ => sh.size - (intOf i).toNat)
  case atStart => exact ⟨0, 0, by omega, rfl, rfl, by simp [regN], by rw [List.take_zero]; exact Owns.nil _ _ _ _ _, HB1.out, HRow.out⟩
  case round =>
    obtain ⟨k, j, hk, rfl, rfl, hj, HR⟩ := hrel
    obtain ⟨hO, hB, hRw⟩ := HR.out
    have HO := Lib.hid hO
    have HB := Lib.hid hB
    have HRw := Lib.hid hRw
    have HJ := Lib.hid hj
    obtain ⟨oA, oc, hoe, _⟩ := out_len hO
    obtain ⟨pn, hpn⟩ : ∃ pn, pn = (pickR q (L.take k) [a, b, c]).length := ⟨_, rfl⟩
    have HPN := Lib.hid hpn
    have hpl := pick_len q (L.take k) [a, b, c]
    have HPL : Hid (pn ≤ 100) := Lib.hid (by have := List.length_take_le k L; rw [hpn]; omega)
    rw [← hpn] at hoe
    subst hoe
    clear hpn
    by_cases hlt : k < sh.size
    · have hkL : k < L.length := by rw [HLen.out]; exact hlt
      have hst := regN_step L (k := k) hkL
      have hLk : L[k]'hkL = (sh[k].toNat : Int) := by
        have h2 : L = lettersOf sh := HL.out
        subst h2
        exact letters_at sh hlt
      have htk : L.take (k + 1) = L.take k ++ [(sh[k].toNat : Int)] := by rw [List.take_add_one, List.getElem?_eq_getElem hkL, hLk]; rfl
      have hps := pick_snoc q (L.take k) [a, b, c] (sh[k].toNat : Int)
      rw [← htk, ← hj] at hps
      rw [hLk, ← hj] at hst
      have hle := regN_le L (k + 1)
      have k0 : (0 : Int) ≤ (k : Int) := by omega
      have hha := HQ1.out k hlt
      by_cases hreg : isReg (sh[k].toNat : Int) = true
      · have hxs : (sh.extract k (k + 1)).size ≤ 100 := by simp; omega
        rw [hreg, if_pos rfl] at hst
        have hj3 : j < 3 := by omega
        obtain ⟨x, hx⟩ : ∃ x, x = [a, b, c].getD j 0 := ⟨_, rfl⟩
        have hcell : wr.cell? ⟨R, j, none⟩ = some (.int .i64 x) := by
          rw [hx]
          rcases (show j = 0 ∨ j = 1 ∨ j = 2 by omega) with h | h | h <;> simp [World.cell?, hRw, h]
        rw [← hx] at hps
        have hHH := HH.out (sh.extract k (k + 1))
        rw [hha] at hHH
        have HS2 := Lib.hid hst
        have j0 : (0 : Int) ≤ (j : Int) := by omega
        by_cases hq : (sh[k].toNat : Int) = q
        · rw [if_pos hq] at hHH
          rw [if_pos ⟨hreg, hq⟩] at hps
          have HPS := Lib.hid hps
          have HH2 := Lib.hid (fun w => hHH w hxs)
          rcases of_decide_eq_true hreg with hr | hr
          · have e1 : ((sh[k].toNat : Int) != 119) = false := by simp [hr]
            clear hx hHH hst hj hO hB hRw hLk hle hxs hq hreg hps htk hha hr HR hpl
            go_wp2_with (first
              | (go_at_call 93; (with_reducible refine (HH2.out _).mono ?_); rintro e w2 ⟨rfl, kd, rfl⟩)
              | (at_builtin; (refine wpList_outN (W := wr.drewN kd) (z := x) (base := R + 1) rfl (.tmp 44) (.tmp 49) rfl rfl rfl (HO.out.drewN kd) (by have := heap_lt HRw.out; simp; omega) (by have := HPL.out; have := HPN.out; omega) ?_; intro V6 w6 ho hb6 hk6; have HO6 := Lib.hid ho; have HB6 := Lib.hid ((below_drewN HB.out kd).trans (hb6.mono (show w.heap.size ≤ R + 1 by omega))); have HR6 := Lib.hid ((hb6.block R (by omega)).trans HRw.out); obtain ⟨a6, c6, h6, _⟩ := out_len ho; generalize hq6 : (_ ++ [x]).length = q6 at h6; subst h6; clear ho hb6 hk6 hq6)))
            go_roundw
            case rel => exact ⟨k + 1, j + 1, by omega, by go_num, by go_num, HS2.out.symm, by rw [HPS.out]; exact HO6.out, HB6.out, HR6.out⟩
            case measure => simp [intOf]; omega
          · have e1 : ((sh[k].toNat : Int) != 119) = true := by simp [hr]
            have e2 : ((sh[k].toNat : Int) != 114) = false := by simp [hr]
            clear hx hHH hst hj hO hB hRw hLk hle hxs hq hreg hps htk hha hr HR hpl
            go_wp2_with (first
              | (go_at_call 93; (with_reducible refine (HH2.out _).mono ?_); rintro e w2 ⟨rfl, kd, rfl⟩)
              | (at_builtin; (refine wpList_outN (W := wr.drewN kd) (z := x) (base := R + 1) rfl (.tmp 44) (.tmp 49) rfl rfl rfl (HO.out.drewN kd) (by have := heap_lt HRw.out; simp; omega) (by have := HPL.out; have := HPN.out; omega) ?_; intro V6 w6 ho hb6 hk6; have HO6 := Lib.hid ho; have HB6 := Lib.hid ((below_drewN HB.out kd).trans (hb6.mono (show w.heap.size ≤ R + 1 by omega))); have HR6 := Lib.hid ((hb6.block R (by omega)).trans HRw.out); obtain ⟨a6, c6, h6, _⟩ := out_len ho; generalize hq6 : (_ ++ [x]).length = q6 at h6; subst h6; clear ho hb6 hk6 hq6)))
            go_roundw
            case rel => exact ⟨k + 1, j + 1, by omega, by go_num, by go_num, HS2.out.symm, by rw [HPS.out]; exact HO6.out, HB6.out, HR6.out⟩
            case measure => simp [intOf]; omega
        · rw [if_neg hq] at hHH
          rw [if_neg (fun h => hq h.2), List.append_nil] at hps
          have HPS := Lib.hid hps
          have HH2 := Lib.hid (fun w => hHH w hxs)
          rcases of_decide_eq_true hreg with hr | hr
          · have e1 : ((sh[k].toNat : Int) != 119) = false := by simp [hr]
            clear hx hHH hst hj hO hB hRw hLk hle hxs hq hreg hps htk hha hr HR hpl
            go_wp2_with (go_at_call 93; (with_reducible refine (HH2.out _).mono ?_); rintro e w2 ⟨rfl, kd, rfl⟩)
            go_roundw
            case rel => exact ⟨k + 1, j + 1, by omega, by go_num, by go_num, HS2.out.symm, by rw [HPS.out]; exact HO.out.drewN kd, below_drewN HB.out kd, HRw.out⟩
            case measure => simp [intOf]; omega
          · have e1 : ((sh[k].toNat : Int) != 119) = true := by simp [hr]
            have e2 : ((sh[k].toNat : Int) != 114) = false := by simp [hr]
            clear hx hHH hst hj hO hB hRw hLk hle hxs hq hreg hps htk hha hr HR hpl
            go_wp2_with (go_at_call 93; (with_reducible refine (HH2.out _).mono ?_); rintro e w2 ⟨rfl, kd, rfl⟩)
            go_roundw
            case rel => exact ⟨k + 1, j + 1, by omega, by go_num, by go_num, HS2.out.symm, by rw [HPS.out]; exact HO.out.drewN kd, below_drewN HB.out kd, HRw.out⟩
            case measure => simp [intOf]; omega
      · have hqq : (sh[k].toNat : Int) ≠ 119 ∧ (sh[k].toNat : Int) ≠ 114 := by
          have h := of_decide_eq_false (Bool.eq_false_iff.2 hreg)
          exact not_or.1 h
        have e1 : ((sh[k].toNat : Int) != 119) = true := by simpa using hqq.1
        have e2 : ((sh[k].toNat : Int) != 114) = true := by simpa using hqq.2
        rw [if_neg hreg] at hst
        rw [if_neg (fun h => hreg h.1), List.append_nil] at hps
        have HS2 := Lib.hid hst
        have HPS := Lib.hid hps
        clear hst hj hO hB hRw hLk hle hqq hreg hps htk hha HR hpl
        go_wp2
        go_roundw
        case rel => exact ⟨k + 1, j, by omega, by go_num, rfl, by rw [HS2.out]; rfl, by rw [HPS.out]; exact HO.out, HB.out, HRw.out⟩
        case measure => simp [intOf]; omega
    · obtain rfl : k = sh.size := by omega
      have hfull : L.take sh.size = L := List.take_of_length_le (by rw [HLen.out]; exact Nat.le_refl _)
      have HFU := Lib.hid hfull
      clear hfull hj hO hB hRw HR hpl
      go_wp2
      go_ret
      refine ⟨HB.out, _, rfl, ?_⟩
      have h := HO.out.base (base' := w.heap.size) (by omega)
      rw [HFU.out] at h
      exact h
end Go.Proofs.YtfdblmjgpoocpaaGreat

/- (Ref11A) The document's own Writes and Reads of layer 6, and to which instructions there is a way on which a register was not written (layer 11). Contracts; no condition but what each names. -/
namespace Go.Proofs.YtfdblmjgpoocpaaGreat
open Go.RowKit Go.Shelf
set_option linter.unusedVariables false
set_option linter.unusedSimpArgs false

theorem letter_one (b : UInt8) (q : Int) (h : (b.toNat : Int) = q) : lettersOf ⟨#[b]⟩ = [q] := by simp [lettersOf, h]
set_option maxHeartbeats 4000000 in
theorem rwrites_any (op a b c n : Int) (X : Value) (args : List Int) (w : World) : Calls Tryz.prog 117 #[.agg (insCells op a b c n X)] w (Makes w (.int .i64 (wrtV ⟨op, a, b, c, n, args⟩))) := by
  have hB0 : Below w.heap.size w (w.alloc (.cells (insCells op a b c n X) 37)) := (Below.refl _ w).alloc (Nat.le_refl _) _
  have HB0 := Lib.hid hB0
  obtain ⟨c0, c1, c2, c3, c4, c5⟩ := cells6 (heap_alloc_new w (.cells (insCells op a b c n X) 37))
  have HQ := Lib.hid (fun W => regq_any ⟨#[119]⟩ 119 op a b c n X W (letter_one 119 119 rfl) (by decide))
  have HWP := Lib.hid (wrt_pick ⟨op, a, b, c, n, args⟩)
  dsimp only at HWP
  clear hB0
  generalize pickR 119 (lettersOf (shapeI op)) [a, b, c] = ps at *
  cases ps with
  | nil =>
    go_enter Tryz.func117, Tryz.ntmps117
    go_wp2_with (go_at_call 89; (with_reducible refine (HQ.out _).mono ?_); rintro e w1 ⟨hb, V, rfl, ho⟩; obtain ⟨vA, vc, hve, _⟩ := out_len ho; have hve2 : V = .slice vA 0 vc := hve; subst hve2; have HB1 := Lib.hid (HB0.out.trans (hb.mono HB0.out.size)); clear hb ho hve)
    go_ret
    rw [HWP.out]
    exact ⟨rfl, HB1.out⟩
  | cons x ps =>
    obtain ⟨k, hk⟩ : ∃ k, k = ps.length := ⟨_, rfl⟩
    have HKL := Lib.hid hk
    clear hk
    go_enter Tryz.func117, Tryz.ntmps117
    go_wp2_with (go_at_call 89; (with_reducible refine (HQ.out _).mono ?_); rintro e w1 ⟨hb, V, rfl, ho⟩; obtain ⟨vb, vo, vc, hve, -, -, hvc⟩ := (IsNums.of_owns ho (Nat.le_refl _)).plain (by simp); have hve2 : V = .slice (some ⟨vb, vo, none⟩) (k + 1) vc := (by rw [hve, List.length_cons, HKL.out]); subst hve2; have z0 : w1.cell? ⟨vb, vo, none⟩ = some (.int .i64 x) := hvc 0 (by simp); have HB1 := Lib.hid (HB0.out.trans (hb.mono HB0.out.size)); have kp : (0 : Int) ≤ (k : Int) := (by omega); clear hb ho hve hvc)
    go_ret
    rw [HWP.out]
    exact ⟨rfl, HB1.out⟩
theorem count_memq (L : List Int) (q : Int) : (0 < hasL L [q]) ↔ q ∈ L := by
  induction L with
  | nil => simp [hasL]
  | cons x L ih =>
    have : hasL (x :: L) [q] = [q].count x + hasL L [q] := by simp [hasL]
    rw [this, List.mem_cons, ← ih]
    by_cases h : q = x
    · subst h; simp; omega
    · have : ([q] : List Int).count x = 0 := by
        rw [List.count_eq_zero]
        simpa using fun e => h e.symm
      rw [this]
      simp [h]
/-- An append of numbers that came in to numbers of the call's own, at the operation. -/
theorem wpList_outS11 {W : World} {ops : Array Oper} {rest : List Oper} {o : Oper} {a : Act} {Q : Exit → Act → World → Prop} (hgd : o.guard = none) (s x : Operand)
    (ho : o.op = .call { callee := .builtin .append, args := #[s, x], argTypes := #[35, 35] }) {V X : Value} {xs ys : List Int} {base B : Nat} (hs : a.eval s = V) (hx : a.eval x = X) (h : OutN base W V xs) (hX : IsNums .i64 W B X ys)
    (hb : base ≤ W.heap.size) (hl : xs.length + ys.length ≤ 1000000)
    (hK : ∀ V' W', OutN base W' V' (xs ++ ys) → Below base W W' → wpList Tryz.prog ops Q rest (a.put o.dst V') W') :
    wpList Tryz.prog ops Q (o :: rest) a W :=
  wpList_plain hgd fun _ hk => by
    obtain ⟨i0, hi, hz0, hz1, hz2⟩ := info_parts int_info
    obtain ⟨V', W', hr, ho', hg'⟩ := append_nums W base 35 o.type 3 i0 Tryz.underlying35 hi hz0 hz1 hz2 V xs ys h B X hX (by omega) hb
    unfold Oper.wp execOp
    simp only [ho, resolve, invoke, builtin, Sem.run_bind, Sem.run_pure, Result.andThen_ok, List.map_toArray, List.map_cons, List.map_nil, hs, hx, hr]
    exact hk _ _ (hK V' W' ho' ((Below.refl base W).grown hg' hb (fun g hg => (h.lt hg).1)))
set_option maxRecDepth 100000 in
set_option maxHeartbeats 4000000 in
theorem rreads_any (op a b c n : Int) (XA : Option Addr) (Xc : Nat) (args : List Int) (w : World) (hX : IsNums .i64 w w.heap.size (.slice XA args.length Xc) args) (hal : args.length ≤ 1000) :
    Calls Tryz.prog 73 #[.agg (insCells op a b c n (.slice XA args.length Xc))] w (RegQ w (rdsV ⟨op, a, b, c, n, args⟩)) := by
  have hB0 : Below w.heap.size w (w.alloc (.cells (insCells op a b c n (.slice XA args.length Xc)) 37)) := (Below.refl _ w).alloc (Nat.le_refl _) _
  have HB0 := Lib.hid hB0
  have hcl := cells6 (heap_alloc_new w (.cells (insCells op a b c n (.slice XA args.length Xc)) 37))
  obtain ⟨c0, c1, c2, c3, c4, c5⟩ := hcl
  have HC0 := Lib.hid c0
  have HC5 := Lib.hid c5
  have HQ := Lib.hid (fun W => regq_any ⟨#[114]⟩ 114 op a b c n (.slice XA args.length Xc) W (letter_one 114 114 rfl) (by decide))
  have HRP := Lib.hid (rds_pick ⟨op, a, b, c, n, args⟩)
  dsimp only at HRP
  have HH := Lib.hid (fun w => has_any (shapeI op) ⟨#[108]⟩ w (shape_small op) (by decide))
  have hhm : 0 < hasV (shapeI op) ⟨#[108]⟩ ↔ (lettersOf (shapeI op)).contains 108 = true := by
    unfold hasV
    rw [letter_one 108 108 rfl, count_memq]
    simp
  have hpl := pick_len 114 (lettersOf (shapeI op)) [a, b, c]
  rw [letters_len] at hpl
  have hsm := shape_small op
  have HPL : Hid ((pickR 114 (lettersOf (shapeI op)) [a, b, c]).length ≤ 100) := Lib.hid (by omega)
  have HXW := Lib.hid (fun W (hb : Below w.heap.size w W) => (hX.below hb (Nat.le_refl _)).more hb.size)
  have HAL := Lib.hid hal
  generalize hasV (shapeI op) ⟨#[108]⟩ = hv at *
  generalize pickR 114 (lettersOf (shapeI op)) [a, b, c] = ps at *
  clear hB0 hpl hsm hX
  by_cases hc : (lettersOf (shapeI op)).contains 108 = true
  · rw [hc, if_pos rfl] at HRP
    have hv0 : (0 : Int) < (hv : Int) := by have := hhm.2 hc; omega
    generalize hal2 : args.length = m at *
    have HM2 := Lib.hid hal2
    clear hc hhm hal hal2
    go_enter Tryz.func73, Tryz.ntmps73
    go_wp2_with (first
      | (go_at_call 89; (with_reducible refine (HQ.out _).mono ?_); rintro e w1 ⟨hb, V, rfl, ho⟩; have HB1 := Lib.hid (HB0.out.trans (hb.mono HB0.out.size)); have HO1 := Lib.hid (ho.base HB0.out.size); have d0 := (hb.cell (p := ⟨w.heap.size, 0, none⟩) (by simp)).trans HC0.out; have d5 := (hb.cell (p := ⟨w.heap.size, 5, none⟩) (by simp)).trans HC5.out; clear hb ho)
      | (go_at_call 90; (with_reducible refine (rshape_any op _).mono ?_); rintro e w2 ⟨rfl, rfl⟩)
      | (go_at_call 93; (with_reducible refine (HH.out _).mono ?_); rintro e w3 ⟨rfl, kd, rfl⟩)
      | (at_builtin; (refine wpList_outS11 (W := w1.drewN kd) (base := w.heap.size) (ys := args) rfl (.tmp 11) (.tmp 13) rfl rfl rfl (HO1.out.drewN kd) (HXW.out _ (below_drewN HB1.out kd)) HB1.out.size (by have := HPL.out; have := HAL.out; have := HM2.out; omega) ?_; intro V6 w6 ho hb6; have HO6 := Lib.hid ho; have HB6 := Lib.hid ((below_drewN HB1.out kd).trans hb6); clear ho hb6)))
    go_ret
    refine ⟨HB6.out, _, rfl, ?_⟩
    rw [HRP.out]
    exact HO6.out
  · have hc : (lettersOf (shapeI op)).contains 108 = false := by simpa using hc
    rw [hc, if_neg (by simp), List.append_nil] at HRP
    have hv0 : ¬ (0 : Int) < (hv : Int) := fun h => by have := hhm.1 (by omega); rw [hc] at this; cases this
    generalize hal2 : args.length = m at *
    have HM2 := Lib.hid hal2
    clear hc hhm hal hal2
    go_enter Tryz.func73, Tryz.ntmps73
    go_wp2_with (first
      | (go_at_call 89; (with_reducible refine (HQ.out _).mono ?_); rintro e w1 ⟨hb, V, rfl, ho⟩; have HB1 := Lib.hid (HB0.out.trans (hb.mono HB0.out.size)); have HO1 := Lib.hid (ho.base HB0.out.size); have d0 := (hb.cell (p := ⟨w.heap.size, 0, none⟩) (by simp)).trans HC0.out; clear hb ho)
      | (go_at_call 90; (with_reducible refine (rshape_any op _).mono ?_); rintro e w2 ⟨rfl, rfl⟩)
      | (go_at_call 93; (with_reducible refine (HH.out _).mono ?_); rintro e w3 ⟨rfl, kd, rfl⟩))
    go_ret
    refine ⟨below_drewN HB1.out kd, _, rfl, ?_⟩
    rw [HRP.out]
    exact HO1.out.drewN kd
def WayN (w : World) (l : List InsV) (r n : Nat) (e : Ending) (w' : World) : Prop :=
  Below w.heap.size w w' ∧ ∃ gb, e = .returned (.slice (some ⟨gb, 0, none⟩) n n) ∧ w.heap.size ≤ gb ∧ RowAt w' gb n 4 (boolsV fun i => (wayL l r).getD i false)
theorem Swr.old {n : Nat} {nx : Nat → List Int} {m0 m : Nat → Bool} {b : Bool} {a q xn : Nat} (h : Swr n nx m0 (fun i => if i = xn then true else m i) (b || !m xn) a (q + 1)) (hx : m xn = true) : Swr n nx m0 m b a (q + 1) := by
  rw [hx] at h
  have e : (fun i => if i = xn then true else m i) = m := by
    funext i
    by_cases e : i = xn
    · subst e; rw [if_pos rfl, hx]
    · rw [if_neg e]
  rw [e] at h
  simpa using h
set_option maxRecDepth 100000 in
set_option maxHeartbeats 16000000 in
theorem without_any (A : Option Addr) (n cap : Nat) (N : Value) (l : List InsV) (r : Nat) (w : World) (hn : n = l.length) (h : IsCode w w.heap.size (.slice A n cap) l) (hN : IsLs w w.heap.size N n (nextV l)) (hg : Good10 l) (hs : n ≤ 1000) :
    Calls Tryz.prog 95 #[.slice A n cap, N, .int .i64 r] w (WayN w l r n) := by
  have HC := Lib.hid h
  have HN := Lib.hid hn
  have hnp : 0 < n := by have := hg.pos; omega
  have HNP := Lib.hid hnp
  have hnI : (0 : Int) < (n : Int) := by omega
  obtain ⟨gl, ol, cl, hV, _, hgB, hgl⟩ := hN.plain hnp
  subst hV
  have HGL := Lib.hid hgl
  have HGB := Lib.hid hgB
  have hmk := make_bools n (by omega)
  have HMB : Hid (∀ W : World, RwAt W (W.alloc (.cells (madeCells (Value.bool false).cells (n * 1)) 4)) n (fun _ => false)) := Lib.hid (fun W => ⟨(Below.refl _ _).alloc (Nat.le_refl _) _, bools_made n W⟩)
  have HMS : Hid (∀ W : World, RwAt W (W.alloc (.cells ((madeCells (Value.bool false).cells (n * 1)).setIfInBounds 0 (.bool true)) 4)) n (fun i => if i = 0 then true else false)) := Lib.hid (fun W => ⟨(Below.refl _ _).alloc (Nat.le_refl _) _, _, heap_alloc_new W _, by simp [madeCells], fun i hi => by
    rw [Array.getElem?_setIfInBounds]
    by_cases e : 0 = i
    · subst e
      rw [if_pos rfl, if_pos (by simp [madeCells]; omega)]
      rfl
    · rw [if_neg e, made_row rfl hi]
      have e2 : ¬ i = 0 := fun h => e h.symm
      simp [boolsV, e2]⟩)
  generalize madeCells (Value.bool false).cells (n * 1) = mb at *
  have HNB : Hid (∀ i, i < n → ∀ x ∈ nextR l r i, 0 ≤ x ∧ x < (n : Int)) := Lib.hid (fun i hi x hx => by have := nextR_bd hg r i (by omega) x hx; omega)
  have HCT := Lib.hid (fun m => cnt_le m n)
  have HWY := Lib.hid (wayL_is hg r)
  rw [← hn] at HWY
  have ex := (HMB.out w).row.cell HNP.out
  have fz := (HMB.out w).row.frozen 0
  unfold boolsV at ex
  have HS0 := Lib.hid (HMS.out w)
  clear h hn hg hN hgl hgB
  go_enter Tryz.func95, Tryz.ntmps95
  go_wp2
  clear ex fz
  go_loopg [8] (n + 1) (fun gk v8 wr => ∃ b : Bool, v8 = .bool b ∧ Hid (RHead w n (nextR l r) gk b wr))
  case atStart => exact ⟨true, rfl, (fun i => if i = 0 then true else false), HS0.out, rfl, fun i hi hm => by
    by_cases e : i = 0
    · subst e; exact .zero
    · simp [e] at hm, by simp, fun _ => by have := HCT.out (fun i => if i = 0 then true else false); omega⟩
  case round =>
    obtain ⟨b, rfl, HR⟩ := hrel
    obtain ⟨m0, hw0, hz0, hr0, hc0, hk0⟩ := HR.out
    have HW0 := Lib.hid hw0
    have HZ0 := Lib.hid hz0
    have HR0 := Lib.hid hr0
    clear HR hw0 hz0 hr0
    cases b with
    | false =>
      have HCL := Lib.hid (hc0 rfl)
      clear hc0 hk0
      have HEQ : Hid ((List.range n).map m0 = wayL l r) := Lib.hid ((closed_reach HNP.out HNB.out HZ0.out HCL.out HR0.out).uniq HWY.out)
      go_wp2
      go_ret
      refine ⟨HW0.out.bel, w.heap.size, rfl, Nat.le_refl _, HW0.out.row.congr fun i hi => ?_⟩
      rw [← HEQ.out]
      simp [boolsV, List.getD, hi]
    | true =>
      have HK0 := Lib.hid (hk0 rfl)
      clear hc0 hk0
      obtain ⟨wo, rfl⟩ : ∃ wo, wo = wr := ⟨_, rfl⟩
      go_wp2
      go_loopw [8, 9] (fun v8 v9 wr => ∃ (b : Bool) (a : Nat), a ≤ n ∧ v8 = .bool b ∧ v9 = .int .i64 a ∧ Hid (∃ m, RwAt w wr n m ∧ Swr n (nextR l r) m0 m b a 0)) (fun _ v9 _ => n - (intOf v9).toNat)
      case atStart => exact ⟨false, 0, by omega, rfl, rfl, _, HW0.out, Swr.start HR0.out⟩
      case round =>
        obtain ⟨b, a, ha, rfl, rfl, HA⟩ := hrel
        obtain ⟨m1, hw1, hs1⟩ := HA.out
        have HW1 := Lib.hid hw1
        have HS1 := Lib.hid hs1
        clear HA hs1
        obtain ⟨wp, rfl⟩ : ∃ wp, wp = wr := ⟨_, rfl⟩
        by_cases hlt : a < n
        · obtain ⟨cb, co, op, ca, b1, c, n1, args, YA, Yc, hA, hy, hin, hcc⟩ := code_cells HC.out HN.out hlt
          cases hA
          obtain ⟨hX, c0, c1, c2, c3, c4, c5⟩ := hcc wp HW1.out.bel
          have HWR := Lib.hid (fun W => rwrites_any op ca b1 c n1 (.slice YA args.length Yc) args W)
          rw [← hy] at HWR
          have k0 : (0 : Int) ≤ (a : Int) := by omega
          have k1 : (a : Int) < (n : Int) := by omega
          have b0 := hw1.row.cell hlt
          unfold boolsV at b0
          have HLT := Lib.hid hlt
          have HNE : Hid (nextR l r a = if wrtV (l.getD a .zero) = (r : Int) then [] else nextV l a) := Lib.hid rfl
          generalize hwv : wrtV (l.getD a .zero) = wv at HWR HNE
          clear hX hy hin hcc hw1 hlt hwv
          cases hma : m1 a with
          | false =>
            have HSq := Lib.hid (HS1.out.row_no HLT.out hma)
            rw [hma] at b0
            clear hma
            go_wp2
            go_roundw
            case rel => exact ⟨b, a + 1, by omega, rfl, by go_num, _, HW1.out, HSq.out⟩
            case measure => simp [intOf]; omega
          | true =>
            have HMA := Lib.hid hma
            rw [hma] at b0
            clear hma
            by_cases hwr : wv = (r : Int)
            · have HSq := Lib.hid (Swr.row_yes (n := n) (nx := nextR l r) (m0 := m0) (m := m1) (b := b) (a := a) (by rw [HNE.out, if_pos hwr]; exact HS1.out))
              have e1 : (wv == (r : Int)) = true := by simpa using hwr
              clear hwr
              go_wp2_with (go_at_call 117; (with_reducible refine (HWR.out wp).mono ?_); rintro e w5 ⟨rfl, hb⟩; have HW5 := Lib.hid (HW1.out.grow hb); clear hb)
              go_roundw
              case rel => exact ⟨b, a + 1, by omega, rfl, by go_num, _, HW5.out, HSq.out⟩
              case measure => simp [intOf]; omega
            · have e1 : (wv == (r : Int)) = false := by simpa using hwr
              have HNV : Hid (nextR l r a = nextV l a) := Lib.hid (by rw [HNE.out, if_neg hwr])
              obtain ⟨X, hX, hxc⟩ := HGL.out a HLT.out
              obtain ⟨xA, xc, hXe⟩ := hX.len
              have xl2 := nextV_two l a
              obtain ⟨xl, hxl⟩ : ∃ xl, xl = (nextV l a).length := ⟨_, rfl⟩
              rw [← hxl] at hXe xl2
              subst hXe
              have HXL := Lib.hid hxl
              have xl3 : (xl : Int) ≤ 2 := by omega
              have HXW := Lib.hid (fun W (hb : Below w.heap.size w W) => And.intro ((hX.below hb (Nat.le_refl _)).more hb.size) ((hb.cell (p := ⟨gl, ol + a, none⟩) HGB.out).trans hxc))
              clear hwr hX hxc hxl
              go_wp2_with (go_at_call 117; (with_reducible refine (HWR.out wp).mono ?_); rintro e w5 ⟨rfl, hb⟩; have HW5 := Lib.hid (HW1.out.grow hb); obtain ⟨-, x0⟩ := HXW.out w5 HW5.out.bel; clear hb)
              go_loopw [8, 10] (fun v8 v10 wi => ∃ (b : Bool) (q : Nat), q ≤ xl ∧ v8 = .bool b ∧ v10 = .int .i64 q ∧ Hid (∃ m, RwAt w wi n m ∧ Swr n (nextR l r) m0 m b a q ∧ m a = true)) (fun _ v10 _ => xl - (intOf v10).toNat)
              case atStart => exact ⟨b, 0, by omega, rfl, rfl, _, HW5.out, HS1.out, HMA.out⟩
              case round =>
                obtain ⟨b, q, hq, rfl, rfl, HQ⟩ := hrel
                obtain ⟨m, hw, hs, hma⟩ := HQ.out
                clear x0
                obtain ⟨hXN, x0⟩ := HXW.out wr hw.bel
                have q0 : (0 : Int) ≤ (q : Int) := by omega
                by_cases hql : q < xl
                · have q1 : (q : Int) < (xl : Int) := by omega
                  have hql2 : q < (nextV l a).length := by rw [← HXL.out]; exact hql
                  obtain ⟨nb, no, nc, hV, _, _, hnc⟩ := hXN.plain (by rw [← HXL.out]; omega)
                  rw [← HXL.out] at hV
                  cases hV
                  have hx1 := hnc q hql2
                  have hql3 : q < (nextR l r a).length := by rw [HNV.out]; exact hql2
                  have hmem : (nextR l r a).getD q 0 ∈ nextR l r a := by rw [List.getD, List.getElem?_eq_getElem hql3]; exact List.getElem_mem hql3
                  have hxb := HNB.out a HLT.out _ hmem
                  have hst := hs.step HLT.out hql3 hma HNB.out
                  rw [HNV.out] at hxb hst
                  have hmem2 := hmem
                  generalize (nextV l a).getD q 0 = x at *
                  obtain ⟨xn, rfl⟩ : ∃ xn : Nat, x = xn := ⟨x.toNat, by omega⟩
                  rw [Int.toNat_natCast] at hst
                  have y0 : (0 : Int) ≤ (xn : Int) := by omega
                  have y1 : (xn : Int) < (n : Int) := hxb.2
                  have b1 := hw.row.cell (i := xn) (by omega)
                  have fz := hw.row.frozen xn
                  unfold boolsV at b1
                  have HST := Lib.hid hst
                  have HSE := Lib.hid (hw.set xn true)
                  have HWq := Lib.hid hw
                  have HMA2 : Hid ((if a = xn then true else m a) = true) := Lib.hid (by
                    by_cases e : a = xn
                    · rw [if_pos e]
                    · rw [if_neg e]; exact hma)
                  have HMA3 := Lib.hid hma
                  cases hmx : m xn with
                  | true =>
                    have HSO := Lib.hid (Swr.old HST.out hmx)
                    rw [hmx] at b1
                    clear HQ hw hs hnc hmem hmem2 hxb hst hql2 hql3 hma hXN hmx
                    go_wp2
                    go_roundw
                    case rel => exact ⟨b, q + 1, by omega, rfl, by go_num, _, HWq.out, HSO.out, HMA3.out⟩
                    case measure => simp [intOf]; omega
                  | false =>
                    have HSN : Hid (Swr n (nextR l r) m0 (fun i => if i = xn then true else m i) true a (q + 1)) := Lib.hid (by have := HST.out; rw [hmx] at this; simpa using this)
                    rw [hmx] at b1
                    clear HQ hw hs hnc hmem hmem2 hxb hst hql2 hql3 hma hXN hmx
                    go_wp2
                    go_roundw
                    case rel => exact ⟨true, q + 1, by omega, rfl, by go_num, _, HSE.out, HSN.out, HMA2.out⟩
                    case measure => simp [intOf]; omega
                · obtain rfl : q = xl := by omega
                  have HWq := Lib.hid hw
                  have HSq := Lib.hid (Swr.row_yes (n := n) (nx := nextR l r) (m0 := m0) (m := m) (b := b) (a := a) (by rw [HNV.out, ← HXL.out]; exact hs))
                  clear HQ hw hs hma hXN
                  go_wp2
                  go_roundw
                  case rel => exact ⟨b, a + 1, by omega, rfl, by go_num, _, HWq.out, HSq.out⟩
                  case measure => simp [intOf]; omega
        · obtain rfl : n = a := by omega
          have HHD : Hid (RHead w n (nextR l r) (gk - 1) b wp ∧ gk - 1 < gk) := Lib.hid ⟨⟨m1, HW1.out, HS1.out.mono 0 HZ0.out, HS1.out.rch, fun h => by subst h; exact HS1.out.shut HNB.out, fun h => by subst h; have := HS1.out.less; have := HK0.out; omega⟩, by have := HK0.out; omega⟩
          clear hw1
          go_wp2
          go_roundg (gk - 1)
          case measure => exact HHD.out.2
          case rel => exact ⟨b, rfl, HHD.out.1⟩
end Go.Proofs.YtfdblmjgpoocpaaGreat

/- (Ref11B) The document's own Masks and Unset of layer 11. Contracts; no condition but that the instructions are few. -/
namespace Go.Proofs.YtfdblmjgpoocpaaGreat
open Go.RowKit Go.Shelf
set_option linter.unusedVariables false
set_option linter.unusedSimpArgs false

/-- Lists of numbers to be read. -/
theorem OwnJ.ls2 {base : Nat} {W : World} {V : Value} {ll : List (List Int)} {Xs : List Value} (h : OwnJ base W V ll Xs) (hl : ll.length ≤ 1000000) : ll.length ≤ maxLen ∧ ((ll.length = 0 ∧ ∃ a cap, V = .slice a 0 cap) ∨
    ∃ b off cap, V = .slice (some ⟨b, off, none⟩) ll.length cap ∧ ll.length ≤ cap ∧ b < W.heap.size ∧ ∀ i, i < ll.length → ∃ X, IsNums .i64 W W.heap.size X (ll.getD i []) ∧ W.cell? ⟨b, off + i, none⟩ = some X) := by
  refine ⟨by unfold maxLen; omega, ?_⟩
  rcases h.own.1.2 with ⟨rfl, h0⟩ | ⟨g, cap, cur, rfl, h1, h2, h3, h4, h5, h6⟩
  · exact .inl ⟨h0, none, 0, rfl⟩
  · exact .inr ⟨g, 0, cap, rfl, h3, (h.own.lt (g := g) (by simp [Value.ownBlock])).2, fun i hi => ⟨_, IsNums.of_owns (h.nums i hi) (Nat.le_refl _), by
      have hx : Xs[i]? = some (Xs.getD i (.slice none 0 0)) := by
        have : i < Xs.length := by rw [h.len]; exact hi
        simp [List.getD, List.getElem?_eq_getElem this]
      have := h.own.1.cells (g := g) rfl i _ hx
      rw [addr_zero_j] at this
      rw [Nat.zero_add]
      exact this⟩⟩
theorem u64_info : (Tryz.prog.info? 112).map (fun i => (i.zero, i.size, i.bytes)) = some (some (.int .u64 0), 1, 8) := by kernel_rfl
theorem make_u64s (n : Nat) (hn : n ≤ 100000) (w : World) : (Instr.makeSlice 109 (.int .i64 (n : Int)) (.int .i64 (n : Int))).run Tryz.prog w = .ok (.slice (some ⟨w.heap.size, 0, none⟩) n n) (w.alloc (.cells (madeCells (Value.int .u64 0).cells (n * 1)) 112)) := by
  obtain ⟨i, h1, h2, h3, h4⟩ := info_parts u64_info
  have h := run_make (P := Tryz.prog) w 109 112 i _ Tryz.underlying109 h1 h2 .i64 .i64 (n : Int) (n : Int) (by omega) (Int.le_refl _) (by rw [h4]; omega) (by omega)
  rw [h3] at h
  simpa using h
/-- A row of words of the call's own. -/
def wordsU (f : Nat → Nat) : Nat → Value := fun i => .int .u64 ((f i : Nat) : Int)
structure MkAt (w wr : World) (n : Nat) (f : Nat → Nat) : Prop where
  bel : Below w.heap.size w wr
  row : RowAt wr w.heap.size n 112 (wordsU f)
theorem MkAt.made (n : Nat) (w : World) : MkAt w (w.alloc (.cells (madeCells (Value.int .u64 0).cells (n * 1)) 112)) n (fun _ => 0) :=
  ⟨(Below.refl _ _).alloc (Nat.le_refl _) _, (RowAt.made w 112 (.int .u64 0) n _ (by simp [madeCells]) fun i hi => made_row rfl hi).congr fun i hi => rfl⟩
theorem MkAt.set {w wr : World} {n : Nat} {f : Nat → Nat} (h : MkAt w wr n f) (x z : Nat) : MkAt w (wr.setCell ⟨w.heap.size, x, none⟩ (.int .u64 ((z : Nat) : Int))) n (fun i => if i = x then z else f i) :=
  ⟨h.bel.setCell (p := ⟨w.heap.size, x, none⟩) (Nat.le_refl _) _, (h.row.set x _).congr fun i hi => by unfold wordsU; by_cases e : i = x <;> simp [e]⟩
theorem MkAt.grow {w wr W : World} {n : Nat} {f : Nat → Nat} (h : MkAt w wr n f) (hb : Below wr.heap.size wr W) : MkAt w W n f := ⟨h.bel.trans (hb.mono h.bel.size), h.row.below hb h.row.lt⟩
theorem MkAt.drew {w wr : World} {n : Nat} {f : Nat → Nat} (h : MkAt w wr n f) : MkAt w wr.drew n f := ⟨h.bel.drew, h.row.heap rfl⟩
theorem MkAt.congr {w wr : World} {n : Nat} {f f' : Nat → Nat} (h : MkAt w wr n f) (he : ∀ i, i < n → f i = f' i) : MkAt w wr n f' := ⟨h.bel, h.row.congr fun i hi => by unfold wordsU; rw [he i hi]⟩
def badP (p : Int) : Prop := p < 0 ∨ 8 < p
def MasksN (w : World) (l : List InsV) (p : Int) (n : Nat) (e : Ending) (w' : World) : Prop :=
  Below w.heap.size w w' ∧ ((badP p ∧ e = .returned (.tuple #[.slice none 0 0, .int .i64 2])) ∨ (¬ badP p ∧ check10 l ≠ 0 ∧ e = .returned (.tuple #[.slice none 0 0, .int .i64 (check10 l)])) ∨
    (¬ badP p ∧ check10 l = 0 ∧ ∃ gb, e = .returned (.tuple #[.slice (some ⟨gb, 0, none⟩) n n, .int .i64 0]) ∧ w.heap.size ≤ gb ∧ RowAt w' gb n 112 (wordsU (maskV l p.toNat))))
set_option maxRecDepth 100000 in
set_option maxHeartbeats 16000000 in
theorem rMasks11_any (A : Option Addr) (n cap : Nat) (l : List InsV) (p : Int) (w : World) (hn : n = l.length) (h : IsCode w w.heap.size (.slice A n cap) l) (hs : n ≤ 1000) :
    Calls Tryz.prog 72 #[.slice A n cap, .int .i64 p] w (MasksN w l p n) := by
  have HC := Lib.hid h
  have HN := Lib.hid hn
  by_cases hp : badP p
  · have HP := Lib.hid hp
    unfold badP at hp
    clear h hn
    by_cases h1 : p < 0
    · clear hp
      go_enter Tryz.func72, Tryz.ntmps72
      go_wp2
      go_ret2
      exact ⟨Below.refl _ _, .inl ⟨HP.out, rfl⟩⟩
    · have h2 : 8 < p := by omega
      clear hp
      go_enter Tryz.func72, Tryz.ntmps72
      go_wp2
      go_ret2
      exact ⟨Below.refl _ _, .inl ⟨HP.out, rfl⟩⟩
  · have HP := Lib.hid hp
    unfold badP at hp
    have p0 : ¬ p < 0 := by omega
    have p8 : ¬ 8 < p := by omega
    have HNX := Lib.hid (rNext10_any A n cap l w hn h hs)
    by_cases h0 : check10 l = 0
    · have hg := good10 h0
      have HG := Lib.hid hg
      have H0 := Lib.hid h0
      have HN2 := Lib.hid (HNX.out.mono fun e w' hh => And.intro hh.1 (hh.2.resolve_left (fun h => h.1 h0)).2)
      have HWA := Lib.hid (fun N W r hc hl => without_any A n cap N l r W hn hc hl hg hs)
      have hmk := make_u64s n (by omega)
      have HMM : Hid (∀ W : World, MkAt W (W.alloc (.cells (madeCells (Value.int .u64 0).cells (n * 1)) 112)) n (fun _ => 0)) := Lib.hid (MkAt.made n)
      generalize madeCells (Value.int .u64 0).cells (n * 1) = mb at *
      have hsI : (n : Int) ≤ 1000 := by omega
      have hnl : (nextsV l).length = n := by rw [nextsV_length, hn]
      have HNL := Lib.hid hnl
      have HNA : Hid (∀ i, i < n → (nextsV l).getD i [] = nextV l i) := Lib.hid (fun i hi => nextsV_at (by omega))
      obtain ⟨pn, hpn⟩ : ∃ pn : Nat, p = pn := ⟨p.toNat, by omega⟩
      have HPN := Lib.hid hpn
      subst hpn
      clear h hn hg h0 HNX hp hnl
      go_enter Tryz.func72, Tryz.ntmps72
      go_wp2_with (go_at_call 94; (with_reducible refine HN2.out.mono ?_); rintro e w1 ⟨hb, N, Xs, rfl, hj⟩; have HB1 := Lib.hid hb; have HC1 := Lib.hid ((HC.out.below hb (Nat.le_refl _) (Nat.le_refl _)).more hb.size); have HJ1 := Lib.hid hj; clear hb hj)
      have hls : IsLs w1 w1.heap.size N n (nextV l) := by
        have h := HJ1.out.ls2 (by rw [HNL.out]; omega)
        rw [HNL.out] at h
        refine ⟨h.1, ?_⟩
        rcases h.2 with h2 | ⟨b, off, c, h2, h3, h4, h5⟩
        · exact .inl h2
        · exact .inr ⟨b, off, c, h2, h3, h4, fun i hi => by
            obtain ⟨X, hX, hx⟩ := h5 i hi
            rw [HNA.out i hi] at hX
            exact ⟨X, hX, hx⟩⟩
      have HLS := Lib.hid hls
      obtain ⟨nA, nc, hNe⟩ := hls.len
      subst hNe
      clear hls
      go_loopw [9] (fun v wr => ∃ r : Nat, r ≤ 64 ∧ v = .int .i64 r ∧ Hid (MkAt w1 wr n (fun i => pmask l pn i r))) (fun v _ => 64 - (intOf v).toNat)
      case atStart => exact ⟨0, by omega, rfl, HMM.out w1⟩
      case round =>
        obtain ⟨r, hr, rfl, HM⟩ := hrel
        have r0 : (0 : Int) ≤ (r : Int) := by omega
        have HBW := Lib.hid (HB1.out.trans (HM.out.bel.mono HB1.out.size))
        obtain ⟨wo, rfl⟩ : ∃ wo, wo = wr := ⟨_, rfl⟩
        by_cases hlt : r < 64
        · have r1 : (r : Int) < 64 := by omega
          have HWR := Lib.hid (HWA.out (.slice nA n nc) wo r ((HC.out.below HBW.out (Nat.le_refl _) (Nat.le_refl _)).more HBW.out.size) ((HLS.out.below HM.out.bel (Nat.le_refl _)).more HM.out.bel.size))
          have HRL := Lib.hid hlt
          clear hlt
          go_wp2_with (go_at_call 95; (with_reducible refine HWR.out.mono ?_); rintro e w5 ⟨hb, gb, rfl, hge, hrow⟩; have HM5 := Lib.hid (HM.out.grow hb); have HR5 := Lib.hid hrow; have HGE := Lib.hid (show w1.heap.size < gb from Nat.lt_of_lt_of_le HM.out.row.lt hge); clear hb hge hrow)
          go_loopw [11] (fun v wi => ∃ k : Nat, k ≤ n ∧ v = .int .i64 k ∧ Hid (MkAt w1 wi n (fun i => if i < k then pmask l pn i (r + 1) else pmask l pn i r) ∧ RowAt wi gb n 4 (boolsV fun i => (wayL l r).getD i false))) (fun v _ => n - (intOf v).toNat)
          case atStart => exact ⟨0, by omega, rfl, HM5.out.congr fun i hi => by simp, HR5.out⟩
          case round =>
            obtain ⟨k, hk, rfl, HI⟩ := hrel
            obtain ⟨hmk2, hrow⟩ := HI.out
            have HMK := Lib.hid hmk2
            have HRO := Lib.hid hrow
            clear HI
            by_cases hlt : k < n
            · have k0 : (0 : Int) ≤ (k : Int) := by omega
              have k1 : (k : Int) < (n : Int) := by omega
              have b1 : wr.cell? ⟨gb, k, none⟩ = some (.bool ((wayL l r).getD k false)) := hrow.cell hlt
              have z1 : wr.cell? ⟨w1.heap.size, k, none⟩ = some (.int .u64 ((pmask l pn k r : Nat) : Int)) := by
                have h := hmk2.row.cell hlt
                unfold wordsU at h
                dsimp only at h
                rw [if_neg (Nat.lt_irrefl k)] at h
                exact h
              have fz := hmk2.row.frozen k
              have HSU : Hid (pmask l pn k (r + 1) = pmask l pn k r + if sureB l pn r k then 2 ^ r else 0) := Lib.hid rfl
              have HSB : Hid (sureB l pn r k = (decide (r < pn) || !((wayL l r).getD k false))) := Lib.hid rfl
              have HPL := Lib.hid (pmask_lt l pn k r)
              have HPL1 := Lib.hid (pmask_lt l pn k (r + 1))
              have HCO : Hid (∀ q, pmask l pn k (r + 1) = q → ∀ i, i < n → (if i = k then q else if i < k then pmask l pn i (r + 1) else pmask l pn i r) = if i < k + 1 then pmask l pn i (r + 1) else pmask l pn i r) := Lib.hid (fun q hq i hi => by
                by_cases e : i = k
                · subst e; rw [if_pos rfl, if_pos (by omega), hq]
                · rw [if_neg e]
                  by_cases e2 : i < k
                  · rw [if_pos e2, if_pos (by omega)]
                  · rw [if_neg e2, if_neg (by omega)])
              obtain ⟨pm, hpm⟩ : ∃ pm, pm = pmask l pn k r := ⟨_, rfl⟩
              have HPM := Lib.hid hpm
              rw [← hpm] at z1 HSU HPL
              obtain ⟨wy, hwy⟩ : ∃ wy, wy = (wayL l r).getD k false := ⟨_, rfl⟩
              rw [← hwy] at b1 HSB
              obtain ⟨e, he⟩ : ∃ e, e = 2 ^ r := ⟨_, rfl⟩
              have HEE := Lib.hid he.symm
              have HEI : Hid ((2 : Int) ^ r = (e : Int)) := Lib.hid (by rw [he]; simp)
              clear hmk2 hrow hlt hpm hwy he
              by_cases hrp : r < pn
              · have HSS : sureB l pn r k = true := by rw [HSB.out]; simp [hrp]
                have hrpI : (r : Int) < (pn : Int) := by omega
                clear hrp
                have HSE : Hid (pmask l pn k (r + 1) = pm + e) := Lib.hid (by rw [HSU.out, HSS, if_pos rfl, HEE.out])
                have HMS : Hid (MkAt w1 (wr.drew.setCell ⟨w1.heap.size, k, none⟩ (.int .u64 ((pm + e : Nat) : Int))) n (fun i => if i < k + 1 then pmask l pn i (r + 1) else pmask l pn i r)) := Lib.hid ((HMK.out.drew.set k (pm + e)).congr (HCO.out _ HSE.out))
                have HRS : Hid (RowAt (wr.drew.setCell ⟨w1.heap.size, k, none⟩ (.int .u64 ((pm + e : Nat) : Int))) gb n 4 (boolsV fun i => (wayL l r).getD i false)) := Lib.hid ((HRO.out.heap (w' := wr.drew) rfl).but ((But.refl (OneBlock w1.heap.size) wr.drew).setCell (p := ⟨w1.heap.size, k, none⟩) (.inl rfl) _) (fun e => by have := HGE.out; have : gb = w1.heap.size := e; omega))
                have hle : pm + e < 18446744073709551616 := by have := HPL1.out; rw [HSE.out] at this; have h2 : 2 ^ (r + 1) ≤ 2 ^ 64 := Nat.pow_le_pow_right (by decide) (by have := HRL.out; omega); omega
                have f1 : IntKind.u64.wrap (2 ^ r) = ((e : Nat) : Int) := by rw [IntKind.wrap_u64, HEI.out]; omega
                have f2 : IntKind.u64.wrap ((pm : Int) + (e : Int)) = ((pm + e : Nat) : Int) := by rw [IntKind.wrap_u64]; omega
                have HLE := Lib.hid hle
                clear HSS hle
                go_wp2
                go_still_tail 10, (by kernel_rfl)
                go_wp2
                go_roundw
                case rel => exact ⟨k + 1, by omega, by go_num, HMS.out, HRS.out⟩
                case measure => simp [intOf]; omega
              · have hrpI : ¬ (r : Int) < (pn : Int) := by omega
                cases wy with
                | false =>
                  have HSS : sureB l pn r k = true := by rw [HSB.out]; simp
                  clear hrp
                  have HSE : Hid (pmask l pn k (r + 1) = pm + e) := Lib.hid (by rw [HSU.out, HSS, if_pos rfl, HEE.out])
                  have HMS : Hid (MkAt w1 (wr.drew.setCell ⟨w1.heap.size, k, none⟩ (.int .u64 ((pm + e : Nat) : Int))) n (fun i => if i < k + 1 then pmask l pn i (r + 1) else pmask l pn i r)) := Lib.hid ((HMK.out.drew.set k (pm + e)).congr (HCO.out _ HSE.out))
                  have HRS : Hid (RowAt (wr.drew.setCell ⟨w1.heap.size, k, none⟩ (.int .u64 ((pm + e : Nat) : Int))) gb n 4 (boolsV fun i => (wayL l r).getD i false)) := Lib.hid ((HRO.out.heap (w' := wr.drew) rfl).but ((But.refl (OneBlock w1.heap.size) wr.drew).setCell (p := ⟨w1.heap.size, k, none⟩) (.inl rfl) _) (fun e => by have := HGE.out; have : gb = w1.heap.size := e; omega))
                  have hle : pm + e < 18446744073709551616 := by have := HPL1.out; rw [HSE.out] at this; have h2 : 2 ^ (r + 1) ≤ 2 ^ 64 := Nat.pow_le_pow_right (by decide) (by have := HRL.out; omega); omega
                  have f1 : IntKind.u64.wrap (2 ^ r) = ((e : Nat) : Int) := by rw [IntKind.wrap_u64, HEI.out]; omega
                  have f2 : IntKind.u64.wrap ((pm : Int) + (e : Int)) = ((pm + e : Nat) : Int) := by rw [IntKind.wrap_u64]; omega
                  have HLE := Lib.hid hle
                  clear HSS hle
                  go_wp2
                  go_still_tail 10, (by kernel_rfl)
                  go_wp2
                  go_roundw
                  case rel => exact ⟨k + 1, by omega, by go_num, HMS.out, HRS.out⟩
                  case measure => simp [intOf]; omega
                | true =>
                  have HSE : Hid (pmask l pn k (r + 1) = pm) := Lib.hid (by rw [HSU.out, HSB.out]; simp [hrp])
                  have HMS := Lib.hid (HMK.out.congr (f' := fun i => if i < k + 1 then pmask l pn i (r + 1) else pmask l pn i r) fun i hi => by
                    by_cases e2 : i < k
                    · rw [if_pos e2, if_pos (by omega)]
                    · rw [if_neg e2]
                      by_cases e3 : i = k
                      · subst e3; rw [if_pos (by omega)]; have := HPM.out; rw [← this, HSE.out]
                      · rw [if_neg (by omega)])
                  clear hrp
                  go_wp2
                  go_roundw
                  case rel => exact ⟨k + 1, by omega, by go_num, HMS.out, HRO.out⟩
                  case measure => simp [intOf]; omega
            · obtain rfl : k = n := by omega
              have HMD := Lib.hid (HMK.out.congr (f' := fun i => pmask l pn i (r + 1)) fun i hi => by simp [hi])
              clear hmk2 hrow
              go_wp2
              go_roundw
              case rel => exact ⟨r + 1, by have := HRL.out; omega, by go_num, HMD.out⟩
              case measure => have := HRL.out; simp [intOf]; omega
        · obtain rfl : r = 64 := by omega
          go_wp2
          go_ret2
          refine ⟨HBW.out, .inr (.inr ⟨HP.out, H0.out, w1.heap.size, rfl, HB1.out.size, ?_⟩)⟩
          rw [Int.toNat_natCast]
          exact HM.out.row
    · have HN2 := Lib.hid (HNX.out.mono fun e w' hh => And.intro hh.1 (hh.2.resolve_right (fun h => h0 h.1)).2)
      have hne : (check10 l != 0) = true := by simpa using h0
      have H0 := Lib.hid h0
      unfold MasksN
      generalize check10 l = z at *
      clear h hn h0 hp HNX
      go_enter Tryz.func72, Tryz.ntmps72
      go_wp2_with (go_at_call 94; (with_reducible refine HN2.out.mono ?_); rintro e w1 ⟨hb, rfl⟩; have HB1 := Lib.hid hb; clear hb)
      go_ret2
      exact ⟨HB1.out, .inr (.inl ⟨HP.out, H0.out, rfl⟩)⟩
end Go.Proofs.YtfdblmjgpoocpaaGreat

/- (Ref11C) The document's own Unset of layer 11. Contract; no condition but that the instructions are few. -/
namespace Go.Proofs.YtfdblmjgpoocpaaGreat
open Go.RowKit Go.Shelf
set_option linter.unusedVariables false
set_option linter.unusedSimpArgs false

def UnsetN (w : World) (l : List InsV) (p : Int) (e : Ending) (w' : World) : Prop :=
  Below w.heap.size w w' ∧ ((badP p ∧ e = .returned (.tuple #[.int .i64 0, .int .i64 0, .int .i64 2])) ∨ (¬ badP p ∧ check10 l ≠ 0 ∧ e = .returned (.tuple #[.int .i64 0, .int .i64 0, .int .i64 (check10 l)])) ∨
    (¬ badP p ∧ check10 l = 0 ∧ ∃ i r, e = .returned (.tuple #[.int .i64 i, .int .i64 r, .int .i64 0]) ∧ UnsIs l p.toNat i r))
theorem mask_bitI (l : List InsV) (p i : Nat) {r : Nat} (h : r < 64) : ((maskV l p i : Nat) : Int) / 2 ^ r % 2 = if sureB l p r i then 1 else 0 := by
  have h1 := maskV_bit l p i h
  have h2 : ((maskV l p i : Nat) : Int) / 2 ^ r % 2 = ((maskV l p i / 2 ^ r % 2 : Nat) : Int) := by push_cast; rfl
  rw [h2, h1]
  split <;> rfl
set_option maxRecDepth 100000 in
set_option maxHeartbeats 16000000 in
theorem rUnset11_any (A : Option Addr) (n cap : Nat) (l : List InsV) (p : Int) (w : World) (hn : n = l.length) (h : IsCode w w.heap.size (.slice A n cap) l) (hs : n ≤ 1000) :
    Calls Tryz.prog 48 #[.slice A n cap, .int .i64 p] w (UnsetN w l p) := by
  have HC := Lib.hid h
  have HN := Lib.hid hn
  have HMS := Lib.hid (rMasks11_any A n cap l p w hn h hs)
  by_cases hp : badP p
  · have HM2 := Lib.hid (HMS.out.mono fun e w' hh => And.intro hh.1 ((hh.2.resolve_right (fun h => by rcases h with h | h <;> exact h.1 hp)).2))
    have HP := Lib.hid hp
    clear h hn hp HMS
    go_enter Tryz.func48, Tryz.ntmps48
    go_wp2_with (go_at_call 72; (with_reducible refine HM2.out.mono ?_); rintro e w1 ⟨hb, rfl⟩; have HB1 := Lib.hid hb; clear hb)
    go_ret3
    exact ⟨HB1.out, .inl ⟨HP.out, rfl⟩⟩
  · have HP := Lib.hid hp
    by_cases h0 : check10 l = 0
    · have hg := good10 h0
      have HM2 := Lib.hid (HMS.out.mono fun e w' hh => And.intro hh.1 (((hh.2.resolve_left (fun h => hp h.1)).resolve_left (fun h => h.2.1 h0)).2.2))
      have H0 := Lib.hid h0
      have HG := Lib.hid hg
      have hsI : (n : Int) ≤ 1000 := by omega
      obtain ⟨pn, hpn⟩ : ∃ pn, pn = p.toNat := ⟨_, rfl⟩
      have HPN := Lib.hid hpn.symm
      rw [← hpn] at HM2
      clear h hn hg h0 HMS hp hpn
      go_enter Tryz.func48, Tryz.ntmps48
      go_wp2_with (go_at_call 72; (with_reducible refine HM2.out.mono ?_); rintro e w1 ⟨hb, gb, rfl, hge, hrow⟩; have HB1 := Lib.hid hb; have HR1 := Lib.hid hrow; clear hb hge hrow)
      go_loopw [9] (fun v wr => ∃ a : Nat, a ≤ n ∧ v = .int .i64 a ∧ Hid (Below w1.heap.size w1 wr ∧ SureUpto l pn a)) (fun v _ => n - (intOf v).toNat)
      case atStart => exact ⟨0, by omega, rfl, Below.refl _ _, fun b hb => absurd hb (by omega)⟩
      case round =>
        obtain ⟨a, ha, rfl, HA⟩ := hrel
        obtain ⟨hb, hsu⟩ := HA.out
        have HB := Lib.hid hb
        have HSU := Lib.hid hsu
        have HBW := Lib.hid (HB1.out.trans (hb.mono HB1.out.size))
        clear HA hb hsu
        by_cases hlt : a < n
        · have hal : a < l.length := by rw [← HN.out]; exact hlt
          obtain ⟨cb, co, op, ca, b1, c, n1, args, YA, Yc, hA, hy, hin, hcc⟩ := code_cells HC.out HN.out hlt
          cases hA
          obtain ⟨hX, c0, c1, c2, c3, c4, c5⟩ := hcc wr HBW.out
          have hck := good_chk HG.out hal
          have hbd := rds_bd hck
          have hln := rds_len hck
          have hag := chk_args hck
          rw [hy] at hag
          dsimp only at hag
          have HRD := Lib.hid (rreads_any op ca b1 c n1 YA Yc args wr hX (by omega))
          rw [← hy] at HRD
          have HBD := Lib.hid hbd
          have HAL := Lib.hid hal
          obtain ⟨xl, hxl⟩ : ∃ xl, xl = (rdsV (l.getD a .zero)).length := ⟨_, rfl⟩
          have HXL := Lib.hid hxl
          have xl3 : (xl : Int) ≤ 11 := by omega
          have k0 : (0 : Int) ≤ (a : Int) := by omega
          have k1 : (a : Int) < (n : Int) := by omega
          have HLT := Lib.hid hlt
          clear hX hy hin hcc hck hbd hln hag hal hxl hlt
          go_wp2_with (go_at_call 73; (with_reducible refine HRD.out.mono ?_); rintro e w5 ⟨hb, R, rfl, ho⟩; have HB5 := Lib.hid (HB.out.trans (hb.mono HB.out.size)); have HR5 := Lib.hid (IsNums.of_owns ho (Nat.le_refl _)); obtain ⟨rA, rc, hre⟩ := owns_len ho; rw [← HXL.out] at hre; subst hre; clear hb ho)
          go_loopw [11] (fun v wi => ∃ q : Nat, q ≤ xl ∧ v = .int .i64 q ∧ Hid (Below w5.heap.size w5 wi ∧ ∀ k, k < q → sureB l pn ((rdsV (l.getD a .zero)).getD k 0).toNat a = true)) (fun v _ => xl - (intOf v).toNat)
          case atStart => exact ⟨0, by omega, rfl, Below.refl _ _, fun k hk => absurd hk (by omega)⟩
          case round =>
            obtain ⟨q, hq, rfl, HQ⟩ := hrel
            obtain ⟨hb, hsq⟩ := HQ.out
            have HI := Lib.hid hb
            have HSQ := Lib.hid hsq
            have HI1 := Lib.hid (HB5.out.trans (hb.mono HB5.out.size))
            clear HQ hsq
            by_cases hql : q < xl
            · have q0 : (0 : Int) ≤ (q : Int) := by omega
              have q1 : (q : Int) < (xl : Int) := by omega
              have hql2 : q < (rdsV (l.getD a .zero)).length := by rw [← HXL.out]; exact hql
              obtain ⟨nb, no, nc, hV, _, _, hnc⟩ := (HR5.out.below hb (Nat.le_refl _)).plain (by rw [← HXL.out]; omega)
              rw [← HXL.out] at hV
              cases hV
              have hx1 := hnc q hql2
              have hmem : (rdsV (l.getD a .zero)).getD q 0 ∈ rdsV (l.getD a .zero) := by
                generalize rdsV (l.getD a .zero) = rs at *
                rw [List.getD, List.getElem?_eq_getElem hql2]
                exact List.getElem_mem hql2
              have hxb := HBD.out _ hmem
              have z1 : wr.cell? ⟨gb, a, none⟩ = some (.int .u64 ((maskV l pn a : Nat) : Int)) := (HR1.out.below HI1.out HR1.out.lt).cell HLT.out
              have HUN : Hid (sureB l pn ((rdsV (l.getD a .zero)).getD q 0).toNat a = false → UnsIs l pn (a : Int) ((rdsV (l.getD a .zero)).getD q 0)) := Lib.hid (fun hf => .inr ⟨a, q, HAL.out, hql2, rfl, rfl, HSU.out, HSQ.out, hf⟩)
              have HNX : Hid (sureB l pn ((rdsV (l.getD a .zero)).getD q 0).toNat a = true → ∀ k, k < q + 1 → sureB l pn ((rdsV (l.getD a .zero)).getD k 0).toNat a = true) := Lib.hid (fun ht k hk => by
                by_cases e : k = q
                · subst e; exact ht
                · exact HSQ.out k (by omega))
              generalize (rdsV (l.getD a .zero)).getD q 0 = x at hx1 hxb HUN HNX
              obtain ⟨xn, rfl⟩ : ∃ xn : Nat, x = xn := ⟨x.toNat, by omega⟩
              rw [Int.toNat_natCast] at HUN HNX
              have y0 : (0 : Int) ≤ (xn : Int) := by omega
              have y1 : (xn : Int) < 64 := hxb.2
              have hbit := mask_bitI l pn a (r := xn) (by omega)
              have hml := maskV_lt l pn a
              have m0 : (0 : Int) ≤ ((maskV l pn a : Nat) : Int) := by omega
              have hdn : (0 : Int) ≤ ((maskV l pn a : Nat) : Int) / 2 ^ xn := Int.ediv_nonneg m0 (Int.pow_nonneg (by decide))
              generalize maskV l pn a = mk at *
              have HML := Lib.hid hml
              clear hnc hmem hxb hb hql2 hml
              cases hsb : sureB l pn xn a with
              | true =>
                rw [hsb, if_pos rfl] at hbit
                have HSN := Lib.hid (HNX.out hsb)
                have e1 : (((mk : Nat) : Int) / 2 ^ xn % 2 == 0) = false := by rw [hbit]; rfl
                have e2 : (((mk : Nat) : Int) / 2 ^ xn).tmod 2 = 1 := by rw [Int.tmod_eq_emod_of_nonneg hdn]; exact hbit
                clear hsb hbit
                go_wp2
                go_quiet (fail)
                go_wp2
                go_roundw
                case rel => exact ⟨q + 1, by omega, by go_num, below_drewN HI.out _, HSN.out⟩
                case measure => simp [intOf]; omega
              | false =>
                rw [hsb, if_neg (by simp)] at hbit
                have HSN := Lib.hid (HUN.out hsb)
                have e1 : (((mk : Nat) : Int) / 2 ^ xn % 2 == 0) = true := by rw [hbit]; rfl
                have e2 : (((mk : Nat) : Int) / 2 ^ xn).tmod 2 = 0 := by rw [Int.tmod_eq_emod_of_nonneg hdn]; exact hbit
                clear hsb hbit
                go_wp2
                go_quiet (fail)
                go_wp2
                go_quiet (fail)
                go_wp2
                go_ret3
                refine ⟨HB1.out.trans ((below_drewN (below_drewN HI1.out _) _).mono HB1.out.size), .inr (.inr ⟨HP.out, H0.out, (a : Int), (xn : Int), rfl, ?_⟩)⟩
                rw [HPN.out]
                exact HSN.out
            · obtain rfl : q = xl := by omega
              have HSN : Hid (SureUpto l pn (a + 1)) := Lib.hid (fun b hb x hx => by
                by_cases e : b = a
                · subst e
                  obtain ⟨i, hi, rfl⟩ := List.getElem_of_mem hx
                  have := HSQ.out i (by rw [HXL.out]; exact hi)
                  rw [List.getD, List.getElem?_eq_getElem hi] at this
                  exact this
                · exact HSU.out b (by omega) x hx)
              clear hb
              go_wp2
              go_roundw
              case rel => exact ⟨a + 1, by have := HLT.out; omega, by go_num, HI1.out, HSN.out⟩
              case measure => have := HLT.out; simp [intOf]; omega
        · obtain rfl : a = n := by omega
          go_wp2
          go_ret3
          refine ⟨HBW.out, .inr (.inr ⟨HP.out, H0.out, -1, -1, rfl, ?_⟩)⟩
          rw [HPN.out]
          exact .inl ⟨rfl, rfl, by rw [← HN.out]; exact HSU.out⟩
    · have HM2 := Lib.hid (HMS.out.mono fun e w' hh => And.intro hh.1 (((hh.2.resolve_left (fun h => hp h.1)).resolve_right (fun h => h0 h.2.1)).2.2))
      have hne : (check10 l != 0) = true := by simpa using h0
      have H0 := Lib.hid h0
      unfold UnsetN
      generalize check10 l = z at *
      clear h hn h0 hp HMS
      go_enter Tryz.func48, Tryz.ntmps48
      go_wp2_with (go_at_call 72; (with_reducible refine HM2.out.mono ?_); rintro e w1 ⟨hb, rfl⟩; have HB1 := Lib.hid hb; clear hb)
      go_ret3
      exact ⟨HB1.out, .inr (.inl ⟨HP.out, H0.out, rfl⟩)⟩
end Go.Proofs.YtfdblmjgpoocpaaGreat
