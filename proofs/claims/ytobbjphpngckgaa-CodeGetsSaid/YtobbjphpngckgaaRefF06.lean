/- The document's own way of telling why an instruction may not be (twinshaftref06.Check). Contract; no condition but that the argument is an instruction in memory with at most a thousand million arguments. -/
import Derived.Test.YtobbjphpngckgaaRefD06
import Derived.Deep.RegionHeld3
namespace Go.Proofs.Ytobbjphpngckgaa
open Go.RowKit
set_option linter.unusedVariables false
set_option linter.unusedSimpArgs false

theorem step_out {P : Program} {w : World} {ops : Array Oper} {o : Oper} {a : Act} {K : Act → World → Prop} {Q : Exit → Act → World → Prop} {E : Prop} (hgd : o.guard = none) (s x : Operand) (t : TypeId)
    (ho : o.op = .call { callee := .builtin .append, args := #[s, x], argTypes := #[t, t] }) (V X : Value) (hs : a.eval s = V) (hx : a.eval x = X) (R : Value → World → Prop)
    (hr : ∃ V' W', (Builtin.append_ #[t, t] o.type #[V, X]).run P w = .ok V' W' ∧ R V' W') (h : ∀ V' W', R V' W' → K (a.put o.dst V') W') :
    if Region.wanted o (yielded ops a.tmps) = true then Oper.wp P o a w K Q else E := by
  rw [if_pos (by simp [Region.wanted, hgd])]
  obtain ⟨V', W', hrun, hR⟩ := hr
  unfold Oper.wp execOp
  simp only [ho, resolve, invoke, builtin, Sem.run_bind, Sem.run_pure, Result.andThen_ok, List.map_toArray, List.map_cons, List.map_nil, hs, hx, hrun]
  exact h V' W' hR

section
variable {P : Program}
/-- Append of numbers to numbers of one's own. -/
theorem append_nums (w : World) (base : Nat) (t ty e : TypeId) (i : TypeInfo) (ht : P.underlying t = some (.slice e)) (hi : P.info? e = some i) (hz : i.zero = some (.int .i64 0)) (hsize : i.size = 1) (hby : i.bytes = 8)
    (v : Value) (xs ys : List Int) (hown : Owns w base e 1 (IsNum .i64) v xs.length (xs.map (Value.int .i64))) (B : Nat) (X : Value) (hX : IsNums .i64 w B X ys) (h63 : xs.length + ys.length ≤ 2000000000) (hbase : base ≤ w.heap.size) :
    ∃ v' w', (Builtin.append_ #[t, t] ty #[v, X]).run P w = .ok v' w' ∧ (Owns w' base e 1 (IsNum .i64) v' (xs ++ ys).length ((xs ++ ys).map (Value.int .i64)) ∧ w.grownBy w' v.ownBlock) := by
  rcases hX.2 with ⟨rfl, rfl⟩ | ⟨ad, cap, rfl, h1, h2, h3⟩
  · refine ⟨v, w, ?_, by simpa using hown, ⟨rfl, rfl, rfl, Nat.le_refl _, fun _ _ _ => rfl⟩⟩
    rcases hown.1.2 with ⟨rfl, h0⟩ | ⟨g, cap, cur, rfl, _, _, hnc, _⟩
    · simp [Builtin.append_, run_underlying ht, sizeOf, typeInfo, hi, Builtin.lenOf, Builtin.firstCells]
    · simp [Builtin.append_, run_underlying ht, sizeOf, typeInfo, hi, Builtin.lenOf, Builtin.firstCells, hnc, storeCells]
  · obtain ⟨v', w', hr, hO, hg⟩ := run_append_q (P := P) w base t ty e i (.int .i64 0) 1 8 ht hi hz hsize hby rfl (by decide) (IsNum .i64) (zero_num .i64) v xs.length (xs.map (Value.int .i64)) hown ad ys.length cap (ys.map (Value.int .i64)) (by simp) (news_of_nums h3 (fun _ _ => rfl)) (ints_one .i64 ys) (num_cells .i64 ys) (by simp only [maxLen]; omega) (by omega) hbase
    exact ⟨v', w', hr, by simpa using hO, hg⟩
end
theorem quiet_same {P : Program} {f : FuncId} {args : Array Value} {w : World} {n : Nat} {v : Value} (h : Calls P f args (w.drewN n) fun e w' => e = .returned v ∧ w.drewN n = w') :
    Calls P f args (w.drewN n) fun e w'' => e = .returned v ∧ ∃ m, w'' = w.drewN m := h.mono fun _ _ ⟨he, hm⟩ => ⟨he, n, hm.symm⟩
def okR (regs : Int) (x : Int) : Bool := decide (0 ≤ x ∧ x < regs)
/-- Why an instruction may not be, by the document's own way. -/
def rcheckV (op a b c n : Int) (args : List Int) (regs area : Int) : Int :=
  if ¬ (0 ≤ op ∧ op < 33) then 16 else if regs < 0 ∨ 64 < regs ∨ area < 0 ∨ 4096 < area then 2 else if bareV (lettersOf (shapeI op)) a b c n args = false then 2
  else if 8 < args.length then 3 else if ([a, b, c].take (regN (lettersOf (shapeI op))) ++ args).all (okR regs) = false then 5 else if (lettersOf (shapeI op)).all (fun q => numB q n area) = false then 5 else 0
theorem all_not {xs : List Int} {f : Int → Bool} {k : Nat} (h : k < xs.length) (hf : f (xs.getD k 0) = false) : xs.all f = false := by
  rw [List.all_eq_false]
  refine ⟨xs.getD k 0, ?_, by rw [hf]; simp⟩
  simp [List.getD, List.getElem?_eq_getElem h]
theorem all_yes {xs : List Int} {f : Int → Bool} (h : ∀ k, k < xs.length → f (xs.getD k 0) = true) : xs.all f = true := by
  rw [List.all_eq_true]
  intro x hx
  obtain ⟨k, hk, rfl⟩ := List.getElem_of_mem hx
  have := h k hk
  simpa [List.getD, List.getElem?_eq_getElem hk] using this

set_option maxHeartbeats 4000000 in
set_option maxRecDepth 100000 in
theorem rcheck_early (op a b c n : Int) (X : Value) (args : List Int) (regs area : Int) (w : World) (h : ¬ (0 ≤ op ∧ op < 33) ∨ regs < 0 ∨ 64 < regs ∨ area < 0 ∨ 4096 < area) :
    Calls Try.prog 38 #[.agg (insCells op a b c n X), .int .i64 regs, .int .i64 area] w (Makes w (.int .i64 (rcheckV op a b c n args regs area))) := by
  have hB0 : Below w.heap.size w (w.alloc (.cells (insCells op a b c n X) 35)) := (Below.refl _ w).alloc (Nat.le_refl _) _
  have HB0 := Lib.hid hB0
  have HE := Lib.hid (fun w => ris_any op w)
  by_cases ho : 0 ≤ op ∧ op < 33
  case neg =>
    have hc : rcheckV op a b c n args regs area = 16 := by unfold rcheckV; rw [if_pos ho]
    have HC := Lib.hid hc
    rw [opB_no ho] at HE
    clear hc ho h hB0
    go_enter Try.func38, Try.ntmps38
    go_wp2_with (go_at_call 57; (with_reducible refine (HE.out _).mono ?_); rintro e w1 ⟨rfl, rfl⟩)
    go_ret
    rw [HC.out]
    exact ⟨rfl, HB0.out⟩
  rw [opB_yes ho] at HE
  have h2 : regs < 0 ∨ 64 < regs ∨ area < 0 ∨ 4096 < area := h.resolve_left (fun h => h ho)
  have hc : rcheckV op a b c n args regs area = 2 := by unfold rcheckV; rw [if_neg (fun h => h ho), if_pos h2]
  have HC := Lib.hid hc
  clear hc ho h hB0
  by_cases g0 : regs < 0
  · go_enter Try.func38, Try.ntmps38
    go_wp2_with (go_at_call 57; (with_reducible refine (HE.out _).mono ?_); rintro e w1 ⟨rfl, rfl⟩)
    go_ret
    rw [HC.out]
    exact ⟨rfl, HB0.out⟩
  by_cases g1 : 64 < regs
  · go_enter Try.func38, Try.ntmps38
    go_wp2_with (go_at_call 57; (with_reducible refine (HE.out _).mono ?_); rintro e w1 ⟨rfl, rfl⟩)
    go_ret
    rw [HC.out]
    exact ⟨rfl, HB0.out⟩
  by_cases g2 : area < 0
  · go_enter Try.func38, Try.ntmps38
    go_wp2_with (go_at_call 57; (with_reducible refine (HE.out _).mono ?_); rintro e w1 ⟨rfl, rfl⟩)
    go_ret
    rw [HC.out]
    exact ⟨rfl, HB0.out⟩
  by_cases g3 : 4096 < area
  · go_enter Try.func38, Try.ntmps38
    go_wp2_with (go_at_call 57; (with_reducible refine (HE.out _).mono ?_); rintro e w1 ⟨rfl, rfl⟩)
    go_ret
    rw [HC.out]
    exact ⟨rfl, HB0.out⟩
  omega
set_option maxHeartbeats 4000000 in
set_option maxRecDepth 100000 in
theorem rcheck_late (op a b c n : Int) (X : Value) (args : List Int) (regs area : Int) (w : World) (hX : IsNums .i64 w w.heap.size X args) (ho : 0 ≤ op ∧ op < 33) (h0 : 0 ≤ regs) (h1 : regs ≤ 64) (h2 : 0 ≤ area) (h3 : area ≤ 4096) :
    Calls Try.prog 38 #[.agg (insCells op a b c n X), .int .i64 regs, .int .i64 area] w (Makes w (.int .i64 (rcheckV op a b c n args regs area))) := by
  have hB0 : Below w.heap.size w (w.alloc (.cells (insCells op a b c n X) 35)) := (Below.refl _ w).alloc (Nat.le_refl _) _
  have HB0 := Lib.hid hB0
  have HE := Lib.hid (fun w => ris_any op w)
  rw [opB_yes ho] at HE
  obtain ⟨XA, Xc, rfl⟩ := hX.len
  have HX0 := Lib.hid ((hX.below hB0 (Nat.le_refl _)).more hB0.size)
  have HK0 : Hid (SixC (w.alloc (.cells (insCells op a b c n (.slice XA args.length Xc)) 35)) w.heap.size op a b c n (.slice XA args.length Xc)) := Lib.hid (cells6 (heap_alloc_new _ _))
  have HL0 : Hid (w.heap.size < (w.alloc (.cells (insCells op a b c n (.slice XA args.length Xc)) 35)).heap.size) := Lib.hid (by simp)
  have hBr := fun W (h : IsNums .i64 W W.heap.size (.slice XA args.length Xc) args) => bare_any op a b c n (.slice XA args.length Xc) args W h
  have HRg := Lib.hid (fun W => registers_any op a b c n (.slice XA args.length Xc) W)
  have HS := Lib.hid (fun W => rshape_any op W)
  have hsm := shapes_small op
  have hr3 := okShape_reg (shapes_ok op)
  have hc0 : rcheckV op a b c n args regs area = if bareV (lettersOf (shapeI op)) a b c n args = false then 2 else if 8 < args.length then 3 else if ([a, b, c].take (regN (lettersOf (shapeI op))) ++ args).all (okR regs) = false then 5 else if (lettersOf (shapeI op)).all (fun q => numB q n area) = false then 5 else 0 := by
    unfold rcheckV
    rw [if_neg (fun h => h ho), if_neg (by omega)]
  obtain ⟨sh, hsh⟩ : ∃ x, x = shapeI op := ⟨_, rfl⟩
  rw [← hsh] at hc0 hBr HRg HS hsm hr3
  obtain ⟨rs, hrs⟩ : ∃ x, x = [a, b, c].take (regN (lettersOf sh)) := ⟨_, rfl⟩
  have hrl : rs.length ≤ 3 := by rw [hrs]; simp; omega
  rw [← hrs] at hc0 HRg
  obtain ⟨bv, hbv⟩ : ∃ x, x = bareV (lettersOf sh) a b c n args := ⟨_, rfl⟩
  rw [← hbv] at hc0 hBr
  have hm := hX.1
  unfold maxLen at hm
  clear hX hB0 hsh hrs hbv hr3 ho
  cases bv
  · have HBr := Lib.hid hBr
    have HC : Hid (rcheckV op a b c n args regs area = 2) := Lib.hid (by rw [hc0]; rfl)
    clear hBr hc0
    go_enter Try.func38, Try.ntmps38
    go_wp2_with (first
      | (go_at_call 57; (with_reducible refine (HE.out _).mono ?_); rintro e w1 ⟨rfl, rfl⟩)
      | (go_at_call 58; (with_reducible refine (HBr.out _ HX0.out).mono ?_); rintro e w1 ⟨rfl, hb⟩; have B1 := Lib.hid hb; have HK1 := Lib.hid (six_below HK0.out hb HL0.out); have HX1 := Lib.hid ((HX0.out.below hb (Nat.le_refl _)).more hb.size); have hk1 := HK1.out; obtain ⟨k0, k1, k2, k3, k4, k5⟩ := hk1; clear hb))
    go_ret
    rw [HC.out]
    exact ⟨rfl, HB0.out.trans (B1.out.mono HB0.out.size)⟩
  have HBr := Lib.hid hBr
  clear hBr
  by_cases h8 : 8 < args.length
  · have HC : Hid (rcheckV op a b c n args regs area = 3) := Lib.hid (by rw [hc0]; simp [h8])
    clear hc0
    go_enter Try.func38, Try.ntmps38
    go_wp2_with (first
      | (go_at_call 57; (with_reducible refine (HE.out _).mono ?_); rintro e w1 ⟨rfl, rfl⟩)
      | (go_at_call 58; (with_reducible refine (HBr.out _ HX0.out).mono ?_); rintro e w1 ⟨rfl, hb⟩; have B1 := Lib.hid hb; have HK1 := Lib.hid (six_below HK0.out hb HL0.out); have HX1 := Lib.hid ((HX0.out.below hb (Nat.le_refl _)).more hb.size); have hk1 := HK1.out; obtain ⟨k0, k1, k2, k3, k4, k5⟩ := hk1; clear hb))
    go_ret
    rw [HC.out]
    exact ⟨rfl, HB0.out.trans (B1.out.mono HB0.out.size)⟩
  rw [if_neg (by simp), if_neg h8] at hc0
  have HC := Lib.hid hc0
  clear hc0
  obtain ⟨i0, hi, hz0, hz1, hz2⟩ := info_parts int_info
  have HI := Lib.hid hi
  have HZ0 := Lib.hid hz0
  have HZ1 := Lib.hid hz1
  have HZ2 := Lib.hid hz2
  clear hi hz0 hz1 hz2
  go_enter Try.func38, Try.ntmps38
  go_wp2_with (first
    | (go_at_call 57; (with_reducible refine (HE.out _).mono ?_); rintro e w1 ⟨rfl, rfl⟩)
    | (go_at_call 58; (with_reducible refine (HBr.out _ HX0.out).mono ?_); rintro e w1 ⟨rfl, hb⟩; have B1 := Lib.hid hb; have HK1 := Lib.hid (six_below HK0.out hb HL0.out); have HX1 := Lib.hid ((HX0.out.below hb (Nat.le_refl _)).more hb.size); have hk1 := HK1.out; obtain ⟨k0, k1, k2, k3, k4, k5⟩ := hk1; clear hb))
  have W1 := Lib.hid (HB0.out.trans (B1.out.mono HB0.out.size))
  have hL1 : w.heap.size < w1.heap.size := Nat.lt_of_lt_of_le HL0.out B1.out.size
  go_region_held3 (fun w' => w'.cell? ⟨w.heap.size, 0, none⟩ = some (.int .i64 op) ∧ w'.cell? ⟨w.heap.size, 1, none⟩ = some (.int .i64 a) ∧ w'.cell? ⟨w.heap.size, 2, none⟩ = some (.int .i64 b) ∧ w'.cell? ⟨w.heap.size, 3, none⟩ = some (.int .i64 c) ∧ w'.cell? ⟨w.heap.size, 4, none⟩ = some (.int .i64 n) ∧ w'.cell? ⟨w.heap.size, 5, none⟩ = some (.slice XA args.length Xc)) (first | with_reducible exact HK3.out | with_reducible exact HK2.out | go_keep)
    (first
      | (go_at_call 59; (with_reducible refine (HRg.out _).mono ?_); rintro e w2 ⟨v, rfl, hO, hb⟩; have B2 := Lib.hid (below_drewB hb); have HO2 := Lib.hid (show Owns w2 w1.heap.size 3 1 (IsNum .i64) v rs.length (rs.map (Value.int .i64)) from hO); have HK2 := Lib.hid (six_below HK1.out B2.out hL1); have HX2 := Lib.hid ((HX1.out.below B2.out (Nat.le_refl _)).more B2.out.size); clear hb hO)
      | (refine step_out rfl (.tmp 39) (.tmp 41) 33 rfl _ _ rfl rfl _ (append_nums w2 w1.heap.size 33 _ 3 i0 Try.underlying33 HI.out HZ0.out HZ1.out HZ2.out v rs args HO2.out w2.heap.size (.slice XA args.length Xc) HX2.out (by omega) B2.out.size) ?_; intro V w3 hV; have HO3 := Lib.hid hV.1; have hG := hV.2; have B3 := Lib.hid (B2.out.grown hG B2.out.size (fun g hg => (HO2.out.lt hg).1)); have HK3 := Lib.hid (six_below HK1.out B3.out hL1); have hk3 := HK3.out; obtain ⟨m0, m1, m2, m3, m4, m5⟩ := hk3; clear hV hG))
  have W3 := Lib.hid (W1.out.trans (B3.out.mono W1.out.size))
  have hY0 : IsNums .i64 w3 w3.heap.size V (rs ++ args) := IsNums.of_owns HO3.out (Nat.le_refl _)
  obtain ⟨ys, hys⟩ : ∃ ys, ys = rs ++ args := ⟨_, rfl⟩
  rw [← hys] at hY0 HC
  clear hys HO3 HK3 B3 HK2 HX2 HO2 B2 W1 HK1 HX1 B1 HK0 HX0 HL0 hL1 hrl
  obtain ⟨A, Cp, rfl⟩ := hY0.len
  have hym := hY0.1
  unfold maxLen at hym
  have HY := Lib.hid hY0
  obtain ⟨len, hlen⟩ : ∃ len, len = ys.length := ⟨_, rfl⟩
  have HLn := Lib.hid hlen
  rw [← hlen] at hym ⊢
  clear hY0 hlen
  go_wp2
  go_loop [8] (fun i => ∃ k : Nat, k ≤ len ∧ i = .int .i64 k ∧ ∀ t, t < k → okR regs (ys.getD t 0) = true) (fun i => len - (intOf i).toNat)
  case atStart => exact ⟨0, Nat.zero_le _, rfl, fun t ht => by omega⟩
  case round =>
    obtain ⟨k, hk, rfl, hs⟩ := hrel
    have HSs := Lib.hid hs
    clear hs
    by_cases hlt : k < len
    · obtain ⟨b', o', cp', he, hlc, _, hcs⟩ := HY.out.plain (by have := HLn.out; omega)
      have hc := hcs k (by have := HLn.out; omega)
      cases he
      obtain ⟨x, hx⟩ : ∃ x, x = ys.getD k 0 := ⟨_, rfl⟩
      rw [← hx] at hc
      have HX := Lib.hid hx
      have k0 : (0 : Int) ≤ (k : Int) := by omega
      rw [← HLn.out] at hlc
      clear hcs hx
      by_cases hx0 : x < 0
      · have HE2 : Hid (rcheckV op a b c n args regs area = 5) := Lib.hid (by rw [HC.out, if_pos (all_not (k := k) (by have := HLn.out; omega) (by rw [← HX.out]; exact decide_eq_false (by omega)))])
        go_wp2
        go_ret
        rw [HE2.out]
        exact ⟨rfl, W3.out⟩
      · by_cases hx1 : regs ≤ x
        · have HE2 : Hid (rcheckV op a b c n args regs area = 5) := Lib.hid (by rw [HC.out, if_pos (all_not (k := k) (by have := HLn.out; omega) (by rw [← HX.out]; exact decide_eq_false (by omega)))])
          go_wp2
          go_ret
          rw [HE2.out]
          exact ⟨rfl, W3.out⟩
        · have HE2 : Hid (okR regs (ys.getD k 0) = true) := Lib.hid (by rw [← HX.out]; exact decide_eq_true (by omega))
          go_wp2
          go_round
          case rel => exact ⟨k + 1, by omega, by go_num, fun t ht => by
            by_cases e : t = k
            · subst e; exact HE2.out
            · exact HSs.out t (by omega)⟩
          case measure => simp [intOf]; omega
    · obtain rfl : k = len := by omega
      have HC2 : Hid (rcheckV op a b c n args regs area = if ((lettersOf sh).all fun q => numB q n area) = false then 5 else 0) := Lib.hid (by rw [HC.out, all_yes (fun t ht => HSs.out t (by have := HLn.out; omega))]; rfl)
      clear HSs HC hlt hk
      go_wp2_with (go_at_call 39; (with_reducible refine (HS.out _).mono ?_); rintro e w4 ⟨rfl, rfl⟩)
      obtain ⟨L, hL⟩ : ∃ L, L = lettersOf sh := ⟨_, rfl⟩
      rw [← hL] at HC2
      have HL := Lib.hid hL
      clear hL
      go_loopw [10] (fun i wr => ∃ k q : Nat, k ≤ sh.size ∧ i = .int .i64 k ∧ wr = w3.drewN q ∧ ∀ t, t < k → numB (L.getD t 0) n area = true) (fun i _ => sh.size - (intOf i).toNat)
      case atStart => exact ⟨0, 0, Nat.zero_le _, rfl, rfl, fun t ht => by omega⟩
      case round =>
        obtain ⟨k, q, hk, rfl, hwr, hs⟩ := hrel
        have HSs := Lib.hid hs
        have n4 : wr.cell? ⟨w.heap.size, 4, none⟩ = some (.int .i64 n) := by rw [hwr]; exact m4
        have WR := Lib.hid (show Below w.heap.size w wr by rw [hwr]; exact below_drewN W3.out _)
        have HWr := Lib.hid hwr
        clear hs hwr
        by_cases hlt : k < sh.size
        · have hLk : L.getD k 0 = (sh[k].toNat : Int) := by
            have h2 : L = lettersOf sh := HL.out
            subst h2
            have hk' : k < (lettersOf sh).length := by rw [letters_len]; exact hlt
            simp only [List.getD, List.getElem?_eq_getElem hk', Option.getD_some]
            exact letters_at sh hlt
          have hnum := fun W => number_any (sh[k].toNat : Int) n area W
          have k0 : (0 : Int) ≤ (k : Int) := by omega
          have HLk := Lib.hid hLk
          obtain ⟨nb, hnb⟩ : ∃ nb, nb = numB (sh[k].toNat : Int) n area := ⟨_, rfl⟩
          have HNb := Lib.hid hnb
          rw [← hnb] at hnum
          clear hLk hnb
          cases nb
          · have HNm := Lib.hid hnum
            have HE2 : Hid (rcheckV op a b c n args regs area = 5) := Lib.hid (by rw [HC2.out, if_pos (all_not (k := k) (by rw [HL.out, letters_len]; exact hlt) (by rw [HLk.out]; exact HNb.out.symm))])
            clear hnum
            go_wp2
            go_quiet ((go_at_call 60; with_reducible exact quiet_same (HNm.out _)))
            go_wp2
            go_ret
            rw [HE2.out]
            exact ⟨rfl, below_drewN WR.out _⟩
          · have HNm := Lib.hid hnum
            clear hnum
            go_wp2
            go_quiet ((go_at_call 60; with_reducible exact quiet_same (HNm.out _)))
            go_wp2
            go_roundw
            case rel => exact ⟨k + 1, q + nq, by omega, by go_num, by rw [HWr.out, World.drewN_drewN], fun t ht => by
              by_cases e : t = k
              · subst e; rw [HLk.out]; exact HNb.out.symm
              · exact HSs.out t (by omega)⟩
            case measure => simp [intOf]; omega
        · obtain rfl : k = sh.size := by omega
          have HE2 : Hid (rcheckV op a b c n args regs area = 0) := Lib.hid (by rw [HC2.out, all_yes (fun t ht => HSs.out t (by rw [HL.out, letters_len] at ht; exact ht))]; rfl)
          go_wp2
          go_ret
          rw [HE2.out]
          exact ⟨rfl, WR.out⟩
theorem rcheck_any (op a b c n : Int) (X : Value) (args : List Int) (regs area : Int) (w : World) (hX : IsNums .i64 w w.heap.size X args) :
    Calls Try.prog 38 #[.agg (insCells op a b c n X), .int .i64 regs, .int .i64 area] w (Makes w (.int .i64 (rcheckV op a b c n args regs area))) := by
  by_cases h : ¬ (0 ≤ op ∧ op < 33) ∨ regs < 0 ∨ 64 < regs ∨ area < 0 ∨ 4096 < area
  · exact rcheck_early op a b c n X args regs area w h
  · exact rcheck_late op a b c n X args regs area w hX (by omega) (by omega) (by omega) (by omega) (by omega)

end Go.Proofs.Ytobbjphpngckgaa
