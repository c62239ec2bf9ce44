/- CodePuts: which bytes instructions are, and why some can't be put, beside the document's own Put, Join and Length. Contract; no condition but that the instructions lie in a row. -/
import Derived.Test.YtobbjphpngckgaaKit07B
import Derived.Test.YtobbjphpngckgaaRef07C
namespace Go.Proofs.Ytobbjphpngckgaa
open Go.RowKit Go.Shelf
set_option linter.unusedVariables false
set_option linter.unusedSimpArgs false

def putB (y : InsV) : List Int := if y.chk = 0 then y.bytes else []
theorem putB_bd (y : InsV) : ∀ x ∈ putB y, 0 ≤ x ∧ x < 256 := by
  unfold putB
  split
  · exact y.bytes_bd
  · simp
theorem joinB_bd (l : List InsV) : ∀ x ∈ joinB l, 0 ≤ x ∧ x < 256 := by
  unfold joinB
  split
  · intro x hx
    obtain ⟨y, _, hy⟩ := List.mem_flatMap.1 hx
    exact y.bytes_bd x hy
  · simp
theorem put_uni {w w' : World} {y : InsV} {e : Ending} (h : PutI w y e w') : ∃ V, e = .returned (.tuple #[V, .int .i64 y.chk]) ∧ OutB w w' V (putB y) := by
  rcases h with ⟨h0, rfl, hb⟩ | ⟨h0, v, rfl, ho⟩
  · exact ⟨_, rfl, by unfold putB; rw [if_neg h0]; exact OutB.nil hb⟩
  · exact ⟨v, by rw [h0], by unfold putB; rw [if_pos h0]; exact ho⟩
theorem join_uni {w w' : World} {l : List InsV} {e : Ending} (h : JoinI w l e w') : ∃ V, e = .returned (.tuple #[V, .int .i64 (joinE l)]) ∧ OutB w w' V (joinB l) := by
  rcases h with ⟨h0, rfl, hb⟩ | ⟨h0, v, rfl, ho⟩
  · exact ⟨_, rfl, by unfold joinB; rw [if_neg h0]; exact OutB.nil hb⟩
  · exact ⟨v, by rw [h0], by unfold joinB; rw [if_pos h0]; exact ho⟩
theorem pt_cells {B : Nat} {w W : World} {b o g p : Nat} {y : InsV} {X Z : Value} (h : Below B w W) (hb : b < B) (hg : g < B) (hc : ∀ j, j < 6 → w.cell? ⟨b, o + j, none⟩ = some (insCell y X j)) (hd : ∀ j, j < 6 → w.cell? ⟨g, p + j, none⟩ = some (insCell y Z j)) :
    W.cell? ⟨b, o, none⟩ = some (.int .i64 y.op) ∧ W.cell? ⟨b, o + 1, none⟩ = some (.int .i64 y.a) ∧ W.cell? ⟨b, o + 2, none⟩ = some (.int .i64 y.b) ∧ W.cell? ⟨b, o + 3, none⟩ = some (.int .i64 y.c) ∧ W.cell? ⟨b, o + 4, none⟩ = some (.int .i64 y.n) ∧ W.cell? ⟨b, o + 5, none⟩ = some X ∧
    W.cell? ⟨g, p, none⟩ = some (.int .i64 y.op) ∧ W.cell? ⟨g, p + 1, none⟩ = some (.int .i64 y.a) ∧ W.cell? ⟨g, p + 2, none⟩ = some (.int .i64 y.b) ∧ W.cell? ⟨g, p + 3, none⟩ = some (.int .i64 y.c) ∧ W.cell? ⟨g, p + 4, none⟩ = some (.int .i64 y.n) ∧ W.cell? ⟨g, p + 5, none⟩ = some Z := by
  have h1 : ∀ j, j < 6 → W.cell? ⟨b, o + j, none⟩ = some (insCell y X j) := fun j hj => (h.cell (p := ⟨b, o + j, none⟩) hb).trans (hc j hj)
  have h2 : ∀ j, j < 6 → W.cell? ⟨g, p + j, none⟩ = some (insCell y Z j) := fun j hj => (h.cell (p := ⟨g, p + j, none⟩) hg).trans (hd j hj)
  exact ⟨h1 0 (by omega), h1 1 (by omega), h1 2 (by omega), h1 3 (by omega), h1 4 (by omega), h1 5 (by omega), h2 0 (by omega), h2 1 (by omega), h2 2 (by omega), h2 3 (by omega), h2 4 (by omega), h2 5 (by omega)⟩
set_option maxRecDepth 100000 in
set_option maxHeartbeats 16000000 in
theorem puts_law (V : Value) (l : List InsV) (w : World) (h : IsCode w w.heap.size V l) : Calls Try.prog 3 #[V] w (Makes w (.bool true)) := by
  have HK := Lib.hid (fun W => awake7_any W)
  have HC := Lib.hid (fun W (hb : Below w.heap.size w W) => (h.below hb (Nat.le_refl _) (Nat.le_refl _)).more hb.size)
  have HLg : Hid (Calls Try.prog 9 #[V, .int .i64 60] w fun e w' => e = .returned (.bool (longV l 60)) ∧ w = w') := Lib.hid (long_any V l 60 w _ h (by decide))
  obtain ⟨A, cap, hV⟩ := h.len
  subst hV
  cases hlg : longV l 60
  · rw [hlg] at HLg
    have hln := (long_no hlg).1
    have HCC := Lib.hid (copyCode_any _ l w h (by omega) (long_no hlg).2)
    have HJ := Lib.hid (fun U W hU => (join7_any U l W hU).mono fun e w' hh => join_uni hh)
    have HRJ := Lib.hid (fun U W hU => (rjoin7_any U l W hU (by omega)).mono fun e w' hh => join_uni hh)
    have HJB := Lib.hid (joinB_bd l)
    have hjj : (joinE l == joinE l) = true := beq_self_eq_true _
    have HSC := Lib.hid (fun U Z W hU hZ => sameCode_any U Z l l W hU hZ)
    rw [(sameCV_iff l l).2 rfl] at HSC
    generalize joinE l = je at HJ HRJ hjj
    generalize joinB l = jb at HJ HRJ HJB
    obtain ⟨n, hn⟩ : ∃ n, n = l.length := ⟨_, rfl⟩
    have HN := Lib.hid hn
    rw [← hn] at hln HLg HC HCC ⊢
    clear h hlg hn
    go_enter Try.func3, Try.ntmps3
    go_wp2_with (first
      | (go_at_call 9; (with_reducible refine HLg.out.mono ?_); rintro e w2 ⟨rfl, rfl⟩)
      | (go_at_call 11; (with_reducible refine HCC.out.mono ?_); rintro e w3 ⟨hb, U, Xs, rfl, ho⟩; obtain ⟨uA, uc, hue⟩ := owns_len ho.own; rw [← HN.out] at hue; subst hue; have HU3 := Lib.hid (ho.code (by have := HN.out; omega)); have B3 := Lib.hid hb; have HV3 := Lib.hid (HC.out _ hb); clear ho hb)
      | (go_at_call 12; (with_reducible refine (HJ.out _ _ HU3.out).mono ?_); rintro e w4 ⟨vb, rfl, ho⟩; obtain ⟨aA, ac, hae⟩ := owns_len ho.own; subst hae; have HO4 := Lib.hid ho; have hb := ho.bel; have HU4 := Lib.hid ((HU3.out.below hb (Nat.le_refl _) (Nat.le_refl _)).more hb.size); have HV4 := Lib.hid ((HV3.out.below hb (Nat.le_refl _) (Nat.le_refl _)).more hb.size); clear ho hb)
      | (go_at_call 13; (with_reducible refine (HRJ.out _ _ HV4.out).mono ?_); rintro e w5 ⟨vb, rfl, ho⟩; obtain ⟨bA, bc, hbe⟩ := owns_len ho.own; subst hbe; have HO5 := Lib.hid ho; have HA5 := Lib.hid (HO4.out.grow ho.bel); have HSB := Lib.hid (sameBytes_yes _ _ _ _ _ _ (HA5.out.bytes HJB.out (Nat.le_refl _)) (ho.bytes HJB.out (Nat.le_refl _))); clear ho)
      | (go_at_call 14; (with_reducible refine HSB.out.mono ?_); rintro e w6 ⟨rfl, rfl⟩)
      | (go_at_call 15; (with_reducible refine (over_any _ _ _ _ _ HA5.out.own).mono ?_); rintro e w7 ⟨rfl, hb⟩; have B7 := Lib.hid (HA5.out.bel.trans hb); clear hb))
    go_loopw [8, 9] (fun s i wr => ∃ k : Nat, k ≤ n ∧ i = .int .i64 k ∧ s = .bool true ∧ Hid (Below w3.heap.size w3 wr)) (fun _ i _ => n - (intOf i).toNat)
    case atStart => exact ⟨0, by omega, rfl, by first | rfl | simp, B7.out⟩
    case round =>
      obtain ⟨k, hk, rfl, rfl, HR⟩ := hrel
      by_cases hlt : k < n
      · have hkl : k < l.length := by rw [← HN.out]; exact hlt
        obtain ⟨b, off, cap2, hV, _, hgb, hcl⟩ := HV3.out.plain (by omega)
        rw [← HN.out] at hV
        cases hV
        obtain ⟨g, off2, cap3, hU, _, hgg, hdl⟩ := HU3.out.plain (by omega)
        rw [← HN.out] at hU
        cases hU
        obtain ⟨X, hX, hcell⟩ := hcl k hkl
        obtain ⟨Z, hZ, hdell⟩ := hdl k hkl
        have hin := (code_getD HV3.out hkl).n
        obtain ⟨y, hy⟩ : ∃ y, y = l.getD k .zero := ⟨_, rfl⟩
        rw [← hy] at hX hcell hZ hdell hin
        have HX := Lib.hid (fun W (hb : Below w3.heap.size w3 W) => (hX.below hb (Nat.le_refl _)).more hb.size)
        have HZ := Lib.hid (fun W (hb : Below w3.heap.size w3 W) => (hZ.below hb (Nat.le_refl _)).more hb.size)
        have HCell := Lib.hid (fun W (hb : Below w3.heap.size w3 W) => pt_cells hb hgg hgb hdell hcell)
        have HP := Lib.hid (fun W hb => (put7_any y.op y.a y.b y.c y.n Z y.args W (HZ.out W hb)).mono fun e w' hh => put_uni hh)
        have HRP := Lib.hid (fun W hb => (rput7_any y.op y.a y.b y.c y.n X y.args W (HX.out W hb) hin).mono fun e w' hh => put_uni hh)
        have HL := Lib.hid (fun W hb => length7_any y.op y.a y.b y.c y.n Z y.args W (HZ.out W hb))
        have HRL := Lib.hid (fun W hb => rlength7_any y.op y.a y.b y.c y.n X y.args W (HX.out W hb) hin)
        have HYB := Lib.hid (putB_bd y)
        have hyy : (y.chk == y.chk) = true := beq_self_eq_true _
        have hly : (lenV y == lenV y) = true := beq_self_eq_true _
        change Hid (∀ W, Below w3.heap.size w3 W → Calls _ _ _ _ (fun e w' => ∃ V, e = .returned (.tuple #[V, .int .i64 y.chk]) ∧ OutB W w' V (putB y))) at HP HRP
        change Hid (∀ W, Below w3.heap.size w3 W → Calls _ _ _ _ (Makes W (.int .i64 (lenV y)))) at HL HRL
        generalize y.chk = ye at HP HRP hyy
        generalize putB y = yb at HP HRP HYB
        generalize lenV y = yl at HL HRL hly
        obtain ⟨XA, xc, rfl⟩ := hX.len
        obtain ⟨ZA, zc, rfl⟩ := hZ.len
        obtain ⟨c0, c1, c2, c3, c4, c5, d0, d1, d2, d3, d4, d5⟩ := HCell.out _ HR.out
        have hltI : (k : Int) < (n : Int) := by omega
        clear hX hZ hcell hdell hcl hdl hy hin hkl
        go_wp2_with (first
          | (go_at_call 16; (with_reducible refine (HP.out _ HR.out).mono ?_); rintro e w8 ⟨vx, rfl, ho⟩; obtain ⟨pA, pc, hpe⟩ := owns_len ho.own; subst hpe; have P8 := Lib.hid ho; have R8 := Lib.hid (HR.out.trans (ho.bel.mono HR.out.size)); have C8 := Lib.hid (HCell.out _ R8.out); obtain ⟨_, _, _, _, _, _, e0, e1, e2, e3, e4, e5⟩ := C8.out; clear ho)
          | (go_at_call 17; (with_reducible refine (HRP.out _ R8.out).mono ?_); rintro e w9 ⟨vy, rfl, ho⟩; obtain ⟨qA, qc, hqe⟩ := owns_len ho.own; subst hqe; have P9 := Lib.hid (P8.out.grow ho.bel); have Q9 := Lib.hid ho; have R9 := Lib.hid (R8.out.trans (ho.bel.mono R8.out.size)); clear ho))
        clear c0 c1 c2 c3 c4 c5 d0 d1 d2 d3 d4 d5 e0 e1 e2 e3 e4 e5
        obtain ⟨c0, c1, c2, c3, c4, c5, d0, d1, d2, d3, d4, d5⟩ := HCell.out _ R9.out
        have HSm := Lib.hid (sameBytes_yes _ _ _ _ _ _ (P9.out.drew.bytes HYB.out (Nat.le_refl _)) (Q9.out.drew.bytes HYB.out (Nat.le_refl _)))
        go_region_held3 (fun W => W.cell? ⟨g, off2 + k * 6, none⟩ = some (.int .i64 y.op) ∧ W.cell? ⟨g, off2 + k * 6 + 1, none⟩ = some (.int .i64 y.a) ∧ W.cell? ⟨g, off2 + k * 6 + 2, none⟩ = some (.int .i64 y.b) ∧ W.cell? ⟨g, off2 + k * 6 + 3, none⟩ = some (.int .i64 y.c) ∧ W.cell? ⟨g, off2 + k * 6 + 4, none⟩ = some (.int .i64 y.n) ∧ W.cell? ⟨g, off2 + k * 6 + 5, none⟩ = some (.slice ZA y.args.length zc) ∧ W.cell? ⟨b, off + k * 6, none⟩ = some (.int .i64 y.op) ∧ W.cell? ⟨b, off + k * 6 + 1, none⟩ = some (.int .i64 y.a) ∧ W.cell? ⟨b, off + k * 6 + 2, none⟩ = some (.int .i64 y.b) ∧ W.cell? ⟨b, off + k * 6 + 3, none⟩ = some (.int .i64 y.c) ∧ W.cell? ⟨b, off + k * 6 + 4, none⟩ = some (.int .i64 y.n) ∧ W.cell? ⟨b, off + k * 6 + 5, none⟩ = some (.slice XA y.args.length xc)) (first | with_reducible exact HK11.out | with_reducible exact HK10.out | go_keep)
          (first
            | (go_at_call 14; (with_reducible refine HSm.out.mono ?_); rintro e w6 ⟨rfl, rfl⟩)
            | (go_at_call 18; (with_reducible refine (HL.out _ R9.out.drew).mono ?_); rintro e w10 ⟨rfl, hb⟩; have R10 := Lib.hid (R9.out.drew.trans (hb.mono R9.out.size)); have HK10 := Lib.hid (HCell.out _ R10.out); have P10 := Lib.hid (P9.out.drew.grow hb); clear hb)
            | (go_at_call 19; (with_reducible refine (HRL.out _ R10.out).mono ?_); rintro e w11 ⟨rfl, hb⟩; have R11 := Lib.hid (R10.out.trans (hb.mono R10.out.size)); have HK11 := Lib.hid (HCell.out _ R11.out); have P11 := Lib.hid (P10.out.grow hb); clear hb))
        all_goals
          go_wp2_with (go_at_call 15; (with_reducible refine (over_any _ _ _ _ _ P11.out.own).mono ?_); rintro e w12 ⟨rfl, hb⟩; have R12 := Lib.hid (R11.out.trans (hb.mono HR.out.size)); clear hb)
          go_roundw
          case rel => exact ⟨k + 1, by omega, by go_num, by first | rfl | simp [hyy, hly] | skip, R12.out⟩
          case measure => simp [intOf]; omega
      · obtain rfl : k = n := by omega
        have HUe := Lib.hid ((HU3.out.below HR.out (Nat.le_refl _) (Nat.le_refl _)).more HR.out.size)
        have HVe := Lib.hid ((HV3.out.below HR.out (Nat.le_refl _) (Nat.le_refl _)).more HR.out.size)
        go_wp2_with (first
          | (go_at_call 20; (with_reducible refine (HSC.out _ _ _ HUe.out HVe.out).mono ?_); rintro e w6 ⟨rfl, hb⟩; have R6 := Lib.hid (HR.out.trans (hb.mono HR.out.size)); clear hb)
          | (go_at_call 10; (with_reducible refine (HK.out _).mono ?_); rintro e w7 ⟨rfl, hb⟩; have R7 := Lib.hid (B3.out.trans ((R6.out.trans (hb.mono R6.out.size)).mono B3.out.size)); clear hb))
        go_ret
        exact ⟨by first | rfl | simp, R7.out⟩
  · rw [hlg] at HLg
    clear hlg HC h
    go_enter Try.func3, Try.ntmps3
    go_wp2_with (first
      | (go_at_call 9; (with_reducible refine HLg.out.mono ?_); rintro e w2 ⟨rfl, rfl⟩)
      | (go_at_call 10; (with_reducible refine (HK.out _).mono ?_); rintro e w1 ⟨rfl, hb⟩; have B1 := Lib.hid hb; clear hb))
    go_ret
    exact ⟨rfl, B1.out⟩
end Go.Proofs.Ytobbjphpngckgaa
