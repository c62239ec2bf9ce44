/- The body of the statement on which instructions may be, and which two are the same. Contract; no condition but that the arguments are instructions in memory, and numbers are the machine's. -/
import Derived.Test.YtbcfdjpnckikdaaAwake06
import Derived.Test.YtbcfdjpnckikdaaMathC06
import Derived.Test.YtbcfdjpnckikdaaRefE06
import Derived.Test.YtbcfdjpnckikdaaLawsE06
import Derived.Test.YtbcfdjpnckikdaaTwo06
import Derived.Deep.RegionHeld3
namespace Go.Proofs.Ytbcfdjpnckikdaa
open Go.RowKit
set_option linter.unusedVariables false
set_option linter.unusedSimpArgs false

set_option maxHeartbeats 4000000 in
set_option maxRecDepth 100000 in
theorem checks_law (op a b c n : Int) (X : Value) (args : List Int) (op' a' b' c' n' : Int) (X' : Value) (args' : List Int) (regs area : Int) (w : World) (hX : IsNums .i64 w w.heap.size X args) (hX' : IsNums .i64 w w.heap.size X' args') (hn : InI n) :
    Calls Try.prog 4 #[.agg (insCells op a b c n X), .agg (insCells op' a' b' c' n' X'), .int .i64 regs, .int .i64 area] w (Makes w (.bool true)) := by
  obtain ⟨A1, C1, rfl⟩ := hX.len
  obtain ⟨A2, C2, rfl⟩ := hX'.len
  have hm := hX.1
  have hm' := hX'.1
  unfold maxLen at hm hm'
  obtain ⟨w0, hw0⟩ : ∃ w0, w0 = (w.alloc (.cells (insCells op a b c n (.slice A1 args.length C1)) 28)).alloc (.cells (insCells op' a' b' c' n' (.slice A2 args'.length C2)) 28) := ⟨_, rfl⟩
  have hB0 : Below w.heap.size w w0 := by rw [hw0]; exact ((Below.refl _ w).alloc (Nat.le_refl _) _).alloc (by simp) _
  have H10 : Held w0 w.heap.size op a b c n (.slice A1 args.length C1) := by rw [hw0]; exact (Held.new w op a b c n (.slice A1 args.length C1) 28).alloc _
  have H20 : Held w0 (w.heap.size + 1) op' a' b' c' n' (.slice A2 args'.length C2) := by
    have h := Held.new (w.alloc (.cells (insCells op a b c n (.slice A1 args.length C1)) 28)) op' a' b' c' n' (.slice A2 args'.length C2) 28
    rw [World.size_alloc] at h
    rw [hw0]; exact h
  have N10 := Lib.hid ((hX.below hB0 (Nat.le_refl _)).more hB0.size)
  have N20 := Lib.hid ((hX'.below hB0 (Nat.le_refl _)).more hB0.size)
  have HW0 := Lib.hid hw0
  have B0 := Lib.hid hB0
  have HH1 := Lib.hid H10
  have HH2 := Lib.hid H20
  have HA := Lib.hid (fun w => awake_any w)
  obtain ⟨k0, k1, k2, k3, k4, k5⟩ := H10.six
  obtain ⟨l0, l1, l2, l3, l4, l5⟩ := H20.six
  clear hX hX' hw0 hB0 H10 H20
  by_cases h60 : 60 < args.length
  case pos =>
    have hB0 : Below w.heap.size w ((w.alloc (.cells (insCells op a b c n (.slice A1 args.length C1)) 28)).alloc (.cells (insCells op' a' b' c' n' (.slice A2 args'.length C2)) 28)) := by rw [← HW0.out]; exact B0.out
    have B := Lib.hid hB0
    clear hB0 k0 k1 k2 k3 k4 k5 l0 l1 l2 l3 l4 l5
    go_enter Try.func4, Try.ntmps4
    go_wp2_with (go_at_call 8; (with_reducible refine (HA.out _).mono ?_); rintro e w1 ⟨rfl, hb⟩; have B1 := Lib.hid hb; clear hb)
    go_ret
    exact ⟨rfl, B.out.trans (B1.out.mono B.out.size)⟩
  by_cases h61 : 60 < args'.length
  case pos =>
    have hB0 : Below w.heap.size w ((w.alloc (.cells (insCells op a b c n (.slice A1 args.length C1)) 28)).alloc (.cells (insCells op' a' b' c' n' (.slice A2 args'.length C2)) 28)) := by rw [← HW0.out]; exact B0.out
    have B := Lib.hid hB0
    clear hB0 k0 k1 k2 k3 k4 k5 l0 l1 l2 l3 l4 l5
    go_enter Try.func4, Try.ntmps4
    go_wp2_with (go_at_call 8; (with_reducible refine (HA.out _).mono ?_); rintro e w1 ⟨rfl, hb⟩; have B1 := Lib.hid hb; clear hb)
    go_ret
    exact ⟨rfl, B.out.trans (B1.out.mono B.out.size)⟩
  have HC1 := Lib.hid (fun W h => copyIns_any op a b c n (.slice A1 args.length C1) args W h (by omega))
  have HC2 := Lib.hid (fun W h => copyIns_any op' a' b' c' n' (.slice A2 args'.length C2) args' W h (by omega))
  have K0 := Lib.hid (two_of HH1.out.six HH2.out.six)
  go_enter Try.func4, Try.ntmps4
  go_wp2
  rename_i J0 hJ0
  have rest : ∀ (p9 p10 : Nat) (v1 v2 : Value) (W : World) (u0 u1 u11 u12 u13 u14 u15 u16 u17 u18 u19 u20 u21 u22 u23 u24 u25 : Value), Quad w W w.heap.size (w.heap.size + 1) p9 p10 op a b c n (.slice A1 args.length C1) args op' a' b' c' n' (.slice A2 args'.length C2) args' v1 v2 → J0 { tmps := #[u0, u1, .int .i64 regs, .int .i64 area, .pointer (some ⟨w.heap.size, 0, none⟩), .pointer (some ⟨w.heap.size + 1, 0, none⟩), undef, undef, .bool false, .pointer (some ⟨p9, 0, none⟩), .pointer (some ⟨p10, 0, none⟩), u11, u12, u13, u14, u15, u16, u17, u18, u19, u20, u21, u22, u23, u24, u25, undef, undef, undef, undef, undef, undef, undef, undef, undef, undef, undef, undef, undef, undef, undef, undef, undef, undef, undef, undef, undef, undef, undef, undef, undef, undef, undef, undef, undef, undef, undef], defers := [] } W := by
    intro p9 p10 v1 v2 W u0 u1 u11 u12 u13 u14 u15 u16 u17 u18 u19 u20 u21 u22 u23 u24 u25 hQ
    apply hJ0
    have hC := fun W h => check_any op a b c n v1 args regs area W h
    have hR := fun W h => rcheck_any op a b c n (.slice A1 args.length C1) args regs area W h
    have hcs := check_same op a b c n args regs area hn
    rw [← hcs] at hR
    have hS := fun W h h' => same_any op a b c n v1 args op' a' b' c' n' v2 args' W h h'
    have hT := fun W h h' => rsame_any op a b c n (.slice A1 args.length C1) args op' a' b' c' n' (.slice A2 args'.length C2) args' W h h'
    have hU := fun W h h' => sameIns_any op a b c n v1 args op a b c n (.slice A1 args.length C1) args W h h'
    have hV := fun W h h' => sameIns_any op' a' b' c' n' v2 args' op' a' b' c' n' (.slice A2 args'.length C2) args' W h h'
    rw [show sameV op a b c n args op a b c n args = true from decide_eq_true ⟨rfl, rfl, rfl, rfl, rfl, rfl⟩] at hU
    rw [show sameV op' a' b' c' n' args' op' a' b' c' n' args' = true from decide_eq_true ⟨rfl, rfl, rfl, rfl, rfl, rfl⟩] at hV
    obtain ⟨cv, hcv⟩ : ∃ x, x = checkV op a b c n args regs area := ⟨_, rfl⟩
    obtain ⟨sv, hsv⟩ : ∃ x, x = sameV op a b c n args op' a' b' c' n' args' := ⟨_, rfl⟩
    rw [← hcv] at hC hR
    rw [← hsv] at hS hT
    have HC := Lib.hid hC
    have HR := Lib.hid hR
    have HS := Lib.hid hS
    have HT := Lib.hid hT
    have HU := Lib.hid hU
    have HV := Lib.hid hV
    have Q0 := Lib.hid hQ.drew
    have KD := Lib.hid hQ.drew.six
    have hK := hQ.six
    obtain ⟨x0, x1, x2, x3, x4, x5, y0, y1, y2, y3, y4, y5, z0, z1, z2, z3, z4, z5, t0, t1, t2, t3, t4, t5⟩ := hK
    clear hC hR hcs hS hT hU hV hcv hsv
    clear hQ HC1 HC2 K0 HH1 HH2 N10 N20 B0 HW0 k0 k1 k2 k3 k4 k5 l0 l1 l2 l3 l4 l5
    go_wp2
    go_region_held3 (fun w' => w'.cell? ⟨w.heap.size, 0, none⟩ = some (.int .i64 op) ∧ w'.cell? ⟨w.heap.size, 1, none⟩ = some (.int .i64 a) ∧ w'.cell? ⟨w.heap.size, 2, none⟩ = some (.int .i64 b) ∧ w'.cell? ⟨w.heap.size, 3, none⟩ = some (.int .i64 c) ∧ w'.cell? ⟨w.heap.size, 4, none⟩ = some (.int .i64 n) ∧ w'.cell? ⟨w.heap.size, 5, none⟩ = some (.slice A1 args.length C1) ∧ w'.cell? ⟨w.heap.size + 1, 0, none⟩ = some (.int .i64 op') ∧ w'.cell? ⟨w.heap.size + 1, 1, none⟩ = some (.int .i64 a') ∧ w'.cell? ⟨w.heap.size + 1, 2, none⟩ = some (.int .i64 b') ∧ w'.cell? ⟨w.heap.size + 1, 3, none⟩ = some (.int .i64 c') ∧ w'.cell? ⟨w.heap.size + 1, 4, none⟩ = some (.int .i64 n') ∧ w'.cell? ⟨w.heap.size + 1, 5, none⟩ = some (.slice A2 args'.length C2) ∧ w'.cell? ⟨p9, 0, none⟩ = some (.int .i64 op) ∧ w'.cell? ⟨p9, 1, none⟩ = some (.int .i64 a) ∧ w'.cell? ⟨p9, 2, none⟩ = some (.int .i64 b) ∧ w'.cell? ⟨p9, 3, none⟩ = some (.int .i64 c) ∧ w'.cell? ⟨p9, 4, none⟩ = some (.int .i64 n) ∧ w'.cell? ⟨p9, 5, none⟩ = some v1 ∧ w'.cell? ⟨p10, 0, none⟩ = some (.int .i64 op') ∧ w'.cell? ⟨p10, 1, none⟩ = some (.int .i64 a') ∧ w'.cell? ⟨p10, 2, none⟩ = some (.int .i64 b') ∧ w'.cell? ⟨p10, 3, none⟩ = some (.int .i64 c') ∧ w'.cell? ⟨p10, 4, none⟩ = some (.int .i64 n') ∧ w'.cell? ⟨p10, 5, none⟩ = some v2) (first | with_reducible exact K7.out | with_reducible exact K6.out | with_reducible exact K5.out | with_reducible exact K4.out | with_reducible exact K3.out | with_reducible exact K2.out | with_reducible exact K1.out | with_reducible exact KD.out | go_keep)
      (first
        | (go_at_call 16; (with_reducible refine (HC.out _ Q0.out.n3).mono ?_); rintro e w1 ⟨rfl, hb⟩; have Q1 := Lib.hid (Q0.out.below hb); have K1 := Lib.hid Q1.out.six; clear hb)
        | (go_at_call 17; (with_reducible refine (HR.out _ Q1.out.n1).mono ?_); rintro e w2 ⟨rfl, hb⟩; have Q2 := Lib.hid (Q1.out.below hb); have K2 := Lib.hid Q2.out.six; clear hb)
        | (go_at_call 18; (with_reducible refine (HS.out _ Q2.out.n3 Q2.out.n4).mono ?_); rintro e w3 ⟨rfl, hb⟩; have Q3 := Lib.hid (Q2.out.below hb); have K3 := Lib.hid Q3.out.six; clear hb)
        | (go_at_call 19; (with_reducible refine (HT.out _ Q3.out.n1 Q3.out.n2).mono ?_); rintro e w4 ⟨rfl, hb⟩; have Q4 := Lib.hid (Q3.out.below hb); have K4 := Lib.hid Q4.out.six; clear hb)
        | (go_at_call 20; (with_reducible refine (HU.out _ Q4.out.n3 Q4.out.n1).mono ?_); rintro e w5 ⟨rfl, hb⟩; have Q5 := Lib.hid (Q4.out.below hb); have K5 := Lib.hid Q5.out.six; clear hb)
        | (go_at_call 20; (with_reducible refine (HV.out _ Q5.out.n4 Q5.out.n2).mono ?_); rintro e w6 ⟨rfl, hb⟩; have Q6 := Lib.hid (Q5.out.below hb); have K6 := Lib.hid Q6.out.six; clear hb)
        | (go_at_call 8; (with_reducible refine (HA.out _).mono ?_); rintro e w7 ⟨rfl, hb⟩; have Q7 := Lib.hid (Q6.out.below hb); have K7 := Lib.hid Q7.out.six; clear hb))
    go_wp2
    go_ret
    exact ⟨rfl, Q7.out.bel⟩
  rw [← HW0.out]
  have hk0 := K0.out
  have HD1 := Lib.hid (@copy_pk op a b c n (.slice A1 args.length C1) args w0 N10.out (by omega) _ _ _ _ _ _ _ _ _ _ _ _ _ _ HH1.out HH2.out)
  have HD2 := Lib.hid (@copy_pk op' a' b' c' n' (.slice A2 args'.length C2) args' w0 N20.out (by omega) _ _ _ _ _ _ _ _ _ _ _ _ _ _ HH1.out HH2.out)
  clear hn hm hm' h60 h61 HC1 HC2
  refine wp_region_held_drew (S := (fun W' => Below w0.heap.size w0 W')) (by kernel_rfl) (Below.refl _ _).drew (fun hHeld => ?_)
  refine wpAnyH_take (i := 0) (oi := { dst := some 22, op := Op.load 28 (Operand.tmp 4), type := 28, pos := "law.go:24", after := #[], guard := none }) (v := (.agg (insCells op a b c n (.slice A1 args.length C1)))) rfl (by kernel_rfl) (by kernel_rfl) (by kernel_rfl) (fun _ _ _ h => h) (Or.inl ⟨by rfl, ?_⟩) hHeld ?_
  · intro W hS
    obtain ⟨k0, k1, k2, k3, k4, k5⟩ := (HH1.out.below hS).six
    go_simp
  try simp only [Act.put, List.setIfInBounds_toArray, List.set_cons_zero, List.set_cons_succ]
  refine wpAnyH_take (i := 2) (oi := { dst := some 24, op := Op.load 28 (Operand.tmp 5), type := 28, pos := "law.go:24", after := #[], guard := none }) (v := (.agg (insCells op' a' b' c' n' (.slice A2 args'.length C2)))) rfl (by kernel_rfl) (by kernel_rfl) (by kernel_rfl) (fun _ _ _ h => h) (Or.inl ⟨by rfl, ?_⟩) hHeld ?_
  · intro W hS
    obtain ⟨k0, k1, k2, k3, k4, k5⟩ := (HH2.out.below hS).six
    go_simp
  try simp only [Act.put, List.setIfInBounds_toArray, List.set_cons_zero, List.set_cons_succ]
  have RS := Lib.hid rest
  clear rest
  refine by_fun (fun G hG => ?_)
  have HG := Lib.hid hG
  clear hG
  clear k0 k1 k2 k3 k4 k5 l0 l1 l2 l3 l4 l5 HW0 K0
  have st1345' : ∀ (u0 u1 u11 u12 u13 u14 u15 u16 u17 u18 u19 u20 u21 : Value) (W : World) (L : List Nat) (p9 : Nat) (p10 : Nat) (S1 : Option Addr) (l1 c1 : Nat) (S2 : Option Addr) (l2 c2 : Nat), Pk w0 W L [(.slice S2 l2 c2, args'), (.slice S1 l1 c1, args)] → p9 ∈ L → p10 ∈ L → p9 ≠ p10 → G 2 #[true, true, true, true, true, true, false, false] { tmps := #[u0, u1, .int .i64 regs, .int .i64 area, .pointer (some ⟨w.heap.size, 0, none⟩), .pointer (some ⟨w.heap.size + 1, 0, none⟩), undef, undef, .bool false, .pointer (some ⟨p9, 0, none⟩), .pointer (some ⟨p10, 0, none⟩), u11, u12, u13, u14, u15, u16, u17, u18, u19, u20, u21, .agg (insCells op a b c n (.slice A1 args.length C1)), .agg (insCells op a b c n (.slice S1 l1 c1)), .agg (insCells op' a' b' c' n' (.slice A2 args'.length C2)), .agg (insCells op' a' b' c' n' (.slice S2 l2 c2)), undef, undef, undef, undef, undef, undef, undef, undef, undef, undef, undef, undef, undef, undef, undef, undef, undef, undef, undef, undef, undef, undef, undef, undef, undef, undef, undef, undef, undef, undef, undef], defers := [] } W := by
    intro u0 u1 u11 u12 u13 u14 u15 u16 u17 u18 u19 u20 u21 W L p9 p10 S1 l1 c1 S2 l2 c2 hp h9 h10 hne
    obtain ⟨⟨m0, m1, m2, m3, m4, m5⟩, mf, mlt⟩ := hp.facts h9
    obtain ⟨⟨r0, r1, r2, r3, r4, r5⟩, rf, rlt⟩ := hp.facts h10
    have hne' := Ne.symm hne
    have HP := Lib.hid hp
    clear hp
    rw [HG.out]
    refine wpAnyH_ready (rs := [6]) (by kernel_rfl) (by simp) ?_
    refine AllReadyH.cons (o := { dst := none, op := Op.store 28 (Operand.tmp 9) (Operand.tmp 23), type := 0, pos := "law.go:24", after := #[{ on := 4, ground := Ground.data }, { on := 1, ground := Ground.data }, { on := 3, ground := Ground.chain }, { on := 0, ground := Ground.phase }, { on := 1, ground := Ground.phase }, { on := 2, ground := Ground.textOnly Departure.lateStores }, { on := 3, ground := Ground.textOnly Departure.lateStoresUnsure }, { on := 4, ground := Ground.phase }, { on := 5, ground := Ground.phase }], guard := none }) rfl (fun K hK => ?_) AllReadyH.nil
    go_simp
    refine hK.out _ _ ?_ (fun _ => ?_)
    · refine Pk.bel_but HP.out ?_; (repeat' (first | with_reducible exact But.refl _ _ | with_reducible apply But.drew | with_reducible refine But.alloc ?_ _ | with_reducible refine But.setCell ?_ ?_ _ | exact Or.inl ‹_›))
    clear hK K
    try simp only [Act.put, List.setIfInBounds_toArray, List.set_cons_zero, List.set_cons_succ]
    refine wpAnyH_ready (rs := [7]) (by kernel_rfl) (by simp) ?_
    refine AllReadyH.cons (o := { dst := none, op := Op.store 28 (Operand.tmp 10) (Operand.tmp 25), type := 0, pos := "law.go:24", after := #[{ on := 5, ground := Ground.data }, { on := 3, ground := Ground.data }, { on := 6, ground := Ground.chain }, { on := 0, ground := Ground.phase }, { on := 1, ground := Ground.phase }, { on := 2, ground := Ground.phase }, { on := 3, ground := Ground.phase }, { on := 4, ground := Ground.phase }, { on := 5, ground := Ground.phase }, { on := 6, ground := Ground.phase }], guard := none }) rfl (fun K hK => ?_) AllReadyH.nil
    go_simp
    refine hK.out _ _ ?_ (fun _ => ?_)
    · refine Pk.bel_but HP.out ?_; (repeat' (first | with_reducible exact But.refl _ _ | with_reducible apply But.drew | with_reducible refine But.alloc ?_ _ | with_reducible refine But.setCell ?_ ?_ _ | exact Or.inl ‹_›))
    clear hK K
    try simp only [Act.put, List.setIfInBounds_toArray, List.set_cons_zero, List.set_cons_succ]
    refine wpAnyH_done (by kernel_rfl) ?_ _
    refine RS.out _ _ _ _ _ _ _ _ _ _ _ _ _ _ _ _ _ _ _ _ _ _ (Pk.quad HP.out ?_ B0.out HH1.out HH2.out N10.out N20.out ?_ ?_ ?_ ?_)
    · (repeat' (first | with_reducible exact But.refl _ _ | with_reducible apply But.drew | with_reducible refine But.alloc ?_ _ | with_reducible refine But.setCell ?_ ?_ _ | exact Or.inl ‹_›))
    · refine ⟨?_, ?_, ?_, ?_, ?_, ?_⟩ <;> first | (go_simp; done) | (go_keep; done)
    · refine ⟨?_, ?_, ?_, ?_, ?_, ?_⟩ <;> first | (go_simp; done) | (go_keep; done)
    · simpa using mlt
    · simpa using rlt
  have st1345 := Lib.hid st1345'
  clear st1345'
  have st145' : ∀ (u0 u1 u11 u12 u13 u14 u15 u16 u17 u18 u19 u20 u21 : Value) (W : World) (L : List Nat) (p9 : Nat) (p10 : Nat) (S1 : Option Addr) (l1 c1 : Nat), Pk w0 W L [(.slice S1 l1 c1, args)] → p9 ∈ L → p10 ∈ L → p9 ≠ p10 → G 3 #[true, true, true, false, true, true, false, false] { tmps := #[u0, u1, .int .i64 regs, .int .i64 area, .pointer (some ⟨w.heap.size, 0, none⟩), .pointer (some ⟨w.heap.size + 1, 0, none⟩), undef, undef, .bool false, .pointer (some ⟨p9, 0, none⟩), .pointer (some ⟨p10, 0, none⟩), u11, u12, u13, u14, u15, u16, u17, u18, u19, u20, u21, .agg (insCells op a b c n (.slice A1 args.length C1)), .agg (insCells op a b c n (.slice S1 l1 c1)), .agg (insCells op' a' b' c' n' (.slice A2 args'.length C2)), undef, undef, undef, undef, undef, undef, undef, undef, undef, undef, undef, undef, undef, undef, undef, undef, undef, undef, undef, undef, undef, undef, undef, undef, undef, undef, undef, undef, undef, undef, undef, undef], defers := [] } W := by
    intro u0 u1 u11 u12 u13 u14 u15 u16 u17 u18 u19 u20 u21 W L p9 p10 S1 l1 c1 hp h9 h10 hne
    have HP := Lib.hid hp
    clear hp
    rw [HG.out]
    refine wpAnyH_ready (rs := [3]) (by kernel_rfl) (by simp) ?_
    refine AllReadyH.cons (o := { dst := some 25, op := Op.call { callee := Callee.value (Operand.func 15), args := #[Operand.tmp 24], argTypes := #[28] }, type := 28, pos := "law.go:24", after := #[{ on := 2, ground := Ground.data }, { on := 1, ground := Ground.chain }], guard := none }) rfl (fun K hK => ?_) ?_
    · go_wp2_with (go_at_call 15; (with_reducible refine (HD2.out _ _ _ HP.out).mono ?_); rintro e w1 ⟨S', l', c', rfl, q, t⟩; have Q1 := Lib.hid q; clear q t)
      refine hK.out _ _ Q1.out.bel (fun _ => ?_)
      try simp only [Act.put, List.setIfInBounds_toArray, List.set_cons_zero, List.set_cons_succ]
      rw [← HG.out]
      exact st1345.out _ _ _ _ _ _ _ _ _ _ _ _ _ _ _ _ _ _ _ _ _ _ _ Q1.out h9 h10 hne
    exact AllReadyH.nil
  have st145 := Lib.hid st145'
  clear st145'
  have st134' : ∀ (u0 u1 u11 u12 u13 u14 u15 u16 u17 u18 u19 u20 u21 : Value) (W : World) (L : List Nat) (p9 : Nat) (S1 : Option Addr) (l1 c1 : Nat) (S2 : Option Addr) (l2 c2 : Nat), Pk w0 W L [(.slice S2 l2 c2, args'), (.slice S1 l1 c1, args)] → p9 ∈ L → G 3 #[true, true, true, true, true, false, false, false] { tmps := #[u0, u1, .int .i64 regs, .int .i64 area, .pointer (some ⟨w.heap.size, 0, none⟩), .pointer (some ⟨w.heap.size + 1, 0, none⟩), undef, undef, .bool false, .pointer (some ⟨p9, 0, none⟩), undef, u11, u12, u13, u14, u15, u16, u17, u18, u19, u20, u21, .agg (insCells op a b c n (.slice A1 args.length C1)), .agg (insCells op a b c n (.slice S1 l1 c1)), .agg (insCells op' a' b' c' n' (.slice A2 args'.length C2)), .agg (insCells op' a' b' c' n' (.slice S2 l2 c2)), undef, undef, undef, undef, undef, undef, undef, undef, undef, undef, undef, undef, undef, undef, undef, undef, undef, undef, undef, undef, undef, undef, undef, undef, undef, undef, undef, undef, undef, undef, undef], defers := [] } W := by
    intro u0 u1 u11 u12 u13 u14 u15 u16 u17 u18 u19 u20 u21 W L p9 S1 l1 c1 S2 l2 c2 hp h9
    have HP := Lib.hid hp
    clear hp
    rw [HG.out]
    refine wpAnyH_ready (rs := [5]) (by kernel_rfl) (by simp) ?_
    refine AllReadyH.cons (o := { dst := some 10, op := Op.alloc 28, type := 0, pos := "law.go:24", after := #[], guard := none }) rfl (fun K hK => ?_) ?_
    · go_simp
      refine hK.out _ _ HP.out.alloc.bel (fun _ => ?_)
      try simp only [Act.put, List.setIfInBounds_toArray, List.set_cons_zero, List.set_cons_succ]
      rw [← HG.out]
      exact st1345.out _ _ _ _ _ _ _ _ _ _ _ _ _ _ _ _ _ _ _ _ _ _ _ HP.out.alloc (List.Mem.tail _ h9) (List.Mem.head _) (Nat.ne_of_lt (HP.out.facts h9).2.2)
    exact AllReadyH.nil
  have st134 := Lib.hid st134'
  clear st134'
  have st135' : ∀ (u0 u1 u11 u12 u13 u14 u15 u16 u17 u18 u19 u20 u21 : Value) (W : World) (L : List Nat) (p10 : Nat) (S1 : Option Addr) (l1 c1 : Nat) (S2 : Option Addr) (l2 c2 : Nat), Pk w0 W L [(.slice S2 l2 c2, args'), (.slice S1 l1 c1, args)] → p10 ∈ L → G 3 #[true, true, true, true, false, true, false, false] { tmps := #[u0, u1, .int .i64 regs, .int .i64 area, .pointer (some ⟨w.heap.size, 0, none⟩), .pointer (some ⟨w.heap.size + 1, 0, none⟩), undef, undef, .bool false, undef, .pointer (some ⟨p10, 0, none⟩), u11, u12, u13, u14, u15, u16, u17, u18, u19, u20, u21, .agg (insCells op a b c n (.slice A1 args.length C1)), .agg (insCells op a b c n (.slice S1 l1 c1)), .agg (insCells op' a' b' c' n' (.slice A2 args'.length C2)), .agg (insCells op' a' b' c' n' (.slice S2 l2 c2)), undef, undef, undef, undef, undef, undef, undef, undef, undef, undef, undef, undef, undef, undef, undef, undef, undef, undef, undef, undef, undef, undef, undef, undef, undef, undef, undef, undef, undef, undef, undef], defers := [] } W := by
    intro u0 u1 u11 u12 u13 u14 u15 u16 u17 u18 u19 u20 u21 W L p10 S1 l1 c1 S2 l2 c2 hp h10
    have HP := Lib.hid hp
    clear hp
    rw [HG.out]
    refine wpAnyH_ready (rs := [4]) (by kernel_rfl) (by simp) ?_
    refine AllReadyH.cons (o := { dst := some 9, op := Op.alloc 28, type := 0, pos := "law.go:24", after := #[], guard := none }) rfl (fun K hK => ?_) ?_
    · go_simp
      refine hK.out _ _ HP.out.alloc.bel (fun _ => ?_)
      try simp only [Act.put, List.setIfInBounds_toArray, List.set_cons_zero, List.set_cons_succ]
      rw [← HG.out]
      exact st1345.out _ _ _ _ _ _ _ _ _ _ _ _ _ _ _ _ _ _ _ _ _ _ _ HP.out.alloc (List.Mem.head _) (List.Mem.tail _ h10) (Nat.ne_of_gt (HP.out.facts h10).2.2)
    exact AllReadyH.nil
  have st135 := Lib.hid st135'
  clear st135'
  have st13' : ∀ (u0 u1 u11 u12 u13 u14 u15 u16 u17 u18 u19 u20 u21 : Value) (W : World) (L : List Nat) (S1 : Option Addr) (l1 c1 : Nat) (S2 : Option Addr) (l2 c2 : Nat), Pk w0 W L [(.slice S2 l2 c2, args'), (.slice S1 l1 c1, args)] → G 4 #[true, true, true, true, false, false, false, false] { tmps := #[u0, u1, .int .i64 regs, .int .i64 area, .pointer (some ⟨w.heap.size, 0, none⟩), .pointer (some ⟨w.heap.size + 1, 0, none⟩), undef, undef, .bool false, undef, undef, u11, u12, u13, u14, u15, u16, u17, u18, u19, u20, u21, .agg (insCells op a b c n (.slice A1 args.length C1)), .agg (insCells op a b c n (.slice S1 l1 c1)), .agg (insCells op' a' b' c' n' (.slice A2 args'.length C2)), .agg (insCells op' a' b' c' n' (.slice S2 l2 c2)), undef, undef, undef, undef, undef, undef, undef, undef, undef, undef, undef, undef, undef, undef, undef, undef, undef, undef, undef, undef, undef, undef, undef, undef, undef, undef, undef, undef, undef, undef, undef], defers := [] } W := by
    intro u0 u1 u11 u12 u13 u14 u15 u16 u17 u18 u19 u20 u21 W L S1 l1 c1 S2 l2 c2 hp
    have HP := Lib.hid hp
    clear hp
    rw [HG.out]
    refine wpAnyH_ready (rs := [4, 5]) (by kernel_rfl) (by simp) ?_
    refine AllReadyH.cons (o := { dst := some 9, op := Op.alloc 28, type := 0, pos := "law.go:24", after := #[], guard := none }) rfl (fun K hK => ?_) ?_
    · go_simp
      refine hK.out _ _ HP.out.alloc.bel (fun _ => ?_)
      try simp only [Act.put, List.setIfInBounds_toArray, List.set_cons_zero, List.set_cons_succ]
      rw [← HG.out]
      exact st134.out _ _ _ _ _ _ _ _ _ _ _ _ _ _ _ _ _ _ _ _ _ _ HP.out.alloc (List.Mem.head _)
    refine AllReadyH.cons (o := { dst := some 10, op := Op.alloc 28, type := 0, pos := "law.go:24", after := #[], guard := none }) rfl (fun K hK => ?_) ?_
    · go_simp
      refine hK.out _ _ HP.out.alloc.bel (fun _ => ?_)
      try simp only [Act.put, List.setIfInBounds_toArray, List.set_cons_zero, List.set_cons_succ]
      rw [← HG.out]
      exact st135.out _ _ _ _ _ _ _ _ _ _ _ _ _ _ _ _ _ _ _ _ _ _ HP.out.alloc (List.Mem.head _)
    exact AllReadyH.nil
  have st13 := Lib.hid st13'
  clear st13'
  have st45' : ∀ (u0 u1 u11 u12 u13 u14 u15 u16 u17 u18 u19 u20 u21 : Value) (W : World) (L : List Nat) (p9 : Nat) (p10 : Nat), Pk w0 W L [] → p9 ∈ L → p10 ∈ L → p9 ≠ p10 → G 4 #[true, false, true, false, true, true, false, false] { tmps := #[u0, u1, .int .i64 regs, .int .i64 area, .pointer (some ⟨w.heap.size, 0, none⟩), .pointer (some ⟨w.heap.size + 1, 0, none⟩), undef, undef, .bool false, .pointer (some ⟨p9, 0, none⟩), .pointer (some ⟨p10, 0, none⟩), u11, u12, u13, u14, u15, u16, u17, u18, u19, u20, u21, .agg (insCells op a b c n (.slice A1 args.length C1)), undef, .agg (insCells op' a' b' c' n' (.slice A2 args'.length C2)), undef, undef, undef, undef, undef, undef, undef, undef, undef, undef, undef, undef, undef, undef, undef, undef, undef, undef, undef, undef, undef, undef, undef, undef, undef, undef, undef, undef, undef, undef, undef, undef], defers := [] } W := by
    intro u0 u1 u11 u12 u13 u14 u15 u16 u17 u18 u19 u20 u21 W L p9 p10 hp h9 h10 hne
    have HP := Lib.hid hp
    clear hp
    rw [HG.out]
    refine wpAnyH_ready (rs := [1]) (by kernel_rfl) (by simp) ?_
    refine AllReadyH.cons (o := { dst := some 23, op := Op.call { callee := Callee.value (Operand.func 15), args := #[Operand.tmp 22], argTypes := #[28] }, type := 28, pos := "law.go:24", after := #[{ on := 0, ground := Ground.data }], guard := none }) rfl (fun K hK => ?_) ?_
    · go_wp2_with (go_at_call 15; (with_reducible refine (HD1.out _ _ _ HP.out).mono ?_); rintro e w1 ⟨S', l', c', rfl, q, t⟩; have Q1 := Lib.hid q; clear q t)
      refine hK.out _ _ Q1.out.bel (fun _ => ?_)
      try simp only [Act.put, List.setIfInBounds_toArray, List.set_cons_zero, List.set_cons_succ]
      rw [← HG.out]
      exact st145.out _ _ _ _ _ _ _ _ _ _ _ _ _ _ _ _ _ _ _ _ Q1.out h9 h10 hne
    exact AllReadyH.nil
  have st45 := Lib.hid st45'
  clear st45'
  have st14' : ∀ (u0 u1 u11 u12 u13 u14 u15 u16 u17 u18 u19 u20 u21 : Value) (W : World) (L : List Nat) (p9 : Nat) (S1 : Option Addr) (l1 c1 : Nat), Pk w0 W L [(.slice S1 l1 c1, args)] → p9 ∈ L → G 4 #[true, true, true, false, true, false, false, false] { tmps := #[u0, u1, .int .i64 regs, .int .i64 area, .pointer (some ⟨w.heap.size, 0, none⟩), .pointer (some ⟨w.heap.size + 1, 0, none⟩), undef, undef, .bool false, .pointer (some ⟨p9, 0, none⟩), undef, u11, u12, u13, u14, u15, u16, u17, u18, u19, u20, u21, .agg (insCells op a b c n (.slice A1 args.length C1)), .agg (insCells op a b c n (.slice S1 l1 c1)), .agg (insCells op' a' b' c' n' (.slice A2 args'.length C2)), undef, undef, undef, undef, undef, undef, undef, undef, undef, undef, undef, undef, undef, undef, undef, undef, undef, undef, undef, undef, undef, undef, undef, undef, undef, undef, undef, undef, undef, undef, undef, undef], defers := [] } W := by
    intro u0 u1 u11 u12 u13 u14 u15 u16 u17 u18 u19 u20 u21 W L p9 S1 l1 c1 hp h9
    have HP := Lib.hid hp
    clear hp
    rw [HG.out]
    refine wpAnyH_ready (rs := [3, 5]) (by kernel_rfl) (by simp) ?_
    refine AllReadyH.cons (o := { dst := some 25, op := Op.call { callee := Callee.value (Operand.func 15), args := #[Operand.tmp 24], argTypes := #[28] }, type := 28, pos := "law.go:24", after := #[{ on := 2, ground := Ground.data }, { on := 1, ground := Ground.chain }], guard := none }) rfl (fun K hK => ?_) ?_
    · go_wp2_with (go_at_call 15; (with_reducible refine (HD2.out _ _ _ HP.out).mono ?_); rintro e w1 ⟨S', l', c', rfl, q, t⟩; have Q1 := Lib.hid q; clear q t)
      refine hK.out _ _ Q1.out.bel (fun _ => ?_)
      try simp only [Act.put, List.setIfInBounds_toArray, List.set_cons_zero, List.set_cons_succ]
      rw [← HG.out]
      exact st134.out _ _ _ _ _ _ _ _ _ _ _ _ _ _ _ _ _ _ _ _ _ _ Q1.out h9
    refine AllReadyH.cons (o := { dst := some 10, op := Op.alloc 28, type := 0, pos := "law.go:24", after := #[], guard := none }) rfl (fun K hK => ?_) ?_
    · go_simp
      refine hK.out _ _ HP.out.alloc.bel (fun _ => ?_)
      try simp only [Act.put, List.setIfInBounds_toArray, List.set_cons_zero, List.set_cons_succ]
      rw [← HG.out]
      exact st145.out _ _ _ _ _ _ _ _ _ _ _ _ _ _ _ _ _ _ _ _ HP.out.alloc (List.Mem.tail _ h9) (List.Mem.head _) (Nat.ne_of_lt (HP.out.facts h9).2.2)
    exact AllReadyH.nil
  have st14 := Lib.hid st14'
  clear st14'
  have st15' : ∀ (u0 u1 u11 u12 u13 u14 u15 u16 u17 u18 u19 u20 u21 : Value) (W : World) (L : List Nat) (p10 : Nat) (S1 : Option Addr) (l1 c1 : Nat), Pk w0 W L [(.slice S1 l1 c1, args)] → p10 ∈ L → G 4 #[true, true, true, false, false, true, false, false] { tmps := #[u0, u1, .int .i64 regs, .int .i64 area, .pointer (some ⟨w.heap.size, 0, none⟩), .pointer (some ⟨w.heap.size + 1, 0, none⟩), undef, undef, .bool false, undef, .pointer (some ⟨p10, 0, none⟩), u11, u12, u13, u14, u15, u16, u17, u18, u19, u20, u21, .agg (insCells op a b c n (.slice A1 args.length C1)), .agg (insCells op a b c n (.slice S1 l1 c1)), .agg (insCells op' a' b' c' n' (.slice A2 args'.length C2)), undef, undef, undef, undef, undef, undef, undef, undef, undef, undef, undef, undef, undef, undef, undef, undef, undef, undef, undef, undef, undef, undef, undef, undef, undef, undef, undef, undef, undef, undef, undef, undef], defers := [] } W := by
    intro u0 u1 u11 u12 u13 u14 u15 u16 u17 u18 u19 u20 u21 W L p10 S1 l1 c1 hp h10
    have HP := Lib.hid hp
    clear hp
    rw [HG.out]
    refine wpAnyH_ready (rs := [3, 4]) (by kernel_rfl) (by simp) ?_
    refine AllReadyH.cons (o := { dst := some 25, op := Op.call { callee := Callee.value (Operand.func 15), args := #[Operand.tmp 24], argTypes := #[28] }, type := 28, pos := "law.go:24", after := #[{ on := 2, ground := Ground.data }, { on := 1, ground := Ground.chain }], guard := none }) rfl (fun K hK => ?_) ?_
    · go_wp2_with (go_at_call 15; (with_reducible refine (HD2.out _ _ _ HP.out).mono ?_); rintro e w1 ⟨S', l', c', rfl, q, t⟩; have Q1 := Lib.hid q; clear q t)
      refine hK.out _ _ Q1.out.bel (fun _ => ?_)
      try simp only [Act.put, List.setIfInBounds_toArray, List.set_cons_zero, List.set_cons_succ]
      rw [← HG.out]
      exact st135.out _ _ _ _ _ _ _ _ _ _ _ _ _ _ _ _ _ _ _ _ _ _ Q1.out h10
    refine AllReadyH.cons (o := { dst := some 9, op := Op.alloc 28, type := 0, pos := "law.go:24", after := #[], guard := none }) rfl (fun K hK => ?_) ?_
    · go_simp
      refine hK.out _ _ HP.out.alloc.bel (fun _ => ?_)
      try simp only [Act.put, List.setIfInBounds_toArray, List.set_cons_zero, List.set_cons_succ]
      rw [← HG.out]
      exact st145.out _ _ _ _ _ _ _ _ _ _ _ _ _ _ _ _ _ _ _ _ HP.out.alloc (List.Mem.head _) (List.Mem.tail _ h10) (Nat.ne_of_gt (HP.out.facts h10).2.2)
    exact AllReadyH.nil
  have st15 := Lib.hid st15'
  clear st15'
  have st1' : ∀ (u0 u1 u11 u12 u13 u14 u15 u16 u17 u18 u19 u20 u21 : Value) (W : World) (L : List Nat) (S1 : Option Addr) (l1 c1 : Nat), Pk w0 W L [(.slice S1 l1 c1, args)] → G 5 #[true, true, true, false, false, false, false, false] { tmps := #[u0, u1, .int .i64 regs, .int .i64 area, .pointer (some ⟨w.heap.size, 0, none⟩), .pointer (some ⟨w.heap.size + 1, 0, none⟩), undef, undef, .bool false, undef, undef, u11, u12, u13, u14, u15, u16, u17, u18, u19, u20, u21, .agg (insCells op a b c n (.slice A1 args.length C1)), .agg (insCells op a b c n (.slice S1 l1 c1)), .agg (insCells op' a' b' c' n' (.slice A2 args'.length C2)), undef, undef, undef, undef, undef, undef, undef, undef, undef, undef, undef, undef, undef, undef, undef, undef, undef, undef, undef, undef, undef, undef, undef, undef, undef, undef, undef, undef, undef, undef, undef, undef], defers := [] } W := by
    intro u0 u1 u11 u12 u13 u14 u15 u16 u17 u18 u19 u20 u21 W L S1 l1 c1 hp
    have HP := Lib.hid hp
    clear hp
    rw [HG.out]
    refine wpAnyH_ready (rs := [3, 4, 5]) (by kernel_rfl) (by simp) ?_
    refine AllReadyH.cons (o := { dst := some 25, op := Op.call { callee := Callee.value (Operand.func 15), args := #[Operand.tmp 24], argTypes := #[28] }, type := 28, pos := "law.go:24", after := #[{ on := 2, ground := Ground.data }, { on := 1, ground := Ground.chain }], guard := none }) rfl (fun K hK => ?_) ?_
    · go_wp2_with (go_at_call 15; (with_reducible refine (HD2.out _ _ _ HP.out).mono ?_); rintro e w1 ⟨S', l', c', rfl, q, t⟩; have Q1 := Lib.hid q; clear q t)
      refine hK.out _ _ Q1.out.bel (fun _ => ?_)
      try simp only [Act.put, List.setIfInBounds_toArray, List.set_cons_zero, List.set_cons_succ]
      rw [← HG.out]
      exact st13.out _ _ _ _ _ _ _ _ _ _ _ _ _ _ _ _ _ _ _ _ _ Q1.out
    refine AllReadyH.cons (o := { dst := some 9, op := Op.alloc 28, type := 0, pos := "law.go:24", after := #[], guard := none }) rfl (fun K hK => ?_) ?_
    · go_simp
      refine hK.out _ _ HP.out.alloc.bel (fun _ => ?_)
      try simp only [Act.put, List.setIfInBounds_toArray, List.set_cons_zero, List.set_cons_succ]
      rw [← HG.out]
      exact st14.out _ _ _ _ _ _ _ _ _ _ _ _ _ _ _ _ _ _ _ HP.out.alloc (List.Mem.head _)
    refine AllReadyH.cons (o := { dst := some 10, op := Op.alloc 28, type := 0, pos := "law.go:24", after := #[], guard := none }) rfl (fun K hK => ?_) ?_
    · go_simp
      refine hK.out _ _ HP.out.alloc.bel (fun _ => ?_)
      try simp only [Act.put, List.setIfInBounds_toArray, List.set_cons_zero, List.set_cons_succ]
      rw [← HG.out]
      exact st15.out _ _ _ _ _ _ _ _ _ _ _ _ _ _ _ _ _ _ _ HP.out.alloc (List.Mem.head _)
    exact AllReadyH.nil
  have st1 := Lib.hid st1'
  clear st1'
  have st4' : ∀ (u0 u1 u11 u12 u13 u14 u15 u16 u17 u18 u19 u20 u21 : Value) (W : World) (L : List Nat) (p9 : Nat), Pk w0 W L [] → p9 ∈ L → G 5 #[true, false, true, false, true, false, false, false] { tmps := #[u0, u1, .int .i64 regs, .int .i64 area, .pointer (some ⟨w.heap.size, 0, none⟩), .pointer (some ⟨w.heap.size + 1, 0, none⟩), undef, undef, .bool false, .pointer (some ⟨p9, 0, none⟩), undef, u11, u12, u13, u14, u15, u16, u17, u18, u19, u20, u21, .agg (insCells op a b c n (.slice A1 args.length C1)), undef, .agg (insCells op' a' b' c' n' (.slice A2 args'.length C2)), undef, undef, undef, undef, undef, undef, undef, undef, undef, undef, undef, undef, undef, undef, undef, undef, undef, undef, undef, undef, undef, undef, undef, undef, undef, undef, undef, undef, undef, undef, undef, undef], defers := [] } W := by
    intro u0 u1 u11 u12 u13 u14 u15 u16 u17 u18 u19 u20 u21 W L p9 hp h9
    have HP := Lib.hid hp
    clear hp
    rw [HG.out]
    refine wpAnyH_ready (rs := [1, 5]) (by kernel_rfl) (by simp) ?_
    refine AllReadyH.cons (o := { dst := some 23, op := Op.call { callee := Callee.value (Operand.func 15), args := #[Operand.tmp 22], argTypes := #[28] }, type := 28, pos := "law.go:24", after := #[{ on := 0, ground := Ground.data }], guard := none }) rfl (fun K hK => ?_) ?_
    · go_wp2_with (go_at_call 15; (with_reducible refine (HD1.out _ _ _ HP.out).mono ?_); rintro e w1 ⟨S', l', c', rfl, q, t⟩; have Q1 := Lib.hid q; clear q t)
      refine hK.out _ _ Q1.out.bel (fun _ => ?_)
      try simp only [Act.put, List.setIfInBounds_toArray, List.set_cons_zero, List.set_cons_succ]
      rw [← HG.out]
      exact st14.out _ _ _ _ _ _ _ _ _ _ _ _ _ _ _ _ _ _ _ Q1.out h9
    refine AllReadyH.cons (o := { dst := some 10, op := Op.alloc 28, type := 0, pos := "law.go:24", after := #[], guard := none }) rfl (fun K hK => ?_) ?_
    · go_simp
      refine hK.out _ _ HP.out.alloc.bel (fun _ => ?_)
      try simp only [Act.put, List.setIfInBounds_toArray, List.set_cons_zero, List.set_cons_succ]
      rw [← HG.out]
      exact st45.out _ _ _ _ _ _ _ _ _ _ _ _ _ _ _ _ _ HP.out.alloc (List.Mem.tail _ h9) (List.Mem.head _) (Nat.ne_of_lt (HP.out.facts h9).2.2)
    exact AllReadyH.nil
  have st4 := Lib.hid st4'
  clear st4'
  have st5' : ∀ (u0 u1 u11 u12 u13 u14 u15 u16 u17 u18 u19 u20 u21 : Value) (W : World) (L : List Nat) (p10 : Nat), Pk w0 W L [] → p10 ∈ L → G 5 #[true, false, true, false, false, true, false, false] { tmps := #[u0, u1, .int .i64 regs, .int .i64 area, .pointer (some ⟨w.heap.size, 0, none⟩), .pointer (some ⟨w.heap.size + 1, 0, none⟩), undef, undef, .bool false, undef, .pointer (some ⟨p10, 0, none⟩), u11, u12, u13, u14, u15, u16, u17, u18, u19, u20, u21, .agg (insCells op a b c n (.slice A1 args.length C1)), undef, .agg (insCells op' a' b' c' n' (.slice A2 args'.length C2)), undef, undef, undef, undef, undef, undef, undef, undef, undef, undef, undef, undef, undef, undef, undef, undef, undef, undef, undef, undef, undef, undef, undef, undef, undef, undef, undef, undef, undef, undef, undef, undef], defers := [] } W := by
    intro u0 u1 u11 u12 u13 u14 u15 u16 u17 u18 u19 u20 u21 W L p10 hp h10
    have HP := Lib.hid hp
    clear hp
    rw [HG.out]
    refine wpAnyH_ready (rs := [1, 4]) (by kernel_rfl) (by simp) ?_
    refine AllReadyH.cons (o := { dst := some 23, op := Op.call { callee := Callee.value (Operand.func 15), args := #[Operand.tmp 22], argTypes := #[28] }, type := 28, pos := "law.go:24", after := #[{ on := 0, ground := Ground.data }], guard := none }) rfl (fun K hK => ?_) ?_
    · go_wp2_with (go_at_call 15; (with_reducible refine (HD1.out _ _ _ HP.out).mono ?_); rintro e w1 ⟨S', l', c', rfl, q, t⟩; have Q1 := Lib.hid q; clear q t)
      refine hK.out _ _ Q1.out.bel (fun _ => ?_)
      try simp only [Act.put, List.setIfInBounds_toArray, List.set_cons_zero, List.set_cons_succ]
      rw [← HG.out]
      exact st15.out _ _ _ _ _ _ _ _ _ _ _ _ _ _ _ _ _ _ _ Q1.out h10
    refine AllReadyH.cons (o := { dst := some 9, op := Op.alloc 28, type := 0, pos := "law.go:24", after := #[], guard := none }) rfl (fun K hK => ?_) ?_
    · go_simp
      refine hK.out _ _ HP.out.alloc.bel (fun _ => ?_)
      try simp only [Act.put, List.setIfInBounds_toArray, List.set_cons_zero, List.set_cons_succ]
      rw [← HG.out]
      exact st45.out _ _ _ _ _ _ _ _ _ _ _ _ _ _ _ _ _ HP.out.alloc (List.Mem.head _) (List.Mem.tail _ h10) (Nat.ne_of_gt (HP.out.facts h10).2.2)
    exact AllReadyH.nil
  have st5 := Lib.hid st5'
  clear st5'
  have st' : ∀ (u0 u1 u11 u12 u13 u14 u15 u16 u17 u18 u19 u20 u21 : Value) (W : World) (L : List Nat), Pk w0 W L [] → G 6 #[true, false, true, false, false, false, false, false] { tmps := #[u0, u1, .int .i64 regs, .int .i64 area, .pointer (some ⟨w.heap.size, 0, none⟩), .pointer (some ⟨w.heap.size + 1, 0, none⟩), undef, undef, .bool false, undef, undef, u11, u12, u13, u14, u15, u16, u17, u18, u19, u20, u21, .agg (insCells op a b c n (.slice A1 args.length C1)), undef, .agg (insCells op' a' b' c' n' (.slice A2 args'.length C2)), undef, undef, undef, undef, undef, undef, undef, undef, undef, undef, undef, undef, undef, undef, undef, undef, undef, undef, undef, undef, undef, undef, undef, undef, undef, undef, undef, undef, undef, undef, undef, undef], defers := [] } W := by
    intro u0 u1 u11 u12 u13 u14 u15 u16 u17 u18 u19 u20 u21 W L hp
    have HP := Lib.hid hp
    clear hp
    rw [HG.out]
    refine wpAnyH_ready (rs := [1, 4, 5]) (by kernel_rfl) (by simp) ?_
    refine AllReadyH.cons (o := { dst := some 23, op := Op.call { callee := Callee.value (Operand.func 15), args := #[Operand.tmp 22], argTypes := #[28] }, type := 28, pos := "law.go:24", after := #[{ on := 0, ground := Ground.data }], guard := none }) rfl (fun K hK => ?_) ?_
    · go_wp2_with (go_at_call 15; (with_reducible refine (HD1.out _ _ _ HP.out).mono ?_); rintro e w1 ⟨S', l', c', rfl, q, t⟩; have Q1 := Lib.hid q; clear q t)
      refine hK.out _ _ Q1.out.bel (fun _ => ?_)
      try simp only [Act.put, List.setIfInBounds_toArray, List.set_cons_zero, List.set_cons_succ]
      rw [← HG.out]
      exact st1.out _ _ _ _ _ _ _ _ _ _ _ _ _ _ _ _ _ _ Q1.out
    refine AllReadyH.cons (o := { dst := some 9, op := Op.alloc 28, type := 0, pos := "law.go:24", after := #[], guard := none }) rfl (fun K hK => ?_) ?_
    · go_simp
      refine hK.out _ _ HP.out.alloc.bel (fun _ => ?_)
      try simp only [Act.put, List.setIfInBounds_toArray, List.set_cons_zero, List.set_cons_succ]
      rw [← HG.out]
      exact st4.out _ _ _ _ _ _ _ _ _ _ _ _ _ _ _ _ HP.out.alloc (List.Mem.head _)
    refine AllReadyH.cons (o := { dst := some 10, op := Op.alloc 28, type := 0, pos := "law.go:24", after := #[], guard := none }) rfl (fun K hK => ?_) ?_
    · go_simp
      refine hK.out _ _ HP.out.alloc.bel (fun _ => ?_)
      try simp only [Act.put, List.setIfInBounds_toArray, List.set_cons_zero, List.set_cons_succ]
      rw [← HG.out]
      exact st5.out _ _ _ _ _ _ _ _ _ _ _ _ _ _ _ _ HP.out.alloc (List.Mem.head _)
    exact AllReadyH.nil
  have st := Lib.hid st'
  clear st'
  exact st.out _ _ _ _ _ _ _ _ _ _ _ _ _ _ _ (Pk.start _).drew
end Go.Proofs.Ytbcfdjpnckikdaa
