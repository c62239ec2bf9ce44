/- What the statements of layer 7 share: long, SameCode, CopyCode. Contracts; no condition but what each names. -/
import Derived.Test.YtobbjphpngckgaaLaws07A
import Derived.StillTailTactics
namespace Go.Proofs.Ytobbjphpngckgaa
open Go.RowKit Go.Shelf
set_option linter.unusedVariables false
set_option linter.unusedSimpArgs false

/-- Are instructions more than are gone through? -/
def longV (l : List InsV) (m : Nat) : Bool := (l.take (m + 1)).any (fun y => decide (20 < y.args.length)) || decide (m < l.length)
theorem long_no {l : List InsV} {m : Nat} (h : longV l m = false) : l.length ≤ m ∧ ∀ y ∈ l, y.args.length ≤ 20 := by
  unfold longV at h
  rw [Bool.or_eq_false_iff] at h
  have h1 := of_decide_eq_false h.2
  refine ⟨by omega, fun y hy => ?_⟩
  rw [List.take_of_length_le (by omega), List.any_eq_false] at h
  have := h.1 y hy
  simp at this
  omega
set_option maxHeartbeats 4000000 in
theorem long_any (V : Value) (l : List InsV) (m : Nat) (w : World) (B : Nat) (h : IsCode w B V l) (hm : m ≤ 100000) : Calls Try.prog 9 #[V, .int .i64 m] w fun e w' => e = .returned (.bool (longV l m)) ∧ w = w' := by
  obtain ⟨A, cap, rfl⟩ := h.len
  have HC := Lib.hid h
  have hl := h.1
  unfold maxLen at hl
  obtain ⟨n, hn⟩ : ∃ n, n = l.length := ⟨_, rfl⟩
  have HN := Lib.hid hn
  rw [← hn] at hl HC ⊢
  have hmI : (m : Int) ≤ 100000 := by omega
  clear h hn hm
  go_enter Try.func9, Try.ntmps9
  go_wp2
  go_loop [5] (fun i => ∃ k : Nat, k ≤ n ∧ k ≤ m + 1 ∧ i = .int .i64 k ∧ Hid ((l.take k).any (fun y => decide (20 < y.args.length)) = false)) (fun i => n - (intOf i).toNat)
  case atStart => exact ⟨0, by omega, by omega, rfl, rfl⟩
  case round =>
    obtain ⟨k, hk, hkm, rfl, HA⟩ := hrel
    by_cases hlt : k < n
    · by_cases hle : k ≤ m
      · have hkl : k < l.length := by rw [← HN.out]; exact hlt
        obtain ⟨b, off, cap', hV, hcp, hbB, hcl⟩ := HC.out.plain (by omega)
        rw [← HN.out] at hV
        cases hV
        obtain ⟨X, hX, hcell⟩ := hcl k hkl
        have c5 : w.cell? ⟨b, off + k * 6 + 5, none⟩ = some X := hcell 5 (by omega)
        have HTK := Lib.hid (code_take l hkl)
        obtain ⟨XA, Xc, hXe⟩ := hX.len
        obtain ⟨y, hy⟩ : ∃ y, y = l.getD k .zero := ⟨_, rfl⟩
        rw [← hy] at hXe HTK hX
        subst hXe
        have hxl := hX.1
        unfold maxLen at hxl
        have k0 : (k : Int) < (n : Int) := by omega
        have k1 : (k : Int) ≤ (m : Int) := by omega
        clear hcell hcl hX hy hcp
        by_cases h20 : 20 < y.args.length
        · have h20I : (20 : Int) < (y.args.length : Int) := by omega
          have HL : Hid (longV l m = true) := Lib.hid (by
            unfold longV
            rw [Bool.or_eq_true]
            left
            rw [List.any_eq_true]
            refine ⟨y, ?_, by simpa using h20⟩
            have : y ∈ l.take (k + 1) := by rw [HTK.out]; simp
            exact List.take_subset_take_left l (by omega : k + 1 ≤ m + 1) this)
          clear h20
          go_wp2
          go_ret
          exact ⟨ret_bool HL.out.symm, rfl⟩
        · have h20I : ¬ (20 : Int) < (y.args.length : Int) := by omega
          have HS : Hid ((l.take (k + 1)).any (fun y => decide (20 < y.args.length)) = false) := Lib.hid (by rw [HTK.out, List.any_append, HA.out]; simpa using h20)
          clear h20
          go_wp2
          go_round
          case rel => exact ⟨k + 1, by omega, by omega, by go_num, HS⟩
          case measure => simp [intOf]; omega
      · have k0 : (k : Int) < (n : Int) := by omega
        have k1 : ¬ (k : Int) ≤ (m : Int) := by omega
        have k2 : (m : Int) < (n : Int) := by omega
        have HL : Hid (longV l m = true) := Lib.hid (by unfold longV; rw [decide_eq_true (by rw [← HN.out]; omega)]; simp)
        clear hle
        go_wp2
        go_ret
        exact ⟨ret_bool HL.out.symm, rfl⟩
    · obtain rfl : k = n := by omega
      have HL : Hid (longV l m = decide (m < k)) := Lib.hid (by
        have h1 := HA.out
        have h2 : l.take k = l := by rw [HN.out]; exact List.take_length
        rw [h2] at h1
        unfold longV
        rw [List.take_of_length_le (by rw [← HN.out]; omega), h1, ← HN.out]
        simp)
      go_wp2
      go_ret
      exact ⟨ret_bool HL.out.symm, rfl⟩
def sameY (x y : InsV) : Bool := sameV x.op x.a x.b x.c x.n x.args y.op y.a y.b y.c y.n y.args
theorem sameY_iff (x y : InsV) : sameY x y = true ↔ x = y := by
  unfold sameY sameV
  rw [decide_eq_true_iff]
  constructor
  · rintro ⟨h1, h2, h3, h4, h5, h6⟩
    cases x
    cases y
    simp_all
  · rintro rfl
    exact ⟨rfl, rfl, rfl, rfl, rfl, rfl⟩
theorem sameY_refl (x : InsV) : sameY x x = true := (sameY_iff x x).2 rfl
def sameCV : List InsV → List InsV → Bool
  | [], [] => true
  | x :: l, y :: k => sameY x y && sameCV l k
  | _, _ => false
theorem sameCV_iff : ∀ (l k : List InsV), sameCV l k = true ↔ l = k
  | [], [] => by simp [sameCV]
  | [], y :: k => by simp [sameCV]
  | x :: l, [] => by simp [sameCV]
  | x :: l, y :: k => by simp [sameCV, sameY_iff, sameCV_iff l k]
theorem sameCV_false {l k : List InsV} (h : l ≠ k) : sameCV l k = false := by
  cases hh : sameCV l k
  · rfl
  · exact absurd ((sameCV_iff l k).1 hh) h
theorem take_same {l m : List InsV} {k : Nat} (hl : l.length = m.length) (hk : l.length ≤ k) (h : ∀ i, i < k → l.getD i .zero = m.getD i .zero) : l = m := by
  refine List.ext_getElem hl fun i h1 h2 => ?_
  have := h i (by omega)
  simpa [List.getD, List.getElem?_eq_getElem h1, List.getElem?_eq_getElem h2] using this
set_option maxRecDepth 100000 in
set_option maxHeartbeats 4000000 in
theorem sameCode_any (V U : Value) (l m : List InsV) (w : World) (hV : IsCode w w.heap.size V l) (hU : IsCode w w.heap.size U m) : Calls Try.prog 20 #[V, U] w (Makes w (.bool (sameCV l m))) := by
  obtain ⟨A, cap, rfl⟩ := hV.len
  obtain ⟨A2, cap2, rfl⟩ := hU.len
  have hl1 := hV.1
  have hl2 := hU.1
  unfold maxLen at hl1 hl2
  by_cases hne : l.length = m.length
  · obtain ⟨n, hn⟩ : ∃ n, n = l.length := ⟨_, rfl⟩
    have HN := Lib.hid hn
    have HN2 := Lib.hid (hn.trans hne)
    have HV := Lib.hid hV
    have HU := Lib.hid hU
    rw [← hn] at HV hl1 ⊢
    rw [← hne, ← hn] at HU hl2 ⊢
    clear hV hU hne hn hl2
    go_enter Try.func20, Try.ntmps20
    go_wp2
    go_loopw [5] (fun i wr => ∃ k : Nat, k ≤ n ∧ i = .int .i64 k ∧ Hid ((∀ i, i < k → l.getD i .zero = m.getD i .zero) ∧ Below w.heap.size w wr)) (fun i _ => n - (intOf i).toNat)
    case atStart => exact ⟨0, by omega, rfl, ⟨fun i hi => by omega, Below.refl _ _⟩⟩
    case round =>
      obtain ⟨k, hk, rfl, HR⟩ := hrel
      obtain ⟨hs, hb⟩ := HR.out
      have HS := Lib.hid hs
      have HB := Lib.hid hb
      clear hs HR
      by_cases hlt : k < n
      · obtain ⟨b1, o1, cp1, hV, _, hb1, hcl1⟩ := HV.out.plain (by rw [← HN.out]; omega)
        obtain ⟨b2, o2, cp2, hU, _, hb2, hcl2⟩ := HU.out.plain (by rw [← HN2.out]; omega)
        rw [← HN.out] at hV hcl1
        rw [← HN2.out] at hU hcl2
        cases hV
        cases hU
        obtain ⟨X1, hX1, hc1⟩ := hcl1 k hlt
        obtain ⟨X2, hX2, hc2⟩ := hcl2 k hlt
        have hc1' : ∀ j, j < 6 → wr.cell? ⟨b1, o1 + k * 6 + j, none⟩ = some (insCell (l.getD k .zero) X1 j) := fun j hj => (hb.cell (p := ⟨b1, o1 + k * 6 + j, none⟩) hb1).trans (hc1 j hj)
        have hc2' : ∀ j, j < 6 → wr.cell? ⟨b2, o2 + k * 6 + j, none⟩ = some (insCell (m.getD k .zero) X2 j) := fun j hj => (hb.cell (p := ⟨b2, o2 + k * 6 + j, none⟩) hb2).trans (hc2 j hj)
        have hXa := (hX1.below hb (Nat.le_refl _)).more hb.size
        have hXb := (hX2.below hb (Nat.le_refl _)).more hb.size
        obtain ⟨x, hx⟩ : ∃ x, x = l.getD k .zero := ⟨_, rfl⟩
        obtain ⟨y, hy⟩ : ∃ y, y = m.getD k .zero := ⟨_, rfl⟩
        rw [← hx] at hc1' hXa
        rw [← hy] at hc2' hXb
        have HX := Lib.hid hx
        have HY := Lib.hid hy
        have c0 : wr.cell? ⟨b1, o1 + k * 6, none⟩ = some (.int .i64 x.op) := hc1' 0 (by omega)
        have c1 : wr.cell? ⟨b1, o1 + k * 6 + 1, none⟩ = some (.int .i64 x.a) := hc1' 1 (by omega)
        have c2 : wr.cell? ⟨b1, o1 + k * 6 + 2, none⟩ = some (.int .i64 x.b) := hc1' 2 (by omega)
        have c3 : wr.cell? ⟨b1, o1 + k * 6 + 3, none⟩ = some (.int .i64 x.c) := hc1' 3 (by omega)
        have c4 : wr.cell? ⟨b1, o1 + k * 6 + 4, none⟩ = some (.int .i64 x.n) := hc1' 4 (by omega)
        have c5 : wr.cell? ⟨b1, o1 + k * 6 + 5, none⟩ = some X1 := hc1' 5 (by omega)
        have d0 : wr.cell? ⟨b2, o2 + k * 6, none⟩ = some (.int .i64 y.op) := hc2' 0 (by omega)
        have d1 : wr.cell? ⟨b2, o2 + k * 6 + 1, none⟩ = some (.int .i64 y.a) := hc2' 1 (by omega)
        have d2 : wr.cell? ⟨b2, o2 + k * 6 + 2, none⟩ = some (.int .i64 y.b) := hc2' 2 (by omega)
        have d3 : wr.cell? ⟨b2, o2 + k * 6 + 3, none⟩ = some (.int .i64 y.c) := hc2' 3 (by omega)
        have d4 : wr.cell? ⟨b2, o2 + k * 6 + 4, none⟩ = some (.int .i64 y.n) := hc2' 4 (by omega)
        have d5 : wr.cell? ⟨b2, o2 + k * 6 + 5, none⟩ = some X2 := hc2' 5 (by omega)
        have k0 : (k : Int) < (n : Int) := by omega
        have HSm := Lib.hid (sameIns_any x.op x.a x.b x.c x.n X1 x.args y.op y.a y.b y.c y.n X2 y.args (wr.drewN 1) (nums_drew hXa) (nums_drew hXb))
        obtain ⟨XA, xc, rfl⟩ := hXa.len
        obtain ⟨YA, yc, rfl⟩ := hXb.len
        clear hcl1 hcl2 hX1 hX2 hc1 hc2 hc1' hc2' hXa hXb hx hy hb
        by_cases hxy : x = y
        · have hsv : sameV x.op x.a x.b x.c x.n x.args y.op y.a y.b y.c y.n y.args = true := (sameY_iff x y).2 hxy
          rw [hsv] at HSm
          have HXY := Lib.hid hxy
          clear hsv hxy
          go_wp2
          go_still_tail 8, (by kernel_rfl)
          go_wp2_with (go_at_call 26; refine HSm.out.mono ?_; rintro e w2 ⟨rfl, hb⟩; have HB2 := Lib.hid ((below_drewN HB.out 1).trans (hb.mono (by have := HB.out.size; exact this))); clear hb)
          go_roundw
          case rel => exact ⟨k + 1, by omega, by go_num, ⟨fun i hi => by
            by_cases e : i < k
            · exact HS.out i e
            · obtain rfl : i = k := by omega
              rw [← HX.out, ← HY.out]
              exact HXY.out, HB2.out⟩⟩
          case measure => simp [intOf]; omega
        · have hsv : sameV x.op x.a x.b x.c x.n x.args y.op y.a y.b y.c y.n y.args = false := by
            cases hh : sameV x.op x.a x.b x.c x.n x.args y.op y.a y.b y.c y.n y.args
            · rfl
            · exact absurd ((sameY_iff x y).1 hh) hxy
          rw [hsv] at HSm
          have HF : Hid (sameCV l m = false) := Lib.hid (sameCV_false (fun e => hxy (by rw [HX.out, HY.out, e])))
          clear hsv hxy
          go_wp2
          go_still_tail 8, (by kernel_rfl)
          go_wp2_with (go_at_call 26; refine HSm.out.mono ?_; rintro e w2 ⟨rfl, hb⟩; have HB2 := Lib.hid ((below_drewN HB.out 1).trans (hb.mono (by have := HB.out.size; exact this))); clear hb)
          go_ret
          exact ⟨ret_bool HF.out.symm, HB2.out⟩
      · obtain rfl : k = n := by omega
        have HT : Hid (sameCV l m = true) := Lib.hid ((sameCV_iff l m).2 (take_same (by rw [← HN.out, ← HN2.out]) (by rw [← HN.out]; exact Nat.le_refl _) HS.out))
        clear hb
        go_wp2
        go_ret
        exact ⟨ret_bool HT.out.symm, HB.out⟩
  · have HF : Hid (sameCV l m = false) := Lib.hid (sameCV_false (fun e => hne (by rw [e])))
    have hne1 : ¬ (l.length : Int) = (m.length : Int) := by omega
    have hneb : ((l.length : Int) != (m.length : Int)) = true := by simpa using hne1
    clear hV hU hne hne1
    go_enter Try.func20, Try.ntmps20
    go_wp2
    go_ret
    exact ⟨ret_bool HF.out.symm, Below.refl _ _⟩
end Go.Proofs.Ytobbjphpngckgaa
