/- Lemmas of Flow10A, Flow10B, Flow10C, Flow10D, Flow10E, Flow10F, each with its own remark. -/
import Derived.Test.YtfdblmjgpoocpaaGreatS16
import Derived.Test.YtfdblmjgpoocpaaGreatS15
import Derived.Deep.RegionLaw
import Derived.Deep.LoopGhost
/- (Flow10A) The landed numbersOfPlaces. Contract; no condition but that the bytes are those of instructions that can be put. -/
namespace Go.Proofs.YtfdblmjgpoocpaaGreat
open Go.RowKit
set_option linter.unusedVariables false
set_option linter.unusedSimpArgs false

theorem make_map (n : Int) (w : World) : (Instr.makeMap 92 (some (.int .i64 n))).run Tryz.prog w = .ok (.map (some w.heap.size)) (w.alloc (.map #[] 0)) := by kernel_rfl
/-- The number of a place, if it is one. -/
def lookV (ps : List Int) (t : Int) : Option Int := if atV ps t < 0 then none else some (atV ps t)
theorem look_next (l : List InsV) {k : Nat} (hk : k < l.length) : (fun j => if j = (placesV l 0).getD k 0 then some (k : Int) else lookV ((placesV l 0).take k) j) = lookV ((placesV l 0).take (k + 1)) := by
  have hk' : k < (placesV l 0).length := by rw [placesV_length]; exact hk
  have e : (placesV l 0).take (k + 1) = (placesV l 0).take k ++ [(placesV l 0).getD k 0] := by
    rw [List.take_add_one, List.getElem?_eq_getElem hk']
    simp [List.getD, List.getElem?_eq_getElem hk']
  have hlen : ((placesV l 0).take k).length = k := by simp; omega
  funext j
  unfold lookV
  rw [e, atV_snoc, hlen]
  by_cases h : j = (placesV l 0).getD k 0
  · rw [if_pos h]
    have h0 : atV ((placesV l 0).take k) j < 0 := by
      rcases Int.lt_or_le (atV ((placesV l 0).take k) j) 0 with h1 | h1
      · exact h1
      · obtain ⟨i, hi⟩ : ∃ i : Nat, atV ((placesV l 0).take k) j = i := ⟨_, (Int.toNat_of_nonneg h1).symm⟩
        have h2 := atV_some hi
        rw [hlen] at h2
        have h3 : ((placesV l 0).take k).getD i 0 = (placesV l 0).getD i 0 := by
          simp [List.getD, List.getElem?_take, h2.1]
        rw [h3, h] at h2
        have := places_inj l (by omega) hk h2.2
        omega
    rw [if_pos h0, if_pos h.symm, if_neg (by omega)]
  · rw [if_neg h]
    by_cases h0 : atV ((placesV l 0).take k) j < 0
    · rw [if_pos h0, if_pos h0, if_neg (show ¬ (placesV l 0).getD k 0 = j from fun hc => h hc.symm), if_pos (show (-1 : Int) < 0 by decide)]
    · rw [if_neg h0, if_neg h0, if_neg h0]
def NumbersDone (w : World) (ps : List Int) (e : Ending) (w' : World) : Prop :=
  Below w.heap.size w w' ∧ ∃ lb n, e = .returned (.map (some lb)) ∧ w.heap.size ≤ lb ∧ Labs w' lb n (lookV ps)
theorem ini_nat {k : Nat} (h : k ≤ 100000) : InI (k : Int) := ⟨by omega, by omega⟩
theorem place_ini {l : List InsV} (h : joinE l = 0) {k : Nat} (hk : k < l.length) : 0 ≤ (placesV l 0).getD k 0 ∧ (placesV l 0).getD k 0 ≤ 4096 := by
  have h1 := (first_all h).2
  have h2 : (allB (l.take k)).length ≤ (allB l).length := by
    have : allB l = allB (l.take k) ++ allB (l.drop k) := by unfold allB; rw [← List.flatMap_append, List.take_append_drop]
    rw [this, List.length_append]
    omega
  rw [placesV_at l 0 hk]
  omega
set_option maxRecDepth 100000 in
set_option maxHeartbeats 4000000 in
theorem numbers_any (X : Value) (l : List InsV) (w : World) (hX : IsBytes w w.heap.size X (allB l)) (hj : joinE l = 0) :
    Calls Tryz.prog 54 #[X] w (NumbersDone w (placesV l 0)) := by
  have hs := split7_any X (allB l) w hX
  rw [split_join hj] at hs
  have hln : l.length ≤ 4096 := by have := all_length l; have := (first_all hj).2; omega
  have HP := Lib.hid (fun k hk => place_ini (k := k) hj hk)
  obtain ⟨ps, hps⟩ : ∃ ps, ps = placesV l 0 := ⟨_, rfl⟩
  obtain ⟨n, hn⟩ : ∃ n, n = l.length := ⟨_, rfl⟩
  have hpl : ps.length = n := by rw [hps, placesV_length, hn]
  have HNX := Lib.hid (fun k hk => look_next l (k := k) hk)
  rw [← hps] at hs HP HNX ⊢
  rw [← hn] at hln HP HNX
  have HS := Lib.hid hs
  have HPL := Lib.hid hpl
  clear hs hX hj hps hn
  have hmm := make_map
  have HLN := Lib.hid hln
  have hln' : (n : Int) ≤ 4096 := by omega
  go_enter Tryz.func54, Tryz.ntmps54
  go_wp2_with (go_at_call 77; (with_reducible refine HS.out.mono ?_); rintro e w1 ⟨hb, ⟨hbad, _⟩ | ⟨_, V1, P1, Xs1, rfl, hc, hp⟩⟩; exact absurd rfl hbad; dsimp only at hc hp; obtain ⟨pA, pc, hpe⟩ := owns_len hp; rw [HPL.out] at hpe; have hp1 := IsNums.of_owns hp (Nat.le_refl _); rw [hpe] at hp1; subst hpe; have HB1 := Lib.hid hb; have HP1 := Lib.hid hp1; clear hb hc hp hp1)
  obtain ⟨W1, hW1⟩ : ∃ W1, W1 = (w1.alloc (.cells #[.int .i64 0, .int .i64 0] 115)).alloc (.map #[] 0) := ⟨_, rfl⟩
  have hbw : Below w.heap.size w W1 := by rw [hW1]; exact (HB1.out.alloc HB1.out.size _).alloc (by have := HB1.out.size; simp; omega) _
  have hb1w : Below w1.heap.size w1 W1 := by rw [hW1]; exact ((Below.refl _ _).alloc (Nat.le_refl _) _).alloc (by simp) _
  have hlab : Labs W1 (w1.heap.size + 1) 0 (fun _ => none) := by
    have := Labs.made (w1.alloc (.cells #[.int .i64 0, .int .i64 0] 115))
    rw [← hW1] at this
    simpa using this
  have HBW := Lib.hid hbw
  have HPW := Lib.hid ((HP1.out.below hb1w (Nat.le_refl _)).more (Nat.le_succ _))
  have HLB := Lib.hid hlab
  have HSZ := Lib.hid (show w.heap.size ≤ w1.heap.size + 1 by have := HB1.out.size; omega)
  have HW1 := Lib.hid hW1
  have HS1 := Lib.hid (show w1.heap.size + 1 ≤ W1.heap.size by rw [hW1]; simp)
  clear hbw hb1w hlab
  go_loopw [20] (fun i wr => ∃ k : Nat, k ≤ n ∧ i = .int .i64 k ∧ Hid (Labs wr (w1.heap.size + 1) k (lookV (ps.take k)) ∧ But (OneBlock (w1.heap.size + 1)) W1 wr)) (fun i _ => n - (intOf i).toNat)
  case atStart => exact ⟨0, by omega, rfl, ⟨by rw [← hW1, List.take_zero, show lookV [] = fun _ => none from by funext t; simp [lookV, atV]]; exact HLB.out, by rw [← hW1]; exact But.refl _ _⟩⟩
  case round =>
    clear hW1
    obtain ⟨k, hk, rfl, HR⟩ := hrel
    obtain ⟨hl, hb⟩ := HR.out
    have HL := Lib.hid hl
    have HB := Lib.hid hb
    clear HR hl hb
    by_cases hlt : k < n
    · have hpw := HPW.out.but HB.out HS1.out (fun j hj hc => absurd (show j = w1.heap.size + 1 from hc) (by omega))
      obtain ⟨b, off, cap', hV, _, hbB, hcl⟩ := hpw.plain (by rw [HPL.out]; omega)
      rw [HPL.out] at hV
      cases hV
      have hcell := hcl k (by rw [HPL.out]; exact hlt)
      have hbd := HP.out k hlt
      have HIN := Lib.hid (show InI (ps.getD k 0) from ⟨by omega, by omega⟩)
      have HIK := Lib.hid (ini_nat (k := k) (by omega))
      have HMX := Lib.hid (show k < maxLen by unfold maxLen; omega)
      have HN1 := Lib.hid (HNX.out k hlt)
      generalize ps.getD k 0 = pk at *
      have k0 : (0 : Int) ≤ (k : Int) := by omega
      have k1 : (k : Int) < (n : Int) := by omega
      clear hcl hpw hbd hbB
      go_wp2_with (at_mapUpdate; refine labs_put _ rfl _ _ _ rfl rfl HL.out HMX.out rfl rfl HIN.out HIK.out ?_; intro w2 hl2 hb2; have HL2 := Lib.hid hl2; have HB2 := Lib.hid (HB.out.trans hb2); clear hl2 hb2)
      go_roundw
      case rel => exact ⟨k + 1, by omega, by go_num, ⟨by rw [← HN1.out]; exact HL2.out, HB2.out⟩⟩
      case measure => simp [intOf]; omega
    · obtain rfl : k = n := by omega
      have htk : ps.take k = ps := by rw [← HPL.out]; exact List.take_length
      have HTK := Lib.hid htk
      clear htk
      go_wp2
      go_ret
      exact ⟨But.below HBW.out HB.out HBW.out.size (fun j hj => by rw [show j = w1.heap.size + 1 from hj]; exact HSZ.out), _, _, rfl, HSZ.out, by have := HL.out; rw [HTK.out] at this; exact this⟩
end Go.Proofs.YtfdblmjgpoocpaaGreat

/- (Flow10B) The landed targets and Check. Contracts; no condition but that the instructions lie in a row. -/
namespace Go.Proofs.YtfdblmjgpoocpaaGreat
open Go.RowKit
set_option linter.unusedVariables false
set_option linter.unusedSimpArgs false

theorem check_join {l : List InsV} (h : joinE l ≠ 0) : check10 l = joinE l := by unfold check10; rw [if_pos h]
theorem check_none {l : List InsV} (h : joinE l = 0) (h0 : l.length = 0) : check10 l = 10 := by unfold check10; rw [if_neg (not_not_intro h), if_pos h0]
theorem check_stray {l : List InsV} (h : joinE l = 0) {k : Nat} (hk : k < l.length) (hs : strayB (placesV l 0) (l.getD k .zero) = true) : check10 l = 13 := by
  unfold check10
  rw [if_neg (not_not_intro h), if_neg (by omega), if_pos]
  rw [List.any_eq_true]
  exact ⟨l.getD k .zero, by simp [List.getD, List.getElem?_eq_getElem hk], hs⟩
theorem check_rest {l : List InsV} (h : joinE l = 0) (h0 : 0 < l.length) (hs : ∀ k, k < l.length → strayB (placesV l 0) (l.getD k .zero) = false) : check10 l = if flsV (lastV l) then 10 else 0 := by
  unfold check10
  rw [if_neg (not_not_intro h), if_neg (by omega), if_neg]
  intro hc
  obtain ⟨y, hy, hb⟩ := List.any_eq_true.1 hc
  obtain ⟨k, hk, rfl⟩ := List.getElem_of_mem hy
  have := hs k hk
  have e : l.getD k .zero = l[k] := by simp [List.getD, List.getElem?_eq_getElem hk]
  rw [e, hb] at this
  cases this
theorem tgt_in {y : InsV} (h : InI y.n) : InI (tgtV y) := by
  rw [tgt_has]
  split
  · exact h
  · exact ⟨by decide, by decide⟩
theorem out_row {w : World} {base g n : Nat} {f : Nat → Int} {xs : List Int} (hg : base ≤ g) (h : RowAt w g n 3 (fun i => .int .i64 (f i))) (hn : n ≤ maxLen) (hl : xs.length = n) (hx : ∀ i, i < n → xs.getD i 0 = f i) : OutN base w (.slice (some ⟨g, 0, none⟩) n n) xs := by
  obtain ⟨cur, h1, h2, h3⟩ := h
  have e : cur.toList = xs.map (Value.int .i64) := by
    apply List.ext_getElem?
    intro i
    rw [Array.getElem?_toList, List.getElem?_map]
    rcases Nat.lt_or_ge i n with hi | hi
    · rw [h3 i hi, List.getElem?_eq_getElem (by omega)]
      show some (Value.int .i64 (f i)) = _
      rw [← hx i hi]
      simp [List.getD, List.getElem?_eq_getElem (show i < xs.length by omega)]
    · rw [Array.getElem?_eq_none (by omega), List.getElem?_eq_none (by omega)]
      rfl
  have := OutN.of_block (cap := n) (ys := xs) hg h1 (by omega) hn h2 (by rw [e]; exact List.take_of_length_le (by simp)) (by rw [e]; exact num_cells _ _)
  rwa [hl] at this
def TargetsN (w : World) (l : List InsV) (n : Nat) (e : Ending) (w' : World) : Prop :=
  Below w.heap.size w w' ∧ ((check10 l ≠ 0 ∧ e = .returned (.tuple #[.slice none 0 0, .int .i64 (check10 l)])) ∨
    (check10 l = 0 ∧ ∃ g, e = .returned (.tuple #[.slice (some ⟨g, 0, none⟩) n n, .int .i64 0]) ∧ OutN w.heap.size w' (.slice (some ⟨g, 0, none⟩) n n) (goalsV l)))
def TargetsDone (w : World) (l : List InsV) (e : Ending) (w' : World) : Prop := TargetsN w l l.length e w'
theorem targets_bad {w w' : World} {l : List InsV} {n : Nat} {z : Int} (h : check10 l = z) (h0 : z ≠ 0) (hb : Below w.heap.size w w') : TargetsN w l n (.returned (.tuple #[.slice none 0 0, .int .i64 z])) w' :=
  ⟨hb, .inl ⟨by rw [h]; exact h0, by rw [h]⟩⟩
/-- What targets has in memory. -/
structure TarAt (w W2 wr : World) (lb gb n k : Nat) (l : List InsV) : Prop where
  but : But (OneBlock gb) W2 wr
  row : RowAt wr gb n 3 (fun i => .int .i64 (if i < k then goalV (placesV l 0) (l.getD i .zero) else 0))
  ok : ∀ i, i < k → strayB (placesV l 0) (l.getD i .zero) = false
set_option maxRecDepth 100000 in
set_option maxHeartbeats 16000000 in
theorem targets_any (V : Value) (l : List InsV) (w : World) (h : IsCode w w.heap.size V l) : Calls Tryz.prog 34 #[V] w (TargetsDone w l) := by
  have HJ := Lib.hid (join7_any V l w h)
  obtain ⟨A, cap, rfl⟩ := h.len
  by_cases hj : joinE l = 0
  case neg =>
    have HC := Lib.hid (check_join hj)
    have HJ2 := Lib.hid (HJ.out.mono fun e w' hh => hh.resolve_right (fun h => hj h.1))
    have HN := Lib.hid hj
    have hne : (joinE l != 0) = true := by simpa using hj
    generalize joinE l = z at *
    clear h hj HJ
    go_enter Tryz.func34, Tryz.ntmps34
    go_wp2_with (go_at_call 53; (with_reducible refine HJ2.out.mono ?_); rintro e w1 ⟨_, rfl, hb⟩; have HB1 := Lib.hid hb; clear hb)
    go_ret2
    exact targets_bad HC.out HN.out HB1.out
  case pos =>
    have HJ2 := Lib.hid (HJ.out.mono fun e w' hh => (hh.resolve_left (fun h => h.1 hj)).2)
    clear HJ
    by_cases h0 : l.length = 0
    · have HC := Lib.hid (check_none hj h0)
      rw [h0] at HJ2 ⊢
      clear h
      go_enter Tryz.func34, Tryz.ntmps34
      go_wp2_with (go_at_call 53; (with_reducible refine HJ2.out.mono ?_); rintro e w1 ⟨v, rfl, ho⟩; obtain ⟨bA, bc, hvb⟩ := owns_len ho.own; subst hvb; have HB1 := Lib.hid ho.bel; clear ho)
      go_ret2
      exact targets_bad HC.out (by decide) HB1.out
    · have hln : l.length ≤ 4096 := by have := all_length l; have := (first_all hj).2; omega
      have hbd : ∀ x ∈ allB l, 0 ≤ x ∧ x < 256 := by
        intro x hx
        obtain ⟨y, _, hy⟩ := List.mem_flatMap.1 hx
        exact y.bytes_bd x hy
      have HNB := Lib.hid (fun X W hX => numbers_any X l W hX hj)
      have HC := Lib.hid h
      have HIN := Lib.hid h.2.1
      have HST := Lib.hid (fun k hk hs => check_stray hj (k := k) hk hs)
      have HRE := Lib.hid (fun hs => check_rest hj (by omega) hs)
      have HBD := Lib.hid hbd
      obtain ⟨n, hn⟩ : ∃ n, n = l.length := ⟨_, rfl⟩
      have HN := Lib.hid hn
      have hmk := make_ints n (by omega)
      have HMI := Lib.hid (fun W => ints_made n W)
      show Calls _ _ _ _ (TargetsN w l l.length)
      rw [← hn] at HC HJ2 hln h0 HST HRE ⊢
      have hn0 : 0 < n := by omega
      have hn0' : ((n : Int) == 0) = false := by simpa using (by omega : ¬ (n : Int) = 0)
      have hn1 : (n : Int) ≤ 4096 := by omega
      have hn2 : (0 : Int) < (n : Int) := by omega
      have HLN := Lib.hid hln
      clear h hj hn hbd
      generalize madeCells (Value.int .i64 0).cells (n * 1) = mi at *
      go_enter Tryz.func34, Tryz.ntmps34
      go_wp2_with (first
        | (go_at_call 53; go_loud ((with_reducible refine HJ2.out.mono ?_); rintro e w1 ⟨v, rfl, ho⟩; obtain ⟨bA, bc, hvb⟩ := owns_len ho.own; subst hvb; have HB1 := Lib.hid ho.bel; have HX1 := Lib.hid (ho.bytes HBD.out (Nat.le_refl _)); clear ho))
        | (go_at_call 54; (with_reducible refine (HNB.out _ _ HX1.out).mono ?_); rintro e w2 ⟨hb, lb, m, rfl, hlb, hlab⟩; have HB2 := Lib.hid (HB1.out.trans (hb.mono HB1.out.size)); have HL2 := Lib.hid hlab; have HLB := Lib.hid (Nat.le_trans HB1.out.size hlb); clear hb hlb hlab))
      obtain ⟨W2, hW2⟩ : ∃ W2, W2 = w2.alloc (.cells mi 3) := ⟨_, rfl⟩
      have HMK := Lib.hid (HMI.out w2)
      rw [← hW2] at HMK
      have hb2 : Below w2.heap.size w2 W2 := by rw [hW2]; exact (Below.refl _ _).alloc (Nat.le_refl _) _
      have HBW := Lib.hid (HB2.out.trans (hb2.mono HB2.out.size))
      have HLW := Lib.hid (HL2.out.below hb2 HL2.out.lt)
      have HLT := Lib.hid HL2.out.lt
      have HGB := Lib.hid HB2.out.size
      have HCW := Lib.hid ((HC.out.below HBW.out (Nat.le_refl _) (Nat.le_refl _)))
      have HWL := Lib.hid (show w2.heap.size < W2.heap.size by rw [hW2]; simp)
      clear hb2 HL2
      go_loopw [31] (fun i wr => ∃ k : Nat, k ≤ n ∧ i = .int .i64 k ∧ Hid (TarAt w W2 wr lb w2.heap.size n k l)) (fun i _ => n - (intOf i).toNat)
      case atStart => exact ⟨0, by omega, rfl, ⟨by rw [← hW2]; exact But.refl _ _, by rw [← hW2]; exact HMK.out.congr fun i hi => by simp [intsV], fun i hi => absurd hi (by omega)⟩⟩
      case round =>
        clear hW2
        obtain ⟨k, hk, rfl, HR⟩ := hrel
        have hcw : IsCode wr w.heap.size (.slice A n cap) l := HCW.out.but HR.out.but (Nat.le_trans HGB.out (Nat.le_of_lt HWL.out)) (fun j hj hc => by rw [show j = w2.heap.size from hc] at hj; have := HGB.out; omega)
        have HCR := Lib.hid hcw
        obtain ⟨b, off, cap', hV, hcp, hbB, hcl⟩ := hcw.plain (by rw [← HN.out]; omega)
        rw [← HN.out] at hV
        cases hV
        clear hcw hcp
        by_cases hlt : k < n
        · have hkl : k < l.length := by rw [← HN.out]; exact hlt
          obtain ⟨X, hX, hcell⟩ := hcl k hkl
          have hin := code_getD HC.out hkl
          obtain ⟨⟨op, a, b1, c, n1, args⟩, hy⟩ : ∃ y, y = l.getD k .zero := ⟨_, rfl⟩
          have HY := Lib.hid hy
          rw [← hy] at hX hcell hin
          have c0 : wr.cell? ⟨b, off + k * 6, none⟩ = some (.int .i64 op) := hcell 0 (by omega)
          have c1 : wr.cell? ⟨b, off + k * 6 + 1, none⟩ = some (.int .i64 a) := hcell 1 (by omega)
          have c2 : wr.cell? ⟨b, off + k * 6 + 2, none⟩ = some (.int .i64 b1) := hcell 2 (by omega)
          have c3 : wr.cell? ⟨b, off + k * 6 + 3, none⟩ = some (.int .i64 c) := hcell 3 (by omega)
          have c4 : wr.cell? ⟨b, off + k * 6 + 4, none⟩ = some (.int .i64 n1) := hcell 4 (by omega)
          have c5 : wr.cell? ⟨b, off + k * 6 + 5, none⟩ = some X := hcell 5 (by omega)
          have g0 := HR.out.row.cell hlt
          have g1 := HR.out.row.frozen k
          rw [if_neg (Nat.lt_irrefl k)] at g0
          dsimp only at hX
          obtain ⟨XA, Xc, rfl⟩ := hX.len
          have hgw : w2.heap.size < wr.heap.size := by have := HR.out.but.size; have := HWL.out; omega
          have k0 : (0 : Int) ≤ (k : Int) := by omega
          have k1 : (k : Int) < (n : Int) := by omega
          -- the world when Target is called
          obtain ⟨W3, hW3⟩ : ∃ W3, W3 = (wr.setCell ⟨w2.heap.size, k, none⟩ (.int .i64 (-1))).alloc (.cells #[.int .i64 op, .int .i64 a, .int .i64 b1, .int .i64 c, .int .i64 n1, .slice XA args.length Xc] 37) := ⟨_, rfl⟩
          have hbut3 : But (OneBlock w2.heap.size) W2 W3 := by rw [hW3]; exact (HR.out.but.setCell (p := ⟨w2.heap.size, k, none⟩) (.inl rfl) _).alloc _
          have hrow3 : RowAt W3 w2.heap.size n 3 (fun i => if i = k then .int .i64 (-1) else .int .i64 (if i < k then goalV (placesV l 0) (l.getD i .zero) else 0)) := by
            have := HR.out.row.set k (.int .i64 (-1))
            rw [hW3]
            exact this.below ((Below.refl (wr.setCell ⟨w2.heap.size, k, none⟩ (.int .i64 (-1))).heap.size _).alloc (Nat.le_refl _) _) this.lt
          have hX3 : IsNums .i64 W3 W3.heap.size (.slice XA args.length Xc) args := by
            have := (hX.but (w' := W3) (R := OneBlock w2.heap.size) (by rw [hW3]; exact ((But.refl (OneBlock w2.heap.size) wr).setCell (p := ⟨w2.heap.size, k, none⟩) (.inl rfl) _).alloc _) (by have := HR.out.but.size; have := HGB.out; have := HWL.out; omega) (fun j hj hc => by rw [show j = w2.heap.size from hc] at hj; have := HGB.out; omega))
            exact this.more (by have := hbut3.size; have := HGB.out; have := HWL.out; omega)
          have HT := Lib.hid (target_any op a b1 c n1 (.slice XA args.length Xc) args W3 hX3)
          have HTE : Hid (firstV 116 (itemsOf (shapeI op) a b1 c n1 args) = tgtV ⟨op, a, b1, c, n1, args⟩) := Lib.hid rfl
          rw [HTE.out] at HT
          have HI := Lib.hid (tgt_in (y := ⟨op, a, b1, c, n1, args⟩) hin.n)
          have HB3 := Lib.hid hbut3
          have HR3 := Lib.hid hrow3
          have HSB : Hid (strayB (placesV l 0) ⟨op, a, b1, c, n1, args⟩ = decide (0 ≤ tgtV ⟨op, a, b1, c, n1, args⟩ ∧ atV (placesV l 0) (tgtV ⟨op, a, b1, c, n1, args⟩) < 0)) := Lib.hid rfl
          have HGO : Hid (goalV (placesV l 0) ⟨op, a, b1, c, n1, args⟩ = if 0 ≤ tgtV ⟨op, a, b1, c, n1, args⟩ then atV (placesV l 0) (tgtV ⟨op, a, b1, c, n1, args⟩) else -1) := Lib.hid rfl
          generalize tgtV ⟨op, a, b1, c, n1, args⟩ = t at *
          have HW3 := Lib.hid hW3
          clear hcell hX hcl hin hy hbut3 hrow3 hX3 HTE
          by_cases ht : 0 ≤ t
          · have ht' : (0 : Int) ≤ t := ht
            have hlk : ∀ W, Below W3.heap.size W3 W → (Instr.lookup 92 (.map (some lb)) (.int .i64 t) true).run Tryz.prog W = .ok (.tuple #[.int .i64 ((lookV (placesV l 0) t).getD 0), .bool (lookV (placesV l 0) t).isSome]) W := fun W hb =>
              ((HLW.out.but HB3.out (fun hc => by have : lb = w2.heap.size := hc; have := HLT.out; omega)).below hb (by have := HB3.out.size; have := HLT.out; have := HWL.out; omega)).look_ok HI.out
            have HLK := Lib.hid hlk
            clear hlk
            by_cases hat : atV (placesV l 0) t < 0
            · have el : lookV (placesV l 0) t = none := by unfold lookV; rw [if_pos hat]
              rw [el] at HLK
              have HE := Lib.hid (HST.out k (by exact hlt) (by rw [← HY.out, HSB.out]; exact decide_eq_true ⟨ht, hat⟩))
              clear hat el
              go_wp2_with (go_at_call 55; rw [← hW3]; (with_reducible refine HT.out.mono ?_); rintro e w4 ⟨rfl, hb⟩; have lk := HLK.out w4 hb; have HB4 := Lib.hid (HB3.out.trans (But.of_below hb)); clear hb)
              go_ret2
              exact targets_bad HE.out (by decide) (But.below HBW.out HB4.out HBW.out.size (fun j hj => by rw [show j = w2.heap.size from hj]; exact HGB.out))
            · have el : lookV (placesV l 0) t = some (atV (placesV l 0) t) := by unfold lookV; rw [if_neg hat]
              rw [el] at HLK
              have HS0 := Lib.hid (show strayB (placesV l 0) ⟨op, a, b1, c, n1, args⟩ = false by rw [HSB.out]; exact decide_eq_false (fun hc => hat hc.2))
              have HG0 := Lib.hid (show goalV (placesV l 0) ⟨op, a, b1, c, n1, args⟩ = atV (placesV l 0) t by rw [HGO.out, if_pos ht])
              generalize atV (placesV l 0) t = q at *
              clear hat el
              go_wp2_with (go_at_call 55; rw [← hW3]; (with_reducible refine HT.out.mono ?_); rintro e w4 ⟨rfl, hb⟩; have lk := HLK.out w4 hb; have HR4 := Lib.hid (HR3.out.below hb HR3.out.lt); have g2 := HR4.out.cell hlt; have g3 := HR4.out.frozen k; rw [if_pos rfl] at g2; have HB4 := Lib.hid (HB3.out.trans (But.of_below hb)); clear hb)
              go_roundw
              case rel =>
                refine ⟨k + 1, by omega, by go_num, ⟨HB4.out.setCell (p := ⟨w2.heap.size, k, none⟩) (.inl rfl) _, (HR4.out.set k _).congr fun i hi => ?_, fun i hi => ?_⟩⟩
                · by_cases e : i = k
                  · subst e
                    rw [if_pos rfl, if_pos (by omega), ← HY.out, HG0.out]
                  · rw [if_neg e, if_neg e]
                    by_cases e2 : i < k
                    · rw [if_pos e2, if_pos (by omega)]
                    · rw [if_neg e2, if_neg (by omega)]
                · by_cases e : i = k
                  · subst e
                    rw [← HY.out]
                    exact HS0.out
                  · exact HR.out.ok i (by omega)
              case measure => simp [intOf]; omega
          · have ht' : ¬ (0 : Int) ≤ t := ht
            have HS0 := Lib.hid (show strayB (placesV l 0) ⟨op, a, b1, c, n1, args⟩ = false by rw [HSB.out]; exact decide_eq_false (fun hc => ht hc.1))
            have HG0 := Lib.hid (show goalV (placesV l 0) ⟨op, a, b1, c, n1, args⟩ = -1 by rw [HGO.out, if_neg ht])
            go_wp2_with (go_at_call 55; rw [← hW3]; (with_reducible refine HT.out.mono ?_); rintro e w4 ⟨rfl, hb⟩; have HR4 := Lib.hid (HR3.out.below hb HR3.out.lt); have HB4 := Lib.hid (HB3.out.trans (But.of_below hb)); clear hb)
            go_roundw
            case rel =>
              refine ⟨k + 1, by omega, by go_num, ⟨HB4.out, HR4.out.congr fun i hi => ?_, fun i hi => ?_⟩⟩
              · by_cases e : i = k
                · subst e
                  rw [if_pos rfl, if_pos (by omega), ← HY.out, HG0.out]
                · rw [if_neg e]
                  by_cases e2 : i < k
                  · rw [if_pos e2, if_pos (by omega)]
                  · rw [if_neg e2, if_neg (by omega)]
              · by_cases e : i = k
                · subst e
                  rw [← HY.out]
                  exact HS0.out
                · exact HR.out.ok i (by omega)
            case measure => simp [intOf]; omega
        · obtain rfl : k = n := by omega
          obtain ⟨X, hX, hcell⟩ := hcl (k - 1) (by rw [← HN.out]; omega)
          have hy : lastV l = l.getD (k - 1) .zero := by unfold lastV; rw [HN.out]
          rw [← hy] at hX hcell
          have HCK := Lib.hid (HRE.out (fun i hi => HR.out.ok i (by have := HN.out; omega)))
          obtain ⟨m, hm⟩ : ∃ m, m = k - 1 := ⟨_, rfl⟩
          rw [← hm] at hcell
          have hm' : (k : Int) - 1 = (m : Int) := by omega
          have hmw : wrap64 ((k : Int) - 1) = (m : Int) := by rw [hm']; unfold wrap64; omega
          have m0 : (0 : Int) ≤ (m : Int) := by omega
          have m1 : (m : Int) < (k : Int) := by omega
          generalize lastV l = y at *
          obtain ⟨op, a, b1, c, n1, args⟩ := y
          have c0 : wr.cell? ⟨b, off + m * 6, none⟩ = some (.int .i64 op) := hcell 0 (by omega)
          have c1 : wr.cell? ⟨b, off + m * 6 + 1, none⟩ = some (.int .i64 a) := hcell 1 (by omega)
          have c2 : wr.cell? ⟨b, off + m * 6 + 2, none⟩ = some (.int .i64 b1) := hcell 2 (by omega)
          have c3 : wr.cell? ⟨b, off + m * 6 + 3, none⟩ = some (.int .i64 c) := hcell 3 (by omega)
          have c4 : wr.cell? ⟨b, off + m * 6 + 4, none⟩ = some (.int .i64 n1) := hcell 4 (by omega)
          have c5 : wr.cell? ⟨b, off + m * 6 + 5, none⟩ = some X := hcell 5 (by omega)
          obtain ⟨XA, Xc, rfl⟩ := hX.len
          have HF := Lib.hid (falls_any op a b1 c n1 (.slice XA args.length Xc) wr)
          have HFE : Hid (flsV ⟨op, a, b1, c, n1, args⟩ = fallsV op) := Lib.hid rfl
          rw [HFE.out] at HCK
          clear hcell hX hcl hy hm HFE
          cases hf : fallsV op with
          | true =>
            rw [hf] at HF
            have HCK2 : Hid (check10 l = 10) := Lib.hid (by have := HCK.out; rw [hf] at this; simpa using this)
            clear HCK
            go_wp2_with (go_at_call 56; (with_reducible refine HF.out.mono ?_); rintro e w4 ⟨rfl, hb⟩; have HB4 := Lib.hid (HR.out.but.trans (But.of_below hb)); clear hb)
            go_ret2
            exact targets_bad HCK2.out (by decide) (But.below HBW.out HB4.out HBW.out.size (fun j hj => by rw [show j = w2.heap.size from hj]; exact HGB.out))
          | false =>
            rw [hf] at HF
            have HCK2 : Hid (check10 l = 0) := Lib.hid (by have := HCK.out; rw [hf] at this; simpa using this)
            clear HCK
            go_wp2_with (go_at_call 56; (with_reducible refine HF.out.mono ?_); rintro e w4 ⟨rfl, hb⟩; have HR4 := Lib.hid (HR.out.row.below hb HR.out.row.lt); have HB4 := Lib.hid (HR.out.but.trans (But.of_below hb)); clear hb)
            go_ret2
            refine ⟨But.below HBW.out HB4.out HBW.out.size (fun j hj => by rw [show j = w2.heap.size from hj]; exact HGB.out), .inr ⟨HCK2.out, w2.heap.size, rfl, ?_⟩⟩
            refine out_row HGB.out HR4.out (by have := HLN.out; unfold maxLen; omega) (by simp [goalsV, HN.out]) (fun i hi => ?_)
            rw [if_pos hi]
            simp [goalsV, List.getD, List.getElem?_eq_getElem (show i < l.length by rw [← HN.out]; exact hi)]
theorem check10_any (V : Value) (l : List InsV) (w : World) (h : IsCode w w.heap.size V l) : Calls Tryz.prog 63 #[V] w (Makes w (.int .i64 (check10 l))) := by
  have HT := Lib.hid (targets_any V l w h)
  clear h
  by_cases h0 : check10 l = 0
  · have HT2 := Lib.hid (HT.out.mono fun e w' hh => And.intro hh.1 (hh.2.resolve_left (fun h => h.1 h0)).2)
    rw [h0]
    clear HT
    go_enter Tryz.func63, Tryz.ntmps63
    go_wp2_with (go_at_call 34; (with_reducible refine HT2.out.mono ?_); rintro e w1 ⟨hb, g, rfl, _⟩; have HB := Lib.hid hb; clear hb)
    go_ret
    exact ⟨rfl, HB.out⟩
  · have HT2 := Lib.hid (HT.out.mono fun e w' hh => And.intro hh.1 (hh.2.resolve_right (fun h => h0 h.1)).2)
    generalize check10 l = z at *
    clear HT
    go_enter Tryz.func63, Tryz.ntmps63
    go_wp2_with (go_at_call 34; (with_reducible refine HT2.out.mono ?_); rintro e w1 ⟨hb, rfl⟩; have HB := Lib.hid hb; clear hb)
    go_ret
    exact ⟨rfl, HB.out⟩
end Go.Proofs.YtfdblmjgpoocpaaGreat

/- (Flow10C) The landed followers. Contract; no condition but that the instructions lie in a row and that the goals are theirs. -/
namespace Go.Proofs.YtfdblmjgpoocpaaGreat
open Go.RowKit
set_option linter.unusedVariables false
set_option linter.unusedSimpArgs false

def FolDone (w : World) (l : List InsV) (n : Nat) (e : Ending) (w' : World) : Prop :=
  Below w.heap.size w w' ∧ ∃ g Xs, e = .returned (.slice (some ⟨g, 0, none⟩) n n) ∧ Lists w.heap.size w' g n Xs (nextV l)
theorem but_own {W W' : World} {V : Value} {base : Nat} (hb : Below base W W') (hk : ∀ i, i < W.heap.size → some i ≠ V.ownBlock → W'.heap[i]? = W.heap[i]?) (hs : W.heap.size ≤ W'.heap.size) : But (OwnB V) W W' :=
  ⟨hb.os, hb.tape, hb.output, hs, fun i hi hn => hk i hi (fun e => hn e.symm)⟩
theorem cellD_but {R : Nat → Prop} {w w' : World} (h : But R w w') {b o : Nat} (hk : b < w.heap.size) (hn : ¬ R b) : w'.cell? ⟨b, o, none⟩ = w.cell? ⟨b, o, none⟩ := h.cell (p := ⟨b, o, none⟩) hk hn
/-- What followers has in memory ahead of a round. -/
structure FolIn (w W1 wr : World) (g n k : Nat) (Xs : Nat → Value) (l : List InsV) : Prop where
  but : But (OneBlock g) W1 wr
  lists : Lists w.heap.size wr g n Xs (fun i => if i < k then nextV l i else [])
  rest : ∀ i, k ≤ i → i < n → Xs i = .slice none 0 0
theorem FolIn.next {w W1 wr W : World} {g n k : Nat} {Xs : Nat → Value} {V : Value} {l : List InsV} {xs : List Int} (h : FolIn w W1 wr g n k Xs l) (hf : FolAt wr W g n k Xs V xs) (hx : xs = nextV l k) (hw : w.heap.size ≤ wr.heap.size) :
    FolIn w W1 W g n (k + 1) (fun i => if i = k then V else Xs i) l := by
  have hl := hf.done h.lists hw
  refine ⟨h.but.trans hf.but, ⟨hl.ge, hl.row, fun i hi => ?_⟩, fun i h1 h2 => ?_⟩
  · have := hl.own i hi
    by_cases e : i = k
    · subst e
      rw [if_pos (by omega), ← hx]
      simpa using this
    · simp only [if_neg e] at this ⊢
      by_cases e2 : i < k
      · rw [if_pos e2] at this
        rw [if_pos (by omega)]
        exact this
      · rw [if_neg e2] at this
        rw [if_neg (by omega)]
        exact this
  · rw [if_neg (by omega)]
    exact h.rest i (by omega) h2
set_option maxRecDepth 100000 in
set_option maxHeartbeats 16000000 in
theorem followers_any (V : Value) (l : List InsV) (g0 o0 cp0 : Nat) (w : World) (h : IsCode w w.heap.size V l) (hg : IsNums .i64 w w.heap.size (.slice (some ⟨g0, o0, none⟩) l.length cp0) (goalsV l)) (hln : l.length ≤ 4096) :
    Calls Tryz.prog 35 #[V, .slice (some ⟨g0, o0, none⟩) l.length cp0] w (FolDone w l l.length) := by
  obtain ⟨A, cap, rfl⟩ := h.len
  have HC := Lib.hid h
  have HG := Lib.hid hg
  obtain ⟨n, hn⟩ : ∃ n, n = l.length := ⟨_, rfl⟩
  have HN := Lib.hid hn
  have hmk := make_lists n (by omega)
  have HMI := Lib.hid (lists_made n w)
  rw [← hn] at HC HG hln ⊢
  have hn1 : (n : Int) ≤ 4096 := by omega
  clear h hg hn
  generalize madeCells (Value.slice none 0 0).cells (n * 1) = mi at *
  go_enter Tryz.func35, Tryz.ntmps35
  go_wp2
  obtain ⟨W1, hW1⟩ : ∃ W1, W1 = w.alloc (.cells mi 35) := ⟨_, rfl⟩
  have hbw : Below w.heap.size w W1 := by rw [hW1]; exact (Below.refl _ _).alloc (Nat.le_refl _) _
  rw [← hW1] at HMI
  have HBW := Lib.hid hbw
  have HWL := Lib.hid (show w.heap.size < W1.heap.size by rw [hW1]; simp)
  have HCW := Lib.hid (HC.out.below hbw (Nat.le_refl _) (Nat.le_refl _))
  have HGW := Lib.hid (HG.out.below hbw (Nat.le_refl _))
  clear hbw
  go_loopw [13] (fun i wr => ∃ (k : Nat) (Xs : Nat → Value), k ≤ n ∧ i = .int .i64 k ∧ Hid (FolIn w W1 wr w.heap.size n k Xs l)) (fun i _ => n - (intOf i).toNat)
  case atStart => exact ⟨0, fun _ => .slice none 0 0, by omega, rfl, ⟨by rw [← hW1]; exact But.refl _ _, by rw [← hW1]; exact ⟨Nat.le_refl _, HMI.out, fun i hi => Owns.nil _ _ _ _ _⟩, fun _ _ _ => rfl⟩⟩
  case round =>
    clear hW1
    obtain ⟨k, Xs, hk, rfl, HR⟩ := hrel
    have hnot : ∀ j, j < w.heap.size → ¬ OneBlock w.heap.size j := fun j hj hc => by rw [show j = w.heap.size from hc] at hj; omega
    have hgw : w.heap.size < wr.heap.size := Nat.lt_of_lt_of_le HWL.out HR.out.but.size
    have hcw : IsCode wr w.heap.size (.slice A n cap) l := HCW.out.but HR.out.but (Nat.le_of_lt HWL.out) hnot
    by_cases hlt : k < n
    · have hadd : wrap64 ((k : Int) + 1) = (k : Int) + 1 := by unfold wrap64; omega
      have k0 : (0 : Int) ≤ (k : Int) := by omega
      have k1 : (k : Int) < (n : Int) := by omega
      obtain ⟨b, off, cap', hV, hcp, hbB, hcl⟩ := hcw.plain (by rw [← HN.out]; omega)
      rw [← HN.out] at hV
      cases hV
      clear hcw hcp
      have hkl : k < l.length := by rw [← HN.out]; exact hlt
      obtain ⟨X, hX, hcell⟩ := hcl k hkl
      have hgn := HGW.out.but HR.out.but (Nat.le_of_lt HWL.out) hnot
      have hgll : (goalsV l).length = n := by rw [HN.out]; simp [goalsV]
      obtain ⟨gb, go, gc, hV, _, hgB, hgc⟩ := hgn.plain (by rw [hgll]; omega)
      rw [hgll] at hV
      cases hV
      have hgk := hgc k (by rw [hgll]; exact hlt)
      have hgl : (goalsV l).getD k 0 = goalV (placesV l 0) (l.getD k .zero) := by simp [goalsV, List.getD, List.getElem?_eq_getElem hkl]
      rw [hgl] at hgk
      have hgbd := (goal_bd (placesV l 0) (l.getD k .zero)).1
      have hghi := goal_lt (l := l) (n := k)
      rw [← HN.out] at hghi
      have HTD := Lib.hid (tidy_next (flsV (l.getD k .zero)) (goalV (placesV l 0) (l.getD k .zero)) k)
      have HNX : Hid (nextV l k = nxV (flsV (l.getD k .zero)) (goalV (placesV l 0) (l.getD k .zero)) k) := Lib.hid rfl
      rw [← HNX.out] at HTD
      generalize goalV (placesV l 0) (l.getD k .zero) = gv at *
      obtain ⟨⟨op, a, b1, c, n1, args⟩, hy⟩ : ∃ y, y = l.getD k .zero := ⟨_, rfl⟩
      rw [← hy] at hX hcell HTD
      have c0 : wr.cell? ⟨b, off + k * 6, none⟩ = some (.int .i64 op) := hcell 0 (by omega)
      have c1 : wr.cell? ⟨b, off + k * 6 + 1, none⟩ = some (.int .i64 a) := hcell 1 (by omega)
      have c2 : wr.cell? ⟨b, off + k * 6 + 2, none⟩ = some (.int .i64 b1) := hcell 2 (by omega)
      have c3 : wr.cell? ⟨b, off + k * 6 + 3, none⟩ = some (.int .i64 c) := hcell 3 (by omega)
      have c4 : wr.cell? ⟨b, off + k * 6 + 4, none⟩ = some (.int .i64 n1) := hcell 4 (by omega)
      have c5 : wr.cell? ⟨b, off + k * 6 + 5, none⟩ = some X := hcell 5 (by omega)
      dsimp only at hX
      obtain ⟨XA, Xc, rfl⟩ := hX.len
      have hbox := (Below.refl wr.heap.size wr).alloc (Nat.le_refl _) (.cells (insCells op a b1 c n1 (.slice XA args.length Xc)) 37)
      have HF := Lib.hid (falls_any op a b1 c n1 (.slice XA args.length Xc) (wr.alloc (.cells (insCells op a b1 c n1 (.slice XA args.length Xc)) 37)))
      have HFE : Hid (flsV ⟨op, a, b1, c, n1, args⟩ = fallsV op) := Lib.hid rfl
      rw [HFE.out] at HTD
      have HFA := Lib.hid ((FolAt.start HR.out.lists.row (HR.out.rest k (Nat.le_refl _) hlt)).grow hbox)
      have HSO := Lib.hid (fun W V xs h hl => sort_any wr.heap.size W V xs h hl)
      have HCO := Lib.hid (fun W V xs h hl => compact_any wr.heap.size W V xs h hl)
      have HGO : Hid (∀ W, But (OneBlock w.heap.size) wr W → W.cell? ⟨g0, o0 + k, none⟩ = some (.int .i64 gv)) := Lib.hid (fun W hb => (cellD_but hb (by omega) (hnot _ hgB)).trans hgk)
      have HWR := Lib.hid (Nat.le_of_lt hgw)
      have HLT := Lib.hid hlt
      clear hcell hX hcl hy hgn hgc hgk hgl hgll HFE HNX hbox hnot
      cases hf : fallsV op with
      | true =>
        rw [hf] at HF HTD
        by_cases hg0 : 0 ≤ gv
        · have gne : (gv != (-1)) = true := by simp; omega
          have HTE : Hid (Lib.compact (sortV [(k : Int) + 1, gv]) = nextV l k) := Lib.hid (by have := HTD.out; unfold tidyV rawN at this; rw [if_pos rfl, if_pos hg0] at this; exact this)
          clear HTD hf
          go_wp2_with (first
            | (go_at_call 56; (with_reducible refine HF.out.mono ?_); rintro e w2 ⟨rfl, hb⟩; have HF2 := Lib.hid (HFA.out.grow hb); have hgk2 := HGO.out w2 HF2.out.but; obtain ⟨p2, q2⟩ := HF2.out.cell HLT.out; have HS2 := Lib.hid HF2.out.but.size; clear hb)
            | (at_builtin; (refine wpList_outW rfl _ _ rfl (xs := []) rfl rfl HF2.out.own HS2.out (by decide) ?_; intro V6 w6 ho hb hk6 hs6 hw6; have ho : OutN wr.heap.size w6 V6 [(k : Int) + 1] := ho; have HM6 := Lib.hid (HF2.out.mid (but_own hb hk6 hs6) ho); obtain ⟨a6, c6, h6⟩ := owns_len ho; have h6 : V6 = .slice a6 1 c6 := h6; subst h6; obtain ⟨p6, q6⟩ := HM6.out.cell HLT.out; have HF7 := Lib.hid HM6.out.lay; have hgk6 := HGO.out _ HM6.out.but; have hgk7 := HGO.out _ HF7.out.but; have HS7 := Lib.hid HF7.out.but.size; clear ho hb hk6 hs6 hw6)))
          have HF7d := Lib.hid (show FolAt wr (w6.setCell ⟨w.heap.size, k, none⟩ (.slice a6 1 c6)).drew w.heap.size n k Xs (.slice a6 1 c6) [(k : Int) + 1] from HF7.out.grow (Below.refl _ _).drew)
          have HF7a := Lib.hid (HF7.out.grow ((Below.refl (w6.setCell ⟨w.heap.size, k, none⟩ (.slice a6 1 c6)).heap.size _).alloc (Nat.le_refl _) (.cells #[.int .i64 gv] 3)))
          obtain ⟨p7, q7⟩ := HF7.out.cell HLT.out
          obtain ⟨p7a, q7a⟩ := HF7a.out.cell HLT.out
          go_region_law ((refine step_outW (W := (w6.setCell ⟨w.heap.size, k, none⟩ (.slice a6 1 c6)).drew) (V := .slice a6 1 c6) (xs := [(k : Int) + 1]) (z := gv) (base := wr.heap.size) rfl (.tmp 41) (.tmp 46) rfl rfl (show Value.slice (some ⟨w6.heap.size, 0, none⟩) 1 1 = _ by simp) HF7d.out.own (by have := HS7.out; simpa using this) (by simp) ?_; intro V8 w8 ho hb hk8 hs8 hw8; have ho : OutN wr.heap.size w8 V8 [(k : Int) + 1, gv] := ho; have HM8 := Lib.hid (HF7d.out.mid (but_own hb hk8 hs8) ho); obtain ⟨a8, c8, h8⟩ := owns_len ho; have h8 : V8 = .slice a8 2 c8 := h8; subst h8; obtain ⟨p8, q8⟩ := HM8.out.cell HLT.out; have HF9 := Lib.hid HM8.out.lay; clear ho hb hk8 hs8 hw8))
          all_goals go_wp2_with (first
            | (go_at_call 57; (with_reducible refine (HSO.out _ _ _ HF9.out.own (by simp)).mono ?_); rintro e w9 ⟨rfl, ho, hb⟩; have HF10 := Lib.hid (HF9.out.touch hb ho); obtain ⟨p10, q10⟩ := HF10.out.cell HLT.out; clear ho hb)
            | (go_at_call 58; (with_reducible refine (HCO.out _ _ _ HF10.out.own (by rw [sort_length]; simp)).mono ?_); rintro e w11 ⟨V11, rfl, ho, hb⟩; have HM11 := Lib.hid (HF10.out.mid hb ho); obtain ⟨p11, q11⟩ := HM11.out.cell HLT.out; have HF12 := Lib.hid HM11.out.lay; obtain ⟨m, hm⟩ : ∃ m, m = (Lib.compact (sortV [(k : Int) + 1, gv])).length := ⟨_, rfl⟩; obtain ⟨a11, c11, h11⟩ := owns_len ho; rw [← hm] at h11; subst h11; clear ho hb hm))
          all_goals
            go_roundw
            case rel => exact ⟨k + 1, _, by omega, by go_num, HR.out.next HF12.out HTE.out HWR.out⟩
            case measure => simp [intOf]; omega
        · obtain rfl : gv = -1 := by omega
          have HTE : Hid (Lib.compact (sortV [(k : Int) + 1]) = nextV l k) := Lib.hid (by have := HTD.out; unfold tidyV rawN at this; rw [if_pos rfl, if_neg hg0] at this; exact this)
          clear HTD hf
          go_wp2_with (first
            | (go_at_call 56; (with_reducible refine HF.out.mono ?_); rintro e w2 ⟨rfl, hb⟩; have HF2 := Lib.hid (HFA.out.grow hb); have hgk2 := HGO.out w2 HF2.out.but; obtain ⟨p2, q2⟩ := HF2.out.cell HLT.out; have HS2 := Lib.hid HF2.out.but.size; clear hb)
            | (at_builtin; (refine wpList_outW rfl _ _ rfl (xs := []) rfl rfl HF2.out.own HS2.out (by decide) ?_; intro V6 w6 ho hb hk6 hs6 hw6; have ho : OutN wr.heap.size w6 V6 [(k : Int) + 1] := ho; have HM6 := Lib.hid (HF2.out.mid (but_own hb hk6 hs6) ho); obtain ⟨a6, c6, h6⟩ := owns_len ho; have h6 : V6 = .slice a6 1 c6 := h6; subst h6; obtain ⟨p6, q6⟩ := HM6.out.cell HLT.out; have HF7 := Lib.hid HM6.out.lay; have hgk6 := HGO.out _ HM6.out.but; have hgk7 := HGO.out _ HF7.out.but; have HS7 := Lib.hid HF7.out.but.size; clear ho hb hk6 hs6 hw6))
            | (go_at_call 57; (with_reducible refine (HSO.out _ _ _ HF7.out.own (by simp)).mono ?_); rintro e w9 ⟨rfl, ho, hb⟩; have HF10 := Lib.hid (HF7.out.touch hb ho); obtain ⟨p10, q10⟩ := HF10.out.cell HLT.out; clear ho hb)
            | (go_at_call 58; (with_reducible refine (HCO.out _ _ _ HF10.out.own (by rw [sort_length]; simp)).mono ?_); rintro e w11 ⟨V11, rfl, ho, hb⟩; have HM11 := Lib.hid (HF10.out.mid hb ho); obtain ⟨p11, q11⟩ := HM11.out.cell HLT.out; have HF12 := Lib.hid HM11.out.lay; obtain ⟨m, hm⟩ : ∃ m, m = (Lib.compact (sortV [(k : Int) + 1])).length := ⟨_, rfl⟩; obtain ⟨a11, c11, h11⟩ := owns_len ho; rw [← hm] at h11; subst h11; clear ho hb hm))
          go_roundw
          case rel => exact ⟨k + 1, _, by omega, by go_num, HR.out.next HF12.out HTE.out HWR.out⟩
          case measure => simp [intOf]; omega
      | false =>
        rw [hf] at HF HTD
        by_cases hg0 : 0 ≤ gv
        · have gne : (gv != (-1)) = true := by simp; omega
          have HTE : Hid (Lib.compact (sortV [gv]) = nextV l k) := Lib.hid (by have := HTD.out; unfold tidyV rawN at this; rw [if_neg (by simp), if_pos hg0] at this; exact this)
          clear HTD hf
          go_wp2_with ((go_at_call 56; (with_reducible refine HF.out.mono ?_); rintro e w2 ⟨rfl, hb⟩; have HF2 := Lib.hid (HFA.out.grow hb); have hgk2 := HGO.out w2 HF2.out.but; obtain ⟨p2, q2⟩ := HF2.out.cell HLT.out; have HS2 := Lib.hid HF2.out.but.size; clear hb))
          have HF7d := Lib.hid (show FolAt wr w2.drew w.heap.size n k Xs (.slice none 0 0) [] from HF2.out.grow (Below.refl _ _).drew)
          have HF7a := Lib.hid (HF2.out.grow ((Below.refl w2.heap.size w2).alloc (Nat.le_refl _) (.cells #[.int .i64 gv] 3)))
          obtain ⟨p7a, q7a⟩ := HF7a.out.cell HLT.out
          go_region_law ((refine step_outW (W := w2.drew) (V := .slice none 0 0) (xs := []) (z := gv) (base := wr.heap.size) rfl (.tmp 41) (.tmp 46) rfl rfl rfl HF7d.out.own HS2.out (by decide) ?_; intro V8 w8 ho hb hk8 hs8 hw8; have ho : OutN wr.heap.size w8 V8 [gv] := ho; have HM8 := Lib.hid (HF7d.out.mid (but_own hb hk8 hs8) ho); obtain ⟨a8, c8, h8⟩ := owns_len ho; have h8 : V8 = .slice a8 1 c8 := h8; subst h8; obtain ⟨p8, q8⟩ := HM8.out.cell HLT.out; have HF9 := Lib.hid HM8.out.lay; clear ho hb hk8 hs8 hw8))
          all_goals go_wp2_with (first
            | (go_at_call 57; (with_reducible refine (HSO.out _ _ _ HF9.out.own (by simp)).mono ?_); rintro e w9 ⟨rfl, ho, hb⟩; have HF10 := Lib.hid (HF9.out.touch hb ho); obtain ⟨p10, q10⟩ := HF10.out.cell HLT.out; clear ho hb)
            | (go_at_call 58; (with_reducible refine (HCO.out _ _ _ HF10.out.own (by rw [sort_length]; simp)).mono ?_); rintro e w11 ⟨V11, rfl, ho, hb⟩; have HM11 := Lib.hid (HF10.out.mid hb ho); obtain ⟨p11, q11⟩ := HM11.out.cell HLT.out; have HF12 := Lib.hid HM11.out.lay; obtain ⟨m, hm⟩ : ∃ m, m = (Lib.compact (sortV [gv])).length := ⟨_, rfl⟩; obtain ⟨a11, c11, h11⟩ := owns_len ho; rw [← hm] at h11; subst h11; clear ho hb hm))
          all_goals
            go_roundw
            case rel => exact ⟨k + 1, _, by omega, by go_num, HR.out.next HF12.out HTE.out HWR.out⟩
            case measure => simp [intOf]; omega
        · obtain rfl : gv = -1 := by omega
          have HTE : Hid (Lib.compact (sortV []) = nextV l k) := Lib.hid (by have := HTD.out; unfold tidyV rawN at this; rw [if_neg (by simp), if_neg hg0] at this; exact this)
          clear HTD hf
          go_wp2_with (first
            | (go_at_call 56; (with_reducible refine HF.out.mono ?_); rintro e w2 ⟨rfl, hb⟩; have HF2 := Lib.hid (HFA.out.grow hb); have hgk2 := HGO.out w2 HF2.out.but; obtain ⟨p2, q2⟩ := HF2.out.cell HLT.out; have HS2 := Lib.hid HF2.out.but.size; clear hb)
            | (go_at_call 57; (with_reducible refine (HSO.out _ _ _ HF2.out.own (by simp)).mono ?_); rintro e w9 ⟨rfl, ho, hb⟩; have HF10 := Lib.hid (HF2.out.touch hb ho); obtain ⟨p10, q10⟩ := HF10.out.cell HLT.out; clear ho hb)
            | (go_at_call 58; (with_reducible refine (HCO.out _ _ _ HF10.out.own (by rw [sort_length]; simp)).mono ?_); rintro e w11 ⟨V11, rfl, ho, hb⟩; have HM11 := Lib.hid (HF10.out.mid hb ho); obtain ⟨p11, q11⟩ := HM11.out.cell HLT.out; have HF12 := Lib.hid HM11.out.lay; obtain ⟨m, hm⟩ : ∃ m, m = (Lib.compact (sortV [])).length := ⟨_, rfl⟩; obtain ⟨a11, c11, h11⟩ := owns_len ho; rw [← hm] at h11; subst h11; clear ho hb hm))
          go_roundw
          case rel => exact ⟨k + 1, _, by omega, by go_num, HR.out.next HF12.out HTE.out HWR.out⟩
          case measure => simp [intOf]; omega
    · obtain rfl : k = n := by omega
      go_wp2
      go_ret
      refine ⟨But.below HBW.out HR.out.but HBW.out.size (fun j hj => by rw [show j = w.heap.size from hj]; exact Nat.le_refl _), _, _, rfl, HR.out.lists.ge, HR.out.lists.row, fun i hi => ?_⟩
      have := HR.out.lists.own i hi
      rw [if_pos hi] at this
      exact this
end Go.Proofs.YtfdblmjgpoocpaaGreat

/- (Flow10D) The landed Next, and reached with its stack. Contracts; no condition but what each names. -/
namespace Go.Proofs.YtfdblmjgpoocpaaGreat
open Go.RowKit
set_option linter.unusedVariables false
set_option linter.unusedSimpArgs false

def NextN (w : World) (l : List InsV) (n : Nat) (e : Ending) (w' : World) : Prop :=
  Below w.heap.size w w' ∧ ((check10 l ≠ 0 ∧ e = .returned (.tuple #[.slice none 0 0, .int .i64 (check10 l)])) ∨
    (check10 l = 0 ∧ ∃ g Xs, e = .returned (.tuple #[.slice (some ⟨g, 0, none⟩) n n, .int .i64 0]) ∧ Lists w.heap.size w' g n Xs (nextV l)))
theorem short10 {l : List InsV} (h : check10 l = 0) : l.length ≤ 4096 := by
  have hj := (good10 h).join
  have := all_length l
  have := (first_all hj).2
  omega
theorem Lists.base {base base' : Nat} {w : World} {g n : Nat} {Xs : Nat → Value} {ll : Nat → List Int} (h : Lists base w g n Xs ll) (hb : base' ≤ base) : Lists base' w g n Xs ll :=
  ⟨Nat.le_trans hb h.ge, h.row, fun i hi => (h.own i hi).base hb⟩
theorem next_any (V : Value) (l : List InsV) (w : World) (h : IsCode w w.heap.size V l) : Calls Tryz.prog 20 #[V] w (NextN w l l.length) := by
  have HT := Lib.hid (targets_any V l w h)
  by_cases h0 : check10 l = 0
  · have HT2 := Lib.hid (HT.out.mono fun e w' hh => And.intro hh.1 (hh.2.resolve_left (fun h => h.1 h0)).2)
    have HFO := Lib.hid (fun g0 W hb hg => followers_any V l g0 0 l.length W ((h.below hb (Nat.le_refl _) (Nat.le_refl _)).more hb.size) hg (short10 h0))
    have H0 := Lib.hid h0
    clear HT h h0
    go_enter Tryz.func20, Tryz.ntmps20
    go_wp2_with (first
      | (go_at_call 34; (with_reducible refine HT2.out.mono ?_); rintro e w1 ⟨hb, g, rfl, ho⟩; have HB := Lib.hid hb; have HI := Lib.hid (IsNums.of_owns ho (Nat.le_refl _)); clear hb ho)
      | (go_at_call 35; (with_reducible refine (HFO.out g w1 HB.out (by have := HI.out; simpa [goalsV] using this)).mono ?_); rintro e w2 ⟨hb, g2, Xs, rfl, hl⟩; have HB2 := Lib.hid (HB.out.trans (hb.mono HB.out.size)); have HL := Lib.hid (hl.base HB.out.size); clear hb hl))
    go_ret2
    exact ⟨HB2.out, .inr ⟨H0.out, _, _, rfl, HL.out⟩⟩
  · have HT2 := Lib.hid (HT.out.mono fun e w' hh => And.intro hh.1 (hh.2.resolve_right (fun h => h0 h.1)).2)
    have H0 := Lib.hid h0
    have hne : (check10 l != 0) = true := by simpa using h0
    unfold NextN
    generalize check10 l = z at *
    clear HT h h0
    go_enter Tryz.func20, Tryz.ntmps20
    go_wp2_with (go_at_call 34; (with_reducible refine HT2.out.mono ?_); rintro e w1 ⟨hb, rfl⟩; have HB := Lib.hid hb; clear hb)
    go_ret2
    exact ⟨HB.out, .inl ⟨H0.out, rfl⟩⟩
end Go.Proofs.YtfdblmjgpoocpaaGreat

/- (Flow10E) The landed reached with its stack, and Reached. Contracts; no condition but what each names. -/
namespace Go.Proofs.YtfdblmjgpoocpaaGreat
open Go.RowKit
set_option linter.unusedVariables false
set_option linter.unusedSimpArgs false

theorem run_append_nothing {P : Program} (w : World) (t ty e : TypeId) (i : TypeInfo) (ht : P.underlying t = some (.slice e)) (hi : P.info? e = some i) (A : Option Addr) (n cap : Nat) (hn : n ≤ cap) :
    (Builtin.append_ #[t, t] ty #[.slice A n cap, .slice none 0 0]).run P w = .ok (.slice A n cap) w := by
  cases A with
  | none => simp [Builtin.append_, run_underlying ht, sizeOf, typeInfo, hi, Builtin.lenOf, Builtin.firstCells, loadCells, loadCellsFrom, hn]
  | some a => simp [Builtin.append_, run_underlying ht, sizeOf, typeInfo, hi, Builtin.lenOf, Builtin.firstCells, loadCells, loadCellsFrom, hn, storeCells]
theorem out_len {base : Nat} {w : World} {V : Value} {xs : List Int} (h : OutN base w V xs) : ∃ A cap, V = .slice A xs.length cap ∧ xs.length ≤ cap := by
  rcases h.1.2 with ⟨rfl, h0⟩ | ⟨g, cap, cur, rfl, h1, h2, h3, h4, h5, h6⟩
  · have : xs.length = 0 := by simpa using h0
    exact ⟨none, 0, by rw [this], by omega⟩
  · exact ⟨_, cap, rfl, h3⟩
theorem run_append_two {W : World} {ty : TypeId} {V X : Value} {xs ys : List Int} {base b2 : Nat} (h : OutN base W V xs) (hX : OutN b2 W X ys) (hb : base ≤ W.heap.size) (hl : xs.length + ys.length ≤ 1000000) :
    ∃ V' W', (Builtin.append_ #[35, 35] ty #[V, X]).run Tryz.prog W = .ok V' W' ∧ OutN base W' V' (xs ++ ys) ∧ But (OwnB V) W W' := by
  obtain ⟨i, hi, h1, h2, h3⟩ := info_parts int_info
  by_cases hx : X = .slice none 0 0
  · subst hx
    have hy : ys = [] := by
      rcases hX.1.2 with ⟨_, h0⟩ | ⟨g, cap, cur, h0, _⟩
      · exact List.eq_nil_of_length_eq_zero h0
      · cases h0
    subst hy
    obtain ⟨A, cap, rfl, hc⟩ := out_len h
    exact ⟨_, W, run_append_nothing W 35 ty 3 i Tryz.underlying35 hi A xs.length cap hc, by simpa using h, But.refl _ _⟩
  · obtain ⟨g, cap, cur, rfl, h4, h5, h6, h7, h8, h9, h10, h11⟩ := hX.parts hx
    have hnews : ∀ j u, (ys.map (Value.int .i64))[j]? = some u → W.cell? ((⟨g, 0, none⟩ : Addr).add j) = some u := fun j u hu => hX.1.cells (g := g) rfl j u hu
    obtain ⟨V', W', hr, ho, hg⟩ := run_append_q (P := Tryz.prog) W base 35 ty 3 i _ 1 8 Tryz.underlying35 hi h1 h2 h3 rfl (by decide) (IsNum .i64) (zero_num .i64) V xs.length (xs.map (Value.int .i64)) h ⟨g, 0, none⟩ ys.length cap (ys.map (Value.int .i64)) (by simp) hnews (by intro u hu; obtain ⟨z, _, rfl⟩ := List.mem_map.1 hu; rfl) (num_cells _ _) (by unfold maxLen; omega) (by omega) hb
    exact ⟨V', W', hr, by rw [OutN, List.length_append, List.map_append]; exact ho, But.of_grown hg⟩
/-- An append of a list, as a step of a region that draws. -/
theorem step_outA {W : World} {ops : Array Oper} {o : Oper} {a : Act} {K : Act → World → Prop} {Q : Exit → Act → World → Prop} {E : Prop} (hgd : o.guard = none) (s x : Operand)
    (ho : o.op = .call { callee := .builtin .append, args := #[s, x], argTypes := #[35, 35] }) {V X : Value} {xs ys : List Int} {base b2 : Nat} (hs : a.eval s = V) (hx : a.eval x = X) (h : OutN base W V xs) (hX : OutN b2 W X ys)
    (hb : base ≤ W.heap.size) (hl : xs.length + ys.length ≤ 1000000)
    (hK : ∀ V' W', OutN base W' V' (xs ++ ys) → But (OwnB V) W W' → K (a.put o.dst V') W') :
    if Region.wanted o (yielded ops a.tmps) = true then Oper.wp Tryz.prog o a W K Q else E := by
  rw [if_pos (by simp [Region.wanted, hgd])]
  obtain ⟨V', W', hr, ho', hb'⟩ := run_append_two (ty := o.type) h hX hb hl
  unfold Oper.wp execOp
  simp only [ho, resolve, invoke, builtin, Sem.run_bind, Sem.run_pure, Result.andThen_ok, List.map_toArray, List.map_cons, List.map_nil, hs, hx, hr]
  exact hK V' W' ho' hb'
/-- What reached has in memory. -/
structure RcAt (w wr : World) (n : Nat) (nx : Nat → List Int) (r : Nat → Bool) (V : Value) (ws pend : List Int) : Prop where
  bel : Below w.heap.size w wr
  row : RowAt wr w.heap.size n 4 (boolsV r)
  box : RowAt wr (w.heap.size + 2) 1 35 (fun _ => V)
  own : OutN (w.heap.size + 1) wr V ws
  dfs : Dfs n nx r (ws ++ pend)
theorem bool_ne {w : World} {g n base : Nat} {r : Nat → Bool} {V : Value} {xs : List Int} (h : OutN base w V xs) (hr : RowAt w g n 4 (boolsV r)) : ¬ OwnB V g := by
  intro hg
  have hv : V ≠ .slice none 0 0 := fun e => by subst e; simp [OwnB, Value.ownBlock] at hg
  obtain ⟨g', cap, cur, rfl, _, _, hc, _⟩ := h.parts hv
  have : g' = g := by simpa [OwnB, Value.ownBlock] using hg
  subst this
  obtain ⟨cur', h1, _⟩ := hr
  rw [hc] at h1
  injection h1 with h1
  injection h1 with _ h1 _
  exact absurd h1 (by decide)
def ReachDone (w : World) (n : Nat) (nx : Nat → List Int) (e : Ending) (w' : World) : Prop :=
  Below w.heap.size w w' ∧ ∃ gb r, e = .returned (.slice (some ⟨gb, 0, none⟩) n n) ∧ w.heap.size ≤ gb ∧ IsReach n nx r ∧ RowAt w' gb n 4 (boolsV fun i => r.getD i false)
section
variable {w wr W : World} {n : Nat} {nx : Nat → List Int} {r : Nat → Bool} {V V' : Value} {ws pend ys : List Int}
/-- One is taken off. -/
theorem RcAt.pop {p : Int} {q cap : Nat} (h : RcAt w wr n nx r (.slice (some ⟨q, 0, none⟩) (ws.length + 1) cap) (ws ++ [p]) []) : RcAt w (wr.setCell ⟨w.heap.size + 2, 0, none⟩ (.slice (some ⟨q, 0, none⟩) ws.length cap)) n nx r (.slice (some ⟨q, 0, none⟩) ws.length cap) ws [p] := by
  have hv : Value.slice (some ⟨q, 0, none⟩) (ws.length + 1) cap ≠ .slice none 0 0 := fun e => by cases e
  obtain ⟨g', cap', cur, he, h1, h2, h3, h4, h5, h6, h7, h8⟩ := h.own.parts hv
  simp only [Value.slice.injEq, Option.some.injEq, Addr.mk.injEq, true_and, and_true] at he
  obtain ⟨rfl, _, rfl⟩ := he
  have hq : q ≠ w.heap.size + 2 := fun e => own_ne h.own h.box (by simp [OwnB, Value.ownBlock, e])
  simp only [List.length_append, List.length_cons, List.length_nil, Nat.zero_add] at h4 h7
  have ht : cur.toList.take ws.length = ws.map (Value.int .i64) := by
    have := congrArg (List.take ws.length) h7
    rw [List.take_take, Nat.min_eq_left (by omega), List.map_append, List.take_append_of_le_length (by simp)] at this
    rw [this, List.take_of_length_le (by simp)]
  refine ⟨h.bel.setCell (p := ⟨w.heap.size + 2, 0, none⟩) (by show w.heap.size ≤ w.heap.size + 2; omega) _, ?_, (h.box.set 0 _).congr fun i hi => by simp [show i = 0 by omega], ?_, by simpa using h.dfs⟩
  · exact h.row.but ((But.refl (OneBlock (w.heap.size + 2)) wr).setCell (p := ⟨w.heap.size + 2, 0, none⟩) (.inl rfl) _) (fun e => by have : w.heap.size = w.heap.size + 2 := e; omega)
  · exact (OutN.of_block (cap := cap) h1 h3 (by omega) h5 h6 ht h8).but ((But.refl (OneBlock (w.heap.size + 2)) wr).setCell (p := ⟨w.heap.size + 2, 0, none⟩) (.inl rfl) _) (fun g hg e => by simp [Value.ownBlock] at hg; exact hq (by rw [hg]; exact e))
/-- One is marked. -/
theorem RcAt.mark {p : Int} (h : RcAt w wr n nx r V ws [p]) (hb : ∀ i, i < n → ∀ x ∈ nx i, 0 ≤ x ∧ x < n) :
    Below w.heap.size w (wr.setCell ⟨w.heap.size, p.toNat, none⟩ (.bool true)) ∧ RowAt (wr.setCell ⟨w.heap.size, p.toNat, none⟩ (.bool true)) w.heap.size n 4 (boolsV fun i => if i = p.toNat then true else r i) ∧
    RowAt (wr.setCell ⟨w.heap.size, p.toNat, none⟩ (.bool true)) (w.heap.size + 2) 1 35 (fun _ => V) ∧ OutN (w.heap.size + 1) (wr.setCell ⟨w.heap.size, p.toNat, none⟩ (.bool true)) V ws := by
  have hb1 := (But.refl (OneBlock w.heap.size) wr).setCell (p := ⟨w.heap.size, p.toNat, none⟩) (.inl rfl) (.bool true)
  refine ⟨h.bel.setCell (p := ⟨w.heap.size, p.toNat, none⟩) (Nat.le_refl _) _, (h.row.set p.toNat _).congr fun i hi => ?_, h.box.but hb1 (fun e => by have : w.heap.size + 2 = w.heap.size := e; omega), h.own.but hb1 (fun g hg e => bool_ne h.own h.row (by rw [show g = w.heap.size from e] at hg; exact hg))⟩
  unfold boolsV
  by_cases e : i = p.toNat <;> simp [e]
theorem RcAt.push {p : Int} {W' : World} (h : RcAt w wr n nx r V ws [p]) (hb : ∀ i, i < n → ∀ x ∈ nx i, 0 ≤ x ∧ x < n)
    (ho : OutN (w.heap.size + 1) W' V' (ws ++ nx p.toNat)) (hk : But (OwnB V) (wr.setCell ⟨w.heap.size, p.toNat, none⟩ (.bool true)) W') :
    RowAt W' (w.heap.size + 2) 1 35 (fun _ => V) ∧ RcAt w (W'.setCell ⟨w.heap.size + 2, 0, none⟩ V') n nx (fun i => if i = p.toNat then true else r i) V' (ws ++ nx p.toNat) [] := by
  obtain ⟨m1, m2, m3, m4⟩ := h.mark hb
  have hbox := m3.but hk (own_ne m4 m3)
  have hs1 := (But.refl (OneBlock (w.heap.size + 2)) W').setCell (p := ⟨w.heap.size + 2, 0, none⟩) (.inl rfl) V'
  have hbl : Below w.heap.size w W' := But.below m1 hk m1.size (fun k hk => by
    by_cases hv : V = .slice none 0 0
    · subst hv; simp [OwnB, Value.ownBlock] at hk
    · have := (m4.lt hk).1; omega)
  exact ⟨hbox, hbl.setCell (p := ⟨w.heap.size + 2, 0, none⟩) (by show w.heap.size ≤ w.heap.size + 2; omega) _, (m2.but hk (bool_ne m4 m2)).but hs1 (fun e => by have : w.heap.size = w.heap.size + 2 := e; omega), (hbox.set 0 V').congr fun i hi => by simp [show i = 0 by omega], ho.but hs1 (fun g hg e => own_ne ho hbox (by rw [show g = w.heap.size + 2 from e] at hg; exact hg)), by simpa using h.dfs.new hb⟩
end
def ReachHead (w : World) (n : Nat) (nx : Nat → List Int) (gk : Nat) (ok : Bool) (p : Int) (wr : World) : Prop :=
  ∃ r V ws, RcAt w wr n nx r V ws (if ok then [p] else []) ∧ (ok = false → ws = []) ∧ 3 * cntV r n + (ws ++ (if ok then [p] else [])).length ≤ gk ∧ gk ≤ 3 * n + 1
def ReachedN (w : World) (l : List InsV) (n : Nat) (e : Ending) (w' : World) : Prop :=
  Below w.heap.size w w' ∧ ((check10 l ≠ 0 ∧ e = .returned (.tuple #[.slice none 0 0, .int .i64 (check10 l)])) ∨
    (check10 l = 0 ∧ ∃ gb r, e = .returned (.tuple #[.slice (some ⟨gb, 0, none⟩) n n, .int .i64 0]) ∧ w.heap.size ≤ gb ∧ IsReach n (nextV l) r ∧ RowAt w' gb n 4 (boolsV fun i => r.getD i false)))
theorem nextV_two (l : List InsV) (i : Nat) : (nextV l i).length ≤ 2 := nxV_len _ _ _
end Go.Proofs.YtfdblmjgpoocpaaGreat

/- (Flow10F) The landed leaders. Contract; no condition but that the instructions lie in a row and that the goals are theirs. -/
namespace Go.Proofs.YtfdblmjgpoocpaaGreat
open Go.RowKit
set_option linter.unusedVariables false
set_option linter.unusedSimpArgs false

def LeadDone (w : World) (l : List InsV) (e : Ending) (w' : World) : Prop :=
  Below w.heap.size w w' ∧ ∃ V, e = .returned V ∧ OutN w.heap.size w' V (leadI l)
theorem own_below {base : Nat} {w W W' : World} {V : Value} {xs : List Int} (h : Below base w W) (ho : OutN base W V xs) (hb : But (OwnB V) W W') (hw : base ≤ w.heap.size) : Below base w W' :=
  But.below h hb (Nat.le_trans hw h.size) (fun k hk => by
    by_cases hv : V = .slice none 0 0
    · subst hv; simp [OwnB, Value.ownBlock] at hk
    · exact (ho.lt hk).1)
theorem zero_new (w : World) : OutN w.heap.size (w.alloc (.cells #[.int .i64 0] 3)) (.slice (some ⟨w.heap.size, 0, none⟩) 1 1) [0] :=
  OutN.of_block (cap := 1) (ys := [0]) (Nat.le_refl _) (heap_alloc_new w _) (by decide) (by decide) rfl rfl (fun u hu => by simp at hu; subst hu; exact ⟨_, rfl⟩)
end Go.Proofs.YtfdblmjgpoocpaaGreat
