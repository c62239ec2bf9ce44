/- The document's own Get and Split of layer 7. Contracts; no condition but that the bytes are few. -/
import Derived.Test.YtobbjphpngckgaaRef07D
import Derived.Test.YtobbjphpngckgaaCode07K
namespace Go.Proofs.Ytobbjphpngckgaa
open Go.RowKit Go.Shelf
set_option linter.unusedVariables false
set_option linter.unusedSimpArgs false

theorem rget7_any (X : Value) (b : List Int) (k : Int) (w : World) (hX : IsBytes w w.heap.size X b) (hs : b.length ≤ 1000000) :
    Calls Try.prog 23 #[X, .int .i64 k] w (GotDone w (gotV b k)) := by
  by_cases h : k < 0 ∨ b.length < k ∨ k = b.length ∨ 33 ≤ b.getD k.toNat 0
  · exact rget7_early X b k w hX h
  · rw [not_or, not_or, not_or] at h
    obtain ⟨h1, h2, h3, h4⟩ := h
    obtain ⟨kn, rfl⟩ : ∃ kn : Nat, k = kn := ⟨k.toNat, by omega⟩
    rw [Int.toNat_natCast] at h4
    have e : gotV b (kn : Int) = getI b kn := by unfold gotV; rw [if_neg (by omega), Int.toNat_natCast]
    rw [e]
    exact rget7_main X b kn w hX hs (by omega) h4
set_option maxRecDepth 100000 in
set_option maxHeartbeats 8000000 in
theorem rsplit7_any (X : Value) (b : List Int) (w : World) (hX : IsBytes w w.heap.size X b) : Calls Try.prog 25 #[X] w (SplitDone w (splitV b)) := by
  obtain ⟨A, cap, rfl⟩ := hX.len
  have hm := hX.2.1
  unfold maxLen at hm
  by_cases hl : 4096 < b.length
  · have hlI : (4096 : Int) < (b.length : Int) := by omega
    have HE : Hid ((splitV b).err = 3 ∧ (splitV b).at_ = 4096) := Lib.hid (by unfold splitV; rw [if_pos hl]; exact ⟨rfl, rfl⟩)
    clear hX hl
    go_enter Try.func25, Try.ntmps25
    go_wp2
    refine bodyPost_ret (v := .tuple #[.slice none 0 0, .slice none 0 0, .agg #[.int .i64 3, .int .i64 4096]]) (by simp [results, Try.results25, go_sem]) rfl ?_
    exact split_bad HE.out (by decide) ((Below.refl _ w).alloc (Nat.le_refl _) _) rfl
  have hlI : ¬ (4096 : Int) < (b.length : Int) := by omega
  have HE : Hid (splitV b = splitF b (b.length + 1) 0 [] []) := Lib.hid (by unfold splitV; rw [if_neg hl])
  have HX := Lib.hid hX
  have HBY := Lib.hid hX.1
  obtain ⟨n, hn⟩ : ∃ n, n = b.length := ⟨_, rfl⟩
  have HN := Lib.hid hn
  rw [← hn] at hm hl hlI HX HE ⊢
  have HLN := Lib.hid hl
  have h0 : SplAt w (w.alloc (.cells #[.int .i64 0, .int .i64 0] 41)) (.slice none 0 0) (.slice none 0 0) [] [] [] :=
    ⟨OwnC.nil _ _, Owns.nil _ _ _ _ _, (Below.refl _ w).alloc (Nat.le_refl _) _, heap_alloc_new w _, fun i hi => absurd hi (by simp), by simp⟩
  have H0 := Lib.hid h0
  clear hX h0 hn hl
  go_enter Try.func25, Try.ntmps25
  go_wp2
  go_loopw [5, 6, 7] (fun V P at_ wr => ∃ (f k : Nat) (l : List InsV) (ps : List Int) (Xs : List Value), at_ = .int .i64 k ∧ k ≤ n ∧ Hid (splitV b = splitF b f k l ps ∧ n + 1 ≤ f + k ∧ l.length ≤ k ∧ ps.length ≤ k ∧ SplAt w wr V P l ps Xs)) (fun _ _ at_ _ => n - (intOf at_).toNat)
  case atStart => exact ⟨n + 1, 0, [], [], [], rfl, Nat.zero_le _, ⟨HE.out, by omega, by simp, by simp, H0.out⟩⟩
  case round =>
    obtain ⟨f, k, l, ps, Xs, rfl, hk, HR⟩ := hrel
    obtain ⟨hs, hf, hll, hpl, hsp⟩ := HR.out
    have HS := Lib.hid hs
    have HSP := Lib.hid hsp
    have HLL := Lib.hid (And.intro hll hpl)
    obtain ⟨pA, pc, hpe⟩ := owns_len hsp.pls
    obtain ⟨vA, vc, hve⟩ := owns_len hsp.own.own
    subst hpe hve
    clear HR hs hsp hll hpl
    by_cases hlt : k < n
    · have hltI : (k : Int) < (n : Int) := by omega
      have hkl : k < b.length := by rw [← HN.out]; exact hlt
      have HKL := Lib.hid hkl
      obtain ⟨f', rfl⟩ : ∃ f', f = f' + 1 := ⟨f - 1, by omega⟩
      have HF := Lib.hid hf
      have hbl := HLN.out
      have hG := rget7_any (.slice A n cap) b k wr ((HX.out.below HSP.out.bel (Nat.le_refl _)).more HSP.out.bel.size) (by rw [← HN.out]; omega)
      rw [getI_gotV (by omega)] at hG
      by_cases hz : (getI b k).err = 0
      · have HG := Lib.hid (hG.mono fun e w' hh => And.intro hh.1 (hh.2.resolve_left (fun h => h.1 hz)))
        have HST := Lib.hid (HS.out.trans (split_step hkl hz))
        have HIN := Lib.hid (got_insB HBY.out (by omega) hz)
        have hpg := put_get HBY.out (show k ≤ b.length by omega) hz
        have HNX := Lib.hid (And.intro hpg.2.2.2.1 hpg.2.2.2.2)
        generalize getI b k = g at HG HST HIN HNX
        obtain ⟨ge, ga, ⟨op, a, b1, c, n1, args⟩, next⟩ := g
        dsimp only at HG HST HIN HNX
        clear hG hz hpg hkl hf hbl hlt
        go_wp2_with (first
          | (go_at_call 23; (with_reducible refine HG.out.mono ?_); rintro e w2 ⟨hb, _, X, rfl, hX⟩; obtain ⟨xA, xc, hxe⟩ := owns_len hX; subst hxe; have ha := ((Below.refl w2.heap.size w2).alloc (Nat.le_refl _) (.cells (insCells op a b1 c n1 (.slice xA args.length xc)) 35)).alloc (by simp) (.cells #[.int .i64 0, .int .i64 0] 41); have HX2 := Lib.hid (Owns.below hX ha (Nat.le_refl _)); have HS2 := Lib.hid ((HSP.out.call hb).call ha); have HWR := Lib.hid (Nat.le_trans hb.size ha.size); clear hb hX ha)
          | (at_builtin; refine wpList_outC rfl _ _ rfl (y := ⟨op, a, b1, c, n1, args⟩) rfl rfl (by simp) HS2.out.own (Owns.base HX2.out (Nat.zero_le _)) rfl HIN.out HS2.out.size (by have := HLL.out.1; have := HLN.out; omega) ?_; intro V3 w3 hc hb hk3 hkp; have HC3 := Lib.hid hc; have HB3 := Lib.hid hb; have HP3 := Lib.hid (hkp _ _ _ _ _ _ (show (3 : TypeId) ≠ 35 by decide) HS2.out.pls); clear hc hb hk3 hkp)
          | (at_builtin; refine @wpList_outW w3 _ _ _ _ _ rfl (.tmp 34) (.tmp 36) rfl (.slice pA ps.length pc) ps k (w.heap.size + 1) rfl rfl HP3.out (Nat.le_trans HS2.out.size HB3.out.size) (by have := HLL.out.2; have := HLN.out; omega) ?_; intro V4 w4 hc hb hk4 hs4 hw4; have HA := Lib.hid (HS2.out.app (y := ⟨op, a, b1, c, n1, args⟩) HX2.out (fun g hg => (HSP.out.pls.lt hg).2) HC3.out HB3.out HB3.out.size hc hb hk4 hs4 HP3.out hw4); clear hc hb hk4 hs4 hw4))
        have hnx := HNX.out
        have hfl := HF.out
        have hnn := HN.out
        have hll := HLL.out
        go_roundw
        case rel => exact ⟨f', next, _, _, _, rfl, by omega, ⟨HST.out, by omega, by simp; omega, by simp; omega, HA.out⟩⟩
        case measure => simp [intOf]; omega
      · have HG := Lib.hid (hG.mono fun e w' hh => And.intro hh.1 (hh.2.resolve_right (fun h => hz h.1)))
        have HST := Lib.hid (HS.out.trans (split_stop hkl hz))
        generalize getI b k = g at HG HST hz
        obtain ⟨ge, ga, y, next⟩ := g
        dsimp only at HG HST hz
        have HZ := Lib.hid hz
        have hne : (ge != 0) = true := by simpa using hz
        clear hG hz hkl hf hbl hlt
        go_wp2_with (go_at_call 23; (with_reducible refine HG.out.mono ?_); rintro e w2 ⟨hb, _, rfl⟩; have ha := ((Below.refl w2.heap.size w2).alloc (Nat.le_refl _) (.cells (insCells 0 0 0 0 0 (.slice none 0 0)) 35)).alloc (by simp) (.cells #[.int .i64 ge, .int .i64 ga] 41); have HS2 := Lib.hid ((HSP.out.call hb).call ha); clear hb ha; have q0 := flt0 HS2.out.fau; have q1 := flt1 HS2.out.fau; have r0 := fltf HS2.out.fau 0; have r1 := fltf HS2.out.fau 1)
        have HB := Lib.hid ((below_one HS2.out.bel (only2 _ w.heap.size (.int .i64 ge) (.int .i64 ga)) (Nat.le_refl _) HS2.out.bel.size).drew)
        go_region
        go_wp2
        refine bodyPost_ret (v := .tuple #[.slice none 0 0, .slice none 0 0, .agg #[.int .i64 ge, .int .i64 ga]]) (by simp [results, Try.results25, go_sem, q0, q1]) rfl ?_
        exact split_bad (by rw [HST.out]; exact ⟨rfl, rfl⟩) HZ.out HB.out rfl
    · obtain rfl : k = n := by omega
      have HSE : Hid (splitV b = ⟨0, 0, l, ps⟩) := Lib.hid (by rw [HS.out, HN.out]; exact split_end)
      have q0 := flt0 HSP.out.fau
      have q1 := flt1 HSP.out.fau
      have r0 := fltf HSP.out.fau 0
      have r1 := fltf HSP.out.fau 1
      clear hf
      have HB := Lib.hid (below_one HSP.out.bel (only2 wr w.heap.size (.int .i64 0) (.int .i64 0)) (Nat.le_refl _) HSP.out.bel.size)
      have HC := Lib.hid (HSP.out.own.but (only2 wr w.heap.size (.int .i64 0) (.int .i64 0)) (fun g hg e => by have := (HSP.out.own.own.lt hg).1; have e' : g = w.heap.size := e; omega) (fun i hi g hg e => by
        have e' : g = w.heap.size := e
        subst e'
        exact absurd hg.symm ((HSP.out.own.nums i hi).not_own HSP.out.fau (fun cur e => by injection e with _ e _; exact absurd e (by decide)))))
      have HP := Lib.hid (own_one HSP.out.pls (only2 wr w.heap.size (.int .i64 0) (.int .i64 0)) (Nat.lt_succ_self _))
      go_wp2
      refine bodyPost_ret (v := .tuple #[.slice vA l.length vc, .slice pA ps.length pc, .agg #[.int .i64 0, .int .i64 0]]) (by simp [results, Try.results25, go_sem, q0, q1]) rfl ?_
      exact split_good HSE.out HB.out (HC.out.base (Nat.le_succ _)) (Owns.base HP.out (Nat.le_succ _)) rfl
end Go.Proofs.Ytobbjphpngckgaa
