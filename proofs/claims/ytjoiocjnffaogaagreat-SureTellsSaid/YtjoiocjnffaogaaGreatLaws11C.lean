/- SureTells: which registers are sure, as the document's own text has it. Contract; the condition is what is named of the landed Masks and Unset (Sure11). -/
import Derived.Test.YtjoiocjnffaogaaGreatLaws11B
namespace Go.Proofs.YtjoiocjnffaogaaGreat
open Go.RowKit
set_option linter.unusedVariables false
set_option linter.unusedSimpArgs false

def UnsT (l : List InsV) (p i r z : Int) : Prop :=
  (badP p ∧ i = 0 ∧ r = 0 ∧ z = 2) ∨ (¬ badP p ∧ check10 l ≠ 0 ∧ i = 0 ∧ r = 0 ∧ z = check10 l) ∨ (¬ badP p ∧ check10 l = 0 ∧ z = 0 ∧ UnsIs l p.toNat i r)
theorem UnsT.uniq {l : List InsV} {p i r z j s y : Int} (h : UnsT l p i r z) (k : UnsT l p j s y) : i = j ∧ r = s ∧ z = y := by
  rcases h with ⟨hb, rfl, rfl, rfl⟩ | ⟨hb, hc, rfl, rfl, rfl⟩ | ⟨hb, hc, rfl, hu⟩
  · rcases k with ⟨_, rfl, rfl, rfl⟩ | ⟨kb, _⟩ | ⟨kb, _⟩
    · exact ⟨rfl, rfl, rfl⟩
    · exact absurd hb kb
    · exact absurd hb kb
  · rcases k with ⟨kb, _⟩ | ⟨_, _, rfl, rfl, rfl⟩ | ⟨_, kc, _⟩
    · exact absurd kb hb
    · exact ⟨rfl, rfl, rfl⟩
    · exact absurd kc hc
  · rcases k with ⟨kb, _⟩ | ⟨_, kc, _⟩ | ⟨_, _, rfl, ku⟩
    · exact absurd kb hb
    · exact absurd hc kc
    · have := hu.uniq ku
      exact ⟨this.1, this.2, rfl⟩
def UnsU (w : World) (l : List InsV) (p : Int) (e : Ending) (w' : World) : Prop := ∃ i r z, e = .returned (.tuple #[.int .i64 i, .int .i64 r, .int .i64 z]) ∧ UnsT l p i r z ∧ Below w.heap.size w w'
theorem unset_uni {w w' : World} {l : List InsV} {p : Int} {e : Ending} (h : UnsetN w l p e w') : UnsU w l p e w' := by
  obtain ⟨hb, h⟩ := h
  rcases h with ⟨h1, rfl⟩ | ⟨h1, h2, rfl⟩ | ⟨h1, h2, i, r, rfl, hu⟩
  · exact ⟨0, 0, 2, rfl, .inl ⟨h1, rfl, rfl, rfl⟩, hb⟩
  · exact ⟨0, 0, _, rfl, .inr (.inl ⟨h1, h2, rfl, rfl, rfl⟩), hb⟩
  · exact ⟨i, r, 0, rfl, .inr (.inr ⟨h1, h2, rfl, hu⟩), hb⟩
theorem masks_err {l : List InsV} {p : Int} {n : Nat} (h : ¬ (¬ badP p ∧ check10 l = 0)) : ∃ z : Int, z ≠ 0 ∧ ∀ w e w', MasksN w l p n e w' → e = .returned (.tuple #[.slice none 0 0, .int .i64 z]) ∧ Below w.heap.size w w' := by
  by_cases hb : badP p
  · exact ⟨2, by decide, fun w e w' hh => ⟨(hh.2.resolve_right (fun h => by rcases h with h | h <;> exact h.1 hb)).2, hh.1⟩⟩
  · have h0 : check10 l ≠ 0 := fun e => h ⟨hb, e⟩
    exact ⟨check10 l, h0, fun w e w' hh => ⟨((hh.2.resolve_left (fun h => hb h.1)).resolve_right (fun h => h0 h.2.1)).2.2, hh.1⟩⟩
theorem masks_fine {l : List InsV} {p : Int} {n : Nat} (h : ¬ badP p ∧ check10 l = 0) {w w' : World} {e : Ending} (hh : MasksN w l p n e w') :
    Below w.heap.size w w' ∧ ∃ gb, e = .returned (.tuple #[.slice (some ⟨gb, 0, none⟩) n n, .int .i64 0]) ∧ w.heap.size ≤ gb ∧ RowAt w' gb n 30 (wordsU (maskV l p.toNat)) :=
  ⟨hh.1, ((hh.2.resolve_left (fun k => h.1 k.1)).resolve_left (fun k => k.2.1 h.2)).2.2⟩
/-- What SureTells has in memory. -/
structure TlAt (w wr : World) (ga gb n k : Nat) (f : Nat → Nat) : Prop where
  bel : Below w.heap.size w wr
  a : RowAt wr ga n 30 (wordsU fun i => if i < k then 77 else f i)
  b : RowAt wr gb n 30 (wordsU f)
theorem TlAt.step {w wr : World} {ga gb n k : Nat} {f : Nat → Nat} (h : TlAt w wr ga gb n k f) (hg : w.heap.size ≤ ga) (hne : ga ≠ gb) : TlAt w (wr.setCell ⟨ga, k, none⟩ (.int .u64 77)) ga gb n (k + 1) f :=
  ⟨h.bel.setCell (p := ⟨ga, k, none⟩) hg _, (h.a.set k _).congr fun i hi => by
    unfold wordsU
    by_cases e : i = k
    · subst e; rw [if_pos rfl]; dsimp only; rw [if_pos (by omega)]; rfl
    · rw [if_neg e]
      dsimp only
      by_cases e2 : i < k
      · rw [if_pos e2, if_pos (by omega)]
      · rw [if_neg e2, if_neg (by omega)], h.b.but ((But.refl (OneBlock ga) wr).setCell (p := ⟨ga, k, none⟩) (.inl rfl) _) (fun e => hne (by have : gb = ga := e; exact this.symm))⟩
theorem TlAt.drewN {w wr : World} {ga gb n k : Nat} {f : Nat → Nat} (h : TlAt w wr ga gb n k f) (q : Nat) : TlAt w (wr.drewN q) ga gb n k f := ⟨below_drewN h.bel q, h.a.heap rfl, h.b.heap rfl⟩
set_option maxRecDepth 100000 in
set_option maxHeartbeats 32000000 in
theorem tells_law (S : Sure11) (V : Value) (l : List InsV) (p : Int) (w : World) (h : IsCode w w.heap.size V l) (hp : InI p) : Calls Tryz.prog 3 #[V, .int .i64 p] w (Makes w (.bool true)) := by
  have HK := Lib.hid (fun W => awake11_any S W)
  have HC := Lib.hid (fun W (hb : Below w.heap.size w W) => (h.below hb (Nat.le_refl _) (Nat.le_refl _)).more hb.size)
  obtain ⟨A, cap, hV⟩ := h.len
  subst hV
  have HLg := Lib.hid (long11_any (.slice A l.length cap) l w _ h)
  cases hlg : longW l
  · rw [hlg] at HLg
    have hln := (longW_no hlg).1
    have HCC := Lib.hid (copyCode_any _ l w h (by omega) (longW_no hlg).2)
    have HSC := Lib.hid (fun U Z W hU hZ => sameCode_any U Z l l W hU hZ)
    rw [(sameCV_iff l l).2 rfl] at HSC
    have HM := Lib.hid (fun U W hc => S.masks U l p W hc hp)
    have HU := Lib.hid (fun U W hc => (S.unset U l p W hc hp).mono fun e w' hh => unset_uni hh)
    obtain ⟨n, hn⟩ : ∃ n, n = l.length := ⟨_, rfl⟩
    have HN := Lib.hid hn
    have HRM := Lib.hid (fun A' c' W hc => rMasks11_any A' n c' l p W hn hc (by omega))
    have HRU := Lib.hid (fun A' c' W hc => (rUnset11_any A' n c' l p W hn hc (by omega)).mono fun e w' hh => unset_uni hh)
    rw [← hn] at hln HLg HC HCC HM ⊢
    have hnI : (n : Int) ≤ 60 := by omega
    have HLN := Lib.hid hln
    by_cases h0 : ¬ badP p ∧ check10 l = 0
    case neg =>
      obtain ⟨z, hz, hze⟩ := masks_err (n := n) h0
      have HM2 := Lib.hid (fun U W hc => (HM.out U W hc).mono fun e w' hh => hze W e w' hh)
      have HR2 := Lib.hid (fun A' c' W hc => (HRM.out A' c' W hc).mono fun e w' hh => hze W e w' hh)
      have e1 : (z != z) = false := by simp
      clear h hlg hn h0 HM HRM hze hz hp S
      go_enter Tryz.func3, Tryz.ntmps3
      go_wp2_with (first
        | (go_at_call 4; (with_reducible refine HLg.out.mono ?_); rintro e w1 ⟨rfl, rfl⟩)
        | (go_at_call 6; (with_reducible refine HCC.out.mono ?_); rintro e w1 ⟨hb, U, Xs, rfl, ho⟩; obtain ⟨uA, uc, hue⟩ := owns_len ho.own; rw [← HN.out] at hue; subst hue; have HU1 := Lib.hid (ho.code (by have := HN.out; have := HLN.out; omega)); have B1 := Lib.hid hb; have HV1 := Lib.hid (HC.out _ hb); clear ho hb)
        | (go_at_call 7; (with_reducible refine (HM2.out _ _ HU1.out).mono ?_); rintro e w2 ⟨rfl, hb⟩; have B2 := Lib.hid hb; have HV2 := Lib.hid ((HV1.out.below hb (Nat.le_refl _) (Nat.le_refl _)).more hb.size); clear hb)
        | (go_at_call 8; (with_reducible refine (HR2.out _ _ _ HV2.out).mono ?_); rintro e w3 ⟨rfl, hb⟩; have B3 := Lib.hid (B2.out.trans (hb.mono B2.out.size)); clear hb))
      go_loopw [10] (fun i wr => i = .int .i64 0 ∧ Hid (Below w1.heap.size w1 wr)) (fun _ _ => 0)
      case atStart => exact ⟨rfl, B3.out⟩
      case round =>
        obtain ⟨rfl, HR⟩ := hrel
        have HUe := Lib.hid ((HU1.out.below HR.out (Nat.le_refl _) (Nat.le_refl _)).more HR.out.size)
        go_wp2_with (first
          | (go_at_call 9; (with_reducible refine (HU.out _ _ HUe.out).mono ?_); rintro e w4 ⟨i1, r1, z1, rfl, hu, hb⟩; have HT1 := Lib.hid hu; have R4 := Lib.hid (HR.out.trans (hb.mono HR.out.size)); have HV4 := Lib.hid ((HV1.out.below R4.out (Nat.le_refl _) (Nat.le_refl _)).more R4.out.size); clear hu hb)
          | (go_at_call 10; (with_reducible refine (HRU.out _ _ _ HV4.out).mono ?_); rintro e w5 ⟨i2, r2, z2, rfl, hu, hb⟩; obtain ⟨q1, q2, q3⟩ := hu.uniq HT1.out; subst q1 q2 q3; have R5 := Lib.hid (R4.out.trans (hb.mono R4.out.size)); have HU5 := Lib.hid ((HU1.out.below R5.out (Nat.le_refl _) (Nat.le_refl _)).more R5.out.size); have HV5 := Lib.hid ((HV1.out.below R5.out (Nat.le_refl _) (Nat.le_refl _)).more R5.out.size); have t1 : (i2 == i2) = true := (by simp); have t2 : (r2 == r2) = true := (by simp); have t3 : (z2 == z2) = true := (by simp); clear hu hb)
          | (go_at_call 11; (with_reducible refine (HSC.out _ _ _ HU5.out HV5.out).mono ?_); rintro e w6 ⟨rfl, hb⟩; have R6 := Lib.hid (R5.out.trans (hb.mono R5.out.size)); clear hb)
          | (go_at_call 5; (with_reducible refine (HK.out _).mono ?_); rintro e w7 ⟨rfl, hb⟩; have R7 := Lib.hid (B1.out.trans ((R6.out.trans (hb.mono R6.out.size)).mono B1.out.size)); clear hb))
        go_ret
        exact ⟨by first | rfl | simp, R7.out⟩
    case pos =>
      have HM2 := Lib.hid (fun U W hc => (HM.out U W hc).mono fun e w' hh => masks_fine h0 hh)
      have HR2 := Lib.hid (fun A' c' W hc => (HRM.out A' c' W hc).mono fun e w' hh => masks_fine h0 hh)
      obtain ⟨f, hf⟩ : ∃ f, f = maskV l p.toNat := ⟨_, rfl⟩
      rw [← hf] at HM2 HR2
      clear h hlg hn h0 HM HRM hf hp S
      go_enter Tryz.func3, Tryz.ntmps3
      go_wp2_with (first
        | (go_at_call 4; (with_reducible refine HLg.out.mono ?_); rintro e w1 ⟨rfl, rfl⟩)
        | (go_at_call 6; (with_reducible refine HCC.out.mono ?_); rintro e w1 ⟨hb, U, Xs, rfl, ho⟩; obtain ⟨uA, uc, hue⟩ := owns_len ho.own; rw [← HN.out] at hue; subst hue; have HU1 := Lib.hid (ho.code (by have := HN.out; have := HLN.out; omega)); have B1 := Lib.hid hb; have HV1 := Lib.hid (HC.out _ hb); clear ho hb)
        | (go_at_call 7; (with_reducible refine (HM2.out _ _ HU1.out).mono ?_); rintro e w2 ⟨hb, ga, rfl, hge, hrow⟩; have B2 := Lib.hid hb; have HGA := Lib.hid hge; have HRA := Lib.hid hrow; have HV2 := Lib.hid ((HV1.out.below hb (Nat.le_refl _) (Nat.le_refl _)).more hb.size); clear hb hge hrow)
        | (go_at_call 8; (with_reducible refine (HR2.out _ _ _ HV2.out).mono ?_); rintro e w3 ⟨hb, gb, rfl, hge, hrow⟩; have HNE := Lib.hid (show ga ≠ gb by have := HRA.out.lt; omega); have HT3 := Lib.hid (show TlAt w1 w3 ga gb n 0 f from ⟨B2.out.trans (hb.mono B2.out.size), (HRA.out.below hb HRA.out.lt).congr fun i hi => by unfold wordsU; simp, hrow⟩); clear hb hge hrow))
      go_loopw [10] (fun i wr => ∃ k : Nat, k ≤ n ∧ i = .int .i64 k ∧ Hid (TlAt w1 wr ga gb n k f)) (fun i _ => n - (intOf i).toNat)
      case atStart => exact ⟨0, by omega, rfl, HT3.out⟩
      case round =>
        obtain ⟨k, hk, rfl, HR⟩ := hrel
        by_cases hlt : k < n
        · have k0 : (0 : Int) ≤ (k : Int) := by omega
          have k1 : (k : Int) < (n : Int) := by omega
          have x1 : wr.cell? ⟨ga, k, none⟩ = some (.int .u64 ((f k : Nat) : Int)) := by
            have h := HR.out.a.cell hlt
            unfold wordsU at h
            dsimp only at h
            rw [if_neg (Nat.lt_irrefl k)] at h
            exact h
          have x2 : wr.cell? ⟨gb, k, none⟩ = some (.int .u64 ((f k : Nat) : Int)) := HR.out.b.cell hlt
          have fz := HR.out.a.frozen k
          have HST := Lib.hid (fun q => (HR.out.drewN q).step HGA.out HNE.out)
          generalize f k = m at *
          have e1 : (((m : Nat) : Int) != ((m : Nat) : Int)) = false := by simp
          have e2 : (m != m) = false := by simp
          go_wp2
          go_quiet (fail)
          go_wp2
          go_roundw
          case rel => exact ⟨k + 1, by omega, by go_num, HST.out _⟩
          case measure => simp [intOf]; omega
        · obtain rfl : k = n := by omega
          have HRB := Lib.hid HR.out.bel
          have HUe := Lib.hid ((HU1.out.below HR.out.bel (Nat.le_refl _) (Nat.le_refl _)).more HR.out.bel.size)
          go_wp2_with (first
            | (go_at_call 9; (with_reducible refine (HU.out _ _ HUe.out).mono ?_); rintro e w4 ⟨i1, r1, z1, rfl, hu, hb⟩; have HT1 := Lib.hid hu; have R4 := Lib.hid (HRB.out.trans (hb.mono HRB.out.size)); have HV4 := Lib.hid ((HV1.out.below R4.out (Nat.le_refl _) (Nat.le_refl _)).more R4.out.size); clear hu hb)
            | (go_at_call 10; (with_reducible refine (HRU.out _ _ _ HV4.out).mono ?_); rintro e w5 ⟨i2, r2, z2, rfl, hu, hb⟩; obtain ⟨q1, q2, q3⟩ := hu.uniq HT1.out; subst q1 q2 q3; have R5 := Lib.hid (R4.out.trans (hb.mono R4.out.size)); have HU5 := Lib.hid ((HU1.out.below R5.out (Nat.le_refl _) (Nat.le_refl _)).more R5.out.size); have HV5 := Lib.hid ((HV1.out.below R5.out (Nat.le_refl _) (Nat.le_refl _)).more R5.out.size); have t1 : (i2 == i2) = true := (by simp); have t2 : (r2 == r2) = true := (by simp); have t3 : (z2 == z2) = true := (by simp); clear hu hb)
            | (go_at_call 11; (with_reducible refine (HSC.out _ _ _ HU5.out HV5.out).mono ?_); rintro e w6 ⟨rfl, hb⟩; have R6 := Lib.hid (R5.out.trans (hb.mono R5.out.size)); clear hb)
            | (go_at_call 5; (with_reducible refine (HK.out _).mono ?_); rintro e w7 ⟨rfl, hb⟩; have R7 := Lib.hid (B1.out.trans ((R6.out.trans (hb.mono R6.out.size)).mono B1.out.size)); clear hb))
          go_ret
          exact ⟨by first | rfl | simp, R7.out⟩
  · rw [hlg] at HLg
    clear hlg HC h hp S
    go_enter Tryz.func3, Tryz.ntmps3
    go_wp2_with (first
      | (go_at_call 4; (with_reducible refine HLg.out.mono ?_); rintro e w2 ⟨rfl, rfl⟩)
      | (go_at_call 5; (with_reducible refine (HK.out _).mono ?_); rintro e w1 ⟨rfl, hb⟩; have B1 := Lib.hid hb; clear hb))
    go_ret
    exact ⟨rfl, B1.out⟩
end Go.Proofs.YtjoiocjnffaogaaGreat
