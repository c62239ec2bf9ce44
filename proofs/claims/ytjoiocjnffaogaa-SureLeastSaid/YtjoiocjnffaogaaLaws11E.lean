/- SureLeast: to what is not sure there is a way, said outright. Contract; the condition is what is named of the landed Masks and Unset (Sure11). -/
import Derived.Test.YtjoiocjnffaogaaLaws11D
import Derived.Test.YtjoiocjnffaogaaMath11E
import Derived.Test.YtjoiocjnffaogaaS16
namespace Go.Proofs.Ytjoiocjnffaogaa
open Go.RowKit
set_option linter.unusedVariables false
set_option linter.unusedSimpArgs false

/-- What the search has in memory. -/
structure SkAt (w wr : World) (n : Nat) (nx : Nat → List Int) (r : Nat → Bool) (V : Value) (ws pend : List Int) : Prop where
  bel : Below w.heap.size w wr
  row : RowAt wr w.heap.size n 4 (boolsV r)
  own : OutN (w.heap.size + 1) wr V ws
  dfs : Dfs n nx r (ws ++ pend)
section
variable {w wr W : World} {n : Nat} {nx : Nat → List Int} {r : Nat → Bool} {V V' : Value} {ws pend ys : List Int}
theorem own_cut {base q cap : Nat} {p : Int} (h : OutN base wr (.slice (some ⟨q, 0, none⟩) (ws.length + 1) cap) (ws ++ [p])) : OutN base wr (.slice (some ⟨q, 0, none⟩) ws.length cap) ws := by
  have hv : Value.slice (some ⟨q, 0, none⟩) (ws.length + 1) cap ≠ .slice none 0 0 := fun e => by cases e
  obtain ⟨g', cap', cur, he, h1, h2, h3, h4, h5, h6, h7, h8⟩ := h.parts hv
  simp only [Value.slice.injEq, Option.some.injEq, Addr.mk.injEq, true_and, and_true] at he
  obtain ⟨rfl, _, rfl⟩ := he
  simp only [List.length_append, List.length_cons, List.length_nil, Nat.zero_add] at h4 h7
  have ht : cur.toList.take ws.length = ws.map (Value.int .i64) := by
    have := congrArg (List.take ws.length) h7
    rw [List.take_take, Nat.min_eq_left (by omega), List.map_append, List.take_append_of_le_length (by simp)] at this
    rw [this, List.take_of_length_le (by simp)]
  exact OutN.of_block (cap := cap) h1 h3 (by omega) h5 h6 ht h8
theorem SkAt.pop {p : Int} {q cap : Nat} (h : SkAt w wr n nx r (.slice (some ⟨q, 0, none⟩) (ws.length + 1) cap) (ws ++ [p]) []) : SkAt w wr n nx r (.slice (some ⟨q, 0, none⟩) ws.length cap) ws [p] :=
  ⟨h.bel, h.row, own_cut h.own, by simpa using h.dfs⟩
theorem SkAt.old {p : Int} (h : SkAt w wr n nx r V ws [p]) (hp : r p.toNat = true) : SkAt w wr n nx r V ws [] :=
  ⟨h.bel, h.row, h.own, by simpa using h.dfs.old hp⟩
end
/-- The search with one marked: rows alone. -/
structure MrAt (w W : World) (n : Nat) (r : Nat → Bool) (V : Value) (ws : List Int) : Prop where
  bel : Below w.heap.size w W
  row : RowAt W w.heap.size n 4 (boolsV r)
  own : OutN (w.heap.size + 1) W V ws
section
variable {w wr W : World} {n : Nat} {nx : Nat → List Int} {r : Nat → Bool} {V V' : Value} {ws pend ys : List Int}
theorem SkAt.mark {p : Int} (h : SkAt w wr n nx r V ws pend) : MrAt w (wr.setCell ⟨w.heap.size, p.toNat, none⟩ (.bool true)) n (fun i => if i = p.toNat then true else r i) V ws := by
  have hb1 := (But.refl (OneBlock w.heap.size) wr).setCell (p := ⟨w.heap.size, p.toNat, none⟩) (.inl rfl) (.bool true)
  refine ⟨h.bel.setCell (p := ⟨w.heap.size, p.toNat, none⟩) (Nat.le_refl _) _, (h.row.set p.toNat _).congr fun i hi => ?_, h.own.but hb1 (fun g hg e => bool_ne h.own h.row (by rw [show g = w.heap.size from e] at hg; exact hg))⟩
  unfold boolsV
  by_cases e : i = p.toNat <;> simp [e]
theorem MrAt.below (h : MrAt w W n r V ws) {W' : World} (hb : Below W.heap.size W W') : MrAt w W' n r V ws :=
  ⟨h.bel.trans (hb.mono h.bel.size), h.row.below hb h.row.lt, h.own.below hb (Nat.le_refl _)⟩
/-- Marked, and nothing comes behind it. -/
theorem MrAt.dead {p : Int} (h : MrAt w W n (fun i => if i = p.toNat then true else r i) V ws) (hd : Dfs n nx r (ws ++ [p])) (hb : ∀ i, i < n → ∀ x ∈ nx i, 0 ≤ x ∧ x < n) (h0 : nx p.toNat = []) :
    SkAt w W n nx (fun i => if i = p.toNat then true else r i) V ws [] := by
  have := hd.new hb
  rw [h0] at this
  exact ⟨h.bel, h.row, h.own, this⟩
theorem MrAt.push {p : Int} {W' : World} (h : MrAt w W n (fun i => if i = p.toNat then true else r i) V ws) (hd : Dfs n nx r (ws ++ [p])) (hb : ∀ i, i < n → ∀ x ∈ nx i, 0 ≤ x ∧ x < n)
    (ho : OutN (w.heap.size + 1) W' V' (ws ++ nx p.toNat)) (hk : But (OwnB V) W W') :
    SkAt w W' n nx (fun i => if i = p.toNat then true else r i) V' (ws ++ nx p.toNat) [] := by
  have hbl : Below w.heap.size w W' := But.below h.bel hk h.bel.size (fun k hk => by
    by_cases hv : V = .slice none 0 0
    · subst hv; simp [OwnB, Value.ownBlock] at hk
    · have := (h.own.lt hk).1; omega)
  exact ⟨hbl, h.row.but hk (bool_ne h.own h.row), ho, by simpa using hd.new hb⟩
end
/-- The row of what is on a way, and all that was there before. -/
structure WyAt (w W : World) (n : Nat) (r : Nat → Bool) : Prop where
  bel : Below w.heap.size w W
  row : RowAt W w.heap.size n 4 (boolsV r)
theorem WyAt.drewN {w W : World} {n : Nat} {r : Nat → Bool} (h : WyAt w W n r) (q : Nat) : WyAt w (W.drewN q) n r := ⟨below_drewN h.bel q, h.row.heap rfl⟩
/-- The search, with what it still may cost. -/
def SkHead (w : World) (n : Nat) (nx : Nat → List Int) (gk : Nat) (V : Value) (wr : World) : Prop :=
  ∃ r ws, SkAt w wr n nx r V ws [] ∧ 3 * cntV r n + ws.length ≤ gk ∧ gk ≤ 3 * n + 1
set_option maxRecDepth 100000 in
set_option maxHeartbeats 32000000 in
theorem least_law (S : Sure11) (V : Value) (l : List InsV) (p0 r0 : Int) (w : World) (h : IsCode w w.heap.size V l) : Calls Try.prog 5 #[V, .int .i64 p0, .int .i64 r0] w (Makes w (.bool true)) := by
  have HK := Lib.hid (fun W => awake11_any S W)
  have HC := Lib.hid (fun W (hb : Below w.heap.size w W) => (h.below hb (Nat.le_refl _) (Nat.le_refl _)).more hb.size)
  obtain ⟨A, cap, hV⟩ := h.len
  subst hV
  have HLg := Lib.hid (fun W B hc => long11_any (.slice A l.length cap) l W B hc)
  have HPK := Lib.hid (fun W => pk_any p0 8 W (by decide) (by decide))
  have HPR := Lib.hid (fun W => pk_any r0 64 W (by decide) (by decide))
  have hpb := pk_bd p0 (n := 8) (by decide)
  have hrb := pk_bd r0 (n := 64) (by decide)
  obtain ⟨p, hp⟩ : ∃ p : Nat, pkV p0 8 = p := ⟨(pkV p0 8).toNat, by omega⟩
  obtain ⟨r, hr⟩ : ∃ r : Nat, pkV r0 64 = r := ⟨(pkV r0 64).toNat, by omega⟩
  rw [hp] at HPK hpb
  rw [hr] at HPR hrb
  have hp8 : p ≤ 7 := by omega
  have pI0 : (0 : Int) ≤ (p : Int) := by omega
  have pI8 : (p : Int) ≤ 7 := by omega
  have rI0 : (0 : Int) ≤ (r : Int) := by omega
  have rI8 : (r : Int) < 64 := by omega
  have hr64 : r < 64 := by omega
  cases hlg : longW l with
  | true =>
    rw [hlg] at HLg
    generalize l.length = n at *
    clear h hlg hp hr
    go_enter Try.func5, Try.ntmps5
    go_wp2_with (first
      | (go_at_call 8; (with_reducible refine (HK.out w).mono ?_); rintro e w1 ⟨rfl, hb⟩; have HB1 := Lib.hid hb; have HC1 := Lib.hid (HC.out w1 hb); clear hb)
      | (go_at_call 10; (with_reducible refine (HPK.out _).mono ?_); rintro e w2 ⟨rfl, hw⟩; subst hw)
      | (go_at_call 10; (with_reducible refine (HPR.out _).mono ?_); rintro e w2 ⟨rfl, hw⟩; subst hw)
      | (go_at_call 11; (with_reducible refine (HLg.out w1 _ HC1.out).mono ?_); rintro e w2 ⟨rfl, hw⟩; subst hw))
    go_ret
    exact ⟨rfl, HB1.out⟩
  | false =>
    have hl60 := (longW_no hlg).1
    rw [hlg] at HLg
    have HM0 := Lib.hid (fun W hc => S.masks (.slice A l.length cap) l p W hc (by unfold InI; omega))
    by_cases h0 : check10 l = 0
    case neg =>
      have hnb : ¬ badP p := not_bad (by omega) (by omega)
      have HM2 : Hid (∀ W, IsCode W W.heap.size (.slice A l.length cap) l → Calls Try.prog 6 #[.slice A l.length cap, .int .i64 p] W fun e w' => e = .returned (.tuple #[.slice none 0 0, .int .i64 (check10 l)]) ∧ Below W.heap.size W w') := Lib.hid (fun W hc => (HM0.out W hc).mono fun e w' hh => ⟨((hh.2.resolve_left (fun h => hnb h.1)).resolve_right (fun h => h0 h.2.1)).2.2, hh.1⟩)
      have hne : (check10 l != 0) = true := by simpa using h0
      generalize check10 l = z at *
      generalize l.length = n at *
      clear h hlg hp hr h0 hl60 S HM0 hnb
      go_enter Try.func5, Try.ntmps5
      go_wp2_with (first
        | (go_at_call 8; (with_reducible refine (HK.out w).mono ?_); rintro e w1 ⟨rfl, hb⟩; have HB1 := Lib.hid hb; have HC1 := Lib.hid (HC.out w1 hb); clear hb)
        | (go_at_call 10; (with_reducible refine (HPK.out _).mono ?_); rintro e w2 ⟨rfl, hw⟩; subst hw)
        | (go_at_call 10; (with_reducible refine (HPR.out _).mono ?_); rintro e w2 ⟨rfl, hw⟩; subst hw)
        | (go_at_call 11; (with_reducible refine (HLg.out w1 _ HC1.out).mono ?_); rintro e w2 ⟨rfl, hw⟩; subst hw)
        | (go_at_call 6; (with_reducible refine (HM2.out w1 HC1.out).mono ?_); rintro e w2 ⟨rfl, hb⟩; have HB2 := Lib.hid (HB1.out.trans (hb.mono HB1.out.size)); clear hb))
      go_ret
      exact ⟨by first | rfl | simp, HB2.out⟩
    case pos =>
      have hg := good10 h0
      have HG := Lib.hid hg
      have HM2 := Lib.hid (fun W (hc : IsCode W W.heap.size (.slice A l.length cap) l) => S.masks_ok (p := p) hc (by omega) h0)
      have HM3 := Lib.hid (fun W (hc : IsCode W W.heap.size (.slice A l.length cap) l) => S.masks_ok (p := p + 1) hc (by omega) h0)
      rw [show ((p + 1 : Nat) : Int) = (p : Int) + 1 by omega] at HM3
      have HN2 : Hid (∀ W, IsCode W W.heap.size (.slice A l.length cap) l → Calls Try.prog 12 #[.slice A l.length cap] W fun e w' => Below W.heap.size W w' ∧ ∃ g Xs, e = .returned (.tuple #[.slice (some ⟨g, 0, none⟩) l.length l.length, .int .i64 0]) ∧ Lists W.heap.size w' g l.length Xs (nextV l)) := Lib.hid (fun W hc => (next_any (.slice A l.length cap) l W hc).mono fun e w' hh => by
        obtain ⟨_, g, Xs, he, hl⟩ := hh.2.resolve_left (fun h => h.1 h0)
        exact ⟨hh.1, g, Xs, he, hl⟩)
      have HR2 : Hid (∀ W, IsCode W W.heap.size (.slice A l.length cap) l → Calls Try.prog 14 #[.slice A l.length cap] W fun e w' => Below W.heap.size W w' ∧ ∃ gr rl, e = .returned (.tuple #[.slice (some ⟨gr, 0, none⟩) l.length l.length, .int .i64 0]) ∧ IsReach l.length (nextV l) rl ∧ RowAt w' gr l.length 4 (boolsV fun i => rl.getD i false)) := Lib.hid (fun W hc => (reached10_any (.slice A l.length cap) l W hc).mono fun e w' hh => by
        obtain ⟨_, gr, rl, he, _, hr, hrow⟩ := hh.2.resolve_left (fun h => h.1 h0)
        exact ⟨hh.1, gr, rl, he, hr, hrow⟩)
      have HBD := Lib.hid (nextR_bd hg r)
      have HLA := Lib.hid (fun i (hi : i < l.length) rr hd rl hrl => lst_at (p := p) hg hr64 hi (rr := rr) hd (rl := rl) hrl)
      obtain ⟨n, hn⟩ : ∃ n, n = l.length := ⟨_, rfl⟩
      have HN := Lib.hid hn
      have hnI : (n : Int) ≤ 60 := by omega
      have hnp : 0 < n := by have := hg.pos; omega
      have hn60 : n ≤ 60 := by omega
      have HNP := Lib.hid (And.intro hnp hn60)
      have hnpI : (0 : Int) < (n : Int) := by omega
      have hnz : (n == 0) = false := by simp; omega
      have HNZ : (((n : Nat) : Int) == 0) = false := by simp; omega
      have hnn : (n != n) = false := by simp
      have hpw : wrap64 ((p : Int) + 1) = (p : Int) + 1 := by unfold wrap64; omega
      have hmk := make_bools n (by omega)
      have HST : Hid (∀ W : World, SkHead W n (nextR l r) (3 * n + 1) (.slice (some ⟨W.heap.size + 1, 0, none⟩) 1 1) ((W.alloc (.cells (madeCells (Value.bool false).cells (n * 1)) 4)).alloc (.cells #[.int .i64 0] 3))) := Lib.hid (fun W => by
        have h1 := one_new (W.alloc (.cells (madeCells (Value.bool false).cells (n * 1)) 4)) 0
        rw [World.size_alloc] at h1
        exact ⟨fun _ => false, [0], ⟨(((Below.refl _ _).alloc (Nat.le_refl _) _).alloc (by simp) _), (bools_made n W).below (((Below.refl _ _).alloc (Nat.le_refl _) _)) (by rw [World.size_alloc]; omega), h1, by simpa using Dfs.start hnp⟩, by have := cnt_le (fun _ => false) n; simp; omega, Nat.le_refl _⟩)
      generalize madeCells (Value.bool false).cells (n * 1) = mb at *
      rw [← hn] at HC HLg HM2 HM3 HN2 HR2 HBD HLA ⊢
      clear h hlg hp hr h0 hl60 S hg hn HM0
      go_enter Try.func5, Try.ntmps5
      go_wp2_with (first
        | (go_at_call 8; (with_reducible refine (HK.out w).mono ?_); rintro e w1 ⟨rfl, hb⟩; have HB1 := Lib.hid hb; have HC1 := Lib.hid (HC.out w1 hb); clear hb)
        | (go_at_call 10; (with_reducible refine (HPK.out _).mono ?_); rintro e w2 ⟨rfl, hw⟩; subst hw)
        | (go_at_call 10; (with_reducible refine (HPR.out _).mono ?_); rintro e w2 ⟨rfl, hw⟩; subst hw)
        | (go_at_call 11; (with_reducible refine (HLg.out w1 _ HC1.out).mono ?_); rintro e w2 ⟨rfl, hw⟩; subst hw)
        | (go_at_call 6; (with_reducible refine (HM2.out w1 HC1.out).mono ?_); rintro e w2 ⟨hb, gb, rfl, hge, hrow⟩; have HB2 := Lib.hid (HB1.out.trans (hb.mono HB1.out.size)); have HC2 := Lib.hid (HC.out w2 HB2.out); have HMA := Lib.hid hrow; clear hb hge hrow)
        | (go_at_call 6; (with_reducible refine (HM3.out w2 HC2.out).mono ?_); rintro e w3 ⟨hb, gc, rfl, hge, hrow⟩; have HB3 := Lib.hid (HB2.out.trans (hb.mono HB2.out.size)); have HC3 := Lib.hid (HC.out w3 HB3.out); have HMB := Lib.hid hrow; have HMA3 := Lib.hid (HMA.out.below hb HMA.out.lt); clear hb hge hrow)
        | (go_at_call 12; (with_reducible refine (HN2.out w3 HC3.out).mono ?_); rintro e w4 ⟨hb, g, Xs, rfl, hl⟩; have HB4 := Lib.hid (HB3.out.trans (hb.mono HB3.out.size)); have HC4 := Lib.hid (HC.out w4 HB4.out); have HLS := Lib.hid hl; have HMA4 := Lib.hid (HMA3.out.below hb HMA3.out.lt); have HMB4 := Lib.hid (HMB.out.below hb HMB.out.lt); clear hb hl)
        | (go_at_call 14; (with_reducible refine (HR2.out w4 HC4.out).mono ?_); rintro e w5 ⟨hb, gr, rl, rfl, hrl, hrow⟩; have HB5 := Lib.hid (HB4.out.trans (hb.mono HB4.out.size)); have HRR := Lib.hid hrl; have HRW := Lib.hid hrow; have HMA5 := Lib.hid (HMA4.out.below hb HMA4.out.lt); have HMB5 := Lib.hid (HMB4.out.below hb HMB4.out.lt); have HLR5 := Lib.hid (HLS.out.row.below hb HLS.out.row.lt); have HLO5 := Lib.hid (fun i hi => (HLS.out.own i hi).below hb (Nat.le_refl _)); clear hb hrl hrow))
      go_loopg [17, 18] (3 * n + 1) (fun gk v17 _ wr => Hid (SkHead w5 n (nextR l r) gk v17 wr))
      case atStart => exact Lib.hid (HST.out w5)
      case round =>
        obtain ⟨rr, ws, hsk, hme, hgk⟩ := hrel.out
        clear hrel
        rcases List.eq_nil_or_concat ws with rfl | ⟨wl, q, rfl⟩
        · obtain ⟨sA, sc, hse, _⟩ := out_len hsk.own
          rw [List.length_nil] at hse
          subst hse
          have HWY := Lib.hid (show WyAt w5 wr n rr from ⟨hsk.bel, hsk.row⟩)
          have hdd := Dfs.done (show Dfs n (nextR l r) rr [] by simpa using hsk.dfs) HNP.out.1 HBD.out
          have HLS2 := Lib.hid (fun i hi => HLA.out i hi rr hdd rl HRR.out)
          clear hsk hme hgk hdd HST
          go_wp2
          go_loopw [19] (fun v19 wr2 => ∃ k : Nat, k ≤ n ∧ v19 = .int .i64 k ∧ Hid (WyAt w5 wr2 n rr)) (fun v19 _ => n - (intOf v19).toNat)
          case atStart => exact ⟨0, by omega, rfl, HWY⟩
          case round =>
            obtain ⟨k, hk, rfl, HY⟩ := hrel
            by_cases hlt : k < n
            · have k0 : (0 : Int) ≤ (k : Int) := by omega
              have k1 : (k : Int) < (n : Int) := by omega
              have e8 := (HMA5.out.below HY.out.bel HMA5.out.lt).cell hlt
              have e10 := (HMB5.out.below HY.out.bel HMB5.out.lt).cell hlt
              have e14 : wr.cell? ⟨gr, k, none⟩ = some (.bool (rl.getD k false)) := (HRW.out.below HY.out.bel HRW.out.lt).cell hlt
              have e16 := HY.out.row.cell hlt
              unfold wordsU at e8 e10
              unfold boolsV at e16
              have hla := HLS2.out k hlt
              generalize maskV l p k = mk at *
              generalize maskV l (p + 1) k = mo at *
              have b3 : bits .andNot .u64 ((mk : Nat) : Int) ((mo : Nat) : Int) = 0 := by rw [u64_andNot_nat _ _ hla.lt hla.lt2, hla.more]; rfl
              have c1 : ((mk : Nat) : Int) / 2 ^ r % 2 = ((mk / 2 ^ r % 2 : Nat) : Int) := by push_cast; rfl
              have b1 := hla.bit
              have b2 := hla.full
              generalize rr k = wy at *
              generalize rl.getD k false = rc at *
              clear hla
              cases wy with
              | true =>
                cases rc with
                | true =>
                  by_cases hpr : p ≤ r
                  · have hprI : (p : Int) ≤ (r : Int) := by omega
                    have g1 : (((mk : Nat) : Int) / 2 ^ r % 2 == 0) = true := by rw [c1, b1]; rw [if_pos ⟨rfl, hpr⟩]; rfl
                    have g3 : (((mk : Nat) : Int) / 2 ^ r).tmod 2 = 0 := by rw [Int.tmod_eq_emod_of_nonneg (Int.ediv_nonneg (by omega) (Int.pow_nonneg (by decide))), c1, b1]; rw [if_pos ⟨rfl, hpr⟩]; rfl
                    clear b1 b2 c1 hpr
                    go_wp2
                    go_quiet (fail)
                    go_wp2
                    all_goals
                      go_roundw
                      case rel => exact ⟨k + 1, by omega, by go_num, Lib.hid (HY.out.drewN _)⟩
                      case measure => simp [intOf]; omega
                  · have hprI : ¬ ((p : Int) ≤ (r : Int)) := by omega
                    have hprJ : (r : Int) < (p : Int) := by omega
                    have hprK : decide (p ≤ r) = false := decide_eq_false hpr
                    have hprL : ¬ p ≤ r := hpr
                    clear hprI
                    have g1 : (((mk : Nat) : Int) / 2 ^ r % 2 == 0) = false := by rw [c1, b1]; rw [if_neg (fun h => hpr h.2)]; rfl
                    have g3 : (((mk : Nat) : Int) / 2 ^ r).tmod 2 = 1 := by rw [Int.tmod_eq_emod_of_nonneg (Int.ediv_nonneg (by omega) (Int.pow_nonneg (by decide))), c1, b1]; rw [if_neg (fun h => hpr h.2)]; rfl
                    clear b1 b2 c1 hpr
                    go_wp2
                    go_quiet (fail)
                    go_wp2
                    all_goals
                      go_roundw
                      case rel => exact ⟨k + 1, by omega, by go_num, Lib.hid (HY.out.drewN _)⟩
                      case measure => simp [intOf]; omega
                | false =>
                  by_cases hpr : p ≤ r
                  · have hprI : (p : Int) ≤ (r : Int) := by omega
                    have g1 : (((mk : Nat) : Int) / 2 ^ r % 2 == 0) = true := by rw [c1, b1]; rw [if_pos ⟨rfl, hpr⟩]; rfl
                    have g3 : (((mk : Nat) : Int) / 2 ^ r).tmod 2 = 0 := by rw [Int.tmod_eq_emod_of_nonneg (Int.ediv_nonneg (by omega) (Int.pow_nonneg (by decide))), c1, b1]; rw [if_pos ⟨rfl, hpr⟩]; rfl
                    have g2 : (((mk : Nat) : Int) != 18446744073709551615) = false := by rw [b2 rfl]; decide
                    clear b1 b2 c1 hpr
                    go_wp2
                    go_quiet (fail)
                    go_wp2
                    all_goals
                      go_roundw
                      case rel => exact ⟨k + 1, by omega, by go_num, Lib.hid (HY.out.drewN _)⟩
                      case measure => simp [intOf]; omega
                  · have hprI : ¬ ((p : Int) ≤ (r : Int)) := by omega
                    have hprJ : (r : Int) < (p : Int) := by omega
                    have hprK : decide (p ≤ r) = false := decide_eq_false hpr
                    have hprL : ¬ p ≤ r := hpr
                    clear hprI
                    have g1 : (((mk : Nat) : Int) / 2 ^ r % 2 == 0) = false := by rw [c1, b1]; rw [if_neg (fun h => hpr h.2)]; rfl
                    have g3 : (((mk : Nat) : Int) / 2 ^ r).tmod 2 = 1 := by rw [Int.tmod_eq_emod_of_nonneg (Int.ediv_nonneg (by omega) (Int.pow_nonneg (by decide))), c1, b1]; rw [if_neg (fun h => hpr h.2)]; rfl
                    have g2 : (((mk : Nat) : Int) != 18446744073709551615) = false := by rw [b2 rfl]; decide
                    clear b1 b2 c1 hpr
                    go_wp2
                    go_quiet (fail)
                    go_wp2
                    all_goals
                      go_roundw
                      case rel => exact ⟨k + 1, by omega, by go_num, Lib.hid (HY.out.drewN _)⟩
                      case measure => simp [intOf]; omega
              | false =>
                cases rc with
                | true =>
                  by_cases hpr : p ≤ r
                  · have hprI : (p : Int) ≤ (r : Int) := by omega
                    have g1 : (((mk : Nat) : Int) / 2 ^ r % 2 == 0) = false := by rw [c1, b1]; rw [if_neg (fun h => Bool.noConfusion h.1)]; rfl
                    have g3 : (((mk : Nat) : Int) / 2 ^ r).tmod 2 = 1 := by rw [Int.tmod_eq_emod_of_nonneg (Int.ediv_nonneg (by omega) (Int.pow_nonneg (by decide))), c1, b1]; rw [if_neg (fun h => Bool.noConfusion h.1)]; rfl
                    clear b1 b2 c1 hpr
                    go_wp2
                    go_quiet (fail)
                    go_wp2
                    all_goals
                      go_roundw
                      case rel => exact ⟨k + 1, by omega, by go_num, Lib.hid (HY.out.drewN _)⟩
                      case measure => simp [intOf]; omega
                  · have hprI : ¬ ((p : Int) ≤ (r : Int)) := by omega
                    have hprJ : (r : Int) < (p : Int) := by omega
                    have hprK : decide (p ≤ r) = false := decide_eq_false hpr
                    have hprL : ¬ p ≤ r := hpr
                    clear hprI
                    have g1 : (((mk : Nat) : Int) / 2 ^ r % 2 == 0) = false := by rw [c1, b1]; rw [if_neg (fun h => Bool.noConfusion h.1)]; rfl
                    have g3 : (((mk : Nat) : Int) / 2 ^ r).tmod 2 = 1 := by rw [Int.tmod_eq_emod_of_nonneg (Int.ediv_nonneg (by omega) (Int.pow_nonneg (by decide))), c1, b1]; rw [if_neg (fun h => Bool.noConfusion h.1)]; rfl
                    clear b1 b2 c1 hpr
                    go_wp2
                    go_quiet (fail)
                    go_wp2
                    all_goals
                      go_roundw
                      case rel => exact ⟨k + 1, by omega, by go_num, Lib.hid (HY.out.drewN _)⟩
                      case measure => simp [intOf]; omega
                | false =>
                  by_cases hpr : p ≤ r
                  · have hprI : (p : Int) ≤ (r : Int) := by omega
                    have g1 : (((mk : Nat) : Int) / 2 ^ r % 2 == 0) = false := by rw [c1, b1]; rw [if_neg (fun h => Bool.noConfusion h.1)]; rfl
                    have g3 : (((mk : Nat) : Int) / 2 ^ r).tmod 2 = 1 := by rw [Int.tmod_eq_emod_of_nonneg (Int.ediv_nonneg (by omega) (Int.pow_nonneg (by decide))), c1, b1]; rw [if_neg (fun h => Bool.noConfusion h.1)]; rfl
                    have g2 : (((mk : Nat) : Int) != 18446744073709551615) = false := by rw [b2 rfl]; decide
                    clear b1 b2 c1 hpr
                    go_wp2
                    go_quiet (fail)
                    go_wp2
                    all_goals
                      go_roundw
                      case rel => exact ⟨k + 1, by omega, by go_num, Lib.hid (HY.out.drewN _)⟩
                      case measure => simp [intOf]; omega
                  · have hprI : ¬ ((p : Int) ≤ (r : Int)) := by omega
                    have hprJ : (r : Int) < (p : Int) := by omega
                    have hprK : decide (p ≤ r) = false := decide_eq_false hpr
                    have hprL : ¬ p ≤ r := hpr
                    clear hprI
                    have g1 : (((mk : Nat) : Int) / 2 ^ r % 2 == 0) = false := by rw [c1, b1]; rw [if_neg (fun h => Bool.noConfusion h.1)]; rfl
                    have g3 : (((mk : Nat) : Int) / 2 ^ r).tmod 2 = 1 := by rw [Int.tmod_eq_emod_of_nonneg (Int.ediv_nonneg (by omega) (Int.pow_nonneg (by decide))), c1, b1]; rw [if_neg (fun h => Bool.noConfusion h.1)]; rfl
                    have g2 : (((mk : Nat) : Int) != 18446744073709551615) = false := by rw [b2 rfl]; decide
                    clear b1 b2 c1 hpr
                    go_wp2
                    go_quiet (fail)
                    go_wp2
                    all_goals
                      go_roundw
                      case rel => exact ⟨k + 1, by omega, by go_num, Lib.hid (HY.out.drewN _)⟩
                      case measure => simp [intOf]; omega
            · obtain rfl : k = n := by omega
              have k2 : ¬ ((k : Int) < (k : Int)) := by omega
              go_wp2
              go_ret
              exact ⟨by first | rfl | simp, HB5.out.trans (HY.out.bel.mono HB5.out.size)⟩
        · rw [List.concat_eq_append] at hsk hme
          have hwt := hsk.dfs.wait q (by simp)
          obtain ⟨qn, rfl⟩ : ∃ qn : Nat, q = qn := ⟨q.toNat, by omega⟩
          have hqn : qn < n := by omega
          have q0 : (0 : Int) ≤ (qn : Int) := by omega
          have q1 : (qn : Int) < (n : Int) := by omega
          obtain ⟨sb, sc, cur, he, h1, h2, h3, h4, h5, h6, h7, h8⟩ := hsk.own.parts (fun e => by
            have hh := hsk.own
            rw [e] at hh
            rcases hh.1.2 with ⟨_, h0⟩ | ⟨_, _, _, h0, _⟩
            · simp at h0
            · cases h0)
          simp only [List.length_append, List.length_cons, List.length_nil, Nat.zero_add] at he h4 h7 hme
          subst he
          have s0 : wr.cell? ⟨sb, wl.length, none⟩ = some (.int .i64 qn) := by
            have := hsk.own.1.cells (g := sb) rfl wl.length (.int .i64 qn) (by simp)
            rw [← this]
            congr 1
            unfold Addr.add
            split <;> simp_all
          have hpop := hsk.pop
          have b0 := hsk.row.cell hqn
          have b00 := hsk.row.frozen qn
          unfold boolsV at b0
          have HME := Lib.hid (And.intro hme hgk)
          have hwl : wl.length ≤ 1000 := by omega
          cases hr : rr qn with
          | true =>
            have HO := Lib.hid (show SkHead w5 n (nextR l r) (gk - 1) (.slice (some ⟨sb, 0, none⟩) wl.length sc) wr from ⟨rr, wl, hpop.old (by simpa using hr), by omega, by omega⟩)
            rw [hr] at b0
            clear hsk hpop hme hgk hwt hr h1 h2 h3 h5 h6 h7 h8
            generalize wl.length = m at *
            have m1 : wrap64 (((m + 1 : Nat) : Int) - 1) = (m : Int) := by unfold wrap64; omega
            have m1' : wrap64 ((m : Int) + 1 - 1) = (m : Int) := by unfold wrap64; omega
            have m2 : (0 : Int) ≤ (m : Int) := by omega
            have m3 : (m : Int) < (m : Int) + 1 := by omega
            have m4 : (m : Int) ≤ (sc : Int) := by omega
            have m5 : (0 : Int) < (m : Int) + 1 := by omega
            go_wp2
            go_roundg (gk - 1)
            case measure => have := HME.out.1; omega
            case rel => exact HO
          | false =>
            rw [hr] at b0
            have HMK := Lib.hid (hpop.mark (p := (qn : Int)))
            rw [Int.toNat_natCast] at HMK
            have HDF := Lib.hid hpop.dfs
            have HCS := Lib.hid (cnt_set hqn hr)
            obtain ⟨cb, co, op, ca, b1, c, n1, args, YA, Yc, hA, hy, hin, hcc⟩ := code_cells (HC.out w (Below.refl _ _)) HN.out hqn
            cases hA
            have hbw : Below w.heap.size w (wr.setCell ⟨w5.heap.size, qn, none⟩ (.bool true)) := HB5.out.trans (HMK.out.bel.mono HB5.out.size)
            obtain ⟨hXr, c0, c1, c2, c3, c4, c5⟩ := hcc _ hbw
            have HXr := Lib.hid hXr
            have HWT : Hid (∀ W, IsNums .i64 W W.heap.size (.slice YA args.length Yc) args → Calls Try.prog 13 #[.agg (insCells op ca b1 c n1 (.slice YA args.length Yc))] W (Makes W (.int .i64 (wrtV (l.getD qn .zero))))) := Lib.hid (fun W hX => by rw [hy]; exact writes_any op ca b1 c n1 (.slice YA args.length Yc) args W hX)
            obtain ⟨xw, hxw⟩ : ∃ xw, xw = wrtV (l.getD qn .zero) := ⟨_, rfl⟩
            have HXW := Lib.hid hxw
            rw [← hxw] at HWT
            have HSB := Lib.hid hsk.bel
            have HLT := Lib.hid (show w5.heap.size + 1 ≤ wr.heap.size from hsk.row.lt)
            have HQ := Lib.hid hqn
            clear hsk hpop hme hgk hwt hr h1 h2 h3 h5 h6 h7 h8 hcc hXr hy hin hxw hbw
            obtain ⟨m, hm⟩ : ∃ m, m = wl.length := ⟨_, rfl⟩
            have HWL := Lib.hid hm
            rw [← hm] at s0 h4 HMK ⊢
            rw [← hm] at hwl
            clear hm
            have m1 : wrap64 (((m + 1 : Nat) : Int) - 1) = (m : Int) := by unfold wrap64; omega
            have m1' : wrap64 ((m : Int) + 1 - 1) = (m : Int) := by unfold wrap64; omega
            have m2 : (0 : Int) ≤ (m : Int) := by omega
            have m3 : (m : Int) < (m : Int) + 1 := by omega
            have m4 : (m : Int) ≤ (sc : Int) := by omega
            have m5 : (0 : Int) < (m : Int) + 1 := by omega
            by_cases hw : xw = (r : Int)
            · have e1 : (xw != (r : Int)) = false := by simp [hw]
              have H0 : Hid (nextR l r ((qn : Int)).toNat = []) := Lib.hid (by rw [Int.toNat_natCast]; unfold nextR; rw [if_pos (by rw [← HXW.out]; exact hw)])
              clear hw
              go_wp2_with (go_at_call 13; (with_reducible refine (HWT.out _ HXr.out).mono ?_); rintro e w6 ⟨rfl, hb⟩; go_loud (have HO := Lib.hid (show SkHead w5 n (nextR l r) (gk - 1) (.slice (some ⟨sb, 0, none⟩) m sc) w6 from ⟨(fun i => if i = qn then true else rr i), wl, (HMK.out.below hb).dead (p := (qn : Int)) HDF.out HBD.out H0.out, by have h1 := HCS.out; have h2 := HME.out.1; have h3 := HWL.out; show 3 * cntV (fun i => if i = qn then true else rr i) n + wl.length ≤ gk - 1; omega, by have := HME.out.2; omega⟩)); clear hb)
              go_roundg (gk - 1)
              case measure => have := HME.out.1; omega
              case rel => exact HO
            · have e1 : (xw != (r : Int)) = true := by simp [hw]
              have HNR : Hid (nextR l r qn = nextV l qn) := Lib.hid (by unfold nextR; rw [if_neg (by rw [← HXW.out]; exact hw)])
              obtain ⟨XA, Xc, hXe, _⟩ := out_len (HLO5.out qn HQ.out)
              have HXE := Lib.hid hXe
              have H2 := Lib.hid (nextV_two l qn)
              obtain ⟨xl, hxl⟩ : ∃ xl, xl = (nextV l qn).length := ⟨_, rfl⟩
              rw [← hxl] at hXe
              have HXL := Lib.hid hxl
              clear hw hxl
              have HSTP : Hid (∀ w6, Below (wr.setCell ⟨w5.heap.size, qn, none⟩ (.bool true)).heap.size (wr.setCell ⟨w5.heap.size, qn, none⟩ (.bool true)) w6 → w6.cell? ⟨g, qn, none⟩ = some (.slice XA xl Xc) ∧ OutN w3.heap.size w6 (.slice XA xl Xc) (nextV l qn) ∧ MrAt w5 w6 n (fun i => if i = qn then true else rr i) (.slice (some ⟨sb, 0, none⟩) m sc) wl ∧ w5.heap.size + 1 ≤ w6.heap.size) := Lib.hid (fun w6 hb => by
                have hm6 := HMK.out.below hb
                rw [← hXe]
                exact ⟨(HLR5.out.below hm6.bel HLR5.out.lt).cell HQ.out, (HLO5.out qn HQ.out).below hm6.bel (Nat.le_refl _), hm6, hm6.row.lt⟩)
              clear hXe
              go_wp2_with (first
                | (go_at_call 13; (with_reducible refine (HWT.out _ HXr.out).mono ?_); rintro e w6 ⟨rfl, hb⟩; obtain ⟨x0, ho6, hm6, hl6⟩ := HSTP.out w6 hb; have HO6 := Lib.hid ho6; have HM6 := Lib.hid hm6; have HL6 := Lib.hid hl6; clear hb ho6 hm6 hl6)
                | (at_builtin; (refine wpList_outT (W := w6) (V := .slice (some ⟨sb, 0, none⟩) m sc) (X := .slice XA xl Xc) (xs := wl) (ys := nextV l qn) (base := w5.heap.size + 1) (b2 := w3.heap.size) rfl (.tmp 130) (.tmp 134) rfl rfl rfl HM6.out.own HO6.out HL6.out (by have h1 := HWL.out; have h2 := H2.out; have h3 := HME.out; have h4 := HNP.out; omega) ?_; intro V8 w8 ho hk; have HO := Lib.hid (show SkHead w5 n (nextR l r) (gk - 1) V8 w8 from ⟨_, _, MrAt.push (p := (qn : Int)) (nx := nextR l r) (by rw [Int.toNat_natCast]; exact HM6.out) HDF.out HBD.out (by rw [Int.toNat_natCast, HNR.out]; exact ho) hk, by have h1 := HCS.out; have h2 := HME.out.1; have h3 := HWL.out; have h4 := H2.out; show 3 * cntV (fun i => if i = qn then true else rr i) n + (wl ++ nextR l r qn).length ≤ gk - 1; rw [HNR.out, List.length_append]; omega, by have := HME.out.2; omega⟩); clear ho hk)))
              go_roundg (gk - 1)
              case measure => have := HME.out.1; omega
              case rel => exact HO
end Go.Proofs.Ytjoiocjnffaogaa
