/- Lemmas of Mod08H, Mod08I, Mod08J, Mod08K, each with its own remark. -/
import Derived.Test.YtimhlbejjbnofaaS11
import Derived.StillTailTactics
import Derived.Lib.SliceRun
import Derived.Deep.RegionLaw
import Derived.Deep.RegionHeldLaw
/- (Mod08H) The landed reader: need, piece. Contracts; no condition but that the reader lies in memory, its place within its bytes. -/
namespace Go.Proofs.Ytimhlbejjbnofaa
open Go.RowKit Go.Shelf
set_option linter.unusedVariables false
set_option linter.unusedSimpArgs false

/-- A reader in memory: a fault, bytes, a place, a module. -/
structure RdAt (w : World) (rb B : Nat) (X : Value) (b : List Int) (s : Rd) (D F : Value) : Prop where
  blk : w.heap[rb]? = some (.cells #[.int .i64 s.err, .int .i64 s.at_, X, .int .i64 s.pos, D, F] 70 (0, 0))
  byt : IsBytes w B X b
  low : B ≤ rb
  small : b.length ≤ 1000000
  pos : s.pos ≤ b.length
theorem cells6r {w : World} {rb : Nat} {e k p : Int} {X D F : Value} {T : TypeId} (h : w.heap[rb]? = some (.cells #[.int .i64 e, .int .i64 k, X, .int .i64 p, D, F] T (0, 0))) :
    w.cell? ⟨rb, 0, none⟩ = some (.int .i64 e) ∧ w.cell? ⟨rb, 1, none⟩ = some (.int .i64 k) ∧ w.cell? ⟨rb, 2, none⟩ = some X ∧ w.cell? ⟨rb, 3, none⟩ = some (.int .i64 p) ∧ w.cell? ⟨rb, 4, none⟩ = some D ∧ w.cell? ⟨rb, 5, none⟩ = some F := by
  simp [World.cell?, h]
section
variable {w w' : World} {rb B : Nat} {X D F : Value} {b : List Int} {s : Rd}
theorem RdAt.cells (h : RdAt w rb B X b s D F) : w.cell? ⟨rb, 0, none⟩ = some (.int .i64 s.err) ∧ w.cell? ⟨rb, 1, none⟩ = some (.int .i64 s.at_) ∧ w.cell? ⟨rb, 2, none⟩ = some X ∧ w.cell? ⟨rb, 3, none⟩ = some (.int .i64 s.pos) ∧ w.cell? ⟨rb, 4, none⟩ = some D ∧ w.cell? ⟨rb, 5, none⟩ = some F := cells6r h.blk
theorem RdAt.free (h : RdAt w rb B X b s D F) (o : Nat) : w.frozen? ⟨rb, o, none⟩ = false := frozen_of_row w rb o _ _ h.blk
theorem RdAt.lt (h : RdAt w rb B X b s D F) : rb < w.heap.size := heap_lt h.blk
theorem RdAt.but {R : Nat → Prop} (h : RdAt w rb B X b s D F) (hb : But R w w') (hn : ¬ R rb) (hr : ∀ k, k < B → ¬ R k) : RdAt w' rb B X b s D F :=
  ⟨hb.heap h.blk hn, h.byt.but hb (by have := h.lt; have := h.low; omega) hr, h.low, h.small, h.pos⟩
theorem RdAt.below {C : Nat} (h : RdAt w rb B X b s D F) (hb : Below C w w') (hC : rb < C) : RdAt w' rb B X b s D F :=
  ⟨(hb.block _ hC).trans h.blk, h.byt.below hb (by have := h.low; omega), h.low, h.small, h.pos⟩
theorem RdAt.grow (h : RdAt w rb B X b s D F) (hb : Below w.heap.size w w') : RdAt w' rb B X b s D F := h.below hb h.lt
theorem RdAt.drewN (h : RdAt w rb B X b s D F) (n : Nat) : RdAt (w.drewN n) rb B X b s D F := h.grow (below_drewN (Below.refl _ w) n)
theorem RdAt.drew (h : RdAt w rb B X b s D F) : RdAt w.drew rb B X b s D F := h.grow (Below.refl _ w).drew
/-- A cell of the reader is written. -/
theorem RdAt.set (h : RdAt w rb B X b s D F) {o : Nat} {v : Value} {s' : Rd} {D' F' : Value} (hc : (#[.int .i64 s.err, .int .i64 s.at_, X, .int .i64 s.pos, D, F] : Array Value).setIfInBounds o v = #[.int .i64 s'.err, .int .i64 s'.at_, X, .int .i64 s'.pos, D', F']) (hp : s'.pos ≤ b.length) :
    RdAt (w.setCell ⟨rb, o, none⟩ v) rb B X b s' D' F' := by
  have h1 := heap_setCell_same w rb o _ _ v h.blk
  rw [hc] at h1
  refine ⟨h1, h.byt.but (R := OneBlock rb) ((But.refl (OneBlock rb) w).setCell (p := ⟨rb, o, none⟩) (.inl rfl) _) (by have := h.lt; have := h.low; omega) (fun k hk e => ?_), h.low, h.small, hp⟩
  have := h.low
  have : k = rb := e
  omega
theorem but_one (w : World) (rb o : Nat) (v : Value) : But (OneBlock rb) w (w.setCell ⟨rb, o, none⟩ v) := (But.refl (OneBlock rb) w).setCell (p := ⟨rb, o, none⟩) (.inl rfl) _
theorem RdAt.fault (h : RdAt w rb B X b s D F) (e k : Int) : RdAt ((w.setCell ⟨rb, 0, none⟩ (.int .i64 e)).setCell ⟨rb, 1, none⟩ (.int .i64 k)) rb B X b ⟨e, k, s.pos⟩ D F :=
  (h.set (s' := ⟨e, s.at_, s.pos⟩) (o := 0) rfl h.pos).set (s' := ⟨e, k, s.pos⟩) (o := 1) rfl h.pos
end
def NeedDone (w : World) (rb B : Nat) (X : Value) (b : List Int) (s : Rd) (D F : Value) (e : Ending) (w' : World) : Prop := e = .returned (.pointer (some ⟨rb, 0, none⟩)) ∧ RdAt w' rb B X b s D F ∧ But (OneBlock rb) w w'
theorem need_keep (w : World) (rb B : Nat) (X : Value) (b : List Int) (s : Rd) (D F : Value) (h : Bool) (e k : Int) (hR : RdAt w rb B X b s D F) (hk : s.err ≠ 0 ∨ h = true) :
    Calls Try.prog 62 #[.pointer (some ⟨rb, 0, none⟩), .bool h, .int .i64 e, .int .i64 k] w fun e' w' => e' = .returned (.pointer (some ⟨rb, 0, none⟩)) ∧ w = w' := by
  obtain ⟨c0, c1, c2, c3, c4, c5⟩ := hR.cells
  by_cases h0 : s.err = 0
  · have ht : h = true := hk.resolve_left (fun x => x h0)
    subst ht
    have hb0 : (s.err == 0) = true := by simpa using h0
    clear hk hR h0
    go_enter Try.func62, Try.ntmps62
    go_wp2
    go_ret
    exact ⟨rfl, rfl⟩
  · have hb0 : (s.err == 0) = false := by simpa using h0
    clear hk hR h0
    go_enter Try.func62, Try.ntmps62
    go_wp2
    go_ret
    exact ⟨rfl, rfl⟩
theorem need_set (w : World) (rb B : Nat) (X : Value) (b : List Int) (s : Rd) (D F : Value) (e k : Int) (hR : RdAt w rb B X b s D F) (h0 : s.err = 0) :
    Calls Try.prog 62 #[.pointer (some ⟨rb, 0, none⟩), .bool false, .int .i64 e, .int .i64 k] w (NeedDone w rb B X b ⟨e, k, s.pos⟩ D F) := by
  obtain ⟨c0, c1, c2, c3, c4, c5⟩ := hR.cells
  have f0 := hR.free 0
  have f1 := hR.free 1
  have HR := Lib.hid hR
  rw [h0] at c0
  clear hR h0
  go_enter Try.func62, Try.ntmps62
  go_wp2
  go_ret
  exact ⟨rfl, HR.out.fault e k, (but_one w rb 0 _).trans (but_one _ rb 1 _)⟩
theorem need_any (w : World) (rb B : Nat) (X : Value) (b : List Int) (s : Rd) (D F : Value) (h : Bool) (e k : Int) (hR : RdAt w rb B X b s D F) :
    Calls Try.prog 62 #[.pointer (some ⟨rb, 0, none⟩), .bool h, .int .i64 e, .int .i64 k] w (NeedDone w rb B X b (s.need h e k) D F) := by
  by_cases hk : s.err ≠ 0 ∨ h = true
  · have e1 : s.need h e k = s := by rcases hk with hk | rfl; exact Rd.need_bad hk _ _ _; exact Rd.need_yes _ _ _
    rw [e1]
    refine (need_keep w rb B X b s D F h e k hR hk).mono ?_
    rintro e' w' ⟨rfl, rfl⟩
    exact ⟨rfl, hR, But.refl _ _⟩
  · have h0 : s.err = 0 := by
      by_cases h0 : s.err = 0
      · exact h0
      · exact absurd (.inl h0) hk
    have hf : h = false := by cases h; rfl; exact absurd (.inr rfl) hk
    subst hf
    rw [Rd.need_no h0]
    exact need_set w rb B X b s D F e k hR h0
/-- What a read of bytes leaves. -/
structure PieceDone (w : World) (rb B : Nat) (X : Value) (b : List Int) (r : Rd × List Int) (D F : Value) (tb : Nat) (e : Ending) (w' : World) : Prop where
  ret : e = .returned (.pointer (some ⟨rb, 0, none⟩))
  rd : RdAt w' rb B X b r.1 D F
  but : But (TwoBlocks rb tb) w w'
  out : ∃ V, w'.heap[tb]? = some (.cells #[V] 22 (0, 0)) ∧ IsBytes w' B V r.2
theorem cell1 {w : World} {tb : Nat} {V : Value} {T : TypeId} (h : w.heap[tb]? = some (.cells #[V] T (0, 0))) : w.cell? ⟨tb, 0, none⟩ = some V := by simp [World.cell?, h]
theorem but2_one {rb tb : Nat} {w w' : World} (h : But (OneBlock rb) w w') : But (TwoBlocks rb tb) w w' := h.mono fun k hk => .inl hk
theorem nil_is (w : World) (B : Nat) : IsBytes w B (.slice none 0 0) [] := ⟨by simp, by simp, .inl ⟨rfl, rfl⟩⟩
/-- Behind a piece: the place, and what was read in its box. -/
theorem piece_ok {w : World} {rb B tb : Nat} {X V D F : Value} {b xs : List Int} {s : Rd} {n : Nat} (hR : RdAt w rb B X b s D F) (ht : w.heap[tb]? = some (.cells #[.slice none 0 0] 22 (0, 0))) (hne : tb ≠ rb) (hB : B ≤ tb) (hV : IsBytes w B V xs) (hn : s.pos + n ≤ b.length) (j : Nat) :
    PieceDone w rb B X b (⟨s.err, s.at_, s.pos + n⟩, xs) D F tb (.returned (.pointer (some ⟨rb, 0, none⟩))) (((w.drewN j).setCell ⟨tb, 0, none⟩ V).setCell ⟨rb, 3, none⟩ (.int .i64 ((s.pos + n : Nat) : Int))) := by
  have hd := hR.drewN j
  have htd : (w.drewN j).heap[tb]? = some (.cells #[.slice none 0 0] 22 (0, 0)) := ht
  have h1 : RdAt ((w.drewN j).setCell ⟨tb, 0, none⟩ V) rb B X b s D F := hd.but (but_one (w.drewN j) tb 0 V) (fun e => hne (Eq.symm e)) (fun k hk e => by have e' : k = tb := e; omega)
  have h2 := heap_setCell_same (w.drewN j) tb 0 _ _ V htd
  have hb2 := but_one ((w.drewN j).setCell ⟨tb, 0, none⟩ V) rb 3 (.int .i64 ((s.pos + n : Nat) : Int))
  refine ⟨rfl, h1.set (s' := ⟨s.err, s.at_, s.pos + n⟩) (o := 3) rfl hn, ?_, V, hb2.heap h2 hne, ?_⟩
  · exact (((But.refl (TwoBlocks rb tb) w).drewN j).trans ((but_one (w.drewN j) tb 0 V).mono fun k hk => .inr hk)).trans (but2_one hb2)
  · have hVd : IsBytes (w.drewN j) B V xs := hV.below (below_drewN (Below.refl _ w) j) (by have := hR.lt; have := hR.low; omega)
    have h3 : IsBytes ((w.drewN j).setCell ⟨tb, 0, none⟩ V) B V xs := hVd.but (but_one (w.drewN j) tb 0 V) (by have := hd.lt; have := hd.low; omega) (fun k hk e => by have e' : k = tb := e; omega)
    exact h3.but hb2 (by have := h1.lt; have := h1.low; omega) (fun k hk e => by have e' : k = rb := e; have := hR.low; omega)
theorem PieceDone.from {w w1 w' : World} {rb B tb : Nat} {X D F : Value} {b : List Int} {r : Rd × List Int} {e : Ending} (hb : But NoBlock w w1) (h : PieceDone w1 rb B X b r D F tb e w') : PieceDone w rb B X b r D F tb e w' :=
  ⟨h.ret, h.rd, (But.none hb).trans h.but, h.out⟩
theorem piece_mid {w w1 : World} {rb B tb : Nat} {X D F : Value} {b : List Int} {s : Rd} {P : Addr → Prop} {f : Addr → Value} {xs : List Int} {o : Obj} (hR : RdAt w rb B X b s D F) (hT : w.heap[tb]? = some o) (hV : ∀ A, P A → IsBytes w B (f A) xs) (h : w.drew = w1) :
    Hid (But NoBlock w w1) ∧ Hid (RdAt w1 rb B X b s D F) ∧ Hid (w1.heap[tb]? = some o) ∧ Hid (∀ A, P A → IsBytes w1 B (f A) xs) := by
  subst h
  exact ⟨Lib.hid (But.refl _ w).drew, Lib.hid hR.drew, Lib.hid hT, Lib.hid fun A hA => (hV A hA).below (Below.refl _ w).drew (by have := hR.lt; have := hR.low; omega)⟩
set_option maxRecDepth 100000 in
set_option maxHeartbeats 8000000 in
theorem piece_any (w : World) (rb B tb : Nat) (X : Value) (b : List Int) (s : Rd) (D F : Value) (n : Nat) (hR : RdAt w rb B X b s D F) (ht : w.heap[tb]? = some (.cells #[.slice none 0 0] 22 (0, 0))) (hne : tb ≠ rb) (hB : B ≤ tb) (hn : n ≤ 1000000) (h0 : s.err = 0 → 0 < s.pos + n) :
    Calls Try.prog 64 #[.pointer (some ⟨rb, 0, none⟩), .pointer (some ⟨tb, 0, none⟩), .int .i64 n] w (PieceDone w rb B X b (takeR b s n) D F tb) := by
  have HR := Lib.hid hR
  have HT := Lib.hid ht
  have hsm := hR.small
  have hps := hR.pos
  obtain ⟨XA, cap, hXe⟩ := hR.byt.len
  subst hXe
  obtain ⟨c0, c1, c2, c3, c4, c5⟩ := hR.cells
  have t0 := cell1 ht
  have hsub : IntKind.i64.wrap ((b.length : Int) - (s.pos : Int)) = (b.length : Int) - (s.pos : Int) := by rw [IntKind.wrap_i64]; omega
  by_cases he : s.err = 0
  case neg =>
    have HTk := Lib.hid (take_bad (b := b) (n := n) he)
    have HNd := Lib.hid (fun h => need_keep w.drew rb B (.slice XA b.length cap) b s D F h 4 b.length (hR.drew) (.inl he))
    have hb0 : (s.err == 0) = false := by simpa using he
    clear hR ht h0 he
    go_enter Try.func64, Try.ntmps64
    go_wp2
    go_still_tail 21, (by kernel_rfl)
    go_wp2_with (go_at_call 62; (with_reducible refine (HNd.out _).mono ?_); rintro e w1 ⟨rfl, rfl⟩)
    go_ret
    rw [HTk.out]
    exact ⟨rfl, HR.out.drew, (But.refl _ w).drew, _, HT.out, nil_is _ _⟩
  by_cases hl : s.pos + n ≤ b.length
  case neg =>
    have HTk := Lib.hid (take_no (b := b) (n := n) he hl)
    have HNd := Lib.hid (need_set w.drew rb B (.slice XA b.length cap) b s D F 4 b.length (hR.drew) he)
    have hdec : decide ((n : Int) ≤ (b.length : Int) - (s.pos : Int)) = false := decide_eq_false (by omega)
    clear hR ht h0 he hl
    go_enter Try.func64, Try.ntmps64
    go_wp2
    go_still_tail 21, (by kernel_rfl)
    go_wp2_with (go_at_call 62; (with_reducible refine HNd.out.mono ?_); rintro e w1 ⟨rfl, hr, hb⟩; have HR1 := Lib.hid hr; have HB1 := Lib.hid hb; obtain ⟨d0, d1, d2, d3, d4, d5⟩ := hr.cells; clear hr hb)
    go_ret
    rw [HTk.out]
    exact ⟨rfl, HR1.out, but2_one (((But.refl _ w).drew).trans HB1.out), _, HB1.out.heap (show w.drew.heap[tb]? = _ from HT.out) hne, nil_is _ _⟩
  have HTk := Lib.hid (take_yes (b := b) (n := n) he hl)
  have HNd := Lib.hid (need_keep w.drew rb B (.slice XA b.length cap) b s D F true 4 b.length (hR.drew) (.inr rfl))
  have hdec : decide ((n : Int) ≤ (b.length : Int) - (s.pos : Int)) = true := decide_eq_true (by omega)
  obtain ⟨g, off, cap', hXe, hcp, hgB, hcl⟩ := hR.byt.plain (by have := h0 he; omega)
  cases hXe
  obtain ⟨xs, hxs⟩ : ∃ xs, xs = (b.drop s.pos).take n := ⟨_, rfl⟩
  rw [← hxs] at HTk
  obtain ⟨q, hq⟩ : ∃ q : Nat, q = s.pos + n := ⟨_, rfl⟩
  have hadd : IntKind.i64.wrap ((s.pos : Int) + (n : Int)) = (q : Int) := by rw [IntKind.wrap_i64]; omega
  have HQ := Lib.hid hq
  have hqs : q - s.pos = n := by omega
  have hV : ∀ A', (cap ≠ s.pos → A' = ⟨g, off + s.pos, none⟩) → IsBytes w B (.slice (some A') (q - s.pos) (cap - s.pos)) xs := by
    intro A' hA'
    rw [hqs]
    by_cases hc : cap = s.pos
    · have : n = 0 := by omega
      subst this
      have hx0 : xs = [] := by rw [hxs]; simp
      subst hx0
      exact ⟨by simp, by simp, .inr ⟨A', cap - s.pos, rfl, by simp, fun h => absurd h (by simp), fun i hi => absurd hi (by simp)⟩⟩
    · rw [hA' hc, hxs]
      exact bytes_part hR.byt hcl hgB hl (by omega)
  have HV := Lib.hid hV
  have HL := Lib.hid hl
  have f3 := hR.free 3
  have ft := frozen_of_row w tb 0 _ _ ht
  have HE := Lib.hid he
  have hb0 : (s.err == 0) = true := by simpa using he
  have q1 : (s.pos : Int) ≤ (q : Int) := by omega
  have q2 : (q : Int) ≤ (b.length : Int) := by omega
  have q3 : (q : Int) ≤ (cap : Int) := by omega
  have q4 : (0 : Int) ≤ (s.pos : Int) := by omega
  clear hR ht h0 he hl hcl hxs hq hV hqs
  by_cases hc : cap = s.pos
  · subst hc
    go_enter Try.func64, Try.ntmps64
    go_wp2
    go_still_tail 21, (by kernel_rfl)
    go_wp2_with (go_at_call 62; (with_reducible refine HNd.out.mono ?_); rintro e w1 ⟨rfl, hw1⟩; obtain ⟨HB1, HR1, HT1, HV1⟩ := piece_mid HR.out HT.out HV.out hw1; obtain ⟨d0, d1, d2, d3, d4, d5⟩ := HR1.out.cells; have e0 := cell1 HT1.out; have k3 := HR1.out.free 3; have kt := frozen_of_row w1 tb 0 _ _ HT1.out; clear hw1)
    clear c0 c1 c2 c3 c4 c5 t0 f3 ft
    go_still_tail 20, (by kernel_rfl)
    go_wp2
    go_ret
    rw [HTk.out]
    have hp := piece_ok HR1.out HT1.out hne hB (HV1.out ⟨g, off, none⟩ (fun h => absurd rfl h)) HL.out 1
    rw [← HQ.out] at hp
    refine PieceDone.from HB1.out ?_
    rw [Nat.sub_self] at hp
    rw [← HQ.out]
    exact hp
  · have hc2 : (cap == s.pos) = false := by simpa using hc
    go_enter Try.func64, Try.ntmps64
    go_wp2
    go_still_tail 21, (by kernel_rfl)
    go_wp2_with (go_at_call 62; (with_reducible refine HNd.out.mono ?_); rintro e w1 ⟨rfl, hw1⟩; obtain ⟨HB1, HR1, HT1, HV1⟩ := piece_mid HR.out HT.out HV.out hw1; obtain ⟨d0, d1, d2, d3, d4, d5⟩ := HR1.out.cells; have e0 := cell1 HT1.out; have k3 := HR1.out.free 3; have kt := frozen_of_row w1 tb 0 _ _ HT1.out; clear hw1)
    clear c0 c1 c2 c3 c4 c5 t0 f3 ft
    go_still_tail 20, (by kernel_rfl)
    go_wp2
    go_ret
    rw [HTk.out]
    have hp := piece_ok HR1.out HT1.out hne hB (HV1.out ⟨g, off + s.pos, none⟩ (fun _ => rfl)) HL.out 1
    rw [← HQ.out] at hp
    refine PieceDone.from HB1.out ?_
    rw [← HQ.out]
    exact hp
end Go.Proofs.Ytimhlbejjbnofaa

/- (Mod08I) The landed reader: number, counted. Contracts; no condition but that the reader lies in memory, its place within its bytes. -/
namespace Go.Proofs.Ytimhlbejjbnofaa
open Go.RowKit Go.Shelf
set_option linter.unusedVariables false
set_option linter.unusedSimpArgs false

/-- What a read of a number leaves: the number in its cell. -/
structure NumbDone (w : World) (rb B : Nat) (X : Value) (b : List Int) (r : Rd × Int) (D F : Value) (nb o : Nat) (cs : Array Value) (t : TypeId) (e : Ending) (w' : World) : Prop where
  ret : e = .returned (.pointer (some ⟨rb, 0, none⟩))
  rd : RdAt w' rb B X b r.1 D F
  but : But (TwoBlocks rb nb) w w'
  out : w'.heap[nb]? = some (.cells (cs.setIfInBounds o (.int .i64 r.2)) t (0, 0))
theorem set_same {cs : Array Value} {o : Nat} {v : Value} (h : cs[o]? = some v) : cs.setIfInBounds o v = cs := by
  apply Array.ext_getElem?
  intro i
  rw [Array.getElem?_setIfInBounds]
  split
  · rename_i hi
    subst hi
    split
    · exact h.symm
    · rename_i hl
      rw [Array.getElem?_eq_none (by omega)]
  · rfl
/-- A box that a call has made for itself is nobody's. -/
theorem but_box {w w0 w1 : World} {rb tb : Nat} (h0 : Below w.heap.size w w0) (ht : w.heap.size ≤ tb) (hb : But (TwoBlocks rb tb) w0 w1) : But (OneBlock rb) w w1 :=
  ⟨hb.os.trans h0.os, hb.tape.trans h0.tape, hb.output.trans h0.output, Nat.le_trans h0.size hb.size, fun k hk hn => (hb.block k (Nat.lt_of_lt_of_le hk h0.size) (fun e => by
    rcases e with e | e
    · exact hn e
    · omega)).trans (h0.block k hk)⟩
theorem take_len_ok {b : List Int} {s : Rd} {n : Nat} (h : (takeR b s n).1.err = 0) : (takeR b s n).2.length = n := by
  obtain ⟨_, h2, h3⟩ := take_err h
  rw [h3]
  exact part_len h2
theorem take_out {b : List Int} {s : Rd} {n : Nat} (h : (takeR b s n).1.err ≠ 0) : (takeR b s n).2 = [] := by
  unfold takeR at h ⊢
  split at h
  · rename_i h1
    rw [if_pos h1]
    split at h
    · exact absurd h1 h
    · rename_i h2
      rw [if_neg h2]
  · rename_i h1
    rw [if_neg h1]
set_option maxRecDepth 100000 in
set_option maxHeartbeats 4000000 in
theorem numb_any (w : World) (rb B nb o : Nat) (X : Value) (b : List Int) (s : Rd) (D F : Value) (n : Nat) (cs : Array Value) (t : TypeId) (hR : RdAt w rb B X b s D F) (ht : w.heap[nb]? = some (.cells cs t (0, 0))) (ho : cs[o]? = some (.int .i64 0)) (hne : nb ≠ rb) (hB : B ≤ nb) (hn : n = 1 ∨ n = 2) :
    Calls Try.prog 67 #[.pointer (some ⟨rb, 0, none⟩), .pointer (some ⟨nb, o, none⟩), .int .i64 n] w (NumbDone w rb B X b (numR b s n) D F nb o cs t) := by
  have hb0 : Below w.heap.size w (w.alloc (.cells #[.slice none 0 0] 22)) := (Below.refl _ w).alloc (Nat.le_refl _) _
  have HB0 := Lib.hid hb0
  have hnw := heap_lt ht
  have HRl := Lib.hid (And.intro hR.low hR.lt)
  have HT := Lib.hid ht
  have HO := Lib.hid ho
  have HP := Lib.hid (piece_any _ rb B w.heap.size X b s D F n (hR.grow hb0) (heap_alloc_new w _) (by have := hR.lt; omega) (by have := hR.lt; have := hR.low; omega) (by omega) (fun _ => by omega))
  have hsz : sizedB n = true := by rcases hn with rfl | rfl <;> decide
  have HBd := Lib.hid (num_bd (b := b) (s := s) (n := n) hR.byt.1 (by omega))
  by_cases hz : (takeR b s n).1.err = 0
  · have hl := take_len_ok hz
    have HG := Lib.hid (fun V W (hV : IsBytes W B V (takeR b s n).2) => get_any V _ W B hV)
    rw [(getV_num (xs := (takeR b s n).2) (by rw [hl]; exact hsz)).1, (getV_num (xs := (takeR b s n).2) (by rw [hl]; exact hsz)).2] at HG
    have hN : numV (takeR b s n).2 = (numR b s n).2 := rfl
    rw [hN] at HG
    have HS : Hid ((numR b s n).1 = (takeR b s n).1) := Lib.hid rfl
    obtain ⟨m, hm⟩ : ∃ m, m = (numR b s n).2 := ⟨_, rfl⟩
    rw [← hm] at HG HBd
    have HM := Lib.hid hm
    have hb1 := HBd.out
    have hwr : IntKind.i64.wrap m = m := by rw [IntKind.wrap_i64]; omega
    have hr0 : ((takeR b s n).1.err == 0) = true := by simpa using hz
    have he0 := hz
    clear hR ht ho hb0 hn hz hl hN hm hsz hb1
    go_enter Try.func67, Try.ntmps67
    go_wp2_with (first
      | (go_at_call 64; (with_reducible refine HP.out.mono ?_); rintro e w1 ⟨rfl, hr, hb, V, hV, hVb⟩; have HR1 := Lib.hid hr; have HB1 := Lib.hid (but_box HB0.out (Nat.le_refl _) hb); have HV1 := Lib.hid hVb; obtain ⟨d0, d1, d2, d3, d4, d5⟩ := hr.cells; have v0 := cell1 hV; clear hr hb hV hVb)
      | (go_at_call 86; (with_reducible refine (HG.out _ _ HV1.out).mono ?_); rintro e w2 ⟨rfl, hw⟩; subst hw; have HT1 := Lib.hid (HB1.out.heap HT.out hne); have ft := frozen_of_row w1 nb o _ _ HT1.out; have ct : w1.cell? ⟨nb, o, none⟩ = some (.int .i64 0) := by rw [cell_of_row _ _ _ _ _ _ HT1.out]; exact HO.out))
    go_ret
    have hbo := but_one w1 nb o (.int .i64 m)
    refine ⟨rfl, ?_, ?_, ?_⟩
    · rw [HS.out]
      exact HR1.out.but hbo (fun e => hne (Eq.symm e)) (fun k hk e => by have e' : k = nb := e; omega)
    · exact (but2_one HB1.out).trans (hbo.mono fun k hk => .inr hk)
    · rw [← HM.out]
      exact heap_setCell_same w1 nb o _ _ _ HT1.out
  · have HE := Lib.hid (take_out hz)
    have HN : Hid ((numR b s n).2 = 0) := Lib.hid (by unfold numR; rw [HE.out]; rfl)
    have hr0 : ((takeR b s n).1.err == 0) = false := by simpa using hz
    clear hR ht ho hb0 hn hz hsz
    go_enter Try.func67, Try.ntmps67
    go_wp2_with (go_at_call 64; (with_reducible refine HP.out.mono ?_); rintro e w1 ⟨rfl, hr, hb, V, hV, hVb⟩; have HR1 := Lib.hid hr; have HB1 := Lib.hid (but_box HB0.out (Nat.le_refl _) hb); obtain ⟨d0, d1, d2, d3, d4, d5⟩ := hr.cells; clear hr hb hV hVb)
    go_ret
    refine ⟨rfl, HR1.out, but2_one HB1.out, ?_⟩
    rw [HN.out, set_same HO.out]
    exact HB1.out.heap HT.out hne
theorem numb_one (w : World) (rb B nb o : Nat) (X : Value) (b : List Int) (s : Rd) (D F : Value) (cs : Array Value) (t : TypeId) (hR : RdAt w rb B X b s D F) (ht : w.heap[nb]? = some (.cells cs t (0, 0))) (ho : cs[o]? = some (.int .i64 0)) (hne : nb ≠ rb) (hB : B ≤ nb) :
    Calls Try.prog 67 #[.pointer (some ⟨rb, 0, none⟩), .pointer (some ⟨nb, o, none⟩), .int .i64 1] w (NumbDone w rb B X b (numR b s 1) D F nb o cs t) := numb_any w rb B nb o X b s D F 1 cs t hR ht ho hne hB (.inl rfl)
theorem numb_two (w : World) (rb B nb o : Nat) (X : Value) (b : List Int) (s : Rd) (D F : Value) (cs : Array Value) (t : TypeId) (hR : RdAt w rb B X b s D F) (ht : w.heap[nb]? = some (.cells cs t (0, 0))) (ho : cs[o]? = some (.int .i64 0)) (hne : nb ≠ rb) (hB : B ≤ nb) :
    Calls Try.prog 67 #[.pointer (some ⟨rb, 0, none⟩), .pointer (some ⟨nb, o, none⟩), .int .i64 2] w (NumbDone w rb B X b (numR b s 2) D F nb o cs t) := numb_any w rb B nb o X b s D F 2 cs t hR ht ho hne hB (.inr rfl)
theorem but_two_box {w w0 w1 : World} {rb tb nb : Nat} (h0 : Below w.heap.size w w0) (ht : w.heap.size ≤ nb) (hb : But (TwoBlocks rb nb) w0 w1) : But (TwoBlocks rb tb) w w1 := but2_one (but_box h0 ht hb)
set_option maxRecDepth 100000 in
set_option maxHeartbeats 8000000 in
theorem counted_any (w : World) (rb B tb : Nat) (X : Value) (b : List Int) (s : Rd) (D F : Value) (most : Int) (hR : RdAt w rb B X b s D F) (ht : w.heap[tb]? = some (.cells #[.slice none 0 0] 22 (0, 0))) (hne : tb ≠ rb) (hB : B ≤ tb) :
    Calls Try.prog 65 #[.pointer (some ⟨rb, 0, none⟩), .pointer (some ⟨tb, 0, none⟩), .int .i64 most] w (PieceDone w rb B X b (blockR b s most) D F tb) := by
  have hb0 : Below w.heap.size w (w.alloc (.cells #[.int .i64 0] 3)) := (Below.refl _ w).alloc (Nat.le_refl _) _
  have HB0 := Lib.hid hb0
  have hlt := hR.lt
  have hlow := hR.low
  have htw := heap_lt ht
  have HT := Lib.hid ht
  obtain ⟨c0, c1, c2, c3, c4, c5⟩ := hR.cells
  have HN := Lib.hid (numb_two _ rb B w.heap.size 0 X b s D F #[.int .i64 0] 3 (hR.grow hb0) (heap_alloc_new w _) rfl (by omega) (by omega))
  have hbd := num_bd (b := b) (s := s) (n := 2) hR.byt.1 (by omega)
  obtain ⟨q, hq⟩ : ∃ q : Nat, (numR b s 2).2 = (q : Int) := ⟨(numR b s 2).2.toNat, by omega⟩
  have HBl : Hid (blockR b s most = takeR b (cntR b s most) q) := Lib.hid (by unfold blockR; rw [hq]; rfl)
  have HC2 := Lib.hid (fun h => cnt_two (b := b) (s := s) (most := most) h)
  have hc : cntR b s most = (numR b s 2).1.need (decide ((q : Int) ≤ most)) 3 s.pos := by unfold cntR; rw [hq]
  have hq16 : q ≤ 65536 := by omega
  rw [hq] at hbd
  generalize hr1 : (numR b s 2) = r1 at *
  obtain ⟨s1, m⟩ := r1
  dsimp only at hq hc
  subst hq
  have fin : ∀ dec : Bool, decide ((q : Int) ≤ most) = dec → Calls Try.prog 65 #[.pointer (some ⟨rb, 0, none⟩), .pointer (some ⟨tb, 0, none⟩), .int .i64 most] w (PieceDone w rb B X b (blockR b s most) D F tb) := by
    intro dec hdec
    rw [hdec] at hc
    have HC := Lib.hid hc
    rw [HBl.out]
    clear hR ht hc hb0 hr1 hbd HBl
    generalize cntR b s most = sc at *
    have HS := Lib.hid hq16
    clear hq16
    go_enter Try.func65, Try.ntmps65
    go_wp2_with (go_at_call 67; (with_reducible refine HN.out.mono ?_); rintro e w1 ⟨rfl, hr, hb, ho⟩; have HR1 := Lib.hid hr; have HB1 := Lib.hid (but_box HB0.out (Nat.le_refl _) hb); have ho' : w1.heap[w.heap.size]? = some (.cells #[.int .i64 q] 3 (0, 0)) := ho; have HO1 := Lib.hid ho'; have m0 := cell1 ho'; clear hr hb ho ho')
    go_region_held3 (fun W => W.cell? ⟨w.heap.size, 0, none⟩ = some (.int .i64 q)) (first | with_reducible exact cell1 HO3.out | with_reducible exact cell1 HO2.out | go_keep)
      (first
        | (go_at_call 62; (with_reducible refine (need_any _ rb B X b s1 D F dec 3 s.pos HR1.out.drew).mono ?_); rintro e w2 ⟨rfl, hr, hb⟩; rw [← HC.out] at hr; have HR2 := Lib.hid hr; have HB2 := Lib.hid (HB1.out.drew.trans hb); have HO2 := Lib.hid (hb.heap (show w1.drew.heap[w.heap.size]? = _ from HO1.out) (show ¬ w.heap.size = rb by omega)); have HT2 := Lib.hid (HB2.out.heap HT.out hne); clear hr hb)
        | (go_at_call 64; (with_reducible refine (piece_any _ rb B tb X b sc D F q HR2.out HT2.out hne hB (by have := HS.out; omega) (fun h => by have := HC2.out h; omega)).mono ?_); rintro e w3 hp; have HP3 := Lib.hid hp; have hret := hp.ret; subst hret; have HO3 := Lib.hid (hp.but.heap HO2.out (show ¬ (w.heap.size = rb ∨ w.heap.size = tb) by omega)); clear hp))
    all_goals
      go_wp2
      go_ret
      exact ⟨rfl, HP3.out.rd, (but2_one HB2.out).trans HP3.out.but, HP3.out.out⟩
  cases hd : decide ((q : Int) ≤ most)
  · exact fin _ hd
  · exact fin _ hd
end Go.Proofs.Ytimhlbejjbnofaa

/- (Mod08J) bytes' Clone and HasPrefix; the landed reader: mark, data, end, valid. Contracts; no condition but that the reader lies in memory, its place within its bytes. -/
namespace Go.Proofs.Ytimhlbejjbnofaa
open Go.RowKit Go.Shelf
set_option linter.unusedVariables false
set_option linter.unusedSimpArgs false

theorem eql_slice_nil8 (a : Option Addr) (n c : Nat) (w : World) : (binOp .eql 22 (.slice a n c) (.slice none 0 0)).run Try.prog w = .ok (.bool a.isNone) w := Lib.run_eql_slice_nil w 22 5 a n c 0 0 Try.underlying22
theorem made_out (w : World) : OutB w (w.alloc (.cells #[] 5)) (.slice (some ⟨w.heap.size, 0, none⟩) 0 0) [] := ⟨Owns.made w _ _ _ _ (Nat.le_refl _), (Below.refl _ _).alloc (Nat.le_refl _) _⟩
set_option maxRecDepth 100000 in
set_option maxHeartbeats 4000000 in
theorem clone_any (V : Value) (xs : List Int) (w : World) (hV : IsBytes w w.heap.size V xs) (hl : xs.length ≤ 1000000) : Calls Try.prog 66 #[V] w (LowDone w xs) := by
  rcases hV.2.2 with ⟨rfl, rfl⟩ | ⟨ad, cap, rfl, h1, h2, h3⟩
  · have he := eql_slice_nil8 none 0 0
    go_enter Try.func66, Try.ntmps66
    go_wp2
    go_ret
    exact ⟨_, rfl, OutB.nil (Below.refl _ _)⟩
  · have ha : Below w.heap.size w (w.alloc (.cells #[] 5)) := (Below.refl _ w).alloc (Nat.le_refl _) _
    have HV := Lib.hid (hV.below ha (Nat.le_refl _))
    have HM := Lib.hid (made_out w)
    have HL := Lib.hid hl
    have he := eql_slice_nil8 (some ad) xs.length cap
    clear hV h1 h2 h3 ha hl
    go_enter Try.func66, Try.ntmps66
    go_wp2_with (at_builtin; refine wpList_outX rfl (.tmp 5) (.tmp 6) rfl rfl rfl HM.out HV.out (by have := HL.out; simpa using this) ?_; intro V2 w2 ho hb; have HO2 := Lib.hid ho; clear ho hb)
    go_ret
    exact ⟨_, rfl, HO2.out⟩
theorem bytes_prefix {w : World} {B n cap k : Nat} {A : Option Addr} {xs : List Int} (h : IsBytes w B (.slice A n cap) xs) (hk : k ≤ xs.length) : IsBytes w B (.slice A k cap) (xs.take k) := by
  have hl : (xs.take k).length = k := by rw [List.length_take]; omega
  refine ⟨fun x hx => h.1 x (List.mem_of_mem_take hx), by have := h.2.1; omega, ?_⟩
  rcases h.2.2 with ⟨he, rfl⟩ | ⟨ad, cap', he, h1, h2, h3⟩
  · injection he with e1 e2 e3
    subst e1 e3
    obtain rfl : k = 0 := by simpa using hk
    exact .inl ⟨rfl, rfl⟩
  · injection he with e1 e2 e3
    subst e1 e3
    refine .inr ⟨ad, cap, by rw [hl], by omega, fun hn => h2 (by omega), fun i hi => ?_⟩
    rw [hl] at hi
    rw [h3 i (by omega)]
    simp [List.getD, hi]
theorem map_add0 (A : Option Addr) : Option.map (fun x => x.add 0) A = A := by
  cases A with
  | none => rfl
  | some a => simp [Addr.add]
set_option maxRecDepth 100000 in
set_option maxHeartbeats 4000000 in
theorem prefix_any (X Y : Value) (xs ys : List Int) (w : World) (B C : Nat) (hX : IsBytes w B X xs) (hY : IsBytes w C Y ys) (hl : ys.length ≤ xs.length) :
    Calls Try.prog 63 #[X, Y] w fun e w' => e = .returned (.bool (xs.take ys.length == ys)) ∧ w = w' := by
  obtain ⟨A, cap, hXe⟩ := hX.len
  obtain ⟨A2, cap2, hYe⟩ := hY.len
  subst hXe hYe
  have hcap : xs.length ≤ cap := by
    rcases hX.2.2 with ⟨he, rfl⟩ | ⟨ad, cap', he, h1, _⟩
    · exact Nat.zero_le _
    · injection he with _ _ e3
      omega
  have HE := Lib.hid (equalB_any _ _ _ _ w B C (bytes_prefix (k := ys.length) hX hl) hY)
  have hA := map_add0 A
  have hle : (ys.length : Int) ≤ (xs.length : Int) := by omega
  have hle2 : (ys.length : Int) ≤ (cap : Int) := by omega
  have h0 : (0 : Int) ≤ (ys.length : Int) := by omega
  clear hX hY hcap
  go_enter Try.func63, Try.ntmps63
  go_wp2_with (go_at_call 35; (with_reducible refine HE.out.mono ?_); rintro e w1 ⟨rfl, rfl⟩)
  go_ret
  exact ⟨rfl, rfl⟩
/-- What a step of the reader leaves. -/
structure StepR (w : World) (rb B : Nat) (X : Value) (b : List Int) (s : Rd) (D F : Value) (e : Ending) (w' : World) : Prop where
  ret : e = .returned (.pointer (some ⟨rb, 0, none⟩))
  rd : RdAt w' rb B X b s D F
  but : But (OneBlock rb) w w'
set_option maxRecDepth 100000 in
set_option maxHeartbeats 4000000 in
theorem data8_any (w : World) (rb B : Nat) (X : Value) (b : List Int) (s : Rd) (D F : Value) (hR : RdAt w rb B X b s D F) :
    Calls Try.prog 42 #[.pointer (some ⟨rb, 0, none⟩)] w fun e w' => ∃ D', StepR w rb B X b (blockR b s 8192).1 D' F e w' ∧ Owns w' w.heap.size 5 1 IsU8 D' (blockR b s 8192).2.length ((blockR b s 8192).2.map (Value.int .u8)) := by
  have hb0 : Below w.heap.size w (w.alloc (.cells #[.slice none 0 0] 22)) := (Below.refl _ w).alloc (Nat.le_refl _) _
  have HB0 := Lib.hid hb0
  have hlt := hR.lt
  have hlow := hR.low
  have HC := Lib.hid (counted_any _ rb B w.heap.size X b s D F 8192 (hR.grow hb0) (heap_alloc_new w _) (by omega) (by omega))
  have HBL := Lib.hid (Nat.le_trans (block_len (b := b) (s := s) (most := 8192)) hR.small)
  generalize blockR b s 8192 = r at *
  obtain ⟨s1, xs⟩ := r
  dsimp only at HBL ⊢
  clear hR hb0
  go_enter Try.func42, Try.ntmps42
  go_wp2_with (first
    | (go_at_call 65; (with_reducible refine HC.out.mono ?_); rintro e w1 ⟨rfl, hr, hb, V, hV, hVb⟩; have HR1 := Lib.hid hr; have HB1 := Lib.hid (but_box HB0.out (Nat.le_refl _) hb); have HV1 := Lib.hid (hVb.more (Nat.le_trans (Nat.le_of_lt_succ (Nat.lt_succ_of_le hr.low)) (Nat.le_of_lt hr.lt))); have v0 := cell1 hV; clear hr hb hV hVb)
    | (go_at_call 66; (with_reducible refine (clone_any _ _ _ HV1.out HBL.out).mono ?_); rintro e w2 ⟨D2, rfl, ho⟩; have HR2 := Lib.hid (HR1.out.grow ho.bel); have HB2 := Lib.hid (HB1.out.then_below ho.bel HB1.out.size); obtain ⟨dA, dc, hde⟩ := owns_len ho.own; subst hde; have HD2 := Lib.hid (Owns.base ho.own HB1.out.size); have f4 := HR2.out.free 4; obtain ⟨d0, d1, d2, d3, d4, d5⟩ := HR2.out.cells; clear ho))
  go_ret
  have hbo := but_one w2 rb 4 (.slice dA xs.length dc)
  refine ⟨_, ⟨rfl, HR2.out.set (s' := s1) (o := 4) rfl HR2.out.pos, HB2.out.trans hbo⟩, Owns.but HD2.out hbo (fun g hg e => ?_)⟩
  have e' : g = rb := e
  have := (HD2.out.lt hg).1
  omega
set_option maxRecDepth 100000 in
set_option maxHeartbeats 4000000 in
theorem end8_any (w : World) (rb B : Nat) (X : Value) (b : List Int) (s : Rd) (D F : Value) (hR : RdAt w rb B X b s D F) :
    Calls Try.prog 44 #[.pointer (some ⟨rb, 0, none⟩)] w (StepR w rb B X b (s.need (decide (s.pos = b.length)) 4 s.pos) D F) := by
  have HR := Lib.hid hR
  obtain ⟨XA, cap, hXe⟩ := hR.byt.len
  subst hXe
  obtain ⟨c0, c1, c2, c3, c4, c5⟩ := hR.cells
  have hdd : ((s.pos : Int) == (b.length : Int)) = decide (s.pos = b.length) := by
    rw [Bool.eq_iff_iff, beq_iff_eq, decide_eq_true_iff]
    omega
  have fin : ∀ dec : Bool, decide (s.pos = b.length) = dec → Calls Try.prog 44 #[.pointer (some ⟨rb, 0, none⟩)] w (StepR w rb B (.slice XA b.length cap) b (s.need (decide (s.pos = b.length)) 4 s.pos) D F) := by
    intro dec hdec
    rw [hdec] at hdd ⊢
    have HN := Lib.hid (need_any w.drew rb B (.slice XA b.length cap) b s D F dec 4 s.pos HR.out.drew)
    clear hR hdec
    go_enter Try.func44, Try.ntmps44
    go_wp2
    go_still_tail 18, (by kernel_rfl)
    go_wp2_with (go_at_call 62; (with_reducible refine HN.out.mono ?_); rintro e w1 ⟨rfl, hr, hb⟩; have HR1 := Lib.hid hr; have HB1 := Lib.hid hb; clear hr hb)
    go_ret
    exact ⟨rfl, HR1.out, ((But.refl _ w).drew).trans HB1.out⟩
  cases hd : decide (s.pos = b.length)
  · have := fin _ hd
    rw [hd] at this
    exact this
  · have := fin _ hd
    rw [hd] at this
    exact this
set_option maxRecDepth 100000 in
set_option maxHeartbeats 4000000 in
theorem valid8_any (w : World) (rb B : Nat) (X : Value) (b : List Int) (s : Rd) (D F : Value) (data : List Int) (fs : List FunV) (hR : RdAt w rb B X b s D F) (hM : s.err = 0 → IsBytes w w.heap.size D data ∧ IsFuns w w.heap.size F fs) :
    Calls Try.prog 45 #[.pointer (some ⟨rb, 0, none⟩)] w (StepR w rb B X b (s.need (decide ((ModV.mk data fs).err = 0)) 2 0) D F) := by
  have HR := Lib.hid hR
  obtain ⟨c0, c1, c2, c3, c4, c5⟩ := hR.cells
  by_cases h0 : s.err = 0
  case neg =>
    have hb0 : (s.err != 0) = true := by simpa using h0
    have HE := Lib.hid (Rd.need_bad h0 (decide ((ModV.mk data fs).err = 0)) 2 0)
    clear hR hM h0
    go_enter Try.func45, Try.ntmps45
    go_wp2
    go_ret
    rw [HE.out]
    exact ⟨rfl, HR.out, But.refl _ _⟩
  obtain ⟨hD, hF⟩ := hM h0
  have HC := Lib.hid (check8_any D F data fs w hD hF)
  obtain ⟨DA, dc, hDe⟩ := hD.len
  obtain ⟨FA, fc, hFe⟩ := hF.len
  subst hDe hFe
  have hb0 : (s.err != 0) = false := by simpa using h0
  generalize (ModV.mk data fs).err = z at *
  have hdd : (z == 0) = decide (z = 0) := by rw [Bool.eq_iff_iff, beq_iff_eq, decide_eq_true_iff]
  clear hM hD hF hR h0
  have fin : ∀ dec : Bool, decide (z = 0) = dec → Calls Try.prog 45 #[.pointer (some ⟨rb, 0, none⟩)] w (StepR w rb B X b (s.need dec 2 0) (.slice DA data.length dc) (.slice FA fs.length fc)) := by
    intro dec hdec
    rw [hdec] at hdd
    clear hdec
    go_enter Try.func45, Try.ntmps45
    go_wp2_with (first
      | (go_at_call 15; (with_reducible refine HC.out.mono ?_); rintro e w1 ⟨rfl, hb⟩; have HB1 := Lib.hid hb; have HR1 := Lib.hid (HR.out.grow hb); clear hb)
      | (go_at_call 62; (with_reducible refine (need_any _ rb B X b s _ _ dec 2 0 HR1.out).mono ?_); rintro e w2 ⟨rfl, hr, hb⟩; have HR2 := Lib.hid hr; have HB2 := Lib.hid ((But.of_below HB1.out).trans hb); clear hr hb))
    go_ret
    exact ⟨rfl, HR2.out, HB2.out⟩
  exact fin _ rfl
end Go.Proofs.Ytimhlbejjbnofaa

/- (Mod08K) The landed reader: mark, function. Contracts; no condition but that the reader lies in memory, its place within its bytes. -/
namespace Go.Proofs.Ytimhlbejjbnofaa
open Go.RowKit Go.Shelf
set_option linter.unusedVariables false
set_option linter.unusedSimpArgs false

theorem piece_three (w : World) (rb B tb : Nat) (X : Value) (b : List Int) (s : Rd) (D F : Value) (hR : RdAt w rb B X b s D F) (ht : w.heap[tb]? = some (.cells #[.slice none 0 0] 22 (0, 0))) (hne : tb ≠ rb) (hB : B ≤ tb) :
    Calls Try.prog 64 #[.pointer (some ⟨rb, 0, none⟩), .pointer (some ⟨tb, 0, none⟩), .int .i64 3] w (PieceDone w rb B X b (takeR b s 3) D F tb) := piece_any w rb B tb X b s D F 3 hR ht hne hB (by decide) (fun _ => by omega)
theorem mark_letter {q : Nat} (hq : Hid (q = 3)) (w : World) : Calls Try.prog 54 #[] w fun e w' => ∃ A : Option Addr, e = .returned (.slice A q q) ∧ OutB w w' (.slice A q q) markL :=
  (mark_any w).mono fun e w' ⟨V, he, ho, A, hV⟩ => by
    subst hV
    rw [hq.out]
    exact ⟨A, he, ho⟩
/-- As But.box, behind other steps. -/
theorem but_far {w w5 w6 : World} {rb tb : Nat} (h : But (OneBlock rb) w w5) (ht : w.heap.size ≤ tb) (hb : But (TwoBlocks rb tb) w5 w6) : But (OneBlock rb) w w6 :=
  ⟨hb.os.trans h.os, hb.tape.trans h.tape, hb.output.trans h.output, Nat.le_trans h.size hb.size, fun k hk hn => (hb.block k (Nat.lt_of_lt_of_le hk h.size) (fun e => by
    rcases e with e | e
    · exact hn e
    · omega)).trans (h.block k hk hn)⟩
set_option maxRecDepth 100000 in
set_option maxHeartbeats 8000000 in
theorem mark8_any (w : World) (rb B : Nat) (X : Value) (b : List Int) (s : Rd) (D F : Value) (hR : RdAt w rb B X b s D F) :
    Calls Try.prog 41 #[.pointer (some ⟨rb, 0, none⟩)] w (StepR w rb B X b (takeR b (s.need (b.take 3 == markL.take (b.take 3).length) 10 0) 3).1 D F) := by
  obtain ⟨XA, cap, hXe⟩ := hR.byt.len
  subst hXe
  have hcap : b.length ≤ cap := by
    rcases hR.byt.2.2 with ⟨he, rfl⟩ | ⟨ad, cap', he, h1, _⟩
    · exact Nat.zero_le _
    · injection he with _ _ e3
      omega
  have hb0 : Below w.heap.size w (w.alloc (.cells #[.slice none 0 0] 22)) := (Below.refl _ w).alloc (Nat.le_refl _) _
  have hlt := hR.lt
  have hlow := hR.low
  obtain ⟨w0, hw0⟩ : ∃ w0, w0 = w.alloc (.cells #[.slice none 0 0] 22) := ⟨_, rfl⟩
  have hT0 := heap_alloc_new w (.cells #[.slice none 0 0] 22)
  rw [← hw0] at hb0 hT0
  have HB0 := Lib.hid hb0
  have HR0 := Lib.hid (hR.grow hb0)
  have HT0 := Lib.hid hT0
  have HW0 := Lib.hid hw0
  obtain ⟨c0, c1, c2, c3, c4, c5⟩ := HR0.out.cells
  have hA := map_add0 XA
  obtain ⟨dec, hdec⟩ : ∃ dec, dec = (b.take 3 == markL.take (b.take 3).length) := ⟨_, rfl⟩
  rw [← hdec]
  have hpre : ∀ k : Nat, k ≤ b.length → b.take k = b.take 3 → Hid (∀ (M : Value) (W : World) (B' : Nat), IsBytes W B' M markL → RdAt W rb B (.slice XA b.length cap) b s D F → Calls Try.prog 63 #[M, .slice XA k cap] W fun e w' => e = .returned (.bool dec) ∧ W = w') := by
    intro k hk hk3
    refine Lib.hid fun M W B' hM hr => ?_
    have hY := bytes_prefix (k := k) hr.byt hk
    have hl3 : (b.take k).length ≤ markL.length := by rw [hk3, List.length_take]; show min 3 _ ≤ 3; omega
    have h1 := prefix_any M _ markL _ W B' B hM hY hl3
    rw [hk3] at h1
    rw [show dec = (markL.take (b.take 3).length == b.take 3) from by rw [hdec, Bool.eq_iff_iff, beq_iff_eq, beq_iff_eq]; exact eq_comm]
    exact h1
  have hml : ∀ x ∈ markL, 0 ≤ x ∧ x < 256 := by decide
  have HML := Lib.hid hml
  by_cases h3 : 3 ≤ b.length
  · have HP := Lib.hid (fun (k : Nat) (hk : k = 3) => (hpre k (by omega) (by rw [hk])).out)
    have h3I : (3 : Int) ≤ (b.length : Int) := by omega
    have h3c : 3 ≤ cap := by omega
    obtain ⟨q, hq⟩ : ∃ q : Nat, q = 3 := ⟨_, rfl⟩
    have q1 : (q : Int) ≤ (b.length : Int) := by omega
    have q2 : (q : Int) ≤ (cap : Int) := by omega
    have q0 : (0 : Int) ≤ (q : Int) := by omega
    have HQ := Lib.hid hq
    clear h3c h3I hq
    clear hpre hR hdec hb0 hT0 hw0 hml
    go_enter Try.func41, Try.ntmps41
    go_wp2
    rw [← HW0.out]
    go_region_held_law (fun W => W.cell? ⟨rb, 2, none⟩ = some (.slice XA b.length cap)) (first | with_reducible exact HR1.out.cells.2.2.1 | go_keep)
      ((go_at_call 54; (with_reducible refine (mark_letter HQ _).mono ?_); rintro e w1 ⟨mA, rfl, ho⟩; have HR1 := Lib.hid (HR0.out.drew.grow ho.bel); have HT1 := Lib.hid (box_below (show w0.drew.heap[w.heap.size]? = _ from HT0.out) ho.bel); have HB1 := Lib.hid (HB0.out.trans ((show Below w.heap.size w0 w0.drew from (Below.refl _ _).drew).trans (ho.bel.mono HB0.out.size))); clear ho))
    go_wp2_with (first
      | (go_at_call 54; (with_reducible refine (mark_any w1).mono ?_); rintro e w2 ⟨V2, rfl, ho, mA2, rfl⟩; have HR2 := Lib.hid (HR1.out.grow ho.bel); have HT2 := Lib.hid (box_below HT1.out ho.bel); have HB2 := Lib.hid (HB1.out.trans (ho.bel.mono HB1.out.size)); have HM2 := Lib.hid (outB_is ho HML.out); clear ho)
      | (go_at_call 63; (with_reducible refine (HP.out q HQ.out _ _ _ HM2.out HR2.out).mono ?_); rintro e w3 ⟨rfl, hw3⟩; subst hw3)
      | (go_at_call 62; (with_reducible refine (need_any w2 rb B _ b s D F dec 10 0 HR2.out).mono ?_); rintro e w4 ⟨rfl, hr, hb⟩; have HR4 := Lib.hid hr; have HB4 := Lib.hid ((But.of_below (R := OneBlock rb) HB2.out).trans hb); have HT4 := Lib.hid (hb.heap HT2.out (show ¬ w.heap.size = rb by omega)); clear hr hb)
      | (go_at_call 54; (with_reducible refine (mark_any w4).mono ?_); rintro e w5 ⟨V5, rfl, ho, mA5, rfl⟩; have HR5 := Lib.hid (HR4.out.grow ho.bel); have HT5 := Lib.hid (box_below HT4.out ho.bel); have HB5 := Lib.hid (HB4.out.then_below ho.bel HB4.out.size); clear ho)
      | (go_at_call 64; (with_reducible refine (piece_three w5 rb B w.heap.size _ b _ D F HR5.out HT5.out (by omega) (by omega)).mono ?_); rintro e w6 ⟨rfl, hr, hb, _⟩; have HR6 := Lib.hid hr; have HB6 := Lib.hid (but_far HB5.out (Nat.le_refl _) hb); clear hr hb))
    go_ret
    exact ⟨rfl, HR6.out, HB6.out⟩
  · have HP := hpre b.length (Nat.le_refl _) (by rw [List.take_of_length_le (Nat.le_refl _), List.take_of_length_le (by omega)])
    have h3I : ¬ (3 : Int) ≤ (b.length : Int) := by omega
    have h3J : (b.length : Int) < 3 := by omega
    have h3c : (b.length : Int) ≤ (cap : Int) := by omega
    clear hpre hR hdec hb0 hT0 hw0 hml
    go_enter Try.func41, Try.ntmps41
    go_wp2
    rw [← HW0.out]
    go_region_held3 (fun W => W.cell? ⟨rb, 2, none⟩ = some (.slice XA b.length cap)) (first | with_reducible exact HR1.out.cells.2.2.1 | go_keep)
      ((go_at_call 54; (with_reducible refine (mark_any _).mono ?_); rintro e w1 ⟨V1, rfl, ho, mA, rfl⟩; have HR1 := Lib.hid (HR0.out.drew.grow ho.bel); have HT1 := Lib.hid (box_below (show w0.drew.heap[w.heap.size]? = _ from HT0.out) ho.bel); have HB1 := Lib.hid (HB0.out.trans ((show Below w.heap.size w0 w0.drew from (Below.refl _ _).drew).trans (ho.bel.mono HB0.out.size))); clear ho))
    go_wp2_with (first
      | (go_at_call 54; (with_reducible refine (mark_any w1).mono ?_); rintro e w2 ⟨V2, rfl, ho, mA2, rfl⟩; have HR2 := Lib.hid (HR1.out.grow ho.bel); have HT2 := Lib.hid (box_below HT1.out ho.bel); have HB2 := Lib.hid (HB1.out.trans (ho.bel.mono HB1.out.size)); have HM2 := Lib.hid (outB_is ho HML.out); clear ho)
      | (go_at_call 63; (with_reducible refine (HP.out _ _ _ HM2.out HR2.out).mono ?_); rintro e w3 ⟨rfl, hw3⟩; subst hw3)
      | (go_at_call 62; (with_reducible refine (need_any w2 rb B _ b s D F dec 10 0 HR2.out).mono ?_); rintro e w4 ⟨rfl, hr, hb⟩; have HR4 := Lib.hid hr; have HB4 := Lib.hid ((But.of_below (R := OneBlock rb) HB2.out).trans hb); have HT4 := Lib.hid (hb.heap HT2.out (show ¬ w.heap.size = rb by omega)); clear hr hb)
      | (go_at_call 54; (with_reducible refine (mark_any w4).mono ?_); rintro e w5 ⟨V5, rfl, ho, mA5, rfl⟩; have HR5 := Lib.hid (HR4.out.grow ho.bel); have HT5 := Lib.hid (box_below HT4.out ho.bel); have HB5 := Lib.hid (HB4.out.then_below ho.bel HB4.out.size); clear ho)
      | (go_at_call 64; (with_reducible refine (piece_three w5 rb B w.heap.size _ b _ D F HR5.out HT5.out (by omega) (by omega)).mono ?_); rintro e w6 ⟨rfl, hr, hb, _⟩; have HR6 := Lib.hid hr; have HB6 := Lib.hid (but_far HB5.out (Nat.le_refl _) hb); clear hr hb))
    go_ret
    exact ⟨rfl, HR6.out, HB6.out⟩
end Go.Proofs.Ytimhlbejjbnofaa
