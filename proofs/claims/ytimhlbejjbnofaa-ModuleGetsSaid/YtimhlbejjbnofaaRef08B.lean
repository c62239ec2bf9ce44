/- The document's own reader of layer 8: fails, take, number, block. Contracts; no condition but that the reader lies in memory, its place within its bytes. -/
import Derived.Test.YtimhlbejjbnofaaS12
import Derived.BigQuiet
namespace Go.Proofs.Ytimhlbejjbnofaa
open Go.RowKit Go.Shelf
set_option linter.unusedVariables false
set_option linter.unusedSimpArgs false

/-- The document's reader in memory: bytes, a place, a fault. -/
structure RrAt (w : World) (rb B : Nat) (X : Value) (b : List Int) (s : Rd) : Prop where
  blk : w.heap[rb]? = some (.cells #[X, .int .i64 s.pos, .int .i64 s.err, .int .i64 s.at_] 75 (0, 0))
  byt : IsBytes w B X b
  low : B ≤ rb
  small : b.length ≤ 1000000
  pos : s.pos ≤ b.length
theorem cells4r {w : World} {rb : Nat} {e k p : Int} {X : Value} {T : TypeId} (h : w.heap[rb]? = some (.cells #[X, .int .i64 p, .int .i64 e, .int .i64 k] T (0, 0))) :
    w.cell? ⟨rb, 0, none⟩ = some X ∧ w.cell? ⟨rb, 1, none⟩ = some (.int .i64 p) ∧ w.cell? ⟨rb, 2, none⟩ = some (.int .i64 e) ∧ w.cell? ⟨rb, 3, none⟩ = some (.int .i64 k) := by
  simp [World.cell?, h]
section
variable {w w' : World} {rb B : Nat} {X : Value} {b : List Int} {s : Rd}
theorem RrAt.cells (h : RrAt w rb B X b s) : w.cell? ⟨rb, 0, none⟩ = some X ∧ w.cell? ⟨rb, 1, none⟩ = some (.int .i64 s.pos) ∧ w.cell? ⟨rb, 2, none⟩ = some (.int .i64 s.err) ∧ w.cell? ⟨rb, 3, none⟩ = some (.int .i64 s.at_) := cells4r h.blk
theorem RrAt.free (h : RrAt w rb B X b s) (o : Nat) : w.frozen? ⟨rb, o, none⟩ = false := frozen_of_row w rb o _ _ h.blk
theorem RrAt.lt (h : RrAt w rb B X b s) : rb < w.heap.size := heap_lt h.blk
theorem RrAt.but {R : Nat → Prop} (h : RrAt w rb B X b s) (hb : But R w w') (hn : ¬ R rb) (hr : ∀ k, k < B → ¬ R k) : RrAt w' rb B X b s :=
  ⟨hb.heap h.blk hn, h.byt.but hb (by have := h.lt; have := h.low; omega) hr, h.low, h.small, h.pos⟩
theorem RrAt.below {C : Nat} (h : RrAt w rb B X b s) (hb : Below C w w') (hC : rb < C) : RrAt w' rb B X b s :=
  ⟨(hb.block _ hC).trans h.blk, h.byt.below hb (by have := h.low; omega), h.low, h.small, h.pos⟩
theorem RrAt.grow (h : RrAt w rb B X b s) (hb : Below w.heap.size w w') : RrAt w' rb B X b s := h.below hb h.lt
theorem RrAt.drewN (h : RrAt w rb B X b s) (n : Nat) : RrAt (w.drewN n) rb B X b s := h.grow (below_drewN (Below.refl _ w) n)
theorem RrAt.drew (h : RrAt w rb B X b s) : RrAt w.drew rb B X b s := h.grow (Below.refl _ w).drew
/-- A cell of the reader is written. -/
theorem RrAt.set (h : RrAt w rb B X b s) {o : Nat} {v : Value} {s' : Rd} (hc : (#[X, .int .i64 s.pos, .int .i64 s.err, .int .i64 s.at_] : Array Value).setIfInBounds o v = #[X, .int .i64 s'.pos, .int .i64 s'.err, .int .i64 s'.at_]) (hp : s'.pos ≤ b.length) :
    RrAt (w.setCell ⟨rb, o, none⟩ v) rb B X b s' := by
  have h1 := heap_setCell_same w rb o _ _ v h.blk
  rw [hc] at h1
  refine ⟨h1, h.byt.but (R := OneBlock rb) ((But.refl (OneBlock rb) w).setCell (p := ⟨rb, o, none⟩) (.inl rfl) _) (by have := h.lt; have := h.low; omega) (fun k hk e => ?_), h.low, h.small, hp⟩
  have := h.low
  have : k = rb := e
  omega
theorem RrAt.fault (h : RrAt w rb B X b s) (e k : Int) : RrAt ((w.setCell ⟨rb, 2, none⟩ (.int .i64 e)).setCell ⟨rb, 3, none⟩ (.int .i64 k)) rb B X b ⟨e, k, s.pos⟩ :=
  (h.set (s' := ⟨e, s.at_, s.pos⟩) (o := 2) rfl h.pos).set (s' := ⟨e, k, s.pos⟩) (o := 3) rfl h.pos
end
/-- What a call leaves that tells nothing. -/
def RStep (w : World) (rb B : Nat) (X : Value) (b : List Int) (s : Rd) (e : Ending) (w' : World) : Prop := e = .returned (.tuple #[]) ∧ RrAt w' rb B X b s ∧ But (OneBlock rb) w w'
theorem rfails_keep (w : World) (rb B : Nat) (X : Value) (b : List Int) (s : Rd) (e k : Int) (hR : RrAt w rb B X b s) (hs : s.err ≠ 0) :
    Calls Try.prog 49 #[.pointer (some ⟨rb, 0, none⟩), .int .i64 e, .int .i64 k] w fun e' w' => e' = .returned (.tuple #[]) ∧ w = w' := by
  obtain ⟨c0, c1, c2, c3⟩ := hR.cells
  have hb0 : (s.err == 0) = false := by simpa using hs
  clear hR hs
  go_enter Try.func49, Try.ntmps49
  go_wp2
  go_end0
  exact ⟨rfl, rfl⟩
theorem rfails_set (w : World) (rb B : Nat) (X : Value) (b : List Int) (s : Rd) (e k : Int) (hR : RrAt w rb B X b s) (h0 : s.err = 0) :
    Calls Try.prog 49 #[.pointer (some ⟨rb, 0, none⟩), .int .i64 e, .int .i64 k] w (RStep w rb B X b ⟨e, k, s.pos⟩) := by
  obtain ⟨c0, c1, c2, c3⟩ := hR.cells
  have f2 := hR.free 2
  have f3 := hR.free 3
  have HR := Lib.hid hR
  rw [h0] at c2
  clear hR h0
  go_enter Try.func49, Try.ntmps49
  go_wp2
  go_end0
  exact ⟨rfl, HR.out.fault e k, (but_one w rb 2 _).trans (but_one _ rb 3 _)⟩
theorem rfails_any (w : World) (rb B : Nat) (X : Value) (b : List Int) (s : Rd) (e k : Int) (hR : RrAt w rb B X b s) :
    Calls Try.prog 49 #[.pointer (some ⟨rb, 0, none⟩), .int .i64 e, .int .i64 k] w (RStep w rb B X b (s.need false e k)) := by
  by_cases h0 : s.err = 0
  · rw [Rd.need_no h0]
    exact rfails_set w rb B X b s e k hR h0
  · rw [Rd.need_bad h0]
    refine (rfails_keep w rb B X b s e k hR h0).mono ?_
    rintro e' w' ⟨rfl, rfl⟩
    exact ⟨rfl, hR, But.refl _ _⟩
/-- What a read of bytes leaves. -/
structure RTake (w : World) (rb B : Nat) (X : Value) (b : List Int) (r : Rd × List Int) (e : Ending) (w' : World) : Prop where
  ret : ∃ V, e = .returned V ∧ IsBytes w' B V r.2
  rd : RrAt w' rb B X b r.1
  but : But (OneBlock rb) w w'
set_option maxRecDepth 100000 in
set_option maxHeartbeats 8000000 in
theorem rtake_any (w : World) (rb B : Nat) (X : Value) (b : List Int) (s : Rd) (n : Nat) (hR : RrAt w rb B X b s) (hn : n ≤ 1000000) (h0 : s.err = 0 → 0 < s.pos + n) :
    Calls Try.prog 69 #[.pointer (some ⟨rb, 0, none⟩), .int .i64 n] w (RTake w rb B X b (takeR b s n)) := by
  have HR := Lib.hid hR
  have hsm := hR.small
  have hps := hR.pos
  obtain ⟨XA, cap, hXe⟩ := hR.byt.len
  subst hXe
  obtain ⟨c0, c1, c2, c3⟩ := hR.cells
  have hsub : IntKind.i64.wrap ((b.length : Int) - (s.pos : Int)) = (b.length : Int) - (s.pos : Int) := by rw [IntKind.wrap_i64]; omega
  by_cases he : s.err = 0
  case neg =>
    have HTk := Lib.hid (take_bad (b := b) (n := n) he)
    have hb0 : (s.err == 0) = false := by simpa using he
    have hb1 : (s.err != 0) = true := by simpa using he
    clear hR h0 he
    go_enter Try.func69, Try.ntmps69
    go_wp2
    go_quiet (fail)
    go_wp2
    go_ret
    rw [HTk.out]
    exact ⟨⟨_, rfl, nil_is _ _⟩, HR.out.drewN _, (But.refl _ w).drewN _⟩
  by_cases hl : s.pos + n ≤ b.length
  case neg =>
    have HTk := Lib.hid (take_no (b := b) (n := n) he hl)
    have HNd := Lib.hid (fun j => rfails_set (w.drewN j) rb B (.slice XA b.length cap) b s 4 b.length (hR.drewN j) he)
    have hb0 : (s.err == 0) = true := by simpa using he
    have hdec : decide ((b.length : Int) - (s.pos : Int) < (n : Int)) = true := decide_eq_true (by omega)
    clear hR h0 he hl
    go_enter Try.func69, Try.ntmps69
    go_wp2
    go_quiet (fail)
    go_wp2_with (go_at_call 49; (with_reducible refine (HNd.out _).mono ?_); rintro e w1 ⟨rfl, hr, hb⟩; have HR1 := Lib.hid hr; have HB1 := Lib.hid hb; obtain ⟨d0, d1, d2, d3⟩ := hr.cells; clear hr hb)
    go_ret
    rw [HTk.out]
    exact ⟨⟨_, rfl, nil_is _ _⟩, HR1.out, ((But.refl _ w).drewN _).trans HB1.out⟩
  have HTk := Lib.hid (take_yes (b := b) (n := n) he hl)
  have hdec : decide ((b.length : Int) - (s.pos : Int) < (n : Int)) = false := decide_eq_false (by omega)
  obtain ⟨g, off, cap', hXe, hcp, hgB, hcl⟩ := hR.byt.plain (by have := h0 he; omega)
  cases hXe
  obtain ⟨xs, hxs⟩ : ∃ xs, xs = (b.drop s.pos).take n := ⟨_, rfl⟩
  rw [← hxs] at HTk
  obtain ⟨q, hq⟩ : ∃ q : Nat, q = s.pos + n := ⟨_, rfl⟩
  have hadd : IntKind.i64.wrap ((s.pos : Int) + (n : Int)) = (q : Int) := by rw [IntKind.wrap_i64]; omega
  have hsub2 : IntKind.i64.wrap ((q : Int) - (n : Int)) = (s.pos : Int) := by rw [IntKind.wrap_i64]; omega
  have HQ := Lib.hid hq
  have hqs : q - s.pos = n := by omega
  have hV : ∀ A', (cap ≠ s.pos → A' = ⟨g, off + s.pos, none⟩) → IsBytes w B (.slice (some A') (q - s.pos) (cap - s.pos)) xs := by
    intro A' hA'
    rw [hqs]
    by_cases hc : cap = s.pos
    · have : n = 0 := by omega
      subst this
      have hx0 : xs = [] := by rw [hxs]; simp
      subst hx0
      exact ⟨by simp, by simp, .inr ⟨A', cap - s.pos, rfl, by simp, fun h => absurd h (by simp), fun i hi => absurd hi (by simp)⟩⟩
    · rw [hA' hc, hxs]
      exact bytes_part hR.byt hcl hgB hl (by omega)
  have hS : ∀ j, RrAt ((w.drewN j).setCell ⟨rb, 1, none⟩ (.int .i64 (q : Int))) rb B (.slice (some ⟨g, off, none⟩) b.length cap) b ⟨s.err, s.at_, q⟩ := fun j => (hR.drewN j).set (s' := ⟨s.err, s.at_, q⟩) rfl (by rw [hq]; exact hl)
  have hVS : ∀ j A', (cap ≠ s.pos → A' = ⟨g, off + s.pos, none⟩) → IsBytes ((w.drewN j).setCell ⟨rb, 1, none⟩ (.int .i64 (q : Int))) B (.slice (some A') (q - s.pos) (cap - s.pos)) xs := fun j A' hA' =>
    ((hV A' hA').below (below_drewN (Below.refl _ w) j) (by have := hR.lt; have := hR.low; omega)).but (but_one (w.drewN j) rb 1 _) (by have := (hR.drewN j).lt; have := hR.low; omega) (fun k hk e => by have e' : k = rb := e; have := hR.low; omega)
  have e0 := fun j => (hS j).cells.1
  have e1 := fun j => (hS j).cells.2.1
  have HSS := Lib.hid hS
  have HVS := Lib.hid hVS
  have f1 := hR.free 1
  have hb0 : (s.err == 0) = true := by simpa using he
  have hb1 : (s.err != 0) = false := by simpa using he
  have q1 : (s.pos : Int) ≤ (q : Int) := by omega
  have q2 : (q : Int) ≤ (b.length : Int) := by omega
  have q3 : (q : Int) ≤ (cap : Int) := by omega
  have q4 : (0 : Int) ≤ (s.pos : Int) := by omega
  clear hR h0 he hl hcl hxs hq hV hqs hS hVS hn
  by_cases hc : cap = s.pos
  · subst hc
    go_enter Try.func69, Try.ntmps69
    go_wp2
    go_quiet (fail)
    go_wp2
    go_quiet (fail)
    go_wp2
    go_ret
    rw [HTk.out, ← HQ.out]
    have hv := fun j => HVS.out j ⟨g, off, none⟩ (fun h => absurd rfl h)
    simp only [Nat.sub_self] at hv
    exact ⟨⟨_, rfl, (hv _).below (below_drewN (Below.refl B _) _) (Nat.le_refl _)⟩, (HSS.out _).drewN _, (((But.refl _ w).drewN _).trans (but_one _ rb 1 _)).drewN _⟩
  · have hc2 : (cap == s.pos) = false := by simpa using hc
    go_enter Try.func69, Try.ntmps69
    go_wp2
    go_quiet (fail)
    go_wp2
    go_quiet (fail)
    go_wp2
    go_ret
    rw [HTk.out, ← HQ.out]
    exact ⟨⟨_, rfl, (HVS.out _ ⟨g, off + s.pos, none⟩ (fun _ => rfl)).below (below_drewN (Below.refl B _) _) (Nat.le_refl _)⟩, (HSS.out _).drewN _, (((But.refl _ w).drewN _).trans (but_one _ rb 1 _)).drewN _⟩
end Go.Proofs.Ytimhlbejjbnofaa
