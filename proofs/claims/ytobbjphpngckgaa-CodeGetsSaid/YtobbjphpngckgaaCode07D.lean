/- The landed code's input: (*input).number and (*input).list. Contracts; no condition but that the input's place is within its bytes. -/
import Derived.Test.YtobbjphpngckgaaCode07C
import Derived.StillTailTactics
import Derived.Deep.RegionHeld3
namespace Go.Proofs.Ytobbjphpngckgaa
open Go.RowKit Go.Shelf
set_option linter.unusedVariables false
set_option linter.unusedSimpArgs false

/-- An input in memory: a block of a slice of bytes and a place. -/
structure InpAt (w : World) (nb B : Nat) (X : Value) (p : Nat) (b : List Int) : Prop where
  blk : w.heap[nb]? = some (.cells #[X, .int .i64 p] 64 (0, 0))
  byt : IsBytes w B X b
  low : B ≤ nb
  small : b.length ≤ 1000000
section
variable {w w' : World} {nb B : Nat} {X : Value} {p : Nat} {b : List Int}
theorem InpAt.c0 (h : InpAt w nb B X p b) : w.cell? ⟨nb, 0, none⟩ = some X := by simp [World.cell?, h.blk]
theorem InpAt.c1 (h : InpAt w nb B X p b) : w.cell? ⟨nb, 1, none⟩ = some (.int .i64 p) := by simp [World.cell?, h.blk]
theorem InpAt.f1 (h : InpAt w nb B X p b) : w.frozen? ⟨nb, 1, none⟩ = false := frozen_of_row w nb 1 _ _ h.blk
theorem InpAt.lt (h : InpAt w nb B X p b) : nb < w.heap.size := heap_lt h.blk
theorem InpAt.but {R : Nat → Prop} (h : InpAt w nb B X p b) (hb : But R w w') (hn : ¬ R nb) (hr : ∀ k, k < B → ¬ R k) : InpAt w' nb B X p b :=
  ⟨hb.heap h.blk hn, h.byt.but hb (by have := h.lt; have := h.low; omega) hr, h.low, h.small⟩
theorem InpAt.below {C : Nat} (h : InpAt w nb B X p b) (hb : Below C w w') (hC : nb < C) : InpAt w' nb B X p b :=
  ⟨(hb.block _ hC).trans h.blk, h.byt.below hb (by have := h.low; omega), h.low, h.small⟩
theorem InpAt.set (h : InpAt w nb B X p b) (p' : Nat) : InpAt (w.setCell ⟨nb, 1, none⟩ (.int .i64 p')) nb B X p' b := by
  refine ⟨heap_setCell_same w nb 1 _ _ _ h.blk, h.byt.but (R := OneBlock nb) ((But.refl (OneBlock nb) w).setCell (p := ⟨nb, 1, none⟩) (.inl rfl) _) (by have := h.lt; have := h.low; omega) (fun k hk e => ?_), h.low, h.small⟩
  have := h.low
  have : k = nb := e
  omega
theorem InpAt.drewN (h : InpAt w nb B X p b) (n : Nat) : InpAt (w.drewN n) nb B X p b := ⟨h.blk, h.byt.but (R := NoBlock) ((But.refl _ w).drewN n) (by have := h.lt; have := h.low; omega) (fun k _ h => h), h.low, h.small⟩
end
theorem quiet_same7 {P : Program} {f : FuncId} {args : Array Value} {w : World} {n : Nat} {v : Value} (h : Calls P f args (w.drewN n) fun e w' => e = .returned v ∧ w.drewN n = w') :
    Calls P f args (w.drewN n) fun e w'' => e = .returned v ∧ ∃ m, w'' = w.drewN m := h.mono fun _ _ ⟨he, hm⟩ => ⟨he, n, hm.symm⟩
/-- What number ends with: nothing is left, or the number, behind which the place is. -/
def NumDone (w : World) (nb B : Nat) (X : Value) (p : Nat) (b : List Int) (s : Nat) (e : Ending) (w' : World) : Prop :=
  (b.length < p + s ∧ e = .returned (.tuple #[.int .i64 0, .int .i64 4]) ∧ InpAt w' nb B X p b ∧ But (OneBlock nb) w w') ∨
  (p + s ≤ b.length ∧ e = .returned (.tuple #[.int .i64 (wrapI (numV ((b.drop p).take s))), .int .i64 0]) ∧ InpAt w' nb B X (p + s) b ∧ But (OneBlock nb) w w')
theorem num_yes {w w' : World} {nb B p s : Nat} {X : Value} {b : List Int} {e : Ending} (h : p + s ≤ b.length) (he : e = .returned (.tuple #[.int .i64 (wrapI (numV ((b.drop p).take s))), .int .i64 0])) (hi : InpAt w' nb B X (p + s) b) (hb : But (OneBlock nb) w w') : NumDone w nb B X p b s e w' := .inr ⟨h, he, hi, hb⟩
theorem wrap_same (x : Int) : wrapI x = wrap64 x := by unfold wrapI wrap64; rw [IntKind.wrap_i64]
theorem getV_num {xs : List Int} (h : sizedB xs.length = true) : getV xs = numV xs ∧ getE xs = 0 := by
  have : ¬ 8 < xs.length := by rcases sized_cases h with h | h | h | h <;> omega
  unfold getV getE
  rw [if_neg this, if_pos h, if_neg this, if_pos h]
  exact ⟨rfl, rfl⟩
theorem bytes_part {w : World} {B : Nat} {g off cap : Nat} {b : List Int} (h : IsBytes w B (.slice (some ⟨g, off, none⟩) b.length cap) b) (hp : ∀ i, i < b.length → w.cell? ⟨g, off + i, none⟩ = some (.int .u8 (b.getD i 0))) (hg : g < B) {p s : Nat} (hs : p + s ≤ b.length) {cap' : Nat} (hc : s ≤ cap') :
    IsBytes w B (.slice (some ⟨g, off + p, none⟩) s cap') ((b.drop p).take s) := by
  have hl : ((b.drop p).take s).length = s := part_len hs
  refine ⟨fun x hx => h.1 x (List.mem_of_mem_drop (List.mem_of_mem_take hx)), by have := h.2.1; omega, .inr ⟨⟨g, off + p, none⟩, cap', by rw [hl], by omega, fun _ => hg, fun i hi => ?_⟩⟩
  rw [hl] at hi
  have e : (⟨g, off + p, none⟩ : Addr).add i = ⟨g, off + (p + i), none⟩ := by unfold Addr.add; split <;> simp_all [Nat.add_assoc]
  rw [e, hp (p + i) (by omega)]
  simp [List.getD, hi]
set_option maxHeartbeats 4000000 in
theorem number_no (nb B p s : Nat) (X : Value) (b : List Int) (w : World) (h : InpAt w nb B X p b) (hp : p ≤ b.length) (hs : sizedB s = true) (hlt : b.length < p + s) :
    Calls Try.prog 62 #[.pointer (some ⟨nb, 0, none⟩), .int .i64 s] w (NumDone w nb B X p b s) := by
  have hs8 : s ≤ 8 := by rcases sized_cases hs with h | h | h | h <;> omega
  obtain ⟨A, cap, rfl⟩ := h.byt.len
  have c0 := h.c0
  have c1 := h.c1
  have hsm := h.small
  have HA := Lib.hid h
  have HL := Lib.hid hlt
  have hsub : IntKind.i64.wrap ((b.length : Int) - (p : Int)) = (b.length : Int) - (p : Int) := by rw [IntKind.wrap_i64]; omega
  have hdec : decide ((b.length : Int) - (p : Int) < (s : Int)) = true := decide_eq_true (by omega)
  clear h hs hs8 hlt hp
  go_enter Try.func62, Try.ntmps62
  go_wp2
  go_quiet (fail)
  go_wp2
  go_ret2
  exact .inl ⟨HL.out, rfl, HA.out.drewN _, (But.refl _ _).drewN _⟩
set_option maxHeartbeats 4000000 in
theorem number_yes (nb B p s : Nat) (X : Value) (b : List Int) (w : World) (h : InpAt w nb B X p b) (hs : sizedB s = true) (hle : p + s ≤ b.length) :
    Calls Try.prog 62 #[.pointer (some ⟨nb, 0, none⟩), .int .i64 s] w (NumDone w nb B X p b s) := by
  have hs8 : 1 ≤ s ∧ s ≤ 8 := by rcases sized_cases hs with h | h | h | h <;> omega
  obtain ⟨g, off, cap, rfl, hcap, hgB, hcl⟩ := h.byt.plain (by omega)
  have c0 := h.c0
  have c1 := h.c1
  have hsm := h.small
  have f1 := h.f1
  have hlow := h.low
  have hnb := h.lt
  have HL := Lib.hid hle
  have hsub : IntKind.i64.wrap ((b.length : Int) - (p : Int)) = (b.length : Int) - (p : Int) := by rw [IntKind.wrap_i64]; omega
  have hdec : decide ((b.length : Int) - (p : Int) < (s : Int)) = false := decide_eq_false (by omega)
  have hadd : IntKind.i64.wrap ((p : Int) + (s : Int)) = ((p + s : Nat) : Int) := by rw [IntKind.wrap_i64]; omega
  have hN : (b.drop p).take s = (b.drop p).take s := rfl
  obtain ⟨q, hq⟩ : ∃ q : Nat, q = p + s := ⟨_, rfl⟩
  have hqs : q - p = s := by omega
  obtain ⟨xs, hxs⟩ : ∃ xs, xs = (b.drop p).take s := ⟨_, rfl⟩
  have hxl : xs.length = s := by rw [hxs]; exact part_len hle
  have hget : ∀ (W : World), But (OneBlock nb) w W → Calls Try.prog 70 #[.slice (some ⟨g, off + p, none⟩) (q - p) (cap - p)] W fun e w' => e = .returned (.tuple #[.int .u64 (numV xs), .int .i64 0]) ∧ W = w' := by
    intro W hb
    have hB : IsBytes W B (.slice (some ⟨g, off, none⟩) b.length cap) b := h.byt.but hb (by omega) (fun k hk e => by have : k = nb := e; omega)
    have hcl' : ∀ i, i < b.length → W.cell? ⟨g, off + i, none⟩ = some (.int .u8 (b.getD i 0)) := fun i hi => by
      rw [hb.cell (p := ⟨g, off + i, none⟩) (show g < _ by omega) (show ¬ g = nb by omega)]
      exact hcl i hi
    have hB2 := bytes_part hB hcl' hgB hle (show s ≤ cap - p by omega)
    have hg := get_any _ _ W B hB2
    rw [hqs]
    rw [← hxs, (getV_num (xs := xs) (by rw [hxl]; exact hs)).1, (getV_num (xs := xs) (by rw [hxl]; exact hs)).2] at hg
    exact hg
  have HG := Lib.hid hget
  have HA := Lib.hid h
  have HXS := Lib.hid hxs
  have HNB := Lib.hid hnb
  rw [← hq] at hadd
  have hcp : ¬ cap = p := by omega
  have n0 := numV_bd (xs := xs) (fun x hx => h.byt.1 x (List.mem_of_mem_drop (List.mem_of_mem_take (by rw [← hxs]; exact hx))))
  have n1 := pow_le_64 hs8.2
  rw [hxl] at n0
  have HN := Lib.hid n0.1
  have HQ := Lib.hid hq
  have q1 : (p : Int) ≤ (q : Int) := by omega
  have q2 : (q : Int) ≤ (b.length : Int) := by omega
  have q3 : (q : Int) ≤ (cap : Int) := by omega
  have q4 : (q : Int) ≤ 1000000 := by omega
  clear h hs hs8 hle hcl hN hxl hget hxs hq hqs hgB hlow hnb n0 n1
  go_enter Try.func62, Try.ntmps62
  go_wp2
  go_quiet (fail)
  go_wp2
  have hbw : But (OneBlock nb) w ((w.drewN nq).setCell ⟨nb, 1, none⟩ (.int .i64 q)) := ((But.refl (OneBlock nb) w).drewN nq).setCell (p := ⟨nb, 1, none⟩) (.inl rfl) _
  have hin : InpAt ((w.drewN nq).setCell ⟨nb, 1, none⟩ (.int .i64 q)) nb B (.slice (some ⟨g, off, none⟩) b.length cap) q b := (HA.out.drewN nq).set q
  generalize (w.drewN nq).setCell ⟨nb, 1, none⟩ (.int .i64 q) = W at *
  have k0 := hin.c0
  have k1 := hin.c1
  have HIN := Lib.hid hin
  have HBW := Lib.hid hbw
  clear hin hbw hadd hsub hdec
  go_quiet ((go_at_call 70; with_reducible exact quiet_same7 (HG.out _ (HBW.out.drewN _))))
  go_wp2
  go_ret2
  refine num_yes HL.out (ret_int2 ?_ rfl) (by rw [← HQ.out]; exact HIN.out.drewN _) (HBW.out.drewN _)
  rw [HXS.out]
  exact (wrap_same _).symm
theorem numin_any (nb B p s : Nat) (X : Value) (b : List Int) (w : World) (h : InpAt w nb B X p b) (hp : p ≤ b.length) (hs : sizedB s = true) :
    Calls Try.prog 62 #[.pointer (some ⟨nb, 0, none⟩), .int .i64 s] w (NumDone w nb B X p b s) := by
  by_cases hlt : b.length < p + s
  · exact number_no nb B p s X b w h hp hs hlt
  · exact number_yes nb B p s X b w h hs (by omega)
end Go.Proofs.Ytobbjphpngckgaa
