/- The landed (*input).list: so many registers. Contract; no condition but that the input's place is within its bytes. -/
import Derived.Test.YtobbjphpngckgaaCode07D
namespace Go.Proofs.Ytobbjphpngckgaa
open Go.RowKit Go.Shelf
set_option linter.unusedVariables false
set_option linter.unusedSimpArgs false

theorem But.then_below {R : Nat → Prop} {B : Nat} {a b c : World} (h : But R a b) (hb : Below B b c) (hB : a.heap.size ≤ B) : But R a c :=
  ⟨hb.os.trans h.os, hb.tape.trans h.tape, hb.output.trans h.output, Nat.le_trans h.size hb.size, fun k hk hn => (hb.block k (Nat.lt_of_lt_of_le hk hB)).trans (h.block k hk hn)⟩
/-- Numbers in a row of the call's own. -/
abbrev OutN (base : Nat) (W : World) (V : Value) (xs : List Int) : Prop := Owns W base 3 1 (IsNum .i64) V xs.length (xs.map (Value.int .i64))
theorem wpList_outN {W : World} {ops : Array Oper} {rest : List Oper} {o : Oper} {a : Act} {Q : Exit → Act → World → Prop} (hgd : o.guard = none) (s x : Operand)
    (ho : o.op = .call { callee := .builtin .append, args := #[s, x], argTypes := #[33, 33] }) {V : Value} {xs : List Int} {z : Int} {base : Nat} (hs : a.eval s = V) (hx : a.eval x = .slice (some ⟨W.heap.size, 0, none⟩) 1 1) (h : OutN base W V xs)
    (hb : base ≤ W.heap.size) (hl : xs.length ≤ 1000000)
    (hK : ∀ V' W', OutN base W' V' (xs ++ [z]) → Below base W W' → (∀ i, i < W.heap.size → some i ≠ V.ownBlock → W'.heap[i]? = W.heap[i]?) → wpList Try.prog ops Q rest (a.put o.dst V') W') :
    wpList Try.prog ops Q (o :: rest) a (W.alloc (.cells #[.int .i64 z] 3)) := by
  obtain ⟨i, hi, h1, h2, h3⟩ := info_parts int_info
  have ha : Below W.heap.size W (W.alloc (.cells #[.int .i64 z] 3)) := (Below.refl W.heap.size W).alloc (Nat.le_refl _) (.cells #[.int .i64 z] 3)
  have hg := Owns.below h ha (Nat.le_refl _)
  refine wpList_append_q _ hgd s x 33 ho base 3 i _ 1 8 Try.underlying33 hi h1 h2 h3 rfl (by decide) (IsNum .i64) (zero_num .i64) V xs.length (xs.map (Value.int .i64)) hs hg ⟨W.heap.size, 0, none⟩ 1 1 [.int .i64 z] hx rfl (news_one _ _ _) (by intro u hu; simp at hu; subst hu; rfl) (by intro u hu; simp at hu; subst hu; exact ⟨_, rfl⟩) (by unfold maxLen; omega) (by omega) (by simp; omega) ?_
  intro V' W' ho' hg'
  have e : World.grownBy (W.alloc (.cells #[.int .i64 z] 3)) W' V.ownBlock := hg'
  refine hK V' W' (by rw [OutN, List.length_append, List.map_append]; exact ho') ((ha.mono hb).grown e (by simp; omega) fun j hj => (h.lt hj).1) (fun i hi hn => (e.block i (by simp; omega) hn).trans (ha.block i hi))

def ListDone (w : World) (nb B : Nat) (X : Value) (p : Nat) (b : List Int) (e : Ending) (w' : World) : Prop :=
  But (OneBlock nb) w w' ∧ (∃ p', InpAt w' nb B X p' b ∧
  (((b.length < p + 1 ∨ (p + 1 ≤ b.length ∧ b.getD p 0 ≤ 8 ∧ b.length < p + 1 + (b.getD p 0).toNat)) ∧ e = .returned (.tuple #[.slice none 0 0, .int .i64 4])) ∨
   ((p + 1 ≤ b.length ∧ 8 < b.getD p 0) ∧ e = .returned (.tuple #[.slice none 0 0, .int .i64 3])) ∨
   ((p + 1 ≤ b.length ∧ b.getD p 0 ≤ 8 ∧ p + 1 + (b.getD p 0).toNat ≤ b.length ∧ p' = p + 1 + (b.getD p 0).toNat) ∧ ∃ V, e = .returned (.tuple #[V, .int .i64 0]) ∧ OutN w.heap.size w' V ((b.drop (p + 1)).take (b.getD p 0).toNat))))
theorem num_one {b : List Int} (hb : ∀ x ∈ b, 0 ≤ x ∧ x < 256) {p : Nat} (h : p + 1 ≤ b.length) : wrapI (numV ((b.drop p).take 1)) = b.getD p 0 := by
  have hx := hb _ (getD_mem (show p < b.length by omega))
  rw [show (b.drop p).take 1 = [b.getD p 0] from by rw [getD_cons (by omega)]; simp, numV_one, wrap_same]
  unfold wrap64
  omega
theorem numin_one (nb B p : Nat) (X : Value) (b : List Int) (w : World) (h : InpAt w nb B X p b) (hp : p ≤ b.length) :
    Calls Try.prog 62 #[.pointer (some ⟨nb, 0, none⟩), .int .i64 1] w (NumDone w nb B X p b 1) := numin_any nb B p 1 X b w h hp (by decide)
theorem out_append {b : List Int} {p t : Nat} (h : p + t + 1 ≤ b.length) : (b.drop p).take (t + 1) = (b.drop p).take t ++ [b.getD (p + t) 0] := by
  rw [take_snoc' (by simp; omega)]
  simp [List.getD]
theorem numin_no1 (nb B p : Nat) (X : Value) (b : List Int) (w : World) (h : InpAt w nb B X p b) (hp : p ≤ b.length) (hl : b.length < p + 1) :
    Calls Try.prog 62 #[.pointer (some ⟨nb, 0, none⟩), .int .i64 1] w fun e w' => e = .returned (.tuple #[.int .i64 0, .int .i64 4]) ∧ InpAt w' nb B X p b ∧ But (OneBlock nb) w w' := by
  refine (numin_one nb B p X b w h hp).mono ?_
  rintro e w' (⟨_, rfl, hi, hb⟩ | ⟨hf, _⟩)
  · exact ⟨rfl, hi, hb⟩
  · omega
theorem numin_yes1 (nb B p : Nat) (X : Value) (b : List Int) (w : World) (h : InpAt w nb B X p b) (hl : p + 1 ≤ b.length) :
    Calls Try.prog 62 #[.pointer (some ⟨nb, 0, none⟩), .int .i64 1] w fun e w' => e = .returned (.tuple #[.int .i64 (b.getD p 0), .int .i64 0]) ∧ InpAt w' nb B X (p + 1) b ∧ But (OneBlock nb) w w' := by
  refine (numin_one nb B p X b w h (by omega)).mono ?_
  rintro e w' (⟨hf, _⟩ | ⟨_, rfl, hi, hb⟩)
  · omega
  · exact ⟨by rw [num_one h.byt.1 hl], hi, hb⟩
set_option maxHeartbeats 4000000 in
theorem list7_any (nb B p : Nat) (X : Value) (b : List Int) (w : World) (h : InpAt w nb B X p b) (hp : p ≤ b.length) :
    Calls Try.prog 72 #[.pointer (some ⟨nb, 0, none⟩), .int .i64 1] w (ListDone w nb B X p b) := by
  have hby := h.byt.1
  have HA := Lib.hid h
  have hnw := h.lt
  have hsm := h.small
  by_cases h1 : b.length < p + 1
  · have HF := Lib.hid h1
    have HN := Lib.hid (numin_no1 nb B p X b w h hp h1)
    clear hby h h1
    go_enter Try.func72, Try.ntmps72
    go_wp2_with (go_at_call 62; (with_reducible refine HN.out.mono ?_); rintro e w1 ⟨rfl, hi, hb⟩; have HI := Lib.hid hi; have HB := Lib.hid hb; clear hi hb)
    go_ret2
    exact ⟨HB.out, _, HI.out, .inl ⟨.inl HF.out, rfl⟩⟩
  have hx := hby _ (getD_mem (show p < b.length by omega))
  have HN := Lib.hid (numin_yes1 nb B p X b w h (by omega))
  have HF := Lib.hid (show p + 1 ≤ b.length by omega)
  by_cases h8 : 8 < b.getD p 0
  · have HG := Lib.hid h8
    obtain ⟨c, hc⟩ : ∃ c, c = b.getD p 0 := ⟨_, rfl⟩
    rw [← hc] at HN h8
    clear hby h h1 hx hc
    go_enter Try.func72, Try.ntmps72
    go_wp2_with (go_at_call 62; (with_reducible refine HN.out.mono ?_); rintro e w1 ⟨rfl, hi, hb⟩; have HI := Lib.hid hi; have HB := Lib.hid hb; clear hi hb)
    go_ret2
    exact ⟨HB.out, _, HI.out, .inr (.inl ⟨⟨HF.out, HG.out⟩, rfl⟩)⟩
  obtain ⟨m, hm⟩ : ∃ m : Nat, b.getD p 0 = (m : Int) := ⟨(b.getD p 0).toNat, by omega⟩
  have HM := Lib.hid hm
  rw [hm] at HN h8 hx
  have m8 : (m : Int) ≤ 8 := by omega
  clear hby h h1 hx h8 hm
  go_enter Try.func72, Try.ntmps72
  go_wp2_with (go_at_call 62; (with_reducible refine HN.out.mono ?_); rintro e w1 ⟨rfl, hi, hb⟩; have HI := Lib.hid hi; have HB := Lib.hid hb; clear hi hb)
  go_loopw [8, 23] (fun V i wr => ∃ t : Nat, t ≤ m ∧ i = .int .i64 t ∧ p + 1 + t ≤ b.length ∧ Hid (OutN w.heap.size wr V ((b.drop (p + 1)).take t) ∧ InpAt wr nb B X (p + 1 + t) b ∧ But (OneBlock nb) w wr)) (fun _ i _ => m - (intOf i).toNat)
  case atStart => exact ⟨0, by omega, rfl, HF.out, ⟨Owns.nil _ _ _ _ _, HI.out, HB.out⟩⟩
  case round =>
    obtain ⟨t, ht, rfl, hle, HR⟩ := hrel
    have hsz := HR.out.2.2.size
    by_cases hlt : t < m
    · have hltI : (t : Int) < (m : Int) := by omega
      by_cases hav : b.length < p + 1 + t + 1
      · have HN2 := Lib.hid (numin_no1 nb B (p + 1 + t) X b wr HR.out.2.1 hle hav)
        have HAV := Lib.hid hav
        have HLT := Lib.hid hlt
        clear hav hle
        go_wp2_with (go_at_call 62; (with_reducible refine HN2.out.mono ?_); rintro e w4 ⟨rfl, hi, hb⟩; have HI4 := Lib.hid hi; have HB4 := Lib.hid hb; clear hi hb)
        go_ret2
        exact ⟨HR.out.2.2.trans HB4.out, _, HI4.out, .inl ⟨.inr ⟨HF.out, by rw [HM.out]; omega, by rw [HM.out]; have := HAV.out; omega⟩, rfl⟩⟩
      · have HN2 := Lib.hid (numin_yes1 nb B (p + 1 + t) X b wr HR.out.2.1 (by omega))
        have HAP := Lib.hid (out_append (b := b) (p := p + 1) (t := t) (by omega))
        have HLE := Lib.hid (show p + 1 + t + 1 ≤ b.length by omega)
        have HLN := Lib.hid (show ((b.drop (p + 1)).take t).length ≤ 1000000 by simp; omega)
        generalize b.getD (p + 1 + t) 0 = z at *
        clear hav hle
        go_wp2_with (first
          | (go_at_call 62; (with_reducible refine HN2.out.mono ?_); rintro e w4 ⟨rfl, hi, hb⟩; have HI4 := Lib.hid hi; have HB4 := Lib.hid hb; have HO4 := Lib.hid (HR.out.1.but hb (fun g hg e => by have := (HR.out.1.lt hg).1; have e' : g = nb := e; omega)); have hs4 := hb.size; clear hi hb)
          | (at_builtin; refine wpList_outN rfl _ _ rfl rfl rfl HO4.out (by omega) HLN.out ?_; intro V5 w5 ho hb _; have HO5 := Lib.hid ho; have HI5 := Lib.hid (HI4.out.below hb hnw); have HB5 := Lib.hid ((HR.out.2.2.trans HB4.out).then_below hb (Nat.le_refl _)); clear ho hb))
        go_roundw
        case rel => exact ⟨t + 1, by omega, by go_num, HLE.out, ⟨by rw [HAP.out]; exact HO5.out, HI5.out, HB5.out⟩⟩
        case measure => simp [intOf]; omega
    · obtain rfl : t = m := by omega
      go_wp2
      go_ret2
      exact ⟨HR.out.2.2, _, HR.out.2.1, .inr (.inr ⟨⟨HF.out, by rw [HM.out]; omega, by rw [HM.out]; simpa using hle, by rw [HM.out]; simp⟩, _, rfl, by rw [HM.out]; exact HR.out.1⟩)⟩
end Go.Proofs.Ytobbjphpngckgaa
