/- ModuleGets: what bytes are as a module, beside the document's own answer. Contract; no condition but that the bytes lie in a row. -/
import Derived.Test.YtimhlbejjbnofaaLaws08C
import Derived.Test.YtimhlbejjbnofaaRef08E
namespace Go.Proofs.Ytimhlbejjbnofaa
open Go.RowKit Go.Shelf
set_option linter.unusedVariables false
set_option linter.unusedSimpArgs false

theorem gotR_new {w w2 : World} {base : Nat} {D F : Value} {z k : Int} {data : List Int} {fs : List FunV} {Cs : List Value} (ho : OutB w w2 D data) (hd : ∀ x ∈ data, 0 ≤ x ∧ x < 256) (hf : OwnF 47 base w2 F fs Cs) (hl : fs.length ≤ 1000000) :
    GotB ((w2.alloc (.cells #[D, F] 25)).alloc (.cells #[.int .i64 z, .int .i64 k] 38)) w2.heap.size D F z k data fs ∧ Below w.heap.size w ((w2.alloc (.cells #[D, F] 25)).alloc (.cells #[.int .i64 z, .int .i64 k] 38)) ∧ Owns ((w2.alloc (.cells #[D, F] 25)).alloc (.cells #[.int .i64 z, .int .i64 k] 38)) w.heap.size 5 1 IsU8 D data.length (data.map (Value.int .u8)) := by
  have hb : Below w2.heap.size w2 ((w2.alloc (.cells #[D, F] 25)).alloc (.cells #[.int .i64 z, .int .i64 k] 38)) := ((Below.refl _ w2).alloc (Nat.le_refl _) _).alloc (by simp) _
  refine ⟨⟨?_, ?_, (outB_is ho hd).grow hb, (hf.funs hl).grow hb⟩, ho.bel.trans (hb.mono ho.bel.size), ho.own.below hb (Nat.le_refl _)⟩
  · rw [Below.heap_alloc _ _ _ (by simp)]
    exact heap_alloc_new _ _
  · have := heap_alloc_new (w2.alloc (.cells #[D, F] 25)) (.cells #[.int .i64 z, .int .i64 k] 38)
    rw [World.size_alloc] at this
    exact this
set_option maxRecDepth 100000 in
set_option maxHeartbeats 16000000 in
theorem gets8_law (X : Value) (b : List Int) (w : World) (hX : IsBytes w w.heap.size X b) : Calls Try.prog 4 #[X] w (Makes w (.bool true)) := by
  have HXw := Lib.hid (fun W (hb : Below w.heap.size w W) => hX.grow hb)
  have hbd := hX.1
  have hml := hX.2.1
  unfold maxLen at hml
  obtain ⟨A, cap, hXe⟩ := hX.len
  by_cases h9 : 900 < b.length
  · have h9I : (900 : Int) < (b.length : Int) := by omega
    subst hXe
    clear hX
    go_enter Try.func4, Try.ntmps4
    go_wp2_with (go_at_call 10; (with_reducible refine (awake8_any _).mono ?_); rintro e w1 ⟨rfl, hb⟩; have HB1 := Lib.hid hb; clear hb)
    go_ret
    exact ⟨rfl, HB1.out⟩
  have h9I : ¬ (900 : Int) < (b.length : Int) := by omega
  have HLn := Lib.hid (lent_any X b w hX (by omega))
  have HG := Lib.hid (fun V W (hV : IsBytes W W.heap.size V b) => get8_any V b W hV (by omega))
  have HR := Lib.hid (fun W (hb : Below w.heap.size w W) => rget8_any X b W (hX.grow hb) (by omega))
  have HKp := Lib.hid (fun g W (hL : Lent W g b) (hb : Below w.heap.size w W) => kept_yes X b g W _ hL (hX.grow hb) (by omega))
  have HBD := Lib.hid hbd
  have hl9 : b.length ≤ 900 := by omega
  have HL9 := Lib.hid hl9
  obtain ⟨gb1, gb2⟩ := got_bd hbd
  have HGB := Lib.hid (And.intro gb1 gb2)
  generalize getM b = gm at *
  obtain ⟨z, k, ⟨data, fs⟩⟩ := gm
  dsimp only at HGB
  have HSm := Lib.hid (fun D F D' F' W h1 h2 h3 h4 => sameModule_any D F D' F' data data fs fs W h1 h2 h3 h4)
  rw [sameM_refl] at HSm
  have hE := eqF_yes z k
  subst hXe
  clear hX hbd hml h9 gb1 gb2 hl9
  go_enter Try.func4, Try.ntmps4
  go_wp2_with (first
    | (go_at_call 21; (with_reducible refine HLn.out.mono ?_); rintro e w1 ⟨g, rfl, hg, hL, hb⟩; have B1 := Lib.hid hb; have L1 := Lib.hid hL; have Y1 := Lib.hid (hL.bytes HBD.out (by unfold maxLen; have := HL9.out; omega) hL.lt (show b.length ≤ b.length + 3 by omega)); clear hg hL hb)
    | (go_at_call 22; (with_reducible refine (HG.out _ w1 Y1.out).mono ?_); rintro e w2 ⟨D2, F2, Cs2, rfl, ho, hf⟩; obtain ⟨dA, dc, hde⟩ := owns_len ho.own; subst hde; obtain ⟨fA, fc, hfe⟩ := owns_len hf.own; subst hfe; obtain ⟨hG, hb, hw⟩ := gotR_new (z := z) (k := k) ho HGB.out.1 hf HGB.out.2; have G2 := Lib.hid hG; have O2 := Lib.hid hw; have N2 := Lib.hid hb; have B2 := Lib.hid (B1.out.trans (hb.mono B1.out.size)); clear ho hf hG hb hw)
    | (go_at_call 23; (with_reducible refine (HR.out _ B2.out).mono ?_); rintro e w3 ⟨D3, F3, Cs3, rfl, ho, hf⟩; obtain ⟨dA3, dc3, hde⟩ := owns_len ho.own; subst hde; obtain ⟨fA3, fc3, hfe⟩ := owns_len hf.own; subst hfe; obtain ⟨hG, hb, hw⟩ := gotR_new (z := z) (k := k) ho HGB.out.1 hf HGB.out.2; have G3 := Lib.hid hG; have G2b := Lib.hid (G2.out.grow hb); have O3 := Lib.hid (O2.out.below hb (Nat.le_refl _)); have N3 := Lib.hid (N2.out.trans (hb.mono N2.out.size)); have B3 := Lib.hid (B2.out.trans (hb.mono B2.out.size)); obtain ⟨a0, a1, a2, a3⟩ := hG.cells; obtain ⟨b0, b1, b2, b3⟩ := G2b.out.cells; clear ho hf hG hb hw)
    | (go_at_call 20; (with_reducible refine (HSm.out _ _ _ _ _ G2b.out.dat G2b.out.funs G3.out.dat G3.out.funs).mono ?_); rintro e w4 ⟨rfl, hb⟩; have O4 := Lib.hid (O3.out.below hb (Nat.le_refl _)); have N4 := Lib.hid (N3.out.trans (hb.mono N3.out.size)); obtain ⟨c0, c1, c2, c3⟩ := (G2b.out.grow hb).cells; obtain ⟨d0, d1, d2, d3⟩ := (G3.out.grow hb).cells; clear hb)
    | (go_at_call 19; (with_reducible refine (over_any _ _ _ _ _ O4.out).mono ?_); rintro e w5 ⟨rfl, hb⟩; have N5 := Lib.hid (N4.out.trans hb); have B5 := Lib.hid (B1.out.trans (N5.out.mono B1.out.size)); have L5 := Lib.hid (L1.out.below N5.out L1.out.lt); clear hb)
    | (go_at_call 24; (with_reducible refine (HKp.out _ _ L5.out B5.out).mono ?_); rintro e w6 ⟨rfl, hb⟩; have B6 := Lib.hid (B5.out.trans (hb.mono B5.out.size)); clear hb)
    | (go_at_call 10; (with_reducible refine (awake8_any _).mono ?_); rintro e w7 ⟨rfl, hb⟩; have B7 := Lib.hid (B6.out.trans (hb.mono B6.out.size)); clear hb))
  go_ret
  exact ⟨by first | rfl | simp, B7.out⟩
end Go.Proofs.Ytimhlbejjbnofaa
