import Derived.Test.YtkfdgpgildanbaaGreatRSp15G
import Derived.Test.YtkfdgpgildanbaaGreatSp15V
import Derived.Deep.RegionHeld3
namespace Go.Proofs.YtkfdgpgildanbaaGreat
open Go.RowKit Go.Shelf
set_option linter.unusedVariables false
set_option linter.unusedSimpArgs false
theorem Spaces.drop2 {w W : World} {lo i j b : Nat} {l : List It} {c : Array Value} {t : TypeId} (hil : i < l.length) (hjl : j < l.length) (x y : It) (hs : Spaces w lo W (((l ++ [It.box b c t]).set i x).set j y)) : Spaces w lo W ((l.set i x).set j y) := by
  rw [List.set_append_left _ _ hil] at hs
  exact Spaces.drop (by simpa using hjl) y hs
section
variable {w W : World} {lo i j sb rb : Nat} {l : List It} {S : SpV}
set_option maxRecDepth 100000
set_option maxHeartbeats 16000000
theorem does15_0 (h : Spaces w lo W l) (hi : l[i]? = some (.sp sb S)) (hj : l[j]? = some (.rs rb S)) (hij : i ≠ j) (hf : S.done.length < 100000) (hin : S.inp.length ≤ 1000000) (A : ActS) (hA : A.ok w w.heap.size) (hk : A.kind = 0) :
    Calls Tryz.prog 23 #[.pointer (some ⟨sb, 0, none⟩), .pointer (some ⟨rb, 0, none⟩), .agg A.arr] W (SpsDone w lo ((l.set i (.sp sb (S))).set j (.rs rb (S))) (.bool true)) := by
  have hA1 := hA.below h.bel (Nat.le_refl _)
  obtain ⟨AK, AR, AN, AB, AV, AX, AA, AE, AC⟩ := A
  obtain ⟨XA, xc, hxe⟩ := hA.b.len
  simp only at hxe
  subst hxe
  have hil : i < l.length := (List.getElem?_eq_some_iff.1 hi).1
  have hjl : j < l.length := (List.getElem?_eq_some_iff.1 hj).1
  obtain ⟨ak, ar, an, abk, av, ax, aa, ae⟩ := hA1
  obtain ⟨_, _, _, _, _, ax0, _, _⟩ := hA
  simp only at ak ar an abk av ax ax0 aa ae hk
  have HAX := Lib.hid ax0
  have HAA := Lib.hid aa
  have HIN := Lib.hid hin
  obtain ⟨n, hn⟩ : ∃ n, n = AA.length := ⟨_, rfl⟩
  rw [← hn] at HAX
  have HNN := Lib.hid hn
  have harr : ActS.arr ⟨AK, AR, AN, AB, AV, .slice XA AA.length xc, AA, AE, AC⟩ = #[.int .i64 AK, .int .i64 AR, .int .i64 AN, .int .i64 AB, .int .u64 AV, .slice XA n xc, .int .i64 AE, .int .i64 AC] := by rw [hn]; rfl
  rw [harr]
  have hb := h.addBox #[.int .i64 AK, .int .i64 AR, .int .i64 AN, .int .i64 AB, .int .u64 AV, .slice XA n xc, .int .i64 AE, .int .i64 AC] 47
  have hx0 := heap_alloc_new W (.cells #[.int .i64 AK, .int .i64 AR, .int .i64 AN, .int .i64 AB, .int .u64 AV, .slice XA n xc, .int .i64 AE, .int .i64 AC] 47)
  obtain ⟨W0, hW0⟩ : ∃ W0, W0 = W.alloc (.cells #[.int .i64 AK, .int .i64 AR, .int .i64 AN, .int .i64 AB, .int .u64 AV, .slice XA n xc, .int .i64 AE, .int .i64 AC] 47) := ⟨_, rfl⟩
  rw [← hW0] at hb hx0
  have HW := Lib.hid hW0
  clear hW0
  have hab0 : W.heap.size = W.heap.size := rfl
  obtain ⟨ab, hab⟩ : ∃ ab, ab = W.heap.size := ⟨_, rfl⟩
  have HAB := Lib.hid hab
  rw [← hab] at hb hx0
  have HI0 : Hid ((l ++ [(It.box ab #[.int .i64 AK, .int .i64 AR, .int .i64 AN, .int .i64 AB, .int .u64 AV, .slice XA n xc, .int .i64 AE, .int .i64 AC] 47)])[i]? = some (.sp sb S)) := Lib.hid (by rw [List.getElem?_append_left hil]; exact hi)
  have HJ0 : Hid ((l ++ [(It.box ab #[.int .i64 AK, .int .i64 AR, .int .i64 AN, .int .i64 AB, .int .u64 AV, .slice XA n xc, .int .i64 AE, .int .i64 AC] 47)])[j]? = some (.rs rb S)) := Lib.hid (by rw [List.getElem?_append_left hjl]; exact hj)
  have HJ1 : Hid (∀ x, ((l ++ [(It.box ab #[.int .i64 AK, .int .i64 AR, .int .i64 AN, .int .i64 AB, .int .u64 AV, .slice XA n xc, .int .i64 AE, .int .i64 AC] 47)]).set i x)[j]? = some (.rs rb S)) := Lib.hid (fun x => by rw [List.getElem?_set_ne hij]; exact HJ0.out)
  have HI1 : Hid (∀ x, ((l ++ [(It.box ab #[.int .i64 AK, .int .i64 AR, .int .i64 AN, .int .i64 AB, .int .u64 AV, .slice XA n xc, .int .i64 AE, .int .i64 AC] 47)]).set i x)[i]? = some x) := Lib.hid (fun x => by rw [List.getElem?_set_self (by simp; omega)])
  have HB0 : Hid ((l ++ [(It.box ab #[.int .i64 AK, .int .i64 AR, .int .i64 AN, .int .i64 AB, .int .u64 AV, .slice XA n xc, .int .i64 AE, .int .i64 AC] 47)])[l.length]? = some (It.box ab #[.int .i64 AK, .int .i64 AR, .int .i64 AN, .int .i64 AB, .int .u64 AV, .slice XA n xc, .int .i64 AE, .int .i64 AC] 47)) := Lib.hid (by simp)
  have HB1 : Hid (∀ x, ((l ++ [(It.box ab #[.int .i64 AK, .int .i64 AR, .int .i64 AN, .int .i64 AB, .int .u64 AV, .slice XA n xc, .int .i64 AE, .int .i64 AC] 47)]).set i x)[l.length]? = some (It.box ab #[.int .i64 AK, .int .i64 AR, .int .i64 AN, .int .i64 AB, .int .u64 AV, .slice XA n xc, .int .i64 AE, .int .i64 AC] 47)) := Lib.hid (fun x => by rw [List.getElem?_set_ne (by omega)]; simp)
  have HB2 : Hid (∀ x y, (((l ++ [(It.box ab #[.int .i64 AK, .int .i64 AR, .int .i64 AN, .int .i64 AB, .int .u64 AV, .slice XA n xc, .int .i64 AE, .int .i64 AC] 47)]).set i x).set j y)[l.length]? = some (It.box ab #[.int .i64 AK, .int .i64 AR, .int .i64 AN, .int .i64 AB, .int .u64 AV, .slice XA n xc, .int .i64 AE, .int .i64 AC] 47)) := Lib.hid (fun x y => by rw [List.getElem?_set_ne (by omega), List.getElem?_set_ne (by omega)]; simp)
  have HBD := Lib.hid (hb.grow (Below.refl W0.heap.size W0).drew)
  have HB := Lib.hid hb
  have HL := Lib.hid (And.intro hil hjl)
  obtain ⟨c0, c1, c2, c3, c4, c5, c6, c7⟩ := cells8 hx0
  have K0 : Hid ((fun V => V.cell? ⟨ab, 0, none⟩ = some (.int .i64 AK) ∧ V.cell? ⟨ab, 1, none⟩ = some (.int .i64 AR) ∧ V.cell? ⟨ab, 2, none⟩ = some (.int .i64 AN) ∧ V.cell? ⟨ab, 3, none⟩ = some (.int .i64 AB) ∧ V.cell? ⟨ab, 4, none⟩ = some (.int .u64 AV) ∧ V.cell? ⟨ab, 5, none⟩ = some (.slice XA n xc) ∧ V.cell? ⟨ab, 6, none⟩ = some (.int .i64 AE) ∧ V.cell? ⟨ab, 7, none⟩ = some (.int .i64 AC)) W0.drew) := Lib.hid (cells8 (HBD.out.boxAt HB0.out))
  have HC := Lib.hid (sp_get hb HI0.out AR ar)
  have HAR := Lib.hid (And.intro ar (And.intro an (And.intro abk av)))
  have hq : (S.getV AR == S.getV AR) = true ∧ (S.getE AR == S.getE AR) = true := by simp
  have HFE := Lib.hid hf
  subst hk
  clear h hi hj hij hb hil hjl hx0 ak ar an abk av ax ax0 aa ae harr hn hf hin hab0 hab
  go_enter Tryz.func23, Tryz.ntmps23
  go_wp2_with (first
    | (rw [← HW.out, ← HAB.out])
    | (go_at_call 27; (with_reducible refine HC.out.mono ?_); rintro e w1 ⟨rfl, hs⟩; have HS1 := Lib.hid hs; have HC2 := Lib.hid (rs_get hs (HJ1.out _) AR HAR.out.1); have K1 : Hid ((fun V => V.cell? ⟨ab, 0, none⟩ = some (.int .i64 0) ∧ V.cell? ⟨ab, 1, none⟩ = some (.int .i64 AR) ∧ V.cell? ⟨ab, 2, none⟩ = some (.int .i64 AN) ∧ V.cell? ⟨ab, 3, none⟩ = some (.int .i64 AB) ∧ V.cell? ⟨ab, 4, none⟩ = some (.int .u64 AV) ∧ V.cell? ⟨ab, 5, none⟩ = some (.slice XA n xc) ∧ V.cell? ⟨ab, 6, none⟩ = some (.int .i64 AE) ∧ V.cell? ⟨ab, 7, none⟩ = some (.int .i64 AC)) w1) := Lib.hid (cells8 (hs.boxAt (HB1.out _))); obtain ⟨d0, d1, d2, d3, d4, d5, d6, d7⟩ := cells8 (hs.boxAt (HB1.out _)); clear hs)
    | (go_at_call 84; (with_reducible refine HC2.out.mono ?_); rintro e w2 ⟨rfl, hs⟩; have HS2 := Lib.hid hs; have K2 : Hid ((fun V => V.cell? ⟨ab, 0, none⟩ = some (.int .i64 0) ∧ V.cell? ⟨ab, 1, none⟩ = some (.int .i64 AR) ∧ V.cell? ⟨ab, 2, none⟩ = some (.int .i64 AN) ∧ V.cell? ⟨ab, 3, none⟩ = some (.int .i64 AB) ∧ V.cell? ⟨ab, 4, none⟩ = some (.int .u64 AV) ∧ V.cell? ⟨ab, 5, none⟩ = some (.slice XA n xc) ∧ V.cell? ⟨ab, 6, none⟩ = some (.int .i64 AE) ∧ V.cell? ⟨ab, 7, none⟩ = some (.int .i64 AC)) w2) := Lib.hid (cells8 (hs.boxAt (HB2.out _ _))); clear hs))
  go_ret
  exact ⟨rfl, HS2.out.drop2 HL.out.1 HL.out.2 _ _⟩
theorem does15_1 (h : Spaces w lo W l) (hi : l[i]? = some (.sp sb S)) (hj : l[j]? = some (.rs rb S)) (hij : i ≠ j) (hf : S.done.length < 100000) (hin : S.inp.length ≤ 1000000) (A : ActS) (hA : A.ok w w.heap.size) (hk : A.kind = 1) :
    Calls Tryz.prog 23 #[.pointer (some ⟨sb, 0, none⟩), .pointer (some ⟨rb, 0, none⟩), .agg A.arr] W (SpsDone w lo ((l.set i (.sp sb (S.setS A.r A.v))).set j (.rs rb (S.setS A.r A.v))) (.bool true)) := by
  have hA1 := hA.below h.bel (Nat.le_refl _)
  obtain ⟨AK, AR, AN, AB, AV, AX, AA, AE, AC⟩ := A
  obtain ⟨XA, xc, hxe⟩ := hA.b.len
  simp only at hxe
  subst hxe
  have hil : i < l.length := (List.getElem?_eq_some_iff.1 hi).1
  have hjl : j < l.length := (List.getElem?_eq_some_iff.1 hj).1
  obtain ⟨ak, ar, an, abk, av, ax, aa, ae⟩ := hA1
  obtain ⟨_, _, _, _, _, ax0, _, _⟩ := hA
  simp only at ak ar an abk av ax ax0 aa ae hk
  have HAX := Lib.hid ax0
  have HAA := Lib.hid aa
  have HIN := Lib.hid hin
  obtain ⟨n, hn⟩ : ∃ n, n = AA.length := ⟨_, rfl⟩
  rw [← hn] at HAX
  have HNN := Lib.hid hn
  have harr : ActS.arr ⟨AK, AR, AN, AB, AV, .slice XA AA.length xc, AA, AE, AC⟩ = #[.int .i64 AK, .int .i64 AR, .int .i64 AN, .int .i64 AB, .int .u64 AV, .slice XA n xc, .int .i64 AE, .int .i64 AC] := by rw [hn]; rfl
  rw [harr]
  have hb := h.addBox #[.int .i64 AK, .int .i64 AR, .int .i64 AN, .int .i64 AB, .int .u64 AV, .slice XA n xc, .int .i64 AE, .int .i64 AC] 47
  have hx0 := heap_alloc_new W (.cells #[.int .i64 AK, .int .i64 AR, .int .i64 AN, .int .i64 AB, .int .u64 AV, .slice XA n xc, .int .i64 AE, .int .i64 AC] 47)
  obtain ⟨W0, hW0⟩ : ∃ W0, W0 = W.alloc (.cells #[.int .i64 AK, .int .i64 AR, .int .i64 AN, .int .i64 AB, .int .u64 AV, .slice XA n xc, .int .i64 AE, .int .i64 AC] 47) := ⟨_, rfl⟩
  rw [← hW0] at hb hx0
  have HW := Lib.hid hW0
  clear hW0
  have hab0 : W.heap.size = W.heap.size := rfl
  obtain ⟨ab, hab⟩ : ∃ ab, ab = W.heap.size := ⟨_, rfl⟩
  have HAB := Lib.hid hab
  rw [← hab] at hb hx0
  have HI0 : Hid ((l ++ [(It.box ab #[.int .i64 AK, .int .i64 AR, .int .i64 AN, .int .i64 AB, .int .u64 AV, .slice XA n xc, .int .i64 AE, .int .i64 AC] 47)])[i]? = some (.sp sb S)) := Lib.hid (by rw [List.getElem?_append_left hil]; exact hi)
  have HJ0 : Hid ((l ++ [(It.box ab #[.int .i64 AK, .int .i64 AR, .int .i64 AN, .int .i64 AB, .int .u64 AV, .slice XA n xc, .int .i64 AE, .int .i64 AC] 47)])[j]? = some (.rs rb S)) := Lib.hid (by rw [List.getElem?_append_left hjl]; exact hj)
  have HJ1 : Hid (∀ x, ((l ++ [(It.box ab #[.int .i64 AK, .int .i64 AR, .int .i64 AN, .int .i64 AB, .int .u64 AV, .slice XA n xc, .int .i64 AE, .int .i64 AC] 47)]).set i x)[j]? = some (.rs rb S)) := Lib.hid (fun x => by rw [List.getElem?_set_ne hij]; exact HJ0.out)
  have HI1 : Hid (∀ x, ((l ++ [(It.box ab #[.int .i64 AK, .int .i64 AR, .int .i64 AN, .int .i64 AB, .int .u64 AV, .slice XA n xc, .int .i64 AE, .int .i64 AC] 47)]).set i x)[i]? = some x) := Lib.hid (fun x => by rw [List.getElem?_set_self (by simp; omega)])
  have HB0 : Hid ((l ++ [(It.box ab #[.int .i64 AK, .int .i64 AR, .int .i64 AN, .int .i64 AB, .int .u64 AV, .slice XA n xc, .int .i64 AE, .int .i64 AC] 47)])[l.length]? = some (It.box ab #[.int .i64 AK, .int .i64 AR, .int .i64 AN, .int .i64 AB, .int .u64 AV, .slice XA n xc, .int .i64 AE, .int .i64 AC] 47)) := Lib.hid (by simp)
  have HB1 : Hid (∀ x, ((l ++ [(It.box ab #[.int .i64 AK, .int .i64 AR, .int .i64 AN, .int .i64 AB, .int .u64 AV, .slice XA n xc, .int .i64 AE, .int .i64 AC] 47)]).set i x)[l.length]? = some (It.box ab #[.int .i64 AK, .int .i64 AR, .int .i64 AN, .int .i64 AB, .int .u64 AV, .slice XA n xc, .int .i64 AE, .int .i64 AC] 47)) := Lib.hid (fun x => by rw [List.getElem?_set_ne (by omega)]; simp)
  have HB2 : Hid (∀ x y, (((l ++ [(It.box ab #[.int .i64 AK, .int .i64 AR, .int .i64 AN, .int .i64 AB, .int .u64 AV, .slice XA n xc, .int .i64 AE, .int .i64 AC] 47)]).set i x).set j y)[l.length]? = some (It.box ab #[.int .i64 AK, .int .i64 AR, .int .i64 AN, .int .i64 AB, .int .u64 AV, .slice XA n xc, .int .i64 AE, .int .i64 AC] 47)) := Lib.hid (fun x y => by rw [List.getElem?_set_ne (by omega), List.getElem?_set_ne (by omega)]; simp)
  have HBD := Lib.hid (hb.grow (Below.refl W0.heap.size W0).drew)
  have HB := Lib.hid hb
  have HL := Lib.hid (And.intro hil hjl)
  obtain ⟨c0, c1, c2, c3, c4, c5, c6, c7⟩ := cells8 hx0
  have K0 : Hid ((fun V => V.cell? ⟨ab, 0, none⟩ = some (.int .i64 AK) ∧ V.cell? ⟨ab, 1, none⟩ = some (.int .i64 AR) ∧ V.cell? ⟨ab, 2, none⟩ = some (.int .i64 AN) ∧ V.cell? ⟨ab, 3, none⟩ = some (.int .i64 AB) ∧ V.cell? ⟨ab, 4, none⟩ = some (.int .u64 AV) ∧ V.cell? ⟨ab, 5, none⟩ = some (.slice XA n xc) ∧ V.cell? ⟨ab, 6, none⟩ = some (.int .i64 AE) ∧ V.cell? ⟨ab, 7, none⟩ = some (.int .i64 AC)) W0.drew) := Lib.hid (cells8 (HBD.out.boxAt HB0.out))
  have HC := Lib.hid (sp_set HBD.out HI0.out AR AV ar av.1 av.2)
  have HAR := Lib.hid (And.intro ar (And.intro an (And.intro abk av)))
  have hq : (S.getE AR == S.getE AR) = true := by simp
  have HFE := Lib.hid hf
  subst hk
  clear h hi hj hij hb hil hjl hx0 ak ar an abk av ax ax0 aa ae harr hn hf hin hab0 hab
  go_enter Tryz.func23, Tryz.ntmps23
  go_upto_region 7 with (rw [← HW.out, ← HAB.out])
  go_region_held3 (fun V => V.cell? ⟨ab, 0, none⟩ = some (.int .i64 1) ∧ V.cell? ⟨ab, 1, none⟩ = some (.int .i64 AR) ∧ V.cell? ⟨ab, 2, none⟩ = some (.int .i64 AN) ∧ V.cell? ⟨ab, 3, none⟩ = some (.int .i64 AB) ∧ V.cell? ⟨ab, 4, none⟩ = some (.int .u64 AV) ∧ V.cell? ⟨ab, 5, none⟩ = some (.slice XA n xc) ∧ V.cell? ⟨ab, 6, none⟩ = some (.int .i64 AE) ∧ V.cell? ⟨ab, 7, none⟩ = some (.int .i64 AC))
    (first | with_reducible exact K2.out | with_reducible exact K1.out | with_reducible exact K0.out | go_keep)
    (first
      | (go_at_call 37; (with_reducible refine HC.out.mono ?_); rintro e w1 ⟨rfl, hs⟩; have HS1 := Lib.hid hs; have HC2 := Lib.hid (rs_set hs (HJ1.out _) AR AV HAR.out.1 HAR.out.2.2.2.1 HAR.out.2.2.2.2); have K1 : Hid ((fun V => V.cell? ⟨ab, 0, none⟩ = some (.int .i64 1) ∧ V.cell? ⟨ab, 1, none⟩ = some (.int .i64 AR) ∧ V.cell? ⟨ab, 2, none⟩ = some (.int .i64 AN) ∧ V.cell? ⟨ab, 3, none⟩ = some (.int .i64 AB) ∧ V.cell? ⟨ab, 4, none⟩ = some (.int .u64 AV) ∧ V.cell? ⟨ab, 5, none⟩ = some (.slice XA n xc) ∧ V.cell? ⟨ab, 6, none⟩ = some (.int .i64 AE) ∧ V.cell? ⟨ab, 7, none⟩ = some (.int .i64 AC)) w1) := Lib.hid (cells8 (hs.boxAt (HB1.out _))); clear hs)
      | (go_at_call 65; (with_reducible refine HC2.out.mono ?_); rintro e w2 ⟨rfl, hs⟩; have HS2 := Lib.hid hs; have K2 : Hid ((fun V => V.cell? ⟨ab, 0, none⟩ = some (.int .i64 1) ∧ V.cell? ⟨ab, 1, none⟩ = some (.int .i64 AR) ∧ V.cell? ⟨ab, 2, none⟩ = some (.int .i64 AN) ∧ V.cell? ⟨ab, 3, none⟩ = some (.int .i64 AB) ∧ V.cell? ⟨ab, 4, none⟩ = some (.int .u64 AV) ∧ V.cell? ⟨ab, 5, none⟩ = some (.slice XA n xc) ∧ V.cell? ⟨ab, 6, none⟩ = some (.int .i64 AE) ∧ V.cell? ⟨ab, 7, none⟩ = some (.int .i64 AC)) w2) := Lib.hid (cells8 (hs.boxAt (HB2.out _ _))); clear hs))
  all_goals
    go_wp2
    go_ret
    exact ⟨rfl, HS2.out.drop2 HL.out.1 HL.out.2 _ _⟩
theorem does15_2 (h : Spaces w lo W l) (hi : l[i]? = some (.sp sb S)) (hj : l[j]? = some (.rs rb S)) (hij : i ≠ j) (hf : S.done.length < 100000) (hin : S.inp.length ≤ 1000000) (A : ActS) (hA : A.ok w w.heap.size) (hk : A.kind = 2) :
    Calls Tryz.prog 23 #[.pointer (some ⟨sb, 0, none⟩), .pointer (some ⟨rb, 0, none⟩), .agg A.arr] W (SpsDone w lo ((l.set i (.sp sb (S.goS A.n))).set j (.rs rb (S.goS A.n))) (.bool true)) := by
  have hA1 := hA.below h.bel (Nat.le_refl _)
  obtain ⟨AK, AR, AN, AB, AV, AX, AA, AE, AC⟩ := A
  obtain ⟨XA, xc, hxe⟩ := hA.b.len
  simp only at hxe
  subst hxe
  have hil : i < l.length := (List.getElem?_eq_some_iff.1 hi).1
  have hjl : j < l.length := (List.getElem?_eq_some_iff.1 hj).1
  obtain ⟨ak, ar, an, abk, av, ax, aa, ae⟩ := hA1
  obtain ⟨_, _, _, _, _, ax0, _, _⟩ := hA
  simp only at ak ar an abk av ax ax0 aa ae hk
  have HAX := Lib.hid ax0
  have HAA := Lib.hid aa
  have HIN := Lib.hid hin
  obtain ⟨n, hn⟩ : ∃ n, n = AA.length := ⟨_, rfl⟩
  rw [← hn] at HAX
  have HNN := Lib.hid hn
  have harr : ActS.arr ⟨AK, AR, AN, AB, AV, .slice XA AA.length xc, AA, AE, AC⟩ = #[.int .i64 AK, .int .i64 AR, .int .i64 AN, .int .i64 AB, .int .u64 AV, .slice XA n xc, .int .i64 AE, .int .i64 AC] := by rw [hn]; rfl
  rw [harr]
  have hb := h.addBox #[.int .i64 AK, .int .i64 AR, .int .i64 AN, .int .i64 AB, .int .u64 AV, .slice XA n xc, .int .i64 AE, .int .i64 AC] 47
  have hx0 := heap_alloc_new W (.cells #[.int .i64 AK, .int .i64 AR, .int .i64 AN, .int .i64 AB, .int .u64 AV, .slice XA n xc, .int .i64 AE, .int .i64 AC] 47)
  obtain ⟨W0, hW0⟩ : ∃ W0, W0 = W.alloc (.cells #[.int .i64 AK, .int .i64 AR, .int .i64 AN, .int .i64 AB, .int .u64 AV, .slice XA n xc, .int .i64 AE, .int .i64 AC] 47) := ⟨_, rfl⟩
  rw [← hW0] at hb hx0
  have HW := Lib.hid hW0
  clear hW0
  have hab0 : W.heap.size = W.heap.size := rfl
  obtain ⟨ab, hab⟩ : ∃ ab, ab = W.heap.size := ⟨_, rfl⟩
  have HAB := Lib.hid hab
  rw [← hab] at hb hx0
  have HI0 : Hid ((l ++ [(It.box ab #[.int .i64 AK, .int .i64 AR, .int .i64 AN, .int .i64 AB, .int .u64 AV, .slice XA n xc, .int .i64 AE, .int .i64 AC] 47)])[i]? = some (.sp sb S)) := Lib.hid (by rw [List.getElem?_append_left hil]; exact hi)
  have HJ0 : Hid ((l ++ [(It.box ab #[.int .i64 AK, .int .i64 AR, .int .i64 AN, .int .i64 AB, .int .u64 AV, .slice XA n xc, .int .i64 AE, .int .i64 AC] 47)])[j]? = some (.rs rb S)) := Lib.hid (by rw [List.getElem?_append_left hjl]; exact hj)
  have HJ1 : Hid (∀ x, ((l ++ [(It.box ab #[.int .i64 AK, .int .i64 AR, .int .i64 AN, .int .i64 AB, .int .u64 AV, .slice XA n xc, .int .i64 AE, .int .i64 AC] 47)]).set i x)[j]? = some (.rs rb S)) := Lib.hid (fun x => by rw [List.getElem?_set_ne hij]; exact HJ0.out)
  have HI1 : Hid (∀ x, ((l ++ [(It.box ab #[.int .i64 AK, .int .i64 AR, .int .i64 AN, .int .i64 AB, .int .u64 AV, .slice XA n xc, .int .i64 AE, .int .i64 AC] 47)]).set i x)[i]? = some x) := Lib.hid (fun x => by rw [List.getElem?_set_self (by simp; omega)])
  have HB0 : Hid ((l ++ [(It.box ab #[.int .i64 AK, .int .i64 AR, .int .i64 AN, .int .i64 AB, .int .u64 AV, .slice XA n xc, .int .i64 AE, .int .i64 AC] 47)])[l.length]? = some (It.box ab #[.int .i64 AK, .int .i64 AR, .int .i64 AN, .int .i64 AB, .int .u64 AV, .slice XA n xc, .int .i64 AE, .int .i64 AC] 47)) := Lib.hid (by simp)
  have HB1 : Hid (∀ x, ((l ++ [(It.box ab #[.int .i64 AK, .int .i64 AR, .int .i64 AN, .int .i64 AB, .int .u64 AV, .slice XA n xc, .int .i64 AE, .int .i64 AC] 47)]).set i x)[l.length]? = some (It.box ab #[.int .i64 AK, .int .i64 AR, .int .i64 AN, .int .i64 AB, .int .u64 AV, .slice XA n xc, .int .i64 AE, .int .i64 AC] 47)) := Lib.hid (fun x => by rw [List.getElem?_set_ne (by omega)]; simp)
  have HB2 : Hid (∀ x y, (((l ++ [(It.box ab #[.int .i64 AK, .int .i64 AR, .int .i64 AN, .int .i64 AB, .int .u64 AV, .slice XA n xc, .int .i64 AE, .int .i64 AC] 47)]).set i x).set j y)[l.length]? = some (It.box ab #[.int .i64 AK, .int .i64 AR, .int .i64 AN, .int .i64 AB, .int .u64 AV, .slice XA n xc, .int .i64 AE, .int .i64 AC] 47)) := Lib.hid (fun x y => by rw [List.getElem?_set_ne (by omega), List.getElem?_set_ne (by omega)]; simp)
  have HBD := Lib.hid (hb.grow (Below.refl W0.heap.size W0).drew)
  have HB := Lib.hid hb
  have HL := Lib.hid (And.intro hil hjl)
  obtain ⟨c0, c1, c2, c3, c4, c5, c6, c7⟩ := cells8 hx0
  have K0 : Hid ((fun V => V.cell? ⟨ab, 0, none⟩ = some (.int .i64 AK) ∧ V.cell? ⟨ab, 1, none⟩ = some (.int .i64 AR) ∧ V.cell? ⟨ab, 2, none⟩ = some (.int .i64 AN) ∧ V.cell? ⟨ab, 3, none⟩ = some (.int .i64 AB) ∧ V.cell? ⟨ab, 4, none⟩ = some (.int .u64 AV) ∧ V.cell? ⟨ab, 5, none⟩ = some (.slice XA n xc) ∧ V.cell? ⟨ab, 6, none⟩ = some (.int .i64 AE) ∧ V.cell? ⟨ab, 7, none⟩ = some (.int .i64 AC)) W0.drew) := Lib.hid (cells8 (HBD.out.boxAt HB0.out))
  have HC := Lib.hid (sp_go HBD.out HI0.out AN an)
  have HAR := Lib.hid (And.intro ar (And.intro an (And.intro abk av)))
  have hq : (S.goE AN == S.goE AN) = true := by simp
  have HFE := Lib.hid hf
  subst hk
  clear h hi hj hij hb hil hjl hx0 ak ar an abk av ax ax0 aa ae harr hn hf hin hab0 hab
  go_enter Tryz.func23, Tryz.ntmps23
  go_upto_region 9 with (rw [← HW.out, ← HAB.out])
  go_region_held3 (fun V => V.cell? ⟨ab, 0, none⟩ = some (.int .i64 2) ∧ V.cell? ⟨ab, 1, none⟩ = some (.int .i64 AR) ∧ V.cell? ⟨ab, 2, none⟩ = some (.int .i64 AN) ∧ V.cell? ⟨ab, 3, none⟩ = some (.int .i64 AB) ∧ V.cell? ⟨ab, 4, none⟩ = some (.int .u64 AV) ∧ V.cell? ⟨ab, 5, none⟩ = some (.slice XA n xc) ∧ V.cell? ⟨ab, 6, none⟩ = some (.int .i64 AE) ∧ V.cell? ⟨ab, 7, none⟩ = some (.int .i64 AC))
    (first | with_reducible exact K2.out | with_reducible exact K1.out | with_reducible exact K0.out | go_keep)
    (first
      | (go_at_call 38; (with_reducible refine HC.out.mono ?_); rintro e w1 ⟨rfl, hs⟩; have HS1 := Lib.hid hs; have HC2 := Lib.hid (rs_go hs (HJ1.out _) AN HAR.out.2.1); have K1 : Hid ((fun V => V.cell? ⟨ab, 0, none⟩ = some (.int .i64 2) ∧ V.cell? ⟨ab, 1, none⟩ = some (.int .i64 AR) ∧ V.cell? ⟨ab, 2, none⟩ = some (.int .i64 AN) ∧ V.cell? ⟨ab, 3, none⟩ = some (.int .i64 AB) ∧ V.cell? ⟨ab, 4, none⟩ = some (.int .u64 AV) ∧ V.cell? ⟨ab, 5, none⟩ = some (.slice XA n xc) ∧ V.cell? ⟨ab, 6, none⟩ = some (.int .i64 AE) ∧ V.cell? ⟨ab, 7, none⟩ = some (.int .i64 AC)) w1) := Lib.hid (cells8 (hs.boxAt (HB1.out _))); clear hs)
      | (go_at_call 85; (with_reducible refine HC2.out.mono ?_); rintro e w2 ⟨rfl, hs⟩; have HS2 := Lib.hid hs; have K2 : Hid ((fun V => V.cell? ⟨ab, 0, none⟩ = some (.int .i64 2) ∧ V.cell? ⟨ab, 1, none⟩ = some (.int .i64 AR) ∧ V.cell? ⟨ab, 2, none⟩ = some (.int .i64 AN) ∧ V.cell? ⟨ab, 3, none⟩ = some (.int .i64 AB) ∧ V.cell? ⟨ab, 4, none⟩ = some (.int .u64 AV) ∧ V.cell? ⟨ab, 5, none⟩ = some (.slice XA n xc) ∧ V.cell? ⟨ab, 6, none⟩ = some (.int .i64 AE) ∧ V.cell? ⟨ab, 7, none⟩ = some (.int .i64 AC)) w2) := Lib.hid (cells8 (hs.boxAt (HB2.out _ _))); clear hs))
  all_goals
    go_wp2
    go_ret
    exact ⟨rfl, HS2.out.drop2 HL.out.1 HL.out.2 _ _⟩
theorem does15_3 (h : Spaces w lo W l) (hi : l[i]? = some (.sp sb S)) (hj : l[j]? = some (.rs rb S)) (hij : i ≠ j) (hf : S.done.length < 100000) (hin : S.inp.length ≤ 1000000) (A : ActS) (hA : A.ok w w.heap.size) (hk : A.kind = 3) :
    Calls Tryz.prog 23 #[.pointer (some ⟨sb, 0, none⟩), .pointer (some ⟨rb, 0, none⟩), .agg A.arr] W (SpsDone w lo ((l.set i (.sp sb (S.burnS A.n))).set j (.rs rb (S.burnS A.n))) (.bool true)) := by
  have hA1 := hA.below h.bel (Nat.le_refl _)
  obtain ⟨AK, AR, AN, AB, AV, AX, AA, AE, AC⟩ := A
  obtain ⟨XA, xc, hxe⟩ := hA.b.len
  simp only at hxe
  subst hxe
  have hil : i < l.length := (List.getElem?_eq_some_iff.1 hi).1
  have hjl : j < l.length := (List.getElem?_eq_some_iff.1 hj).1
  obtain ⟨ak, ar, an, abk, av, ax, aa, ae⟩ := hA1
  obtain ⟨_, _, _, _, _, ax0, _, _⟩ := hA
  simp only at ak ar an abk av ax ax0 aa ae hk
  have HAX := Lib.hid ax0
  have HAA := Lib.hid aa
  have HIN := Lib.hid hin
  obtain ⟨n, hn⟩ : ∃ n, n = AA.length := ⟨_, rfl⟩
  rw [← hn] at HAX
  have HNN := Lib.hid hn
  have harr : ActS.arr ⟨AK, AR, AN, AB, AV, .slice XA AA.length xc, AA, AE, AC⟩ = #[.int .i64 AK, .int .i64 AR, .int .i64 AN, .int .i64 AB, .int .u64 AV, .slice XA n xc, .int .i64 AE, .int .i64 AC] := by rw [hn]; rfl
  rw [harr]
  have hb := h.addBox #[.int .i64 AK, .int .i64 AR, .int .i64 AN, .int .i64 AB, .int .u64 AV, .slice XA n xc, .int .i64 AE, .int .i64 AC] 47
  have hx0 := heap_alloc_new W (.cells #[.int .i64 AK, .int .i64 AR, .int .i64 AN, .int .i64 AB, .int .u64 AV, .slice XA n xc, .int .i64 AE, .int .i64 AC] 47)
  obtain ⟨W0, hW0⟩ : ∃ W0, W0 = W.alloc (.cells #[.int .i64 AK, .int .i64 AR, .int .i64 AN, .int .i64 AB, .int .u64 AV, .slice XA n xc, .int .i64 AE, .int .i64 AC] 47) := ⟨_, rfl⟩
  rw [← hW0] at hb hx0
  have HW := Lib.hid hW0
  clear hW0
  have hab0 : W.heap.size = W.heap.size := rfl
  obtain ⟨ab, hab⟩ : ∃ ab, ab = W.heap.size := ⟨_, rfl⟩
  have HAB := Lib.hid hab
  rw [← hab] at hb hx0
  have HI0 : Hid ((l ++ [(It.box ab #[.int .i64 AK, .int .i64 AR, .int .i64 AN, .int .i64 AB, .int .u64 AV, .slice XA n xc, .int .i64 AE, .int .i64 AC] 47)])[i]? = some (.sp sb S)) := Lib.hid (by rw [List.getElem?_append_left hil]; exact hi)
  have HJ0 : Hid ((l ++ [(It.box ab #[.int .i64 AK, .int .i64 AR, .int .i64 AN, .int .i64 AB, .int .u64 AV, .slice XA n xc, .int .i64 AE, .int .i64 AC] 47)])[j]? = some (.rs rb S)) := Lib.hid (by rw [List.getElem?_append_left hjl]; exact hj)
  have HJ1 : Hid (∀ x, ((l ++ [(It.box ab #[.int .i64 AK, .int .i64 AR, .int .i64 AN, .int .i64 AB, .int .u64 AV, .slice XA n xc, .int .i64 AE, .int .i64 AC] 47)]).set i x)[j]? = some (.rs rb S)) := Lib.hid (fun x => by rw [List.getElem?_set_ne hij]; exact HJ0.out)
  have HI1 : Hid (∀ x, ((l ++ [(It.box ab #[.int .i64 AK, .int .i64 AR, .int .i64 AN, .int .i64 AB, .int .u64 AV, .slice XA n xc, .int .i64 AE, .int .i64 AC] 47)]).set i x)[i]? = some x) := Lib.hid (fun x => by rw [List.getElem?_set_self (by simp; omega)])
  have HB0 : Hid ((l ++ [(It.box ab #[.int .i64 AK, .int .i64 AR, .int .i64 AN, .int .i64 AB, .int .u64 AV, .slice XA n xc, .int .i64 AE, .int .i64 AC] 47)])[l.length]? = some (It.box ab #[.int .i64 AK, .int .i64 AR, .int .i64 AN, .int .i64 AB, .int .u64 AV, .slice XA n xc, .int .i64 AE, .int .i64 AC] 47)) := Lib.hid (by simp)
  have HB1 : Hid (∀ x, ((l ++ [(It.box ab #[.int .i64 AK, .int .i64 AR, .int .i64 AN, .int .i64 AB, .int .u64 AV, .slice XA n xc, .int .i64 AE, .int .i64 AC] 47)]).set i x)[l.length]? = some (It.box ab #[.int .i64 AK, .int .i64 AR, .int .i64 AN, .int .i64 AB, .int .u64 AV, .slice XA n xc, .int .i64 AE, .int .i64 AC] 47)) := Lib.hid (fun x => by rw [List.getElem?_set_ne (by omega)]; simp)
  have HB2 : Hid (∀ x y, (((l ++ [(It.box ab #[.int .i64 AK, .int .i64 AR, .int .i64 AN, .int .i64 AB, .int .u64 AV, .slice XA n xc, .int .i64 AE, .int .i64 AC] 47)]).set i x).set j y)[l.length]? = some (It.box ab #[.int .i64 AK, .int .i64 AR, .int .i64 AN, .int .i64 AB, .int .u64 AV, .slice XA n xc, .int .i64 AE, .int .i64 AC] 47)) := Lib.hid (fun x y => by rw [List.getElem?_set_ne (by omega), List.getElem?_set_ne (by omega)]; simp)
  have HBD := Lib.hid (hb.grow (Below.refl W0.heap.size W0).drew)
  have HB := Lib.hid hb
  have HL := Lib.hid (And.intro hil hjl)
  obtain ⟨c0, c1, c2, c3, c4, c5, c6, c7⟩ := cells8 hx0
  have K0 : Hid ((fun V => V.cell? ⟨ab, 0, none⟩ = some (.int .i64 AK) ∧ V.cell? ⟨ab, 1, none⟩ = some (.int .i64 AR) ∧ V.cell? ⟨ab, 2, none⟩ = some (.int .i64 AN) ∧ V.cell? ⟨ab, 3, none⟩ = some (.int .i64 AB) ∧ V.cell? ⟨ab, 4, none⟩ = some (.int .u64 AV) ∧ V.cell? ⟨ab, 5, none⟩ = some (.slice XA n xc) ∧ V.cell? ⟨ab, 6, none⟩ = some (.int .i64 AE) ∧ V.cell? ⟨ab, 7, none⟩ = some (.int .i64 AC)) W0.drew) := Lib.hid (cells8 (HBD.out.boxAt HB0.out))
  have HC := Lib.hid (sp_burn HBD.out HI0.out AN an)
  have HAR := Lib.hid (And.intro ar (And.intro an (And.intro abk av)))
  have hq : (S.burnE AN == S.burnE AN) = true := by simp
  have HFE := Lib.hid hf
  subst hk
  clear h hi hj hij hb hil hjl hx0 ak ar an abk av ax ax0 aa ae harr hn hf hin hab0 hab
  go_enter Tryz.func23, Tryz.ntmps23
  go_upto_region 11 with (rw [← HW.out, ← HAB.out])
  go_region_held3 (fun V => V.cell? ⟨ab, 0, none⟩ = some (.int .i64 3) ∧ V.cell? ⟨ab, 1, none⟩ = some (.int .i64 AR) ∧ V.cell? ⟨ab, 2, none⟩ = some (.int .i64 AN) ∧ V.cell? ⟨ab, 3, none⟩ = some (.int .i64 AB) ∧ V.cell? ⟨ab, 4, none⟩ = some (.int .u64 AV) ∧ V.cell? ⟨ab, 5, none⟩ = some (.slice XA n xc) ∧ V.cell? ⟨ab, 6, none⟩ = some (.int .i64 AE) ∧ V.cell? ⟨ab, 7, none⟩ = some (.int .i64 AC))
    (first | with_reducible exact K2.out | with_reducible exact K1.out | with_reducible exact K0.out | go_keep)
    (first
      | (go_at_call 39; (with_reducible refine HC.out.mono ?_); rintro e w1 ⟨rfl, hs⟩; have HS1 := Lib.hid hs; have HC2 := Lib.hid (rs_burn hs (HJ1.out _) AN HAR.out.2.1); have K1 : Hid ((fun V => V.cell? ⟨ab, 0, none⟩ = some (.int .i64 3) ∧ V.cell? ⟨ab, 1, none⟩ = some (.int .i64 AR) ∧ V.cell? ⟨ab, 2, none⟩ = some (.int .i64 AN) ∧ V.cell? ⟨ab, 3, none⟩ = some (.int .i64 AB) ∧ V.cell? ⟨ab, 4, none⟩ = some (.int .u64 AV) ∧ V.cell? ⟨ab, 5, none⟩ = some (.slice XA n xc) ∧ V.cell? ⟨ab, 6, none⟩ = some (.int .i64 AE) ∧ V.cell? ⟨ab, 7, none⟩ = some (.int .i64 AC)) w1) := Lib.hid (cells8 (hs.boxAt (HB1.out _))); clear hs)
      | (go_at_call 86; (with_reducible refine HC2.out.mono ?_); rintro e w2 ⟨rfl, hs⟩; have HS2 := Lib.hid hs; have K2 : Hid ((fun V => V.cell? ⟨ab, 0, none⟩ = some (.int .i64 3) ∧ V.cell? ⟨ab, 1, none⟩ = some (.int .i64 AR) ∧ V.cell? ⟨ab, 2, none⟩ = some (.int .i64 AN) ∧ V.cell? ⟨ab, 3, none⟩ = some (.int .i64 AB) ∧ V.cell? ⟨ab, 4, none⟩ = some (.int .u64 AV) ∧ V.cell? ⟨ab, 5, none⟩ = some (.slice XA n xc) ∧ V.cell? ⟨ab, 6, none⟩ = some (.int .i64 AE) ∧ V.cell? ⟨ab, 7, none⟩ = some (.int .i64 AC)) w2) := Lib.hid (cells8 (hs.boxAt (HB2.out _ _))); clear hs))
  all_goals
    go_wp2
    go_ret
    exact ⟨rfl, HS2.out.drop2 HL.out.1 HL.out.2 _ _⟩
theorem does15_6 (h : Spaces w lo W l) (hi : l[i]? = some (.sp sb S)) (hj : l[j]? = some (.rs rb S)) (hij : i ≠ j) (hf : S.done.length < 100000) (hin : S.inp.length ≤ 1000000) (A : ActS) (hA : A.ok w w.heap.size) (hk : A.kind = 6) :
    Calls Tryz.prog 23 #[.pointer (some ⟨sb, 0, none⟩), .pointer (some ⟨rb, 0, none⟩), .agg A.arr] W (SpsDone w lo ((l.set i (.sp sb (S.retS A.v))).set j (.rs rb (S.retS A.v))) (.bool true)) := by
  have hA1 := hA.below h.bel (Nat.le_refl _)
  obtain ⟨AK, AR, AN, AB, AV, AX, AA, AE, AC⟩ := A
  obtain ⟨XA, xc, hxe⟩ := hA.b.len
  simp only at hxe
  subst hxe
  have hil : i < l.length := (List.getElem?_eq_some_iff.1 hi).1
  have hjl : j < l.length := (List.getElem?_eq_some_iff.1 hj).1
  obtain ⟨ak, ar, an, abk, av, ax, aa, ae⟩ := hA1
  obtain ⟨_, _, _, _, _, ax0, _, _⟩ := hA
  simp only at ak ar an abk av ax ax0 aa ae hk
  have HAX := Lib.hid ax0
  have HAA := Lib.hid aa
  have HIN := Lib.hid hin
  obtain ⟨n, hn⟩ : ∃ n, n = AA.length := ⟨_, rfl⟩
  rw [← hn] at HAX
  have HNN := Lib.hid hn
  have harr : ActS.arr ⟨AK, AR, AN, AB, AV, .slice XA AA.length xc, AA, AE, AC⟩ = #[.int .i64 AK, .int .i64 AR, .int .i64 AN, .int .i64 AB, .int .u64 AV, .slice XA n xc, .int .i64 AE, .int .i64 AC] := by rw [hn]; rfl
  rw [harr]
  have hb := h.addBox #[.int .i64 AK, .int .i64 AR, .int .i64 AN, .int .i64 AB, .int .u64 AV, .slice XA n xc, .int .i64 AE, .int .i64 AC] 47
  have hx0 := heap_alloc_new W (.cells #[.int .i64 AK, .int .i64 AR, .int .i64 AN, .int .i64 AB, .int .u64 AV, .slice XA n xc, .int .i64 AE, .int .i64 AC] 47)
  obtain ⟨W0, hW0⟩ : ∃ W0, W0 = W.alloc (.cells #[.int .i64 AK, .int .i64 AR, .int .i64 AN, .int .i64 AB, .int .u64 AV, .slice XA n xc, .int .i64 AE, .int .i64 AC] 47) := ⟨_, rfl⟩
  rw [← hW0] at hb hx0
  have HW := Lib.hid hW0
  clear hW0
  have hab0 : W.heap.size = W.heap.size := rfl
  obtain ⟨ab, hab⟩ : ∃ ab, ab = W.heap.size := ⟨_, rfl⟩
  have HAB := Lib.hid hab
  rw [← hab] at hb hx0
  have HI0 : Hid ((l ++ [(It.box ab #[.int .i64 AK, .int .i64 AR, .int .i64 AN, .int .i64 AB, .int .u64 AV, .slice XA n xc, .int .i64 AE, .int .i64 AC] 47)])[i]? = some (.sp sb S)) := Lib.hid (by rw [List.getElem?_append_left hil]; exact hi)
  have HJ0 : Hid ((l ++ [(It.box ab #[.int .i64 AK, .int .i64 AR, .int .i64 AN, .int .i64 AB, .int .u64 AV, .slice XA n xc, .int .i64 AE, .int .i64 AC] 47)])[j]? = some (.rs rb S)) := Lib.hid (by rw [List.getElem?_append_left hjl]; exact hj)
  have HJ1 : Hid (∀ x, ((l ++ [(It.box ab #[.int .i64 AK, .int .i64 AR, .int .i64 AN, .int .i64 AB, .int .u64 AV, .slice XA n xc, .int .i64 AE, .int .i64 AC] 47)]).set i x)[j]? = some (.rs rb S)) := Lib.hid (fun x => by rw [List.getElem?_set_ne hij]; exact HJ0.out)
  have HI1 : Hid (∀ x, ((l ++ [(It.box ab #[.int .i64 AK, .int .i64 AR, .int .i64 AN, .int .i64 AB, .int .u64 AV, .slice XA n xc, .int .i64 AE, .int .i64 AC] 47)]).set i x)[i]? = some x) := Lib.hid (fun x => by rw [List.getElem?_set_self (by simp; omega)])
  have HB0 : Hid ((l ++ [(It.box ab #[.int .i64 AK, .int .i64 AR, .int .i64 AN, .int .i64 AB, .int .u64 AV, .slice XA n xc, .int .i64 AE, .int .i64 AC] 47)])[l.length]? = some (It.box ab #[.int .i64 AK, .int .i64 AR, .int .i64 AN, .int .i64 AB, .int .u64 AV, .slice XA n xc, .int .i64 AE, .int .i64 AC] 47)) := Lib.hid (by simp)
  have HB1 : Hid (∀ x, ((l ++ [(It.box ab #[.int .i64 AK, .int .i64 AR, .int .i64 AN, .int .i64 AB, .int .u64 AV, .slice XA n xc, .int .i64 AE, .int .i64 AC] 47)]).set i x)[l.length]? = some (It.box ab #[.int .i64 AK, .int .i64 AR, .int .i64 AN, .int .i64 AB, .int .u64 AV, .slice XA n xc, .int .i64 AE, .int .i64 AC] 47)) := Lib.hid (fun x => by rw [List.getElem?_set_ne (by omega)]; simp)
  have HB2 : Hid (∀ x y, (((l ++ [(It.box ab #[.int .i64 AK, .int .i64 AR, .int .i64 AN, .int .i64 AB, .int .u64 AV, .slice XA n xc, .int .i64 AE, .int .i64 AC] 47)]).set i x).set j y)[l.length]? = some (It.box ab #[.int .i64 AK, .int .i64 AR, .int .i64 AN, .int .i64 AB, .int .u64 AV, .slice XA n xc, .int .i64 AE, .int .i64 AC] 47)) := Lib.hid (fun x y => by rw [List.getElem?_set_ne (by omega), List.getElem?_set_ne (by omega)]; simp)
  have HBD := Lib.hid (hb.grow (Below.refl W0.heap.size W0).drew)
  have HB := Lib.hid hb
  have HL := Lib.hid (And.intro hil hjl)
  obtain ⟨c0, c1, c2, c3, c4, c5, c6, c7⟩ := cells8 hx0
  have K0 : Hid ((fun V => V.cell? ⟨ab, 0, none⟩ = some (.int .i64 AK) ∧ V.cell? ⟨ab, 1, none⟩ = some (.int .i64 AR) ∧ V.cell? ⟨ab, 2, none⟩ = some (.int .i64 AN) ∧ V.cell? ⟨ab, 3, none⟩ = some (.int .i64 AB) ∧ V.cell? ⟨ab, 4, none⟩ = some (.int .u64 AV) ∧ V.cell? ⟨ab, 5, none⟩ = some (.slice XA n xc) ∧ V.cell? ⟨ab, 6, none⟩ = some (.int .i64 AE) ∧ V.cell? ⟨ab, 7, none⟩ = some (.int .i64 AC)) W0.drew) := Lib.hid (cells8 (HBD.out.boxAt HB0.out))
  have HC := Lib.hid (sp_ret HBD.out HI0.out AV av.1 av.2)
  have HAR := Lib.hid (And.intro ar (And.intro an (And.intro abk av)))
  have hq : (S.refE == S.refE) = true := by simp
  have HFE := Lib.hid hf
  subst hk
  clear h hi hj hij hb hil hjl hx0 ak ar an abk av ax ax0 aa ae harr hn hf hin hab0 hab
  go_enter Tryz.func23, Tryz.ntmps23
  go_upto_region 17 with (rw [← HW.out, ← HAB.out])
  go_region_held3 (fun V => V.cell? ⟨ab, 0, none⟩ = some (.int .i64 6) ∧ V.cell? ⟨ab, 1, none⟩ = some (.int .i64 AR) ∧ V.cell? ⟨ab, 2, none⟩ = some (.int .i64 AN) ∧ V.cell? ⟨ab, 3, none⟩ = some (.int .i64 AB) ∧ V.cell? ⟨ab, 4, none⟩ = some (.int .u64 AV) ∧ V.cell? ⟨ab, 5, none⟩ = some (.slice XA n xc) ∧ V.cell? ⟨ab, 6, none⟩ = some (.int .i64 AE) ∧ V.cell? ⟨ab, 7, none⟩ = some (.int .i64 AC))
    (first | with_reducible exact K2.out | with_reducible exact K1.out | with_reducible exact K0.out | go_keep)
    (first
      | (go_at_call 41; (with_reducible refine HC.out.mono ?_); rintro e w1 ⟨rfl, hs⟩; have HS1 := Lib.hid hs; have HC2 := Lib.hid (rs_ret hs (HJ1.out _) AV HAR.out.2.2.2.1 HAR.out.2.2.2.2); have K1 : Hid ((fun V => V.cell? ⟨ab, 0, none⟩ = some (.int .i64 6) ∧ V.cell? ⟨ab, 1, none⟩ = some (.int .i64 AR) ∧ V.cell? ⟨ab, 2, none⟩ = some (.int .i64 AN) ∧ V.cell? ⟨ab, 3, none⟩ = some (.int .i64 AB) ∧ V.cell? ⟨ab, 4, none⟩ = some (.int .u64 AV) ∧ V.cell? ⟨ab, 5, none⟩ = some (.slice XA n xc) ∧ V.cell? ⟨ab, 6, none⟩ = some (.int .i64 AE) ∧ V.cell? ⟨ab, 7, none⟩ = some (.int .i64 AC)) w1) := Lib.hid (cells8 (hs.boxAt (HB1.out _))); clear hs)
      | (go_at_call 89; (with_reducible refine HC2.out.mono ?_); rintro e w2 ⟨rfl, hs⟩; have HS2 := Lib.hid hs; have K2 : Hid ((fun V => V.cell? ⟨ab, 0, none⟩ = some (.int .i64 6) ∧ V.cell? ⟨ab, 1, none⟩ = some (.int .i64 AR) ∧ V.cell? ⟨ab, 2, none⟩ = some (.int .i64 AN) ∧ V.cell? ⟨ab, 3, none⟩ = some (.int .i64 AB) ∧ V.cell? ⟨ab, 4, none⟩ = some (.int .u64 AV) ∧ V.cell? ⟨ab, 5, none⟩ = some (.slice XA n xc) ∧ V.cell? ⟨ab, 6, none⟩ = some (.int .i64 AE) ∧ V.cell? ⟨ab, 7, none⟩ = some (.int .i64 AC)) w2) := Lib.hid (cells8 (hs.boxAt (HB2.out _ _))); clear hs))
  all_goals
    go_wp2
    go_ret
    exact ⟨rfl, HS2.out.drop2 HL.out.1 HL.out.2 _ _⟩
theorem does15_7 (h : Spaces w lo W l) (hi : l[i]? = some (.sp sb S)) (hj : l[j]? = some (.rs rb S)) (hij : i ≠ j) (hf : S.done.length < 100000) (hin : S.inp.length ≤ 1000000) (A : ActS) (hA : A.ok w w.heap.size) (hk : A.kind = 7) :
    Calls Tryz.prog 23 #[.pointer (some ⟨sb, 0, none⟩), .pointer (some ⟨rb, 0, none⟩), .agg A.arr] W (SpsDone w lo ((l.set i (.sp sb (S.stopS A.ek A.ec))).set j (.rs rb (S.stopS A.ek A.ec))) (.bool true)) := by
  have hA1 := hA.below h.bel (Nat.le_refl _)
  obtain ⟨AK, AR, AN, AB, AV, AX, AA, AE, AC⟩ := A
  obtain ⟨XA, xc, hxe⟩ := hA.b.len
  simp only at hxe
  subst hxe
  have hil : i < l.length := (List.getElem?_eq_some_iff.1 hi).1
  have hjl : j < l.length := (List.getElem?_eq_some_iff.1 hj).1
  obtain ⟨ak, ar, an, abk, av, ax, aa, ae⟩ := hA1
  obtain ⟨_, _, _, _, _, ax0, _, _⟩ := hA
  simp only at ak ar an abk av ax ax0 aa ae hk
  have HAX := Lib.hid ax0
  have HAA := Lib.hid aa
  have HIN := Lib.hid hin
  obtain ⟨n, hn⟩ : ∃ n, n = AA.length := ⟨_, rfl⟩
  rw [← hn] at HAX
  have HNN := Lib.hid hn
  have harr : ActS.arr ⟨AK, AR, AN, AB, AV, .slice XA AA.length xc, AA, AE, AC⟩ = #[.int .i64 AK, .int .i64 AR, .int .i64 AN, .int .i64 AB, .int .u64 AV, .slice XA n xc, .int .i64 AE, .int .i64 AC] := by rw [hn]; rfl
  rw [harr]
  have hb := h.addBox #[.int .i64 AK, .int .i64 AR, .int .i64 AN, .int .i64 AB, .int .u64 AV, .slice XA n xc, .int .i64 AE, .int .i64 AC] 47
  have hx0 := heap_alloc_new W (.cells #[.int .i64 AK, .int .i64 AR, .int .i64 AN, .int .i64 AB, .int .u64 AV, .slice XA n xc, .int .i64 AE, .int .i64 AC] 47)
  obtain ⟨W0, hW0⟩ : ∃ W0, W0 = W.alloc (.cells #[.int .i64 AK, .int .i64 AR, .int .i64 AN, .int .i64 AB, .int .u64 AV, .slice XA n xc, .int .i64 AE, .int .i64 AC] 47) := ⟨_, rfl⟩
  rw [← hW0] at hb hx0
  have HW := Lib.hid hW0
  clear hW0
  have hab0 : W.heap.size = W.heap.size := rfl
  obtain ⟨ab, hab⟩ : ∃ ab, ab = W.heap.size := ⟨_, rfl⟩
  have HAB := Lib.hid hab
  rw [← hab] at hb hx0
  have HI0 : Hid ((l ++ [(It.box ab #[.int .i64 AK, .int .i64 AR, .int .i64 AN, .int .i64 AB, .int .u64 AV, .slice XA n xc, .int .i64 AE, .int .i64 AC] 47)])[i]? = some (.sp sb S)) := Lib.hid (by rw [List.getElem?_append_left hil]; exact hi)
  have HJ0 : Hid ((l ++ [(It.box ab #[.int .i64 AK, .int .i64 AR, .int .i64 AN, .int .i64 AB, .int .u64 AV, .slice XA n xc, .int .i64 AE, .int .i64 AC] 47)])[j]? = some (.rs rb S)) := Lib.hid (by rw [List.getElem?_append_left hjl]; exact hj)
  have HJ1 : Hid (∀ x, ((l ++ [(It.box ab #[.int .i64 AK, .int .i64 AR, .int .i64 AN, .int .i64 AB, .int .u64 AV, .slice XA n xc, .int .i64 AE, .int .i64 AC] 47)]).set i x)[j]? = some (.rs rb S)) := Lib.hid (fun x => by rw [List.getElem?_set_ne hij]; exact HJ0.out)
  have HI1 : Hid (∀ x, ((l ++ [(It.box ab #[.int .i64 AK, .int .i64 AR, .int .i64 AN, .int .i64 AB, .int .u64 AV, .slice XA n xc, .int .i64 AE, .int .i64 AC] 47)]).set i x)[i]? = some x) := Lib.hid (fun x => by rw [List.getElem?_set_self (by simp; omega)])
  have HB0 : Hid ((l ++ [(It.box ab #[.int .i64 AK, .int .i64 AR, .int .i64 AN, .int .i64 AB, .int .u64 AV, .slice XA n xc, .int .i64 AE, .int .i64 AC] 47)])[l.length]? = some (It.box ab #[.int .i64 AK, .int .i64 AR, .int .i64 AN, .int .i64 AB, .int .u64 AV, .slice XA n xc, .int .i64 AE, .int .i64 AC] 47)) := Lib.hid (by simp)
  have HB1 : Hid (∀ x, ((l ++ [(It.box ab #[.int .i64 AK, .int .i64 AR, .int .i64 AN, .int .i64 AB, .int .u64 AV, .slice XA n xc, .int .i64 AE, .int .i64 AC] 47)]).set i x)[l.length]? = some (It.box ab #[.int .i64 AK, .int .i64 AR, .int .i64 AN, .int .i64 AB, .int .u64 AV, .slice XA n xc, .int .i64 AE, .int .i64 AC] 47)) := Lib.hid (fun x => by rw [List.getElem?_set_ne (by omega)]; simp)
  have HB2 : Hid (∀ x y, (((l ++ [(It.box ab #[.int .i64 AK, .int .i64 AR, .int .i64 AN, .int .i64 AB, .int .u64 AV, .slice XA n xc, .int .i64 AE, .int .i64 AC] 47)]).set i x).set j y)[l.length]? = some (It.box ab #[.int .i64 AK, .int .i64 AR, .int .i64 AN, .int .i64 AB, .int .u64 AV, .slice XA n xc, .int .i64 AE, .int .i64 AC] 47)) := Lib.hid (fun x y => by rw [List.getElem?_set_ne (by omega), List.getElem?_set_ne (by omega)]; simp)
  have HBD := Lib.hid (hb.grow (Below.refl W0.heap.size W0).drew)
  have HB := Lib.hid hb
  have HL := Lib.hid (And.intro hil hjl)
  obtain ⟨c0, c1, c2, c3, c4, c5, c6, c7⟩ := cells8 hx0
  have K0 : Hid ((fun V => V.cell? ⟨ab, 0, none⟩ = some (.int .i64 AK) ∧ V.cell? ⟨ab, 1, none⟩ = some (.int .i64 AR) ∧ V.cell? ⟨ab, 2, none⟩ = some (.int .i64 AN) ∧ V.cell? ⟨ab, 3, none⟩ = some (.int .i64 AB) ∧ V.cell? ⟨ab, 4, none⟩ = some (.int .u64 AV) ∧ V.cell? ⟨ab, 5, none⟩ = some (.slice XA n xc) ∧ V.cell? ⟨ab, 6, none⟩ = some (.int .i64 AE) ∧ V.cell? ⟨ab, 7, none⟩ = some (.int .i64 AC)) W0.drew) := Lib.hid (cells8 (HBD.out.boxAt HB0.out))
  have HC := Lib.hid (sp_stop HBD.out HI0.out AE AC)
  have HAR := Lib.hid (And.intro ar (And.intro an (And.intro abk av)))
  have hq : (S.stopE AE AC == S.stopE AE AC) = true := by simp
  have HFE := Lib.hid hf
  subst hk
  clear h hi hj hij hb hil hjl hx0 ak ar an abk av ax ax0 aa ae harr hn hf hin hab0 hab
  go_enter Tryz.func23, Tryz.ntmps23
  go_upto_region 19 with (rw [← HW.out, ← HAB.out])
  go_region_held3 (fun V => V.cell? ⟨ab, 0, none⟩ = some (.int .i64 7) ∧ V.cell? ⟨ab, 1, none⟩ = some (.int .i64 AR) ∧ V.cell? ⟨ab, 2, none⟩ = some (.int .i64 AN) ∧ V.cell? ⟨ab, 3, none⟩ = some (.int .i64 AB) ∧ V.cell? ⟨ab, 4, none⟩ = some (.int .u64 AV) ∧ V.cell? ⟨ab, 5, none⟩ = some (.slice XA n xc) ∧ V.cell? ⟨ab, 6, none⟩ = some (.int .i64 AE) ∧ V.cell? ⟨ab, 7, none⟩ = some (.int .i64 AC))
    (first | with_reducible exact K2.out | with_reducible exact K1.out | with_reducible exact K0.out | go_keep)
    (first
      | (go_at_call 22; (with_reducible refine HC.out.mono ?_); rintro e w1 ⟨rfl, hs⟩; have HS1 := Lib.hid hs; have HC2 := Lib.hid (rs_stop hs (HJ1.out _) AE AC); have K1 : Hid ((fun V => V.cell? ⟨ab, 0, none⟩ = some (.int .i64 7) ∧ V.cell? ⟨ab, 1, none⟩ = some (.int .i64 AR) ∧ V.cell? ⟨ab, 2, none⟩ = some (.int .i64 AN) ∧ V.cell? ⟨ab, 3, none⟩ = some (.int .i64 AB) ∧ V.cell? ⟨ab, 4, none⟩ = some (.int .u64 AV) ∧ V.cell? ⟨ab, 5, none⟩ = some (.slice XA n xc) ∧ V.cell? ⟨ab, 6, none⟩ = some (.int .i64 AE) ∧ V.cell? ⟨ab, 7, none⟩ = some (.int .i64 AC)) w1) := Lib.hid (cells8 (hs.boxAt (HB1.out _))); clear hs)
      | (go_at_call 90; (with_reducible refine HC2.out.mono ?_); rintro e w2 ⟨rfl, hs⟩; have HS2 := Lib.hid hs; have K2 : Hid ((fun V => V.cell? ⟨ab, 0, none⟩ = some (.int .i64 7) ∧ V.cell? ⟨ab, 1, none⟩ = some (.int .i64 AR) ∧ V.cell? ⟨ab, 2, none⟩ = some (.int .i64 AN) ∧ V.cell? ⟨ab, 3, none⟩ = some (.int .i64 AB) ∧ V.cell? ⟨ab, 4, none⟩ = some (.int .u64 AV) ∧ V.cell? ⟨ab, 5, none⟩ = some (.slice XA n xc) ∧ V.cell? ⟨ab, 6, none⟩ = some (.int .i64 AE) ∧ V.cell? ⟨ab, 7, none⟩ = some (.int .i64 AC)) w2) := Lib.hid (cells8 (hs.boxAt (HB2.out _ _))); clear hs))
  all_goals
    go_wp2
    go_ret
    exact ⟨rfl, HS2.out.drop2 HL.out.1 HL.out.2 _ _⟩
theorem does15_8 (h : Spaces w lo W l) (hi : l[i]? = some (.sp sb S)) (hj : l[j]? = some (.rs rb S)) (hij : i ≠ j) (hf : S.done.length < 100000) (hin : S.inp.length ≤ 1000000) (A : ActS) (hA : A.ok w w.heap.size) (hk : A.kind = 8) :
    Calls Tryz.prog 23 #[.pointer (some ⟨sb, 0, none⟩), .pointer (some ⟨rb, 0, none⟩), .agg A.arr] W (SpsDone w lo ((l.set i (.sp sb (S.getbS))).set j (.rs rb (S.getbS))) (.bool true)) := by
  have hA1 := hA.below h.bel (Nat.le_refl _)
  obtain ⟨AK, AR, AN, AB, AV, AX, AA, AE, AC⟩ := A
  obtain ⟨XA, xc, hxe⟩ := hA.b.len
  simp only at hxe
  subst hxe
  have hil : i < l.length := (List.getElem?_eq_some_iff.1 hi).1
  have hjl : j < l.length := (List.getElem?_eq_some_iff.1 hj).1
  obtain ⟨ak, ar, an, abk, av, ax, aa, ae⟩ := hA1
  obtain ⟨_, _, _, _, _, ax0, _, _⟩ := hA
  simp only at ak ar an abk av ax ax0 aa ae hk
  have HAX := Lib.hid ax0
  have HAA := Lib.hid aa
  have HIN := Lib.hid hin
  obtain ⟨n, hn⟩ : ∃ n, n = AA.length := ⟨_, rfl⟩
  rw [← hn] at HAX
  have HNN := Lib.hid hn
  have harr : ActS.arr ⟨AK, AR, AN, AB, AV, .slice XA AA.length xc, AA, AE, AC⟩ = #[.int .i64 AK, .int .i64 AR, .int .i64 AN, .int .i64 AB, .int .u64 AV, .slice XA n xc, .int .i64 AE, .int .i64 AC] := by rw [hn]; rfl
  rw [harr]
  have hb := h.addBox #[.int .i64 AK, .int .i64 AR, .int .i64 AN, .int .i64 AB, .int .u64 AV, .slice XA n xc, .int .i64 AE, .int .i64 AC] 47
  have hx0 := heap_alloc_new W (.cells #[.int .i64 AK, .int .i64 AR, .int .i64 AN, .int .i64 AB, .int .u64 AV, .slice XA n xc, .int .i64 AE, .int .i64 AC] 47)
  obtain ⟨W0, hW0⟩ : ∃ W0, W0 = W.alloc (.cells #[.int .i64 AK, .int .i64 AR, .int .i64 AN, .int .i64 AB, .int .u64 AV, .slice XA n xc, .int .i64 AE, .int .i64 AC] 47) := ⟨_, rfl⟩
  rw [← hW0] at hb hx0
  have HW := Lib.hid hW0
  clear hW0
  have hab0 : W.heap.size = W.heap.size := rfl
  obtain ⟨ab, hab⟩ : ∃ ab, ab = W.heap.size := ⟨_, rfl⟩
  have HAB := Lib.hid hab
  rw [← hab] at hb hx0
  have HI0 : Hid ((l ++ [(It.box ab #[.int .i64 AK, .int .i64 AR, .int .i64 AN, .int .i64 AB, .int .u64 AV, .slice XA n xc, .int .i64 AE, .int .i64 AC] 47)])[i]? = some (.sp sb S)) := Lib.hid (by rw [List.getElem?_append_left hil]; exact hi)
  have HJ0 : Hid ((l ++ [(It.box ab #[.int .i64 AK, .int .i64 AR, .int .i64 AN, .int .i64 AB, .int .u64 AV, .slice XA n xc, .int .i64 AE, .int .i64 AC] 47)])[j]? = some (.rs rb S)) := Lib.hid (by rw [List.getElem?_append_left hjl]; exact hj)
  have HJ1 : Hid (∀ x, ((l ++ [(It.box ab #[.int .i64 AK, .int .i64 AR, .int .i64 AN, .int .i64 AB, .int .u64 AV, .slice XA n xc, .int .i64 AE, .int .i64 AC] 47)]).set i x)[j]? = some (.rs rb S)) := Lib.hid (fun x => by rw [List.getElem?_set_ne hij]; exact HJ0.out)
  have HI1 : Hid (∀ x, ((l ++ [(It.box ab #[.int .i64 AK, .int .i64 AR, .int .i64 AN, .int .i64 AB, .int .u64 AV, .slice XA n xc, .int .i64 AE, .int .i64 AC] 47)]).set i x)[i]? = some x) := Lib.hid (fun x => by rw [List.getElem?_set_self (by simp; omega)])
  have HB0 : Hid ((l ++ [(It.box ab #[.int .i64 AK, .int .i64 AR, .int .i64 AN, .int .i64 AB, .int .u64 AV, .slice XA n xc, .int .i64 AE, .int .i64 AC] 47)])[l.length]? = some (It.box ab #[.int .i64 AK, .int .i64 AR, .int .i64 AN, .int .i64 AB, .int .u64 AV, .slice XA n xc, .int .i64 AE, .int .i64 AC] 47)) := Lib.hid (by simp)
  have HB1 : Hid (∀ x, ((l ++ [(It.box ab #[.int .i64 AK, .int .i64 AR, .int .i64 AN, .int .i64 AB, .int .u64 AV, .slice XA n xc, .int .i64 AE, .int .i64 AC] 47)]).set i x)[l.length]? = some (It.box ab #[.int .i64 AK, .int .i64 AR, .int .i64 AN, .int .i64 AB, .int .u64 AV, .slice XA n xc, .int .i64 AE, .int .i64 AC] 47)) := Lib.hid (fun x => by rw [List.getElem?_set_ne (by omega)]; simp)
  have HB2 : Hid (∀ x y, (((l ++ [(It.box ab #[.int .i64 AK, .int .i64 AR, .int .i64 AN, .int .i64 AB, .int .u64 AV, .slice XA n xc, .int .i64 AE, .int .i64 AC] 47)]).set i x).set j y)[l.length]? = some (It.box ab #[.int .i64 AK, .int .i64 AR, .int .i64 AN, .int .i64 AB, .int .u64 AV, .slice XA n xc, .int .i64 AE, .int .i64 AC] 47)) := Lib.hid (fun x y => by rw [List.getElem?_set_ne (by omega), List.getElem?_set_ne (by omega)]; simp)
  have HBD := Lib.hid (hb.grow (Below.refl W0.heap.size W0).drew)
  have HB := Lib.hid hb
  have HL := Lib.hid (And.intro hil hjl)
  obtain ⟨c0, c1, c2, c3, c4, c5, c6, c7⟩ := cells8 hx0
  have K0 : Hid ((fun V => V.cell? ⟨ab, 0, none⟩ = some (.int .i64 AK) ∧ V.cell? ⟨ab, 1, none⟩ = some (.int .i64 AR) ∧ V.cell? ⟨ab, 2, none⟩ = some (.int .i64 AN) ∧ V.cell? ⟨ab, 3, none⟩ = some (.int .i64 AB) ∧ V.cell? ⟨ab, 4, none⟩ = some (.int .u64 AV) ∧ V.cell? ⟨ab, 5, none⟩ = some (.slice XA n xc) ∧ V.cell? ⟨ab, 6, none⟩ = some (.int .i64 AE) ∧ V.cell? ⟨ab, 7, none⟩ = some (.int .i64 AC)) W0.drew) := Lib.hid (cells8 (HBD.out.boxAt HB0.out))
  have HC := Lib.hid (sp_getb hb HI0.out hf)
  have HAR := Lib.hid (And.intro ar (And.intro an (And.intro abk av)))
  have hq : (S.getbV == S.getbV) = true ∧ (S.refE == S.refE) = true := by simp
  have HFE := Lib.hid hf
  subst hk
  clear h hi hj hij hb hil hjl hx0 ak ar an abk av ax ax0 aa ae harr hn hf hin hab0 hab
  go_enter Tryz.func23, Tryz.ntmps23
  go_wp2_with (first
    | (rw [← HW.out, ← HAB.out])
    | (go_at_call 28; (with_reducible refine HC.out.mono ?_); rintro e w1 ⟨rfl, hs⟩; have HS1 := Lib.hid hs; have HC2 := Lib.hid (rs_getb hs (HJ1.out _) HFE.out HIN.out); have K1 : Hid ((fun V => V.cell? ⟨ab, 0, none⟩ = some (.int .i64 8) ∧ V.cell? ⟨ab, 1, none⟩ = some (.int .i64 AR) ∧ V.cell? ⟨ab, 2, none⟩ = some (.int .i64 AN) ∧ V.cell? ⟨ab, 3, none⟩ = some (.int .i64 AB) ∧ V.cell? ⟨ab, 4, none⟩ = some (.int .u64 AV) ∧ V.cell? ⟨ab, 5, none⟩ = some (.slice XA n xc) ∧ V.cell? ⟨ab, 6, none⟩ = some (.int .i64 AE) ∧ V.cell? ⟨ab, 7, none⟩ = some (.int .i64 AC)) w1) := Lib.hid (cells8 (hs.boxAt (HB1.out _))); obtain ⟨d0, d1, d2, d3, d4, d5, d6, d7⟩ := cells8 (hs.boxAt (HB1.out _)); clear hs)
    | (go_at_call 91; (with_reducible refine HC2.out.mono ?_); rintro e w2 ⟨rfl, hs⟩; have HS2 := Lib.hid hs; have K2 : Hid ((fun V => V.cell? ⟨ab, 0, none⟩ = some (.int .i64 8) ∧ V.cell? ⟨ab, 1, none⟩ = some (.int .i64 AR) ∧ V.cell? ⟨ab, 2, none⟩ = some (.int .i64 AN) ∧ V.cell? ⟨ab, 3, none⟩ = some (.int .i64 AB) ∧ V.cell? ⟨ab, 4, none⟩ = some (.int .u64 AV) ∧ V.cell? ⟨ab, 5, none⟩ = some (.slice XA n xc) ∧ V.cell? ⟨ab, 6, none⟩ = some (.int .i64 AE) ∧ V.cell? ⟨ab, 7, none⟩ = some (.int .i64 AC)) w2) := Lib.hid (cells8 (hs.boxAt (HB2.out _ _))); clear hs))
  go_ret
  exact ⟨rfl, HS2.out.drop2 HL.out.1 HL.out.2 _ _⟩
theorem does15_9 (h : Spaces w lo W l) (hi : l[i]? = some (.sp sb S)) (hj : l[j]? = some (.rs rb S)) (hij : i ≠ j) (hf : S.done.length < 100000) (hin : S.inp.length ≤ 1000000) (A : ActS) (hA : A.ok w w.heap.size) (hk : A.kind = 9) :
    Calls Tryz.prog 23 #[.pointer (some ⟨sb, 0, none⟩), .pointer (some ⟨rb, 0, none⟩), .agg A.arr] W (SpsDone w lo ((l.set i (.sp sb (S.putbS A.n))).set j (.rs rb (S.putbS A.n))) (.bool true)) := by
  have hA1 := hA.below h.bel (Nat.le_refl _)
  obtain ⟨AK, AR, AN, AB, AV, AX, AA, AE, AC⟩ := A
  obtain ⟨XA, xc, hxe⟩ := hA.b.len
  simp only at hxe
  subst hxe
  have hil : i < l.length := (List.getElem?_eq_some_iff.1 hi).1
  have hjl : j < l.length := (List.getElem?_eq_some_iff.1 hj).1
  obtain ⟨ak, ar, an, abk, av, ax, aa, ae⟩ := hA1
  obtain ⟨_, _, _, _, _, ax0, _, _⟩ := hA
  simp only at ak ar an abk av ax ax0 aa ae hk
  have HAX := Lib.hid ax0
  have HAA := Lib.hid aa
  have HIN := Lib.hid hin
  obtain ⟨n, hn⟩ : ∃ n, n = AA.length := ⟨_, rfl⟩
  rw [← hn] at HAX
  have HNN := Lib.hid hn
  have harr : ActS.arr ⟨AK, AR, AN, AB, AV, .slice XA AA.length xc, AA, AE, AC⟩ = #[.int .i64 AK, .int .i64 AR, .int .i64 AN, .int .i64 AB, .int .u64 AV, .slice XA n xc, .int .i64 AE, .int .i64 AC] := by rw [hn]; rfl
  rw [harr]
  have hb := h.addBox #[.int .i64 AK, .int .i64 AR, .int .i64 AN, .int .i64 AB, .int .u64 AV, .slice XA n xc, .int .i64 AE, .int .i64 AC] 47
  have hx0 := heap_alloc_new W (.cells #[.int .i64 AK, .int .i64 AR, .int .i64 AN, .int .i64 AB, .int .u64 AV, .slice XA n xc, .int .i64 AE, .int .i64 AC] 47)
  obtain ⟨W0, hW0⟩ : ∃ W0, W0 = W.alloc (.cells #[.int .i64 AK, .int .i64 AR, .int .i64 AN, .int .i64 AB, .int .u64 AV, .slice XA n xc, .int .i64 AE, .int .i64 AC] 47) := ⟨_, rfl⟩
  rw [← hW0] at hb hx0
  have HW := Lib.hid hW0
  clear hW0
  have hab0 : W.heap.size = W.heap.size := rfl
  obtain ⟨ab, hab⟩ : ∃ ab, ab = W.heap.size := ⟨_, rfl⟩
  have HAB := Lib.hid hab
  rw [← hab] at hb hx0
  have HI0 : Hid ((l ++ [(It.box ab #[.int .i64 AK, .int .i64 AR, .int .i64 AN, .int .i64 AB, .int .u64 AV, .slice XA n xc, .int .i64 AE, .int .i64 AC] 47)])[i]? = some (.sp sb S)) := Lib.hid (by rw [List.getElem?_append_left hil]; exact hi)
  have HJ0 : Hid ((l ++ [(It.box ab #[.int .i64 AK, .int .i64 AR, .int .i64 AN, .int .i64 AB, .int .u64 AV, .slice XA n xc, .int .i64 AE, .int .i64 AC] 47)])[j]? = some (.rs rb S)) := Lib.hid (by rw [List.getElem?_append_left hjl]; exact hj)
  have HJ1 : Hid (∀ x, ((l ++ [(It.box ab #[.int .i64 AK, .int .i64 AR, .int .i64 AN, .int .i64 AB, .int .u64 AV, .slice XA n xc, .int .i64 AE, .int .i64 AC] 47)]).set i x)[j]? = some (.rs rb S)) := Lib.hid (fun x => by rw [List.getElem?_set_ne hij]; exact HJ0.out)
  have HI1 : Hid (∀ x, ((l ++ [(It.box ab #[.int .i64 AK, .int .i64 AR, .int .i64 AN, .int .i64 AB, .int .u64 AV, .slice XA n xc, .int .i64 AE, .int .i64 AC] 47)]).set i x)[i]? = some x) := Lib.hid (fun x => by rw [List.getElem?_set_self (by simp; omega)])
  have HB0 : Hid ((l ++ [(It.box ab #[.int .i64 AK, .int .i64 AR, .int .i64 AN, .int .i64 AB, .int .u64 AV, .slice XA n xc, .int .i64 AE, .int .i64 AC] 47)])[l.length]? = some (It.box ab #[.int .i64 AK, .int .i64 AR, .int .i64 AN, .int .i64 AB, .int .u64 AV, .slice XA n xc, .int .i64 AE, .int .i64 AC] 47)) := Lib.hid (by simp)
  have HB1 : Hid (∀ x, ((l ++ [(It.box ab #[.int .i64 AK, .int .i64 AR, .int .i64 AN, .int .i64 AB, .int .u64 AV, .slice XA n xc, .int .i64 AE, .int .i64 AC] 47)]).set i x)[l.length]? = some (It.box ab #[.int .i64 AK, .int .i64 AR, .int .i64 AN, .int .i64 AB, .int .u64 AV, .slice XA n xc, .int .i64 AE, .int .i64 AC] 47)) := Lib.hid (fun x => by rw [List.getElem?_set_ne (by omega)]; simp)
  have HB2 : Hid (∀ x y, (((l ++ [(It.box ab #[.int .i64 AK, .int .i64 AR, .int .i64 AN, .int .i64 AB, .int .u64 AV, .slice XA n xc, .int .i64 AE, .int .i64 AC] 47)]).set i x).set j y)[l.length]? = some (It.box ab #[.int .i64 AK, .int .i64 AR, .int .i64 AN, .int .i64 AB, .int .u64 AV, .slice XA n xc, .int .i64 AE, .int .i64 AC] 47)) := Lib.hid (fun x y => by rw [List.getElem?_set_ne (by omega), List.getElem?_set_ne (by omega)]; simp)
  have HBD := Lib.hid (hb.grow (Below.refl W0.heap.size W0).drew)
  have HB := Lib.hid hb
  have HL := Lib.hid (And.intro hil hjl)
  obtain ⟨c0, c1, c2, c3, c4, c5, c6, c7⟩ := cells8 hx0
  have K0 : Hid ((fun V => V.cell? ⟨ab, 0, none⟩ = some (.int .i64 AK) ∧ V.cell? ⟨ab, 1, none⟩ = some (.int .i64 AR) ∧ V.cell? ⟨ab, 2, none⟩ = some (.int .i64 AN) ∧ V.cell? ⟨ab, 3, none⟩ = some (.int .i64 AB) ∧ V.cell? ⟨ab, 4, none⟩ = some (.int .u64 AV) ∧ V.cell? ⟨ab, 5, none⟩ = some (.slice XA n xc) ∧ V.cell? ⟨ab, 6, none⟩ = some (.int .i64 AE) ∧ V.cell? ⟨ab, 7, none⟩ = some (.int .i64 AC)) W0.drew) := Lib.hid (cells8 (HBD.out.boxAt HB0.out))
  have HC := Lib.hid (sp_putb HBD.out HI0.out hf AN)
  have HAR := Lib.hid (And.intro ar (And.intro an (And.intro abk av)))
  have hq : (S.refE == S.refE) = true := by simp
  have HFE := Lib.hid hf
  subst hk
  clear h hi hj hij hb hil hjl hx0 ak ar an abk av ax ax0 aa ae harr hn hf hin hab0 hab
  go_enter Tryz.func23, Tryz.ntmps23
  go_upto_region 25 with (rw [← HW.out, ← HAB.out])
  go_region_held3 (fun V => V.cell? ⟨ab, 0, none⟩ = some (.int .i64 9) ∧ V.cell? ⟨ab, 1, none⟩ = some (.int .i64 AR) ∧ V.cell? ⟨ab, 2, none⟩ = some (.int .i64 AN) ∧ V.cell? ⟨ab, 3, none⟩ = some (.int .i64 AB) ∧ V.cell? ⟨ab, 4, none⟩ = some (.int .u64 AV) ∧ V.cell? ⟨ab, 5, none⟩ = some (.slice XA n xc) ∧ V.cell? ⟨ab, 6, none⟩ = some (.int .i64 AE) ∧ V.cell? ⟨ab, 7, none⟩ = some (.int .i64 AC))
    (first | with_reducible exact K2.out | with_reducible exact K1.out | with_reducible exact K0.out | go_keep)
    (first
      | (go_at_call 42; (with_reducible refine HC.out.mono ?_); rintro e w1 ⟨rfl, hs⟩; have HS1 := Lib.hid hs; have HC2 := Lib.hid (rs_putb hs (HJ1.out _) HFE.out AN); have K1 : Hid ((fun V => V.cell? ⟨ab, 0, none⟩ = some (.int .i64 9) ∧ V.cell? ⟨ab, 1, none⟩ = some (.int .i64 AR) ∧ V.cell? ⟨ab, 2, none⟩ = some (.int .i64 AN) ∧ V.cell? ⟨ab, 3, none⟩ = some (.int .i64 AB) ∧ V.cell? ⟨ab, 4, none⟩ = some (.int .u64 AV) ∧ V.cell? ⟨ab, 5, none⟩ = some (.slice XA n xc) ∧ V.cell? ⟨ab, 6, none⟩ = some (.int .i64 AE) ∧ V.cell? ⟨ab, 7, none⟩ = some (.int .i64 AC)) w1) := Lib.hid (cells8 (hs.boxAt (HB1.out _))); clear hs)
      | (go_at_call 92; (with_reducible refine HC2.out.mono ?_); rintro e w2 ⟨rfl, hs⟩; have HS2 := Lib.hid hs; have K2 : Hid ((fun V => V.cell? ⟨ab, 0, none⟩ = some (.int .i64 9) ∧ V.cell? ⟨ab, 1, none⟩ = some (.int .i64 AR) ∧ V.cell? ⟨ab, 2, none⟩ = some (.int .i64 AN) ∧ V.cell? ⟨ab, 3, none⟩ = some (.int .i64 AB) ∧ V.cell? ⟨ab, 4, none⟩ = some (.int .u64 AV) ∧ V.cell? ⟨ab, 5, none⟩ = some (.slice XA n xc) ∧ V.cell? ⟨ab, 6, none⟩ = some (.int .i64 AE) ∧ V.cell? ⟨ab, 7, none⟩ = some (.int .i64 AC)) w2) := Lib.hid (cells8 (hs.boxAt (HB2.out _ _))); clear hs))
  all_goals
    go_wp2
    go_ret
    exact ⟨rfl, HS2.out.drop2 HL.out.1 HL.out.2 _ _⟩
end
end Go.Proofs.YtkfdgpgildanbaaGreat
