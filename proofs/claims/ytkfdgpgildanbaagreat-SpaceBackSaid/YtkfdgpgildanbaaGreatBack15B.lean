/- SpaceBack's call, where it is not gone through; what is laid ahead. No condition but what each names. -/
import Derived.Test.YtkfdgpgildanbaaGreatSp15R
import Derived.Test.YtkfdgpgildanbaaGreatSp15U
import Derived.Test.YtkfdgpgildanbaaGreatBack15
import Derived.Test.YtkfdgpgildanbaaGreatKit08B
import Derived.BigQuiet
import Derived.Deep.QuietTactic
namespace Go.Proofs.YtkfdgpgildanbaaGreat
open Go.RowKit Go.Shelf
set_option linter.unusedVariables false
set_option linter.unusedSimpArgs false
/-- A module's box, an act's box, a space, and more. -/
def bkL (bm bx : Nat) (cm cx : Array Value) (sb : Nat) (S : SpV) (T : List It) : List It := .box bm cm 25 :: .box bx cx 47 :: .sp sb S :: T
section
variable {w W : World} {lo bm bx sb : Nat} {cm cx : Array Value} {S : SpV} {T : List It}
theorem bk_func (h : Spaces w lo W (bkL bm bx cm cx sb S T)) : Calls Tryz.prog 31 #[.pointer (some ⟨sb, 0, none⟩)] W (SpsDone w lo (bkL bm bx cm cx sb S T) (.int .i64 S.f)) := sp_func h (i := 2) rfl
theorem bk_place (h : Spaces w lo W (bkL bm bx cm cx sb S T)) : Calls Tryz.prog 32 #[.pointer (some ⟨sb, 0, none⟩)] W (SpsDone w lo (bkL bm bx cm cx sb S T) (.int .i64 S.pc)) := sp_place h (i := 2) rfl
theorem bk_at (h : Spaces w lo W (bkL bm bx cm cx sb S T)) : Calls Tryz.prog 35 #[.pointer (some ⟨sb, 0, none⟩)] W (SpsDone w lo (bkL bm bx cm cx sb S T) (.int .u64 S.at_)) := sp_at h (i := 2) rfl
theorem bk_depth (h : Spaces w lo W (bkL bm bx cm cx sb S T)) : Calls Tryz.prog 34 #[.pointer (some ⟨sb, 0, none⟩)] W (SpsDone w lo (bkL bm bx cm cx sb S T) (.int .i64 S.links.length)) := sp_depth h (i := 2) rfl
theorem bk_memory (h : Spaces w lo W (bkL bm bx cm cx sb S T)) : Calls Tryz.prog 30 #[.pointer (some ⟨sb, 0, none⟩)] W fun e W' => ∃ mb, e = .returned (.pointer (some ⟨mb, 0, none⟩)) ∧ Spaces w lo W' (bkL bm bx cm cx sb S T) ∧ W'.cell? ⟨sb, 9, none⟩ = some (.pointer (some ⟨mb, 0, none⟩)) := sp_memory h (i := 2) rfl
theorem bk_bytes {mb : Nat} (h : Spaces w lo W (bkL bm bx cm cx sb S T)) (hc : W.cell? ⟨sb, 9, none⟩ = some (.pointer (some ⟨mb, 0, none⟩))) (a n : Int) (ha : 0 ≤ a) (ha' : a < 18446744073709551616) (hn' : n < 9223372036854775808) :
    Calls Tryz.prog 47 #[.pointer (some ⟨mb, 0, none⟩), .int .u64 a, .int .i64 n] W (BytesDone W (bytesL S.mem a n) (accE S.mem.length a n)) := sp_bytes h (i := 2) rfl hc a n ha ha' hn'
theorem bk_store {mb : Nat} (h : Spaces w lo W (bkL bm bx cm cx sb S T)) (hc : W.cell? ⟨sb, 9, none⟩ = some (.pointer (some ⟨mb, 0, none⟩))) (a n v : Int) (ha : 0 ≤ a) (ha' : a < 18446744073709551616) (hn' : n < 9223372036854775808) (hv : 0 ≤ v) (hv' : v < 18446744073709551616) :
    Calls Tryz.prog 48 #[.pointer (some ⟨mb, 0, none⟩), .int .u64 a, .int .i64 n, .int .u64 v] W (SpsDone w lo (bkL bm bx cm cx sb (S.memS a n v) T) (.int .i64 (numE S.mem.length a n))) := sp_store h (i := 2) rfl hc a n v ha ha' hn' hv hv'
theorem bk_ret (h : Spaces w lo W (bkL bm bx cm cx sb S T)) (v : Int) (hv0 : 0 ≤ v) (hv1 : v < 18446744073709551616) : Calls Tryz.prog 41 #[.pointer (some ⟨sb, 0, none⟩), .int .u64 v] W (SpsDone w lo (bkL bm bx cm cx sb (S.retS v) T) (.int .i64 S.refE)) := sp_ret h (i := 2) rfl v hv0 hv1
theorem bk_call (h : Spaces w lo W (bkL bm bx cm cx sb S T)) (f res back : Int) (A : Value) (args : List Int) (hf : InI f) (hr : InI res) (hbk : InI back) (hA : ArgsIn lo W A args) : Calls Tryz.prog 40 #[.pointer (some ⟨sb, 0, none⟩), .int .i64 f, A, .int .i64 res, .int .i64 back] W (SpsDone w lo (bkL bm bx cm cx sb (S.callS f args res back) T) (.int .i64 (S.callE f args res back))) := sp_call h (i := 2) rfl f res back A args hf hr hbk hA
theorem bk_has (h : Spaces w lo W (bkL bm bx cm cx sb S T)) (r v : Int) (hr : InI r) : Calls Tryz.prog 49 #[.pointer (some ⟨sb, 0, none⟩), .int .i64 r, .int .u64 v] W (SpsDone w lo (bkL bm bx cm cx sb S T) (.bool (decide (S.getE r = 0) && S.getV r == v))) := has15 h (i := 2) rfl r v hr
theorem bk_act (h : Spaces w lo W (bkL bm bx cm cx sb S T)) (hf : S.done.length < 100000) (A : ActS) (hA : A.ok W lo) : Calls Tryz.prog 46 #[.pointer (some ⟨sb, 0, none⟩), .agg A.arr] W (SpsDone w lo (bkL bm bx cm cx sb (S.actS A) T) (.tuple #[])) := act15 h (i := 2) rfl hf A hA
end
section
variable {w : World} {data ss : List Int} {fs : List FunV} {l : List ActS} {A : ActS} {DA FA LA SA : Option Addr} {dc fc lc sc : Nat}
set_option maxRecDepth 100000
set_option maxHeartbeats 16000000
/-- What is said in advance of all cases. -/
structure BackIn (w : World) (data ss : List Int) (fs : List FunV) (l : List ActS) (A : ActS) (DA FA LA SA : Option Addr) (dc fc lc sc : Nat) : Prop where
  dat : IsBytes w w.heap.size (.slice DA data.length dc) data
  funs : IsFuns w w.heap.size (.slice FA fs.length fc) fs
  acts : IsActS w w.heap.size (.slice LA l.length lc) l
  act : A.ok w w.heap.size
  sts : IsNums .u64 w w.heap.size (.slice SA ss.length sc) ss
  sin : ∀ x ∈ ss, 0 ≤ x ∧ x < 18446744073709551616
theorem long_one15 {w W : World} {A : ActS} (hA : A.ok w w.heap.size) (hb : Below w.heap.size w W) : Calls Tryz.prog 11 #[.slice (some ⟨W.heap.size, 0, none⟩) 1 1] (W.alloc (.cells A.arr 47)) fun e w' => e = .returned (.bool (longS [A])) ∧ (W.alloc (.cells A.arr 47)) = w' :=
  longS_any _ _ _ _ (one_act15 (hb.trans ((below_one14 W _).mono hb.size)) hA (heap_alloc_new W _) hb.size)
theorem back15_none (h : BackIn w data ss fs l A DA FA LA SA dc fc lc sc) (mm v : Int) (hm : InI mm) (hl : longM ⟨data, fs⟩ = true ∨ longS l = true ∨ longS [A] = true ∨ 20 < ss.length) :
    Calls Tryz.prog 7 #[.agg #[.slice DA data.length dc, .slice FA fs.length fc], .int .i64 mm, .slice LA l.length lc, .agg A.arr, .slice SA ss.length sc, .int .u64 v] w (Makes w (.bool true)) := by
  have HD := Lib.hid h.dat
  have HF := Lib.hid h.funs
  have HLA := Lib.hid h.acts
  have HAO := Lib.hid h.act
  obtain ⟨dn, hdn⟩ : ∃ dn, dn = data.length := ⟨_, rfl⟩
  obtain ⟨fn, hfn⟩ : ∃ fn, fn = fs.length := ⟨_, rfl⟩
  obtain ⟨ln, hln⟩ : ∃ ln, ln = l.length := ⟨_, rfl⟩
  obtain ⟨sn, hsn⟩ : ∃ sn, sn = ss.length := ⟨_, rfl⟩
  have hfl := h.funs.1
  have hll := h.acts.1
  have hsl := h.sts.1
  unfold maxLen at hfl hll hsl
  obtain ⟨XA, xc, hxe⟩ := h.act.b.len
  obtain ⟨AK, AR, AN, AB, AV, AX, AA, AE, AC⟩ := A
  simp only at hxe
  subst hxe
  obtain ⟨n, hn⟩ : ∃ n, n = AA.length := ⟨_, rfl⟩
  obtain ⟨A, hAe⟩ : ∃ A : ActS, A = ⟨AK, AR, AN, AB, AV, .slice XA AA.length xc, AA, AE, AC⟩ := ⟨_, rfl⟩
  rw [← hAe] at HAO h ⊢
  rw [← hAe] at hl
  have hAr : A.arr = #[.int .i64 AK, .int .i64 AR, .int .i64 AN, .int .i64 AB, .int .u64 AV, .slice XA n xc, .int .i64 AE, .int .i64 AC] := by rw [hAe, hn]; rfl
  rw [← hdn] at HD ⊢
  rw [← hfn] at HF hfl ⊢
  rw [← hln] at HLA hll ⊢
  rw [← hsn] at hl hsl ⊢
  have HLG : Hid (∀ W, Below w.heap.size w W → Calls Tryz.prog 10 #[.agg #[.slice DA dn dc, .slice FA fn fc]] W (Makes W (.bool (longM ⟨data, fs⟩)))) := Lib.hid (fun W hb => longModule_any _ _ _ _ W (HD.out.grow hb) (HF.out.grow hb))
  have HLL : Hid (∀ W, Below w.heap.size w W → Calls Tryz.prog 11 #[.slice LA ln lc] W (fun e w' => e = .returned (.bool (longS l)) ∧ W = w')) := Lib.hid (fun W hb => longS_any _ _ W _ (HLA.out.below hb (Nat.le_refl _) (Nat.le_refl _)))
  have HL1 : Hid (∀ W, Below w.heap.size w W → Calls Tryz.prog 11 #[.slice (some ⟨W.heap.size, 0, none⟩) 1 1] (W.alloc (.cells #[.int .i64 AK, .int .i64 AR, .int .i64 AN, .int .i64 AB, .int .u64 AV, .slice XA n xc, .int .i64 AE, .int .i64 AC] 47)) (fun e w' => e = .returned (.bool (longS [A])) ∧ (W.alloc (.cells #[.int .i64 AK, .int .i64 AR, .int .i64 AN, .int .i64 AB, .int .u64 AV, .slice XA n xc, .int .i64 AE, .int .i64 AC] 47)) = w')) := Lib.hid (fun W hb => by have := long_one15 HAO.out hb; rw [hAr] at this; exact this)
  have hs0 : Spaces w w.heap.size ((w.alloc (.cells #[.slice DA dn dc, .slice FA fn fc] 25)).alloc (.cells A.arr 47)) [.box w.heap.size #[.slice DA dn dc, .slice FA fn fc] 25, .box (w.heap.size + 1) A.arr 47] := by
    have hz := ((sp_nilSt w).addBox #[.slice DA dn dc, .slice FA fn fc] 25).addBox A.arr 47
    rw [World.size_alloc] at hz
    exact hz
  rw [hAr] at hs0 ⊢
  obtain ⟨W0, hW0⟩ : ∃ W0, W0 = (w.alloc (.cells #[.slice DA dn dc, .slice FA fn fc] 25)).alloc (.cells #[.int .i64 AK, .int .i64 AR, .int .i64 AN, .int .i64 AB, .int .u64 AV, .slice XA n xc, .int .i64 AE, .int .i64 AC] 47) := ⟨_, rfl⟩
  rw [← hW0] at hs0
  have HW := Lib.hid hW0
  have S0 := Lib.hid hs0
  have HP := Lib.hid (fun W => pk_any mm 250 W (by decide) (by decide))
  have hpk := pk_bd mm (n := 250) (by decide)
  obtain ⟨pk, hpe⟩ : ∃ pk, pk = pkV mm 250 := ⟨_, rfl⟩
  rw [← hpe] at HP hpk
  generalize hlg : longM ⟨data, fs⟩ = lg at *
  generalize hlb : longS l = lb at *
  generalize hla : longS [A] = la at *
  clear h hs0 hW0 hpe hlg hlb hla hdn hfn hln hsn hm hAe hn hAr HD HF HLA HAO
  cases lg
  · cases lb
    · cases la
      · have hsn : (20 : Int) < (sn : Int) := by rcases hl with c | c | c | c; cases c; cases c; cases c; omega
        clear hl
        go_enter Tryz.func7, Tryz.ntmps7
        go_wp2_with (first
          | (rw [← HW.out])
          | (go_at_call 6; (with_reducible refine (known15 _).mono ?_); rintro e w1 ⟨rfl, hb⟩; have S1 := Lib.hid (S0.out.grow hb); obtain ⟨b0, b1⟩ := cells2_14 (S1.out.boxAt (i := 0) rfl); obtain ⟨c0, c1, c2, c3, c4, c5, c6, c7⟩ := cells8 (S1.out.boxAt (i := 1) rfl); clear hb)
          | (go_at_call 25; (with_reducible refine (HP.out _).mono ?_); rintro e w' ⟨rfl, rfl⟩)
          | (go_at_call 10; (with_reducible refine (HLG.out _ S1.out.bel).mono ?_); rintro e w2 ⟨rfl, hb⟩; have S2 := Lib.hid (S1.out.grow hb); obtain ⟨b0, b1⟩ := cells2_14 (S2.out.boxAt (i := 0) rfl); obtain ⟨c0, c1, c2, c3, c4, c5, c6, c7⟩ := cells8 (S2.out.boxAt (i := 1) rfl); clear hb)
          | (go_at_call 11; (with_reducible refine (HLL.out _ S2.out.bel).mono ?_); rintro e w' ⟨rfl, rfl⟩)
          | (go_at_call 11; (with_reducible refine (HL1.out _ S2.out.bel).mono ?_); rintro e w' ⟨rfl, rfl⟩; have S3 := Lib.hid (S2.out.grow (below_one14 w2 (.cells #[.int .i64 AK, .int .i64 AR, .int .i64 AN, .int .i64 AB, .int .u64 AV, .slice XA n xc, .int .i64 AE, .int .i64 AC] 47)))))
        go_ret
        exact ⟨rfl, S3.out.bel⟩
      · clear hl
        go_enter Tryz.func7, Tryz.ntmps7
        go_wp2_with (first
          | (rw [← HW.out])
          | (go_at_call 6; (with_reducible refine (known15 _).mono ?_); rintro e w1 ⟨rfl, hb⟩; have S1 := Lib.hid (S0.out.grow hb); obtain ⟨b0, b1⟩ := cells2_14 (S1.out.boxAt (i := 0) rfl); obtain ⟨c0, c1, c2, c3, c4, c5, c6, c7⟩ := cells8 (S1.out.boxAt (i := 1) rfl); clear hb)
          | (go_at_call 25; (with_reducible refine (HP.out _).mono ?_); rintro e w' ⟨rfl, rfl⟩)
          | (go_at_call 10; (with_reducible refine (HLG.out _ S1.out.bel).mono ?_); rintro e w2 ⟨rfl, hb⟩; have S2 := Lib.hid (S1.out.grow hb); obtain ⟨b0, b1⟩ := cells2_14 (S2.out.boxAt (i := 0) rfl); obtain ⟨c0, c1, c2, c3, c4, c5, c6, c7⟩ := cells8 (S2.out.boxAt (i := 1) rfl); clear hb)
          | (go_at_call 11; (with_reducible refine (HLL.out _ S2.out.bel).mono ?_); rintro e w' ⟨rfl, rfl⟩)
          | (go_at_call 11; (with_reducible refine (HL1.out _ S2.out.bel).mono ?_); rintro e w' ⟨rfl, rfl⟩; have S3 := Lib.hid (S2.out.grow (below_one14 w2 (.cells #[.int .i64 AK, .int .i64 AR, .int .i64 AN, .int .i64 AB, .int .u64 AV, .slice XA n xc, .int .i64 AE, .int .i64 AC] 47)))))
        go_ret
        exact ⟨rfl, S3.out.bel⟩
    · clear hl
      go_enter Tryz.func7, Tryz.ntmps7
      go_wp2_with (first
        | (rw [← HW.out])
        | (go_at_call 6; (with_reducible refine (known15 _).mono ?_); rintro e w1 ⟨rfl, hb⟩; have S1 := Lib.hid (S0.out.grow hb); obtain ⟨b0, b1⟩ := cells2_14 (S1.out.boxAt (i := 0) rfl); obtain ⟨c0, c1, c2, c3, c4, c5, c6, c7⟩ := cells8 (S1.out.boxAt (i := 1) rfl); clear hb)
        | (go_at_call 25; (with_reducible refine (HP.out _).mono ?_); rintro e w' ⟨rfl, rfl⟩)
        | (go_at_call 10; (with_reducible refine (HLG.out _ S1.out.bel).mono ?_); rintro e w2 ⟨rfl, hb⟩; have S2 := Lib.hid (S1.out.grow hb); obtain ⟨b0, b1⟩ := cells2_14 (S2.out.boxAt (i := 0) rfl); obtain ⟨c0, c1, c2, c3, c4, c5, c6, c7⟩ := cells8 (S2.out.boxAt (i := 1) rfl); clear hb)
        | (go_at_call 11; (with_reducible refine (HLL.out _ S2.out.bel).mono ?_); rintro e w' ⟨rfl, rfl⟩)
        | (go_at_call 11; (with_reducible refine (HL1.out _ S2.out.bel).mono ?_); rintro e w' ⟨rfl, rfl⟩; have S3 := Lib.hid (S2.out.grow (below_one14 w2 (.cells #[.int .i64 AK, .int .i64 AR, .int .i64 AN, .int .i64 AB, .int .u64 AV, .slice XA n xc, .int .i64 AE, .int .i64 AC] 47)))))
      go_ret
      exact ⟨rfl, S2.out.bel⟩
  · clear hl
    go_enter Tryz.func7, Tryz.ntmps7
    go_wp2_with (first
      | (rw [← HW.out])
      | (go_at_call 6; (with_reducible refine (known15 _).mono ?_); rintro e w1 ⟨rfl, hb⟩; have S1 := Lib.hid (S0.out.grow hb); obtain ⟨b0, b1⟩ := cells2_14 (S1.out.boxAt (i := 0) rfl); obtain ⟨c0, c1, c2, c3, c4, c5, c6, c7⟩ := cells8 (S1.out.boxAt (i := 1) rfl); clear hb)
      | (go_at_call 25; (with_reducible refine (HP.out _).mono ?_); rintro e w' ⟨rfl, rfl⟩)
      | (go_at_call 10; (with_reducible refine (HLG.out _ S1.out.bel).mono ?_); rintro e w2 ⟨rfl, hb⟩; have S2 := Lib.hid (S1.out.grow hb); obtain ⟨b0, b1⟩ := cells2_14 (S2.out.boxAt (i := 0) rfl); obtain ⟨c0, c1, c2, c3, c4, c5, c6, c7⟩ := cells8 (S2.out.boxAt (i := 1) rfl); clear hb)
      | (go_at_call 11; (with_reducible refine (HLL.out _ S2.out.bel).mono ?_); rintro e w' ⟨rfl, rfl⟩)
      | (go_at_call 11; (with_reducible refine (HL1.out _ S2.out.bel).mono ?_); rintro e w' ⟨rfl, rfl⟩; have S3 := Lib.hid (S2.out.grow (below_one14 w2 (.cells #[.int .i64 AK, .int .i64 AR, .int .i64 AN, .int .i64 AB, .int .u64 AV, .slice XA n xc, .int .i64 AE, .int .i64 AC] 47)))))
    go_ret
    exact ⟨rfl, S2.out.bel⟩
end
end Go.Proofs.YtkfdgpgildanbaaGreat
