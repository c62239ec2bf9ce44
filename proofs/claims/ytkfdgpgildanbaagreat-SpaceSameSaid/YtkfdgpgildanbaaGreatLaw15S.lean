import Derived.Test.YtkfdgpgildanbaaGreatSame15G
import Derived.Test.YtkfdgpgildanbaaGreatRSame26
import Derived.Test.YtkfdgpgildanbaaGreatRSp15I
import Derived.Test.YtkfdgpgildanbaaGreatSp15Q
import Derived.Test.YtkfdgpgildanbaaGreatBack15
import Derived.Test.YtkfdgpgildanbaaGreatKit08B
namespace Go.Proofs.YtkfdgpgildanbaaGreat
open Go.RowKit Go.Shelf
set_option linter.unusedVariables false
set_option linter.unusedSimpArgs false
section
variable {w : World} {data inp : List Int} {fs : List FunV} {l k : List ActS} {DA FA IA LA KA : Option Addr} {dc fc ic lc kc : Nat}
set_option maxRecDepth 100000
set_option maxHeartbeats 16000000
structure SameIn (w : World) (data inp : List Int) (fs : List FunV) (l k : List ActS) (DA FA IA LA KA : Option Addr) (dc fc ic lc kc : Nat) : Prop where
  dat : IsBytes w w.heap.size (.slice DA data.length dc) data
  funs : IsFuns w w.heap.size (.slice FA fs.length fc) fs
  inp : IsBytes w w.heap.size (.slice IA inp.length ic) inp
  acts : IsActS w w.heap.size (.slice LA l.length lc) l
  more : IsActS w w.heap.size (.slice KA k.length kc) k
theorem eql_nilR15s (a : Addr) (w : World) : (binOp .eql 36 (.pointer (some a)) (.pointer none)).run Tryz.prog w = .ok (.bool false) w := by
  go_simp
theorem actS_inp15s (S : SpV) (A : ActS) : (S.actS A).inp = S.inp := by
  unfold SpV.actS
  (repeat' split) <;> simp only [SpV.setS, SpV.goS, SpV.burnS, SpV.callS, SpV.retS, SpV.stopS, SpV.getbS, SpV.putbS, SpV.memS, SpV.backS] <;> (repeat' split) <;> simp
theorem same15_none (h : SameIn w data inp fs l k DA FA IA LA KA dc fc ic lc kc) (mm : Int) (hm : InI mm) (hl : longM ⟨data, fs⟩ = true ∨ 100 < inp.length ∨ longS l = true ∨ longS k = true) :
    Calls Tryz.prog 4 #[.agg #[.slice DA data.length dc, .slice FA fs.length fc], .int .i64 mm, .slice IA inp.length ic, .slice LA l.length lc, .slice KA k.length kc] w (Makes w (.bool true)) := by
  have HD := Lib.hid h.dat
  have HF := Lib.hid h.funs
  have HI := Lib.hid h.inp
  have HLA := Lib.hid h.acts
  have HKA := Lib.hid h.more
  obtain ⟨dn, hdn⟩ : ∃ dn, dn = data.length := ⟨_, rfl⟩
  obtain ⟨fn, hfn⟩ : ∃ fn, fn = fs.length := ⟨_, rfl⟩
  obtain ⟨ln, hln⟩ : ∃ ln, ln = l.length := ⟨_, rfl⟩
  obtain ⟨kn, hkn⟩ : ∃ kn, kn = k.length := ⟨_, rfl⟩
  obtain ⟨jn, hjn⟩ : ∃ jn, jn = inp.length := ⟨_, rfl⟩
  have hfl := h.funs.1
  have hll := h.acts.1
  have hkl := h.more.1
  have hil := h.inp.2.1
  unfold maxLen at hfl hll hkl hil
  rw [← hdn] at HD ⊢
  rw [← hfn] at HF hfl ⊢
  rw [← hln] at HLA hll ⊢
  rw [← hkn] at HKA hkl ⊢
  rw [← hjn] at HI hil hl ⊢
  have HLG : Hid (∀ W, Below w.heap.size w W → Calls Tryz.prog 10 #[.agg #[.slice DA dn dc, .slice FA fn fc]] W (Makes W (.bool (longM ⟨data, fs⟩)))) := Lib.hid (fun W hb => longModule_any _ _ _ _ W (HD.out.grow hb) (HF.out.grow hb))
  have HLL : Hid (∀ W, Below w.heap.size w W → Calls Tryz.prog 11 #[.slice LA ln lc] W (fun e w' => e = .returned (.bool (longS l)) ∧ W = w')) := Lib.hid (fun W hb => longS_any _ _ W _ (HLA.out.below hb (Nat.le_refl _) (Nat.le_refl _)))
  have HLK : Hid (∀ W, Below w.heap.size w W → Calls Tryz.prog 11 #[.slice KA kn kc] W (fun e w' => e = .returned (.bool (longS k)) ∧ W = w')) := Lib.hid (fun W hb => longS_any _ _ W _ (HKA.out.below hb (Nat.le_refl _) (Nat.le_refl _)))
  have hs0 : Spaces w w.heap.size (w.alloc (.cells #[.slice DA dn dc, .slice FA fn fc] 25)) [.box w.heap.size #[.slice DA dn dc, .slice FA fn fc] 25] := (sp_nilSt w).addBox #[.slice DA dn dc, .slice FA fn fc] 25
  obtain ⟨W0, hW0⟩ : ∃ W0, W0 = w.alloc (.cells #[.slice DA dn dc, .slice FA fn fc] 25) := ⟨_, rfl⟩
  rw [← hW0] at hs0
  have HW := Lib.hid hW0
  have S0 := Lib.hid hs0
  have HP := Lib.hid (fun W => pk_any mm 62 W (by decide) (by decide))
  have hpk := pk_bd mm (n := 62) (by decide)
  obtain ⟨pk, hpe⟩ : ∃ pk, pk = pkV mm 62 := ⟨_, rfl⟩
  rw [← hpe] at HP hpk
  generalize hlg : longM ⟨data, fs⟩ = lg at *
  generalize hlb : longS l = lb at *
  generalize hla : longS k = la at *
  clear h hs0 hW0 hpe hlg hlb hla hdn hfn hln hkn hjn hm HD HF HLA HKA HI
  cases lg
  · by_cases hj : 100 < jn
    · have hjI : decide ((100 : Int) < (jn : Int)) = true := by simp; omega
      clear hl hj
      go_enter Tryz.func4, Tryz.ntmps4
      obtain ⟨b0, b1⟩ := cells2_14 (S0.out.boxAt (i := 0) rfl)
      go_wp2_with (first
        | (rw [← HW.out])
        | (go_at_call 25; (with_reducible refine (HP.out _).mono ?_); rintro e w' ⟨rfl, rfl⟩)
        | (go_at_call 10; (with_reducible refine (HLG.out _ S0.out.bel).mono ?_); rintro e w2 ⟨rfl, hb⟩; have S2 := Lib.hid (S0.out.grow hb); obtain ⟨b0, b1⟩ := cells2_14 (S2.out.boxAt (i := 0) rfl); clear hb)
        | (go_at_call 11; (with_reducible refine (HLL.out _ S2.out.bel).mono ?_); rintro e w' ⟨rfl, rfl⟩)
        | (go_at_call 11; (with_reducible refine (HLK.out _ S2.out.bel).mono ?_); rintro e w' ⟨rfl, rfl⟩)
        | (go_at_call 12; (with_reducible refine (awake15 _).mono ?_); rintro e w9 ⟨rfl, hb⟩; have B9 := Lib.hid (S2.out.bel.trans (hb.mono S2.out.bel.size)); clear hb))
      go_ret
      exact ⟨rfl, B9.out⟩
    · have hjI : decide ((100 : Int) < (jn : Int)) = false := by simp; omega
      cases lb
      · cases la
        · exfalso
          rcases hl with c | c | c | c
          · cases c
          · exact hj c
          · cases c
          · cases c
        · clear hl hj
          go_enter Tryz.func4, Tryz.ntmps4
          obtain ⟨b0, b1⟩ := cells2_14 (S0.out.boxAt (i := 0) rfl)
          go_wp2_with (first
            | (rw [← HW.out])
            | (go_at_call 25; (with_reducible refine (HP.out _).mono ?_); rintro e w' ⟨rfl, rfl⟩)
            | (go_at_call 10; (with_reducible refine (HLG.out _ S0.out.bel).mono ?_); rintro e w2 ⟨rfl, hb⟩; have S2 := Lib.hid (S0.out.grow hb); obtain ⟨b0, b1⟩ := cells2_14 (S2.out.boxAt (i := 0) rfl); clear hb)
            | (go_at_call 11; (with_reducible refine (HLL.out _ S2.out.bel).mono ?_); rintro e w' ⟨rfl, rfl⟩)
            | (go_at_call 11; (with_reducible refine (HLK.out _ S2.out.bel).mono ?_); rintro e w' ⟨rfl, rfl⟩)
            | (go_at_call 12; (with_reducible refine (awake15 _).mono ?_); rintro e w9 ⟨rfl, hb⟩; have B9 := Lib.hid (S2.out.bel.trans (hb.mono S2.out.bel.size)); clear hb))
          go_ret
          exact ⟨rfl, B9.out⟩
      · clear hl hj
        go_enter Tryz.func4, Tryz.ntmps4
        obtain ⟨b0, b1⟩ := cells2_14 (S0.out.boxAt (i := 0) rfl)
        go_wp2_with (first
          | (rw [← HW.out])
          | (go_at_call 25; (with_reducible refine (HP.out _).mono ?_); rintro e w' ⟨rfl, rfl⟩)
          | (go_at_call 10; (with_reducible refine (HLG.out _ S0.out.bel).mono ?_); rintro e w2 ⟨rfl, hb⟩; have S2 := Lib.hid (S0.out.grow hb); obtain ⟨b0, b1⟩ := cells2_14 (S2.out.boxAt (i := 0) rfl); clear hb)
          | (go_at_call 11; (with_reducible refine (HLL.out _ S2.out.bel).mono ?_); rintro e w' ⟨rfl, rfl⟩)
          | (go_at_call 11; (with_reducible refine (HLK.out _ S2.out.bel).mono ?_); rintro e w' ⟨rfl, rfl⟩)
          | (go_at_call 12; (with_reducible refine (awake15 _).mono ?_); rintro e w9 ⟨rfl, hb⟩; have B9 := Lib.hid (S2.out.bel.trans (hb.mono S2.out.bel.size)); clear hb))
        go_ret
        exact ⟨rfl, B9.out⟩
  · clear hl
    go_enter Tryz.func4, Tryz.ntmps4
    obtain ⟨b0, b1⟩ := cells2_14 (S0.out.boxAt (i := 0) rfl)
    go_wp2_with (first
      | (rw [← HW.out])
      | (go_at_call 25; (with_reducible refine (HP.out _).mono ?_); rintro e w' ⟨rfl, rfl⟩)
      | (go_at_call 10; (with_reducible refine (HLG.out _ S0.out.bel).mono ?_); rintro e w2 ⟨rfl, hb⟩; have S2 := Lib.hid (S0.out.grow hb); obtain ⟨b0, b1⟩ := cells2_14 (S2.out.boxAt (i := 0) rfl); clear hb)
      | (go_at_call 11; (with_reducible refine (HLL.out _ S2.out.bel).mono ?_); rintro e w' ⟨rfl, rfl⟩)
      | (go_at_call 11; (with_reducible refine (HLK.out _ S2.out.bel).mono ?_); rintro e w' ⟨rfl, rfl⟩)
      | (go_at_call 12; (with_reducible refine (awake15 _).mono ?_); rintro e w9 ⟨rfl, hb⟩; have B9 := Lib.hid (S2.out.bel.trans (hb.mono S2.out.bel.size)); clear hb))
    go_ret
    exact ⟨rfl, B9.out⟩
theorem same15_main (h : SameIn w data inp fs l k DA FA IA LA KA dc fc ic lc kc) (mm : Int) (hm : InI mm) (hlong : longM ⟨data, fs⟩ = false) (hl : inp.length ≤ 100) (hl1 : longS l = false) (hl2 : longS k = false) :
    Calls Tryz.prog 4 #[.agg #[.slice DA data.length dc, .slice FA fs.length fc], .int .i64 mm, .slice IA inp.length ic, .slice LA l.length lc, .slice KA k.length kc] w (Makes w (.bool true)) := by
  obtain ⟨g1, g2, g3⟩ := long_few hlong
  simp only at g1 g2 g3
  have HCL := Lib.hid (fun f hf => (⟨Nat.le_trans (g3 f hf).1 (by decide), fun y hy => Nat.le_trans ((g3 f hf).2 y hy) (by decide)⟩ : f.code.length ≤ 1000000 ∧ ∀ y ∈ f.code, y.args.length ≤ 1000000))
  have HC1 : Hid (∀ f ∈ fs, f.code.length ≤ 1000) := Lib.hid (fun f hf => Nat.le_trans (g3 f hf).1 (by decide))
  have hl50 := (longS_false hl1).1
  have HL20 := Lib.hid (longS_false hl1).2
  have hk50 := (longS_false hl2).1
  have HK20 := Lib.hid (longS_false hl2).2
  clear g3
  have HD := Lib.hid h.dat
  have HF := Lib.hid h.funs
  have HI := Lib.hid h.inp
  have HLA := Lib.hid h.acts
  have HKA := Lib.hid h.more
  obtain ⟨dn, hdn⟩ : ∃ dn, dn = data.length := ⟨_, rfl⟩
  obtain ⟨fn, hfn⟩ : ∃ fn, fn = fs.length := ⟨_, rfl⟩
  obtain ⟨ln, hln⟩ : ∃ ln, ln = l.length := ⟨_, rfl⟩
  obtain ⟨kn, hkn⟩ : ∃ kn, kn = k.length := ⟨_, rfl⟩
  obtain ⟨jn, hjn⟩ : ∃ jn, jn = inp.length := ⟨_, rfl⟩
  have hfl := h.funs.1
  have hll := h.acts.1
  have hkl := h.more.1
  have hil := h.inp.2.1
  unfold maxLen at hfl hll hkl hil
  rw [← hdn] at HD ⊢
  rw [← hfn] at HF hfl ⊢
  rw [← hln] at HLA hll ⊢
  rw [← hkn] at HKA hkl ⊢
  rw [← hjn] at HI hil hl ⊢
  have HLG : Hid (∀ W, Below w.heap.size w W → Calls Tryz.prog 10 #[.agg #[.slice DA dn dc, .slice FA fn fc]] W (Makes W (.bool (longM ⟨data, fs⟩)))) := Lib.hid (fun W hb => longModule_any _ _ _ _ W (HD.out.grow hb) (HF.out.grow hb))
  have HLL : Hid (∀ W, Below w.heap.size w W → Calls Tryz.prog 11 #[.slice LA ln lc] W (fun e w' => e = .returned (.bool (longS l)) ∧ W = w')) := Lib.hid (fun W hb => longS_any _ _ W _ (HLA.out.below hb (Nat.le_refl _) (Nat.le_refl _)))
  have HLK : Hid (∀ W, Below w.heap.size w W → Calls Tryz.prog 11 #[.slice KA kn kc] W (fun e w' => e = .returned (.bool (longS k)) ∧ W = w')) := Lib.hid (fun W hb => longS_any _ _ W _ (HKA.out.below hb (Nat.le_refl _) (Nat.le_refl _)))
  have hs0 : Spaces w w.heap.size (w.alloc (.cells #[.slice DA dn dc, .slice FA fn fc] 25)) [.box w.heap.size #[.slice DA dn dc, .slice FA fn fc] 25] := (sp_nilSt w).addBox #[.slice DA dn dc, .slice FA fn fc] 25
  obtain ⟨W0, hW0⟩ : ∃ W0, W0 = w.alloc (.cells #[.slice DA dn dc, .slice FA fn fc] 25) := ⟨_, rfl⟩
  rw [← hW0] at hs0
  have HW := Lib.hid hW0
  have S0 := Lib.hid hs0
  have HP := Lib.hid (fun W => pk_any mm 62 W (by decide) (by decide))
  have hpk := pk_bd mm (n := 62) (by decide)
  obtain ⟨pk, hpe⟩ : ∃ pk : Nat, pkV mm 62 = (pk : Int) := ⟨(pkV mm 62).toNat, by omega⟩
  rw [hpe] at HP hpk
  rw [hlong] at HLG
  rw [hl1] at HLL
  rw [hl2] at HLK
  rw [← hdn] at g1
  rw [← hfn] at g2
  rw [← hln] at hl50
  rw [← hkn] at hk50
  obtain ⟨m, hme⟩ : ∃ m : ModV, m = ⟨data, fs⟩ := ⟨_, rfl⟩
  have hj := hl
  obtain ⟨nn, hnn⟩ : ∃ nn : Int, nn = (16 * (1 + (pk : Int))) := ⟨_, rfl⟩
  have HN1 : Hid (∀ W L, Spaces w w.heap.size W L → Calls Tryz.prog 15 #[.agg #[.slice DA dn dc, .slice FA fn fc], .int .i64 (16 * (1 + (pk : Int))), .slice IA jn ic, .int .i64 20] W (NewSps w w.heap.size W L m nn inp 20)) := Lib.hid (fun W L hs => by
    rw [hme, hnn]
    exact sp_new hs _ _ _ data inp fs _ 20 (HD.out.grow hs.bel) (HF.out.grow hs.bel) (HI.out.grow hs.bel) (by unfold InI; omega) (by unfold InI; simp) (by rw [← hjn]; omega) HCL.out)
  have HN2 : Hid (∀ W L, Spaces w w.heap.size W L → Calls Tryz.prog 16 #[.agg #[.slice DA dn dc, .slice FA fn fc], .int .i64 (16 * (1 + (pk : Int))), .slice IA jn ic, .int .i64 20] W (RNewSps w w.heap.size W L m nn inp 20)) := Lib.hid (fun W L hs => by
    rw [hme, hnn]
    exact rs_new hs _ _ _ data inp fs _ 20 (HD.out.below hs.bel (Nat.le_refl _)) (HF.out.below hs.bel (Nat.le_refl _) (Nat.le_refl _)) (HI.out.grow hs.bel) (by rw [← hjn]; omega) HC1.out (by unfold InI; omega))
  have HN := Lib.hid (And.intro hln hkn)
  have HJ := Lib.hid (show inp.length ≤ 100 by rw [← hjn]; exact hj)
  have hjI : decide ((100 : Int) < (jn : Int)) = false := by simp; omega
  have hni := eql_nil15
  have hnr := eql_nilR15s
  have hnot := not15
  clear h hs0 hW0 hpe hdn hfn hln hkn hjn hm HD HF HI HCL hme hlong hl1 hl2 hl hj hnn
  by_cases hE : newE15 m nn 20 = 0
  · have HE := Lib.hid hE
    clear hE
    go_enter Tryz.func4, Tryz.ntmps4
    obtain ⟨b0, b1⟩ := cells2_14 (S0.out.boxAt (i := 0) rfl)
    go_wp2_with (first
      | (rw [← HW.out])
      | (go_at_call 25; (with_reducible refine (HP.out _).mono ?_); rintro e w' ⟨rfl, rfl⟩)
      | (go_at_call 10; (with_reducible refine (HLG.out _ S0.out.bel).mono ?_); rintro e w2 ⟨rfl, hb⟩; have S2 := Lib.hid (S0.out.grow hb); obtain ⟨b0, b1⟩ := cells2_14 (S2.out.boxAt (i := 0) rfl); clear hb)
      | (go_at_call 11; (with_reducible refine (HLL.out _ S2.out.bel).mono ?_); rintro e w' ⟨rfl, rfl⟩)
      | (go_at_call 11; (with_reducible refine (HLK.out _ S2.out.bel).mono ?_); rintro e w' ⟨rfl, rfl⟩)
      | (go_at_call 15; (with_reducible refine (HN1.out _ _ S2.out).mono ?_); rintro e w4 hn; obtain ⟨sb, rfl, hs⟩ := (hn.2.resolve_left (fun q => q.1 HE.out)).2; have S4 := Lib.hid (show Spaces w w.heap.size w4 [.box w.heap.size #[.slice DA dn dc, .slice FA fn fc] 25, .sp sb (newS m nn.toNat inp 20)] from hs); obtain ⟨b0, b1⟩ := cells2_14 (S4.out.boxAt (i := 0) rfl); clear hn hs)
      | (go_at_call 15; (with_reducible refine (HN1.out _ _ S4.out).mono ?_); rintro e w5 hn; obtain ⟨tb, rfl, hs⟩ := (hn.2.resolve_left (fun q => q.1 HE.out)).2; have S5 := Lib.hid (show Spaces w w.heap.size w5 [.box w.heap.size #[.slice DA dn dc, .slice FA fn fc] 25, .sp sb (newS m nn.toNat inp 20), .sp tb (newS m nn.toNat inp 20)] from hs); obtain ⟨b0, b1⟩ := cells2_14 (S5.out.boxAt (i := 0) rfl); clear hn hs)
      | (go_at_call 16; (with_reducible refine (HN2.out _ _ S5.out).mono ?_); rintro e w6 hn; obtain ⟨rb, rfl, hs⟩ := (hn.2.resolve_left (fun q => q.1 HE.out)).2; have S6 := Lib.hid (show Spaces w w.heap.size w6 [.box w.heap.size #[.slice DA dn dc, .slice FA fn fc] 25, .sp sb (newS m nn.toNat inp 20), .sp tb (newS m nn.toNat inp 20), .rs rb (newS m nn.toNat inp 20)] from hs); obtain ⟨b0, b1⟩ := cells2_14 (S6.out.boxAt (i := 0) rfl); clear hn hs)
      | (go_at_call 16; (with_reducible refine (HN2.out _ _ S6.out).mono ?_); rintro e w7 hn; obtain ⟨qb, rfl, hs⟩ := (hn.2.resolve_left (fun q => q.1 HE.out)).2; have S7 := Lib.hid (show Spaces w w.heap.size w7 [.box w.heap.size #[.slice DA dn dc, .slice FA fn fc] 25, .sp sb (newS m nn.toNat inp 20), .sp tb (newS m nn.toNat inp 20), .rs rb (newS m nn.toNat inp 20), .rs qb (newS m nn.toNat inp 20)] from hs); clear hn hs))
    clear b0 b1 S0 S2 S4 S5 S6
    obtain ⟨T, hT⟩ : ∃ T, T = newS m nn.toNat inp 20 := ⟨_, rfl⟩
    rw [← hT] at S7
    have HT0 : Hid (T.done = [] ∧ T.inp = inp ∧ T.m = m) := Lib.hid (by rw [hT]; unfold newS new0; split <;> exact ⟨rfl, rfl, rfl⟩)
    have S8 := Lib.hid (show Spaces w w.heap.size w7 [.box w.heap.size #[.slice DA dn dc, .slice FA fn fc] 25, .sp sb T, .sp tb T, .rs rb T, .rs qb T] from S7.out)
    clear hT hpk S7 HP HLG HLL HLK HN1 HN2 HW hfl hjI HE
    go_loopw [19] (fun v19 wr => ∃ (i : Nat) (S : SpV), v19 = .int .i64 i ∧ i ≤ ln ∧ Hid (Spaces w w.heap.size wr [.box w.heap.size #[.slice DA dn dc, .slice FA fn fc] 25, .sp sb S, .sp tb T, .rs rb S, .rs qb T] ∧ S.done.length ≤ i ∧ S.inp = inp ∧ S.m = m)) (fun v19 _ => ln - (intOf v19).toNat)
    case atStart => exact ⟨0, T, rfl, by omega, Lib.hid ⟨S8.out, by rw [HT0.out.1]; simp, HT0.out.2⟩⟩
    case round =>
      obtain ⟨i, S, rfl, hi, HH⟩ := hrel
      clear S8
      by_cases hlt : i < ln
      · obtain ⟨lb, lof, rfl, hlc, hlb, K, R, N, Bk, Vv, X, xn, c, xs, E, C, hA, hok, hcell⟩ := act_at15 HLA.out HN.out.1 hlt
        obtain ⟨c0, c1, c2, c3, c4, c5, c6, c7⟩ := hcell wr HH.out.1.bel
        have hxl : xs.length ≤ 20 := by
          have h1 := HL20.out (l.getD i .zero) (by
            rw [List.getD_eq_getElem?_getD, List.getElem?_eq_getElem (by rw [← HN.out.1]; exact hlt)]
            exact List.getElem_mem _)
          rw [hA] at h1
          exact h1
        rw [hA] at hok
        have hact := does15 HH.out.1 (i := 1) (j := 3) rfl rfl (by decide) (by have := HH.out.2.1; omega) (by rw [HH.out.2.2.1]; have := HJ.out; omega) _ hok hxl
        have HKP := Lib.hid (And.intro (actS_keep S ⟨K, R, N, Bk, Vv, .slice X xn c, xs, E, C⟩) (actS_inp15s S ⟨K, R, N, Bk, Vv, .slice X xn c, xs, E, C⟩))
        obtain ⟨U, hU⟩ : ∃ U, U = S.actS ⟨K, R, N, Bk, Vv, .slice X xn c, xs, E, C⟩ := ⟨_, rfl⟩
        rw [← hU] at hact HKP
        have HACT : Hid (Calls Tryz.prog 23 #[.pointer (some ⟨sb, 0, none⟩), .pointer (some ⟨rb, 0, none⟩), .agg #[.int .i64 K, .int .i64 R, .int .i64 N, .int .i64 Bk, .int .u64 Vv, .slice X xn c, .int .i64 E, .int .i64 C]] wr (SpsDone w w.heap.size [.box w.heap.size #[.slice DA dn dc, .slice FA fn fc] 25, .sp sb U, .sp tb T, .rs rb U, .rs qb T] (.bool true))) := Lib.hid hact
        have hltI : (i : Int) < (ln : Int) := by omega
        clear hact hcell hok hA hlb hU hxl
        go_wp2_with (go_at_call 23; (with_reducible refine HACT.out.mono ?_); rintro e w5 ⟨rfl, hs⟩; have S5 := Lib.hid hs; clear hs)
        go_roundw
        case rel => exact ⟨i + 1, U, by go_num, by omega, Lib.hid ⟨S5.out, Nat.le_trans HKP.out.1.2.2 (by have := HH.out.2.1; omega), HKP.out.2.trans HH.out.2.2.1, HKP.out.1.1.trans HH.out.2.2.2⟩⟩
        case measure => simp [intOf]; omega
      · have hltI : ¬ (i : Int) < (ln : Int) := by omega
        have S9 := Lib.hid HH.out.1
        have HSM := Lib.hid HH.out.2.2.2
        clear HH hlt
        go_wp2
        go_loopw [20] (fun v20 wr => ∃ (j : Nat) (Z : SpV), v20 = .int .i64 j ∧ j ≤ kn ∧ Hid (Spaces w w.heap.size wr [.box w.heap.size #[.slice DA dn dc, .slice FA fn fc] 25, .sp sb S, .sp tb Z, .rs rb S, .rs qb Z] ∧ Z.done.length ≤ j ∧ Z.inp = inp ∧ Z.m = m)) (fun v20 _ => kn - (intOf v20).toNat)
        case atStart => exact ⟨0, T, rfl, by omega, Lib.hid ⟨S9.out, by rw [HT0.out.1]; simp, HT0.out.2⟩⟩
        case round =>
          obtain ⟨j, Z, rfl, hj2, HZ⟩ := hrel
          clear S9
          by_cases hlt2 : j < kn
          · obtain ⟨pb, pof, hpe, hpc, hpb, K, R, N, Bk, Vv, X, xn, c, xs, E, C, hA, hok, hcell⟩ := act_at15 HKA.out HN.out.2 hlt2
            subst hpe
            obtain ⟨c0, c1, c2, c3, c4, c5, c6, c7⟩ := hcell wr HZ.out.1.bel
            have hxl : xs.length ≤ 20 := by
              have h1 := HK20.out (k.getD j .zero) (by
                rw [List.getD_eq_getElem?_getD, List.getElem?_eq_getElem (by rw [← HN.out.2]; exact hlt2)]
                exact List.getElem_mem _)
              rw [hA] at h1
              exact h1
            rw [hA] at hok
            have hact := does15 HZ.out.1 (i := 2) (j := 4) rfl rfl (by decide) (by have := HZ.out.2.1; omega) (by rw [HZ.out.2.2.1]; have := HJ.out; omega) _ hok hxl
            have HKP := Lib.hid (And.intro (actS_keep Z ⟨K, R, N, Bk, Vv, .slice X xn c, xs, E, C⟩) (actS_inp15s Z ⟨K, R, N, Bk, Vv, .slice X xn c, xs, E, C⟩))
            obtain ⟨U, hU⟩ : ∃ U, U = Z.actS ⟨K, R, N, Bk, Vv, .slice X xn c, xs, E, C⟩ := ⟨_, rfl⟩
            rw [← hU] at hact HKP
            have HACT : Hid (Calls Tryz.prog 23 #[.pointer (some ⟨tb, 0, none⟩), .pointer (some ⟨qb, 0, none⟩), .agg #[.int .i64 K, .int .i64 R, .int .i64 N, .int .i64 Bk, .int .u64 Vv, .slice X xn c, .int .i64 E, .int .i64 C]] wr (SpsDone w w.heap.size [.box w.heap.size #[.slice DA dn dc, .slice FA fn fc] 25, .sp sb S, .sp tb U, .rs rb S, .rs qb U] (.bool true))) := Lib.hid hact
            have hltI : (j : Int) < (kn : Int) := by omega
            clear hact hcell hok hA hpb hU hxl
            go_wp2_with (go_at_call 23; (with_reducible refine HACT.out.mono ?_); rintro e w5 ⟨rfl, hs⟩; have S5 := Lib.hid hs; clear hs)
            go_roundw
            case rel => exact ⟨j + 1, U, by go_num, by omega, Lib.hid ⟨S5.out, Nat.le_trans HKP.out.1.2.2 (by have := HZ.out.2.1; omega), HKP.out.2.trans HZ.out.2.2.1, HKP.out.1.1.trans HZ.out.2.2.2⟩⟩
            case measure => simp [intOf]; omega
          · have hltI : ¬ (j : Int) < (kn : Int) := by omega
            have S9 := Lib.hid HZ.out.1
            have hmm : S.m = Z.m := HSM.out.trans HZ.out.2.2.2.symm
            have HMM := Lib.hid hmm
            clear HZ hlt2 hmm
            obtain ⟨v, hv⟩ : ∃ v, v = sameSp S Z := ⟨_, rfl⟩
            have hvv : (v == v) = true := by simp
            have HA1 := Lib.hid (sp_same_any S9.out (i := 1) (j := 2) rfl rfl)
            have HA2 : Hid (∀ W, Spaces w w.heap.size W [.box w.heap.size #[.slice DA dn dc, .slice FA fn fc] 25, .sp sb S, .sp tb Z, .rs rb S, .rs qb Z] → Calls Tryz.prog 26 #[.pointer (some ⟨rb, 0, none⟩), .pointer (some ⟨qb, 0, none⟩)] W (SpsDone w w.heap.size [.box w.heap.size #[.slice DA dn dc, .slice FA fn fc] 25, .sp sb S, .sp tb Z, .rs rb S, .rs qb Z] (.bool v))) := Lib.hid (fun W hs => by rw [hv]; exact rs_same hs (i := 3) (j := 4) rfl rfl)
            have HA3 : Hid (∀ W, Spaces w w.heap.size W [.box w.heap.size #[.slice DA dn dc, .slice FA fn fc] 25, .sp sb S, .sp tb Z, .rs rb S, .rs qb Z] → Calls Tryz.prog 21 #[.pointer (some ⟨sb, 0, none⟩), .pointer (some ⟨sb, 0, none⟩)] W (SpsDone w w.heap.size [.box w.heap.size #[.slice DA dn dc, .slice FA fn fc] 25, .sp sb S, .sp tb Z, .rs rb S, .rs qb Z] (.bool true))) := Lib.hid (fun W hs => sp_same hs (i := 1) (j := 1) rfl rfl (sameSp_self S))
            rw [← hv] at HA1
            clear hv
            go_wp2_with (first
              | (go_at_call 21; (with_reducible refine HA1.out.mono ?_); rintro e wa ⟨rfl, hs⟩; have SA := Lib.hid hs; clear hs)
              | (go_at_call 26; (with_reducible refine (HA2.out _ SA.out).mono ?_); rintro e wb ⟨rfl, hs⟩; have SB := Lib.hid hs; clear hs)
              | (go_at_call 21; (with_reducible refine (HA3.out _ SB.out).mono ?_); rintro e wc ⟨rfl, hs⟩; have SC := Lib.hid hs; clear hs)
              | (go_at_call 12; (with_reducible refine (awake15 _).mono ?_); rintro e w9 ⟨rfl, hb⟩; have B9 := Lib.hid (SC.out.bel.trans (hb.mono SC.out.bel.size)); clear hb))
            go_ret
            exact ⟨rfl, B9.out⟩
  · have HE := Lib.hid hE
    obtain ⟨xe, hxe⟩ : ∃ xe, xe = newE15 m nn 20 := ⟨_, rfl⟩
    have HXE : Hid (xe = newE15 m nn 20) := Lib.hid hxe
    have hxb : (xe != xe) = false := by simp
    clear hxe hE
    go_enter Tryz.func4, Tryz.ntmps4
    obtain ⟨b0, b1⟩ := cells2_14 (S0.out.boxAt (i := 0) rfl)
    go_wp2_with (first
      | (rw [← HW.out])
      | (go_at_call 25; (with_reducible refine (HP.out _).mono ?_); rintro e w' ⟨rfl, rfl⟩)
      | (go_at_call 10; (with_reducible refine (HLG.out _ S0.out.bel).mono ?_); rintro e w2 ⟨rfl, hb⟩; have S2 := Lib.hid (S0.out.grow hb); obtain ⟨b0, b1⟩ := cells2_14 (S2.out.boxAt (i := 0) rfl); clear hb)
      | (go_at_call 11; (with_reducible refine (HLL.out _ S2.out.bel).mono ?_); rintro e w' ⟨rfl, rfl⟩)
      | (go_at_call 11; (with_reducible refine (HLK.out _ S2.out.bel).mono ?_); rintro e w' ⟨rfl, rfl⟩)
      | (go_at_call 15; (with_reducible refine (HN1.out _ _ S2.out).mono ?_); rintro e w4 hn; have hn1 := hn.2.resolve_right (fun q => HE.out q.1); rw [← HXE.out] at hn1; obtain ⟨_, rfl, hs⟩ := hn1; have S4 := Lib.hid hs; obtain ⟨b0, b1⟩ := cells2_14 (S4.out.boxAt (i := 0) rfl); clear hn hs)
      | (go_at_call 15; (with_reducible refine (HN1.out _ _ S4.out).mono ?_); rintro e w5 hn; have hn1 := hn.2.resolve_right (fun q => HE.out q.1); rw [← HXE.out] at hn1; obtain ⟨_, rfl, hs⟩ := hn1; have S5 := Lib.hid hs; obtain ⟨b0, b1⟩ := cells2_14 (S5.out.boxAt (i := 0) rfl); clear hn hs)
      | (go_at_call 16; (with_reducible refine (HN2.out _ _ S5.out).mono ?_); rintro e w6 hn; have hn1 := hn.2.resolve_right (fun q => HE.out q.1); rw [← HXE.out] at hn1; obtain ⟨_, rfl, hs⟩ := hn1; have S6 := Lib.hid hs; obtain ⟨b0, b1⟩ := cells2_14 (S6.out.boxAt (i := 0) rfl); clear hn hs)
      | (go_at_call 16; (with_reducible refine (HN2.out _ _ S6.out).mono ?_); rintro e w7 hn; have hn1 := hn.2.resolve_right (fun q => HE.out q.1); rw [← HXE.out] at hn1; obtain ⟨_, rfl, hs⟩ := hn1; have S7 := Lib.hid hs; clear hn hs)
      | (go_at_call 12; (with_reducible refine (awake15 _).mono ?_); rintro e w9 ⟨rfl, hb⟩; have B9 := Lib.hid (S7.out.bel.trans (hb.mono S7.out.bel.size)); clear hb))
    go_ret
    exact ⟨rfl, B9.out⟩
end
theorem samelaw15 (D F IN V K : Value) (data inp : List Int) (fs : List FunV) (l k : List ActS) (w : World) (hD : IsBytes w w.heap.size D data) (hF : IsFuns w w.heap.size F fs) (hI : IsBytes w w.heap.size IN inp) (hV : IsActS w w.heap.size V l) (hK : IsActS w w.heap.size K k) (mm : Int) (hm : InI mm) :
    Calls Tryz.prog 4 #[.agg #[D, F], .int .i64 mm, IN, V, K] w (Makes w (.bool true)) := by
  obtain ⟨DA, dc, rfl⟩ := hD.len
  obtain ⟨FA, fc, rfl⟩ := hF.len
  obtain ⟨IA, ic, rfl⟩ := hI.len
  obtain ⟨LA, lc, rfl⟩ := hV.len
  obtain ⟨KA, kc, rfl⟩ := hK.len
  have h : SameIn w data inp fs l k DA FA IA LA KA dc fc ic lc kc := ⟨hD, hF, hI, hV, hK⟩
  cases h1 : longM ⟨data, fs⟩ with
  | true => exact same15_none h mm hm (.inl h1)
  | false =>
    by_cases h2 : 100 < inp.length
    · exact same15_none h mm hm (.inr (.inl h2))
    · cases h3 : longS l with
      | true => exact same15_none h mm hm (.inr (.inr (.inl h3)))
      | false => cases h4 : longS k with
        | true => exact same15_none h mm hm (.inr (.inr (.inr h4)))
        | false => exact same15_main h mm hm h1 (Nat.le_of_not_lt h2) h3 h4
end Go.Proofs.YtkfdgpgildanbaaGreat
