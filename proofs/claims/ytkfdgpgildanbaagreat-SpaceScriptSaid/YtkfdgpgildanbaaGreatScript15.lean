import Derived.Test.YtkfdgpgildanbaaGreatRSp15J
import Derived.Test.YtkfdgpgildanbaaGreatOver15
import Derived.Test.YtkfdgpgildanbaaGreatSame15B
import Derived.Test.YtkfdgpgildanbaaGreatSp15Q
import Derived.Test.YtkfdgpgildanbaaGreatBack15
import Derived.Test.YtkfdgpgildanbaaGreatKit08A
import Derived.Test.YtkfdgpgildanbaaGreatKit08C
namespace Go.Proofs.YtkfdgpgildanbaaGreat
open Go.RowKit Go.Shelf
set_option linter.unusedVariables false
set_option linter.unusedSimpArgs false
section
variable {w : World} {data inp : List Int} {fs : List FunV} {l : List ActS} {DA FA IA LA : Option Addr} {dc fc ic lc : Nat}
theorem actS_inp15 (S : SpV) (A : ActS) : (S.actS A).inp = S.inp := by
  unfold SpV.actS
  (repeat' split) <;> simp only [SpV.setS, SpV.goS, SpV.burnS, SpV.callS, SpV.retS, SpV.stopS, SpV.getbS, SpV.putbS, SpV.memS, SpV.backS] <;> (repeat' split) <;> simp
set_option maxRecDepth 100000
set_option maxHeartbeats 16000000
structure ScriptIn (w : World) (data inp : List Int) (fs : List FunV) (l : List ActS) (DA FA IA LA : Option Addr) (dc fc ic lc : Nat) : Prop where
  dat : IsBytes w w.heap.size (.slice DA data.length dc) data
  funs : IsFuns w w.heap.size (.slice FA fs.length fc) fs
  inp : IsBytes w w.heap.size (.slice IA inp.length ic) inp
  acts : IsActS w w.heap.size (.slice LA l.length lc) l
theorem eql_nilR15 (a : Addr) (w : World) : (binOp .eql 36 (.pointer (some a)) (.pointer none)).run Tryz.prog w = .ok (.bool false) w := by
  go_simp
theorem script15_none (h : ScriptIn w data inp fs l DA FA IA LA dc fc ic lc) (mm fuel : Int) (hl : longM ⟨data, fs⟩ = true ∨ 100 < inp.length ∨ longS l = true) :
    Calls Tryz.prog 3 #[.agg #[.slice DA data.length dc, .slice FA fs.length fc], .int .i64 mm, .slice IA inp.length ic, .int .i64 fuel, .slice LA l.length lc] w (Makes w (.bool true)) := by
  have HD := Lib.hid h.dat
  have HF := Lib.hid h.funs
  have HI := Lib.hid h.inp
  have HLA := Lib.hid h.acts
  obtain ⟨dn, hdn⟩ : ∃ dn, dn = data.length := ⟨_, rfl⟩
  obtain ⟨fn, hfn⟩ : ∃ fn, fn = fs.length := ⟨_, rfl⟩
  obtain ⟨ln, hln⟩ : ∃ ln, ln = l.length := ⟨_, rfl⟩
  obtain ⟨jn, hjn⟩ : ∃ jn, jn = inp.length := ⟨_, rfl⟩
  have hll := h.acts.1
  have hil := h.inp.2.1
  unfold maxLen at hll hil
  rw [← hdn] at HD ⊢
  rw [← hfn] at HF ⊢
  rw [← hln] at HLA hll ⊢
  rw [← hjn] at HI hil hl ⊢
  have HLG : Hid (∀ W, Below w.heap.size w W → Calls Tryz.prog 10 #[.agg #[.slice DA dn dc, .slice FA fn fc]] W (Makes W (.bool (longM ⟨data, fs⟩)))) := Lib.hid (fun W hb => longModule_any _ _ _ _ W (HD.out.grow hb) (HF.out.grow hb))
  have HLL : Hid (∀ W, Below w.heap.size w W → Calls Tryz.prog 11 #[.slice LA ln lc] W (fun e w' => e = .returned (.bool (longS l)) ∧ W = w')) := Lib.hid (fun W hb => longS_any _ _ W _ (HLA.out.below hb (Nat.le_refl _) (Nat.le_refl _)))
  have hb0 := below_one14 w (.cells #[.slice DA dn dc, .slice FA fn fc] 25)
  have hx0 := heap_alloc_new w (.cells #[.slice DA dn dc, .slice FA fn fc] 25)
  obtain ⟨W0, hW0⟩ : ∃ W0, W0 = w.alloc (.cells #[.slice DA dn dc, .slice FA fn fc] 25) := ⟨_, rfl⟩
  rw [← hW0] at hb0 hx0
  have HW := Lib.hid hW0
  have B0 := Lib.hid hb0
  have X0 := Lib.hid hx0
  obtain ⟨x0, x1⟩ := cells2_14 hx0
  generalize hlg : longM ⟨data, fs⟩ = lg at *
  generalize hlb : longS l = lb at *
  clear h hx0 hb0 hW0 hlg hlb hdn hfn hln hjn HD HF HLA HI
  cases lg
  · by_cases hj : 100 < jn
    · have hjI : decide ((100 : Int) < (jn : Int)) = true := by simp; omega
      clear hl hj
      go_enter Tryz.func3, Tryz.ntmps3
      go_wp2_with (first
        | (rw [← HW.out])
        | (go_at_call 10; (with_reducible refine (HLG.out _ B0.out).mono ?_); rintro e w1 ⟨rfl, hb⟩; have B1 := Lib.hid (B0.out.trans (hb.mono B0.out.size)); have X1 := Lib.hid ((hb.block _ (heap_lt X0.out)).trans X0.out); obtain ⟨b0, b1⟩ := cells2_14 X1.out; clear hb)
        | (go_at_call 11; (with_reducible refine (HLL.out _ B1.out).mono ?_); rintro e w' ⟨rfl, rfl⟩)
        | (go_at_call 12; (with_reducible refine (awake15 _).mono ?_); rintro e w3 ⟨rfl, hb⟩; have B3 := Lib.hid (B1.out.trans (hb.mono B1.out.size)); clear hb))
      go_ret
      exact ⟨rfl, B3.out⟩
    · have hjI : decide ((100 : Int) < (jn : Int)) = false := by simp; omega
      cases lb
      · exfalso
        rcases hl with c | c | c
        · cases c
        · exact hj c
        · cases c
      · clear hl hj
        go_enter Tryz.func3, Tryz.ntmps3
        go_wp2_with (first
          | (rw [← HW.out])
          | (go_at_call 10; (with_reducible refine (HLG.out _ B0.out).mono ?_); rintro e w1 ⟨rfl, hb⟩; have B1 := Lib.hid (B0.out.trans (hb.mono B0.out.size)); have X1 := Lib.hid ((hb.block _ (heap_lt X0.out)).trans X0.out); obtain ⟨b0, b1⟩ := cells2_14 X1.out; clear hb)
          | (go_at_call 11; (with_reducible refine (HLL.out _ B1.out).mono ?_); rintro e w' ⟨rfl, rfl⟩)
          | (go_at_call 12; (with_reducible refine (awake15 _).mono ?_); rintro e w3 ⟨rfl, hb⟩; have B3 := Lib.hid (B1.out.trans (hb.mono B1.out.size)); clear hb))
        go_ret
        exact ⟨rfl, B3.out⟩
  · clear hl
    go_enter Tryz.func3, Tryz.ntmps3
    go_wp2_with (first
      | (rw [← HW.out])
      | (go_at_call 10; (with_reducible refine (HLG.out _ B0.out).mono ?_); rintro e w1 ⟨rfl, hb⟩; have B1 := Lib.hid (B0.out.trans (hb.mono B0.out.size)); have X1 := Lib.hid ((hb.block _ (heap_lt X0.out)).trans X0.out); obtain ⟨b0, b1⟩ := cells2_14 X1.out; clear hb)
      | (go_at_call 11; (with_reducible refine (HLL.out _ B1.out).mono ?_); rintro e w' ⟨rfl, rfl⟩)
      | (go_at_call 12; (with_reducible refine (awake15 _).mono ?_); rintro e w3 ⟨rfl, hb⟩; have B3 := Lib.hid (B1.out.trans (hb.mono B1.out.size)); clear hb))
    go_ret
    exact ⟨rfl, B3.out⟩
theorem script15_main (h : ScriptIn w data inp fs l DA FA IA LA dc fc ic lc) (mm fuel : Int) (hm : InI mm) (hfu : InI fuel) (hlong : longM ⟨data, fs⟩ = false) (hl : inp.length ≤ 100) (hl1 : longS l = false) :
    Calls Tryz.prog 3 #[.agg #[.slice DA data.length dc, .slice FA fs.length fc], .int .i64 mm, .slice IA inp.length ic, .int .i64 fuel, .slice LA l.length lc] w (Makes w (.bool true)) := by
  obtain ⟨g1, g2, g3⟩ := long_few hlong
  simp only at g1 g2 g3
  have HCL := Lib.hid (fun f hf => (⟨Nat.le_trans (g3 f hf).1 (by decide), fun y hy => Nat.le_trans ((g3 f hf).2 y hy) (by decide)⟩ : f.code.length ≤ 1000000 ∧ ∀ y ∈ f.code, y.args.length ≤ 1000000))
  have HC1 : Hid (∀ f ∈ fs, f.code.length ≤ 1000) := Lib.hid (fun f hf => Nat.le_trans (g3 f hf).1 (by decide))
  have hl50 := (longS_false hl1).1
  have HL20 := Lib.hid (longS_false hl1).2
  clear g3
  have HD := Lib.hid h.dat
  have HF := Lib.hid h.funs
  have HI := Lib.hid h.inp
  have HLA := Lib.hid h.acts
  obtain ⟨dn, hdn⟩ : ∃ dn, dn = data.length := ⟨_, rfl⟩
  obtain ⟨fn, hfn⟩ : ∃ fn, fn = fs.length := ⟨_, rfl⟩
  obtain ⟨ln, hln⟩ : ∃ ln, ln = l.length := ⟨_, rfl⟩
  obtain ⟨jn, hjn⟩ : ∃ jn, jn = inp.length := ⟨_, rfl⟩
  have hll := h.acts.1
  have hil := h.inp.2.1
  unfold maxLen at hll hil
  rw [← hdn] at HD ⊢
  rw [← hfn] at HF ⊢
  rw [← hln] at HLA hll ⊢
  rw [← hjn] at HI hil hl ⊢
  have HLG : Hid (∀ W, Below w.heap.size w W → Calls Tryz.prog 10 #[.agg #[.slice DA dn dc, .slice FA fn fc]] W (Makes W (.bool (longM ⟨data, fs⟩)))) := Lib.hid (fun W hb => longModule_any _ _ _ _ W (HD.out.grow hb) (HF.out.grow hb))
  have HLL : Hid (∀ W, Below w.heap.size w W → Calls Tryz.prog 11 #[.slice LA ln lc] W (fun e w' => e = .returned (.bool (longS l)) ∧ W = w')) := Lib.hid (fun W hb => longS_any _ _ W _ (HLA.out.below hb (Nat.le_refl _) (Nat.le_refl _)))
  have hb0 := below_one14 w (.cells #[.slice DA dn dc, .slice FA fn fc] 25)
  have hx0 := heap_alloc_new w (.cells #[.slice DA dn dc, .slice FA fn fc] 25)
  obtain ⟨W0, hW0⟩ : ∃ W0, W0 = w.alloc (.cells #[.slice DA dn dc, .slice FA fn fc] 25) := ⟨_, rfl⟩
  rw [← hW0] at hb0 hx0
  have HW := Lib.hid hW0
  have B0 := Lib.hid hb0
  have X0 := Lib.hid hx0
  obtain ⟨x0, x1⟩ := cells2_14 hx0
  rw [hlong] at HLG
  rw [hl1] at HLL
  rw [← hln] at hl50
  rw [← hdn] at g1
  rw [← hfn] at g2
  have HIX := Lib.hid h.inp.1
  have HDX := Lib.hid h.dat.1
  obtain ⟨m, hme⟩ : ∃ m : ModV, m = ⟨data, fs⟩ := ⟨_, rfl⟩
  have HME := Lib.hid hme
  have HCM : Hid (∀ W, Below w.heap.size w W → Calls Tryz.prog 13 #[.agg #[.slice DA dn dc, .slice FA fn fc]] W (CpDoneL W data fs)) := Lib.hid (fun W hb => copyModule_low _ _ data fs W (HD.out.grow hb) (HF.out.grow hb) hlong)
  have HLB : Hid (∀ W, Below w.heap.size w W → Calls Tryz.prog 14 #[.slice IA jn ic] W (LentDone W inp)) := Lib.hid (fun W hb => lent_any _ inp W (HI.out.grow hb) (by omega))
  have HLN := Lib.hid (And.intro hdn (And.intro hfn (And.intro hln hjn)))
  have HMI := Lib.hid (And.intro hm hfu)
  have HG := Lib.hid (And.intro g1 (And.intro g2 hl))
  have hjI : decide ((100 : Int) < (jn : Int)) = false := by simp; omega
  clear h hx0 hb0 hW0 hdn hfn hln hjn hme hm hfu hlong hl1 hl g1 g2 hil
  by_cases hE : newE15 m mm fuel = 0
  · have HE := Lib.hid hE
    clear hE
    go_enter Tryz.func3, Tryz.ntmps3
    go_upto_region 4 with (first
      | (rw [← HW.out])
      | (go_at_call 10; (with_reducible refine (HLG.out _ B0.out).mono ?_); rintro e w1 ⟨rfl, hb⟩; have B1 := Lib.hid (B0.out.trans (hb.mono B0.out.size)); have X1 := Lib.hid ((hb.block _ (heap_lt X0.out)).trans X0.out); obtain ⟨b0, b1⟩ := cells2_14 X1.out; clear hb)
      | (go_at_call 11; (with_reducible refine (HLL.out _ B1.out).mono ?_); rintro e w' ⟨rfl, rfl⟩)
      | (go_at_call 13; (with_reducible refine (HCM.out _ B1.out).mono ?_); rintro e w2 ⟨D', F', Cs, rfl, hd, hf, _, hlow⟩; obtain ⟨dA, dC, hde⟩ := owns_len14 hd.own; obtain ⟨fA, fC, hfe⟩ := owns_len14 hf.own; subst hde hfe; have B2 := Lib.hid (B1.out.trans (hd.bel.mono B1.out.size)); have X2 := Lib.hid ((hd.bel.block _ (heap_lt X1.out)).trans X1.out); have D2 := Lib.hid hd.own; have F2 := Lib.hid (hf.funs (by have := HG.out.2.1; have := HLN.out.2.1; omega)); have HLO := Lib.hid (And.intro B1.out.size hd.bel.size); clear hd hf hlow)
      | (go_at_call 14; (with_reducible refine (HLB.out _ B2.out).mono ?_); rintro e w3 ⟨lg, rfl, hg, hL, hb⟩; have B3 := Lib.hid (B2.out.trans (hb.mono B2.out.size)); have X3 := Lib.hid ((hb.block _ (heap_lt X2.out)).trans X2.out); have D3 := Lib.hid (D2.out.below hb (Nat.le_refl _)); have F3 := Lib.hid (F2.out.grow hb); have L3 := Lib.hid hL; have LG3 := Lib.hid hg; clear hg hL hb))
    obtain ⟨V, hV⟩ : ∃ V, V = w3.alloc (.cells #[.slice dA data.length dC, .slice fA fs.length fC] 25) := ⟨_, rfl⟩
    obtain ⟨ob, hob⟩ : ∃ ob, ob = w3.heap.size := ⟨_, rfl⟩
    obtain ⟨lo, hlo⟩ : ∃ lo, lo = V.heap.size := ⟨_, rfl⟩
    have hb : Below w3.heap.size w3 V := by rw [hV]; exact below_one14 w3 _
    have hy : V.heap[ob]? = some (.cells #[.slice dA data.length dC, .slice fA fs.length fC] 25 (0, 0)) := by rw [hV, hob]; exact heap_alloc_new _ _
    have X4 := Lib.hid ((hb.block _ (heap_lt X3.out)).trans X3.out)
    have Y4 := Lib.hid hy
    have D4 := Lib.hid (D3.out.below hb (Nat.le_refl _))
    have F4 := Lib.hid (F3.out.grow hb)
    have L4 := Lib.hid (L3.out.below hb L3.out.lt)
    have B4 := Lib.hid (B3.out.trans (hb.mono B3.out.size))
    have S4 := Lib.hid (show Spaces w lo V [] from Spaces.nil B4.out (by rw [hlo]; exact B4.out.size) (by rw [hlo]; exact Nat.le_refl _))
    have HLT : Hid (w.heap.size ≤ lg ∧ lg < lo ∧ ob ≠ lg ∧ lg < ob) := Lib.hid (by
      have h1 := L3.out.lt
      have h2 := hb.size
      have h3 := HLO.out
      have h4 := LG3.out
      omega)
    have HDB : Hid (∀ g, (Value.slice dA data.length dC).ownBlock = some g → w.heap.size ≤ g ∧ g < lg) := Lib.hid (fun g hg => by
      have h1 := D2.out.lt hg
      have h2 := HLO.out
      have h4 := LG3.out
      omega)
    have HDW : Hid (∀ g, (Value.slice dA data.length dC).ownBlock = some g → g < lo ∧ g ≠ ob) := Lib.hid (fun g hg => by
      have h1 := HDB.out g hg
      have h2 := HLT.out
      omega)
    obtain ⟨x40, x41⟩ := cells2_14 X4.out
    obtain ⟨y40, y41⟩ := cells2_14 Y4.out
    rw [← hV, ← hob]
    have HNEW := Lib.hid (sp_new S4.out (.slice dA data.length dC) (.slice fA fs.length fC) (.slice (some ⟨lg, 0, none⟩) inp.length (inp.length + 3)) data inp fs mm fuel (IsBytes.of_owns D4.out HDX.out (Nat.le_refl _)) F4.out (L4.out.bytes HIX.out (by unfold maxLen; have := HG.out.2.2; have := HLN.out.2.2.2; omega) L4.out.lt (by omega)) HMI.out.1 HMI.out.2 (by have := HG.out.2.2; have := HLN.out.2.2.2; omega) HCL.out)
    rw [← HME.out] at HNEW
    have hnn := eql_nil15
    have hnr := eql_nilR15
    have hnot := not15
    clear hV hob hlo hb hy b0 b1 x0 x1 HCM HLB HLG HLL
    go_wp2_with (first
      | (go_at_call 15; (with_reducible refine HNEW.out.mono ?_); rintro e w5 hn; have hb := hn.1; obtain ⟨sb, rfl, hs⟩ := (hn.2.resolve_left (fun q => q.1 HE.out)).2; have S5 := Lib.hid hs; have X5 := Lib.hid ((hb.block _ (heap_lt X4.out)).trans X4.out); have Y5 := Lib.hid ((hb.block _ (heap_lt Y4.out)).trans Y4.out); have D5 := Lib.hid (D4.out.below hb (Nat.le_refl _)); have F5 := Lib.hid (F4.out.grow hb); have L5 := Lib.hid (L4.out.below hb L4.out.lt); obtain ⟨x50, x51⟩ := cells2_14 X5.out; obtain ⟨y50, y51⟩ := cells2_14 Y5.out; have HRN := Lib.hid (rs_new hs (.slice DA dn dc) (.slice FA fn fc) (.slice IA jn ic) data inp fs mm fuel (HD.out.below hs.bel (Nat.le_refl _)) (HF.out.below hs.bel (Nat.le_refl _) (Nat.le_refl _)) (HI.out.grow hs.bel) (by have := HG.out.2.2; have := HLN.out.2.2.2; omega) HC1.out HMI.out.1); rw [← HME.out] at HRN; clear hn hb hs)
      | (go_at_call 16; (with_reducible refine HRN.out.mono ?_); rintro e w6 hn; have hb := hn.1; obtain ⟨rb, rfl, hs⟩ := (hn.2.resolve_left (fun q => q.1 HE.out)).2; have S6 := Lib.hid hs; have X6 := Lib.hid ((hb.block _ (heap_lt X5.out)).trans X5.out); have Y6 := Lib.hid ((hb.block _ (heap_lt Y5.out)).trans Y5.out); have D6 := Lib.hid (D5.out.below hb (Nat.le_refl _)); have F6 := Lib.hid (F5.out.grow hb); have L6 := Lib.hid (L5.out.below hb L5.out.lt); obtain ⟨x60, x61⟩ := cells2_14 X6.out; obtain ⟨y60, y61⟩ := cells2_14 Y6.out; have HSM := Lib.hid (sameModule_any _ _ _ _ data data fs fs w6 (IsBytes.of_owns D6.out HDX.out (Nat.le_refl _)) F6.out (HD.out.grow hs.bel) (HF.out.grow hs.bel)); rw [sameM_refl] at HSM; clear hn hb hs)
      | (go_at_call 17; (with_reducible refine HSM.out.mono ?_); rintro e w7 ⟨rfl, hb⟩; have S7 := Lib.hid (S6.out.grow hb); have X7 := Lib.hid ((hb.block _ (heap_lt X6.out)).trans X6.out); have Y7 := Lib.hid ((hb.block _ (heap_lt Y6.out)).trans Y6.out); have D7 := Lib.hid (D6.out.below hb (Nat.le_refl _)); have F7 := Lib.hid (F6.out.grow hb); have L7 := Lib.hid (L6.out.below hb L6.out.lt); obtain ⟨x70, x71⟩ := cells2_14 X7.out; obtain ⟨y70, y71⟩ := cells2_14 Y7.out; have HKB := Lib.hid (kept_yes (.slice IA jn ic) inp lg w7 _ L7.out (HI.out.below S7.out.bel (Nat.le_refl _)) (by have := HG.out.2.2; have := HLN.out.2.2.2; omega)); clear hb)
      | (go_at_call 18; (with_reducible refine HKB.out.mono ?_); rintro e w8 ⟨rfl, hb⟩; have S8 := Lib.hid (S7.out.grow hb); have X8 := Lib.hid ((hb.block _ (heap_lt X7.out)).trans X7.out); have Y8 := Lib.hid ((hb.block _ (heap_lt Y7.out)).trans Y7.out); have D8 := Lib.hid (D7.out.below hb (Nat.le_refl _)); have F8 := Lib.hid (F7.out.grow hb); have L8 := Lib.hid (L7.out.below hb L7.out.lt); obtain ⟨x80, x81⟩ := cells2_14 X8.out; obtain ⟨y80, y81⟩ := cells2_14 Y8.out; have HO1 := Lib.hid (over_lent lg inp w8 L8.out HIX.out (by have := HG.out.2.2; have := HLN.out.2.2.2; omega)); clear hb)
      | (go_at_call 19; (with_reducible refine HO1.out.mono ?_); rintro e w9 ⟨rfl, hb⟩; have S9 := Lib.hid (S8.out.other hb (fun k e => by have e' : k = lg := e; rw [e']; exact HLT.out.1) (fun k e _ => by have e' : k = lg := e; subst e'; obtain ⟨cur, h1, _⟩ := L8.out; exact ⟨HLT.out.2.1, cur, 5, h1, by decide, by decide⟩)); have Y9 := Lib.hid (hb.heap Y8.out HLT.out.2.2.1); obtain ⟨y90, y91⟩ := cells2_14 Y9.out; have D9 := Lib.hid (D8.out.but hb (fun g hg e => by have e' : g = lg := e; have := HDB.out g hg; omega)); have HO2 := Lib.hid (over_own _ _ _ _ w9 D9.out); clear hb)
      | (go_at_call 19; (with_reducible refine HO2.out.mono ?_); rintro e w10 ⟨rfl, hb⟩; have S10 := Lib.hid (S9.out.other hb (fun k e => (HDB.out k e).1) (fun k e _ => by obtain ⟨_, cur, h1⟩ := typed14 D9.out e; exact ⟨(HDW.out k e).1, cur, 5, h1, by decide, by decide⟩)); clear hb))
    clear X4 X5 X6 X7 X8 Y4 Y5 Y6 Y7 Y8 Y9 D4 D5 D6 D7 D8 D9 F4 F5 F6 F7 F8 L4 L5 L6 L7 L8 x40 x41 x50 x51 x60 x61 x70 x71 x80 x81 y40 y41 y50 y51 y60 y61 y70 y71 y80 y81 y90 y91 S4 S5 S6 S7 S8 S9 HNEW HRN HSM HKB HO1 HO2
    obtain ⟨T, hT⟩ : ∃ T, T = newS m mm.toNat inp fuel := ⟨_, rfl⟩
    rw [← hT] at S10
    have HT0 : Hid (T.done = [] ∧ T.inp = inp) := Lib.hid (by rw [hT]; unfold newS new0; split <;> exact ⟨rfl, rfl⟩)
    have S11 := Lib.hid (show Spaces w lo w10 [.sp sb T, .rs rb T] from S10.out)
    clear hT S10
    go_loopw [13, 17, 18] (fun v13 v17 _ wr => ∃ (i sb : Nat) (S : SpV), v13 = .pointer (some ⟨sb, 0, none⟩) ∧ v17 = .int .i64 i ∧ i ≤ ln ∧ Hid (Spaces w lo wr [.sp sb S, .rs rb S] ∧ S.done.length ≤ i ∧ S.inp = inp)) (fun _ v17 _ _ => ln - (intOf v17).toNat)
    case atStart => exact ⟨0, sb, T, rfl, rfl, by omega, Lib.hid ⟨S11.out, by rw [HT0.out.1]; simp, HT0.out.2⟩⟩
    case round =>
      clear S11 HT0
      obtain ⟨i, sb, S, rfl, rfl, hi, HH⟩ := hrel
      have Q0 := Lib.hid HH.out.1
      have HSF := Lib.hid HH.out.2
      clear HH
      by_cases hlt : i < ln
      · obtain ⟨lb, lof, rfl, hlc, hlb, K, R, N, Bk, Vv, X, xn, c, xs, E, C, hA, hok, hcell⟩ := act_at15 HLA.out HLN.out.2.2.1 hlt
        have HCE := Lib.hid hcell
        have hxl : xs.length ≤ 20 := by
          have h1 := HL20.out (l.getD i .zero) (by
            rw [List.getD_eq_getElem?_getD, List.getElem?_eq_getElem (by rw [← HLN.out.2.2.1]; exact hlt)]
            exact List.getElem_mem _)
          rw [hA] at h1
          exact h1
        rw [hA] at hok
        obtain ⟨U, hU⟩ : ∃ U, U = S.actS ⟨K, R, N, Bk, Vv, .slice X xn c, xs, E, C⟩ := ⟨_, rfl⟩
        have HDO : Hid (∀ (W : World) (s : Nat), Spaces w lo W [.sp s S, .rs rb S] → Calls Tryz.prog 23 #[.pointer (some ⟨s, 0, none⟩), .pointer (some ⟨rb, 0, none⟩), .agg #[.int .i64 K, .int .i64 R, .int .i64 N, .int .i64 Bk, .int .u64 Vv, .slice X xn c, .int .i64 E, .int .i64 C]] W (SpsDone w lo [.sp s U, .rs rb U] (.bool true))) := Lib.hid (fun W s hs => by
          have hz := does15 hs (i := 0) (j := 1) rfl rfl (by decide) (by have h1 := HSF.out.1; omega) (by rw [HSF.out.2]; have h1 := HG.out.2.2; have h2 := HLN.out.2.2.2; omega) _ hok hxl
          rw [← hU] at hz
          exact hz)
        have HU : Hid (U.done.length ≤ S.done.length + 1 ∧ U.inp = S.inp) := Lib.hid (by rw [hU]; exact ⟨(actS_keep S ⟨K, R, N, Bk, Vv, .slice X xn c, xs, E, C⟩).2.2, actS_inp15 S ⟨K, R, N, Bk, Vv, .slice X xn c, xs, E, C⟩⟩)
        have HAK : Hid (∀ (W : World) (s : Nat), Spaces w lo W [.sp s U, .rs rb U] → Calls Tryz.prog 24 #[.pointer (some ⟨s, 0, none⟩), .pointer (some ⟨rb, 0, none⟩)] W (SpsDone w lo [.sp s U, .rs rb U] (.bool true))) := Lib.hid (fun W s hs => alike15 hs (i := 0) (j := 1) rfl rfl (by decide) (by have h1 := HU.out.1; have h2 := HSF.out.1; omega))
        have hltI : (i : Int) < (ln : Int) := by omega
        obtain ⟨c0, c1, c2, c3, c4, c5, c6, c7⟩ := HCE.out wr Q0.out.bel
        clear hcell hok hA hlb hxl hU
        by_cases hK : K = 11
        · subst hK
          have HC1 := Lib.hid (sp_copy Q0.out (i := 0) rfl)
          go_wp2_with (first
            | (go_at_call 20; (with_reducible refine HC1.out.mono ?_); rintro e w1 ⟨cb, rfl, hs⟩; have Q1 := Lib.hid (show Spaces w lo w1 [.sp sb S, .rs rb S, .sp cb S] from hs); have HQ1 := Lib.hid (sp_same Q1.out (i := 2) (j := 0) rfl rfl (sameSp_self S)); clear hs)
            | (go_at_call 21; (with_reducible refine HQ1.out.mono ?_); rintro e w2 ⟨rfl, hs⟩; have Q2 := Lib.hid hs; have HQ2 := Lib.hid (sp_same Q2.out (i := 0) (j := 2) rfl rfl (sameSp_self S)); clear hs)
            | (go_at_call 21; (with_reducible refine HQ2.out.mono ?_); rintro e w3 ⟨rfl, hs⟩; have Q3 := Lib.hid hs; have HQ3 := Lib.hid (sp_stop Q3.out (i := 2) rfl 4 0); clear hs)
            | (go_at_call 22; (with_reducible refine HQ3.out.mono ?_); rintro e w4 ⟨rfl, hs⟩; have Q4 := Lib.hid hs; have HQ4 := Lib.hid (sp_copy Q4.out (i := 0) rfl); clear hs)
            | (go_at_call 20; (with_reducible refine HQ4.out.mono ?_); rintro e w5 ⟨cb2, rfl, hs⟩; have Q5 := Lib.hid (show Spaces w lo w5 [.sp cb2 S, .rs rb S] from hs.pick (fun q => if q = 0 then 3 else 1) (fun q a ha => by rcases q with _ | _ | q; exact ha; exact ha; cases ha) (fun q r hq hr e => by simp at hq hr; rcases q with _ | _ | q <;> rcases r with _ | _ | r <;> simp at e ⊢ <;> omega)); obtain ⟨c0, c1, c2, c3, c4, c5, c6, c7⟩ := HCE.out w5 Q5.out.bel; clear hs)
            | (go_at_call 23; (with_reducible refine (HDO.out _ _ Q5.out).mono ?_); rintro e w7 ⟨rfl, hs⟩; have Q7 := Lib.hid hs; clear hs)
            | (go_at_call 24; (with_reducible refine (HAK.out _ _ Q7.out).mono ?_); rintro e w8 ⟨rfl, hs⟩; have Q8 := Lib.hid hs; clear hs))
          go_roundw
          case rel => exact ⟨i + 1, cb2, U, rfl, by go_num, by omega, Lib.hid ⟨Q8.out, by have h1 := HU.out.1; have h2 := HSF.out.1; omega, HU.out.2.trans HSF.out.2⟩⟩
          case measure => simp [intOf]; omega
        · have hKb : (K == 11) = false := by simpa using hK
          clear hK
          go_wp2_with (first
            | (go_at_call 23; (with_reducible refine (HDO.out _ _ Q0.out).mono ?_); rintro e w7 ⟨rfl, hs⟩; have Q7 := Lib.hid hs; clear hs)
            | (go_at_call 24; (with_reducible refine (HAK.out _ _ Q7.out).mono ?_); rintro e w8 ⟨rfl, hs⟩; have Q8 := Lib.hid hs; clear hs))
          go_roundw
          case rel => exact ⟨i + 1, sb, U, rfl, by go_num, by omega, Lib.hid ⟨Q8.out, by have h1 := HU.out.1; have h2 := HSF.out.1; omega, HU.out.2.trans HSF.out.2⟩⟩
          case measure => simp [intOf]; omega
      · obtain rfl : ln = i := by omega
        have i1 : ¬ (ln : Int) < (ln : Int) := by omega
        go_wp2_with (go_at_call 12; (with_reducible refine (awake15 _).mono ?_); rintro e w9 ⟨rfl, hb⟩; have B9 := Lib.hid (Q0.out.bel.trans (hb.mono Q0.out.bel.size)); clear hb)
        go_ret
        exact ⟨rfl, B9.out⟩
  · have HE := Lib.hid hE
    obtain ⟨z, hz⟩ : ∃ z, z = newE15 m mm fuel := ⟨_, rfl⟩
    have HZ := Lib.hid hz
    have hzz : (z != z) = false := by simp
    clear hE hz
    go_enter Tryz.func3, Tryz.ntmps3
    go_upto_region 4 with (first
      | (rw [← HW.out])
      | (go_at_call 10; (with_reducible refine (HLG.out _ B0.out).mono ?_); rintro e w1 ⟨rfl, hb⟩; have B1 := Lib.hid (B0.out.trans (hb.mono B0.out.size)); have X1 := Lib.hid ((hb.block _ (heap_lt X0.out)).trans X0.out); obtain ⟨b0, b1⟩ := cells2_14 X1.out; clear hb)
      | (go_at_call 11; (with_reducible refine (HLL.out _ B1.out).mono ?_); rintro e w' ⟨rfl, rfl⟩)
      | (go_at_call 13; (with_reducible refine (HCM.out _ B1.out).mono ?_); rintro e w2 ⟨D', F', Cs, rfl, hd, hf, _, hlow⟩; obtain ⟨dA, dC, hde⟩ := owns_len14 hd.own; obtain ⟨fA, fC, hfe⟩ := owns_len14 hf.own; subst hde hfe; have B2 := Lib.hid (B1.out.trans (hd.bel.mono B1.out.size)); have X2 := Lib.hid ((hd.bel.block _ (heap_lt X1.out)).trans X1.out); have D2 := Lib.hid hd.own; have F2 := Lib.hid (hf.funs (by have := HG.out.2.1; have := HLN.out.2.1; omega)); have HLO := Lib.hid (And.intro B1.out.size hd.bel.size); clear hd hf hlow)
      | (go_at_call 14; (with_reducible refine (HLB.out _ B2.out).mono ?_); rintro e w3 ⟨lg, rfl, hg, hL, hb⟩; have B3 := Lib.hid (B2.out.trans (hb.mono B2.out.size)); have X3 := Lib.hid ((hb.block _ (heap_lt X2.out)).trans X2.out); have D3 := Lib.hid (D2.out.below hb (Nat.le_refl _)); have F3 := Lib.hid (F2.out.grow hb); have L3 := Lib.hid hL; have LG3 := Lib.hid hg; clear hg hL hb))
    obtain ⟨V, hV⟩ : ∃ V, V = w3.alloc (.cells #[.slice dA data.length dC, .slice fA fs.length fC] 25) := ⟨_, rfl⟩
    obtain ⟨ob, hob⟩ : ∃ ob, ob = w3.heap.size := ⟨_, rfl⟩
    obtain ⟨lo, hlo⟩ : ∃ lo, lo = V.heap.size := ⟨_, rfl⟩
    have hb : Below w3.heap.size w3 V := by rw [hV]; exact below_one14 w3 _
    have hy : V.heap[ob]? = some (.cells #[.slice dA data.length dC, .slice fA fs.length fC] 25 (0, 0)) := by rw [hV, hob]; exact heap_alloc_new _ _
    have X4 := Lib.hid ((hb.block _ (heap_lt X3.out)).trans X3.out)
    have Y4 := Lib.hid hy
    have D4 := Lib.hid (D3.out.below hb (Nat.le_refl _))
    have F4 := Lib.hid (F3.out.grow hb)
    have L4 := Lib.hid (L3.out.below hb L3.out.lt)
    have B4 := Lib.hid (B3.out.trans (hb.mono B3.out.size))
    have S4 := Lib.hid (show Spaces w lo V [] from Spaces.nil B4.out (by rw [hlo]; exact B4.out.size) (by rw [hlo]; exact Nat.le_refl _))
    have HLT : Hid (w.heap.size ≤ lg ∧ lg < lo ∧ ob ≠ lg ∧ lg < ob) := Lib.hid (by
      have h1 := L3.out.lt
      have h2 := hb.size
      have h3 := HLO.out
      have h4 := LG3.out
      omega)
    have HDB : Hid (∀ g, (Value.slice dA data.length dC).ownBlock = some g → w.heap.size ≤ g ∧ g < lg) := Lib.hid (fun g hg => by
      have h1 := D2.out.lt hg
      have h2 := HLO.out
      have h4 := LG3.out
      omega)
    have HDW : Hid (∀ g, (Value.slice dA data.length dC).ownBlock = some g → g < lo ∧ g ≠ ob) := Lib.hid (fun g hg => by
      have h1 := HDB.out g hg
      have h2 := HLT.out
      omega)
    obtain ⟨x40, x41⟩ := cells2_14 X4.out
    obtain ⟨y40, y41⟩ := cells2_14 Y4.out
    rw [← hV, ← hob]
    have HNEW := Lib.hid (sp_new S4.out (.slice dA data.length dC) (.slice fA fs.length fC) (.slice (some ⟨lg, 0, none⟩) inp.length (inp.length + 3)) data inp fs mm fuel (IsBytes.of_owns D4.out HDX.out (Nat.le_refl _)) F4.out (L4.out.bytes HIX.out (by unfold maxLen; have := HG.out.2.2; have := HLN.out.2.2.2; omega) L4.out.lt (by omega)) HMI.out.1 HMI.out.2 (by have := HG.out.2.2; have := HLN.out.2.2.2; omega) HCL.out)
    rw [← HME.out] at HNEW
    have hnn := eql_nil15
    have hnr := eql_nilR15
    have hnot := not15
    clear hV hob hlo hb hy b0 b1 x0 x1 HCM HLB HLG HLL
    go_wp2_with (first
      | (go_at_call 15; (with_reducible refine HNEW.out.mono ?_); rintro e w5 hn; have hb := hn.1; obtain ⟨_, rfl, hs⟩ := hn.2.resolve_right (fun q => HE.out q.1); rw [← HZ.out]; have S5 := Lib.hid hs; have X5 := Lib.hid ((hb.block _ (heap_lt X4.out)).trans X4.out); have Y5 := Lib.hid ((hb.block _ (heap_lt Y4.out)).trans Y4.out); have D5 := Lib.hid (D4.out.below hb (Nat.le_refl _)); have F5 := Lib.hid (F4.out.grow hb); have L5 := Lib.hid (L4.out.below hb L4.out.lt); obtain ⟨x50, x51⟩ := cells2_14 X5.out; obtain ⟨y50, y51⟩ := cells2_14 Y5.out; have HRN := Lib.hid (rs_new hs (.slice DA dn dc) (.slice FA fn fc) (.slice IA jn ic) data inp fs mm fuel (HD.out.below hs.bel (Nat.le_refl _)) (HF.out.below hs.bel (Nat.le_refl _) (Nat.le_refl _)) (HI.out.grow hs.bel) (by have := HG.out.2.2; have := HLN.out.2.2.2; omega) HC1.out HMI.out.1); rw [← HME.out] at HRN; clear hn hb hs)
      | (go_at_call 16; (with_reducible refine HRN.out.mono ?_); rintro e w6 hn; have hb := hn.1; obtain ⟨_, rfl, hs⟩ := hn.2.resolve_right (fun q => HE.out q.1); rw [← HZ.out]; have S6 := Lib.hid hs; have X6 := Lib.hid ((hb.block _ (heap_lt X5.out)).trans X5.out); have Y6 := Lib.hid ((hb.block _ (heap_lt Y5.out)).trans Y5.out); have D6 := Lib.hid (D5.out.below hb (Nat.le_refl _)); have F6 := Lib.hid (F5.out.grow hb); have L6 := Lib.hid (L5.out.below hb L5.out.lt); obtain ⟨x60, x61⟩ := cells2_14 X6.out; obtain ⟨y60, y61⟩ := cells2_14 Y6.out; have HSM := Lib.hid (sameModule_any _ _ _ _ data data fs fs w6 (IsBytes.of_owns D6.out HDX.out (Nat.le_refl _)) F6.out (HD.out.grow hs.bel) (HF.out.grow hs.bel)); rw [sameM_refl] at HSM; clear hn hb hs)
      | (go_at_call 17; (with_reducible refine HSM.out.mono ?_); rintro e w7 ⟨rfl, hb⟩; have S7 := Lib.hid (S6.out.grow hb); have X7 := Lib.hid ((hb.block _ (heap_lt X6.out)).trans X6.out); have Y7 := Lib.hid ((hb.block _ (heap_lt Y6.out)).trans Y6.out); have D7 := Lib.hid (D6.out.below hb (Nat.le_refl _)); have F7 := Lib.hid (F6.out.grow hb); have L7 := Lib.hid (L6.out.below hb L6.out.lt); obtain ⟨x70, x71⟩ := cells2_14 X7.out; obtain ⟨y70, y71⟩ := cells2_14 Y7.out; have HKB := Lib.hid (kept_yes (.slice IA jn ic) inp lg w7 _ L7.out (HI.out.below S7.out.bel (Nat.le_refl _)) (by have := HG.out.2.2; have := HLN.out.2.2.2; omega)); clear hb)
      | (go_at_call 18; (with_reducible refine HKB.out.mono ?_); rintro e w8 ⟨rfl, hb⟩; have S8 := Lib.hid (S7.out.grow hb); have X8 := Lib.hid ((hb.block _ (heap_lt X7.out)).trans X7.out); have Y8 := Lib.hid ((hb.block _ (heap_lt Y7.out)).trans Y7.out); have D8 := Lib.hid (D7.out.below hb (Nat.le_refl _)); have F8 := Lib.hid (F7.out.grow hb); have L8 := Lib.hid (L7.out.below hb L7.out.lt); obtain ⟨x80, x81⟩ := cells2_14 X8.out; obtain ⟨y80, y81⟩ := cells2_14 Y8.out; have HO1 := Lib.hid (over_lent lg inp w8 L8.out HIX.out (by have := HG.out.2.2; have := HLN.out.2.2.2; omega)); clear hb)
      | (go_at_call 19; (with_reducible refine HO1.out.mono ?_); rintro e w9 ⟨rfl, hb⟩; have S9 := Lib.hid (S8.out.other hb (fun k e => by have e' : k = lg := e; rw [e']; exact HLT.out.1) (fun k e _ => by have e' : k = lg := e; subst e'; obtain ⟨cur, h1, _⟩ := L8.out; exact ⟨HLT.out.2.1, cur, 5, h1, by decide, by decide⟩)); have Y9 := Lib.hid (hb.heap Y8.out HLT.out.2.2.1); obtain ⟨y90, y91⟩ := cells2_14 Y9.out; have D9 := Lib.hid (D8.out.but hb (fun g hg e => by have e' : g = lg := e; have := HDB.out g hg; omega)); have HO2 := Lib.hid (over_own _ _ _ _ w9 D9.out); clear hb)
      | (go_at_call 19; (with_reducible refine HO2.out.mono ?_); rintro e w10 ⟨rfl, hb⟩; have S10 := Lib.hid (S9.out.other hb (fun k e => (HDB.out k e).1) (fun k e _ => by obtain ⟨_, cur, h1⟩ := typed14 D9.out e; exact ⟨(HDW.out k e).1, cur, 5, h1, by decide, by decide⟩)); clear hb)
      | (go_at_call 12; (with_reducible refine (awake15 _).mono ?_); rintro e w11 ⟨rfl, hb⟩; have B11 := Lib.hid (S10.out.bel.trans (hb.mono S10.out.bel.size)); clear hb))
    go_ret
    exact ⟨rfl, B11.out⟩
theorem script15 (D F I L : Value) (data inp : List Int) (fs : List FunV) (l : List ActS) (w : World) (hD : IsBytes w w.heap.size D data) (hF : IsFuns w w.heap.size F fs) (hI : IsBytes w w.heap.size I inp) (hL : IsActS w w.heap.size L l) (mm fuel : Int) (hm : InI mm) (hfu : InI fuel) :
    Calls Tryz.prog 3 #[.agg #[D, F], .int .i64 mm, I, .int .i64 fuel, L] w (Makes w (.bool true)) := by
  obtain ⟨DA, dc, rfl⟩ := hD.len
  obtain ⟨FA, fc, rfl⟩ := hF.len
  obtain ⟨IA, ic, rfl⟩ := hI.len
  obtain ⟨LA, lc, rfl⟩ := hL.len
  have h : ScriptIn w data inp fs l DA FA IA LA dc fc ic lc := ⟨hD, hF, hI, hL⟩
  cases h1 : longM ⟨data, fs⟩ with
  | true => exact script15_none h mm fuel (.inl h1)
  | false =>
    by_cases h2 : 100 < inp.length
    · exact script15_none h mm fuel (.inr (.inl h2))
    · cases h3 : longS l with
      | true => exact script15_none h mm fuel (.inr (.inr h3))
      | false => exact script15_main h mm fuel hm hfu h1 (Nat.le_of_not_lt h2) h3
end
end Go.Proofs.YtkfdgpgildanbaaGreat
