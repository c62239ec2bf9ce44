/- SpaceAgain's call. No condition but what each names. -/
import Derived.Test.YtkfdgpgildanbaaGreatSame15B
import Derived.Test.YtkfdgpgildanbaaGreatSp15Q
import Derived.Test.YtkfdgpgildanbaaGreatBack15
import Derived.Test.YtkfdgpgildanbaaGreatKit08B
namespace Go.Proofs.YtkfdgpgildanbaaGreat
open Go.RowKit Go.Shelf
set_option linter.unusedVariables false
set_option linter.unusedSimpArgs false
section
variable {w : World} {data inp : List Int} {fs : List FunV} {l k : List ActS} {DA FA IA LA KA : Option Addr} {dc fc ic lc kc : Nat}
set_option maxRecDepth 100000
set_option maxHeartbeats 16000000
/-- What is said in advance of all cases. -/
structure AgainIn (w : World) (data inp : List Int) (fs : List FunV) (l k : List ActS) (DA FA IA LA KA : Option Addr) (dc fc ic lc kc : Nat) : Prop where
  dat : IsBytes w w.heap.size (.slice DA data.length dc) data
  funs : IsFuns w w.heap.size (.slice FA fs.length fc) fs
  inp : IsBytes w w.heap.size (.slice IA inp.length ic) inp
  acts : IsActS w w.heap.size (.slice LA l.length lc) l
  more : IsActS w w.heap.size (.slice KA k.length kc) k
theorem again15_none (h : AgainIn w data inp fs l k DA FA IA LA KA dc fc ic lc kc) (mm : Int) (hm : InI mm) (hl : longM ⟨data, fs⟩ = true ∨ 100 < inp.length ∨ longS l = true ∨ longS k = true) :
    Calls Tryz.prog 8 #[.agg #[.slice DA data.length dc, .slice FA fs.length fc], .int .i64 mm, .slice IA inp.length ic, .slice LA l.length lc, .slice KA k.length kc] w (Makes w (.bool true)) := by
  have HD := Lib.hid h.dat
  have HF := Lib.hid h.funs
  have HI := Lib.hid h.inp
  have HLA := Lib.hid h.acts
  have HKA := Lib.hid h.more
  obtain ⟨dn, hdn⟩ : ∃ dn, dn = data.length := ⟨_, rfl⟩
  obtain ⟨fn, hfn⟩ : ∃ fn, fn = fs.length := ⟨_, rfl⟩
  obtain ⟨ln, hln⟩ : ∃ ln, ln = l.length := ⟨_, rfl⟩
  obtain ⟨kn, hkn⟩ : ∃ kn, kn = k.length := ⟨_, rfl⟩
  obtain ⟨jn, hjn⟩ : ∃ jn, jn = inp.length := ⟨_, rfl⟩
  have hfl := h.funs.1
  have hll := h.acts.1
  have hkl := h.more.1
  have hil := h.inp.2.1
  unfold maxLen at hfl hll hkl hil
  rw [← hdn] at HD ⊢
  rw [← hfn] at HF hfl ⊢
  rw [← hln] at HLA hll ⊢
  rw [← hkn] at HKA hkl ⊢
  rw [← hjn] at HI hil hl ⊢
  have HLG : Hid (∀ W, Below w.heap.size w W → Calls Tryz.prog 10 #[.agg #[.slice DA dn dc, .slice FA fn fc]] W (Makes W (.bool (longM ⟨data, fs⟩)))) := Lib.hid (fun W hb => longModule_any _ _ _ _ W (HD.out.grow hb) (HF.out.grow hb))
  have HLL : Hid (∀ W, Below w.heap.size w W → Calls Tryz.prog 11 #[.slice LA ln lc] W (fun e w' => e = .returned (.bool (longS l)) ∧ W = w')) := Lib.hid (fun W hb => longS_any _ _ W _ (HLA.out.below hb (Nat.le_refl _) (Nat.le_refl _)))
  have HLK : Hid (∀ W, Below w.heap.size w W → Calls Tryz.prog 11 #[.slice KA kn kc] W (fun e w' => e = .returned (.bool (longS k)) ∧ W = w')) := Lib.hid (fun W hb => longS_any _ _ W _ (HKA.out.below hb (Nat.le_refl _) (Nat.le_refl _)))
  have hs0 : Spaces w w.heap.size (w.alloc (.cells #[.slice DA dn dc, .slice FA fn fc] 25)) [.box w.heap.size #[.slice DA dn dc, .slice FA fn fc] 25] := (sp_nilSt w).addBox #[.slice DA dn dc, .slice FA fn fc] 25
  obtain ⟨W0, hW0⟩ : ∃ W0, W0 = w.alloc (.cells #[.slice DA dn dc, .slice FA fn fc] 25) := ⟨_, rfl⟩
  rw [← hW0] at hs0
  have HW := Lib.hid hW0
  have S0 := Lib.hid hs0
  have HP := Lib.hid (fun W => pk_any mm 62 W (by decide) (by decide))
  have hpk := pk_bd mm (n := 62) (by decide)
  obtain ⟨pk, hpe⟩ : ∃ pk, pk = pkV mm 62 := ⟨_, rfl⟩
  rw [← hpe] at HP hpk
  generalize hlg : longM ⟨data, fs⟩ = lg at *
  generalize hlb : longS l = lb at *
  generalize hla : longS k = la at *
  clear h hs0 hW0 hpe hlg hlb hla hdn hfn hln hkn hjn hm HD HF HLA HKA HI
  cases lg
  · by_cases hj : 100 < jn
    · have hjI : decide ((100 : Int) < (jn : Int)) = true := by simp; omega
      clear hl hj
      go_enter Tryz.func8, Tryz.ntmps8
      go_wp2_with (first
        | (rw [← HW.out])
        | (go_at_call 12; (with_reducible refine (awake15 _).mono ?_); rintro e w1 ⟨rfl, hb⟩; have S1 := Lib.hid (S0.out.grow hb); obtain ⟨b0, b1⟩ := cells2_14 (S1.out.boxAt (i := 0) rfl); clear hb)
        | (go_at_call 25; (with_reducible refine (HP.out _).mono ?_); rintro e w' ⟨rfl, rfl⟩)
        | (go_at_call 10; (with_reducible refine (HLG.out _ S1.out.bel).mono ?_); rintro e w2 ⟨rfl, hb⟩; have S2 := Lib.hid (S1.out.grow hb); obtain ⟨b0, b1⟩ := cells2_14 (S2.out.boxAt (i := 0) rfl); clear hb)
        | (go_at_call 11; (with_reducible refine (HLL.out _ S2.out.bel).mono ?_); rintro e w' ⟨rfl, rfl⟩)
        | (go_at_call 11; (with_reducible refine (HLK.out _ S2.out.bel).mono ?_); rintro e w' ⟨rfl, rfl⟩))
      go_ret
      exact ⟨rfl, S2.out.bel⟩
    · have hjI : decide ((100 : Int) < (jn : Int)) = false := by simp; omega
      cases lb
      · cases la
        · exfalso
          rcases hl with c | c | c | c
          · cases c
          · exact hj c
          · cases c
          · cases c
        · clear hl hj
          go_enter Tryz.func8, Tryz.ntmps8
          go_wp2_with (first
            | (rw [← HW.out])
            | (go_at_call 12; (with_reducible refine (awake15 _).mono ?_); rintro e w1 ⟨rfl, hb⟩; have S1 := Lib.hid (S0.out.grow hb); obtain ⟨b0, b1⟩ := cells2_14 (S1.out.boxAt (i := 0) rfl); clear hb)
            | (go_at_call 25; (with_reducible refine (HP.out _).mono ?_); rintro e w' ⟨rfl, rfl⟩)
            | (go_at_call 10; (with_reducible refine (HLG.out _ S1.out.bel).mono ?_); rintro e w2 ⟨rfl, hb⟩; have S2 := Lib.hid (S1.out.grow hb); obtain ⟨b0, b1⟩ := cells2_14 (S2.out.boxAt (i := 0) rfl); clear hb)
            | (go_at_call 11; (with_reducible refine (HLL.out _ S2.out.bel).mono ?_); rintro e w' ⟨rfl, rfl⟩)
            | (go_at_call 11; (with_reducible refine (HLK.out _ S2.out.bel).mono ?_); rintro e w' ⟨rfl, rfl⟩))
          go_ret
          exact ⟨rfl, S2.out.bel⟩
      · clear hl hj
        go_enter Tryz.func8, Tryz.ntmps8
        go_wp2_with (first
          | (rw [← HW.out])
          | (go_at_call 12; (with_reducible refine (awake15 _).mono ?_); rintro e w1 ⟨rfl, hb⟩; have S1 := Lib.hid (S0.out.grow hb); obtain ⟨b0, b1⟩ := cells2_14 (S1.out.boxAt (i := 0) rfl); clear hb)
          | (go_at_call 25; (with_reducible refine (HP.out _).mono ?_); rintro e w' ⟨rfl, rfl⟩)
          | (go_at_call 10; (with_reducible refine (HLG.out _ S1.out.bel).mono ?_); rintro e w2 ⟨rfl, hb⟩; have S2 := Lib.hid (S1.out.grow hb); obtain ⟨b0, b1⟩ := cells2_14 (S2.out.boxAt (i := 0) rfl); clear hb)
          | (go_at_call 11; (with_reducible refine (HLL.out _ S2.out.bel).mono ?_); rintro e w' ⟨rfl, rfl⟩)
          | (go_at_call 11; (with_reducible refine (HLK.out _ S2.out.bel).mono ?_); rintro e w' ⟨rfl, rfl⟩))
        go_ret
        exact ⟨rfl, S2.out.bel⟩
  · clear hl
    go_enter Tryz.func8, Tryz.ntmps8
    go_wp2_with (first
      | (rw [← HW.out])
      | (go_at_call 12; (with_reducible refine (awake15 _).mono ?_); rintro e w1 ⟨rfl, hb⟩; have S1 := Lib.hid (S0.out.grow hb); obtain ⟨b0, b1⟩ := cells2_14 (S1.out.boxAt (i := 0) rfl); clear hb)
      | (go_at_call 25; (with_reducible refine (HP.out _).mono ?_); rintro e w' ⟨rfl, rfl⟩)
      | (go_at_call 10; (with_reducible refine (HLG.out _ S1.out.bel).mono ?_); rintro e w2 ⟨rfl, hb⟩; have S2 := Lib.hid (S1.out.grow hb); obtain ⟨b0, b1⟩ := cells2_14 (S2.out.boxAt (i := 0) rfl); clear hb)
      | (go_at_call 11; (with_reducible refine (HLL.out _ S2.out.bel).mono ?_); rintro e w' ⟨rfl, rfl⟩)
      | (go_at_call 11; (with_reducible refine (HLK.out _ S2.out.bel).mono ?_); rintro e w' ⟨rfl, rfl⟩))
    go_ret
    exact ⟨rfl, S2.out.bel⟩

theorem again15_main (h : AgainIn w data inp fs l k DA FA IA LA KA dc fc ic lc kc) (mm : Int) (hm : InI mm) (hlong : longM ⟨data, fs⟩ = false) (hl : inp.length ≤ 100) (hl1 : longS l = false) (hl2 : longS k = false) :
    Calls Tryz.prog 8 #[.agg #[.slice DA data.length dc, .slice FA fs.length fc], .int .i64 mm, .slice IA inp.length ic, .slice LA l.length lc, .slice KA k.length kc] w (Makes w (.bool true)) := by
  obtain ⟨g1, g2, g3⟩ := long_few hlong
  simp only at g1 g2 g3
  have HCL := Lib.hid (fun f hf => (⟨Nat.le_trans (g3 f hf).1 (by decide), fun y hy => Nat.le_trans ((g3 f hf).2 y hy) (by decide)⟩ : f.code.length ≤ 1000000 ∧ ∀ y ∈ f.code, y.args.length ≤ 1000000))
  have hl50 := (longS_false hl1).1
  have hk50 := (longS_false hl2).1
  clear g3
  have HD := Lib.hid h.dat
  have HF := Lib.hid h.funs
  have HI := Lib.hid h.inp
  have HLA := Lib.hid h.acts
  have HKA := Lib.hid h.more
  obtain ⟨dn, hdn⟩ : ∃ dn, dn = data.length := ⟨_, rfl⟩
  obtain ⟨fn, hfn⟩ : ∃ fn, fn = fs.length := ⟨_, rfl⟩
  obtain ⟨ln, hln⟩ : ∃ ln, ln = l.length := ⟨_, rfl⟩
  obtain ⟨kn, hkn⟩ : ∃ kn, kn = k.length := ⟨_, rfl⟩
  obtain ⟨jn, hjn⟩ : ∃ jn, jn = inp.length := ⟨_, rfl⟩
  have hfl := h.funs.1
  have hll := h.acts.1
  have hkl := h.more.1
  have hil := h.inp.2.1
  unfold maxLen at hfl hll hkl hil
  rw [← hdn] at HD ⊢
  rw [← hfn] at HF hfl ⊢
  rw [← hln] at HLA hll ⊢
  rw [← hkn] at HKA hkl ⊢
  rw [← hjn] at HI hil hl ⊢
  have HLG : Hid (∀ W, Below w.heap.size w W → Calls Tryz.prog 10 #[.agg #[.slice DA dn dc, .slice FA fn fc]] W (Makes W (.bool (longM ⟨data, fs⟩)))) := Lib.hid (fun W hb => longModule_any _ _ _ _ W (HD.out.grow hb) (HF.out.grow hb))
  have HLL : Hid (∀ W, Below w.heap.size w W → Calls Tryz.prog 11 #[.slice LA ln lc] W (fun e w' => e = .returned (.bool (longS l)) ∧ W = w')) := Lib.hid (fun W hb => longS_any _ _ W _ (HLA.out.below hb (Nat.le_refl _) (Nat.le_refl _)))
  have HLK : Hid (∀ W, Below w.heap.size w W → Calls Tryz.prog 11 #[.slice KA kn kc] W (fun e w' => e = .returned (.bool (longS k)) ∧ W = w')) := Lib.hid (fun W hb => longS_any _ _ W _ (HKA.out.below hb (Nat.le_refl _) (Nat.le_refl _)))
  have hs0 : Spaces w w.heap.size (w.alloc (.cells #[.slice DA dn dc, .slice FA fn fc] 25)) [.box w.heap.size #[.slice DA dn dc, .slice FA fn fc] 25] := (sp_nilSt w).addBox #[.slice DA dn dc, .slice FA fn fc] 25
  obtain ⟨W0, hW0⟩ : ∃ W0, W0 = w.alloc (.cells #[.slice DA dn dc, .slice FA fn fc] 25) := ⟨_, rfl⟩
  rw [← hW0] at hs0
  have HW := Lib.hid hW0
  have S0 := Lib.hid hs0
  have HP := Lib.hid (fun W => pk_any mm 62 W (by decide) (by decide))
  have hpk := pk_bd mm (n := 62) (by decide)
  obtain ⟨pk, hpe⟩ : ∃ pk : Nat, pkV mm 62 = (pk : Int) := ⟨(pkV mm 62).toNat, by omega⟩
  rw [hpe] at HP hpk
  rw [hlong] at HLG
  rw [hl1] at HLL
  rw [hl2] at HLK
  rw [← hdn] at g1
  rw [← hfn] at g2
  rw [← hln] at hl50
  rw [← hkn] at hk50
  obtain ⟨m, hme⟩ : ∃ m : ModV, m = ⟨data, fs⟩ := ⟨_, rfl⟩
  have hj := hl
  have HNEW : Hid (∀ W, Spaces w w.heap.size W [.box w.heap.size #[.slice DA dn dc, .slice FA fn fc] 25] → Calls Tryz.prog 15 #[.agg #[.slice DA dn dc, .slice FA fn fc], .int .i64 (16 * (1 + (pk : Int))), .slice IA jn ic, .int .i64 20] W (NewSps w w.heap.size W [.box w.heap.size #[.slice DA dn dc, .slice FA fn fc] 25] m (16 * (1 + (pk : Int))) inp 20)) := Lib.hid (fun W hs => by
    rw [hme]
    exact sp_new hs _ _ _ data inp fs _ 20 (HD.out.grow hs.bel) (HF.out.grow hs.bel) (HI.out.grow hs.bel) (by unfold InI; omega) (by unfold InI; simp) (by rw [← hjn]; omega) HCL.out)
  have HN := Lib.hid (And.intro hln hkn)
  have hjI : decide ((100 : Int) < (jn : Int)) = false := by simp; omega
  clear h hs0 hW0 hpe hdn hfn hln hkn hjn hm HD HF HI HCL hme hlong hl1 hl2 hl hj
  by_cases hE : newE15 m (16 * (1 + (pk : Int))) 20 = 0
  · go_enter Tryz.func8, Tryz.ntmps8
    go_wp2_with (first
      | (rw [← HW.out])
      | (go_at_call 12; (with_reducible refine (awake15 _).mono ?_); rintro e w1 ⟨rfl, hb⟩; have S1 := Lib.hid (S0.out.grow hb); obtain ⟨b0, b1⟩ := cells2_14 (S1.out.boxAt (i := 0) rfl); clear hb)
      | (go_at_call 25; (with_reducible refine (HP.out _).mono ?_); rintro e w' ⟨rfl, rfl⟩)
      | (go_at_call 10; (with_reducible refine (HLG.out _ S1.out.bel).mono ?_); rintro e w2 ⟨rfl, hb⟩; have S2 := Lib.hid (S1.out.grow hb); obtain ⟨b0, b1⟩ := cells2_14 (S2.out.boxAt (i := 0) rfl); clear hb)
      | (go_at_call 11; (with_reducible refine (HLL.out _ S2.out.bel).mono ?_); rintro e w' ⟨rfl, rfl⟩)
      | (go_at_call 11; (with_reducible refine (HLK.out _ S2.out.bel).mono ?_); rintro e w' ⟨rfl, rfl⟩)
      | (go_at_call 15; (with_reducible refine (HNEW.out _ S2.out).mono ?_); rintro e w4 hn; obtain ⟨sb, rfl, hs⟩ := (hn.2.resolve_left (fun q => q.1 hE)).2; have S4 := Lib.hid hs; clear hn hs))
    clear b0 b1 S0 S1 S2
    obtain ⟨T, hT⟩ : ∃ T, T = newS m (16 * (1 + (pk : Int))).toNat inp 20 := ⟨_, rfl⟩
    rw [← hT] at S4
    have HT0 : Hid (T.done = []) := Lib.hid (by rw [hT]; unfold newS new0; split <;> rfl)
    have S5 := Lib.hid (show Spaces w w.heap.size w4 [.box w.heap.size #[.slice DA dn dc, .slice FA fn fc] 25, .sp sb T] from S4.out)
    obtain ⟨nn, hnn⟩ : ∃ nn : Int, nn = 16 * (1 + (pk : Int)) := ⟨_, rfl⟩
    rw [← hnn]
    clear hT hnn hE hpk S4 HP HLG HLL HLK HNEW HW hfl hjI
    go_loopw [14] (fun v14 wr => ∃ (i : Nat) (S : SpV), v14 = .int .i64 i ∧ i ≤ ln ∧ Hid (Spaces w w.heap.size wr [.box w.heap.size #[.slice DA dn dc, .slice FA fn fc] 25, .sp sb S] ∧ S.done.length ≤ i)) (fun v14 _ => ln - (intOf v14).toNat)
    case atStart => exact ⟨0, T, rfl, by omega, Lib.hid ⟨S5.out, by rw [HT0.out]; simp⟩⟩
    case round =>
      obtain ⟨i, S, rfl, hi, HH⟩ := hrel
      clear S5 HT0
      by_cases hlt : i < ln
      · obtain ⟨lb, lof, rfl, hlc, hlb, K, R, N, B, V, X, xn, c, xs, E, C, hA, hok, hcell⟩ := act_at15 HLA.out HN.out.1 hlt
        obtain ⟨c0, c1, c2, c3, c4, c5, c6, c7⟩ := hcell wr HH.out.1.bel
        have hact := act15 HH.out.1 (i := 1) rfl (by have := HH.out.2; omega) _ (hok.below HH.out.1.bel (Nat.le_refl _))
        rw [hA] at hact
        rw [show ActS.arr ⟨K, R, N, B, V, .slice X xn c, xs, E, C⟩ = #[.int .i64 K, .int .i64 R, .int .i64 N, .int .i64 B, .int .u64 V, .slice X xn c, .int .i64 E, .int .i64 C] from rfl] at hact
        have HACT := Lib.hid hact
        have HK := Lib.hid (actS_keep S ⟨K, R, N, B, V, .slice X xn c, xs, E, C⟩)
        have hltI : (i : Int) < (ln : Int) := by omega
        clear hact hcell hok hA hlb
        go_wp2_with (go_at_call 46; (with_reducible refine HACT.out.mono ?_); rintro e w5 ⟨rfl, hs⟩; have S5 := Lib.hid hs; clear hs)
        go_roundw
        case rel => exact ⟨i + 1, _, by go_num, by omega, Lib.hid ⟨S5.out, Nat.le_trans HK.out.2.2 (by have := HH.out.2; omega)⟩⟩
        case measure => simp [intOf]; omega
      · have hltI : ¬ (i : Int) < (ln : Int) := by omega
        have S5 := Lib.hid HH.out.1
        have HDN := Lib.hid (show S.done.length ≤ 50 by have := HH.out.2; omega)
        have hnil := eql_nil15
        clear HH hlt
        obtain ⟨ek0, hek0⟩ : ∃ e, e = S.ek := ⟨_, rfl⟩
        obtain ⟨ec0, hec0⟩ : ∃ e, e = S.ec := ⟨_, rfl⟩
        have HEC := Lib.hid (And.intro hek0 hec0)
        obtain ⟨is0, his0⟩ : ∃ b, b = (S.ek != 0) := ⟨_, rfl⟩
        have HIS := Lib.hid his0
        clear hek0 hec0 his0
        have HEN : Hid (∀ (W : World) (tb : Nat), Spaces w w.heap.size W [.box w.heap.size #[.slice DA dn dc, .slice FA fn fc] 25, .sp sb S, .sp tb S] → Calls Tryz.prog 29 #[.pointer (some ⟨sb, 0, none⟩)] W (SpsDone w w.heap.size [.box w.heap.size #[.slice DA dn dc, .slice FA fn fc] 25, .sp sb S, .sp tb S] (.tuple #[.agg #[.int .i64 ek0, .int .i64 ec0], .bool is0]))) := Lib.hid (fun W tb hs => by
          have hz := sp_end hs (i := 1) rfl
          rw [← HIS.out, ← HEC.out.1, ← HEC.out.2] at hz
          exact hz)
        go_wp2_with (first
          | (go_at_call 20; (with_reducible refine (sp_copy S5.out (i := 1) rfl).mono ?_); rintro e w6 ⟨tb, rfl, hs⟩; have S6 := Lib.hid (show Spaces w w.heap.size w6 [.box w.heap.size #[.slice DA dn dc, .slice FA fn fc] 25, .sp sb S, .sp tb S] from hs); clear hs)
          | (go_at_call 29; (with_reducible refine (HEN.out _ _ S6.out).mono ?_); rintro e w7 ⟨rfl, hs⟩; have S7 := Lib.hid hs; clear hs)
          | (go_at_call 21; obtain ⟨w8, hw8⟩ : ∃ w8, w8 = w7.alloc (.cells #[.int .i64 ek0, .int .i64 ec0] 45) := ⟨_, rfl⟩; obtain ⟨eb, heb⟩ : ∃ eb, eb = w7.heap.size := ⟨_, rfl⟩; rw [← hw8, ← heb]; have S8 := Lib.hid (show Spaces w w.heap.size w8 [.box w.heap.size #[.slice DA dn dc, .slice FA fn fc] 25, .sp sb S, .sp tb S, .box eb #[.int .i64 ek0, .int .i64 ec0] 45] from by rw [hw8, heb]; exact S7.out.addBox _ _); clear hw8 heb; have HSA := Lib.hid (sp_same S8.out (i := 2) (j := 1) rfl rfl (sameSp_self S)); (with_reducible refine HSA.out.mono ?_); rintro e w9 ⟨rfl, hs⟩; have S9 := Lib.hid (show Spaces w w.heap.size w9 [.box w.heap.size #[.slice DA dn dc, .slice FA fn fc] 25, .sp sb S, .sp tb S, .box eb #[.int .i64 ek0, .int .i64 ec0] 45] from hs); clear hs))
        go_loopw [18] (fun v18 wr => ∃ (j : Nat) (Z : SpV), v18 = .int .i64 j ∧ j ≤ kn ∧ Hid (Spaces w w.heap.size wr [.box w.heap.size #[.slice DA dn dc, .slice FA fn fc] 25, .sp sb Z, .sp tb Z, .box eb #[.int .i64 ek0, .int .i64 ec0] 45] ∧ Z.done.length ≤ 50 + j ∧ (S.ek ≠ 0 → Z.ek = S.ek ∧ Z.ec = S.ec))) (fun v18 _ => kn - (intOf v18).toNat)
        case atStart => exact ⟨0, S, rfl, by omega, Lib.hid ⟨S9.out, HDN.out, fun _ => ⟨rfl, rfl⟩⟩⟩
        case round =>
          obtain ⟨j, Z, rfl, hj2, HZ⟩ := hrel
          by_cases hlt2 : j < kn
          · obtain ⟨pb, pof, hpe, hpc, hpb, K, R, N, B, V, X, xn, c, xs, E, C, hA, hok, hcell⟩ := act_at15 HKA.out HN.out.2 hlt2
            subst hpe
            have HCE := Lib.hid (fun (W : World) (hb : Below w.heap.size w W) => hcell W hb)
            obtain ⟨c0, c1, c2, c3, c4, c5, c6, c7⟩ := hcell wr HZ.out.1.bel
            have HAC : Hid (∀ (W : World) (Z1 Z2 : SpV), Spaces w w.heap.size W [.box w.heap.size #[.slice DA dn dc, .slice FA fn fc] 25, .sp sb Z1, .sp tb Z2, .box eb #[.int .i64 ek0, .int .i64 ec0] 45] → Z1.done.length ≤ 1000 → Calls Tryz.prog 46 #[.pointer (some ⟨sb, 0, none⟩), .agg #[.int .i64 K, .int .i64 R, .int .i64 N, .int .i64 B, .int .u64 V, .slice X xn c, .int .i64 E, .int .i64 C]] W (SpsDone w w.heap.size [.box w.heap.size #[.slice DA dn dc, .slice FA fn fc] 25, .sp sb (Z1.actS (k.getD j .zero)), .sp tb Z2, .box eb #[.int .i64 ek0, .int .i64 ec0] 45] (.tuple #[]))) := Lib.hid (fun W Z1 Z2 hs hd => by
              have hact := act15 hs (i := 1) rfl (by omega) _ (hok.below hs.bel (Nat.le_refl _))
              rw [hA] at hact ⊢
              exact hact)
            have HAD : Hid (∀ (W : World) (Z1 Z2 : SpV), Spaces w w.heap.size W [.box w.heap.size #[.slice DA dn dc, .slice FA fn fc] 25, .sp sb Z1, .sp tb Z2, .box eb #[.int .i64 ek0, .int .i64 ec0] 45] → Z2.done.length ≤ 1000 → Calls Tryz.prog 46 #[.pointer (some ⟨tb, 0, none⟩), .agg #[.int .i64 K, .int .i64 R, .int .i64 N, .int .i64 B, .int .u64 V, .slice X xn c, .int .i64 E, .int .i64 C]] W (SpsDone w w.heap.size [.box w.heap.size #[.slice DA dn dc, .slice FA fn fc] 25, .sp sb Z1, .sp tb (Z2.actS (k.getD j .zero)), .box eb #[.int .i64 ek0, .int .i64 ec0] 45] (.tuple #[]))) := Lib.hid (fun W Z1 Z2 hs hd => by
              have hact := act15 hs (i := 2) rfl (by omega) _ (hok.below hs.bel (Nat.le_refl _))
              rw [hA] at hact ⊢
              exact hact)
            have HKP := Lib.hid (actS_keep Z (k.getD j .zero))
            have HEP : Hid (S.ek ≠ 0 → (Z.actS (k.getD j .zero)).ek = S.ek ∧ (Z.actS (k.getD j .zero)).ec = S.ec) := Lib.hid (fun h => by
              obtain ⟨e1, e2⟩ := HZ.out.2.2 h
              obtain ⟨f1, f2⟩ := actS_ended (S := Z) (by rw [e1]; exact h) (k.getD j .zero)
              exact ⟨f1.trans e1, f2.trans e2⟩)
            obtain ⟨ZA, hZA⟩ : ∃ ZA, ZA = Z.actS (k.getD j .zero) := ⟨_, rfl⟩
            have HA1 := Lib.hid (HAC.out _ Z Z HZ.out.1 (by have := HZ.out.2.1; omega))
            have HA2 : Hid (∀ W, Spaces w w.heap.size W [.box w.heap.size #[.slice DA dn dc, .slice FA fn fc] 25, .sp sb ZA, .sp tb Z, .box eb #[.int .i64 ek0, .int .i64 ec0] 45] → Calls Tryz.prog 46 #[.pointer (some ⟨tb, 0, none⟩), .agg #[.int .i64 K, .int .i64 R, .int .i64 N, .int .i64 B, .int .u64 V, .slice X xn c, .int .i64 E, .int .i64 C]] W (SpsDone w w.heap.size [.box w.heap.size #[.slice DA dn dc, .slice FA fn fc] 25, .sp sb ZA, .sp tb ZA, .box eb #[.int .i64 ek0, .int .i64 ec0] 45] (.tuple #[]))) := Lib.hid (fun W hs => by
              have hz := HAD.out W ZA Z hs (by have := HZ.out.2.1; omega)
              rw [← hZA] at hz
              exact hz)
            rw [← hZA] at HA1 HKP HEP
            have hltI : (j : Int) < (kn : Int) := by omega
            have HZD := Lib.hid (show ZA.done.length ≤ 50 + (j + 1) from Nat.le_trans HKP.out.2.2 (by have := HZ.out.2.1; omega))
            clear hcell hok hA hpb hZA HAC HAD HKP HZ
            go_wp2_with (first
              | (go_at_call 46; (with_reducible refine HA1.out.mono ?_); rintro e wa ⟨rfl, hs⟩; have SA := Lib.hid hs; obtain ⟨a0, a1, a2, a3, a4, a5, a6, a7⟩ := HCE.out wa hs.bel; clear hs)
              | (go_at_call 46; (with_reducible refine (HA2.out _ SA.out).mono ?_); rintro e wb ⟨rfl, hs⟩; have SB := Lib.hid hs; have HSM := Lib.hid (sp_same hs (i := 2) (j := 1) rfl rfl (sameSp_self ZA)); clear hs)
              | (go_at_call 21; (with_reducible refine HSM.out.mono ?_); rintro e wc ⟨rfl, hs⟩; have SC := Lib.hid (show Spaces w w.heap.size wc [.box w.heap.size #[.slice DA dn dc, .slice FA fn fc] 25, .sp sb ZA, .sp tb ZA, .box eb #[.int .i64 ek0, .int .i64 ec0] 45] from hs); clear hs))
            go_roundw
            case rel => exact ⟨j + 1, ZA, by go_num, by omega, Lib.hid ⟨SC.out, HZD.out, HEP.out⟩⟩
            case measure => simp [intOf]; omega
          · have hltI : ¬ (j : Int) < (kn : Int) := by omega
            have HEZ := Lib.hid (sp_end HZ.out.1 (i := 1) rfl)
            clear hlt2
            obtain ⟨zk, hzk⟩ : ∃ e, e = Z.ek := ⟨_, rfl⟩
            obtain ⟨zc, hzc⟩ : ∃ e, e = Z.ec := ⟨_, rfl⟩
            rw [← hzk, ← hzc] at HEZ
            have hst := HZ.out.2.2
            rw [← hzk, ← hzc, ← HEC.out.1, ← HEC.out.2] at hst
            have hbx := HZ.out.1.boxAt (i := 3) rfl
            have HBX := Lib.hid (fun (W : World) (hb : Spaces w w.heap.size W [.box w.heap.size #[.slice DA dn dc, .slice FA fn fc] 25, .sp sb Z, .sp tb Z, .box eb #[.int .i64 ek0, .int .i64 ec0] 45]) => cells2_14 (hb.boxAt (i := 3) rfl))
            have HIS2 : Hid (is0 = (ek0 != 0)) := Lib.hid (HIS.out.trans (by rw [← HEC.out.1]))
            clear hzk hzc hbx
            by_cases hz : ek0 = 0
            · obtain rfl : is0 = false := by rw [HIS2.out, hz]; rfl
              have hz2 := Lib.hid hz
              clear hz hst
              go_wp2_with (go_at_call 29; (with_reducible refine HEZ.out.mono ?_); rintro e wd ⟨rfl, hs⟩; have SD := Lib.hid hs; clear hs)
              go_ret
              exact ⟨rfl, (SD.out.grow (below_one14 wd _)).bel⟩
            · obtain ⟨rfl, rfl⟩ := hst hz
              obtain rfl : is0 = true := by rw [HIS2.out]; simpa using hz
              have hzb : (zk != 0) = true := by simpa using hz
              have hq := fun w => eqlE_same w zk zc
              clear hz hst
              rw [hzb] at HEZ
              go_wp2_with (go_at_call 29; (with_reducible refine HEZ.out.mono ?_); rintro e wd ⟨rfl, hs⟩; have SD := Lib.hid hs; obtain ⟨x0, x1⟩ := HBX.out _ (hs.grow (below_one14 wd (.cells #[.int .i64 zk, .int .i64 zc] 45))); clear hs)
              go_ret
              exact ⟨rfl, (SD.out.grow (below_one14 wd _)).bel⟩
  · have HE := Lib.hid hE
    obtain ⟨xe, hxe⟩ : ∃ xe, xe = newE15 m (16 * (1 + (pk : Int))) 20 := ⟨_, rfl⟩
    have HXE : Hid (xe = newE15 m (16 * (1 + (pk : Int))) 20) := Lib.hid hxe
    rw [← hxe] at hE
    have hxb : (xe != 0) = true := by simpa using hE
    clear hxe hE
    go_enter Tryz.func8, Tryz.ntmps8
    go_wp2_with (first
      | (rw [← HW.out])
      | (go_at_call 12; (with_reducible refine (awake15 _).mono ?_); rintro e w1 ⟨rfl, hb⟩; have S1 := Lib.hid (S0.out.grow hb); obtain ⟨b0, b1⟩ := cells2_14 (S1.out.boxAt (i := 0) rfl); clear hb)
      | (go_at_call 25; (with_reducible refine (HP.out _).mono ?_); rintro e w' ⟨rfl, rfl⟩)
      | (go_at_call 10; (with_reducible refine (HLG.out _ S1.out.bel).mono ?_); rintro e w2 ⟨rfl, hb⟩; have S2 := Lib.hid (S1.out.grow hb); obtain ⟨b0, b1⟩ := cells2_14 (S2.out.boxAt (i := 0) rfl); clear hb)
      | (go_at_call 11; (with_reducible refine (HLL.out _ S2.out.bel).mono ?_); rintro e w' ⟨rfl, rfl⟩)
      | (go_at_call 11; (with_reducible refine (HLK.out _ S2.out.bel).mono ?_); rintro e w' ⟨rfl, rfl⟩)
      | (go_at_call 15; (with_reducible refine (HNEW.out _ S2.out).mono ?_); rintro e w4 hn; have hn1 := hn.2.resolve_right (fun q => HE.out q.1); rw [← HXE.out] at hn1; obtain ⟨_, rfl, hs⟩ := hn1; have S4 := Lib.hid hs; clear hn hs))
    go_ret
    exact ⟨rfl, S4.out.bel⟩
end
theorem again15 (D F IN V K : Value) (data inp : List Int) (fs : List FunV) (l k : List ActS) (w : World) (hD : IsBytes w w.heap.size D data) (hF : IsFuns w w.heap.size F fs) (hI : IsBytes w w.heap.size IN inp) (hV : IsActS w w.heap.size V l) (hK : IsActS w w.heap.size K k) (mm : Int) (hm : InI mm) :
    Calls Tryz.prog 8 #[.agg #[D, F], .int .i64 mm, IN, V, K] w (Makes w (.bool true)) := by
  obtain ⟨DA, dc, rfl⟩ := hD.len
  obtain ⟨FA, fc, rfl⟩ := hF.len
  obtain ⟨IA, ic, rfl⟩ := hI.len
  obtain ⟨LA, lc, rfl⟩ := hV.len
  obtain ⟨KA, kc, rfl⟩ := hK.len
  have h : AgainIn w data inp fs l k DA FA IA LA KA dc fc ic lc kc := ⟨hD, hF, hI, hV, hK⟩
  cases h1 : longM ⟨data, fs⟩ with
  | true => exact again15_none h mm hm (.inl h1)
  | false =>
    by_cases h2 : 100 < inp.length
    · exact again15_none h mm hm (.inr (.inl h2))
    · cases h3 : longS l with
      | true => exact again15_none h mm hm (.inr (.inr (.inl h3)))
      | false => cases h4 : longS k with
        | true => exact again15_none h mm hm (.inr (.inr (.inr h4)))
        | false => exact again15_main h mm hm h1 (Nat.le_of_not_lt h2) h3 h4
end Go.Proofs.YtkfdgpgildanbaaGreat
