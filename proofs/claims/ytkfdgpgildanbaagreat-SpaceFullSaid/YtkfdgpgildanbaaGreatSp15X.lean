/- SpaceFull's call. No condition but what each names. -/
import Derived.Test.YtkfdgpgildanbaaGreatSp15Q
import Derived.Test.YtkfdgpgildanbaaGreatSp15W
import Derived.Test.YtkfdgpgildanbaaGreatKit08B
import Derived.BigQuiet
import Derived.Deep.QuietTactic
namespace Go.Proofs.YtkfdgpgildanbaaGreat
open Go.RowKit Go.Shelf
set_option linter.unusedVariables false
set_option linter.unusedSimpArgs false
theorem int_info15 : (Tryz.prog.info? 3).map (fun i => (i.zero, i.size, i.bytes)) = some (some (.int .i64 0), 1, 8) := by kernel_rfl
theorem mk_ints15 (n : Nat) (hn : n ≤ 100000) (w : World) : (Instr.makeSlice 43 (.int .i64 (n : Int)) (.int .i64 (n : Int))).run Tryz.prog w = .ok (.slice (some ⟨w.heap.size, 0, none⟩) n n) (w.alloc (.cells (Array.replicate n (.int .i64 0)) 3)) := by
  obtain ⟨i, h1, hr⟩ : ∃ i, Tryz.prog.info? 3 = some i ∧ (i.zero, i.size, i.bytes) = (some (.int .i64 0), 1, 8) := by
    have h := int_info15
    cases hx : Tryz.prog.info? 3 with
    | none => rw [hx] at h; cases h
    | some i => rw [hx] at h; exact ⟨i, rfl, by simpa using h⟩
  simp only [Prod.mk.injEq] at hr
  obtain ⟨h2, h3, h4⟩ := hr
  have h := run_make (P := Tryz.prog) w 43 3 i _ Tryz.underlying43 h1 h2 .i64 .i64 (n : Int) (n : Int) (by omega) (Int.le_refl _) (by rw [h4]; omega) (by omega)
  rw [h3] at h
  have e : madeCells (Value.int .i64 0).cells (n * 1) = Array.replicate n (.int .i64 0) := by
    apply Array.ext
    · simp [madeCells]
    · intro j h1 h2
      simp [madeCells, Value.cells, Nat.mod_one]
  rw [← e]
  simpa using h
theorem zeros_arg15 (W : World) (lo n : Nat) (hn : n ≤ 100) : ArgsIn lo (W.alloc (.cells (Array.replicate n (.int .i64 0)) 3)) (.slice (some ⟨W.heap.size, 0, none⟩) n n) (List.replicate n 0) := by
  refine ⟨by intro x hx; rw [List.eq_of_mem_replicate hx]; unfold InI; simp, .inr ⟨0, n, ⟨⟨by simp, .inr ⟨W.heap.size, n, Array.replicate n (.int .i64 0), rfl, Nat.zero_le _, heap_alloc_new _ _, Nat.le_refl _, by unfold maxLen; omega, by simp, by simp⟩⟩, fun g cur t fr hg hx u hu => ?_⟩⟩⟩
  simp [Value.ownBlock] at hg
  subst hg
  rw [heap_alloc_new] at hx
  injection hx with hx
  injection hx with hx _ _
  subst hx
  simp at hu
  exact ⟨0, hu.2⟩
theorem Spaces.cellSet2 {w W : World} {lo i b : Nat} {l : List It} {x0 x1 : Value} {t : TypeId} (h : Spaces w lo W l) (hi : l[i]? = some (.cell b #[x0, x1] t)) (y0 y1 : Value) : Spaces w lo ((W.setCell ⟨b, 0, none⟩ y0).setCell ⟨b, 1, none⟩ y1) (l.set i (.cell b #[y0, y1] t)) := by
  have h0 := h.cellAt hi
  have h1 := heap_setCell_same W b 0 _ _ y0 h0
  have h2 := heap_setCell_same _ b 1 _ _ y1 h1
  exact h.cellMove hi (((But.refl (fun k => k = b) W).setCell (p := ⟨b, 0, none⟩) (.inl rfl) _).setCell (p := ⟨b, 1, none⟩) (.inl rfl) _) h2
section
variable {w : World} {data ls : List Int} {fs : List FunV} {DA FA LA : Option Addr} {dc fc lc : Nat}
set_option maxRecDepth 100000
set_option maxHeartbeats 16000000
/-- What is said in advance of all cases. -/
structure FullIn (w : World) (data : List Int) (fs : List FunV) (ls : List Int) (DA FA LA : Option Addr) (dc fc lc : Nat) : Prop where
  dat : IsBytes w w.heap.size (.slice DA data.length dc) data
  funs : IsFuns w w.heap.size (.slice FA fs.length fc) fs
  nums : IsNums .i64 w w.heap.size (.slice LA ls.length lc) ls
theorem full15_none (h : FullIn w data fs ls DA FA LA dc fc lc) (memory : Int) (hm : InI memory) (hl : longM ⟨data, fs⟩ = true ∨ fs.length = 0 ∨ 300 < ls.length) :
    Calls Tryz.prog 9 #[.agg #[.slice DA data.length dc, .slice FA fs.length fc], .int .i64 memory, .slice LA ls.length lc] w (Makes w (.bool true)) := by
  have HD := Lib.hid h.dat
  have HF := Lib.hid h.funs
  obtain ⟨dn, hdn⟩ : ∃ dn, dn = data.length := ⟨_, rfl⟩
  obtain ⟨fn, hfn⟩ : ∃ fn, fn = fs.length := ⟨_, rfl⟩
  obtain ⟨ln, hln⟩ : ∃ ln, ln = ls.length := ⟨_, rfl⟩
  have hfl := h.funs.1
  have hll := h.nums.1
  unfold maxLen at hfl hll
  rw [← hdn] at HD ⊢
  rw [← hfn] at HF hl hfl ⊢
  rw [← hln] at hl hll ⊢
  have hb := below_one14 w (.cells #[.slice DA dn dc, .slice FA fn fc] 25)
  have hx := heap_alloc_new w (.cells #[.slice DA dn dc, .slice FA fn fc] 25)
  obtain ⟨W0, hW0⟩ : ∃ W0, W0 = w.alloc (.cells #[.slice DA dn dc, .slice FA fn fc] 25) := ⟨_, rfl⟩
  rw [← hW0] at hb hx
  have HW := Lib.hid hW0
  have HB := Lib.hid hb
  have HX := Lib.hid hx
  have HP := Lib.hid (fun W => pk_any memory 250 W (by decide) (by decide))
  have hpk := pk_bd memory (n := 250) (by decide)
  obtain ⟨pk, hpe⟩ : ∃ pk, pk = pkV memory 250 := ⟨_, rfl⟩
  rw [← hpe] at HP hpk
  obtain ⟨lg, hlg⟩ : ∃ lg, lg = longM ⟨data, fs⟩ := ⟨_, rfl⟩
  have HLG : Hid (∀ W, Below w.heap.size w W → Calls Tryz.prog 10 #[.agg #[.slice DA dn dc, .slice FA fn fc]] W (Makes W (.bool lg))) := Lib.hid (fun W hb => by rw [hlg]; exact longModule_any _ _ _ _ W (HD.out.grow hb) (HF.out.grow hb))
  rw [← hlg] at hl
  clear h hb hx hW0 hpe hlg hdn hfn hln hm
  cases lg
  · by_cases h0 : fn = 0
    · subst h0
      clear hl
      go_enter Tryz.func9, Tryz.ntmps9
      (go_wp2_with (first
        | (rw [← HW.out])
        | (go_at_call 12; (with_reducible refine (awake15 _).mono ?_); rintro e w1 ⟨rfl, hb⟩; have HB1 := Lib.hid (HB.out.trans (hb.mono HB.out.size)); obtain ⟨b0, b1⟩ := cells2_14 ((hb.block _ (heap_lt HX.out)).trans HX.out); have HX1 := Lib.hid ((hb.block _ (heap_lt HX.out)).trans HX.out); clear hb)
        | (go_at_call 25; (with_reducible refine (HP.out _).mono ?_); rintro e w' ⟨rfl, rfl⟩)
        | (go_at_call 10; (with_reducible refine (HLG.out _ HB1.out).mono ?_); rintro e w2 ⟨rfl, hb⟩; have HB2 := Lib.hid (HB1.out.trans (hb.mono HB1.out.size)); obtain ⟨d0, d1⟩ := cells2_14 ((hb.block _ (heap_lt HX1.out)).trans HX1.out); clear hb)))
      go_ret
      exact ⟨rfl, HB2.out⟩
    · have hlt : 300 < ln := by rcases hl with c | c | c; cases c; exact absurd c h0; exact c
      have hlI : (300 : Int) < (ln : Int) := by omega
      have h0b : ((fn : Int) == 0) = false := by simp; omega
      clear hl hlt h0
      go_enter Tryz.func9, Tryz.ntmps9
      (go_wp2_with (first
        | (rw [← HW.out])
        | (go_at_call 12; (with_reducible refine (awake15 _).mono ?_); rintro e w1 ⟨rfl, hb⟩; have HB1 := Lib.hid (HB.out.trans (hb.mono HB.out.size)); obtain ⟨b0, b1⟩ := cells2_14 ((hb.block _ (heap_lt HX.out)).trans HX.out); have HX1 := Lib.hid ((hb.block _ (heap_lt HX.out)).trans HX.out); clear hb)
        | (go_at_call 25; (with_reducible refine (HP.out _).mono ?_); rintro e w' ⟨rfl, rfl⟩)
        | (go_at_call 10; (with_reducible refine (HLG.out _ HB1.out).mono ?_); rintro e w2 ⟨rfl, hb⟩; have HB2 := Lib.hid (HB1.out.trans (hb.mono HB1.out.size)); obtain ⟨d0, d1⟩ := cells2_14 ((hb.block _ (heap_lt HX1.out)).trans HX1.out); clear hb)))
      go_ret
      exact ⟨rfl, HB2.out⟩
  · clear hl
    go_enter Tryz.func9, Tryz.ntmps9
    (go_wp2_with (first
      | (rw [← HW.out])
      | (go_at_call 12; (with_reducible refine (awake15 _).mono ?_); rintro e w1 ⟨rfl, hb⟩; have HB1 := Lib.hid (HB.out.trans (hb.mono HB.out.size)); obtain ⟨b0, b1⟩ := cells2_14 ((hb.block _ (heap_lt HX.out)).trans HX.out); have HX1 := Lib.hid ((hb.block _ (heap_lt HX.out)).trans HX.out); clear hb)
      | (go_at_call 25; (with_reducible refine (HP.out _).mono ?_); rintro e w' ⟨rfl, rfl⟩)
      | (go_at_call 10; (with_reducible refine (HLG.out _ HB1.out).mono ?_); rintro e w2 ⟨rfl, hb⟩; have HB2 := Lib.hid (HB1.out.trans (hb.mono HB1.out.size)); obtain ⟨d0, d1⟩ := cells2_14 ((hb.block _ (heap_lt HX1.out)).trans HX1.out); clear hb)))
    go_ret
    exact ⟨rfl, HB2.out⟩
theorem full15_main (h : FullIn w data fs ls DA FA LA dc fc lc) (memory : Int) (hm : InI memory) (hlong : longM ⟨data, fs⟩ = false) (hpos : 0 < fs.length) (hll : ls.length ≤ 300) (hin : ∀ x ∈ ls, InI x) :
    Calls Tryz.prog 9 #[.agg #[.slice DA data.length dc, .slice FA fs.length fc], .int .i64 memory, .slice LA ls.length lc] w (Makes w (.bool true)) := by
  obtain ⟨g1, g2, g3⟩ := long_few hlong
  simp only at g1 g2 g3
  have HD := Lib.hid h.dat
  have HF := Lib.hid h.funs
  have HCL := Lib.hid (fun f hf => (⟨Nat.le_trans (g3 f hf).1 (by decide), fun y hy => Nat.le_trans ((g3 f hf).2 y hy) (by decide)⟩ : f.code.length ≤ 1000000 ∧ ∀ y ∈ f.code, y.args.length ≤ 1000000))
  obtain ⟨fb, fo, fc', hfe, hfc, hfb, hrow⟩ := h.funs.plain hpos
  injection hfe with hfe1 hfe2 hfe3
  subst hfe1 hfe3
  have HR : Hid (∀ i, i < fs.length → ∀ W, Below w.heap.size w W → W.cell? ⟨fb, fo + i * 4, none⟩ = some (.int .i64 (fnV ⟨data, fs⟩ i).params) ∧ W.cell? ⟨fb, fo + i * 4 + 1, none⟩ = some (.int .i64 (fnV ⟨data, fs⟩ i).regs) ∧ W.cell? ⟨fb, fo + i * 4 + 2, none⟩ = some (.int .i64 (fnV ⟨data, fs⟩ i).area)) := Lib.hid (fun i hi W hb => by
    obtain ⟨C, _, hc⟩ := hrow i hi
    exact ⟨by rw [hb.cell (p := ⟨fb, fo + i * 4, none⟩) hfb]; exact hc 0 (by decide), by rw [hb.cell (p := ⟨fb, fo + i * 4 + 1, none⟩) hfb]; exact hc 1 (by decide), by rw [hb.cell (p := ⟨fb, fo + i * 4 + 2, none⟩) hfb]; exact hc 2 (by decide)⟩)
  have HFB : Hid (∀ i, i < fs.length → InI (fnV ⟨data, fs⟩ i).params ∧ InI (fnV ⟨data, fs⟩ i).regs ∧ InI (fnV ⟨data, fs⟩ i).area) := Lib.hid (fun i hi => by
    have := funs_getD h.funs hi
    exact ⟨this.params, this.regs, this.area⟩)
  obtain ⟨m, hme⟩ : ∃ m : ModV, m = ⟨data, fs⟩ := ⟨_, rfl⟩
  have HLN : Hid (m.funcs.length = fs.length ∧ m.data.length = data.length) := Lib.hid (by rw [hme]; exact ⟨rfl, rfl⟩)
  have HPK := Lib.hid (fun W => pk_any memory 250 W (by decide) (by decide))
  have hpk := pk_bd memory (n := 250) (by decide)
  obtain ⟨pk, hpe⟩ : ∃ pk : Nat, pkV memory 250 = (pk : Int) := ⟨(pkV memory 250).toNat, by omega⟩
  rw [hpe] at HPK hpk
  have hb := below_one14 w (.cells #[.slice DA data.length dc, .slice (some ⟨fb, fo, none⟩) fs.length fc] 25)
  have hs0 := (sp_nilSt w).addBox #[.slice DA data.length dc, .slice (some ⟨fb, fo, none⟩) fs.length fc] 25
  have HNEW : Hid (∀ W, Spaces w w.heap.size W [.box w.heap.size #[.slice DA data.length dc, .slice (some ⟨fb, fo, none⟩) fs.length fc] 25] → Calls Tryz.prog 15 #[.agg #[.slice DA data.length dc, .slice (some ⟨fb, fo, none⟩) fs.length fc], .int .i64 (16 * (1 + (pk : Int))), .slice none 0 0, .int .i64 0] W (NewSps w w.heap.size W [.box w.heap.size #[.slice DA data.length dc, .slice (some ⟨fb, fo, none⟩) fs.length fc] 25] m (16 * (1 + (pk : Int))) [] 0)) := Lib.hid (fun W hs => by
    rw [hme]
    exact sp_new hs _ _ (.slice none 0 0) data [] fs _ 0 (HD.out.grow hs.bel) (HF.out.grow hs.bel) ⟨by simp, by unfold maxLen; simp, .inl ⟨rfl, rfl⟩⟩ (by unfold InI; omega) (by unfold InI; simp) (by simp) HCL.out)
  have HLG : Hid (∀ W, Below w.heap.size w W → Calls Tryz.prog 10 #[.agg #[.slice DA data.length dc, .slice (some ⟨fb, fo, none⟩) fs.length fc]] W (Makes W (.bool false))) := Lib.hid (fun W hb => by rw [← hlong]; exact longModule_any _ _ _ _ W (HD.out.grow hb) (HF.out.grow hb))
  rw [← hme] at HR HFB
  obtain ⟨dn, hdn⟩ : ∃ dn, dn = data.length := ⟨_, rfl⟩
  obtain ⟨fn, hfn⟩ : ∃ fn, fn = fs.length := ⟨_, rfl⟩
  obtain ⟨ln, hln⟩ : ∃ ln, ln = ls.length := ⟨_, rfl⟩
  rw [← hdn] at HD HNEW HLG HLN hb hs0 g1 ⊢
  rw [← hfn] at HF HR HFB HNEW HLG HLN hb hs0 hpos g2 ⊢
  rw [← hln] at hll ⊢
  obtain ⟨W0, hW0⟩ : ∃ W0, W0 = w.alloc (.cells #[.slice DA dn dc, .slice (some ⟨fb, fo, none⟩) fn fc] 25) := ⟨_, rfl⟩
  rw [← hW0] at hb hs0
  have HW := Lib.hid hW0
  have S0 := Lib.hid hs0
  have HIN := Lib.hid hin
  have HNU := Lib.hid h.nums
  have HLN2 := Lib.hid hln
  have HD8 : Hid (floorE (dn : Int) = 0 ∧ floorV (dn : Int) = floV m) := Lib.hid ⟨by unfold floorE; rw [if_pos (by omega)], by unfold floV; rw [HLN.out.2]⟩
  have HFL := Lib.hid (fun W => floor_any (dn : Int) W (by omega) (by omega))
  rw [HD8.out.1, HD8.out.2] at HFL
  have h0b : ((fn : Int) == 0) = false := by simp; omega
  have hlI : ¬ (300 : Int) < (ln : Int) := by omega
  have hfnI : (0 : Int) < (fn : Int) := by omega
  clear h hb hs0 hW0 hme hdn hfn hln hm hpe hlong hin g3 hrow hfb hfc HD HF HCL
  by_cases hE : newE15 m (16 * (1 + (pk : Int))) 0 = 0
  · go_enter Tryz.func9, Tryz.ntmps9
    go_upto_region 7 with (first
      | (rw [← HW.out])
      | (go_at_call 12; (with_reducible refine (awake15 _).mono ?_); rintro e w1 ⟨rfl, hb⟩; have S1 := Lib.hid (S0.out.grow hb); obtain ⟨b0, b1⟩ := cells2_14 (S1.out.boxAt (i := 0) rfl); clear hb)
      | (go_at_call 25; (with_reducible refine (HPK.out _).mono ?_); rintro e w' ⟨rfl, rfl⟩)
      | (go_at_call 10; (with_reducible refine (HLG.out _ S1.out.bel).mono ?_); rintro e w2 ⟨rfl, hb⟩; have S2 := Lib.hid (S1.out.grow hb); obtain ⟨d0, d1⟩ := cells2_14 (S2.out.boxAt (i := 0) rfl); clear hb)
      | (go_at_call 15; (with_reducible refine (HNEW.out _ S2.out).mono ?_); rintro e w3 hn; obtain ⟨sb, rfl, hs⟩ := (hn.2.resolve_left (fun q => q.1 hE)).2; have S3 := Lib.hid hs; clear hn hs; obtain ⟨f0, f1⟩ := cells2_14 (S3.out.boxAt (i := 0) rfl); obtain ⟨p0, p1, p2⟩ := HR.out 0 hpos w3 S3.out.bel; simp only [Nat.zero_mul, Nat.add_zero] at p0 p1 p2)
      | (go_at_call 50; (with_reducible refine (HFL.out _).mono ?_); rintro e w' ⟨rfl, rfl⟩))
    clear b0 b1 d0 d1 S0 S1 S2
    have HSZ := Lib.hid (fun W => size_any (fnV m 0).regs (fnV m 0).area W (HFB.out 0 hpos).2.1.1 (HFB.out 0 hpos).2.1.2 (HFB.out 0 hpos).2.2.1 (HFB.out 0 hpos).2.2.2)
    go_quiet ((go_at_call 51; with_reducible exact quiet_left (HSZ.out _)))
    obtain ⟨W4, hW4⟩ : ∃ W4, W4 = w3.drewN nq := ⟨_, rfl⟩
    have S4 := Lib.hid (S3.out.grow (below_drewN14 hW4))
    rw [← hW4]
    clear hW4 f0 f1 p0 p1 p2 S3
    have htn : (16 * (1 + (pk : Int))).toNat = 16 * (1 + pk) := by omega
    have hcast : (16 * (1 + (pk : Int))) = ((16 * (1 + pk) : Nat) : Int) := by omega
    obtain ⟨q1, q2, q3, q4⟩ := full_new (m := m) (n := 16 * (1 + pk)) (inp := []) (fuel := 0) (by rw [← hcast]; exact hE) (by simp)
    obtain ⟨T, hT⟩ : ∃ T, T = newS m (16 * (1 + pk)) [] 0 := ⟨_, rfl⟩
    rw [htn] at S4
    rw [← hT] at S4 q1 q2 q3 q4
    obtain ⟨z1, z2, z3, z4, z5, z6, z7⟩ := newE15_zero hE
    have hfx := flo_bd z6
    have hfs : fsE (fnV m 0).regs (fnV m 0).area = 0 := (fs_fn z6 (by rw [HLN.out.1]; exact hpos)).2.2.2
    have hfb := fs_bd (fnV m 0).regs (fnV m 0).area
    rw [hfs]
    obtain ⟨nn, hnn⟩ : ∃ nn : Nat, nn = 16 * (1 + pk) := ⟨_, rfl⟩
    rw [← hnn] at hcast q1 q2 hT
    have hfe : fsV (fnV m 0).regs (fnV m 0).area = fsM m 0 := rfl
    rw [hfe] at hfb ⊢
    have Q1 := Lib.hid q1
    have Q3 := Lib.hid q3
    have Q4 := Lib.hid q4
    have HZ6 := Lib.hid z6
    have HFX := Lib.hid hfx
    have HNN := Lib.hid hnn
    obtain ⟨fl, hfl⟩ : ∃ fl, fl = floV m := ⟨_, rfl⟩
    rw [← hfl] at z7 q2 hfx ⊢
    obtain ⟨sm, hsm⟩ : ∃ sm, sm = fsM m 0 := ⟨_, rfl⟩
    rw [← hsm] at q2 hfb ⊢
    rw [hcast] at z7 z4 ⊢
    have HFLO := Lib.hid hfl
    have HSM := Lib.hid hsm
    clear q1 q3 q4 hT hfs hfe hE htn hcast z1 z2 z3 z5 z6 hnn hfl hsm
    by_cases hbig : sm > (nn : Int) - fl
    · rw [if_pos hbig] at q2
      have he := sp_end S4.out (i := 1) rfl
      rw [q2] at he
      have HE := Lib.hid he
      clear he q2
      have hb1 : decide ((nn : Int) - fl < sm) = true := by simp; omega
      go_wp2_with (go_at_call 29; (with_reducible refine HE.out.mono ?_); rintro e w5 ⟨rfl, hs⟩; have S5 := Lib.hid hs; clear hs)
      obtain ⟨W6, hW6⟩ : ∃ W6, W6 = w5.alloc (.cells #[.int .i64 3, .int .i64 T.ec] 45) := ⟨_, rfl⟩
      have S6 := Lib.hid (S5.out.grow (below_one14 w5 (.cells #[.int .i64 3, .int .i64 T.ec] 45)))
      rw [← hW6] at S6 ⊢
      clear hW6
      go_loopw [12, 15, 17, 18, 19, 20, 21, 22, 23] (fun _ v15 _ v18 _ _ _ _ _ wr => v15 = .bool true ∧ v18 = .int .i64 0 ∧ wr = W6) (fun _ _ _ _ _ _ _ _ _ _ => 0)
      case atStart => exact ⟨rfl, rfl, rfl⟩
      case round =>
        obtain ⟨rfl, rfl, rfl⟩ := hrel
        go_wp2
        all_goals (
          go_ret
          exact ⟨rfl, S6.out.bel⟩)
    · rw [if_neg hbig] at q2
      have he := sp_end S4.out (i := 1) rfl
      rw [q2] at he
      have HE := Lib.hid he
      clear he
      have Q2 := Lib.hid q2
      have hb1 : decide ((nn : Int) - fl < sm) = false := by simp; omega
      clear q2
      go_wp2_with (go_at_call 29; (with_reducible refine HE.out.mono ?_); rintro e w5 ⟨rfl, hs⟩; have S5 := Lib.hid hs; clear hs)
      have hs6 := S5.out.addCell #[.int .i64 0, .int .i64 T.ec] 45 (by decide) (by decide)
      obtain ⟨W6, hW6⟩ : ∃ W6, W6 = w5.alloc (.cells #[.int .i64 0, .int .i64 T.ec] 45) := ⟨_, rfl⟩
      obtain ⟨eb, heb⟩ : ∃ eb, eb = w5.heap.size := ⟨_, rfl⟩
      rw [← hW6, ← heb] at hs6 ⊢
      have S6 := Lib.hid hs6
      clear hs6 hW6 heb
      have HS := Lib.hid (show 0 ≤ sm ∧ sm ≤ (nn : Int) - fl by omega)
      have HNB := Lib.hid (show 16 ≤ fl ∧ nn ≤ 4000 from ⟨hfx.1, by have := HNN.out; omega⟩)
      go_loopw [12, 15, 17, 18, 19, 20, 21, 22, 23] (fun v12 v15 v17 v18 _ _ _ _ _ wr => ∃ (i k : Nat) (S : SpV) (sum : Int), v18 = .int .i64 i ∧ i ≤ ln ∧ v12 = .int .i64 sum ∧ v17 = .int .i64 k ∧ k < fn ∧ v15 = .bool (S.ek != 0) ∧ Hid (FullAt m nn S sum ∧ (S.ek = 0 → S.f = k ∧ sum ≤ (nn : Int) - fl) ∧ 0 ≤ sum ∧ sum ≤ 10000 ∧ Spaces w w.heap.size wr [.box w.heap.size #[.slice DA dn dc, .slice (some ⟨fb, fo, none⟩) fn fc] 25, .sp sb S, .cell eb #[.int .i64 S.ek, .int .i64 S.ec] 45])) (fun _ _ _ v18 _ _ _ _ _ _ => ln - (intOf v18).toNat)
      case atStart => exact ⟨0, 0, T, sm, rfl, by omega, rfl, rfl, hpos, by rw [Q2.out]; rfl, Lib.hid ⟨by rw [HSM.out]; exact Q1.out, fun _ => ⟨Q3.out, HS.out.2⟩, HS.out.1, by have := HS.out.2; have := HNB.out; omega, by have hz := S6.out; rw [Q2.out]; exact hz⟩⟩
      case round =>
        obtain ⟨i, k, S, sum, rfl, hi, rfl, rfl, hk, rfl, HH⟩ := hrel
        by_cases hlt : i < ln
        · by_cases hr : S.ek = 0
          · have hrb : (S.ek != 0) = false := by rw [hr]; rfl
            obtain ⟨fa, hrun, hs0, hs1, hsp⟩ := HH.out
            obtain ⟨hfk, hsr⟩ := hrun hr
            obtain ⟨lb, lof, lcap, hle, _, hlb, hlc⟩ := HNU.out.plain (by rw [← HLN2.out]; omega)
            injection hle with hle1 _ hle3
            subst hle1
            have hlc := hlc i (by rw [← HLN2.out]; exact hlt)
            obtain ⟨x, hx⟩ : ∃ x, x = ls.getD i 0 := ⟨_, rfl⟩
            rw [← hx] at hlc
            have hc0 : wr.cell? ⟨lb, lof + i, none⟩ = some (.int .i64 x) := by rw [hsp.bel.cell (p := ⟨lb, lof + i, none⟩) hlb]; exact hlc
            obtain ⟨b0, b1⟩ := cells2_14 (hsp.boxAt (i := 0) rfl)
            have HPI := Lib.hid (fun W => pk_any x (fn : Int) W (by omega) (by omega))
            have hpb := pk_bd x (n := (fn : Int)) (by omega)
            obtain ⟨t, ht⟩ : ∃ t : Nat, pkV x (fn : Int) = (t : Int) := ⟨(pkV x (fn : Int)).toNat, by omega⟩
            rw [ht] at HPI hpb
            have htf : t < fn := by omega
            have hltI : (i : Int) < (ln : Int) := by omega
            have htI : (t : Int) < (fn : Int) := by omega
            have FA := Lib.hid fa
            have FK := Lib.hid hfk
            have HR0 := Lib.hid hr
            have HSB := Lib.hid (And.intro hs0 hsr)
            have SP := Lib.hid hsp
            have HX := Lib.hid hx
            clear HH fa hrun hfk hr hs0 hs1 hsr hsp hlc hx ht hle3 hpb
            go_wp2
            go_quiet ((go_at_call 25; with_reducible exact quiet_left (HPI.out _)))
            obtain ⟨W7, hW7⟩ : ∃ W7, W7 = wr.drewN nq := ⟨_, rfl⟩
            have S7 := Lib.hid (SP.out.grow (below_drewN14 hW7))
            rw [← hW7]
            clear hW7 b0 b1 hc0 SP
            obtain ⟨b0, b1⟩ := cells2_14 (S7.out.boxAt (i := 0) rfl)
            obtain ⟨p0, p1, p2⟩ := HR.out t htf W7 S7.out.bel
            have HSZ := Lib.hid (fun W => size_any (fnV m t).regs (fnV m t).area W (HFB.out t htf).2.1.1 (HFB.out t htf).2.1.2 (HFB.out t htf).2.2.1 (HFB.out t htf).2.2.2)
            go_wp2
            go_quiet ((go_at_call 51; with_reducible exact quiet_left (HSZ.out _)))
            obtain ⟨W8, hW8⟩ : ∃ W8, W8 = W7.drewN nq := ⟨_, rfl⟩
            have S8 := Lib.hid (S7.out.grow (below_drewN14 hW8))
            rw [← hW8]
            clear hW8 b0 b1 p0 p1 p2 S7 HPI HSZ
            have hmt : t < m.funcs.length := by rw [HLN.out.1]; exact htf
            have hft := fs_fn HZ6.out hmt
            have hfe := hft.2.2.2
            have hfv : fsV (fnV m t).regs (fnV m t).area = fsM m t := rfl
            have hfb2 := fs_bd (fnV m t).regs (fnV m t).area
            rw [hfv] at hfb2
            rw [hfe, hfv]
            obtain ⟨st, hst⟩ : ∃ st, st = fsM m t := ⟨_, rfl⟩
            rw [← hst] at hfb2 ⊢
            have hpe := err_fn HZ6.out hmt
            obtain ⟨pn, hpn⟩ : ∃ pn : Nat, (fnV m t).params = (pn : Int) := ⟨(fnV m t).params.toNat, by omega⟩
            have hp8 : pn ≤ 8 := by omega
            have HDE := Lib.hid (sp_depth S8.out (i := 1) rfl)
            have hmk := mk_ints15 pn (by omega)
            have hce := FA.out.callE HR0.out hmt
            rw [hpn, Int.toNat_natCast] at hce
            obtain ⟨ce, hcE⟩ : ∃ ce, ce = S.callE t (List.replicate pn 0) 0 0 := ⟨_, rfl⟩
            rw [← hcE] at hce
            have HCE := Lib.hid hcE
            have HCA : Hid (∀ W, Spaces w w.heap.size W [.box w.heap.size #[.slice DA dn dc, .slice (some ⟨fb, fo, none⟩) fn fc] 25, .sp sb S, .cell eb #[.int .i64 S.ek, .int .i64 S.ec] 45] → Calls Tryz.prog 40 #[.pointer (some ⟨sb, 0, none⟩), .int .i64 (t : Int), .slice (some ⟨W.heap.size, 0, none⟩) pn pn, .int .i64 0, .int .i64 0] (W.alloc (.cells (Array.replicate pn (.int .i64 0)) 3)) (SpsDone w w.heap.size [.box w.heap.size #[.slice DA dn dc, .slice (some ⟨fb, fo, none⟩) fn fc] 25, .sp sb (S.callS t (List.replicate pn 0) 0 0), .cell eb #[.int .i64 S.ek, .int .i64 S.ec] 45] (.int .i64 ce))) := Lib.hid (fun W hs => by
              rw [HCE.out]
              exact sp_call (hs.grow (below_one14 W _)) (i := 1) rfl t 0 0 _ _ (by unfold InI; omega) (by unfold InI; simp) (by unfold InI; simp) (zeros_arg15 W _ pn (by omega)))
            have HPN := Lib.hid hpn
            have HST := Lib.hid hst
            have HHF := Lib.hid hfb2
            have HCV := Lib.hid hce
            clear hft hfe hfv hfb2 hst hpe hpn hce hcE
            by_cases hz : (fnV m S.f).regs = 0
            · have hc5 : ce = 5 := by rw [HCV.out, if_pos hz]
              have hreg : (fnV m k).regs = 0 := by rw [← FK.out]; exact hz
              have HRG := Lib.hid hreg
              have HCE5 := Lib.hid hc5
              clear hz hreg hc5
              have HCB := Lib.hid (fun W hs => by have := HCA.out W hs; rw [HCE5.out] at this; exact this)
              clear HCA
              go_wp2_with (first
                | (go_at_call 34; (with_reducible refine HDE.out.mono ?_); rintro e W9 ⟨rfl, hs⟩; have S9 := Lib.hid hs; obtain ⟨b0, b1⟩ := cells2_14 (hs.boxAt (i := 0) rfl); obtain ⟨p0, p1, p2⟩ := HR.out t htf W9 hs.bel; rw [HPN.out] at p0; clear hs)
                | (go_at_call 40; (with_reducible refine (HCB.out _ S9.out).mono ?_); rintro e Wa ⟨rfl, hs⟩; have SA := Lib.hid hs; obtain ⟨b2, b3⟩ := cells2_14 (hs.boxAt (i := 0) rfl); obtain ⟨r0, r1, r2⟩ := HR.out k hk Wa hs.bel; rw [HRG.out] at r1; clear hs))
              go_ret
              exact ⟨rfl, SA.out.bel⟩
            · have hc0 : ce = 0 := by rw [HCV.out, if_neg hz]
              have hcz : S.callE t (List.replicate pn 0) 0 0 = 0 := by rw [← HCE.out]; exact hc0
              obtain ⟨g1, g2, g3⟩ := FA.out.callS HR0.out hmt hcz
              rw [← HST.out] at g1 g2
              have HCE0 := Lib.hid hc0
              have HCB := Lib.hid (fun W hs => by have := HCA.out W hs; rw [HCE0.out] at this; exact this)
              clear HCA hz hc0 hcz
              obtain ⟨S', hS'⟩ : ∃ S', S' = S.callS t (List.replicate pn 0) 0 0 := ⟨_, rfl⟩
              rw [← hS'] at HCB g1 g2 g3
              have G1 := Lib.hid g1
              have G3 := Lib.hid g3
              clear hS' g1 g3
              obtain ⟨dl, hdl⟩ : ∃ dl, dl = S.links.length := ⟨_, rfl⟩
              rw [← hdl] at HDE g2 G3
              rw [← HFLO.out] at g2
              have hs0 : 0 ≤ sum := HSB.out.1
              have hs1 : sum ≤ (nn : Int) - fl := HSB.out.2
              have ht0 : 0 ≤ st := HHF.out.1
              have ht1 : st ≤ 4608 := HHF.out.2.1
              have hnn : nn ≤ 4000 := HNB.out.2
              have hfl0 : 16 ≤ fl := HNB.out.1
              clear hdl
              by_cases hA : 256 ≤ dl
              · have hek : S'.ek = 3 := by rw [g2, if_pos (.inl hA)]
                have hge : decide ((256 : Int) ≤ (dl : Int)) = true := by simp; omega
                have HEN : Hid (∀ W, Spaces w w.heap.size W [.box w.heap.size #[.slice DA dn dc, .slice (some ⟨fb, fo, none⟩) fn fc] 25, .sp sb S', .cell eb #[.int .i64 S.ek, .int .i64 S.ec] 45] → Calls Tryz.prog 29 #[.pointer (some ⟨sb, 0, none⟩)] W (SpsDone w w.heap.size [.box w.heap.size #[.slice DA dn dc, .slice (some ⟨fb, fo, none⟩) fn fc] 25, .sp sb S', .cell eb #[.int .i64 S.ek, .int .i64 S.ec] 45] (.tuple #[.agg #[.int .i64 3, .int .i64 S'.ec], .bool true]))) := Lib.hid (fun W hs => by
                  have h := sp_end hs (i := 1) rfl
                  rw [hek] at h
                  exact h)
                have HEK := Lib.hid hek
                clear hek hA g2
                go_wp2_with (first
                  | (go_at_call 34; (with_reducible refine HDE.out.mono ?_); rintro e W9 ⟨rfl, hs⟩; have S9 := Lib.hid hs; obtain ⟨b0, b1⟩ := cells2_14 (hs.boxAt (i := 0) rfl); obtain ⟨p0, p1, p2⟩ := HR.out t htf W9 hs.bel; rw [HPN.out] at p0; clear hs)
                  | (go_at_call 40; (with_reducible refine (HCB.out _ S9.out).mono ?_); rintro e Wa ⟨rfl, hs⟩; have SA := Lib.hid hs; clear hs)
                  | (go_at_call 29; (with_reducible refine (HEN.out _ SA.out).mono ?_); rintro e Wb ⟨rfl, hs⟩; have SB := Lib.hid hs; obtain ⟨e0, e1⟩ := cells2_14 (hs.cellAt (i := 2) rfl); have f0 := frozen_of_row Wb eb 0 _ _ (hs.cellAt (i := 2) rfl); have f1 := frozen_of_row Wb eb 1 _ _ (hs.cellAt (i := 2) rfl); clear hs))
                go_roundw
                case rel => exact ⟨i + 1, t, S', sum + st, by go_num, by omega, by go_num, rfl, htf, by rw [HEK.out]; rfl, Lib.hid ⟨G1.out, fun c => absurd (HEK.out ▸ c) (by decide), by omega, by omega, by rw [HEK.out]; exact SB.out.cellSet2 (i := 2) rfl (.int .i64 3) (.int .i64 S'.ec)⟩⟩
                case measure => simp [intOf]; omega
              · have hge : decide ((256 : Int) ≤ (dl : Int)) = false := by simp; omega
                by_cases hB : sum + st > (nn : Int) - fl
                · have hek : S'.ek = 3 := by rw [g2, if_pos (.inr hB)]
                  have hgt : decide ((nn : Int) - fl < sum + st) = true := by simp; omega
                  clear hB
                  have HEN : Hid (∀ W, Spaces w w.heap.size W [.box w.heap.size #[.slice DA dn dc, .slice (some ⟨fb, fo, none⟩) fn fc] 25, .sp sb S', .cell eb #[.int .i64 S.ek, .int .i64 S.ec] 45] → Calls Tryz.prog 29 #[.pointer (some ⟨sb, 0, none⟩)] W (SpsDone w w.heap.size [.box w.heap.size #[.slice DA dn dc, .slice (some ⟨fb, fo, none⟩) fn fc] 25, .sp sb S', .cell eb #[.int .i64 S.ek, .int .i64 S.ec] 45] (.tuple #[.agg #[.int .i64 3, .int .i64 S'.ec], .bool true]))) := Lib.hid (fun W hs => by
                    have h := sp_end hs (i := 1) rfl
                    rw [hek] at h
                    exact h)
                  have HEK := Lib.hid hek
                  clear hek hA g2
                  go_wp2_with (first
                    | (go_at_call 34; (with_reducible refine HDE.out.mono ?_); rintro e W9 ⟨rfl, hs⟩; have S9 := Lib.hid hs; obtain ⟨b0, b1⟩ := cells2_14 (hs.boxAt (i := 0) rfl); obtain ⟨p0, p1, p2⟩ := HR.out t htf W9 hs.bel; rw [HPN.out] at p0; clear hs)
                    | (go_at_call 40; (with_reducible refine (HCB.out _ S9.out).mono ?_); rintro e Wa ⟨rfl, hs⟩; have SA := Lib.hid hs; clear hs)
                    | (go_at_call 29; (with_reducible refine (HEN.out _ SA.out).mono ?_); rintro e Wb ⟨rfl, hs⟩; have SB := Lib.hid hs; obtain ⟨e0, e1⟩ := cells2_14 (hs.cellAt (i := 2) rfl); have f0 := frozen_of_row Wb eb 0 _ _ (hs.cellAt (i := 2) rfl); have f1 := frozen_of_row Wb eb 1 _ _ (hs.cellAt (i := 2) rfl); clear hs))
                  go_roundw
                  case rel => exact ⟨i + 1, t, S', sum + st, by go_num, by omega, by go_num, rfl, htf, by rw [HEK.out]; rfl, Lib.hid ⟨G1.out, fun c => absurd (HEK.out ▸ c) (by decide), by omega, by omega, by rw [HEK.out]; exact SB.out.cellSet2 (i := 2) rfl (.int .i64 3) (.int .i64 S'.ec)⟩⟩
                  case measure => simp [intOf]; omega
                · have hek : S'.ek = 0 := by rw [g2, if_neg (by omega)]
                  have hgt : decide ((nn : Int) - fl < sum + st) = false := by simp; omega
                  have HBB := Lib.hid (show sum + st ≤ (nn : Int) - fl by omega)
                  have hg3 := G3.out hek
                  have HD2 : Hid (∀ W, Spaces w w.heap.size W [.box w.heap.size #[.slice DA dn dc, .slice (some ⟨fb, fo, none⟩) fn fc] 25, .sp sb S', .cell eb #[.int .i64 0, .int .i64 S'.ec] 45] → Calls Tryz.prog 34 #[.pointer (some ⟨sb, 0, none⟩)] W (SpsDone w w.heap.size [.box w.heap.size #[.slice DA dn dc, .slice (some ⟨fb, fo, none⟩) fn fc] 25, .sp sb S', .cell eb #[.int .i64 0, .int .i64 S'.ec] 45] (.int .i64 ((dl : Int) + 1)))) := Lib.hid (fun W hs => by
                    have h := sp_depth hs (i := 1) rfl
                    rw [hg3.2] at h
                    exact h)
                  have hdb : dl < 256 := by omega
                  clear hB hg3
                  have HEN : Hid (∀ W, Spaces w w.heap.size W [.box w.heap.size #[.slice DA dn dc, .slice (some ⟨fb, fo, none⟩) fn fc] 25, .sp sb S', .cell eb #[.int .i64 S.ek, .int .i64 S.ec] 45] → Calls Tryz.prog 29 #[.pointer (some ⟨sb, 0, none⟩)] W (SpsDone w w.heap.size [.box w.heap.size #[.slice DA dn dc, .slice (some ⟨fb, fo, none⟩) fn fc] 25, .sp sb S', .cell eb #[.int .i64 S.ek, .int .i64 S.ec] 45] (.tuple #[.agg #[.int .i64 0, .int .i64 S'.ec], .bool false]))) := Lib.hid (fun W hs => by
                    have h := sp_end hs (i := 1) rfl
                    rw [hek] at h
                    exact h)
                  have HEK := Lib.hid hek
                  clear hek hA g2
                  go_wp2_with (first
                    | (go_at_call 34; (with_reducible refine HDE.out.mono ?_); rintro e W9 ⟨rfl, hs⟩; have S9 := Lib.hid hs; obtain ⟨b0, b1⟩ := cells2_14 (hs.boxAt (i := 0) rfl); obtain ⟨p0, p1, p2⟩ := HR.out t htf W9 hs.bel; rw [HPN.out] at p0; clear hs)
                    | (go_at_call 40; (with_reducible refine (HCB.out _ S9.out).mono ?_); rintro e Wa ⟨rfl, hs⟩; have SA := Lib.hid hs; clear hs)
                    | (go_at_call 29; (with_reducible refine (HEN.out _ SA.out).mono ?_); rintro e Wb ⟨rfl, hs⟩; have SB := Lib.hid hs; obtain ⟨e0, e1⟩ := cells2_14 (hs.cellAt (i := 2) rfl); have f0 := frozen_of_row Wb eb 0 _ _ (hs.cellAt (i := 2) rfl); have f1 := frozen_of_row Wb eb 1 _ _ (hs.cellAt (i := 2) rfl); clear hs)
                    | (go_at_call 34; (with_reducible refine (HD2.out _ (SB.out.cellSet2 (i := 2) rfl (.int .i64 0) (.int .i64 S'.ec))).mono ?_); rintro e Wc ⟨rfl, hs⟩; have SC := Lib.hid hs; clear hs))
                  go_roundw
                  case rel => exact ⟨i + 1, t, S', sum + st, by go_num, by omega, by go_num, rfl, htf, by rw [HEK.out]; rfl, Lib.hid ⟨G1.out, fun c => ⟨(G3.out c).1, HBB.out⟩, by omega, by omega, by rw [HEK.out]; exact SC.out⟩⟩
                  case measure => simp [intOf]; omega
          · have hrb : (S.ek != 0) = true := by simpa using hr
            have hltI : (i : Int) < (ln : Int) := by omega
            clear hr
            go_wp2
            go_ret
            exact ⟨rfl, HH.out.2.2.2.2.bel⟩
        · have hltI : ¬ (i : Int) < (ln : Int) := by omega
          go_wp2
          go_ret
          exact ⟨rfl, HH.out.2.2.2.2.bel⟩
  · obtain ⟨xe, hxe⟩ : ∃ xe, xe = newE15 m (16 * (1 + (pk : Int))) 0 := ⟨_, rfl⟩
    have HXE : Hid (xe = newE15 m (16 * (1 + (pk : Int))) 0) := Lib.hid hxe
    rw [← hxe] at hE
    have hxb : (xe != 0) = true := by simpa using hE
    have HE := Lib.hid hE
    clear hxe hE
    go_enter Tryz.func9, Tryz.ntmps9
    go_upto_region 7 with (first
      | (rw [← HW.out])
      | (go_at_call 12; (with_reducible refine (awake15 _).mono ?_); rintro e w1 ⟨rfl, hb⟩; have S1 := Lib.hid (S0.out.grow hb); obtain ⟨b0, b1⟩ := cells2_14 (S1.out.boxAt (i := 0) rfl); clear hb)
      | (go_at_call 25; (with_reducible refine (HPK.out _).mono ?_); rintro e w' ⟨rfl, rfl⟩)
      | (go_at_call 10; (with_reducible refine (HLG.out _ S1.out.bel).mono ?_); rintro e w2 ⟨rfl, hb⟩; have S2 := Lib.hid (S1.out.grow hb); obtain ⟨d0, d1⟩ := cells2_14 (S2.out.boxAt (i := 0) rfl); clear hb)
      | (go_at_call 15; (with_reducible refine (HNEW.out _ S2.out).mono ?_); rintro e w3 hn; have hn1 := hn.2.resolve_right (fun q => HE.out (HXE.out.trans q.1)); rw [← HXE.out] at hn1; obtain ⟨_, rfl, hs⟩ := hn1; have S3 := Lib.hid hs; clear hn hs; obtain ⟨f0, f1⟩ := cells2_14 (S3.out.boxAt (i := 0) rfl); obtain ⟨p0, p1, p2⟩ := HR.out 0 hpos w3 S3.out.bel; simp only [Nat.zero_mul, Nat.add_zero] at p0 p1 p2)
      | (go_at_call 50; (with_reducible refine (HFL.out _).mono ?_); rintro e w' ⟨rfl, rfl⟩))
    clear b0 b1 d0 d1 S0 S1 S2
    have HSZ := Lib.hid (fun W => size_any (fnV m 0).regs (fnV m 0).area W (HFB.out 0 hpos).2.1.1 (HFB.out 0 hpos).2.1.2 (HFB.out 0 hpos).2.2.1 (HFB.out 0 hpos).2.2.2)
    go_quiet ((go_at_call 51; with_reducible exact quiet_left (HSZ.out _)))
    go_wp2
    go_ret
    exact ⟨rfl, S3.out.bel.trans ((below_drewN14 (w := w3) rfl).mono S3.out.bel.size)⟩
end
end Go.Proofs.YtkfdgpgildanbaaGreat
