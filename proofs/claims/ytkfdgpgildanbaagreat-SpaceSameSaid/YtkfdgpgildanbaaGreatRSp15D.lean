import Derived.Test.YtkfdgpgildanbaaGreatRSp15C
import Derived.Deep.RegionLaw
namespace Go.Proofs.YtkfdgpgildanbaaGreat
open Go.RowKit Go.Shelf
set_option linter.unusedVariables false
set_option linter.unusedSimpArgs false
theorem load_far15 {xs : List Int} {d s v : Int} (h : d + 8 ≤ s) : loadV (storeL xs d 8 v) s 8 = loadV xs s 8 := by
  have hl : (storeL xs d 8 v).length = xs.length := storeL_len
  unfold loadV
  rw [hl]
  split
  · rename_i he
    unfold storeL
    split
    · rename_i hd
      obtain ⟨_, g0, g1, g2, g3⟩ := numE_zero hd
      have hb : (bytesV v (8 : Int).toNat).length = 8 := bytesV_len v _
      congr 1
      unfold partL layL
      have e1 : (xs.take d.toNat).length = d.toNat := by simp; omega
      rw [← List.append_assoc, List.drop_append, List.length_append, e1, hb, List.drop_of_length_le (by rw [List.length_append, e1, hb]; omega), List.nil_append, List.drop_drop]
      congr 2
      omega
    · rfl
  · rfl
theorem passL_sets15 : ∀ (l : List Int) (i : Nat) (mem mem0 : List Int) (src dst : Int), (∀ j : Nat, i ≤ j → j < i + l.length → ∀ a ∈ l, slotV dst j + 8 ≤ slotV src a) → (∀ a ∈ l, loadV mem (slotV src a) 8 = loadV mem0 (slotV src a) 8) → passL mem src dst i l = setsL mem dst i (l.map (fun a => loadV mem0 (slotV src a) 8))
  | [], _, _, _, _, _, _, _ => rfl
  | x :: l, i, mem, mem0, src, dst, h, hm => by
    simp only [List.length_cons] at h
    simp only [passL, List.map_cons, setsL]
    rw [hm x (by simp), passL_sets15 l (i + 1) _ mem0 src dst (fun j h1 h2 a ha => h j (by omega) (by omega) a (by simp [ha])) (fun a ha => by rw [load_far15 (h i (Nat.le_refl _) (by omega) a (by simp [ha]))]; exact hm a (by simp [ha]))]
theorem setsL_step {mem : List Int} {dst : Int} {i : Nat} {vs : List Int} (hi : i < vs.length) : setsL mem dst i (vs.drop i) = setsL (storeL mem (slotV dst i) 8 (vs.getD i 0)) dst (i + 1) (vs.drop (i + 1)) := by
  rw [List.drop_eq_getElem_cons hi]
  simp only [setsL]
  rw [show vs.getD i 0 = vs[i] by simp [List.getD, List.getElem?_eq_getElem hi]]
theorem u64_info15 : (Tryz.prog.info? 42).map (fun i => (i.zero, i.size, i.bytes)) = some (some (.int .u64 0), 1, 8) := by kernel_rfl
abbrev OutU (base : Nat) (W : World) (V : Value) (xs : List Int) : Prop := Owns W base 42 1 (IsNum .u64) V xs.length (xs.map (Value.int .u64))
theorem wpList_outU {W : World} {ops : Array Oper} {rest : List Oper} {o : Oper} {a : Act} {Q : Exit → Act → World → Prop} (hgd : o.guard = none) (s x : Operand)
    (ho : o.op = .call { callee := .builtin .append, args := #[s, x], argTypes := #[102, 102] }) {V : Value} {xs : List Int} {z : Int} {base : Nat} (hs : a.eval s = V) (hx : a.eval x = .slice (some ⟨W.heap.size, 0, none⟩) 1 1) (h : OutU base W V xs)
    (hb : base ≤ W.heap.size) (hl : xs.length ≤ 1000000)
    (hK : ∀ V' W', OutU base W' V' (xs ++ [z]) → Below base W W' → (∀ i, i < W.heap.size → some i ≠ V.ownBlock → W'.heap[i]? = W.heap[i]?) → wpList Tryz.prog ops Q rest (a.put o.dst V') W') :
    wpList Tryz.prog ops Q (o :: rest) a (W.alloc (.cells #[.int .u64 z] 42)) := by
  obtain ⟨i, hi, h1, h2, h3⟩ := info_parts u64_info15
  have ha : Below W.heap.size W (W.alloc (.cells #[.int .u64 z] 42)) := (Below.refl W.heap.size W).alloc (Nat.le_refl _) (.cells #[.int .u64 z] 42)
  have hg := Owns.below h ha (Nat.le_refl _)
  refine wpList_append_q _ hgd s x 102 ho base 42 i _ 1 8 Tryz.underlying102 hi h1 h2 h3 rfl (by decide) (IsNum .u64) (zero_num .u64) V xs.length (xs.map (Value.int .u64)) hs hg ⟨W.heap.size, 0, none⟩ 1 1 [.int .u64 z] hx rfl (news_one _ _ _) (by intro u hu; simp at hu; subst hu; rfl) (by intro u hu; simp at hu; subst hu; exact ⟨_, rfl⟩) (by unfold maxLen; omega) (by omega) (by simp; omega) ?_
  intro V' W' ho' hg'
  have e : World.grownBy (W.alloc (.cells #[.int .u64 z] 42)) W' V.ownBlock := hg'
  refine hK V' W' (by rw [OutU, List.length_append, List.map_append]; exact ho') ((ha.mono hb).grown e (by simp; omega) fun j hj => (h.lt hj).1) (fun i hi hn => (e.block i (by simp; omega) hn).trans (ha.block i hi))
theorem rlink_info15 : (Tryz.prog.info? 149).map (fun i => (i.zero, i.size, i.bytes)) = some (some (.agg #[.int .i64 0, .int .u64 0, .int .i64 0, .int .i64 0]), 4, 32) := by kernel_rfl
theorem step_rlink15 {W : World} {ops : Array Oper} {o : Oper} {a : Act} {K : Act → World → Prop} {Q : Exit → Act → World → Prop} {E : Prop} (hgd : o.guard = none) (s x : Operand)
    (ho : o.op = .call { callee := .builtin .append, args := #[s, x], argTypes := #[128, 128] }) {V : Value} {L : List LinkV} {l : LinkV} {g : Nat} (hs : a.eval s = V) (hx : a.eval x = .slice (some ⟨g, 0, none⟩) 1 1) (hgs : g = W.heap.size) (h : Owns W 0 149 4 AnyCell V L.length (cellsL .u64 L))
    (hl : L.length ≤ 1000000) (hK : ∀ V' W', MoreL .u64 149 W W' V V' L l → K (a.put o.dst V') W') :
    if Region.wanted o (yielded ops a.tmps) = true then Oper.wp Tryz.prog o a (W.alloc (.cells #[.int .i64 l.f, .int .u64 l.at_, .int .i64 l.back, .int .i64 l.res] 149)) K Q else E := by
  subst hgs
  rw [if_pos (by simp [Region.wanted, hgd])]
  obtain ⟨V', W', hr, hm⟩ := run_link15 (ty := o.type) (l := l) Tryz.underlying128 rlink_info15 rfl h hl
  unfold Oper.wp execOp
  simp only [ho, resolve, invoke, builtin, Sem.run_bind, Sem.run_pure, Result.andThen_ok, List.map_toArray, List.map_cons, List.map_nil, hs, hx, hr]
  exact hK V' W' hm
section
variable {B : Nat} {W W' : World} {rb : Nat} {p : Loc} {S S' : SpV}
theorem RsAt.notU (h : RsAt B W rb p S) {k : Nat} {c : Array Value} (hc : W.heap[k]? = some (.cells c 42 (0, 0))) : ¬ (foot15 rb p k ∨ p.X.ownBlock = some k) := by
  rintro ((rfl | rfl | rfl | rfl | e | e) | e)
  · exact types14 hc h.box (by decide)
  · exact types14 hc h.mem.head (by decide)
  · obtain ⟨cur, h1, _⟩ := h.mem.row
    exact types14 hc h1 (by decide)
  · exact types14 hc h.tape.box (by decide)
  · obtain ⟨_, c', h1⟩ := typed14 h.tape.done e
    exact types14 hc h1 (by decide)
  · obtain ⟨_, c', h1⟩ := typed14 h.links e
    exact types14 hc h1 (by decide)
  · obtain ⟨c', h1⟩ := h.tape.own.blk e
    exact types14 hc h1 (by decide)
theorem RsAt.beside {base : Nat} {V : Value} {xs : List Int} (h : RsAt B W rb p S) (hB : B ≤ base) (hw : base ≤ W.heap.size) (ho : OutU base W V xs) (hb : Below base W W') (hk : ∀ i, i < W.heap.size → some i ≠ V.ownBlock → W'.heap[i]? = W.heap[i]?) : RsAt B W' rb p S := by
  have hbu : But (fun k => V.ownBlock = some k) W W' := ⟨hb.os, hb.tape, hb.output, hb.size, fun k hk1 hn => hk k hk1 (fun e => hn e.symm)⟩
  refine h.but hbu (fun k hk1 hv => ?_) (Nat.le_trans hB hw) (fun k hk1 hv => ?_)
  · obtain ⟨_, c, hc⟩ := typed14 ho hv
    exact h.notU hc hk1
  · have := (typed14 ho hv).1
    omega
set_option maxRecDepth 100000
set_option maxHeartbeats 16000000
theorem rCall15 (h : RsAt B W rb p S) (hB : B ≤ W.heap.size) (hl : ∀ k, foot15 rb p k → B ≤ k) (f res back : Int) (A : Value) (args : List Int) (hf : InI f) (hr : InI res) (hbk : InI back) (hA : Args15 W (foot15 rb p) A args) :
    Calls Tryz.prog 87 #[.pointer (some ⟨rb, 0, none⟩), .int .i64 f, A, .int .i64 res, .int .i64 back] W (RsDone B W rb p S (S.callS f args res back) (.int .i64 (S.callE f args res back))) := by
  have hok := h.ok
  have hoo : (S.callS f args res back).ok := hok.callS f args res back
  obtain ⟨aA, ac, rfl⟩ := hA.now.len
  have HA := Lib.hid hA
  obtain ⟨n, hn⟩ : ∃ n, n = args.length := ⟨_, rfl⟩
  have HN := Lib.hid hn
  rw [← hn]
  have H := Lib.hid h
  have HBB := Lib.hid hB
  have HLL := Lib.hid hl
  obtain ⟨⟨c0, c1, c2, c3, c4, c5⟩, c6, c7, c8, c9, c10⟩ := h.cells
  obtain ⟨FA, fc, hFe⟩ := h.funs.len
  rw [hFe] at c1
  have hfl := h.funs.1
  unfold maxLen at hfl
  have HFV := Lib.hid hFe
  have hnl := hA.now.1
  unfold maxLen at hnl
  rw [← hn] at hnl
  clear hA hn hl hFe
  by_cases he : S.ek = 0
  · have heb : (S.ek != 0) = false := by simpa using he
    by_cases h1 : f < 0
    · have hd : decide (f < 0) = true := decide_eq_true h1
      have hE : S.callE f args res back = 2 := by
        unfold SpV.callE
        rw [if_pos he, if_neg]
        intro c
        have := (fit_iff.1 c).1
        omega
      have hS : S.callS f args res back = S := by unfold SpV.callS; rw [hE]; rfl
      rw [hE, hS]
      clear he h1 hE hS hoo hok h hB hf hr hbk c0 c2 c3 c4 c5 c6 c7 c8 c10
      go_enter Tryz.func87, Tryz.ntmps87
      go_wp2
      go_ret
      exact ⟨rfl, _, Mv.rsRead H.out HBB.out (Below.refl _ _)⟩
    · obtain ⟨k, rfl⟩ : ∃ k : Nat, f = k := ⟨f.toNat, by omega⟩
      have hd : decide ((k : Int) < 0) = false := decide_eq_false h1
      obtain ⟨fl, hfle⟩ : ∃ fl, fl = S.m.funcs.length := ⟨_, rfl⟩
      rw [← hfle] at c1 hfl
      by_cases h2 : k < fl
      · have hd2 : decide ((fl : Int) ≤ (k : Int)) = false := decide_eq_false (by omega)
        have hd2n : decide (fl ≤ k) = false := decide_eq_false (by omega)
        have hkf : k < S.m.funcs.length := by omega
        obtain ⟨b, off, cap, CA, cl, cc, hV, hcp, hbb, k0, k1, k2, k3⟩ := funs_at15 (h.funs.more hB) hkf
        rw [HFV.out] at hV
        injection hV with hV1 hV2 hV3
        subst hV1 hV3
        have HROW : Hid (∀ W2, Below W.heap.size W W2 → W2.cell? ⟨b, off + k * 4, none⟩ = some (.int .i64 (fnV S.m k).params) ∧ W2.cell? ⟨b, off + k * 4 + 1, none⟩ = some (.int .i64 (fnV S.m k).regs) ∧ W2.cell? ⟨b, off + k * 4 + 2, none⟩ = some (.int .i64 (fnV S.m k).area)) := Lib.hid (fun W2 hb => by
          refine ⟨?_, ?_, ?_⟩
          · rw [hb.cell (p := ⟨b, off + k * 4, none⟩) hbb]; exact k0
          · rw [hb.cell (p := ⟨b, off + k * 4 + 1, none⟩) hbb]; exact k1
          · rw [hb.cell (p := ⟨b, off + k * 4 + 2, none⟩) hbb]; exact k2)
        have hk0I : (0 : Int) ≤ (k : Int) := by omega
        have hk1I : (k : Int) < (fl : Int) := by omega
        change W.cell? ⟨b, off + k * 4, none⟩ = some (.int .i64 (fnV S.m k).params) at k0
        obtain ⟨pa, hpa⟩ : ∃ pa, pa = (fnV S.m k).params := ⟨_, rfl⟩
        rw [← hpa] at k0
        have hfle2 : fl ≤ fc := by omega
        clear k1 k2 k3 hcp
        by_cases h3 : (n : Int) = pa
        · have hd3 : ((n : Int) != pa) = false := by simpa using h3
          have hfit : S.fitB (k : Int) args.length = true := fit_iff.2 ⟨by omega, by omega, by rw [Int.toNat_natCast, ← hpa, ← HN.out]; exact h3⟩
          have HRG := Lib.hid (rReg15 h hB res hr)
          have HPL := Lib.hid (fun w => rplace15 back w hbk)
          have hEE : S.callE k args res back = if args.all S.regB && (S.regB res && placeB back) then 0 else 5 := by
            unfold SpV.callE
            rw [if_pos he, if_pos hfit]
          by_cases h4 : S.regB res = true
          · rw [h4] at HRG
            by_cases h5 : placeB back = true
            · rw [h5] at HPL
              have HFLE := Lib.hid hfle
              have HRA : Hid (∀ x ∈ args, InI x) := Lib.hid (fun x hx => HA.out.inn x hx)
              obtain ⟨vs, hvs⟩ : ∃ vs, vs = args.map (fun a => loadV S.mem (slotV S.at_ a) 8) := ⟨_, rfl⟩
              have HVS := Lib.hid hvs
              have HVL : Hid (vs.length = n) := Lib.hid (by rw [hvs]; simp; exact HN.out.symm)
              have HVB : Hid (∀ i : Nat, i < n → 0 ≤ vs.getD i 0 ∧ vs.getD i 0 < 18446744073709551616) := Lib.hid (fun i hi => by
                have hi2 : i < vs.length := by rw [HVL.out]; exact hi
                rw [show vs.getD i 0 = vs[i] by simp [List.getD, List.getElem?_eq_getElem hi2]]
                simp only [hvs, List.getElem_map]
                exact loadV_bd15 h.mem.bd _)
              have HIR : Hid (S.ek = 0 ∧ S.ok ∧ (args.all S.regB = false → S.callE k args res back = 5) ∧ (args.all S.regB = true → S.callE k args res back = 0)) := Lib.hid ⟨he, hok, fun e => by rw [hEE, e]; simp, fun e => by rw [hEE, e, h4, h5]; simp⟩
              have HSO := Lib.hid hoo
              have HPA := Lib.hid (And.intro hpa h3)
              have HKF := Lib.hid hkf
              have HGD := Lib.hid (fun (W2 : World) (hb : Below W.heap.size W W2) (x : Int) (hx : InI x) => rGetD15 (h.grow hB hb) (Nat.le_trans hB hb.size) x hx)
              have HHG := Lib.hid (fun (W2 : World) (hb : Below W.heap.size W W2) => h.grow hB hb)
              have hpal : pa ≤ 8 ∧ 0 ≤ pa := by
                have hz := err_fn hok.mod hkf
                omega
              have hn8 : n ≤ 8 := by omega
              clear hvs hEE hpa he h1 h2 h3 h4 h5 hoo hok h hB hf hr hbk c0 c2 c3 c4 c5 c6 c7 c8 c10 hfit hfle hkf hpal
              go_enter Tryz.func87, Tryz.ntmps87
              go_wp2_with (first
                | (go_at_call 128; (with_reducible refine HRG.out.mono ?_); rintro e w2 ⟨rfl, q, hw⟩; have HB2 := Lib.hid (below_drewN14 hw); clear hw)
                | (go_at_call 150; (with_reducible refine (HPL.out _).mono ?_); rintro e w3 ⟨rfl, rfl⟩))
              clear c1 c9 k0
              go_loopw [11, 12, 13, 14] (fun v11 v12 _ _ wr => ∃ i : Nat, v12 = .int .i64 i ∧ i ≤ n ∧ Hid (OutU W.heap.size wr v11 (vs.take i) ∧ RsAt B wr rb p S ∧ Below W.heap.size W wr ∧ ∀ j, j < i → S.regB (args.getD j 0) = true)) (fun _ v12 _ _ _ => n - (intOf v12).toNat)
              case atStart => exact ⟨0, rfl, by omega, Lib.hid ⟨Owns.nil _ _ _ _ _, HHG.out _ HB2.out, HB2.out, fun j hj => by omega⟩⟩
              case round =>
                obtain ⟨i, rfl, hi, HH⟩ := hrel
                by_cases hlt : i < n
                · obtain ⟨ho, hrs, hbw, hall⟩ := HH.out
                  obtain ⟨xb, xo, xc, hxe, hxc, hxb, hxl⟩ := (HA.out.all wr (But.of_below hbw)).plain (by rw [← HN.out]; omega)
                  injection hxe with hxa hxn hac
                  clear hxn
                  subst hxa hac
                  have ci := hxl i (by rw [← HN.out]; omega)
                  have hxm : args.getD i 0 ∈ args := by rw [List.getD_eq_getElem?_getD, List.getElem?_eq_getElem (by rw [← HN.out]; omega)]; exact List.getElem_mem _
                  have hxi := HRA.out _ hxm
                  obtain ⟨x, hx⟩ : ∃ x, x = args.getD i 0 := ⟨_, rfl⟩
                  rw [← hx] at ci hxi hxm
                  have i0 : (0 : Int) ≤ (i : Int) := by omega
                  have i1 : (i : Int) < (n : Int) := by omega
                  have HGT := Lib.hid (rGetD15 hrs (Nat.le_trans HBB.out hbw.size) x hxi)
                  obtain ⟨uA, uc, hue⟩ := owns_len14 ho
                  subst hue
                  have HO1 := Lib.hid ho
                  have HRS := Lib.hid hrs
                  have HBW := Lib.hid hbw
                  have HAL := Lib.hid hall
                  have HX := Lib.hid hx
                  have HXM := Lib.hid hxm
                  have htl : (vs.take i).length = i := by rw [List.length_take, HVL.out]; omega
                  rw [htl] at HO1 ⊢
                  have HTL := Lib.hid htl
                  clear ho hrs hbw hall hxl hxc hxb hxm hxi hx HH htl
                  by_cases hrg : S.regB x = true
                  · have hge : S.getE x = 0 := by unfold SpV.getE; rw [if_pos HIR.out.1, if_pos hrg]
                    have hgv : S.getV x = vs.getD i 0 := by
                      unfold SpV.getV
                      rw [if_pos hge]
                      have hi2 : i < args.length := by rw [← HN.out]; exact hlt
                      rw [HX.out, HVS.out]
                      simp [List.getD, List.getElem?_eq_getElem hi2]
                    rw [hge, hgv] at HGT
                    obtain ⟨z, hz⟩ : ∃ z, z = vs.getD i 0 := ⟨_, rfl⟩
                    rw [← hz] at HGT
                    have HZ := Lib.hid hz
                    have HRG2 := Lib.hid hrg
                    clear hge hgv hz hrg
                    go_wp2_with (first
                      | (go_at_call 84; (with_reducible refine HGT.out.mono ?_); rintro e w4 ⟨rfl, q4, hw⟩; have HB4 := Lib.hid (below_drewN14 hw); have HO4 := Lib.hid (show OutU W.heap.size w4 (.slice uA i uc) (vs.take i) from HO1.out.below (below_drewN14 hw) (Nat.le_refl _)); have HR4 := Lib.hid (HRS.out.grow (Nat.le_trans HBB.out HBW.out.size) (below_drewN14 hw)); clear hw)
                      | (at_builtin; refine wpList_outU rfl (.tmp 82) (.tmp 84) rfl rfl rfl HO4.out (Nat.le_trans HBW.out.size HB4.out.size) (by rw [HTL.out]; omega) ?_; intro V' W' ho' hb' hk'; have HO5 := Lib.hid ho'; have HR5 := Lib.hid (HR4.out.beside HBB.out (Nat.le_trans HBW.out.size HB4.out.size) HO4.out hb' hk'); have HB5 := Lib.hid ((HBW.out.trans (HB4.out.mono HBW.out.size)).trans hb'); clear ho' hb' hk'))
                    go_roundw
                    case rel => exact ⟨i + 1, by go_num, by omega, Lib.hid ⟨by
                      have hi2 : i < vs.length := by rw [HVL.out]; exact hlt
                      rw [show vs.take (i + 1) = vs.take i ++ [z] by rw [HZ.out, List.take_add_one, List.getElem?_eq_getElem hi2]; simp [List.getD, List.getElem?_eq_getElem hi2]]
                      exact HO5.out, HR5.out, HB5.out, fun j hj => by
                      by_cases hji : j = i
                      · subst hji; rw [← HX.out]; exact HRG2.out
                      · exact HAL.out j (by omega)⟩⟩
                    case measure => simp [intOf]; omega
                  · have hge : S.getE x = 5 := by unfold SpV.getE; rw [if_pos HIR.out.1, if_neg hrg]
                    have hgv : S.getV x = 0 := by unfold SpV.getV; rw [hge]; rfl
                    rw [hge, hgv] at HGT
                    have hEE := HIR.out.2.2.1 (by
                      rw [List.all_eq_false]
                      exact ⟨x, HXM.out, hrg⟩)
                    have hS : S.callS k args res back = S := by unfold SpV.callS; rw [hEE]; rfl
                    rw [hEE, hS]
                    clear hge hgv hrg hEE hS HSO
                    go_wp2_with (go_at_call 84; (with_reducible refine HGT.out.mono ?_); rintro e w4 ⟨rfl, q4, hw⟩; have HB4 := Lib.hid (below_drewN14 hw); clear hw)
                    go_ret
                    exact ⟨rfl, _, Mv.rsRead H.out HBB.out (HBW.out.trans (HB4.out.mono HBW.out.size))⟩
                · obtain rfl : n = i := by omega
                  have i1 : ¬ (n : Int) < (n : Int) := by omega
                  obtain ⟨ho, hrs, hbw, hall⟩ := HH.out
                  rw [List.take_of_length_le (by rw [HVL.out]; exact Nat.le_refl _)] at ho
                  have hallr : args.all S.regB = true := by
                    rw [List.all_eq_true]
                    intro a ha
                    obtain ⟨j, hj, hja⟩ := List.getElem_of_mem ha
                    have hz := hall j (by rw [HN.out]; exact hj)
                    rw [show args.getD j 0 = args[j] by simp [List.getD, List.getElem?_eq_getElem hj], hja] at hz
                    exact hz
                  have hE0 := HIR.out.2.2.2 hallr
                  rw [hE0]
                  clear HH hall
                  obtain ⟨uA, uc, hue⟩ := owns_len14 ho
                  subst hue
                  rw [HVL.out]
                  have HO1 := Lib.hid (show OutU W.heap.size wr (.slice uA n uc) vs by have hz := ho; rw [HVL.out] at hz; exact hz)
                  have HR1 := Lib.hid hrs
                  have HBW := Lib.hid hbw
                  have HB1 := Lib.hid (Nat.le_trans HBB.out hbw.size)
                  obtain ⟨⟨d0, d1, d2, d3, d4, d5⟩, d6, d7, d8, d9, d10⟩ := hrs.cells
                  rw [HFV.out, ← HFLE.out] at d1
                  obtain ⟨DA, dc, hDe⟩ := hrs.dat.len
                  obtain ⟨dn, hdn⟩ : ∃ dn, dn = S.m.data.length := ⟨_, rfl⟩
                  rw [hDe, ← hdn] at d0
                  obtain ⟨k0, k1, k2⟩ := HROW.out wr hbw
                  have hmod := HIR.out.2.1.mod
                  have hdn8 := (err_funs hmod).1
                  rw [← hdn] at hdn8
                  have hflo := flo_bd hmod
                  have hFV : floorE (dn : Int) = 0 ∧ floorV (dn : Int) = floV S.m := ⟨by unfold floorE; rw [if_pos (by omega)], by unfold floV; rw [hdn]⟩
                  have HFL := Lib.hid (fun w => rfloor_any (dn : Int) w (by omega) (by omega))
                  rw [hFV.1, hFV.2] at HFL
                  have hrg := err_fn hmod HKF.out
                  have hat0 := HIR.out.2.1.at0
                  have hat1 := HIR.out.2.1.at1
                  have HPU := Lib.hid (fun w => rpush_any S.at_ (fnV S.m k).regs (fnV S.m k).area (floV S.m) w (by omega) (by omega) (by omega) (by omega) (by omega) (by omega) (by omega) (by omega))
                  change Hid (∀ w : World, Calls Tryz.prog 64 #[.int .u64 S.at_, .int .i64 (fnV S.m k).regs, .int .i64 (fnV S.m k).area, .int .u64 (floV S.m)] w fun e w' => e = .returned (.tuple #[.int .u64 (S.newAt k), .int .i64 (S.newE k)]) ∧ w = w') at HPU
                  have HE0 := Lib.hid hE0
                  clear ho hrs hbw hDe hdn hmod hflo hFV hrg hat0 hat1 hallr hE0
                  go_wp2_with (go_at_call 61; (with_reducible refine (HFL.out _).mono ?_); rintro e w' ⟨rfl, rfl⟩)
                  go_quiet ((go_at_call 64; with_reducible exact quiet_left (HPU.out _)))
                  obtain ⟨W3, hW3⟩ : ∃ W3, W3 = wr.drewN nq := ⟨_, rfl⟩
                  have HB3 := Lib.hid (HBW.out.trans ((below_drewN14 hW3).mono HBW.out.size))
                  have H3 := Lib.hid (HR1.out.grow HB1.out (below_drewN14 hW3))
                  have HO3 := Lib.hid (HO1.out.below (below_drewN14 hW3) (Nat.le_refl _))
                  rw [← hW3]
                  clear hW3 d0 d1 d2 d3 d4 d5 d6 d7 d8 d9 d10 k0 k1 k2 HO1 HR1 HBW HB1 HFL HPU
                  have HB3B := Lib.hid (Nat.le_trans HBB.out HB3.out.size)
                  obtain ⟨⟨d0, d1, d2, d3, d4, d5⟩, d6, d7, d8, d9, d10⟩ := H3.out.cells
                  have g5 := H3.out.free 5
                  have g6 := H3.out.free 6
                  have g7 := H3.out.free 7
                  have g8 := H3.out.free 8
                  have g9 := H3.out.free 9
                  have g10 := H3.out.free 10
                  obtain ⟨LA, lc, hLe⟩ := owns_len14 H3.out.links
                  have HLE := Lib.hid hLe
                  rw [hLe] at d8
                  obtain ⟨ll, hll⟩ : ∃ ll, ll = S.links.length := ⟨_, rfl⟩
                  rw [← hll] at d8
                  have HLL2 := Lib.hid hll
                  have hdp : ll ≤ 256 := by rw [hll]; exact HIR.out.2.1.deep
                  have hec : S.ec = 0 := (HIR.out.2.1.run HIR.out.1).1
                  have hCS : S.callS k args res back = (if S.outB k then { S with ek := 3 } else { S with links := S.links ++ [⟨S.f, S.at_, back, res⟩], f := k, at_ := S.newAt k, pc := 0, mem := passL S.mem S.at_ (S.newAt k) 0 args }) := by
                    unfold SpV.callS
                    rw [if_pos HE0.out, Int.toNat_natCast]
                  clear hLe
                  have hso := HSO.out
                  by_cases hout : S.outB k = true
                  · rw [hCS, if_pos hout] at hso
                    have hSE : ({ S with ek := 3 } : SpV) = { S with ek := 3, ec := 0 } := by
                      have : ({ S with ek := 3, ec := S.ec } : SpV) = { S with ek := 3, ec := 0 } := by rw [hec]
                      exact this
                    rw [hSE] at hso
                    have HO := Lib.hid hso
                    have HS := Lib.hid ((hCS.trans (if_pos hout)).trans hSE)
                    unfold SpV.outB at hout
                    rw [← hll] at hout
                    obtain ⟨pe, hpe⟩ : ∃ pe, pe = S.newE k := ⟨_, rfl⟩
                    rw [← hpe] at hout ⊢
                    clear hSE hso hCS hll hec hpe
                    by_cases hp0 : pe = 0
                    · subst hp0
                      have hl2 : ll = 256 := by simpa using hout
                      have hge : decide ((256 : Int) ≤ (ll : Int)) = true := by simp; omega
                      have hgn : decide (256 ≤ ll) = true := by simp; omega
                      clear hout hl2
                      go_wp2
                      go_ret
                      exact ⟨by rw [HE0.out]; rfl, p, HS.out ▸ Mv.ahead HB3.out (H3.out.mvBox HB3B.out HLL.out (but_box15 (one_but15 _ rb 9 _) 10 _) (heap_setCell_same _ rb 10 _ _ _ (heap_setCell_same _ rb 9 _ _ _ H3.out.box)) ⟨rfl, rfl, rfl, rfl, rfl, rfl⟩ HO.out)⟩
                    · have hpb : (pe != 0) = true := by simpa using hp0
                      clear hout hp0
                      go_wp2
                      go_ret
                      exact ⟨by rw [HE0.out]; rfl, p, HS.out ▸ Mv.ahead HB3.out (H3.out.mvBox HB3B.out HLL.out (but_box15 (one_but15 _ rb 9 _) 10 _) (heap_setCell_same _ rb 10 _ _ _ (heap_setCell_same _ rb 9 _ _ _ H3.out.box)) ⟨rfl, rfl, rfl, rfl, rfl, rfl⟩ HO.out)⟩
                  · have hS0 := hCS.trans (if_neg hout)
                    rw [hCS, if_neg hout] at hso
                    have hou : ¬ S.links.length = 256 ∧ S.newE k = 0 := by simpa [SpV.outB] using hout
                    rw [← hll] at hou
                    obtain ⟨y, hy⟩ : ∃ y, y = S.newAt k := ⟨_, rfl⟩
                    rw [hou.2]
                    rw [← hy] at hso hS0 ⊢
                    have hok := HIR.out.2.1
                    obtain ⟨p1, p2⟩ := push_fr (f := k) (x := S.at_) hok.mod HKF.out hok.hi (hok.at_le HIR.out.1) hou.2
                    have hy2 : pushV S.at_ (fnV S.m k).regs (fnV S.m k).area (floV S.m) = y := hy.symm
                    rw [hy2] at p1 p2
                    have hfs := fs_fn hok.mod HKF.out
                    have hrg := err_fn hok.mod HKF.out
                    have hpa3 := HPA.out.2
                    rw [HPA.out.1] at hpa3
                    have hall2 : ∀ a ∈ args, S.regB a = true := by
                      have hz := HE0.out
                      exact (callE_zero hz).2.2.1
                    have hpass : passL S.mem S.at_ y 0 args = setsL S.mem y 0 vs := by
                      rw [HVS.out]
                      refine passL_sets15 args 0 S.mem S.mem S.at_ y (fun j _ hj a ha => ?_) (fun a ha => rfl)
                      rw [← HN.out] at hj
                      have s1 := (slot_in (r := (j : Int)) hok.mod hok.hi p1 (by omega) (by omega)).1
                      have s2 := (hok.slot HIR.out.1 (hall2 a ha)).1
                      have s3 : 0 ≤ a := by have hz := hall2 a ha; simp [SpV.regB] at hz; exact hz.1
                      rw [s1, s2]
                      omega
                    rw [hpass] at hso hS0
                    have HS := Lib.hid hS0
                    have ho1 : ({ S with links := S.links ++ [⟨S.f, S.at_, back, res⟩], f := k, at_ := y, pc := 0 } : SpV).ok := hso.mem' (l := S.mem) (by rw [setsL_len])
                    have HS1 := Lib.hid ho1
                    have HS2 : Hid (({ S with links := S.links ++ [⟨S.f, S.at_, back, res⟩] } : SpV).ok) := Lib.hid ⟨hok.mod, hok.lo, hok.hi, hok.al, hok.flo, hok.len, hok.bd, hok.fuel0, hok.fuel1, hok.fn, hok.at0, hok.at1, hok.run, hok.pc0, hok.pc1, ho1.deep, ho1.link, hok.few, hok.ends⟩
                    have HSR : Hid (∀ (mem : List Int) (i : Nat) (z : Int), i < n → ({ S with links := S.links ++ [⟨S.f, S.at_, back, res⟩], f := k, at_ := y, pc := 0, mem := mem } : SpV).getE i = 0 ∧ ({ S with links := S.links ++ [⟨S.f, S.at_, back, res⟩], f := k, at_ := y, pc := 0, mem := mem } : SpV).setS i z = { S with links := S.links ++ [⟨S.f, S.at_, back, res⟩], f := k, at_ := y, pc := 0, mem := storeL mem (slotV y i) 8 z }) := Lib.hid (fun mem i z hi => by
                      have hge : ({ S with links := S.links ++ [⟨S.f, S.at_, back, res⟩], f := k, at_ := y, pc := 0, mem := mem } : SpV).getE i = 0 := by
                        unfold SpV.getE
                        simp only
                        rw [if_pos HIR.out.1]
                        have : ({ S with links := S.links ++ [⟨S.f, S.at_, back, res⟩], f := k, at_ := y, pc := 0, mem := mem } : SpV).regB i = true := by
                          unfold SpV.regB
                          simp only [Bool.and_eq_true, decide_eq_true_eq]
                          omega
                        rw [this, if_pos rfl]
                      exact ⟨hge, by unfold SpV.setS; rw [if_pos hge]⟩)
                    have hl2 : decide ((256 : Int) ≤ (ll : Int)) = false := by simp; omega
                    have hln : decide (256 ≤ ll) = false := by simp; omega
                    clear hout hou hy hok p1 p2 hy2 hfs hrg hpa3 hall2 hpass hso ho1 hCS hll hec hS0
                    have OL := Lib.hid (show Owns W3.drew 0 149 4 AnyCell (.slice LA ll lc) S.links.length (cellsL .u64 S.links) by rw [HLL2.out, ← HLE.out]; exact H3.out.links.drew)
                    obtain ⟨⟨_, _, _, _, _, a5⟩, a6, _, a8, _, _⟩ := (H3.out.grow HB3B.out (below_one14 W3 (.cells #[.int .i64 S.f, .int .u64 S.at_, .int .i64 back, .int .i64 res] 149))).cells
                    rw [HLE.out, ← HLL2.out] at a8
                    go_wp2
                    go_cut [137] from 137 to 157 (fun _ wx => ∃ p3, Hid (Mv B (.rs rb S) (.rs rb { S with links := S.links ++ [⟨S.f, S.at_, back, res⟩] }) p p3 W3 wx) ∧ Hid (OutU W.heap.size wx (.slice uA n uc) vs))
                    case first =>
                      go_region_law ((refine step_rlink15 (W := W3.drew) (V := .slice LA ll lc) (L := S.links) (l := ⟨S.f, S.at_, back, res⟩) rfl (.tmp 141) (.tmp 153) rfl rfl rfl rfl OL.out (by rw [← HLL2.out]; omega) ?_; intro V8 w8 hm; obtain ⟨vA, vc, hve⟩ := owns_len14 hm.own; subst hve; have M8 := Lib.hid hm; have X8 := Lib.hid ((hm.blk rb (heap_lt H3.out.box) (fun e => by obtain ⟨_, c, hc⟩ := typed14 OL.out e.symm; exact types14 hc H3.out.box (by decide))).trans H3.out.box); obtain ⟨⟨z0, z1, z2, z3, z4, z5⟩, z6, z7, z8, z9, z10⟩ := cells11r (show w8.heap[rb]? = some (.cells #[_, _, _, _, _, _, _, _, _, _, _] 130 (0, 0)) from X8.out); have f5 := frozen_of_row w8 rb 5 _ _ X8.out; have f6 := frozen_of_row w8 rb 6 _ _ X8.out; have f7 := frozen_of_row w8 rb 7 _ _ X8.out; have f8 := frozen_of_row w8 rb 8 _ _ X8.out; clear hm))
                      all_goals
                        have hx9 := heap_setCell_same w8 rb 8 _ _ (.slice vA (S.links.length + 1) vc) X8.out
                        have hb8 : But (fun k => k = rb ∨ p.LV.ownBlock = some k) W3 w8 := But.trans (b := W3.drew) (But.refl _ W3).drew (show But (fun k => k = rb ∨ p.LV.ownBlock = some k) W3.drew w8 from ⟨M8.out.bel.os, M8.out.bel.tape, M8.out.bel.output, M8.out.size, fun k hk hn => M8.out.blk k hk (fun e => hn (.inr (by rw [HLE.out, ← HLL2.out]; exact e.symm)))⟩)
                        have hb9 := hb8.setCell (p := ⟨rb, 8, none⟩) (.inl (.inl rfl)) (.slice vA (S.links.length + 1) vc)
                        have hbo := but_box15 (But.refl (OneBlock rb) w8) 8 (.slice vA (S.links.length + 1) vc)
                        obtain ⟨W9, hW9⟩ : ∃ W9, W9 = w8.setCell ⟨rb, 8, none⟩ (.slice vA (S.links.length + 1) vc) := ⟨_, rfl⟩
                        rw [← hW9] at hx9 hb9 hbo
                        have ho9 : Owns W9 0 149 4 AnyCell (.slice vA (S.links.length + 1) vc) (S.links ++ [(⟨S.f, S.at_, back, res⟩ : LinkV)]).length (cellsL .u64 (S.links ++ [(⟨S.f, S.at_, back, res⟩ : LinkV)])) := by
                          rw [List.length_append]
                          exact M8.out.own.but hbo (fun g hg e => by
                            have e' : g = rb := e
                            subst e'
                            obtain ⟨_, c, hc⟩ := typed14 M8.out.own hg
                            exact types14 hc X8.out (by decide))
                        have MV9 := Lib.hid (H3.out.linked (LV' := .slice vA (S.links.length + 1) vc) (S' := { S with links := S.links ++ [⟨S.f, S.at_, back, res⟩] }) HB3B.out HLL.out hb9 hx9 ho9 (by rw [HLE.out]; have hz := M8.out.whr; rw [HLL2.out] at hz; exact hz) rfl HS2.out)
                        have UO9 := Lib.hid (show OutU W.heap.size W9 (.slice uA n uc) vs from HO3.out.but hb9 (fun g hg e => by
                          obtain ⟨_, c, hc⟩ := typed14 HO3.out hg
                          exact H3.out.notU hc (.inl (e.elim .inl (fun e => .inr (.inr (.inr (.inr (.inr e)))))))))
                        have HW9 := Lib.hid hW9
                        clear hx9 hb8 hb9 hbo ho9 hW9
                        go_wp2
                        rw [← HW9.out]
                        go_meet
                        case rel => exact ⟨_, MV9, UO9⟩
                    case rest =>
                      obtain ⟨p3, HM0, HO0⟩ := hcut
                      clear d0 d1 d2 d3 d4 d5 d6 d7 d8 d9 d10 g5 g6 g7 g8 g9 g10 a5 a6 a8 OL HO3 hl2 hln
                      have hrs0 : RsAt B wc rb p3 { S with links := S.links ++ [⟨S.f, S.at_, back, res⟩] } := HM0.out.at'
                      have hb0 := Nat.le_trans HB3B.out HM0.out.but.size
                      have HF3 : Hid (∀ k, foot15 rb p3 k → B ≤ k) := Lib.hid (fun k hk => (HM0.out.foot k hk).elim (HLL.out k) (fun e => Nat.le_trans HB3B.out e))
                      have hbx := but_box15 (but_box15 (one_but15 wc rb 5 (.int .i64 k)) 6 (.int .u64 y)) 7 (.int .i64 0)
                      have HM := Lib.hid (HM0.out.trans (hrs0.mvBox (S' := { S with links := S.links ++ [⟨S.f, S.at_, back, res⟩], f := k, at_ := y, pc := 0 }) hb0 HF3.out hbx (heap_setCell_same _ rb 7 _ _ (.int .i64 0) (heap_setCell_same _ rb 6 _ _ (.int .u64 y) (heap_setCell_same wc rb 5 _ _ (.int .i64 k) hrs0.box))) ⟨rfl, rfl, rfl, rfl, rfl, rfl⟩ HS1.out))
                      have HO : Hid (OutU W.heap.size (((wc.setCell ⟨rb, 5, none⟩ (.int .i64 k)).setCell ⟨rb, 6, none⟩ (.int .u64 y)).setCell ⟨rb, 7, none⟩ (.int .i64 0)) (.slice uA n uc) vs) := Lib.hid (HO0.out.but hbx (fun g hg e => by
                        obtain ⟨_, c, hc⟩ := typed14 HO0.out hg
                        exact hrs0.notU hc (.inl (.inl e))))
                      obtain ⟨⟨d0, d1, d2, d3, d4, d5⟩, d6, d7, d8, d9, d10⟩ := hrs0.cells
                      have g5 := hrs0.free 5
                      have g6 := hrs0.free 6
                      have g7 := hrs0.free 7
                      clear hrs0 hb0 hbx HM0 HO0 HF3
                      go_wp2
                      go_loopw [19] (fun v19 wr2 => ∃ (i : Nat) (mem : List Int) (p4 : Loc), v19 = .int .i64 i ∧ i ≤ n ∧ Hid (mem.length = S.mem.length ∧ setsL S.mem y 0 vs = setsL mem y i (vs.drop i)) ∧ Hid (Mv B (.rs rb S) (.rs rb { S with links := S.links ++ [⟨S.f, S.at_, back, res⟩], f := k, at_ := y, pc := 0, mem := mem }) p p4 W3 wr2) ∧ Hid (OutU W.heap.size wr2 (.slice uA n uc) vs)) (fun v19 _ => n - (intOf v19).toNat)
                      case atStart => exact ⟨0, S.mem, p3, rfl, by omega, Lib.hid ⟨rfl, rfl⟩, HM, HO⟩
                      case round =>
                        obtain ⟨i, mem, p4, rfl, hi, HQ, HMr, HOr⟩ := hrel
                        clear HM HO
                        by_cases hlt : i < n
                        · have hrs : RsAt B _ rb p4 { S with links := S.links ++ [⟨S.f, S.at_, back, res⟩], f := k, at_ := y, pc := 0, mem := mem } := HMr.out.at'
                          have hb4 := Nat.le_trans HB3B.out HMr.out.but.size
                          have hl4 : ∀ k, foot15 rb p4 k → B ≤ k := fun k hk => (HMr.out.foot k hk).elim (HLL.out k) (fun e => Nat.le_trans HB3B.out e)
                          obtain ⟨z, hz⟩ : ∃ z, z = vs.getD i 0 := ⟨_, rfl⟩
                          have hzb := HVB.out i hlt
                          rw [← hz] at hzb
                          have HSET := Lib.hid (rSet15 hrs hb4 hl4 (i : Int) z (by unfold InI; omega) hzb.1 hzb.2)
                          obtain ⟨sr1, sr2⟩ := HSR.out mem i z hlt
                          rw [sr1, sr2] at HSET
                          obtain ⟨ub, uo, uc2, hue, huc, hub, hul⟩ := (IsNums.of_owns HOr.out (Nat.le_refl _)).plain (by rw [HVL.out]; omega)
                          injection hue with hua hun huc2
                          clear hun
                          subst hua huc2
                          have cz := hul i (by rw [HVL.out]; exact hlt)
                          rw [← hz] at cz
                          have HUN := Lib.hid (fun (W5 : World) (hb5 : But (foot15 rb p4) wr W5) => (show OutU W.heap.size W5 (.slice (some ⟨ub, uo, none⟩) n uc) vs from HOr.out.but hb5 (fun g hg e => by
                            obtain ⟨_, c, hc⟩ := typed14 HOr.out hg
                            exact hrs.notU hc (.inl e))))
                          have HSTP := Lib.hid (setsL_step (mem := mem) (dst := y) (i := i) (vs := vs) (by rw [HVL.out]; exact hlt))
                          rw [← hz] at HSTP
                          have i0 : (0 : Int) ≤ (i : Int) := by omega
                          have i1 : (i : Int) < (n : Int) := by omega
                          clear hrs hb4 hl4 hz hzb sr1 sr2 huc hub hul
                          go_wp2_with (go_at_call 65; (with_reducible refine HSET.out.mono ?_); rintro e w6 ⟨rfl, p5, hm⟩; have HM6 := Lib.hid (HMr.out.trans hm); have HO6 := Lib.hid (HUN.out _ hm.but); clear hm)
                          go_roundw
                          case rel => exact ⟨i + 1, storeL mem (slotV y i) 8 z, p5, by go_num, by omega, Lib.hid ⟨storeL_len.trans HQ.out.1, HQ.out.2.trans HSTP.out⟩, HM6, HO6⟩
                          case measure => simp [intOf]; omega
                        · obtain rfl : n = i := by omega
                          have i1 : ¬ (n : Int) < (n : Int) := by omega
                          have hq := HQ.out.2
                          rw [List.drop_of_length_le (by rw [HVL.out]; exact Nat.le_refl _)] at hq
                          have hq2 : setsL S.mem y 0 vs = mem := hq
                          have hS := HS.out
                          rw [hq2] at hS
                          have HS2 := Lib.hid hS
                          clear hq hq2 hS HQ
                          go_wp2
                          go_ret
                          exact ⟨by rw [HE0.out]; rfl, p4, HS2.out ▸ Mv.ahead HB3.out HMr.out⟩
            · have hp5 : placeB back = false := by simpa using h5
              rw [hp5] at HPL
              have hE : S.callE k args res back = 5 := by rw [hEE, hp5]; simp
              have hS : S.callS k args res back = S := by unfold SpV.callS; rw [hE]; rfl
              rw [hE, hS]
              clear hpa he h1 h2 h3 h4 h5 hp5 hE hEE hS hoo hok h hB hf hr hbk c0 c2 c3 c4 c5 c6 c7 c8 c10 hfit hfle hkf
              go_enter Tryz.func87, Tryz.ntmps87
              go_wp2_with (first
                | (go_at_call 128; (with_reducible refine HRG.out.mono ?_); rintro e w2 ⟨rfl, q, rfl⟩)
                | (go_at_call 150; (with_reducible refine (HPL.out _).mono ?_); rintro e w3 ⟨rfl, rfl⟩))
              go_ret
              exact ⟨rfl, _, Mv.rsRead H.out HBB.out (below_drewN (Below.refl _ _) _)⟩
          · have hp4 : S.regB res = false := by simpa using h4
            rw [hp4] at HRG
            have hE : S.callE k args res back = 5 := by rw [hEE, hp4]; simp
            have hS : S.callS k args res back = S := by unfold SpV.callS; rw [hE]; rfl
            rw [hE, hS]
            clear hpa he h1 h2 h3 h4 hp4 hE hEE hS hoo hok h hB hf hr hbk c0 c2 c3 c4 c5 c6 c7 c8 c10 hfit hfle hkf
            go_enter Tryz.func87, Tryz.ntmps87
            go_wp2_with (go_at_call 128; (with_reducible refine HRG.out.mono ?_); rintro e w2 ⟨rfl, q, rfl⟩)
            go_ret
            exact ⟨rfl, _, Mv.rsRead H.out HBB.out (below_drewN (Below.refl _ _) _)⟩
        · have hd3 : ((n : Int) != pa) = true := by simpa using h3
          have hE : S.callE k args res back = 2 := by
            unfold SpV.callE
            rw [if_pos he, if_neg]
            intro c
            have := (fit_iff.1 c).2.2
            rw [Int.toNat_natCast, ← hpa, ← HN.out] at this
            exact h3 this
          have hS : S.callS k args res back = S := by unfold SpV.callS; rw [hE]; rfl
          rw [hE, hS]
          clear hpa he h1 h2 h3 hE hS hoo hok h hB hf hr hbk c0 c2 c3 c4 c5 c6 c7 c8 c10 hfle hkf
          go_enter Tryz.func87, Tryz.ntmps87
          go_wp2
          go_ret
          exact ⟨rfl, _, Mv.rsRead H.out HBB.out (Below.refl _ _)⟩
      · have hd2 : decide ((fl : Int) ≤ (k : Int)) = true := decide_eq_true (by omega)
        have hd2n : decide (fl ≤ k) = true := decide_eq_true (by omega)
        have hE : S.callE k args res back = 2 := by
          unfold SpV.callE
          rw [if_pos he, if_neg]
          intro c
          have := (fit_iff.1 c).2.1
          omega
        have hS : S.callS k args res back = S := by unfold SpV.callS; rw [hE]; rfl
        rw [hE, hS]
        clear he h1 h2 hE hS hoo hok h hB hf hr hbk c0 c2 c3 c4 c5 c6 c7 c8 c10 hfle
        go_enter Tryz.func87, Tryz.ntmps87
        go_wp2
        go_ret
        exact ⟨rfl, _, Mv.rsRead H.out HBB.out (Below.refl _ _)⟩
  · have heb : (S.ek != 0) = true := by simpa using he
    have hE : S.callE f args res back = 9 := by unfold SpV.callE; rw [if_neg he]
    have hS : S.callS f args res back = S := by unfold SpV.callS; rw [hE]; rfl
    rw [hE, hS]
    clear he hE hS hoo hok h hB hf hr hbk c0 c1 c2 c3 c4 c5 c6 c7 c8 c10
    go_enter Tryz.func87, Tryz.ntmps87
    go_wp2
    go_ret
    exact ⟨rfl, _, Mv.rsRead H.out HBB.out (Below.refl _ _)⟩
end
end Go.Proofs.YtkfdgpgildanbaaGreat
