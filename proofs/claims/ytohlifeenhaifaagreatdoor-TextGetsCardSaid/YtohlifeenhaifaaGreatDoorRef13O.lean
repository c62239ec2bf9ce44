/- The document's own line, of bytes. Contract; no condition but that the line is short and the module small. -/
import Derived.Test.YtohlifeenhaifaaGreatDoorRef13N
namespace Go.Proofs.YtohlifeenhaifaaGreatDoor
open Go.RowKit Go.Shelf
set_option linter.unusedVariables false
set_option linter.unusedSimpArgs false
section
variable {base b0 : Nat} {w : World} {V D F : Value} {s0 : ByteArray} {r : List ByteArray} {m : ModV} {Cs : List Value}
set_option maxRecDepth 100000 in
set_option maxHeartbeats 16000000 in
theorem rline13_bytes (h : LnIn13 base b0 w V D F s0 r m Cs) (h1 : lettersOf s0 = bytesW) (h2 : m.funcs = []) (ns : List Int) (hsome : numsP (r.map lettersOf) = some ns) :
    Calls Tryz.prog 41 #[.agg #[D, F], V] w (LineDn13 base m w ((s0 :: r).map lettersOf)) := by
  obtain ⟨n, hn⟩ : ∃ n, n = r.length := ⟨_, rfl⟩
  obtain ⟨DA, dc, hDe⟩ := owns_len h.mo.dat
  obtain ⟨FA, fc, hFe⟩ := owns_len h.mo.fns.fown
  obtain ⟨dn, hdn⟩ : ∃ n, n = m.data.length := ⟨_, rfl⟩
  obtain ⟨fn, hfn⟩ : ∃ n, n = m.funcs.length := ⟨_, rfl⟩
  rw [← hdn] at hDe
  rw [← hfn] at hFe
  subst hDe hFe
  obtain ⟨VA, vc, hVe⟩ := h.strs.len
  rw [List.length_cons, ← hn] at hVe
  subst hVe
  obtain ⟨vb, vo, hVA, hcap, hvb, hc0, vo', vc', hsl, hvt⟩ := strs_tail_is13 hn h.strs
  subst hVA
  have HT := Lib.hid hvt
  have hln : n ≤ 4000 := by rw [hn]; exact h.len
  have hn0 : (0 : Int) < (n : Int) + 1 := by omega
  have hwr : IntKind.i64.wrap ((n : Int) + 1 - 1) = (n : Int) := by rw [IntKind.wrap_i64]; omega
  have hfl : fn ≤ 900000 := by rw [hfn]; exact h.fns
  have HI := Lib.hid h
  have hL0 := Ln13.start h.mo h.hbw
  have hb0 : Below w.heap.size w ((w.alloc (.cells #[.slice DA dn dc, .slice FA fn fc] 25)).alloc (.cells #[.slice none 0 0, .slice none 0 0] 25)) := ((Below.refl _ w).alloc (Nat.le_refl _) _).alloc (by simp) _
  obtain ⟨W0, hW0⟩ : ∃ W0, W0 = (w.alloc (.cells #[.slice DA dn dc, .slice FA fn fc] 25)).alloc (.cells #[.slice none 0 0, .slice none 0 0] 25) := ⟨_, rfl⟩
  rw [← hW0] at hL0 hb0
  have L0 := Lib.hid hL0
  have B0 := Lib.hid hb0
  have HW0 := Lib.hid hW0
  have HN := Lib.hid (And.intro hn (And.intro hdn hfn))
  have HFD : Hid (∀ W, Calls Tryz.prog 74 #[.string s0] W (Makes W (.int .i64 (findW (lettersOf s0))))) := Lib.hid (fun W => by rw [← findV_W]; exact rfind_any s0 W)
  have HC0 : Hid (∀ W, Below w.heap.size w W → W.cell? ⟨vb, vo, none⟩ = some (.string s0)) := Lib.hid (fun W hb => (hb.cell (p := ⟨vb, vo, none⟩) hvb).trans hc0)
  have c0 := HC0.out W0 hb0
  clear hn hdn hfn hvt hL0 hb0 hW0 hvb hc0
  have tb := bytesB_yes h1
  have hf0 : ((fn : Int) == 0) = true := by rw [HN.out.2.2, h2]; rfl
  have HNM : Hid (∀ W, Below w.heap.size w W → Calls Tryz.prog 76 #[.slice (some ⟨vb, vo', none⟩) n vc'] W (fun e w' => ∃ v, e = .returned (.tuple #[v, .bool true]) ∧ Owns w' W.heap.size 3 1 (IsNum .i64) v ns.length (ns.map (Value.int .i64)) ∧ Below W.heap.size W w')) := Lib.hid (fun W hb => by
    have hz := rnumbers13_any _ r W ((HT.out.below hb (Nat.le_refl _) (Nat.le_refl _)).more hb.size) (fun x hx => HI.out.sz x (List.mem_cons_of_mem _ hx)) (by have := HI.out.len; omega)
    rw [hsome] at hz
    exact hz)
  have HIN := Lib.hid (nums_canon _ _ hsome).2
  have HNL := Lib.hid (numsP_len _ _ hsome)
  have HLG : Hid (ns.all (fun x => decide (0 ≤ x ∧ x ≤ 255)) = true → lineP m ((s0 :: r).map lettersOf) = (⟨m.data ++ ns, m.funcs⟩, 0)) := Lib.hid (fun ha => by
    unfold lineP
    rw [List.map_cons, List.headD_cons, if_pos h1, if_neg (by rw [h2]; simp), List.tail_cons, hsome]
    simp only [if_pos ha])
  have HLB : Hid (∀ x ∈ ns, ¬ (0 ≤ x ∧ x ≤ 255) → (lineP m ((s0 :: r).map lettersOf)).2 = 5) := Lib.hid (fun x hx hn => by
    unfold lineP
    rw [List.map_cons, List.headD_cons, if_pos h1, if_neg (by rw [h2]; simp), List.tail_cons, hsome]
    have ha : ¬ ns.all (fun x => decide (0 ≤ x ∧ x ≤ 255)) = true := fun e => hn (by simpa using List.all_eq_true.1 e x hx)
    simp only [if_neg ha])
  have HDL : Hid (m.data.length + ns.length ≤ 1000000000) := Lib.hid (by have h3 := HNL.out; have h4 := HI.out.len; have h5 := HI.out.dat; rw [List.length_map] at h3; omega)
  clear h1 h2 hsome
  go_enter Tryz.func41, Tryz.ntmps41
  go_wp2_with (first
    | (rw [← HW0.out])
    | (go_at_call 74; (with_reducible refine (HFD.out _).mono ?_); rintro e w2 ⟨rfl, hb⟩; have L2 := Lib.hid (L0.out.grow hb); have B2 := Lib.hid (B0.out.trans (hb.mono B0.out.size)); clear c0; have c0 := HC0.out _ B2.out; obtain ⟨x0, x1⟩ := L2.out.mdl.cells; obtain ⟨y0, y1⟩ := cells2 L2.out.res; have g0 := frozen_of_row w2 (w.heap.size + 1) 0 _ _ L2.out.res; have g1 := frozen_of_row w2 (w.heap.size + 1) 1 _ _ L2.out.res; clear hb)
    | (go_at_call 76; (with_reducible refine (HNM.out _ B2.out).mono ?_); rintro e w4 ⟨nv, rfl, hown, hb⟩; obtain ⟨NA, nc, hne⟩ := owns_len hown; subst hne; have L4 := Lib.hid (L2.out.grow hb); have B4 := Lib.hid (B2.out.trans (hb.mono B2.out.size)); have HON := Lib.hid hown; have HS4 := Lib.hid B2.out.size; clear c0 x0 x1 y0 y1 g0 g1; have c0 := HC0.out _ B4.out; obtain ⟨x0, x1⟩ := L4.out.mdl.cells; obtain ⟨y0, y1⟩ := cells2 L4.out.res; have g0 := frozen_of_row w4 (w.heap.size + 1) 0 _ _ L4.out.res; have g1 := frozen_of_row w4 (w.heap.size + 1) 1 _ _ L4.out.res; clear hb hown))
  obtain ⟨k, hk⟩ : ∃ k, k = ns.length := ⟨_, rfl⟩
  have HK := Lib.hid hk
  rw [← hk] at HON ⊢
  have hk4 : k ≤ 1000000 := by have h3 := HNL.out; have h4 := HI.out.len; rw [List.length_map] at h3; omega
  have HSB := Lib.hid (Nat.le_trans HI.out.hbw B4.out.size)
  clear c0 x0 x1 y0 y1 g0 g1 hk
  go_loopw [10] (fun v10 wr => ∃ (i : Nat) (D1 : Value), v10 = .int .i64 i ∧ i ≤ k ∧ Hid (Ln13 base b0 w wr D1 (.slice FA fn fc) ⟨m.data ++ ns.take i, m.funcs⟩ Cs ∧ Owns wr w2.heap.size 3 1 (IsNum .i64) (.slice NA k nc) k (ns.map (Value.int .i64)) ∧ (ns.take i).all (fun x => decide (0 ≤ x ∧ x ≤ 255)) = true)) (fun v10 _ => k - (intOf v10).toNat)
  case atStart => exact ⟨0, _, rfl, Nat.zero_le _, Lib.hid ⟨by rw [List.take_zero, List.append_nil]; exact L4.out, HON.out, rfl⟩⟩
  case round =>
    obtain ⟨i, D1, rfl, hi, HR⟩ := hrel
    have L := Lib.hid HR.out.1
    obtain ⟨DA1, dc1, hD1⟩ := owns_len HR.out.1.mdl.dat
    obtain ⟨d1, hd1⟩ : ∃ d1, d1 = (m.data ++ ns.take i).length := ⟨_, rfl⟩
    rw [← hd1] at hD1
    subst hD1
    have HD1 := Lib.hid hd1
    have i0 : (0 : Int) ≤ (i : Int) := by omega
    obtain ⟨x0, x1⟩ := L.out.mdl.cells
    obtain ⟨y0, y1⟩ := cells2 L.out.res
    have g0 := frozen_of_row wr (w.heap.size + 1) 0 _ _ L.out.res
    have g1 := frozen_of_row wr (w.heap.size + 1) 1 _ _ L.out.res
    clear hd1
    by_cases hlt : i < k
    · have hlt2 : (i : Int) < (k : Int) := by omega
      have hkl : i < ns.length := by rw [← HK.out]; exact hlt
      obtain ⟨nb, no, ncap, hNe, hncap, hnb, hnc⟩ := (IsNums.of_owns HR.out.2.1 (Nat.le_refl _)).plain (by omega)
      rw [← HK.out] at hNe
      injection hNe with e1 e2 e3
      subst e1 e3
      have kc := hnc i hkl
      have hmem : ns.getD i 0 ∈ ns := by rw [List.getD_eq_getElem?_getD, List.getElem?_eq_getElem hkl]; exact List.getElem_mem hkl
      have htk : ns.take (i + 1) = ns.take i ++ [ns.getD i 0] := by rw [List.take_succ_eq_append_getElem hkl, List.getD_eq_getElem?_getD, List.getElem?_eq_getElem hkl]; rfl
      have HM := Lib.hid hmem
      have HTK := Lib.hid htk
      have HNC := Lib.hid hncap
      have HII : Hid (InI (ns.getD i 0)) := Lib.hid (HIN.out _ hmem)
      generalize ns.getD i 0 = x at *
      have xi := HII.out
      unfold InI at xi
      have hncap2 : k ≤ nc := by have := HNC.out; rw [← HK.out] at this; exact this
      clear hnc hmem htk hncap
      by_cases hx : 0 ≤ x ∧ x ≤ 255
      · have hx0 : ¬ x < 0 := by omega
        have hx1 : ¬ 255 < x := by omega
        have hx3 : 0 ≤ x := hx.1
        have hx4 : x < 256 := by omega
        have hwu : IntKind.u8.wrap x = x := by rw [IntKind.wrap_u8]; omega
        have HX := Lib.hid (And.intro hx3 hx4)
        have HAL : Hid ((ns.take (i + 1)).all (fun x => decide (0 ≤ x ∧ x ≤ 255)) = true) := Lib.hid (by rw [HTK.out, List.all_append, HR.out.2.2]; simp [hx])
        have hal : Below wr.heap.size wr (wr.alloc (.cells #[.int .u8 x] 5)) := (Below.refl wr.heap.size wr).alloc (Nat.le_refl _) _
        have x0a := (hal.cell (p := ⟨w.heap.size, 0, none⟩) L.out.mdl.lt).trans x0
        have kca := (hal.cell (p := ⟨nb, no + i, none⟩) hnb).trans kc
        have HRd := Lib.hid (L.out.mdl.grow (Below.refl _ wr).drew)
        have HO1 : Hid (Owns wr.drew base 5 1 IsU8 (.slice DA1 d1 dc1) ((m.data ++ ns.take i).map (Value.int .u8)).length ((m.data ++ ns.take i).map (Value.int .u8))) := by rw [List.length_map]; exact Lib.hid HRd.out.dat
        have HZ1 := Lib.hid (show base ≤ wr.drew.heap.size from Nat.le_trans L.out.hbw (Nat.le_of_lt L.out.mdl.lt))
        have HLN : Hid (((m.data ++ ns.take i).map (Value.int .u8)).length ≤ 1000000000) := Lib.hid (by have := HDL.out; rw [List.length_map, List.length_append, List.length_take]; omega)
        have HRS := Lib.hid L.out.res
        have HNU := Lib.hid (show Owns wr.drew w2.heap.size 3 1 (IsNum .i64) (.slice (some ⟨nb, no, none⟩) k nc) k (ns.map (Value.int .i64)) from HR.out.2.1.below (Below.refl _ wr).drew (Nat.le_refl _))
        have HLE := Lib.hid hlt
        clear hnb hal hx y0 y1 g0 g1 hlt
        go_wp2
        go_region_law (first | (refine step_one1 (W := wr.drew) rfl (.tmp 109) (.tmp 115) rfl Tryz.underlying22 u8_info rfl zero_u8 rfl rfl rfl HO1.out ⟨x, HX.out.1, HX.out.2, rfl⟩ rfl HZ1.out HLN.out (by decide) ?_; intro V8 w8 hM; have HD := Lib.hid (HRd.out.data hM HX.out HZ1.out); have hbx := (hM.blk w.heap.size HRd.out.lt HRd.out.rb_ne).trans HRd.out.box; have q0 := (cells2 hbx).1; have q1 := frozen_of_row w8 w.heap.size 0 _ _ hbx; have hr8 := (hM.blk (w.heap.size + 1) (heap_lt HRS.out) (fun e => by obtain ⟨c', hc'⟩ := HRd.out.dat.typed e.symm; exact typed_ne hc' (by decide) HRS.out)).trans HRS.out; have HR8 := Lib.hid hr8; have hb8 : But (fun j => some j = (Value.slice DA1 d1 dc1).ownBlock) wr.drew w8 := ⟨hM.bel.os, hM.bel.tape, hM.bel.output, hM.size, fun j hj hn => hM.blk j hj hn⟩; have HN8 := Lib.hid (HNU.out.but hb8 (fun g hg e => by obtain ⟨c1', hc1⟩ := HNU.out.typed hg; obtain ⟨c2', hc2⟩ := HRd.out.dat.typed e.symm; exact typed_ne hc1 (by decide) hc2)); obtain ⟨nA8, nc8, hn8⟩ := owns_len hM.own; obtain ⟨n8, hn9⟩ : ∃ n8, n8 = ((m.data ++ ns.take i).map (Value.int .u8) ++ [Value.int .u8 x]).length := ⟨_, rfl⟩; rw [← hn9] at hn8; subst hn8; clear hn9 hM hbx hr8 hb8))
        all_goals
          have hbs : But (OneBlock w.heap.size) w8 (w8.setCell ⟨w.heap.size, 0, none⟩ (.slice nA8 n8 nc8)) := (But.refl (OneBlock w.heap.size) w8).setCell (p := ⟨w.heap.size, 0, none⟩) (.inl rfl) _
          have HNX : Hid (Ln13 base b0 w (w8.setCell ⟨w.heap.size, 0, none⟩ (.slice nA8 n8 nc8)) (.slice nA8 n8 nc8) (.slice FA fn fc) ⟨m.data ++ ns.take (i + 1), m.funcs⟩ Cs) := Lib.hid ⟨by rw [HTK.out, ← List.append_assoc]; exact HD.out.1, hbs.heap HR8.out (fun e => by have e' : w.heap.size + 1 = w.heap.size := e; omega), But.below L.out.bel HD.out.2.1.of_drew (by have := HZ1.out; exact this) (fun j hj => by have := L.out.hbw; rcases hj with e | ⟨e, _⟩ <;> omega), L.out.hbw⟩
          have HNN := Lib.hid (HN8.out.but hbs (fun g hg e => by have e' : g = w.heap.size := e; subst e'; obtain ⟨c1', hc1⟩ := HNU.out.typed hg; exact typed_ne hc1 (by decide) HRd.out.box))
          clear hbs
          go_wp2
          go_roundw
          case rel => exact ⟨i + 1, _, by go_num, by have := HLE.out; omega, Lib.hid ⟨HNX.out, HNN.out, HAL.out⟩⟩
          case measure => have := HLE.out; simp [intOf]; omega
      · have HE5 := Lib.hid (HLB.out x HM.out hx)
        have hx2 : x < 0 ∨ 255 < x := by omega
        clear hx hnb
        rcases hx2 with hx2 | hx2
        · go_wp2
          exact bodyPost_ret (v := .tuple #[.agg #[.slice DA1 d1 dc1, .slice FA fn fc], .int .i64 5]) (by simp [results, Tryz.results41, go_sem, y0, y1]) rfl (ln_end13 L.out.res L.out.bel L.out.hbw HE5.out (fun h => absurd h (by decide)))
        · have hx3 : ¬ x < 0 := by omega
          go_wp2
          exact bodyPost_ret (v := .tuple #[.agg #[.slice DA1 d1 dc1, .slice FA fn fc], .int .i64 5]) (by simp [results, Tryz.results41, go_sem, y0, y1]) rfl (ln_end13 L.out.res L.out.bel L.out.hbw HE5.out (fun h => absurd h (by decide)))
    · obtain rfl : k = i := by omega
      have HT2 : Hid (ns.take k = ns) := Lib.hid (List.take_of_length_le (by rw [HK.out]; exact Nat.le_refl _))
      have HLP : Hid (lineP m ((s0 :: r).map lettersOf) = (⟨m.data ++ ns, m.funcs⟩, 0)) := Lib.hid (HLG.out (by have := HR.out.2.2; rw [HT2.out] at this; exact this))
      have HMO : Hid (Mo13 base b0 wr (.slice DA1 d1 dc1) (.slice FA fn fc) ⟨m.data ++ ns, m.funcs⟩ Cs) := Lib.hid (by have := HR.out.1.mdl.mo; rw [HT2.out] at this; exact this)
      go_wp2
      exact bodyPost_ret (v := .tuple #[.agg #[.slice DA1 d1 dc1, .slice FA fn fc], .int .i64 0]) (by simp [results, Tryz.results41, go_sem, y0, y1]) rfl (ln_end13 L.out.res L.out.bel L.out.hbw (by first | rw [HLP.out] | (have h9 := HLP.out; rw [List.map_cons] at h9; rw [h9])) (fun _ => ⟨_, _, by first | (rw [HLP.out]; exact HMO.out) | (have h9 := HLP.out; rw [List.map_cons] at h9; rw [h9]; exact HMO.out)⟩))
/-- A line, whatever it is. -/
theorem rline13_any (h : LnIn13 base b0 w V D F s0 r m Cs) : Calls Tryz.prog 41 #[.agg #[D, F], V] w (LineDn13 base m w ((s0 :: r).map lettersOf)) := by
  by_cases h1 : lettersOf s0 = bytesW
  · by_cases h2 : m.funcs = []
    · cases hn : numsP (r.map lettersOf) with
      | none => exact rline13_bytes_bad h h1 h2 hn
      | some ns => exact rline13_bytes h h1 h2 ns hn
    · exact rline13_bytes_in h h1 h2
  · by_cases h1f : lettersOf s0 = funcW
    · by_cases h2 : r.length = 3
      · cases hn : numsP (r.map lettersOf) with
        | none => exact rline13_func_bad h h1f h2 hn
        | some ns =>
          have h3 := numsP_len _ _ hn
          rw [List.length_map, h2] at h3
          match ns, h3 with
          | [a, b, c], _ => exact rline13_func h h1f a b c hn
      · exact rline13_func_n h h1f h2
    · by_cases h3 : 0 ≤ findW (lettersOf s0)
      · by_cases h4 : m.funcs = []
        · exact rline13_op_none h h1 h1f h3 h4
        · by_cases h5 : fieldsP (findW (lettersOf s0)) (List.replicate r.length 0) = none
          · exact rline13_op_few h h1 h1f h3 h4 h5
          · cases hn : numsP (r.map lettersOf) with
            | none => exact rline13_op_bad h h1 h1f h3 h4 h5 hn
            | some ns =>
              have h6 := numsP_len _ _ hn
              rw [List.length_map] at h6
              have h7 : (fieldsP (findW (lettersOf s0)) ns).isSome = true := by
                have h8 : (fieldsP (findW (lettersOf s0)) (List.replicate r.length 0)).isSome = true := by rw [Option.isSome_iff_ne_none]; exact h5
                unfold fieldsP at h8 ⊢
                rw [Option.isSome_map] at h8 ⊢
                have e1 := (fld_some (lettersOf (shapeI (findW (lettersOf s0)))) (List.replicate r.length 0) ⟨0, [], 0, []⟩ (last_shape _)).1 h8
                refine (fld_some (lettersOf (shapeI (findW (lettersOf s0)))) ns ⟨0, [], 0, []⟩ (last_shape _)).2 ?_
                rw [List.length_replicate] at e1
                rw [h6]
                exact e1
              obtain ⟨y, hy⟩ := Option.isSome_iff_exists.1 h7
              exact rline13_op h h1 h1f h3 h4 h5 ns hn y hy
      · exact rline13_no h h1 h1f (by omega)
end
end Go.Proofs.YtohlifeenhaifaaGreatDoor
