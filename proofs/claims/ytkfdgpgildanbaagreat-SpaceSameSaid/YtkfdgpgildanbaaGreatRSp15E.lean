import Derived.Test.YtkfdgpgildanbaaGreatRSp15D
namespace Go.Proofs.YtkfdgpgildanbaaGreat
open Go.RowKit Go.Shelf
set_option linter.unusedVariables false
set_option linter.unusedSimpArgs false
theorem grown15 {W W' : World} {o : Obj} {g : Nat} (hg : g = W.heap.size) (h : World.grownBy (W.alloc o) W' (some g)) : Below W.heap.size W W' := by
  subst hg
  exact ((Below.refl W.heap.size W).alloc (Nat.le_refl _) o).grown h (by simp) (fun j hj => by injection hj with hj; omega)
set_option maxRecDepth 100000 in
theorem run_rdeeds15 {ty : TypeId} {W : World} {V : Value} {base : Nat} {L : List (Int × Int)} (h : Owns W base 182 2 AnyC14 V L.length (cellsD L)) (hl : L.length ≤ 1000000) :
    ∃ V' W', (Builtin.append_ #[91, 91] ty #[.slice (some ⟨W.heap.size, 0, none⟩) 0 0, V]).run Tryz.prog (W.alloc (.cells #[] 182)) = .ok V' W' ∧ Owns W' W.heap.size 182 2 AnyC14 V' L.length (cellsD L) ∧ Below W.heap.size W W' := by
  obtain ⟨i, hi, h1, h2, h3⟩ := info_parts deed_info
  have hM := Owns.made W W.heap.size 182 2 AnyC14 (Nat.le_refl _)
  have hD := IsDeeds.of_owns h (Nat.le_refl _)
  rcases hD.2 with ⟨rfl, rfl⟩ | ⟨b, off, sp, cap, rfl, g1, g2, g3⟩
  · refine ⟨.slice (some ⟨W.heap.size, 0, none⟩) 0 0, W.alloc (.cells #[] 182), ?_, hM, (Below.refl _ _).alloc (Nat.le_refl _) _⟩
    simp [go_sem, Tryz.underlying91]
  · obtain ⟨V', W', hr, ho, hg⟩ := run_append_q (P := Tryz.prog) _ W.heap.size 91 ty 182 i _ 2 16 Tryz.underlying91 hi h1 h2 h3 rfl (by decide) AnyC14 (fun _ _ => trivial) _ 0 [] hM ⟨b, off, sp⟩ L.length cap (cellsD L) (cellsD_len L) (newsD14 (o := .cells #[] 182) g2 g3) (cellsD_one L) (fun _ _ => trivial) (by unfold maxLen; omega) (by omega) (by simp)
    refine ⟨V', W', hr, by simpa using ho, grown15 rfl hg⟩
theorem step_rdeeds15 {W : World} {ops : Array Oper} {o : Oper} {a : Act} {K : Act → World → Prop} {Q : Exit → Act → World → Prop} {E : Prop} (hgd : o.guard = none) (s x : Operand)
    (ho : o.op = .call { callee := .builtin .append, args := #[s, x], argTypes := #[91, 91] }) {V : Value} {base g : Nat} {L : List (Int × Int)} (hs : a.eval s = .slice (some ⟨g, 0, none⟩) 0 0) (hx : a.eval x = V) (hgs : g = W.heap.size) (h : Owns W base 182 2 AnyC14 V L.length (cellsD L))
    (hl : L.length ≤ 1000000) (hK : ∀ V' W', Owns W' W.heap.size 182 2 AnyC14 V' L.length (cellsD L) → Below W.heap.size W W' → K (a.put o.dst V') W') :
    if Region.wanted o (yielded ops a.tmps) = true then Oper.wp Tryz.prog o a (W.alloc (.cells #[] 182)) K Q else E := by
  subst hgs
  rw [if_pos (by simp [Region.wanted, hgd])]
  obtain ⟨V', W', hr, hm⟩ := run_rdeeds15 (ty := o.type) h hl
  unfold Oper.wp execOp
  simp only [ho, resolve, invoke, builtin, Sem.run_bind, Sem.run_pure, Result.andThen_ok, List.map_toArray, List.map_cons, List.map_nil, hs, hx, hr]
  exact hK V' W' hm.1 hm.2
theorem u8_info15 : (Tryz.prog.info? 5).map (fun i => (i.zero, i.size, i.bytes)) = some (some (.int .u8 0), 1, 1) := by kernel_rfl
set_option maxRecDepth 100000 in
theorem run_rbytes15 {ty : TypeId} {W : World} {X : Value} {B : Nat} {xs : List Int} (h : IsBytes W B X xs) (hB : B ≤ W.heap.size) (hl : xs.length ≤ 1000000) :
    ∃ V' W', (Builtin.append_ #[22, 22] ty #[.slice (some ⟨W.heap.size, 0, none⟩) 0 0, X]).run Tryz.prog (W.alloc (.cells #[] 5)) = .ok V' W' ∧ OwnB W.heap.size W' V' xs ∧ Below W.heap.size W W' := by
  obtain ⟨i, hi, h1, h2, h3⟩ := info_parts u8_info15
  have hM := Owns.made W W.heap.size 5 1 IsU8 (Nat.le_refl _)
  rcases h.2.2 with ⟨rfl, rfl⟩ | ⟨ad, cap, rfl, g1, g2, g3⟩
  · refine ⟨.slice (some ⟨W.heap.size, 0, none⟩) 0 0, W.alloc (.cells #[] 5), ?_, OwnB.of_owns (n := 0) hM (by simp) (by simp), (Below.refl _ _).alloc (Nat.le_refl _) _⟩
    simp [go_sem, Tryz.underlying22]
  · have hcell : ∀ j u, (xs.map (Value.int .u8))[j]? = some u → (W.alloc (.cells #[] 5)).cell? (ad.add j) = some u := by
      intro j u hj
      rw [List.getElem?_map] at hj
      obtain ⟨x, hx, rfl⟩ := Option.map_eq_some_iff.1 hj
      have hjl := (List.getElem?_eq_some_iff.1 hx).1
      have hlt : (ad.add j).block < W.heap.size := by
        have := g2 (by omega)
        have e : (ad.add j).block = ad.block := by unfold Addr.add; split <;> rfl
        omega
      rw [World.cell?_alloc_lt W _ _ hlt, g3 j hjl]
      simp [List.getD, hx]
    obtain ⟨V', W', hr, ho, hg⟩ := run_append_q (P := Tryz.prog) _ W.heap.size 22 ty 5 i _ 1 1 Tryz.underlying22 hi h1 h2 h3 rfl (by decide) IsU8 zero_u8 _ 0 [] hM ad xs.length cap (xs.map (Value.int .u8)) (by simp) hcell (ints_oneCell _ _) (u8_cells h.1) (by unfold maxLen; omega) (by omega) (by simp)
    refine ⟨V', W', hr, OwnB.of_owns (n := 0 + xs.length) (by simpa using ho) h.1 (by omega), grown15 rfl hg⟩
theorem step_rbytes15 {W : World} {ops : Array Oper} {o : Oper} {a : Act} {K : Act → World → Prop} {Q : Exit → Act → World → Prop} {E : Prop} (hgd : o.guard = none) (s x : Operand)
    (ho : o.op = .call { callee := .builtin .append, args := #[s, x], argTypes := #[22, 22] }) {X : Value} {B g : Nat} {xs : List Int} (hs : a.eval s = .slice (some ⟨g, 0, none⟩) 0 0) (hx : a.eval x = X) (hgs : g = W.heap.size) (h : IsBytes W B X xs) (hB : B ≤ W.heap.size)
    (hl : xs.length ≤ 1000000) (hK : ∀ V' W', OwnB W.heap.size W' V' xs → Below W.heap.size W W' → K (a.put o.dst V') W') :
    if Region.wanted o (yielded ops a.tmps) = true then Oper.wp Tryz.prog o a (W.alloc (.cells #[] 5)) K Q else E := by
  subst hgs
  rw [if_pos (by simp [Region.wanted, hgd])]
  obtain ⟨V', W', hr, hm⟩ := run_rbytes15 (ty := o.type) h hB hl
  unfold Oper.wp execOp
  simp only [ho, resolve, invoke, builtin, Sem.run_bind, Sem.run_pure, Result.andThen_ok, List.map_toArray, List.map_cons, List.map_nil, hs, hx, hr]
  exact hK V' W' hm.1 hm.2
section
variable {B : Nat} {W W' : World} {rb : Nat} {p : Loc} {S S' : SpV}
set_option maxRecDepth 100000
set_option maxHeartbeats 8000000
theorem rOut15 (h : RsAt B W rb p S) (hB : B ≤ W.heap.size) : Calls Tryz.prog 97 #[.pointer (some ⟨rb, 0, none⟩)] W (OutcDone W S) := by
  have hA := below_one14 W (.cells #[.slice none 0 0, .int .i64 0, .int .i64 0] 93)
  obtain ⟨W0, hW0⟩ : ∃ W0, W0 = W.alloc (.cells #[.slice none 0 0, .int .i64 0, .int .i64 0] 93) := ⟨_, rfl⟩
  have HW := Lib.hid hW0
  have hnew : W0.heap[W.heap.size]? = some (.cells #[.slice none 0 0, .int .i64 0, .int .i64 0] 93 (0, 0)) := by rw [hW0]; exact heap_alloc_new _ _
  rw [← hW0] at hA
  have HA := Lib.hid hA
  have HNW := Lib.hid hnew
  have h0 := h.grow hB hA
  have h0d := h0.grow (Nat.le_trans hB hA.size) ((Below.refl W0.heap.size W0).drew)
  obtain ⟨⟨c0, c1, c2, c3, c4, c5⟩, c6, c7, c8, c9, c10⟩ := h0.cells
  obtain ⟨t0, t1, t2⟩ := cells3_14 h0.tape.box
  have hal := below_one14 W0 (.cells #[] 182)
  have h1 := h0.grow (Nat.le_trans hB hA.size) hal
  obtain ⟨⟨_, _, _, a3, _, _⟩, _, _, _, a9, a10⟩ := h1.cells
  obtain ⟨_, _, b2⟩ := cells3_14 h1.tape.box
  obtain ⟨LA, lc, hle⟩ := owns_len14 h0.tape.done
  rw [hle] at t2 b2
  have HO := Lib.hid (show Owns W0.drew p.b 182 2 AnyC14 (.slice LA S.done.length lc) S.done.length (cellsD S.done) by rw [← hle]; exact h0d.tape.done)
  have hfew := h0.tape.few
  have HBX := Lib.hid (fun (W2 : World) (hb : Below W0.heap.size W0 W2) => (h0.grow (Nat.le_trans hB hA.size) hb).cells)
  have HSZ := Lib.hid (show W.heap.size < W0.heap.size from heap_lt hnew)
  obtain ⟨n, hn⟩ : ∃ n, n = S.done.length := ⟨_, rfl⟩
  have HN := Lib.hid hn
  clear h h0 h0d h1 hB hA hnew hW0 hal hle c0 c1 c2 c4 c5 c6 c7 c8 t0 t1
  go_enter Tryz.func97, Tryz.ntmps97
  go_upto_region 1 with fail
  rw [← HW.out]
  obtain ⟨n0, n1, n2⟩ := cells3_14 HNW.out
  go_region_law ((refine step_rdeeds15 (W := W0.drew) (V := .slice LA S.done.length lc) (L := S.done) rfl (.tmp 3) (.tmp 10) rfl rfl rfl rfl HO.out (by omega) ?_; intro V8 w8 ho8 hb8; obtain ⟨vA, vc, hve⟩ := owns_len14 ho8; subst hve; have O8 := Lib.hid ho8; have B8 := Lib.hid (show Below W0.heap.size W0 w8 from (Below.refl W0.heap.size W0).drew.trans hb8); obtain ⟨⟨_, _, _, e3, _, _⟩, _, _, _, e9, e10⟩ := HBX.out w8 B8.out; obtain ⟨m0, m1, m2⟩ := cells3_14 ((B8.out.block _ (heap_lt HNW.out)).trans HNW.out); have f0 := frozen_of_row w8 W.heap.size 0 _ _ ((B8.out.block _ (heap_lt HNW.out)).trans HNW.out); have f1 := frozen_of_row w8 W.heap.size 1 _ _ ((B8.out.block _ (heap_lt HNW.out)).trans HNW.out); have f2 := frozen_of_row w8 W.heap.size 2 _ _ ((B8.out.block _ (heap_lt HNW.out)).trans HNW.out); clear ho8 hb8))
  all_goals
    have hx3 := heap_setCell_same _ W.heap.size 2 _ _ (.int .i64 S.ec) (heap_setCell_same _ W.heap.size 1 _ _ (.int .i64 S.ek) (heap_setCell_same w8 W.heap.size 0 _ _ (.slice vA S.done.length vc) ((B8.out.block _ (heap_lt HNW.out)).trans HNW.out)))
    have hb3 := but_box15 (but_box15 (but_box15 (But.refl (OneBlock W.heap.size) w8) 0 (.slice vA S.done.length vc)) 1 (.int .i64 S.ek)) 2 (.int .i64 S.ec)
    obtain ⟨W3, hW3⟩ : ∃ W3, W3 = (((w8.setCell ⟨W.heap.size, 0, none⟩ (.slice vA S.done.length vc)).setCell ⟨W.heap.size, 1, none⟩ (.int .i64 S.ek)).setCell ⟨W.heap.size, 2, none⟩ (.int .i64 S.ec)) := ⟨_, rfl⟩
    rw [← hW3] at hx3 hb3 ⊢
    have O3 := Lib.hid ((O8.out.but hb3 (fun g hg e => by have e' : g = W.heap.size := e; have h1 := (O8.out.lt hg).1; have h2 := HSZ.out; have h3 : W0.drew.heap.size = W0.heap.size := rfl; omega)).base (show W.heap.size ≤ W0.drew.heap.size from HA.out.size))
    have B3 := Lib.hid (show Below W.heap.size W W3 from hb3.below (HA.out.trans (B8.out.mono HA.out.size)) (Nat.le_trans HA.out.size B8.out.size) (fun k hk => by have e' : k = W.heap.size := hk; omega))
    have hx4 : W3.heap[W.heap.size]? = some (.cells #[.slice vA S.done.length vc, .int .i64 S.ek, .int .i64 S.ec] 93 (0, 0)) := hx3
    clear hW3 hx3 hb3
    obtain ⟨q0, q1, q2⟩ := cells3_14 hx4
    go_wp2
    exact bodyPost_ret (v := .agg #[.slice vA S.done.length vc, .int .i64 S.ek, .int .i64 S.ec]) (by simp [results, Tryz.results97, go_sem, q0, q1, q2]) rfl ⟨_, rfl, O3.out, B3.out⟩
end
end Go.Proofs.YtkfdgpgildanbaaGreat
