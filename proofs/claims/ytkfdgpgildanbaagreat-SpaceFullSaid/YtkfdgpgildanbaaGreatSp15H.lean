/- The landed space: its outcome; returns. Contracts; no condition but that it lies in memory. -/
import Derived.Test.YtkfdgpgildanbaaGreatSp15G
namespace Go.Proofs.YtkfdgpgildanbaaGreat
open Go.RowKit Go.Shelf
set_option linter.unusedVariables false
set_option linter.unusedSimpArgs false

/-- An outcome that has been made. -/
def OutcDone (W : World) (S : SpV) (e : Ending) (W' : World) : Prop := ∃ V, e = .returned (.agg #[V, .int .i64 S.ek, .int .i64 S.ec]) ∧ Owns W' W.heap.size 182 2 AnyC14 V S.done.length (cellsD S.done) ∧ Below W.heap.size W W'
set_option maxRecDepth 100000 in
set_option maxHeartbeats 4000000 in
theorem outcome15 {W : World} {sb : Nat} {p : Loc} {S : SpV} (h : LaidAt W sb p S) : Calls Tryz.prog 77 #[.pointer (some ⟨sb, 0, none⟩)] W (OutcDone W S) := by
  have hB := below_one14 W (.cells #[.slice none 0 0, .int .i64 0, .int .i64 0] 93)
  obtain ⟨W0, hW0⟩ : ∃ W0, W0 = W.alloc (.cells #[.slice none 0 0, .int .i64 0, .int .i64 0] 93) := ⟨_, rfl⟩
  have HW := Lib.hid hW0
  have hnew : W0.heap[W.heap.size]? = some (.cells #[.slice none 0 0, .int .i64 0, .int .i64 0] 93 (0, 0)) := by rw [hW0]; exact heap_alloc_new _ _
  rw [← hW0] at hB
  have HB := Lib.hid hB
  have HN := Lib.hid hnew
  have h0 := h.grow hB
  have HT := Lib.hid (deeds14 (h0.grow (Below.refl _ _).drew).tape)
  obtain ⟨⟨c5, c9, c10, c11⟩, ⟨c12, c13, c14, c15⟩, c16, c17⟩ := h0.cells
  have K0 : Hid (W0.drew.cell? ⟨sb, 10, none⟩ = some (.pointer (some ⟨p.tb, 0, none⟩)) ∧ W0.drew.cell? ⟨sb, 16, none⟩ = some (.int .i64 S.ek) ∧ W0.drew.cell? ⟨sb, 17, none⟩ = some (.int .i64 S.ec)) := Lib.hid ⟨c10, c16, c17⟩
  have HSB : Hid (sb < W0.heap.size ∧ W.heap.size < W0.heap.size ∧ sb ≠ W.heap.size) := Lib.hid ⟨heap_lt h0.box, heap_lt hnew, fun e => by have := heap_lt h.box; omega⟩
  obtain ⟨n, hn⟩ : ∃ n, n = S.done.length := ⟨_, rfl⟩
  have HL := Lib.hid hn
  have hne : W.heap.size ≠ sb := fun e => by have := heap_lt h.box; omega
  clear h h0 hB hnew hW0 hn
  go_enter Tryz.func77, Tryz.ntmps77
  go_upto_region 1 with fail
  rw [← HW.out]
  obtain ⟨n0, n1, n2⟩ := cells3_14 HN.out
  go_region_held3 (fun W => W.cell? ⟨sb, 10, none⟩ = some (.pointer (some ⟨p.tb, 0, none⟩)) ∧ W.cell? ⟨sb, 16, none⟩ = some (.int .i64 S.ek) ∧ W.cell? ⟨sb, 17, none⟩ = some (.int .i64 S.ec))
    (first | with_reducible exact K1.out | with_reducible exact K0.out | go_keep)
    ((go_at_call 141; (with_reducible refine HT.out.mono ?_); rintro e w1 ⟨v, rfl, ho, hb⟩; obtain ⟨vA, vc, hve⟩ := owns_len14 ho; subst hve; have O1 := Lib.hid ho; have B1 := Lib.hid hb; have K1 : Hid (w1.cell? ⟨sb, 10, none⟩ = some (.pointer (some ⟨p.tb, 0, none⟩)) ∧ w1.cell? ⟨sb, 16, none⟩ = some (.int .i64 S.ek) ∧ w1.cell? ⟨sb, 17, none⟩ = some (.int .i64 S.ec)) := Lib.hid ⟨(hb.cell (p := ⟨sb, 10, none⟩) HSB.out.1).trans K0.out.1, (hb.cell (p := ⟨sb, 16, none⟩) HSB.out.1).trans K0.out.2.1, (hb.cell (p := ⟨sb, 17, none⟩) HSB.out.1).trans K0.out.2.2⟩; have X1 := Lib.hid ((hb.block _ HSB.out.2.1).trans HN.out); obtain ⟨n0, n1, n2⟩ := cells3_14 X1.out; have g0 := frozen_of_row w1 W.heap.size 0 _ _ X1.out; have g1 := frozen_of_row w1 W.heap.size 1 _ _ X1.out; have g2 := frozen_of_row w1 W.heap.size 2 _ _ X1.out; obtain ⟨z10, z16, z17⟩ := K1.out; clear ho hb))
  have hx3 := heap_setCell_same _ W.heap.size 2 _ _ (.int .i64 S.ec) (heap_setCell_same _ W.heap.size 1 _ _ (.int .i64 S.ek) (heap_setCell_same w1 W.heap.size 0 _ _ (.slice vA S.done.length vc) X1.out))
  have hb3 := but_box15 (but_box15 (but_box15 (But.refl (OneBlock W.heap.size) w1) 0 (.slice vA S.done.length vc)) 1 (.int .i64 S.ek)) 2 (.int .i64 S.ec)
  obtain ⟨W3, hW3⟩ : ∃ W3, W3 = (((w1.setCell ⟨W.heap.size, 0, none⟩ (.slice vA S.done.length vc)).setCell ⟨W.heap.size, 1, none⟩ (.int .i64 S.ek)).setCell ⟨W.heap.size, 2, none⟩ (.int .i64 S.ec)) := ⟨_, rfl⟩
  rw [← hW3] at hx3 hb3 ⊢
  have O3 := Lib.hid ((O1.out.but hb3 (fun g hg e => by have e' : g = W.heap.size := e; have h1 := (O1.out.lt hg).1; have h2 := HSB.out.2.1; have h3 : W0.drew.heap.size = W0.heap.size := rfl; omega)).base (show W.heap.size ≤ W0.drew.heap.size from HB.out.size))
  have B3 := Lib.hid (show Below W.heap.size W W3 from hb3.below ((HB.out.trans ((Below.refl _ W0).drew.mono HB.out.size)).trans (B1.out.mono HB.out.size)) (Nat.le_trans HB.out.size B1.out.size) (fun k hk => by have e' : k = W.heap.size := hk; omega))
  have hx4 : W3.heap[W.heap.size]? = some (.cells #[.slice vA S.done.length vc, .int .i64 S.ek, .int .i64 S.ec] 93 (0, 0)) := hx3
  clear hW3 hx3 hb3
  obtain ⟨m0, m1, m2⟩ := cells3_14 hx4
  go_wp2
  exact bodyPost_ret (v := .agg #[.slice vA S.done.length vc, .int .i64 S.ek, .int .i64 S.ec]) (by simp [results, Tryz.results77, go_sem, m0, m1, m2]) rfl ⟨_, rfl, O3.out, B3.out⟩
set_option maxRecDepth 100000 in
set_option maxHeartbeats 4000000 in
theorem tellO15 {W : World} {sb : Nat} {p : Loc} {S : SpV} (h : SpAt W sb p S) :
    Calls Tryz.prog 36 #[.pointer (some ⟨sb, 0, none⟩)] W fun e W' => ∃ V, e = .returned (.agg #[V, .int .i64 S.ek, .int .i64 S.ec]) ∧ IsDeeds W' W'.heap.size V S.done ∧ ∃ p', Vd15 W W' sb p p' S S := by
  have hB := below_one14 W (.cells #[.slice none 0 0, .int .i64 0, .int .i64 0] 93)
  obtain ⟨W0, hW0⟩ : ∃ W0, W0 = W.alloc (.cells #[.slice none 0 0, .int .i64 0, .int .i64 0] 93) := ⟨_, rfl⟩
  have HW := Lib.hid hW0
  have hnew : W0.heap[W.heap.size]? = some (.cells #[.slice none 0 0, .int .i64 0, .int .i64 0] 93 (0, 0)) := by rw [hW0]; exact heap_alloc_new _ _
  rw [← hW0] at hB
  have HB := Lib.hid hB
  have HN := Lib.hid hnew
  have HV := Lib.hid (valid15 (h.grow hB))
  have HLT := Lib.hid h.lt
  have HNB : Hid (∀ (w' : World), But (foot15 sb p) W0 w' → w'.heap[W.heap.size]? = some (.cells #[.slice none 0 0, .int .i64 0, .int .i64 0] 93 (0, 0))) := Lib.hid (fun w' hb => hb.heap hnew (fun e => by have := HLT.out _ (.inl e); omega))
  have hnot := not15
  clear h hB hnew hW0
  go_enter Tryz.func36, Tryz.ntmps36
  go_upto_region 1 with fail
  rw [← HW.out]
  go_wp2_with (first
    | (go_at_call 68; (with_reducible refine HV.out.mono ?_); rintro e w' ⟨rfl, p', hv⟩; have HD := Lib.hid hv; clear hv)
    | (go_at_call 77; (with_reducible refine (outcome15 HD.out.laid).mono ?_); rintro e w4 ⟨V, rfl, ho, hb⟩; obtain ⟨vA, vc, hve⟩ := owns_len14 ho; subst hve; have O4 := Lib.hid ho; have HD4 := Lib.hid (HD.out.read hb); have S4 := Lib.hid (show W0.heap.size ≤ w'.heap.size from HD.out.but.size); have X4 := Lib.hid (HNB.out _ HD4.out.but); obtain ⟨n0, n1, n2⟩ := cells3_14 X4.out; have g0 := frozen_of_row w4 W.heap.size 0 _ _ X4.out; have g1 := frozen_of_row w4 W.heap.size 1 _ _ X4.out; have g2 := frozen_of_row w4 W.heap.size 2 _ _ X4.out; clear ho hb))
  have hx3 := heap_setCell_same _ W.heap.size 2 _ _ (.int .i64 S.ec) (heap_setCell_same _ W.heap.size 1 _ _ (.int .i64 S.ek) (heap_setCell_same w4 W.heap.size 0 _ _ (.slice vA S.done.length vc) X4.out))
  have hb0 := but_box15 (but_box15 (but_box15 (But.refl (OneBlock W.heap.size) w4) 0 (.slice vA S.done.length vc)) 1 (.int .i64 S.ek)) 2 (.int .i64 S.ec)
  obtain ⟨W3, hW3⟩ : ∃ W3, W3 = (((w4.setCell ⟨W.heap.size, 0, none⟩ (.slice vA S.done.length vc)).setCell ⟨W.heap.size, 1, none⟩ (.int .i64 S.ek)).setCell ⟨W.heap.size, 2, none⟩ (.int .i64 S.ec)) := ⟨_, rfl⟩
  rw [← hW3] at hx3 hb0 ⊢
  have hsz : W0.heap.size = W.heap.size + 1 := by rw [HW.out]; simp
  have HV3 := Lib.hid (Vd15.mine HB.out HD4.out HLT.out (hb0.mono (fun k hk => by have e' : k = W.heap.size := hk; exact ⟨by omega, by omega⟩)) (fun k h1 h2 => by
    have h3 : k = W.heap.size := by omega
    subst h3
    exact ⟨_, _, X4.out, by decide, by decide⟩))
  have O3 := Lib.hid (IsDeeds.of_owns (O4.out.but hb0 (fun g hg e => by have e' : g = W.heap.size := e; have h1 := (O4.out.lt hg).1; have h2 := S4.out; omega)) (Nat.le_refl _))
  have hx4 : W3.heap[W.heap.size]? = some (.cells #[.slice vA S.done.length vc, .int .i64 S.ek, .int .i64 S.ec] 93 (0, 0)) := hx3
  clear hW3 hx3 hb0 hsz
  obtain ⟨m0, m1, m2⟩ := cells3_14 hx4
  go_wp2
  exact bodyPost_ret (v := .agg #[.slice vA S.done.length vc, .int .i64 S.ek, .int .i64 S.ec]) (by simp [results, Tryz.results36, go_sem, m0, m1, m2]) rfl ⟨_, rfl, O3.out, _, HV3.out⟩
theorem cellsL_len {K : IntKind} : ∀ (l : List LinkV), (cellsL K l).length = l.length * 4
  | [] => rfl
  | a :: l => by
    have := cellsL_len (K := K) l
    simp only [cellsL, List.flatMap_cons, List.length_append, List.length_cons] at *
    rw [this]
    simp [linkC]
    omega
theorem cellsL_app {K : IntKind} (l m : List LinkV) : cellsL K (l ++ m) = cellsL K l ++ cellsL K m := by simp [cellsL]
/-- The last link, and what is ahead of it. -/
theorem links_last15 {W : World} {T : TypeId} {K : IntKind} {LV : Value} {init : List LinkV} {l : LinkV} (h : Owns W 0 T 4 AnyCell LV (init ++ [l]).length (cellsL K (init ++ [l]))) :
    ∃ g cap, LV = .slice (some ⟨g, 0, none⟩) (init.length + 1) cap ∧ init.length + 1 ≤ cap ∧ W.cell? ⟨g, init.length * 4, none⟩ = some (.int .i64 l.f) ∧ W.cell? ⟨g, init.length * 4 + 1, none⟩ = some (.int K l.at_) ∧ W.cell? ⟨g, init.length * 4 + 2, none⟩ = some (.int .i64 l.back) ∧ W.cell? ⟨g, init.length * 4 + 3, none⟩ = some (.int .i64 l.res) ∧
      (∃ cur, W.heap[g]? = some (.cells cur T (0, 0))) ∧ Owns W 0 T 4 AnyCell (.slice (some ⟨g, 0, none⟩) init.length cap) init.length (cellsL K init) := by
  have hl : (init ++ [l]).length = init.length + 1 := by simp
  rw [hl] at h
  rcases h.1.2 with ⟨rfl, h0⟩ | ⟨g, cap, cur, rfl, h1, h2, h3, h4, h5, h6⟩
  · omega
  · have hc : ∀ j u, (linkC K l)[j]? = some u → W.cell? ⟨g, init.length * 4 + j, none⟩ = some u := by
      intro j u hj
      have h7 : (cellsL K (init ++ [l]))[init.length * 4 + j]? = some u := by
        rw [cellsL_app, List.getElem?_append_right (by rw [cellsL_len]; omega), cellsL_len]
        rw [show init.length * 4 + j - init.length * 4 = j by omega]
        simpa [cellsL] using hj
      rw [← h6, List.getElem?_take] at h7
      split at h7
      · rw [cell_of_row _ _ _ _ _ _ h2]
        simpa using h7
      · cases h7
    refine ⟨g, cap, rfl, h3, hc 0 _ rfl, hc 1 _ rfl, hc 2 _ rfl, hc 3 _ rfl, ⟨cur, h2⟩, ⟨⟨by rw [cellsL_len], .inr ⟨g, cap, cur, rfl, h1, h2, by omega, h4, h5, ?_⟩⟩, fun _ _ _ _ _ _ _ _ => trivial⟩⟩
    have h8 : (cur.toList.take ((init.length + 1) * 4)).take (init.length * 4) = (cellsL K (init ++ [l])).take (init.length * 4) := by rw [h6]
    rw [List.take_take, show min (init.length * 4) ((init.length + 1) * 4) = init.length * 4 by omega] at h8
    rw [h8, cellsL_app, List.take_append_of_le_length (by rw [cellsL_len]; omega), ← cellsL_len (K := K) init, List.take_length]
/-- The links and the box alone have changed. -/
theorem LaidAt.linked {W W' : World} {sb : Nat} {p : Loc} {S S' : SpV} {LV' : Value} (h : LaidAt W sb p S) (hb : But (fun k => k = sb ∨ p.LV.ownBlock = some k) W W') (hx : W'.heap[sb]? = some (.cells (box15 sb { p with LV := LV' } S') 80 (0, 0)))
    (hl : Owns W' 0 136 4 AnyCell LV' S'.links.length (cellsL .i64 S'.links)) (hw : LV'.ownBlock = p.LV.ownBlock ∨ ∃ g, LV'.ownBlock = some g ∧ W.heap.size ≤ g)
    (hS : S' = { S with fuel := S'.fuel, f := S'.f, at_ := S'.at_, pc := S'.pc, links := S'.links, ek := S'.ek, ec := S'.ec }) (ho : S'.ok) : Vd15 W W' sb p { p with LV := LV' } S S' := by
  have ht : ∀ (k : Nat) (c : Array Value) (t : TypeId), W.heap[k]? = some (.cells c t (0, 0)) → t ≠ 80 → t ≠ 136 → ¬ (k = sb ∨ p.LV.ownBlock = some k) := fun k c t hk h1 h2 e => by
    rcases e with rfl | e
    · exact types14 hk h.box h1
    · obtain ⟨_, c', hc'⟩ := typed14 h.links e
      exact types14 hk hc' h2
  have hf : ∀ k, foot15 sb { p with LV := LV' } k → foot15 sb p k ∨ W.heap.size ≤ k := by
    rintro k (e | e | e | e | e | e)
    · exact .inl (.inl e)
    · exact .inl (.inr (.inl e))
    · exact .inl (.inr (.inr (.inl e)))
    · exact .inl (.inr (.inr (.inr (.inl e))))
    · exact .inl (.inr (.inr (.inr (.inr (.inl e)))))
    · rcases hw with h1 | ⟨g, h1, h2⟩
      · exact .inl (.inr (.inr (.inr (.inr (.inr (h1 ▸ e))))))
      · have e' : LV'.ownBlock = some k := e
        rw [h1] at e'
        injection e' with e'
        exact .inr (e' ▸ h2)
  refine ⟨⟨hx, ?_, ?_, hl, ?_, ?_, ?_, ?_, ho, fun k hk hr => ?_⟩, hb.mono (fun k e => e.elim (fun e => .inl e) (fun e => .inr (.inr (.inr (.inr (.inr e)))))), hf, fun k hk => .inl hk⟩
  · rw [hS]
    obtain ⟨cur, hc, _⟩ := h.mem.row
    exact h.mem.but hb (ht _ _ _ h.mem.head (by decide) (by decide)) (ht _ _ _ hc (by decide) (by decide))
  · rw [hS]
    exact h.tape.but' hb (ht _ _ _ h.tape.box (by decide) (by decide)) (fun g hg => by obtain ⟨c, hc⟩ := h.tape.left.blk hg; exact ht _ _ _ hc (by decide) (by decide)) (fun g hg => by obtain ⟨_, c, hc⟩ := typed14 h.tape.done hg; exact ht _ _ _ hc (by decide) (by decide))
  · rw [hS]
    exact h.dat.but' hb (fun g hg => by obtain ⟨c, hc⟩ := h.dat.blk hg; exact ht _ _ _ hc (by decide) (by decide))
  · rw [hS]
    exact h.inp.but' hb (fun g hg => by obtain ⟨c, hc⟩ := h.inp.blk hg; exact ht _ _ _ hc (by decide) (by decide))
  · rw [hS]
    exact h.funs.but hb (fun g hg => by obtain ⟨_, c, hc⟩ := typed14 h.funs.own hg; exact ht _ _ _ hc (by decide) (by decide)) (fun k hk => by omega) (fun k c hc => ht k c _ hc (by decide) (by decide)) (fun k c hc => ht k c _ hc (by decide) (by decide))
  · rw [hS]
    exact h.pre
  · rcases hf k hk with hk | hk
    · exact h.sep k hk hr
    · have := h.ro_lt (show ro15 p k from hr); omega
end Go.Proofs.YtkfdgpgildanbaaGreat
