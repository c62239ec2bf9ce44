import Derived.Test.YtkfdgpgildanbaaGreatS49
import Derived.BigQuiet
import Derived.Deep.QuietTactic
namespace Go.Proofs.YtkfdgpgildanbaaGreat
open Go.RowKit Go.Shelf
set_option linter.unusedVariables false
set_option linter.unusedSimpArgs false
theorem cells11r {w : World} {b' : Nat} {v0 v1 v2 v3 v4 v5 v6 v7 v8 v9 v10 : Value} {T : TypeId} (h : w.heap[b']? = some (.cells #[v0, v1, v2, v3, v4, v5, v6, v7, v8, v9, v10] T (0, 0))) :
    (w.cell? ⟨b', 0, none⟩ = some v0 ∧ w.cell? ⟨b', 1, none⟩ = some v1 ∧ w.cell? ⟨b', 2, none⟩ = some v2 ∧ w.cell? ⟨b', 3, none⟩ = some v3 ∧ w.cell? ⟨b', 4, none⟩ = some v4 ∧ w.cell? ⟨b', 5, none⟩ = some v5) ∧
    (w.cell? ⟨b', 6, none⟩ = some v6 ∧ w.cell? ⟨b', 7, none⟩ = some v7 ∧ w.cell? ⟨b', 8, none⟩ = some v8 ∧ w.cell? ⟨b', 9, none⟩ = some v9 ∧ w.cell? ⟨b', 10, none⟩ = some v10) := by
  simp [World.cell?, h]
section
variable {B : Nat} {W W' : World} {rb : Nat} {p : Loc} {S S' : SpV}
theorem RsAt.cells (h : RsAt B W rb p S) :
    (W.cell? ⟨rb, 0, none⟩ = some p.D ∧ W.cell? ⟨rb, 1, none⟩ = some p.FV ∧ W.cell? ⟨rb, 2, none⟩ = some (.pointer (some ⟨p.mb, 0, none⟩)) ∧ W.cell? ⟨rb, 3, none⟩ = some (.pointer (some ⟨p.tb, 0, none⟩)) ∧ W.cell? ⟨rb, 4, none⟩ = some (.int .i64 S.fuel) ∧ W.cell? ⟨rb, 5, none⟩ = some (.int .i64 S.f)) ∧
    (W.cell? ⟨rb, 6, none⟩ = some (.int .u64 S.at_) ∧ W.cell? ⟨rb, 7, none⟩ = some (.int .i64 S.pc) ∧ W.cell? ⟨rb, 8, none⟩ = some p.LV ∧ W.cell? ⟨rb, 9, none⟩ = some (.int .i64 S.ek) ∧ W.cell? ⟨rb, 10, none⟩ = some (.int .i64 S.ec)) :=
  cells11r (show W.heap[rb]? = some (.cells #[_, _, _, _, _, _, _, _, _, _, _] 130 (0, 0)) from h.box)
theorem RsAt.free (h : RsAt B W rb p S) (o : Nat) : W.frozen? ⟨rb, o, none⟩ = false := frozen_of_row W rb o _ _ h.box
theorem RsAt.grow (h : RsAt B W rb p S) (hB : B ≤ W.heap.size) (hb : Below W.heap.size W W') : RsAt B W' rb p S := RsAt.but h (But.of_below (R := NoBlock) hb) (fun _ _ h => h) hB (fun _ _ h => h)
theorem RsAt.drewN (h : RsAt B W rb p S) (hB : B ≤ W.heap.size) (n : Nat) : RsAt B (W.drewN n) rb p S := h.grow hB (below_drewN (Below.refl _ _) n)
theorem RsAt.ne_of {k : Nat} {c : Array Value} {t : TypeId} (h : RsAt B W rb p S) (hk : W.heap[k]? = some (.cells c t (0, 0))) (ht : t ≠ 130) : k ≠ rb := fun e => by
  subst e
  exact types14 hk h.box ht
theorem RsAt.put (h : RsAt B W rb p S) (hB : B ≤ W.heap.size) (hl : ∀ k, foot15 rb p k → B ≤ k) (hb : But (OneBlock rb) W W') (hx : W'.heap[rb]? = some (.cells (rbox15 p S') 130 (0, 0)))
    (e : S'.m = S.m ∧ S'.mem = S.mem ∧ S'.inp = S.inp ∧ S'.left = S.left ∧ S'.done = S.done ∧ S'.links = S.links) (ok : S'.ok) : RsAt B W' rb p S' := by
  obtain ⟨e1, e2, e3, e4, e5, e6⟩ := e
  have hm := h.mem
  have ht := h.tape
  refine ⟨hx, ?_, ?_, ?_, ?_, ?_, ?_, ok, h.sep⟩
  · rw [e2]
    obtain ⟨cur, hc, _⟩ := hm.row
    exact hm.but hb (h.ne_of hm.head (by decide)) (h.ne_of hc (by decide))
  · rw [e3, e5]
    refine ht.but hb (h.ne_of ht.box (by decide)) (fun g hg => ?_) (fun g hg => ?_)
    · obtain ⟨c, hc⟩ := ht.own.blk hg
      exact h.ne_of hc (by decide)
    · obtain ⟨_, c, hc⟩ := typed14 ht.done hg
      exact h.ne_of hc (by decide)
  · rw [e3, e4]; exact h.left
  · rw [e6]
    exact h.links.but hb (fun g hg => by
      obtain ⟨_, c, hc⟩ := typed14 h.links hg
      exact h.ne_of hc (by decide))
  · rw [e1]; exact h.dat.but hb hB (fun k hk e => by have e' : k = rb := e; have := hl rb (.inl rfl); omega)
  · rw [e1]; exact h.funs.but hb hB (fun k hk e => by have e' : k = rb := e; have := hl rb (.inl rfl); omega)
theorem RsAt.stored (h : RsAt B W rb p S) (hB : B ≤ W.heap.size) (hl : ∀ k, foot15 rb p k → B ≤ k) {l : List Int} (hM : RefAt W' p.mb p.bb p.c l) (hb : But (OneBlock p.bb) W W') (he : l.length = S.mem.length) : RsAt B W' rb p { S with mem := l } := by
  have ht := h.tape
  have hk : ∀ {k : Nat} {c : Array Value} {t : TypeId}, W.heap[k]? = some (.cells c t (0, 0)) → t ≠ 5 → ¬ OneBlock p.bb k := fun hk ht e => by
    have e' : _ = p.bb := e
    subst e'
    obtain ⟨cur, hc, _⟩ := h.mem.row
    exact types14 hk hc ht
  refine ⟨hb.heap h.box (hk h.box (by decide)), hM, ?_, h.left, ?_, ?_, ?_, h.ok.mem' he, h.sep⟩
  · refine ht.but hb (hk ht.box (by decide)) (fun g hg => ?_) (fun g hg => ?_)
    · exact fun e => h.sep g (.inr (.inr (.inl e))) hg
    · obtain ⟨_, c, hc⟩ := typed14 ht.done hg
      exact hk hc (by decide)
  · exact h.links.but hb (fun g hg => by
      obtain ⟨_, c, hc⟩ := typed14 h.links hg
      exact hk hc (by decide))
  · exact h.dat.but hb hB (fun k hk e => by have e' : k = p.bb := e; have := hl p.bb (.inr (.inr (.inl rfl))); omega)
  · exact h.funs.but hb hB (fun k hk e => by have e' : k = p.bb := e; have := hl p.bb (.inr (.inr (.inl rfl))); omega)
def RsDone (B : Nat) (W : World) (rb : Nat) (p : Loc) (S S' : SpV) (v : Value) (e : Ending) (W' : World) : Prop := e = .returned v ∧ ∃ p', Mv B (.rs rb S) (.rs rb S') p p' W W'
theorem Mv.rsRead (h : RsAt B W rb p S) (hB : B ≤ W.heap.size) (hb : Below W.heap.size W W') : Mv B (.rs rb S) (.rs rb S) p p W W' := Mv.read (a := .rs rb S) h hb hB
theorem Mv.rsOf (h : RsAt B W' rb p S') (hb : But (foot15 rb p) W W') : Mv B (.rs rb S) (.rs rb S') p p W W' := ⟨h, hb, fun _ h => .inl h, fun _ h => .inl h⟩
theorem rplace15 (n : Int) (w : World) (hn : InI n) : Calls Tryz.prog 150 #[.int .i64 n] w fun e w' => e = .returned (.bool (placeB n)) ∧ w = w' := by
  have h1 := hn.1
  have h2 := hn.2
  clear hn
  unfold placeB
  by_cases h3 : 0 ≤ n
  · by_cases h4 : n < 4096
    · rw [decide_eq_true h3, decide_eq_true h4]
      go_enter Tryz.func150, Tryz.ntmps150
      go_wp2
      go_ret
      exact ⟨rfl, rfl⟩
    · rw [decide_eq_true h3, decide_eq_false h4]
      go_enter Tryz.func150, Tryz.ntmps150
      go_wp2
      go_ret
      exact ⟨rfl, rfl⟩
  · rw [decide_eq_false h3]
    have h5 : (decide (0 ≤ n)) = false := decide_eq_false h3
    go_enter Tryz.func150, Tryz.ntmps150
    go_wp2
    go_ret
    exact ⟨rfl, rfl⟩
set_option maxRecDepth 100000 in
set_option maxHeartbeats 4000000 in
theorem rReg15 (h : RsAt B W rb p S) (hB : B ≤ W.heap.size) (r : Int) (hr : InI r) :
    Calls Tryz.prog 128 #[.pointer (some ⟨rb, 0, none⟩), .int .i64 r] W (Drew W (.bool (S.regB r))) := by
  obtain ⟨⟨c0, c1, c2, c3, c4, c5⟩, c6, c7, c8, c9, c10⟩ := h.cells
  obtain ⟨b, off, cap, CA, cl, cc, hV, hcp, hbb, k0, k1, k2, k3⟩ := funs_at15 (h.funs.more hB) h.ok.fn
  have r1 := hr.1
  have r2 := hr.2
  have f0 : (0 : Int) ≤ (S.f : Int) := by omega
  have f1 : (S.f : Int) < (S.m.funcs.length : Int) := by have := h.ok.fn; omega
  rw [hV] at c1
  unfold SpV.regB fnV
  clear h hr hV
  generalize (S.m.funcs.getD S.f .zero).regs = q at *
  by_cases h3 : 0 ≤ r
  · have h5 : decide (0 ≤ r) = true := decide_eq_true h3
    by_cases h4 : r < q
    · have h6 : decide (r < q) = true := decide_eq_true h4
      rw [h5, h6]
      go_enter Tryz.func128, Tryz.ntmps128
      go_wp2
      go_quiet (fail)
      go_wp2
      go_ret
      exact ⟨rfl, _, rfl⟩
    · have h6 : decide (r < q) = false := decide_eq_false h4
      rw [h5, h6]
      go_enter Tryz.func128, Tryz.ntmps128
      go_wp2
      go_quiet (fail)
      go_wp2
      go_ret
      exact ⟨rfl, _, rfl⟩
  · have h5 : decide (0 ≤ r) = false := decide_eq_false h3
    rw [h5]
    go_enter Tryz.func128, Tryz.ntmps128
    go_wp2
    go_quiet (fail)
    go_wp2
    go_ret
    exact ⟨rfl, _, rfl⟩
set_option maxRecDepth 100000 in
set_option maxHeartbeats 4000000 in
theorem rGetD15 (h : RsAt B W rb p S) (hB : B ≤ W.heap.size) (r : Int) (hr : InI r) :
    Calls Tryz.prog 84 #[.pointer (some ⟨rb, 0, none⟩), .int .i64 r] W (fun e W' => e = .returned (.tuple #[.int .u64 (S.getV r), .int .i64 (S.getE r)]) ∧ ∃ n, W' = W.drewN n) := by
  have HI := Lib.hid (rReg15 h hB r hr)
  have hok := h.ok
  have hat : 0 ≤ S.at_ ∧ S.at_ < 18446744073709551616 := by have := hok.at0; have := hok.at1; omega
  have HSL := Lib.hid (fun w => rslot_any S.at_ r w hat.1 hat.2 hr.1 hr.2)
  have hsb : 0 ≤ slotV S.at_ r ∧ slotV S.at_ r < 18446744073709551616 := by unfold slotV; omega
  have H := Lib.hid h
  have HBB := Lib.hid hB
  obtain ⟨⟨c0, c1, c2, c3, c4, c5⟩, c6, c7, c8, c9, c10⟩ := h.cells
  have hzero : S.ek = 0 → S.regB r = true → numE S.mem.length (slotV S.at_ r) 8 = 0 := fun h1 h2 => hok.slotE h1 h2
  have HLD := Lib.hid (fun q => rload_any (h.drewN hB q).mem (slotV S.at_ r) 8 hsb.1 hsb.2 (by decide))
  unfold SpV.getV SpV.getE
  clear h hok hat hsb hB c0 c1 c3 c4 c5 c7 c8 c10
  generalize slotV S.at_ r = a at *
  by_cases he : S.ek = 0
  · simp only [if_pos he]
    have heb : (S.ek != 0) = false := by simpa using he
    by_cases hp : S.regB r = true
    · simp only [if_pos hp, if_true]
      rw [hzero he hp] at HLD
      rw [hp] at HI
      clear he hp hzero
      go_enter Tryz.func84, Tryz.ntmps84
      go_wp2_with (go_at_call 128; (with_reducible refine HI.out.mono ?_); rintro e w2 ⟨rfl, q, rfl⟩)
      go_quiet ((first
        | (go_at_call 129; with_reducible exact quiet_left (HSL.out _))
        | (go_at_call 149; with_reducible exact quiet_left (HLD.out _))
        | (go_at_call 129; with_reducible exact quiet_add_left (HSL.out _))
        | (go_at_call 149; with_reducible exact quiet_add_left (HLD.out _))))
      go_wp2
      go_ret2
      exact ⟨rfl, _, World.drewN_drewN _ _ _⟩
    · simp only [if_neg hp, show ¬ ((5 : Int) = 0) by decide, if_false]
      rw [Bool.not_eq_true] at hp
      rw [hp] at HI
      clear he hp hzero HLD
      go_enter Tryz.func84, Tryz.ntmps84
      go_wp2_with (go_at_call 128; (with_reducible refine HI.out.mono ?_); rintro e w2 ⟨rfl, q, rfl⟩)
      go_ret2
      exact ⟨rfl, _, rfl⟩
  · simp only [if_neg he, show ¬ ((9 : Int) = 0) by decide, if_false]
    have heb : (S.ek != 0) = true := by simpa using he
    clear he hzero HLD
    go_enter Tryz.func84, Tryz.ntmps84
    go_wp2
    go_ret2
    exact ⟨rfl, 0, rfl⟩
set_option maxRecDepth 100000 in
set_option maxHeartbeats 4000000 in
theorem rSet15 (h : RsAt B W rb p S) (hB : B ≤ W.heap.size) (hl : ∀ k, foot15 rb p k → B ≤ k) (r v : Int) (hr : InI r) (hv0 : 0 ≤ v) (hv1 : v < 18446744073709551616) :
    Calls Tryz.prog 65 #[.pointer (some ⟨rb, 0, none⟩), .int .i64 r, .int .u64 v] W (RsDone B W rb p S (S.setS r v) (.int .i64 (S.getE r))) := by
  have HI := Lib.hid (rReg15 h hB r hr)
  have hok := h.ok
  have hat : 0 ≤ S.at_ ∧ S.at_ < 18446744073709551616 := by have := hok.at0; have := hok.at1; omega
  have HSL := Lib.hid (fun w => rslot_any S.at_ r w hat.1 hat.2 hr.1 hr.2)
  have hsb : 0 ≤ slotV S.at_ r ∧ slotV S.at_ r < 18446744073709551616 := by unfold slotV; omega
  have H := Lib.hid h
  have HBB := Lib.hid hB
  have HLL := Lib.hid hl
  obtain ⟨⟨c0, c1, c2, c3, c4, c5⟩, c6, c7, c8, c9, c10⟩ := h.cells
  have hzero : S.ek = 0 → S.regB r = true → numE S.mem.length (slotV S.at_ r) 8 = 0 := fun h1 h2 => hok.slotE h1 h2
  have HLD := Lib.hid (fun (W2 : World) (h2 : RsAt B W2 rb p S) => rstore_any h2.mem (slotV S.at_ r) 8 v hsb.1 hsb.2 (by decide) hv0 hv1)
  unfold SpV.setS SpV.getE
  clear h hok hat hsb hl hB c0 c1 c3 c4 c5 c7 c8 c10 hv0 hv1
  generalize slotV S.at_ r = a at *
  by_cases he : S.ek = 0
  · simp only [if_pos he]
    have heb : (S.ek != 0) = false := by simpa using he
    by_cases hp : S.regB r = true
    · simp only [if_pos hp, if_true]
      rw [hzero he hp] at HLD
      rw [hp] at HI
      clear he hp hzero
      go_enter Tryz.func65, Tryz.ntmps65
      go_wp2_with (go_at_call 128; (with_reducible refine HI.out.mono ?_); rintro e w2 ⟨rfl, q, hw⟩; have HW2 := Lib.hid (below_drewN14 hw); have H2 := Lib.hid (H.out.grow HBB.out (below_drewN14 hw)); have HB2 := Lib.hid (Nat.le_trans HBB.out (below_drewN14 hw).size); clear hw; obtain ⟨⟨e0, e1, e2, e3, e4, e5⟩, e6, e7, e8, e9, e10⟩ := H2.out.cells; clear e0 e1 e3 e4 e5 e7 e8 e10)
      have H3 := Lib.hid (H2.out.grow HB2.out ((Below.refl w2.heap.size w2).drew))
      have K3 : Hid (w2.drew.cell? ⟨rb, 2, none⟩ = some (.pointer (some ⟨p.mb, 0, none⟩)) ∧ w2.drew.cell? ⟨rb, 6, none⟩ = some (.int .u64 S.at_)) := Lib.hid ⟨H3.out.cells.1.2.2.1, H3.out.cells.2.1⟩
      have HST := Lib.hid (HLD.out _ H3.out)
      obtain ⟨⟨d0, d1, d2, d3, d4, d5⟩, d6, d7, d8, d9, d10⟩ := H2.out.cells
      clear HLD d0 d1 d3 d4 d5 d7 d8 d10
      go_region_held3 (fun W => W.cell? ⟨rb, 2, none⟩ = some (.pointer (some ⟨p.mb, 0, none⟩)) ∧ W.cell? ⟨rb, 6, none⟩ = some (.int .u64 S.at_))
        (first | with_reducible exact K4.out | with_reducible exact K3.out | go_keep)
        (first
          | (go_at_call 129; (with_reducible refine (HSL.out _).mono ?_); rintro e w' ⟨rfl, rfl⟩)
          | (go_at_call 93; (with_reducible refine HST.out.mono ?_); rintro e w4 ⟨rfl, hm, hb⟩; have H4 := Lib.hid (H3.out.stored HB2.out HLL.out hm hb storeL_len); have K4 : Hid (w4.cell? ⟨rb, 2, none⟩ = some (.pointer (some ⟨p.mb, 0, none⟩)) ∧ w4.cell? ⟨rb, 6, none⟩ = some (.int .u64 S.at_)) := Lib.hid ⟨H4.out.cells.1.2.2.1, H4.out.cells.2.1⟩; have HBU := Lib.hid hb; clear hm hb))
      all_goals
        go_wp2
        go_ret
        exact ⟨rfl, _, Mv.rsOf H4.out ((But.of_below HW2.out).trans ((But.of_below (Below.refl w2.heap.size w2).drew).trans (HBU.out.mono (fun k e => .inr (.inr (.inl e))))))⟩
    · simp only [if_neg hp, show ¬ ((5 : Int) = 0) by decide, if_false]
      rw [Bool.not_eq_true] at hp
      rw [hp] at HI
      clear he hp hzero HLD
      go_enter Tryz.func65, Tryz.ntmps65
      go_wp2_with (go_at_call 128; (with_reducible refine HI.out.mono ?_); rintro e w2 ⟨rfl, q, rfl⟩)
      go_ret
      exact ⟨rfl, _, Mv.rsRead H.out HBB.out (below_drewN (Below.refl _ _) _)⟩
  · simp only [if_neg he, show ¬ ((9 : Int) = 0) by decide, if_false]
    have heb : (S.ek != 0) = true := by simpa using he
    clear he hzero HLD
    go_enter Tryz.func65, Tryz.ntmps65
    go_wp2
    go_ret
    exact ⟨rfl, _, Mv.rsRead H.out HBB.out (Below.refl _ _)⟩
theorem rGet15 (h : RsAt B W rb p S) (hB : B ≤ W.heap.size) (r : Int) (hr : InI r) :
    Calls Tryz.prog 84 #[.pointer (some ⟨rb, 0, none⟩), .int .i64 r] W (RsDone B W rb p S S (.tuple #[.int .u64 (S.getV r), .int .i64 (S.getE r)])) :=
  (rGetD15 h hB r hr).mono fun e W' ⟨he, n, hw⟩ => ⟨he, p, Mv.rsRead h hB (below_drewN14 hw)⟩
end
end Go.Proofs.YtkfdgpgildanbaaGreat
