/- The landed space: fuel, registers, bytes, endings. Contracts; no condition but that it lies in memory. -/
import Derived.Test.YtkfdgpgildanbaaGreatSp15E
namespace Go.Proofs.YtkfdgpgildanbaaGreat
open Go.RowKit Go.Shelf
set_option linter.unusedVariables false
set_option linter.unusedSimpArgs false

theorem SpAt.ok {W : World} {sb : Nat} {p : Loc} {S : SpV} (h : SpAt W sb p S) : S.ok := h.elim (fun h => h.ok) (fun h => h.ok)
theorem SpAt.grow {W W' : World} {sb : Nat} {p : Loc} {S : SpV} (h : SpAt W sb p S) (hb : Below W.heap.size W W') : SpAt W' sb p S :=
  h.imp (fun h => h.but (But.of_below (R := NoBlock) hb) (fun _ _ h => h) (fun _ h => h.elim)) (fun h => h.but (But.of_below (R := NoBlock) hb) (fun _ _ h => h) (fun _ h => h.elim))
theorem LaidAt.grow {W W' : World} {sb : Nat} {p : Loc} {S : SpV} (h : LaidAt W sb p S) (hb : Below W.heap.size W W') : LaidAt W' sb p S :=
  h.but (But.of_below (R := NoBlock) hb) (fun _ _ h => h) (fun _ h => h.elim)
theorem Vd15.after {w W W' : World} {sb : Nat} {p p' : Loc} {S S' : SpV} (hb : Below w.heap.size w W) (h : Vd15 W W' sb p p' S S') : Vd15 w W' sb p p' S S' :=
  ⟨h.laid, (But.of_below hb).trans h.but, fun k hk => (h.foot k hk).imp id (fun e => Nat.le_trans hb.size e), fun k hk => (h.ro k hk).imp id (fun e => Nat.le_trans hb.size e)⟩
theorem LaidAt.not_of {W : World} {sb : Nat} {p : Loc} {S : SpV} (h : LaidAt W sb p S) (k : Nat) (c : Array Value) (t : TypeId) (hc : W.heap[k]? = some (.cells c t (0, 0))) (hk : t ≠ 80) : ¬ OneBlock sb k := fun e => by
  have e' : k = sb := e
  subst e'
  exact types14 hc h.box hk
/-- The box alone has changed. -/
theorem LaidAt.boxed {W W' : World} {sb : Nat} {p : Loc} {S S' : SpV} (h : LaidAt W sb p S) (hb1 : But (OneBlock sb) W W') (hx : W'.heap[sb]? = some (.cells (box15 sb p S') 80 (0, 0))) (hS : S' = { S with fuel := S'.fuel, f := S'.f, at_ := S'.at_, pc := S'.pc, ek := S'.ek, ec := S'.ec }) (ho : S'.ok) : Vd15 W W' sb p p S S' := by
  have ht := h.not_of
  refine ⟨⟨hx, ?_, ?_, ?_, ?_, ?_, ?_, ?_, ho, h.sep⟩, hb1.mono (fun k e => .inl e), fun _ h => .inl h, fun _ h => .inl h⟩
  · rw [hS]
    refine h.mem.but hb1 (ht _ _ _ h.mem.head (by decide)) ?_
    obtain ⟨cur, hc, _⟩ := h.mem.row
    exact ht _ _ _ hc (by decide)
  · rw [hS]
    exact h.tape.but' hb1 (ht _ _ _ h.tape.box (by decide)) (fun g hg => by obtain ⟨c, hc⟩ := h.tape.left.blk hg; exact ht _ _ _ hc (by decide)) (fun g hg => by obtain ⟨_, c, hc⟩ := typed14 h.tape.done hg; exact ht _ _ _ hc (by decide))
  · rw [hS]
    exact h.links.but hb1 (fun g hg => by obtain ⟨_, c, hc⟩ := typed14 h.links hg; exact ht _ _ _ hc (by decide))
  · rw [hS]
    exact h.dat.but' hb1 (fun g hg => by obtain ⟨c, hc⟩ := h.dat.blk hg; exact ht _ _ _ hc (by decide))
  · rw [hS]
    exact h.inp.but' hb1 (fun g hg => by obtain ⟨c, hc⟩ := h.inp.blk hg; exact ht _ _ _ hc (by decide))
  · rw [hS]
    exact ownF_box15 h.funs hb1 h.box
  · rw [hS]
    exact h.pre
/-- The bytes alone have changed. -/
theorem LaidAt.stored {W W' : World} {sb : Nat} {p : Loc} {S : SpV} {l : List Int} (h : LaidAt W sb p S) (hm : MemAt W' p.mb p.bb p.c l) (hb : But (OneBlock p.bb) W W') (hl : l.length = S.mem.length) : Vd15 W W' sb p p S { S with mem := l } := by
  obtain ⟨cur, hc, _⟩ := h.mem.row
  have hsb : ¬ OneBlock p.bb sb := fun e => by have e' : sb = p.bb := e; rw [← e'] at hc; exact types14 hc h.box (by decide)
  have ht : ∀ (k : Nat) (c : Array Value) (t : TypeId), W.heap[k]? = some (.cells c t (0, 0)) → t ≠ 5 → ¬ OneBlock p.bb k := fun k c t hk hn e => by
    have e' : k = p.bb := e
    subst e'
    exact types14 hk hc hn
  have hr : ∀ g, ro15 p g → ¬ OneBlock p.bb g := fun g hg e => by
    have e' : g = p.bb := e
    subst e'
    exact h.sep _ (.inr (.inr (.inl rfl))) hg
  refine ⟨⟨hb.heap h.box hsb, hm, h.tape.but' hb (ht _ _ _ h.tape.box (by decide)) (fun g hg => hr g (.inl hg)) (fun g hg => by obtain ⟨_, c, hc⟩ := typed14 h.tape.done hg; exact ht _ _ _ hc (by decide)), h.links.but hb (fun g hg => by obtain ⟨_, c, hc⟩ := typed14 h.links hg; exact ht _ _ _ hc (by decide)), h.dat.but' hb (fun g hg => hr g (.inr (.inl hg))), h.inp.but' hb (fun g hg => hr g (.inr (.inr (.inr hg)))), ?_, h.pre, h.ok.mem' hl, h.sep⟩, hb.mono (fun k e => .inr (.inr (.inl e))), fun _ h => .inl h, fun _ h => .inl h⟩
  exact h.funs.but hb (fun g hg => hr g (.inr (.inr (.inl hg)))) (fun k hk => by omega) (fun k c hc => ht k c _ hc (by decide)) (fun k c hc => ht k c _ hc (by decide))
/-- The tape alone has changed. -/
theorem LaidAt.taped {W W' : World} {sb : Nat} {p : Loc} {S : SpV} {X' V' : Value} {xs : List Int} {L : List (Int × Int)} (h : LaidAt W sb p S) (hT : Tape14 0 W' p.tb X' V' xs L) (hw : Wt14 p.tb p.V V' W W') (hX : X'.ownBlock = p.X.ownBlock) (hq : ∃ q, S.inp = q ++ xs) (ho : ({ S with left := xs, done := L } : SpV).ok) : Vd15 W W' sb p { p with X := X', V := V' } S { S with left := xs, done := L } := by
  have hR : ∀ k, (k = p.tb ∨ p.V.ownBlock = some k) → ∃ c t, W.heap[k]? = some (.cells c t (0, 0)) ∧ (t = 179 ∨ t = 182) := by
    rintro k (rfl | e)
    · exact ⟨_, _, h.tape.box, .inl rfl⟩
    · obtain ⟨_, c, hc⟩ := typed14 h.tape.done e
      exact ⟨_, _, hc, .inr rfl⟩
  have ht : ∀ (k : Nat) (c : Array Value) (t : TypeId), W.heap[k]? = some (.cells c t (0, 0)) → t ≠ 179 → t ≠ 182 → ¬ (k = p.tb ∨ p.V.ownBlock = some k) := fun k c t hk h1 h2 e => by
    obtain ⟨c', t', hk', h3⟩ := hR k e
    rcases h3 with rfl | rfl
    · exact types14 hk hk' h1
    · exact types14 hk hk' h2
  have hb := hw.but
  have hf : ∀ k, foot15 sb { p with X := X', V := V' } k → foot15 sb p k ∨ W.heap.size ≤ k := by
    rintro k (e | e | e | e | e | e)
    · exact .inl (.inl e)
    · exact .inl (.inr (.inl e))
    · exact .inl (.inr (.inr (.inl e)))
    · exact .inl (.inr (.inr (.inr (.inl e))))
    · rcases hw.whr with h1 | ⟨g, h1, h2⟩
      · exact .inl (.inr (.inr (.inr (.inr (.inl (h1 ▸ e))))))
      · have e' : V'.ownBlock = some k := e
        rw [h1] at e'
        injection e' with e'
        exact .inr (e' ▸ h2)
    · exact .inl (.inr (.inr (.inr (.inr (.inr e)))))
  have hro : ∀ k, ro15 { p with X := X', V := V' } k → ro15 p k := by
    rintro k (e | e | e | e)
    · exact .inl (hX ▸ e)
    · exact .inr (.inl e)
    · exact .inr (.inr (.inl e))
    · exact .inr (.inr (.inr e))
  refine ⟨⟨hb.heap h.box (ht _ _ _ h.box (by decide) (by decide)), ?_, hT, h.links.but hb (fun g hg => by obtain ⟨_, c, hc⟩ := typed14 h.links hg; exact ht _ _ _ hc (by decide) (by decide)), h.dat.but' hb (fun g hg => by obtain ⟨c, hc⟩ := h.dat.blk hg; exact ht _ _ _ hc (by decide) (by decide)), h.inp.but' hb (fun g hg => by obtain ⟨c, hc⟩ := h.inp.blk hg; exact ht _ _ _ hc (by decide) (by decide)), ?_, hq, ho, fun k hk hr => ?_⟩, hb.mono (fun k e => e.elim (fun e => .inr (.inr (.inr (.inl e)))) (fun e => .inr (.inr (.inr (.inr (.inl e)))))), hf, fun k hk => .inl (hro k hk)⟩
  · obtain ⟨cur, hc, _⟩ := h.mem.row
    exact h.mem.but hb (ht _ _ _ h.mem.head (by decide) (by decide)) (ht _ _ _ hc (by decide) (by decide))
  · exact h.funs.but hb (fun g hg => by obtain ⟨_, c, hc⟩ := typed14 h.funs.own hg; exact ht _ _ _ hc (by decide) (by decide)) (fun k hk => by omega) (fun k c hc => ht k c _ hc (by decide) (by decide)) (fun k c hc => ht k c _ hc (by decide) (by decide))
  · rcases hf k hk with hk | hk
    · exact h.sep k hk (hro k hr)
    · have := h.ro_lt (hro k hr); omega
set_option maxRecDepth 100000 in
set_option maxHeartbeats 4000000 in
theorem burn15 {W : World} {sb : Nat} {p : Loc} {S : SpV} (h : SpAt W sb p S) (n : Int) (hn : InI n) :
    Calls Tryz.prog 39 #[.pointer (some ⟨sb, 0, none⟩), .int .i64 n] W (SpDone W sb p S (S.burnS n) (.int .i64 (S.burnE n))) := by
  have HR := Lib.hid (refuse15 h)
  have hoo : (S.burnS n).ok := h.ok.burnS n
  have n1 := hn.1
  have n2 := hn.2
  have q1 := h.ok.fuel0
  have q2 := h.ok.fuel1
  unfold SpV.burnS SpV.burnE at *
  unfold SpV.refE at HR
  clear h hn
  obtain ⟨F, hF⟩ : ∃ F, F = S.fuel := ⟨_, rfl⟩
  rw [← hF] at q1 q2
  have HFE := Lib.hid hF
  by_cases he : S.ek = 0
  · simp only [if_pos he] at HR hoo ⊢
    by_cases hp : n < 0 ∨ S.fuel < n
    · simp only [if_pos hp, show ¬ ((2 : Int) = 0) by decide, if_false] at hoo ⊢
      rw [← hF] at hp
      clear he hoo hF
      by_cases hn0 : n < 0
      · clear hp
        have d0 : decide (n < 0) = true := decide_eq_true hn0
        go_enter Tryz.func39, Tryz.ntmps39
        go_wp2_with (go_at_call 82; (with_reducible refine HR.out.mono ?_); rintro e w' ⟨rfl, p', hv⟩; have HD := Lib.hid hv; obtain ⟨⟨c5, c9, c10, c11⟩, ⟨c12, c13, c14, c15⟩, c16, c17⟩ := hv.laid.cells; have g11 := hv.laid.free 11; have g16 := hv.laid.free 16; have g17 := hv.laid.free 17; clear hv)
        rw [← HFE.out] at c11
        go_loopw [6] (fun _ wr => wr = w') (fun _ _ => 0)
        case atStart => rfl
        case round =>
          obtain rfl := hrel
          go_wp2_with (go_at_call 72; (with_reducible refine (fuel15 ⟨sb, 11, none⟩ F _ c11).mono ?_); rintro e w'' ⟨rfl, rfl⟩)
          go_ret
          exact ⟨rfl, _, HD.out⟩
      · have d0 : decide (n < 0) = false := decide_eq_false hn0
        have d1 : F < n := by omega
        clear hp
        go_enter Tryz.func39, Tryz.ntmps39
        go_wp2_with (go_at_call 82; (with_reducible refine HR.out.mono ?_); rintro e w' ⟨rfl, p', hv⟩; have HD := Lib.hid hv; obtain ⟨⟨c5, c9, c10, c11⟩, ⟨c12, c13, c14, c15⟩, c16, c17⟩ := hv.laid.cells; have g11 := hv.laid.free 11; have g16 := hv.laid.free 16; have g17 := hv.laid.free 17; clear hv)
        rw [← HFE.out] at c11
        go_loopw [6] (fun _ wr => wr = w') (fun _ _ => 0)
        case atStart => rfl
        case round =>
          obtain rfl := hrel
          go_wp2_with (go_at_call 72; (with_reducible refine (fuel15 ⟨sb, 11, none⟩ F _ c11).mono ?_); rintro e w'' ⟨rfl, rfl⟩)
          go_ret
          exact ⟨rfl, _, HD.out⟩
    · simp only [if_neg hp, if_true] at hoo ⊢
      have HO := Lib.hid hoo
      rw [← hF] at hp
      have d0 : ¬ n < 0 := by omega
      have d1 : ¬ F < n := by omega
      have d2 : IntKind.i64.wrap (F - n) = F - n := IntWalk.i64_in _ (by omega)
      clear he hoo hF hp
      go_enter Tryz.func39, Tryz.ntmps39
      go_wp2_with (go_at_call 82; (with_reducible refine HR.out.mono ?_); rintro e w' ⟨rfl, p', hv⟩; have HD := Lib.hid hv; obtain ⟨⟨c5, c9, c10, c11⟩, ⟨c12, c13, c14, c15⟩, c16, c17⟩ := hv.laid.cells; have g11 := hv.laid.free 11; have g16 := hv.laid.free 16; have g17 := hv.laid.free 17; clear hv)
      rw [← HFE.out] at c11
      go_loopw [6] (fun _ wr => wr = w') (fun _ _ => 0)
      case atStart => rfl
      case round =>
        obtain rfl := hrel
        go_wp2_with (first
          | (go_at_call 72; (with_reducible refine (fuel15 ⟨sb, 11, none⟩ F _ c11).mono ?_); rintro e w'' ⟨rfl, rfl⟩)
          | (go_at_call 104; (with_reducible refine (swap15 ⟨sb, 11, none⟩ F (F - n) _ c11 g11).mono ?_); rintro e w'' ⟨rfl, rfl⟩))
        go_ret
        rw [HFE.out]
        exact ⟨rfl, _, HD.out.trans (HD.out.laid.boxed (one_but15 _ sb 11 _) (heap_setCell_same _ sb 11 _ _ _ HD.out.laid.box) rfl HO.out)⟩
  · simp only [if_neg he, show ¬ ((9 : Int) = 0) by decide, if_false] at HR hoo ⊢
    clear he hoo hF
    go_enter Tryz.func39, Tryz.ntmps39
    go_wp2_with (go_at_call 82; (with_reducible refine HR.out.mono ?_); rintro e w' ⟨rfl, p', hv⟩; have HD := Lib.hid hv; obtain ⟨⟨c5, c9, c10, c11⟩, ⟨c12, c13, c14, c15⟩, c16, c17⟩ := hv.laid.cells; have g11 := hv.laid.free 11; have g16 := hv.laid.free 16; have g17 := hv.laid.free 17; clear hv)
    go_ret
    exact ⟨rfl, _, HD.out⟩
set_option maxRecDepth 100000 in
set_option maxHeartbeats 4000000 in
theorem get15 {W : World} {sb : Nat} {p : Loc} {S : SpV} (h : SpAt W sb p S) (r : Int) (hr : InI r) :
    Calls Tryz.prog 27 #[.pointer (some ⟨sb, 0, none⟩), .int .i64 r] W (SpDone W sb p S S (.tuple #[.int .u64 (S.getV r), .int .i64 (S.getE r)])) := by
  have HR := Lib.hid (refuse15 h)
  have HI := Lib.hid (fun W' p' (h : LaidAt W' sb p' S) => isReg15 h r hr)
  have hok := h.ok
  have hat : 0 ≤ S.at_ ∧ S.at_ < 18446744073709551616 := by have := hok.at0; have := hok.at1; omega
  have HSL := Lib.hid (fun w => slot_any S.at_ r w hat.1 hat.2 hr.1 hr.2)
  have hsb : 0 ≤ slotV S.at_ r ∧ slotV S.at_ r < 18446744073709551616 := by unfold slotV; omega
  have HLD := Lib.hid (fun W' p' (h : LaidAt W' sb p' S) => load_any h.mem (slotV S.at_ r) 8 hsb.1 hsb.2 (by decide))
  have hnot := not15
  have hzero : S.ek = 0 → S.regB r = true → numE S.mem.length (slotV S.at_ r) 8 = 0 := fun h1 h2 => hok.slotE h1 h2
  unfold SpV.getV SpV.getE
  unfold SpV.refE at HR
  clear h hok hat hsb
  generalize slotV S.at_ r = a at *
  by_cases he : S.ek = 0
  · simp only [if_pos he] at HR ⊢
    by_cases hp : S.regB r = true
    · simp only [if_pos hp, if_true]
      rw [hzero he hp] at HLD
      rw [hp] at HI
      clear he hp hzero
      go_enter Tryz.func27, Tryz.ntmps27
      go_wp2_with (first
        | (go_at_call 82; (with_reducible refine HR.out.mono ?_); rintro e w' ⟨rfl, p', hv⟩; have HD := Lib.hid hv; obtain ⟨⟨c5, c9, c10, c11⟩, ⟨c12, c13, c14, c15⟩, c16, c17⟩ := hv.laid.cells; have g11 := hv.laid.free 11; have g16 := hv.laid.free 16; have g17 := hv.laid.free 17; clear hv)
        | (go_at_call 100; (with_reducible refine (HI.out _ _ HD.out.laid).mono ?_); rintro e w2 ⟨rfl, q, hw⟩; have HD2 := Lib.hid (HD.out.read (below_drewN14 hw)); clear hw; obtain ⟨⟨e5, e9, e10, e11⟩, ⟨e12, e13, e14, e15⟩, e16, e17⟩ := HD2.out.laid.cells))
      have HLQ := Lib.hid (fun q => HLD.out (w2.drewN q) p' (HD2.out.laid.grow (below_drewN (Below.refl _ _) q)))
      go_quiet ((first
        | (go_at_call 101; with_reducible exact quiet_left (HSL.out _))
        | (go_at_call 52; with_reducible exact quiet_left (HLQ.out _))
        | (go_at_call 101; with_reducible exact quiet_add_left (HSL.out _))
        | (go_at_call 52; with_reducible exact quiet_add_left (HLQ.out _))))
      go_wp2
      go_ret2
      exact ⟨rfl, _, HD2.out.read (below_drewN (Below.refl _ _) _)⟩
    · simp only [if_neg hp, show ¬ ((5 : Int) = 0) by decide, if_false]
      rw [Bool.not_eq_true] at hp
      rw [hp] at HI
      clear he hp hzero HLD
      go_enter Tryz.func27, Tryz.ntmps27
      go_wp2_with (first
        | (go_at_call 82; (with_reducible refine HR.out.mono ?_); rintro e w' ⟨rfl, p', hv⟩; have HD := Lib.hid hv; obtain ⟨⟨c5, c9, c10, c11⟩, ⟨c12, c13, c14, c15⟩, c16, c17⟩ := hv.laid.cells; have g11 := hv.laid.free 11; have g16 := hv.laid.free 16; have g17 := hv.laid.free 17; clear hv)
        | (go_at_call 100; (with_reducible refine (HI.out _ _ HD.out.laid).mono ?_); rintro e w2 ⟨rfl, q, hw⟩; have HD2 := Lib.hid (HD.out.read (below_drewN14 hw)); clear hw))
      go_ret2
      exact ⟨rfl, _, HD2.out⟩
  · simp only [if_neg he, show ¬ ((9 : Int) = 0) by decide, if_false] at HR ⊢
    clear he hzero HLD
    go_enter Tryz.func27, Tryz.ntmps27
    go_wp2_with (go_at_call 82; (with_reducible refine HR.out.mono ?_); rintro e w' ⟨rfl, p', hv⟩; have HD := Lib.hid hv; obtain ⟨⟨c5, c9, c10, c11⟩, ⟨c12, c13, c14, c15⟩, c16, c17⟩ := hv.laid.cells; have g11 := hv.laid.free 11; have g16 := hv.laid.free 16; have g17 := hv.laid.free 17; clear hv)
    go_ret2
    exact ⟨rfl, _, HD.out⟩
set_option maxRecDepth 100000 in
set_option maxHeartbeats 4000000 in
theorem set15 {W : World} {sb : Nat} {p : Loc} {S : SpV} (h : SpAt W sb p S) (r v : Int) (hr : InI r) (hv0 : 0 ≤ v) (hv1 : v < 18446744073709551616) :
    Calls Tryz.prog 37 #[.pointer (some ⟨sb, 0, none⟩), .int .i64 r, .int .u64 v] W (SpDone W sb p S (S.setS r v) (.int .i64 (S.getE r))) := by
  have HR := Lib.hid (refuse15 h)
  have HI := Lib.hid (fun W' p' (h : LaidAt W' sb p' S) => isReg15 h r hr)
  have hok := h.ok
  have hat : 0 ≤ S.at_ ∧ S.at_ < 18446744073709551616 := by have := hok.at0; have := hok.at1; omega
  have HSL := Lib.hid (fun w => slot_any S.at_ r w hat.1 hat.2 hr.1 hr.2)
  have hsb : 0 ≤ slotV S.at_ r ∧ slotV S.at_ r < 18446744073709551616 := by unfold slotV; omega
  have HST := Lib.hid (fun W' p' (h : LaidAt W' sb p' S) => store_any h.mem (slotV S.at_ r) 8 v hsb.1 hsb.2 (by decide) hv0 hv1)
  have hnot := not15
  have hzero : S.ek = 0 → S.regB r = true → numE S.mem.length (slotV S.at_ r) 8 = 0 := fun h1 h2 => hok.slotE h1 h2
  unfold SpV.setS SpV.getE
  unfold SpV.refE at HR
  clear h hok hat hsb hv0 hv1
  generalize slotV S.at_ r = a at *
  by_cases he : S.ek = 0
  · simp only [if_pos he] at HR ⊢
    by_cases hp : S.regB r = true
    · simp only [if_pos hp, if_true]
      rw [hzero he hp] at HST
      rw [hp] at HI
      clear he hp hzero
      go_enter Tryz.func37, Tryz.ntmps37
      go_wp2_with (first
        | (go_at_call 82; (with_reducible refine HR.out.mono ?_); rintro e w' ⟨rfl, p', hv⟩; have HD := Lib.hid hv; obtain ⟨⟨c5, c9, c10, c11⟩, ⟨c12, c13, c14, c15⟩, c16, c17⟩ := hv.laid.cells; have g11 := hv.laid.free 11; have g16 := hv.laid.free 16; have g17 := hv.laid.free 17; clear hv)
        | (go_at_call 100; (with_reducible refine (HI.out _ _ HD.out.laid).mono ?_); rintro e w2 ⟨rfl, q, hw⟩; have HD2 := Lib.hid (HD.out.read (below_drewN14 hw)); clear hw; obtain ⟨⟨e5, e9, e10, e11⟩, ⟨e12, e13, e14, e15⟩, e16, e17⟩ := HD2.out.laid.cells))
      have HD3 := Lib.hid (HD2.out.read (Below.refl _ _).drew)
      have K3 : Hid (w2.drew.cell? ⟨sb, 9, none⟩ = some (.pointer (some ⟨p'.mb, 0, none⟩)) ∧ w2.drew.cell? ⟨sb, 13, none⟩ = some (.int .u64 S.at_)) := Lib.hid ⟨e9, e13⟩
      go_region_held3 (fun W => W.cell? ⟨sb, 9, none⟩ = some (.pointer (some ⟨p'.mb, 0, none⟩)) ∧ W.cell? ⟨sb, 13, none⟩ = some (.int .u64 S.at_))
        (first | with_reducible exact K4.out | with_reducible exact K3.out | go_keep)
        (first
          | (go_at_call 101; (with_reducible refine (HSL.out _).mono ?_); rintro e w' ⟨rfl, rfl⟩)
          | (go_at_call 48; (with_reducible refine (HST.out _ _ HD3.out.laid).mono ?_); rintro e w4 ⟨rfl, hm, hb⟩; have HD4 := Lib.hid (HD3.out.trans (HD3.out.laid.stored hm hb storeL_len)); have K4 : Hid (w4.cell? ⟨sb, 9, none⟩ = some (.pointer (some ⟨p'.mb, 0, none⟩)) ∧ w4.cell? ⟨sb, 13, none⟩ = some (.int .u64 S.at_)) := Lib.hid ⟨HD4.out.laid.cells.1.2.1, HD4.out.laid.cells.2.1.2.1⟩; clear hm hb))
      go_wp2
      go_ret
      exact ⟨rfl, _, HD4.out⟩
    · simp only [if_neg hp, show ¬ ((5 : Int) = 0) by decide, if_false]
      rw [Bool.not_eq_true] at hp
      rw [hp] at HI
      clear he hp hzero HST
      go_enter Tryz.func37, Tryz.ntmps37
      go_wp2_with (first
        | (go_at_call 82; (with_reducible refine HR.out.mono ?_); rintro e w' ⟨rfl, p', hv⟩; have HD := Lib.hid hv; obtain ⟨⟨c5, c9, c10, c11⟩, ⟨c12, c13, c14, c15⟩, c16, c17⟩ := hv.laid.cells; have g11 := hv.laid.free 11; have g16 := hv.laid.free 16; have g17 := hv.laid.free 17; clear hv)
        | (go_at_call 100; (with_reducible refine (HI.out _ _ HD.out.laid).mono ?_); rintro e w2 ⟨rfl, q, hw⟩; have HD2 := Lib.hid (HD.out.read (below_drewN14 hw)); clear hw))
      go_ret
      exact ⟨rfl, _, HD2.out⟩
  · simp only [if_neg he, show ¬ ((9 : Int) = 0) by decide, if_false] at HR ⊢
    clear he hzero HST
    go_enter Tryz.func37, Tryz.ntmps37
    go_wp2_with (go_at_call 82; (with_reducible refine HR.out.mono ?_); rintro e w' ⟨rfl, p', hv⟩; have HD := Lib.hid hv; obtain ⟨⟨c5, c9, c10, c11⟩, ⟨c12, c13, c14, c15⟩, c16, c17⟩ := hv.laid.cells; have g11 := hv.laid.free 11; have g16 := hv.laid.free 16; have g17 := hv.laid.free 17; clear hv)
    go_ret
    exact ⟨rfl, _, HD.out⟩
end Go.Proofs.YtkfdgpgildanbaaGreat
