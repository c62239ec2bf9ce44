import Derived.Test.YtkfdgpgildanbaaGreatS46
namespace Go.Proofs.YtkfdgpgildanbaaGreat
open Go.RowKit Go.Shelf
set_option linter.unusedVariables false
set_option linter.unusedSimpArgs false
theorem SpAt.ok {W : World} {sb : Nat} {p : Loc} {S : SpV} (h : SpAt W sb p S) : S.ok := h.elim (fun h => h.ok) (fun h => h.ok)
theorem SpAt.grow {W W' : World} {sb : Nat} {p : Loc} {S : SpV} (h : SpAt W sb p S) (hb : Below W.heap.size W W') : SpAt W' sb p S :=
  h.imp (fun h => h.but (But.of_below (R := NoBlock) hb) (fun _ _ h => h) (fun _ h => h.elim)) (fun h => h.but (But.of_below (R := NoBlock) hb) (fun _ _ h => h) (fun _ h => h.elim))
theorem LaidAt.grow {W W' : World} {sb : Nat} {p : Loc} {S : SpV} (h : LaidAt W sb p S) (hb : Below W.heap.size W W') : LaidAt W' sb p S :=
  h.but (But.of_below (R := NoBlock) hb) (fun _ _ h => h) (fun _ h => h.elim)
theorem Vd15.after {w W W' : World} {sb : Nat} {p p' : Loc} {S S' : SpV} (hb : Below w.heap.size w W) (h : Vd15 W W' sb p p' S S') : Vd15 w W' sb p p' S S' :=
  ⟨h.laid, (But.of_below hb).trans h.but, fun k hk => (h.foot k hk).imp id (fun e => Nat.le_trans hb.size e), fun k hk => (h.ro k hk).imp id (fun e => Nat.le_trans hb.size e)⟩
theorem LaidAt.not_of {W : World} {sb : Nat} {p : Loc} {S : SpV} (h : LaidAt W sb p S) (k : Nat) (c : Array Value) (t : TypeId) (hc : W.heap[k]? = some (.cells c t (0, 0))) (hk : t ≠ 80) : ¬ OneBlock sb k := fun e => by
  have e' : k = sb := e
  subst e'
  exact types14 hc h.box hk
theorem LaidAt.boxed {W W' : World} {sb : Nat} {p : Loc} {S S' : SpV} (h : LaidAt W sb p S) (hb1 : But (OneBlock sb) W W') (hx : W'.heap[sb]? = some (.cells (box15 sb p S') 80 (0, 0))) (hS : S' = { S with fuel := S'.fuel, f := S'.f, at_ := S'.at_, pc := S'.pc, ek := S'.ek, ec := S'.ec }) (ho : S'.ok) : Vd15 W W' sb p p S S' := by
  have ht := h.not_of
  refine ⟨⟨hx, ?_, ?_, ?_, ?_, ?_, ?_, ?_, ho, h.sep⟩, hb1.mono (fun k e => .inl e), fun _ h => .inl h, fun _ h => .inl h⟩
  · rw [hS]
    refine h.mem.but hb1 (ht _ _ _ h.mem.head (by decide)) ?_
    obtain ⟨cur, hc, _⟩ := h.mem.row
    exact ht _ _ _ hc (by decide)
  · rw [hS]
    exact h.tape.but' hb1 (ht _ _ _ h.tape.box (by decide)) (fun g hg => by obtain ⟨c, hc⟩ := h.tape.left.blk hg; exact ht _ _ _ hc (by decide)) (fun g hg => by obtain ⟨_, c, hc⟩ := typed14 h.tape.done hg; exact ht _ _ _ hc (by decide))
  · rw [hS]
    exact h.links.but hb1 (fun g hg => by obtain ⟨_, c, hc⟩ := typed14 h.links hg; exact ht _ _ _ hc (by decide))
  · rw [hS]
    exact h.dat.but' hb1 (fun g hg => by obtain ⟨c, hc⟩ := h.dat.blk hg; exact ht _ _ _ hc (by decide))
  · rw [hS]
    exact h.inp.but' hb1 (fun g hg => by obtain ⟨c, hc⟩ := h.inp.blk hg; exact ht _ _ _ hc (by decide))
  · rw [hS]
    exact ownF_box15 h.funs hb1 h.box
  · rw [hS]
    exact h.pre
theorem LaidAt.stored {W W' : World} {sb : Nat} {p : Loc} {S : SpV} {l : List Int} (h : LaidAt W sb p S) (hm : MemAt W' p.mb p.bb p.c l) (hb : But (OneBlock p.bb) W W') (hl : l.length = S.mem.length) : Vd15 W W' sb p p S { S with mem := l } := by
  obtain ⟨cur, hc, _⟩ := h.mem.row
  have hsb : ¬ OneBlock p.bb sb := fun e => by have e' : sb = p.bb := e; rw [← e'] at hc; exact types14 hc h.box (by decide)
  have ht : ∀ (k : Nat) (c : Array Value) (t : TypeId), W.heap[k]? = some (.cells c t (0, 0)) → t ≠ 5 → ¬ OneBlock p.bb k := fun k c t hk hn e => by
    have e' : k = p.bb := e
    subst e'
    exact types14 hk hc hn
  have hr : ∀ g, ro15 p g → ¬ OneBlock p.bb g := fun g hg e => by
    have e' : g = p.bb := e
    subst e'
    exact h.sep _ (.inr (.inr (.inl rfl))) hg
  refine ⟨⟨hb.heap h.box hsb, hm, h.tape.but' hb (ht _ _ _ h.tape.box (by decide)) (fun g hg => hr g (.inl hg)) (fun g hg => by obtain ⟨_, c, hc⟩ := typed14 h.tape.done hg; exact ht _ _ _ hc (by decide)), h.links.but hb (fun g hg => by obtain ⟨_, c, hc⟩ := typed14 h.links hg; exact ht _ _ _ hc (by decide)), h.dat.but' hb (fun g hg => hr g (.inr (.inl hg))), h.inp.but' hb (fun g hg => hr g (.inr (.inr (.inr hg)))), ?_, h.pre, h.ok.mem' hl, h.sep⟩, hb.mono (fun k e => .inr (.inr (.inl e))), fun _ h => .inl h, fun _ h => .inl h⟩
  exact h.funs.but hb (fun g hg => hr g (.inr (.inr (.inl hg)))) (fun k hk => by omega) (fun k c hc => ht k c _ hc (by decide)) (fun k c hc => ht k c _ hc (by decide))
theorem LaidAt.taped {W W' : World} {sb : Nat} {p : Loc} {S : SpV} {X' V' : Value} {xs : List Int} {L : List (Int × Int)} (h : LaidAt W sb p S) (hT : Tape14 0 W' p.tb X' V' xs L) (hw : Wt14 p.tb p.V V' W W') (hX : X'.ownBlock = p.X.ownBlock) (hq : ∃ q, S.inp = q ++ xs) (ho : ({ S with left := xs, done := L } : SpV).ok) : Vd15 W W' sb p { p with X := X', V := V' } S { S with left := xs, done := L } := by
  have hR : ∀ k, (k = p.tb ∨ p.V.ownBlock = some k) → ∃ c t, W.heap[k]? = some (.cells c t (0, 0)) ∧ (t = 179 ∨ t = 182) := by
    rintro k (rfl | e)
    · exact ⟨_, _, h.tape.box, .inl rfl⟩
    · obtain ⟨_, c, hc⟩ := typed14 h.tape.done e
      exact ⟨_, _, hc, .inr rfl⟩
  have ht : ∀ (k : Nat) (c : Array Value) (t : TypeId), W.heap[k]? = some (.cells c t (0, 0)) → t ≠ 179 → t ≠ 182 → ¬ (k = p.tb ∨ p.V.ownBlock = some k) := fun k c t hk h1 h2 e => by
    obtain ⟨c', t', hk', h3⟩ := hR k e
    rcases h3 with rfl | rfl
    · exact types14 hk hk' h1
    · exact types14 hk hk' h2
  have hb := hw.but
  have hf : ∀ k, foot15 sb { p with X := X', V := V' } k → foot15 sb p k ∨ W.heap.size ≤ k := by
    rintro k (e | e | e | e | e | e)
    · exact .inl (.inl e)
    · exact .inl (.inr (.inl e))
    · exact .inl (.inr (.inr (.inl e)))
    · exact .inl (.inr (.inr (.inr (.inl e))))
    · rcases hw.whr with h1 | ⟨g, h1, h2⟩
      · exact .inl (.inr (.inr (.inr (.inr (.inl (h1 ▸ e))))))
      · have e' : V'.ownBlock = some k := e
        rw [h1] at e'
        injection e' with e'
        exact .inr (e' ▸ h2)
    · exact .inl (.inr (.inr (.inr (.inr (.inr e)))))
  have hro : ∀ k, ro15 { p with X := X', V := V' } k → ro15 p k := by
    rintro k (e | e | e | e)
    · exact .inl (hX ▸ e)
    · exact .inr (.inl e)
    · exact .inr (.inr (.inl e))
    · exact .inr (.inr (.inr e))
  refine ⟨⟨hb.heap h.box (ht _ _ _ h.box (by decide) (by decide)), ?_, hT, h.links.but hb (fun g hg => by obtain ⟨_, c, hc⟩ := typed14 h.links hg; exact ht _ _ _ hc (by decide) (by decide)), h.dat.but' hb (fun g hg => by obtain ⟨c, hc⟩ := h.dat.blk hg; exact ht _ _ _ hc (by decide) (by decide)), h.inp.but' hb (fun g hg => by obtain ⟨c, hc⟩ := h.inp.blk hg; exact ht _ _ _ hc (by decide) (by decide)), ?_, hq, ho, fun k hk hr => ?_⟩, hb.mono (fun k e => e.elim (fun e => .inr (.inr (.inr (.inl e)))) (fun e => .inr (.inr (.inr (.inr (.inl e)))))), hf, fun k hk => .inl (hro k hk)⟩
  · obtain ⟨cur, hc, _⟩ := h.mem.row
    exact h.mem.but hb (ht _ _ _ h.mem.head (by decide) (by decide)) (ht _ _ _ hc (by decide) (by decide))
  · exact h.funs.but hb (fun g hg => by obtain ⟨_, c, hc⟩ := typed14 h.funs.own hg; exact ht _ _ _ hc (by decide) (by decide)) (fun k hk => by omega) (fun k c hc => ht k c _ hc (by decide) (by decide)) (fun k c hc => ht k c _ hc (by decide) (by decide))
  · rcases hf k hk with hk | hk
    · exact h.sep k hk (hro k hr)
    · have := h.ro_lt (hro k hr); omega
set_option maxRecDepth 100000 in
set_option maxHeartbeats 4000000 in
theorem burn15 {W : World} {sb : Nat} {p : Loc} {S : SpV} (h : SpAt W sb p S) (n : Int) (hn : InI n) :
    Calls Tryz.prog 39 #[.pointer (some ⟨sb, 0, none⟩), .int .i64 n] W (SpDone W sb p S (S.burnS n) (.int .i64 (S.burnE n))) := by
  have HR := Lib.hid (refuse15 h)
  have hoo : (S.burnS n).ok := h.ok.burnS n
  have n1 := hn.1
  have n2 := hn.2
  have q1 := h.ok.fuel0
  have q2 := h.ok.fuel1
  unfold SpV.burnS SpV.burnE at *
  unfold SpV.refE at HR
  clear h hn
  obtain ⟨F, hF⟩ : ∃ F, F = S.fuel := ⟨_, rfl⟩
  rw [← hF] at q1 q2
  have HFE := Lib.hid hF
  by_cases he : S.ek = 0
  · simp only [if_pos he] at HR hoo ⊢
    by_cases hp : n < 0 ∨ S.fuel < n
    · simp only [if_pos hp, show ¬ ((2 : Int) = 0) by decide, if_false] at hoo ⊢
      rw [← hF] at hp
      clear he hoo hF
      by_cases hn0 : n < 0
      · clear hp
        have d0 : decide (n < 0) = true := decide_eq_true hn0
        go_enter Tryz.func39, Tryz.ntmps39
        go_wp2_with (go_at_call 82; (with_reducible refine HR.out.mono ?_); rintro e w' ⟨rfl, p', hv⟩; have HD := Lib.hid hv; obtain ⟨⟨c5, c9, c10, c11⟩, ⟨c12, c13, c14, c15⟩, c16, c17⟩ := hv.laid.cells; have g11 := hv.laid.free 11; have g16 := hv.laid.free 16; have g17 := hv.laid.free 17; clear hv)
        rw [← HFE.out] at c11
        go_loopw [6] (fun _ wr => wr = w') (fun _ _ => 0)
        case atStart => rfl
        case round =>
          obtain rfl := hrel
          go_wp2_with (go_at_call 72; (with_reducible refine (fuel15 ⟨sb, 11, none⟩ F _ c11).mono ?_); rintro e w'' ⟨rfl, rfl⟩)
          go_ret
          exact ⟨rfl, _, HD.out⟩
      · have d0 : decide (n < 0) = false := decide_eq_false hn0
        have d1 : F < n := by omega
        clear hp
        go_enter Tryz.func39, Tryz.ntmps39
        go_wp2_with (go_at_call 82; (with_reducible refine HR.out.mono ?_); rintro e w' ⟨rfl, p', hv⟩; have HD := Lib.hid hv; obtain ⟨⟨c5, c9, c10, c11⟩, ⟨c12, c13, c14, c15⟩, c16, c17⟩ := hv.laid.cells; have g11 := hv.laid.free 11; have g16 := hv.laid.free 16; have g17 := hv.laid.free 17; clear hv)
        rw [← HFE.out] at c11
        go_loopw [6] (fun _ wr => wr = w') (fun _ _ => 0)
        case atStart => rfl
        case round =>
          obtain rfl := hrel
          go_wp2_with (go_at_call 72; (with_reducible refine (fuel15 ⟨sb, 11, none⟩ F _ c11).mono ?_); rintro e w'' ⟨rfl, rfl⟩)
          go_ret
          exact ⟨rfl, _, HD.out⟩
    · simp only [if_neg hp, if_true] at hoo ⊢
      have HO := Lib.hid hoo
      rw [← hF] at hp
      have d0 : ¬ n < 0 := by omega
      have d1 : ¬ F < n := by omega
      have d2 : IntKind.i64.wrap (F - n) = F - n := IntWalk.i64_in _ (by omega)
      clear he hoo hF hp
      go_enter Tryz.func39, Tryz.ntmps39
      go_wp2_with (go_at_call 82; (with_reducible refine HR.out.mono ?_); rintro e w' ⟨rfl, p', hv⟩; have HD := Lib.hid hv; obtain ⟨⟨c5, c9, c10, c11⟩, ⟨c12, c13, c14, c15⟩, c16, c17⟩ := hv.laid.cells; have g11 := hv.laid.free 11; have g16 := hv.laid.free 16; have g17 := hv.laid.free 17; clear hv)
      rw [← HFE.out] at c11
      go_loopw [6] (fun _ wr => wr = w') (fun _ _ => 0)
      case atStart => rfl
      case round =>
        obtain rfl := hrel
        go_wp2_with (first
          | (go_at_call 72; (with_reducible refine (fuel15 ⟨sb, 11, none⟩ F _ c11).mono ?_); rintro e w'' ⟨rfl, rfl⟩)
          | (go_at_call 104; (with_reducible refine (swap15 ⟨sb, 11, none⟩ F (F - n) _ c11 g11).mono ?_); rintro e w'' ⟨rfl, rfl⟩))
        go_ret
        rw [HFE.out]
        exact ⟨rfl, _, HD.out.trans (HD.out.laid.boxed (one_but15 _ sb 11 _) (heap_setCell_same _ sb 11 _ _ _ HD.out.laid.box) rfl HO.out)⟩
  · simp only [if_neg he, show ¬ ((9 : Int) = 0) by decide, if_false] at HR hoo ⊢
    clear he hoo hF
    go_enter Tryz.func39, Tryz.ntmps39
    go_wp2_with (go_at_call 82; (with_reducible refine HR.out.mono ?_); rintro e w' ⟨rfl, p', hv⟩; have HD := Lib.hid hv; obtain ⟨⟨c5, c9, c10, c11⟩, ⟨c12, c13, c14, c15⟩, c16, c17⟩ := hv.laid.cells; have g11 := hv.laid.free 11; have g16 := hv.laid.free 16; have g17 := hv.laid.free 17; clear hv)
    go_ret
    exact ⟨rfl, _, HD.out⟩
set_option maxRecDepth 100000 in
set_option maxHeartbeats 4000000 in
theorem get15 {W : World} {sb : Nat} {p : Loc} {S : SpV} (h : SpAt W sb p S) (r : Int) (hr : InI r) :
    Calls Tryz.prog 27 #[.pointer (some ⟨sb, 0, none⟩), .int .i64 r] W (SpDone W sb p S S (.tuple #[.int .u64 (S.getV r), .int .i64 (S.getE r)])) := by
  have HR := Lib.hid (refuse15 h)
  have HI := Lib.hid (fun W' p' (h : LaidAt W' sb p' S) => isReg15 h r hr)
  have hok := h.ok
  have hat : 0 ≤ S.at_ ∧ S.at_ < 18446744073709551616 := by have := hok.at0; have := hok.at1; omega
  have HSL := Lib.hid (fun w => slot_any S.at_ r w hat.1 hat.2 hr.1 hr.2)
  have hsb : 0 ≤ slotV S.at_ r ∧ slotV S.at_ r < 18446744073709551616 := by unfold slotV; omega
  have HLD := Lib.hid (fun W' p' (h : LaidAt W' sb p' S) => load_any h.mem (slotV S.at_ r) 8 hsb.1 hsb.2 (by decide))
  have hnot := not15
  have hzero : S.ek = 0 → S.regB r = true → numE S.mem.length (slotV S.at_ r) 8 = 0 := fun h1 h2 => hok.slotE h1 h2
  unfold SpV.getV SpV.getE
  unfold SpV.refE at HR
  clear h hok hat hsb
  generalize slotV S.at_ r = a at *
  by_cases he : S.ek = 0
  · simp only [if_pos he] at HR ⊢
    by_cases hp : S.regB r = true
    · simp only [if_pos hp, if_true]
      rw [hzero he hp] at HLD
      rw [hp] at HI
      clear he hp hzero
      go_enter Tryz.func27, Tryz.ntmps27
      go_wp2_with (first
        | (go_at_call 82; (with_reducible refine HR.out.mono ?_); rintro e w' ⟨rfl, p', hv⟩; have HD := Lib.hid hv; obtain ⟨⟨c5, c9, c10, c11⟩, ⟨c12, c13, c14, c15⟩, c16, c17⟩ := hv.laid.cells; have g11 := hv.laid.free 11; have g16 := hv.laid.free 16; have g17 := hv.laid.free 17; clear hv)
        | (go_at_call 100; (with_reducible refine (HI.out _ _ HD.out.laid).mono ?_); rintro e w2 ⟨rfl, q, hw⟩; have HD2 := Lib.hid (HD.out.read (below_drewN14 hw)); clear hw; obtain ⟨⟨e5, e9, e10, e11⟩, ⟨e12, e13, e14, e15⟩, e16, e17⟩ := HD2.out.laid.cells))
      have HLQ := Lib.hid (fun q => HLD.out (w2.drewN q) p' (HD2.out.laid.grow (below_drewN (Below.refl _ _) q)))
      go_quiet ((first
        | (go_at_call 101; with_reducible exact quiet_left (HSL.out _))
        | (go_at_call 52; with_reducible exact quiet_left (HLQ.out _))
        | (go_at_call 101; with_reducible exact quiet_add_left (HSL.out _))
        | (go_at_call 52; with_reducible exact quiet_add_left (HLQ.out _))))
      go_wp2
      go_ret2
      exact ⟨rfl, _, HD2.out.read (below_drewN (Below.refl _ _) _)⟩
    · simp only [if_neg hp, show ¬ ((5 : Int) = 0) by decide, if_false]
      rw [Bool.not_eq_true] at hp
      rw [hp] at HI
      clear he hp hzero HLD
      go_enter Tryz.func27, Tryz.ntmps27
      go_wp2_with (first
        | (go_at_call 82; (with_reducible refine HR.out.mono ?_); rintro e w' ⟨rfl, p', hv⟩; have HD := Lib.hid hv; obtain ⟨⟨c5, c9, c10, c11⟩, ⟨c12, c13, c14, c15⟩, c16, c17⟩ := hv.laid.cells; have g11 := hv.laid.free 11; have g16 := hv.laid.free 16; have g17 := hv.laid.free 17; clear hv)
        | (go_at_call 100; (with_reducible refine (HI.out _ _ HD.out.laid).mono ?_); rintro e w2 ⟨rfl, q, hw⟩; have HD2 := Lib.hid (HD.out.read (below_drewN14 hw)); clear hw))
      go_ret2
      exact ⟨rfl, _, HD2.out⟩
  · simp only [if_neg he, show ¬ ((9 : Int) = 0) by decide, if_false] at HR ⊢
    clear he hzero HLD
    go_enter Tryz.func27, Tryz.ntmps27
    go_wp2_with (go_at_call 82; (with_reducible refine HR.out.mono ?_); rintro e w' ⟨rfl, p', hv⟩; have HD := Lib.hid hv; obtain ⟨⟨c5, c9, c10, c11⟩, ⟨c12, c13, c14, c15⟩, c16, c17⟩ := hv.laid.cells; have g11 := hv.laid.free 11; have g16 := hv.laid.free 16; have g17 := hv.laid.free 17; clear hv)
    go_ret2
    exact ⟨rfl, _, HD.out⟩
set_option maxRecDepth 100000 in
set_option maxHeartbeats 4000000 in
theorem set15 {W : World} {sb : Nat} {p : Loc} {S : SpV} (h : SpAt W sb p S) (r v : Int) (hr : InI r) (hv0 : 0 ≤ v) (hv1 : v < 18446744073709551616) :
    Calls Tryz.prog 37 #[.pointer (some ⟨sb, 0, none⟩), .int .i64 r, .int .u64 v] W (SpDone W sb p S (S.setS r v) (.int .i64 (S.getE r))) := by
  have HR := Lib.hid (refuse15 h)
  have HI := Lib.hid (fun W' p' (h : LaidAt W' sb p' S) => isReg15 h r hr)
  have hok := h.ok
  have hat : 0 ≤ S.at_ ∧ S.at_ < 18446744073709551616 := by have := hok.at0; have := hok.at1; omega
  have HSL := Lib.hid (fun w => slot_any S.at_ r w hat.1 hat.2 hr.1 hr.2)
  have hsb : 0 ≤ slotV S.at_ r ∧ slotV S.at_ r < 18446744073709551616 := by unfold slotV; omega
  have HST := Lib.hid (fun W' p' (h : LaidAt W' sb p' S) => store_any h.mem (slotV S.at_ r) 8 v hsb.1 hsb.2 (by decide) hv0 hv1)
  have hnot := not15
  have hzero : S.ek = 0 → S.regB r = true → numE S.mem.length (slotV S.at_ r) 8 = 0 := fun h1 h2 => hok.slotE h1 h2
  unfold SpV.setS SpV.getE
  unfold SpV.refE at HR
  clear h hok hat hsb hv0 hv1
  generalize slotV S.at_ r = a at *
  by_cases he : S.ek = 0
  · simp only [if_pos he] at HR ⊢
    by_cases hp : S.regB r = true
    · simp only [if_pos hp, if_true]
      rw [hzero he hp] at HST
      rw [hp] at HI
      clear he hp hzero
      go_enter Tryz.func37, Tryz.ntmps37
      go_wp2_with (first
        | (go_at_call 82; (with_reducible refine HR.out.mono ?_); rintro e w' ⟨rfl, p', hv⟩; have HD := Lib.hid hv; obtain ⟨⟨c5, c9, c10, c11⟩, ⟨c12, c13, c14, c15⟩, c16, c17⟩ := hv.laid.cells; have g11 := hv.laid.free 11; have g16 := hv.laid.free 16; have g17 := hv.laid.free 17; clear hv)
        | (go_at_call 100; (with_reducible refine (HI.out _ _ HD.out.laid).mono ?_); rintro e w2 ⟨rfl, q, hw⟩; have HD2 := Lib.hid (HD.out.read (below_drewN14 hw)); clear hw; obtain ⟨⟨e5, e9, e10, e11⟩, ⟨e12, e13, e14, e15⟩, e16, e17⟩ := HD2.out.laid.cells))
      have HD3 := Lib.hid (HD2.out.read (Below.refl _ _).drew)
      have K3 : Hid (w2.drew.cell? ⟨sb, 9, none⟩ = some (.pointer (some ⟨p'.mb, 0, none⟩)) ∧ w2.drew.cell? ⟨sb, 13, none⟩ = some (.int .u64 S.at_)) := Lib.hid ⟨e9, e13⟩
      go_region_held3 (fun W => W.cell? ⟨sb, 9, none⟩ = some (.pointer (some ⟨p'.mb, 0, none⟩)) ∧ W.cell? ⟨sb, 13, none⟩ = some (.int .u64 S.at_))
        (first | with_reducible exact K4.out | with_reducible exact K3.out | go_keep)
        (first
          | (go_at_call 101; (with_reducible refine (HSL.out _).mono ?_); rintro e w' ⟨rfl, rfl⟩)
          | (go_at_call 48; (with_reducible refine (HST.out _ _ HD3.out.laid).mono ?_); rintro e w4 ⟨rfl, hm, hb⟩; have HD4 := Lib.hid (HD3.out.trans (HD3.out.laid.stored hm hb storeL_len)); have K4 : Hid (w4.cell? ⟨sb, 9, none⟩ = some (.pointer (some ⟨p'.mb, 0, none⟩)) ∧ w4.cell? ⟨sb, 13, none⟩ = some (.int .u64 S.at_)) := Lib.hid ⟨HD4.out.laid.cells.1.2.1, HD4.out.laid.cells.2.1.2.1⟩; clear hm hb))
      go_wp2
      go_ret
      exact ⟨rfl, _, HD4.out⟩
    · simp only [if_neg hp, show ¬ ((5 : Int) = 0) by decide, if_false]
      rw [Bool.not_eq_true] at hp
      rw [hp] at HI
      clear he hp hzero HST
      go_enter Tryz.func37, Tryz.ntmps37
      go_wp2_with (first
        | (go_at_call 82; (with_reducible refine HR.out.mono ?_); rintro e w' ⟨rfl, p', hv⟩; have HD := Lib.hid hv; obtain ⟨⟨c5, c9, c10, c11⟩, ⟨c12, c13, c14, c15⟩, c16, c17⟩ := hv.laid.cells; have g11 := hv.laid.free 11; have g16 := hv.laid.free 16; have g17 := hv.laid.free 17; clear hv)
        | (go_at_call 100; (with_reducible refine (HI.out _ _ HD.out.laid).mono ?_); rintro e w2 ⟨rfl, q, hw⟩; have HD2 := Lib.hid (HD.out.read (below_drewN14 hw)); clear hw))
      go_ret
      exact ⟨rfl, _, HD2.out⟩
  · simp only [if_neg he, show ¬ ((9 : Int) = 0) by decide, if_false] at HR ⊢
    clear he hzero HST
    go_enter Tryz.func37, Tryz.ntmps37
    go_wp2_with (go_at_call 82; (with_reducible refine HR.out.mono ?_); rintro e w' ⟨rfl, p', hv⟩; have HD := Lib.hid hv; obtain ⟨⟨c5, c9, c10, c11⟩, ⟨c12, c13, c14, c15⟩, c16, c17⟩ := hv.laid.cells; have g11 := hv.laid.free 11; have g16 := hv.laid.free 16; have g17 := hv.laid.free 17; clear hv)
    go_ret
    exact ⟨rfl, _, HD.out⟩
end Go.Proofs.YtkfdgpgildanbaaGreat
namespace Go.Proofs.YtkfdgpgildanbaaGreat
open Go.RowKit Go.Shelf
set_option linter.unusedVariables false
set_option linter.unusedSimpArgs false
set_option maxRecDepth 100000 in
set_option maxHeartbeats 4000000 in
theorem getb15 {W : World} {sb : Nat} {p : Loc} {S : SpV} (h : SpAt W sb p S) (hf : S.done.length < 100000) :
    Calls Tryz.prog 28 #[.pointer (some ⟨sb, 0, none⟩)] W (SpDone W sb p S S.getbS (.tuple #[.int .i64 S.getbV, .int .i64 S.refE])) := by
  have HR := Lib.hid (refuse15 h)
  have hoo : S.getbS.ok := h.ok.getbS hf
  have HG := Lib.hid (fun W' p' (h : LaidAt W' sb p' S) => tape_any15 h.tape (Nat.zero_le _) hf)
  unfold SpV.getbS SpV.getbV SpV.refE at *
  clear h
  by_cases he : S.ek = 0
  · simp only [if_pos he] at HR hoo ⊢
    have HO := Lib.hid hoo
    obtain ⟨y, hy⟩ : ∃ y, y = hd15 S.left := ⟨_, rfl⟩
    rw [← hy] at HG HO ⊢
    clear he hoo hy
    go_enter Tryz.func28, Tryz.ntmps28
    go_wp2_with (first
      | (go_at_call 82; (with_reducible refine HR.out.mono ?_); rintro e w' ⟨rfl, p', hv⟩; have HD := Lib.hid hv; obtain ⟨⟨c5, c9, c10, c11⟩, ⟨c12, c13, c14, c15⟩, c16, c17⟩ := hv.laid.cells; have g11 := hv.laid.free 11; have g16 := hv.laid.free 16; have g17 := hv.laid.free 17; clear hv)
      | (go_at_call 102; (with_reducible refine (HG.out _ _ HD.out.laid).mono ?_); rintro e w4 ⟨X', V', rfl, hT, hw, hX⟩; have HD4 := Lib.hid (HD.out.trans (HD.out.laid.taped hT hw hX (by obtain ⟨q, hq⟩ := HD.out.laid.pre; cases hl : S.left with | nil => exact ⟨q, by rw [hq, hl]; rfl⟩ | cons x ys => exact ⟨q ++ [x], by rw [hq, hl]; simp⟩) HO.out)); clear hT hw hX))
    go_ret2
    exact ⟨rfl, _, HD4.out⟩
  · simp only [if_neg he] at HR hoo ⊢
    clear he hoo HG
    go_enter Tryz.func28, Tryz.ntmps28
    go_wp2_with (go_at_call 82; (with_reducible refine HR.out.mono ?_); rintro e w' ⟨rfl, p', hv⟩; have HD := Lib.hid hv; obtain ⟨⟨c5, c9, c10, c11⟩, ⟨c12, c13, c14, c15⟩, c16, c17⟩ := hv.laid.cells; have g11 := hv.laid.free 11; have g16 := hv.laid.free 16; have g17 := hv.laid.free 17; clear hv)
    go_ret2
    exact ⟨rfl, _, HD.out⟩
set_option maxRecDepth 100000 in
set_option maxHeartbeats 4000000 in
theorem putb15 {W : World} {sb : Nat} {p : Loc} {S : SpV} (h : SpAt W sb p S) (hf : S.done.length < 100000) (b : Int) :
    Calls Tryz.prog 42 #[.pointer (some ⟨sb, 0, none⟩), .int .i64 b] W (SpDone W sb p S (S.putbS b) (.int .i64 S.refE)) := by
  have HR := Lib.hid (refuse15 h)
  have hoo : (S.putbS b).ok := h.ok.putbS hf b
  have HG := Lib.hid (fun W' p' (h : LaidAt W' sb p' S) => put15 h.tape (Nat.zero_le _) hf b)
  unfold SpV.putbS SpV.refE at *
  clear h
  by_cases he : S.ek = 0
  · simp only [if_pos he] at HR hoo ⊢
    have HO := Lib.hid hoo
    clear he hoo
    go_enter Tryz.func42, Tryz.ntmps42
    go_wp2_with (first
      | (go_at_call 82; (with_reducible refine HR.out.mono ?_); rintro e w' ⟨rfl, p', hv⟩; have HD := Lib.hid hv; obtain ⟨⟨c5, c9, c10, c11⟩, ⟨c12, c13, c14, c15⟩, c16, c17⟩ := hv.laid.cells; have g11 := hv.laid.free 11; have g16 := hv.laid.free 16; have g17 := hv.laid.free 17; clear hv)
      | (go_at_call 108; (with_reducible refine (HG.out _ _ HD.out.laid).mono ?_); rintro e w4 ⟨X', V', rfl, hT, hw, hX⟩; have HD4 := Lib.hid (HD.out.trans (HD.out.laid.taped hT hw hX HD.out.laid.pre HO.out)); clear hT hw hX))
    go_ret
    exact ⟨rfl, _, HD4.out⟩
  · simp only [if_neg he] at HR hoo ⊢
    clear he hoo HG
    go_enter Tryz.func42, Tryz.ntmps42
    go_wp2_with (go_at_call 82; (with_reducible refine HR.out.mono ?_); rintro e w' ⟨rfl, p', hv⟩; have HD := Lib.hid hv; obtain ⟨⟨c5, c9, c10, c11⟩, ⟨c12, c13, c14, c15⟩, c16, c17⟩ := hv.laid.cells; have g11 := hv.laid.free 11; have g16 := hv.laid.free 16; have g17 := hv.laid.free 17; clear hv)
    go_ret
    exact ⟨rfl, _, HD.out⟩
set_option maxRecDepth 100000 in
set_option maxHeartbeats 4000000 in
theorem stop15 {W : World} {sb : Nat} {p : Loc} {S : SpV} (h : SpAt W sb p S) (k c : Int) :
    Calls Tryz.prog 22 #[.pointer (some ⟨sb, 0, none⟩), .agg #[.int .i64 k, .int .i64 c]] W (SpDone W sb p S (S.stopS k c) (.int .i64 (S.stopE k c))) := by
  have hB := below_one14 W (.cells #[.int .i64 k, .int .i64 c] 45)
  obtain ⟨W0, hW0⟩ : ∃ W0, W0 = W.alloc (.cells #[.int .i64 k, .int .i64 c] 45) := ⟨_, rfl⟩
  have HW := Lib.hid hW0
  have hnew : W0.heap[W.heap.size]? = some (.cells #[.int .i64 k, .int .i64 c] 45 (0, 0)) := by rw [hW0]; exact heap_alloc_new _ _
  rw [← hW0] at hB
  have HB := Lib.hid hB
  have HR := Lib.hid (refuse15 (h.grow hB))
  have hoo : (S.stopS k c).ok := h.ok.stopS k c
  have HC := Lib.hid (fun W' => check14 (.slice none 0 0) [] k c W' (IsDeeds.nil _ _))
  have HNB : Hid (∀ (w' : World) (p' : Loc) (q : Nat), But (foot15 sb p) W0 w' → w'.cell? ⟨W.heap.size, 0, none⟩ = some (.int .i64 k) ∧ w'.cell? ⟨W.heap.size, 1, none⟩ = some (.int .i64 c)) := Lib.hid (fun w' p' q hb => by
    have hx := hb.heap hnew (fun e => by
      have h1 : W.heap.size < W.heap.size := (It.lt (B := 0) (a := .sp sb S) h (.inl e))
      omega)
    exact cells2_14 hx)
  unfold SpV.stopS SpV.stopE errO at *
  unfold SpV.refE at HR
  clear h hB hnew hW0
  by_cases he : S.ek = 0
  · simp only [if_pos he] at HR hoo ⊢
    by_cases hp : okO [] k c = true
    · simp only [if_pos hp, if_true] at HC hoo ⊢
      have HO := Lib.hid hoo
      clear he hp hoo
      go_enter Tryz.func22, Tryz.ntmps22
      go_upto_region 1 with fail
      rw [← HW.out]
      go_wp2_with (first
        | (go_at_call 82; (with_reducible refine HR.out.mono ?_); rintro e w' ⟨rfl, p', hv⟩; have HD := Lib.hid hv; obtain ⟨k0, k1⟩ := HNB.out w' p' 0 hv.but; clear hv)
        | (go_at_call 83; (with_reducible refine (HC.out _).mono ?_); rintro e w4 ⟨rfl, hb⟩; have HD4 := Lib.hid (HD.out.read hb); have g16 := HD4.out.laid.free 16; have g17 := HD4.out.laid.free 17; obtain ⟨⟨c5, c9, c10, c11⟩, ⟨c12, c13, c14, c15⟩, c16, c17⟩ := HD4.out.laid.cells; obtain ⟨k2, k3⟩ := HNB.out w4 p' 0 HD4.out.but; clear hb))
      go_ret
      exact ⟨rfl, _, Vd15.after HB.out (HD4.out.trans (HD4.out.laid.boxed (but_box15 (one_but15 _ sb 16 _) 17 _) (heap_setCell_same _ sb 17 _ _ _ (heap_setCell_same _ sb 16 _ _ _ HD4.out.laid.box)) rfl HO.out))⟩
    · simp only [if_neg hp, show ¬ ((2 : Int) = 0) by decide, if_false] at HC hoo ⊢
      clear he hp hoo
      go_enter Tryz.func22, Tryz.ntmps22
      go_upto_region 1 with fail
      rw [← HW.out]
      go_wp2_with (first
        | (go_at_call 82; (with_reducible refine HR.out.mono ?_); rintro e w' ⟨rfl, p', hv⟩; have HD := Lib.hid hv; obtain ⟨k0, k1⟩ := HNB.out w' p' 0 hv.but; clear hv)
        | (go_at_call 83; go_loud ((with_reducible refine (HC.out _).mono ?_); rintro e w4 ⟨rfl, hb⟩; have HD4 := Lib.hid (HD.out.read hb); clear hb)))
      go_ret
      exact ⟨rfl, _, Vd15.after HB.out HD4.out⟩
  · simp only [if_neg he, show ¬ ((9 : Int) = 0) by decide, if_false] at HR hoo ⊢
    clear he hoo HC
    go_enter Tryz.func22, Tryz.ntmps22
    go_upto_region 1 with fail
    rw [← HW.out]
    go_wp2_with (go_at_call 82; (with_reducible refine HR.out.mono ?_); rintro e w' ⟨rfl, p', hv⟩; have HD := Lib.hid hv; clear hv)
    go_ret
    exact ⟨rfl, _, Vd15.after HB.out HD.out⟩
theorem Vd15.mine {w W0 W1 W2 : World} {sb : Nat} {p p' : Loc} {S S' : SpV} (hb : Below w.heap.size w W0) (h : Vd15 W0 W1 sb p p' S S') (hp : ∀ k, foot15 sb p k ∨ ro15 p k → k < w.heap.size) (h2 : But (fun k => w.heap.size ≤ k ∧ k < W0.heap.size) W1 W2) (ht : ∀ k, w.heap.size ≤ k → k < W0.heap.size → Typ15 W1 k) : Vd15 w W2 sb p p' S S' := by
  have h3 := Vd15.after hb h
  refine ⟨h.laid.but h2 (fun k hk hr => ?_) (fun k hk _ => ht k hk.1 hk.2), h3.but.more15 h2 (fun k hk => .inr hk.1), h3.foot, h3.ro⟩
  rcases hk with hk | hk
  · rcases h.foot k hk with e | e
    · have := hp k (.inl e); omega
    · omega
  · rcases h.ro k hk with e | e
    · have := hp k (.inr e); omega
    · omega
theorem SpAt.lt {W : World} {sb : Nat} {p : Loc} {S : SpV} (h : SpAt W sb p S) : ∀ k, foot15 sb p k ∨ ro15 p k → k < W.heap.size := fun k e => It.lt (B := 0) (a := .sp sb S) h e
set_option maxRecDepth 100000 in
set_option maxHeartbeats 4000000 in
theorem end15 {W : World} {sb : Nat} {p : Loc} {S : SpV} (h : SpAt W sb p S) :
    Calls Tryz.prog 29 #[.pointer (some ⟨sb, 0, none⟩)] W (SpDone W sb p S S (.tuple #[.agg #[.int .i64 S.ek, .int .i64 S.ec], .bool (S.ek != 0)])) := by
  have hB := below_one14 W (.cells #[.int .i64 0, .int .i64 0] 45)
  obtain ⟨W0, hW0⟩ : ∃ W0, W0 = W.alloc (.cells #[.int .i64 0, .int .i64 0] 45) := ⟨_, rfl⟩
  have HW := Lib.hid hW0
  have hnew : W0.heap[W.heap.size]? = some (.cells #[.int .i64 0, .int .i64 0] 45 (0, 0)) := by rw [hW0]; exact heap_alloc_new _ _
  rw [← hW0] at hB
  have HB := Lib.hid hB
  have HV := Lib.hid (valid15 (h.grow hB))
  have HLT := Lib.hid h.lt
  have HNB : Hid (∀ (w' : World), But (foot15 sb p) W0 w' → w'.heap[W.heap.size]? = some (.cells #[.int .i64 0, .int .i64 0] 45 (0, 0))) := Lib.hid (fun w' hb => hb.heap hnew (fun e => by have := HLT.out _ (.inl e); omega))
  have hnot := not15
  clear h hB hnew hW0
  go_enter Tryz.func29, Tryz.ntmps29
  go_upto_region 1 with fail
  rw [← HW.out]
  go_upto_region 3 with (go_at_call 68; (with_reducible refine HV.out.mono ?_); rintro e w' ⟨rfl, p', hv⟩; have HD := Lib.hid hv; obtain ⟨⟨c5, c9, c10, c11⟩, ⟨c12, c13, c14, c15⟩, c16, c17⟩ := hv.laid.cells; have HX := Lib.hid (HNB.out _ hv.but); obtain ⟨k0, k1⟩ := cells2_14 HX.out; have z0 := frozen_of_row w' W.heap.size 0 _ _ HX.out; have z1 := frozen_of_row w' W.heap.size 1 _ _ HX.out; clear hv)
  go_region
  have hx3 := heap_setCell_same _ W.heap.size 1 _ _ (.int .i64 S.ec) (heap_setCell_same w' W.heap.size 0 _ _ (.int .i64 S.ek) HX.out)
  have hb3 : But (fun k => W.heap.size ≤ k ∧ k < W0.heap.size) w' ((w'.setCell ⟨W.heap.size, 0, none⟩ (.int .i64 S.ek)).setCell ⟨W.heap.size, 1, none⟩ (.int .i64 S.ec)).drew := (((But.refl _ w').setCell (p := ⟨W.heap.size, 0, none⟩) (.inl ⟨Nat.le_refl _, by rw [HW.out]; simp⟩) _).setCell (p := ⟨W.heap.size, 1, none⟩) (.inl ⟨Nat.le_refl _, by rw [HW.out]; simp⟩) _).drew
  have HV3 := Lib.hid (Vd15.mine HB.out HD.out HLT.out hb3 (fun k h1 h2 => by
    rw [HW.out] at h2
    simp at h2
    have h3 : k = W.heap.size := by omega
    subst h3
    exact ⟨_, _, HX.out, by decide, by decide⟩))
  obtain ⟨W3, hW3⟩ : ∃ W3, W3 = ((w'.setCell ⟨W.heap.size, 0, none⟩ (.int .i64 S.ek)).setCell ⟨W.heap.size, 1, none⟩ (.int .i64 S.ec)).drew := ⟨_, rfl⟩
  have hx4 : W3.heap[W.heap.size]? = some (.cells #[.int .i64 S.ek, .int .i64 S.ec] 45 (0, 0)) := by rw [hW3]; exact hx3
  rw [← hW3] at HV3 ⊢
  clear hW3 hx3 hb3
  obtain ⟨m0, m1⟩ := cells2_14 hx4
  go_wp2
  exact bodyPost_ret (v := .tuple #[.agg #[.int .i64 S.ek, .int .i64 S.ec], .bool (S.ek != 0)]) (by simp [results, Tryz.results29, go_sem, m0, m1]) rfl ⟨rfl, _, HV3.out⟩
end Go.Proofs.YtkfdgpgildanbaaGreat
namespace Go.Proofs.YtkfdgpgildanbaaGreat
open Go.RowKit Go.Shelf
set_option linter.unusedVariables false
set_option linter.unusedSimpArgs false
def OutcDone (W : World) (S : SpV) (e : Ending) (W' : World) : Prop := ∃ V, e = .returned (.agg #[V, .int .i64 S.ek, .int .i64 S.ec]) ∧ Owns W' W.heap.size 182 2 AnyC14 V S.done.length (cellsD S.done) ∧ Below W.heap.size W W'
set_option maxRecDepth 100000 in
set_option maxHeartbeats 4000000 in
theorem outcome15 {W : World} {sb : Nat} {p : Loc} {S : SpV} (h : LaidAt W sb p S) : Calls Tryz.prog 77 #[.pointer (some ⟨sb, 0, none⟩)] W (OutcDone W S) := by
  have hB := below_one14 W (.cells #[.slice none 0 0, .int .i64 0, .int .i64 0] 93)
  obtain ⟨W0, hW0⟩ : ∃ W0, W0 = W.alloc (.cells #[.slice none 0 0, .int .i64 0, .int .i64 0] 93) := ⟨_, rfl⟩
  have HW := Lib.hid hW0
  have hnew : W0.heap[W.heap.size]? = some (.cells #[.slice none 0 0, .int .i64 0, .int .i64 0] 93 (0, 0)) := by rw [hW0]; exact heap_alloc_new _ _
  rw [← hW0] at hB
  have HB := Lib.hid hB
  have HN := Lib.hid hnew
  have h0 := h.grow hB
  have HT := Lib.hid (deeds14 (h0.grow (Below.refl _ _).drew).tape)
  obtain ⟨⟨c5, c9, c10, c11⟩, ⟨c12, c13, c14, c15⟩, c16, c17⟩ := h0.cells
  have K0 : Hid (W0.drew.cell? ⟨sb, 10, none⟩ = some (.pointer (some ⟨p.tb, 0, none⟩)) ∧ W0.drew.cell? ⟨sb, 16, none⟩ = some (.int .i64 S.ek) ∧ W0.drew.cell? ⟨sb, 17, none⟩ = some (.int .i64 S.ec)) := Lib.hid ⟨c10, c16, c17⟩
  have HSB : Hid (sb < W0.heap.size ∧ W.heap.size < W0.heap.size ∧ sb ≠ W.heap.size) := Lib.hid ⟨heap_lt h0.box, heap_lt hnew, fun e => by have := heap_lt h.box; omega⟩
  obtain ⟨n, hn⟩ : ∃ n, n = S.done.length := ⟨_, rfl⟩
  have HL := Lib.hid hn
  have hne : W.heap.size ≠ sb := fun e => by have := heap_lt h.box; omega
  clear h h0 hB hnew hW0 hn
  go_enter Tryz.func77, Tryz.ntmps77
  go_upto_region 1 with fail
  rw [← HW.out]
  obtain ⟨n0, n1, n2⟩ := cells3_14 HN.out
  go_region_held3 (fun W => W.cell? ⟨sb, 10, none⟩ = some (.pointer (some ⟨p.tb, 0, none⟩)) ∧ W.cell? ⟨sb, 16, none⟩ = some (.int .i64 S.ek) ∧ W.cell? ⟨sb, 17, none⟩ = some (.int .i64 S.ec))
    (first | with_reducible exact K1.out | with_reducible exact K0.out | go_keep)
    ((go_at_call 141; (with_reducible refine HT.out.mono ?_); rintro e w1 ⟨v, rfl, ho, hb⟩; obtain ⟨vA, vc, hve⟩ := owns_len14 ho; subst hve; have O1 := Lib.hid ho; have B1 := Lib.hid hb; have K1 : Hid (w1.cell? ⟨sb, 10, none⟩ = some (.pointer (some ⟨p.tb, 0, none⟩)) ∧ w1.cell? ⟨sb, 16, none⟩ = some (.int .i64 S.ek) ∧ w1.cell? ⟨sb, 17, none⟩ = some (.int .i64 S.ec)) := Lib.hid ⟨(hb.cell (p := ⟨sb, 10, none⟩) HSB.out.1).trans K0.out.1, (hb.cell (p := ⟨sb, 16, none⟩) HSB.out.1).trans K0.out.2.1, (hb.cell (p := ⟨sb, 17, none⟩) HSB.out.1).trans K0.out.2.2⟩; have X1 := Lib.hid ((hb.block _ HSB.out.2.1).trans HN.out); obtain ⟨n0, n1, n2⟩ := cells3_14 X1.out; have g0 := frozen_of_row w1 W.heap.size 0 _ _ X1.out; have g1 := frozen_of_row w1 W.heap.size 1 _ _ X1.out; have g2 := frozen_of_row w1 W.heap.size 2 _ _ X1.out; obtain ⟨z10, z16, z17⟩ := K1.out; clear ho hb))
  have hx3 := heap_setCell_same _ W.heap.size 2 _ _ (.int .i64 S.ec) (heap_setCell_same _ W.heap.size 1 _ _ (.int .i64 S.ek) (heap_setCell_same w1 W.heap.size 0 _ _ (.slice vA S.done.length vc) X1.out))
  have hb3 := but_box15 (but_box15 (but_box15 (But.refl (OneBlock W.heap.size) w1) 0 (.slice vA S.done.length vc)) 1 (.int .i64 S.ek)) 2 (.int .i64 S.ec)
  obtain ⟨W3, hW3⟩ : ∃ W3, W3 = (((w1.setCell ⟨W.heap.size, 0, none⟩ (.slice vA S.done.length vc)).setCell ⟨W.heap.size, 1, none⟩ (.int .i64 S.ek)).setCell ⟨W.heap.size, 2, none⟩ (.int .i64 S.ec)) := ⟨_, rfl⟩
  rw [← hW3] at hx3 hb3 ⊢
  have O3 := Lib.hid ((O1.out.but hb3 (fun g hg e => by have e' : g = W.heap.size := e; have h1 := (O1.out.lt hg).1; have h2 := HSB.out.2.1; have h3 : W0.drew.heap.size = W0.heap.size := rfl; omega)).base (show W.heap.size ≤ W0.drew.heap.size from HB.out.size))
  have B3 := Lib.hid (show Below W.heap.size W W3 from hb3.below ((HB.out.trans ((Below.refl _ W0).drew.mono HB.out.size)).trans (B1.out.mono HB.out.size)) (Nat.le_trans HB.out.size B1.out.size) (fun k hk => by have e' : k = W.heap.size := hk; omega))
  have hx4 : W3.heap[W.heap.size]? = some (.cells #[.slice vA S.done.length vc, .int .i64 S.ek, .int .i64 S.ec] 93 (0, 0)) := hx3
  clear hW3 hx3 hb3
  obtain ⟨m0, m1, m2⟩ := cells3_14 hx4
  go_wp2
  exact bodyPost_ret (v := .agg #[.slice vA S.done.length vc, .int .i64 S.ek, .int .i64 S.ec]) (by simp [results, Tryz.results77, go_sem, m0, m1, m2]) rfl ⟨_, rfl, O3.out, B3.out⟩
theorem cellsL_len {K : IntKind} : ∀ (l : List LinkV), (cellsL K l).length = l.length * 4
  | [] => rfl
  | a :: l => by
    have := cellsL_len (K := K) l
    simp only [cellsL, List.flatMap_cons, List.length_append, List.length_cons] at *
    rw [this]
    simp [linkC]
    omega
theorem cellsL_app {K : IntKind} (l m : List LinkV) : cellsL K (l ++ m) = cellsL K l ++ cellsL K m := by simp [cellsL]
theorem links_last15 {W : World} {T : TypeId} {K : IntKind} {LV : Value} {init : List LinkV} {l : LinkV} (h : Owns W 0 T 4 AnyCell LV (init ++ [l]).length (cellsL K (init ++ [l]))) :
    ∃ g cap, LV = .slice (some ⟨g, 0, none⟩) (init.length + 1) cap ∧ init.length + 1 ≤ cap ∧ W.cell? ⟨g, init.length * 4, none⟩ = some (.int .i64 l.f) ∧ W.cell? ⟨g, init.length * 4 + 1, none⟩ = some (.int K l.at_) ∧ W.cell? ⟨g, init.length * 4 + 2, none⟩ = some (.int .i64 l.back) ∧ W.cell? ⟨g, init.length * 4 + 3, none⟩ = some (.int .i64 l.res) ∧
      (∃ cur, W.heap[g]? = some (.cells cur T (0, 0))) ∧ Owns W 0 T 4 AnyCell (.slice (some ⟨g, 0, none⟩) init.length cap) init.length (cellsL K init) := by
  have hl : (init ++ [l]).length = init.length + 1 := by simp
  rw [hl] at h
  rcases h.1.2 with ⟨rfl, h0⟩ | ⟨g, cap, cur, rfl, h1, h2, h3, h4, h5, h6⟩
  · omega
  · have hc : ∀ j u, (linkC K l)[j]? = some u → W.cell? ⟨g, init.length * 4 + j, none⟩ = some u := by
      intro j u hj
      have h7 : (cellsL K (init ++ [l]))[init.length * 4 + j]? = some u := by
        rw [cellsL_app, List.getElem?_append_right (by rw [cellsL_len]; omega), cellsL_len]
        rw [show init.length * 4 + j - init.length * 4 = j by omega]
        simpa [cellsL] using hj
      rw [← h6, List.getElem?_take] at h7
      split at h7
      · rw [cell_of_row _ _ _ _ _ _ h2]
        simpa using h7
      · cases h7
    refine ⟨g, cap, rfl, h3, hc 0 _ rfl, hc 1 _ rfl, hc 2 _ rfl, hc 3 _ rfl, ⟨cur, h2⟩, ⟨⟨by rw [cellsL_len], .inr ⟨g, cap, cur, rfl, h1, h2, by omega, h4, h5, ?_⟩⟩, fun _ _ _ _ _ _ _ _ => trivial⟩⟩
    have h8 : (cur.toList.take ((init.length + 1) * 4)).take (init.length * 4) = (cellsL K (init ++ [l])).take (init.length * 4) := by rw [h6]
    rw [List.take_take, show min (init.length * 4) ((init.length + 1) * 4) = init.length * 4 by omega] at h8
    rw [h8, cellsL_app, List.take_append_of_le_length (by rw [cellsL_len]; omega), ← cellsL_len (K := K) init, List.take_length]
theorem LaidAt.linked {W W' : World} {sb : Nat} {p : Loc} {S S' : SpV} {LV' : Value} (h : LaidAt W sb p S) (hb : But (fun k => k = sb ∨ p.LV.ownBlock = some k) W W') (hx : W'.heap[sb]? = some (.cells (box15 sb { p with LV := LV' } S') 80 (0, 0)))
    (hl : Owns W' 0 136 4 AnyCell LV' S'.links.length (cellsL .i64 S'.links)) (hw : LV'.ownBlock = p.LV.ownBlock ∨ ∃ g, LV'.ownBlock = some g ∧ W.heap.size ≤ g)
    (hS : S' = { S with fuel := S'.fuel, f := S'.f, at_ := S'.at_, pc := S'.pc, links := S'.links, ek := S'.ek, ec := S'.ec }) (ho : S'.ok) : Vd15 W W' sb p { p with LV := LV' } S S' := by
  have ht : ∀ (k : Nat) (c : Array Value) (t : TypeId), W.heap[k]? = some (.cells c t (0, 0)) → t ≠ 80 → t ≠ 136 → ¬ (k = sb ∨ p.LV.ownBlock = some k) := fun k c t hk h1 h2 e => by
    rcases e with rfl | e
    · exact types14 hk h.box h1
    · obtain ⟨_, c', hc'⟩ := typed14 h.links e
      exact types14 hk hc' h2
  have hf : ∀ k, foot15 sb { p with LV := LV' } k → foot15 sb p k ∨ W.heap.size ≤ k := by
    rintro k (e | e | e | e | e | e)
    · exact .inl (.inl e)
    · exact .inl (.inr (.inl e))
    · exact .inl (.inr (.inr (.inl e)))
    · exact .inl (.inr (.inr (.inr (.inl e))))
    · exact .inl (.inr (.inr (.inr (.inr (.inl e)))))
    · rcases hw with h1 | ⟨g, h1, h2⟩
      · exact .inl (.inr (.inr (.inr (.inr (.inr (h1 ▸ e))))))
      · have e' : LV'.ownBlock = some k := e
        rw [h1] at e'
        injection e' with e'
        exact .inr (e' ▸ h2)
  refine ⟨⟨hx, ?_, ?_, hl, ?_, ?_, ?_, ?_, ho, fun k hk hr => ?_⟩, hb.mono (fun k e => e.elim (fun e => .inl e) (fun e => .inr (.inr (.inr (.inr (.inr e)))))), hf, fun k hk => .inl hk⟩
  · rw [hS]
    obtain ⟨cur, hc, _⟩ := h.mem.row
    exact h.mem.but hb (ht _ _ _ h.mem.head (by decide) (by decide)) (ht _ _ _ hc (by decide) (by decide))
  · rw [hS]
    exact h.tape.but' hb (ht _ _ _ h.tape.box (by decide) (by decide)) (fun g hg => by obtain ⟨c, hc⟩ := h.tape.left.blk hg; exact ht _ _ _ hc (by decide) (by decide)) (fun g hg => by obtain ⟨_, c, hc⟩ := typed14 h.tape.done hg; exact ht _ _ _ hc (by decide) (by decide))
  · rw [hS]
    exact h.dat.but' hb (fun g hg => by obtain ⟨c, hc⟩ := h.dat.blk hg; exact ht _ _ _ hc (by decide) (by decide))
  · rw [hS]
    exact h.inp.but' hb (fun g hg => by obtain ⟨c, hc⟩ := h.inp.blk hg; exact ht _ _ _ hc (by decide) (by decide))
  · rw [hS]
    exact h.funs.but hb (fun g hg => by obtain ⟨_, c, hc⟩ := typed14 h.funs.own hg; exact ht _ _ _ hc (by decide) (by decide)) (fun k hk => by omega) (fun k c hc => ht k c _ hc (by decide) (by decide)) (fun k c hc => ht k c _ hc (by decide) (by decide))
  · rw [hS]
    exact h.pre
  · rcases hf k hk with hk | hk
    · exact h.sep k hk hr
    · have := h.ro_lt (show ro15 p k from hr); omega
end Go.Proofs.YtkfdgpgildanbaaGreat
namespace Go.Proofs.YtkfdgpgildanbaaGreat
open Go.RowKit Go.Shelf
set_option linter.unusedVariables false
set_option linter.unusedSimpArgs false
theorem slice_link15 (g n cap : Nat) (h : n ≤ cap) : ∀ W, (Instr.slice 78 (.slice (some ⟨g, 0, none⟩) (n + 1) cap) none (some (.int .i64 n)) none).run Tryz.prog W = .ok (.slice (some ⟨g, 0, none⟩) n cap) W := by
  intro W
  simp [go_sem, Tryz.underlying78, h]
set_option maxRecDepth 100000 in
set_option maxHeartbeats 8000000 in
theorem ret15 {W : World} {sb : Nat} {p : Loc} {S : SpV} (h : SpAt W sb p S) (v : Int) (hv0 : 0 ≤ v) (hv1 : v < 18446744073709551616) :
    Calls Tryz.prog 41 #[.pointer (some ⟨sb, 0, none⟩), .int .u64 v] W (SpDone W sb p S (S.retS v) (.int .i64 S.refE)) := by
  have HR := Lib.hid (refuse15 h)
  have hoo : (S.retS v).ok := h.ok.retS v
  have hok := h.ok
  unfold SpV.retS SpV.refE at *
  clear h
  by_cases he : S.ek = 0
  · simp only [if_pos he] at HR hoo ⊢
    rcases List.eq_nil_or_concat S.links with hl | ⟨init, l, hl⟩
    · have e1 : S.links.getLast? = none := by rw [hl]; rfl
      rw [e1] at hoo ⊢
      simp only [] at hoo ⊢
      clear e1
      have HO := Lib.hid hoo
      have HL := Lib.hid hl
      have hu := u8_mod14 v
      clear he hoo hok hl
      go_enter Tryz.func41, Tryz.ntmps41
      go_wp2_with (go_at_call 82; (with_reducible refine HR.out.mono ?_); rintro e w' ⟨rfl, p', hv⟩; have HD := Lib.hid hv; obtain ⟨⟨c5, c9, c10, c11⟩, ⟨c12, c13, c14, c15⟩, c16, c17⟩ := hv.laid.cells; have g16 := hv.laid.free 16; have g17 := hv.laid.free 17; have hk := hv.laid.links; rw [HL.out] at hk; obtain ⟨LA, lc, hle⟩ := owns_len14 hk; rw [hle] at c15; clear hk hle; simp only [List.length_nil] at c15; clear hv)
      go_ret
      exact ⟨rfl, _, HD.out.trans (HD.out.laid.boxed (but_box15 (one_but15 _ sb 16 _) 17 _) (heap_setCell_same _ sb 17 _ _ _ (heap_setCell_same _ sb 16 _ _ _ HD.out.laid.box)) rfl HO.out)⟩
    · rw [List.concat_eq_append] at hl
      obtain ⟨q1, q2, q3, q4⟩ := hok.link l (by rw [hl]; simp)
      have hq1 := flo_bd hok.mod
      have hq5 := q1.lo
      have hq6 := q1.hi
      have hq7 := (fs_bd (fnV S.m l.f).regs (fnV S.m l.f).area).1
      have hq8 := hok.hi
      have hlen := hok.deep
      have hmemE : numE S.mem.length (slotV l.at_ l.res) 8 = 0 := by
        obtain ⟨s1, s2, s3⟩ := slot_in hok.mod hok.hi q1 q3 q4
        rw [s1, hok.len]; exact numE_in s2 s3
      have hrg := err_fn hok.mod q1.fn
      have at0 : 0 ≤ l.at_ := by omega
      have at1 : l.at_ ≤ 65536 := by omega
      have HSL := Lib.hid (fun w => slot_any l.at_ l.res w (by omega) (by omega) (by omega) (by omega))
      have hsb : 0 ≤ slotV l.at_ l.res ∧ slotV l.at_ l.res < 18446744073709551616 := by unfold slotV; omega
      have hdl : S.links.dropLast = init := by rw [hl]; simp
      have e1 : S.links.getLast? = some l := by rw [hl]; simp
      rw [e1] at hoo ⊢
      simp only [SpV.backS, hdl] at hoo ⊢
      have ho2 : ({ S with links := init, f := l.f, at_ := l.at_, pc := l.back } : SpV).ok := by
        have := hoo.mem' (l := S.mem) (by rw [storeL_len])
        exact this
      have HST := Lib.hid (fun W' p' (h : MemAt W' p'.mb p'.bb p'.c S.mem) => store_any (mb := Loc.mb p') (bb := Loc.bb p') (c := Loc.c p') h (slotV l.at_ l.res) 8 v hsb.1 hsb.2 (by decide) hv0 hv1)
      rw [hmemE] at HST
      have HO := Lib.hid hoo
      have HO2 := Lib.hid ho2
      have HL := Lib.hid hl
      have hn : init.length + 1 ≤ 256 := by rw [hl] at hlen; simpa using hlen
      have HNN := Lib.hid hn
      have ha1 : IntKind.u64.wrap l.at_ = l.at_ := IntWalk.u64_in _ (by omega)
      obtain ⟨lf, lat, lback, lres⟩ := l
      simp only at *
      generalize slotV lat lres = a at *
      have n0 : (0 : Int) ≤ (init.length : Int) := by omega
      have hsub : wrap64 (init.length : Int) = (init.length : Int) := by unfold wrap64; omega
      clear he hoo ho2 hok hl q1 q2 q3 q4 hq1 hq5 hq6 hq7 hq8 hlen hmemE hrg hsb hdl e1 hv0 hv1 hn
      obtain ⟨m, hm⟩ : ∃ m, m = init.length := ⟨_, rfl⟩
      have HM := Lib.hid hm
      rw [← hm] at hsub n0
      clear hm
      go_enter Tryz.func41, Tryz.ntmps41
      go_upto_region 8 with (go_at_call 82; (with_reducible refine HR.out.mono ?_); rintro e w' ⟨rfl, p', hv⟩; have HD := Lib.hid hv; obtain ⟨⟨c5, c9, c10, c11⟩, ⟨c12, c13, c14, c15⟩, c16, c17⟩ := hv.laid.cells; have g16 := hv.laid.free 16; have g17 := hv.laid.free 17; have hk := hv.laid.links; rw [HL.out] at hk; obtain ⟨g, cap, hle, hcap, l0, l1, l2, l3, hty, hown⟩ := links_last15 hk; rw [← HM.out] at hle hcap l0 l1 l2 l3 hown; rw [hle] at c15; have HLE := Lib.hid hle; have OW := Lib.hid hown; have TY := Lib.hid hty; clear hk hle hown hty; have g12 := hv.laid.free 12; have g13 := hv.laid.free 13; have g14 := hv.laid.free 14; have g15 := hv.laid.free 15; clear hv)
      have n1 : (m : Int) < ((m + 1 : Nat) : Int) := by omega
      have hsl := slice_link15 g m cap (by omega)
      have hws := Lib.hid hsub
      obtain ⟨W2, hW2⟩ : ∃ W2, W2 = w'.alloc (.cells #[.int .i64 lf, .int .i64 lat, .int .i64 lback, .int .i64 lres] 136) := ⟨_, rfl⟩
      have HW2 := Lib.hid hW2
      have HD2 := Lib.hid (HD.out.read (show Below w'.heap.size w' W2 by rw [hW2]; exact below_one14 _ _))
      have X2 := Lib.hid (show W2.heap[w'.heap.size]? = some (.cells #[.int .i64 lf, .int .i64 lat, .int .i64 lback, .int .i64 lres] 136 (0, 0)) by rw [hW2]; exact heap_alloc_new _ _)
      clear hW2
      go_upto_region 9 with fail
      rw [← HW2.out]
      clear c5 c9 c10 c11 c12 c13 c14 c15 c16 c17 l0 l1 l2 l3 g12 g13 g14 g15 g16 g17
      obtain ⟨k0, k1, k2, k3⟩ := cells4 X2.out
      obtain ⟨⟨c5, c9, c10, c11⟩, ⟨c12, c13, c14, c15⟩, c16, c17⟩ := HD2.out.laid.cells
      rw [HLE.out] at c15
      have g12 := HD2.out.laid.free 12
      have g13 := HD2.out.laid.free 13
      have g14 := HD2.out.laid.free 14
      have g15 := HD2.out.laid.free 15
      have HOB : Hid (p'.LV.ownBlock = some g) := Lib.hid (by rw [HLE.out]; rfl)
      have OW2 := Lib.hid (OW.out.below (B := w'.heap.size) (show Below w'.heap.size w' W2 by rw [HW2.out]; exact below_one14 _ _) (Nat.le_refl _))
      have hx5 := heap_setCell_same _ sb 14 _ _ (.int .i64 lback) (heap_setCell_same _ sb 13 _ _ (.int .u64 lat) (heap_setCell_same _ sb 12 _ _ (.int .i64 lf) (heap_setCell_same W2 sb 15 _ _ (.slice (some ⟨g, 0, none⟩) m cap) HD2.out.laid.box)))
      have hb5 := but_box15 (but_box15 (but_box15 (but_box15 (But.refl (OneBlock sb) W2) 15 (.slice (some ⟨g, 0, none⟩) m cap)) 12 (.int .i64 lf)) 13 (.int .u64 lat)) 14 (.int .i64 lback)
      obtain ⟨W5, hW5⟩ : ∃ W5, W5 = ((((W2.setCell ⟨sb, 15, none⟩ (.slice (some ⟨g, 0, none⟩) m cap)).setCell ⟨sb, 12, none⟩ (.int .i64 lf)).setCell ⟨sb, 13, none⟩ (.int .u64 lat)).setCell ⟨sb, 14, none⟩ (.int .i64 lback)) := ⟨_, rfl⟩
      have HW5 := Lib.hid hW5
      rw [← hW5] at hx5 hb5
      have hown5 : Owns W5 0 136 4 AnyCell (.slice (some ⟨g, 0, none⟩) m cap) init.length (cellsL .i64 init) := by
        have h1 := OW2.out.but hb5 (fun k hk e => by
          have e' : k = sb := e
          subst e'
          obtain ⟨_, c, hc⟩ := typed14 OW2.out hk
          exact types14 hc HD2.out.laid.box (by decide))
        rw [HM.out] at h1 ⊢
        exact h1
      have HD5 := Lib.hid (HD2.out.trans (HD2.out.laid.linked (LV' := .slice (some ⟨g, 0, none⟩) m cap) (S' := { S with links := init, f := lf, at_ := lat, pc := lback }) (hb5.mono (fun k hk => .inl hk)) hx5 hown5 (.inl (by rw [HOB.out]; rfl)) rfl HO2.out))
      have X5 := Lib.hid (hb5.heap X2.out (fun e => by have e' : w'.heap.size = sb := e; have := heap_lt HD.out.laid.box; omega))
      clear hW5 hx5 hb5 hown5
      go_upto_region 11 with fail
      rw [← HW5.out]
      clear c5 c9 c10 c11 c12 c13 c14 c15 c16 c17 g12 g13 g14 g15 k0 k1 k2 k3
      obtain ⟨k0, k1, k2, k3⟩ := cells4 X5.out
      obtain ⟨⟨c5, c9, c10, c11⟩, ⟨c12, c13, c14, c15⟩, c16, c17⟩ := HD5.out.laid.cells
      have HD6 := Lib.hid (HD5.out.read (Below.refl _ _).drew)
      have K3 : Hid (W5.drew.cell? ⟨sb, 9, none⟩ = some (.pointer (some ⟨p'.mb, 0, none⟩)) ∧ W5.drew.cell? ⟨sb, 13, none⟩ = some (.int .u64 lat) ∧ W5.drew.cell? ⟨w'.heap.size, 3, none⟩ = some (.int .i64 lres)) := Lib.hid ⟨c9, c13, k3⟩
      have HSS := Lib.hid (HST.out W5.drew _ HD6.out.laid.mem)
      go_region_held3 (fun W => W.cell? ⟨sb, 9, none⟩ = some (.pointer (some ⟨p'.mb, 0, none⟩)) ∧ W.cell? ⟨sb, 13, none⟩ = some (.int .u64 lat) ∧ W.cell? ⟨w'.heap.size, 3, none⟩ = some (.int .i64 lres))
        (first | with_reducible exact K4.out | with_reducible exact K3.out | go_keep)
        (first
          | (go_at_call 101; (with_reducible refine (HSL.out _).mono ?_); rintro e w'' ⟨rfl, rfl⟩)
          | (go_at_call 48; (with_reducible refine HSS.out.mono ?_); rintro e w7 ⟨rfl, hm, hb⟩; have HD7 := Lib.hid (HD6.out.trans (HD6.out.laid.stored hm hb storeL_len)); have K4 : Hid (w7.cell? ⟨sb, 9, none⟩ = some (.pointer (some ⟨p'.mb, 0, none⟩)) ∧ w7.cell? ⟨sb, 13, none⟩ = some (.int .u64 lat) ∧ w7.cell? ⟨w'.heap.size, 3, none⟩ = some (.int .i64 lres)) := Lib.hid ⟨HD7.out.laid.cells.1.2.1, HD7.out.laid.cells.2.1.2.1, (hb.cell (p := ⟨w'.heap.size, 3, none⟩) (heap_lt X5.out) (fun e => by have e' : w'.heap.size = p'.bb := e; have h1 := (HD.out.laid.mem.lt).2; omega)).trans K3.out.2.2⟩; clear hm hb))
      go_wp2
      go_ret
      exact ⟨rfl, _, HD7.out⟩
  · simp only [if_neg he] at HR hoo ⊢
    clear he hoo hok
    go_enter Tryz.func41, Tryz.ntmps41
    go_wp2_with (go_at_call 82; (with_reducible refine HR.out.mono ?_); rintro e w' ⟨rfl, p', hv⟩; have HD := Lib.hid hv; obtain ⟨⟨c5, c9, c10, c11⟩, ⟨c12, c13, c14, c15⟩, c16, c17⟩ := hv.laid.cells; have g16 := hv.laid.free 16; have g17 := hv.laid.free 17; clear hv)
    go_ret
    exact ⟨rfl, _, HD.out⟩
end Go.Proofs.YtkfdgpgildanbaaGreat
