/- The landed space: what it refuses, what it tells, where it goes, what it burns. Contracts; no condition but that it lies in memory. -/
import Derived.Test.YtkfdgpgildanbaaGreatSp15D
namespace Go.Proofs.YtkfdgpgildanbaaGreat
open Go.RowKit Go.Shelf
set_option linter.unusedVariables false
set_option linter.unusedSimpArgs false

theorem LaidAt.cells {W : World} {sb : Nat} {p : Loc} {S : SpV} (h : LaidAt W sb p S) :
    (W.cell? ⟨sb, 5, none⟩ = some p.FV ∧ W.cell? ⟨sb, 9, none⟩ = some (.pointer (some ⟨p.mb, 0, none⟩)) ∧ W.cell? ⟨sb, 10, none⟩ = some (.pointer (some ⟨p.tb, 0, none⟩)) ∧ W.cell? ⟨sb, 11, none⟩ = some (.int .i64 S.fuel)) ∧
    (W.cell? ⟨sb, 12, none⟩ = some (.int .i64 S.f) ∧ W.cell? ⟨sb, 13, none⟩ = some (.int .u64 S.at_) ∧ W.cell? ⟨sb, 14, none⟩ = some (.int .i64 S.pc) ∧ W.cell? ⟨sb, 15, none⟩ = some p.LV) ∧
    W.cell? ⟨sb, 16, none⟩ = some (.int .i64 S.ek) ∧ W.cell? ⟨sb, 17, none⟩ = some (.int .i64 S.ec) := by
  obtain ⟨⟨d0, d1, d2, d3, d4, d5⟩, ⟨d6, d7, d8, d9, d10, d11⟩, d12, d13, d14, d15, d16, d17⟩ := cells18 (show W.heap[sb]? = some (.cells #[_, _, _, _, _, _, _, _, _, _, _, _, _, _, _, _, _, _] 80 (0, 0)) from h.box)
  exact ⟨⟨d5, d9, d10, d11⟩, ⟨d12, d13, d14, d15⟩, d16, d17⟩
theorem LaidAt.free {W : World} {sb : Nat} {p : Loc} {S : SpV} (h : LaidAt W sb p S) (o : Nat) : W.frozen? ⟨sb, o, none⟩ = false := frozen_of_row W sb o _ _ h.box
/-- What a call of a space leaves. -/
def SpDone (W : World) (sb : Nat) (p : Loc) (S S' : SpV) (v : Value) (e : Ending) (W' : World) : Prop := e = .returned v ∧ ∃ p', Vd15 W W' sb p p' S S'
theorem place15 (n : Int) (w : World) (hn : InI n) : Calls Tryz.prog 103 #[.int .i64 n] w fun e w' => e = .returned (.bool (placeB n)) ∧ w = w' := by
  have h1 := hn.1
  have h2 := hn.2
  clear hn
  unfold placeB
  by_cases h3 : 0 ≤ n
  · by_cases h4 : n < 4096
    · rw [decide_eq_true h3, decide_eq_true h4]
      go_enter Tryz.func103, Tryz.ntmps103
      go_wp2
      go_ret
      exact ⟨rfl, rfl⟩
    · rw [decide_eq_true h3, decide_eq_false h4]
      go_enter Tryz.func103, Tryz.ntmps103
      go_wp2
      go_ret
      exact ⟨rfl, rfl⟩
  · rw [decide_eq_false h3]
    have h5 : (decide (0 ≤ n)) = false := decide_eq_false h3
    go_enter Tryz.func103, Tryz.ntmps103
    go_wp2
    go_ret
    exact ⟨rfl, rfl⟩
set_option maxRecDepth 100000 in
set_option maxHeartbeats 4000000 in
theorem isReg15 {W : World} {sb : Nat} {p : Loc} {S : SpV} (h : LaidAt W sb p S) (r : Int) (hr : InI r) :
    Calls Tryz.prog 100 #[.pointer (some ⟨sb, 0, none⟩), .int .i64 r] W (Drew W (.bool (S.regB r))) := by
  obtain ⟨⟨c5, c9, c10, c11⟩, ⟨c12, c13, c14, c15⟩, c16, c17⟩ := h.cells
  obtain ⟨b, off, cap, CA, cl, cc, hV, hcp, hbb, k0, k1, k2, k3⟩ := funs_at15 (h.funs.funs (by have := (err_funs h.ok.mod).2.2.1; omega)) h.ok.fn
  have r1 := hr.1
  have r2 := hr.2
  have f0 : (0 : Int) ≤ (S.f : Int) := by omega
  have f1 : (S.f : Int) < (S.m.funcs.length : Int) := by have := h.ok.fn; omega
  rw [hV] at c5
  unfold SpV.regB fnV
  clear h hr hV
  generalize (S.m.funcs.getD S.f .zero).regs = q at *
  by_cases h3 : 0 ≤ r
  · have h5 : decide (0 ≤ r) = true := decide_eq_true h3
    by_cases h4 : r < q
    · have h6 : decide (r < q) = true := decide_eq_true h4
      rw [h5, h6]
      go_enter Tryz.func100, Tryz.ntmps100
      go_wp2
      go_quiet (fail)
      go_wp2
      go_ret
      exact ⟨rfl, _, rfl⟩
    · have h6 : decide (r < q) = false := decide_eq_false h4
      rw [h5, h6]
      go_enter Tryz.func100, Tryz.ntmps100
      go_wp2
      go_quiet (fail)
      go_wp2
      go_ret
      exact ⟨rfl, _, rfl⟩
  · have h5 : decide (0 ≤ r) = false := decide_eq_false h3
    rw [h5]
    go_enter Tryz.func100, Tryz.ntmps100
    go_wp2
    go_quiet (fail)
    go_wp2
    go_ret
    exact ⟨rfl, _, rfl⟩
set_option maxRecDepth 100000 in
set_option maxHeartbeats 4000000 in
theorem refuse15 {W : World} {sb : Nat} {p : Loc} {S : SpV} (h : SpAt W sb p S) :
    Calls Tryz.prog 82 #[.pointer (some ⟨sb, 0, none⟩)] W (SpDone W sb p S S (.int .i64 S.refE)) := by
  have HV := Lib.hid (valid15 h)
  have hnot := not15
  unfold SpV.refE
  clear h
  by_cases he : S.ek = 0
  · have h0 : (S.ek != 0) = false := by simpa using he
    rw [if_pos he]
    clear he
    go_enter Tryz.func82, Tryz.ntmps82
    go_wp2_with (go_at_call 68; (with_reducible refine HV.out.mono ?_); rintro e w' ⟨rfl, p', hv⟩; have HD := Lib.hid hv; obtain ⟨⟨c5, c9, c10, c11⟩, ⟨c12, c13, c14, c15⟩, c16, c17⟩ := hv.laid.cells; clear hv)
    go_ret
    exact ⟨rfl, _, HD.out⟩
  · have h0 : (S.ek != 0) = true := by simpa using he
    rw [if_neg he]
    clear he
    go_enter Tryz.func82, Tryz.ntmps82
    go_wp2_with (go_at_call 68; (with_reducible refine HV.out.mono ?_); rintro e w' ⟨rfl, p', hv⟩; have HD := Lib.hid hv; obtain ⟨⟨c5, c9, c10, c11⟩, ⟨c12, c13, c14, c15⟩, c16, c17⟩ := hv.laid.cells; clear hv)
    go_ret
    exact ⟨rfl, _, HD.out⟩
set_option maxRecDepth 100000 in
set_option maxHeartbeats 4000000 in
theorem tellF15 {W : World} {sb : Nat} {p : Loc} {S : SpV} (h : SpAt W sb p S) :
    Calls Tryz.prog 31 #[.pointer (some ⟨sb, 0, none⟩)] W (SpDone W sb p S S (.int .i64 S.f)) := by
  have HV := Lib.hid (valid15 h)
  have hnot := not15
  clear h
  go_enter Tryz.func31, Tryz.ntmps31
  go_wp2_with (first
    | (go_at_call 68; (with_reducible refine HV.out.mono ?_); rintro e w' ⟨rfl, p', hv⟩; have HD := Lib.hid hv; obtain ⟨⟨c5, c9, c10, c11⟩, ⟨c12, c13, c14, c15⟩, c16, c17⟩ := hv.laid.cells; obtain ⟨LA, lc, hle⟩ := owns_len14 hv.laid.links; rw [hle] at c15; clear hv hle)
    | (go_at_call 72; (with_reducible refine (fuel15 ⟨sb, 11, none⟩ S.fuel _ c11).mono ?_); rintro e w' ⟨rfl, rfl⟩))
  go_ret
  exact ⟨rfl, _, HD.out⟩
set_option maxRecDepth 100000 in
set_option maxHeartbeats 4000000 in
theorem tellP15 {W : World} {sb : Nat} {p : Loc} {S : SpV} (h : SpAt W sb p S) :
    Calls Tryz.prog 32 #[.pointer (some ⟨sb, 0, none⟩)] W (SpDone W sb p S S (.int .i64 S.pc)) := by
  have HV := Lib.hid (valid15 h)
  have hnot := not15
  clear h
  go_enter Tryz.func32, Tryz.ntmps32
  go_wp2_with (first
    | (go_at_call 68; (with_reducible refine HV.out.mono ?_); rintro e w' ⟨rfl, p', hv⟩; have HD := Lib.hid hv; obtain ⟨⟨c5, c9, c10, c11⟩, ⟨c12, c13, c14, c15⟩, c16, c17⟩ := hv.laid.cells; obtain ⟨LA, lc, hle⟩ := owns_len14 hv.laid.links; rw [hle] at c15; clear hv hle)
    | (go_at_call 72; (with_reducible refine (fuel15 ⟨sb, 11, none⟩ S.fuel _ c11).mono ?_); rintro e w' ⟨rfl, rfl⟩))
  go_ret
  exact ⟨rfl, _, HD.out⟩
set_option maxRecDepth 100000 in
set_option maxHeartbeats 4000000 in
theorem tellA15 {W : World} {sb : Nat} {p : Loc} {S : SpV} (h : SpAt W sb p S) :
    Calls Tryz.prog 35 #[.pointer (some ⟨sb, 0, none⟩)] W (SpDone W sb p S S (.int .u64 S.at_)) := by
  have HV := Lib.hid (valid15 h)
  have hnot := not15
  clear h
  go_enter Tryz.func35, Tryz.ntmps35
  go_wp2_with (first
    | (go_at_call 68; (with_reducible refine HV.out.mono ?_); rintro e w' ⟨rfl, p', hv⟩; have HD := Lib.hid hv; obtain ⟨⟨c5, c9, c10, c11⟩, ⟨c12, c13, c14, c15⟩, c16, c17⟩ := hv.laid.cells; obtain ⟨LA, lc, hle⟩ := owns_len14 hv.laid.links; rw [hle] at c15; clear hv hle)
    | (go_at_call 72; (with_reducible refine (fuel15 ⟨sb, 11, none⟩ S.fuel _ c11).mono ?_); rintro e w' ⟨rfl, rfl⟩))
  go_ret
  exact ⟨rfl, _, HD.out⟩
set_option maxRecDepth 100000 in
set_option maxHeartbeats 4000000 in
theorem tellU15 {W : World} {sb : Nat} {p : Loc} {S : SpV} (h : SpAt W sb p S) :
    Calls Tryz.prog 33 #[.pointer (some ⟨sb, 0, none⟩)] W (SpDone W sb p S S (.int .i64 S.fuel)) := by
  have HV := Lib.hid (valid15 h)
  have hnot := not15
  clear h
  go_enter Tryz.func33, Tryz.ntmps33
  go_wp2_with (first
    | (go_at_call 68; (with_reducible refine HV.out.mono ?_); rintro e w' ⟨rfl, p', hv⟩; have HD := Lib.hid hv; obtain ⟨⟨c5, c9, c10, c11⟩, ⟨c12, c13, c14, c15⟩, c16, c17⟩ := hv.laid.cells; obtain ⟨LA, lc, hle⟩ := owns_len14 hv.laid.links; rw [hle] at c15; clear hv hle)
    | (go_at_call 72; (with_reducible refine (fuel15 ⟨sb, 11, none⟩ S.fuel _ c11).mono ?_); rintro e w' ⟨rfl, rfl⟩))
  go_ret
  exact ⟨rfl, _, HD.out⟩
set_option maxRecDepth 100000 in
set_option maxHeartbeats 4000000 in
theorem tellD15 {W : World} {sb : Nat} {p : Loc} {S : SpV} (h : SpAt W sb p S) :
    Calls Tryz.prog 34 #[.pointer (some ⟨sb, 0, none⟩)] W (SpDone W sb p S S (.int .i64 S.links.length)) := by
  have HV := Lib.hid (valid15 h)
  have hnot := not15
  clear h
  go_enter Tryz.func34, Tryz.ntmps34
  go_wp2_with (first
    | (go_at_call 68; (with_reducible refine HV.out.mono ?_); rintro e w' ⟨rfl, p', hv⟩; have HD := Lib.hid hv; obtain ⟨⟨c5, c9, c10, c11⟩, ⟨c12, c13, c14, c15⟩, c16, c17⟩ := hv.laid.cells; obtain ⟨LA, lc, hle⟩ := owns_len14 hv.laid.links; rw [hle] at c15; clear hv hle)
    | (go_at_call 72; (with_reducible refine (fuel15 ⟨sb, 11, none⟩ S.fuel _ c11).mono ?_); rintro e w' ⟨rfl, rfl⟩))
  go_ret
  exact ⟨rfl, _, HD.out⟩
set_option maxRecDepth 100000 in
set_option maxHeartbeats 4000000 in
theorem tellM15 {W : World} {sb : Nat} {p : Loc} {S : SpV} (h : SpAt W sb p S) :
    Calls Tryz.prog 30 #[.pointer (some ⟨sb, 0, none⟩)] W fun e W' => ∃ p', e = .returned (.pointer (some ⟨p'.mb, 0, none⟩)) ∧ Vd15 W W' sb p p' S S := by
  have HV := Lib.hid (valid15 h)
  have hnot := not15
  clear h
  go_enter Tryz.func30, Tryz.ntmps30
  go_wp2_with (go_at_call 68; (with_reducible refine HV.out.mono ?_); rintro e w' ⟨rfl, p', hv⟩; have HD := Lib.hid hv; obtain ⟨⟨c5, c9, c10, c11⟩, ⟨c12, c13, c14, c15⟩, c16, c17⟩ := hv.laid.cells; clear hv)
  go_ret
  exact ⟨_, rfl, HD.out⟩
/-- A cell of a space's own is written. -/
theorem LaidAt.put {W : World} {sb : Nat} {p p' : Loc} {S S' : SpV} (h : LaidAt W sb p S) (o : Nat) (v : Value) (hb : (box15 sb p S).setIfInBounds o v = box15 sb p S') (hS : S' = { S with fuel := S'.fuel, f := S'.f, at_ := S'.at_, pc := S'.pc, ek := S'.ek, ec := S'.ec }) (ho : S'.ok) : Vd15 W (W.setCell ⟨sb, o, none⟩ v) sb p p S S' := by
  have hb1 := one_but15 W sb o v
  have hx := heap_setCell_same W sb o _ _ v h.box
  rw [hb] at hx
  have hn : ∀ k, foot15 sb p k → k ≠ sb → ¬ OneBlock sb k := fun k _ hk e => hk e
  have ht : ∀ (k : Nat) (c : Array Value) (t : TypeId), W.heap[k]? = some (.cells c t (0, 0)) → t ≠ 80 → ¬ OneBlock sb k := fun k c t hc hk e => by
    have e' : k = sb := e
    subst e'
    exact types14 hc h.box hk
  refine ⟨⟨hx, ?_, ?_, ?_, ?_, ?_, ?_, ?_, ho, h.sep⟩, hb1.mono (fun k e => .inl e), fun _ h => .inl h, fun _ h => .inl h⟩
  · rw [hS]
    refine h.mem.but hb1 (ht _ _ _ h.mem.head (by decide)) ?_
    obtain ⟨cur, hc, _⟩ := h.mem.row
    exact ht _ _ _ hc (by decide)
  · rw [hS]
    exact h.tape.but' hb1 (ht _ _ _ h.tape.box (by decide)) (fun g hg => by obtain ⟨c, hc⟩ := h.tape.left.blk hg; exact ht _ _ _ hc (by decide)) (fun g hg => by obtain ⟨_, c, hc⟩ := typed14 h.tape.done hg; exact ht _ _ _ hc (by decide))
  · rw [hS]
    exact h.links.but hb1 (fun g hg => by obtain ⟨_, c, hc⟩ := typed14 h.links hg; exact ht _ _ _ hc (by decide))
  · rw [hS]
    exact h.dat.but' hb1 (fun g hg => by obtain ⟨c, hc⟩ := h.dat.blk hg; exact ht _ _ _ hc (by decide))
  · rw [hS]
    exact h.inp.but' hb1 (fun g hg => by obtain ⟨c, hc⟩ := h.inp.blk hg; exact ht _ _ _ hc (by decide))
  · rw [hS]
    exact ownF_box15 h.funs hb1 h.box
  · rw [hS]
    exact h.pre
set_option maxRecDepth 100000 in
set_option maxHeartbeats 4000000 in
theorem go15 {W : World} {sb : Nat} {p : Loc} {S : SpV} (h : SpAt W sb p S) (n : Int) (hn : InI n) :
    Calls Tryz.prog 38 #[.pointer (some ⟨sb, 0, none⟩), .int .i64 n] W (SpDone W sb p S (S.goS n) (.int .i64 (S.goE n))) := by
  have HR := Lib.hid (refuse15 h)
  have HP := Lib.hid (fun w => place15 n w hn)
  have hnot := not15
  obtain ⟨ok, hok⟩ : ∃ T, T = S.goS n := ⟨_, rfl⟩
  have hoo : (S.goS n).ok := (h.elim (fun h => h.ok) (fun h => h.ok)).goS n
  unfold SpV.goS SpV.goE at *
  unfold SpV.refE at HR
  clear h
  by_cases he : S.ek = 0
  · simp only [if_pos he] at HR hoo hok ⊢
    by_cases hp : placeB n = true
    · simp only [if_pos hp, if_true] at hoo hok ⊢
      rw [hp] at HP
      have HO := Lib.hid hoo
      clear he hp hoo hok
      go_enter Tryz.func38, Tryz.ntmps38
      go_wp2_with (first
        | (go_at_call 82; (with_reducible refine HR.out.mono ?_); rintro e w' ⟨rfl, p', hv⟩; have HD := Lib.hid hv; obtain ⟨⟨c5, c9, c10, c11⟩, ⟨c12, c13, c14, c15⟩, c16, c17⟩ := hv.laid.cells; have g14 := hv.laid.free 14; clear hv)
        | (go_at_call 103; (with_reducible refine (HP.out _).mono ?_); rintro e w' ⟨rfl, rfl⟩))
      go_ret
      exact ⟨rfl, _, HD.out.trans (HD.out.laid.put (p' := p') 14 _ rfl rfl HO.out)⟩
    · simp only [if_neg hp] at hoo hok ⊢
      rw [Bool.not_eq_true] at hp
      rw [hp] at HP
      simp only [show ¬ ((5 : Int) = 0) by decide, if_false]
      clear he hp hoo hok
      go_enter Tryz.func38, Tryz.ntmps38
      go_wp2_with (first
        | (go_at_call 82; (with_reducible refine HR.out.mono ?_); rintro e w' ⟨rfl, p', hv⟩; have HD := Lib.hid hv; clear hv)
        | (go_at_call 103; (with_reducible refine (HP.out _).mono ?_); rintro e w' ⟨rfl, rfl⟩))
      go_ret
      exact ⟨rfl, _, HD.out⟩
  · simp only [if_neg he, show ¬ ((9 : Int) = 0) by decide, if_false] at HR hoo hok ⊢
    clear he hoo hok
    go_enter Tryz.func38, Tryz.ntmps38
    go_wp2_with (go_at_call 82; (with_reducible refine HR.out.mono ?_); rintro e w' ⟨rfl, p', hv⟩; have HD := Lib.hid hv; clear hv)
    go_ret
    exact ⟨rfl, _, HD.out⟩
end Go.Proofs.YtkfdgpgildanbaaGreat
