/- The landed space: Return. Contract; no condition but that it lies in memory. -/
import Derived.Test.YtkfdgpgildanbaaGreatSp15H
namespace Go.Proofs.YtkfdgpgildanbaaGreat
open Go.RowKit Go.Shelf
set_option linter.unusedVariables false
set_option linter.unusedSimpArgs false

theorem slice_link15 (g n cap : Nat) (h : n ≤ cap) : ∀ W, (Instr.slice 78 (.slice (some ⟨g, 0, none⟩) (n + 1) cap) none (some (.int .i64 n)) none).run Tryz.prog W = .ok (.slice (some ⟨g, 0, none⟩) n cap) W := by
  intro W
  simp [go_sem, Tryz.underlying78, h]
set_option maxRecDepth 100000 in
set_option maxHeartbeats 8000000 in
theorem ret15 {W : World} {sb : Nat} {p : Loc} {S : SpV} (h : SpAt W sb p S) (v : Int) (hv0 : 0 ≤ v) (hv1 : v < 18446744073709551616) :
    Calls Tryz.prog 41 #[.pointer (some ⟨sb, 0, none⟩), .int .u64 v] W (SpDone W sb p S (S.retS v) (.int .i64 S.refE)) := by
  have HR := Lib.hid (refuse15 h)
  have hoo : (S.retS v).ok := h.ok.retS v
  have hok := h.ok
  unfold SpV.retS SpV.refE at *
  clear h
  by_cases he : S.ek = 0
  · simp only [if_pos he] at HR hoo ⊢
    rcases List.eq_nil_or_concat S.links with hl | ⟨init, l, hl⟩
    · have e1 : S.links.getLast? = none := by rw [hl]; rfl
      rw [e1] at hoo ⊢
      simp only [] at hoo ⊢
      clear e1
      have HO := Lib.hid hoo
      have HL := Lib.hid hl
      have hu := u8_mod14 v
      clear he hoo hok hl
      go_enter Tryz.func41, Tryz.ntmps41
      go_wp2_with (go_at_call 82; (with_reducible refine HR.out.mono ?_); rintro e w' ⟨rfl, p', hv⟩; have HD := Lib.hid hv; obtain ⟨⟨c5, c9, c10, c11⟩, ⟨c12, c13, c14, c15⟩, c16, c17⟩ := hv.laid.cells; have g16 := hv.laid.free 16; have g17 := hv.laid.free 17; have hk := hv.laid.links; rw [HL.out] at hk; obtain ⟨LA, lc, hle⟩ := owns_len14 hk; rw [hle] at c15; clear hk hle; simp only [List.length_nil] at c15; clear hv)
      go_ret
      exact ⟨rfl, _, HD.out.trans (HD.out.laid.boxed (but_box15 (one_but15 _ sb 16 _) 17 _) (heap_setCell_same _ sb 17 _ _ _ (heap_setCell_same _ sb 16 _ _ _ HD.out.laid.box)) rfl HO.out)⟩
    · rw [List.concat_eq_append] at hl
      obtain ⟨q1, q2, q3, q4⟩ := hok.link l (by rw [hl]; simp)
      have hq1 := flo_bd hok.mod
      have hq5 := q1.lo
      have hq6 := q1.hi
      have hq7 := (fs_bd (fnV S.m l.f).regs (fnV S.m l.f).area).1
      have hq8 := hok.hi
      have hlen := hok.deep
      have hmemE : numE S.mem.length (slotV l.at_ l.res) 8 = 0 := by
        obtain ⟨s1, s2, s3⟩ := slot_in hok.mod hok.hi q1 q3 q4
        rw [s1, hok.len]; exact numE_in s2 s3
      have hrg := err_fn hok.mod q1.fn
      have at0 : 0 ≤ l.at_ := by omega
      have at1 : l.at_ ≤ 65536 := by omega
      have HSL := Lib.hid (fun w => slot_any l.at_ l.res w (by omega) (by omega) (by omega) (by omega))
      have hsb : 0 ≤ slotV l.at_ l.res ∧ slotV l.at_ l.res < 18446744073709551616 := by unfold slotV; omega
      have hdl : S.links.dropLast = init := by rw [hl]; simp
      have e1 : S.links.getLast? = some l := by rw [hl]; simp
      rw [e1] at hoo ⊢
      simp only [SpV.backS, hdl] at hoo ⊢
      have ho2 : ({ S with links := init, f := l.f, at_ := l.at_, pc := l.back } : SpV).ok := by
        have := hoo.mem' (l := S.mem) (by rw [storeL_len])
        exact this
      have HST := Lib.hid (fun W' p' (h : MemAt W' p'.mb p'.bb p'.c S.mem) => store_any (mb := Loc.mb p') (bb := Loc.bb p') (c := Loc.c p') h (slotV l.at_ l.res) 8 v hsb.1 hsb.2 (by decide) hv0 hv1)
      rw [hmemE] at HST
      have HO := Lib.hid hoo
      have HO2 := Lib.hid ho2
      have HL := Lib.hid hl
      have hn : init.length + 1 ≤ 256 := by rw [hl] at hlen; simpa using hlen
      have HNN := Lib.hid hn
      have ha1 : IntKind.u64.wrap l.at_ = l.at_ := IntWalk.u64_in _ (by omega)
      obtain ⟨lf, lat, lback, lres⟩ := l
      simp only at *
      generalize slotV lat lres = a at *
      have n0 : (0 : Int) ≤ (init.length : Int) := by omega
      have hsub : wrap64 (init.length : Int) = (init.length : Int) := by unfold wrap64; omega
      clear he hoo ho2 hok hl q1 q2 q3 q4 hq1 hq5 hq6 hq7 hq8 hlen hmemE hrg hsb hdl e1 hv0 hv1 hn
      obtain ⟨m, hm⟩ : ∃ m, m = init.length := ⟨_, rfl⟩
      have HM := Lib.hid hm
      rw [← hm] at hsub n0
      clear hm
      go_enter Tryz.func41, Tryz.ntmps41
      go_upto_region 8 with (go_at_call 82; (with_reducible refine HR.out.mono ?_); rintro e w' ⟨rfl, p', hv⟩; have HD := Lib.hid hv; obtain ⟨⟨c5, c9, c10, c11⟩, ⟨c12, c13, c14, c15⟩, c16, c17⟩ := hv.laid.cells; have g16 := hv.laid.free 16; have g17 := hv.laid.free 17; have hk := hv.laid.links; rw [HL.out] at hk; obtain ⟨g, cap, hle, hcap, l0, l1, l2, l3, hty, hown⟩ := links_last15 hk; rw [← HM.out] at hle hcap l0 l1 l2 l3 hown; rw [hle] at c15; have HLE := Lib.hid hle; have OW := Lib.hid hown; have TY := Lib.hid hty; clear hk hle hown hty; have g12 := hv.laid.free 12; have g13 := hv.laid.free 13; have g14 := hv.laid.free 14; have g15 := hv.laid.free 15; clear hv)
      have n1 : (m : Int) < ((m + 1 : Nat) : Int) := by omega
      have hsl := slice_link15 g m cap (by omega)
      have hws := Lib.hid hsub
      obtain ⟨W2, hW2⟩ : ∃ W2, W2 = w'.alloc (.cells #[.int .i64 lf, .int .i64 lat, .int .i64 lback, .int .i64 lres] 136) := ⟨_, rfl⟩
      have HW2 := Lib.hid hW2
      have HD2 := Lib.hid (HD.out.read (show Below w'.heap.size w' W2 by rw [hW2]; exact below_one14 _ _))
      have X2 := Lib.hid (show W2.heap[w'.heap.size]? = some (.cells #[.int .i64 lf, .int .i64 lat, .int .i64 lback, .int .i64 lres] 136 (0, 0)) by rw [hW2]; exact heap_alloc_new _ _)
      clear hW2
      go_upto_region 9 with fail
      rw [← HW2.out]
      clear c5 c9 c10 c11 c12 c13 c14 c15 c16 c17 l0 l1 l2 l3 g12 g13 g14 g15 g16 g17
      obtain ⟨k0, k1, k2, k3⟩ := cells4 X2.out
      obtain ⟨⟨c5, c9, c10, c11⟩, ⟨c12, c13, c14, c15⟩, c16, c17⟩ := HD2.out.laid.cells
      rw [HLE.out] at c15
      have g12 := HD2.out.laid.free 12
      have g13 := HD2.out.laid.free 13
      have g14 := HD2.out.laid.free 14
      have g15 := HD2.out.laid.free 15
      have HOB : Hid (p'.LV.ownBlock = some g) := Lib.hid (by rw [HLE.out]; rfl)
      have OW2 := Lib.hid (OW.out.below (B := w'.heap.size) (show Below w'.heap.size w' W2 by rw [HW2.out]; exact below_one14 _ _) (Nat.le_refl _))
      have hx5 := heap_setCell_same _ sb 14 _ _ (.int .i64 lback) (heap_setCell_same _ sb 13 _ _ (.int .u64 lat) (heap_setCell_same _ sb 12 _ _ (.int .i64 lf) (heap_setCell_same W2 sb 15 _ _ (.slice (some ⟨g, 0, none⟩) m cap) HD2.out.laid.box)))
      have hb5 := but_box15 (but_box15 (but_box15 (but_box15 (But.refl (OneBlock sb) W2) 15 (.slice (some ⟨g, 0, none⟩) m cap)) 12 (.int .i64 lf)) 13 (.int .u64 lat)) 14 (.int .i64 lback)
      obtain ⟨W5, hW5⟩ : ∃ W5, W5 = ((((W2.setCell ⟨sb, 15, none⟩ (.slice (some ⟨g, 0, none⟩) m cap)).setCell ⟨sb, 12, none⟩ (.int .i64 lf)).setCell ⟨sb, 13, none⟩ (.int .u64 lat)).setCell ⟨sb, 14, none⟩ (.int .i64 lback)) := ⟨_, rfl⟩
      have HW5 := Lib.hid hW5
      rw [← hW5] at hx5 hb5
      have hown5 : Owns W5 0 136 4 AnyCell (.slice (some ⟨g, 0, none⟩) m cap) init.length (cellsL .i64 init) := by
        have h1 := OW2.out.but hb5 (fun k hk e => by
          have e' : k = sb := e
          subst e'
          obtain ⟨_, c, hc⟩ := typed14 OW2.out hk
          exact types14 hc HD2.out.laid.box (by decide))
        rw [HM.out] at h1 ⊢
        exact h1
      have HD5 := Lib.hid (HD2.out.trans (HD2.out.laid.linked (LV' := .slice (some ⟨g, 0, none⟩) m cap) (S' := { S with links := init, f := lf, at_ := lat, pc := lback }) (hb5.mono (fun k hk => .inl hk)) hx5 hown5 (.inl (by rw [HOB.out]; rfl)) rfl HO2.out))
      have X5 := Lib.hid (hb5.heap X2.out (fun e => by have e' : w'.heap.size = sb := e; have := heap_lt HD.out.laid.box; omega))
      clear hW5 hx5 hb5 hown5
      go_upto_region 11 with fail
      rw [← HW5.out]
      clear c5 c9 c10 c11 c12 c13 c14 c15 c16 c17 g12 g13 g14 g15 k0 k1 k2 k3
      obtain ⟨k0, k1, k2, k3⟩ := cells4 X5.out
      obtain ⟨⟨c5, c9, c10, c11⟩, ⟨c12, c13, c14, c15⟩, c16, c17⟩ := HD5.out.laid.cells
      have HD6 := Lib.hid (HD5.out.read (Below.refl _ _).drew)
      have K3 : Hid (W5.drew.cell? ⟨sb, 9, none⟩ = some (.pointer (some ⟨p'.mb, 0, none⟩)) ∧ W5.drew.cell? ⟨sb, 13, none⟩ = some (.int .u64 lat) ∧ W5.drew.cell? ⟨w'.heap.size, 3, none⟩ = some (.int .i64 lres)) := Lib.hid ⟨c9, c13, k3⟩
      have HSS := Lib.hid (HST.out W5.drew _ HD6.out.laid.mem)
      go_region_held3 (fun W => W.cell? ⟨sb, 9, none⟩ = some (.pointer (some ⟨p'.mb, 0, none⟩)) ∧ W.cell? ⟨sb, 13, none⟩ = some (.int .u64 lat) ∧ W.cell? ⟨w'.heap.size, 3, none⟩ = some (.int .i64 lres))
        (first | with_reducible exact K4.out | with_reducible exact K3.out | go_keep)
        (first
          | (go_at_call 101; (with_reducible refine (HSL.out _).mono ?_); rintro e w'' ⟨rfl, rfl⟩)
          | (go_at_call 48; (with_reducible refine HSS.out.mono ?_); rintro e w7 ⟨rfl, hm, hb⟩; have HD7 := Lib.hid (HD6.out.trans (HD6.out.laid.stored hm hb storeL_len)); have K4 : Hid (w7.cell? ⟨sb, 9, none⟩ = some (.pointer (some ⟨p'.mb, 0, none⟩)) ∧ w7.cell? ⟨sb, 13, none⟩ = some (.int .u64 lat) ∧ w7.cell? ⟨w'.heap.size, 3, none⟩ = some (.int .i64 lres)) := Lib.hid ⟨HD7.out.laid.cells.1.2.1, HD7.out.laid.cells.2.1.2.1, (hb.cell (p := ⟨w'.heap.size, 3, none⟩) (heap_lt X5.out) (fun e => by have e' : w'.heap.size = p'.bb := e; have h1 := (HD.out.laid.mem.lt).2; omega)).trans K3.out.2.2⟩; clear hm hb))
      go_wp2
      go_ret
      exact ⟨rfl, _, HD7.out⟩
  · simp only [if_neg he] at HR hoo ⊢
    clear he hoo hok
    go_enter Tryz.func41, Tryz.ntmps41
    go_wp2_with (go_at_call 82; (with_reducible refine HR.out.mono ?_); rintro e w' ⟨rfl, p', hv⟩; have HD := Lib.hid hv; obtain ⟨⟨c5, c9, c10, c11⟩, ⟨c12, c13, c14, c15⟩, c16, c17⟩ := hv.laid.cells; have g16 := hv.laid.free 16; have g17 := hv.laid.free 17; clear hv)
    go_ret
    exact ⟨rfl, _, HD.out⟩
end Go.Proofs.YtkfdgpgildanbaaGreat
