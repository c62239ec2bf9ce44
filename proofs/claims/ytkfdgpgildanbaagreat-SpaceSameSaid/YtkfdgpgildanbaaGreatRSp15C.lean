import Derived.Test.YtkfdgpgildanbaaGreatRSp15B
namespace Go.Proofs.YtkfdgpgildanbaaGreat
open Go.RowKit Go.Shelf
set_option linter.unusedVariables false
set_option linter.unusedSimpArgs false
section
variable {B : Nat} {W W' : World} {rb : Nat} {p : Loc} {S S' : SpV}
theorem RsAt.linked {LV' : Value} (h : RsAt B W rb p S) (hB : B ≤ W.heap.size) (hl : ∀ k, foot15 rb p k → B ≤ k) (hb : But (fun k => k = rb ∨ p.LV.ownBlock = some k) W W') (hx : W'.heap[rb]? = some (.cells (rbox15 { p with LV := LV' } S') 130 (0, 0)))
    (hk : Owns W' 0 149 4 AnyCell LV' S'.links.length (cellsL .u64 S'.links)) (hw : LV'.ownBlock = p.LV.ownBlock ∨ ∃ g, LV'.ownBlock = some g ∧ W.heap.size ≤ g)
    (hS : S' = { S with fuel := S'.fuel, f := S'.f, at_ := S'.at_, pc := S'.pc, links := S'.links, ek := S'.ek, ec := S'.ec }) (ho : S'.ok) : Mv B (.rs rb S) (.rs rb S') p { p with LV := LV' } W W' := by
  have ht : ∀ (k : Nat) (c : Array Value) (t : TypeId), W.heap[k]? = some (.cells c t (0, 0)) → t ≠ 130 → t ≠ 149 → ¬ (k = rb ∨ p.LV.ownBlock = some k) := fun k c t hk h1 h2 e => by
    rcases e with rfl | e
    · exact types14 hk h.box h1
    · obtain ⟨_, c', hc'⟩ := typed14 h.links e
      exact types14 hk hc' h2
  have hf : ∀ k, foot15 rb { p with LV := LV' } k → foot15 rb p k ∨ W.heap.size ≤ k := by
    rintro k (e | e | e | e | e | e)
    · exact .inl (.inl e)
    · exact .inl (.inr (.inl e))
    · exact .inl (.inr (.inr (.inl e)))
    · exact .inl (.inr (.inr (.inr (.inl e))))
    · exact .inl (.inr (.inr (.inr (.inr (.inl e)))))
    · rcases hw with h1 | ⟨g, h1, h2⟩
      · exact .inl (.inr (.inr (.inr (.inr (.inr (h1 ▸ e))))))
      · have e' : LV'.ownBlock = some k := e
        rw [h1] at e'
        injection e' with e'
        exact .inr (by omega)
  have hlow : ∀ k, k < B → ¬ (k = rb ∨ p.LV.ownBlock = some k) := fun k hk e => by
    have := hl k (e.elim .inl (fun e => .inr (.inr (.inr (.inr (.inr e))))))
    omega
  have e1 : S'.m = S.m ∧ S'.mem = S.mem ∧ S'.inp = S.inp ∧ S'.left = S.left ∧ S'.done = S.done := by rw [hS]; exact ⟨rfl, rfl, rfl, rfl, rfl⟩
  obtain ⟨e1, e2, e3, e4, e5⟩ := e1
  obtain ⟨cur, hc, _⟩ := h.mem.row
  refine ⟨⟨hx, ?_, ?_, ?_, hk, ?_, ?_, ho, ?_⟩, hb.mono (fun k e => e.elim .inl (fun e => .inr (.inr (.inr (.inr (.inr e)))))), hf, fun k hk => .inl hk⟩
  · rw [e2]; exact h.mem.but hb (ht _ _ _ h.mem.head (by decide) (by decide)) (ht _ _ _ hc (by decide) (by decide))
  · rw [e3, e5]
    refine h.tape.but hb (ht _ _ _ h.tape.box (by decide) (by decide)) (fun g hg => ?_) (fun g hg => ?_)
    · obtain ⟨c, hc⟩ := h.tape.own.blk hg
      exact ht _ _ _ hc (by decide) (by decide)
    · obtain ⟨_, c, hc⟩ := typed14 h.tape.done hg
      exact ht _ _ _ hc (by decide) (by decide)
  · rw [e3, e4]; exact h.left
  · rw [e1]; exact h.dat.but hb hB hlow
  · rw [e1]; exact h.funs.but hb hB hlow
  · intro k hk hr
    rcases hf k hk with e | e
    · exact h.sep k e hr
    · have := h.ro_lt hr
      omega
theorem cells4r {w : World} {b' : Nat} {v0 v1 v2 v3 : Value} {T : TypeId} (h : w.heap[b']? = some (.cells #[v0, v1, v2, v3] T (0, 0))) : w.cell? ⟨b', 0, none⟩ = some v0 ∧ w.cell? ⟨b', 1, none⟩ = some v1 ∧ w.cell? ⟨b', 2, none⟩ = some v2 ∧ w.cell? ⟨b', 3, none⟩ = some v3 := by
  simp [World.cell?, h]
theorem slice_rlink15 (g n cap : Nat) (h : n ≤ cap) : ∀ W, (Instr.slice 128 (.slice (some ⟨g, 0, none⟩) (n + 1) cap) none (some (.int .i64 n)) none).run Tryz.prog W = .ok (.slice (some ⟨g, 0, none⟩) n cap) W := by
  intro W
  simp [go_sem, Tryz.underlying128, h]
set_option maxRecDepth 100000 in
set_option maxHeartbeats 8000000 in
theorem rRet15 (h : RsAt B W rb p S) (hB : B ≤ W.heap.size) (hl : ∀ k, foot15 rb p k → B ≤ k) (v : Int) (hv0 : 0 ≤ v) (hv1 : v < 18446744073709551616) :
    Calls Tryz.prog 89 #[.pointer (some ⟨rb, 0, none⟩), .int .u64 v] W (RsDone B W rb p S (S.retS v) (.int .i64 S.refE)) := by
  have hoo : (S.retS v).ok := h.ok.retS v
  have hok := h.ok
  have hlk := h.links
  have g9 := h.free 9
  have g10 := h.free 10
  have g5 := h.free 5
  have g6 := h.free 6
  have g7 := h.free 7
  have g8 := h.free 8
  have H := Lib.hid h
  have HBB := Lib.hid hB
  have HLL := Lib.hid hl
  obtain ⟨⟨c0, c1, c2, c3, c4, c5⟩, c6, c7, c8, c9, c10⟩ := h.cells
  unfold SpV.retS SpV.refE at *
  clear h hB hl c0 c1 c2 c3 c4
  by_cases he : S.ek = 0
  · simp only [if_pos he] at hoo ⊢
    have heb : (S.ek != 0) = false := by simpa using he
    rcases List.eq_nil_or_concat S.links with hk | ⟨init, l, hk⟩
    · have e1 : S.links.getLast? = none := by rw [hk]; rfl
      rw [e1] at hoo ⊢
      simp only [] at hoo ⊢
      rw [hk] at hlk
      obtain ⟨LA, lc, hle⟩ := owns_len14 hlk
      rw [hle] at c8
      simp only [List.length_nil] at c8
      have HO := Lib.hid hoo
      have hmod : v.tmod 256 = v % 256 := Int.tmod_eq_emod_of_nonneg hv0
      have hq0 : 0 ≤ v % 256 ∧ v % 256 < 256 := by omega
      have HV := Lib.hid (And.intro hv0 hv1)
      obtain ⟨q, hq⟩ : ∃ q, q = v % 256 := ⟨_, rfl⟩
      rw [← hq] at hmod hq0 HO ⊢
      clear he hoo hok hk e1 hlk hle hq hv0 hv1
      go_enter Tryz.func89, Tryz.ntmps89
      go_wp2
      go_ret
      exact ⟨rfl, _, H.out.mvBox HBB.out HLL.out (but_box15 (one_but15 _ rb 9 _) 10 _) (heap_setCell_same _ rb 10 _ _ _ (heap_setCell_same _ rb 9 _ _ _ H.out.box)) ⟨rfl, rfl, rfl, rfl, rfl, rfl⟩ HO.out⟩
    · rw [List.concat_eq_append] at hk
      obtain ⟨q1, q2, q3, q4⟩ := hok.link l (by rw [hk]; simp)
      have hlen := hok.deep
      have hrg := err_fn hok.mod q1.fn
      have hdl : S.links.dropLast = init := by rw [hk]; simp
      have e1 : S.links.getLast? = some l := by rw [hk]; simp
      rw [e1] at hoo ⊢
      simp only [SpV.backS, hdl] at hoo ⊢
      have ho2 : ({ S with links := init, f := l.f, at_ := l.at_, pc := l.back } : SpV).ok := by
        have := hoo.mem' (l := S.mem) (by rw [storeL_len])
        exact this
      rw [hk] at hlk
      obtain ⟨g, cap, hle, hcap, l0, l1, l2, l3, hty, hown⟩ := links_last15 hlk
      rw [hle] at c8
      have HLE := Lib.hid hle
      have OW := Lib.hid hown
      have hn : init.length + 1 ≤ 256 := by rw [hk] at hlen; simpa using hlen
      have hres : InI l.res := by unfold InI; omega
      have hge : ({ S with links := init, f := l.f, at_ := l.at_, pc := l.back } : SpV).getE l.res = 0 := by
        unfold SpV.getE
        simp only
        rw [if_pos he]
        have : (SpV.regB { S with links := init, f := l.f, at_ := l.at_, pc := l.back } l.res) = true := by
          unfold SpV.regB
          simp only [Bool.and_eq_true, decide_eq_true_eq]
          exact ⟨q3, q4⟩
        rw [this, if_pos rfl]
      have hse : ({ S with links := init, f := l.f, at_ := l.at_, pc := l.back } : SpV).setS l.res v = { S with links := init, f := l.f, at_ := l.at_, pc := l.back, mem := storeL S.mem (slotV l.at_ l.res) 8 v } := by
        unfold SpV.setS
        rw [if_pos hge]
      have HSET := Lib.hid (fun (W2 : World) (p2 : Loc) (h2 : RsAt B W2 rb p2 { S with links := init, f := l.f, at_ := l.at_, pc := l.back }) (hB2 : B ≤ W2.heap.size) (hl2 : ∀ k, foot15 rb p2 k → B ≤ k) => rSet15 h2 hB2 hl2 l.res v hres hv0 hv1)
      rw [hse, hge] at HSET
      have HO2 := Lib.hid ho2
      have HOB : Hid (p.LV.ownBlock = some g) := Lib.hid (by rw [hle]; rfl)
      obtain ⟨lf, lat, lback, lres⟩ := l
      simp only at *
      have n0 : (0 : Int) ≤ (init.length : Int) := by omega
      have hsub : wrap64 (init.length : Int) = (init.length : Int) := by unfold wrap64; omega
      clear he hoo ho2 hok hk q1 q2 q3 q4 hlen hrg hdl e1 hv0 hv1 hlk hle hown hty hge hse hres g9 g10
      obtain ⟨m, hm⟩ : ∃ m, m = init.length := ⟨_, rfl⟩
      have HM := Lib.hid hm
      rw [← hm] at hsub n0 hn c8 l0 l1 l2 l3 hcap OW
      clear hm
      have n1 : (m : Int) < ((m + 1 : Nat) : Int) := by omega
      have hsl := slice_rlink15 g m cap (by omega)
      go_enter Tryz.func89, Tryz.ntmps89
      go_upto_region 8 with fail
      obtain ⟨W2, hW2⟩ : ∃ W2, W2 = W.alloc (.cells #[.int .i64 lf, .int .u64 lat, .int .i64 lback, .int .i64 lres] 149) := ⟨_, rfl⟩
      have HA2 := Lib.hid (show Below W.heap.size W W2 by rw [hW2]; exact below_one14 _ _)
      have H2 := Lib.hid (H.out.grow HBB.out HA2.out)
      have X2 := Lib.hid (show W2.heap[W.heap.size]? = some (.cells #[.int .i64 lf, .int .u64 lat, .int .i64 lback, .int .i64 lres] 149 (0, 0)) by rw [hW2]; exact heap_alloc_new _ _)
      rw [← hW2]
      clear hW2 c5 c6 c7 c8 c9 c10 l0 l1 l2 l3 g5 g6 g7 g8
      obtain ⟨k0, k1, k2, k3⟩ := cells4r X2.out
      obtain ⟨⟨d0, d1, d2, d3, d4, d5⟩, d6, d7, d8, d9, d10⟩ := H2.out.cells
      rw [HLE.out] at d8
      have g5 := H2.out.free 5
      have g6 := H2.out.free 6
      have g7 := H2.out.free 7
      have g8 := H2.out.free 8
      have OW2 := Lib.hid (OW.out.below (B := W.heap.size) HA2.out (Nat.le_refl _))
      have HSB2 := Lib.hid (Nat.le_trans HBB.out HA2.out.size)
      have hx5 := heap_setCell_same _ rb 7 _ _ (.int .i64 lback) (heap_setCell_same _ rb 6 _ _ (.int .u64 lat) (heap_setCell_same _ rb 5 _ _ (.int .i64 lf) (heap_setCell_same W2 rb 8 _ _ (.slice (some ⟨g, 0, none⟩) m cap) H2.out.box)))
      have hb5 := but_box15 (but_box15 (but_box15 (but_box15 (But.refl (OneBlock rb) W2) 8 (.slice (some ⟨g, 0, none⟩) m cap)) 5 (.int .i64 lf)) 6 (.int .u64 lat)) 7 (.int .i64 lback)
      obtain ⟨W5, hW5⟩ : ∃ W5, W5 = ((((W2.setCell ⟨rb, 8, none⟩ (.slice (some ⟨g, 0, none⟩) m cap)).setCell ⟨rb, 5, none⟩ (.int .i64 lf)).setCell ⟨rb, 6, none⟩ (.int .u64 lat)).setCell ⟨rb, 7, none⟩ (.int .i64 lback)) := ⟨_, rfl⟩
      rw [← hW5] at hx5 hb5
      have HM5 := Lib.hid (H2.out.linked (S' := { S with links := init, f := lf, at_ := lat, pc := lback }) (LV' := .slice (some ⟨g, 0, none⟩) m cap) HSB2.out HLL.out (hb5.mono (fun k e => .inl e)) hx5 (by
        have hz := OW2.out.but hb5 (fun g' hg e => by
          have e' : g' = rb := e
          obtain ⟨_, c, hc⟩ := typed14 OW2.out hg
          exact H2.out.ne_of hc (by decide) e')
        rw [HM.out] at hz ⊢
        exact hz) (.inl (by rw [HOB.out]; rfl)) rfl HO2.out)
      have HW5 := Lib.hid hW5
      have HSE := Lib.hid (HSET.out W5 _ HM5.out.at' (Nat.le_trans HSB2.out hb5.size) (fun k hk => (HM5.out.foot k hk).elim (HLL.out k) (fun e => Nat.le_trans HSB2.out e)))
      clear hx5 hb5 hW5 HSET
      go_wp2_with (go_at_call 65; rw [← HW5.out]; (with_reducible refine HSE.out.mono ?_); rintro e w6 ⟨rfl, p6, hm⟩; have HM6 := Lib.hid hm; clear hm)
      go_ret
      exact ⟨rfl, _, Mv.ahead HA2.out (HM5.out.trans HM6.out)⟩
  · simp only [if_neg he]
    have heb : (S.ek != 0) = true := by simpa using he
    clear he hoo hok hlk hv0 hv1
    go_enter Tryz.func89, Tryz.ntmps89
    go_wp2
    go_ret
    exact ⟨rfl, _, Mv.rsRead H.out HBB.out (Below.refl _ _)⟩
end
end Go.Proofs.YtkfdgpgildanbaaGreat
