/- The landed space: a register's contents are passed; a link more. Contracts; no condition but that it lies in memory. -/
import Derived.Test.YtkfdgpgildanbaaGreatSp15J
import Derived.Deep.RegionLaw
namespace Go.Proofs.YtkfdgpgildanbaaGreat
open Go.RowKit Go.Shelf
set_option linter.unusedVariables false
set_option linter.unusedSimpArgs false

theorem loadV_bd15 {xs : List Int} (h : ∀ x ∈ xs, 0 ≤ x ∧ x < 256) (a : Int) : 0 ≤ loadV xs a 8 ∧ loadV xs a 8 < 18446744073709551616 := by
  unfold loadV
  split
  · have h1 := numV_bd (partL_bd h a 8)
    have h5 := numE_zero (by assumption)
    have h2 : (partL xs a 8).length = 8 := by unfold partL; simp; omega
    rw [h2] at h1
    have h4 : (256 : Int) ^ 8 = 18446744073709551616 := by decide
    omega
  · omega
set_option maxRecDepth 100000 in
set_option maxHeartbeats 4000000 in
theorem pass15 {W : World} {sb : Nat} {p : Loc} {S : SpV} (h : LaidAt W sb p S) (a b : Int) (ha : 0 ≤ a ∧ a < 18446744073709551616) (hb : 0 ≤ b ∧ b < 18446744073709551616) (e1 : numE S.mem.length a 8 = 0) (e2 : numE S.mem.length b 8 = 0) :
    Calls Tryz.prog 107 #[.pointer (some ⟨sb, 0, none⟩), .int .u64 a, .int .u64 b] W fun e W' => e = .returned (.int .i64 0) ∧ Vd15 W W' sb p p S { S with mem := storeL S.mem b 8 (loadV S.mem a 8) } := by
  have hv := loadV_bd15 h.mem.bd a
  have HL := Lib.hid (load_any h.mem a 8 ha.1 ha.2 (by decide))
  have HS := Lib.hid (store_any h.mem b 8 (loadV S.mem a 8) hb.1 hb.2 (by decide) hv.1 hv.2)
  rw [e1] at HL
  rw [e2] at HS
  have HD := Lib.hid h
  obtain ⟨⟨c5, c9, c10, c11⟩, ⟨c12, c13, c14, c15⟩, c16, c17⟩ := h.cells
  clear h ha hb e1 e2 hv
  generalize loadV S.mem a 8 = v at *
  go_enter Tryz.func107, Tryz.ntmps107
  go_wp2_with (first
    | (go_at_call 52; (with_reducible refine HL.out.mono ?_); rintro e w' ⟨rfl, rfl⟩)
    | (go_at_call 48; (with_reducible refine HS.out.mono ?_); rintro e w4 ⟨rfl, hm, hb⟩; have HD4 := Lib.hid (HD.out.stored hm hb storeL_len); clear hm hb))
  go_ret
  exact ⟨rfl, HD4.out⟩
theorem link_info15 : (Tryz.prog.info? 136).map (fun i => (i.zero, i.size, i.bytes)) = some (some (.agg #[.int .i64 0, .int .i64 0, .int .i64 0, .int .i64 0]), 4, 32) := by kernel_rfl
theorem one_link15 (K : IntKind) (T : TypeId) (w : World) (l : LinkV) : ∀ j u, (cellsL K [l])[j]? = some u → (w.alloc (.cells #[.int .i64 l.f, .int K l.at_, .int .i64 l.back, .int .i64 l.res] T)).cell? ((⟨w.heap.size, 0, none⟩ : Addr).add j) = some u := by
  intro j u hj
  have e : (⟨w.heap.size, 0, none⟩ : Addr).add j = ⟨w.heap.size, j, none⟩ := by unfold Addr.add; split <;> simp_all
  rw [e, cell_of_row _ _ _ _ _ _ (heap_alloc_new w _)]
  simp only [cellsL, List.flatMap_cons, List.flatMap_nil, List.append_nil, linkC] at hj
  rw [← hj, ← Array.getElem?_toList]
theorem cellsL_one {K : IntKind} : ∀ (l : List LinkV), ∀ u ∈ cellsL K l, u.oneCell' = true
  | [], u, h => by cases h
  | a :: l, u, h => by
    simp only [cellsL, List.flatMap_cons, List.mem_append] at h
    rcases h with h | h
    · simp [linkC] at h
      rcases h with rfl | rfl | rfl | rfl <;> rfl
    · exact cellsL_one l u h
/-- What a link more leaves. -/
structure MoreL (K : IntKind) (T : TypeId) (W W' : World) (V V' : Value) (L : List LinkV) (l : LinkV) : Prop where
  own : Owns W' 0 T 4 AnyCell V' (L.length + 1) (cellsL K (L ++ [l]))
  blk : ∀ i, i < W.heap.size → some i ≠ V.ownBlock → W'.heap[i]? = W.heap[i]?
  bel : Below 0 W W'
  size : W.heap.size ≤ W'.heap.size
  whr : V'.ownBlock = V.ownBlock ∨ ∃ g, V'.ownBlock = some g ∧ W.heap.size ≤ g
theorem run_link15 {K : IntKind} {T ts ty : TypeId} {z : Value} (hts : Tryz.prog.underlying ts = some (.slice T)) (hinf : (Tryz.prog.info? T).map (fun i => (i.zero, i.size, i.bytes)) = some (some z, 4, 32)) (hz4 : z.cells.size = 4) {W : World} {V : Value} {L : List LinkV} {l : LinkV}
    (h : Owns W 0 T 4 AnyCell V L.length (cellsL K L)) (hl : L.length ≤ 1000000) :
    ∃ V' W', (Builtin.append_ #[ts, ts] ty #[V, .slice (some ⟨W.heap.size, 0, none⟩) 1 1]).run Tryz.prog (W.alloc (.cells #[.int .i64 l.f, .int K l.at_, .int .i64 l.back, .int .i64 l.res] T)) = .ok V' W' ∧ MoreL K T W W' V V' L l := by
  obtain ⟨i, hi, h1, h2, h3⟩ := info_parts hinf
  have ha : Below W.heap.size W (W.alloc (.cells #[.int .i64 l.f, .int K l.at_, .int .i64 l.back, .int .i64 l.res] T)) := (Below.refl W.heap.size W).alloc (Nat.le_refl _) _
  have hg := Owns.below h ha (Nat.le_refl _)
  obtain ⟨V', W', hr, ho', hg'⟩ := run_append_q (P := Tryz.prog) _ 0 ts ty T i _ 4 32 hts hi h1 h2 h3 hz4 (by decide) AnyCell (fun _ _ => trivial) V L.length (cellsL K L) hg ⟨W.heap.size, 0, none⟩ 1 1 (cellsL K [l]) rfl (one_link15 K T W l) (cellsL_one _) (fun _ _ => trivial) (by unfold maxLen; omega) (by omega) (by simp)
  obtain ⟨V2, W2, hr2, _, _, hw2⟩ := run_where14 (P := Tryz.prog) _ 0 ts ty T i _ 4 32 hts hi h1 h2 h3 hz4 (by decide) V L.length (cellsL K L) hg.1 ⟨W.heap.size, 0, none⟩ 1 1 (by decide) (cellsL K [l]) rfl (one_link15 K T W l) (cellsL_one _) (by unfold maxLen; omega) (by omega) (by simp)
  rw [hr] at hr2
  injection hr2 with e1 e2
  subst e1 e2
  have e : World.grownBy (W.alloc (.cells #[.int .i64 l.f, .int K l.at_, .int .i64 l.back, .int .i64 l.res] T)) W' V.ownBlock := hg'
  refine ⟨V', W', hr, ⟨by rw [cellsL_app]; exact ho', fun i hi hn => (e.block i (by simp; omega) hn).trans (ha.block i hi), (ha.mono (Nat.zero_le _)).grown e (by simp) fun j hj => Nat.zero_le _, Nat.le_trans (by simp) e.size, ?_⟩⟩
  rcases hw2 with h | h
  · exact .inl h
  · exact .inr ⟨_, h, by simp⟩
/-- An append of one link, as a step of a region that draws. -/
theorem step_link15 {W : World} {ops : Array Oper} {o : Oper} {a : Act} {K : Act → World → Prop} {Q : Exit → Act → World → Prop} {E : Prop} (hgd : o.guard = none) (s x : Operand)
    (ho : o.op = .call { callee := .builtin .append, args := #[s, x], argTypes := #[78, 78] }) {V : Value} {L : List LinkV} {l : LinkV} {g : Nat} (hs : a.eval s = V) (hx : a.eval x = .slice (some ⟨g, 0, none⟩) 1 1) (hgs : g = W.heap.size) (h : Owns W 0 136 4 AnyCell V L.length (cellsL .i64 L))
    (hl : L.length ≤ 1000000) (hK : ∀ V' W', MoreL .i64 136 W W' V V' L l → K (a.put o.dst V') W') :
    if Region.wanted o (yielded ops a.tmps) = true then Oper.wp Tryz.prog o a (W.alloc (.cells #[.int .i64 l.f, .int .i64 l.at_, .int .i64 l.back, .int .i64 l.res] 136)) K Q else E := by
  subst hgs
  rw [if_pos (by simp [Region.wanted, hgd])]
  obtain ⟨V', W', hr, hm⟩ := run_link15 (ty := o.type) (l := l) Tryz.underlying78 link_info15 rfl h hl
  unfold Oper.wp execOp
  simp only [ho, resolve, invoke, builtin, Sem.run_bind, Sem.run_pure, Result.andThen_ok, List.map_toArray, List.map_cons, List.map_nil, hs, hx, hr]
  exact hK V' W' hm
end Go.Proofs.YtkfdgpgildanbaaGreat
