/- The landed op.Reads: the registers that an instruction reads, in a slice of the call's own. Contract; no condition but that the argument is an instruction in memory with at most a thousand million arguments. -/
import Derived.Test.YtfdblmjgpoocpaaGreatS02
import Derived.Maps.AppendAt
namespace Go.Proofs.YtfdblmjgpoocpaaGreat
open Go.RowKit Go.Shelf
set_option linter.unusedVariables false
set_option linter.unusedSimpArgs false

/-- Append to a slice of one's own: what it holds then, and where: in the block that it had, or in a new one. -/
theorem run_append_where {P : Program} (w : World) (base : Nat) (t ty e : TypeId) (i : TypeInfo) (z : Value) (size bytes : Nat) (ht : P.underlying t = some (.slice e)) (hi : P.info? e = some i) (hz : i.zero = some z)
    (hsize : i.size = size) (hby : i.bytes = bytes) (hzs : z.cells.size = size) (hsz : 0 < size)
    (v : Value) (n : Nat) (xs : List Value) (hown : w.ownsRow base e size v n xs)
    (a : Addr) (m c : Nat) (hm0 : 0 < m) (news : List Value) (hl : news.length = m * size) (hnews : ∀ j u, news[j]? = some u → w.cell? (a.add j) = some u) (h1 : ∀ u ∈ news, u.oneCell' = true)
    (h63 : n + m ≤ maxLen) (hbytes : (n + m) * bytes ≤ 140737488355328) (hbase : base ≤ w.heap.size) :
    ∃ v' w', (Builtin.append_ #[t, t] ty #[v, .slice (some a) m c]).run P w = .ok v' w' ∧ w'.ownsRow base e size v' (n + m) (xs ++ news) ∧ w.grownBy w' v.ownBlock ∧ (v'.ownBlock = v.ownBlock ∨ v'.ownBlock = some w.heap.size) := by
  obtain ⟨v', w', hr, h2, h3, _⟩ := run_append_own (P := P) w base t ty e i z size bytes ht hi hz hsize hby hzs hsz v n xs hown a m c news hl hnews h1 h63 hbytes hbase
  refine ⟨v', w', hr, h2, h3, ?_⟩
  subst hsize
  subst hby
  have hsmall : n + m ≤ 9223372036854775807 := by simp only [maxLen] at h63; omega
  rcases hown.2 with ⟨rfl, rfl⟩ | ⟨g, cap, cur, rfl, hbg, hg, hnc, hcm, hcs, htake⟩
  · have hr' := run_append_nil (P := P) w t ty e i z ht hi hz a m c news hl hnews (by omega) (by omega) (by have hb := hbytes; simp only [Nat.zero_add] at hb; omega)
    rw [hr'] at hr
    injection hr with hv hw
    subst hv
    exact .inr (by simp [Value.ownBlock])
  · by_cases hroom : n + m ≤ cap
    · have hfit : n * i.size + news.length ≤ cur.size := by rw [hl, hcs, ← Nat.add_mul]; exact Nat.mul_le_mul_right _ hroom
      have hr' := run_append_room (P := P) w t ty e i ht hi g n cap cur hg a m c news hl hnews h1 hroom hfit
      rw [hr'] at hr
      injection hr with hv hw
      subst hv
      exact .inl (by simp [Value.ownBlock])
    · have holds : ∀ j u, xs[j]? = some u → w.cell? ((⟨g, 0, none⟩ : Addr).add j) = some u := hown.cells (g := g) rfl
      have hr' := run_append_grow (P := P) w t ty e i z ht hi hz ⟨g, 0, none⟩ n cap xs hown.1 holds a m c news hl hnews (by omega) (by omega) (growslice_fits (by omega) hbytes)
      rw [hr'] at hr
      injection hr with hv hw
      subst hv
      exact .inr (by simp [Value.ownBlock])
theorem wpListIn_append_where {F : Fence} {k : Nat} {P : Program} (w : World) {ops : Array Oper} {rest : List Oper} {o : Oper} {a : Act} {Q : Exit → Act → World → Prop} (hgd : o.guard = none) (s x : Operand) (t : TypeId)
    (ho : o.op = .call { callee := .builtin .append, args := #[s, x], argTypes := #[t, t] })
    (base : Nat) (e : TypeId) (i : TypeInfo) (z : Value) (size bytes : Nat) (ht : P.underlying t = some (.slice e)) (hi : P.info? e = some i) (hz : i.zero = some z)
    (hsize : i.size = size) (hby : i.bytes = bytes) (hzs : z.cells.size = size) (hsz : 0 < size)
    (v : Value) (n : Nat) (xs : List Value) (hs : a.eval s = v) (hown : w.ownsRow base e size v n xs)
    (ad : Addr) (m c : Nat) (hm0 : 0 < m) (news : List Value) (hx : a.eval x = .slice (some ad) m c) (hl : news.length = m * size) (hnews : ∀ j u, news[j]? = some u → w.cell? (ad.add j) = some u) (h1 : ∀ u ∈ news, u.oneCell' = true)
    (h63 : n + m ≤ maxLen) (hbytes : (n + m) * bytes ≤ 140737488355328) (hbase : base ≤ w.heap.size)
    (h : ∀ v' w', w'.ownsRow base e size v' (n + m) (xs ++ news) → w.grownBy w' v.ownBlock → (v'.ownBlock = v.ownBlock ∨ v'.ownBlock = some w.heap.size) → wpListIn F k P ops Q rest (a.put o.dst v') w') : wpListIn F k P ops Q (o :: rest) a w := by
  refine wpListIn_plain hgd fun K hK => ?_
  obtain ⟨v', w', hr, h2, h3, h4⟩ := run_append_where (P := P) w base t o.type e i z size bytes ht hi hz hsize hby hzs hsz v n xs hown ad m c hm0 news hl hnews h1 h63 hbytes hbase
  unfold Oper.wpIn
  refine ⟨?_, ?_⟩
  · simp [Oper.about, ho, resolve, Target.leads, Sem.run_pure]
  · rw [Oper.semAt_plain F _ _ (by rw [ho]; intro c hc; cases hc)]
    simp only [execOp, ho, resolve, invoke, builtin, Sem.run_bind, Sem.run_pure, Result.andThen_ok, List.map_toArray, List.map_cons, List.map_nil, hs, hx, hr]
    exact hK _ _ (h v' w' h2 h3 h4)
/-- Behind an append to the slice in the box Ro, and the store of what came: all cells are kept but those in reach. -/
theorem keep_appended {W w1 : World} {n₀ Ro : Nat} {t e : TypeId} {size : Nat} {v v' : Value} {k m : Nat} {xs ys : List Value} {tmp : Obj}
    (hv : Boxed W Ro t v) (hte : t ≠ e) (hrow : W.ownsRow n₀ e size v k xs) (hown' : w1.ownsRow n₀ e size v' m ys) (hgrow : (W.alloc tmp).grownBy w1 v.ownBlock)
    (hwh : v'.ownBlock = v.ownBlock ∨ v'.ownBlock = some (W.alloc tmp).heap.size) : KeepC Ro W (w1.setCell ⟨Ro, 0, none⟩ v') := by
  have hv1 : Boxed w1 Ro t v := (hv.alloc tmp).kept hgrow (hv.not_row hte hrow)
  have hv2 := hv1.set v'
  have hs1 : W.heap.size ≤ w1.heap.size := Nat.le_trans (by simp) hgrow.size
  have hs2 : (w1.setCell ⟨Ro, 0, none⟩ v').heap.size = w1.heap.size := by simp [World.setCell]
  have reach : ∀ g, InReach Ro (w1.setCell ⟨Ro, 0, none⟩ v') g → g = Ro ∨ v'.ownBlock = some g := by
    rintro g (h | ⟨o, s, len, cap, hc⟩)
    · exact .inl h
    · rw [hv2.cell] at hc
      have hc' := Option.some.inj hc
      subst hc'
      rcases hown'.2 with ⟨h, _⟩ | ⟨g', cap', cur, h, _⟩
      · cases h
      · cases h
        exact .inr (by simp [Value.ownBlock])
  have reachW : ∀ g, v.ownBlock = some g → InReach Ro W g := by
    intro g hg
    rcases hrow.2 with ⟨rfl, _⟩ | ⟨g', cap', cur, rfl, _⟩
    · simp [Value.ownBlock] at hg
    · simp [Value.ownBlock] at hg
      subst hg
      exact .inr ⟨_, _, _, _, hv.cell⟩
  refine ⟨by rw [hs2]; exact hs1, fun b o ho hc hn => ⟨?_, fun hb => ?_⟩, fun hA b hb => ?_⟩
  · rw [Below.heap_setCell _ _ _ _ (fun e' => hn (.inl e')), hgrow.block b (by have := heap_lt ho; simp; omega) (fun e' => hn (reachW b e'.symm)), Below.heap_alloc W tmp b (heap_lt ho)]
    exact ho
  · rcases reach b hb with h | h
    · exact hn (.inl h)
    · rcases hwh with h' | h'
      · exact hn (reachW b (by rw [← h', h]))
      · rw [h] at h'
        have := Option.some.inj h'
        have := heap_lt ho
        simp at *
        omega
  · rw [hs2]
    rcases reach b hb with h | h
    · subst h; exact hv1.lt
    · exact (hown'.lt b h).2

/-- The registers that are read. -/
def readB (x : Int × Int) : Bool := decide (x.1 = 114 ∨ x.1 = 108)
def readsV (l : List (Int × Int)) : List Int := (l.filter readB).map (·.2)
theorem reads_hit {pre : List (Int × Int)} {x : Int × Int} (h : readB x = true) : readsV (pre ++ [x]) = readsV pre ++ [x.2] := by simp [readsV, h]
theorem reads_miss {pre : List (Int × Int)} {x : Int × Int} (h : readB x = false) : readsV (pre ++ [x]) = readsV pre := by simp [readsV, h]
theorem reads_len (l : List (Int × Int)) : (readsV l).length ≤ l.length := by simp [readsV]; exact List.length_filter_le _ _
/-- What Reads ends with: a slice of the call's own. -/
def ReadsDone (w : World) (xs : List Int) (e : Ending) (w' : World) : Prop := ∃ v, e = .returned v ∧ w'.ownsRow w.heap.size 3 1 v xs.length (xs.map (Value.int .i64)) ∧ Below w.heap.size w w'
attribute [local go_sem] Oper.semAt_some
set_option maxRecDepth 100000 in
set_option maxHeartbeats 4000000 in
theorem reads_in (m : Nat) (hm : 5 ≤ m) (op a b c n : Int) (X : Value) (args : List Int) (w : World) (hX : IsNums .i64 w w.heap.size X args) (hlen : (itemsOf (shapeI op) a b c n args).length ≤ 1000000000) :
    CallsIn Fence.wide m Tryz.prog 22 #[.agg (insCells op a b c n X)] w (ReadsDone w (readsV (itemsOf (shapeI op) a b c n args))) := by
  have h1 : 1 ≤ m := by omega
  have HX := Lib.hid hX
  clear hX
  obtain ⟨i0, hi, hz0, hz1, hz2⟩ := info_parts int_info
  have HI := Lib.hid hi
  have HZ0 := Lib.hid hz0
  have HZ1 := Lib.hid hz1
  have HZ2 := Lib.hid hz2
  clear hi hz0 hz1 hz2
  refine callsIn_of_wp_marks Tryz.func22 rfl trivial ?_ rfl
  simp only [Tryz.ntmps22, List.size_toArray, List.length_cons, List.length_nil, Nat.reduceAdd, Nat.reduceSub, Array.replicate_succ, Array.replicate_zero, List.push_toArray, List.append_toArray, List.nil_append, List.cons_append]
  gi_wp2_with (refine ⟨trivial, ?_⟩; gi_at_call 41; (with_reducible refine (callsIn_wide.2 (fields_in op a b c n X _)).mono ?_); rintro e w' ⟨rfl, rfl⟩)
  have bR := Boxed.new (w.alloc (.cells (insCells op a b c n X) 37)) 35 (.slice none 0 0)
  rw [World.size_alloc] at bR
  have hbox : (((w.alloc (.cells (insCells op a b c n X) 37)).alloc (.cells #[.slice none 0 0] 35)).alloc (.cells (insCells op a b c n X) 37)).heap[w.heap.size + 2]? = some (.cells (insCells op a b c n X) 37 (0, 0)) := by
    have := heap_alloc_new ((w.alloc (.cells (insCells op a b c n X) 37)).alloc (.cells #[.slice none 0 0] 35)) (.cells (insCells op a b c n X) 37)
    simpa using this
  have hB0 : Below w.heap.size w (((w.alloc (.cells (insCells op a b c n X) 37)).alloc (.cells #[.slice none 0 0] 35)).alloc (.cells (insCells op a b c n X) 37)) :=
    (((Below.refl _ w).alloc (Nat.le_refl _) _).alloc (by simp) _).alloc (by simp; omega) _
  refine wpIn_rangeFunc_ownG rfl h1 (gf := 62) (lb := #[.pointer (some ⟨w.heap.size + 2, 0, none⟩)]) rfl trivial (enters_of Tryz.func62 (by kernel_rfl) rfl)
    (fields_stops (m - 1) (by omega) (w.heap.size + 1) (w.heap.size + 2) op a b c n X args _ hbox ((HX.out.below hB0 (Nat.le_refl _)).more hB0.size) (by simp) ((bR.alloc _).cell) noAddr_nil (by omega) (fun ad len cap e hl => by have := nums_block HX.out ad len cap e hl; omega))
    kpO_t (kpO_b (by simp)) (Below.refl _ _) (fun _ => rfl)
    (fun pre W => (∃ v, Boxed W (w.heap.size + 1) 35 v ∧ W.ownsRow w.heap.size 3 1 v (readsV pre).length ((readsV pre).map (Value.int .i64)) ∧ True) ∧ Below w.heap.size w W)
    (fun _ _ _ => False)
    (OwnFrom.and (Own.from (holdsRow_own w.heap.size (w.heap.size + 1) 35 3 1 (fun pre => (readsV pre).length) (fun pre => (readsV pre).map (Value.int .i64)) (fun pre v => True)) _) (ownFrom_below (Nat.le_refl _) (by simp; omega)))
    (fun _ _ _ _ _ hs _ _ => hs)
    ⟨⟨_, bR.alloc _, World.ownsRow_nil _ _ _ _, trivial⟩, hB0⟩
    (fun x => { tmps := #[.agg (insCells op a b c n X), .pointer (some ⟨w.heap.size, 0, none⟩), .slice none 0 0, .pointer (some ⟨w.heap.size + 1, 0, none⟩), .int .i32 x.1, .int .i64 x.2, .agg (insCells op a b c n X), .func (.func 62) #[] #[.pointer (some ⟨w.heap.size + 2, 0, none⟩)], .int .i32 x.1, .int .i64 x.2, undef, undef, undef, undef, undef, undef, undef, undef, undef, undef, undef], defers := [] }) ?assign ?body ?done ?stop
  case assign =>
    intro l x W K hK
    dsimp only [encF]
    gi_wp2
    exact hK
  case body =>
    rintro l pre ⟨q, z⟩ W ⟨⟨v, hv, hrow, _⟩, hB⟩ hlt
    have hpl := reads_len pre
    have hc := hv.cell
    have HV := Lib.hid hv
    have HRow := Lib.hid hrow
    have HB := Lib.hid hB
    clear hv hrow hB
    dsimp only
    by_cases hr : q = 114 ∨ q = 108
    · have hrb : readB (q, z) = true := decide_eq_true hr
      have HRB := Lib.hid hrb
      clear hrb
      rcases hr with rfl | rfl
      all_goals
        gi_wp2_with (gi_at_builtin; refine wpListIn_append_where _ rfl _ _ 35 rfl w.heap.size 3 i0 (.int .i64 0) 1 8 Tryz.underlying35 HI.out HZ0.out HZ1.out HZ2.out rfl (by decide) _ _ _ rfl (HRow.out.alloc _) ⟨W.heap.size, 0, none⟩ 1 1 (by decide) [.int .i64 z] rfl rfl (cell_one_new _ _ _) (by simp [Value.oneCell']) (by unfold maxLen; omega) (by omega) (by have := HB.out.size; simp; omega) ?_; intro v' w1 hown' hgrow hwh; have HKA := Lib.hid (keep_appended HV.out (by decide) HRow.out hown' hgrow hwh); obtain ⟨g', cap', rfl⟩ := ownsRow_succ hown'; obtain ⟨hv1, hv2, hr2, hk2, hb2⟩ := HV.out.appended (by decide) HRow.out HB.out.size (by omega) hown' hgrow; have hc1 := hv1.cell; have hf1 := hv1.frozen)
        exact ⟨hk2.from _, ⟨HKA.out, hk2.walks⟩, ⟨_, hv2, by rw [reads_hit HRB.out]; simpa using hr2, trivial⟩, HB.out.trans hb2⟩
    · have hrb : readB (q, z) = false := decide_eq_false hr
      have HRB := Lib.hid hrb
      have e1 : (q == 114) = false := by simp; omega
      have e2 : (q == 108) = false := by simp; omega
      clear hrb hr
      gi_wp2
      exact ⟨KeepsFrom.refl _ _, kpO_refl _ _, ⟨v, HV.out, by rw [reads_miss HRB.out]; exact HRow.out, trivial⟩, HB.out⟩
  case done =>
    rintro D ys W hD rfl ⟨⟨v, hv, hrow, _⟩, hB⟩ hK
    have hc := hv.cell
    gi_wp2
    refine ⟨by simp, .inl ⟨_, _, rfl, run_takeDeferred hK, ?_⟩⟩
    exact ⟨_, results_tmp rfl _ _ _, v, rfl, ownsRow_putObj hrow _ hK rfl, hB.trans (belowK_b (w := w) (Nat.le_refl _) W D _ _ (by simp at hD; omega) hK rfl rfl)⟩
  case stop =>
    rintro D c' pre W _ _ h _
    exact h.elim
theorem reads_any (op a b c n : Int) (X : Value) (args : List Int) (w : World) (hX : IsNums .i64 w w.heap.size X args) (hlen : (itemsOf (shapeI op) a b c n args).length ≤ 1000000000) :
    Calls Tryz.prog 22 #[.agg (insCells op a b c n X)] w (ReadsDone w (readsV (itemsOf (shapeI op) a b c n args))) :=
  callsIn_wide.1 (reads_in 5 (Nat.le_refl _) op a b c n X args w hX hlen)

end Go.Proofs.YtfdblmjgpoocpaaGreat
