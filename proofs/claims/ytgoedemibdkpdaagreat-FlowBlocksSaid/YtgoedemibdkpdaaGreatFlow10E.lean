/- The landed reached with its stack, and Reached. Contracts; no condition but what each names. -/
import Derived.Test.YtgoedemibdkpdaaGreatFlow10D
namespace Go.Proofs.YtgoedemibdkpdaaGreat
open Go.RowKit
set_option linter.unusedVariables false
set_option linter.unusedSimpArgs false

theorem run_append_nothing {P : Program} (w : World) (t ty e : TypeId) (i : TypeInfo) (ht : P.underlying t = some (.slice e)) (hi : P.info? e = some i) (A : Option Addr) (n cap : Nat) (hn : n ≤ cap) :
    (Builtin.append_ #[t, t] ty #[.slice A n cap, .slice none 0 0]).run P w = .ok (.slice A n cap) w := by
  cases A with
  | none => simp [Builtin.append_, run_underlying ht, sizeOf, typeInfo, hi, Builtin.lenOf, Builtin.firstCells, loadCells, loadCellsFrom, hn]
  | some a => simp [Builtin.append_, run_underlying ht, sizeOf, typeInfo, hi, Builtin.lenOf, Builtin.firstCells, loadCells, loadCellsFrom, hn, storeCells]
theorem out_len {base : Nat} {w : World} {V : Value} {xs : List Int} (h : OutN base w V xs) : ∃ A cap, V = .slice A xs.length cap ∧ xs.length ≤ cap := by
  rcases h.1.2 with ⟨rfl, h0⟩ | ⟨g, cap, cur, rfl, h1, h2, h3, h4, h5, h6⟩
  · have : xs.length = 0 := by simpa using h0
    exact ⟨none, 0, by rw [this], by omega⟩
  · exact ⟨_, cap, rfl, h3⟩
theorem run_append_two {W : World} {ty : TypeId} {V X : Value} {xs ys : List Int} {base b2 : Nat} (h : OutN base W V xs) (hX : OutN b2 W X ys) (hb : base ≤ W.heap.size) (hl : xs.length + ys.length ≤ 1000000) :
    ∃ V' W', (Builtin.append_ #[32, 32] ty #[V, X]).run Tryz.prog W = .ok V' W' ∧ OutN base W' V' (xs ++ ys) ∧ But (OwnB V) W W' := by
  obtain ⟨i, hi, h1, h2, h3⟩ := info_parts int_info
  by_cases hx : X = .slice none 0 0
  · subst hx
    have hy : ys = [] := by
      rcases hX.1.2 with ⟨_, h0⟩ | ⟨g, cap, cur, h0, _⟩
      · exact List.eq_nil_of_length_eq_zero h0
      · cases h0
    subst hy
    obtain ⟨A, cap, rfl, hc⟩ := out_len h
    exact ⟨_, W, run_append_nothing W 32 ty 3 i Tryz.underlying32 hi A xs.length cap hc, by simpa using h, But.refl _ _⟩
  · obtain ⟨g, cap, cur, rfl, h4, h5, h6, h7, h8, h9, h10, h11⟩ := hX.parts hx
    have hnews : ∀ j u, (ys.map (Value.int .i64))[j]? = some u → W.cell? ((⟨g, 0, none⟩ : Addr).add j) = some u := fun j u hu => hX.1.cells (g := g) rfl j u hu
    obtain ⟨V', W', hr, ho, hg⟩ := run_append_q (P := Tryz.prog) W base 32 ty 3 i _ 1 8 Tryz.underlying32 hi h1 h2 h3 rfl (by decide) (IsNum .i64) (zero_num .i64) V xs.length (xs.map (Value.int .i64)) h ⟨g, 0, none⟩ ys.length cap (ys.map (Value.int .i64)) (by simp) hnews (by intro u hu; obtain ⟨z, _, rfl⟩ := List.mem_map.1 hu; rfl) (num_cells _ _) (by unfold maxLen; omega) (by omega) hb
    exact ⟨V', W', hr, by rw [OutN, List.length_append, List.map_append]; exact ho, But.of_grown hg⟩
/-- An append of a list, as a step of a region that draws. -/
theorem step_outA {W : World} {ops : Array Oper} {o : Oper} {a : Act} {K : Act → World → Prop} {Q : Exit → Act → World → Prop} {E : Prop} (hgd : o.guard = none) (s x : Operand)
    (ho : o.op = .call { callee := .builtin .append, args := #[s, x], argTypes := #[32, 32] }) {V X : Value} {xs ys : List Int} {base b2 : Nat} (hs : a.eval s = V) (hx : a.eval x = X) (h : OutN base W V xs) (hX : OutN b2 W X ys)
    (hb : base ≤ W.heap.size) (hl : xs.length + ys.length ≤ 1000000)
    (hK : ∀ V' W', OutN base W' V' (xs ++ ys) → But (OwnB V) W W' → K (a.put o.dst V') W') :
    if Region.wanted o (yielded ops a.tmps) = true then Oper.wp Tryz.prog o a W K Q else E := by
  rw [if_pos (by simp [Region.wanted, hgd])]
  obtain ⟨V', W', hr, ho', hb'⟩ := run_append_two (ty := o.type) h hX hb hl
  unfold Oper.wp execOp
  simp only [ho, resolve, invoke, builtin, Sem.run_bind, Sem.run_pure, Result.andThen_ok, List.map_toArray, List.map_cons, List.map_nil, hs, hx, hr]
  exact hK V' W' ho' hb'
/-- What reached has in memory. -/
structure RcAt (w wr : World) (n : Nat) (nx : Nat → List Int) (r : Nat → Bool) (V : Value) (ws pend : List Int) : Prop where
  bel : Below w.heap.size w wr
  row : RowAt wr w.heap.size n 4 (boolsV r)
  box : RowAt wr (w.heap.size + 2) 1 32 (fun _ => V)
  own : OutN (w.heap.size + 1) wr V ws
  dfs : Dfs n nx r (ws ++ pend)
theorem bool_ne {w : World} {g n base : Nat} {r : Nat → Bool} {V : Value} {xs : List Int} (h : OutN base w V xs) (hr : RowAt w g n 4 (boolsV r)) : ¬ OwnB V g := by
  intro hg
  have hv : V ≠ .slice none 0 0 := fun e => by subst e; simp [OwnB, Value.ownBlock] at hg
  obtain ⟨g', cap, cur, rfl, _, _, hc, _⟩ := h.parts hv
  have : g' = g := by simpa [OwnB, Value.ownBlock] using hg
  subst this
  obtain ⟨cur', h1, _⟩ := hr
  rw [hc] at h1
  injection h1 with h1
  injection h1 with _ h1 _
  exact absurd h1 (by decide)
def ReachDone (w : World) (n : Nat) (nx : Nat → List Int) (e : Ending) (w' : World) : Prop :=
  Below w.heap.size w w' ∧ ∃ gb r, e = .returned (.slice (some ⟨gb, 0, none⟩) n n) ∧ w.heap.size ≤ gb ∧ IsReach n nx r ∧ RowAt w' gb n 4 (boolsV fun i => r.getD i false)
section
variable {w wr W : World} {n : Nat} {nx : Nat → List Int} {r : Nat → Bool} {V V' : Value} {ws pend ys : List Int}
/-- One is taken off. -/
theorem RcAt.pop {p : Int} {q cap : Nat} (h : RcAt w wr n nx r (.slice (some ⟨q, 0, none⟩) (ws.length + 1) cap) (ws ++ [p]) []) : RcAt w (wr.setCell ⟨w.heap.size + 2, 0, none⟩ (.slice (some ⟨q, 0, none⟩) ws.length cap)) n nx r (.slice (some ⟨q, 0, none⟩) ws.length cap) ws [p] := by
  have hv : Value.slice (some ⟨q, 0, none⟩) (ws.length + 1) cap ≠ .slice none 0 0 := fun e => by cases e
  obtain ⟨g', cap', cur, he, h1, h2, h3, h4, h5, h6, h7, h8⟩ := h.own.parts hv
  simp only [Value.slice.injEq, Option.some.injEq, Addr.mk.injEq, true_and, and_true] at he
  obtain ⟨rfl, _, rfl⟩ := he
  have hq : q ≠ w.heap.size + 2 := fun e => own_ne h.own h.box (by simp [OwnB, Value.ownBlock, e])
  simp only [List.length_append, List.length_cons, List.length_nil, Nat.zero_add] at h4 h7
  have ht : cur.toList.take ws.length = ws.map (Value.int .i64) := by
    have := congrArg (List.take ws.length) h7
    rw [List.take_take, Nat.min_eq_left (by omega), List.map_append, List.take_append_of_le_length (by simp)] at this
    rw [this, List.take_of_length_le (by simp)]
  refine ⟨h.bel.setCell (p := ⟨w.heap.size + 2, 0, none⟩) (by show w.heap.size ≤ w.heap.size + 2; omega) _, ?_, (h.box.set 0 _).congr fun i hi => by simp [show i = 0 by omega], ?_, by simpa using h.dfs⟩
  · exact h.row.but ((But.refl (OneBlock (w.heap.size + 2)) wr).setCell (p := ⟨w.heap.size + 2, 0, none⟩) (.inl rfl) _) (fun e => by have : w.heap.size = w.heap.size + 2 := e; omega)
  · exact (OutN.of_block (cap := cap) h1 h3 (by omega) h5 h6 ht h8).but ((But.refl (OneBlock (w.heap.size + 2)) wr).setCell (p := ⟨w.heap.size + 2, 0, none⟩) (.inl rfl) _) (fun g hg e => by simp [Value.ownBlock] at hg; exact hq (by rw [hg]; exact e))
/-- One is marked. -/
theorem RcAt.mark {p : Int} (h : RcAt w wr n nx r V ws [p]) (hb : ∀ i, i < n → ∀ x ∈ nx i, 0 ≤ x ∧ x < n) :
    Below w.heap.size w (wr.setCell ⟨w.heap.size, p.toNat, none⟩ (.bool true)) ∧ RowAt (wr.setCell ⟨w.heap.size, p.toNat, none⟩ (.bool true)) w.heap.size n 4 (boolsV fun i => if i = p.toNat then true else r i) ∧
    RowAt (wr.setCell ⟨w.heap.size, p.toNat, none⟩ (.bool true)) (w.heap.size + 2) 1 32 (fun _ => V) ∧ OutN (w.heap.size + 1) (wr.setCell ⟨w.heap.size, p.toNat, none⟩ (.bool true)) V ws := by
  have hb1 := (But.refl (OneBlock w.heap.size) wr).setCell (p := ⟨w.heap.size, p.toNat, none⟩) (.inl rfl) (.bool true)
  refine ⟨h.bel.setCell (p := ⟨w.heap.size, p.toNat, none⟩) (Nat.le_refl _) _, (h.row.set p.toNat _).congr fun i hi => ?_, h.box.but hb1 (fun e => by have : w.heap.size + 2 = w.heap.size := e; omega), h.own.but hb1 (fun g hg e => bool_ne h.own h.row (by rw [show g = w.heap.size from e] at hg; exact hg))⟩
  unfold boolsV
  by_cases e : i = p.toNat <;> simp [e]
theorem RcAt.push {p : Int} {W' : World} (h : RcAt w wr n nx r V ws [p]) (hb : ∀ i, i < n → ∀ x ∈ nx i, 0 ≤ x ∧ x < n)
    (ho : OutN (w.heap.size + 1) W' V' (ws ++ nx p.toNat)) (hk : But (OwnB V) (wr.setCell ⟨w.heap.size, p.toNat, none⟩ (.bool true)) W') :
    RowAt W' (w.heap.size + 2) 1 32 (fun _ => V) ∧ RcAt w (W'.setCell ⟨w.heap.size + 2, 0, none⟩ V') n nx (fun i => if i = p.toNat then true else r i) V' (ws ++ nx p.toNat) [] := by
  obtain ⟨m1, m2, m3, m4⟩ := h.mark hb
  have hbox := m3.but hk (own_ne m4 m3)
  have hs1 := (But.refl (OneBlock (w.heap.size + 2)) W').setCell (p := ⟨w.heap.size + 2, 0, none⟩) (.inl rfl) V'
  have hbl : Below w.heap.size w W' := But.below m1 hk m1.size (fun k hk => by
    by_cases hv : V = .slice none 0 0
    · subst hv; simp [OwnB, Value.ownBlock] at hk
    · have := (m4.lt hk).1; omega)
  exact ⟨hbox, hbl.setCell (p := ⟨w.heap.size + 2, 0, none⟩) (by show w.heap.size ≤ w.heap.size + 2; omega) _, (m2.but hk (bool_ne m4 m2)).but hs1 (fun e => by have : w.heap.size = w.heap.size + 2 := e; omega), (hbox.set 0 V').congr fun i hi => by simp [show i = 0 by omega], ho.but hs1 (fun g hg e => own_ne ho hbox (by rw [show g = w.heap.size + 2 from e] at hg; exact hg)), by simpa using h.dfs.new hb⟩
end
def ReachHead (w : World) (n : Nat) (nx : Nat → List Int) (gk : Nat) (ok : Bool) (p : Int) (wr : World) : Prop :=
  ∃ r V ws, RcAt w wr n nx r V ws (if ok then [p] else []) ∧ (ok = false → ws = []) ∧ 3 * cntV r n + (ws ++ (if ok then [p] else [])).length ≤ gk ∧ gk ≤ 3 * n + 1
theorem take_rc {w wr : World} {n : Nat} {nx : Nat → List Int} {r : Nat → Bool} {V : Value} {ws : List Int} {gk : Nat} (h : RcAt w wr n nx r V ws []) (hm : 3 * cntV r n + ws.length ≤ gk) (hg : gk ≤ 3 * n + 1) (hn : n ≤ 4096) :
    Calls Tryz.prog 43 #[.pointer (some ⟨w.heap.size + 2, 0, none⟩)] wr fun e w' => ∃ ok p, e = .returned (.tuple #[.int .i64 p, .bool ok]) ∧ ReachHead w n nx gk ok p w' := by
  have hbx := h.box.cell (i := 0) (by omega)
  have hfz := h.box.frozen 0
  rcases List.eq_nil_or_concat ws with rfl | ⟨l, p, rfl⟩
  · obtain ⟨A, cap, rfl, _⟩ := out_len h.own
    refine (take_none (w.heap.size + 2) A cap wr hbx).mono ?_
    rintro e w' ⟨rfl, rfl⟩
    exact ⟨false, -1, rfl, r, _, [], by simpa using h, fun _ => rfl, by simpa using hm, hg⟩
  · rw [List.concat_eq_append] at h hm
    have hv : V ≠ .slice none 0 0 := fun e => by
      subst e
      rcases h.own.1.2 with ⟨_, h0⟩ | ⟨_, _, _, h0, _⟩
      · simp at h0
      · cases h0
    obtain ⟨q, cap, cur, he, h1, h2, h3, h4, h5, h6, h7, h8⟩ := h.own.parts hv
    simp only [List.length_append, List.length_cons, List.length_nil, Nat.zero_add] at he h4 h7 hm
    subst he
    have hcl : wr.cell? ⟨q, l.length, none⟩ = some (.int .i64 p) := by
      have := h.own.1.cells (g := q) rfl l.length (.int .i64 p) (by simp)
      rw [← this]
      congr 1
      unfold Addr.add
      split <;> simp_all
    refine (take_some (w.heap.size + 2) q cap l p wr hbx hfz hcl h4 (by omega)).mono ?_
    rintro e w' ⟨rfl, rfl⟩
    exact ⟨true, p, rfl, r, _, l, h.pop, fun hc => (by cases hc), by simp; omega, hg⟩
set_option maxRecDepth 100000 in
set_option maxHeartbeats 16000000 in
theorem reached_any (base g n : Nat) (Xs : Nat → Value) (nx : Nat → List Int) (w : World) (hL : Lists base w g n Xs nx) (hn : 0 < n) (hn' : n ≤ 4096) (hb : ∀ i, i < n → ∀ x ∈ nx i, 0 ≤ x ∧ x < n) (h2 : ∀ i, (nx i).length ≤ 2) :
    Calls Tryz.prog 29 #[.slice (some ⟨g, 0, none⟩) n n] w (ReachDone w n nx) := by
  have HL := Lib.hid hL
  have HBD := Lib.hid hb
  have H2 := Lib.hid h2
  have HN := Lib.hid (And.intro hn hn')
  have hgw := hL.row.lt
  have hmk := make_bools n (by omega)
  have HMB := Lib.hid (bools_made n w)
  have hn1 : (n : Int) ≤ 4096 := by omega
  have hcn := cnt_le (fun _ => false) n
  have HCN := Lib.hid hcn
  clear hL hb h2 hcn
  generalize madeCells (Value.bool false).cells (n * 1) = mb at *
  obtain ⟨W0, hW0⟩ : ∃ W0, W0 = ((w.alloc (.cells mb 4)).alloc (.cells #[.int .i64 0] 3)).alloc (.cells #[.slice (some ⟨w.heap.size + 1, 0, none⟩) 1 1] 32) := ⟨_, rfl⟩
  have hb0 : Below w.heap.size w W0 := by rw [hW0]; exact (((Below.refl _ _).alloc (Nat.le_refl _) _).alloc (by simp) _).alloc (by simp; omega) _
  have hb1 : Below (w.heap.size + 1) (w.alloc (.cells mb 4)) W0 := by rw [hW0]; exact ((Below.refl _ _).alloc (by simp) _).alloc (by simp) _
  have hrc : RcAt w W0 n nx (fun _ => false) (.slice (some ⟨w.heap.size + 1, 0, none⟩) 1 1) [0] [] := by
    have e1 : W0.heap[w.heap.size + 1]? = some (.cells #[.int .i64 0] 3 (0, 0)) := by
      rw [hW0, Below.heap_alloc _ _ _ (by simp)]
      have := heap_alloc_new (w.alloc (.cells mb 4)) (.cells #[.int .i64 0] 3)
      rw [World.size_alloc] at this
      exact this
    have e2 : W0.heap[w.heap.size + 2]? = some (.cells #[.slice (some ⟨w.heap.size + 1, 0, none⟩) 1 1] 32 (0, 0)) := by
      rw [hW0]
      have := heap_alloc_new ((w.alloc (.cells mb 4)).alloc (.cells #[.int .i64 0] 3)) (.cells #[.slice (some ⟨w.heap.size + 1, 0, none⟩) 1 1] 32)
      rw [World.size_alloc, World.size_alloc] at this
      exact this
    exact ⟨hb0, HMB.out.below hb1 (Nat.lt_succ_self _), ⟨_, e2, rfl, fun i hi => by simp [show i = 0 by omega]⟩, OutN.of_block (cap := 1) (ys := [0]) (Nat.le_refl _) e1 (by decide) (by decide) rfl rfl (fun u hu => by simp at hu; subst hu; exact ⟨_, rfl⟩), by simpa using Dfs.start HN.out.1⟩
  have HT0 := Lib.hid (take_rc (gk := 3 * n + 1) hrc (by have := HCN.out; simp; omega) (Nat.le_refl _) HN.out.2)
  clear hb0 hb1 hrc
  go_enter Tryz.func29, Tryz.ntmps29
  go_wp2_with (go_at_call 43; rw [← hW0]; (with_reducible refine HT0.out.mono ?_); rintro e w1 ⟨ok0, p0, rfl, h1⟩; have HH0 := Lib.hid h1; clear h1)
  clear hW0
  go_loopg [6, 7] (3 * n + 1) (fun gk v6 v7 wr => ∃ (ok : Bool) (p : Int), v6 = .int .i64 p ∧ v7 = .bool ok ∧ Hid (ReachHead w n nx gk ok p wr))
  case atStart => exact ⟨ok0, p0, rfl, rfl, HH0⟩
  case round =>
    obtain ⟨ok, p, rfl, rfl, HH⟩ := hrel
    obtain ⟨r, V, ws, hrc, hws, hme, hgk⟩ := HH.out
    clear HH HH0
    cases ok with
    | false =>
      have hw0 := hws rfl
      subst hw0
      have HRC := Lib.hid hrc
      clear hrc hws hme hgk
      go_wp2
      go_ret
      have h := HRC.out
      refine ⟨h.bel, w.heap.size, _, rfl, Nat.le_refl _, Dfs.done (by simpa using h.dfs) HN.out.1 HBD.out, h.row.congr fun i hi => ?_⟩
      simp [boolsV, List.getD, hi]
    | true =>
      have hrc : RcAt w wr n nx r V ws [p] := hrc
      have hwt := hrc.dfs.wait p (by simp)
      obtain ⟨pn, rfl⟩ : ∃ pn : Nat, p = pn := ⟨p.toNat, by omega⟩
      have p0 : (0 : Int) ≤ (pn : Int) := by omega
      have p1 : (pn : Int) < (n : Int) := hwt.2.1
      have hpn : pn < n := by omega
      have b0 := hrc.row.cell hpn
      have b1 := hrc.row.frozen pn
      unfold boolsV at b0
      have HRC := Lib.hid hrc
      have hlen : 3 * cntV r n + (ws.length + 1) ≤ gk := by simpa using hme
      have hwr : w.heap.size + 2 < wr.heap.size := hrc.box.lt
      have HME := Lib.hid (And.intro hlen hgk)
      cases hr : r pn with
      | true =>
        rw [hr] at b0
        have HT := Lib.hid (take_rc (gk := gk - 1) (n := n) (nx := nx) (w := w) (wr := wr) (r := r) (V := V) (ws := ws) ⟨hrc.bel, hrc.row, hrc.box, hrc.own, by have := hrc.dfs.old (by simpa using hr); simpa using this⟩ (by omega) (by omega) HN.out.2)
        clear hrc hws hme hgk hwt hr hlen
        go_wp2_with (go_at_call 43; (with_reducible refine HT.out.mono ?_); rintro e w1 ⟨ok1, p1', rfl, h1⟩; have HH1 := Lib.hid h1; clear h1)
        go_roundg (gk - 1)
        case measure => have := HME.out.1; omega
        case rel => exact ⟨ok1, p1', rfl, rfl, HH1⟩
      | false =>
        rw [hr] at b0
        have hmk1 := hrc.mark HBD.out
        rw [Int.toNat_natCast] at hmk1
        obtain ⟨m1, m2, m3, m4⟩ := hmk1
        have hxo := ((HL.out.own pn hpn).below hrc.bel (Nat.le_refl _))
        have hxo2 : OutN base (wr.setCell ⟨w.heap.size, pn, none⟩ (.bool true)) (Xs pn) (nx pn) := hxo.but ((But.refl (OneBlock w.heap.size) wr).setCell (p := ⟨w.heap.size, pn, none⟩) (.inl rfl) _) (fun g' hg' e => by have := ((HL.out.own pn hpn).lt hg').2; rw [show g' = w.heap.size from e] at this; omega)
        have x0 : (wr.setCell ⟨w.heap.size, pn, none⟩ (.bool true)).cell? ⟨g, pn, none⟩ = some (Xs pn) := by
          have := (HL.out.row.below (hrc.bel.setCell (p := ⟨w.heap.size, pn, none⟩) (Nat.le_refl _) (.bool true)) hgw).cell hpn
          exact this
        have x1 := m3.cell (i := 0) (by omega)
        have x2 := m3.frozen 0
        have HPU := Lib.hid (fun V' W' ho hk => hrc.push (V' := V') (W' := W') HBD.out ho hk)
        rw [Int.toNat_natCast] at HPU
        have HM4 := Lib.hid m4
        have HX2 := Lib.hid hxo2
        have HCS := Lib.hid (cnt_set hpn hr)
        obtain ⟨A, cap, rfl, _⟩ := out_len m4
        obtain ⟨XA, Xc, hXe, _⟩ := out_len hxo
        have HXE := Lib.hid hXe
        rw [hXe] at x0
        have HLX := Lib.hid (H2.out pn)
        have HSZ := Lib.hid (show w.heap.size + 1 ≤ wr.heap.size by omega)
        have HLW : Hid (ws.length ≤ 20000) := Lib.hid (by omega)
        have HHN := HN.out
        clear hrc hws hme hgk hwt hr hlen m1 m2 m3 m4 hxo hxo2 hXe
        generalize hwl : ws.length = wl at *
        generalize hxl : (nx pn).length = xl at *
        have HWL := Lib.hid hwl
        have HXL := Lib.hid hxl
        clear hwl hxl HHN
        go_wp2
        go_region_law (refine step_outA (W := (wr.setCell ⟨w.heap.size, pn, none⟩ (.bool true)).drew) (V := .slice A wl cap) (X := .slice XA xl Xc) (xs := ws) (ys := nx pn) (base := w.heap.size + 1) (b2 := base) rfl (.tmp 32) (.tmp 36) rfl rfl rfl HM4.out.drew (by rw [← HXE.out]; exact HX2.out.drew) (by have := HSZ.out; simpa using this) (by have h1 := HWL.out; have h2 := HXL.out; have h3 := HLW.out; have h4 := HLX.out; omega) ?_; intro V8 w8 ho hk; obtain ⟨hbx8, hrc8⟩ := HPU.out V8 w8 ho (But.of_drew hk); have y1 := hbx8.cell (i := 0) (by omega); have y2 := hbx8.frozen 0; obtain ⟨A8, cap8, hv8, _⟩ := out_len ho; generalize hq8 : (ws ++ nx pn).length = q8 at hv8; subst hv8; have HT8 := Lib.hid (take_rc (gk := gk - 1) hrc8 (by have h1 := HWL.out; have h2 := HXL.out; have h4 := HLX.out; have h5 := HCS.out; have h6 := HME.out.1; rw [List.length_append]; omega) (by have := HME.out.2; omega) HN.out.2); clear ho hk hbx8 hrc8 hq8)
        all_goals go_wp2_with (go_at_call 43; (with_reducible refine HT8.out.mono ?_); rintro e w1 ⟨ok1, p1', rfl, h1⟩; have HH1 := Lib.hid h1; clear h1)
        all_goals
          go_roundg (gk - 1)
          case measure => have := HME.out.1; omega
          case rel => exact ⟨ok1, p1', rfl, rfl, HH1⟩
def ReachedN (w : World) (l : List InsV) (n : Nat) (e : Ending) (w' : World) : Prop :=
  Below w.heap.size w w' ∧ ((check10 l ≠ 0 ∧ e = .returned (.tuple #[.slice none 0 0, .int .i64 (check10 l)])) ∨
    (check10 l = 0 ∧ ∃ gb r, e = .returned (.tuple #[.slice (some ⟨gb, 0, none⟩) n n, .int .i64 0]) ∧ w.heap.size ≤ gb ∧ IsReach n (nextV l) r ∧ RowAt w' gb n 4 (boolsV fun i => r.getD i false)))
theorem nextV_two (l : List InsV) (i : Nat) : (nextV l i).length ≤ 2 := nxV_len _ _ _
theorem reached10_any (V : Value) (l : List InsV) (w : World) (h : IsCode w w.heap.size V l) : Calls Tryz.prog 14 #[V] w (ReachedN w l l.length) := by
  have HT := Lib.hid (next_any V l w h)
  by_cases h0 : check10 l = 0
  · have HT2 := Lib.hid (HT.out.mono fun e w' hh => And.intro hh.1 (hh.2.resolve_left (fun h => h.1 h0)).2)
    have HR := Lib.hid (fun g Xs W hL => reached_any w.heap.size g l.length Xs (nextV l) W hL (good10 h0).pos (short10 h0) (fun i hi => (good10 h0).next hi) (nextV_two l))
    have H0 := Lib.hid h0
    unfold ReachedN
    generalize l.length = n at *
    clear HT h h0
    go_enter Tryz.func14, Tryz.ntmps14
    go_wp2_with (first
      | (go_at_call 12; (with_reducible refine HT2.out.mono ?_); rintro e w1 ⟨hb, g, Xs, rfl, hl⟩; have HB := Lib.hid hb; have HL := Lib.hid hl; clear hb hl)
      | (go_at_call 29; (with_reducible refine (HR.out g Xs w1 HL.out).mono ?_); rintro e w2 ⟨hb, gb, r, rfl, hg, hr, hrow⟩; have HB2 := Lib.hid (HB.out.trans (hb.mono HB.out.size)); have HG := Lib.hid (Nat.le_trans HB.out.size hg); have HRR := Lib.hid hr; have HRW := Lib.hid hrow; clear hb hg hr hrow))
    go_ret2
    exact ⟨HB2.out, .inr ⟨H0.out, _, _, rfl, HG.out, HRR.out, HRW.out⟩⟩
  · have HT2 := Lib.hid (HT.out.mono fun e w' hh => And.intro hh.1 (hh.2.resolve_right (fun h => h0 h.1)).2)
    have H0 := Lib.hid h0
    have hne : (check10 l != 0) = true := by simpa using h0
    unfold ReachedN
    generalize check10 l = z at *
    clear HT h h0
    go_enter Tryz.func14, Tryz.ntmps14
    go_wp2_with (go_at_call 12; (with_reducible refine HT2.out.mono ?_); rintro e w1 ⟨hb, rfl⟩; have HB := Lib.hid hb; clear hb)
    go_ret2
    exact ⟨HB.out, .inl ⟨H0.out, rfl⟩⟩
end Go.Proofs.YtgoedemibdkpdaaGreat
