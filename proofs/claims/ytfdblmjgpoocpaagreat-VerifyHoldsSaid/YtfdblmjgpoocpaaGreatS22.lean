/- Lemmas of Heap11A, Heap11B, Heap11C, Heap11D, Heap11E, Pre11, Rep11, each with its own remark. -/
import Derived.Test.YtfdblmjgpoocpaaGreatS17
import Derived.BigRegion
import Derived.Deep.RegionLaw
import Derived.Deep.LoopGhost
import Derived.ChangeKeysEq
import Derived.Test.YtfdblmjgpoocpaaGreatS18
import Derived.Test.YtfdblmjgpoocpaaGreatS21
import Derived.Laws.BitsAllLaws
import Derived.Laws.CopyOwn
/- (Heap11A) The queue of the landed code: what it is in memory, and its own methods (Less, Swap, Len, Push, Pop). Contracts; no condition but what each names. -/
namespace Go.Proofs.YtfdblmjgpoocpaaGreat
open Go.RowKit Go.Shelf
set_option linter.unusedVariables false
set_option linter.unusedSimpArgs false

theorem own_other {base g n : Nat} {w : World} {t : TypeId} {mk : Nat → Value} {V : Value} {xs : List Int} (h : OutN base w V xs) (hr : RowAt w g n t mk) (ht : t ≠ 3) : ¬ OwnB V g := by
  intro hg
  obtain ⟨cur, h1⟩ := h.typed hg
  obtain ⟨cur', h2, _⟩ := hr
  rw [h1] at h2
  injection h2 with h2
  injection h2 with _ h2 _
  exact ht h2.symm
theorem OutN.setAt {base g L cap p : Nat} {w : World} {xs : List Int} (h : OutN base w (.slice (some ⟨g, 0, none⟩) L cap) xs) (hp : p < L) (z : Int) :
    OutN base (w.setCell ⟨g, p, none⟩ (.int .i64 z)) (.slice (some ⟨g, 0, none⟩) L cap) (xs.set p z) := by
  obtain ⟨g', cap', cur, he, h1, h2, h3, h4, h5, h6, h7, h8⟩ := h.parts (fun e => by cases e)
  simp only [Value.slice.injEq, Option.some.injEq, Addr.mk.injEq, and_true, true_and] at he
  obtain ⟨rfl, rfl, rfl⟩ := he
  have := OutN.of_block (cap := cap) (ys := xs.set p z) h1 (heap_setCell_same w g p cur _ (.int .i64 z) h3) (by rw [List.length_set]; exact h4) h5 (by simpa using h6) (by
    rw [List.length_set, Array.toList_setIfInBounds, List.take_set, h7, List.map_set]) (fun u hu => by
    rw [Array.toList_setIfInBounds] at hu
    rcases List.mem_or_eq_of_mem_set hu with h' | h'
    · exact h8 u h'
    · exact ⟨z, h'⟩)
  rwa [List.length_set] at this
/-- The queue in memory: its box, its numbers, who waits. -/
structure QAt (B : Nat) (w : World) (qb wb n : Nat) (V : Value) (f : Nat → Bool) (xs : List Int) : Prop where
  box : RowAt w qb 2 170 (fun i => if i = 0 then V else .slice (some ⟨wb, 0, none⟩) n n)
  own : OutN B w V xs
  row : RowAt w wb n 4 (boolsV f)
  qge : B ≤ qb
  wge : B ≤ wb
section
variable {B qb wb n : Nat} {w w' : World} {V V' : Value} {f : Nat → Bool} {xs ys : List Int}
theorem QAt.c0 (h : QAt B w qb wb n V f xs) : w.cell? ⟨qb, 0, none⟩ = some V := h.box.cell (i := 0) (by omega)
theorem QAt.c1 (h : QAt B w qb wb n V f xs) : w.cell? ⟨qb, 1, none⟩ = some (.slice (some ⟨wb, 0, none⟩) n n) := h.box.cell (i := 1) (by omega)
theorem QAt.of_blocks (h : QAt B w qb wb n V f xs) (hb : ∀ k, B ≤ k → k < w.heap.size → w'.heap[k]? = w.heap[k]?) (hs : w.heap.size ≤ w'.heap.size) : QAt B w' qb wb n V f xs :=
  ⟨h.box.heap (hb qb h.qge h.box.lt), Owns.of_blocks h.own (fun g hg => hb g (h.own.lt hg).1 (h.own.lt hg).2) hs, h.row.heap (hb wb h.wge h.row.lt), h.qge, h.wge⟩
theorem QAt.grow (h : QAt B w qb wb n V f xs) (hb : Below w.heap.size w w') : QAt B w' qb wb n V f xs := h.of_blocks (fun k _ hk => hb.block k hk) hb.size
theorem QAt.drewN (h : QAt B w qb wb n V f xs) (k : Nat) : QAt B (w.drewN k) qb wb n V f xs := h.of_blocks (fun _ _ _ => rfl) (Nat.le_refl _)
theorem QAt.drew (h : QAt B w qb wb n V f xs) : QAt B w.drew qb wb n V f xs := h.of_blocks (fun _ _ _ => rfl) (Nat.le_refl _)
theorem QAt.apart (h : QAt B w qb wb n V f xs) : qb ≠ wb := h.box.other h.row (by decide)
theorem QAt.ownq (h : QAt B w qb wb n V f xs) : ¬ OwnB V qb := own_other h.own h.box (by decide)
theorem QAt.ownw (h : QAt B w qb wb n V f xs) : ¬ OwnB V wb := own_other h.own h.row (by decide)
/-- The numbers are others now. -/
theorem QAt.lay (hb : RowAt w qb 2 170 (fun i => if i = 0 then V else .slice (some ⟨wb, 0, none⟩) n n)) (hr : RowAt w wb n 4 (boolsV f)) (h1 : B ≤ qb) (h2 : B ≤ wb) (ho : OutN B w V' ys) : QAt B (w.setCell ⟨qb, 0, none⟩ V') qb wb n V' f ys := by
  have hs := (But.refl (OneBlock qb) w).setCell (p := ⟨qb, 0, none⟩) (.inl rfl) V'
  refine ⟨(hb.set 0 V').congr fun i hi => by by_cases e : i = 0 <;> simp [e], ho.but hs (fun g hg e => own_other ho hb (by decide) (by rw [show g = qb from e] at hg; exact hg)), hr.but hs (fun e => (hb.other hr (by decide)) (show wb = qb from e).symm), h1, h2⟩
theorem QAt.mark (h : QAt B w qb wb n V f xs) (k : Nat) (c : Bool) : QAt B (w.setCell ⟨wb, k, none⟩ (.bool c)) qb wb n V (fun i => if i = k then c else f i) xs := by
  have hs := (But.refl (OneBlock wb) w).setCell (p := ⟨wb, k, none⟩) (.inl rfl) (.bool c)
  refine ⟨h.box.but hs (fun e => h.apart e), h.own.but hs (fun g hg e => h.ownw (by rw [show g = wb from e] at hg; exact hg)), (h.row.set k _).congr fun i hi => by unfold boolsV; by_cases e : i = k <;> simp [e], h.qge, h.wge⟩
theorem QAt.shape (h : QAt B w qb wb n V f xs) (hx : 0 < xs.length) : ∃ g cap, V = .slice (some ⟨g, 0, none⟩) xs.length cap ∧ B ≤ g ∧ xs.length ≤ cap ∧ ∀ i, i < xs.length → w.cell? ⟨g, i, none⟩ = some (.int .i64 (xs.getD i 0)) := by
  have hv : V ≠ .slice none 0 0 := fun e => by
    subst e
    rcases h.own.1.2 with ⟨_, h0⟩ | ⟨_, _, _, h0, _⟩
    · omega
    · cases h0
  obtain ⟨g, cap, cur, rfl, h1, h2, h3, h4, h5, h6, h7, h8⟩ := h.own.parts hv
  refine ⟨g, cap, rfl, h1, h4, fun i hi => ?_⟩
  have := h.own.1.cells (g := g) rfl i (.int .i64 (xs.getD i 0)) (by simp [List.getD, List.getElem?_eq_getElem hi])
  rw [← this]
  congr 1
  unfold Addr.add
  split <;> simp_all
end
set_option maxHeartbeats 4000000 in
theorem less11 (g L cap i j : Nat) (a b : Int) (w : World) (ha : w.cell? ⟨g, i, none⟩ = some (.int .i64 a)) (hb : w.cell? ⟨g, j, none⟩ = some (.int .i64 b)) (hi : i < L) (hj : j < L) :
    Calls Tryz.prog 169 #[.slice (some ⟨g, 0, none⟩) L cap, .int .i64 i, .int .i64 j] w fun e w' => ∃ c, e = .returned (.bool c) ∧ ∃ k, w' = w.drewN k := by
  have i0 : (0 : Int) ≤ (i : Int) := by omega
  have i1 : (i : Int) < (L : Int) := by omega
  have j0 : (0 : Int) ≤ (j : Int) := by omega
  have j1 : (j : Int) < (L : Int) := by omega
  go_enter Tryz.func169, Tryz.ntmps169
  go_wp2
  go_quiet (fail)
  go_wp2
  go_ret
  exact ⟨_, rfl, _, rfl⟩
set_option maxRecDepth 100000 in
set_option maxHeartbeats 4000000 in
theorem swap11 (g L cap i j : Nat) (a b : Int) (w : World) (ha : w.cell? ⟨g, i, none⟩ = some (.int .i64 a)) (hb : w.cell? ⟨g, j, none⟩ = some (.int .i64 b)) (hf : ∀ k, w.frozen? ⟨g, k, none⟩ = false) (hi : i < L) (hj : j < L) :
    Calls Tryz.prog 173 #[.slice (some ⟨g, 0, none⟩) L cap, .int .i64 i, .int .i64 j] w fun e w' => e = .returned (.tuple #[]) ∧ w' = (w.drew.setCell ⟨g, i, none⟩ (.int .i64 b)).setCell ⟨g, j, none⟩ (.int .i64 a) := by
  have i0 : (0 : Int) ≤ (i : Int) := by omega
  have i1 : (i : Int) < (L : Int) := by omega
  have j0 : (0 : Int) ≤ (j : Int) := by omega
  have j1 : (j : Int) < (L : Int) := by omega
  have fi := hf i
  have fj := hf j
  have hc : ∃ z : Int, (w.setCell ⟨g, i, none⟩ (.int .i64 b)).cell? ⟨g, j, none⟩ = some (.int .i64 z) := by
    by_cases e : i = j
    · subst e
      exact ⟨b, World.cell?_setCell_same _ _ _ ha⟩
    · exact ⟨b, (World.cell?_setCell_other _ _ _ _ (fun h => e (by injection h))).trans hb⟩
  obtain ⟨z, hz⟩ := hc
  go_enter Tryz.func173, Tryz.ntmps173
  go_wp2
  go_region
  all_goals (go_wp2; go_end0; exact ⟨rfl, rfl⟩)
theorem len11 (A : Option Addr) (L cap : Nat) (w : World) : Calls Tryz.prog 132 #[.slice A L cap] w fun e w' => e = .returned (.int .i64 L) ∧ w = w' := by
  go_enter Tryz.func132, Tryz.ntmps132
  go_wp2
  go_ret
  exact ⟨rfl, rfl⟩
end Go.Proofs.YtfdblmjgpoocpaaGreat

/- (Heap11B) The queue's Push and Pop, and how its methods are found behind the library's interface. Contracts; no condition but what each names. -/
namespace Go.Proofs.YtfdblmjgpoocpaaGreat
open Go.RowKit Go.Shelf
set_option linter.unusedVariables false
set_option linter.unusedSimpArgs false

/-- An append of one number to a queue's, as a step of a region that draws. -/
theorem step_outQ {W : World} {ops : Array Oper} {o : Oper} {a : Act} {K : Act → World → Prop} {Q : Exit → Act → World → Prop} {E : Prop} (hgd : o.guard = none) (s x : Operand)
    (ho : o.op = .call { callee := .builtin .append, args := #[s, x], argTypes := #[168, 168] }) {V : Value} {xs : List Int} {z : Int} {base : Nat} (hs : a.eval s = V) (hx : a.eval x = .slice (some ⟨W.heap.size, 0, none⟩) 1 1) (h : OutN base W V xs)
    (hb : base ≤ W.heap.size) (hl : xs.length ≤ 1000000)
    (hK : ∀ V' W', OutN base W' V' (xs ++ [z]) → Below base W W' → (∀ i, i < W.heap.size → some i ≠ V.ownBlock → W'.heap[i]? = W.heap[i]?) → W.heap.size ≤ W'.heap.size → K (a.put o.dst V') W') :
    if Region.wanted o (yielded ops a.tmps) = true then Oper.wp Tryz.prog o a (W.alloc (.cells #[.int .i64 z] 3)) K Q else E := by
  rw [if_pos (by simp [Region.wanted, hgd])]
  obtain ⟨i, hi, h1, h2, h3⟩ := info_parts int_info
  have ha : Below W.heap.size W (W.alloc (.cells #[.int .i64 z] 3)) := (Below.refl W.heap.size W).alloc (Nat.le_refl _) (.cells #[.int .i64 z] 3)
  have hg := Owns.below h ha (Nat.le_refl _)
  obtain ⟨V', W', hr, ho', hg'⟩ := run_append_q (P := Tryz.prog) _ base 168 o.type 3 i _ 1 8 Tryz.underlying168 hi h1 h2 h3 rfl (by decide) (IsNum .i64) (zero_num .i64) V xs.length (xs.map (Value.int .i64)) hg ⟨W.heap.size, 0, none⟩ 1 1 [.int .i64 z] rfl (news_one _ _ _) (by intro u hu; simp at hu; subst hu; rfl) (by intro u hu; simp at hu; subst hu; exact ⟨_, rfl⟩) (by unfold maxLen; omega) (by omega) (by simp; omega)
  have e : World.grownBy (W.alloc (.cells #[.int .i64 z] 3)) W' V.ownBlock := hg'
  unfold Oper.wp execOp
  simp only [ho, resolve, invoke, builtin, Sem.run_bind, Sem.run_pure, Result.andThen_ok, List.map_toArray, List.map_cons, List.map_nil, hs, hx, hr]
  exact hK V' W' (by rw [OutN, List.length_append, List.map_append]; exact ho') ((ha.mono hb).grown e (by simp; omega) fun j hj => (h.lt hj).1) (fun i hi hn => (e.block i (by simp; omega) hn).trans (ha.block i hi)) (Nat.le_trans (by simp) e.size)
section
variable {B qb wb n : Nat} {w w' : World} {V V' : Value} {f : Nat → Bool} {xs ys : List Int}
theorem QAt.blk (h : QAt B w qb wb n V f xs) : B ≤ qb ∧ qb < w.heap.size := ⟨h.qge, h.box.lt⟩
/-- The numbers are appended to, and the box is still as it was. -/
theorem QAt.mid (h : QAt B w qb wb n V f xs) (hb : Below B w w') (hk : ∀ i, i < w.heap.size → some i ≠ V.ownBlock → w'.heap[i]? = w.heap[i]?) (ho : OutN B w' V' ys) :
    RowAt w' qb 2 170 (fun i => if i = 0 then V else .slice (some ⟨wb, 0, none⟩) n n) ∧ QAt B (w'.setCell ⟨qb, 0, none⟩ V') qb wb n V' f ys := by
  have hbx := h.box.heap (hk qb h.box.lt (fun e => h.ownq e.symm))
  have hrw := h.row.heap (hk wb h.row.lt (fun e => h.ownw e.symm))
  exact ⟨hbx, QAt.lay hbx hrw h.qge h.wge ho⟩
theorem QAt.below (h : QAt B w qb wb n V f xs) (k : Nat) (u : Value) : Below B w (w.setCell ⟨qb, k, none⟩ u) := (Below.refl B w).setCell (p := ⟨qb, k, none⟩) h.qge _
end
def PushDone (B qb wb n : Nat) (f : Nat → Bool) (xs : List Int) (w : World) (e : Ending) (w' : World) : Prop := e = .returned (.tuple #[]) ∧ ∃ V', QAt B w' qb wb n V' f xs ∧ Below B w w'
set_option maxRecDepth 100000 in
set_option maxHeartbeats 8000000 in
theorem push11 {B qb wb n : Nat} {w : World} {V : Value} {f : Nat → Bool} {xs : List Int} (h : QAt B w qb wb n V f xs) (hl : xs.length ≤ 100000) (z : Int) :
    Calls Tryz.prog 171 #[.pointer (some ⟨qb, 0, none⟩), .iface 3 (.int .i64 z)] w (PushDone B qb wb n f (xs ++ [z]) w) := by
  have HQ := Lib.hid h
  have c0 := h.c0
  have f0 := h.box.frozen 0
  have HQd := Lib.hid h.drew
  have HQa := Lib.hid (h.grow ((Below.refl w.heap.size w).alloc (Nat.le_refl _) (.cells #[.int .i64 z] 3)))
  have ca := HQa.out.c0
  have fa := HQa.out.box.frozen 0
  have hsz : B ≤ w.heap.size := by have := h.blk; omega
  obtain ⟨vA, vc, hve, _⟩ := out_len h.own
  obtain ⟨L, hL⟩ : ∃ L, L = xs.length := ⟨_, rfl⟩
  rw [← hL] at hve
  subst hve
  have HL := Lib.hid (show xs.length ≤ 1000000 by omega)
  have hta : ∀ W : World, (Instr.typeAssert (.iface 3 (.int .i64 z)) 20 3 false).run Tryz.prog W = .ok (.int .i64 z) W := fun _ => by kernel_rfl
  clear h hL hl
  go_enter Tryz.func171, Tryz.ntmps171
  go_wp2
  go_region_law ((refine step_outQ (W := w.drew) (V := .slice vA L vc) (xs := xs) (z := z) (base := B) rfl (.tmp 8) (.tmp 11) rfl rfl rfl HQd.out.own (by simpa using hsz) HL.out ?_; intro V8 w8 ho hb hk8 hs8; obtain ⟨a8, c8, h8, _⟩ := out_len ho; generalize (xs ++ [z]).length = q8 at h8; subst h8; obtain ⟨m1, m2⟩ := HQd.out.mid hb hk8 ho; have p8 := m1.cell (i := 0) (by omega); rw [if_pos rfl] at p8; have q8 := m1.frozen 0; have HM8 := Lib.hid m2; have HB8 := Lib.hid hb; have hqq := HQ.out.qge; clear ho hb hk8 hs8 m1 m2))
  all_goals
    go_wp2
    go_end0
    exact ⟨rfl, _, HM8.out, ((Below.refl B w).drew.trans HB8.out).setCell (p := ⟨qb, 0, none⟩) hqq _⟩
theorem cut11 {base q cap : Nat} {wr : World} {ws : List Int} {p : Int} (h : OutN base wr (.slice (some ⟨q, 0, none⟩) (ws.length + 1) cap) (ws ++ [p])) : OutN base wr (.slice (some ⟨q, 0, none⟩) ws.length cap) ws := by
  have hv : Value.slice (some ⟨q, 0, none⟩) (ws.length + 1) cap ≠ .slice none 0 0 := fun e => by cases e
  obtain ⟨g', cap', cur, he, h1, h2, h3, h4, h5, h6, h7, h8⟩ := h.parts hv
  simp only [Value.slice.injEq, Option.some.injEq, Addr.mk.injEq, true_and, and_true] at he
  obtain ⟨rfl, _, rfl⟩ := he
  simp only [List.length_append, List.length_cons, List.length_nil, Nat.zero_add] at h4 h7
  have ht : cur.toList.take ws.length = ws.map (Value.int .i64) := by
    have := congrArg (List.take ws.length) h7
    rw [List.take_take, Nat.min_eq_left (by omega), List.map_append, List.take_append_of_le_length (by simp)] at this
    rw [this, List.take_of_length_le (by simp)]
  exact OutN.of_block (cap := cap) h1 h3 (by omega) h5 h6 ht h8
def PopDone (B qb wb n : Nat) (f : Nat → Bool) (xs : List Int) (z : Int) (w : World) (e : Ending) (w' : World) : Prop := e = .returned (.iface 3 (.int .i64 z)) ∧ ∃ V', QAt B w' qb wb n V' f xs ∧ Below B w w'
set_option maxRecDepth 100000 in
set_option maxHeartbeats 8000000 in
theorem pop11 {B qb wb n : Nat} {w : World} {V : Value} {f : Nat → Bool} {xs : List Int} {z : Int} (h : QAt B w qb wb n V f (xs ++ [z])) (hl : xs.length ≤ 100000) :
    Calls Tryz.prog 170 #[.pointer (some ⟨qb, 0, none⟩)] w (PopDone B qb wb n f xs z w) := by
  have HQ := Lib.hid h
  obtain ⟨g, cap, rfl, hg, hc, hcl⟩ := h.shape (by simp)
  have c0 := h.c0
  have f0 := h.box.frozen 0
  rw [List.length_append, List.length_cons, List.length_nil, Nat.zero_add] at c0 hc hcl HQ
  have cz := hcl xs.length (by omega)
  have e0 : (xs ++ [z]).getD xs.length 0 = z := by simp
  rw [e0] at cz
  have HO := Lib.hid (cut11 HQ.out.own)
  have HN := Lib.hid (QAt.lay HQ.out.box HQ.out.row HQ.out.qge HQ.out.wge HO.out)
  have HB := Lib.hid (HQ.out.below 0 (.slice (some ⟨g, 0, none⟩) xs.length cap))
  generalize xs.length = L at *
  have h1 : wrap64 (((L + 1 : Nat) : Int) - 1) = (L : Int) := by unfold wrap64; omega
  have h1' : wrap64 ((L : Int) + 1 - 1) = (L : Int) := by unfold wrap64; omega
  have h2 : (0 : Int) ≤ (L : Int) := by omega
  have h3 : (L : Int) < (L : Int) + 1 := by omega
  have h4 : (L : Int) ≤ (cap : Int) := by omega
  clear h hcl e0
  go_enter Tryz.func170, Tryz.ntmps170
  go_wp2
  go_ret
  exact ⟨rfl, _, HN.out, HB.out⟩
end Go.Proofs.YtfdblmjgpoocpaaGreat

/- (Heap11C) The library's heap over the queue: how its methods are found, up and down. Contracts; no condition but what each names. -/
namespace Go.Proofs.YtfdblmjgpoocpaaGreat
open Go.RowKit Go.Shelf
set_option linter.unusedVariables false
set_option linter.unusedSimpArgs false

theorem find_push (qb : Nat) (W : World) : (method 310 164 (.pointer (some ⟨qb, 0, none⟩)) "Push").run Tryz.prog W = .ok (171, .pointer (some ⟨qb, 0, none⟩)) W := by kernel_rfl
theorem find_pop (qb : Nat) (W : World) : (method 310 164 (.pointer (some ⟨qb, 0, none⟩)) "Pop").run Tryz.prog W = .ok (170, .pointer (some ⟨qb, 0, none⟩)) W := by kernel_rfl
theorem method_far {P : Program} {k : Nat} {t xt f : Nat} {v V : Value} {name : String} {a : Addr} {i : TypeInfo} {m : Method} {W : World} {d : TypeDesc} (hi : P.info? t = some i) (hm : i.methods.find? (·.name == name) = some m) (hf : m.func = some (f, false))
    (hp : (follow m.path.toList t (.val v)).run P W = .ok (xt, .var a) W) (hu : P.underlying xt = some d) (hd : ∀ e, d ≠ .pointer e) (hl : (loadVar xt a).run P W = .ok V W) :
    (method (k + 1) t v name).run P W = .ok (f, V) W := by
  unfold method
  simp only [Sem.run_bind, run_typeInfo W hi, Result.andThen_ok, hm, hp, hf]
  unfold receiverAt
  simp only [Sem.run_bind, run_underlying hu, Result.andThen_ok]
  cases d with
  | pointer e => exact absurd rfl (hd e)
  | _ => simp only [Place.get, hl, Result.andThen_ok, Sem.run_pure]
theorem find_in (qb : Nat) (W : World) (V : Value) (h : W.cell? ⟨qb, 0, none⟩ = some V) (name : String) (f : Nat)
    (hm : (Tryz.prog.info? 164).bind (fun i => (i.methods.find? (·.name == name)).map fun m => (m.path.toList, m.func)) = some ([⟨170, 0, true⟩], some (f, false))) :
    (method 310 164 (.pointer (some ⟨qb, 0, none⟩)) name).run Tryz.prog W = .ok (f, V) W := by
  cases hi : Tryz.prog.info? 164 with
  | none => rw [hi] at hm; cases hm
  | some i =>
    rw [hi] at hm
    simp only [Option.bind_some] at hm
    cases hf : i.methods.find? (·.name == name) with
    | none => rw [hf] at hm; cases hm
    | some m =>
      rw [hf] at hm
      simp only [Option.map_some, Option.some.injEq, Prod.mk.injEq] at hm
      refine method_far (xt := 168) (a := ⟨qb, 0, none⟩) hi hf hm.2 ?_ Tryz.underlying168 (fun e => by simp) ?_
      · rw [hm.1]
        kernel_rfl
      · have ha : ∀ W : World, (isAgg 168).run Tryz.prog W = .ok false W := fun _ => by kernel_rfl
        unfold loadVar
        simp only [Sem.run_bind, ha, Result.andThen_ok]
        simp [h]
theorem find_len (qb : Nat) (W : World) (V : Value) (h : W.cell? ⟨qb, 0, none⟩ = some V) : (method 310 164 (.pointer (some ⟨qb, 0, none⟩)) "Len").run Tryz.prog W = .ok (132, V) W := find_in qb W V h "Len" _ (by kernel_rfl)
theorem find_less (qb : Nat) (W : World) (V : Value) (h : W.cell? ⟨qb, 0, none⟩ = some V) : (method 310 164 (.pointer (some ⟨qb, 0, none⟩)) "Less").run Tryz.prog W = .ok (169, V) W := find_in qb W V h "Less" _ (by kernel_rfl)
theorem find_swap (qb : Nat) (W : World) (V : Value) (h : W.cell? ⟨qb, 0, none⟩ = some V) : (method 310 164 (.pointer (some ⟨qb, 0, none⟩)) "Swap").run Tryz.prog W = .ok (173, V) W := find_in qb W V h "Swap" _ (by kernel_rfl)
end Go.Proofs.YtfdblmjgpoocpaaGreat

/- (Heap11D) The library's up and down over the queue: its numbers are only exchanged. Contracts; no condition but what each names. -/
namespace Go.Proofs.YtfdblmjgpoocpaaGreat
open Go.RowKit Go.Shelf
set_option linter.unusedVariables false
set_option linter.unusedSimpArgs false

/-- The queue behind something that only exchanges its numbers. -/
def Turned (B qb wb n : Nat) (V : Value) (f : Nat → Bool) (xs : List Int) (w w' : World) : Prop := ∃ xs', xs'.Perm xs ∧ QAt B w' qb wb n V f xs' ∧ Below B w w'
section
variable {B qb wb n i j : Nat} {w w' : World} {V V' : Value} {f : Nat → Bool} {xs ys : List Int}
theorem Turned.refl (h : QAt B w qb wb n V f xs) : Turned B qb wb n V f xs w w := ⟨xs, .refl _, h, Below.refl _ _⟩
theorem Turned.trans {w2 : World} (h : Turned B qb wb n V f xs w w') (k : ∀ xs', xs'.Perm xs → QAt B w' qb wb n V f xs' → Turned B qb wb n V f xs' w' w2) : Turned B qb wb n V f xs w w2 := by
  obtain ⟨xs', h1, h2, h3⟩ := h
  obtain ⟨xs2, k1, k2, k3⟩ := k xs' h1 h2
  exact ⟨xs2, k1.trans h1, k2, h3.trans k3⟩
theorem Turned.after {w1 w2 : World} (h : Turned B qb wb n V f ys w1 w2) (hp : ys.Perm xs) (hb : Below B w w1) : Turned B qb wb n V f xs w w2 := by
  obtain ⟨xs2, k1, k2, k3⟩ := h
  exact ⟨xs2, k1.trans hp, k2, hb.trans k3⟩
theorem less_at (h : QAt B w qb wb n V f xs) (hi : i < xs.length) (hj : j < xs.length) :
    Calls Tryz.prog 169 #[V, .int .i64 i, .int .i64 j] w fun e w' => ∃ c, e = .returned (.bool c) ∧ QAt B w' qb wb n V f xs ∧ Below B w w' := by
  obtain ⟨g, cap, rfl, hg, hc, hcl⟩ := h.shape (by omega)
  refine (less11 g xs.length cap i j _ _ w (hcl i hi) (hcl j hj) hi hj).mono ?_
  rintro e w' ⟨c, rfl, k, rfl⟩
  exact ⟨c, rfl, h.drewN k, ⟨rfl, rfl, rfl, Nat.le_refl _, fun _ _ => rfl⟩⟩
theorem swap_at (h : QAt B w qb wb n V f xs) (hi : i < xs.length) (hj : j < xs.length) :
    Calls Tryz.prog 173 #[V, .int .i64 i, .int .i64 j] w fun e w' => e = .returned (.tuple #[]) ∧ Turned B qb wb n V f xs w w' := by
  obtain ⟨g, cap, rfl, hg, hc, hcl⟩ := h.shape (by omega)
  have hfz : ∀ k, w.frozen? ⟨g, k, none⟩ = false := fun k => by
    obtain ⟨cur, h1⟩ := h.own.typed (g := g) (by simp [Value.ownBlock])
    exact frozen_of_row w g k cur _ h1
  refine (swap11 g xs.length cap i j _ _ w (hcl i hi) (hcl j hj) hfz hi hj).mono ?_
  rintro e w' ⟨rfl, rfl⟩
  have hl : (xs.set i (xs.getD j 0)).length = xs.length := List.length_set ..
  have o1 := h.drew.own.setAt (p := i) hi (xs.getD j 0)
  have o2 := o1.setAt (p := j) hj (xs.getD i 0)
  have ei : xs.getD i 0 = xs[i] := by simp [List.getD, List.getElem?_eq_getElem hi]
  have ej : xs.getD j 0 = xs[j] := by simp [List.getD, List.getElem?_eq_getElem hj]
  have hb : But (OneBlock g) w ((w.drew.setCell ⟨g, i, none⟩ (.int .i64 (xs.getD j 0))).setCell ⟨g, j, none⟩ (.int .i64 (xs.getD i 0))) :=
    ((But.refl (OneBlock g) w).drew.setCell (p := ⟨g, i, none⟩) (.inl rfl) _).setCell (p := ⟨g, j, none⟩) (.inl rfl) _
  have hgo : OwnB (.slice (some ⟨g, 0, none⟩) xs.length cap) g := by simp [OwnB, Value.ownBlock]
  refine ⟨rfl, (xs.set i (xs.getD j 0)).set j (xs.getD i 0), ?_, ⟨h.box.but hb (fun e => h.ownq (by rw [show qb = g from e]; exact hgo)), o2, h.row.but hb (fun e => h.ownw (by rw [show wb = g from e]; exact hgo)), h.qge, h.wge⟩, ?_⟩
  · rw [ei, ej]
    exact List.set_set_perm hi hj
  · exact (((Below.refl B w).drew).setCell (p := ⟨g, i, none⟩) hg _).setCell (p := ⟨g, j, none⟩) hg _
end
set_option maxRecDepth 100000 in
set_option maxHeartbeats 8000000 in
theorem up11 {B qb wb n : Nat} {w : World} {V : Value} {f : Nat → Bool} {xs : List Int} {j : Nat} (h : QAt B w qb wb n V f xs) (hj : j < xs.length) (hl : xs.length ≤ 100000) :
    Calls Tryz.prog 150 #[.iface 164 (.pointer (some ⟨qb, 0, none⟩)), .int .i64 j] w fun e w' => e = .returned (.tuple #[]) ∧ Turned B qb wb n V f xs w w' := by
  have HQ := Lib.hid h
  have HL := Lib.hid hl
  clear h
  go_enter Tryz.func150, Tryz.ntmps150
  go_wp2
  go_loopw [1] (fun v wr => ∃ (k : Nat), k < xs.length ∧ v = .int .i64 k ∧ Hid (Turned B qb wb n V f xs w wr)) (fun v _ => (intOf v).toNat)
  case atStart => exact ⟨j, hj, rfl, Turned.refl HQ.out⟩
  case round =>
    obtain ⟨k, hk, rfl, HT⟩ := hrel
    obtain ⟨xs', hp, hq, hb⟩ := HT.out
    have hk' : k < xs'.length := by rw [hp.length_eq]; exact hk
    by_cases h0 : k = 0
    · subst h0
      have e1 : Int.tdiv (wrap64 (((0 : Nat) : Int) - 1)) 2 = 0 := by decide +kernel
      go_wp2
      go_end0
      exact ⟨rfl, HT.out⟩
    · obtain ⟨q, hq2⟩ : ∃ q, q = (k - 1) / 2 := ⟨_, rfl⟩
      have hqk : q < k := by omega
      have e0 : wrap64 ((k : Int) - 1) = (k : Int) - 1 := by unfold wrap64; omega
      have e1 : Int.tdiv ((k : Int) - 1) 2 = (q : Int) := by
        rw [show (k : Int) - 1 = ((k - 1 : Nat) : Int) by omega, hq2]; rfl
      have e2 : ((q : Int) == (k : Int)) = false := by simp; omega
      have fl := find_less qb wr V hq.c0
      have HQK := Lib.hid hqk
      clear hq2
      have HLE := Lib.hid (less_at hq hk' (show q < xs'.length by omega))
      go_wp2_with (first
        | (go_at_call 169; (with_reducible refine HLE.out.mono ?_); rintro e w1 ⟨c, rfl, hq1, hb1⟩; have HQ1 := Lib.hid hq1; have HB1 := Lib.hid hb1; have fs := find_swap qb w1 V hq1.c0; have HS1 := Lib.hid (swap_at hq1 (show q < xs'.length by omega) hk'); clear hq1 hb1)
        | (go_at_call 173; (with_reducible refine HS1.out.mono ?_); rintro e w2 ⟨rfl, ht⟩; have HT2 := Lib.hid ht; clear ht))
      · go_end0
        exact ⟨rfl, xs', hp, HQ1.out, hb.trans HB1.out⟩
      · go_roundw
        case rel => exact ⟨q, by omega, rfl, HT2.out.after hp (hb.trans HB1.out)⟩
        case measure => simp [intOf]; omega
set_option maxRecDepth 100000 in
set_option maxHeartbeats 16000000 in
theorem down11 {B qb wb n : Nat} {w : World} {V : Value} {f : Nat → Bool} {xs : List Int} {N : Nat} (h : QAt B w qb wb n V f xs) (hN : N ≤ xs.length) (hl : xs.length ≤ 100000) :
    Calls Tryz.prog 151 #[.iface 164 (.pointer (some ⟨qb, 0, none⟩)), .int .i64 0, .int .i64 N] w fun e w' => ∃ c, e = .returned (.bool c) ∧ Turned B qb wb n V f xs w w' := by
  have HQ := Lib.hid h
  have HN := Lib.hid hN
  have hN2 : N ≤ 100000 := by omega
  clear h hN hl
  go_enter Tryz.func151, Tryz.ntmps151
  go_wp2
  go_loopw [7] (fun v wr => ∃ (k : Nat), k ≤ 100000 ∧ v = .int .i64 k ∧ Hid (Turned B qb wb n V f xs w wr)) (fun v _ => N - (intOf v).toNat)
  case atStart => exact ⟨0, by omega, rfl, Turned.refl HQ.out⟩
  case round =>
    obtain ⟨k, hk, rfl, HT⟩ := hrel
    obtain ⟨xs', hp, hq, hb⟩ := HT.out
    obtain ⟨m, hm⟩ : ∃ m : Nat, m = 2 * k := ⟨_, rfl⟩
    obtain ⟨p, hpm⟩ : ∃ p : Nat, p = m + 1 := ⟨_, rfl⟩
    obtain ⟨q, hqp⟩ : ∃ q : Nat, q = p + 1 := ⟨_, rfl⟩
    have EP := Lib.hid (show (p : Int) = 2 * (k : Int) + 1 by omega)
    have EQ := Lib.hid (show (q : Int) = 2 * (k : Int) + 1 + 1 by omega)
    have p0 : ¬ 2 * (k : Int) + 1 < 0 := by omega
    have HM := Lib.hid (show k < p ∧ p < q by omega)
    have HLN : Hid (N ≤ xs'.length) := Lib.hid (by rw [hp.length_eq]; exact HN.out)
    clear hm hpm hqp
    by_cases hpN : p < N
    · have t1 : ¬ (N : Int) ≤ 2 * (k : Int) + 1 := by have := EP.out; omega
      have hpl : p < xs'.length := Nat.lt_of_lt_of_le hpN HLN.out
      have hkl : k < xs'.length := by have := HM.out; omega
      by_cases hqN : q < N
      · have t2 : 2 * (k : Int) + 1 + 1 < (N : Int) := by have := EQ.out; omega
        have hql : q < xs'.length := Nat.lt_of_lt_of_le hqN HLN.out
        have fl := find_less qb wr V hq.c0
        have HLE := Lib.hid (less_at hq hql hpl)
        rw [EP.out, EQ.out] at HLE
        have HKL := Lib.hid (And.intro hkl (And.intro hpl hql))
        have HQW := Lib.hid (And.intro hpN hqN)
        clear hkl hpl hql hpN hqN hq
        go_wp2_with (first
          | (go_at_call 169; (with_reducible refine HLE.out.mono ?_); rintro e w1 ⟨c, rfl, hq1, hb1⟩; have HQ1 := Lib.hid hq1; have HB1 := Lib.hid hb1; have fl1 := find_less qb w1 V hq1.c0; have HL1 := Lib.hid (less_at hq1 HKL.out.2.1 HKL.out.1); have HL2 := Lib.hid (less_at hq1 HKL.out.2.2 HKL.out.1); rw [EP.out] at HL1; rw [EQ.out] at HL2; clear hq1 hb1)
          | (go_at_call 169; (with_reducible refine HL1.out.mono ?_); rintro e w2 ⟨c2, rfl, hq2, hb2⟩; have HQ2 := Lib.hid hq2; have HB2 := Lib.hid (HB1.out.trans hb2); have fs := find_swap qb w2 V hq2.c0; have HS2 := Lib.hid (swap_at hq2 HKL.out.1 HKL.out.2.1); rw [EP.out] at HS2; clear hq2 hb2)
          | (go_at_call 169; (with_reducible refine HL2.out.mono ?_); rintro e w2 ⟨c2, rfl, hq2, hb2⟩; have HQ2 := Lib.hid hq2; have HB2 := Lib.hid (HB1.out.trans hb2); have fs := find_swap qb w2 V hq2.c0; have HS2 := Lib.hid (swap_at hq2 HKL.out.1 HKL.out.2.2); rw [EQ.out] at HS2; clear hq2 hb2)
          | (go_at_call 173; (with_reducible refine HS2.out.mono ?_); rintro e w3 ⟨rfl, ht⟩; have HT3 := Lib.hid ht; clear ht))
        all_goals first
          | (go_ret; exact ⟨_, rfl, xs', hp, HQ2.out, hb.trans HB2.out⟩)
          | (go_roundw
             case rel => first | exact ⟨q, by have := HQW.out; omega, congrArg (Value.int .i64) EQ.out.symm, HT3.out.after hp (hb.trans HB2.out)⟩ | exact ⟨p, by have := HQW.out; omega, congrArg (Value.int .i64) EP.out.symm, HT3.out.after hp (hb.trans HB2.out)⟩
             case measure => have h1 := HQW.out; have h2 := HM.out; have h3 := EP.out; have h4 := EQ.out; simp [intOf]; omega)
      · have t2 : ¬ 2 * (k : Int) + 1 + 1 < (N : Int) := by have := EQ.out; omega
        have fl := find_less qb wr V hq.c0
        have HLE := Lib.hid (less_at hq hpl hkl)
        rw [EP.out] at HLE
        have HKL := Lib.hid (And.intro hkl hpl)
        have HQW := Lib.hid hpN
        clear hkl hpl hpN hqN hq
        go_wp2_with (first
          | (go_at_call 169; (with_reducible refine HLE.out.mono ?_); rintro e w2 ⟨c2, rfl, hq2, hb2⟩; have HQ2 := Lib.hid hq2; have HB2 := Lib.hid hb2; have fs := find_swap qb w2 V hq2.c0; have HS2 := Lib.hid (swap_at hq2 HKL.out.1 HKL.out.2); rw [EP.out] at HS2; clear hq2 hb2)
          | (go_at_call 173; (with_reducible refine HS2.out.mono ?_); rintro e w3 ⟨rfl, ht⟩; have HT3 := Lib.hid ht; clear ht))
        all_goals first
          | (go_ret; exact ⟨_, rfl, xs', hp, HQ2.out, hb.trans HB2.out⟩)
          | (go_roundw
             case rel => exact ⟨p, by have := HQW.out; omega, congrArg (Value.int .i64) EP.out.symm, HT3.out.after hp (hb.trans HB2.out)⟩
             case measure => have h1 := HQW.out; have h2 := HM.out; have h3 := EP.out; simp [intOf]; omega)
    · have t1 : (N : Int) ≤ 2 * (k : Int) + 1 := by have := EP.out; omega
      go_wp2
      go_ret
      refine ⟨?_, HT.out⟩
      cases decide (0 < k) with
      | false => exact .inl rfl
      | true => exact .inr rfl
end Go.Proofs.YtfdblmjgpoocpaaGreat

/- (Heap11E) The library's Push and Pop over the queue; the queue as a set of numbers: newQueue, add, take. Contracts; no condition but what each names. -/
namespace Go.Proofs.YtfdblmjgpoocpaaGreat
open Go.RowKit Go.Shelf
set_option linter.unusedVariables false
set_option linter.unusedSimpArgs false

/-- The queue, with some numbers in some order. -/
def Queued (B qb wb n : Nat) (f : Nat → Bool) (xs : List Int) (w w' : World) : Prop := ∃ V' xs', xs'.Perm xs ∧ QAt B w' qb wb n V' f xs' ∧ Below B w w'
theorem Turned.queued {B qb wb n : Nat} {V : Value} {f : Nat → Bool} {xs ys : List Int} {w w1 w' : World} (h : Turned B qb wb n V f ys w1 w') (hp : ys.Perm xs) (hb : Below B w w1) : Queued B qb wb n f xs w w' := by
  obtain ⟨xs', h1, h2, h3⟩ := h
  exact ⟨V, xs', h1.trans hp, h2, hb.trans h3⟩
set_option maxRecDepth 100000 in
set_option maxHeartbeats 8000000 in
theorem heapPush11 {B qb wb n : Nat} {w : World} {V : Value} {f : Nat → Bool} {xs : List Int} (h : QAt B w qb wb n V f xs) (hl : xs.length ≤ 90000) (z : Int) :
    Calls Tryz.prog 142 #[.iface 164 (.pointer (some ⟨qb, 0, none⟩)), .iface 3 (.int .i64 z)] w fun e w' => e = .returned (.tuple #[]) ∧ Queued B qb wb n f (xs ++ [z]) w w' := by
  have HP := Lib.hid (push11 h (by omega) z)
  have hf := find_push qb w
  obtain ⟨m, hm⟩ : ∃ m, m = xs.length := ⟨_, rfl⟩
  have HM : Hid ((xs ++ [z]).length = m + 1) := Lib.hid (by simp [hm])
  have e1 : wrap64 ((m : Int) + 1 - 1) = (m : Int) := by unfold wrap64; omega
  have e3 : wrap64 (m : Int) = (m : Int) := by unfold wrap64; omega
  have HL := Lib.hid (show m + 1 ≤ 100000 by omega)
  clear h hm hl
  go_enter Tryz.func142, Tryz.ntmps142
  go_wp2_with (first
    | (go_at_call 171; (with_reducible refine HP.out.mono ?_); rintro e w1 ⟨rfl, V1, hq, hb⟩; have HQ1 := Lib.hid hq; have HB1 := Lib.hid hb; have hf1 := find_len qb w1 V1 hq.c0; obtain ⟨A1, c1, h1, _⟩ := out_len hq.own; rw [HM.out] at h1; subst h1; have HU := Lib.hid (up11 (j := m) hq (by rw [HM.out]; omega) (by rw [HM.out]; exact HL.out)); clear hq hb)
    | (go_at_call 132; (with_reducible refine (len11 A1 (m + 1) c1 w1).mono ?_); rintro e w2 ⟨rfl, rfl⟩)
    | (go_at_call 150; (with_reducible refine HU.out.mono ?_); rintro e w3 ⟨rfl, ht⟩; have HT := Lib.hid ht; clear ht))
  go_end0
  exact ⟨rfl, HT.out.queued (.refl _) HB1.out⟩
set_option maxRecDepth 100000 in
set_option maxHeartbeats 8000000 in
theorem heapPop11 {B qb wb n : Nat} {w : World} {V : Value} {f : Nat → Bool} {xs : List Int} (h : QAt B w qb wb n V f xs) (h0 : 0 < xs.length) (hl : xs.length ≤ 90000) :
    Calls Tryz.prog 143 #[.iface 164 (.pointer (some ⟨qb, 0, none⟩))] w fun e w' => ∃ z ys, e = .returned (.iface 3 (.int .i64 z)) ∧ (z :: ys).Perm xs ∧ ∃ V', QAt B w' qb wb n V' f ys ∧ Below B w w' := by
  obtain ⟨m, hm⟩ : ∃ m, xs.length = m + 1 := ⟨xs.length - 1, by omega⟩
  have HM := Lib.hid hm
  have hf := find_len qb w V h.c0
  have hs := find_swap qb w V h.c0
  have HS := Lib.hid (swap_at (i := 0) (j := m) h h0 (by omega))
  rw [show ((0 : Nat) : Int) = 0 from rfl] at HS
  obtain ⟨A, cap, hv, _⟩ := out_len h.own
  rw [hm] at hv
  subst hv
  have e1 : wrap64 ((m : Int) + 1 - 1) = (m : Int) := by unfold wrap64; omega
  have e3 : wrap64 (m : Int) = (m : Int) := by unfold wrap64; omega
  have HL := Lib.hid (show m + 1 ≤ 90000 by omega)
  clear h hm hl h0
  go_enter Tryz.func143, Tryz.ntmps143
  go_wp2_with (first
    | (go_at_call 132; (with_reducible refine (len11 A (m + 1) cap w).mono ?_); rintro e w2 ⟨rfl, rfl⟩)
    | (go_at_call 173; (with_reducible refine HS.out.mono ?_); rintro e w1 ⟨rfl, xs1, p1, q1, b1⟩; have HP1 := Lib.hid p1; have HQ1 := Lib.hid q1; have HB1 := Lib.hid b1; have HD := Lib.hid (down11 (N := m) q1 (by rw [p1.length_eq, HM.out]; omega) (by rw [p1.length_eq, HM.out]; have := HL.out; omega)); clear p1 q1 b1)
    | (go_at_call 151; (with_reducible refine HD.out.mono ?_); rintro e w2 ⟨c, rfl, xs2, p2, q2, b2⟩; obtain ⟨ys, z, hys⟩ : ∃ ys z, xs2 = ys ++ [z] := (List.eq_nil_or_concat xs2).elim (fun hn => absurd (p2.trans HP1.out).length_eq (by rw [hn, HM.out]; simp)) (fun ⟨ys, z, h⟩ => ⟨ys, z, by rw [h, List.concat_eq_append]⟩); have HY := Lib.hid hys; rw [hys] at q2; have HB2 := Lib.hid (HB1.out.trans b2); have HP2 := Lib.hid (p2.trans HP1.out); have hp2 := find_pop qb w2; have HPP := Lib.hid (pop11 q2 (by have h1 := HP2.out.length_eq; rw [hys, HM.out] at h1; simp at h1; have := HL.out; omega)); clear p2 q2 b2 hys)
    | (go_at_call 170; (with_reducible refine HPP.out.mono ?_); rintro e w3 ⟨rfl, V3, q3, b3⟩; have HQ3 := Lib.hid q3; have HB3 := Lib.hid (HB2.out.trans b3); clear q3 b3))
  go_ret
  refine ⟨z, ys, rfl, ?_, V3, HQ3.out, HB3.out⟩
  have := HP2.out
  rw [HY.out] at this
  exact (List.perm_append_comm (l₁ := [z]) (l₂ := ys)).trans this
/-- Who waits: those that are in the queue. -/
def wf (xs : List Int) : Nat → Bool := fun i => decide ((i : Int) ∈ xs)
theorem wf_perm {xs ys : List Int} (h : ys.Perm xs) : wf ys = wf xs := by
  funext i
  unfold wf
  exact decide_eq_decide.2 h.mem_iff
theorem wf_take {z : Nat} {xs ys : List Int} (h : ((z : Int) :: ys).Perm xs) (hn : xs.Nodup) : (fun i => if i = z then false else wf xs i) = wf ys := by
  funext i
  have hn' := List.nodup_cons.1 (h.nodup_iff.2 hn)
  unfold wf
  by_cases e : i = z
  · subst e
    rw [if_pos rfl]
    exact (decide_eq_false hn'.1).symm
  · rw [if_neg e]
    refine decide_eq_decide.2 ⟨fun hm => ?_, fun hm => h.mem_iff.1 (List.mem_cons_of_mem _ hm)⟩
    rcases List.mem_cons.1 (h.mem_iff.2 hm) with h1 | h1
    · exact absurd h1 (by omega)
    · exact h1
theorem wf_add {z : Nat} {xs : List Int} : (fun i => if i = z then true else wf xs i) = wf (xs ++ [(z : Int)]) := by
  funext i
  unfold wf
  by_cases e : i = z
  · subst e
    rw [if_pos rfl]
    exact (decide_eq_true (by simp)).symm
  · rw [if_neg e]
    exact decide_eq_decide.2 ⟨fun hm => by simp [hm], fun hm => by
      rcases List.mem_append.1 hm with h1 | h1
      · exact h1
      · simp at h1; exact absurd h1 (by omega)⟩
set_option maxRecDepth 100000 in
set_option maxHeartbeats 8000000 in
theorem take11 {B qb wb n : Nat} {w : World} {V : Value} {xs : List Int} (h : QAt B w qb wb n V (wf xs) xs) (hn : xs.Nodup) (hb : ∀ x ∈ xs, 0 ≤ x ∧ x < n) (h0 : 0 < xs.length) (hn2 : n ≤ 5000) (hl : xs.length ≤ 90000) :
    Calls Tryz.prog 133 #[.pointer (some ⟨qb, 0, none⟩)] w fun e w' => ∃ (z : Nat) (ys : List Int), e = .returned (.int .i64 z) ∧ z < n ∧ ((z : Int) :: ys).Perm xs ∧ ∃ V', QAt B w' qb wb n V' (wf ys) ys ∧ Below B w w' := by
  have HP := Lib.hid (heapPop11 h h0 hl)
  have HN := Lib.hid hn
  have HB := Lib.hid hb
  clear h hn hb h0 hl
  go_enter Tryz.func133, Tryz.ntmps133
  go_wp2_with (go_at_call 143; (with_reducible refine HP.out.mono ?_); rintro e w1 ⟨z, ys, rfl, hp, V1, hq, hb1⟩; obtain ⟨k, hk⟩ : ∃ k : Nat, z = k := ⟨z.toNat, by have := HB.out z (hp.mem_iff.1 (by simp)); omega⟩; subst hk; have HK : Hid (k < n) := Lib.hid (by have := HB.out _ (hp.mem_iff.1 (List.mem_cons_self (a := (k : Int)) (l := ys))); omega); have hta : ∀ W : World, (Instr.typeAssert (.iface 3 (.int .i64 (k : Int))) 20 3 false).run Tryz.prog W = .ok (.int .i64 (k : Int)) W := (fun _ => by kernel_rfl); have c1 := hq.c1; have r1 := hq.row.cell HK.out; unfold boolsV at r1; have f1 := hq.row.frozen k; have k0 : (0 : Int) ≤ (k : Int) := (by omega); have k1 : (k : Int) < (n : Int) := (by have := HK.out; omega); have HQ1 := Lib.hid hq; have HB1 := Lib.hid hb1; have HPP := Lib.hid hp; clear hq hb1 hp)
  go_ret
  refine ⟨k, ys, rfl, HK.out, HPP.out, V1, ?_, HB1.out.setCell (p := ⟨wb, k, none⟩) HQ1.out.wge _⟩
  have := HQ1.out.mark k false
  rwa [wf_take HPP.out HN.out] at this
set_option maxRecDepth 100000 in
set_option maxHeartbeats 8000000 in
theorem add11 {B qb wb n : Nat} {w : World} {V : Value} {xs : List Int} {k : Nat} (h : QAt B w qb wb n V (wf xs) xs) (hk : k < n) (hn2 : n ≤ 5000) (hl : xs.length ≤ 80000) :
    Calls Tryz.prog 131 #[.pointer (some ⟨qb, 0, none⟩), .int .i64 k] w fun e w' => e = .returned (.tuple #[]) ∧ ∃ V' ys, QAt B w' qb wb n V' (wf ys) ys ∧ Below B w w' ∧ (((k : Int) ∈ xs ∧ ys = xs) ∨ ((k : Int) ∉ xs ∧ ys.Perm (xs ++ [(k : Int)]))) := by
  have c1 := h.c1
  have r1 := h.row.cell hk
  unfold boolsV at r1
  have f1 := h.row.frozen k
  have k0 : (0 : Int) ≤ (k : Int) := by omega
  have k1 : (k : Int) < (n : Int) := by omega
  have HQ := Lib.hid h
  by_cases hm : (k : Int) ∈ xs
  · have hw : wf xs k = true := decide_eq_true hm
    rw [hw] at r1
    have HM := Lib.hid hm
    clear h hl hw hm
    go_enter Tryz.func131, Tryz.ntmps131
    go_wp2
    go_end0
    exact ⟨rfl, V, xs, HQ.out, Below.refl _ _, .inl ⟨HM.out, rfl⟩⟩
  · have hw : wf xs k = false := decide_eq_false hm
    rw [hw] at r1
    have HM := Lib.hid hm
    have hq := h.mark k true
    rw [wf_add] at hq
    have HP := Lib.hid (heapPush11 hq (by omega) (k : Int))
    have HB := Lib.hid ((Below.refl B w).setCell (p := ⟨wb, k, none⟩) h.wge (.bool true))
    clear h hl hw hm hq
    go_enter Tryz.func131, Tryz.ntmps131
    go_wp2_with (go_at_call 142; (with_reducible refine HP.out.mono ?_); rintro e w1 ⟨rfl, V1, ys, hp, hq, hb⟩; have HP1 := Lib.hid hp; have HQ1 := Lib.hid hq; have HB1 := Lib.hid (HB.out.trans hb); clear hp hq hb)
    go_end0
    refine ⟨rfl, V1, ys, ?_, HB1.out, .inr ⟨HM.out, HP1.out⟩⟩
    have := HQ1.out
    rwa [← wf_perm HP1.out] at this
set_option maxRecDepth 100000 in
set_option maxHeartbeats 8000000 in
theorem newQueue11 (n : Nat) (hn : n ≤ 5000) (w : World) :
    Calls Tryz.prog 130 #[.int .i64 n] w fun e w' => ∃ qb wb, e = .returned (.pointer (some ⟨qb, 0, none⟩)) ∧ QAt w.heap.size w' qb wb n (.slice none 0 0) (wf []) [] ∧ Below w.heap.size w w' := by
  have hmk := make_bools n (by omega)
  have HB := Lib.hid (bools_made n w)
  have n0 : (0 : Int) ≤ (n : Int) := by omega
  have n1 : (n : Int) ≤ 5000 := by omega
  generalize madeCells (Value.bool false).cells (n * 1) = mb at *
  go_enter Tryz.func130, Tryz.ntmps130
  go_wp2
  go_ret
  have hx := heap_alloc_new (w.alloc (.cells mb 4)) (.cells #[.slice none 0 0, .slice (some ⟨w.heap.size, 0, none⟩) n n] 170)
  rw [World.size_alloc] at hx
  have ha := (Below.refl (w.alloc (.cells mb 4)).heap.size _).alloc (Nat.le_refl _) (.cells #[.slice none 0 0, .slice (some ⟨w.heap.size, 0, none⟩) n n] 170)
  refine ⟨w.heap.size + 1, w.heap.size, rfl, ⟨⟨_, hx, rfl, fun i hi => ?_⟩, Owns.nil _ _ _ _ _, (HB.out.congr fun i hi => by unfold boolsV wf; simp).below ha (by simp), by omega, Nat.le_refl _⟩, ((Below.refl _ _).alloc (Nat.le_refl _) _).alloc (by simp) _⟩
  rcases (show i = 0 ∨ i = 1 by omega) with rfl | rfl <;> rfl
end Go.Proofs.YtfdblmjgpoocpaaGreat

/- (Pre11) The landed predecessors. Contract; no condition but that what follows is in rows. -/
namespace Go.Proofs.YtfdblmjgpoocpaaGreat
open Go.RowKit Go.Shelf
set_option linter.unusedVariables false
set_option linter.unusedSimpArgs false

/-- A row of lists, read in any world that has its blocks as they were. -/
theorem lists_row {base g n k : Nat} {w : World} {Xs : Nat → Value} {nx : Nat → List Int} (h : Lists base w g n Xs nx) (hk : k < n) :
    ∃ XA Xc, ∀ W : World, (∀ b, base ≤ b → b < w.heap.size → W.heap[b]? = w.heap[b]?) → W.cell? ⟨g, k, none⟩ = some (.slice XA (nx k).length Xc) ∧ (∀ j, j < (nx k).length → ∃ b, XA = some ⟨b, 0, none⟩ ∧ W.cell? ⟨b, j, none⟩ = some (.int .i64 ((nx k).getD j 0))) := by
  obtain ⟨A, cap, he, _⟩ := out_len (h.own k hk)
  refine ⟨A, cap, fun W hW => ⟨?_, fun j hj => ?_⟩⟩
  · rw [World.cell?_of_block (hW g h.ge h.row.lt), h.row.cell hk, he]
  · have ho := h.own k hk
    have hv : Xs k ≠ .slice none 0 0 := fun e => by
      rw [e] at ho
      rcases ho.1.2 with ⟨_, h0⟩ | ⟨_, _, _, h0, _⟩
      · omega
      · cases h0
    obtain ⟨g', cap', cur, he', h1, h2, h3, h4, h5, h6, h7, h8⟩ := ho.parts hv
    rw [he'] at he ho
    simp only [Value.slice.injEq] at he
    obtain ⟨rfl, _, _⟩ := he
    refine ⟨g', rfl, ?_⟩
    rw [World.cell?_of_block (hW g' h1 h2)]
    have := ho.1.cells (g := g') rfl j (.int .i64 ((nx k).getD j 0)) (by simp [List.getD, List.getElem?_eq_getElem hj])
    rw [← this]
    congr 1
    unfold Addr.add
    split <;> simp_all
/-- What predecessors has in memory. -/
structure PreAt (w wr : World) (n : Nat) (Ys : Nat → Value) (P : Nat → List Int) : Prop where
  bel : Below w.heap.size w wr
  row : RowAt wr w.heap.size n 35 Ys
  own : ∀ i, i < n → OutN w.heap.size wr (Ys i) (P i)
  apart : ∀ i j, i < n → j < n → i ≠ j → ∀ b, (Ys i).ownBlock = some b → (Ys j).ownBlock ≠ some b
def addP (P : Nat → List Int) (x a : Nat) : Nat → List Int := fun i => if i = x then P i ++ [(a : Int)] else P i
theorem PreAt.lists {w wr : World} {n : Nat} {Ys : Nat → Value} {P : Nat → List Int} (h : PreAt w wr n Ys P) : Lists w.heap.size wr w.heap.size n Ys P := ⟨Nat.le_refl _, h.row, h.own⟩
theorem PreAt.start (w : World) (n : Nat) : PreAt w (w.alloc (.cells (madeCells (Value.slice none 0 0).cells (n * 1)) 35)) n (fun _ => .slice none 0 0) (fun _ => []) :=
  ⟨(Below.refl _ _).alloc (Nat.le_refl _) _, lists_made n w, fun i _ => Owns.nil _ _ _ _ _, fun i j _ _ _ b hb => by simp [Value.ownBlock] at hb⟩
/-- One is appended to a row. -/
theorem PreAt.mid {w wr w' : World} {n x a : Nat} {Ys : Nat → Value} {P : Nat → List Int} {V' : Value} (h : PreAt w wr n Ys P) (hx : x < n) (ho : OutN w.heap.size w' V' (P x ++ [(a : Int)])) (hb : Below w.heap.size wr w')
    (hk : ∀ i, i < wr.heap.size → some i ≠ (Ys x).ownBlock → w'.heap[i]? = wr.heap[i]?) (hs : wr.heap.size ≤ w'.heap.size) (hw : V'.ownBlock = (Ys x).ownBlock ∨ V'.ownBlock = some (wr.heap.size + 1)) :
    RowAt w' w.heap.size n 35 Ys ∧ PreAt w (w'.setCell ⟨w.heap.size, x, none⟩ V') n (fun i => if i = x then V' else Ys i) (addP P x a) := by
  have hrow : RowAt w' w.heap.size n 35 Ys := h.row.heap (hk _ h.row.lt (fun e => own_ne (h.own x hx) h.row (by unfold OwnB; exact e.symm)))
  have hset := (But.refl (OneBlock w.heap.size) w').setCell (p := ⟨w.heap.size, x, none⟩) (.inl rfl) V'
  have hne : ∀ (v : Value) (xs : List Int), OutN w.heap.size w' v xs → OutN w.heap.size (w'.setCell ⟨w.heap.size, x, none⟩ V') v xs := fun v xs hv => hv.but hset (fun g hg e => own_ne hv hrow (by unfold OwnB; rw [show w.heap.size = g from e.symm]; exact hg))
  refine ⟨hrow, ⟨(h.bel.trans hb).setCell (p := ⟨w.heap.size, x, none⟩) (Nat.le_refl _) _, (hrow.set x V').congr fun i hi => rfl, fun i hi => ?_, fun i j hi hj hij b hbk => ?_⟩⟩
  · unfold addP
    by_cases e : i = x
    · subst e
      rw [if_pos rfl, if_pos rfl]
      exact hne _ _ ho
    · rw [if_neg e, if_neg e]
      refine hne _ _ (Owns.of_blocks (h.own i hi) (fun g hg => hk g ((h.own i hi).lt hg).2 (fun e2 => ?_)) hs)
      exact h.apart i x hi hx e g hg e2.symm
  · have hfar : ∀ k, k < n → (Ys k).ownBlock ≠ some (wr.heap.size + 1) := fun k hk e => by have := ((h.own k hk).lt e).2; omega
    by_cases e : i = x
    · subst e
      simp only [if_true] at hbk
      have hji : ¬ j = i := fun h => hij h.symm
      simp only [if_neg hji]
      intro hj2
      rcases hw with hw | hw
      · rw [hw] at hbk
        exact h.apart i j hi hj hij b hbk hj2
      · rw [hw] at hbk
        injection hbk with hbk
        subst hbk
        exact hfar j hj hj2
    · simp only [if_neg e] at hbk
      by_cases e2 : j = x
      · subst e2
        simp only [if_true]
        intro hj2
        rcases hw with hw | hw
        · rw [hw] at hj2
          exact h.apart i j hi hj hij b hbk hj2
        · rw [hw] at hj2
          injection hj2 with hj2
          subst hj2
          exact hfar i hi hbk
      · simp only [if_neg e2]
        exact h.apart i j hi hj hij b hbk
theorem PreAt.grow {w wr W : World} {n : Nat} {Ys : Nat → Value} {P : Nat → List Int} (h : PreAt w wr n Ys P) (hb : Below wr.heap.size wr W) : PreAt w W n Ys P :=
  ⟨h.bel.trans (hb.mono h.bel.size), h.row.below hb h.row.lt, fun i hi => Owns.below (h.own i hi) hb (Nat.le_refl _), h.apart⟩
/-- Who goes where, so far: all of the first k, and the first j of what follows k. -/
structure PreM (n : Nat) (nx : Nat → List Int) (k j : Nat) (P : Nat → List Int) : Prop where
  mem : ∀ i, i < n → ∀ a : Int, a ∈ P i ↔ (∃ b, b < k ∧ a = (b : Int) ∧ (i : Int) ∈ nx b) ∨ (a = (k : Int) ∧ (i : Int) ∈ (nx k).take j)
  len : ∀ i, i < n → (P i).length ≤ 2 * k + j
theorem PreM.start (n : Nat) (nx : Nat → List Int) : PreM n nx 0 0 (fun _ => []) := ⟨fun i hi a => by simp, fun i hi => by simp⟩
theorem PreM.add {n k j x : Nat} {nx : Nat → List Int} {P : Nat → List Int} (h : PreM n nx k j P) (hj : j < (nx k).length) (hx : (nx k).getD j 0 = (x : Int)) : PreM n nx k (j + 1) (addP P x k) := by
  have e : (nx k).take (j + 1) = (nx k).take j ++ [(x : Int)] := by
    rw [List.take_add_one, List.getElem?_eq_getElem hj]
    simp [List.getD, List.getElem?_eq_getElem hj] at hx
    simp [hx]
  refine ⟨fun i hi a => ?_, fun i hi => ?_⟩
  · unfold addP
    rw [e]
    by_cases ei : i = x
    · subst ei
      rw [if_pos rfl, List.mem_append, h.mem i hi a, List.mem_singleton, List.mem_append, List.mem_singleton]
      constructor
      · rintro ((h1 | h1) | h1)
        · exact .inl h1
        · exact .inr ⟨h1.1, .inl h1.2⟩
        · exact .inr ⟨h1, .inr rfl⟩
      · rintro (h1 | ⟨h1, _⟩)
        · exact .inl (.inl h1)
        · exact .inr h1
    · rw [if_neg ei, h.mem i hi a]
      have : ¬ (i : Int) = (x : Int) := by omega
      simp [this]
  · unfold addP
    have := h.len i hi
    split
    · rw [List.length_append]; simp; omega
    · omega
theorem PreM.next {n k : Nat} {nx : Nat → List Int} {P : Nat → List Int} (h : PreM n nx k (nx k).length P) (h2 : (nx k).length ≤ 2) : PreM n nx (k + 1) 0 P := by
  refine ⟨fun i hi a => ?_, fun i hi => by have := h.len i hi; omega⟩
  rw [h.mem i hi a, List.take_length, List.take_zero]
  constructor
  · rintro (⟨b, h1, h3, h4⟩ | ⟨h1, h3⟩)
    · exact .inl ⟨b, by omega, h3, h4⟩
    · exact .inl ⟨k, by omega, h1, h3⟩
  · rintro (⟨b, h1, h3, h4⟩ | ⟨_, h3⟩)
    · by_cases e : b = k
      · subst e; exact .inr ⟨h3, h4⟩
      · exact .inl ⟨b, by omega, h3, h4⟩
    · cases h3
def PreDone (w : World) (n : Nat) (nx : Nat → List Int) (e : Ending) (w' : World) : Prop :=
  ∃ Ys P, e = .returned (.slice (some ⟨w.heap.size, 0, none⟩) n n) ∧ Lists w.heap.size w' w.heap.size n Ys P ∧ Below w.heap.size w w' ∧ (∀ i, i < n → ∀ a : Int, a ∈ P i ↔ ∃ b, b < n ∧ a = (b : Int) ∧ (i : Int) ∈ nx b) ∧ ∀ i, i < n → (P i).length ≤ 20000
set_option maxRecDepth 100000 in
set_option maxHeartbeats 16000000 in
theorem predecessors11 (base g n : Nat) (Xs : Nat → Value) (nx : Nat → List Int) (w : World) (hL : Lists base w g n Xs nx) (hn : n ≤ 4096) (hb : ∀ i, i < n → ∀ x ∈ nx i, 0 ≤ x ∧ x < n) (h2 : ∀ i, (nx i).length ≤ 2) :
    Calls Tryz.prog 129 #[.slice (some ⟨g, 0, none⟩) n n] w (PreDone w n nx) := by
  have HLR := Lib.hid (fun k hk => lists_row (k := k) hL hk)
  have HBD := Lib.hid hb
  have H2 := Lib.hid h2
  have hmk := make_lists n (by omega)
  have HP0 := Lib.hid (PreAt.start w n)
  generalize madeCells (Value.slice none 0 0).cells (n * 1) = mb at *
  have hnI : (n : Int) ≤ 4096 := by omega
  have HN4 := Lib.hid hn
  clear hL hb h2 hn
  go_enter Tryz.func129, Tryz.ntmps129
  go_wp2
  go_loopw [13] (fun v wr => ∃ (k : Nat) (Ys : Nat → Value) (P : Nat → List Int), k ≤ n ∧ v = .int .i64 k ∧ Hid (PreAt w wr n Ys P ∧ PreM n nx k 0 P)) (fun v _ => n - (intOf v).toNat)
  case atStart => exact ⟨0, _, _, by omega, rfl, HP0.out, PreM.start n nx⟩
  case round =>
    obtain ⟨k, Ys, P, hk, rfl, HR⟩ := hrel
    by_cases hlt : k < n
    · have hadd : wrap64 ((k : Int) + 1) = (k : Int) + 1 := by unfold wrap64; omega
      have k0 : (0 : Int) ≤ (k : Int) := by omega
      have k1 : (k : Int) < (n : Int) := by omega
      obtain ⟨XA, Xc, hrow⟩ := HLR.out k hlt
      have HROW := Lib.hid hrow
      obtain ⟨xl, hxl⟩ : ∃ xl, xl = (nx k).length := ⟨_, rfl⟩
      have HXL := Lib.hid hxl
      have c0 := (hrow wr (fun b _ hb => HR.out.1.bel.block b hb)).1
      rw [← hxl] at c0
      have xl2 : xl ≤ 2 := by rw [hxl]; exact H2.out k
      have HLT := Lib.hid hlt
      clear hrow hxl hlt
      go_wp2
      go_loopw [20] (fun v wi => ∃ (j : Nat) (Zs : Nat → Value) (R : Nat → List Int), j ≤ xl ∧ v = .int .i64 j ∧ Hid (PreAt w wi n Zs R ∧ PreM n nx k j R)) (fun v _ => xl - (intOf v).toNat)
      case atStart => exact ⟨0, Ys, P, by omega, rfl, HR.out⟩
      case round =>
        obtain ⟨j, Zs, R, hj, rfl, HI⟩ := hrel
        by_cases hjl : j < xl
        · have hadj : wrap64 ((j : Int) + 1) = (j : Int) + 1 := by unfold wrap64; omega
          have j0 : (0 : Int) ≤ (j : Int) := by omega
          have j1 : (j : Int) < (xl : Int) := by omega
          have hjl' : j < (nx k).length := by rw [← HXL.out]; exact hjl
          obtain ⟨b, hXA, hcj⟩ := (HROW.out wr (fun b _ hb => HI.out.1.bel.block b hb)).2 j hjl'
          subst hXA
          have hxm : (nx k).getD j 0 ∈ nx k := by rw [List.getD, List.getElem?_eq_getElem hjl']; exact List.getElem_mem hjl'
          have hxb := HBD.out k HLT.out _ hxm
          obtain ⟨x, hx⟩ : ∃ x : Nat, (nx k).getD j 0 = x := ⟨((nx k).getD j 0).toNat, by omega⟩
          rw [hx] at hcj hxb
          have x0 : (0 : Int) ≤ (x : Int) := hxb.1
          have x1 : (x : Int) < (n : Int) := hxb.2
          have hxn : x < n := by omega
          have r0 := HI.out.1.row.cell hxn
          have q0 := HI.out.1.row.frozen x
          have ho := HI.out.1.own x hxn
          obtain ⟨pA, pc, hpe, _⟩ := out_len ho
          obtain ⟨pl, hpl⟩ : ∃ pl, pl = (R x).length := ⟨_, rfl⟩
          rw [← hpl] at hpe
          rw [hpe] at r0
          have HO := Lib.hid ho
          rw [hpe] at HO
          have HPE := Lib.hid hpe
          have HSX := Lib.hid hxn
          have HPL : Hid ((R x).length ≤ 1000000) := Lib.hid (by have := HI.out.2.len x hxn; have := HN4.out; have := HLT.out; omega)
          have HMID := Lib.hid (fun V' w' ho hb hk hs hw => HI.out.1.mid (x := x) (a := k) (V' := V') (w' := w') hxn ho hb hk hs hw)
          have HSZ : Hid (w.heap.size ≤ wr.heap.size) := Lib.hid HI.out.1.bel.size
          have HADD := Lib.hid (HI.out.2.add hjl' hx)
          have HJ := Lib.hid hjl
          clear hx hxm hxb hjl hjl' ho hpe hpl
          go_wp2_with (at_builtin; (refine wpList_outW (W := wr) (V := .slice pA pl pc) (xs := R x) (z := (k : Int)) rfl _ _ rfl rfl rfl HO.out HSZ.out HPL.out ?_; intro V6 w6 ho hb hk6 hs6 hw6; have HM := Lib.hid (HMID.out V6 w6 ho hb (by rw [HPE.out]; exact hk6) hs6 (by rw [HPE.out]; exact hw6)); obtain ⟨a6, c6, h6⟩ := owns_len ho; generalize (R x ++ [(k : Int)]).length = q6 at h6; subst h6; have r6 := HM.out.1.cell HSX.out; have q6' := HM.out.1.frozen x; clear ho hb hk6 hs6 hw6))
          go_roundw
          case rel => exact ⟨j + 1, _, _, by have := HJ.out; omega, by go_num, HM.out.2, HADD.out⟩
          case measure => have := HJ.out; simp [intOf]; omega
        · obtain rfl : j = xl := by omega
          have HNX : Hid (PreM n nx (k + 1) 0 R) := Lib.hid (PreM.next (by rw [← HXL.out]; exact HI.out.2) (H2.out k))
          go_wp2
          go_roundw
          case rel => exact ⟨k + 1, Zs, R, by have := HLT.out; omega, by go_num, HI.out.1, HNX.out⟩
          case measure => have := HLT.out; simp [intOf]; omega
    · obtain rfl : k = n := by omega
      go_wp2
      go_ret
      refine ⟨Ys, P, rfl, HR.out.1.lists, HR.out.1.bel, fun i hi a => ?_, fun i hi => by have := HR.out.2.len i hi; have := HN4.out; omega⟩
      rw [HR.out.2.mem i hi a]
      simp
end Go.Proofs.YtfdblmjgpoocpaaGreat

/- (Rep11) The library's Repeat of one word, so many times. Contract; no condition but that they are few. -/
namespace Go.Proofs.YtfdblmjgpoocpaaGreat
open Go.RowKit Go.Shelf
set_option linter.unusedVariables false
set_option linter.unusedSimpArgs false

set_option maxHeartbeats 4000000 in
theorem mul64_one (n : Nat) (hn : n ≤ 5000) (w : World) : Calls Tryz.prog 149 #[.int .u64 1, .int .u64 n] w fun e w' => e = .returned (.tuple #[.int .u64 0, .int .u64 n]) ∧ w = w' := by
  have h1 : bits .and .u64 (n : Int) 4294967295 = (n : Int) := by
    have := u64_and_nat n 4294967295 (by omega) (by decide)
    rw [show (n &&& 4294967295 : Nat) = n from by rw [show (4294967295 : Nat) = 2 ^ 32 - 1 from rfl, Nat.and_two_pow_sub_one_eq_mod]; omega] at this
    exact this
  have h2 : bits .and .u64 (1 : Int) 4294967295 = 1 := by decide +kernel
  have h3 : bits .and .u64 (0 : Int) 4294967295 = 0 := by decide +kernel
  have h4 : (n : Int) / 4294967296 = 0 := by omega
  go_enter Tryz.func149, Tryz.ntmps149
  go_wp2
  go_ret2
  exact ⟨rfl, rfl⟩
theorem mul_one11 (n : Nat) (hn : n ≤ 5000) (w : World) : Calls Tryz.prog 141 #[.int .u64 1, .int .u64 n] w fun e w' => e = .returned (.tuple #[.int .u64 0, .int .u64 n]) ∧ w = w' := by
  have HM := Lib.hid (mul64_one n hn w)
  clear hn
  go_enter Tryz.func141, Tryz.ntmps141
  go_wp2_with (go_at_call 149; (with_reducible refine HM.out.mono ?_); rintro e w1 ⟨rfl, rfl⟩)
  go_ret2
  exact ⟨rfl, rfl⟩
/-- A row of which the first k are laid. -/
def repL (n k : Nat) (C : Value) : List Value := List.replicate k C ++ List.replicate (n - k) (.int .u64 0)
theorem repL_len {n k : Nat} {C : Value} (h : k ≤ n) : (repL n k C).length = n := by simp [repL]; omega
theorem repL_lay {n k m : Nat} {C : Value} (h : k + m ≤ n) : splice (repL n k C) k (List.replicate m C) = repL n (k + m) C := by
  unfold splice repL
  rw [List.length_replicate, List.take_append_of_le_length (by simp), List.take_of_length_le (by simp), List.drop_append, List.drop_eq_nil_of_le (by simp), List.nil_append, List.length_replicate, List.drop_replicate, ← List.append_assoc, List.replicate_append_replicate]
  congr 2
  omega
theorem repL_first {n : Nat} {C : Value} (h : 1 ≤ n) : splice (List.replicate n (.int .u64 0)) 0 [C] = repL n 1 C := by
  have := repL_lay (n := n) (k := 0) (m := 1) (C := C) (by omega)
  unfold repL at this ⊢
  simpa using this
theorem u64_size : (Tryz.prog.info? 112).map (·.size) = some 1 := by kernel_rfl
structure RepAt (w wr : World) (n k : Nat) (C : Value) : Prop where
  bel : Below w.heap.size w wr
  row : wr.heap[w.heap.size]? = some (.cells (repL n k C).toArray 112 (0, 0))
theorem RepAt.cell {w wr : World} {n k : Nat} {C : Value} (h : RepAt w wr n k C) {i : Nat} (hi : i < k) : wr.cell? ⟨w.heap.size, i, none⟩ = some C := by
  rw [cell_of_row _ _ _ _ _ _ h.row]
  unfold repL
  simp [List.getElem?_append, hi]
set_option maxRecDepth 100000 in
set_option maxHeartbeats 8000000 in
theorem repeat11 (xb n : Nat) (c : Int) (w : World) (hx : w.cell? ⟨xb, 0, none⟩ = some (.int .u64 c)) (hxb : xb < w.heap.size) (h1 : 1 ≤ n) (hn : n ≤ 5000) :
    Calls Tryz.prog 128 #[.slice (some ⟨xb, 0, none⟩) 1 1, .int .i64 n] w fun e w' => e = .returned (.slice (some ⟨w.heap.size, 0, none⟩) n n) ∧ RepAt w w' n n (.int .u64 c) := by
  have HM := Lib.hid (mul_one11 n hn w)
  have hmk := make_u64s n (by omega)
  have hmb : madeCells (Value.int .u64 0).cells (n * 1) = (List.replicate n (.int .u64 0)).toArray := by
    apply Array.ext_getElem?
    intro i
    rcases Nat.lt_or_ge i n with hi | hi
    · rw [made_row rfl hi]; simp [hi]
    · rw [Array.getElem?_eq_none (by simp [madeCells]; omega)]; simp [hi]
  have n0 : ¬ (n : Int) < 0 := by omega
  have n1 : (n : Int) ≤ 5000 := by omega
  have n2 : ¬ 9223372036854775807 < (n : Int) := by omega
  have w1 : IntKind.u64.wrap (n : Int) = (n : Int) := by rw [IntKind.wrap_u64]; omega
  have w2 : wrap64 (n : Int) = (n : Int) := by unfold wrap64; omega
  have HX := Lib.hid hx
  have HXB := Lib.hid hxb
  have HMB := Lib.hid hmb
  have H1 := Lib.hid h1
  generalize madeCells (Value.int .u64 0).cells (n * 1) = mb at *
  obtain ⟨Z0, hz⟩ : ∃ Z0 : List Value, Z0 = List.replicate n (.int .u64 0) := ⟨_, rfl⟩
  have HG : Hid ((w.alloc (.cells mb 112)).heap[w.heap.size]? = some (.cells Z0.toArray 112 (0, 0))) := Lib.hid (by rw [hz, ← hmb]; exact heap_alloc_new w (.cells mb 112))
  have HMN : Hid ([Value.int .u64 c].length = Nat.min 1 n) := Lib.hid (by simp only [Nat.min_def]; split <;> simp <;> omega)
  have HSRC : Hid (∀ j v, [Value.int .u64 c][j]? = some v → (w.alloc (.cells mb 112)).cell? ((⟨xb, 0, none⟩ : Addr).add j) = some v) := Lib.hid (fun j v hj => by
    cases j with
    | succ j => simp at hj
    | zero =>
    simp at hj
    subst hj
    exact (((Below.refl w.heap.size w).alloc (Nat.le_refl _) (.cells mb 112)).cell (p := ⟨xb, 0, none⟩) hxb).trans hx)
  have HFIT : Hid (0 + [Value.int .u64 c].length ≤ Z0.length) := Lib.hid (by rw [hz]; simp; omega)
  have HONE : Hid (∀ v ∈ [Value.int .u64 c], v.oneCell' = true) := Lib.hid (by intro v hv; simp at hv; subst hv; rfl)
  have HBA := Lib.hid ((Below.refl w.heap.size w).alloc (Nat.le_refl _) (.cells mb 112))
  have HST : Hid (∀ w2 : World, Hid (w2.heap[w.heap.size]? = some (.cells (splice Z0 0 [.int .u64 c]).toArray 112 (0, 0))) → Below w.heap.size w w2 → RepAt w w2 n 1 (.int .u64 c)) := Lib.hid (fun w2 hg hb => ⟨hb, by rw [← repL_first h1, ← hz]; exact hg.out⟩)
  clear hz
  clear hx hmb h1 hxb
  go_enter Tryz.func128, Tryz.ntmps128
  go_wp2_with (first
    | (go_at_call 141; (with_reducible refine HM.out.mono ?_); rintro e w1 ⟨rfl, rfl⟩)
    | (with_reducible refine wpList_copy_splice rfl (.tmp 31) (.tmp 32) 109 109 rfl 112 Tryz.underlying109 u64_size (some ⟨w.heap.size, 0, none⟩) (some ⟨xb, 0, none⟩) n n 1 1 rfl rfl w.heap.size 0 Z0 112 HG.out [.int .u64 c] HMN.out (fun _ => ⟨rfl, _, rfl, HSRC.out⟩) HFIT.out HONE.out w.heap.size w HBA.out (Nat.le_refl _) ?_; intro w2 hg2 hb2; have HR2 := Lib.hid (HST.out w2 hg2 hb2); clear hg2 hb2))
  go_loopw [8] (fun v wr => ∃ k : Nat, 1 ≤ k ∧ k ≤ n ∧ v = .int .i64 k ∧ Hid (RepAt w wr n k (.int .u64 c))) (fun v _ => n - (intOf v).toNat)
  case atStart => exact ⟨1, Nat.le_refl _, H1.out, rfl, HR2.out⟩
  case round =>
    obtain ⟨k, hk1, hkn, rfl, HR⟩ := hrel
    by_cases hlt : k < n
    · have k0 : (0 : Int) ≤ (k : Int) := by omega
      have k1 : (k : Int) < (n : Int) := by omega
      have k2 : (k : Int) ≤ (n : Int) := by omega
      have k3 : ¬ n = k := by omega
      obtain ⟨m, hm⟩ : ∃ m, m = Nat.min k (n - k) := ⟨_, rfl⟩
      have HMN := Lib.hid (show k + m ≤ n ∧ 1 ≤ m ∧ m = Nat.min k (n - k) ∧ m ≤ k from by
        have h1 : m ≤ k := by rw [hm]; exact Nat.min_le_left _ _
        have h2 : m ≤ n - k := by rw [hm]; exact Nat.min_le_right _ _
        have h3 : 1 ≤ m := by rw [hm]; exact Nat.le_min.2 ⟨hk1, Nat.le_sub_of_add_le (by omega)⟩
        exact ⟨by omega, h3, hm, h1⟩)
      have HK := Lib.hid (And.intro hk1 hlt)
      obtain ⟨RL, hrl⟩ : ∃ RL, RL = repL n k (.int .u64 c) := ⟨_, rfl⟩
      obtain ⟨CS, hcs⟩ : ∃ CS : List Value, CS = List.replicate m (.int .u64 c) := ⟨_, rfl⟩
      have HROW : Hid (wr.drew.heap[w.heap.size]? = some (.cells RL.toArray 112 (0, 0))) := Lib.hid (by rw [hrl]; exact HR.out.row)
      have HCL : Hid (CS.length = Nat.min k (n - k)) := Lib.hid (by rw [hcs, List.length_replicate]; exact HMN.out.2.2.1)
      have HCM : Hid (CS.length = m) := Lib.hid (by rw [hcs, List.length_replicate])
      have HCC : Hid (∀ j v, CS[j]? = some v → wr.drew.cell? ((⟨w.heap.size, 0, none⟩ : Addr).add j) = some v) := Lib.hid (fun j v hj => by
        rw [addr_zero_j]
        rw [hcs, List.getElem?_replicate] at hj
        split at hj
        · rename_i hjm
          rw [← hj]
          exact HR.out.cell (i := j) (by have := HMN.out.2.2.2; omega)
        · cases hj)
      have HCF : Hid (k + CS.length ≤ RL.length) := Lib.hid (by rw [HCM.out, hrl, repL_len hkn]; exact HMN.out.1)
      have HCO : Hid (∀ v ∈ CS, v.oneCell' = true) := Lib.hid (by intro v hv; rw [hcs, List.mem_replicate] at hv; rw [hv.2]; rfl)
      have HBL : Hid (Below w.heap.size w wr.drew) := Lib.hid HR.out.bel.drew
      have HNX : Hid (∀ w2 : World, Hid (w2.heap[w.heap.size]? = some (.cells (splice RL k CS).toArray 112 (0, 0))) → Below w.heap.size w w2 → RepAt w w2 n (k + m) (.int .u64 c)) := Lib.hid (fun w2 hg hb => ⟨hb, by rw [← repL_lay HMN.out.1, ← hrl, ← hcs]; exact hg.out⟩)
      clear hm hk1 hkn hlt hrl hcs
      go_wp2
      go_region_law (
        (refine step_copy_splice (w := wr.drew) ?_ (.tmp 41) (.tmp 44) 109 109 ?_ 112 Tryz.underlying109 u64_size (some ⟨w.heap.size, k, none⟩) (some ⟨w.heap.size, 0, none⟩) (n - k) (n - k) k n ?_ ?_ w.heap.size k RL 112 ?_ CS HCL.out ?_ HCF.out HCO.out w.heap.size w ?_ ?_ ?_)
        · rfl
        · rfl
        · simp [go_sem]
        · simp [go_sem]
        · exact HROW.out
        · exact (fun _ => ⟨rfl, _, rfl, HCC.out⟩)
        · exact HBL.out
        · exact Nat.le_refl _
        (intro w2 hg2 hb2; have HR3 := Lib.hid (HNX.out w2 hg2 hb2); rw [HCM.out]; have HW3 : Hid (IntKind.i64.wrap ((k : Int) + (m : Int)) = ((k + m : Nat) : Int)) := Lib.hid (by have := HMN.out.1; rw [IntKind.wrap_i64]; omega); clear hg2 hb2))
      all_goals
        go_simp
        go_roundw
        case rel =>
          (repeat apply Exists.intro)
          refine ⟨⟨k + m, by have := HK.out; omega, HMN.out.1, congrArg (Value.int .i64) HW3.out, HR3.out⟩, rfl⟩
        case measure =>
          have h1 := HMN.out
          have h2 := HK.out
          have h3 : IntKind.i64.wrap ((k : Int) + (m : Int)) = (k : Int) + (m : Int) := by rw [IntKind.wrap_i64]; omega
          simp [intOf, h3]
          omega
    · obtain rfl : k = n := by omega
      go_wp2
      go_ret
      exact ⟨rfl, HR.out⟩
end Go.Proofs.YtfdblmjgpoocpaaGreat
