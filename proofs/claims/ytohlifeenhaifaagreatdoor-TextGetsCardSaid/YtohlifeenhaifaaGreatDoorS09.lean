/- Lemmas of Kit07, Laws07C, Laws07D, Math07C, Open07, each with its own remark. -/
import Derived.Test.YtohlifeenhaifaaGreatDoorS08
import Derived.StillTailTactics
import Derived.BigQuiet
import Derived.Deep.QuietTactic
import Derived.Test.YtohlifeenhaifaaGreatDoorS05
import Derived.Deep.Slices
/- (Kit07) What the statements of layer 7 share: long, SameCode, CopyCode. Contracts; no condition but what each names. -/
namespace Go.Proofs.YtohlifeenhaifaaGreatDoor
open Go.RowKit Go.Shelf
set_option linter.unusedVariables false
set_option linter.unusedSimpArgs false

/-- Are instructions more than are gone through? -/
def longV (l : List InsV) (m : Nat) : Bool := (l.take (m + 1)).any (fun y => decide (20 < y.args.length)) || decide (m < l.length)
theorem long_no {l : List InsV} {m : Nat} (h : longV l m = false) : l.length ≤ m ∧ ∀ y ∈ l, y.args.length ≤ 20 := by
  unfold longV at h
  rw [Bool.or_eq_false_iff] at h
  have h1 := of_decide_eq_false h.2
  refine ⟨by omega, fun y hy => ?_⟩
  rw [List.take_of_length_le (by omega), List.any_eq_false] at h
  have := h.1 y hy
  simp at this
  omega
def sameY (x y : InsV) : Bool := sameV x.op x.a x.b x.c x.n x.args y.op y.a y.b y.c y.n y.args
theorem sameY_iff (x y : InsV) : sameY x y = true ↔ x = y := by
  unfold sameY sameV
  rw [decide_eq_true_iff]
  constructor
  · rintro ⟨h1, h2, h3, h4, h5, h6⟩
    cases x
    cases y
    simp_all
  · rintro rfl
    exact ⟨rfl, rfl, rfl, rfl, rfl, rfl⟩
theorem sameY_refl (x : InsV) : sameY x x = true := (sameY_iff x x).2 rfl
def sameCV : List InsV → List InsV → Bool
  | [], [] => true
  | x :: l, y :: k => sameY x y && sameCV l k
  | _, _ => false
theorem sameCV_iff : ∀ (l k : List InsV), sameCV l k = true ↔ l = k
  | [], [] => by simp [sameCV]
  | [], y :: k => by simp [sameCV]
  | x :: l, [] => by simp [sameCV]
  | x :: l, y :: k => by simp [sameCV, sameY_iff, sameCV_iff l k]
theorem sameCV_false {l k : List InsV} (h : l ≠ k) : sameCV l k = false := by
  cases hh : sameCV l k
  · rfl
  · exact absurd ((sameCV_iff l k).1 hh) h
theorem take_same {l m : List InsV} {k : Nat} (hl : l.length = m.length) (hk : l.length ≤ k) (h : ∀ i, i < k → l.getD i .zero = m.getD i .zero) : l = m := by
  refine List.ext_getElem hl fun i h1 h2 => ?_
  have := h i (by omega)
  simpa [List.getD, List.getElem?_eq_getElem h1, List.getElem?_eq_getElem h2] using this
end Go.Proofs.YtohlifeenhaifaaGreatDoor

/- (Laws07C) CodeApart: no instruction's bytes begin another one's. Contract; no condition but that the arguments are instructions in memory. -/
namespace Go.Proofs.YtohlifeenhaifaaGreatDoor
open Go.RowKit Go.Shelf
set_option linter.unusedVariables false
set_option linter.unusedSimpArgs false

theorem begins_same {x y : InsV} (hx : x.chk = 0) (hy : y.chk = 0) {rest : List Int} (h : y.bytes = x.bytes ++ rest) : x = y := by
  have h1 := get_put hx (b := y.bytes) (post := rest) (k := 0) (by simpa using h)
  have h2 := get_put hy (b := y.bytes) (post := []) (k := 0) (by simp)
  rw [h1] at h2
  injection h2 with _ _ h2 _
theorem apart_bytes {x y : InsV} (hx : x.chk = 0) (hy : y.chk = 0) {n : Nat} (hn : n = min x.bytes.length y.bytes.length) : (x.bytes.take n == y.bytes.take n) = sameY x y := by
  rw [Bool.eq_iff_iff, beq_iff_eq, sameY_iff]
  constructor
  · intro h
    rcases Nat.le_total x.bytes.length y.bytes.length with hl | hl
    · have e : n = x.bytes.length := by omega
      rw [e, List.take_length] at h
      exact begins_same hx hy (rest := y.bytes.drop x.bytes.length) (by conv => lhs; rw [← List.take_append_drop x.bytes.length y.bytes, ← h])
    · have e : n = y.bytes.length := by omega
      rw [e, List.take_length] at h
      exact (begins_same hy hx (rest := x.bytes.drop y.bytes.length) (by conv => lhs; rw [← List.take_append_drop y.bytes.length x.bytes, h])).symm
  · rintro rfl
    rfl
theorem take_bytes {W : World} {B g cap n : Nat} {xs : List Int} (h : IsBytes W B (.slice (some ⟨g, 0, none⟩) xs.length cap) xs) (hg : g < B) (hn : n ≤ xs.length) : IsBytes W B (.slice (some ⟨g, 0, none⟩) n cap) (xs.take n) := by
  by_cases hp : 0 < xs.length
  · obtain ⟨b, off, cap', e, hc, hb, hcl⟩ := h.plain hp
    cases e
    have := bytes_part (p := 0) h hcl hb (by omega : 0 + n ≤ xs.length) (cap' := cap) (by omega)
    simpa using this
  · obtain rfl : n = 0 := by omega
    have hx : xs = [] := List.eq_nil_of_length_eq_zero (by omega)
    subst hx
    simpa using h
theorem out_plain {w W : World} {V : Value} {xs : List Int} (h : OutB w W V xs) (hp : 0 < xs.length) : ∃ g cap, V = .slice (some ⟨g, 0, none⟩) xs.length cap ∧ xs.length ≤ cap ∧ g < W.heap.size := by
  rcases h.own.1.2 with ⟨_, h0⟩ | ⟨g, cap, cur, rfl, _, _, h3, _⟩
  · omega
  · exact ⟨g, cap, rfl, h3, (h.own.lt (g := g) (by simp [Value.ownBlock])).2⟩
theorem code_two {W : World} {X1 X2 : Value} {x y : InsV} (h1 : IsNums .i64 W W.heap.size X1 x.args) (h2 : IsNums .i64 W W.heap.size X2 y.args) (i1 : InsB x) (i2 : InsB y) (g : Nat) (hg : g = W.heap.size) :
    IsCode (W.alloc (.cells #[.int .i64 x.op, .int .i64 x.a, .int .i64 x.b, .int .i64 x.c, .int .i64 x.n, X1, .int .i64 y.op, .int .i64 y.a, .int .i64 y.b, .int .i64 y.c, .int .i64 y.n, X2] 28)) (W.heap.size + 1) (.slice (some ⟨g, 0, none⟩) 2 2) [x, y] := by
  subst hg
  have ha : Below W.heap.size W (W.alloc (.cells #[.int .i64 x.op, .int .i64 x.a, .int .i64 x.b, .int .i64 x.c, .int .i64 x.n, X1, .int .i64 y.op, .int .i64 y.a, .int .i64 y.b, .int .i64 y.c, .int .i64 y.n, X2] 28)) := (Below.refl _ W).alloc (Nat.le_refl _) _
  refine ⟨by unfold maxLen; simp, by intro z hz; simp at hz; rcases hz with rfl | rfl <;> assumption, .inr ⟨W.heap.size, 0, 2, rfl, Nat.le_refl _, Nat.lt_succ_self _, fun i hi => ?_⟩⟩
  have hn := heap_alloc_new W (.cells #[.int .i64 x.op, .int .i64 x.a, .int .i64 x.b, .int .i64 x.c, .int .i64 x.n, X1, .int .i64 y.op, .int .i64 y.a, .int .i64 y.b, .int .i64 y.c, .int .i64 y.n, X2] 28)
  rcases (show i = 0 ∨ i = 1 by simp at hi; omega) with rfl | rfl
  · refine ⟨X1, (h1.below ha (Nat.le_refl _)).more (Nat.le_succ _), fun j hj => ?_⟩
    rw [cell_of_row _ _ _ _ _ _ hn]
    rcases (show j = 0 ∨ j = 1 ∨ j = 2 ∨ j = 3 ∨ j = 4 ∨ j = 5 by omega) with rfl | rfl | rfl | rfl | rfl | rfl <;> rfl
  · refine ⟨X2, (h2.below ha (Nat.le_refl _)).more (Nat.le_succ _), fun j hj => ?_⟩
    rw [cell_of_row _ _ _ _ _ _ hn]
    rcases (show j = 0 ∨ j = 1 ∨ j = 2 ∨ j = 3 ∨ j = 4 ∨ j = 5 by omega) with rfl | rfl | rfl | rfl | rfl | rfl <;> rfl
/-- Two boxes in front of all that is made. -/
structure TwoB (w W : World) (x y : InsV) (X1 X2 : Value) : Prop where
  one : W.heap[w.heap.size]? = some (.cells (insCells x.op x.a x.b x.c x.n X1) 28 (0, 0))
  two : W.heap[w.heap.size + 1]? = some (.cells (insCells y.op y.a y.b y.c y.n X2) 28 (0, 0))
  bel : Below w.heap.size w W
theorem TwoB.grow {w W W' : World} {x y : InsV} {X1 X2 : Value} (h : TwoB w W x y X1 X2) (hb : Below W.heap.size W W') : TwoB w W' x y X1 X2 :=
  ⟨(hb.block _ (heap_lt h.one)).trans h.one, (hb.block _ (heap_lt h.two)).trans h.two, h.bel.trans (hb.mono h.bel.size)⟩
theorem two_new (w : World) (x y : InsV) (X1 X2 : Value) : TwoB w ((w.alloc (.cells (insCells x.op x.a x.b x.c x.n X1) 28)).alloc (.cells (insCells y.op y.a y.b y.c y.n X2) 28)) x y X1 X2 := by
  refine ⟨?_, ?_, ((Below.refl _ w).alloc (Nat.le_refl _) _).alloc (by simp) _⟩
  · rw [Below.heap_alloc _ _ _ (by simp)]
    exact heap_alloc_new _ _
  · have := heap_alloc_new (w.alloc (.cells (insCells x.op x.a x.b x.c x.n X1) 28)) (.cells (insCells y.op y.a y.b y.c y.n X2) 28)
    simpa using this
theorem puti_any {w w' : World} {y : InsV} {e : Ending} (h : PutI w y e w') : ∃ V z, e = .returned (.tuple #[V, .int .i64 z]) ∧ (y.chk ≠ 0 → z ≠ 0) ∧ Below w.heap.size w w' := by
  rcases h with ⟨h0, rfl, hb⟩ | ⟨h0, v, rfl, ho⟩
  · exact ⟨_, _, rfl, fun h => h, hb⟩
  · exact ⟨_, _, rfl, fun h => absurd h0 h, ho.bel⟩
theorem quiet_of7 {P : Program} {f : FuncId} {args : Array Value} {w : World} {n : Nat} {v : Value} (h : Calls P f args (w.drewN n) fun e w' => e = .returned v ∧ w.drewN n = w') :
    Calls P f args (w.drewN n) fun e w'' => e = .returned v ∧ ∃ m, w'' = w.drewN m := h.mono fun _ _ ⟨he, hm⟩ => ⟨he, n, hm.symm⟩
end Go.Proofs.YtohlifeenhaifaaGreatDoor

/- (Laws07D) CodeBack: instructions that can be put are split as they were, each at its place. Contract; no condition but that the instructions lie in a row. -/
namespace Go.Proofs.YtohlifeenhaifaaGreatDoor
open Go.RowKit Go.Shelf
set_option linter.unusedVariables false
set_option linter.unusedSimpArgs false

def placesV : List InsV → Nat → List Int
  | [], _ => []
  | y :: l, p => (p : Int) :: placesV l (p + y.bytes.length)
theorem placesV_length : ∀ (l : List InsV) (p : Nat), (placesV l p).length = l.length
  | [], _ => rfl
  | y :: l, p => by simp [placesV, placesV_length l]
theorem allB_cons (y : InsV) (l : List InsV) : allB (y :: l) = y.bytes ++ allB l := by simp [allB]
theorem placesV_at : ∀ (l : List InsV) (p : Nat) {i : Nat}, i < l.length → (placesV l p).getD i 0 = ((p + (allB (l.take i)).length : Nat) : Int)
  | [], _, i, hi => absurd hi (by simp)
  | y :: l, p, 0, _ => by simp [placesV, allB]
  | y :: l, p, i + 1, hi => by
    simp only [placesV, List.getD_cons_succ, List.take_succ_cons, allB_cons, List.length_append]
    rw [placesV_at l _ (by simpa using hi)]
    congr 1
    omega
theorem all_length : ∀ l : List InsV, l.length ≤ (allB l).length
  | [] => by simp
  | y :: l => by
    rw [allB_cons, List.length_append, List.length_cons]
    have := bytes_pos y
    have := all_length l
    omega
theorem split_all {b : List Int} : ∀ (m : List InsV) (f at_ : Nat) (l : List InsV) (ps : List Int), firstE m = 0 → at_ ≤ b.length → b.drop at_ = allB m → m.length ≤ f → splitF b f at_ l ps = ⟨0, 0, l ++ m, ps ++ placesV m at_⟩
  | [], f, at_, l, ps, _, ha, hd, _ => by
    have : at_ = b.length := by
      have := congrArg List.length hd
      simp [allB] at this
      omega
    subst this
    rw [split_end]
    simp [placesV]
  | y :: m, f, at_, l, ps, h0, ha, hd, hf => by
    have hy : y.chk = 0 := by
      simp only [firstE] at h0
      split at h0
      · assumption
      · rename_i h; exact absurd h0 h
    have hm : firstE m = 0 := by simpa only [firstE, if_pos hy] using h0
    rw [allB_cons] at hd
    obtain ⟨h1, h2, h3⟩ := drop_parts hd (bytes_pos y)
    have hp := bytes_pos y
    have hg := get_put hy hd
    obtain ⟨f', rfl⟩ : ∃ f', f = f' + 1 := ⟨f - 1, by simp at hf; omega⟩
    rw [split_step (by omega) (by rw [hg]), hg]
    dsimp only
    rw [split_all m f' _ _ _ hm (by omega) h3 (by simpa using hf)]
    simp [placesV]
theorem first_all {l : List InsV} (h : joinE l = 0) : firstE l = 0 ∧ (allB l).length ≤ 4096 := by
  unfold joinE at h
  by_cases h0 : firstE l = 0
  · rw [if_pos h0] at h
    refine ⟨h0, ?_⟩
    split at h
    · omega
    · omega
  · rw [if_neg h0] at h
    exact absurd h h0
theorem split_join {l : List InsV} (h : joinE l = 0) : splitV (allB l) = ⟨0, 0, l, placesV l 0⟩ := by
  obtain ⟨h0, hl⟩ := first_all h
  unfold splitV
  rw [if_neg (by omega), split_all l _ 0 [] [] h0 (Nat.zero_le _) (by simp) (by have := all_length l; omega)]
  simp
theorem first_at : ∀ (l : List InsV) {i : Nat}, i < l.length → firstE l = 0 → (l.getD i .zero).chk = 0
  | [], i, hi, _ => absurd hi (by simp)
  | y :: l, i, hi, h => by
    have hy : y.chk = 0 := by
      simp only [firstE] at h
      split at h
      · assumption
      · rename_i h'; exact absurd h h'
    cases i with
    | zero => simpa using hy
    | succ i =>
      simp only [List.getD_cons_succ]
      exact first_at l (by simpa using hi) (by simpa only [firstE, if_pos hy] using h)
theorem all_at {l : List InsV} {i : Nat} (hi : i < l.length) : (allB l).drop (allB (l.take i)).length = (l.getD i .zero).bytes ++ allB (l.drop (i + 1)) ∧ allB (l.take (i + 1)) = allB (l.take i) ++ (l.getD i .zero).bytes := by
  have h1 : l = l.take i ++ (l.getD i .zero :: l.drop (i + 1)) := by
    conv => lhs; rw [← List.take_append_drop i l, List.drop_eq_getElem_cons hi]
    simp [List.getD, List.getElem?_eq_getElem hi]
  refine ⟨?_, by rw [code_take l hi, all_snoc]⟩
  have h2 : allB l = allB (l.take i) ++ ((l.getD i .zero).bytes ++ allB (l.drop (i + 1))) := by
    conv => lhs; rw [h1]
    unfold allB
    rw [List.flatMap_append, List.flatMap_cons]
  rw [h2, List.drop_left]
theorem get_at_place {l : List InsV} (h : joinE l = 0) {i : Nat} (hi : i < l.length) : getI (allB l) (allB (l.take i)).length = ⟨0, 0, l.getD i .zero, (allB (l.take i)).length + (l.getD i .zero).bytes.length⟩ ∧ (allB (l.take i)).length < (allB l).length := by
  obtain ⟨h0, hl⟩ := first_all h
  have hc := first_at l hi h0
  have ha := (all_at hi).1
  refine ⟨get_put hc ha, ?_⟩
  have := (drop_parts ha (bytes_pos _)).1
  have := bytes_pos (l.getD i .zero)
  omega
theorem neqF_no (z k : Int) (w : World) : (binOp .neq 41 (.agg #[.int .i64 z, .int .i64 k]) (.agg #[.int .i64 z, .int .i64 k])).run Tryz.prog w = .ok (.bool false) w := by go_simp
/-- What a round has at hand: what was got, and where. -/
structure BkAt (w W : World) (bx : Nat) (y : InsV) (X : Value) : Prop where
  ins : W.heap[bx]? = some (.cells (insCells y.op y.a y.b y.c y.n X) 28 (0, 0))
  fau : flt W (bx + 1) 0 0
  num : IsNums .i64 W W.heap.size X y.args
  bel : Below w.heap.size w W
theorem BkAt.grow {w W W' : World} {bx : Nat} {y : InsV} {X : Value} (h : BkAt w W bx y X) (hb : Below W.heap.size W W') : BkAt w W' bx y X :=
  ⟨(hb.block _ (heap_lt h.ins)).trans h.ins, (hb.block _ (heap_lt h.fau)).trans h.fau, (h.num.below hb (Nat.le_refl _)).more hb.size, h.bel.trans (hb.mono h.bel.size)⟩
theorem BkAt.drew {w W : World} {bx : Nat} {y : InsV} {X : Value} (h : BkAt w W bx y X) : BkAt w W.drew bx y X := ⟨h.ins, h.fau, nums_drew h.num, h.bel.drew⟩
theorem bk_cells {w W : World} {bx b o : Nat} {y : InsV} {X Xi : Value} (h : BkAt w W bx y X) (hb : b < w.heap.size) (hc : ∀ j, j < 6 → w.cell? ⟨b, o + j, none⟩ = some (insCell y Xi j)) :
    W.cell? ⟨bx, 0, none⟩ = some (.int .i64 y.op) ∧ W.cell? ⟨bx, 1, none⟩ = some (.int .i64 y.a) ∧ W.cell? ⟨bx, 2, none⟩ = some (.int .i64 y.b) ∧ W.cell? ⟨bx, 3, none⟩ = some (.int .i64 y.c) ∧ W.cell? ⟨bx, 4, none⟩ = some (.int .i64 y.n) ∧ W.cell? ⟨bx, 5, none⟩ = some X ∧
    W.cell? ⟨bx + 1, 0, none⟩ = some (.int .i64 0) ∧ W.cell? ⟨bx + 1, 1, none⟩ = some (.int .i64 0) ∧
    W.cell? ⟨b, o, none⟩ = some (.int .i64 y.op) ∧ W.cell? ⟨b, o + 1, none⟩ = some (.int .i64 y.a) ∧ W.cell? ⟨b, o + 2, none⟩ = some (.int .i64 y.b) ∧ W.cell? ⟨b, o + 3, none⟩ = some (.int .i64 y.c) ∧ W.cell? ⟨b, o + 4, none⟩ = some (.int .i64 y.n) ∧ W.cell? ⟨b, o + 5, none⟩ = some Xi := by
  obtain ⟨c0, c1, c2, c3, c4, c5⟩ := cells6 h.ins
  have hw : ∀ j, j < 6 → W.cell? ⟨b, o + j, none⟩ = some (insCell y Xi j) := fun j hj => (h.bel.cell (p := ⟨b, o + j, none⟩) hb).trans (hc j hj)
  exact ⟨c0, c1, c2, c3, c4, c5, flt0 h.fau, flt1 h.fau, hw 0 (by omega), hw 1 (by omega), hw 2 (by omega), hw 3 (by omega), hw 4 (by omega), hw 5 (by omega)⟩
theorem bk_new {w wr w5 : World} {y : InsV} {X : Value} (hbw : Below w.heap.size w wr) (hb : Below wr.heap.size wr w5) (ho : OutN wr.heap.size w5 X y.args) :
    BkAt w ((w5.alloc (.cells (insCells y.op y.a y.b y.c y.n X) 28)).alloc (.cells #[.int .i64 0, .int .i64 0] 41)) w5.heap.size y X := by
  have ha := ((Below.refl w5.heap.size w5).alloc (Nat.le_refl _) (.cells (insCells y.op y.a y.b y.c y.n X) 28)).alloc (by simp) (.cells #[.int .i64 0, .int .i64 0] 41)
  refine ⟨?_, ?_, IsNums.of_owns (Owns.below ho ha (Nat.le_refl _)) (Nat.le_refl _), hbw.trans ((hb.trans (ha.mono hb.size)).mono hbw.size)⟩
  · rw [Below.heap_alloc _ _ _ (by simp)]
    exact heap_alloc_new _ _
  · have := heap_alloc_new (w5.alloc (.cells (insCells y.op y.a y.b y.c y.n X) 28)) (.cells #[.int .i64 0, .int .i64 0] 41)
    rw [World.size_alloc] at this
    exact this
theorem bk_below {wr : World} (w5 : World) (y : InsV) (X : Value) (hb : Below wr.heap.size wr w5) : Below wr.heap.size w5 ((w5.alloc (.cells (insCells y.op y.a y.b y.c y.n X) 28)).alloc (.cells #[.int .i64 0, .int .i64 0] 41)) :=
  (((Below.refl w5.heap.size w5).alloc (Nat.le_refl _) (.cells (insCells y.op y.a y.b y.c y.n X) 28)).alloc (by simp) (.cells #[.int .i64 0, .int .i64 0] 41)).mono hb.size
end Go.Proofs.YtohlifeenhaifaaGreatDoor

/- (Math07C) What bytes are split into is joined as these bytes; cut anywhere but at a place, they are not split: plain mathematics, and a choice. -/
namespace Go.Proofs.YtohlifeenhaifaaGreatDoor
open Go.RowKit Go.Shelf
set_option linter.unusedVariables false
set_option linter.unusedSimpArgs false

theorem split_ok {b : List Int} (hb : ∀ x ∈ b, 0 ≤ x ∧ x < 256) : ∀ (f at_ : Nat) (l : List InsV) (ps : List Int), at_ ≤ b.length → b.length + 1 ≤ f + at_ → (splitF b f at_ l ps).err = 0 →
    ∃ m, splitF b f at_ l ps = ⟨0, 0, l ++ m, ps ++ placesV m at_⟩ ∧ firstE m = 0 ∧ b.drop at_ = allB m
  | 0, at_, l, ps, h1, h2, h => by omega
  | f + 1, at_, l, ps, h1, h2, h => by
    by_cases hlt : at_ < b.length
    · by_cases he : (getI b at_).err = 0
      · obtain ⟨g1, g2, g3, g4, g5⟩ := put_get hb h1 he
        rw [split_step hlt he] at h ⊢
        obtain ⟨m, hm, h0, hd⟩ := split_ok hb f _ _ _ g5 (by omega) h
        refine ⟨(getI b at_).y :: m, ?_, ?_, ?_⟩
        · have hlen : at_ + (getI b at_).y.bytes.length = (getI b at_).next := by
            rw [g3, part_len (by omega)]
            omega
          rw [hm]
          simp only [placesV, hlen, List.append_assoc, List.cons_append, List.nil_append]
        · simp only [firstE, if_pos g2]
          exact h0
        · rw [allB_cons, ← hd, g3]
          have := take_parts (b := b) (p := at_) (p1 := (getI b at_).next) (p2 := b.length) (by omega) g5
          have e1 : (b.drop (getI b at_).next).take (b.length - (getI b at_).next) = b.drop (getI b at_).next := List.take_of_length_le (by simp)
          have e2 : (b.drop at_).take (b.length - at_) = b.drop at_ := List.take_of_length_le (by simp)
          rw [e1, e2] at this
          exact this.symm
      · rw [split_stop hlt he] at h
        exact absurd h he
    · obtain rfl : at_ = b.length := by omega
      rw [split_end]
      exact ⟨[], by simp [placesV], rfl, by simp [allB]⟩
theorem split_err {b : List Int} (hb : ∀ x ∈ b, 0 ≤ x ∧ x < 256) : ∀ (f at_ : Nat) (l : List InsV) (ps : List Int), at_ ≤ b.length → (splitF b f at_ l ps).err ≠ 0 → 0 ≤ (splitF b f at_ l ps).at_ ∧ (splitF b f at_ l ps).at_ ≤ b.length
  | 0, at_, l, ps, h1, h => by simp [splitF] at h
  | f + 1, at_, l, ps, h1, h => by
    by_cases hlt : at_ < b.length
    · by_cases he : (getI b at_).err = 0
      · obtain ⟨g1, g2, g3, g4, g5⟩ := put_get hb h1 he
        rw [split_step hlt he] at h ⊢
        exact split_err hb f _ _ _ g5 h
      · rw [split_stop hlt he] at h ⊢
        show 0 ≤ (getI b at_).at_ ∧ (getI b at_).at_ ≤ b.length
        rw [getI_err he]
        split <;> omega
    · obtain rfl : at_ = b.length := by omega
      rw [split_end] at h
      exact absurd rfl h
theorem splitV_ok {b : List Int} (hb : ∀ x ∈ b, 0 ≤ x ∧ x < 256) (h : (splitV b).err = 0) : splitV b = ⟨0, 0, (splitV b).l, placesV (splitV b).l 0⟩ ∧ firstE (splitV b).l = 0 ∧ allB (splitV b).l = b := by
  by_cases hl : 4096 < b.length
  · have : splitV b = ⟨3, 4096, [], []⟩ := by unfold splitV; rw [if_pos hl]
    rw [this] at h
    simp at h
  · have e : splitV b = splitF b (b.length + 1) 0 [] [] := by unfold splitV; rw [if_neg hl]
    rw [e] at h ⊢
    obtain ⟨m, hm, h0, hd⟩ := split_ok hb _ 0 [] [] (Nat.zero_le _) (by omega) h
    rw [hm]
    exact ⟨by simp, by simpa using h0, by simpa using hd.symm⟩
theorem splitV_err {b : List Int} (hb : ∀ x ∈ b, 0 ≤ x ∧ x < 256) (hl : b.length ≤ 4096) (h : (splitV b).err ≠ 0) : 0 ≤ (splitV b).at_ ∧ (splitV b).at_ ≤ b.length := by
  have e : splitV b = splitF b (b.length + 1) 0 [] [] := by unfold splitV; rw [if_neg (by omega)]
  rw [e] at h ⊢
  exact split_err hb _ 0 [] [] (Nat.zero_le _) h
theorem join_ok {l : List InsV} (h0 : firstE l = 0) (hl : (allB l).length ≤ 4096) : joinE l = 0 := by
  unfold joinE
  rw [if_pos h0, if_neg (by omega)]
theorem first_take : ∀ (l : List InsV) (i : Nat), firstE l = 0 → firstE (l.take i) = 0
  | [], i, _ => by simp [firstE]
  | y :: l, 0, _ => by simp [firstE]
  | y :: l, i + 1, h => by
    simp only [List.take_succ_cons, firstE] at h ⊢
    by_cases hy : y.chk = 0
    · rw [if_pos hy] at h ⊢
      exact first_take l i h
    · rw [if_neg hy] at h
      exact absurd h hy
/-- Bytes that begin others: so do the instructions. -/
theorem begin_all : ∀ (m l : List InsV) (rest : List Int), firstE m = 0 → firstE l = 0 → allB l = allB m ++ rest → m = l.take m.length
  | [], l, rest, _, _, _ => by simp
  | y :: m, [], rest, _, _, h => by
    have := congrArg List.length h
    have := bytes_pos y
    simp [allB] at *
    omega
  | y :: m, x :: l, rest, hm, hl, h => by
    have hy : y.chk = 0 := first_at (y :: m) (i := 0) (by simp) hm
    have hx : x.chk = 0 := first_at (x :: l) (i := 0) (by simp) hl
    have hm' : firstE m = 0 := by simpa only [firstE, if_pos hy] using hm
    have hl' : firstE l = 0 := by simpa only [firstE, if_pos hx] using hl
    rw [allB_cons, allB_cons, List.append_assoc] at h
    have g1 := get_put hx (b := x.bytes ++ allB l) (post := allB l) (k := 0) (by simp)
    have g2 := get_put hy (b := x.bytes ++ allB l) (post := allB m ++ rest) (k := 0) (by simpa using h)
    rw [g1] at g2
    injection g2 with _ _ g2 _
    subst g2
    have h3 := List.append_cancel_left h
    have := begin_all m l rest hm' hl' h3
    simp only [List.length_cons, List.take_succ_cons]
    rw [← this]
theorem all_take (l : List InsV) (i : Nat) : allB l = allB (l.take i) ++ allB (l.drop i) := by
  conv => lhs; rw [← List.take_append_drop i l]
  unfold allB
  exact List.flatMap_append
/-- Is the cut at a place, or at the end? -/
def wholeV (n : Nat) (ps : List Int) (c : Int) : Bool := decide (c = n) || ps.any (fun p => p == c)
theorem places_any {l : List InsV} {c : Int} : (placesV l 0).any (fun p => p == c) = true ↔ ∃ i, i < l.length ∧ c = ((allB (l.take i)).length : Nat) := by
  rw [List.any_eq_true]
  constructor
  · rintro ⟨p, hp, he⟩
    obtain ⟨i, hi, rfl⟩ := List.getElem_of_mem hp
    rw [placesV_length] at hi
    have := placesV_at l 0 hi
    simp only [List.getD, List.getElem?_eq_getElem (show i < (placesV l 0).length by rw [placesV_length]; exact hi), Option.getD_some, Nat.zero_add] at this
    exact ⟨i, hi, by rw [← this]; exact (beq_iff_eq.1 he).symm⟩
  · rintro ⟨i, hi, rfl⟩
    have hi' : i < (placesV l 0).length := by rw [placesV_length]; exact hi
    refine ⟨(placesV l 0)[i], List.getElem_mem hi', ?_⟩
    have := placesV_at l 0 hi
    simp only [List.getD, List.getElem?_eq_getElem hi', Option.getD_some, Nat.zero_add] at this
    rw [this]
    simp
/-- Cut at a place, bytes are split into the instructions ahead. -/
theorem cut_whole {l : List InsV} {b : List Int} (h0 : firstE l = 0) (hb : allB l = b) (hl : b.length ≤ 4096) {c : Nat} (hc : c ≤ b.length) :
    (wholeV b.length (placesV l 0) c = true → ∃ i, splitV (b.take c) = ⟨0, 0, l.take i, placesV (l.take i) 0⟩ ∧ i ≤ l.length) := by
  intro h
  unfold wholeV at h
  rw [Bool.or_eq_true, decide_eq_true_iff, places_any] at h
  have : ∃ i, i ≤ l.length ∧ c = (allB (l.take i)).length := by
    rcases h with h | ⟨i, hi, h⟩
    · exact ⟨l.length, Nat.le_refl _, by rw [List.take_length, hb]; omega⟩
    · exact ⟨i, by omega, by omega⟩
  obtain ⟨i, hi, he⟩ := this
  refine ⟨i, ?_, hi⟩
  have e : b.take c = allB (l.take i) := by
    rw [← hb, all_take l i, he, List.take_left]
  rw [e]
  exact split_join (join_ok (first_take l i h0) (by rw [← he]; omega))
theorem cut_not {l : List InsV} {b : List Int} (hbd : ∀ x ∈ b, 0 ≤ x ∧ x < 256) (h0 : firstE l = 0) (hb : allB l = b) (hl : b.length ≤ 4096) {c : Nat} (hc : c ≤ b.length) (h : wholeV b.length (placesV l 0) c = false) : (splitV (b.take c)).err ≠ 0 := by
  intro he
  obtain ⟨h1, h2, h3⟩ := splitV_ok (b := b.take c) (fun x hx => hbd x (List.mem_of_mem_take hx)) he
  have hm := begin_all _ l (b.drop c) h2 h0 (by rw [h3, hb, List.take_append_drop])
  generalize (splitV (b.take c)).l = m at *
  have hcl : c = (allB (l.take m.length)).length := by rw [← hm, h3, List.length_take]; omega
  unfold wholeV at h
  rw [Bool.or_eq_false_iff] at h
  have hn := of_decide_eq_false h.1
  by_cases hml : m.length < l.length
  · have := places_any.2 ⟨m.length, hml, by rw [← hcl]⟩
    rw [h.2] at this
    cases this
  · rw [List.take_of_length_le (by omega), hb] at hcl
    omega
def pickV (x n : Int) : Int := (x.tmod n + n).tmod n
theorem pick_bd {x n : Int} (hn : 0 < n) : 0 ≤ pickV x n ∧ pickV x n < n := by
  unfold pickV
  have h1 : -n < x.tmod n := by
    have := Int.lt_tmod_of_pos x hn
    omega
  have h2 : 0 ≤ x.tmod n + n := by omega
  rw [Int.tmod_eq_emod_of_nonneg h2]
  exact ⟨Int.emod_nonneg _ (by omega), Int.emod_lt_of_pos _ hn⟩
end Go.Proofs.YtohlifeenhaifaaGreatDoor

/- (Open07) How instructions that are handed to a statement are opened: a slice of structs of five numbers and a slice of numbers. Plain lemmas; no condition but what each names. -/
namespace Go.Proofs.YtohlifeenhaifaaGreatDoor
open Go.RowKit Go.ChangeShapes Go.WideShapes
set_option linter.unusedVariables false

theorem list_of7 {α : Type} {n : Nat} (d : α) {Q : Nat → α → Prop} (h : ∀ i, i < n → ∃ A, Q i A) : ∃ l : List α, l.length = n ∧ ∀ i, i < n → Q i (l.getD i d) := by
  induction n with
  | zero => exact ⟨[], rfl, fun i hi => by omega⟩
  | succ n ih =>
    obtain ⟨l, hl, hq⟩ := ih (fun i hi => h i (by omega))
    obtain ⟨A, hA⟩ := h n (by omega)
    refine ⟨l ++ [A], by simp [hl], fun i hi => ?_⟩
    by_cases e : i < n
    · have : (l ++ [A]).getD i d = l.getD i d := by simp [List.getD, List.getElem?_append_left (by omega : i < l.length)]
      rw [this]
      exact hq i e
    · obtain rfl : i = n := by omega
      have : (l ++ [A]).getD i d = A := by simp [List.getD, ← hl]
      rw [this]
      exact hA
theorem add_twice7 (a : Addr) (h : a.spot = none) (i j : Nat) : (a.add i).add j = ⟨a.block, a.off + i + j, none⟩ := by
  obtain ⟨b, o, s⟩ := a
  simp only at h
  subst h
  unfold Addr.add
  split <;> split <;> simp_all [Nat.add_assoc]
section
variable {H : Type} {enc : TypeId × Value → H} {w : World}
set_option maxRecDepth 100000 in
theorem open_code {fuel : Nat} {V : Value} {x : DataW H × List MemPlace} (h : DataW.trod enc Tryz.prog w 0 (fun _ => true) true fuel 51 [V] = some x) : ∃ l, IsCode w w.heap.size V l := by
  have hC : Tryz.prog.cellsOf 28 = 6 := by kernel_rfl
  rcases Go.Deep.open_slice Tryz.underlying51 h with ⟨hcs, _⟩ | ⟨a, len, cap, m, n, D, Pl, hcs, _, hl, hm, hmm, _, hi⟩
  · injection hcs with hcs _
    subst hcs
    exact ⟨[], by simp, by simp, .inl ⟨rfl, none, 0, rfl⟩⟩
  · injection hcs with hcs _
    subst hcs
    obtain rfl : m = cap := by simpa using hmm
    by_cases h0 : len = 0
    · subst h0
      exact ⟨[], by simp, by simp, .inl ⟨rfl, some a, m, rfl⟩⟩
    have hs : a.spot = none := by
      obtain ⟨cs', hc, ht⟩ := hi 0 (by omega)
      obtain ⟨_, hlen, hcell⟩ := World.cells?_some hc
      rw [hC] at hcell hlen
      have h1 := hcell 0 (by omega)
      have e : a.add (0 * 6) = a := by simp [Addr.add]
      rw [e] at h1
      have e2 : a.add 0 = a := by simp [Addr.add]
      rw [e2, List.getElem?_eq_getElem (by omega)] at h1
      exact World.cell?_spot h1
    have hb : a.block < w.heap.size := by
      obtain ⟨cs', hc, ht⟩ := hi 0 (by omega)
      obtain ⟨_, hlen, hcell⟩ := World.cells?_some hc
      rw [hC] at hcell hlen
      have h1 := hcell 0 (by omega)
      rw [List.getElem?_eq_getElem (by omega), add_twice7 a hs] at h1
      exact block_lt_of_cell (a := ⟨a.block, _, none⟩) h1
    have hq : ∀ i, i < len → ∃ y : InsV, InsB y ∧ ∃ X, IsNums .i64 w w.heap.size X y.args ∧ ∀ j, j < 6 → w.cell? ⟨a.block, a.off + i * 6 + j, none⟩ = some (insCell y X j) := by
      intro i hil
      obtain ⟨cs', hc, ht⟩ := hi i (by omega)
      obtain ⟨op, a1, b1, c1, n1, X, args, rfl, hX, hin⟩ := open_ins ht
      obtain ⟨_, hlen, hcell⟩ := World.cells?_some hc
      refine ⟨⟨op, a1, b1, c1, n1, args⟩, ⟨hin.op, hin.a, hin.b, hin.c, hin.n⟩, X, hX, fun j hj => ?_⟩
      have h1 := hcell j (by rw [hC]; exact hj)
      rw [hC, add_twice7 a hs] at h1
      rw [h1]
      exact insList_at ⟨op, a1, b1, c1, n1, args⟩ X hj
    obtain ⟨l, hll, hlq⟩ := list_of7 .zero hq
    refine ⟨l, by omega, fun y hy => ?_, .inr ⟨a.block, a.off, m, ?_, by omega, hb, fun i hi => (hlq i (by omega)).2⟩⟩
    · obtain ⟨i, hi, rfl⟩ := List.getElem_of_mem hy
      have := (hlq i (by omega)).1
      simpa [List.getD, List.getElem?_eq_getElem hi] using this
    · rw [hll]
      obtain ⟨b, o, s⟩ := a
      simp only at hs
      subst hs
      rfl
set_option maxRecDepth 100000 in
theorem open_code_value {r : Reach} {b0 : Nat} {v : Value} {d : DataW H} {p : List MemPlace} (hv : Value.okWide Tryz.prog w r b0 51 v)
    (h : DataW.Trod enc Tryz.prog w 0 (fun _ => true) true 51 v d p) : ∃ l, IsCode w w.heap.size v l := by
  obtain ⟨a, len, cap, rfl⟩ := okWide_slice Tryz.underlying51 hv
  obtain ⟨fuel, hf⟩ := h
  exact open_code hf
end
end Go.Proofs.YtohlifeenhaifaaGreatDoor
