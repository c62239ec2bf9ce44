/- The landed op.Writes and op.Target: the first field of a letter. Contracts; no condition but that the argument is an instruction in memory. -/
import Derived.Test.YtbcfdjpnckikdaaFld06
namespace Go.Proofs.Ytbcfdjpnckikdaa
open Go.RowKit Go.Shelf
set_option linter.unusedVariables false
set_option linter.unusedSimpArgs false
attribute [local go_sem] Oper.semAt_some

theorem shapes_ok (op : Int) : okShape (shapeI op) = true := by
  unfold shapeI
  split
  · rename_i h
    have h2 : shapeL.all okShape = true := by kernel_rfl
    have hl : shapeL.length = 33 := by kernel_rfl
    have hk : op.toNat < shapeL.length := by omega
    have e : shapeB op.toNat = shapeL[op.toNat] := by simp [shapeB, List.getD, hk]
    rw [e]
    exact List.all_eq_true.1 h2 _ (List.getElem_mem hk)
  · rfl
/-- op.fields hands back a value that gives all fields, or as many as the loop's body asks for. -/
theorem fields_stops (m : Nat) (hm : 3 ≤ m) (Ro bI : Nat) (op a b c n : Int) (X : Value) (args : List Int) (w : World)
    (hbox : w.heap[bI]? = some (.cells (insCells op a b c n X) 28 (0, 0))) (hX : IsNums .i64 w w.heap.size X args)
    (hR : Ro < w.heap.size) {v : Value} (hv : w.cell? ⟨Ro, 0, none⟩ = some v) (hna : NoAddr v) (hbI : bI ≠ Ro) (hXR : ∀ ad len cap, X = .slice (some ad) len cap → 0 < len → ad.block ≠ Ro) :
    SeqStopsK Fence.wide m Try.prog 44 #[.pointer (some ⟨bI, 0, none⟩)] encF (KpO Ro) (fun ys => ys = itemsOf (shapeI op) a b c n args) (fun pre => pre <+: itemsOf (shapeI op) a b c n args) (itemsOf (shapeI op) a b c n args).length w := fun l J Jx W hW hJ hJx hY h0 => by
  have hlI := heap_lt hbox
  have hRo : W.cell? ⟨Ro, 0, none⟩ = w.cell? ⟨Ro, 0, none⟩ := hW.cell (p := ⟨Ro, 0, none⟩) hR
  exact fields1_in m hm l Ro bI op a b c n X args (shapeI op) (shapes_ok op) rfl J Jx W hJ hY ((hW.block bI hlI).trans hbox) ((hX.below hW (Nat.le_refl _)).more hW.size) (Nat.lt_of_lt_of_le hR hW.size)
    (fun g hg => inReach_num (hRo.trans hv) hna hg) hbI hXR h0
/-- The number of the first field of a letter, -1 where there is none. -/
def firstV (q : Int) (l : List (Int × Int)) : Int := match l.find? (fun x => x.1 == q) with | some x => x.2 | none => -1
theorem first_none {q : Int} {l : List (Int × Int)} (h : ∀ p ∈ l, p.1 ≠ q) : firstV q l = -1 := by
  have : l.find? (fun x => x.1 == q) = none := by
    rw [List.find?_eq_none]
    intro x hx
    simpa using h x hx
  simp [firstV, this]
theorem first_some {q : Int} {l ini : List (Int × Int)} {x : Int × Int} (hp : ini ++ [x] <+: l) (h : ∀ p ∈ ini, p.1 ≠ q) (hx : x.1 = q) : firstV q l = x.2 := by
  obtain ⟨t, rfl⟩ := hp
  have h1 : ini.find? (fun x => x.1 == q) = none := by
    rw [List.find?_eq_none]
    intro x hx
    simpa using h x hx
  simp [firstV, List.find?_append, h1, hx]
/-- A struct that is handed over: its cells, and Args in memory. -/
structure InsAt (w : World) (B : Nat) (op a b c n : Int) (X : Value) (args : List Int) : Prop where
  args : IsNums .i64 w B X args
theorem nums_block {K : IntKind} {w : World} {B : Nat} {X : Value} {xs : List Int} (h : IsNums K w B X xs) : ∀ ad len cap, X = .slice (some ad) len cap → 0 < len → ad.block < B := by
  intro ad len cap e hl
  rcases h.2 with ⟨h1, _⟩ | ⟨ad', cap', h1, _, h3, _⟩
  · rw [h1] at e; cases e
  · rw [h1] at e; cases e; exact h3 hl
theorem noAddr_int (K : IntKind) (z : Int) : NoAddr (.int K z) := fun a len cap e => by cases e
theorem noAddr_bool (z : Bool) : NoAddr (.bool z) := fun a len cap e => by cases e
theorem noAddr_nil : NoAddr (.slice none 0 0) := fun a len cap e => by cases e

set_option maxRecDepth 100000 in
set_option maxHeartbeats 2000000 in
theorem writes_in (m : Nat) (hm : 5 ≤ m) (op a b c n : Int) (X : Value) (args : List Int) (w : World) (hX : IsNums .i64 w w.heap.size X args) :
    CallsIn Fence.wide m Try.prog 24 #[.agg (insCells op a b c n X)] w (Makes w (.int .i64 (firstV 119 (itemsOf (shapeI op) a b c n args)))) := by
  have h1 : 1 ≤ m := by omega
  have HX := Lib.hid hX
  clear hX
  refine callsIn_of_wp_marks Try.func24 rfl trivial ?_ rfl
  simp only [Try.ntmps24, List.size_toArray, List.length_cons, List.length_nil, Nat.reduceAdd, Nat.reduceSub, Array.replicate_succ, Array.replicate_zero, List.push_toArray, List.append_toArray, List.nil_append, List.cons_append]
  gi_wp2_with (refine ⟨trivial, ?_⟩; gi_at_call 41; (with_reducible refine (callsIn_wide.2 (fields_in op a b c n X _)).mono ?_); rintro e w' ⟨rfl, rfl⟩)
  have bR := Boxed.new (w.alloc (.cells (insCells op a b c n X) 28)) 3 (.int .i64 0)
  rw [World.size_alloc] at bR
  have hbox : (((w.alloc (.cells (insCells op a b c n X) 28)).alloc (.cells #[.int .i64 0] 3)).alloc (.cells (insCells op a b c n X) 28)).heap[w.heap.size + 2]? = some (.cells (insCells op a b c n X) 28 (0, 0)) := by
    have := heap_alloc_new ((w.alloc (.cells (insCells op a b c n X) 28)).alloc (.cells #[.int .i64 0] 3)) (.cells (insCells op a b c n X) 28)
    simpa using this
  have hB0 : Below w.heap.size w (((w.alloc (.cells (insCells op a b c n X) 28)).alloc (.cells #[.int .i64 0] 3)).alloc (.cells (insCells op a b c n X) 28)) :=
    (((Below.refl _ w).alloc (Nat.le_refl _) _).alloc (by simp) _).alloc (by simp; omega) _
  refine wpIn_rangeFunc_ownG rfl h1 (gf := 44) (lb := #[.pointer (some ⟨w.heap.size + 2, 0, none⟩)]) rfl trivial (enters_of Try.func44 (by kernel_rfl) rfl)
    (fields_stops (m - 1) (by omega) (w.heap.size + 1) (w.heap.size + 2) op a b c n X args _ hbox ((HX.out.below hB0 (Nat.le_refl _)).more hB0.size) (by simp) ((bR.alloc _).cell) (noAddr_int _ _) (by omega) (fun ad len cap e hl => by have := nums_block HX.out ad len cap e hl; omega))
    kpO_t (kpO_b (by simp)) (Below.refl _ _) (fun _ => rfl)
    (fun pre W => ((∀ p ∈ pre, p.1 ≠ 119) ∧ W.cell? ⟨w.heap.size + 1, 0, none⟩ = some (.int .i64 0) ∧ W.frozen? ⟨w.heap.size + 1, 0, none⟩ = false) ∧ Below w.heap.size w W)
    (fun c' pre W => (c' = .ret ∧ ∃ ini last, pre = ini ++ [last] ∧ (∀ p ∈ ini, p.1 ≠ 119) ∧ last.1 = 119 ∧ W.cell? ⟨w.heap.size + 1, 0, none⟩ = some (.int .i64 last.2)) ∧ Below w.heap.size w W)
    (OwnFrom.and (Own.from (fun s A B row hs hg hr => ⟨hs.1, cell_kept hs.2.1 hg hr, (frozen_kept hs.2.1 hg hr).trans hs.2.2⟩) _) (ownFrom_below (Nat.le_refl _) (by simp; omega)))
    (fun c' => OwnFrom.and (Own.from (fun s A B row hs hg hr => by obtain ⟨hc, ini, last, e1, e2, e3, e4⟩ := hs; exact ⟨hc, ini, last, e1, e2, e3, cell_kept e4 hg hr⟩) _) (ownFrom_below (Nat.le_refl _) (by simp; omega)))
    ⟨⟨by simp, (bR.alloc _).cell, (bR.alloc _).frozen⟩, hB0⟩
    (fun x => { tmps := #[.agg (insCells op a b c n X), .pointer (some ⟨w.heap.size, 0, none⟩), .pointer (some ⟨w.heap.size + 1, 0, none⟩), .int .i32 x.1, .int .i64 x.2, .agg (insCells op a b c n X), .func (.func 44) #[] #[.pointer (some ⟨w.heap.size + 2, 0, none⟩)], .int .i32 x.1, .int .i64 x.2, undef, undef, undef], defers := [] }) ?assign ?body ?done ?stop
  case assign =>
    intro l x W K hK
    dsimp only [encF]
    gi_wp2
    exact hK
  case body =>
    rintro l pre x W ⟨⟨hp, hcr, hfr⟩, hB⟩ _
    have HP := Lib.hid hp
    clear hp
    by_cases hx : x.1 = 119
    · have e1 : (x.1 == 119) = true := by simpa using hx
      gi_wp2
      exact ⟨(KeepsOthers.setCell _ _ _).from _, ⟨rfl, pre, x, rfl, HP.out, hx, World.cell?_setCell_same' _ _ _ (by rw [hcr]; rfl)⟩, hB.setCell (p := ⟨w.heap.size + 1, 0, none⟩) (by simp) _⟩
    · have e1 : (x.1 == 119) = false := by simpa using hx
      gi_wp2
      exact ⟨KeepsFrom.refl _ _, kpO_refl _ _, ⟨fun p hp' => (List.mem_append.1 hp').elim (HP.out p) (fun e => by simp at e; subst e; exact hx), hcr, hfr⟩, hB⟩
  case done =>
    rintro D ys W hD rfl ⟨⟨hne, hcr, hfr⟩, hB⟩ hK
    have HE := Lib.hid (first_none hne)
    clear hne
    gi_wp2
    have hK' := (KeepsOthers.setCell W ⟨w.heap.size + 1, 0, none⟩ (.int .i64 (-1))).same D _ hK rfl
    refine ⟨by simp, .inl ⟨_, _, rfl, run_takeDeferred hK', ?_⟩⟩
    have hc5 := cell_kept (World.cell?_setCell_same' W ⟨w.heap.size + 1, 0, none⟩ (.int .i64 (-1)) (by rw [hcr]; rfl)) (grownBy_putObj' _ D (.deferred none)) (fun r e => by cases e; exact ⟨_, hK', rfl⟩)
    refine ⟨.int .i64 (-1), ?_, ?_⟩
    · simp [results, Try.f24, go_sem, hc5]
    · rw [HE.out]
      exact ⟨rfl, (hB.setCell (p := ⟨w.heap.size + 1, 0, none⟩) (by simp) _).trans (belowK_b (w := w) (Nat.le_refl _) _ D _ _ (by simp at hD; omega) hK' rfl rfl)⟩
  case stop =>
    rintro D c' pre W hD hpre ⟨⟨rfl, ini, last, e1, e2, e3, hcr⟩, hB⟩ hK
    subst e1
    have HE := Lib.hid (first_some hpre e2 e3)
    clear hpre e2 e3
    gi_wp2
    refine ⟨by simp, .inl ⟨_, _, rfl, run_takeDeferred hK, ?_⟩⟩
    have hc5 := cell_kept hcr (grownBy_putObj' _ D (.deferred none)) (fun r e => by cases e; exact ⟨_, hK, rfl⟩)
    refine ⟨.int .i64 last.2, ?_, ?_⟩
    · simp [results, Try.f24, go_sem, hc5]
    · rw [HE.out]
      exact ⟨rfl, hB.trans (belowK_b (w := w) (Nat.le_refl _) W D _ _ (by simp at hD; omega) hK rfl rfl)⟩
theorem writes_any (op a b c n : Int) (X : Value) (args : List Int) (w : World) (hX : IsNums .i64 w w.heap.size X args) :
    Calls Try.prog 24 #[.agg (insCells op a b c n X)] w (Makes w (.int .i64 (firstV 119 (itemsOf (shapeI op) a b c n args)))) :=
  callsIn_wide.1 (writes_in 5 (Nat.le_refl _) op a b c n X args w hX)

set_option maxRecDepth 100000 in
set_option maxHeartbeats 2000000 in
theorem target_in (m : Nat) (hm : 5 ≤ m) (op a b c n : Int) (X : Value) (args : List Int) (w : World) (hX : IsNums .i64 w w.heap.size X args) :
    CallsIn Fence.wide m Try.prog 25 #[.agg (insCells op a b c n X)] w (Makes w (.int .i64 (firstV 116 (itemsOf (shapeI op) a b c n args)))) := by
  have h1 : 1 ≤ m := by omega
  have HX := Lib.hid hX
  clear hX
  refine callsIn_of_wp_marks Try.func25 rfl trivial ?_ rfl
  simp only [Try.ntmps25, List.size_toArray, List.length_cons, List.length_nil, Nat.reduceAdd, Nat.reduceSub, Array.replicate_succ, Array.replicate_zero, List.push_toArray, List.append_toArray, List.nil_append, List.cons_append]
  gi_wp2_with (refine ⟨trivial, ?_⟩; gi_at_call 41; (with_reducible refine (callsIn_wide.2 (fields_in op a b c n X _)).mono ?_); rintro e w' ⟨rfl, rfl⟩)
  have bR := Boxed.new (w.alloc (.cells (insCells op a b c n X) 28)) 3 (.int .i64 0)
  rw [World.size_alloc] at bR
  have hbox : (((w.alloc (.cells (insCells op a b c n X) 28)).alloc (.cells #[.int .i64 0] 3)).alloc (.cells (insCells op a b c n X) 28)).heap[w.heap.size + 2]? = some (.cells (insCells op a b c n X) 28 (0, 0)) := by
    have := heap_alloc_new ((w.alloc (.cells (insCells op a b c n X) 28)).alloc (.cells #[.int .i64 0] 3)) (.cells (insCells op a b c n X) 28)
    simpa using this
  have hB0 : Below w.heap.size w (((w.alloc (.cells (insCells op a b c n X) 28)).alloc (.cells #[.int .i64 0] 3)).alloc (.cells (insCells op a b c n X) 28)) :=
    (((Below.refl _ w).alloc (Nat.le_refl _) _).alloc (by simp) _).alloc (by simp; omega) _
  refine wpIn_rangeFunc_ownG rfl h1 (gf := 44) (lb := #[.pointer (some ⟨w.heap.size + 2, 0, none⟩)]) rfl trivial (enters_of Try.func44 (by kernel_rfl) rfl)
    (fields_stops (m - 1) (by omega) (w.heap.size + 1) (w.heap.size + 2) op a b c n X args _ hbox ((HX.out.below hB0 (Nat.le_refl _)).more hB0.size) (by simp) ((bR.alloc _).cell) (noAddr_int _ _) (by omega) (fun ad len cap e hl => by have := nums_block HX.out ad len cap e hl; omega))
    kpO_t (kpO_b (by simp)) (Below.refl _ _) (fun _ => rfl)
    (fun pre W => ((∀ p ∈ pre, p.1 ≠ 116) ∧ W.cell? ⟨w.heap.size + 1, 0, none⟩ = some (.int .i64 0) ∧ W.frozen? ⟨w.heap.size + 1, 0, none⟩ = false) ∧ Below w.heap.size w W)
    (fun c' pre W => (c' = .ret ∧ ∃ ini last, pre = ini ++ [last] ∧ (∀ p ∈ ini, p.1 ≠ 116) ∧ last.1 = 116 ∧ W.cell? ⟨w.heap.size + 1, 0, none⟩ = some (.int .i64 last.2)) ∧ Below w.heap.size w W)
    (OwnFrom.and (Own.from (fun s A B row hs hg hr => ⟨hs.1, cell_kept hs.2.1 hg hr, (frozen_kept hs.2.1 hg hr).trans hs.2.2⟩) _) (ownFrom_below (Nat.le_refl _) (by simp; omega)))
    (fun c' => OwnFrom.and (Own.from (fun s A B row hs hg hr => by obtain ⟨hc, ini, last, e1, e2, e3, e4⟩ := hs; exact ⟨hc, ini, last, e1, e2, e3, cell_kept e4 hg hr⟩) _) (ownFrom_below (Nat.le_refl _) (by simp; omega)))
    ⟨⟨by simp, (bR.alloc _).cell, (bR.alloc _).frozen⟩, hB0⟩
    (fun x => { tmps := #[.agg (insCells op a b c n X), .pointer (some ⟨w.heap.size, 0, none⟩), .pointer (some ⟨w.heap.size + 1, 0, none⟩), .int .i32 x.1, .int .i64 x.2, .agg (insCells op a b c n X), .func (.func 44) #[] #[.pointer (some ⟨w.heap.size + 2, 0, none⟩)], .int .i32 x.1, .int .i64 x.2, undef, undef, undef], defers := [] }) ?assign ?body ?done ?stop
  case assign =>
    intro l x W K hK
    dsimp only [encF]
    gi_wp2
    exact hK
  case body =>
    rintro l pre x W ⟨⟨hp, hcr, hfr⟩, hB⟩ _
    have HP := Lib.hid hp
    clear hp
    by_cases hx : x.1 = 116
    · have e1 : (x.1 == 116) = true := by simpa using hx
      gi_wp2
      exact ⟨(KeepsOthers.setCell _ _ _).from _, ⟨rfl, pre, x, rfl, HP.out, hx, World.cell?_setCell_same' _ _ _ (by rw [hcr]; rfl)⟩, hB.setCell (p := ⟨w.heap.size + 1, 0, none⟩) (by simp) _⟩
    · have e1 : (x.1 == 116) = false := by simpa using hx
      gi_wp2
      exact ⟨KeepsFrom.refl _ _, kpO_refl _ _, ⟨fun p hp' => (List.mem_append.1 hp').elim (HP.out p) (fun e => by simp at e; subst e; exact hx), hcr, hfr⟩, hB⟩
  case done =>
    rintro D ys W hD rfl ⟨⟨hne, hcr, hfr⟩, hB⟩ hK
    have HE := Lib.hid (first_none hne)
    clear hne
    gi_wp2
    have hK' := (KeepsOthers.setCell W ⟨w.heap.size + 1, 0, none⟩ (.int .i64 (-1))).same D _ hK rfl
    refine ⟨by simp, .inl ⟨_, _, rfl, run_takeDeferred hK', ?_⟩⟩
    have hc5 := cell_kept (World.cell?_setCell_same' W ⟨w.heap.size + 1, 0, none⟩ (.int .i64 (-1)) (by rw [hcr]; rfl)) (grownBy_putObj' _ D (.deferred none)) (fun r e => by cases e; exact ⟨_, hK', rfl⟩)
    refine ⟨.int .i64 (-1), ?_, ?_⟩
    · simp [results, Try.f25, go_sem, hc5]
    · rw [HE.out]
      exact ⟨rfl, (hB.setCell (p := ⟨w.heap.size + 1, 0, none⟩) (by simp) _).trans (belowK_b (w := w) (Nat.le_refl _) _ D _ _ (by simp at hD; omega) hK' rfl rfl)⟩
  case stop =>
    rintro D c' pre W hD hpre ⟨⟨rfl, ini, last, e1, e2, e3, hcr⟩, hB⟩ hK
    subst e1
    have HE := Lib.hid (first_some hpre e2 e3)
    clear hpre e2 e3
    gi_wp2
    refine ⟨by simp, .inl ⟨_, _, rfl, run_takeDeferred hK, ?_⟩⟩
    have hc5 := cell_kept hcr (grownBy_putObj' _ D (.deferred none)) (fun r e => by cases e; exact ⟨_, hK, rfl⟩)
    refine ⟨.int .i64 last.2, ?_, ?_⟩
    · simp [results, Try.f25, go_sem, hc5]
    · rw [HE.out]
      exact ⟨rfl, hB.trans (belowK_b (w := w) (Nat.le_refl _) W D _ _ (by simp at hD; omega) hK rfl rfl)⟩
theorem target_any (op a b c n : Int) (X : Value) (args : List Int) (w : World) (hX : IsNums .i64 w w.heap.size X args) :
    Calls Try.prog 25 #[.agg (insCells op a b c n X)] w (Makes w (.int .i64 (firstV 116 (itemsOf (shapeI op) a b c n args)))) :=
  callsIn_wide.1 (target_in 5 (Nat.le_refl _) op a b c n X args w hX)

end Go.Proofs.Ytbcfdjpnckikdaa
