/- A tape and the document's tape, side by side in a call's own memory: what each call leaves. Contracts; no condition but what each names. -/
import Derived.Test.YtecbpbkehdmmcaaDoorLaws14A
import Derived.Test.YtecbpbkehdmmcaaDoorDeed14F
namespace Go.Proofs.YtecbpbkehdmmcaaDoor
open Go.RowKit Go.Shelf
set_option linter.unusedVariables false
set_option linter.unusedSimpArgs false

theorem lent_row14 {w : World} {g : Nat} {xs : List Int} (h : Lent w g xs) : ∃ c, Row 5 w g c (xs ++ [77, 201, 5]) := by
  obtain ⟨cur, h1, h2⟩ := h
  have hl : (xs ++ [77, 201, 5]).length = xs.length + 3 := by simp
  refine ⟨cur.size, cur, h1, rfl, by rw [hl]; exact h2, ?_⟩
  have := congrArg List.length h2
  simp at this
  rw [hl]
  omega
set_option maxHeartbeats 1000000 in
theorem over_row14 (g n c : Nat) (zs : List Int) (w : World) (C : Nat) (h : Row 5 w g C zs) (hz : zs.length = c) (hb : ∀ x ∈ zs, 0 ≤ x ∧ x < 256) (hn : n ≤ c) (hm : c ≤ 9223372036854775807) :
    Calls Tryd.prog 13 #[.slice (some ⟨g, 0, none⟩) n c] w fun e w' => e = .returned (.tuple #[]) ∧ But (OneBlock g) w w' := by
  have HR := Lib.hid h
  have HZ := Lib.hid hz
  have HB := Lib.hid hb
  clear h hz hb
  go_enter Tryd.func13, Tryd.ntmps13
  go_wp2
  go_loopw [3] (fun i wr => ∃ k : Nat, k ≤ c ∧ i = .int .i64 k ∧ Hid (∃ zs, Row 5 wr g C zs ∧ zs.length = c ∧ (∀ x ∈ zs, 0 ≤ x ∧ x < 256) ∧ But (OneBlock g) w wr)) (fun i _ => c - (intOf i).toNat)
  case atStart => exact ⟨0, by omega, rfl, zs, HR.out, HZ.out, HB.out, But.refl _ _⟩
  case round =>
    obtain ⟨k, hk, rfl, hq⟩ := hrel
    by_cases hlt : k < c
    · obtain ⟨zs', hr, hl, hbd, hbut⟩ := hq.out
      have hcell := hr.cell (i := k) (by omega)
      have hfro := hr.free k
      obtain ⟨y1, y2⟩ := getD_bd hbd (k := k) (by omega)
      obtain ⟨y, hy⟩ : ∃ y, y = zs'.getD k 0 := ⟨_, rfl⟩
      rw [← hy] at hcell y1 y2
      have HR2 := Lib.hid hr
      have HL2 := Lib.hid hl
      have HB2 := Lib.hid hbd
      have HBU := Lib.hid hbut
      clear hy hq hr hl hbd hbut
      go_wp2
      go_roundw
      case rel => exact ⟨k + 1, by omega, by go_num, zs'.set k ((y + 91) % 256), HR2.out.set (by rw [HL2.out]; exact hlt) _, by rw [List.length_set]; exact HL2.out, fun x hx => by
          rcases List.mem_or_eq_of_mem_set hx with h1 | h1
          · exact HB2.out x h1
          · subst h1; omega, HBU.out.setCell (p := ⟨g, k, none⟩) (Or.inl rfl) _⟩
      case measure => simp [intOf]; omega
    · obtain ⟨zs', hr, hl, hbd, hbut⟩ := hq.out
      have HBU := Lib.hid hbut
      clear hq hr hl hbd hbut
      go_wp2
      go_end0
      exact ⟨rfl, HBU.out⟩

/-- Both tapes: what is left of the one, its deeds; the other's place, its deeds. -/
structure Pr14 (w W : World) (tb rb : Nat) (Y : Value) (xs ys : List Int) (L : List (Int × Int)) (k : Nat) (M : List (Int × Int)) : Prop where
  ex : ∃ X V Q, Tape14 w.heap.size W tb X V ys L ∧ RTape14 w.heap.size W rb Y Q xs k M ∧ ∀ g, V.ownBlock = some g → Q.ownBlock ≠ some g
  tl : w.heap.size ≤ tb
  ne : tb ≠ rb
  bel : Below w.heap.size w W
section
variable {w W W' : World} {tb rb : Nat} {Y : Value} {xs ys zs : List Int} {L M N : List (Int × Int)} {k k' : Nat}
theorem Pr14.grow (h : Pr14 w W tb rb Y xs ys L k M) (hb : Below W.heap.size W W') : Pr14 w W' tb rb Y xs ys L k M := by
  obtain ⟨X, V, Q, h1, h2, h3⟩ := h.ex
  exact ⟨⟨X, V, Q, h1.grow hb, h2.grow hb, h3⟩, h.tl, h.ne, h.bel.trans (hb.mono h.bel.size)⟩
def PrDone (w : World) (tb rb : Nat) (v : Value) (Y : Value) (xs ys : List Int) (L : List (Int × Int)) (k : Nat) (M : List (Int × Int)) (e : Ending) (W' : World) : Prop := e = .returned v ∧ Pr14 w W' tb rb Y xs ys L k M
theorem pr_of {v : Value} {X V Q : Value} {e : Ending} (h : Pr14 w W tb rb Y xs ys L k M) (hT : Tape14 w.heap.size W tb X V ys L) (hR : RTape14 w.heap.size W rb Y Q xs k M) (hd : ∀ g, V.ownBlock = some g → Q.ownBlock ≠ some g)
    (hq : TapeDone w.heap.size tb W V v zs N e W') : PrDone w tb rb v Y xs zs N k M e W' := by
  obtain ⟨X', V', rfl, hT', hW⟩ := hq
  refine ⟨rfl, ⟨X', V', Q, hT', hR.but hW.but ?_ ?_ ?_, ?_⟩, h.tl, h.ne, But.below h.bel hW.but h.bel.size ?_⟩
  · rintro (e | e)
    · exact h.ne e.symm
    · obtain ⟨_, c, hc⟩ := typed14 hT.done e
      exact types14 hc hR.box (by decide)
  · rintro j hj (rfl | e)
    · have := h.tl; omega
    · have := (typed14 hT.done e).1; omega
  · rintro g hg (rfl | e)
    · obtain ⟨_, c, hc⟩ := typed14 hR.done hg
      exact types14 hc hT.box (by decide)
    · exact hd g e hg
  · intro g hg hq
    rcases hW.whr with e | ⟨g', e, hl⟩
    · exact hd g (e ▸ hg) hq
    · rw [e] at hg
      injection hg with hg
      subst hg
      obtain ⟨_, c, hc⟩ := typed14 hR.done hq
      have := heap_lt hc
      omega
  · rintro j (rfl | e)
    · exact h.tl
    · exact (typed14 hT.done e).1
theorem rpr_of {v : Value} {X V Q : Value} {e : Ending} (h : Pr14 w W tb rb Y xs ys L k M) (hT : Tape14 w.heap.size W tb X V ys L) (hR : RTape14 w.heap.size W rb Y Q xs k M) (hd : ∀ g, V.ownBlock = some g → Q.ownBlock ≠ some g)
    (hq : RTapeDone w.heap.size rb W Y Q v xs k' N e W') : PrDone w tb rb v Y xs ys L k' N e W' := by
  obtain ⟨Q', rfl, hR', hW⟩ := hq
  refine ⟨rfl, ⟨X, V, Q', hT.but hW.but ?_ ?_ ?_, hR', ?_⟩, h.tl, h.ne, But.below h.bel hW.but h.bel.size ?_⟩
  · rintro (e | e)
    · exact h.ne e
    · obtain ⟨_, c, hc⟩ := typed14 hR.done e
      exact types14 hc hT.box (by decide)
  · rintro j c _ hc (rfl | e)
    · exact types14 hc hR.box (by decide)
    · obtain ⟨_, c', hc'⟩ := typed14 hR.done e
      exact types14 hc hc' (by decide)
  · rintro g hg (rfl | e)
    · obtain ⟨_, c, hc⟩ := typed14 hT.done hg
      exact types14 hc hR.box (by decide)
    · exact hd g hg e
  · intro g hg hq
    rcases hW.whr with e | ⟨g', e, hl⟩
    · exact hd g hg (e ▸ hq)
    · rw [e] at hq
      injection hq with hq
      subst hq
      obtain ⟨_, c, hc⟩ := typed14 hT.done hg
      have := heap_lt hc
      omega
  · rintro j (rfl | e)
    · exact hR.rb
    · exact (typed14 hR.done e).1
theorem pr_put (h : Pr14 w W tb rb Y xs ys L k M) (hf : L.length < 100000) (b : Int) : Calls Tryd.prog 14 #[.pointer (some ⟨tb, 0, none⟩), .int .i64 b] W (PrDone w tb rb (.int .i64 0) Y xs ys (L ++ [(2, b % 256)]) k M) := by
  obtain ⟨X, V, Q, h1, h2, h3⟩ := h.ex
  exact (put14 h1 h.bel.size hf b).mono fun _ _ hd => pr_of h h1 h2 h3 hd
theorem pr_more {x : Int} (h : Pr14 w W tb rb Y xs (x :: ys) L k M) (hf : L.length < 100000) : Calls Tryd.prog 16 #[.pointer (some ⟨tb, 0, none⟩)] W (PrDone w tb rb (.tuple #[.int .i64 x, .int .i64 0]) Y xs ys (L ++ [(1, x)]) k M) := by
  obtain ⟨X, V, Q, h1, h2, h3⟩ := h.ex
  exact (getMore14 h1 h.bel.size hf).mono fun _ _ hd => pr_of h h1 h2 h3 hd
theorem pr_end (h : Pr14 w W tb rb Y xs [] L k M) (hf : L.length < 100000) : Calls Tryd.prog 16 #[.pointer (some ⟨tb, 0, none⟩)] W (PrDone w tb rb (.tuple #[.int .i64 (-1), .int .i64 0]) Y xs [] (L ++ [(1, -1)]) k M) := by
  obtain ⟨X, V, Q, h1, h2, h3⟩ := h.ex
  exact (getEnd14 h1 h.bel.size hf).mono fun _ _ hd => pr_of h h1 h2 h3 hd
theorem pr_rput (h : Pr14 w W tb rb Y xs ys L k M) (hf : M.length < 100000) (b : Int) : Calls Tryd.prog 15 #[.pointer (some ⟨rb, 0, none⟩), .int .i64 b] W (PrDone w tb rb (.int .i64 0) Y xs ys L k (M ++ [(2, b % 256)])) := by
  obtain ⟨X, V, Q, h1, h2, h3⟩ := h.ex
  exact (rput14 h2 hf b).mono fun _ _ hd => rpr_of h h1 h2 h3 hd
theorem pr_rmore (h : Pr14 w W tb rb Y xs ys L k M) (hf : M.length < 100000) (hk : k < xs.length) (hl : xs.length ≤ 1000000) : Calls Tryd.prog 17 #[.pointer (some ⟨rb, 0, none⟩)] W (PrDone w tb rb (.tuple #[.int .i64 (xs.getD k 0), .int .i64 0]) Y xs ys L (k + 1) (M ++ [(1, xs.getD k 0)])) := by
  obtain ⟨X, V, Q, h1, h2, h3⟩ := h.ex
  exact (rgetMore14 h2 hf hk hl).mono fun _ _ hd => rpr_of h h1 h2 h3 hd
theorem pr_rend (h : Pr14 w W tb rb Y xs ys L k M) (hf : M.length < 100000) (hk : ¬ k < xs.length) (hl : xs.length ≤ 1000000) : Calls Tryd.prog 17 #[.pointer (some ⟨rb, 0, none⟩)] W (PrDone w tb rb (.tuple #[.int .i64 (-1), .int .i64 0]) Y xs ys L k (M ++ [(1, -1)])) := by
  obtain ⟨X, V, Q, h1, h2, h3⟩ := h.ex
  exact (rgetEnd14 h2 hf hk hl).mono fun _ _ hd => rpr_of h h1 h2 h3 hd
theorem pr_left (h : Pr14 w W tb rb Y xs ys L k M) : Calls Tryd.prog 20 #[.pointer (some ⟨tb, 0, none⟩)] W fun e W' => e = .returned (.int .i64 ys.length) ∧ W = W' := by
  obtain ⟨X, V, Q, h1, h2, h3⟩ := h.ex
  exact left14 h1
theorem pr_deeds (h : Pr14 w W tb rb Y xs ys L k M) : Calls Tryd.prog 18 #[.pointer (some ⟨tb, 0, none⟩)] W (DeedsDone W L) := by
  obtain ⟨X, V, Q, h1, h2, h3⟩ := h.ex
  exact deeds14 h1
/-- The other's cells: its row of deeds is a slice. -/
theorem Pr14.cells (h : Pr14 w W tb rb Y xs ys L k M) : ∃ A cap, W.cell? ⟨rb, 0, none⟩ = some Y ∧ W.cell? ⟨rb, 1, none⟩ = some (.int .i64 k) ∧ W.cell? ⟨rb, 2, none⟩ = some (.slice A M.length cap) ∧ IsDeeds W W.heap.size (.slice A M.length cap) M := by
  obtain ⟨X, V, Q, h1, h2, h3⟩ := h.ex
  obtain ⟨A, cap, rfl⟩ := owns_len14 h2.done
  obtain ⟨c0, c1, c2⟩ := h2.cells
  exact ⟨A, cap, c0, c1, c2, IsDeeds.of_owns h2.done (Nat.le_refl _)⟩
theorem Pr14.rlt (h : Pr14 w W tb rb Y xs ys L k M) : rb < W.heap.size := by
  obtain ⟨X, V, Q, h1, h2, h3⟩ := h.ex
  exact h2.lt
theorem Pr14.le (h : Pr14 w W tb rb Y xs ys L k M) : k ≤ xs.length := by
  obtain ⟨X, V, Q, h1, h2, h3⟩ := h.ex
  exact h2.le
/-- Ahead of the calls: the tape was made of bytes that were lent. -/
structure St14 (w w1 W : World) (tb rb g : Nat) (Y : Value) (xs : List Int) : Prop where
  tape : ∃ X V, Tape14 w1.heap.size W tb X V xs []
  box : W.heap[rb]? = some (.cells #[Y, .int .i64 0, .slice none 0 0] 31 (0, 0))
  lent : Lent W g xs
  g0 : w.heap.size ≤ g
  g1 : g < w1.heap.size
  t1 : w1.heap.size ≤ tb
  r1 : w1.heap.size ≤ rb
  bel : Below w.heap.size w W
theorem St14.grow {w1 : World} {g : Nat} (h : St14 w w1 W tb rb g Y xs) (hb : Below W.heap.size W W') : St14 w w1 W' tb rb g Y xs := by
  obtain ⟨X, V, ht⟩ := h.tape
  exact ⟨⟨X, V, ht.grow hb⟩, by rw [hb.block _ (heap_lt h.box)]; exact h.box, h.lent.below hb h.lent.lt, h.g0, h.g1, h.t1, h.r1, h.bel.trans (hb.mono h.bel.size)⟩
theorem st_new14 {w1 w2 : World} {g : Nat} {X V : Value} (hb1 : Below w.heap.size w w1) (hg : w.heap.size ≤ g) (hl : Lent w1 g xs) (h1 : w1.heap.size ≤ tb) (hT : Tape14 w1.heap.size w2 tb X V xs []) (hb2 : Below w1.heap.size w1 w2) (hr : rb = w2.heap.size) :
    St14 w w1 (w2.alloc (.cells #[Y, .int .i64 0, .slice none 0 0] 31)) tb rb g Y xs := by
  subst hr
  have hb3 := below_one14 w2 (.cells #[Y, .int .i64 0, .slice none 0 0] 31)
  exact ⟨⟨X, V, hT.grow hb3⟩, heap_alloc_new _ _, (hl.below hb2 hl.lt).below hb3 (Nat.lt_of_lt_of_le hl.lt hb2.size), hg, hl.lt, h1, hb2.size, (hb1.trans (hb2.mono hb1.size)).trans (hb3.mono (Nat.le_trans hb1.size hb2.size))⟩
/-- Behind the change of what was lent. -/
theorem St14.over {w1 : World} {g : Nat} (h : St14 w w1 W tb rb g Y xs) (hY : IsBytes w w.heap.size Y xs) (hb : But (OneBlock g) W W') : Pr14 w W' tb rb Y xs xs [] 0 [] := by
  obtain ⟨X, V, ht⟩ := h.tape
  obtain ⟨cur, hc, _⟩ := h.lent
  have e1 : ∀ j, OneBlock g j → j = g := fun j e => e
  have hg0 := h.g0
  have hg1 := h.g1
  have ht1 := h.t1
  have hr1 := h.r1
  have hT : Tape14 w1.heap.size W' tb X V xs [] := ht.but hb (fun e => by have := e1 _ e; omega) (fun j c hj _ e => by have := e1 _ e; omega) (fun j hj e => by have := e1 _ e; have := (typed14 ht.done hj).1; omega)
  have hbel := But.below h.bel hb h.bel.size (fun j hj => by have := e1 _ hj; omega)
  have hs := h.bel.size
  have hrl := heap_lt h.box
  refine ⟨⟨X, V, .slice none 0 0, hT.lower (by omega), ⟨hb.heap h.box (fun e => by have := e1 _ e; omega), hY.below hbel (Nat.le_refl _), Owns.nil _ _ _ _ _, Nat.zero_le _, Nat.zero_le _, by omega⟩, fun g _ e => by cases e⟩, by omega, ?_, hbel⟩
  intro e
  subst e
  exact types14 ht.box h.box (by decide)
end
end Go.Proofs.YtecbpbkehdmmcaaDoor
