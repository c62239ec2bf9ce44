/- What the statements of layer 13 share: the chapter's module, awake. Contracts; no condition but what each names. -/
import Derived.Test.YtohlifeenhaifaaGreatDoorText13R
import Derived.Test.YtohlifeenhaifaaGreatDoorS32
import Derived.Test.YtohlifeenhaifaaGreatDoorS11
import Derived.BigQuiet
import Derived.Deep.RegionHeld3
namespace Go.Proofs.YtohlifeenhaifaaGreatDoor
open Go.RowKit Go.Shelf
set_option linter.unusedVariables false
set_option linter.unusedSimpArgs false

def smallC : List InsV := [⟨30, 0, 0, 0, 0, []⟩, ⟨28, 1, 0, 0, 0, []⟩, ⟨32, 0, 0, 0, 0, []⟩]
def smallM : ModV := ⟨[2, 7], [⟨0, 2, 8, smallC⟩]⟩
def smallL : List Int := [98, 121, 116, 101, 115, 32, 50, 32, 55, 10, 102, 117, 110, 99, 32, 48, 32, 50, 32, 56, 10, 32, 32, 103, 101, 116, 98, 32, 48, 10, 32, 32, 99, 97, 108, 108, 32, 49, 32, 48, 10, 32, 32, 101, 120, 105, 116, 32, 48, 10]
theorem small_err : smallM.err = 0 := by kernel_rfl
theorem numL_small {x : Int} (h : 0 ≤ x ∧ x < 10) : numL x = [48 + x] := by
  unfold numL
  rw [if_neg (by omega), digL_small (by omega)]
  congr 1
  omega
theorem chunk_two (a b : Int) : chunk16 [a, b] = [[a, b]] := by
  rw [chunk16, dif_neg (by simp)]
  show [a, b] :: chunk16 [] = _
  rw [chunk16, dif_pos rfl]
theorem small_names : lettersOf (nameI 30) = [103, 101, 116, 98] ∧ lettersOf (nameI 28) = [99, 97, 108, 108] ∧ lettersOf (nameI 32) = [101, 120, 105, 116] := by decide +kernel
theorem small_vals : valsV ⟨30, 0, 0, 0, 0, []⟩ = [0] ∧ valsV ⟨28, 1, 0, 0, 0, []⟩ = [1, 0] ∧ valsV ⟨32, 0, 0, 0, 0, []⟩ = [0] := by decide +kernel
theorem small_text : textM smallM = smallL := by
  have n0 : numL 0 = [48] := numL_small (by decide)
  have n1 : numL 1 = [49] := numL_small (by decide)
  have n2 : numL 2 = [50] := numL_small (by decide)
  have n7 : numL 7 = [55] := numL_small (by decide)
  have n8 : numL 8 = [56] := numL_small (by decide)
  obtain ⟨a1, a2, a3⟩ := small_names
  obtain ⟨b1, b2, b3⟩ := small_vals
  unfold textM linesM smallM smallC
  simp only [chunk_two, List.map_cons, List.map_nil, List.flatMap_cons, List.flatMap_nil, funLn, insLn, insW, a1, a2, a3, b1, b2, b3, n0, n1, n2, n7, n8]
  decide +kernel
theorem small_put : putT [2, 7] [⟨0, 2, 8, smallC⟩] = strOfNums smallL := by
  unfold putT
  rw [if_pos (show (ModV.mk [2, 7] [⟨0, 2, 8, smallC⟩]).err = 0 from small_err)]
  exact congrArg strOfNums small_text
theorem small_get : got13 smallL = ⟨0, 0, smallM⟩ := by
  have h := get_text (m := smallM) small_err (by decide) (fun f hf => by
    have e : f = ⟨0, 2, 8, smallC⟩ := by simpa [smallM] using hf
    subst e
    have i : ∀ x ∈ ([0, 1, 2, 8, 28, 30, 32] : List Int), InI x := by unfold InI; decide
    refine fun13_of (by kernel_rfl) ⟨i _ (by decide), i _ (by decide), i _ (by decide)⟩ (fun y hy => ?_)
    simp [smallC] at hy
    rcases hy with rfl | rfl | rfl <;> exact ⟨i _ (by decide), i _ (by decide), i _ (by decide), i _ (by decide), i _ (by decide)⟩) (by rw [small_text]; decide)
  rw [small_text] at h
  unfold got13
  rw [h]
  rfl
/-- The chapter's module in memory. -/
structure SmallAt (W : World) (d g h : Nat) : Prop where
  dat : W.heap[d]? = some (.cells #[.int .u8 2, .int .u8 7] 5 (0, 0))
  row : W.heap[g]? = some (.cells #[.int .i64 0, .int .i64 2, .int .i64 8, .slice (some ⟨h, 0, none⟩) 3 3] 53 (0, 0))
  cod : W.heap[h]? = some (.cells #[.int .i64 30, .int .i64 0, .int .i64 0, .int .i64 0, .int .i64 0, .slice none 0 0, .int .i64 28, .int .i64 1, .int .i64 0, .int .i64 0, .int .i64 0, .slice none 0 0, .int .i64 32, .int .i64 0, .int .i64 0, .int .i64 0, .int .i64 0, .slice none 0 0] 28 (0, 0))
theorem SmallAt.grow {W W' : World} {d g h : Nat} (e : SmallAt W d g h) (hb : Below W.heap.size W W') : SmallAt W' d g h := ⟨box_below e.dat hb, box_below e.row hb, box_below e.cod hb⟩
theorem SmallAt.bytes {W : World} {d g h : Nat} (e : SmallAt W d g h) : IsBytes W W.heap.size (.slice (some ⟨d, 0, none⟩) 2 2) [2, 7] := by
  refine ⟨by decide, by unfold maxLen; simp, .inr ⟨⟨d, 0, none⟩, 2, rfl, by simp, fun _ => heap_lt e.dat, fun i hi => ?_⟩⟩
  have hi2 : i < 2 := hi
  rcases (show i = 0 ∨ i = 1 by omega) with rfl | rfl <;> simp [World.cell?, e.dat, Addr.add]
theorem SmallAt.code {W : World} {d g h : Nat} (e : SmallAt W d g h) : IsCode W W.heap.size (.slice (some ⟨h, 0, none⟩) 3 3) smallC := by
  have i : ∀ x ∈ ([0, 1, 28, 30, 32] : List Int), InI x := by unfold InI; decide
  refine ⟨by unfold maxLen; simp [smallC], by intro z hz; simp [smallC] at hz; rcases hz with rfl | rfl | rfl <;> exact ⟨i _ (by decide), i _ (by decide), i _ (by decide), i _ (by decide), i _ (by decide)⟩, .inr ⟨h, 0, 3, rfl, Nat.le_refl _, heap_lt e.cod, fun i hi => ?_⟩⟩
  rcases (show i = 0 ∨ i = 1 ∨ i = 2 by simp [smallC] at hi; omega) with rfl | rfl | rfl
  all_goals
    refine ⟨.slice none 0 0, nums_nil _ _, fun j hj => ?_⟩
    rw [cell_of_row _ _ _ _ _ _ e.cod]
    rcases (show j = 0 ∨ j = 1 ∨ j = 2 ∨ j = 3 ∨ j = 4 ∨ j = 5 by omega) with rfl | rfl | rfl | rfl | rfl | rfl <;> rfl
theorem SmallAt.funs {W : World} {d g h : Nat} (e : SmallAt W d g h) : IsFuns W W.heap.size (.slice (some ⟨g, 0, none⟩) 1 1) [⟨0, 2, 8, smallC⟩] := by
  refine ⟨by unfold maxLen; simp, fun f hf => ?_, .inr ⟨g, 0, 1, rfl, Nat.le_refl _, heap_lt e.row, fun i hi => ⟨.slice (some ⟨h, 0, none⟩) 3 3, ?_, fun j hj => ?_⟩⟩⟩
  · simp at hf
    subst hf
    exact ⟨show InI 0 by unfold InI; decide, show InI 2 by unfold InI; decide, show InI 8 by unfold InI; decide⟩
  · obtain rfl : i = 0 := by simpa using hi
    exact e.code
  · obtain rfl : i = 0 := by simpa using hi
    obtain ⟨c0, c1, c2, c3⟩ := cells4 e.row
    rcases (show j = 0 ∨ j = 1 ∨ j = 2 ∨ j = 3 by omega) with rfl | rfl | rfl | rfl
    · exact c0
    · exact c1
    · exact c2
    · exact c3
def SmallDone (w : World) (e : Ending) (w' : World) : Prop := ∃ d g h, e = .returned (.agg #[.slice (some ⟨d, 0, none⟩) 2 2, .slice (some ⟨g, 0, none⟩) 1 1]) ∧ SmallAt w' d g h ∧ Below w.heap.size w w'
theorem alloc4 (w : World) (o1 o2 o3 o4 : Obj) : ∃ W, W = (((w.alloc o1).alloc o2).alloc o3).alloc o4 ∧ W.heap[w.heap.size]? = some o1 ∧ W.heap[w.heap.size + 1]? = some o2 ∧ W.heap[w.heap.size + 2]? = some o3 ∧ W.heap[w.heap.size + 3]? = some o4 ∧ Below w.heap.size w W := by
  have k1 := World.alloc_heap_new w o1
  have k2 := World.alloc_heap_new (w.alloc o1) o2
  have k3 := World.alloc_heap_new ((w.alloc o1).alloc o2) o3
  have k4 := World.alloc_heap_new (((w.alloc o1).alloc o2).alloc o3) o4
  simp only [World.size_alloc, Nat.add_assoc, Nat.reduceAdd] at k2 k3 k4
  refine ⟨_, rfl, ?_, ?_, ?_, k4, ((((Below.refl _ w).alloc (Nat.le_refl _) _).alloc (by simp) _).alloc (by simp <;> omega) _).alloc (by simp <;> omega) _⟩
  · rw [Below.heap_alloc _ _ _ (by simp <;> omega), Below.heap_alloc _ _ _ (by simp <;> omega), Below.heap_alloc _ _ _ (by simp)]
    exact k1
  · rw [Below.heap_alloc _ _ _ (by simp <;> omega), Below.heap_alloc _ _ _ (by simp)]
    exact k2
  · rw [Below.heap_alloc _ _ _ (by simp)]
    exact k3
set_option maxRecDepth 100000 in
set_option maxHeartbeats 4000000 in
theorem small13_any (w : World) : Calls Tryz.prog 25 #[] w (SmallDone w) := by
  go_enter Tryz.func25, Tryz.ntmps25
  go_wp2
  simp only [Nat.add_assoc, Nat.reduceAdd]
  obtain ⟨W, hW, h1, h2, h3, h4, hb⟩ := alloc4 w (.cells #[.slice (some ⟨w.heap.size + 1, 0, none⟩) 2 2, .slice (some ⟨w.heap.size + 3, 0, none⟩) 1 1] 25) (.cells #[.int .u8 2, .int .u8 7] 5)
    (.cells #[.int .i64 30, .int .i64 0, .int .i64 0, .int .i64 0, .int .i64 0, .slice none 0 0, .int .i64 28, .int .i64 1, .int .i64 0, .int .i64 0, .int .i64 0, .slice none 0 0, .int .i64 32, .int .i64 0, .int .i64 0, .int .i64 0, .int .i64 0, .slice none 0 0] 28)
    (.cells #[.int .i64 0, .int .i64 2, .int .i64 8, .slice (some ⟨w.heap.size + 2, 0, none⟩) 3 3] 53)
  rw [← hW]
  obtain ⟨c0, c1⟩ := cells2 h1
  refine bodyPost_ret (v := .agg #[.slice (some ⟨w.heap.size + 1, 0, none⟩) 2 2, .slice (some ⟨w.heap.size + 3, 0, none⟩) 1 1]) (by simp [results, Tryz.results25, go_sem, c0, c1]) rfl ?_
  exact ⟨_, _, _, rfl, ⟨h2, h4, h3⟩, hb⟩
/-- What Get has told, in two boxes. -/
structure GotB13 (W : World) (bx : Nat) (D F : Value) (g : MGot) : Prop where
  mod : W.heap[bx]? = some (.cells #[D, F] 25 (0, 0))
  flt : W.heap[bx + 1]? = some (.cells #[.int .i64 g.err, .int .i64 g.at_] 41 (0, 0))
  dat : IsBytes W W.heap.size D g.m.data
  funs : IsFuns W W.heap.size F g.m.funcs
theorem GotB13.grow {W W' : World} {bx : Nat} {D F : Value} {g : MGot} (h : GotB13 W bx D F g) (hb : Below W.heap.size W W') : GotB13 W' bx D F g := ⟨box_below h.mod hb, box_below h.flt hb, h.dat.grow hb, h.funs.grow hb⟩
theorem GotB13.cells {W : World} {bx : Nat} {D F : Value} {g : MGot} (h : GotB13 W bx D F g) : W.cell? ⟨bx, 0, none⟩ = some D ∧ W.cell? ⟨bx, 1, none⟩ = some F ∧ W.cell? ⟨bx + 1, 0, none⟩ = some (.int .i64 g.err) ∧ W.cell? ⟨bx + 1, 1, none⟩ = some (.int .i64 g.at_) :=
  ⟨(cells2 h.mod).1, (cells2 h.mod).2, (cells2 h.flt).1, (cells2 h.flt).2⟩
theorem gotB13_new {w w2 : World} {D F : Value} {g : MGot} {Cs : List Value} (ho : OutB w w2 D g.m.data) (hd : ∀ x ∈ g.m.data, 0 ≤ x ∧ x < 256) (hf : OwnF 53 0 w2 F g.m.funcs Cs) (hl : g.m.funcs.length ≤ 1000000) :
    GotB13 ((w2.alloc (.cells #[D, F] 25)).alloc (.cells #[.int .i64 g.err, .int .i64 g.at_] 41)) w2.heap.size D F g ∧ Below w.heap.size w ((w2.alloc (.cells #[D, F] 25)).alloc (.cells #[.int .i64 g.err, .int .i64 g.at_] 41)) ∧ Owns ((w2.alloc (.cells #[D, F] 25)).alloc (.cells #[.int .i64 g.err, .int .i64 g.at_] 41)) w.heap.size 5 1 IsU8 D g.m.data.length (g.m.data.map (Value.int .u8)) := by
  have hb : Below w2.heap.size w2 ((w2.alloc (.cells #[D, F] 25)).alloc (.cells #[.int .i64 g.err, .int .i64 g.at_] 41)) := ((Below.refl _ w2).alloc (Nat.le_refl _) _).alloc (by simp) _
  refine ⟨⟨?_, ?_, (outB_is ho hd).grow hb, (hf.funs hl).grow hb⟩, ho.bel.trans (hb.mono ho.bel.size), ho.own.below hb (Nat.le_refl _)⟩
  · rw [Below.heap_alloc _ _ _ (by simp)]
    exact heap_alloc_new _ _
  · have := heap_alloc_new (w2.alloc (.cells #[D, F] 25)) (.cells #[.int .i64 g.err, .int .i64 g.at_] 41)
    rw [World.size_alloc] at this
    exact this
theorem runL_run13 : ∀ (ls : List (List Int)) (m : ModV) (at' : Nat), cntM (runL m at' ls).1 ≤ cntM m + wideW ls
  | [], m, at' => by simp [runL]
  | l :: ls, m, at' => by
    rw [wideW_cons]
    by_cases h0 : (lineR m (wordsL l)).2 = 0
    · rw [runL_step h0]
      have h1 := runL_run13 ls (lineR m (wordsL l)).1 (at' + l.length + 1)
      have h2 := lineR_cnt m (wordsL l)
      have h3 := words_wide l []
      have h4 := (wide_bound (wordsL l)).1
      unfold wordsL at h4 h2 h1 ⊢
      simp at h3
      omega
    · unfold lineR at h0
      simp only [runL]
      by_cases hw : wordsL l = []
      · rw [if_pos hw] at h0; exact absurd rfl h0
      · rw [if_neg hw] at h0
        rw [if_neg hw, if_neg h0]
        simp only
        omega
theorem runL_bd13 : ∀ (ls : List (List Int)) (m : ModV) (at' : Nat), (∀ x ∈ m.data, 0 ≤ x ∧ x < 256) → ∀ x ∈ (runL m at' ls).1.data, 0 ≤ x ∧ x < 256
  | [], m, at', h => by simpa [runL] using h
  | l :: ls, m, at', h => by
    simp only [runL]
    split
    · exact runL_bd13 ls m _ h
    · split
      · refine runL_bd13 ls _ _ ?_
        unfold lineP
        split
        · split
          · exact h
          · split
            · exact h
            · split
              · rename_i hall
                intro x hx
                rcases List.mem_append.1 hx with hx | hx
                · exact h x hx
                · have := of_decide_eq_true (List.all_eq_true.1 hall x hx)
                  omega
              · exact h
        · split
          · split
            · exact h
            · split <;> exact h
          · split
            · split
              · exact h
              · split <;> exact h
            · exact h
      · exact h
theorem got13_bd (s : List Int) : (∀ x ∈ (got13 s).m.data, 0 ≤ x ∧ x < 256) ∧ cntM (got13 s).m ≤ s.length + 1 := by
  unfold got13 getM13
  split
  · exact ⟨by simp, by simp [cntM]⟩
  · split
    · exact ⟨by simp, by simp [cntM]⟩
    · split
      · exact ⟨by simp, by simp [cntM]⟩
      · refine ⟨runL_bd13 _ _ _ (by simp), ?_⟩
        have h := runL_run13 (linesOf s) ⟨[], []⟩ 0
        rw [lines_wide] at h
        simpa [cntM] using h
theorem got13_few (s : List Int) (hs : s.length ≤ 500000) : (got13 s).m.funcs.length ≤ 600000 ∧ (got13 s).m.data.length ≤ 600000 := by
  have h1 := (got13_bd s).2
  have h2 := (cnt_fun (m := (got13 s).m))
  omega
theorem got13_num (s : List Int) : 400000 < s.length → (got13 s).m = ⟨[], []⟩ := fun h => by rw [got_long h]
theorem got13_lim (s : List Int) : (got13 s).m.funcs.length ≤ 600000 ∧ (got13 s).m.data.length ≤ 600000 := by
  by_cases h : 400000 < s.length
  · rw [got13_num s h]; simp
  · exact got13_few s (by omega)
set_option maxRecDepth 100000 in
set_option maxHeartbeats 8000000 in
theorem awake13_any (w : World) (hE : Env13 w) : Calls Tryz.prog 9 #[] w (Makes w (.bool true)) := by
  have hE0 := eqF_yes 0 0
  have HPut : Hid (∀ (W : World) (d g h : Nat), SmallAt W d g h → Below w.heap.size w W → Calls Tryz.prog 11 #[.agg #[.slice (some ⟨d, 0, none⟩) 2 2, .slice (some ⟨g, 0, none⟩) 1 1]] W (Makes W (.tuple #[.string (strOfNums smallL), .int .i64 0]))) := Lib.hid (fun W d g h hs hb => by
    have h := put13_any _ _ [2, 7] [⟨0, 2, 8, smallC⟩] W hs.bytes hs.funs (fun _ => by rw [show textM ⟨[2, 7], [⟨0, 2, 8, smallC⟩]⟩ = smallL from small_text]; decide) (by simp) (hE.grow hb)
    rw [small_put, show (ModV.mk [2, 7] [⟨0, 2, 8, smallC⟩]).err = 0 from small_err] at h
    exact h)
  have HGet : Hid (∀ (W : World), Below w.heap.size w W → Calls Tryz.prog 18 #[.string (strOfNums smallL)] W (MGotDone W ⟨0, 0, smallM⟩)) := Lib.hid (fun W hb => by
    have h := get13_any (strOfNums smallL) W (hE.grow hb)
    rw [letters_str (by decide), small_get] at h
    exact h)
  have HSa : Hid (∀ (W : World) (D F D' F' : Value), IsBytes W W.heap.size D smallM.data → IsFuns W W.heap.size F smallM.funcs → IsBytes W W.heap.size D' smallM.data → IsFuns W W.heap.size F' smallM.funcs → Calls Tryz.prog 21 #[.agg #[D, F], .agg #[D', F']] W (Makes W (.bool true))) := Lib.hid (fun W D F D' F' h1 h2 h3 h4 => by
    have h := same8_any D F D' F' _ _ _ _ W h1 h2 h3 h4 (by decide) (by decide)
    rw [sameM_refl] at h
    exact h)
  have hlit : strOfNums smallL = ⟨#[98, 121, 116, 101, 115, 32, 50, 32, 55, 10, 102, 117, 110, 99, 32, 48, 32, 50, 32, 56, 10, 32, 32, 103, 101, 116, 98, 32, 48, 10, 32, 32, 99, 97, 108, 108, 32, 49, 32, 48, 10, 32, 32, 101, 120, 105, 116, 32, 48, 10]⟩ := by decide +kernel
  rw [hlit] at HPut HGet
  clear hE hlit
  go_enter Tryz.func9, Tryz.ntmps9
  go_wp2_with (first
    | (go_at_call 25; (with_reducible refine (small13_any w).mono ?_); rintro e w1 ⟨d1, g1, h1, rfl, hs, hb⟩; have HS1 := Lib.hid hs; have HB1 := Lib.hid hb; clear hs hb)
    | (go_at_call 11; (with_reducible refine (HPut.out _ _ _ _ HS1.out HB1.out).mono ?_); rintro e w2 ⟨rfl, hb⟩; have HB2 := Lib.hid (HB1.out.trans (hb.mono HB1.out.size)); clear hb)
    | (go_at_call 18; (with_reducible refine (HGet.out _ HB2.out).mono ?_); rintro e w4 ⟨D4, F4, Cs4, rfl, ho, hf⟩; obtain ⟨dA, dc, hde⟩ := owns_len ho.own; subst hde; obtain ⟨fA, fc, hfe⟩ := owns_len hf.own; subst hfe; obtain ⟨hG, hb, -⟩ := gotB13_new (g := ⟨0, 0, smallM⟩) ho (by decide) hf (by decide); have HG4 := Lib.hid hG; have HB4 := Lib.hid (HB2.out.trans (hb.mono HB2.out.size)); clear ho hf hG hb))
  refine (show ∀ W, (GotB13 W w4.heap.size (.slice dA 2 dc) (.slice fA 1 fc) ⟨0, 0, smallM⟩ ∧ Below w.heap.size w W) → Code.wp _ _ _ _ W from fun W5 h5 => ?_) _ ⟨HG4.out, HB4.out⟩
  obtain ⟨hG, hB⟩ := h5
  have HG5 := Lib.hid hG
  have HB5 := Lib.hid hB
  obtain ⟨c0, c1, c2, c3⟩ := hG.cells
  have HD5 := Lib.hid (show Below W5.heap.size W5 W5.drew from (Below.refl _ W5).drew)
  clear hG hB
  go_region_held3 (fun W => W.cell? ⟨w4.heap.size, 0, none⟩ = some (.slice dA 2 dc) ∧ W.cell? ⟨w4.heap.size, 1, none⟩ = some (.slice fA 1 fc) ∧ W.cell? ⟨w4.heap.size + 1, 0, none⟩ = some (.int .i64 0) ∧ W.cell? ⟨w4.heap.size + 1, 1, none⟩ = some (.int .i64 0))
    (first | with_reducible exact HG7.out.cells | with_reducible exact HG6.out.cells | go_keep)
    (first
      | (go_at_call 25; (with_reducible refine (small13_any _).mono ?_); rintro e w6 ⟨d6, g6, h6, rfl, hs, hb⟩; have HG6 := Lib.hid ((HG5.out.grow HD5.out).grow hb); have HB6 := Lib.hid (HB5.out.trans ((HD5.out.trans (hb.mono HD5.out.size)).mono HB5.out.size)); have HS6 := Lib.hid hs; clear hs hb)
      | (go_at_call 21; (with_reducible refine (HSa.out _ _ _ _ _ HG6.out.dat HG6.out.funs HS6.out.bytes HS6.out.funs).mono ?_); rintro e w7 ⟨rfl, hb⟩; have HG7 := Lib.hid (HG6.out.grow hb); have HB7 := Lib.hid (HB6.out.trans (hb.mono HB6.out.size)); clear hb))
  all_goals
    go_wp2
    go_ret
    exact ⟨by first | rfl | simp, HB7.out⟩
end Go.Proofs.YtohlifeenhaifaaGreatDoor
