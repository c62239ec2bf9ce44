/- The statements' own examples of layer 8: echo, bytes, awake. Contracts; no condition. -/
import Derived.Test.YtimhlbejjbnofaaS13
import Derived.Test.YtimhlbejjbnofaaKit08A
import Derived.Test.YtimhlbejjbnofaaKit08B
namespace Go.Proofs.Ytimhlbejjbnofaa
open Go.RowKit Go.Shelf
set_option linter.unusedVariables false
set_option linter.unusedSimpArgs false

def echoC : List InsV := [⟨30, 0, 0, 0, 0, []⟩, ⟨32, 0, 0, 0, 0, []⟩]
def echoL : List Int := [84, 87, 1, 0, 0, 1, 0, 1, 0, 0, 4, 0, 30, 0, 32, 0]
def echoM : ModV := ⟨[], [⟨0, 1, 0, echoC⟩]⟩
theorem echo_err : echoM.err = 0 := by kernel_rfl
theorem echo_bytes : echoM.bytes = echoL := by kernel_rfl
theorem echo_get : (getM echoL).err = 0 ∧ (getM echoL).at_ = 0 := ⟨by kernel_rfl, by kernel_rfl⟩
theorem echo_mod : (getM echoL).m = echoM := by kernel_rfl
/-- The example's function, in a row of its own. -/
structure EchoAt (W : World) (g h : Nat) (p r : Int) : Prop where
  row : W.heap[g]? = some (.cells #[.int .i64 p, .int .i64 r, .int .i64 0, .slice (some ⟨h, 0, none⟩) 2 2] 47 (0, 0))
  cod : W.heap[h]? = some (.cells #[.int .i64 30, .int .i64 0, .int .i64 0, .int .i64 0, .int .i64 0, .slice none 0 0, .int .i64 32, .int .i64 0, .int .i64 0, .int .i64 0, .int .i64 0, .slice none 0 0] 51 (0, 0))
theorem EchoAt.code {W : World} {g h : Nat} {p r : Int} (e : EchoAt W g h p r) : IsCode W W.heap.size (.slice (some ⟨h, 0, none⟩) 2 2) echoC := by
  have i0 : InI 0 := by unfold InI; decide
  have i1 : InI 30 := by unfold InI; decide
  have i2 : InI 32 := by unfold InI; decide
  refine ⟨by unfold maxLen; simp [echoC], by intro z hz; simp [echoC] at hz; rcases hz with rfl | rfl <;> exact ⟨by assumption, i0, i0, i0, i0⟩, .inr ⟨h, 0, 2, rfl, Nat.le_refl _, heap_lt e.cod, fun i hi => ?_⟩⟩
  rcases (show i = 0 ∨ i = 1 by simp [echoC] at hi; omega) with rfl | rfl
  · refine ⟨.slice none 0 0, nums_nil _ _, fun j hj => ?_⟩
    rw [cell_of_row _ _ _ _ _ _ e.cod]
    rcases (show j = 0 ∨ j = 1 ∨ j = 2 ∨ j = 3 ∨ j = 4 ∨ j = 5 by omega) with rfl | rfl | rfl | rfl | rfl | rfl <;> rfl
  · refine ⟨.slice none 0 0, nums_nil _ _, fun j hj => ?_⟩
    rw [cell_of_row _ _ _ _ _ _ e.cod]
    rcases (show j = 0 ∨ j = 1 ∨ j = 2 ∨ j = 3 ∨ j = 4 ∨ j = 5 by omega) with rfl | rfl | rfl | rfl | rfl | rfl <;> rfl
theorem EchoAt.funs {W : World} {g h : Nat} {p r : Int} (e : EchoAt W g h p r) (hp : InI p) (hr : InI r) : IsFuns W W.heap.size (.slice (some ⟨g, 0, none⟩) 1 1) [⟨p, r, 0, echoC⟩] := by
  refine ⟨by unfold maxLen; simp, fun f hf => ?_, .inr ⟨g, 0, 1, rfl, Nat.le_refl _, heap_lt e.row, fun i hi => ⟨.slice (some ⟨h, 0, none⟩) 2 2, ?_, fun j hj => ?_⟩⟩⟩
  · simp at hf
    subst hf
    exact ⟨hp, hr, show InI 0 by unfold InI; decide⟩
  · obtain rfl : i = 0 := by simpa using hi
    exact e.code
  · obtain rfl : i = 0 := by simpa using hi
    obtain ⟨c0, c1, c2, c3⟩ := cells4 e.row
    rcases (show j = 0 ∨ j = 1 ∨ j = 2 ∨ j = 3 by omega) with rfl | rfl | rfl | rfl
    · exact c0
    · exact c1
    · exact c2
    · exact c3
theorem EchoAt.grow {W W' : World} {g h : Nat} {p r : Int} (e : EchoAt W g h p r) (hb : Below W.heap.size W W') : EchoAt W' g h p r := ⟨box_below e.row hb, box_below e.cod hb⟩
/-- Another row is written. -/
theorem EchoAt.other {W : World} {g h g2 o : Nat} {p r : Int} {c : Array Value} (e : EchoAt W g h p r) (hg : g2 ≠ g) (h2 : W.heap[g2]? = some (.cells c 47 (0, 0))) (v : Value) : EchoAt (W.setCell ⟨g2, o, none⟩ v) g h p r := by
  have hb := but_one W g2 o v
  refine ⟨hb.heap e.row (fun x => hg (Eq.symm x)), hb.heap e.cod (fun x => ?_)⟩
  have x' : h = g2 := x
  subst x'
  exact absurd (other_type e.cod h2) (by decide)
theorem EchoAt.set {W : World} {g h o : Nat} {p r p' r' : Int} {v : Value} (e : EchoAt W g h p r) (hc : (#[.int .i64 p, .int .i64 r, .int .i64 0, .slice (some ⟨h, 0, none⟩) 2 2] : Array Value).setIfInBounds o v = #[.int .i64 p', .int .i64 r', .int .i64 0, .slice (some ⟨h, 0, none⟩) 2 2]) : EchoAt (W.setCell ⟨g, o, none⟩ v) g h p' r' := by
  have h1 := heap_setCell_same W g o _ _ v e.row
  rw [hc] at h1
  refine ⟨h1, (but_one W g o v).heap e.cod (fun x => ?_)⟩
  have x' : h = g := x
  subst x'
  exact absurd (other_type e.cod e.row) (by decide)
/-- What echo tells. -/
def EchoDone (w : World) (e : Ending) (w' : World) : Prop := ∃ g h, e = .returned (.agg #[.slice none 0 0, .slice (some ⟨g, 0, none⟩) 1 1]) ∧ EchoAt w' g h 0 1 ∧ w.heap.size ≤ g ∧ Below w.heap.size w w'
theorem echo_new (w : World) (o : Obj) : EchoAt (((w.alloc o).alloc (.cells #[.int .i64 30, .int .i64 0, .int .i64 0, .int .i64 0, .int .i64 0, .slice none 0 0, .int .i64 32, .int .i64 0, .int .i64 0, .int .i64 0, .int .i64 0, .slice none 0 0] 51)).alloc (.cells #[.int .i64 0, .int .i64 1, .int .i64 0, .slice (some ⟨w.heap.size + 1, 0, none⟩) 2 2] 47)) (w.heap.size + 2) (w.heap.size + 1) 0 1 := by
  have hrow := heap_alloc_new ((w.alloc o).alloc (.cells #[.int .i64 30, .int .i64 0, .int .i64 0, .int .i64 0, .int .i64 0, .slice none 0 0, .int .i64 32, .int .i64 0, .int .i64 0, .int .i64 0, .int .i64 0, .slice none 0 0] 51)) (.cells #[.int .i64 0, .int .i64 1, .int .i64 0, .slice (some ⟨w.heap.size + 1, 0, none⟩) 2 2] 47)
  rw [World.size_alloc, World.size_alloc] at hrow
  refine ⟨hrow, ?_⟩
  rw [Below.heap_alloc _ _ _ (by simp only [World.size_alloc]; omega)]
  have hn := heap_alloc_new (w.alloc o) (.cells #[.int .i64 30, .int .i64 0, .int .i64 0, .int .i64 0, .int .i64 0, .slice none 0 0, .int .i64 32, .int .i64 0, .int .i64 0, .int .i64 0, .int .i64 0, .slice none 0 0] 51)
  rw [World.size_alloc] at hn
  exact hn
set_option maxRecDepth 100000 in
set_option maxHeartbeats 4000000 in
theorem echo_any (w : World) : Calls Try.prog 27 #[] w (EchoDone w) := by
  go_enter Try.func27, Try.ntmps27
  go_wp2
  have hE := echo_new w (.cells #[.slice none 0 0, .slice (some ⟨w.heap.size + 1 + 1, 0, none⟩) 1 1] 25)
  have hb : Below w.heap.size w (((w.alloc (.cells #[.slice none 0 0, .slice (some ⟨w.heap.size + 1 + 1, 0, none⟩) 1 1] 25)).alloc (.cells #[.int .i64 30, .int .i64 0, .int .i64 0, .int .i64 0, .int .i64 0, .slice none 0 0, .int .i64 32, .int .i64 0, .int .i64 0, .int .i64 0, .int .i64 0, .slice none 0 0] 51)).alloc (.cells #[.int .i64 0, .int .i64 1, .int .i64 0, .slice (some ⟨w.heap.size + 1, 0, none⟩) 2 2] 47)) := (((Below.refl _ w).alloc (Nat.le_refl _) _).alloc (by simp) _).alloc (by simp only [World.size_alloc]; omega) _
  have hk := heap_alloc_new w (.cells #[.slice none 0 0, .slice (some ⟨w.heap.size + 1 + 1, 0, none⟩) 1 1] 25)
  have hk2 : (((w.alloc (.cells #[.slice none 0 0, .slice (some ⟨w.heap.size + 1 + 1, 0, none⟩) 1 1] 25)).alloc (.cells #[.int .i64 30, .int .i64 0, .int .i64 0, .int .i64 0, .int .i64 0, .slice none 0 0, .int .i64 32, .int .i64 0, .int .i64 0, .int .i64 0, .int .i64 0, .slice none 0 0] 51)).alloc (.cells #[.int .i64 0, .int .i64 1, .int .i64 0, .slice (some ⟨w.heap.size + 1, 0, none⟩) 2 2] 47)).heap[w.heap.size]? = some (.cells #[.slice none 0 0, .slice (some ⟨w.heap.size + 1 + 1, 0, none⟩) 1 1] 25 (0, 0)) := by
    rw [Below.heap_alloc _ _ _ (by simp only [World.size_alloc]; omega), Below.heap_alloc _ _ _ (by simp)]
    exact hk
  obtain ⟨c0, c1⟩ := cells2 hk2
  refine bodyPost_ret (v := .agg #[.slice none 0 0, .slice (some ⟨w.heap.size + 1 + 1, 0, none⟩) 1 1]) (by simp [results, Try.results27, go_sem, c0, c1]) rfl ?_
  exact ⟨w.heap.size + 2, _, rfl, hE, by omega, hb⟩
set_option maxRecDepth 100000 in
theorem bytes8_any (w : World) : Calls Try.prog 26 #[] w fun e w' => ∃ A c, e = .returned (.slice A 16 c) ∧ OutB w w' (.slice A 16 c) echoL := by
  go_enter Try.func26, Try.ntmps26
  go_wp2
  go_ret
  exact ⟨_, _, rfl, outB_new w echoL (by decide) _ rfl (by decide)⟩
/-- What a call of Get left, in its two boxes. -/
structure GotB (W : World) (bx : Nat) (D F : Value) (z k : Int) (data : List Int) (fs : List FunV) : Prop where
  mod : W.heap[bx]? = some (.cells #[D, F] 25 (0, 0))
  fau : W.heap[bx + 1]? = some (.cells #[.int .i64 z, .int .i64 k] 38 (0, 0))
  dat : IsBytes W W.heap.size D data
  funs : IsFuns W W.heap.size F fs
theorem GotB.grow {W W' : World} {bx : Nat} {D F : Value} {z k : Int} {data : List Int} {fs : List FunV} (h : GotB W bx D F z k data fs) (hb : Below W.heap.size W W') : GotB W' bx D F z k data fs :=
  ⟨box_below h.mod hb, box_below h.fau hb, h.dat.grow hb, h.funs.grow hb⟩
theorem GotB.cells {W : World} {bx : Nat} {D F : Value} {z k : Int} {data : List Int} {fs : List FunV} (h : GotB W bx D F z k data fs) : W.cell? ⟨bx, 0, none⟩ = some D ∧ W.cell? ⟨bx, 1, none⟩ = some F ∧ W.cell? ⟨bx + 1, 0, none⟩ = some (.int .i64 z) ∧ W.cell? ⟨bx + 1, 1, none⟩ = some (.int .i64 k) :=
  ⟨(cells2 h.mod).1, (cells2 h.mod).2, (cells2 h.fau).1, (cells2 h.fau).2⟩
theorem gotB_new {w w2 : World} {D F : Value} {z k : Int} {data : List Int} {fs : List FunV} {Cs : List Value} (ho : OutB w w2 D data) (hd : ∀ x ∈ data, 0 ≤ x ∧ x < 256) (hf : OwnF 47 0 w2 F fs Cs) (hl : fs.length ≤ 1000000) :
    GotB ((w2.alloc (.cells #[D, F] 25)).alloc (.cells #[.int .i64 z, .int .i64 k] 38)) w2.heap.size D F z k data fs ∧ Below w.heap.size w ((w2.alloc (.cells #[D, F] 25)).alloc (.cells #[.int .i64 z, .int .i64 k] 38)) := by
  have hb : Below w2.heap.size w2 ((w2.alloc (.cells #[D, F] 25)).alloc (.cells #[.int .i64 z, .int .i64 k] 38)) := ((Below.refl _ w2).alloc (Nat.le_refl _) _).alloc (by simp) _
  refine ⟨⟨?_, ?_, (outB_is ho hd).grow hb, (hf.funs hl).grow hb⟩, ho.bel.trans (hb.mono ho.bel.size)⟩
  · rw [Below.heap_alloc _ _ _ (by simp)]
    exact heap_alloc_new _ _
  · have := heap_alloc_new (w2.alloc (.cells #[D, F] 25)) (.cells #[.int .i64 z, .int .i64 k] 38)
    rw [World.size_alloc] at this
    exact this
theorem funsR_len (b : List Int) : ∀ (k : Nat) (s : Rd) (l : List FunV), (funsR b k s l).2.length ≤ l.length + k
  | 0, s, l => Nat.le_refl _
  | k + 1, s, l => by
    by_cases hs : s.err = 0
    · rw [funs_go hs]
      have := funsR_len b k (funS b s) (l ++ [funF b s])
      simp only [List.length_append, List.length_cons, List.length_nil] at this
      omega
    · rw [funs_bad hs]
      show l.length ≤ _
      omega
theorem got_bd {b : List Int} (hb : ∀ x ∈ b, 0 ≤ x ∧ x < 256) : (∀ x ∈ (getM b).m.data, 0 ≤ x ∧ x < 256) ∧ (getM b).m.funcs.length ≤ 1000000 := by
  by_cases h : (lastR b).err = 0
  · rw [mget_ok h]
    refine ⟨block_bd hb, ?_⟩
    have h1 := funsR_len b (manyR b).2.toNat (begR b) []
    have h2 := (num_bd (b := b) (s := (dataR b).1) (n := 1) hb (by omega)).2
    have h3 : (manyR b).2 < 65536 := h2
    show (funsR b (manyR b).2.toNat (begR b) []).2.length ≤ _
    simp only [List.length_nil] at h1
    omega
  · rw [mget_bad h]
    exact ⟨by simp, by simp⟩
theorem put_echo (W : World) (g h : Nat) (e : EchoAt W g h 0 1) : Calls Try.prog 12 #[.agg #[.slice none 0 0, .slice (some ⟨g, 0, none⟩) 1 1]] W (PutsU W 0 echoL) := by
  have := put8_any (.slice none 0 0) (.slice (some ⟨g, 0, none⟩) 1 1) [] [⟨0, 1, 0, echoC⟩] W (nil_is _ _) (e.funs (by unfold InI; decide) (by unfold InI; decide))
  rw [show (ModV.mk [] [⟨0, 1, 0, echoC⟩]).err = 0 from echo_err, show (ModV.mk [] [⟨0, 1, 0, echoC⟩]).bytes = echoL from echo_bytes] at this
  exact this
def GotEcho (W : World) (e : Ending) (w' : World) : Prop := ∃ D F Cs, e = .returned (.tuple #[.agg #[D, F], .agg #[.int .i64 0, .int .i64 0]]) ∧ OutB W w' D [] ∧ OwnF 47 0 w' F [⟨0, 1, 0, echoC⟩] Cs
theorem get_echo (W : World) (V : Value) (h : IsBytes W W.heap.size V echoL) : Calls Try.prog 22 #[V] W (GotEcho W) := by
  refine (get8_any V echoL W h (by decide)).mono ?_
  rintro e w' ⟨D, F, Cs, rfl, ho, hf⟩
  rw [echo_mod] at ho hf
  exact ⟨D, F, Cs, by rw [echo_get.1, echo_get.2], ho, hf⟩
set_option maxRecDepth 100000 in
set_option maxHeartbeats 8000000 in
theorem awake8_any (w : World) : Calls Try.prog 10 #[] w (Makes w (.bool true)) := by
  have hE := eqF_yes 0 0
  go_enter Try.func10, Try.ntmps10
  go_wp2_with (first
    | (go_at_call 27; (with_reducible refine (echo_any w).mono ?_); rintro e w1 ⟨g, h, rfl, he, _, hb⟩; have HE1 := Lib.hid he; have HB1 := Lib.hid hb; clear he hb)
    | (go_at_call 12; (with_reducible refine (put_echo w1 _ _ HE1.out).mono ?_); rintro e w2 ⟨V2, rfl, ho⟩; have HB2 := Lib.hid (HB1.out.trans (ho.bel.mono HB1.out.size)); obtain ⟨m2, vA, vc, HM2, rfl, HO2⟩ := ho.name; clear ho)
    | (go_at_call 26; (with_reducible refine (bytes8_any w2).mono ?_); rintro e w3 ⟨A3, c3, rfl, ho⟩; have HV3 := Lib.hid (outB_is ho (show ∀ x ∈ echoL, 0 ≤ x ∧ x < 256 by decide)); have HO3 := Lib.hid (HO2.out.grow ho.bel); have HB3 := Lib.hid (HB2.out.trans (ho.bel.mono HB2.out.size)); clear ho)
    | (go_at_call 22; (with_reducible refine (get_echo w3 _ HV3.out).mono ?_); rintro e w4 ⟨D4, F4, Cs4, rfl, ho, hf⟩; obtain ⟨dA, dc, hde⟩ := owns_len ho.own; subst hde; obtain ⟨fA, fc, hfe⟩ := owns_len hf.own; subst hfe; obtain ⟨hG, hb⟩ := gotB_new (z := 0) (k := 0) ho (by simp) hf (by simp); have HG4 := Lib.hid hG; have HB4 := Lib.hid (HB3.out.trans (hb.mono HB3.out.size)); have HO4 := Lib.hid (HO3.out.grow hb); clear ho hf hG hb))
  refine (show ∀ W, (GotB W w4.heap.size (.slice dA 0 dc) (.slice fA 1 fc) 0 0 [] [⟨0, 1, 0, echoC⟩] ∧ OutB w1 W (.slice vA m2.length vc) m2 ∧ Below w.heap.size w W) → Code.wp _ _ _ _ W from fun W5 h5 => ?_) _ ⟨HG4.out, HO4.out, HB4.out⟩
  obtain ⟨hG, hO, hB⟩ := h5
  have HG5 := Lib.hid hG
  have HO5 := Lib.hid hO
  have HB5 := Lib.hid hB
  obtain ⟨c0, c1, c2, c3⟩ := hG.cells
  have HD5 := Lib.hid (show Below W5.heap.size W5 W5.drew from (Below.refl _ W5).drew)
  have hm : sameM ⟨[], [⟨0, 1, 0, echoC⟩]⟩ ⟨[], [⟨0, 1, 0, echoC⟩]⟩ = true := sameM_refl _
  have HSM := Lib.hid (fun (W : World) (D F F' : Value) hD hF hD' hF' => sameModule_any D F (.slice none 0 0) F' [] [] [⟨0, 1, 0, echoC⟩] [⟨0, 1, 0, echoC⟩] W hD hF hD' hF')
  have HSa := Lib.hid (fun (W : World) (D F F' : Value) hD hF hD' hF' => same8_any D F (.slice none 0 0) F' [] [] [⟨0, 1, 0, echoC⟩] [⟨0, 1, 0, echoC⟩] W hD hF hD' hF' (by decide) (by decide))
  rw [hm] at HSM HSa
  have HSB : Hid (∀ (X Y : Value) (W : World) (B C : Nat), IsBytes W B X m2 → IsBytes W C Y echoL → Calls Try.prog 14 #[X, Y] W fun e w' => e = .returned (.bool true) ∧ W = w') := Lib.hid (fun X Y W B C hX hY => by
    have h := sameBytes_any X Y m2 echoL W B C hX hY
    rw [HM2.out, beq_self_eq_true] at h
    exact h)
  clear hG hO hB hm
  go_region_held3 (fun W => W.cell? ⟨w4.heap.size, 0, none⟩ = some (.slice dA 0 dc) ∧ W.cell? ⟨w4.heap.size, 1, none⟩ = some (.slice fA 1 fc) ∧ W.cell? ⟨w4.heap.size + 1, 0, none⟩ = some (.int .i64 0) ∧ W.cell? ⟨w4.heap.size + 1, 1, none⟩ = some (.int .i64 0))
    (first | with_reducible exact HG10.out.cells | with_reducible exact HG9.out.cells | with_reducible exact HG8.out.cells | with_reducible exact HG7.out.cells | with_reducible exact HG6.out.cells | go_keep)
    (first
      | (go_at_call 26; (with_reducible refine (bytes8_any _).mono ?_); rintro e w6 ⟨A6, c6, rfl, ho⟩; have HG6 := Lib.hid ((HG5.out.grow HD5.out).grow ho.bel); have HB6 := Lib.hid (HB5.out.trans ((HD5.out.trans (ho.bel.mono HD5.out.size)).mono HB5.out.size)); have HV6 := Lib.hid (outB_is ho (show ∀ x ∈ echoL, 0 ≤ x ∧ x < 256 by decide)); have HU6 := Lib.hid (outB_is ((HO5.out.grow HD5.out).grow ho.bel) (by rw [HM2.out]; decide)); clear ho)
      | (go_at_call 14; (with_reducible refine (HSB.out _ _ _ _ _ HU6.out HV6.out).mono ?_); rintro e w' ⟨rfl, rfl⟩)
      | (go_at_call 27; (with_reducible refine (echo_any w6).mono ?_); rintro e w7 ⟨g7, h7, rfl, he, _, hb⟩; have HE7 := Lib.hid (he.funs (by unfold InI; decide) (by unfold InI; decide)); have HG7 := Lib.hid (HG6.out.grow hb); have HB7 := Lib.hid (HB6.out.trans (hb.mono HB6.out.size)); clear he hb)
      | (go_at_call 20; (with_reducible refine (HSM.out _ _ _ _ HG7.out.dat HG7.out.funs (nil_is _ _) HE7.out).mono ?_); rintro e w8 ⟨rfl, hb⟩; have HG8 := Lib.hid (HG7.out.grow hb); have HB8 := Lib.hid (HB7.out.trans (hb.mono HB7.out.size)); clear hb)
      | (go_at_call 27; (with_reducible refine (echo_any w8).mono ?_); rintro e w9 ⟨g9, h9, rfl, he, _, hb⟩; have HE9 := Lib.hid (he.funs (by unfold InI; decide) (by unfold InI; decide)); have HG9 := Lib.hid (HG8.out.grow hb); have HB9 := Lib.hid (HB8.out.trans (hb.mono HB8.out.size)); clear he hb)
      | (go_at_call 17; (with_reducible refine (HSa.out _ _ _ _ HG9.out.dat HG9.out.funs (nil_is _ _) HE9.out).mono ?_); rintro e w10 ⟨rfl, hb⟩; have HG10 := Lib.hid (HG9.out.grow hb); have HB10 := Lib.hid (HB9.out.trans (hb.mono HB9.out.size)); clear hb))
  all_goals
    go_wp2
    go_ret
    exact ⟨by first | rfl | simp, HB10.out⟩
end Go.Proofs.Ytimhlbejjbnofaa
