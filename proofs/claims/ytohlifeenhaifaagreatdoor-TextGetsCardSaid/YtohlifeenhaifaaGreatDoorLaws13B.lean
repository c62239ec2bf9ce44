/- TextKnown: the chapter's examples. Contract; no condition but that the library's variables hold what they hold. -/
import Derived.Test.YtohlifeenhaifaaGreatDoorLaws13A
namespace Go.Proofs.YtohlifeenhaifaaGreatDoor
open Go.RowKit Go.Shelf
set_option linter.unusedVariables false
set_option linter.unusedSimpArgs false

theorem ret_boolT {a b : Bool} (h : b = a) : Ending.returned (.bool a) = Ending.returned (.bool b) := by rw [h]
set_option maxRecDepth 100000 in
set_option maxHeartbeats 4000000 in
theorem fails13_any (s : ByteArray) (z k : Int) (w : World) (hE : Env13 w) (hg : got13 (lettersOf s) = ⟨z, k, ⟨[], []⟩⟩) : Calls Tryz.prog 23 #[.string s, .int .i64 z, .int .i64 k] w (Makes w (.bool true)) := by
  have HG : Hid (Calls Tryz.prog 18 #[.string s] w (MGotDone w ⟨z, k, ⟨[], []⟩⟩)) := Lib.hid (by
    have h := get13_any s w hE
    rw [hg] at h
    exact h)
  have hE0 := eqF_yes z k
  clear hE hg
  go_enter Tryz.func23, Tryz.ntmps23
  go_wp2_with (go_at_call 18; (with_reducible refine HG.out.mono ?_); rintro e w4 ⟨D4, F4, Cs4, rfl, ho, hf⟩; obtain ⟨dA, dc, hde⟩ := owns_len ho.own; subst hde; obtain ⟨fA, fc, hfe⟩ := owns_len hf.own; subst hfe; obtain ⟨hG, hb, -⟩ := gotB13_new (g := ⟨z, k, ⟨[], []⟩⟩) ho (by simp) hf (by simp); have HG4 := Lib.hid hG; have HB4 := Lib.hid hb; obtain ⟨c0, c1, c2, c3⟩ := hG.cells; clear ho hf hG hb)
  all_goals
    go_ret
    exact ⟨by first | rfl | simp, HB4.out⟩
theorem insT_of {y : InsV} {nm : List Int} {vs : List Int} {out : List Int} (h1 : lettersOf (nameI y.op) = nm) (h2 : valsV y = vs) (h3 : nm ++ vs.flatMap (fun v => 32 :: numL v) = out) : insT y = out := by
  unfold insT
  rw [h1, h2, h3]
theorem digs13 : numL 0 = [48] ∧ numL 1 = [49] ∧ numL 2 = [50] ∧ numL 3 = [51] ∧ numL 5 = [53] := ⟨numL_small (by decide), numL_small (by decide), numL_small (by decide), numL_small (by decide), numL_small (by decide)⟩
theorem ins_add : strOfNums (insT ⟨3, 0, 1, 2, 0, []⟩) = ⟨#[97, 100, 100, 32, 48, 32, 49, 32, 50]⟩ := by
  obtain ⟨n0, n1, n2, n3, n5⟩ := digs13
  rw [insT_of (nm := [97, 100, 100]) (vs := [0, 1, 2]) (out := [97, 100, 100, 32, 48, 32, 49, 32, 50]) (by decide +kernel) (by decide +kernel) (by simp [n0, n1, n2])]
  rfl
theorem ins_call : strOfNums (insT ⟨28, 3, 0, 0, 5, [1, 2]⟩) = ⟨#[99, 97, 108, 108, 32, 51, 32, 53, 32, 49, 32, 50]⟩ := by
  obtain ⟨n0, n1, n2, n3, n5⟩ := digs13
  rw [insT_of (nm := [99, 97, 108, 108]) (vs := [3, 5, 1, 2]) (out := [99, 97, 108, 108, 32, 51, 32, 53, 32, 49, 32, 50]) (by decide +kernel) (by decide +kernel) (by simp [n1, n2, n3, n5])]
  rfl
theorem ins_nop : strOfNums (insT ⟨0, 0, 0, 0, 0, []⟩) = ⟨#[110, 111, 112]⟩ := by
  rw [insT_of (nm := [110, 111, 112]) (vs := []) (out := [110, 111, 112]) (by decide +kernel) (by decide +kernel) (by simp)]
  rfl
theorem ins_none : strOfNums (insT ⟨33, 0, 0, 0, 0, []⟩) = ⟨#[]⟩ := by
  rw [insT_of (nm := []) (vs := []) (out := []) (by decide +kernel) (by decide +kernel) (by simp)]
  rfl
theorem kn1 : got13 (lettersOf ⟨#[]⟩) = ⟨2, 0, ⟨[], []⟩⟩ := by kernel_rfl
theorem kn2 : got13 (lettersOf ⟨#[97, 100, 100, 32, 48, 32, 49, 32, 50]⟩) = ⟨10, 0, ⟨[], []⟩⟩ := by kernel_rfl
theorem kn3 : got13 (lettersOf ⟨#[102, 117, 110, 99, 32, 48, 32, 49, 32, 48, 10, 101, 120, 105, 116, 32, 48, 32, 48]⟩) = ⟨10, 11, ⟨[], []⟩⟩ := by kernel_rfl
theorem kn4 : got13 (lettersOf ⟨#[102, 117, 110, 99, 32, 48, 32, 49, 32, 120]⟩) = ⟨5, 0, ⟨[], []⟩⟩ := by kernel_rfl
theorem kn5 : numP (lettersOf ⟨#[45, 49]⟩) = some (-1) := by kernel_rfl
theorem kn6 : numP (lettersOf ⟨#[45, 48]⟩) = none := by kernel_rfl
theorem kn7 : numP (lettersOf ⟨#[48, 49]⟩) = none := by kernel_rfl
theorem kn8 : numP (lettersOf ⟨#[57, 50, 50, 51, 51, 55, 50, 48, 51, 54, 56, 53, 52, 55, 55, 53, 56, 48, 56]⟩) = none := by kernel_rfl
theorem insLit13 (op a b c n : Int) (args : List Int) (X : Value) (out : ByteArray) (w0 w : World) (hE : Env13 w0) (hb : Below w0.heap.size w0 w) (hX : IsNums .i64 w w.heap.size X args) (hI : InI a ∧ InI b ∧ InI c ∧ InI n) (hA : ∀ x ∈ args, InI x) (hl : args.length ≤ 100) (ho : strOfNums (insT ⟨op, a, b, c, n, args⟩) = out) :
    Calls Tryz.prog 15 #[.agg #[.int .i64 op, .int .i64 a, .int .i64 b, .int .i64 c, .int .i64 n, X]] w (Makes w (.string out)) := by
  have h := ins13_any ⟨op, a, b, c, n, args⟩ X w hX hI hA (by simp; omega) (hE.grow hb)
  rw [ho] at h
  exact h
theorem in13 : ∀ x ∈ ([0, 1, 2, 3, 5, 28, 33] : List Int), InI x := by unfold InI; decide
set_option maxRecDepth 100000 in
set_option maxHeartbeats 8000000 in
theorem known13_any (w : World) (hE : Env13 w) : Calls Tryz.prog 5 #[] w (Makes w (.bool true)) := by
  have H1 : Hid (∀ W, Below w.heap.size w W → Calls Tryz.prog 15 #[.agg #[.int .i64 3, .int .i64 0, .int .i64 1, .int .i64 2, .int .i64 0, .slice none 0 0]] W (Makes W (.string ⟨#[97, 100, 100, 32, 48, 32, 49, 32, 50]⟩))) := Lib.hid (fun W hb => insLit13 3 0 1 2 0 [] _ _ w W hE hb (nums_nil _ _) ⟨in13 _ (by decide), in13 _ (by decide), in13 _ (by decide), in13 _ (by decide)⟩ (by simp) (by simp) ins_add)
  have H2 : Hid (∀ (W : World) (g : Nat), Below w.heap.size w W → W.heap[g]? = some (.cells #[.int .i64 1, .int .i64 2] 3 (0, 0)) → Calls Tryz.prog 15 #[.agg #[.int .i64 28, .int .i64 3, .int .i64 0, .int .i64 0, .int .i64 5, .slice (some ⟨g, 0, none⟩) 2 2]] W (Makes W (.string ⟨#[99, 97, 108, 108, 32, 51, 32, 53, 32, 49, 32, 50]⟩))) := Lib.hid (fun W g hb hg => insLit13 28 3 0 0 5 [1, 2] _ _ w W hE hb ⟨by unfold maxLen; simp, .inr ⟨⟨g, 0, none⟩, 2, rfl, by simp, fun _ => heap_lt hg, fun i hi => by
    have hi2 : i < 2 := hi
    rcases (show i = 0 ∨ i = 1 by omega) with rfl | rfl <;> simp [World.cell?, hg, Addr.add]⟩⟩ ⟨in13 _ (by decide), in13 _ (by decide), in13 _ (by decide), in13 _ (by decide)⟩ (fun x hx => in13 x (by simp at hx; rcases hx with rfl | rfl <;> decide)) (by simp) ins_call)
  have H3 : Hid (∀ W, Below w.heap.size w W → Calls Tryz.prog 15 #[.agg #[.int .i64 0, .int .i64 0, .int .i64 0, .int .i64 0, .int .i64 0, .slice none 0 0]] W (Makes W (.string ⟨#[110, 111, 112]⟩))) := Lib.hid (fun W hb => insLit13 0 0 0 0 0 [] _ _ w W hE hb (nums_nil _ _) ⟨in13 _ (by decide), in13 _ (by decide), in13 _ (by decide), in13 _ (by decide)⟩ (by simp) (by simp) ins_nop)
  have H4 : Hid (∀ W, Below w.heap.size w W → Calls Tryz.prog 15 #[.agg #[.int .i64 33, .int .i64 0, .int .i64 0, .int .i64 0, .int .i64 0, .slice none 0 0]] W (Makes W (.string ⟨#[]⟩))) := Lib.hid (fun W hb => insLit13 33 0 0 0 0 [] _ _ w W hE hb (nums_nil _ _) ⟨in13 _ (by decide), in13 _ (by decide), in13 _ (by decide), in13 _ (by decide)⟩ (by simp) (by simp) ins_none)
  have F1 := Lib.hid (fun W (hb : Below w.heap.size w W) => fails13_any _ _ _ W (hE.grow hb) kn1)
  have F2 := Lib.hid (fun W (hb : Below w.heap.size w W) => fails13_any _ _ _ W (hE.grow hb) kn2)
  have F3 := Lib.hid (fun W (hb : Below w.heap.size w W) => fails13_any _ _ _ W (hE.grow hb) kn3)
  have F4 := Lib.hid (fun W (hb : Below w.heap.size w W) => fails13_any _ _ _ W (hE.grow hb) kn4)
  have N1 := Lib.hid (fun W (hb : Below w.heap.size w W) => number13_some ⟨#[45, 49]⟩ (by decide) _ kn5 W (hE.grow hb))
  have N2 := Lib.hid (fun W (hb : Below w.heap.size w W) => number13_none ⟨#[45, 48]⟩ (by decide) kn6 W (hE.grow hb))
  have N3 := Lib.hid (fun W (hb : Below w.heap.size w W) => number13_none ⟨#[48, 49]⟩ (by decide) kn7 W (hE.grow hb))
  have N4 := Lib.hid (fun W (hb : Below w.heap.size w W) => number13_none ⟨#[57, 50, 50, 51, 51, 55, 50, 48, 51, 54, 56, 53, 52, 55, 55, 53, 56, 48, 56]⟩ (by decide) kn8 W (hE.grow hb))
  have AW := Lib.hid (fun W (hb : Below w.heap.size w W) => awake13_any W (hE.grow hb))
  clear hE
  have HB0 := Lib.hid (Below.refl w.heap.size w)
  go_enter Tryz.func5, Tryz.ntmps5
  go_wp2_with (first
    | (go_at_call 15; (with_reducible refine (H1.out _ HB0.out).mono ?_); rintro e w1 ⟨rfl, hb⟩; have HB1 := Lib.hid hb; have HR1 := Lib.hid (And.intro (HB1.out.trans (((Below.refl w1.heap.size w1).alloc (Nat.le_refl _) (.cells #[.int .i64 1, .int .i64 2] 3)).mono HB1.out.size)) (heap_alloc_new w1 (.cells #[.int .i64 1, .int .i64 2] 3))); clear hb)
    | (go_at_call 15; (with_reducible refine (H2.out _ _ HR1.out.1 HR1.out.2).mono ?_); rintro e w2 ⟨rfl, hb⟩; have HB2 := Lib.hid (HR1.out.1.trans (hb.mono HR1.out.1.size)); clear hb)
    | (go_at_call 15; (with_reducible refine (H3.out _ HB2.out).mono ?_); rintro e w3 ⟨rfl, hb⟩; have HB3 := Lib.hid (HB2.out.trans (hb.mono HB2.out.size)); clear hb)
    | (go_at_call 15; (with_reducible refine (H4.out _ HB3.out).mono ?_); rintro e w4 ⟨rfl, hb⟩; have HB4 := Lib.hid (HB3.out.trans (hb.mono HB3.out.size)); clear hb)
    | (go_at_call 23; (with_reducible refine (F1.out _ HB4.out).mono ?_); rintro e w5 ⟨rfl, hb⟩; have HB5 := Lib.hid (HB4.out.trans (hb.mono HB4.out.size)); clear hb)
    | (go_at_call 23; (with_reducible refine (F2.out _ HB5.out).mono ?_); rintro e w6 ⟨rfl, hb⟩; have HB6 := Lib.hid (HB5.out.trans (hb.mono HB5.out.size)); clear hb)
    | (go_at_call 23; (with_reducible refine (F3.out _ HB6.out).mono ?_); rintro e w7 ⟨rfl, hb⟩; have HB7 := Lib.hid (HB6.out.trans (hb.mono HB6.out.size)); clear hb)
    | (go_at_call 23; (with_reducible refine (F4.out _ HB7.out).mono ?_); rintro e w8 ⟨rfl, hb⟩; have HB8 := Lib.hid (HB7.out.trans (hb.mono HB7.out.size)); clear hb)
    | (go_at_call 13; (with_reducible refine (N1.out _ HB8.out).mono ?_); rintro e w9 ⟨rfl, hb⟩; have HB9 := Lib.hid (HB8.out.trans (hb.mono HB8.out.size)); clear hb)
    | (go_at_call 13; (with_reducible refine (N2.out _ HB9.out).mono ?_); rintro e wA ⟨rfl, hb⟩; have HBA := Lib.hid (HB9.out.trans (hb.mono HB9.out.size)); clear hb)
    | (go_at_call 13; (with_reducible refine (N3.out _ HBA.out).mono ?_); rintro e wB ⟨rfl, hb⟩; have HBB := Lib.hid (HBA.out.trans (hb.mono HBA.out.size)); clear hb)
    | (go_at_call 13; (with_reducible refine (N4.out _ HBB.out).mono ?_); rintro e wC ⟨rfl, hb⟩; have HBC := Lib.hid (HBB.out.trans (hb.mono HBB.out.size)); clear hb)
    | (go_at_call 9; (with_reducible refine (AW.out _ HBC.out).mono ?_); rintro e wD ⟨rfl, hb⟩; have HBD := Lib.hid (HBC.out.trans (hb.mono HBC.out.size)); clear hb))
  all_goals
    go_ret
    exact ⟨by first | rfl | simp, HBD.out⟩
end Go.Proofs.YtohlifeenhaifaaGreatDoor
