import Derived.Test.YtkfdgpgildanbaaGreatS49
namespace Go.Proofs.YtkfdgpgildanbaaGreat
open Go.RowKit Go.Shelf
set_option linter.unusedVariables false
set_option linter.unusedSimpArgs false
def nop15 : InsV := ⟨0, 0, 0, 0, 0, []⟩
def twoM : ModV := ⟨[9], [⟨0, 2, 0, [nop15]⟩, ⟨1, 3, 5, [nop15]⟩]⟩
def TwoDone (w : World) (e : Ending) (w' : World) : Prop := ∃ D F, e = .returned (.agg #[D, F]) ∧ IsBytes w' w'.heap.size D twoM.data ∧ IsFuns w' w'.heap.size F twoM.funcs ∧ Below w.heap.size w w'
theorem two_is15 {W : World} {a b c : Nat} (ha : W.heap[a]? = some (.cells #[.int .i64 0, .int .i64 0, .int .i64 0, .int .i64 0, .int .i64 0, .slice none 0 0] 115 (0, 0))) (hb : W.heap[b]? = some (.cells #[.int .u8 9] 5 (0, 0)))
    (hc : W.heap[c]? = some (.cells #[.int .i64 0, .int .i64 2, .int .i64 0, .slice (some ⟨a, 0, none⟩) 1 1, .int .i64 1, .int .i64 3, .int .i64 5, .slice (some ⟨a, 0, none⟩) 1 1] 112 (0, 0))) :
    IsBytes W W.heap.size (.slice (some ⟨b, 0, none⟩) 1 1) twoM.data ∧ IsFuns W W.heap.size (.slice (some ⟨c, 0, none⟩) 2 2) twoM.funcs := by
  have hcode : IsCode W W.heap.size (.slice (some ⟨a, 0, none⟩) 1 1) [nop15] := by
    refine ⟨by unfold maxLen; simp, fun y hy => ?_, .inr ⟨a, 0, 1, rfl, Nat.le_refl _, heap_lt ha, fun i hi => ?_⟩⟩
    · simp at hy
      subst hy
      constructor <;> (unfold nop15 InI; simp)
    · have h0 : i = 0 := by simp at hi; omega
      subst h0
      refine ⟨.slice none 0 0, ⟨by unfold maxLen; simp [nop15], .inl ⟨rfl, rfl⟩⟩, fun j hj => ?_⟩
      rw [cell_of_row _ _ _ _ _ _ ha]
      rcases (show j = 0 ∨ j = 1 ∨ j = 2 ∨ j = 3 ∨ j = 4 ∨ j = 5 by omega) with rfl | rfl | rfl | rfl | rfl | rfl <;> rfl
  refine ⟨⟨by intro x hx; simp [twoM] at hx; omega, by unfold maxLen; simp [twoM], .inr ⟨⟨b, 0, none⟩, 1, rfl, by simp [twoM], fun _ => heap_lt hb, fun i hi => ?_⟩⟩, ⟨by unfold maxLen; simp [twoM], fun f hf => ?_, .inr ⟨c, 0, 2, rfl, Nat.le_refl _, heap_lt hc, fun i hi => ?_⟩⟩⟩
  · have h0 : i = 0 := by simp [twoM] at hi; omega
    subst h0
    have e : (⟨b, 0, none⟩ : Addr).add 0 = ⟨b, 0, none⟩ := by unfold Addr.add; split <;> simp_all
    rw [e, cell_of_row _ _ _ _ _ _ hb]
    rfl
  · simp [twoM] at hf
    rcases hf with rfl | rfl <;> (constructor <;> (unfold InI; simp))
  · rcases (show i = 0 ∨ i = 1 by simp [twoM] at hi; omega) with rfl | rfl
    · refine ⟨_, hcode, fun j hj => ?_⟩
      rw [cell_of_row _ _ _ _ _ _ hc]
      rcases (show j = 0 ∨ j = 1 ∨ j = 2 ∨ j = 3 by omega) with rfl | rfl | rfl | rfl <;> rfl
    · refine ⟨_, hcode, fun j hj => ?_⟩
      rw [cell_of_row _ _ _ _ _ _ hc]
      rcases (show j = 0 ∨ j = 1 ∨ j = 2 ∨ j = 3 by omega) with rfl | rfl | rfl | rfl <;> rfl
set_option maxRecDepth 100000 in
set_option maxHeartbeats 4000000 in
theorem two15 (w : World) : Calls Tryz.prog 45 #[] w (TwoDone w) := by
  go_enter Tryz.func45, Tryz.ntmps45
  go_wp2
  obtain ⟨o0, h0⟩ : ∃ o, o = Obj.cells #[.slice (some ⟨w.heap.size + 1 + 1, 0, none⟩) 1 1, .slice (some ⟨w.heap.size + 1 + 1 + 1, 0, none⟩) 2 2] 25 (0, 0) := ⟨_, rfl⟩
  obtain ⟨o1, h1⟩ : ∃ o, o = Obj.cells #[.int .i64 0, .int .i64 0, .int .i64 0, .int .i64 0, .int .i64 0, .slice none 0 0] 115 (0, 0) := ⟨_, rfl⟩
  obtain ⟨o2, h2⟩ : ∃ o, o = Obj.cells #[.int .u8 9] 5 (0, 0) := ⟨_, rfl⟩
  obtain ⟨o3, h3⟩ : ∃ o, o = Obj.cells #[.int .i64 0, .int .i64 2, .int .i64 0, .slice (some ⟨w.heap.size + 1, 0, none⟩) 1 1, .int .i64 1, .int .i64 3, .int .i64 5, .slice (some ⟨w.heap.size + 1, 0, none⟩) 1 1] 112 (0, 0) := ⟨_, rfl⟩
  rw [← h0, ← h1, ← h2, ← h3]
  obtain ⟨W1, e1⟩ : ∃ W, W = w.alloc o0 := ⟨_, rfl⟩
  obtain ⟨W2, e2⟩ : ∃ W, W = W1.alloc o1 := ⟨_, rfl⟩
  obtain ⟨W3, e3⟩ : ∃ W, W = W2.alloc o2 := ⟨_, rfl⟩
  obtain ⟨W4, e4⟩ : ∃ W, W = W3.alloc o3 := ⟨_, rfl⟩
  rw [← e1, ← e2, ← e3, ← e4]
  have b1 : Below w.heap.size w W1 := by rw [e1]; exact below_one14 _ _
  have b2 : Below W1.heap.size W1 W2 := by rw [e2]; exact below_one14 _ _
  have b3 : Below W2.heap.size W2 W3 := by rw [e3]; exact below_one14 _ _
  have b4 : Below W3.heap.size W3 W4 := by rw [e4]; exact below_one14 _ _
  have s1 : W1.heap.size = w.heap.size + 1 := by rw [e1]; simp
  have s2 : W2.heap.size = w.heap.size + 1 + 1 := by rw [e2]; simp [s1]
  have s3 : W3.heap.size = w.heap.size + 1 + 1 + 1 := by rw [e3]; simp [s2]
  have x0 : W1.heap[w.heap.size]? = some o0 := by rw [e1]; exact heap_alloc_new _ _
  have x1 : W2.heap[w.heap.size + 1]? = some o1 := by rw [e2, ← s1]; exact heap_alloc_new _ _
  have x2 : W3.heap[w.heap.size + 1 + 1]? = some o2 := by rw [e3, ← s2]; exact heap_alloc_new _ _
  have x3 : W4.heap[w.heap.size + 1 + 1 + 1]? = some o3 := by rw [e4, ← s3]; exact heap_alloc_new _ _
  have y2 : W4.heap[w.heap.size + 1 + 1]? = some o2 := (b4.block _ (heap_lt x2)).trans x2
  have y1 : W4.heap[w.heap.size + 1]? = some o1 := (b4.block _ (by omega)).trans ((b3.block _ (by omega)).trans x1)
  have y0 : W4.heap[w.heap.size]? = some o0 := (b4.block _ (by omega)).trans ((b3.block _ (by omega)).trans ((b2.block _ (by omega)).trans x0))
  have hb : Below w.heap.size w W4 := ((b1.trans (b2.mono (by omega))).trans (b3.mono (by omega))).trans (b4.mono (by omega))
  rw [h0] at y0
  rw [h1] at y1
  rw [h2] at y2
  rw [h3] at x3
  obtain ⟨m0, m1⟩ := cells2_14 y0
  obtain ⟨i1, i2⟩ := two_is15 y1 y2 x3
  clear e1 e2 e3 e4 b1 b2 b3 b4 h0 h1 h2 h3 x0 x1 x2
  exact bodyPost_ret (v := .agg #[.slice (some ⟨w.heap.size + 1 + 1, 0, none⟩) 1 1, .slice (some ⟨w.heap.size + 1 + 1 + 1, 0, none⟩) 2 2]) (by simp [results, Tryz.results45, go_sem, m0, m1]) rfl ⟨_, _, rfl, i1, i2, hb⟩
theorem two_lists15 : ∀ f ∈ twoM.funcs, f.code.length ≤ 1000000 ∧ ∀ y ∈ f.code, y.args.length ≤ 1000000 := by
  intro f hf
  simp [twoM] at hf
  rcases hf with rfl | rfl <;> (refine ⟨by simp, fun y hy => ?_⟩; simp [nop15] at hy; subst hy; simp)
section
variable {w W : World} {lo : Nat} {l : List It}
theorem new_two15 (h : Spaces w lo W l) (n fuel : Int) (hn : InI n) (hf : InI fuel) : ∀ (D F : Value), IsBytes W W.heap.size D twoM.data → IsFuns W W.heap.size F twoM.funcs → Calls Tryz.prog 15 #[.agg #[D, F], .int .i64 n, .slice none 0 0, .int .i64 fuel] W (NewSps w lo W l twoM n [] fuel) :=
  fun D F hD hF => sp_new h D F (.slice none 0 0) twoM.data [] twoM.funcs n fuel hD hF ⟨by simp, by unfold maxLen; simp, .inl ⟨rfl, rfl⟩⟩ hn hf (by simp) two_lists15
theorem made15 (h : Spaces w lo W l) (n fuel : Int) (hn : InI n) (hf : InI fuel) (hE : newE15 twoM n fuel = 0) : Calls Tryz.prog 44 #[.int .i64 n, .int .i64 fuel] W fun e W' => Below W.heap.size W W' ∧ ∃ sb, e = .returned (.pointer (some ⟨sb, 0, none⟩)) ∧ Spaces w lo W' (l ++ [.sp sb (newS twoM n.toNat [] fuel)]) := by
  have HT := Lib.hid (two15 W)
  have HN := Lib.hid (fun W' (hb : Below W.heap.size W W') => new_two15 (h.grow hb) n fuel hn hf)
  have HE := Lib.hid hE
  clear h hn hf hE
  go_enter Tryz.func44, Tryz.ntmps44
  go_wp2_with (first
    | (go_at_call 45; (with_reducible refine HT.out.mono ?_); rintro e w1 ⟨D, F, rfl, hd, hf, hb⟩; obtain ⟨DA, dc, hde⟩ := hd.len; obtain ⟨FA, fc, hfe⟩ := hf.len; subst hde hfe; have D1 := Lib.hid hd; have F1 := Lib.hid hf; have B1 := Lib.hid hb; clear hd hf hb)
    | (go_at_call 15; (with_reducible refine (HN.out _ B1.out _ _ D1.out F1.out).mono ?_); rintro e w2 ⟨hb, h2⟩; obtain ⟨sb, rfl, hs⟩ := (h2.resolve_left (fun q => q.1 HE.out)).2; have B2 := Lib.hid (B1.out.trans (hb.mono B1.out.size)); have S2 := Lib.hid hs; clear hb hs))
  go_ret
  exact ⟨B2.out, _, rfl, S2.out⟩
theorem has15 {i sb : Nat} {S : SpV} (h : Spaces w lo W l) (hi : l[i]? = some (.sp sb S)) (r v : Int) (hr : InI r) : Calls Tryz.prog 49 #[.pointer (some ⟨sb, 0, none⟩), .int .i64 r, .int .u64 v] W (SpsDone w lo (l.set i (.sp sb S)) (.bool (decide (S.getE r = 0) && S.getV r == v))) := by
  have HG := Lib.hid (sp_get h hi r hr)
  obtain ⟨E, hE⟩ : ∃ E, E = S.getE r := ⟨_, rfl⟩
  obtain ⟨g, hg⟩ : ∃ g, g = S.getV r := ⟨_, rfl⟩
  rw [← hE, ← hg] at HG ⊢
  clear h hE hg hi hr
  by_cases he : E = 0
  · subst he
    cases hb : (g == v)
    · go_enter Tryz.func49, Tryz.ntmps49
      go_wp2_with (go_at_call 27; (with_reducible refine HG.out.mono ?_); rintro e w2 ⟨rfl, hs⟩; have S2 := Lib.hid hs; clear hs)
      go_ret
      exact ⟨rfl, S2.out⟩
    · go_enter Tryz.func49, Tryz.ntmps49
      go_wp2_with (go_at_call 27; (with_reducible refine HG.out.mono ?_); rintro e w2 ⟨rfl, hs⟩; have S2 := Lib.hid hs; clear hs)
      go_ret
      exact ⟨rfl, S2.out⟩
  · have h0 : (E == 0) = false := by simpa using he
    have h1 : decide (E = 0) = false := decide_eq_false he
    rw [h1, Bool.false_and]
    clear he h1
    go_enter Tryz.func49, Tryz.ntmps49
    go_wp2_with (go_at_call 27; (with_reducible refine HG.out.mono ?_); rintro e w2 ⟨rfl, hs⟩; have S2 := Lib.hid hs; clear hs)
    go_ret
    exact ⟨rfl, S2.out⟩
end
def ex0 : SpV := newS twoM 128 [] 10
def ex1 : SpV := ex0.setS 0 7
def ex2 : SpV := ex1.callS 1 [0] 1 4
def ex3 : SpV := ex2.retS 5
theorem ex_a : newE15 twoM 128 10 = 0 ∧ ex0.at_ = 112 ∧ ex0.links.length = 0 ∧ ex0.getE 0 = 0 ∧ ex1.callE 1 [0] 1 4 = 0 := by decide +kernel
theorem ex_b : ex2.at_ = 80 ∧ ex2.f = 1 ∧ ex2.getE 0 = 0 ∧ ex2.getV 0 = 7 ∧ ex2.links.length = 1 ∧ loadV ex2.mem 16 1 = 9 ∧ numE ex2.mem.length 16 1 = 0 ∧ ex2.refE = 0 := by decide +kernel
theorem ex_c : ex3.f = 0 ∧ ex3.pc = 4 ∧ ex3.getE 1 = 0 ∧ ex3.getV 1 = 5 ∧ ex3.at_ = 112 := by decide +kernel
def CalledDone (w : World) (e : Ending) (W' : World) : Prop := Below w.heap.size w W' ∧ ∃ sb, e = .returned (.pointer (some ⟨sb, 0, none⟩)) ∧ Spaces w w.heap.size W' [.sp sb ex2]
theorem sp_nilSt (w : World) : Spaces w w.heap.size w [] := Spaces.nil (Below.refl _ _) (Nat.le_refl _) (Nat.le_refl _)
theorem one_arg15 (W : World) (lo : Nat) : ArgsIn lo (W.alloc (.cells #[.int .i64 0] 3)) (.slice (some ⟨W.heap.size, 0, none⟩) 1 1) [0] := by
  refine ⟨by intro x hx; simp at hx; subst hx; unfold InI; simp, .inr ⟨0, 1, ⟨⟨rfl, .inr ⟨W.heap.size, 1, #[.int .i64 0], rfl, Nat.zero_le _, heap_alloc_new _ _, Nat.le_refl _, by unfold maxLen; simp, rfl, rfl⟩⟩, fun g cur t fr hg hx u hu => ?_⟩⟩⟩
  simp [Value.ownBlock] at hg
  subst hg
  rw [heap_alloc_new] at hx
  injection hx with hx
  injection hx with hx _ _
  subst hx
  simp at hu
  exact ⟨0, hu⟩
set_option maxRecDepth 100000 in
set_option maxHeartbeats 8000000 in
theorem called15 (w : World) : Calls Tryz.prog 43 #[] w (CalledDone w) := by
  obtain ⟨k1, k2, k3, k4, k5⟩ := ex_a
  have HM := Lib.hid (made15 (sp_nilSt w) 128 10 (by unfold InI; simp) (by unfold InI; simp) k1)
  have HK : Hid (ex0.at_ = 112 ∧ ex0.links.length = 0 ∧ ex0.getE 0 = 0 ∧ ex1.callE 1 [0] 1 4 = 0) := Lib.hid ⟨k2, k3, k4, k5⟩
  have h1 := eql_nil15
  clear k1 k2 k3 k4 k5
  go_enter Tryz.func43, Tryz.ntmps43
  go_wp2_with (first
    | (go_at_call 44; (with_reducible refine HM.out.mono ?_); rintro e w1 ⟨hb, sb, rfl, hs⟩; have S1 : Hid (Spaces w w.heap.size w1 [.sp sb ex0]) := Lib.hid hs; have HA := sp_at S1.out (i := 0) rfl; rw [HK.out.1] at HA; have HAT := Lib.hid HA; clear hb hs HA)
    | (go_at_call 35; (with_reducible refine HAT.out.mono ?_); rintro e w2 ⟨rfl, hs⟩; have S2 : Hid (Spaces w w.heap.size w2 [.sp sb ex0]) := Lib.hid hs; have HA := sp_depth S2.out (i := 0) rfl; rw [HK.out.2.1] at HA; have HDP := Lib.hid HA; clear hs HA)
    | (go_at_call 34; (with_reducible refine HDP.out.mono ?_); rintro e w3 ⟨rfl, hs⟩; have S3 : Hid (Spaces w w.heap.size w3 [.sp sb ex0]) := Lib.hid hs; have HA := sp_set S3.out (i := 0) rfl 0 7 (by unfold InI; simp) (by decide) (by decide); rw [HK.out.2.2.1] at HA; have HST := Lib.hid HA; clear hs HA)
    | (go_at_call 37; (with_reducible refine HST.out.mono ?_); rintro e w4 ⟨rfl, hs⟩; have S4 : Hid (Spaces w w.heap.size w4 [.sp sb ex1]) := Lib.hid hs; have HA := sp_call (S4.out.grow (below_one14 w4 (.cells #[.int .i64 0] 3))) (i := 0) rfl 1 1 4 _ [0] (by unfold InI; simp) (by unfold InI; simp) (by unfold InI; simp) (one_arg15 w4 w.heap.size); rw [HK.out.2.2.2] at HA; have HCL := Lib.hid HA; clear hs HA)
    | (go_at_call 40; (with_reducible refine HCL.out.mono ?_); rintro e w5 ⟨rfl, hs⟩; have S5 : Hid (Spaces w w.heap.size w5 [.sp sb ex2]) := Lib.hid hs; clear hs))
  go_ret
  exact ⟨S5.out.bel, _, rfl, S5.out⟩
set_option maxRecDepth 100000 in
set_option maxHeartbeats 8000000 in
theorem awake15 (w : World) : Calls Tryz.prog 12 #[] w (Makes w (.bool true)) := by
  obtain ⟨k1, k2, k3, k4, k5, k6, k7, k8⟩ := ex_b
  obtain ⟨j1, j2, j3, j4, j5⟩ := ex_c
  have HC := Lib.hid (called15 w)
  have h1 := eql_nil15
  have hnot := not15
  have A1 : Hid (∀ W sb, Spaces w w.heap.size W [.sp sb ex2] → Calls Tryz.prog 35 #[.pointer (some ⟨sb, 0, none⟩)] W (SpsDone w w.heap.size [.sp sb ex2] (.int .u64 80))) := Lib.hid (fun W sb h => by have := sp_at h (i := 0) rfl; rw [k1] at this; exact this)
  have A2 : Hid (∀ W sb, Spaces w w.heap.size W [.sp sb ex2] → Calls Tryz.prog 31 #[.pointer (some ⟨sb, 0, none⟩)] W (SpsDone w w.heap.size [.sp sb ex2] (.int .i64 1))) := Lib.hid (fun W sb h => by have := sp_func h (i := 0) rfl; rw [k2] at this; exact this)
  have A3 : Hid (∀ W sb, Spaces w w.heap.size W [.sp sb ex2] → Calls Tryz.prog 49 #[.pointer (some ⟨sb, 0, none⟩), .int .i64 0, .int .u64 7] W (SpsDone w w.heap.size [.sp sb ex2] (.bool true))) := Lib.hid (fun W sb h => by have := has15 h (i := 0) rfl 0 7 (by unfold InI; simp); rw [k3, k4] at this; exact this)
  have A4 : Hid (∀ W sb, Spaces w w.heap.size W [.sp sb ex2] → Calls Tryz.prog 34 #[.pointer (some ⟨sb, 0, none⟩)] W (SpsDone w w.heap.size [.sp sb ex2] (.int .i64 1))) := Lib.hid (fun W sb h => by have := sp_depth h (i := 0) rfl; rw [k5] at this; exact this)
  have A5 : Hid (∀ W sb, Spaces w w.heap.size W [.sp sb ex2] → Calls Tryz.prog 30 #[.pointer (some ⟨sb, 0, none⟩)] W (fun e W' => ∃ mb, e = .returned (.pointer (some ⟨mb, 0, none⟩)) ∧ Spaces w w.heap.size W' [.sp sb ex2] ∧ W'.cell? ⟨sb, 9, none⟩ = some (.pointer (some ⟨mb, 0, none⟩)))) := Lib.hid (fun W sb h => sp_memory h (i := 0) rfl)
  have A6 : Hid (∀ W sb mb, Spaces w w.heap.size W [.sp sb ex2] → W.cell? ⟨sb, 9, none⟩ = some (.pointer (some ⟨mb, 0, none⟩)) → Calls Tryz.prog 52 #[.pointer (some ⟨mb, 0, none⟩), .int .u64 16, .int .i64 1] W fun e W' => e = .returned (.tuple #[.int .u64 9, .int .i64 0]) ∧ W = W') := Lib.hid (fun W sb mb h hc => by have := sp_load h (i := 0) rfl hc 16 1 (by decide) (by decide) (by decide); rw [k6, k7] at this; exact this)
  have A7 : Hid (∀ W sb, Spaces w w.heap.size W [.sp sb ex2] → Calls Tryz.prog 41 #[.pointer (some ⟨sb, 0, none⟩), .int .u64 5] W (SpsDone w w.heap.size [.sp sb ex3] (.int .i64 0))) := Lib.hid (fun W sb h => by have := sp_ret h (i := 0) rfl 5 (by decide) (by decide); rw [k8] at this; exact this)
  have B1 : Hid (∀ W sb, Spaces w w.heap.size W [.sp sb ex3] → Calls Tryz.prog 31 #[.pointer (some ⟨sb, 0, none⟩)] W (SpsDone w w.heap.size [.sp sb ex3] (.int .i64 0))) := Lib.hid (fun W sb h => by have := sp_func h (i := 0) rfl; rw [j1] at this; exact this)
  have B2 : Hid (∀ W sb, Spaces w w.heap.size W [.sp sb ex3] → Calls Tryz.prog 32 #[.pointer (some ⟨sb, 0, none⟩)] W (SpsDone w w.heap.size [.sp sb ex3] (.int .i64 4))) := Lib.hid (fun W sb h => by have := sp_place h (i := 0) rfl; rw [j2] at this; exact this)
  have B3 : Hid (∀ W sb, Spaces w w.heap.size W [.sp sb ex3] → Calls Tryz.prog 49 #[.pointer (some ⟨sb, 0, none⟩), .int .i64 1, .int .u64 5] W (SpsDone w w.heap.size [.sp sb ex3] (.bool true))) := Lib.hid (fun W sb h => by have := has15 h (i := 0) rfl 1 5 (by unfold InI; simp); rw [j3, j4] at this; exact this)
  have B4 : Hid (∀ W sb, Spaces w w.heap.size W [.sp sb ex3] → Calls Tryz.prog 35 #[.pointer (some ⟨sb, 0, none⟩)] W (SpsDone w w.heap.size [.sp sb ex3] (.int .u64 112))) := Lib.hid (fun W sb h => by have := sp_at h (i := 0) rfl; rw [j5] at this; exact this)
  clear k1 k2 k3 k4 k5 k6 k7 k8 j1 j2 j3 j4 j5
  go_enter Tryz.func12, Tryz.ntmps12
  go_wp2_with (first
    | (go_at_call 43; (with_reducible refine HC.out.mono ?_); rintro e w1 ⟨hb, sb, rfl, hs⟩; have S1 := Lib.hid hs; clear hb hs)
    | (go_at_call 35; (with_reducible refine (A1.out _ _ S1.out).mono ?_); rintro e w2 ⟨rfl, hs⟩; have S2 := Lib.hid hs; clear hs)
    | (go_at_call 31; (with_reducible refine (A2.out _ _ S2.out).mono ?_); rintro e w3 ⟨rfl, hs⟩; have S3 := Lib.hid hs; clear hs)
    | (go_at_call 49; (with_reducible refine (A3.out _ _ S3.out).mono ?_); rintro e w4 ⟨rfl, hs⟩; have S4 := Lib.hid hs; clear hs)
    | (go_at_call 34; (with_reducible refine (A4.out _ _ S4.out).mono ?_); rintro e w5 ⟨rfl, hs⟩; have S5 := Lib.hid hs; clear hs)
    | (go_at_call 30; (with_reducible refine (A5.out _ _ S5.out).mono ?_); rintro e w6 ⟨mb, rfl, hs, hc⟩; have S6 := Lib.hid hs; have HL := Lib.hid (A6.out _ _ _ hs hc); clear hs hc)
    | (go_at_call 52; (with_reducible refine HL.out.mono ?_); rintro e w' ⟨rfl, rfl⟩)
    | (go_at_call 41; (with_reducible refine (A7.out _ _ S6.out).mono ?_); rintro e w7 ⟨rfl, hs⟩; have S7 := Lib.hid hs; clear hs)
    | (go_at_call 31; (with_reducible refine (B1.out _ _ S7.out).mono ?_); rintro e w8 ⟨rfl, hs⟩; have S8 := Lib.hid hs; clear hs)
    | (go_at_call 32; (with_reducible refine (B2.out _ _ S8.out).mono ?_); rintro e w9 ⟨rfl, hs⟩; have S9 := Lib.hid hs; clear hs)
    | (go_at_call 49; (with_reducible refine (B3.out _ _ S9.out).mono ?_); rintro e wa ⟨rfl, hs⟩; have SA := Lib.hid hs; clear hs)
    | (go_at_call 35; (with_reducible refine (B4.out _ _ SA.out).mono ?_); rintro e wb ⟨rfl, hs⟩; have SB := Lib.hid hs; clear hs))
  go_ret
  exact ⟨rfl, SB.out.bel⟩
end Go.Proofs.YtkfdgpgildanbaaGreat
