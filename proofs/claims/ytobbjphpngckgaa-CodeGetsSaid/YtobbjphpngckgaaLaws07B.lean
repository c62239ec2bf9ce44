/- The chapter's examples of layer 7 are answered as it says (CodeKnown). Contract; no condition. -/
import Derived.Test.YtobbjphpngckgaaLaws07A
namespace Go.Proofs.Ytobbjphpngckgaa
open Go.RowKit Go.Shelf
set_option linter.unusedVariables false
set_option linter.unusedSimpArgs false

theorem chk_k1 : InsV.chk ⟨1, 1, 0, 0, -2, []⟩ = 0 := by kernel_rfl
theorem bytes_k1 : InsV.bytes ⟨1, 1, 0, 0, -2, []⟩ = [1, 1, 254, 255, 255, 255, 255, 255, 255, 255] := by kernel_rfl
theorem chk_k2 : InsV.chk ⟨28, 3, 0, 0, 5, [1, 2]⟩ = 0 := by kernel_rfl
theorem bytes_k2 : InsV.bytes ⟨28, 3, 0, 0, 5, [1, 2]⟩ = [28, 3, 5, 2, 1, 2] := by kernel_rfl
theorem chk_k3 : InsV.chk ⟨2, 64, 0, 0, 0, []⟩ = 5 := by kernel_rfl
theorem got_k1 : (gotV [3, 0, 1] 0).err = 4 ∧ (gotV [3, 0, 1] 0).at_ = 3 := ⟨by kernel_rfl, by kernel_rfl⟩
theorem got_k2 : (gotV [33] 0).err = 16 ∧ (gotV [33] 0).at_ = 0 := ⟨by kernel_rfl, by kernel_rfl⟩
theorem got_k3 : (gotV [] 0).err = 4 ∧ (gotV [] 0).at_ = 0 := ⟨by kernel_rfl, by kernel_rfl⟩
theorem got_k4 : (gotV [28, 3, 5, 9] 0).err = 3 ∧ (gotV [28, 3, 5, 9] 0).at_ = 0 := ⟨by kernel_rfl, by kernel_rfl⟩
theorem got_k5 : (gotV [2, 64, 0] 0).err = 5 ∧ (gotV [2, 64, 0] 0).at_ = 0 := ⟨by kernel_rfl, by kernel_rfl⟩
theorem got_k6 : (gotV [] 1).err = 2 ∧ (gotV [] 1).at_ = 0 := ⟨by kernel_rfl, by kernel_rfl⟩
theorem split_k : splitV [0, 0, 29, 1] = ⟨0, 0, [⟨0, 0, 0, 0, 0, []⟩, ⟨0, 0, 0, 0, 0, []⟩, ⟨29, 1, 0, 0, 0, []⟩], [0, 1, 2]⟩ := by kernel_rfl
theorem is_call (W : World) (g1 g2 : Nat) (h1 : g1 = W.heap.size) (h2 : g2 = W.heap.size + 1) :
    Calls Try.prog 30 #[.agg (insCells 28 3 0 0 5 (.slice (some ⟨g1, 0, none⟩) 2 2)), .slice (some ⟨g2, 0, none⟩) 6 6] ((W.alloc (.cells #[.int .i64 1, .int .i64 2] 3)).alloc (.cells #[.int .u8 28, .int .u8 3, .int .u8 5, .int .u8 2, .int .u8 1, .int .u8 2] 5))
      fun e w' => e = .returned (.bool true) ∧ Below W.heap.size W w' := by
  subst h1
  have ha : Below W.heap.size W (W.alloc (.cells #[.int .i64 1, .int .i64 2] 3)) := (Below.refl _ W).alloc (Nat.le_refl _) _
  refine (is_at 28 3 0 0 5 _ [1, 2] [28, 3, 5, 2, 1, 2] (by decide) _ 6 rfl rfl (by decide) chk_k2 bytes_k2 _ g2 (by simp [h2]) ((nums_new W [1, 2] _ rfl (by decide)).more (by simp))).mono ?_
  rintro e w' ⟨rfl, hb⟩
  exact ⟨rfl, ha.trans (hb.mono ha.size)⟩
theorem nil_bytes (w : World) (B : Nat) : IsBytes w B (.slice none 0 0) [] := ⟨by simp, by simp, .inl ⟨rfl, rfl⟩⟩
/-- What is got of the four bytes: three instructions, of which the last is kept at hand. -/
def Split4 (W : World) (e : Ending) (w' : World) : Prop :=
  ∃ b off cap X P c, e = .returned (.tuple #[.slice (some ⟨b, off, none⟩) 3 cap, .slice P 3 c, .agg #[.int .i64 0, .int .i64 0]]) ∧ 3 ≤ cap ∧ Below W.heap.size W w' ∧ b < w'.heap.size ∧ IsNums .i64 w' w'.heap.size (.slice P 3 c) [0, 1, 2] ∧ IsNums .i64 w' w'.heap.size X [] ∧
    w'.cell? ⟨b, off + 12, none⟩ = some (.int .i64 29) ∧ w'.cell? ⟨b, off + 13, none⟩ = some (.int .i64 1) ∧ w'.cell? ⟨b, off + 14, none⟩ = some (.int .i64 0) ∧ w'.cell? ⟨b, off + 15, none⟩ = some (.int .i64 0) ∧ w'.cell? ⟨b, off + 16, none⟩ = some (.int .i64 0) ∧ w'.cell? ⟨b, off + 17, none⟩ = some X
theorem split_four (W : World) (g : Nat) (hg : g = W.heap.size) :
    Calls Try.prog 24 #[.slice (some ⟨g, 0, none⟩) 4 4] (W.alloc (.cells #[.int .u8 0, .int .u8 0, .int .u8 29, .int .u8 1] 5)) (Split4 W) := by
  subst hg
  have ha : Below W.heap.size W (W.alloc (.cells #[.int .u8 0, .int .u8 0, .int .u8 29, .int .u8 1] 5)) := (Below.refl _ W).alloc (Nat.le_refl _) _
  refine (split7_any _ [0, 0, 29, 1] _ ((bytes_new W [0, 0, 29, 1] (by decide) _ rfl (by decide)).more (by simp))).mono ?_
  rw [split_k]
  rintro e w' ⟨hb, ⟨h, _⟩ | ⟨_, V, P, Xs, rfl, hc, hp⟩⟩
  · exact absurd rfl h
  · obtain ⟨pA, pc, rfl⟩ := owns_len hp
    obtain ⟨b, off, cap, hV, hcp, hbB, hcl⟩ := (hc.code (by decide)).plain (by decide)
    subst hV
    obtain ⟨X, hX, hcell⟩ := hcl 2 (by decide)
    exact ⟨b, off, cap, X, pA, pc, rfl, hcp, ha.trans (hb.mono ha.size), hbB, IsNums.of_owns hp (Nat.le_refl _), hX, hcell 0 (by decide), hcell 1 (by decide), hcell 2 (by decide), hcell 3 (by decide), hcell 4 (by decide), hcell 5 (by decide)⟩
theorem same_three (W : World) (g : Nat) (P : Option Addr) (pc : Nat) (hg : g = W.heap.size) (hp : IsNums .i64 W W.heap.size (.slice P 3 pc) [0, 1, 2]) :
    Calls Try.prog 27 #[.slice P 3 pc, .slice (some ⟨g, 0, none⟩) 3 3] (W.alloc (.cells #[.int .i64 0, .int .i64 1, .int .i64 2] 3)) fun e w' => e = .returned (.bool true) ∧ Below W.heap.size W w' := by
  subst hg
  have ha : Below W.heap.size W (W.alloc (.cells #[.int .i64 0, .int .i64 1, .int .i64 2] 3)) := (Below.refl _ W).alloc (Nat.le_refl _) _
  refine (sameInts_any _ _ [0, 1, 2] [0, 1, 2] _ _ _ (hp.below ha (Nat.le_refl _)) (nums_new W [0, 1, 2] _ rfl (by decide))).mono ?_
  rintro e w' ⟨rfl, k, rfl⟩
  exact ⟨rfl, below_drewN ha k⟩
theorem cell_grow {B : Nat} {W W' : World} {b o : Nat} {v : Value} (h : W.cell? ⟨b, o, none⟩ = some v) (hb : Below B W W') (hB : b < B) : W'.cell? ⟨b, o, none⟩ = some v := (hb.cell (p := ⟨b, o, none⟩) hB).trans h
set_option maxRecDepth 100000 in
set_option maxHeartbeats 16000000 in
theorem known7_any (w : World) : Calls Try.prog 5 #[] w (Makes w (.bool true)) := by
  have HI1 := Lib.hid (fun W g hg => is_at 1 1 0 0 (-2) (.slice none 0 0) [] [1, 1, 254, 255, 255, 255, 255, 255, 255, 255] (by decide) #[.int .u8 1, .int .u8 1, .int .u8 254, .int .u8 255, .int .u8 255, .int .u8 255, .int .u8 255, .int .u8 255, .int .u8 255, .int .u8 255] 10 rfl rfl (by decide) chk_k1 bytes_k1 W g hg (nums_nil _ _))
  have HI2 := Lib.hid (fun W g1 g2 h1 h2 => is_call W g1 g2 h1 h2)
  have HF1 := Lib.hid (fun W g hg => fails_at [3, 0, 1] (by decide) #[.int .u8 3, .int .u8 0, .int .u8 1] 3 rfl rfl (by decide) 4 3 (by decide) got_k1 W g hg)
  have HF2 := Lib.hid (fun W g hg => fails_at [33] (by decide) #[.int .u8 33] 1 rfl rfl (by decide) 16 0 (by decide) got_k2 W g hg)
  have HF3 := Lib.hid (fun W => fails_yes7 _ [] 4 0 W (nil_bytes W _) (by decide) (by decide) got_k3)
  have HF4 := Lib.hid (fun W g hg => fails_at [28, 3, 5, 9] (by decide) #[.int .u8 28, .int .u8 3, .int .u8 5, .int .u8 9] 4 rfl rfl (by decide) 3 0 (by decide) got_k4 W g hg)
  have HF5 := Lib.hid (fun W g hg => fails_at [2, 64, 0] (by decide) #[.int .u8 2, .int .u8 64, .int .u8 0] 3 rfl rfl (by decide) 5 0 (by decide) got_k5 W g hg)
  have HG := Lib.hid (fun W => (get7_any _ [] 1 W (nil_bytes W _) (by decide)).mono fun e w' hh => And.intro hh.1 (hh.2.resolve_right (fun h => absurd (got_k6.1.symm.trans h.1) (by decide))).2)
  rw [got_k6.1, got_k6.2] at HG
  have HP := Lib.hid (fun W => (put7_any 2 64 0 0 0 (.slice none 0 0) [] W (nums_nil _ _)).mono fun e w' hh => (hh.resolve_right (fun h => absurd (chk_k3.symm.trans h.1) (by decide))).2)
  rw [chk_k3] at HP
  have HS := Lib.hid (fun W g hg => split_four W g hg)
  have HAw := Lib.hid (fun W => awake7_any W)
  have he0 := fun W => eqF_yes 0 0 W
  have he2 := fun W => eqF_yes 2 0 W
  go_enter Try.func5, Try.ntmps5
  go_wp2_with (first
    | (go_at_call 30; (with_reducible refine (HI1.out _ _ rfl).mono ?_); rintro e w1 ⟨rfl, hb⟩; have B1 := Lib.hid hb; clear hb)
    | (go_at_call 30; (with_reducible refine (HI2.out _ _ _ rfl rfl).mono ?_); rintro e w2 ⟨rfl, hb⟩; have B2 := Lib.hid (B1.out.trans (hb.mono B1.out.size)); clear hb)
    | (go_at_call 31; (with_reducible refine (HF1.out _ _ rfl).mono ?_); rintro e w3 ⟨rfl, hb⟩; have B3 := Lib.hid (B2.out.trans (hb.mono B2.out.size)); clear hb)
    | (go_at_call 31; (with_reducible refine (HF2.out _ _ rfl).mono ?_); rintro e w4 ⟨rfl, hb⟩; have B4 := Lib.hid (B3.out.trans (hb.mono B3.out.size)); clear hb)
    | (go_at_call 31; (with_reducible refine (HF3.out _).mono ?_); rintro e w5 ⟨rfl, hb⟩; have B5 := Lib.hid (B4.out.trans (hb.mono B4.out.size)); clear hb)
    | (go_at_call 31; (with_reducible refine (HF4.out _ _ rfl).mono ?_); rintro e w6 ⟨rfl, hb⟩; have B6 := Lib.hid (B5.out.trans (hb.mono B5.out.size)); clear hb)
    | (go_at_call 31; (with_reducible refine (HF5.out _ _ rfl).mono ?_); rintro e w7 ⟨rfl, hb⟩; have B7 := Lib.hid (B6.out.trans (hb.mono B6.out.size)); clear hb)
    | (go_at_call 22; (with_reducible refine (HG.out _).mono ?_); rintro e w8 ⟨hb, rfl⟩; have ha := ((Below.refl w8.heap.size w8).alloc (Nat.le_refl _) (.cells (insCells 0 0 0 0 0 (.slice none 0 0)) 35)).alloc (by simp) (.cells #[.int .i64 2, .int .i64 0] 41); have B8 := Lib.hid (B7.out.trans ((hb.trans (ha.mono hb.size)).mono B7.out.size)); have F8 : Hid (flt ((w8.alloc (.cells (insCells 0 0 0 0 0 (.slice none 0 0)) 35)).alloc (.cells #[.int .i64 2, .int .i64 0] 41)) (w8.heap.size + 1) 2 0) := Lib.hid (by have h := heap_alloc_new (w8.alloc (.cells (insCells 0 0 0 0 0 (.slice none 0 0)) 35)) (.cells #[.int .i64 2, .int .i64 0] 41); rw [World.size_alloc] at h; exact h); clear hb ha)
    | (go_at_call 16; (with_reducible refine (HP.out _).mono ?_); rintro e w9 ⟨rfl, hb⟩; have B9 := Lib.hid (B8.out.trans (hb.mono B8.out.size)); have F9 := Lib.hid ((hb.block _ (heap_lt F8.out)).trans F8.out); clear hb)
    | (go_at_call 24; (with_reducible refine (HS.out _ _ rfl).mono ?_); rintro e w10 ⟨b, off, cap, X, P, pc, rfl, hcp, hb, hbB, hp, hX, x0, x1, x2, x3, x4, x5⟩; have ha := (Below.refl w10.heap.size w10).alloc (Nat.le_refl _) (.cells #[.int .i64 0, .int .i64 0] 41); have B10 := Lib.hid (B9.out.trans ((hb.trans (ha.mono hb.size)).mono B9.out.size)); have F10 := Lib.hid ((ha.block _ (Nat.lt_of_lt_of_le (heap_lt F9.out) hb.size)).trans ((hb.block _ (heap_lt F9.out)).trans F9.out)); have G10 := Lib.hid (show flt (w10.alloc (.cells #[.int .i64 0, .int .i64 0] 41)) w10.heap.size 0 0 from heap_alloc_new _ _); have P10 := Lib.hid ((hp.below ha (Nat.le_refl _)).more ha.size); have X10 := Lib.hid (And.intro hbB (And.intro hX (And.intro x0 (And.intro x1 (And.intro x2 (And.intro x3 (And.intro x4 x5))))))); have q0 := flt0 F10.out; have q1 := flt1 F10.out; have hcpI : (3 : Int) ≤ (cap : Int) := (by omega); clear hb ha hp hX hbB x0 x1 x2 x3 x4 x5)
    | (go_at_call 27; (with_reducible refine (same_three _ _ P pc (by simp) P10.out).mono ?_); rintro e w11 ⟨rfl, hb⟩; have B11 := Lib.hid (B10.out.trans (hb.mono B10.out.size)); have C11 := Lib.hid hb; clear hb)
    | (go_at_call 10; (with_reducible refine (HAw.out _).mono ?_); rintro e w12 ⟨rfl, hb⟩; have B12 := Lib.hid (B11.out.trans (hb.mono B11.out.size)); have C12 := Lib.hid (C11.out.trans (hb.mono C11.out.size)); have D12 := Lib.hid (((Below.refl w10.heap.size w10).alloc (Nat.le_refl _) (.cells #[.int .i64 0, .int .i64 0] 41)).trans (C12.out.mono (by simp))); have y0 := cell_grow X10.out.2.2.1 D12.out X10.out.1; have y1 := cell_grow X10.out.2.2.2.1 D12.out X10.out.1; have y2 := cell_grow X10.out.2.2.2.2.1 D12.out X10.out.1; have y3 := cell_grow X10.out.2.2.2.2.2.1 D12.out X10.out.1; have y4 := cell_grow X10.out.2.2.2.2.2.2.1 D12.out X10.out.1; have y5 := cell_grow X10.out.2.2.2.2.2.2.2 D12.out X10.out.1; clear hb)
    | (go_at_call 26; (with_reducible refine (sameIns_any 29 1 0 0 0 X [] 29 1 0 0 0 _ [] _ ((X10.out.2.1.below D12.out (Nat.le_refl _)).more D12.out.size) (nums_nil _ _)).mono ?_); rintro e w13 ⟨rfl, hb⟩; have B13 := Lib.hid (B12.out.trans (hb.mono B12.out.size)); clear hb))
  go_ret
  exact ⟨by first | rfl | simp [sameV], B13.out⟩
end Go.Proofs.Ytobbjphpngckgaa
