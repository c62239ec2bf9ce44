/- ModuleKnown: the chapter's examples. Contract; no condition. -/
import Derived.Test.YtimhlbejjbnofaaLaws08A
namespace Go.Proofs.Ytimhlbejjbnofaa
open Go.RowKit Go.Shelf
set_option linter.unusedVariables false
set_option linter.unusedSimpArgs false

set_option maxRecDepth 100000 in
set_option maxHeartbeats 4000000 in
theorem fails8_any (V : Value) (b : List Int) (z k : Int) (w : World) (hV : IsBytes w w.heap.size V b) (hl : b.length ≤ 1000000) (hz : z ≠ 0) (hg : (getM b).err = z ∧ (getM b).at_ = k) :
    Calls Try.prog 25 #[V, .int .i64 z, .int .i64 k] w (Makes w (.bool true)) := by
  have hm : getM b = ⟨z, k, ⟨[], []⟩⟩ := by
    by_cases h : (lastR b).err = 0
    · rw [mget_ok h] at hg
      exact absurd hg.1.symm hz
    · rw [mget_bad h] at hg ⊢
      rw [show (lastR b).err = z from hg.1, show (lastR b).at_ = k from hg.2]
  have HG := Lib.hid (get8_any V b w hV hl)
  rw [hm] at HG
  have hE := eqF_yes z k
  clear hV hl hz hg hm
  go_enter Try.func25, Try.ntmps25
  go_wp2_with (go_at_call 22; (with_reducible refine HG.out.mono ?_); rintro e w1 ⟨D, F, Cs, rfl, ho, hf⟩; obtain ⟨dA, dc, hde⟩ := owns_len ho.own; subst hde; obtain ⟨fA, fc, hfe⟩ := owns_len hf.own; subst hfe; obtain ⟨hG, hb⟩ := gotB_new (z := z) (k := k) ho (by simp) hf (by simp); have HB1 := Lib.hid hb; obtain ⟨c0, c1, c2, c3⟩ := hG.cells; clear ho hf hG hb)
  go_ret
  exact ⟨by first | rfl | simp, HB1.out⟩
/-- Bytes that a call lays out, handed to fails. -/
theorem fails_lit (ys : List Int) (hys : ∀ x ∈ ys, 0 ≤ x ∧ x < 256) (hl : ys.length ≤ 1000) (z k : Int) (hz : z ≠ 0) (hg : (getM ys).err = z ∧ (getM ys).at_ = k) (W : World) (cs : Array Value) (hcs : cs = (ys.map (Value.int .u8)).toArray) (L g : Nat) (hL : L = ys.length) (hgs : g = W.heap.size) :
    Calls Try.prog 25 #[.slice (some ⟨g, 0, none⟩) L L, .int .i64 z, .int .i64 k] (W.alloc (.cells cs 5)) (fun e w' => e = .returned (.bool true) ∧ Below W.heap.size W w') := by
  subst hL hgs
  have ho := outB_new W ys hys cs hcs hl
  refine (fails8_any _ ys z k _ (outB_is ho hys) (by omega) hz hg).mono ?_
  rintro e w' ⟨rfl, hb⟩
  exact ⟨rfl, ho.bel.trans (hb.mono ho.bel.size)⟩
/-- As wpList_outX, at an operation with a guard. -/
theorem wpList_outXg {w W : World} {ops : Array Oper} {rest : List Oper} {o : Oper} {a : Act} {Q : Exit → Act → World → Prop} (hw : Region.wanted o (yielded ops a.tmps) = true) (s x : Operand)
    (ho : o.op = .call { callee := .builtin .append, args := #[s, x], argTypes := #[22, 22] }) {V X : Value} {xs ys : List Int} {B : Nat} (hs : a.eval s = V) (hx : a.eval x = X) (h : OutB w W V xs)
    (hX : IsBytes W B X ys) (hl : xs.length + ys.length ≤ 1000000)
    (hK : ∀ V' W', OutB w W' V' (xs ++ ys) → (∀ i, i < W.heap.size → some i ≠ V.ownBlock → W'.heap[i]? = W.heap[i]?) → wpList Try.prog ops Q rest (a.put o.dst V') W') :
    wpList Try.prog ops Q (o :: rest) a W := by
  refine wpList_step fun K hK' => ?_
  rw [if_pos hw]
  obtain ⟨V', W', hr, ho', hb'⟩ := append_bytes (ty := o.type) h hX hl
  unfold Oper.wp execOp
  simp only [ho, resolve, invoke, builtin, Sem.run_bind, Sem.run_pure, Result.andThen_ok, List.map_toArray, List.map_cons, List.map_nil, hs, hx, hr]
  exact hK' _ _ (hK V' W' ho' hb')
theorem named_is {W : World} {B : Nat} {V : Value} {m xs : List Int} (h : m = xs) (hb : IsBytes W B V m) : IsBytes W B V xs := h ▸ hb
theorem k1 : (getM [84]).err = 4 ∧ (getM [84]).at_ = 1 := ⟨by kernel_rfl, by kernel_rfl⟩
theorem k2 : (getM [85]).err = 10 ∧ (getM [85]).at_ = 0 := ⟨by kernel_rfl, by kernel_rfl⟩
theorem k3 : (getM [84, 87, 1, 0, 0, 0]).err = 2 ∧ (getM [84, 87, 1, 0, 0, 0]).at_ = 5 := ⟨by kernel_rfl, by kernel_rfl⟩
theorem k4 : (getM (echoL ++ [9])).err = 4 ∧ (getM (echoL ++ [9])).at_ = 16 := ⟨by kernel_rfl, by kernel_rfl⟩
theorem k5 : (getM [84, 87, 1, 1, 32]).err = 3 ∧ (getM [84, 87, 1, 1, 32]).at_ = 3 := ⟨by kernel_rfl, by kernel_rfl⟩
theorem k6 : (ModV.mk [] []).err = 2 := by kernel_rfl
theorem k7 : (ModV.mk [] [⟨0, 0, 0, echoC⟩]).err = 5 := by kernel_rfl
theorem k8 : (ModV.mk [] [⟨2, 1, 0, echoC⟩]).err = 2 := by kernel_rfl
/-- Two examples' boxes. -/
structure KnAt (W : World) (bx g8 h8 g9 h9 : Nat) (p8 r8 p9 r9 : Int) : Prop where
  few : W.heap[bx]? = some (.cells #[.slice none 0 0, .slice (some ⟨g8, 0, none⟩) 1 1] 25 (0, 0))
  many : W.heap[bx + 1]? = some (.cells #[.slice none 0 0, .slice (some ⟨g9, 0, none⟩) 1 1] 25 (0, 0))
  e8 : EchoAt W g8 h8 p8 r8
  e9 : EchoAt W g9 h9 p9 r9
  ne : g8 ≠ g9
theorem KnAt.grow {W W' : World} {bx g8 h8 g9 h9 : Nat} {p8 r8 p9 r9 : Int} (h : KnAt W bx g8 h8 g9 h9 p8 r8 p9 r9) (hb : Below W.heap.size W W') : KnAt W' bx g8 h8 g9 h9 p8 r8 p9 r9 :=
  ⟨box_below h.few hb, box_below h.many hb, h.e8.grow hb, h.e9.grow hb, h.ne⟩
theorem kn_new {w : World} {g8 h8 g9 h9 : Nat} {p8 r8 p9 r9 : Int} (e8 : EchoAt w g8 h8 p8 r8) (e9 : EchoAt w g9 h9 p9 r9) (hne : g8 ≠ g9) :
    KnAt ((w.alloc (.cells #[.slice none 0 0, .slice (some ⟨g8, 0, none⟩) 1 1] 25)).alloc (.cells #[.slice none 0 0, .slice (some ⟨g9, 0, none⟩) 1 1] 25)) w.heap.size g8 h8 g9 h9 p8 r8 p9 r9 := by
  have hb : Below w.heap.size w ((w.alloc (.cells #[.slice none 0 0, .slice (some ⟨g8, 0, none⟩) 1 1] 25)).alloc (.cells #[.slice none 0 0, .slice (some ⟨g9, 0, none⟩) 1 1] 25)) := ((Below.refl _ w).alloc (Nat.le_refl _) _).alloc (by simp) _
  refine ⟨?_, ?_, e8.grow hb, e9.grow hb, hne⟩
  · rw [Below.heap_alloc _ _ _ (by simp)]
    exact heap_alloc_new _ _
  · have := heap_alloc_new (w.alloc (.cells #[.slice none 0 0, .slice (some ⟨g8, 0, none⟩) 1 1] 25)) (.cells #[.slice none 0 0, .slice (some ⟨g9, 0, none⟩) 1 1] 25)
    rw [World.size_alloc] at this
    exact this
theorem KnAt.box {W : World} {bx g8 h8 g9 h9 g o : Nat} {p8 r8 p9 r9 : Int} {c : Array Value} (h : KnAt W bx g8 h8 g9 h9 p8 r8 p9 r9) (hg : W.heap[g]? = some (.cells c 47 (0, 0))) (v : Value) :
    (W.setCell ⟨g, o, none⟩ v).heap[bx]? = some (.cells #[.slice none 0 0, .slice (some ⟨g8, 0, none⟩) 1 1] 25 (0, 0)) ∧ (W.setCell ⟨g, o, none⟩ v).heap[bx + 1]? = some (.cells #[.slice none 0 0, .slice (some ⟨g9, 0, none⟩) 1 1] 25 (0, 0)) := by
  have hb := but_one W g o v
  refine ⟨hb.heap h.few (fun x => ?_), hb.heap h.many (fun x => ?_)⟩
  · have x' : bx = g := x
    subst x'
    exact absurd (other_type h.few hg) (by decide)
  · have x' : bx + 1 = g := x
    subst x'
    exact absurd (other_type h.many hg) (by decide)
theorem KnAt.set8 {W : World} {bx g8 h8 g9 h9 : Nat} {p8 r8 p9 r9 : Int} (h : KnAt W bx g8 h8 g9 h9 p8 r8 p9 r9) : KnAt (W.setCell ⟨g8, 1, none⟩ (.int .i64 0)) bx g8 h8 g9 h9 p8 0 p9 r9 :=
  ⟨(h.box h.e8.row _).1, (h.box h.e8.row _).2, h.e8.set rfl, h.e9.other h.ne h.e8.row _, h.ne⟩
theorem KnAt.set9 {W : World} {bx g8 h8 g9 h9 : Nat} {p8 r8 p9 r9 : Int} (h : KnAt W bx g8 h8 g9 h9 p8 r8 p9 r9) : KnAt (W.setCell ⟨g9, 0, none⟩ (.int .i64 2)) bx g8 h8 g9 h9 p8 r8 2 r9 :=
  ⟨(h.box h.e9.row _).1, (h.box h.e9.row _).2, h.e8.other (Ne.symm h.ne) h.e9.row _, h.e9.set rfl, h.ne⟩
theorem below_three {w w8 w9 W' : World} {g8 h8 g9 h9 : Nat} {p8 r8 p9 r9 : Int} (hb : Below w.heap.size w w9) (hg9 : w8.heap.size ≤ g9) (hk : KnAt ((w9.alloc (.cells #[.slice none 0 0, .slice (some ⟨g8, 0, none⟩) 1 1] 25)).alloc (.cells #[.slice none 0 0, .slice (some ⟨g9, 0, none⟩) 1 1] 25)) w9.heap.size g8 h8 g9 h9 p8 r8 p9 r9) (hg8 : w.heap.size ≤ g8) (hs : w.heap.size ≤ w8.heap.size)
    (h : Below ((((w9.alloc (.cells #[.slice none 0 0, .slice (some ⟨g8, 0, none⟩) 1 1] 25)).alloc (.cells #[.slice none 0 0, .slice (some ⟨g9, 0, none⟩) 1 1] 25)).setCell ⟨g8, 1, none⟩ (.int .i64 0)).setCell ⟨g9, 0, none⟩ (.int .i64 2)).heap.size ((((w9.alloc (.cells #[.slice none 0 0, .slice (some ⟨g8, 0, none⟩) 1 1] 25)).alloc (.cells #[.slice none 0 0, .slice (some ⟨g9, 0, none⟩) 1 1] 25)).setCell ⟨g8, 1, none⟩ (.int .i64 0)).setCell ⟨g9, 0, none⟩ (.int .i64 2)) W') : Below w.heap.size w W' := by
  have h1 : Below w.heap.size w ((w9.alloc (.cells #[.slice none 0 0, .slice (some ⟨g8, 0, none⟩) 1 1] 25)).alloc (.cells #[.slice none 0 0, .slice (some ⟨g9, 0, none⟩) 1 1] 25)) := (hb.alloc hb.size _).alloc (by have := hb.size; simp; omega) _
  have h2 := But.below h1 (but_one _ g8 1 (.int .i64 0)) h1.size (fun k hk => by have : k = g8 := hk; omega)
  have h3 := But.below h2 (but_one _ g9 0 (.int .i64 2)) h2.size (fun k hk => by have : k = g9 := hk; omega)
  exact h3.trans (h.mono h3.size)
set_option maxRecDepth 100000 in
set_option maxHeartbeats 16000000 in
theorem known8_any (w : World) : Calls Try.prog 5 #[] w (Makes w (.bool true)) := by
  have Q0 : Hid (∀ W : World, Calls Try.prog 25 #[.slice (some ⟨W.heap.size, 0, none⟩) 1 1, .int .i64 4, .int .i64 1] (W.alloc (.cells #[.int .u8 84] 5)) (fun e w' => e = .returned (.bool true) ∧ Below W.heap.size W w')) := Lib.hid (fun W => fails_lit [84] (by decide) (by decide) 4 1 (by decide) k1 W _ rfl _ _ rfl rfl)
  have Q1 : Hid (∀ W : World, Calls Try.prog 25 #[.slice (some ⟨W.heap.size, 0, none⟩) 1 1, .int .i64 10, .int .i64 0] (W.alloc (.cells #[.int .u8 85] 5)) (fun e w' => e = .returned (.bool true) ∧ Below W.heap.size W w')) := Lib.hid (fun W => fails_lit [85] (by decide) (by decide) 10 0 (by decide) k2 W _ rfl _ _ rfl rfl)
  have Q2 : Hid (∀ W : World, Calls Try.prog 25 #[.slice (some ⟨W.heap.size, 0, none⟩) 6 6, .int .i64 2, .int .i64 5] (W.alloc (.cells #[.int .u8 84, .int .u8 87, .int .u8 1, .int .u8 0, .int .u8 0, .int .u8 0] 5)) (fun e w' => e = .returned (.bool true) ∧ Below W.heap.size W w')) := Lib.hid (fun W => fails_lit [84, 87, 1, 0, 0, 0] (by decide) (by decide) 2 5 (by decide) k3 W _ rfl _ _ rfl rfl)
  have Q3 : Hid (∀ W : World, Calls Try.prog 25 #[.slice (some ⟨W.heap.size, 0, none⟩) 5 5, .int .i64 3, .int .i64 3] (W.alloc (.cells #[.int .u8 84, .int .u8 87, .int .u8 1, .int .u8 1, .int .u8 32] 5)) (fun e w' => e = .returned (.bool true) ∧ Below W.heap.size W w')) := Lib.hid (fun W => fails_lit [84, 87, 1, 1, 32] (by decide) (by decide) 3 3 (by decide) k5 W _ rfl _ _ rfl rfl)
  have Q4 : Hid (∀ (V : Value) (W : World), IsBytes W W.heap.size V (echoL ++ [9]) → Calls Try.prog 25 #[V, .int .i64 4, .int .i64 16] W (Makes W (.bool true))) := Lib.hid (fun V W hV => fails8_any V (echoL ++ [9]) 4 16 W hV (by decide) (by decide) k4)
  have C0 : Hid (∀ W : World, Calls Try.prog 15 #[.agg #[.slice none 0 0, .slice none 0 0]] W (Makes W (.int .i64 2))) := Lib.hid (fun W => by
    have h := check8_any (.slice none 0 0) (.slice none 0 0) [] [] W (nil_is _ _) ⟨by simp, by simp, .inl ⟨rfl, none, 0, rfl⟩⟩
    rw [k6] at h
    exact h)
  have C1 : Hid (∀ (W : World) (g h : Nat), EchoAt W g h 0 0 → Calls Try.prog 15 #[.agg #[.slice none 0 0, .slice (some ⟨g, 0, none⟩) 1 1]] W (Makes W (.int .i64 5))) := Lib.hid (fun W g h e => by
    have h := check8_any (.slice none 0 0) (.slice (some ⟨g, 0, none⟩) 1 1) [] [⟨0, 0, 0, echoC⟩] W (nil_is _ _) (e.funs (by unfold InI; decide) (by unfold InI; decide))
    rw [k7] at h
    exact h)
  have C2 : Hid (∀ (W : World) (g h : Nat), EchoAt W g h 2 1 → Calls Try.prog 15 #[.agg #[.slice none 0 0, .slice (some ⟨g, 0, none⟩) 1 1]] W (Makes W (.int .i64 2))) := Lib.hid (fun W g h e => by
    have h := check8_any (.slice none 0 0) (.slice (some ⟨g, 0, none⟩) 1 1) [] [⟨2, 1, 0, echoC⟩] W (nil_is _ _) (e.funs (by unfold InI; decide) (by unfold InI; decide))
    rw [k8] at h
    exact h)
  go_enter Try.func5, Try.ntmps5
  go_wp2_with (first
    | (go_at_call 25; (with_reducible refine (Q0.out w).mono ?_); rintro e w1 ⟨rfl, hb⟩; have HB1 := Lib.hid hb; clear hb)
    | (go_at_call 25; (with_reducible refine (Q1.out w1).mono ?_); rintro e w2 ⟨rfl, hb⟩; have HB2 := Lib.hid (HB1.out.trans (hb.mono HB1.out.size)); clear hb)
    | (go_at_call 25; (with_reducible refine (Q2.out w2).mono ?_); rintro e w3 ⟨rfl, hb⟩; have HB3 := Lib.hid (HB2.out.trans (hb.mono HB2.out.size)); clear hb)
    | (go_at_call 26; (with_reducible refine (bytes8_any w3).mono ?_); rintro e w4 ⟨A4, c4, rfl, ho⟩; have HO4a := Lib.hid (ho.grow ((Below.refl w4.heap.size w4).alloc (Nat.le_refl _) (.cells #[.int .u8 9] 5))); have HX4a := Lib.hid (outB_is (outB_new w4 [9] (by decide) #[.int .u8 9] rfl (by decide)) (by decide)); have HB4 := Lib.hid (HB3.out.trans (ho.bel.mono HB3.out.size)); clear ho)
    | (at_builtin; refine wpList_outXg rfl (.tmp 15) (.tmp 16) rfl rfl rfl HO4a.out HX4a.out (by decide) ?_; intro V5 w5 ho hb; obtain ⟨m5, A5, c5, HM5, rfl, HO5⟩ := ho.name; clear ho hb)
    | (go_at_call 25; (with_reducible refine (Q4.out _ w5 (named_is HM5.out (HO5.out.bytes (by rw [HM5.out]; decide) (Nat.le_refl _)))).mono ?_); rintro e w6 ⟨rfl, hb⟩; have HB6 := Lib.hid (HB3.out.trans ((HO5.out.bel.trans (hb.mono HO5.out.bel.size)).mono HB3.out.size)); clear hb)
    | (go_at_call 25; (with_reducible refine (Q3.out w6).mono ?_); rintro e w7 ⟨rfl, hb⟩; have HB7 := Lib.hid (HB6.out.trans (hb.mono HB6.out.size)); clear hb)
    | (go_at_call 27; (with_reducible refine (echo_any w7).mono ?_); rintro e w8 ⟨g8, h8, rfl, he, hg, hb⟩; have HE8 := Lib.hid he; have HG8 := Lib.hid (Nat.le_trans HB7.out.size hg); have HB8 := Lib.hid (HB7.out.trans (hb.mono HB7.out.size)); clear he hg hb)
    | (go_at_call 27; (with_reducible refine (echo_any w8).mono ?_); rintro e w9 ⟨g9, h9, rfl, he, hg, hb⟩; have hkn := kn_new (HE8.out.grow hb) he (Nat.ne_of_lt (Nat.lt_of_lt_of_le (heap_lt HE8.out.row) hg)); have HKN := Lib.hid hkn; have HG9 := Lib.hid (And.intro hg (Nat.le_refl w8.heap.size)); have HB9 := Lib.hid (HB8.out.trans (hb.mono HB8.out.size)); obtain ⟨u0, u1, u2, u3⟩ := cells4 hkn.e8.row; have v1 := frozen_of_row _ g8 1 _ _ hkn.e8.row; have y1 := (cells2 hkn.set8.many).2; obtain ⟨x0, x1, x2, x3⟩ := cells4 hkn.set8.e9.row; have x4 := frozen_of_row _ g9 0 _ _ hkn.set8.e9.row; clear he hg hb hkn)
    | (go_at_call 10; (with_reducible refine (awake8_any _).mono ?_); rintro e wA ⟨rfl, hb⟩; have HKA := Lib.hid (HKN.out.set8.set9.grow hb); have HBA := Lib.hid (below_three HB9.out HG9.out.1 HKN.out HG8.out HB8.out.size hb); obtain ⟨a0, a1⟩ := cells2 HKA.out.few; obtain ⟨b0, b1⟩ := cells2 HKA.out.many; clear hb)
    | (go_at_call 15; (with_reducible refine (C0.out wA).mono ?_); rintro e wB ⟨rfl, hb⟩; have HKB := Lib.hid (HKA.out.grow hb); have HBB := Lib.hid (HBA.out.trans (hb.mono HBA.out.size)); obtain ⟨a2, a3⟩ := cells2 HKB.out.few; obtain ⟨b2, b3⟩ := cells2 HKB.out.many; clear hb)
    | (go_at_call 15; (with_reducible refine (C1.out wB _ _ HKB.out.e8).mono ?_); rintro e wC ⟨rfl, hb⟩; have HKC := Lib.hid (HKB.out.grow hb); have HBC := Lib.hid (HBB.out.trans (hb.mono HBB.out.size)); obtain ⟨b4, b5⟩ := cells2 HKC.out.many; clear hb)
    | (go_at_call 15; (with_reducible refine (C2.out wC _ _ HKC.out.e9).mono ?_); rintro e wD ⟨rfl, hb⟩; have HBD := Lib.hid (HBC.out.trans (hb.mono HBC.out.size)); clear hb))
  go_ret
  exact ⟨by first | rfl | simp, HBD.out⟩
end Go.Proofs.Ytimhlbejjbnofaa
