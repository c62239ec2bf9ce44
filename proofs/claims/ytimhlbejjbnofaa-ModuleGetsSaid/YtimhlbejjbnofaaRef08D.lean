/- The document's own reader of layer 8: function. Contract; no condition but that the reader lies in memory, its place within its bytes, and that these are few. -/
import Derived.Test.YtimhlbejjbnofaaRef08C
import Derived.Test.YtimhlbejjbnofaaS15
namespace Go.Proofs.Ytimhlbejjbnofaa
open Go.RowKit Go.Shelf
set_option linter.unusedVariables false
set_option linter.unusedSimpArgs false

/-- While a function is read: the reader, the result's box, the function's box. -/
structure RFn (w W : World) (rb B : Nat) (X : Value) (b : List Int) (s : Rd) (p r a : Int) (C : Value) : Prop where
  rd : RrAt W rb B X b s
  res : W.heap[w.heap.size]? = some (.cells #[.int .i64 0, .int .i64 0, .int .i64 0, .slice none 0 0] 47 (0, 0))
  fn : W.heap[w.heap.size + 1]? = some (.cells #[.int .i64 p, .int .i64 r, .int .i64 a, C] 47 (0, 0))
  but : But (OneBlock rb) w W
  lt : rb < w.heap.size
section
variable {w W W' : World} {rb B : Nat} {X C : Value} {b : List Int} {s s' : Rd} {p r a : Int}
theorem RFn.step (h : RFn w W rb B X b s p r a C) (hb : But (OneBlock rb) W W') (hr : RrAt W' rb B X b s') : RFn w W' rb B X b s' p r a C :=
  ⟨hr, hb.heap h.res (show ¬ w.heap.size = rb by have := h.lt; omega), hb.heap h.fn (show ¬ w.heap.size + 1 = rb by have := h.lt; omega), h.but.trans hb, h.lt⟩
theorem RFn.grow (h : RFn w W rb B X b s p r a C) (hb : Below W.heap.size W W') : RFn w W' rb B X b s p r a C :=
  h.step (But.of_below hb) (h.rd.grow hb)
theorem but_over {w W : World} {rb g o : Nat} {v : Value} (h : But (OneBlock rb) w W) (hg : w.heap.size ≤ g) : But (OneBlock rb) w (W.setCell ⟨g, o, none⟩ v) :=
  but_far (tb := g) h hg ((but_one W g o v).mono fun k hk => .inr hk)
theorem RFn.set (h : RFn w W rb B X b s p r a C) {o : Nat} {v : Value} {p' r' a' : Int} {C' : Value} (hc : (#[.int .i64 p, .int .i64 r, .int .i64 a, C] : Array Value).setIfInBounds o v = #[.int .i64 p', .int .i64 r', .int .i64 a', C']) : RFn w (W.setCell ⟨w.heap.size + 1, o, none⟩ v) rb B X b s p' r' a' C' := by
  have h1 := heap_setCell_same W (w.heap.size + 1) o _ _ v h.fn
  rw [hc] at h1
  have hl := h.lt
  have hlow := h.rd.low
  exact ⟨h.rd.but (but_one W (w.heap.size + 1) o v) (fun e => by have e' : rb = w.heap.size + 1 := e; omega) (fun k hk e => by have e' : k = w.heap.size + 1 := e; omega), (but_one W (w.heap.size + 1) o v).heap h.res (show ¬ w.heap.size = w.heap.size + 1 by omega), h1, but_over h.but (by omega), hl⟩
theorem rfn_new (w : World) (h : RrAt w rb B X b s) : RFn w ((w.alloc (.cells #[.int .i64 0, .int .i64 0, .int .i64 0, .slice none 0 0] 47)).alloc (.cells #[.int .i64 0, .int .i64 0, .int .i64 0, .slice none 0 0] 47)) rb B X b s 0 0 0 (.slice none 0 0) := by
  have hb : Below w.heap.size w ((w.alloc (.cells #[.int .i64 0, .int .i64 0, .int .i64 0, .slice none 0 0] 47)).alloc (.cells #[.int .i64 0, .int .i64 0, .int .i64 0, .slice none 0 0] 47)) := ((Below.refl _ w).alloc (Nat.le_refl _) _).alloc (by simp) _
  refine ⟨h.grow hb, ?_, ?_, But.of_below hb, h.lt⟩
  · rw [Below.heap_alloc _ _ _ (by simp)]
    exact heap_alloc_new _ _
  · have := heap_alloc_new (w.alloc (.cells #[.int .i64 0, .int .i64 0, .int .i64 0, .slice none 0 0] 47)) (.cells #[.int .i64 0, .int .i64 0, .int .i64 0, .slice none 0 0] 47)
    rw [World.size_alloc] at this
    exact this
end
abbrev set4f (W : World) (g : Nat) (p r a : Int) (C : Value) : World := (((W.setCell ⟨g, 0, none⟩ (.int .i64 p)).setCell ⟨g, 1, none⟩ (.int .i64 r)).setCell ⟨g, 2, none⟩ (.int .i64 a)).setCell ⟨g, 3, none⟩ C
/-- What a read of a function leaves. -/
structure RFunDone (w : World) (rb B : Nat) (X : Value) (b : List Int) (s : Rd) (f : FunV) (e : Ending) (w' : World) : Prop where
  ret : ∃ C Xs bs, e = .returned (.agg #[.int .i64 f.params, .int .i64 f.regs, .int .i64 f.area, C]) ∧ OwnC bs w' C f.code Xs
  rd : RrAt w' rb B X b s
  but : But (OneBlock rb) w w'
theorem rfn_end {w W : World} {rb B bs : Nat} {X C : Value} {b : List Int} {s : Rd} {p r a : Int} {l : List InsV} {Xs : List Value} (h : RFn w W rb B X b s p r a C) (hc : OwnC bs W C l Xs) :
    RrAt (set4f W w.heap.size p r a C) rb B X b s ∧ But (OneBlock rb) w (set4f W w.heap.size p r a C) ∧ OwnC bs (set4f W w.heap.size p r a C) C l Xs ∧ (set4f W w.heap.size p r a C).heap[w.heap.size]? = some (.cells #[.int .i64 p, .int .i64 r, .int .i64 a, C] 47 (0, 0)) := by
  have hb : But (OneBlock w.heap.size) W (set4f W w.heap.size p r a C) := (((but_one W _ 0 _).trans (but_one _ _ 1 _)).trans (but_one _ _ 2 _)).trans (but_one _ _ 3 _)
  have hl := h.lt
  have hlow := h.rd.low
  refine ⟨h.rd.but hb (fun e => by have e' : rb = w.heap.size := e; omega) (fun k hk e => by have e' : k = w.heap.size := e; omega), but_over (but_over (but_over (but_over h.but (Nat.le_refl _)) (Nat.le_refl _)) (Nat.le_refl _)) (Nat.le_refl _), hc.but hb (fun g hg e => ?_) (fun i hi g hg e => ?_), ?_⟩
  · obtain ⟨c, hc2⟩ := hc.own.typed hg
    have e' : g = w.heap.size := e
    subst e'
    exact absurd (other_type hc2 h.res) (by decide)
  · obtain ⟨c, hc2⟩ := (hc.nums i hi).typed hg
    have e' : g = w.heap.size := e
    subst e'
    exact absurd (other_type hc2 h.res) (by decide)
  · have h1 := heap_setCell_same W w.heap.size 0 _ _ (.int .i64 p) h.res
    have h2 := heap_setCell_same _ w.heap.size 1 _ _ (.int .i64 r) h1
    have h3 := heap_setCell_same _ w.heap.size 2 _ _ (.int .i64 a) h2
    exact heap_setCell_same _ w.heap.size 3 _ _ C h3
theorem RFn.code {w W : World} {rb B bs o : Nat} {X C C' v : Value} {b : List Int} {s : Rd} {p r a : Int} {l : List InsV} {Xs : List Value} (h : RFn w W rb B X b s p r a C) (hc : OwnC bs W C' l Xs) : OwnC bs (W.setCell ⟨w.heap.size + 1, o, none⟩ v) C' l Xs := by
  refine hc.but (but_one W (w.heap.size + 1) o v) (fun g hg e => ?_) (fun i hi g hg e => ?_)
  · obtain ⟨c, hc2⟩ := hc.own.typed hg
    have e' : g = w.heap.size + 1 := e
    subst e'
    exact absurd (other_type hc2 h.fn) (by decide)
  · obtain ⟨c, hc2⟩ := (hc.nums i hi).typed hg
    have e' : g = w.heap.size + 1 := e
    subst e'
    exact absurd (other_type hc2 h.fn) (by decide)
theorem RrAt.code {W W' : World} {rb B bs : Nat} {X C' : Value} {b : List Int} {s : Rd} {l : List InsV} {Xs : List Value} (h : RrAt W rb B X b s) (hc : OwnC bs W C' l Xs) (hb : But (OneBlock rb) W W') : OwnC bs W' C' l Xs := by
  refine hc.but hb (fun g hg e => ?_) (fun i hi g hg e => ?_)
  · obtain ⟨c, hc2⟩ := hc.own.typed hg
    have e' : g = rb := e
    subst e'
    exact absurd (other_type hc2 h.blk) (by decide)
  · obtain ⟨c, hc2⟩ := (hc.nums i hi).typed hg
    have e' : g = rb := e
    subst e'
    exact absurd (other_type hc2 h.blk) (by decide)
set_option maxHeartbeats 8000000 in
set_option maxRecDepth 100000 in
theorem rfunction_any (w : World) (rb B : Nat) (X : Value) (b : List Int) (s : Rd) (hR : RrAt w rb B X b s) :
    Calls Try.prog 50 #[.pointer (some ⟨rb, 0, none⟩)] w (RFunDone w rb B X b (funS b s) (funF b s)) := by
  have hlow := hR.low
  have hbd := hR.byt.1
  have H0 := rfn_new w hR
  obtain ⟨w0, hw0⟩ : ∃ w0, w0 = (w.alloc (.cells #[.int .i64 0, .int .i64 0, .int .i64 0, .slice none 0 0] 47)).alloc (.cells #[.int .i64 0, .int .i64 0, .int .i64 0, .slice none 0 0] 47) := ⟨_, rfl⟩
  rw [← hw0] at H0
  have HW0 := Lib.hid hw0
  have H0 := Lib.hid H0
  have HBD := Lib.hid (fun4_bd (s := s) hbd)
  have HP4 := Lib.hid (fun4_place hR.pos)
  have HPS := Lib.hid (And.intro (fun4_pos hR.pos) hR.small)
  have HFS : Hid (funS b s = (fun4 b s).1.need (decide ((splitV (fun4 b s).2).err = 0)) 10 ((fun4 b s).1.pos - (fun4 b s).2.length)) := Lib.hid rfl
  have hf0 : funF b s = ⟨(fun1 b s).2, (fun2 b s).2, (fun3 b s).2, (splitV (fun4 b s).2).l⟩ := rfl
  have h1 : ∀ W, RrAt W rb B X b s → Calls Try.prog 48 #[.pointer (some ⟨rb, 0, none⟩), .int .i64 1] W (RNum W rb B X b (fun1 b s)) := fun W hr => rnumber_one W rb B X b s hr
  have h2 : ∀ W, RrAt W rb B X b (fun1 b s).1 → Calls Try.prog 48 #[.pointer (some ⟨rb, 0, none⟩), .int .i64 1] W (RNum W rb B X b (fun2 b s)) := fun W hr => rnumber_one W rb B X b _ hr
  have h3 : ∀ W, RrAt W rb B X b (fun2 b s).1 → Calls Try.prog 48 #[.pointer (some ⟨rb, 0, none⟩), .int .i64 2] W (RNum W rb B X b (fun3 b s)) := fun W hr => rnumber_two W rb B X b _ hr
  have h4 : ∀ W, RrAt W rb B X b (fun3 b s).1 → Calls Try.prog 47 #[.pointer (some ⟨rb, 0, none⟩), .int .i64 4096] W (RBlock W rb B X b (fun4 b s)) := fun W hr => rblock_any W rb B X b _ 4096 hr
  rw [hf0]
  clear hf0 hw0 hR hbd
  generalize fun4 b s = r4 at *
  generalize fun3 b s = r3 at *
  generalize fun2 b s = r2 at *
  generalize fun1 b s = r1 at *
  obtain ⟨s1, p⟩ := r1
  obtain ⟨s2, r⟩ := r2
  obtain ⟨s3, a⟩ := r3
  obtain ⟨s4, c⟩ := r4
  dsimp only at HFS HBD HP4 HPS h1 h2 h3 h4 ⊢
  have H1 := Lib.hid h1
  have H2 := Lib.hid h2
  have H3 := Lib.hid h3
  have H4 := Lib.hid h4
  clear h1 h2 h3 h4
  have HSp := Lib.hid (fun V W hV => (rsplit7_any V c W hV).mono fun e w' hh => split_one hh)
  generalize splitV c = sp at *
  obtain ⟨z, k0, l, ps⟩ := sp
  dsimp only at HSp HFS ⊢
  have hsub : IntKind.i64.wrap ((s4.pos : Int) - (c.length : Int)) = (s4.pos : Int) - (c.length : Int) := by
    have h4 := HP4.out
    have h5 := HPS.out
    rw [IntKind.wrap_i64]
    omega
  by_cases hz : z = 0
  · subst hz
    have HFE : Hid (funS b s = s4) := Lib.hid (by rw [HFS.out, decide_eq_true rfl]; exact Rd.need_yes _ _ _)
    clear HFS
    go_enter Try.func50, Try.ntmps50
    go_wp2_with (first
      | (go_at_call 48; rw [← HW0.out]; (with_reducible refine (H1.out w0 H0.out.rd).mono ?_); rintro e w1 ⟨rfl, hr, hb⟩; have K1 := Lib.hid ((H0.out.step hb hr).set (o := 0) (v := .int .i64 p) rfl); have f1 := frozen_of_row w1 (w.heap.size + 1) 0 _ _ (H0.out.step hb hr).fn; obtain ⟨p0, p1, p2, p3⟩ := cells4 (H0.out.step hb hr).fn; clear hr hb)
      | (go_at_call 48; (with_reducible refine (H2.out _ K1.out.rd).mono ?_); rintro e w2 ⟨rfl, hr, hb⟩; have K2 := Lib.hid ((K1.out.step hb hr).set (o := 1) (v := .int .i64 r) rfl); have f2 := frozen_of_row w2 (w.heap.size + 1) 1 _ _ (K1.out.step hb hr).fn; obtain ⟨q0, q1, q2, q3⟩ := cells4 (K1.out.step hb hr).fn; clear hr hb)
      | (go_at_call 48; (with_reducible refine (H3.out _ K2.out.rd).mono ?_); rintro e w3 ⟨rfl, hr, hb⟩; have K3 := Lib.hid ((K2.out.step hb hr).set (o := 2) (v := .int .i64 a) rfl); have f3 := frozen_of_row w3 (w.heap.size + 1) 2 _ _ (K2.out.step hb hr).fn; obtain ⟨r0, r1, r2, r3⟩ := cells4 (K2.out.step hb hr).fn; clear hr hb)
      | (go_at_call 47; (with_reducible refine (H4.out _ K3.out.rd).mono ?_); rintro e w4 ⟨⟨V4, rfl, ho⟩, hr, hb⟩; have K4 := Lib.hid (K3.out.step hb hr); have HV4 := Lib.hid (IsBytes.of_owns ho HBD.out (Nat.le_refl _)); obtain ⟨vA, vc, hve⟩ := owns_len ho; subst hve; clear ho hr hb)
      | (go_at_call 70; (with_reducible refine (HSp.out _ w4 HV4.out).mono ?_); rintro e w5 ⟨V5, P5, k5, Xs5, rfl, hc, hb⟩; obtain ⟨cA, cc, hce⟩ := owns_len hc.own; subst hce; have hba := (Below.refl w5.heap.size w5).alloc (Nat.le_refl _) (.cells #[.int .i64 0, .int .i64 k5] 38); have K5 := Lib.hid ((K4.out.grow hb).grow hba); obtain ⟨u0, u1⟩ := cells2 (heap_alloc_new w5 (.cells #[.int .i64 0, .int .i64 k5] 38)); have f5 := frozen_of_row _ (w.heap.size + 1) 3 _ _ K5.out.fn; obtain ⟨o0, o1, o2, o3⟩ := cells4 K5.out.fn; have K6 := Lib.hid (K5.out.set (o := 3) (v := .slice cA l.length cc) rfl); have HC6 := Lib.hid (K5.out.code (o := 3) (v := .slice cA l.length cc) (hc.below hba (Nat.le_refl _))); obtain ⟨i0, i1, i2, i3⟩ := cells4 K6.out.fn; obtain ⟨j0, j1, j2, j3⟩ := cells4 K6.out.res; have g0 := frozen_of_row _ w.heap.size 0 _ _ K6.out.res; have g1 := frozen_of_row _ w.heap.size 1 _ _ K6.out.res; have g2 := frozen_of_row _ w.heap.size 2 _ _ K6.out.res; have g3 := frozen_of_row _ w.heap.size 3 _ _ K6.out.res; clear hc hb hba))
    refine (show ∀ W, (RrAt W rb B X b s4 ∧ But (OneBlock rb) w W ∧ OwnC w4.heap.size W (.slice cA l.length cc) l Xs5 ∧ W.heap[w.heap.size]? = some (.cells #[.int .i64 p, .int .i64 r, .int .i64 a, .slice cA l.length cc] 47 (0, 0))) → bodyPost _ _ _ _ _ W from fun W h => ?_) _ (rfn_end K6.out HC6.out)
    obtain ⟨hr, hb, hc, hm⟩ := h
    obtain ⟨x0, x1, x2, x3⟩ := cells4 hm
    refine bodyPost_ret (v := .agg #[.int .i64 p, .int .i64 r, .int .i64 a, .slice cA l.length cc]) (by simp [results, Try.results50, go_sem, x0, x1, x2, x3]) rfl ?_
    exact ⟨⟨_, Xs5, _, rfl, hc⟩, by rw [HFE.out]; exact hr, hb⟩
  · have HFE : Hid (funS b s = s4.need false 10 (s4.pos - c.length)) := Lib.hid (by rw [HFS.out, decide_eq_false hz])
    have hne : (z != 0) = true := by simpa using hz
    clear HFS hz
    go_enter Try.func50, Try.ntmps50
    go_wp2_with (first
      | (go_at_call 48; rw [← HW0.out]; (with_reducible refine (H1.out w0 H0.out.rd).mono ?_); rintro e w1 ⟨rfl, hr, hb⟩; have K1 := Lib.hid ((H0.out.step hb hr).set (o := 0) (v := .int .i64 p) rfl); have f1 := frozen_of_row w1 (w.heap.size + 1) 0 _ _ (H0.out.step hb hr).fn; obtain ⟨p0, p1, p2, p3⟩ := cells4 (H0.out.step hb hr).fn; clear hr hb)
      | (go_at_call 48; (with_reducible refine (H2.out _ K1.out.rd).mono ?_); rintro e w2 ⟨rfl, hr, hb⟩; have K2 := Lib.hid ((K1.out.step hb hr).set (o := 1) (v := .int .i64 r) rfl); have f2 := frozen_of_row w2 (w.heap.size + 1) 1 _ _ (K1.out.step hb hr).fn; obtain ⟨q0, q1, q2, q3⟩ := cells4 (K1.out.step hb hr).fn; clear hr hb)
      | (go_at_call 48; (with_reducible refine (H3.out _ K2.out.rd).mono ?_); rintro e w3 ⟨rfl, hr, hb⟩; have K3 := Lib.hid ((K2.out.step hb hr).set (o := 2) (v := .int .i64 a) rfl); have f3 := frozen_of_row w3 (w.heap.size + 1) 2 _ _ (K2.out.step hb hr).fn; obtain ⟨r0, r1, r2, r3⟩ := cells4 (K2.out.step hb hr).fn; clear hr hb)
      | (go_at_call 47; (with_reducible refine (H4.out _ K3.out.rd).mono ?_); rintro e w4 ⟨⟨V4, rfl, ho⟩, hr, hb⟩; have K4 := Lib.hid (K3.out.step hb hr); have HV4 := Lib.hid (IsBytes.of_owns ho HBD.out (Nat.le_refl _)); obtain ⟨vA, vc, hve⟩ := owns_len ho; subst hve; clear ho hr hb)
      | (go_at_call 70; (with_reducible refine (HSp.out _ w4 HV4.out).mono ?_); rintro e w5 ⟨V5, P5, k5, Xs5, rfl, hc, hb⟩; obtain ⟨cA, cc, hce⟩ := owns_len hc.own; subst hce; have hba := (Below.refl w5.heap.size w5).alloc (Nat.le_refl _) (.cells #[.int .i64 z, .int .i64 k5] 38); have K5 := Lib.hid ((K4.out.grow hb).grow hba); have HC5 := Lib.hid (hc.below hba (Nat.le_refl _)); obtain ⟨u0, u1⟩ := cells2 (heap_alloc_new w5 (.cells #[.int .i64 z, .int .i64 k5] 38)); obtain ⟨d0, d1, d2, d3⟩ := K5.out.rd.cells; clear hc hb hba)
      | (go_at_call 49; (with_reducible refine (rfails_any _ rb B X b s4 10 (s4.pos - c.length) K5.out.rd).mono ?_); rintro e w7 ⟨rfl, hr, hb⟩; have K7 := Lib.hid (K5.out.step hb hr); have HC7 := Lib.hid (K5.out.rd.code HC5.out hb); have f5 := frozen_of_row _ (w.heap.size + 1) 3 _ _ K7.out.fn; obtain ⟨o0, o1, o2, o3⟩ := cells4 K7.out.fn; have K6 := Lib.hid (K7.out.set (o := 3) (v := .slice cA l.length cc) rfl); have HC6 := Lib.hid (K7.out.code (o := 3) (v := .slice cA l.length cc) HC7.out); obtain ⟨i0, i1, i2, i3⟩ := cells4 K6.out.fn; obtain ⟨j0, j1, j2, j3⟩ := cells4 K6.out.res; have g0 := frozen_of_row _ w.heap.size 0 _ _ K6.out.res; have g1 := frozen_of_row _ w.heap.size 1 _ _ K6.out.res; have g2 := frozen_of_row _ w.heap.size 2 _ _ K6.out.res; have g3 := frozen_of_row _ w.heap.size 3 _ _ K6.out.res; clear hr hb))
    refine (show ∀ W, (RrAt W rb B X b (s4.need false 10 (s4.pos - c.length)) ∧ But (OneBlock rb) w W ∧ OwnC w4.heap.size W (.slice cA l.length cc) l Xs5 ∧ W.heap[w.heap.size]? = some (.cells #[.int .i64 p, .int .i64 r, .int .i64 a, .slice cA l.length cc] 47 (0, 0))) → bodyPost _ _ _ _ _ W from fun W h => ?_) _ (rfn_end K6.out HC6.out)
    obtain ⟨hr, hb, hc, hm⟩ := h
    obtain ⟨x0, x1, x2, x3⟩ := cells4 hm
    refine bodyPost_ret (v := .agg #[.int .i64 p, .int .i64 r, .int .i64 a, .slice cA l.length cc]) (by simp [results, Try.results50, go_sem, x0, x1, x2, x3]) rfl ?_
    exact ⟨⟨_, Xs5, _, rfl, hc⟩, by rw [HFE.out]; exact hr, hb⟩
end Go.Proofs.Ytimhlbejjbnofaa
