/- CodeApart: no instruction's bytes begin another one's. Contract; no condition but that the arguments are instructions in memory. -/
import Derived.Test.YtobbjphpngckgaaKit07
import Derived.BigQuiet
import Derived.Deep.QuietTactic
namespace Go.Proofs.Ytobbjphpngckgaa
open Go.RowKit Go.Shelf
set_option linter.unusedVariables false
set_option linter.unusedSimpArgs false

theorem begins_same {x y : InsV} (hx : x.chk = 0) (hy : y.chk = 0) {rest : List Int} (h : y.bytes = x.bytes ++ rest) : x = y := by
  have h1 := get_put hx (b := y.bytes) (post := rest) (k := 0) (by simpa using h)
  have h2 := get_put hy (b := y.bytes) (post := []) (k := 0) (by simp)
  rw [h1] at h2
  injection h2 with _ _ h2 _
theorem apart_bytes {x y : InsV} (hx : x.chk = 0) (hy : y.chk = 0) {n : Nat} (hn : n = min x.bytes.length y.bytes.length) : (x.bytes.take n == y.bytes.take n) = sameY x y := by
  rw [Bool.eq_iff_iff, beq_iff_eq, sameY_iff]
  constructor
  · intro h
    rcases Nat.le_total x.bytes.length y.bytes.length with hl | hl
    · have e : n = x.bytes.length := by omega
      rw [e, List.take_length] at h
      exact begins_same hx hy (rest := y.bytes.drop x.bytes.length) (by conv => lhs; rw [← List.take_append_drop x.bytes.length y.bytes, ← h])
    · have e : n = y.bytes.length := by omega
      rw [e, List.take_length] at h
      exact (begins_same hy hx (rest := x.bytes.drop y.bytes.length) (by conv => lhs; rw [← List.take_append_drop y.bytes.length x.bytes, h])).symm
  · rintro rfl
    rfl
theorem take_bytes {W : World} {B g cap n : Nat} {xs : List Int} (h : IsBytes W B (.slice (some ⟨g, 0, none⟩) xs.length cap) xs) (hg : g < B) (hn : n ≤ xs.length) : IsBytes W B (.slice (some ⟨g, 0, none⟩) n cap) (xs.take n) := by
  by_cases hp : 0 < xs.length
  · obtain ⟨b, off, cap', e, hc, hb, hcl⟩ := h.plain hp
    cases e
    have := bytes_part (p := 0) h hcl hb (by omega : 0 + n ≤ xs.length) (cap' := cap) (by omega)
    simpa using this
  · obtain rfl : n = 0 := by omega
    have hx : xs = [] := List.eq_nil_of_length_eq_zero (by omega)
    subst hx
    simpa using h
theorem out_plain {w W : World} {V : Value} {xs : List Int} (h : OutB w W V xs) (hp : 0 < xs.length) : ∃ g cap, V = .slice (some ⟨g, 0, none⟩) xs.length cap ∧ xs.length ≤ cap ∧ g < W.heap.size := by
  rcases h.own.1.2 with ⟨_, h0⟩ | ⟨g, cap, cur, rfl, _, _, h3, _⟩
  · omega
  · exact ⟨g, cap, rfl, h3, (h.own.lt (g := g) (by simp [Value.ownBlock])).2⟩
theorem code_two {W : World} {X1 X2 : Value} {x y : InsV} (h1 : IsNums .i64 W W.heap.size X1 x.args) (h2 : IsNums .i64 W W.heap.size X2 y.args) (i1 : InsB x) (i2 : InsB y) (g : Nat) (hg : g = W.heap.size) :
    IsCode (W.alloc (.cells #[.int .i64 x.op, .int .i64 x.a, .int .i64 x.b, .int .i64 x.c, .int .i64 x.n, X1, .int .i64 y.op, .int .i64 y.a, .int .i64 y.b, .int .i64 y.c, .int .i64 y.n, X2] 35)) (W.heap.size + 1) (.slice (some ⟨g, 0, none⟩) 2 2) [x, y] := by
  subst hg
  have ha : Below W.heap.size W (W.alloc (.cells #[.int .i64 x.op, .int .i64 x.a, .int .i64 x.b, .int .i64 x.c, .int .i64 x.n, X1, .int .i64 y.op, .int .i64 y.a, .int .i64 y.b, .int .i64 y.c, .int .i64 y.n, X2] 35)) := (Below.refl _ W).alloc (Nat.le_refl _) _
  refine ⟨by unfold maxLen; simp, by intro z hz; simp at hz; rcases hz with rfl | rfl <;> assumption, .inr ⟨W.heap.size, 0, 2, rfl, Nat.le_refl _, Nat.lt_succ_self _, fun i hi => ?_⟩⟩
  have hn := heap_alloc_new W (.cells #[.int .i64 x.op, .int .i64 x.a, .int .i64 x.b, .int .i64 x.c, .int .i64 x.n, X1, .int .i64 y.op, .int .i64 y.a, .int .i64 y.b, .int .i64 y.c, .int .i64 y.n, X2] 35)
  rcases (show i = 0 ∨ i = 1 by simp at hi; omega) with rfl | rfl
  · refine ⟨X1, (h1.below ha (Nat.le_refl _)).more (Nat.le_succ _), fun j hj => ?_⟩
    rw [cell_of_row _ _ _ _ _ _ hn]
    rcases (show j = 0 ∨ j = 1 ∨ j = 2 ∨ j = 3 ∨ j = 4 ∨ j = 5 by omega) with rfl | rfl | rfl | rfl | rfl | rfl <;> rfl
  · refine ⟨X2, (h2.below ha (Nat.le_refl _)).more (Nat.le_succ _), fun j hj => ?_⟩
    rw [cell_of_row _ _ _ _ _ _ hn]
    rcases (show j = 0 ∨ j = 1 ∨ j = 2 ∨ j = 3 ∨ j = 4 ∨ j = 5 by omega) with rfl | rfl | rfl | rfl | rfl | rfl <;> rfl
theorem same_parts {W : World} {ga gb ca cb : Nat} {p q : List Int} (h1 : IsBytes W W.heap.size (.slice (some ⟨ga, 0, none⟩) p.length ca) p) (h2 : IsBytes W W.heap.size (.slice (some ⟨gb, 0, none⟩) q.length cb) q) (hga : ga < W.heap.size) (hgb : gb < W.heap.size) {n : Nat} (hp : n ≤ p.length) (hq : n ≤ q.length) (k : Nat) :
    Calls Try.prog 14 #[.slice (some ⟨ga, 0, none⟩) n ca, .slice (some ⟨gb, 0, none⟩) n cb] (W.drewN k) fun e w' => e = .returned (.bool (p.take n == q.take n)) ∧ W.drewN k = w' :=
  sameBytes_any _ _ _ _ _ _ _ ((take_bytes h1 hga hp).but (R := NoBlock) ((But.refl NoBlock W).drewN k) (Nat.le_refl _) (fun _ _ h => h)) ((take_bytes h2 hgb hq).but (R := NoBlock) ((But.refl NoBlock W).drewN k) (Nat.le_refl _) (fun _ _ h => h))
/-- Two boxes in front of all that is made. -/
structure TwoB (w W : World) (x y : InsV) (X1 X2 : Value) : Prop where
  one : W.heap[w.heap.size]? = some (.cells (insCells x.op x.a x.b x.c x.n X1) 35 (0, 0))
  two : W.heap[w.heap.size + 1]? = some (.cells (insCells y.op y.a y.b y.c y.n X2) 35 (0, 0))
  bel : Below w.heap.size w W
theorem TwoB.grow {w W W' : World} {x y : InsV} {X1 X2 : Value} (h : TwoB w W x y X1 X2) (hb : Below W.heap.size W W') : TwoB w W' x y X1 X2 :=
  ⟨(hb.block _ (heap_lt h.one)).trans h.one, (hb.block _ (heap_lt h.two)).trans h.two, h.bel.trans (hb.mono h.bel.size)⟩
theorem two_new (w : World) (x y : InsV) (X1 X2 : Value) : TwoB w ((w.alloc (.cells (insCells x.op x.a x.b x.c x.n X1) 35)).alloc (.cells (insCells y.op y.a y.b y.c y.n X2) 35)) x y X1 X2 := by
  refine ⟨?_, ?_, ((Below.refl _ w).alloc (Nat.le_refl _) _).alloc (by simp) _⟩
  · rw [Below.heap_alloc _ _ _ (by simp)]
    exact heap_alloc_new _ _
  · have := heap_alloc_new (w.alloc (.cells (insCells x.op x.a x.b x.c x.n X1) 35)) (.cells (insCells y.op y.a y.b y.c y.n X2) 35)
    simpa using this
theorem puti_any {w w' : World} {y : InsV} {e : Ending} (h : PutI w y e w') : ∃ V z, e = .returned (.tuple #[V, .int .i64 z]) ∧ (y.chk ≠ 0 → z ≠ 0) ∧ Below w.heap.size w w' := by
  rcases h with ⟨h0, rfl, hb⟩ | ⟨h0, v, rfl, ho⟩
  · exact ⟨_, _, rfl, fun h => h, hb⟩
  · exact ⟨_, _, rfl, fun h => absurd h0 h, ho.bel⟩
theorem quiet_of7 {P : Program} {f : FuncId} {args : Array Value} {w : World} {n : Nat} {v : Value} (h : Calls P f args (w.drewN n) fun e w' => e = .returned v ∧ w.drewN n = w') :
    Calls P f args (w.drewN n) fun e w'' => e = .returned v ∧ ∃ m, w'' = w.drewN m := h.mono fun _ _ ⟨he, hm⟩ => ⟨he, n, hm.symm⟩
set_option maxRecDepth 100000 in
set_option maxHeartbeats 8000000 in
theorem apart_law (x y : InsV) (X1 X2 : Value) (w : World) (h1 : IsNums .i64 w w.heap.size X1 x.args) (h2 : IsNums .i64 w w.heap.size X2 y.args) (i1 : InsB x) (i2 : InsB y) :
    Calls Try.prog 8 #[.agg (insCells x.op x.a x.b x.c x.n X1), .agg (insCells y.op y.a y.b y.c y.n X2)] w (Makes w (.bool true)) := by
  have hA := fun W => awake7_any W
  have HA := Lib.hid hA
  have HT0 := Lib.hid (two_new w x y X1 X2)
  have H1 := Lib.hid (fun W (hb : Below w.heap.size w W) => (h1.below hb (Nat.le_refl _)).more hb.size)
  have H2 := Lib.hid (fun W (hb : Below w.heap.size w W) => (h2.below hb (Nat.le_refl _)).more hb.size)
  have HLg := Lib.hid (fun W g (hg : g = W.heap.size) (hb : Below w.heap.size w W) => long_any _ [x, y] 2 _ _ (code_two (H1.out W hb) (H2.out W hb) i1 i2 g hg) (by decide))
  have HPx := Lib.hid (fun W (hb : Below w.heap.size w W) => put7_any x.op x.a x.b x.c x.n X1 x.args W (H1.out W hb))
  have HPy := Lib.hid (fun W (hb : Below w.heap.size w W) => put7_any y.op y.a y.b y.c y.n X2 y.args W (H2.out W hb))
  have HSm := Lib.hid (fun W (hb : Below w.heap.size w W) => same_any x.op x.a x.b x.c x.n X1 x.args y.op y.a y.b y.c y.n X2 y.args W (H1.out W hb) (H2.out W hb))
  obtain ⟨A1, c1, hX1⟩ := h1.len
  obtain ⟨A2, c2, hX2⟩ := h2.len
  subst hX1 hX2
  clear hA h1 h2
  have AW : ∀ s : Bool, longV [x, y] 2 = s → Hid (∀ W g (hg : g = W.heap.size) (hb : Below w.heap.size w W), Calls Try.prog 9 #[.slice (some ⟨g, 0, none⟩) 2 2, .int .i64 2] (W.alloc (.cells #[.int .i64 x.op, .int .i64 x.a, .int .i64 x.b, .int .i64 x.c, .int .i64 x.n, .slice A1 x.args.length c1, .int .i64 y.op, .int .i64 y.a, .int .i64 y.b, .int .i64 y.c, .int .i64 y.n, .slice A2 y.args.length c2] 35)) fun e w' => e = .returned (.bool s) ∧ (W.alloc (.cells #[.int .i64 x.op, .int .i64 x.a, .int .i64 x.b, .int .i64 x.c, .int .i64 x.n, .slice A1 x.args.length c1, .int .i64 y.op, .int .i64 y.a, .int .i64 y.b, .int .i64 y.c, .int .i64 y.n, .slice A2 y.args.length c2] 35)) = w') := fun s hs => Lib.hid (fun W g hg hb => by
    have := HLg.out W g hg hb
    rw [hs] at this
    exact this)
  cases hlg : longV [x, y] 2
  · have HL := AW _ hlg
    clear AW HLg
    by_cases hx : x.chk = 0
    · have HPx0 := Lib.hid (fun W hb => (HPx.out W hb).mono fun e w' hh => (hh.resolve_left (fun h => h.1 hx)).2)
      by_cases hy : y.chk = 0
      · have HPy0 := Lib.hid (fun W hb => (HPy.out W hb).mono fun e w' hh => (hh.resolve_left (fun h => h.1 hy)).2)
        have HAP := Lib.hid (fun n hn => apart_bytes hx hy (n := n) hn)
        have hpx := bytes_pos x
        have hpy := bytes_pos y
        have hsx := bytes_short hx
        have hsy := bytes_short hy
        have HBx := Lib.hid (InsV.bytes_bd x)
        have HBy := Lib.hid (InsV.bytes_bd y)
        have HEQ : Hid (sameY x y = true → x.bytes.length = y.bytes.length) := Lib.hid (fun h => by rw [(sameY_iff x y).1 h])
        have hsv : ∀ s, sameY x y = s → Hid (∀ W, Below w.heap.size w W → Calls Try.prog 34 #[.agg (insCells x.op x.a x.b x.c x.n (.slice A1 x.args.length c1)), .agg (insCells y.op y.a y.b y.c y.n (.slice A2 y.args.length c2))] W (Makes W (.bool s))) := fun s hs => Lib.hid (fun W hb => by
          have := HSm.out W hb
          rw [show sameV x.op x.a x.b x.c x.n x.args y.op y.a y.b y.c y.n y.args = s from hs] at this
          exact this)
        obtain ⟨p, hp⟩ : ∃ p, p = x.bytes := ⟨_, rfl⟩
        obtain ⟨q, hq⟩ : ∃ q, q = y.bytes := ⟨_, rfl⟩
        change Hid (∀ W, Below w.heap.size w W → Calls _ _ _ _ (fun e w' => ∃ v, e = .returned (.tuple #[v, .int .i64 0]) ∧ OutB W w' v x.bytes)) at HPx0
        change Hid (∀ W, Below w.heap.size w W → Calls _ _ _ _ (fun e w' => ∃ v, e = .returned (.tuple #[v, .int .i64 0]) ∧ OutB W w' v y.bytes)) at HPy0
        rw [← hp] at HPx0 HAP hpx hsx HBx HEQ
        rw [← hq] at HPy0 HAP hpy hsy HBy HEQ
        clear hp hq hx hy HPx HPy HSm
        cases hs : sameY x y
        · have HSv := hsv _ hs
          rw [hs] at HAP HEQ
          clear hsv hs
          by_cases hle : p.length ≤ q.length
          · clear hlg
            go_enter Try.func8, Try.ntmps8
            go_wp2_with (first
              | (go_at_call 10; (with_reducible refine (HA.out _).mono ?_); rintro e w1 ⟨rfl, hb⟩; have T1 := Lib.hid (HT0.out.grow hb); obtain ⟨d0, d1, d2, d3, d4, d5⟩ := cells6 T1.out.one; obtain ⟨e0, e1, e2, e3, e4, e5⟩ := cells6 T1.out.two; clear hb)
              | (go_at_call 9; (with_reducible refine (HL.out _ _ rfl T1.out.bel).mono ?_); rintro e w2 ⟨rfl, hw2⟩; subst hw2; have T2 := Lib.hid (T1.out.grow ((Below.refl w1.heap.size w1).alloc (Nat.le_refl _) (.cells #[.int .i64 x.op, .int .i64 x.a, .int .i64 x.b, .int .i64 x.c, .int .i64 x.n, .slice A1 x.args.length c1, .int .i64 y.op, .int .i64 y.a, .int .i64 y.b, .int .i64 y.c, .int .i64 y.n, .slice A2 y.args.length c2] 35))); obtain ⟨f0, f1, f2, f3, f4, f5⟩ := cells6 T2.out.one; obtain ⟨j0, j1, j2, j3, j4, j5⟩ := cells6 T2.out.two)
              | (go_at_call 16; (with_reducible refine (HPx0.out _ T2.out.bel).mono ?_); rintro e w3 ⟨v3, rfl, ho⟩; obtain ⟨ga, ca, hv3, hca, hga⟩ := out_plain ho hpx; subst hv3; have O3 := Lib.hid ho; have T3 := Lib.hid (T2.out.grow ho.bel); obtain ⟨k0, k1, k2, k3, k4, k5⟩ := cells6 T3.out.one; obtain ⟨l0, l1, l2, l3, l4, l5⟩ := cells6 T3.out.two; clear ho)
              | (go_at_call 16; (with_reducible refine (HPy0.out _ T3.out.bel).mono ?_); rintro e w4 ⟨v4, rfl, ho⟩; obtain ⟨gb, cb, hv4, hcb, hgb⟩ := out_plain ho hpy; subst hv4; have O4 := Lib.hid ho; have P4 := Lib.hid (O3.out.grow ho.bel); have T4 := Lib.hid (T3.out.grow ho.bel); obtain ⟨m0, m1, m2, m3, m4, m5⟩ := cells6 T4.out.one; obtain ⟨n0, n1, n2, n3, n4, n5⟩ := cells6 T4.out.two; clear ho)
              | (go_at_call 34; (with_reducible refine (HSv.out _ T4.out.bel).mono ?_); rintro e w5 ⟨rfl, hb⟩; have T5 := Lib.hid (T4.out.grow hb); have O5 := Lib.hid (O4.out.grow hb); have P5 := Lib.hid (P4.out.grow hb); have HSB := Lib.hid (fun k => same_parts (P5.out.bytes HBx.out (Nat.le_refl _)) (O5.out.bytes HBy.out (Nat.le_refl _)) (Nat.lt_of_lt_of_le hga (Nat.le_trans O4.out.bel.size hb.size)) (Nat.lt_of_lt_of_le hgb hb.size) (n := p.length) (by omega) (by omega) k); have n1 : (p.length : Int) ≤ (ca : Int) := (by omega); have n2 : (p.length : Int) ≤ (cb : Int) := (by omega); rw [HAP.out (p.length) (by omega)] at HSB; clear hb))
            go_quiet ((go_at_call 14; with_reducible exact quiet_of7 (HSB.out _)))
            go_wp2
            go_ret
            exact ⟨by first | rfl | simp, below_drewN T5.out.bel _⟩
          · clear hlg
            go_enter Try.func8, Try.ntmps8
            go_wp2_with (first
              | (go_at_call 10; (with_reducible refine (HA.out _).mono ?_); rintro e w1 ⟨rfl, hb⟩; have T1 := Lib.hid (HT0.out.grow hb); obtain ⟨d0, d1, d2, d3, d4, d5⟩ := cells6 T1.out.one; obtain ⟨e0, e1, e2, e3, e4, e5⟩ := cells6 T1.out.two; clear hb)
              | (go_at_call 9; (with_reducible refine (HL.out _ _ rfl T1.out.bel).mono ?_); rintro e w2 ⟨rfl, hw2⟩; subst hw2; have T2 := Lib.hid (T1.out.grow ((Below.refl w1.heap.size w1).alloc (Nat.le_refl _) (.cells #[.int .i64 x.op, .int .i64 x.a, .int .i64 x.b, .int .i64 x.c, .int .i64 x.n, .slice A1 x.args.length c1, .int .i64 y.op, .int .i64 y.a, .int .i64 y.b, .int .i64 y.c, .int .i64 y.n, .slice A2 y.args.length c2] 35))); obtain ⟨f0, f1, f2, f3, f4, f5⟩ := cells6 T2.out.one; obtain ⟨j0, j1, j2, j3, j4, j5⟩ := cells6 T2.out.two)
              | (go_at_call 16; (with_reducible refine (HPx0.out _ T2.out.bel).mono ?_); rintro e w3 ⟨v3, rfl, ho⟩; obtain ⟨ga, ca, hv3, hca, hga⟩ := out_plain ho hpx; subst hv3; have O3 := Lib.hid ho; have T3 := Lib.hid (T2.out.grow ho.bel); obtain ⟨k0, k1, k2, k3, k4, k5⟩ := cells6 T3.out.one; obtain ⟨l0, l1, l2, l3, l4, l5⟩ := cells6 T3.out.two; clear ho)
              | (go_at_call 16; (with_reducible refine (HPy0.out _ T3.out.bel).mono ?_); rintro e w4 ⟨v4, rfl, ho⟩; obtain ⟨gb, cb, hv4, hcb, hgb⟩ := out_plain ho hpy; subst hv4; have O4 := Lib.hid ho; have P4 := Lib.hid (O3.out.grow ho.bel); have T4 := Lib.hid (T3.out.grow ho.bel); obtain ⟨m0, m1, m2, m3, m4, m5⟩ := cells6 T4.out.one; obtain ⟨n0, n1, n2, n3, n4, n5⟩ := cells6 T4.out.two; clear ho)
              | (go_at_call 34; (with_reducible refine (HSv.out _ T4.out.bel).mono ?_); rintro e w5 ⟨rfl, hb⟩; have T5 := Lib.hid (T4.out.grow hb); have O5 := Lib.hid (O4.out.grow hb); have P5 := Lib.hid (P4.out.grow hb); have HSB := Lib.hid (fun k => same_parts (P5.out.bytes HBx.out (Nat.le_refl _)) (O5.out.bytes HBy.out (Nat.le_refl _)) (Nat.lt_of_lt_of_le hga (Nat.le_trans O4.out.bel.size hb.size)) (Nat.lt_of_lt_of_le hgb hb.size) (n := q.length) (by omega) (by omega) k); have n1 : (q.length : Int) ≤ (ca : Int) := (by omega); have n2 : (q.length : Int) ≤ (cb : Int) := (by omega); rw [HAP.out (q.length) (by omega)] at HSB; clear hb))
            go_quiet ((go_at_call 14; with_reducible exact quiet_of7 (HSB.out _)))
            go_wp2
            go_ret
            exact ⟨by first | rfl | simp, below_drewN T5.out.bel _⟩
        · have HSv := hsv _ hs
          rw [hs] at HAP HEQ
          clear hsv hs
          have hlen := HEQ.out rfl
          have hlb : ((p.length : Int) == (q.length : Int)) = true := beq_iff_eq.2 (by omega)
          have HLEN := Lib.hid hlen
          clear hlen
          by_cases hle : p.length ≤ q.length
          · clear hlg
            go_enter Try.func8, Try.ntmps8
            go_wp2_with (first
              | (go_at_call 10; (with_reducible refine (HA.out _).mono ?_); rintro e w1 ⟨rfl, hb⟩; have T1 := Lib.hid (HT0.out.grow hb); obtain ⟨d0, d1, d2, d3, d4, d5⟩ := cells6 T1.out.one; obtain ⟨e0, e1, e2, e3, e4, e5⟩ := cells6 T1.out.two; clear hb)
              | (go_at_call 9; (with_reducible refine (HL.out _ _ rfl T1.out.bel).mono ?_); rintro e w2 ⟨rfl, hw2⟩; subst hw2; have T2 := Lib.hid (T1.out.grow ((Below.refl w1.heap.size w1).alloc (Nat.le_refl _) (.cells #[.int .i64 x.op, .int .i64 x.a, .int .i64 x.b, .int .i64 x.c, .int .i64 x.n, .slice A1 x.args.length c1, .int .i64 y.op, .int .i64 y.a, .int .i64 y.b, .int .i64 y.c, .int .i64 y.n, .slice A2 y.args.length c2] 35))); obtain ⟨f0, f1, f2, f3, f4, f5⟩ := cells6 T2.out.one; obtain ⟨j0, j1, j2, j3, j4, j5⟩ := cells6 T2.out.two)
              | (go_at_call 16; (with_reducible refine (HPx0.out _ T2.out.bel).mono ?_); rintro e w3 ⟨v3, rfl, ho⟩; obtain ⟨ga, ca, hv3, hca, hga⟩ := out_plain ho hpx; subst hv3; have O3 := Lib.hid ho; have T3 := Lib.hid (T2.out.grow ho.bel); obtain ⟨k0, k1, k2, k3, k4, k5⟩ := cells6 T3.out.one; obtain ⟨l0, l1, l2, l3, l4, l5⟩ := cells6 T3.out.two; clear ho)
              | (go_at_call 16; (with_reducible refine (HPy0.out _ T3.out.bel).mono ?_); rintro e w4 ⟨v4, rfl, ho⟩; obtain ⟨gb, cb, hv4, hcb, hgb⟩ := out_plain ho hpy; subst hv4; have O4 := Lib.hid ho; have P4 := Lib.hid (O3.out.grow ho.bel); have T4 := Lib.hid (T3.out.grow ho.bel); obtain ⟨m0, m1, m2, m3, m4, m5⟩ := cells6 T4.out.one; obtain ⟨n0, n1, n2, n3, n4, n5⟩ := cells6 T4.out.two; clear ho)
              | (go_at_call 34; (with_reducible refine (HSv.out _ T4.out.bel).mono ?_); rintro e w5 ⟨rfl, hb⟩; have T5 := Lib.hid (T4.out.grow hb); have O5 := Lib.hid (O4.out.grow hb); have P5 := Lib.hid (P4.out.grow hb); have HSB := Lib.hid (fun k => same_parts (P5.out.bytes HBx.out (Nat.le_refl _)) (O5.out.bytes HBy.out (Nat.le_refl _)) (Nat.lt_of_lt_of_le hga (Nat.le_trans O4.out.bel.size hb.size)) (Nat.lt_of_lt_of_le hgb hb.size) (n := p.length) (by omega) (by omega) k); have n1 : (p.length : Int) ≤ (ca : Int) := (by omega); have n2 : (p.length : Int) ≤ (cb : Int) := (by omega); rw [HAP.out (p.length) (by omega)] at HSB; clear hb))
            go_quiet ((go_at_call 14; with_reducible exact quiet_of7 (HSB.out _)))
            go_wp2
            go_ret
            exact ⟨by first | rfl | simp, below_drewN T5.out.bel _⟩
          · clear hlg
            go_enter Try.func8, Try.ntmps8
            go_wp2_with (first
              | (go_at_call 10; (with_reducible refine (HA.out _).mono ?_); rintro e w1 ⟨rfl, hb⟩; have T1 := Lib.hid (HT0.out.grow hb); obtain ⟨d0, d1, d2, d3, d4, d5⟩ := cells6 T1.out.one; obtain ⟨e0, e1, e2, e3, e4, e5⟩ := cells6 T1.out.two; clear hb)
              | (go_at_call 9; (with_reducible refine (HL.out _ _ rfl T1.out.bel).mono ?_); rintro e w2 ⟨rfl, hw2⟩; subst hw2; have T2 := Lib.hid (T1.out.grow ((Below.refl w1.heap.size w1).alloc (Nat.le_refl _) (.cells #[.int .i64 x.op, .int .i64 x.a, .int .i64 x.b, .int .i64 x.c, .int .i64 x.n, .slice A1 x.args.length c1, .int .i64 y.op, .int .i64 y.a, .int .i64 y.b, .int .i64 y.c, .int .i64 y.n, .slice A2 y.args.length c2] 35))); obtain ⟨f0, f1, f2, f3, f4, f5⟩ := cells6 T2.out.one; obtain ⟨j0, j1, j2, j3, j4, j5⟩ := cells6 T2.out.two)
              | (go_at_call 16; (with_reducible refine (HPx0.out _ T2.out.bel).mono ?_); rintro e w3 ⟨v3, rfl, ho⟩; obtain ⟨ga, ca, hv3, hca, hga⟩ := out_plain ho hpx; subst hv3; have O3 := Lib.hid ho; have T3 := Lib.hid (T2.out.grow ho.bel); obtain ⟨k0, k1, k2, k3, k4, k5⟩ := cells6 T3.out.one; obtain ⟨l0, l1, l2, l3, l4, l5⟩ := cells6 T3.out.two; clear ho)
              | (go_at_call 16; (with_reducible refine (HPy0.out _ T3.out.bel).mono ?_); rintro e w4 ⟨v4, rfl, ho⟩; obtain ⟨gb, cb, hv4, hcb, hgb⟩ := out_plain ho hpy; subst hv4; have O4 := Lib.hid ho; have P4 := Lib.hid (O3.out.grow ho.bel); have T4 := Lib.hid (T3.out.grow ho.bel); obtain ⟨m0, m1, m2, m3, m4, m5⟩ := cells6 T4.out.one; obtain ⟨n0, n1, n2, n3, n4, n5⟩ := cells6 T4.out.two; clear ho)
              | (go_at_call 34; (with_reducible refine (HSv.out _ T4.out.bel).mono ?_); rintro e w5 ⟨rfl, hb⟩; have T5 := Lib.hid (T4.out.grow hb); have O5 := Lib.hid (O4.out.grow hb); have P5 := Lib.hid (P4.out.grow hb); have HSB := Lib.hid (fun k => same_parts (P5.out.bytes HBx.out (Nat.le_refl _)) (O5.out.bytes HBy.out (Nat.le_refl _)) (Nat.lt_of_lt_of_le hga (Nat.le_trans O4.out.bel.size hb.size)) (Nat.lt_of_lt_of_le hgb hb.size) (n := q.length) (by omega) (by omega) k); have n1 : (q.length : Int) ≤ (ca : Int) := (by omega); have n2 : (q.length : Int) ≤ (cb : Int) := (by omega); rw [HAP.out (q.length) (by omega)] at HSB; clear hb))
            go_quiet ((go_at_call 14; with_reducible exact quiet_of7 (HSB.out _)))
            go_wp2
            go_ret
            exact ⟨by first | rfl | simp, below_drewN T5.out.bel _⟩
      · have HPy0 := Lib.hid (fun W hb => (HPy.out W hb).mono fun e w' hh => (hh.resolve_right (fun h => hy h.1)).2)
        obtain ⟨z, hz⟩ : ∃ z, z = InsV.chk ⟨y.op, y.a, y.b, y.c, y.n, y.args⟩ := ⟨_, rfl⟩
        have hne : (z != 0) = true := by rw [hz]; simpa using hy
        rw [← hz] at HPy0
        clear hz hx hy hlg
        go_enter Try.func8, Try.ntmps8
        go_wp2_with (first
          | (go_at_call 10; (with_reducible refine (HA.out _).mono ?_); rintro e w1 ⟨rfl, hb⟩; have T1 := Lib.hid (HT0.out.grow hb); obtain ⟨d0, d1, d2, d3, d4, d5⟩ := cells6 T1.out.one; obtain ⟨e0, e1, e2, e3, e4, e5⟩ := cells6 T1.out.two; clear hb)
          | (go_at_call 9; (with_reducible refine (HL.out _ _ rfl T1.out.bel).mono ?_); rintro e w2 ⟨rfl, hw2⟩; subst hw2; have T2 := Lib.hid (T1.out.grow ((Below.refl w1.heap.size w1).alloc (Nat.le_refl _) (.cells #[.int .i64 x.op, .int .i64 x.a, .int .i64 x.b, .int .i64 x.c, .int .i64 x.n, .slice A1 x.args.length c1, .int .i64 y.op, .int .i64 y.a, .int .i64 y.b, .int .i64 y.c, .int .i64 y.n, .slice A2 y.args.length c2] 35))); obtain ⟨f0, f1, f2, f3, f4, f5⟩ := cells6 T2.out.one; obtain ⟨j0, j1, j2, j3, j4, j5⟩ := cells6 T2.out.two)
          | (go_at_call 16; (with_reducible refine (HPx0.out _ T2.out.bel).mono ?_); rintro e w3 ⟨v3, rfl, ho⟩; have T3 := Lib.hid (T2.out.grow ho.bel); obtain ⟨k0, k1, k2, k3, k4, k5⟩ := cells6 T3.out.one; obtain ⟨l0, l1, l2, l3, l4, l5⟩ := cells6 T3.out.two; clear ho)
          | (go_at_call 16; (with_reducible refine (HPy0.out _ T3.out.bel).mono ?_); rintro e w4 ⟨rfl, hb⟩; have T4 := Lib.hid (T3.out.grow hb); clear hb))
        go_ret
        exact ⟨rfl, T4.out.bel⟩
    · have HPx0 := Lib.hid (fun W hb => (HPx.out W hb).mono fun e w' hh => (hh.resolve_right (fun h => hx h.1)).2)
      obtain ⟨z, hz⟩ : ∃ z, z = InsV.chk ⟨x.op, x.a, x.b, x.c, x.n, x.args⟩ := ⟨_, rfl⟩
      have hne : (z != 0) = true := by rw [hz]; simpa using hx
      rw [← hz] at HPx0
      clear hz hx hlg
      go_enter Try.func8, Try.ntmps8
      go_wp2_with (first
        | (go_at_call 10; (with_reducible refine (HA.out _).mono ?_); rintro e w1 ⟨rfl, hb⟩; have T1 := Lib.hid (HT0.out.grow hb); obtain ⟨d0, d1, d2, d3, d4, d5⟩ := cells6 T1.out.one; obtain ⟨e0, e1, e2, e3, e4, e5⟩ := cells6 T1.out.two; clear hb)
        | (go_at_call 9; (with_reducible refine (HL.out _ _ rfl T1.out.bel).mono ?_); rintro e w2 ⟨rfl, hw2⟩; subst hw2; have T2 := Lib.hid (T1.out.grow ((Below.refl w1.heap.size w1).alloc (Nat.le_refl _) (.cells #[.int .i64 x.op, .int .i64 x.a, .int .i64 x.b, .int .i64 x.c, .int .i64 x.n, .slice A1 x.args.length c1, .int .i64 y.op, .int .i64 y.a, .int .i64 y.b, .int .i64 y.c, .int .i64 y.n, .slice A2 y.args.length c2] 35))); obtain ⟨f0, f1, f2, f3, f4, f5⟩ := cells6 T2.out.one; obtain ⟨j0, j1, j2, j3, j4, j5⟩ := cells6 T2.out.two)
        | (go_at_call 16; (with_reducible refine (HPx0.out _ T2.out.bel).mono ?_); rintro e w3 ⟨rfl, hb⟩; have T3 := Lib.hid (T2.out.grow hb); obtain ⟨k0, k1, k2, k3, k4, k5⟩ := cells6 T3.out.one; obtain ⟨l0, l1, l2, l3, l4, l5⟩ := cells6 T3.out.two; clear hb)
        | (go_at_call 16; (with_reducible refine (HPy.out _ T3.out.bel).mono ?_); intro e w4 hh; obtain ⟨V4, z4, rfl, _, hb⟩ := puti_any hh; have T4 := Lib.hid (T3.out.grow hb); clear hb hh))
      go_ret
      exact ⟨rfl, T4.out.bel⟩
  · have HL := AW _ hlg
    clear AW hlg HLg
    go_enter Try.func8, Try.ntmps8
    go_wp2_with (first
      | (go_at_call 10; (with_reducible refine (HA.out _).mono ?_); rintro e w1 ⟨rfl, hb⟩; have T1 := Lib.hid (HT0.out.grow hb); obtain ⟨d0, d1, d2, d3, d4, d5⟩ := cells6 T1.out.one; obtain ⟨e0, e1, e2, e3, e4, e5⟩ := cells6 T1.out.two; clear hb)
      | (go_at_call 9; (with_reducible refine (HL.out _ _ rfl T1.out.bel).mono ?_); rintro e w2 ⟨rfl, hw2⟩; subst hw2))
    go_ret
    exact ⟨rfl, T1.out.bel.alloc T1.out.bel.size _⟩
end Go.Proofs.Ytobbjphpngckgaa
