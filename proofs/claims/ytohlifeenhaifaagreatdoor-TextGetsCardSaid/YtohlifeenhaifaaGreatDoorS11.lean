/- Lemmas of Mod08F, Mod08G, each with its own remark. -/
import Derived.Test.YtohlifeenhaifaaGreatDoorS10
import Derived.Test.YtohlifeenhaifaaGreatDoorS09
import Derived.BigQuiet
import Derived.Deep.QuietTactic
import Derived.Deep.RegionHeld3
/- (Mod08F) The landed module.Put and Same: a module's bytes; whether two modules are equal. Contracts; no condition but that what is handed in lies in memory. -/
namespace Go.Proofs.YtohlifeenhaifaaGreatDoor
open Go.RowKit Go.Shelf
set_option linter.unusedVariables false
set_option linter.unusedSimpArgs false

theorem ferr_ok {f : FunV} (h : f.err = 0) : framedV f.params f.regs f.area = true ∧ joinE f.code = 0 ∧ firstC f.regs f.area f.code = 0 := by
  unfold FunV.err at h
  by_cases h1 : framedV f.params f.regs f.area = true
  · rw [if_pos h1] at h
    by_cases h2 : joinE f.code = 0
    · rw [if_pos h2] at h; exact ⟨h1, h2, h⟩
    · rw [if_neg h2] at h; exact absurd h h2
  · rw [if_neg h1] at h; exact absurd h (by decide)
theorem firstF_ok : ∀ {l : List FunV}, firstF l = 0 → ∀ f ∈ l, f.err = 0
  | [], _ => by simp
  | g :: l, h => by
    intro f hf
    simp only [firstF] at h
    by_cases hg : g.err = 0
    · rw [if_pos hg] at h
      rcases List.mem_cons.1 hf with rfl | hf
      · exact hg
      · exact firstF_ok h f hf
    · rw [if_neg hg] at h; exact absurd h hg
theorem merr_ok {data : List Int} {fs : List FunV} (h : (ModV.mk data fs).err = 0) : data.length ≤ 8192 ∧ 1 ≤ fs.length ∧ fs.length ≤ 64 ∧ ∀ f ∈ fs, f.err = 0 := by
  by_cases hd : 8192 < data.length
  · rw [merr_data hd] at h; exact absurd h (by decide)
  · cases hs : someV fs.length
    · rw [merr_some hd hs] at h; exact absurd h (by decide)
    · rw [merr_funs hd hs] at h
      have := of_decide_eq_true hs
      exact ⟨by omega, by omega, by omega, firstF_ok h⟩
theorem few_of {fs : List FunV} (h : ∀ f ∈ fs, f.err = 0) : FewF fs := fun f hf => (first_all (ferr_ok (h f hf)).2.1).2
theorem list_same {α : Type} (d : α) {l m : List α} {k : Nat} (hl : l.length = m.length) (hk : l.length ≤ k) (h : ∀ i, i < k → l.getD i d = m.getD i d) : l = m := by
  refine List.ext_getElem hl fun i h1 h2 => ?_
  have := h i (by omega)
  simpa [List.getD, List.getElem?_eq_getElem h1, List.getElem?_eq_getElem h2] using this
def sameFun (f g : FunV) : Bool := decide (f.params = g.params ∧ f.regs = g.regs ∧ f.area = g.area) && sameCV f.code g.code
theorem sameFun_iff (f g : FunV) : sameFun f g = true ↔ f = g := by
  unfold sameFun
  rw [Bool.and_eq_true, decide_eq_true_iff, sameCV_iff]
  constructor
  · rintro ⟨⟨h1, h2, h3⟩, h4⟩
    cases f
    cases g
    simp_all
  · rintro rfl
    exact ⟨⟨rfl, rfl, rfl⟩, rfl⟩
def sameFL : List FunV → List FunV → Bool
  | [], [] => true
  | x :: l, y :: k => sameFun x y && sameFL l k
  | _, _ => false
theorem sameFL_iff : ∀ (l k : List FunV), sameFL l k = true ↔ l = k
  | [], [] => by simp [sameFL]
  | [], y :: k => by simp [sameFL]
  | x :: l, [] => by simp [sameFL]
  | x :: l, y :: k => by simp [sameFL, sameFun_iff, sameFL_iff l k]
set_option maxRecDepth 100000 in
set_option maxHeartbeats 8000000 in
theorem eqIns_any (V U : Value) (l m : List InsV) (w : World) (hV : IsCode w w.heap.size V l) (hU : IsCode w w.heap.size U m) : Calls Tryz.prog 79 #[V, U, .func (.func 80) #[] #[]] w (Makes w (.bool (sameCV l m))) := by
  obtain ⟨A, cap, hVe⟩ := hV.len
  obtain ⟨A2, cap2, hUe⟩ := hU.len
  subst hVe hUe
  have hl1 := hV.1
  have hl2 := hU.1
  unfold maxLen at hl1 hl2
  by_cases hne : l.length = m.length
  · obtain ⟨n, hn⟩ : ∃ n, n = l.length := ⟨_, rfl⟩
    have HN := Lib.hid hn
    have HN2 := Lib.hid (hn.trans hne)
    have HV := Lib.hid hV
    have HU := Lib.hid hU
    rw [← hn] at HV hl1 ⊢
    rw [← hne, ← hn] at HU hl2 ⊢
    clear hV hU hne hn hl2
    go_enter Tryz.func79, Tryz.ntmps79
    go_wp2
    go_loopw [17] (fun i wr => ∃ k : Nat, k ≤ n ∧ i = .int .i64 k ∧ Hid ((∀ i, i < k → l.getD i .zero = m.getD i .zero) ∧ Below w.heap.size w wr)) (fun i _ => n - (intOf i).toNat)
    case atStart => exact ⟨0, by omega, rfl, ⟨fun i hi => by omega, Below.refl _ _⟩⟩
    case round =>
      obtain ⟨k, hk, rfl, HR⟩ := hrel
      obtain ⟨hs, hb⟩ := HR.out
      have HS := Lib.hid hs
      have HB := Lib.hid hb
      clear hs HR
      by_cases hlt : k < n
      · obtain ⟨b1, o1, cp1, hVe, _, hb1, hcl1⟩ := HV.out.plain (by rw [← HN.out]; omega)
        obtain ⟨b2, o2, cp2, hUe, _, hb2, hcl2⟩ := HU.out.plain (by rw [← HN2.out]; omega)
        rw [← HN.out] at hVe hcl1
        rw [← HN2.out] at hUe hcl2
        cases hVe
        cases hUe
        obtain ⟨X1, hX1, hc1⟩ := hcl1 k hlt
        obtain ⟨X2, hX2, hc2⟩ := hcl2 k hlt
        obtain ⟨x, hx⟩ : ∃ x, x = l.getD k .zero := ⟨_, rfl⟩
        obtain ⟨y, hy⟩ : ∃ y, y = m.getD k .zero := ⟨_, rfl⟩
        rw [← hx] at hc1 hX1
        rw [← hy] at hc2 hX2
        have HX := Lib.hid hx
        have HY := Lib.hid hy
        have ha : Below wr.heap.size wr (wr.alloc (.cells #[.int .i64 x.op, .int .i64 x.a, .int .i64 x.b, .int .i64 x.c, .int .i64 x.n, X1] 28)) := (Below.refl wr.heap.size wr).alloc (Nat.le_refl _) _
        have hab : Below wr.heap.size wr ((wr.alloc (.cells #[.int .i64 x.op, .int .i64 x.a, .int .i64 x.b, .int .i64 x.c, .int .i64 x.n, X1] 28)).alloc (.cells #[.int .i64 y.op, .int .i64 y.a, .int .i64 y.b, .int .i64 y.c, .int .i64 y.n, X2] 28)) := ha.alloc ha.size _
        have hwa : Below w.heap.size w (wr.alloc (.cells #[.int .i64 x.op, .int .i64 x.a, .int .i64 x.b, .int .i64 x.c, .int .i64 x.n, X1] 28)) := hb.trans (ha.mono hb.size)
        have hwb := hb.trans (hab.mono hb.size)
        have cc : ∀ j, j < 6 → wr.cell? ⟨b1, o1 + k * 6 + j, none⟩ = some (insCell x X1 j) := fun j hj => (hb.cell (p := ⟨b1, o1 + k * 6 + j, none⟩) hb1).trans (hc1 j hj)
        have dc : ∀ j, j < 6 → (wr.alloc (.cells #[.int .i64 x.op, .int .i64 x.a, .int .i64 x.b, .int .i64 x.c, .int .i64 x.n, X1] 28)).cell? ⟨b2, o2 + k * 6 + j, none⟩ = some (insCell y X2 j) := fun j hj => (hwa.cell (p := ⟨b2, o2 + k * 6 + j, none⟩) hb2).trans (hc2 j hj)
        have c0 : wr.cell? ⟨b1, o1 + k * 6, none⟩ = some (.int .i64 x.op) := cc 0 (by omega)
        have c1 : wr.cell? ⟨b1, o1 + k * 6 + 1, none⟩ = some (.int .i64 x.a) := cc 1 (by omega)
        have c2 : wr.cell? ⟨b1, o1 + k * 6 + 2, none⟩ = some (.int .i64 x.b) := cc 2 (by omega)
        have c3 : wr.cell? ⟨b1, o1 + k * 6 + 3, none⟩ = some (.int .i64 x.c) := cc 3 (by omega)
        have c4 : wr.cell? ⟨b1, o1 + k * 6 + 4, none⟩ = some (.int .i64 x.n) := cc 4 (by omega)
        have c5 : wr.cell? ⟨b1, o1 + k * 6 + 5, none⟩ = some X1 := cc 5 (by omega)
        have d0 : (wr.alloc (.cells #[.int .i64 x.op, .int .i64 x.a, .int .i64 x.b, .int .i64 x.c, .int .i64 x.n, X1] 28)).cell? ⟨b2, o2 + k * 6, none⟩ = some (.int .i64 y.op) := dc 0 (by omega)
        have d1 : (wr.alloc (.cells #[.int .i64 x.op, .int .i64 x.a, .int .i64 x.b, .int .i64 x.c, .int .i64 x.n, X1] 28)).cell? ⟨b2, o2 + k * 6 + 1, none⟩ = some (.int .i64 y.a) := dc 1 (by omega)
        have d2 : (wr.alloc (.cells #[.int .i64 x.op, .int .i64 x.a, .int .i64 x.b, .int .i64 x.c, .int .i64 x.n, X1] 28)).cell? ⟨b2, o2 + k * 6 + 2, none⟩ = some (.int .i64 y.b) := dc 2 (by omega)
        have d3 : (wr.alloc (.cells #[.int .i64 x.op, .int .i64 x.a, .int .i64 x.b, .int .i64 x.c, .int .i64 x.n, X1] 28)).cell? ⟨b2, o2 + k * 6 + 3, none⟩ = some (.int .i64 y.c) := dc 3 (by omega)
        have d4 : (wr.alloc (.cells #[.int .i64 x.op, .int .i64 x.a, .int .i64 x.b, .int .i64 x.c, .int .i64 x.n, X1] 28)).cell? ⟨b2, o2 + k * 6 + 4, none⟩ = some (.int .i64 y.n) := dc 4 (by omega)
        have d5 : (wr.alloc (.cells #[.int .i64 x.op, .int .i64 x.a, .int .i64 x.b, .int .i64 x.c, .int .i64 x.n, X1] 28)).cell? ⟨b2, o2 + k * 6 + 5, none⟩ = some X2 := dc 5 (by omega)
        have k0 : (k : Int) < (n : Int) := by omega
        have k2 : (0 : Int) ≤ (k : Int) := by omega
        have HSm := Lib.hid (same_any x.op x.a x.b x.c x.n X1 x.args y.op y.a y.b y.c y.n X2 y.args _ ((hX1.below hwb (Nat.le_refl _)).more hwb.size) ((hX2.below hwb (Nat.le_refl _)).more hwb.size))
        have HWB := Lib.hid hwb
        obtain ⟨XA, xc, hXe1⟩ := hX1.len
        obtain ⟨YA, yc, hXe2⟩ := hX2.len
        subst hXe1 hXe2
        clear hcl1 hcl2 hX1 hX2 hc1 hc2 cc dc hx hy hb ha hab hwa hwb
        by_cases hxy : x = y
        · have hsv : sameY x y = true := (sameY_iff x y).2 hxy
          change Hid (Calls _ _ _ _ (Makes _ (.bool (sameY x y)))) at HSm
          rw [hsv] at HSm
          have HXY := Lib.hid hxy
          clear hsv hxy
          go_wp2_with (go_at_call 80; (with_reducible refine HSm.out.mono ?_); rintro e w2 ⟨rfl, hb⟩; have HB2 := Lib.hid (HWB.out.trans (hb.mono HWB.out.size)); clear hb)
          go_roundw
          case rel => exact ⟨k + 1, by omega, by go_num, ⟨fun i hi => by
            by_cases e : i < k
            · exact HS.out i e
            · obtain rfl : i = k := by omega
              rw [← HX.out, ← HY.out]
              exact HXY.out, HB2.out⟩⟩
          case measure => simp [intOf]; omega
        · have hsv : sameY x y = false := by
            cases hh : sameY x y
            · rfl
            · exact absurd ((sameY_iff x y).1 hh) hxy
          change Hid (Calls _ _ _ _ (Makes _ (.bool (sameY x y)))) at HSm
          rw [hsv] at HSm
          have HF : Hid (sameCV l m = false) := Lib.hid (by
            cases hh : sameCV l m
            · rfl
            · exact absurd (by rw [HX.out, HY.out, (sameCV_iff l m).1 hh]) hxy)
          clear hsv hxy
          go_wp2_with (go_at_call 80; (with_reducible refine HSm.out.mono ?_); rintro e w2 ⟨rfl, hb⟩; have HB2 := Lib.hid (HWB.out.trans (hb.mono HWB.out.size)); clear hb)
          go_ret
          exact ⟨ret_bool HF.out.symm, HB2.out⟩
      · obtain rfl : k = n := by omega
        have HT : Hid (sameCV l m = true) := Lib.hid ((sameCV_iff l m).2 (list_same .zero (by rw [← HN.out, ← HN2.out]) (by rw [← HN.out]; exact Nat.le_refl _) HS.out))
        clear hb
        go_wp2
        go_ret
        exact ⟨ret_bool HT.out.symm, HB.out⟩
  · have HF : Hid (sameCV l m = false) := Lib.hid (by
      cases hh : sameCV l m
      · rfl
      · exact absurd (by rw [(sameCV_iff l m).1 hh]) hne)
    have hne1 : ¬ (l.length : Int) = (m.length : Int) := by omega
    have hneb : ((l.length : Int) != (m.length : Int)) = true := by simpa using hne1
    clear hV hU hne hne1
    go_enter Tryz.func79, Tryz.ntmps79
    go_wp2
    go_ret
    exact ⟨ret_bool HF.out.symm, Below.refl _ _⟩
set_option maxRecDepth 100000 in
set_option maxHeartbeats 4000000 in
theorem fsame_any (f g : FunV) (C1 C2 : Value) (w : World) (h1 : IsCode w w.heap.size C1 f.code) (h2 : IsCode w w.heap.size C2 g.code) :
    Calls Tryz.prog 46 #[.agg #[.int .i64 f.params, .int .i64 f.regs, .int .i64 f.area, C1], .agg #[.int .i64 g.params, .int .i64 g.regs, .int .i64 g.area, C2]] w (Makes w (.bool (sameFun f g))) := by
  obtain ⟨p, r, a, c⟩ := f
  obtain ⟨p', r', a', c'⟩ := g
  dsimp only at h1 h2 ⊢
  have ha : Below w.heap.size w (w.alloc (.cells #[.int .i64 p, .int .i64 r, .int .i64 a, C1] 82)) := (Below.refl _ w).alloc (Nat.le_refl _) _
  have hab : Below w.heap.size w ((w.alloc (.cells #[.int .i64 p, .int .i64 r, .int .i64 a, C1] 82)).alloc (.cells #[.int .i64 p', .int .i64 r', .int .i64 a', C2] 82)) := ha.alloc ha.size _
  have HB := Lib.hid hab
  have HE := Lib.hid (eqIns_any C1 C2 c c' _ (h1.grow hab) (h2.grow hab))
  have hk1 : ((w.alloc (.cells #[.int .i64 p, .int .i64 r, .int .i64 a, C1] 82)).alloc (.cells #[.int .i64 p', .int .i64 r', .int .i64 a', C2] 82)).heap[w.heap.size]? = some (.cells #[.int .i64 p, .int .i64 r, .int .i64 a, C1] 82 (0, 0)) := by
    rw [Below.heap_alloc _ _ _ (by simp)]
    exact heap_alloc_new _ _
  have hk2 : ((w.alloc (.cells #[.int .i64 p, .int .i64 r, .int .i64 a, C1] 82)).alloc (.cells #[.int .i64 p', .int .i64 r', .int .i64 a', C2] 82)).heap[w.heap.size + 1]? = some (.cells #[.int .i64 p', .int .i64 r', .int .i64 a', C2] 82 (0, 0)) := by
    have := heap_alloc_new (w.alloc (.cells #[.int .i64 p, .int .i64 r, .int .i64 a, C1] 82)) (.cells #[.int .i64 p', .int .i64 r', .int .i64 a', C2] 82)
    rw [World.size_alloc] at this
    exact this
  obtain ⟨c0, c1, c2, c3⟩ := cells4 hk1
  obtain ⟨d0, d1, d2, d3⟩ := cells4 hk2
  obtain ⟨A1, n1, hC1⟩ := h1.len
  obtain ⟨A2, n2, hC2⟩ := h2.len
  subst hC1 hC2
  clear h1 h2 ha hab hk1 hk2
  by_cases h0 : p = p'
  case neg =>
    have HF : Hid (sameFun ⟨p, r, a, c⟩ ⟨p', r', a', c'⟩ = false) := Lib.hid (by unfold sameFun; rw [decide_eq_false (by intro h; first | exact h0 h.1 | exact h0 h.2.1 | exact h0 h.2.2)]; rfl)
    have hb0 : (p == p') = false := by simpa using h0
    go_enter Tryz.func46, Tryz.ntmps46
    go_wp2
    go_ret
    exact ⟨ret_bool HF.out.symm, HB.out⟩
  subst h0
  by_cases h1 : r = r'
  case neg =>
    have HF : Hid (sameFun ⟨p, r, a, c⟩ ⟨p, r', a', c'⟩ = false) := Lib.hid (by unfold sameFun; rw [decide_eq_false (by intro h; first | exact h1 h.1 | exact h1 h.2.1 | exact h1 h.2.2)]; rfl)
    have hb1 : (r == r') = false := by simpa using h1
    go_enter Tryz.func46, Tryz.ntmps46
    go_wp2
    go_ret
    exact ⟨ret_bool HF.out.symm, HB.out⟩
  subst h1
  by_cases h2 : a = a'
  case neg =>
    have HF : Hid (sameFun ⟨p, r, a, c⟩ ⟨p, r, a', c'⟩ = false) := Lib.hid (by unfold sameFun; rw [decide_eq_false (by intro h; first | exact h2 h.1 | exact h2 h.2.1 | exact h2 h.2.2)]; rfl)
    have hb2 : (a == a') = false := by simpa using h2
    go_enter Tryz.func46, Tryz.ntmps46
    go_wp2
    go_ret
    exact ⟨ret_bool HF.out.symm, HB.out⟩
  subst h2
  have HF : Hid (sameFun ⟨p, r, a, c⟩ ⟨p, r, a, c'⟩ = sameCV c c') := Lib.hid (by unfold sameFun; rw [decide_eq_true ⟨rfl, rfl, rfl⟩]; rfl)
  go_enter Tryz.func46, Tryz.ntmps46
  go_wp2_with (go_at_call 79; (with_reducible refine HE.out.mono ?_); rintro e w2 ⟨rfl, hb⟩; have HB2 := Lib.hid (HB.out.trans (hb.mono HB.out.size)); clear hb)
  go_ret
  exact ⟨ret_bool HF.out.symm, HB2.out⟩
set_option maxRecDepth 100000 in
set_option maxHeartbeats 8000000 in
theorem eqFun_any (V U : Value) (l m : List FunV) (w : World) (hV : IsFuns w w.heap.size V l) (hU : IsFuns w w.heap.size U m) : Calls Tryz.prog 44 #[V, U, .func (.func 46) #[] #[]] w (Makes w (.bool (sameFL l m))) := by
  obtain ⟨A, cap, hVe⟩ := hV.len
  obtain ⟨A2, cap2, hUe⟩ := hU.len
  subst hVe hUe
  have hl1 := hV.1
  have hl2 := hU.1
  unfold maxLen at hl1 hl2
  by_cases hne : l.length = m.length
  · obtain ⟨n, hn⟩ : ∃ n, n = l.length := ⟨_, rfl⟩
    have HN := Lib.hid hn
    have HN2 := Lib.hid (hn.trans hne)
    have HV := Lib.hid hV
    have HU := Lib.hid hU
    rw [← hn] at HV hl1 ⊢
    rw [← hne, ← hn] at HU hl2 ⊢
    clear hV hU hne hn hl2
    go_enter Tryz.func44, Tryz.ntmps44
    go_wp2
    go_loopw [17] (fun i wr => ∃ k : Nat, k ≤ n ∧ i = .int .i64 k ∧ Hid ((∀ i, i < k → l.getD i .zero = m.getD i .zero) ∧ Below w.heap.size w wr)) (fun i _ => n - (intOf i).toNat)
    case atStart => exact ⟨0, by omega, rfl, ⟨fun i hi => by omega, Below.refl _ _⟩⟩
    case round =>
      obtain ⟨k, hk, rfl, HR⟩ := hrel
      obtain ⟨hs, hb⟩ := HR.out
      have HS := Lib.hid hs
      have HB := Lib.hid hb
      clear hs HR
      by_cases hlt : k < n
      · obtain ⟨b1, o1, cp1, hVe, _, hb1, hcl1⟩ := HV.out.plain (by rw [← HN.out]; omega)
        obtain ⟨b2, o2, cp2, hUe, _, hb2, hcl2⟩ := HU.out.plain (by rw [← HN2.out]; omega)
        rw [← HN.out] at hVe hcl1
        rw [← HN2.out] at hUe hcl2
        cases hVe
        cases hUe
        obtain ⟨X1, hX1, hc1⟩ := hcl1 k hlt
        obtain ⟨X2, hX2, hc2⟩ := hcl2 k hlt
        obtain ⟨x, hx⟩ : ∃ x, x = l.getD k .zero := ⟨_, rfl⟩
        obtain ⟨y, hy⟩ : ∃ y, y = m.getD k .zero := ⟨_, rfl⟩
        rw [← hx] at hc1 hX1
        rw [← hy] at hc2 hX2
        have HX := Lib.hid hx
        have HY := Lib.hid hy
        have ha : Below wr.heap.size wr (wr.alloc (.cells #[.int .i64 x.params, .int .i64 x.regs, .int .i64 x.area, X1] 82)) := (Below.refl wr.heap.size wr).alloc (Nat.le_refl _) _
        have hab : Below wr.heap.size wr ((wr.alloc (.cells #[.int .i64 x.params, .int .i64 x.regs, .int .i64 x.area, X1] 82)).alloc (.cells #[.int .i64 y.params, .int .i64 y.regs, .int .i64 y.area, X2] 82)) := ha.alloc ha.size _
        have hwa : Below w.heap.size w (wr.alloc (.cells #[.int .i64 x.params, .int .i64 x.regs, .int .i64 x.area, X1] 82)) := hb.trans (ha.mono hb.size)
        have hwb := hb.trans (hab.mono hb.size)
        have cc : ∀ j, j < 4 → wr.cell? ⟨b1, o1 + k * 4 + j, none⟩ = some (funCell x X1 j) := fun j hj => (hb.cell (p := ⟨b1, o1 + k * 4 + j, none⟩) hb1).trans (hc1 j hj)
        have dc : ∀ j, j < 4 → (wr.alloc (.cells #[.int .i64 x.params, .int .i64 x.regs, .int .i64 x.area, X1] 82)).cell? ⟨b2, o2 + k * 4 + j, none⟩ = some (funCell y X2 j) := fun j hj => (hwa.cell (p := ⟨b2, o2 + k * 4 + j, none⟩) hb2).trans (hc2 j hj)
        have c0 : wr.cell? ⟨b1, o1 + k * 4, none⟩ = some (.int .i64 x.params) := cc 0 (by omega)
        have c1 : wr.cell? ⟨b1, o1 + k * 4 + 1, none⟩ = some (.int .i64 x.regs) := cc 1 (by omega)
        have c2 : wr.cell? ⟨b1, o1 + k * 4 + 2, none⟩ = some (.int .i64 x.area) := cc 2 (by omega)
        have c3 : wr.cell? ⟨b1, o1 + k * 4 + 3, none⟩ = some X1 := cc 3 (by omega)
        have d0 : (wr.alloc (.cells #[.int .i64 x.params, .int .i64 x.regs, .int .i64 x.area, X1] 82)).cell? ⟨b2, o2 + k * 4, none⟩ = some (.int .i64 y.params) := dc 0 (by omega)
        have d1 : (wr.alloc (.cells #[.int .i64 x.params, .int .i64 x.regs, .int .i64 x.area, X1] 82)).cell? ⟨b2, o2 + k * 4 + 1, none⟩ = some (.int .i64 y.regs) := dc 1 (by omega)
        have d2 : (wr.alloc (.cells #[.int .i64 x.params, .int .i64 x.regs, .int .i64 x.area, X1] 82)).cell? ⟨b2, o2 + k * 4 + 2, none⟩ = some (.int .i64 y.area) := dc 2 (by omega)
        have d3 : (wr.alloc (.cells #[.int .i64 x.params, .int .i64 x.regs, .int .i64 x.area, X1] 82)).cell? ⟨b2, o2 + k * 4 + 3, none⟩ = some X2 := dc 3 (by omega)
        have k0 : (k : Int) < (n : Int) := by omega
        have k2 : (0 : Int) ≤ (k : Int) := by omega
        have HSm := Lib.hid (fsame_any x y X1 X2 _ ((hX1.below hwb (Nat.le_refl _) (Nat.le_refl _)).more hwb.size) ((hX2.below hwb (Nat.le_refl _) (Nat.le_refl _)).more hwb.size))
        have HWB := Lib.hid hwb
        obtain ⟨XA, xc, hXe1⟩ := hX1.len
        obtain ⟨YA, yc, hXe2⟩ := hX2.len
        subst hXe1 hXe2
        clear hcl1 hcl2 hX1 hX2 hc1 hc2 cc dc hx hy hb ha hab hwa hwb
        by_cases hxy : x = y
        · have hsv : sameFun x y = true := (sameFun_iff x y).2 hxy
          change Hid (Calls _ _ _ _ (Makes _ (.bool (sameFun x y)))) at HSm
          rw [hsv] at HSm
          have HXY := Lib.hid hxy
          clear hsv hxy
          go_wp2_with (go_at_call 46; (with_reducible refine HSm.out.mono ?_); rintro e w2 ⟨rfl, hb⟩; have HB2 := Lib.hid (HWB.out.trans (hb.mono HWB.out.size)); clear hb)
          go_roundw
          case rel => exact ⟨k + 1, by omega, by go_num, ⟨fun i hi => by
            by_cases e : i < k
            · exact HS.out i e
            · obtain rfl : i = k := by omega
              rw [← HX.out, ← HY.out]
              exact HXY.out, HB2.out⟩⟩
          case measure => simp [intOf]; omega
        · have hsv : sameFun x y = false := by
            cases hh : sameFun x y
            · rfl
            · exact absurd ((sameFun_iff x y).1 hh) hxy
          change Hid (Calls _ _ _ _ (Makes _ (.bool (sameFun x y)))) at HSm
          rw [hsv] at HSm
          have HF : Hid (sameFL l m = false) := Lib.hid (by
            cases hh : sameFL l m
            · rfl
            · exact absurd (by rw [HX.out, HY.out, (sameFL_iff l m).1 hh]) hxy)
          clear hsv hxy
          go_wp2_with (go_at_call 46; (with_reducible refine HSm.out.mono ?_); rintro e w2 ⟨rfl, hb⟩; have HB2 := Lib.hid (HWB.out.trans (hb.mono HWB.out.size)); clear hb)
          go_ret
          exact ⟨ret_bool HF.out.symm, HB2.out⟩
      · obtain rfl : k = n := by omega
        have HT : Hid (sameFL l m = true) := Lib.hid ((sameFL_iff l m).2 (list_same .zero (by rw [← HN.out, ← HN2.out]) (by rw [← HN.out]; exact Nat.le_refl _) HS.out))
        clear hb
        go_wp2
        go_ret
        exact ⟨ret_bool HT.out.symm, HB.out⟩
  · have HF : Hid (sameFL l m = false) := Lib.hid (by
      cases hh : sameFL l m
      · rfl
      · exact absurd (by rw [(sameFL_iff l m).1 hh]) hne)
    have hne1 : ¬ (l.length : Int) = (m.length : Int) := by omega
    have hneb : ((l.length : Int) != (m.length : Int)) = true := by simpa using hne1
    clear hV hU hne hne1
    go_enter Tryz.func44, Tryz.ntmps44
    go_wp2
    go_ret
    exact ⟨ret_bool HF.out.symm, Below.refl _ _⟩
end Go.Proofs.YtohlifeenhaifaaGreatDoor

/- (Mod08G) The landed module.Same: whether two modules are equal. Contract; no condition but that they lie in memory and have at most 100,000 functions. -/
namespace Go.Proofs.YtohlifeenhaifaaGreatDoor
open Go.RowKit Go.Shelf
set_option linter.unusedVariables false
set_option linter.unusedSimpArgs false

def sameM (m k : ModV) : Bool := (m.data == k.data) && sameFL m.funcs k.funcs
theorem sameM_iff (m k : ModV) : sameM m k = true ↔ m = k := by
  unfold sameM
  rw [Bool.and_eq_true, beq_iff_eq, sameFL_iff]
  constructor
  · rintro ⟨h1, h2⟩
    cases m
    cases k
    simp_all
  · rintro rfl
    exact ⟨rfl, rfl⟩
theorem sameM_refl (m : ModV) : sameM m m = true := (sameM_iff m m).2 rfl
/-- Two modules' boxes. -/
structure TwoM (w W : World) (D F D' F' : Value) : Prop where
  one : W.heap[w.heap.size]? = some (.cells #[D, F] 25 (0, 0))
  two : W.heap[w.heap.size + 1]? = some (.cells #[D', F'] 25 (0, 0))
  bel : Below w.heap.size w W
theorem TwoM.grow {w W W' : World} {D F D' F' : Value} (h : TwoM w W D F D' F') (hb : Below W.heap.size W W') : TwoM w W' D F D' F' :=
  ⟨box_below h.one hb, box_below h.two hb, h.bel.trans (hb.mono h.bel.size)⟩
theorem TwoM.drew {w W : World} {D F D' F' : Value} (h : TwoM w W D F D' F') : TwoM w W.drew D F D' F' := ⟨h.one, h.two, h.bel.drew⟩
theorem twoM_new (w : World) (D F D' F' : Value) : TwoM w ((w.alloc (.cells #[D, F] 25)).alloc (.cells #[D', F'] 25)) D F D' F' := by
  refine ⟨?_, ?_, ((Below.refl _ w).alloc (Nat.le_refl _) _).alloc (by simp) _⟩
  · rw [Below.heap_alloc _ _ _ (by simp)]
    exact heap_alloc_new _ _
  · have := heap_alloc_new (w.alloc (.cells #[D, F] 25)) (.cells #[D', F'] 25)
    rw [World.size_alloc] at this
    exact this
theorem TwoM.cells {w W : World} {D F D' F' : Value} (h : TwoM w W D F D' F') : W.cell? ⟨w.heap.size, 0, none⟩ = some D ∧ W.cell? ⟨w.heap.size, 1, none⟩ = some F ∧ W.cell? ⟨w.heap.size + 1, 0, none⟩ = some D' ∧ W.cell? ⟨w.heap.size + 1, 1, none⟩ = some F' :=
  ⟨(cells2 h.one).1, (cells2 h.one).2, (cells2 h.two).1, (cells2 h.two).2⟩
theorem IsBytes.drewN {w : World} {X : Value} {xs : List Int} (h : IsBytes w w.heap.size X xs) (n : Nat) : IsBytes (w.drewN n) w.heap.size X xs := h.below (below_drewN (Below.refl _ w) n) (Nat.le_refl _)
set_option maxRecDepth 100000 in
set_option maxHeartbeats 8000000 in
theorem same8_any (D F D' F' : Value) (data data' : List Int) (fs fs' : List FunV) (w : World) (hD : IsBytes w w.heap.size D data) (hF : IsFuns w w.heap.size F fs) (hD' : IsBytes w w.heap.size D' data') (hF' : IsFuns w w.heap.size F' fs') (hs : fs.length ≤ 100000) (hs' : fs'.length ≤ 100000) :
    Calls Tryz.prog 21 #[.agg #[D, F], .agg #[D', F']] w (Makes w (.bool (sameM ⟨data, fs⟩ ⟨data', fs'⟩))) := by
  have hT := twoM_new w D F D' F'
  have HT := Lib.hid hT
  have HDw := Lib.hid (fun W (hb : Below w.heap.size w W) => hD.grow hb)
  have HDw' := Lib.hid (fun W (hb : Below w.heap.size w W) => hD'.grow hb)
  have HEq := Lib.hid (fun W (hb : Below w.heap.size w W) => equalB_any D D' data data' W _ _ (hD.grow hb) (hD'.grow hb))
  obtain ⟨DA, dc, hDe⟩ := hD.len
  obtain ⟨FA, fc, hFe⟩ := hF.len
  obtain ⟨DA', dc', hDe'⟩ := hD'.len
  obtain ⟨FA', fc', hFe'⟩ := hF'.len
  subst hDe hFe hDe' hFe'
  obtain ⟨c0, c1, c2, c3⟩ := hT.cells
  cases he : data == data'
  · have HEq2 := Lib.hid (fun n => HEq.out (((w.alloc (.cells #[.slice DA data.length dc, .slice FA fs.length fc] 25)).alloc (.cells #[.slice DA' data'.length dc', .slice FA' fs'.length fc'] 25)).drewN n) (below_drewN HT.out.bel n))
    rw [he] at HEq2
    have HF0 : Hid (sameM ⟨data, fs⟩ ⟨data', fs'⟩ = false) := Lib.hid (by unfold sameM; rw [he]; rfl)
    clear hD hF hD' hF' hT he
    go_enter Tryz.func21, Tryz.ntmps21
    go_wp2
    go_quiet ((go_at_call 43; with_reducible exact quiet_same (HEq2.out _)))
    go_wp2
    go_ret
    exact ⟨ret_bool HF0.out.symm, below_drewN HT.out.bel _⟩
  · rw [he] at HEq
    have HF0 : Hid (sameM ⟨data, fs⟩ ⟨data', fs'⟩ = sameFL fs fs') := Lib.hid (by unfold sameM; rw [he]; rfl)
    have HFu := Lib.hid (fun W (hb : Below w.heap.size w W) => functions_any DA data.length dc (.slice FA fs.length fc) fs W (hF.grow hb) hs)
    have HFu' := Lib.hid (fun W (hb : Below w.heap.size w W) => functions_any DA' data'.length dc' (.slice FA' fs'.length fc') fs' W (hF'.grow hb) hs')
    have HS1 := Lib.hid hs
    have HS2 := Lib.hid hs'
    clear hD hF hD' hF' hT he hs hs'
    go_enter Tryz.func21, Tryz.ntmps21
    go_wp2
    go_region_held3 (fun W => W.cell? ⟨w.heap.size, 0, none⟩ = some (.slice DA data.length dc) ∧ W.cell? ⟨w.heap.size, 1, none⟩ = some (.slice FA fs.length fc) ∧ W.cell? ⟨w.heap.size + 1, 0, none⟩ = some (.slice DA' data'.length dc') ∧ W.cell? ⟨w.heap.size + 1, 1, none⟩ = some (.slice FA' fs'.length fc'))
      (first | with_reducible exact HT5.out.cells | with_reducible exact HT4.out.cells | with_reducible exact HT3.out.cells | go_keep)
      (first
        | (go_at_call 43; (with_reducible refine (HEq.out _ HT.out.drew.bel).mono ?_); rintro e w2 ⟨rfl, rfl⟩)
        | (go_at_call 45; (with_reducible refine (HFu.out _ HT.out.drew.bel).mono ?_); rintro e w3 ⟨V3, Cs3, rfl, ho, hb⟩; have HT3 := Lib.hid (HT.out.drew.grow hb); obtain ⟨oA, oc, hoe⟩ := owns_len ho.own; subst hoe; have HR3 := Lib.hid (ho.funs (by have := HS1.out; omega)); clear ho hb)
        | (go_at_call 45; (with_reducible refine (HFu'.out _ HT3.out.bel).mono ?_); rintro e w4 ⟨V4, Cs4, rfl, ho, hb⟩; have HT4 := Lib.hid (HT3.out.grow hb); obtain ⟨pA, pc, hpe⟩ := owns_len ho.own; subst hpe; have HR4 := Lib.hid (ho.funs (by have := HS2.out; omega)); have HQ4 := Lib.hid (HR3.out.grow hb); clear ho hb)
        | (go_at_call 44; (with_reducible refine (eqFun_any _ _ fs fs' _ HQ4.out HR4.out).mono ?_); rintro e w5 ⟨rfl, hb⟩; have HT5 := Lib.hid (HT4.out.grow hb); clear hb))
    all_goals
      go_wp2
      go_ret
      exact ⟨ret_bool HF0.out.symm, HT5.out.bel⟩
end Go.Proofs.YtohlifeenhaifaaGreatDoor
