import Derived.Test.YtkfdgpgildanbaaGreatS08
import Derived.StillTailTactics
import Derived.BigQuiet
import Derived.Deep.QuietTactic
import Derived.Test.YtkfdgpgildanbaaGreatS05
import Derived.Deep.Slices
namespace Go.Proofs.YtkfdgpgildanbaaGreat
open Go.RowKit Go.Shelf
set_option linter.unusedVariables false
set_option linter.unusedSimpArgs false
def sameY (x y : InsV) : Bool := sameV x.op x.a x.b x.c x.n x.args y.op y.a y.b y.c y.n y.args
theorem sameY_iff (x y : InsV) : sameY x y = true ↔ x = y := by
  unfold sameY sameV
  rw [decide_eq_true_iff]
  constructor
  · rintro ⟨h1, h2, h3, h4, h5, h6⟩
    cases x
    cases y
    simp_all
  · rintro rfl
    exact ⟨rfl, rfl, rfl, rfl, rfl, rfl⟩
def sameCV : List InsV → List InsV → Bool
  | [], [] => true
  | x :: l, y :: k => sameY x y && sameCV l k
  | _, _ => false
theorem sameCV_iff : ∀ (l k : List InsV), sameCV l k = true ↔ l = k
  | [], [] => by simp [sameCV]
  | [], y :: k => by simp [sameCV]
  | x :: l, [] => by simp [sameCV]
  | x :: l, y :: k => by simp [sameCV, sameY_iff, sameCV_iff l k]
theorem sameCV_false {l k : List InsV} (h : l ≠ k) : sameCV l k = false := by
  cases hh : sameCV l k
  · rfl
  · exact absurd ((sameCV_iff l k).1 hh) h
theorem take_same {l m : List InsV} {k : Nat} (hl : l.length = m.length) (hk : l.length ≤ k) (h : ∀ i, i < k → l.getD i .zero = m.getD i .zero) : l = m := by
  refine List.ext_getElem hl fun i h1 h2 => ?_
  have := h i (by omega)
  simpa [List.getD, List.getElem?_eq_getElem h1, List.getElem?_eq_getElem h2] using this
set_option maxRecDepth 100000 in
set_option maxHeartbeats 4000000 in
theorem sameCode_any (V U : Value) (l m : List InsV) (w : World) (hV : IsCode w w.heap.size V l) (hU : IsCode w w.heap.size U m) : Calls Tryz.prog 67 #[V, U] w (Makes w (.bool (sameCV l m))) := by
  obtain ⟨A, cap, rfl⟩ := hV.len
  obtain ⟨A2, cap2, rfl⟩ := hU.len
  have hl1 := hV.1
  have hl2 := hU.1
  unfold maxLen at hl1 hl2
  by_cases hne : l.length = m.length
  · obtain ⟨n, hn⟩ : ∃ n, n = l.length := ⟨_, rfl⟩
    have HN := Lib.hid hn
    have HN2 := Lib.hid (hn.trans hne)
    have HV := Lib.hid hV
    have HU := Lib.hid hU
    rw [← hn] at HV hl1 ⊢
    rw [← hne, ← hn] at HU hl2 ⊢
    clear hV hU hne hn hl2
    go_enter Tryz.func67, Tryz.ntmps67
    go_wp2
    go_loopw [5] (fun i wr => ∃ k : Nat, k ≤ n ∧ i = .int .i64 k ∧ Hid ((∀ i, i < k → l.getD i .zero = m.getD i .zero) ∧ Below w.heap.size w wr)) (fun i _ => n - (intOf i).toNat)
    case atStart => exact ⟨0, by omega, rfl, ⟨fun i hi => by omega, Below.refl _ _⟩⟩
    case round =>
      obtain ⟨k, hk, rfl, HR⟩ := hrel
      obtain ⟨hs, hb⟩ := HR.out
      have HS := Lib.hid hs
      have HB := Lib.hid hb
      clear hs HR
      by_cases hlt : k < n
      · obtain ⟨b1, o1, cp1, hV, _, hb1, hcl1⟩ := HV.out.plain (by rw [← HN.out]; omega)
        obtain ⟨b2, o2, cp2, hU, _, hb2, hcl2⟩ := HU.out.plain (by rw [← HN2.out]; omega)
        rw [← HN.out] at hV hcl1
        rw [← HN2.out] at hU hcl2
        cases hV
        cases hU
        obtain ⟨X1, hX1, hc1⟩ := hcl1 k hlt
        obtain ⟨X2, hX2, hc2⟩ := hcl2 k hlt
        have hc1' : ∀ j, j < 6 → wr.cell? ⟨b1, o1 + k * 6 + j, none⟩ = some (insCell (l.getD k .zero) X1 j) := fun j hj => (hb.cell (p := ⟨b1, o1 + k * 6 + j, none⟩) hb1).trans (hc1 j hj)
        have hc2' : ∀ j, j < 6 → wr.cell? ⟨b2, o2 + k * 6 + j, none⟩ = some (insCell (m.getD k .zero) X2 j) := fun j hj => (hb.cell (p := ⟨b2, o2 + k * 6 + j, none⟩) hb2).trans (hc2 j hj)
        have hXa := (hX1.below hb (Nat.le_refl _)).more hb.size
        have hXb := (hX2.below hb (Nat.le_refl _)).more hb.size
        obtain ⟨x, hx⟩ : ∃ x, x = l.getD k .zero := ⟨_, rfl⟩
        obtain ⟨y, hy⟩ : ∃ y, y = m.getD k .zero := ⟨_, rfl⟩
        rw [← hx] at hc1' hXa
        rw [← hy] at hc2' hXb
        have HX := Lib.hid hx
        have HY := Lib.hid hy
        have c0 : wr.cell? ⟨b1, o1 + k * 6, none⟩ = some (.int .i64 x.op) := hc1' 0 (by omega)
        have c1 : wr.cell? ⟨b1, o1 + k * 6 + 1, none⟩ = some (.int .i64 x.a) := hc1' 1 (by omega)
        have c2 : wr.cell? ⟨b1, o1 + k * 6 + 2, none⟩ = some (.int .i64 x.b) := hc1' 2 (by omega)
        have c3 : wr.cell? ⟨b1, o1 + k * 6 + 3, none⟩ = some (.int .i64 x.c) := hc1' 3 (by omega)
        have c4 : wr.cell? ⟨b1, o1 + k * 6 + 4, none⟩ = some (.int .i64 x.n) := hc1' 4 (by omega)
        have c5 : wr.cell? ⟨b1, o1 + k * 6 + 5, none⟩ = some X1 := hc1' 5 (by omega)
        have d0 : wr.cell? ⟨b2, o2 + k * 6, none⟩ = some (.int .i64 y.op) := hc2' 0 (by omega)
        have d1 : wr.cell? ⟨b2, o2 + k * 6 + 1, none⟩ = some (.int .i64 y.a) := hc2' 1 (by omega)
        have d2 : wr.cell? ⟨b2, o2 + k * 6 + 2, none⟩ = some (.int .i64 y.b) := hc2' 2 (by omega)
        have d3 : wr.cell? ⟨b2, o2 + k * 6 + 3, none⟩ = some (.int .i64 y.c) := hc2' 3 (by omega)
        have d4 : wr.cell? ⟨b2, o2 + k * 6 + 4, none⟩ = some (.int .i64 y.n) := hc2' 4 (by omega)
        have d5 : wr.cell? ⟨b2, o2 + k * 6 + 5, none⟩ = some X2 := hc2' 5 (by omega)
        have k0 : (k : Int) < (n : Int) := by omega
        have HSm := Lib.hid (sameIns_any x.op x.a x.b x.c x.n X1 x.args y.op y.a y.b y.c y.n X2 y.args (wr.drewN 1) (nums_drew hXa) (nums_drew hXb))
        obtain ⟨XA, xc, rfl⟩ := hXa.len
        obtain ⟨YA, yc, rfl⟩ := hXb.len
        clear hcl1 hcl2 hX1 hX2 hc1 hc2 hc1' hc2' hXa hXb hx hy hb
        by_cases hxy : x = y
        · have hsv : sameV x.op x.a x.b x.c x.n x.args y.op y.a y.b y.c y.n y.args = true := (sameY_iff x y).2 hxy
          rw [hsv] at HSm
          have HXY := Lib.hid hxy
          clear hsv hxy
          go_wp2
          go_still_tail 8, (by kernel_rfl)
          go_wp2_with (go_at_call 130; refine HSm.out.mono ?_; rintro e w2 ⟨rfl, hb⟩; have HB2 := Lib.hid ((below_drewN HB.out 1).trans (hb.mono (by have := HB.out.size; exact this))); clear hb)
          go_roundw
          case rel => exact ⟨k + 1, by omega, by go_num, ⟨fun i hi => by
            by_cases e : i < k
            · exact HS.out i e
            · obtain rfl : i = k := by omega
              rw [← HX.out, ← HY.out]
              exact HXY.out, HB2.out⟩⟩
          case measure => simp [intOf]; omega
        · have hsv : sameV x.op x.a x.b x.c x.n x.args y.op y.a y.b y.c y.n y.args = false := by
            cases hh : sameV x.op x.a x.b x.c x.n x.args y.op y.a y.b y.c y.n y.args
            · rfl
            · exact absurd ((sameY_iff x y).1 hh) hxy
          rw [hsv] at HSm
          have HF : Hid (sameCV l m = false) := Lib.hid (sameCV_false (fun e => hxy (by rw [HX.out, HY.out, e])))
          clear hsv hxy
          go_wp2
          go_still_tail 8, (by kernel_rfl)
          go_wp2_with (go_at_call 130; refine HSm.out.mono ?_; rintro e w2 ⟨rfl, hb⟩; have HB2 := Lib.hid ((below_drewN HB.out 1).trans (hb.mono (by have := HB.out.size; exact this))); clear hb)
          go_ret
          exact ⟨ret_bool HF.out.symm, HB2.out⟩
      · obtain rfl : k = n := by omega
        have HT : Hid (sameCV l m = true) := Lib.hid ((sameCV_iff l m).2 (take_same (by rw [← HN.out, ← HN2.out]) (by rw [← HN.out]; exact Nat.le_refl _) HS.out))
        clear hb
        go_wp2
        go_ret
        exact ⟨ret_bool HT.out.symm, HB.out⟩
  · have HF : Hid (sameCV l m = false) := Lib.hid (sameCV_false (fun e => hne (by rw [e])))
    have hne1 : ¬ (l.length : Int) = (m.length : Int) := by omega
    have hneb : ((l.length : Int) != (m.length : Int)) = true := by simpa using hne1
    clear hV hU hne hne1
    go_enter Tryz.func67, Tryz.ntmps67
    go_wp2
    go_ret
    exact ⟨ret_bool HF.out.symm, Below.refl _ _⟩
end Go.Proofs.YtkfdgpgildanbaaGreat
namespace Go.Proofs.YtkfdgpgildanbaaGreat
open Go.RowKit Go.Shelf
set_option linter.unusedVariables false
set_option linter.unusedSimpArgs false
end Go.Proofs.YtkfdgpgildanbaaGreat
namespace Go.Proofs.YtkfdgpgildanbaaGreat
open Go.RowKit Go.Shelf
set_option linter.unusedVariables false
set_option linter.unusedSimpArgs false
end Go.Proofs.YtkfdgpgildanbaaGreat
namespace Go.Proofs.YtkfdgpgildanbaaGreat
open Go.RowKit Go.Shelf
set_option linter.unusedVariables false
set_option linter.unusedSimpArgs false
end Go.Proofs.YtkfdgpgildanbaaGreat
namespace Go.Proofs.YtkfdgpgildanbaaGreat
open Go.RowKit Go.ChangeShapes Go.WideShapes
set_option linter.unusedVariables false
theorem list_of7 {α : Type} {n : Nat} (d : α) {Q : Nat → α → Prop} (h : ∀ i, i < n → ∃ A, Q i A) : ∃ l : List α, l.length = n ∧ ∀ i, i < n → Q i (l.getD i d) := by
  induction n with
  | zero => exact ⟨[], rfl, fun i hi => by omega⟩
  | succ n ih =>
    obtain ⟨l, hl, hq⟩ := ih (fun i hi => h i (by omega))
    obtain ⟨A, hA⟩ := h n (by omega)
    refine ⟨l ++ [A], by simp [hl], fun i hi => ?_⟩
    by_cases e : i < n
    · have : (l ++ [A]).getD i d = l.getD i d := by simp [List.getD, List.getElem?_append_left (by omega : i < l.length)]
      rw [this]
      exact hq i e
    · obtain rfl : i = n := by omega
      have : (l ++ [A]).getD i d = A := by simp [List.getD, ← hl]
      rw [this]
      exact hA
theorem add_twice7 (a : Addr) (h : a.spot = none) (i j : Nat) : (a.add i).add j = ⟨a.block, a.off + i + j, none⟩ := by
  obtain ⟨b, o, s⟩ := a
  simp only at h
  subst h
  unfold Addr.add
  split <;> split <;> simp_all [Nat.add_assoc]
section
variable {H : Type} {enc : TypeId × Value → H} {w : World}
set_option maxRecDepth 100000 in
theorem open_code {fuel : Nat} {V : Value} {x : DataW H × List MemPlace} (h : DataW.trod enc Tryz.prog w 0 (fun _ => true) true fuel 110 [V] = some x) : ∃ l, IsCode w w.heap.size V l := by
  have hC : Tryz.prog.cellsOf 115 = 6 := by kernel_rfl
  rcases Go.Deep.open_slice Tryz.underlying110 h with ⟨hcs, _⟩ | ⟨a, len, cap, m, n, D, Pl, hcs, _, hl, hm, hmm, _, hi⟩
  · injection hcs with hcs _
    subst hcs
    exact ⟨[], by simp, by simp, .inl ⟨rfl, none, 0, rfl⟩⟩
  · injection hcs with hcs _
    subst hcs
    obtain rfl : m = cap := by simpa using hmm
    by_cases h0 : len = 0
    · subst h0
      exact ⟨[], by simp, by simp, .inl ⟨rfl, some a, m, rfl⟩⟩
    have hs : a.spot = none := by
      obtain ⟨cs', hc, ht⟩ := hi 0 (by omega)
      obtain ⟨_, hlen, hcell⟩ := World.cells?_some hc
      rw [hC] at hcell hlen
      have h1 := hcell 0 (by omega)
      have e : a.add (0 * 6) = a := by simp [Addr.add]
      rw [e] at h1
      have e2 : a.add 0 = a := by simp [Addr.add]
      rw [e2, List.getElem?_eq_getElem (by omega)] at h1
      exact World.cell?_spot h1
    have hb : a.block < w.heap.size := by
      obtain ⟨cs', hc, ht⟩ := hi 0 (by omega)
      obtain ⟨_, hlen, hcell⟩ := World.cells?_some hc
      rw [hC] at hcell hlen
      have h1 := hcell 0 (by omega)
      rw [List.getElem?_eq_getElem (by omega), add_twice7 a hs] at h1
      exact block_lt_of_cell (a := ⟨a.block, _, none⟩) h1
    have hq : ∀ i, i < len → ∃ y : InsV, InsB y ∧ ∃ X, IsNums .i64 w w.heap.size X y.args ∧ ∀ j, j < 6 → w.cell? ⟨a.block, a.off + i * 6 + j, none⟩ = some (insCell y X j) := by
      intro i hil
      obtain ⟨cs', hc, ht⟩ := hi i (by omega)
      obtain ⟨op, a1, b1, c1, n1, X, args, rfl, hX, hin⟩ := open_ins ht
      obtain ⟨_, hlen, hcell⟩ := World.cells?_some hc
      refine ⟨⟨op, a1, b1, c1, n1, args⟩, ⟨hin.op, hin.a, hin.b, hin.c, hin.n⟩, X, hX, fun j hj => ?_⟩
      have h1 := hcell j (by rw [hC]; exact hj)
      rw [hC, add_twice7 a hs] at h1
      rw [h1]
      exact insList_at ⟨op, a1, b1, c1, n1, args⟩ X hj
    obtain ⟨l, hll, hlq⟩ := list_of7 .zero hq
    refine ⟨l, by omega, fun y hy => ?_, .inr ⟨a.block, a.off, m, ?_, by omega, hb, fun i hi => (hlq i (by omega)).2⟩⟩
    · obtain ⟨i, hi, rfl⟩ := List.getElem_of_mem hy
      have := (hlq i (by omega)).1
      simpa [List.getD, List.getElem?_eq_getElem hi] using this
    · rw [hll]
      obtain ⟨b, o, s⟩ := a
      simp only at hs
      subst hs
      rfl
end
end Go.Proofs.YtkfdgpgildanbaaGreat
