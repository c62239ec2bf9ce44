/- The landed Check, Same, Begins. Contracts; no condition but that the outcomes lie in memory. -/
import Derived.Test.YtkfdgpgildanbaaGreatDeed14I
namespace Go.Proofs.YtkfdgpgildanbaaGreat
open Go.RowKit
set_option linter.unusedVariables false
set_option linter.unusedSimpArgs false

def errO (L : List (Int × Int)) (k c : Int) : Int := if okO L k c = true then 0 else 2
theorem check14 (V : Value) (L : List (Int × Int)) (k c : Int) (w : World) (hV : IsDeeds w w.heap.size V L) :
    Calls Tryz.prog 83 #[.agg #[V, .int .i64 k, .int .i64 c]] w (Makes w (.int .i64 (errO L k c))) := by
  obtain ⟨A, cap, rfl, hc⟩ := hV.len
  have HB := Lib.hid (below_one14 w (.cells #[.slice A L.length cap, .int .i64 k, .int .i64 c] 93))
  have HX : Hid (∀ W, Below (w.alloc (.cells #[.slice A L.length cap, .int .i64 k, .int .i64 c] 93)).heap.size (w.alloc (.cells #[.slice A L.length cap, .int .i64 k, .int .i64 c] 93)) W → W.cell? ⟨w.heap.size, 0, none⟩ = some (.slice A L.length cap) ∧ W.cell? ⟨w.heap.size, 1, none⟩ = some (.int .i64 k) ∧ W.cell? ⟨w.heap.size, 2, none⟩ = some (.int .i64 c)) := Lib.hid (fun W hb => cells3_14 (box_below14 (heap_alloc_new w _) hb))
  have HV : Hid (∀ W, Below (w.alloc (.cells #[.slice A L.length cap, .int .i64 k, .int .i64 c] 93)).heap.size (w.alloc (.cells #[.slice A L.length cap, .int .i64 k, .int .i64 c] 93)) W → Calls Tryz.prog 148 #[.slice A L.length cap] W (Makes W (.bool (goodL false L)))) := Lib.hid (fun W hb => recValid14 _ L W ((hV.grow (below_one14 w _)).grow hb))
  have HE := Lib.hid (fun W => endingValid14 k c W)
  obtain ⟨x0, x1, x2⟩ := HX.out _ (Below.refl _ _)
  have hlI := hV.1
  unfold maxLen at hlI
  obtain ⟨q, hq⟩ : ∃ q : Bool, q = decide (L.length ≤ 100000) := ⟨_, rfl⟩
  have HQ : Hid (errO L k c = if (q && okE k c && goodL false L) = true then 0 else 2) := Lib.hid (by unfold errO okO; rw [hq])
  rw [HQ.out]
  clear hV hc
  generalize L.length = n at *
  generalize okE k c = ek at *
  generalize goodL false L = gl at *
  cases q
  · have hI : decide ((100000 : Int) < (n : Int)) = true := decide_eq_true (by have := of_decide_eq_false hq.symm; omega)
    clear hq HQ
    go_enter Tryz.func83, Tryz.ntmps83
    go_wp2
    go_ret
    exact ⟨rfl, HB.out⟩
  · have hI : decide ((100000 : Int) < (n : Int)) = false := decide_eq_false (by have := of_decide_eq_true hq.symm; omega)
    clear hq HQ
    cases ek
    · go_enter Tryz.func83, Tryz.ntmps83
      go_wp2_with (go_at_call 147; (with_reducible refine (HE.out _).mono ?_); rintro e w1 ⟨rfl, hb⟩; have HB1 := Lib.hid hb; obtain ⟨y0, y1, y2⟩ := HX.out _ hb; clear hb)
      go_ret
      exact ⟨rfl, HB.out.trans (HB1.out.mono HB.out.size)⟩
    · go_enter Tryz.func83, Tryz.ntmps83
      cases gl
      · go_wp2_with (first
          | (go_at_call 147; (with_reducible refine (HE.out _).mono ?_); rintro e w1 ⟨rfl, hb⟩; have HB1 := Lib.hid hb; obtain ⟨y0, y1, y2⟩ := HX.out _ hb; clear hb)
          | (go_at_call 148; (with_reducible refine (HV.out _ HB1.out).mono ?_); rintro e w2 ⟨rfl, hb⟩; have HB2 := Lib.hid (HB1.out.trans (hb.mono HB1.out.size)); clear hb))
        go_ret
        exact ⟨rfl, HB.out.trans (HB2.out.mono HB.out.size)⟩
      · go_wp2_with (first
          | (go_at_call 147; (with_reducible refine (HE.out _).mono ?_); rintro e w1 ⟨rfl, hb⟩; have HB1 := Lib.hid hb; obtain ⟨y0, y1, y2⟩ := HX.out _ hb; clear hb)
          | (go_at_call 148; (with_reducible refine (HV.out _ HB1.out).mono ?_); rintro e w2 ⟨rfl, hb⟩; have HB2 := Lib.hid (HB1.out.trans (hb.mono HB1.out.size)); clear hb))
        go_ret
        exact ⟨rfl, HB.out.trans (HB2.out.mono HB.out.size)⟩
/-- Are two outcomes the same? -/
def sameO (L : List (Int × Int)) (k c : Int) (M : List (Int × Int)) (k' c' : Int) : Bool := (k == k' && c == c') && L == M
theorem eqlE_same (w : World) (a b : Int) : (binOp .eql 45 (.agg #[.int .i64 a, .int .i64 b]) (.agg #[.int .i64 a, .int .i64 b])).run Tryz.prog w = .ok (.bool true) w := by go_simp
theorem eqlE_diff (w : World) (a b c d : Int) (h : ¬ (a = c ∧ b = d)) : (binOp .eql 45 (.agg #[.int .i64 a, .int .i64 b]) (.agg #[.int .i64 c, .int .i64 d])).run Tryz.prog w = .ok (.bool false) w := by
  by_cases h0 : a = c
  · subst h0
    have h1 : (b == d) = false := by simpa using fun e => h ⟨rfl, e⟩
    go_simp
  · have h1 : (a == c) = false := by simpa using h0
    go_simp
theorem two_alloc14 (w : World) (c d : Array Value) (t u : TypeId) : Below w.heap.size w ((w.alloc (.cells c t)).alloc (.cells d u)) ∧ ((w.alloc (.cells c t)).alloc (.cells d u)).heap[w.heap.size]? = some (.cells c t (0, 0)) ∧ ((w.alloc (.cells c t)).alloc (.cells d u)).heap[w.heap.size + 1]? = some (.cells d u (0, 0)) := by
  refine ⟨((Below.refl _ w).alloc (Nat.le_refl _) _).alloc (by simp) _, ?_, ?_⟩
  · rw [Below.heap_alloc _ _ _ (by simp)]
    exact heap_alloc_new _ _
  · have := heap_alloc_new (w.alloc (.cells c t)) (.cells d u)
    rw [World.size_alloc] at this
    exact this
set_option maxRecDepth 100000 in
set_option maxHeartbeats 4000000 in
theorem same14 (V V' : Value) (L M : List (Int × Int)) (k c k' c' : Int) (w : World) (hV : IsDeeds w w.heap.size V L) (hV' : IsDeeds w w.heap.size V' M) :
    Calls Tryz.prog 76 #[.agg #[V, .int .i64 k, .int .i64 c], .agg #[V', .int .i64 k', .int .i64 c']] w (Makes w (.bool (sameO L k c M k' c'))) := by
  obtain ⟨A, cap, rfl, hc⟩ := hV.len
  obtain ⟨A', cap', rfl, hc'⟩ := hV'.len
  obtain ⟨hB, h0, h1⟩ := two_alloc14 w #[.slice A L.length cap, .int .i64 k, .int .i64 c] #[.slice A' M.length cap', .int .i64 k', .int .i64 c'] 93 93
  obtain ⟨x0, x1, x2⟩ := cells3_14 h0
  obtain ⟨y0, y1, y2⟩ := cells3_14 h1
  have HB := Lib.hid hB
  have HE := Lib.hid (equalD _ _ L M _ _ _ (hV.grow hB) (hV'.grow hB))
  clear hV hV' hc hc' h0 h1 hB
  by_cases he : k = k' ∧ c = c'
  · have HQ : Hid (sameO L k c M k' c' = (L == M)) := Lib.hid (by unfold sameO; rw [he.1, he.2]; simp)
    rw [HQ.out]
    obtain ⟨rfl, rfl⟩ := he
    have hq := fun w => eqlE_same w k c
    clear HQ
    generalize (L == M) = b at *
    go_enter Tryz.func76, Tryz.ntmps76
    go_wp2_with (go_at_call 140; (with_reducible refine HE.out.mono ?_); rintro e w1 ⟨rfl, hw⟩; have HW := Lib.hid hw; clear hw)
    go_ret
    obtain ⟨q, rfl⟩ := HW.out
    exact ⟨rfl, below_drewN HB.out q⟩
  · have HQ : Hid (sameO L k c M k' c' = false) := Lib.hid (by
      unfold sameO
      have : (k == k' && c == c') = false := by
        rw [Bool.eq_false_iff]
        intro h
        simp at h
        exact he h
      rw [this]; rfl)
    rw [HQ.out]
    have hq := fun w => eqlE_diff w k c k' c' he
    clear HQ he HE
    go_enter Tryz.func76, Tryz.ntmps76
    go_wp2
    go_ret
    exact ⟨rfl, HB.out⟩
/-- Do deeds begin others? -/
def beginsO (L M : List (Int × Int)) : Bool := decide (L.length ≤ M.length) && L == M.take L.length
theorem slice_to14 (A : Option Addr) (n cap k : Nat) (hk : k ≤ n) (hc : n ≤ cap) : ∀ W, (Instr.slice 91 (.slice A n cap) none (some (.int .i64 k)) none).run Tryz.prog W = .ok (.slice A k cap) W := by
  intro W
  have h1 : k ≤ cap := by omega
  have h2 : Option.map (fun x : Addr => x.add 0) A = A := by
    cases A with
    | none => rfl
    | some a => simp [Addr.add]
  simp [go_sem, Tryz.underlying91, Tryz.sizeOf182, h1, h2]
end Go.Proofs.YtkfdgpgildanbaaGreat
