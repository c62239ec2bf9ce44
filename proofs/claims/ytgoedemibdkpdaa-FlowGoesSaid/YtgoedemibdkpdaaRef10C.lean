/- The document's own Next and Reached of layer 10. Contracts; no condition but that the instructions are few. -/
import Derived.Test.YtgoedemibdkpdaaRef10B
import Derived.Test.YtgoedemibdkpdaaMath10E
import Derived.Test.YtgoedemibdkpdaaFlow10E
namespace Go.Proofs.Ytgoedemibdkpdaa
open Go.RowKit Go.Shelf
set_option linter.unusedVariables false
set_option linter.unusedSimpArgs false

/-- Lists of numbers that a call makes by append. -/
structure OwnJ (base : Nat) (W : World) (V : Value) (ll : List (List Int)) (Xs : List Value) : Prop where
  own : Owns W base 37 1 AnyCell V ll.length Xs
  len : Xs.length = ll.length
  nums : ∀ i, i < ll.length → OutN base W (Xs.getD i (.slice none 0 0)) (ll.getD i [])
theorem OwnJ.nil (base : Nat) (W : World) : OwnJ base W (.slice none 0 0) [] [] := ⟨Owns.nil _ _ _ _ _, rfl, fun i hi => absurd hi (by simp)⟩
section
variable {base : Nat} {W W' : World} {V : Value} {ll : List (List Int)} {Xs : List Value}
theorem OwnJ.below {B : Nat} (h : OwnJ base W V ll Xs) (hb : Below B W W') (hB : W.heap.size ≤ B) : OwnJ base W' V ll Xs :=
  ⟨h.own.below hb hB, h.len, fun i hi => Owns.below (h.nums i hi) hb hB⟩
end
theorem OwnJ.low {base b' : Nat} {W : World} {V : Value} {ll : List (List Int)} {Xs : List Value} (h : OwnJ base W V ll Xs) (hb : b' ≤ base) : OwnJ b' W V ll Xs := ⟨Owns.base h.own hb, h.len, fun i hi => Owns.base (h.nums i hi) hb⟩
theorem addr_zero_j (b k : Nat) : (⟨b, 0, none⟩ : Addr).add k = ⟨b, k, none⟩ := by unfold Addr.add; split <;> simp_all
theorem one_list (w : World) (X : Value) : ∀ j u, [X][j]? = some u → (w.alloc (.cells #[X] 37)).cell? ((⟨w.heap.size, 0, none⟩ : Addr).add j) = some u := by
  intro j u hu
  rw [addr_zero_j, cell_of_row _ _ _ _ _ _ (heap_alloc_new w _), ← Array.getElem?_toList]
  exact hu
/-- An append of one list, at the operation. -/
theorem wpList_outJ {W : World} {ops : Array Oper} {rest : List Oper} {o : Oper} {a : Act} {Q : Exit → Act → World → Prop} (hgd : o.guard = none) (s x : Operand)
    (ho : o.op = .call { callee := .builtin .append, args := #[s, x], argTypes := #[26, 26] }) {V X : Value} {ll : List (List Int)} {Xs : List Value} {y : List Int} {base : Nat} (hs : a.eval s = V) (hx : a.eval x = .slice (some ⟨W.heap.size, 0, none⟩) 1 1)
    (h : OwnJ base W V ll Xs) (hX : OutN base W X y) (hX1 : X.oneCell' = true) (hb : base ≤ W.heap.size) (hl : ll.length ≤ 1000000)
    (hK : ∀ V' W', OwnJ base W' V' (ll ++ [y]) (Xs ++ [X]) → Below base W W' → wpList Try.prog ops Q rest (a.put o.dst V') W') :
    wpList Try.prog ops Q (o :: rest) a (W.alloc (.cells #[X] 37)) := by
  obtain ⟨i, hi, h1, h2, h3⟩ := info_parts ints_info
  have ha : Below W.heap.size W (W.alloc (.cells #[X] 37)) := (Below.refl W.heap.size W).alloc (Nat.le_refl _) _
  have hg := Owns.below h.own ha (Nat.le_refl _)
  refine wpList_append_q _ hgd s x 26 ho base 37 i _ 1 24 Try.underlying26 hi h1 h2 h3 rfl (by decide) AnyCell (fun _ _ => trivial) V ll.length Xs hs hg ⟨W.heap.size, 0, none⟩ 1 1 [X] hx rfl (one_list W X) (by intro u hu; simp at hu; subst hu; exact hX1) (fun _ _ => trivial) (by unfold maxLen; omega) (by omega) (by simp; omega) ?_
  intro V' W' ho' hg'
  have e : World.grownBy (W.alloc (.cells #[X] 37)) W' V.ownBlock := hg'
  have hblk : ∀ i, i < W.heap.size → some i ≠ V.ownBlock → W'.heap[i]? = W.heap[i]? := fun i hi hn => (e.block i (by simp; omega) hn).trans (ha.block i hi)
  have hsz : W.heap.size ≤ W'.heap.size := Nat.le_trans (by simp) e.size
  have hkeep : ∀ (v : Value) (xs : List Int), OutN base W v xs → OutN base W' v xs := fun v xs hv => by
    refine Owns.of_blocks hv (fun g hg => hblk g (hv.lt hg).2 (fun e' => ?_)) hsz
    obtain ⟨c1, h1⟩ := hv.typed hg
    obtain ⟨c2, h2⟩ := h.own.typed e'.symm
    rw [h1] at h2
    injection h2 with h2
    injection h2 with _ h2 _
    exact absurd h2 (by decide)
  refine hK V' W' ⟨?_, by simp [h.len], fun i hi => ?_⟩ ((ha.mono hb).grown e (by simp; omega) fun j hj => (h.own.lt hj).1)
  · rw [List.length_append]; exact ho'
  · rw [List.length_append] at hi
    simp only [List.length_cons, List.length_nil, Nat.zero_add] at hi
    rw [getD_snoc ll y [] hi, getD_snoc Xs X _ (by rw [h.len]; exact hi), h.len]
    by_cases hlt : i < ll.length
    · rw [if_pos hlt, if_pos hlt]
      exact hkeep _ _ (h.nums i hlt)
    · rw [if_neg hlt, if_neg hlt]
      exact hkeep _ _ hX
theorem nexts_take {l : List InsV} {k : Nat} (hk : k < l.length) : (nextsV l).take (k + 1) = (nextsV l).take k ++ [nextV l k] := by
  have h' : k < (nextsV l).length := by rw [nextsV_length]; exact hk
  rw [List.take_add_one, List.getElem?_eq_getElem h']
  simp [nextsV]
def RNextN (w : World) (l : List InsV) (e : Ending) (w' : World) : Prop :=
  Below w.heap.size w w' ∧ ((check10 l ≠ 0 ∧ e = .returned (.tuple #[.slice none 0 0, .int .i64 (check10 l)])) ∨
    (check10 l = 0 ∧ ∃ V Xs, e = .returned (.tuple #[V, .int .i64 0]) ∧ OwnJ w.heap.size w' V (nextsV l) Xs))
set_option maxRecDepth 100000 in
set_option maxHeartbeats 8000000 in
theorem rNext10_any (A : Option Addr) (n cap : Nat) (l : List InsV) (w : World) (hn : n = l.length) (h : IsCode w w.heap.size (.slice A n cap) l) (hs : n ≤ 1000) :
    Calls Try.prog 12 #[.slice A n cap] w (RNextN w l) := by
  have HC := Lib.hid h
  have HN := Lib.hid hn
  have HCK := Lib.hid (rCheck_any A n cap l w hn h hs)
  by_cases h0 : check10 l = 0
  · have hg := good10 h0
    have HG := Lib.hid hg
    have H0 := Lib.hid h0
    have HPC := Lib.hid (fun W hc => rplaces_any A n cap l W hn hc hg.join)
    have HNX := Lib.hid (fun P W i hc hp hi => rnext10_any A n cap P l i W hn hc hp hg hi (by omega))
    have HPL := Lib.hid (placesV_length l 0)
    rw [← hn] at HPL
    rw [h0] at HCK
    clear h hn hg h0
    go_enter Try.func12, Try.ntmps12
    go_wp2_with (first
      | (go_at_call 18; (with_reducible refine HCK.out.mono ?_); rintro e w1 ⟨rfl, hb⟩; have HB1 := Lib.hid hb; have HC1 := Lib.hid ((HC.out.below hb (Nat.le_refl _) (Nat.le_refl _)).more hb.size); clear hb)
      | (go_at_call 33; (with_reducible refine (HPC.out w1 HC1.out).mono ?_); rintro e w2 ⟨hb, P, rfl, ho⟩; have HB2 := Lib.hid (HB1.out.trans (hb.mono HB1.out.size)); have HP2 := Lib.hid (IsNums.of_owns ho (Nat.le_refl _)); obtain ⟨pA, pc, hpe⟩ := owns_len ho; rw [HPL.out] at hpe; subst hpe; clear hb ho))
    go_loopw [6, 7] (fun out i wr => ∃ (k : Nat) (Xs : List Value), k ≤ n ∧ i = .int .i64 k ∧ Hid (OwnJ w2.heap.size wr out ((nextsV l).take k) Xs ∧ Below w2.heap.size w2 wr)) (fun _ i _ => n - (intOf i).toNat)
    case atStart => exact ⟨0, [], by omega, rfl, OwnJ.nil _ _, Below.refl _ _⟩
    case round =>
      obtain ⟨k, Xs, hk, rfl, HR⟩ := hrel
      obtain ⟨ho, hb⟩ := HR.out
      have HO := Lib.hid ho
      have HB := Lib.hid hb
      have HBW := Lib.hid (HB2.out.trans (hb.mono HB2.out.size))
      obtain ⟨oA, oc, hoe⟩ := owns_len ho.own
      have hlen : ((nextsV l).take k).length = k := by rw [List.length_take, nextsV_length, ← HN.out]; omega
      rw [hlen] at hoe
      subst hoe
      have HLN := Lib.hid hlen
      clear HR ho hb hlen
      by_cases hlt : k < n
      · have HTK := Lib.hid (nexts_take (l := l) (k := k) (by rw [← HN.out]; exact hlt))
        have HNK := Lib.hid (HNX.out (.slice pA n pc) wr k ((HC.out.below HBW.out (Nat.le_refl _) (Nat.le_refl _)).more HBW.out.size) ((HP2.out.below HB.out (Nat.le_refl _)).more HB.out.size) hlt)
        have k0 : (0 : Int) ≤ (k : Int) := by omega
        have k1 : (k : Int) < (n : Int) := by omega
        go_wp2_with (first
          | (go_at_call 34; (with_reducible refine HNK.out.mono ?_); rintro e w5 ⟨hb, X, rfl, hx⟩; have HB5 := Lib.hid (HB.out.trans (hb.mono HB.out.size)); have HW5 := Lib.hid (HBW.out.trans (hb.mono HBW.out.size)); have HX5 := Lib.hid (hx.base HB.out.size); have HO5 := Lib.hid (HO.out.below hb (Nat.le_refl _)); obtain ⟨xA, xc, hxe⟩ := owns_len hx; subst hxe; clear hb hx)
          | (at_builtin; (refine wpList_outJ (W := w5) (y := nextV l k) (base := w2.heap.size) rfl (.tmp 26) (.tmp 28) rfl rfl rfl HO5.out HX5.out rfl HB5.out.size (by rw [HLN.out]; omega) ?_; intro V6 w6 ho hb; have HO6 := Lib.hid ho; have HB6 := Lib.hid (HB5.out.trans hb); obtain ⟨a6, c6, h6⟩ := owns_len ho.own; generalize hq6 : (_ ++ [nextV l k]).length = q6 at h6; subst h6; clear ho hb hq6)))
        go_roundw
        case rel => exact ⟨k + 1, _, by omega, by go_num, by rw [HTK.out]; exact HO6.out, HB6.out⟩
        case measure => simp [intOf]; omega
      · obtain rfl : k = n := by omega
        have hte : (nextsV l).take k = nextsV l := by have := nextsV_length l; rw [HN.out, ← this]; exact List.take_length
        have HTE := Lib.hid hte
        clear hte
        go_wp2
        go_ret2
        refine ⟨HBW.out, .inr ⟨H0.out, _, Xs, rfl, ?_⟩⟩
        rw [← HTE.out]
        exact HO.out.low HB2.out.size
  · have hne : (check10 l != 0) = true := by simpa using h0
    have H0 := Lib.hid h0
    unfold RNextN
    generalize check10 l = z at *
    clear h hn h0
    go_enter Try.func12, Try.ntmps12
    go_wp2_with (go_at_call 18; (with_reducible refine HCK.out.mono ?_); rintro e w1 ⟨rfl, hb⟩; have HB1 := Lib.hid hb; clear hb)
    go_ret2
    exact ⟨HB1.out, .inl ⟨H0.out, rfl⟩⟩
/-- What Reached has in memory. -/
structure RwAt (w wr : World) (n : Nat) (m : Nat → Bool) : Prop where
  bel : Below w.heap.size w wr
  row : RowAt wr w.heap.size n 4 (boolsV m)
theorem RwAt.set {w wr : World} {n : Nat} {m : Nat → Bool} (h : RwAt w wr n m) (x : Nat) (b : Bool) : RwAt w (wr.setCell ⟨w.heap.size, x, none⟩ (.bool b)) n (fun i => if i = x then b else m i) :=
  ⟨h.bel.setCell (p := ⟨w.heap.size, x, none⟩) (Nat.le_refl _) _, (h.row.set x _).congr fun i hi => by unfold boolsV; by_cases e : i = x <;> simp [e]⟩
theorem RwAt.grow {w wr W : World} {n : Nat} {m : Nat → Bool} (h : RwAt w wr n m) (hb : Below wr.heap.size wr W) : RwAt w W n m := ⟨h.bel.trans (hb.mono h.bel.size), h.row.below hb h.row.lt⟩
def RHead (w : World) (n : Nat) (nx : Nat → List Int) (gk : Nat) (b : Bool) (wr : World) : Prop :=
  ∃ m, RwAt w wr n m ∧ m 0 = true ∧ (∀ i, i < n → m i = true → Rch nx i) ∧ (b = false → Closed n nx m) ∧ (b = true → cntV m n + 1 ≤ gk)
def RReachedN (w : World) (l : List InsV) (n : Nat) (e : Ending) (w' : World) : Prop :=
  Below w.heap.size w w' ∧ ((check10 l ≠ 0 ∧ e = .returned (.tuple #[.slice none 0 0, .int .i64 (check10 l)])) ∨
    (check10 l = 0 ∧ ∃ gb r, e = .returned (.tuple #[.slice (some ⟨gb, 0, none⟩) n n, .int .i64 0]) ∧ w.heap.size ≤ gb ∧ IsReach n (nextV l) r ∧ RowAt w' gb n 4 (boolsV fun i => r.getD i false)))
set_option maxRecDepth 100000 in
set_option maxHeartbeats 16000000 in
theorem rReached10_any (A : Option Addr) (n cap : Nat) (l : List InsV) (w : World) (hn : n = l.length) (h : IsCode w w.heap.size (.slice A n cap) l) (hs : n ≤ 1000) :
    Calls Try.prog 14 #[.slice A n cap] w (RReachedN w l n) := by
  have HC := Lib.hid h
  have HN := Lib.hid hn
  have HCK := Lib.hid (rCheck_any A n cap l w hn h hs)
  by_cases h0 : check10 l = 0
  · have hg := good10 h0
    have HG := Lib.hid hg
    have H0 := Lib.hid h0
    have HPC := Lib.hid (fun W hc => rplaces_any A n cap l W hn hc hg.join)
    have HNX := Lib.hid (fun P W i hc hp hi => rnext10_any A n cap P l i W hn hc hp hg hi (by omega))
    have HPL := Lib.hid (placesV_length l 0)
    rw [← hn] at HPL
    rw [h0] at HCK
    have hmk := make_bools n (by omega)
    have HMB : Hid (∀ W : World, RwAt W (W.alloc (.cells (madeCells (Value.bool false).cells (n * 1)) 4)) n (fun _ => false)) := Lib.hid (fun W => ⟨(Below.refl _ _).alloc (Nat.le_refl _) _, bools_made n W⟩)
    have HMS : Hid (∀ W : World, RwAt W (W.alloc (.cells ((madeCells (Value.bool false).cells (n * 1)).setIfInBounds 0 (.bool true)) 4)) n (fun i => if i = 0 then true else false)) := Lib.hid (fun W => ⟨(Below.refl _ _).alloc (Nat.le_refl _) _, _, heap_alloc_new W _, by simp [madeCells], fun i hi => by
      rw [Array.getElem?_setIfInBounds]
      by_cases e : 0 = i
      · subst e
        rw [if_pos rfl, if_pos (by simp [madeCells]; omega)]
        rfl
      · rw [if_neg e, made_row rfl hi]
        have e2 : ¬ i = 0 := fun h => e h.symm
        simp [boolsV, e2]⟩)
    generalize madeCells (Value.bool false).cells (n * 1) = mb at *
    have hnp : 0 < n := by have := hg.pos; omega
    have HNP := Lib.hid hnp
    have hnI : (0 : Int) < (n : Int) := by omega
    have HNB : Hid (∀ i, i < n → ∀ x ∈ nextV l i, 0 ≤ x ∧ x < (n : Int)) := Lib.hid (fun i hi x hx => by have := hg.next (by omega) x hx; omega)
    have HCT := Lib.hid (fun m => cnt_le m n)
    clear h hn hg h0
    go_enter Try.func14, Try.ntmps14
    go_wp2_with (first
      | (go_at_call 18; (with_reducible refine HCK.out.mono ?_); rintro e w1 ⟨rfl, hb⟩; have HB1 := Lib.hid hb; have HC1 := Lib.hid ((HC.out.below hb (Nat.le_refl _) (Nat.le_refl _)).more hb.size); clear hb)
      | (go_at_call 33; (with_reducible refine (HPC.out w1 HC1.out).mono ?_); rintro e w2 ⟨hb, P, rfl, ho⟩; have HB2 := Lib.hid (HB1.out.trans (hb.mono HB1.out.size)); have HP2 := Lib.hid (IsNums.of_owns ho (Nat.le_refl _)); obtain ⟨pA, pc, hpe⟩ := owns_len ho; rw [HPL.out] at hpe; subst hpe; have ex := (HMB.out w2).row.cell HNP.out; have fz := (HMB.out w2).row.frozen 0; unfold boolsV at ex; clear hb ho))
    have HS0 := Lib.hid (HMS.out w2)
    clear ex fz
    go_loopg [7] (n + 1) (fun gk v7 wr => ∃ b : Bool, v7 = .bool b ∧ Hid (RHead w2 n (nextV l) gk b wr))
    case atStart => exact ⟨true, rfl, (fun i => if i = 0 then true else false), HS0.out, rfl, fun i hi hm => by
      by_cases e : i = 0
      · subst e; exact .zero
      · simp [e] at hm, by simp, fun _ => by have := HCT.out (fun i => if i = 0 then true else false); omega⟩
    case round =>
      obtain ⟨b, rfl, HR⟩ := hrel
      obtain ⟨m0, hw0, hz0, hr0, hc0, hk0⟩ := HR.out
      have HW0 := Lib.hid hw0
      have HZ0 := Lib.hid hz0
      have HR0 := Lib.hid hr0
      clear HR hw0 hz0 hr0
      cases b with
      | false =>
        have HCL := Lib.hid (hc0 rfl)
        clear hc0 hk0
        go_wp2
        go_ret2
        refine ⟨HB2.out.trans (HW0.out.bel.mono HB2.out.size), .inr ⟨H0.out, w2.heap.size, _, rfl, HB2.out.size, closed_reach HNP.out HNB.out HZ0.out HCL.out HR0.out, HW0.out.row.congr fun i hi => ?_⟩⟩
        simp [boolsV, List.getD, hi]
      | true =>
        have HK0 := Lib.hid (hk0 rfl)
        clear hc0 hk0
        obtain ⟨wo, rfl⟩ : ∃ wo, wo = wr := ⟨_, rfl⟩
        go_wp2
        go_loopw [7, 8] (fun v7 v8 wr => ∃ (b : Bool) (a : Nat), a ≤ n ∧ v7 = .bool b ∧ v8 = .int .i64 a ∧ Hid (∃ m, RwAt w2 wr n m ∧ Swr n (nextV l) m0 m b a 0)) (fun _ v8 _ => n - (intOf v8).toNat)
        case atStart => exact ⟨false, 0, by omega, rfl, rfl, _, HW0.out, Swr.start HR0.out⟩
        case round =>
          obtain ⟨b, a, ha, rfl, rfl, HA⟩ := hrel
          obtain ⟨m1, hw1, hs1⟩ := HA.out
          have HW1 := Lib.hid hw1
          have HS1 := Lib.hid hs1
          have HBW := Lib.hid (HB2.out.trans (hw1.bel.mono HB2.out.size))
          clear HA hw1 hs1
          obtain ⟨wp, rfl⟩ : ∃ wp, wp = wr := ⟨_, rfl⟩
          by_cases hlt : a < n
          · have HNK := Lib.hid (HNX.out (.slice pA n pc) wp a ((HC.out.below HBW.out (Nat.le_refl _) (Nat.le_refl _)).more HBW.out.size) ((HP2.out.below HW1.out.bel (Nat.le_refl _)).more HW1.out.bel.size) hlt)
            have k0 : (0 : Int) ≤ (a : Int) := by omega
            have k1 : (a : Int) < (n : Int) := by omega
            have HXN := Lib.hid (HNB.out a hlt)
            have xl2 := nextV_two l a
            obtain ⟨xl, hxl⟩ : ∃ xl, xl = (nextV l a).length := ⟨_, rfl⟩
            have HXL := Lib.hid hxl
            rw [← hxl] at xl2
            have xl3 : (xl : Int) ≤ 2 := by omega
            have HLT := Lib.hid hlt
            clear hxl
            go_wp2_with (go_at_call 34; (with_reducible refine HNK.out.mono ?_); rintro e w5 ⟨hb, X, rfl, hx⟩; have HW5 := Lib.hid (HW1.out.grow hb); have HX5 := Lib.hid hx; have HG5 := Lib.hid (show w2.heap.size < wp.heap.size from HW1.out.row.lt); obtain ⟨xA, xc, hxe⟩ := owns_len hx; rw [← HXL.out] at hxe; subst hxe; clear hb hx)
            go_loopw [7, 10] (fun v7 v10 wi => ∃ (b : Bool) (q : Nat), q ≤ xl ∧ v7 = .bool b ∧ v10 = .int .i64 q ∧ Hid (∃ m, RwAt w2 wi n m ∧ Swr n (nextV l) m0 m b a q ∧ But (OneBlock w2.heap.size) w5 wi)) (fun _ v10 _ => xl - (intOf v10).toNat)
            case atStart => exact ⟨b, 0, by omega, rfl, rfl, _, HW5.out, HS1.out, But.refl _ _⟩
            case round =>
              obtain ⟨b, q, hq, rfl, rfl, HQ⟩ := hrel
              obtain ⟨m, hw, hs, hbt⟩ := HQ.out
              have b2 := hw.row.cell HLT.out
              unfold boolsV at b2
              have q0 : (0 : Int) ≤ (q : Int) := by omega
              cases hma : m a with
              | false =>
                have HWq := Lib.hid hw
                have HSq := Lib.hid (hs.row_no HLT.out hma)
                rw [hma] at b2
                clear HQ hw hs hbt hma
                go_wp2
                go_roundw
                case rel => exact ⟨b, a + 1, by omega, rfl, by go_num, _, HWq.out, HSq.out⟩
                case measure => simp [intOf]; omega
              | true =>
                rw [hma] at b2
                by_cases hql : q < xl
                · have q1 : (q : Int) < (xl : Int) := by omega
                  have hql2 : q < (nextV l a).length := by rw [← HXL.out]; exact hql
                  have hxo : OutN wp.heap.size wr (.slice xA xl xc) (nextV l a) := HX5.out.but hbt (fun g hg e => by have := (HX5.out.lt hg).1; have := HG5.out; have : g = w2.heap.size := e; omega)
                  obtain ⟨nb, no, nc, hV, _, _, hnc⟩ := (IsNums.of_owns hxo (Nat.le_refl _)).plain (by rw [← HXL.out]; omega)
                  rw [← HXL.out] at hV
                  cases hV
                  have hx1 := hnc q hql2
                  have hmem : (nextV l a).getD q 0 ∈ nextV l a := by simp [List.getD, List.getElem?_eq_getElem hql2]
                  have hxb := HXN.out _ hmem
                  have hst := hs.step HLT.out hql2 hma HNB.out
                  generalize (nextV l a).getD q 0 = x at *
                  obtain ⟨xn, rfl⟩ : ∃ xn : Nat, x = xn := ⟨x.toNat, by omega⟩
                  rw [Int.toNat_natCast] at hst
                  have y0 : (0 : Int) ≤ (xn : Int) := by omega
                  have y1 : (xn : Int) < (n : Int) := hxb.2
                  have b1 := hw.row.cell (i := xn) (by omega)
                  have fz := hw.row.frozen xn
                  unfold boolsV at b1
                  have HST := Lib.hid hst
                  have HSE := Lib.hid (hw.set xn true)
                  have HBT := Lib.hid (hbt.setCell (p := ⟨w2.heap.size, xn, none⟩) (.inl rfl) (.bool true))
                  clear HQ hw hs hbt hnc hmem hxb hst hql2 hma hxo
                  generalize m xn = mx at *
                  cases b with
                  | true =>
                    go_wp2
                    go_roundw
                    case rel => exact ⟨true, q + 1, by omega, rfl, by go_num, _, HSE.out, HST.out, HBT.out⟩
                    case measure => simp [intOf]; omega
                  | false =>
                    go_wp2
                    go_roundw
                    case rel => exact ⟨!mx, q + 1, by omega, rfl, by go_num, _, HSE.out, by have := HST.out; rw [Bool.false_or] at this; exact this, HBT.out⟩
                    case measure => simp [intOf]; omega
                · obtain rfl : q = xl := by omega
                  have HWq := Lib.hid hw
                  have HSq := Lib.hid (Swr.row_yes (by rw [← HXL.out]; exact hs))
                  clear HQ hw hs hbt hma
                  go_wp2
                  go_roundw
                  case rel => exact ⟨b, a + 1, by omega, rfl, by go_num, _, HWq.out, HSq.out⟩
                  case measure => simp [intOf]; omega
          · obtain rfl : n = a := by omega
            have HHD : Hid (RHead w2 n (nextV l) (gk - 1) b wp ∧ gk - 1 < gk) := Lib.hid ⟨⟨m1, HW1.out, HS1.out.mono 0 HZ0.out, HS1.out.rch, fun h => by subst h; exact HS1.out.shut HNB.out, fun h => by subst h; have := HS1.out.less; have := HK0.out; omega⟩, by have := HK0.out; omega⟩
            go_wp2
            go_roundg (gk - 1)
            case measure => exact HHD.out.2
            case rel => exact ⟨b, rfl, HHD.out.1⟩
  · have hne : (check10 l != 0) = true := by simpa using h0
    have H0 := Lib.hid h0
    unfold RReachedN
    generalize check10 l = z at *
    clear h hn h0
    go_enter Try.func14, Try.ntmps14
    go_wp2_with (go_at_call 18; (with_reducible refine HCK.out.mono ?_); rintro e w1 ⟨rfl, hb⟩; have HB1 := Lib.hid hb; clear hb)
    go_ret2
    exact ⟨HB1.out, .inl ⟨H0.out, rfl⟩⟩
end Go.Proofs.Ytgoedemibdkpdaa
