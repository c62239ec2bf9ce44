/- The landed write: an outcome's text, piece by piece. Contract; no condition but what it names. -/
import Derived.Test.YtecbpbkehdmmcaaDoorDeed14L
namespace Go.Proofs.YtecbpbkehdmmcaaDoor
open Go.RowKit Go.Shelf
set_option linter.unusedVariables false
set_option linter.unusedSimpArgs false

theorem wb_oth14 {ob bb base : Nat} {A B : World} {s : ByteArray} (h : Wb14 ob bb A B) (hb : Bld14 base ob s A) : KeepsOthers A B := by
  obtain ⟨P, V, hr, _⟩ := hb
  exact ⟨h.size, fun k o ho hc => (h.block k (heap_lt ho) (by
    rintro (rfl | ⟨_, c', e⟩)
    · rw [hr] at ho; injection ho with ho; subst ho; cases hc
    · rw [e] at ho; injection ho with ho; subst ho; cases hc)).trans ho⟩
theorem Wb14.below {ob bb B : Nat} {w w' : World} (h : Wb14 ob bb w w') (h1 : B ≤ ob) (h2 : B ≤ bb) (hw : B ≤ w.heap.size) : Below B w w' :=
  ⟨h.os, h.tape, h.output, h.size, fun k hk => h.block k (by omega) (by rintro (e | ⟨e, _⟩) <;> omega)⟩
/-- What stands in memory between two rounds. -/
structure Wri14 (w0 w : World) (base ob : Nat) (V : Value) (k c : Int) (s : List (Int × Int)) (W : World) : Prop where
  bld : Bld14 base ob (strOfNums (s.flatMap textD)) W
  snk : W.heap[w.heap.size]? = some (.cells #[.iface 69 (.pointer (some ⟨ob, 0, none⟩))] 79 (0, 0))
  out : W.heap[w.heap.size + 1]? = some (.cells #[V, .int .i64 k, .int .i64 c] 47 (0, 0))
  bel : Below w0.heap.size w0 W
  big : w.heap.size + 3 ≤ W.heap.size
theorem Wri14.but {R : Nat → Prop} {w0 w A B : World} {base ob : Nat} {V : Value} {k c : Int} {s : List (Int × Int)} (h : Wri14 w0 w base ob V k c s A) (hb : But R A B) (h1 : ∀ j c t, A.heap[j]? = some (.cells c t (0, 0)) → ¬ R j) (h2 : ∀ j, R j → w0.heap.size ≤ j) : Wri14 w0 w base ob V k c s B := by
  obtain ⟨P, V', a1, a2, a3, a4⟩ := h.bld
  exact ⟨h.bld.but hb (h1 _ _ _ a1) (fun j c hc _ => h1 _ _ _ hc), hb.heap h.snk (h1 _ _ _ h.snk), hb.heap h.out (h1 _ _ _ h.out), But.below h.bel hb h.bel.size h2, Nat.le_trans h.big hb.size⟩
theorem Wri14.grow {w0 w A B : World} {base ob : Nat} {V : Value} {k c : Int} {s : List (Int × Int)} (h : Wri14 w0 w base ob V k c s A) (hb : Below A.heap.size A B) : Wri14 w0 w base ob V k c s B :=
  h.but (But.of_below (R := NoBlock) hb) (fun _ _ _ _ h => h) (fun _ h => h.elim)
theorem Wri14.turns {w0 w : World} {base ob : Nat} {V : Value} {k c : Int} {s : List (Int × Int)} {b : Nat} (hb : w0.heap.size ≤ b) : Turns b (Wri14 w0 w base ob V k c s) := fun A l o o' hl ho hc h => by
  have e1 : ∀ j, OneBlock l j → j = l := fun j e => e
  exact h.but (put_but14 A l o') (fun j c t hj e => by
    have := e1 j e
    subst this
    rw [hj] at ho
    injection ho with ho
    subst ho
    cases hc) (fun j e => by have := e1 j e; omega)
theorem wri_start (w : World) (S V : Value) (k c : Int) (W0 : World) (h : W0 = ((w.alloc (.cells #[S] 79)).alloc (.cells #[V, .int .i64 k, .int .i64 c] 47)).alloc (.cells #[V] 53)) :
    W0.heap.size = w.heap.size + 3 ∧ W0.heap[w.heap.size + 2]? = some (.cells #[V] 53 (0, 0)) ∧ W0.heap[w.heap.size]? = some (.cells #[S] 79 (0, 0)) ∧ W0.heap[w.heap.size + 1]? = some (.cells #[V, .int .i64 k, .int .i64 c] 47 (0, 0)) ∧ Below w.heap.size w W0 := by
  have h1 := heap_alloc_new w (.cells #[S] 79)
  have h2 := heap_alloc_new (w.alloc (.cells #[S] 79)) (.cells #[V, .int .i64 k, .int .i64 c] 47)
  have h3 := heap_alloc_new ((w.alloc (.cells #[S] 79)).alloc (.cells #[V, .int .i64 k, .int .i64 c] 47)) (.cells #[V] 53)
  rw [World.size_alloc] at h2
  rw [World.size_alloc, World.size_alloc] at h3
  subst h
  refine ⟨by simp, h3, ?_, ?_, (((Below.refl _ _).alloc (Nat.le_refl _) _).alloc (by simp) _).alloc (by simp; omega) _⟩
  · rw [Below.heap_alloc _ _ _ (by simp; omega), Below.heap_alloc _ _ _ (by simp)]
    exact h1
  · rw [Below.heap_alloc _ _ _ (by simp)]
    exact h2
theorem texts_len : ∀ (s : List (Int × Int)), (∀ d ∈ s, okD d = true) → (s.flatMap textD).length ≤ s.length * 7
  | [], _ => by simp
  | d :: s, h => by
    have ih := texts_len s (fun x hx => h x (List.mem_cons_of_mem _ hx))
    have hd := okD_cases (h d (List.mem_cons_self ..))
    have := textA_len (d := d) (by unfold smallI; omega)
    rw [List.flatMap_cons, List.length_append, textA_blank, List.length_append]
    simp only [List.length_cons, List.length_nil]
    omega
theorem nil_write14 (ob : Nat) (W : World) : (nilAhead 221 69 (.pointer (some ⟨ob, 0, none⟩)) "WriteString").run Tryd.prog W = .ok (some false) W := by kernel_rfl
theorem find_write14 (ob : Nat) (W : World) : (method 221 69 (.pointer (some ⟨ob, 0, none⟩)) "WriteString").run Tryd.prog W = .ok (94, .pointer (some ⟨ob, 0, none⟩)) W := by kernel_rfl
theorem wri_next14 {w0 w W W2 W3 : World} {base ob g : Nat} {V : Value} {k c : Int} {s : List (Int × Int)} {d : Int × Int} (hI : Wri14 w0 w base ob V k c s W) (h1 : w0.heap.size ≤ ob) (h2 : w0.heap.size ≤ base) (hb : Below W.heap.size W W2)
    (hbl : Bld14 base ob (strOfNums (s.flatMap textD) ++ (strOfNums (textA d) ++ ⟨#[32]⟩)) W3) (hw : Wb14 ob base W2 W3) : Wri14 w0 w base ob V k c (s ++ [d]) W3 ∧ KeepsOthers W W3 ∧ Kp14 g w0.heap.size W W3 := by
  have hI2 := hI.grow hb
  have hs2 : w0.heap.size ≤ W2.heap.size := hI2.bel.size
  have hB3 := hw.below h1 h2 hs2
  have hne : ∀ (j : Nat) (c : Array Value) (t : TypeId), W2.heap[j]? = some (.cells c t (0, 0)) → t ≠ 71 → j ≠ ob := fun j c t hj ht e => by
    obtain ⟨P, V', a1, _⟩ := hI2.bld
    subst e
    exact types14 hj a1 ht
  refine ⟨⟨?_, hw.keep hI2.snk (hne _ _ _ hI2.snk (by decide)) (fun c e => by injection e with _ e _; exact absurd e (by decide)), hw.keep hI2.out (hne _ _ _ hI2.out (by decide)) (fun c e => by injection e with _ e _; exact absurd e (by decide)), hI2.bel.trans hB3, Nat.le_trans hI2.big hw.size⟩,
    (below_oth14 hb).trans (wb_oth14 hw hI2.bld), ⟨fun e e2 => (hB3.block _ e).trans (hb.block _ e2), Nat.le_trans hb.size hw.size⟩⟩
  rw [List.flatMap_append, str_app14]
  have e : strOfNums ([d].flatMap textD) = strOfNums (textA d) ++ ⟨#[32]⟩ := by
    rw [List.flatMap_cons, List.flatMap_nil, List.append_nil, textA_blank, str_app14]
    rfl
  rw [e]
  exact hbl
attribute [local go_sem] Oper.semAt_some
set_option maxRecDepth 100000 in
set_option maxHeartbeats 16000000 in
theorem write14_in (n : Nat) (hn : 6 ≤ n) (V : Value) (L : List (Int × Int)) (k c : Int) (base ob : Nat) (w0 w : World) (hE : Env14 w0) (h0 : Below w0.heap.size w0 w) (hV : IsDeeds w w0.heap.size V L) (hB : Bld14 base ob ⟨#[]⟩ w) (h1b : w0.heap.size ≤ ob) (h2b : w0.heap.size ≤ base) (hbw : base ≤ w.heap.size)
    (hd : ∀ d ∈ L, okD d = true) (he : okE k c = true) (hl : L.length ≤ 100000) :
    CallsIn Fence.wide n Tryd.prog 44 #[.iface 69 (.pointer (some ⟨ob, 0, none⟩)), .agg #[V, .int .i64 k, .int .i64 c]] w fun e w' => e = .returned (.tuple #[]) ∧ Bld14 base ob (strOfNums (textO L k c)) w' ∧ Below w0.heap.size w0 w' ∧ w.heap.size ≤ w'.heap.size := by
  have h1 : 1 ≤ n := by omega
  obtain ⟨g, off, A, cap, rfl, hc, hD⟩ := hV.dat h0.size
  have hlm := hV.1
  have HL := Lib.hid (And.intro hc hlm)
  have HD := Lib.hid hD
  have HE := Lib.hid hE
  have H0 := Lib.hid h0
  have HB := Lib.hid hB
  have HLE := Lib.hid (And.intro h1b (And.intro h2b hbw))
  have HOK := Lib.hid hd
  have HEK := Lib.hid he
  have HLL := Lib.hid hl
  clear hV hc hD hE h0 hB h1b h2b hbw hd he hl hlm
  refine callsIn_of_wp_marks Tryd.func44 rfl trivial ?_ rfl
  simp only [Tryd.ntmps44, List.size_toArray, List.length_cons, List.length_nil, Nat.reduceAdd, Nat.reduceSub, Array.replicate_succ, Array.replicate_zero, List.push_toArray, List.append_toArray, List.nil_append, List.cons_append]
  gi_wp2_with (refine ⟨trivial, ?_⟩; gi_at_call 52; (with_reducible refine (callsIn_wide.2 (all14 _ _ _ _ rfl _)).mono ?_); rintro e w' ⟨rfl, rfl⟩)
  obtain ⟨W0, hW0⟩ : ∃ W0, W0 = ((w.alloc (.cells #[.iface 69 (.pointer (some ⟨ob, 0, none⟩))] 79)).alloc (.cells #[.slice A L.length cap, .int .i64 k, .int .i64 c] 47)).alloc (.cells #[.slice A L.length cap] 53) := ⟨_, rfl⟩
  obtain ⟨hs0, hv0, hr0, hx0, hb0⟩ := wri_start w _ (.slice A L.length cap) k c W0 hW0
  rw [← hW0]
  simp only [Nat.add_assoc, Nat.reduceAdd]
  have HB0 := Lib.hid hb0
  have HS0 := Lib.hid hs0
  have HV0 := Lib.hid hv0
  have HR0 := Lib.hid hr0
  have HX0 := Lib.hid hx0
  have HW00 := Lib.hid (H0.out.trans (hb0.mono H0.out.size))
  have HD0 := Lib.hid (HD.out.kp ⟨fun _ e => hb0.block _ e, hb0.size⟩)
  clear hW0 hs0 hv0 hr0 hx0 hb0
  have hw0s : w0.heap.size ≤ W0.heap.size := HW00.out.size
  have HSZ := Lib.hid hw0s
  clear hw0s
  refine range_boxes (n := n) (w := W0) rfl h1 (gf := 59) (lb := #[.pointer (some ⟨w.heap.size + 2, 0, none⟩)]) rfl trivial (enters_of Tryd.func59 (by kernel_rfl) rfl)
    (encs := fun d : Int × Int => #[.agg #[.int .i64 d.1, .int .i64 d.2]]) (Mv := Mv14) (Kp := Kp14 g w0.heap.size) (S := fun l => l = L) (Sp := fun l => ∃ t, L = l ++ t)
    (fun W hb => all14_moves (n - 1) (by omega) (w.heap.size + 2) g off cap w0.heap.size A L HL.out.1 HL.out.2 W ((hb.block _ (by have := HS0.out; omega)).trans HV0.out) (HD0.out.kp ⟨fun _ e => hb.block _ e, hb.size⟩))
    (fun h k => h.trans k) (fun h => h.kp) (fun A l o o' hl _ _ _ => kp_put14 (c := W0.heap.size) HSZ.out A l o' hl) (fun A B k o hm hk _ => hm.book hk) (fun _ => rfl)
    (fun s W => Wri14 w0 w base ob (.slice A L.length cap) k c s W) (fun _ W => False) (fun s A B hm h => h.grow hm.below) (fun s A B hm h => h)
    (fun s => Wri14.turns HSZ.out) (fun s A l o o' hl _ _ h => h)
    (fun W hb => ⟨((HB.out.grow HB0.out).grow hb), (hb.block _ (by have := HS0.out; omega)).trans HR0.out, (hb.block _ (by have := HS0.out; omega)).trans HX0.out, HW00.out.trans (hb.mono HSZ.out), by have := HS0.out; have := hb.size; omega⟩)
    (fun d W => { tmps := #[.iface 69 (.pointer (some ⟨ob, 0, none⟩)), .agg #[.slice A L.length cap, .int .i64 k, .int .i64 c], .pointer (some ⟨w.heap.size, 0, none⟩), .pointer (some ⟨w.heap.size + 1, 0, none⟩), .pointer (some ⟨W.heap.size, 0, none⟩), .pointer (some ⟨w.heap.size + 1, 0, none⟩), .slice A L.length cap,
      .func (.func 59) #[] #[.pointer (some ⟨w.heap.size + 2, 0, none⟩)], .agg #[.int .i64 d.1, .int .i64 d.2], undef, undef, undef, undef, undef, undef, undef, undef, undef, undef, undef, undef, undef, undef, undef, undef], defers := [] })
    (fun d W => W.alloc (.cells #[.int .i64 d.1, .int .i64 d.2] 83)) (fun d W => ⟨_, _, rfl⟩) ?assign ?body ?done ?stop
  case assign =>
    rintro l ⟨x, y⟩ W K hK
    obtain ⟨z0, z1⟩ := cells2_14 (heap_alloc_new W (.cells #[.int .i64 0, .int .i64 0] 83))
    gi_wp2
    exact hK
  case body =>
    rintro l s ⟨x, y⟩ W1 W hI1 hI ⟨t, ht⟩ hc hsz
    have hbx := hc _ _ (heap_alloc_new W1 _) rfl
    obtain ⟨bx, hbxe⟩ : ∃ bx, bx = W1.heap.size := ⟨_, rfl⟩
    rw [← hbxe] at hbx ⊢
    dsimp only at hbx ⊢
    have HBX := Lib.hid hbx
    have HI := Lib.hid hI
    obtain ⟨z0, z1⟩ := cells2_14 hbx
    have s0 := cells1_14 hI.snk
    have hm : (x, y) ∈ L := by rw [ht]; simp
    have hok := okD_cases (HOK.out _ hm)
    have hsm : smallI y := by unfold smallI; dsimp only at hok; omega
    have hlen : s.length ≤ 100000 := by have := congrArg List.length ht; simp at this; have := HLL.out; omega
    obtain ⟨q, hq⟩ : ∃ q, q = strOfNums (textA (x, y)) := ⟨_, rfl⟩
    have hqs : q.size ≤ 6 := by rw [hq, str_size14]; exact textA_len hsm
    have HT : Hid (∀ W', Below W.heap.size W W' → Calls Tryd.prog 53 #[.agg #[.int .i64 x, .int .i64 y]] W' (Makes W' (.string q))) := Lib.hid (fun W' hb => by rw [hq]; exact deedText14 x y hsm W' (HE.out.grow (hI.bel.trans (hb.mono hI.bel.size))))
    have HWr : Hid (∀ W', Below W.heap.size W W' → Calls Tryd.prog 94 #[.pointer (some ⟨ob, 0, none⟩), .string (q ++ ⟨#[32]⟩)] W' (WroteDone14 base ob (strOfNums (s.flatMap textD)) (q ++ ⟨#[32]⟩) W')) := Lib.hid (fun W' hb => write14 base ob _ _ W' (hI.grow hb).bld (by
      rw [str_size14, ByteArray.size_append, show (⟨#[32]⟩ : ByteArray).size = 1 from rfl]
      have := texts_len s (fun d hd => HOK.out d (by rw [ht]; simp [hd]))
      omega) (Nat.le_trans HLE.out.2.2 (Nat.le_trans (Nat.le_trans (Nat.le_add_right _ 3) hI.big) hb.size)))
    have HSN : Hid (∀ W', Below W.heap.size W W' → W'.cell? ⟨w.heap.size, 0, none⟩ = some (.iface 69 (.pointer (some ⟨ob, 0, none⟩))) ∧ W'.cell? ⟨bx, 0, none⟩ = some (.int .i64 x) ∧ W'.cell? ⟨bx, 1, none⟩ = some (.int .i64 y)) := Lib.hid (fun W' hb => ⟨cells1_14 (hI.grow hb).snk, cells2_14 (box_below14 hbx hb)⟩)
    have hcat : ¬ (9223372036854775807 : Int) < (q.size : Int) + 1 := by omega
    have hcatN : ¬ (9223372036854775807 : Nat) < q.size + 1 := by omega
    have HD1 := Lib.hid (show Below W.heap.size W W.drew from (Below.refl _ W).drew)
    have hmo : Tryd.prog.follows .mixedOrders = true := by kernel_rfl
    have hdep : 1 ≤ n - 1 - 1 := by omega
    have hna := nil_write14 ob
    have hfw := find_write14 ob
    have HQ := Lib.hid hq
    clear hbxe hbx hI hI1 hc hsz ht hm hok hsm hlen hq hqs
    gi_wp2
    gi_region_with_o (first
      | (refine ⟨trivial, ?_⟩; gi_at_call 53; (with_reducible refine (CallsIn.inRound l (callsIn_wide.2 (HT.out _ HD1.out))).mono ?_); rintro e W2 ⟨rfl, hb⟩; have HB2 := Lib.hid (HD1.out.trans (hb.mono HD1.out.size)); obtain ⟨s2, z20, z21⟩ := HSN.out _ HB2.out; clear hb)
      | (refine ⟨trivial, ?_⟩; gi_at_call 94; (with_reducible refine (CallsIn.inRound l (callsIn_wide.2 (HWr.out _ HB2.out))).mono ?_); rintro e W3 ⟨rfl, hbl, hwb⟩; have HW3 := Lib.hid hwb; have HBL := Lib.hid hbl; clear hbl hwb))
    all_goals
      have HN := Lib.hid (wri_next14 (g := g) HI.out HLE.out.1 HLE.out.2.1 HB2.out (by rw [← HQ.out]; exact HBL.out) HW3.out)
      gi_wp2
      exact ⟨HN.out.2.1, HN.out.2.2, HN.out.1⟩
  case done =>
    intro D ys W hD hS hI hK
    subst hS
    have s0 := cells1_14 hI.snk
    obtain ⟨o0, o1, o2⟩ := cells3_14 hI.out
    have HI := Lib.hid hI
    have HK := Lib.hid hK
    have HDD : Hid (w.heap.size + 3 ≤ D) := Lib.hid (by have := HS0.out; omega)
    obtain ⟨q, hq⟩ : ∃ q, q = strOfNums (textE k c) := ⟨_, rfl⟩
    have hqs : q.size ≤ 10 := by rw [hq, str_size14]; exact textE_len HEK.out
    have HT : Hid (∀ W', Below W.heap.size W W' → Calls Tryd.prog 54 #[.agg #[.int .i64 k, .int .i64 c]] W' (Makes W' (.string q))) := Lib.hid (fun W' hb => by rw [hq]; exact endText14 k c HEK.out W' (HE.out.grow (hI.bel.trans (hb.mono hI.bel.size))))
    have HWr : Hid (∀ W', Below W.heap.size W W' → Calls Tryd.prog 94 #[.pointer (some ⟨ob, 0, none⟩), .string q] W' (WroteDone14 base ob (strOfNums (ys.flatMap textD)) q W')) := Lib.hid (fun W' hb => write14 base ob _ _ W' (hI.grow hb).bld (by
      rw [str_size14]
      have := texts_len ys HOK.out
      have := HLL.out
      omega) (Nat.le_trans HLE.out.2.2 (Nat.le_trans (Nat.le_trans (Nat.le_add_right _ 3) hI.big) hb.size)))
    have HSN : Hid (∀ W', Below W.heap.size W W' → W'.cell? ⟨w.heap.size, 0, none⟩ = some (.iface 69 (.pointer (some ⟨ob, 0, none⟩))) ∧ W'.cell? ⟨w.heap.size + 1, 1, none⟩ = some (.int .i64 k) ∧ W'.cell? ⟨w.heap.size + 1, 2, none⟩ = some (.int .i64 c)) := Lib.hid (fun W' hb => ⟨cells1_14 (hI.grow hb).snk, (cells3_14 (hI.grow hb).out).2⟩)
    have HD1 := Lib.hid (show Below W.heap.size W W.drew from (Below.refl _ W).drew)
    have hmo : Tryd.prog.follows .mixedOrders = true := by kernel_rfl
    have hna := nil_write14 ob
    have hfw := find_write14 ob
    have HQ := Lib.hid hq
    clear hI hK hD hq hqs
    gi_wp2
    refine wpIn_mono (Q := fun e a W' => e = .normal ∧ a.defers = [{ target := .collected D, args := #[] }] ∧ ∃ W2, Below W.heap.size W W2 ∧ Bld14 base ob (strOfNums (ys.flatMap textD) ++ q) W' ∧ Wb14 ob base W2 W') ?_ ?_
    · gi_region_with_o (first
        | (refine ⟨trivial, ?_⟩; gi_at_call 54; (with_reducible refine (callsIn_wide.2 (HT.out _ HD1.out)).mono ?_); rintro e W2 ⟨rfl, hb⟩; have HB2 := Lib.hid (HD1.out.trans (hb.mono HD1.out.size)); obtain ⟨s2, z20, z21⟩ := HSN.out _ HB2.out; clear hb)
        | (refine ⟨trivial, ?_⟩; gi_at_call 94; (with_reducible refine (callsIn_wide.2 (HWr.out _ HB2.out)).mono ?_); rintro e W3 ⟨rfl, hbl, hwb⟩; have HW3 := Lib.hid hwb; have HBL := Lib.hid hbl; clear hbl hwb))
      all_goals exact ⟨rfl, rfl, W2, HB2.out, HBL.out, HW3.out⟩
    · rintro e ⟨tm, df⟩ W3 ⟨rfl, hdf, W2, hb2, hbl, hwb⟩
      dsimp only at hdf
      subst hdf
      have HB2 := Lib.hid hb2
      have HBL := Lib.hid hbl
      have HW3 := Lib.hid hwb
      clear hb2 hbl hwb
      have HI2 := Lib.hid (HI.out.grow HB2.out)
      have HKO := Lib.hid ((below_oth14 HB2.out).trans (wb_oth14 HW3.out HI2.out.bld))
      show bodyPostM Fence.wide n Tryd.prog Tryd.f44 _ .normal _ _
      refine ⟨by simp, .inl ⟨_, _, rfl, run_takeDeferred (HKO.out.same D _ HK.out rfl), ?_⟩⟩
      have hb3 := HW3.out.below HLE.out.1 HLE.out.2.1 HI2.out.bel.size
      have hDs : w0.heap.size ≤ D := by have := HDD.out; have := H0.out.size; omega
      have HPost : Hid (Bld14 base ob (strOfNums (textO ys k c)) (W3.putObj D (.deferred none)) ∧ Below w0.heap.size w0 (W3.putObj D (.deferred none)) ∧ w.heap.size ≤ (W3.putObj D (.deferred none)).heap.size) := Lib.hid (by
        have hk3 : W3.heap[D]? = some (.deferred (some [])) := HKO.out.same D _ HK.out rfl
        have ed : ∀ j, OneBlock D j → j = D := fun j e => e
        refine ⟨?_, But.below (HI2.out.bel.trans hb3) (put_but14 W3 D (.deferred none)) (Nat.le_trans HI2.out.bel.size HW3.out.size) (fun j e => by have := ed j e; omega), ?_⟩
        · have h := HBL.out
          rw [HQ.out, ← str_app14] at h
          exact h.but (put_but14 W3 D (.deferred none)) (fun e => by
            have := ed _ e
            obtain ⟨P, V', a1, _⟩ := h
            rw [this, hk3] at a1
            cases a1) (fun j c hc _ e => by
            have := ed _ e
            subst this
            rw [hk3] at hc
            cases hc)
        · have h1 := HI2.out.big
          have h2 := HW3.out.size
          simp only [World.putObj, Array.size_setIfInBounds]
          omega)
      generalize W3.putObj D (.deferred none) = Wf at *
      exact ⟨.tuple #[], by simp [results, Tryd.results44, go_sem], rfl, HPost.out⟩
  case stop =>
    intro D ys W hD hSp hX hK
    exact hX.elim
theorem writeO14 (V : Value) (L : List (Int × Int)) (k c : Int) (base ob : Nat) (w0 w : World) (hE : Env14 w0) (h0 : Below w0.heap.size w0 w) (hV : IsDeeds w w0.heap.size V L) (hB : Bld14 base ob ⟨#[]⟩ w) (h1b : w0.heap.size ≤ ob) (h2b : w0.heap.size ≤ base) (hbw : base ≤ w.heap.size)
    (hd : ∀ d ∈ L, okD d = true) (he : okE k c = true) (hl : L.length ≤ 100000) :
    Calls Tryd.prog 44 #[.iface 69 (.pointer (some ⟨ob, 0, none⟩)), .agg #[V, .int .i64 k, .int .i64 c]] w fun e w' => e = .returned (.tuple #[]) ∧ Bld14 base ob (strOfNums (textO L k c)) w' ∧ Below w0.heap.size w0 w' ∧ w.heap.size ≤ w'.heap.size :=
  callsIn_wide.1 (write14_in 6 (Nat.le_refl _) V L k c base ob w0 w hE h0 hV hB h1b h2b hbw hd he hl)
end Go.Proofs.YtecbpbkehdmmcaaDoor
