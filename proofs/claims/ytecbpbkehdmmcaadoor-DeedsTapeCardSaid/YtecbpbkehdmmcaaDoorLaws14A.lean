/- One tape in a call's own memory; the statements' own helpers; awake. Contracts; no condition but what each names. -/
import Derived.Test.YtecbpbkehdmmcaaDoorRDeed14B
namespace Go.Proofs.YtecbpbkehdmmcaaDoor
open Go.RowKit Go.Shelf
set_option linter.unusedVariables false
set_option linter.unusedSimpArgs false

theorem Wt14.below {B base tb : Nat} {w w' : World} {X V V' : Value} {xs : List Int} {L : List (Int × Int)} (h : Wt14 tb V V' w w') (hT : Tape14 base w tb X V xs L) (h1 : B ≤ base) (h2 : B ≤ tb) (hw : B ≤ w.heap.size) : Below B w w' :=
  ⟨h.but.os, h.but.tape, h.but.output, h.but.size, fun k hk => h.but.block k (by omega) (by
    rintro (rfl | e)
    · omega
    · have := (typed14 hT.done e).1; omega)⟩
theorem Tape14.lower {base base' tb : Nat} {W : World} {X V : Value} {xs : List Int} {L : List (Int × Int)} (h : Tape14 base W tb X V xs L) (hb : base' ≤ base) : Tape14 base' W tb X V xs L := ⟨h.box, h.left.base' hb, h.done.base hb, h.few⟩
/-- A tape in memory that a call has made since w. -/
structure Tp14 (w W : World) (tb : Nat) (xs : List Int) (L : List (Int × Int)) : Prop where
  tape : ∃ X V, Tape14 w.heap.size W tb X V xs L
  tb : w.heap.size ≤ tb
  bel : Below w.heap.size w W
theorem Tp14.grow {w W W' : World} {tb : Nat} {xs : List Int} {L : List (Int × Int)} (h : Tp14 w W tb xs L) (hb : Below W.heap.size W W') : Tp14 w W' tb xs L := by
  obtain ⟨X, V, ht⟩ := h.tape
  exact ⟨⟨X, V, ht.grow hb⟩, h.tb, h.bel.trans (hb.mono h.bel.size)⟩
theorem Tp14.of_new {w W W' : World} {tb : Nat} {X V : Value} {xs : List Int} {L : List (Int × Int)} (hb : Below w.heap.size w W) (h1 : W.heap.size ≤ tb) (ht : Tape14 W.heap.size W' tb X V xs L) (h2 : Below W.heap.size W W') : Tp14 w W' tb xs L :=
  ⟨⟨X, V, ht.lower hb.size⟩, Nat.le_trans hb.size h1, hb.trans (h2.mono hb.size)⟩
/-- What a call on such a tape leaves. -/
def TpDone (w : World) (tb : Nat) (v : Value) (xs : List Int) (L : List (Int × Int)) (e : Ending) (W' : World) : Prop := e = .returned v ∧ Tp14 w W' tb xs L
theorem tp_of {w W W' : World} {tb : Nat} {X V : Value} {v : Value} {xs ys : List Int} {L M : List (Int × Int)} {e : Ending} (h : Tp14 w W tb xs L) (ht : Tape14 w.heap.size W tb X V xs L) (hd : TapeDone w.heap.size tb W V v ys M e W') : TpDone w tb v ys M e W' := by
  obtain ⟨X', V', rfl, hT, hW⟩ := hd
  exact ⟨rfl, ⟨X', V', hT⟩, h.tb, h.bel.trans (hW.below ht (Nat.le_refl _) h.tb h.bel.size)⟩
theorem tp_get {w W : World} {tb : Nat} {x : Int} {ys : List Int} {L : List (Int × Int)} (h : Tp14 w W tb (x :: ys) L) (hf : L.length < 100000) : Calls Tryd.prog 16 #[.pointer (some ⟨tb, 0, none⟩)] W (TpDone w tb (.tuple #[.int .i64 x, .int .i64 0]) ys (L ++ [(1, x)])) := by
  obtain ⟨X, V, ht⟩ := h.tape
  exact (getMore14 ht h.bel.size hf).mono fun _ _ hd => tp_of h ht hd
theorem tp_end {w W : World} {tb : Nat} {L : List (Int × Int)} (h : Tp14 w W tb [] L) (hf : L.length < 100000) : Calls Tryd.prog 16 #[.pointer (some ⟨tb, 0, none⟩)] W (TpDone w tb (.tuple #[.int .i64 (-1), .int .i64 0]) [] (L ++ [(1, -1)])) := by
  obtain ⟨X, V, ht⟩ := h.tape
  exact (getEnd14 ht h.bel.size hf).mono fun _ _ hd => tp_of h ht hd
theorem tp_put {w W : World} {tb : Nat} {xs : List Int} {L : List (Int × Int)} (h : Tp14 w W tb xs L) (hf : L.length < 100000) (b : Int) : Calls Tryd.prog 14 #[.pointer (some ⟨tb, 0, none⟩), .int .i64 b] W (TpDone w tb (.int .i64 0) xs (L ++ [(2, b % 256)])) := by
  obtain ⟨X, V, ht⟩ := h.tape
  exact (put14 ht h.bel.size hf b).mono fun _ _ hd => tp_of h ht hd
theorem tp_left {w W : World} {tb : Nat} {xs : List Int} {L : List (Int × Int)} (h : Tp14 w W tb xs L) : Calls Tryd.prog 20 #[.pointer (some ⟨tb, 0, none⟩)] W fun e W' => e = .returned (.int .i64 xs.length) ∧ W = W' := by
  obtain ⟨X, V, ht⟩ := h.tape
  exact left14 ht
theorem tp_deeds {w W : World} {tb : Nat} {xs : List Int} {L : List (Int × Int)} (h : Tp14 w W tb xs L) : Calls Tryd.prog 18 #[.pointer (some ⟨tb, 0, none⟩)] W (DeedsDone W L) := by
  obtain ⟨X, V, ht⟩ := h.tape
  exact deeds14 ht
theorem got14 (b : Int) (w : World) : Calls Tryd.prog 32 #[.int .i64 b] w (Makes w (.agg #[.int .i64 1, .int .i64 b])) := by
  go_enter Tryd.func32, Tryd.ntmps32
  go_wp2
  exact bodyPost_ret (v := .agg #[.int .i64 1, .int .i64 b]) (by simp [results, Tryd.results32, go_sem]) rfl ⟨rfl, below_one14 _ _⟩
theorem put'14 (b : Int) (w : World) : Calls Tryd.prog 33 #[.int .i64 b] w (Makes w (.agg #[.int .i64 2, .int .i64 b])) := by
  go_enter Tryd.func33, Tryd.ntmps33
  go_wp2
  exact bodyPost_ret (v := .agg #[.int .i64 2, .int .i64 b]) (by simp [results, Tryd.results33, go_sem]) rfl ⟨rfl, below_one14 _ _⟩
theorem of14 (k c : Int) (A : Option Addr) (n cap : Nat) (w : World) : Calls Tryd.prog 35 #[.int .i64 k, .int .i64 c, .slice A n cap] w (Makes w (.agg #[.slice A n cap, .int .i64 k, .int .i64 c])) := by
  go_enter Tryd.func35, Tryd.ntmps35
  go_wp2
  exact bodyPost_ret (v := .agg #[.slice A n cap, .int .i64 k, .int .i64 c]) (by simp [results, Tryd.results35, go_sem]) rfl ⟨rfl, below_one14 _ _⟩
theorem says14 (V : Value) (L : List (Int × Int)) (k c : Int) (s : ByteArray) (w : World) (hV : IsDeeds w w.heap.size V L) (hE : Env14 w) (hok : okO L k c = true) (hs : strOfNums (textO L k c) = s) :
    Calls Tryd.prog 34 #[.agg #[V, .int .i64 k, .int .i64 c], .string s] w (Makes w (.bool true)) := by
  obtain ⟨A, cap, rfl, hc⟩ := hV.len
  have HB := Lib.hid (below_one14 w (.cells #[.slice A L.length cap, .int .i64 k, .int .i64 c] 47))
  have h := text14 _ L k c _ (hV.grow HB.out) (hE.grow HB.out)
  have e1 : textQ L k c = s := by unfold textQ; rw [if_pos hok, hs]
  have e2 : errO L k c = 0 := by unfold errO; rw [if_pos hok]
  rw [e1, e2] at h
  have HT := Lib.hid h
  obtain ⟨x0, x1, x2⟩ := cells3_14 (heap_alloc_new w (.cells #[.slice A L.length cap, .int .i64 k, .int .i64 c] 47))
  have hss : (s.toList == s.toList) = true := by simp
  clear hV hc h e1 e2 hs hok hE
  generalize L.length = n at *
  go_enter Tryd.func34, Tryd.ntmps34
  go_wp2_with (go_at_call 23; (with_reducible refine HT.out.mono ?_); rintro e w1 ⟨rfl, hb⟩; have HB1 := Lib.hid (HB.out.trans (hb.mono HB.out.size)); clear hb)
  go_ret
  exact ⟨by first | rfl | simp, HB1.out⟩
/-- Deeds that stand written out. -/
theorem lit_deeds14 {W : World} {g n : Nat} {cs : Array Value} {L : List (Int × Int)} (h : W.heap[g]? = some (.cells cs 60 (0, 0))) (hn : n = L.length) (hc : cs.toList = cellsD L) (hl : L.length ≤ 1000) : IsDeeds W W.heap.size (.slice (some ⟨g, 0, none⟩) n n) L := by
  subst hn
  refine ⟨by unfold maxLen; omega, .inr ⟨g, 0, none, L.length, rfl, Nat.le_refl _, fun _ => ⟨rfl, heap_lt h⟩, fun i hi => ?_⟩⟩
  obtain ⟨c1, c2⟩ := cellsD_at L i hi
  rw [← hc, Array.getElem?_toList] at c1 c2
  rw [cell_of_row _ _ _ _ _ _ h, cell_of_row _ _ _ _ _ _ h]
  exact ⟨by rw [Nat.zero_add]; exact c1, by rw [Nat.zero_add]; exact c2⟩
theorem two_bytes14 (w : World) : IsBytes (w.alloc (.cells #[.int .u8 7, .int .u8 8] 5)) (w.alloc (.cells #[.int .u8 7, .int .u8 8] 5)).heap.size (.slice (some ⟨w.heap.size, 0, none⟩) 2 2) [7, 8] := by
  have h := heap_alloc_new w (.cells #[.int .u8 7, .int .u8 8] 5)
  refine ⟨by intro x hx; simp at hx; omega, by unfold maxLen; simp, .inr ⟨⟨w.heap.size, 0, none⟩, 2, rfl, by simp, fun _ => by simp, fun i hi => ?_⟩⟩
  have hi2 : i < 2 := hi
  have e : (⟨w.heap.size, 0, none⟩ : Addr).add i = ⟨w.heap.size, i, none⟩ := by unfold Addr.add; split <;> simp_all
  rw [e, cell_of_row _ _ _ _ _ _ h]
  rcases (show i = 0 ∨ i = 1 by omega) with rfl | rfl <;> rfl
theorem sameLit14 (W : World) (v : Value) (cs : Array Value) (n : Nat) (L : List (Int × Int)) (hv : IsDeeds W W.heap.size v L) (hn : n = L.length) (hc : cs.toList = cellsD L) (hl : L.length ≤ 1000) : Calls Tryd.prog 19 #[v, .slice (some ⟨W.heap.size, 0, none⟩) n n] (W.alloc (.cells cs 60)) fun e w' => e = .returned (.bool true) ∧ Below W.heap.size W w' := by
  refine (sameD_yes _ _ _ _ _ _ (hv.grow (below_one14 W _)) (lit_deeds14 (heap_alloc_new W _) hn hc hl)).mono ?_
  rintro e w' ⟨rfl, q, hw⟩
  exact ⟨rfl, (below_one14 W _).trans ((below_drewN14 hw).mono (by simp))⟩
theorem start14 (w : World) : Calls Tryd.prog 10 #[.slice (some ⟨w.heap.size, 0, none⟩) 2 2] (w.alloc (.cells #[.int .u8 7, .int .u8 8] 5)) fun e W' => ∃ tb, e = .returned (.pointer (some ⟨tb, 0, none⟩)) ∧ Tp14 w W' tb [7, 8] [] := by
  refine (new14 _ [7, 8] _ (two_bytes14 w) (by simp)).mono ?_
  rintro e W' ⟨tb, X, V, rfl, h1, h2, h3⟩
  exact ⟨tb, rfl, Tp14.of_new (below_one14 w _) h1 h2 h3⟩
theorem ok_trap14 : okO [] 2 1 = true := by decide
theorem text_trap14 : strOfNums (textO [] 2 1) = ⟨#[116, 114, 97, 112, 32, 49]⟩ := by decide +kernel
theorem err_exit14 : errO [] 1 256 = 2 := by decide
theorem minus_mod14 : (-1 : Int) % 256 = 255 := by decide
set_option maxRecDepth 100000 in
set_option maxHeartbeats 8000000 in
theorem awake14 (w : World) (hE : Env14 w) : Calls Tryd.prog 11 #[] w (Makes w (.bool true)) := by
  have H0 := Lib.hid (start14 w)
  have HE := Lib.hid (fun W (hb : Below w.heap.size w W) => hE.grow hb)
  have HSY : Hid (∀ W, Below w.heap.size w W → Calls Tryd.prog 34 #[.agg #[.slice none 0 0, .int .i64 2, .int .i64 1], .string ⟨#[116, 114, 97, 112, 32, 49]⟩] W (Makes W (.bool true))) := Lib.hid (fun W hb => says14 _ [] 2 1 _ W (IsDeeds.nil _ _) (hE.grow hb) ok_trap14 text_trap14)
  have HCK : Hid (∀ W, Calls Tryd.prog 25 #[.agg #[.slice none 0 0, .int .i64 1, .int .i64 256]] W (Makes W (.int .i64 2))) := Lib.hid (fun W => by
    have h := check14 (.slice none 0 0) [] 1 256 W (IsDeeds.nil _ _)
    rw [err_exit14] at h
    exact h)
  have HPU : Hid (∀ (W : World) (tb : Nat) (xs : List Int) (L : List (Int × Int)), Tp14 w W tb xs L → L.length < 100000 → Calls Tryd.prog 14 #[.pointer (some ⟨tb, 0, none⟩), .int .i64 (-1)] W (TpDone w tb (.int .i64 0) xs (L ++ [(2, 255)]))) := Lib.hid (fun W tb xs L h hf => by
    have h2 := tp_put h hf (-1)
    rw [minus_mod14] at h2
    exact h2)
  have HSD : Hid (∀ (W : World) (v : Value), IsDeeds W W.heap.size v ([] ++ [(1, 7)] ++ [(2, 255)]) → Calls Tryd.prog 19 #[v, .slice (some ⟨W.heap.size, 0, none⟩) 2 2] (W.alloc (.cells #[.int .i64 1, .int .i64 7, .int .i64 2, .int .i64 255] 60)) fun e w' => e = .returned (.bool true) ∧ Below W.heap.size W w') := Lib.hid (fun W v h => sameLit14 W v _ 2 _ h rfl rfl (by simp))
  clear hE
  go_enter Tryd.func11, Tryd.ntmps11
  go_wp2_with (first
    | (go_at_call 10; (with_reducible refine H0.out.mono ?_); rintro e w1 ⟨tb, rfl, ht⟩; have H1 := Lib.hid ht; clear ht)
    | (go_at_call 16; (with_reducible refine (tp_get H1.out (by simp)).mono ?_); rintro e w2 ⟨rfl, ht⟩; have H2 := Lib.hid ht; clear ht)
    | (go_at_call 14; (with_reducible refine (HPU.out _ _ _ _ H2.out (by simp)).mono ?_); rintro e w3 ⟨rfl, ht⟩; have H3 := Lib.hid ht; clear ht)
    | (go_at_call 20; (with_reducible refine (tp_left H3.out).mono ?_); rintro e w' ⟨rfl, rfl⟩)
    | (go_at_call 18; (with_reducible refine (tp_deeds H3.out).mono ?_); rintro e w4 ⟨v, rfl, ho, hb⟩; have HV4 := Lib.hid (IsDeeds.of_owns ho (Nat.le_refl _)); have HB4 := Lib.hid (H3.out.bel.trans (hb.mono H3.out.bel.size)); clear ho hb)
    | (go_at_call 32; (with_reducible refine (got14 _ _).mono ?_); rintro e w5 ⟨rfl, hb⟩; have HV5 := Lib.hid (HV4.out.grow hb); have HB5 := Lib.hid (HB4.out.trans (hb.mono HB4.out.size)); clear hb)
    | (go_at_call 33; (with_reducible refine (put'14 _ _).mono ?_); rintro e w6 ⟨rfl, hb⟩; have HV6 := Lib.hid (HV5.out.grow hb); have HB6 := Lib.hid (HB5.out.trans (hb.mono HB5.out.size)); clear hb)
    | (go_at_call 19; (with_reducible refine (HSD.out _ _ HV6.out).mono ?_); rintro e w7 ⟨rfl, hb⟩; have HB7 := Lib.hid (HB6.out.trans (hb.mono HB6.out.size)); clear hb)
    | (go_at_call 35; (with_reducible refine (of14 2 1 _ _ _ _).mono ?_); rintro e w8 ⟨rfl, hb⟩; have HB8 := Lib.hid (HB7.out.trans (hb.mono HB7.out.size)); clear hb)
    | (go_at_call 34; (with_reducible refine (HSY.out _ HB8.out).mono ?_); rintro e w9 ⟨rfl, hb⟩; have HB9 := Lib.hid (HB8.out.trans (hb.mono HB8.out.size)); clear hb)
    | (go_at_call 35; (with_reducible refine (of14 1 256 _ _ _ _).mono ?_); rintro e wA ⟨rfl, hb⟩; have HBA := Lib.hid (HB9.out.trans (hb.mono HB9.out.size)); clear hb)
    | (go_at_call 25; (with_reducible refine (HCK.out _).mono ?_); rintro e wB ⟨rfl, hb⟩; have HBB := Lib.hid (HBA.out.trans (hb.mono HBA.out.size)); clear hb))
  go_ret
  exact ⟨rfl, HBB.out⟩
end Go.Proofs.YtecbpbkehdmmcaaDoor
