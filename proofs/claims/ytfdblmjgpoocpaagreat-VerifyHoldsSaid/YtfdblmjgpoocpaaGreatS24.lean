/- Lemmas of Laws12A, Ref12A, Ref12B, Ref12C, each with its own remark. -/
import Derived.Test.YtfdblmjgpoocpaaGreatS20
import Derived.Test.YtfdblmjgpoocpaaGreatS10
import Derived.Test.YtfdblmjgpoocpaaGreatRef08A
import Derived.StillTailTactics
import Derived.Test.YtfdblmjgpoocpaaGreatS21
/- (Laws12A) The statements' own helpers of layer 12: found, of, exit, echo; what is wanted of the landed Find and Check (Verify12). Contracts; no condition but what each names. -/
namespace Go.Proofs.YtfdblmjgpoocpaaGreat
open Go.RowKit Go.Shelf
set_option linter.unusedVariables false
set_option linter.unusedSimpArgs false

def FindDone (w : World) (r : Int × Int × Int) (e : Ending) (w' : World) : Prop := Below w.heap.size w w' ∧ e = .returned (.tuple #[.int .i64 r.1, .int .i64 r.2.1, .int .i64 r.2.2])
/-- What the statements want of the landed Find and Check. -/
structure Verify12 : Prop where
  find : ∀ (D F : Value) (data : List Int) (fs : List FunV) (W : World), IsBytes W W.heap.size D data → IsFuns W W.heap.size F fs → Calls Tryz.prog 11 #[.agg #[D, F]] W (FindDone W (findM ⟨data, fs⟩))
  check : ∀ (D F : Value) (data : List Int) (fs : List FunV) (W : World), IsBytes W W.heap.size D data → IsFuns W W.heap.size F fs → Calls Tryz.prog 13 #[.agg #[D, F]] W (Makes W (.int .i64 (findM ⟨data, fs⟩).2.2))
set_option maxRecDepth 100000 in
set_option maxHeartbeats 8000000 in
theorem found12_yes (S : Verify12) {D F : Value} {data : List Int} {fs : List FunV} {f i e : Int} (hf : findM ⟨data, fs⟩ = (f, i, e)) (w : World) (hD : IsBytes w w.heap.size D data) (hF : IsFuns w w.heap.size F fs) :
    Calls Tryz.prog 17 #[.agg #[D, F], .int .i64 f, .int .i64 i, .int .i64 e] w (Makes w (.bool true)) := by
  obtain ⟨W1, hW1⟩ : ∃ W1, W1 = w.alloc (.cells #[D, F] 25) := ⟨_, rfl⟩
  have hb1 : Below w.heap.size w W1 := by rw [hW1]; exact (Below.refl _ w).alloc (Nat.le_refl _) _
  have hk : W1.heap[w.heap.size]? = some (.cells #[D, F] 25 (0, 0)) := by rw [hW1]; exact heap_alloc_new w _
  have HFI := Lib.hid (S.find D F data fs W1 (hD.grow hb1) (hF.grow hb1))
  have HCH := Lib.hid (fun W (hb : Below W1.heap.size W1 W) => S.check D F data fs W ((hD.grow hb1).grow hb) ((hF.grow hb1).grow hb))
  rw [hf] at HFI HCH
  have HK := Lib.hid hk
  have HB1 := Lib.hid hb1
  obtain ⟨DA, dc, rfl⟩ := hD.len
  obtain ⟨FA, fc, rfl⟩ := hF.len
  generalize data.length = nd at *
  generalize fs.length = nf at *
  have e1 : (f == f) = true := by simp
  have e2 : (i == i) = true := by simp
  have e3 : (e == e) = true := by simp
  clear S hD hF hf hk hb1
  go_enter Tryz.func17, Tryz.ntmps17
  go_wp2_with (first
    | (go_at_call 11; rw [← hW1]; (with_reducible refine HFI.out.mono ?_); rintro e w2 ⟨hb, rfl⟩; have HB2 := Lib.hid hb; obtain ⟨c0, c1⟩ := cells2 (box_below HK.out hb); clear hb)
    | (go_at_call 13; (with_reducible refine (HCH.out w2 HB2.out).mono ?_); rintro e w3 ⟨rfl, hb⟩; have HB3 := Lib.hid (HB1.out.trans ((HB2.out.trans (hb.mono HB2.out.size)).mono HB1.out.size)); clear hb))
  go_ret
  exact ⟨by first | rfl | simp, HB3.out⟩
/-- A function of one register, in a row of its own. -/
structure OneF (W : World) (g : Nat) (p : Int) (C : Value) (l : List InsV) : Prop where
  row : W.heap[g]? = some (.cells #[.int .i64 p, .int .i64 1, .int .i64 0, C] 41 (0, 0))
  cod : IsCode W W.heap.size C l
theorem OneF.grow {W W' : World} {g : Nat} {p : Int} {C : Value} {l : List InsV} (h : OneF W g p C l) (hb : Below W.heap.size W W') : OneF W' g p C l := ⟨box_below h.row hb, h.cod.grow hb⟩
theorem OneF.funs {W : World} {g : Nat} {p : Int} {C : Value} {l : List InsV} (h : OneF W g p C l) (hp : InI p) : IsFuns W W.heap.size (.slice (some ⟨g, 0, none⟩) 1 1) [⟨p, 1, 0, l⟩] := by
  refine ⟨by unfold maxLen; simp, fun f hf => ?_, .inr ⟨g, 0, 1, rfl, Nat.le_refl _, heap_lt h.row, fun i hi => ⟨C, ?_, fun j hj => ?_⟩⟩⟩
  · simp at hf
    subst hf
    exact ⟨hp, show InI 1 by unfold InI; decide, show InI 0 by unfold InI; decide⟩
  · obtain rfl : i = 0 := by simpa using hi
    exact h.cod
  · obtain rfl : i = 0 := by simpa using hi
    obtain ⟨c0, c1, c2, c3⟩ := cells4 h.row
    rcases (show j = 0 ∨ j = 1 ∨ j = 2 ∨ j = 3 by omega) with rfl | rfl | rfl | rfl
    · exact c0
    · exact c1
    · exact c2
    · exact c3
theorem bytes_none (W : World) : IsBytes W W.heap.size (.slice none 0 0) [] := ⟨by simp, by simp, .inl ⟨rfl, rfl⟩⟩
theorem OneF.found (S : Verify12) {W : World} {g : Nat} {p f i e : Int} {C : Value} {l : List InsV} (h : OneF W g p C l) (hp : InI p) (hf : findM ⟨[], [⟨p, 1, 0, l⟩]⟩ = (f, i, e)) :
    Calls Tryz.prog 17 #[.agg #[.slice none 0 0, .slice (some ⟨g, 0, none⟩) 1 1], .int .i64 f, .int .i64 i, .int .i64 e] W (Makes W (.bool true)) :=
  found12_yes S hf W (bytes_none W) (h.funs hp)
def OfDone (w : World) (C : Value) (l : List InsV) (e : Ending) (w' : World) : Prop := ∃ g, e = .returned (.agg #[.slice none 0 0, .slice (some ⟨g, 0, none⟩) 1 1]) ∧ OneF w' g 0 C l ∧ w.heap.size ≤ g ∧ Below w.heap.size w w'
set_option maxRecDepth 100000 in
set_option maxHeartbeats 4000000 in
theorem of12_any (A : Option Addr) (n c : Nat) (l : List InsV) (w : World) (hC : IsCode w w.heap.size (.slice A n c) l) : Calls Tryz.prog 15 #[.slice A n c] w (OfDone w (.slice A n c) l) := by
  have HC := Lib.hid hC
  clear hC
  go_enter Tryz.func15, Tryz.ntmps15
  go_wp2
  have ha : Below w.heap.size w (w.alloc (.cells #[.slice none 0 0, .slice (some ⟨w.heap.size + 1, 0, none⟩) 1 1] 25)) := (Below.refl _ w).alloc (Nat.le_refl _) _
  have hb : Below w.heap.size w ((w.alloc (.cells #[.slice none 0 0, .slice (some ⟨w.heap.size + 1, 0, none⟩) 1 1] 25)).alloc (.cells #[.int .i64 0, .int .i64 1, .int .i64 0, .slice A n c] 41)) := ha.alloc (by simp) _
  have hk : ((w.alloc (.cells #[.slice none 0 0, .slice (some ⟨w.heap.size + 1, 0, none⟩) 1 1] 25)).alloc (.cells #[.int .i64 0, .int .i64 1, .int .i64 0, .slice A n c] 41)).heap[w.heap.size]? = some (.cells #[.slice none 0 0, .slice (some ⟨w.heap.size + 1, 0, none⟩) 1 1] 25 (0, 0)) := by
    rw [Below.heap_alloc _ _ _ (by simp)]
    exact heap_alloc_new w _
  have hr := heap_alloc_new (w.alloc (.cells #[.slice none 0 0, .slice (some ⟨w.heap.size + 1, 0, none⟩) 1 1] 25)) (.cells #[.int .i64 0, .int .i64 1, .int .i64 0, .slice A n c] 41)
  rw [World.size_alloc] at hr
  obtain ⟨c0, c1⟩ := cells2 hk
  refine bodyPost_ret (v := .agg #[.slice none 0 0, .slice (some ⟨w.heap.size + 1, 0, none⟩) 1 1]) (by simp [results, Tryz.results15, go_sem, c0, c1]) rfl ?_
  exact ⟨w.heap.size + 1, rfl, ⟨hr, HC.out.grow hb⟩, by omega, hb⟩
theorem exit12_any (w : World) : Calls Tryz.prog 16 #[] w fun e w' => e = .returned (.agg (insCells 32 0 0 0 0 (.slice none 0 0))) ∧ Below w.heap.size w w' := by
  go_enter Tryz.func16, Tryz.ntmps16
  go_wp2
  have hk := heap_alloc_new w (.cells #[.int .i64 32, .int .i64 0, .int .i64 0, .int .i64 0, .int .i64 0, .slice none 0 0] 37)
  have c0 := cell_of_row _ w.heap.size 0 _ _ _ hk
  have c1 := cell_of_row _ w.heap.size 1 _ _ _ hk
  have c2 := cell_of_row _ w.heap.size 2 _ _ _ hk
  have c3 := cell_of_row _ w.heap.size 3 _ _ _ hk
  have c4 := cell_of_row _ w.heap.size 4 _ _ _ hk
  have c5 := cell_of_row _ w.heap.size 5 _ _ _ hk
  refine bodyPost_ret (v := .agg #[.int .i64 32, .int .i64 0, .int .i64 0, .int .i64 0, .int .i64 0, .slice none 0 0]) (by simp [results, Tryz.results16, go_sem, c0, c1, c2, c3, c4, c5]) rfl ?_
  exact ⟨rfl, (Below.refl _ w).alloc (Nat.le_refl _) _⟩
end Go.Proofs.YtfdblmjgpoocpaaGreat

/- (Ref12A) The document's own verify: instruction, function. Contracts; no condition but what each names. -/
namespace Go.Proofs.YtfdblmjgpoocpaaGreat
open Go.RowKit Go.Shelf
set_option linter.unusedVariables false
set_option linter.unusedSimpArgs false

set_option maxRecDepth 100000 in
set_option maxHeartbeats 16000000 in
theorem rins12_any (D F : Value) (data : List Int) (fs : List FunV) (op a b c n : Int) (X : Value) (args : List Int) (w : World) (hD : IsBytes w w.heap.size D data) (hF : IsFuns w w.heap.size F fs) (hX : IsNums .i64 w w.heap.size X args) (hn : op = 28 → 0 ≤ n) :
    Calls Tryz.prog 47 #[.agg #[D, F], .agg (insCells op a b c n X)] w (Makes w (.int .i64 (insE ⟨data, fs⟩ ⟨op, a, b, c, n, args⟩))) := by
  obtain ⟨DA, dc, rfl⟩ := hD.len
  obtain ⟨FA, fc, rfl⟩ := hF.len
  obtain ⟨XA, xc, rfl⟩ := hX.len
  have HB := Lib.hid (((Below.refl w.heap.size w).alloc (Nat.le_refl _) (.cells #[.slice DA data.length dc, .slice FA fs.length fc] 25)).alloc (by simp) (.cells (insCells op a b c n (.slice XA args.length xc)) 37))
  have HD := Lib.hid hD
  have HF := Lib.hid hF
  have HE : Hid (insE ⟨data, fs⟩ ⟨op, a, b, c, n, args⟩ = if op = 28 ∧ (fs.length : Int) ≤ n then 13 else if op = 28 ∧ (args.length : Int) ≠ (fs.getD n.toNat .zero).params then 2 else if op = 24 ∧ (data.length : Int) < n then 5 else 0) := Lib.hid rfl
  obtain ⟨nf, hnf⟩ : ∃ nf, nf = fs.length := ⟨_, rfl⟩
  obtain ⟨nd, hnd⟩ : ∃ nd, nd = data.length := ⟨_, rfl⟩
  obtain ⟨na, hna⟩ : ∃ na, na = args.length := ⟨_, rfl⟩
  have HNF := Lib.hid hnf
  rw [← hnf, ← hnd, ← hna] at HE
  rw [← hnf, ← hnd, ← hna] at HB
  rw [← hnf, ← hnd, ← hna]
  generalize insE ⟨data, fs⟩ ⟨op, a, b, c, n, args⟩ = z at *
  by_cases h28 : op = 28
  · subst h28
    have n0 := hn rfl
    by_cases hge : (nf : Int) ≤ n
    · have HZ : Hid (z = 13) := Lib.hid (by rw [HE.out, if_pos ⟨rfl, hge⟩])
      clear hn hD hF hX hnf hnd hna
      go_enter Tryz.func47, Tryz.ntmps47
      go_wp2
      go_ret
      exact ⟨by rw [HZ.out]; rfl, HB.out⟩
    · have hlt : n < (nf : Int) := by omega
      obtain ⟨k, rfl⟩ : ∃ k : Nat, n = k := ⟨n.toNat, by omega⟩
      rw [Int.toNat_natCast] at HE
      have hk : k < fs.length := by omega
      obtain ⟨fb, fo, fc2, hV, _, hfb, hfc⟩ := hF.plain (by omega)
      rw [← hnf] at hV
      cases hV
      obtain ⟨C, hC, hcell⟩ := hfc k hk
      have f0 := (HB.out.cell (p := ⟨fb, fo + k * 4, none⟩) hfb).trans (hcell 0 (by omega))
      replace f0 : _ = some (Value.int .i64 (fs.getD k .zero).params) := f0
      have k0 : (0 : Int) ≤ (k : Int) := n0
      generalize (fs.getD k .zero).params = pr at *
      clear hn hD hF hX hnf hnd hna hcell hfc hC
      by_cases hne : (na : Int) ≠ pr
      · have HZ : Hid (z = 2) := Lib.hid (by rw [HE.out, if_neg (fun hc => hge hc.2), if_pos ⟨rfl, hne⟩])
        have t1 : ((na : Int) != pr) = true := by simpa using hne
        go_enter Tryz.func47, Tryz.ntmps47
        go_wp2
        go_quiet (fail)
        go_wp2
        go_ret
        exact ⟨by rw [HZ.out]; rfl, below_drewN HB.out _⟩
      · have hpr : pr = (na : Int) := by omega
        subst hpr
        have HZ : Hid (z = 0) := Lib.hid (by rw [HE.out, if_neg (fun hc => hge hc.2), if_neg (fun hc => hne hc.2), if_neg (fun hc => by have := hc.1; omega)])
        clear hne
        go_enter Tryz.func47, Tryz.ntmps47
        go_wp2
        go_quiet (fail)
        go_wp2
        go_ret
        exact ⟨by rw [HZ.out]; rfl, below_drewN HB.out _⟩
  · have t28 : (op == 28) = false := by simpa using h28
    by_cases h24 : op = 24 ∧ (nd : Int) < n
    · obtain ⟨rfl, hgt⟩ := h24
      have HZ : Hid (z = 5) := Lib.hid (by rw [HE.out, if_neg (fun hc => h28 hc.1), if_neg (fun hc => h28 hc.1), if_pos ⟨rfl, hgt⟩])
      clear hn hD hF hX hnf hnd hna
      go_enter Tryz.func47, Tryz.ntmps47
      go_wp2
      go_quiet (fail)
      go_wp2
      go_ret
      exact ⟨by rw [HZ.out]; rfl, below_drewN HB.out _⟩
    · have HZ : Hid (z = 0) := Lib.hid (by rw [HE.out, if_neg (fun hc => h28 hc.1), if_neg (fun hc => h28 hc.1), if_neg h24])
      clear hn hD hF hX hnf hnd hna
      by_cases h5 : op = 24
      · subst h5
        have hle : ¬ (nd : Int) < n := fun hc => h24 ⟨rfl, hc⟩
        go_enter Tryz.func47, Tryz.ntmps47
        go_wp2
        go_quiet (fail)
        go_wp2
        go_ret
        exact ⟨by rw [HZ.out]; rfl, below_drewN HB.out _⟩
      · have t24 : (op == 24) = false := by simpa using h5
        go_enter Tryz.func47, Tryz.ntmps47
        go_wp2
        go_quiet (fail)
        go_wp2
        go_ret
        exact ⟨by rw [HZ.out]; rfl, below_drewN HB.out _⟩
end Go.Proofs.YtfdblmjgpoocpaaGreat

/- (Ref12B) The document's own verify: function, Find. Contracts; no condition but that the instructions are few. -/
namespace Go.Proofs.YtfdblmjgpoocpaaGreat
open Go.RowKit Go.Shelf
set_option linter.unusedVariables false
set_option linter.unusedSimpArgs false

theorem down12 {k n : Nat} (h : k < n) : n - (intOf (.int .i64 ((k : Int) + 1))).toNat < n - (intOf (.int .i64 (k : Int))).toNat := by
  simp [intOf]
  omega
theorem down12w {k n : Nat} (h : k < n) (e : wrap64 ((k : Int) + 1) = (k : Int) + 1) : n - (intOf (.int .i64 (wrap64 ((k : Int) + 1)))).toNat < n - (intOf (.int .i64 (k : Int))).toNat := by
  rw [e]
  exact down12 h
def FunDone12 (w : World) (r : Int × Int) (e : Ending) (w' : World) : Prop := Below w.heap.size w w' ∧ e = .returned (.tuple #[.int .i64 r.1, .int .i64 r.2])
set_option maxRecDepth 100000 in
set_option maxHeartbeats 16000000 in
theorem rfun12_any (D F : Value) (data : List Int) (fs : List FunV) (p rg ar : Int) (A : Option Addr) (n cap : Nat) (l : List InsV) (w : World) (hD : IsBytes w w.heap.size D data) (hF : IsFuns w w.heap.size F fs) (hn : n = l.length)
    (hC : IsCode w w.heap.size (.slice A n cap) l) (hs : n ≤ 1000) (hp : ¬ badP p) (hy : ∀ y ∈ l, y.op = 28 → 0 ≤ y.n) :
    Calls Tryz.prog 30 #[.agg #[D, F], .agg #[.int .i64 p, .int .i64 rg, .int .i64 ar, .slice A n cap]] w (FunDone12 w (funW ⟨data, fs⟩ ⟨p, rg, ar, l⟩)) := by
  obtain ⟨DA, dc, hDe⟩ := hD.len
  obtain ⟨FA, fc, hFe⟩ := hF.len
  obtain ⟨W1, hW1⟩ : ∃ W1, W1 = (w.alloc (.cells #[D, F] 25)).alloc (.cells #[.int .i64 p, .int .i64 rg, .int .i64 ar, .slice A n cap] 41) := ⟨_, rfl⟩
  have hb1 : Below w.heap.size w W1 := by rw [hW1]; exact ((Below.refl _ w).alloc (Nat.le_refl _) _).alloc (by simp) _
  have k0 : W1.heap[w.heap.size]? = some (.cells #[D, F] 25 (0, 0)) := by
    rw [hW1, Below.heap_alloc _ _ _ (by simp)]
    exact heap_alloc_new w _
  have k1 : W1.heap[w.heap.size + 1]? = some (.cells #[.int .i64 p, .int .i64 rg, .int .i64 ar, .slice A n cap] 41 (0, 0)) := by
    rw [hW1]
    have := heap_alloc_new (w.alloc (.cells #[D, F] 25)) (.cells #[.int .i64 p, .int .i64 rg, .int .i64 ar, .slice A n cap] 41)
    rw [World.size_alloc] at this
    exact this
  have HK0 := Lib.hid k0
  have HK1 := Lib.hid k1
  have HB1 := Lib.hid hb1
  have HN := Lib.hid hn
  have HCC := Lib.hid hC
  have HCW := Lib.hid (fun W (hb : Below w.heap.size w W) => hC.grow hb)
  have HCK := Lib.hid (rCheck_any A n cap l W1 hn (hC.grow hb1) hs)
  have HUN := Lib.hid (fun W (hb : Below w.heap.size w W) => rUnset11_any A n cap l p W hn (hC.grow hb) hs)
  have HIN := Lib.hid (fun (y : InsV) X W (hb : Below w.heap.size w W) (hX : IsNums .i64 W W.heap.size X y.args) (hm : y ∈ l) => rins12_any D F data fs y.op y.a y.b y.c y.n X y.args W (hD.grow hb) (hF.grow hb) hX (hy y hm))
  have HPB := Lib.hid hp
  have hnI : (n : Int) ≤ 1000 := by omega
  obtain ⟨c0, c1⟩ := cells2 k0
  obtain ⟨d0, d1, d2, d3⟩ := cells4 k1
  subst hDe hFe
  generalize hnd : data.length = nd at *
  generalize hnf : fs.length = nf at *
  by_cases h0 : check10 l = 0
  · have H0 := Lib.hid h0
    rw [h0] at HCK
    have HFU := Lib.hid (fun (h1 : ∀ j, j < l.length → insE ⟨data, fs⟩ (l.getD j .zero) = 0) => funW_uns (m := ⟨data, fs⟩) (f := ⟨p, rg, ar, l⟩) h0 h1)
    have HFI := Lib.hid (fun a h1 ha h2 => funW_ins (m := ⟨data, fs⟩) (f := ⟨p, rg, ar, l⟩) (a := a) h0 h1 ha h2)
    dsimp only at HFU HFI
    generalize funW ⟨data, fs⟩ ⟨p, rg, ar, l⟩ = z at *
    clear hD hF hC hn hs hp hy hb1 k0 k1 h0 hnd hnf
    go_enter Tryz.func30, Tryz.ntmps30
    go_wp2_with (go_at_call 46; rw [← hW1]; (with_reducible refine HCK.out.mono ?_); rintro e w2 ⟨rfl, hb⟩; have HB2 := Lib.hid hb; clear hb)
    clear hW1
    go_loopw [7] (fun v wr => ∃ k : Nat, k ≤ n ∧ v = .int .i64 k ∧ Hid (Below W1.heap.size W1 wr ∧ ∀ j, j < k → insE ⟨data, fs⟩ (l.getD j .zero) = 0)) (fun v _ => n - (intOf v).toNat)
    case atStart => exact ⟨0, by omega, rfl, HB2.out, fun j hj => absurd hj (by omega)⟩
    case round =>
      obtain ⟨k, hk, rfl, HR⟩ := hrel
      have HBR := Lib.hid (HB1.out.trans (HR.out.1.mono HB1.out.size))
      obtain ⟨c0, c1⟩ := cells2 (box_below HK0.out HR.out.1)
      obtain ⟨d0, d1, d2, d3⟩ := cells4 (box_below HK1.out HR.out.1)
      by_cases hlt : k < n
      · have hadd : wrap64 ((k : Int) + 1) = (k : Int) + 1 := by unfold wrap64; omega
        have k0 : (0 : Int) ≤ (k : Int) := by omega
        have k1 : (k : Int) < (n : Int) := by omega
        have hkl : k < l.length := by rw [← HN.out]; exact hlt
        obtain ⟨cb, co, op, ca, b1, c, n1, args, YA, Yc, hA, hyy, hin, hcc⟩ := code_cells HCC.out HN.out hlt
        cases hA
        obtain ⟨hX, e0, e1, e2, e3, e4, e5⟩ := hcc wr HBR.out
        have hmem : l.getD k .zero ∈ l := by rw [List.getD, List.getElem?_eq_getElem hkl]; exact List.getElem_mem hkl
        have hins := HIN.out (l.getD k .zero) (.slice YA args.length Yc) wr.drew HBR.out.drew (by rw [hyy]; exact hX.of_block (fun _ _ => rfl)) hmem
        have HINS : Hid (Calls Tryz.prog 47 #[.agg #[.slice DA nd dc, .slice FA nf fc], .agg (insCells op ca b1 c n1 (.slice YA args.length Yc))] wr.drew (Makes wr.drew (.int .i64 (insE ⟨data, fs⟩ (l.getD k .zero))))) := Lib.hid (by
          rw [hyy] at hins ⊢
          exact hins)
        have HFK : Hid (insE ⟨data, fs⟩ (l.getD k .zero) ≠ 0 → z = ((k : Int), insE ⟨data, fs⟩ (l.getD k .zero))) := Lib.hid (fun h2 => HFI.out k HR.out.2 hkl h2)
        have HNX : Hid (insE ⟨data, fs⟩ (l.getD k .zero) = 0 → ∀ j, j < k + 1 → insE ⟨data, fs⟩ (l.getD j .zero) = 0) := Lib.hid (fun h2 j hj => by
          by_cases e : j = k
          · subst e; exact h2
          · exact HR.out.2 j (by omega))
        generalize insE ⟨data, fs⟩ (l.getD k .zero) = ge at *
        have HLT := Lib.hid hlt
        clear hins hmem hyy hin hcc hX hkl hlt
        by_cases hge : ge = 0
        · have HN1 := Lib.hid (HNX.out hge)
          subst hge
          go_wp2
          go_still_tail 6, (by kernel_rfl)
          go_wp2_with (go_at_call 47; (with_reducible refine HINS.out.mono ?_); rintro e w5 ⟨rfl, hb⟩; have HB5 := Lib.hid (HR.out.1.drew.trans (hb.mono HR.out.1.size)); clear hb)
          go_roundw
          case rel => exact ⟨k + 1, HLT.out, by go_num, HB5.out, HN1.out⟩
          case measure => first | exact down12 HLT.out | exact down12w HLT.out hadd
        · have HZ := Lib.hid (HFK.out hge)
          have hne : (ge != 0) = true := by simpa using hge
          go_wp2
          go_still_tail 6, (by kernel_rfl)
          go_wp2_with (go_at_call 47; (with_reducible refine HINS.out.mono ?_); rintro e w5 ⟨rfl, hb⟩; have HB5 := Lib.hid (HB1.out.trans ((HR.out.1.drew.trans (hb.mono HR.out.1.size)).mono HB1.out.size)); clear hb)
          go_ret2
          exact ⟨HB5.out, by rw [HZ.out]; rfl⟩
      · obtain rfl : k = n := by omega
        have HZ := Lib.hid (HFU.out (by rw [← HN.out]; exact HR.out.2))
        have HUW := Lib.hid ((HUN.out wr HBR.out).mono fun e w' hh => And.intro hh.1 ((hh.2.resolve_left (fun h => HPB.out h.1)).resolve_left (fun h => h.2.1 H0.out)).2.2)
        go_wp2_with (go_at_call 48; (with_reducible refine HUW.out.mono ?_); rintro e w5 ⟨hb, i, r, rfl, hu⟩; have HB5 := Lib.hid (HBR.out.trans (hb.mono HBR.out.size)); have HI := Lib.hid hu.fst; clear hb hu)
        · have hi0 : 0 ≤ i := by assumption
          go_ret2
          exact ⟨HB5.out, by rw [HZ.out, ← HI.out, if_pos hi0]; rfl⟩
        · have hi0 : ¬ 0 ≤ i := by have : i < 0 := by assumption
                                   omega
          go_ret2
          exact ⟨HB5.out, by rw [HZ.out, ← HI.out, if_neg hi0]; rfl⟩
  · have HZ := Lib.hid (funW_check (m := ⟨data, fs⟩) (f := ⟨p, rg, ar, l⟩) h0)
    have hne : (check10 l != 0) = true := by simpa using h0
    dsimp only at HZ
    generalize funW ⟨data, fs⟩ ⟨p, rg, ar, l⟩ = z at *
    generalize check10 l = q at *
    clear hD hF hC hn hs hp hy hb1 k0 k1 h0 HUN HIN
    go_enter Tryz.func30, Tryz.ntmps30
    go_wp2_with (go_at_call 46; rw [← hW1]; (with_reducible refine HCK.out.mono ?_); rintro e w2 ⟨rfl, hb⟩; have HB2 := Lib.hid (HB1.out.trans (hb.mono HB1.out.size)); clear hb)
    go_ret2
    exact ⟨HB2.out, by rw [HZ.out]; rfl⟩
end Go.Proofs.YtfdblmjgpoocpaaGreat

/- (Ref12C) The document's own Find of layer 12. Contract; no condition but that the instructions are few. -/
namespace Go.Proofs.YtfdblmjgpoocpaaGreat
open Go.RowKit Go.Shelf
set_option linter.unusedVariables false
set_option linter.unusedSimpArgs false

theorem wrap_up12 {k : Nat} (h : k ≤ 100000) : wrap64 ((k : Int) + 1) = (k : Int) + 1 := by unfold wrap64; omega
theorem fun_facts {m : ModV} (h : m.err = 0) {k : Nat} (hk : k < m.funcs.length) : ¬ badP (m.funcs.getD k .zero).params ∧ ∀ y ∈ (m.funcs.getD k .zero).code, y.op = 28 → 0 ≤ y.n := by
  obtain ⟨e1, e2, e3⟩ := err_funs h
  have hmem : m.funcs.getD k .zero ∈ m.funcs := by rw [List.getD, List.getElem?_eq_getElem hk]; exact List.getElem_mem hk
  obtain ⟨h1, h2⟩ := fun_ins (mem_err e3 _ hmem)
  have h3 := of_decide_eq_true h1
  refine ⟨by unfold badP; omega, fun y hy ho => ?_⟩
  obtain ⟨i, hi, rfl⟩ := List.getElem_of_mem hy
  have := h2 i hi
  rw [List.getD, List.getElem?_eq_getElem hi] at this
  exact (call_nn this ho).1
set_option maxRecDepth 100000 in
set_option maxHeartbeats 16000000 in
theorem rfind12_any (D F : Value) (data : List Int) (fs : List FunV) (w : World) (hD : IsBytes w w.heap.size D data) (hF : IsFuns w w.heap.size F fs) (hs : ∀ f ∈ fs, f.code.length ≤ 1000) (hns : fs.length ≤ 1000) :
    Calls Tryz.prog 12 #[.agg #[D, F]] w (FindDone w (findM ⟨data, fs⟩)) := by
  obtain ⟨W1, hW1⟩ : ∃ W1, W1 = w.alloc (.cells #[D, F] 25) := ⟨_, rfl⟩
  have hb1 : Below w.heap.size w W1 := by rw [hW1]; exact (Below.refl _ w).alloc (Nat.le_refl _) _
  have k0 : W1.heap[w.heap.size]? = some (.cells #[D, F] 25 (0, 0)) := by rw [hW1]; exact heap_alloc_new w _
  have HK0 := Lib.hid k0
  have HB1 := Lib.hid hb1
  have HCK := Lib.hid (rcheck8_any D F data fs W1 (hD.grow hb1) (hF.grow hb1) hs)
  have HFU := Lib.hid (fun (p rg ar : Int) A n cap l W (hb : Below w.heap.size w W) hn hC h1 h2 h3 => rfun12_any D F data fs p rg ar A n cap l W (hD.grow hb) (hF.grow hb) hn hC h1 h2 h3)
  have HFW := Lib.hid (fun W (hb : Below w.heap.size w W) => hF.grow hb)
  have HS := Lib.hid hs
  obtain ⟨DA, dc, hDe⟩ := hD.len
  obtain ⟨FA, fc, hFe⟩ := hF.len
  by_cases h0 : (ModV.mk data fs).err = 0
  · have H0 := Lib.hid h0
    have hpos : 0 < fs.length := by
      have := (err_funs h0).2.1
      have := of_decide_eq_true this
      dsimp only at this
      omega
    rw [h0] at HCK
    obtain ⟨fb, fo, cap, hFv, hcap, hfB, hfc⟩ := (hF.grow hb1).plain hpos
    obtain ⟨C0, hC0, hc0⟩ := hfc 0 hpos
    have q0 : _ = some (Value.int .i64 (fs.getD 0 .zero).params) := hc0 0 (by omega)
    rw [Nat.zero_mul, Nat.add_zero] at q0
    have HQ0 := Lib.hid (fun W (hb : Below W1.heap.size W1 W) => (hb.cell (p := ⟨fb, fo, none⟩) hfB).trans q0)
    subst hFv hDe
    have HPA := Lib.hid (fun h1 => findM_par (m := ⟨data, fs⟩) h0 h1)
    have HOK := Lib.hid (fun h1 h2 => findM_ok (m := ⟨data, fs⟩) h0 h1 h2)
    have HBA := Lib.hid (fun k h1 h2 hk h3 => findM_fun (m := ⟨data, fs⟩) (k := k) h0 h1 h2 hk h3)
    dsimp only at HPA HOK HBA
    generalize findM ⟨data, fs⟩ = z at *
    obtain ⟨nf, hnf⟩ : ∃ nf, nf = fs.length := ⟨_, rfl⟩
    have HNF := Lib.hid hnf
    rw [← hnf] at hW1 HK0 HCK HFU HOK HBA hns hpos HFW ⊢
    have hnI : (nf : Int) ≤ 1000 := by omega
    have hnp : (0 : Int) < (nf : Int) := by omega
    generalize hnd : data.length = nd at *
    have HPR : Hid (∀ x, (fs.getD 0 .zero).params = x → (fs.getD 0 .zero).params = x) := Lib.hid (fun _ h => h)
    by_cases hpar : 0 < (fs.getD 0 .zero).params
    · have HZ := Lib.hid (HPA.out hpar)
      generalize (fs.getD 0 .zero).params = pr at *
      clear hD hF hs hb1 k0 h0 q0 hc0 hC0 hfc hnf HPA HOK HBA HFU HPR
      go_enter Tryz.func12, Tryz.ntmps12
      go_wp2_with (go_at_call 29; rw [← hW1]; (with_reducible refine HCK.out.mono ?_); rintro e w2 ⟨rfl, hb⟩; have HB2 := Lib.hid (HB1.out.trans (hb.mono HB1.out.size)); obtain ⟨c0, c1⟩ := cells2 (box_below HK0.out hb); have q1 := HQ0.out w2 hb; clear hb)
      go_ret3
      exact ⟨HB2.out, by rw [HZ.out]; rfl⟩
    · have HPN := Lib.hid hpar
      have hpr : ¬ (fs.getD 0 .zero).params > 0 := hpar
      generalize hpe : (fs.getD 0 .zero).params = pr at *
      clear hD hF hs hb1 k0 h0 q0 hc0 hC0 hfc hnf HPA HPR
      go_enter Tryz.func12, Tryz.ntmps12
      go_wp2_with (go_at_call 29; rw [← hW1]; (with_reducible refine HCK.out.mono ?_); rintro e w2 ⟨rfl, hb⟩; have HB2 := Lib.hid hb; obtain ⟨c0, c1⟩ := cells2 (box_below HK0.out hb); have q1 := HQ0.out w2 hb; clear hb)
      clear hW1 q1
      go_loopw [6] (fun v wr => ∃ k : Nat, k ≤ nf ∧ v = .int .i64 k ∧ Hid (Below W1.heap.size W1 wr ∧ ∀ j, j < k → (funW ⟨data, fs⟩ (fs.getD j .zero)).2 = 0)) (fun v _ => nf - (intOf v).toNat)
      case atStart => exact ⟨0, by omega, rfl, HB2.out, fun j hj => absurd hj (by omega)⟩
      case round =>
        obtain ⟨k, hk, rfl, HR⟩ := hrel
        have HBR := Lib.hid (HB1.out.trans (HR.out.1.mono HB1.out.size))
        obtain ⟨c0, c1⟩ := cells2 (box_below HK0.out HR.out.1)
        by_cases hlt : k < nf
        · have HADD := Lib.hid (wrap_up12 (k := k) (Nat.le_trans hk (Nat.le_trans hns (by decide))))
          have k0 : (0 : Int) ≤ (k : Int) := Int.natCast_nonneg k
          have k1 : (k : Int) < (nf : Int) := Int.ofNat_lt.mpr hlt
          have hkl : k < fs.length := by rw [← HNF.out]; exact hlt
          have hfw := HFW.out wr HBR.out
          rw [HNF.out] at hfw
          obtain ⟨fb', fo', cap', hFv, _, hl2, hfk⟩ := hfw.plain (Nat.lt_of_le_of_lt (Nat.zero_le _) hkl)
          simp only [Value.slice.injEq, Option.some.injEq, Addr.mk.injEq, and_true, true_and] at hFv
          obtain ⟨⟨rfl, rfl⟩, rfl⟩ := hFv
          obtain ⟨C, hC, hcl⟩ := hfk k hkl
          have f0 : _ = some (Value.int .i64 (fs.getD k .zero).params) := hcl 0 (by decide)
          have f1 : _ = some (Value.int .i64 (fs.getD k .zero).regs) := hcl 1 (by decide)
          have f2 : _ = some (Value.int .i64 (fs.getD k .zero).area) := hcl 2 (by decide)
          have f3 : _ = some C := hcl 3 (by decide)
          rw [Nat.add_zero] at f0
          obtain ⟨CA, cc, rfl⟩ := hC.len
          have hmem : fs.getD k .zero ∈ fs := by rw [List.getD, List.getElem?_eq_getElem hkl]; exact List.getElem_mem hkl
          obtain ⟨g1, g2⟩ := fun_facts (m := ⟨data, fs⟩) H0.out hkl
          have HFK := Lib.hid (HFU.out (fs.getD k .zero).params (fs.getD k .zero).regs (fs.getD k .zero).area CA _ cc (fs.getD k .zero).code wr.drew HBR.out.drew rfl (hC.but (But.refl (fun _ => False) wr).drew (Nat.le_refl _) (fun _ _ h => h)) (HS.out _ hmem) g1 g2)
          have HZB : Hid ((funW ⟨data, fs⟩ (fs.getD k .zero)).2 ≠ 0 → z = ((k : Int), funW ⟨data, fs⟩ (fs.getD k .zero))) := Lib.hid (fun h3 => HBA.out k HPN.out HR.out.2 hlt h3)
          have HNX : Hid ((funW ⟨data, fs⟩ (fs.getD k .zero)).2 = 0 → ∀ j, j < k + 1 → (funW ⟨data, fs⟩ (fs.getD j .zero)).2 = 0) := Lib.hid (fun h2 j hj => by
            by_cases e : j = k
            · subst e; exact h2
            · exact HR.out.2 j (Nat.lt_of_le_of_ne (Nat.le_of_lt_succ hj) e))
          have HLT := Lib.hid hlt
          have hl1 : w.heap.size < wr.heap.size := by
            have := box_below HK0.out HR.out.1
            exact (Array.getElem?_eq_some_iff.1 this).1
          rw [show (⟨(fs.getD k .zero).params, (fs.getD k .zero).regs, (fs.getD k .zero).area, (fs.getD k .zero).code⟩ : FunV) = fs.getD k .zero from rfl] at HFK
          unfold FunDone12 at HFK
          generalize funW ⟨data, fs⟩ (fs.getD k .zero) = rr at *
          generalize fs.getD k .zero = fk at *
          have HS5 : Hid (∀ W, Below wr.heap.size wr.drew W → W.cell? ⟨w.heap.size, 0, none⟩ = some (.slice DA nd dc) ∧ W.cell? ⟨w.heap.size, 1, none⟩ = some (.slice (some ⟨fb, fo, none⟩) nf fc) ∧ W.cell? ⟨fb, fo + k * 4, none⟩ = some (.int .i64 fk.params) ∧ W.cell? ⟨fb, fo + k * 4 + 1, none⟩ = some (.int .i64 fk.regs) ∧ W.cell? ⟨fb, fo + k * 4 + 2, none⟩ = some (.int .i64 fk.area) ∧ W.cell? ⟨fb, fo + k * 4 + 3, none⟩ = some (.slice CA fk.code.length cc)) := Lib.hid (fun W hb => ⟨(hb.cell (p := ⟨w.heap.size, 0, none⟩) hl1).trans c0, (hb.cell (p := ⟨w.heap.size, 1, none⟩) hl1).trans c1, (hb.cell (p := ⟨fb, fo + k * 4, none⟩) hl2).trans f0, (hb.cell (p := ⟨fb, fo + k * 4 + 1, none⟩) hl2).trans f1, (hb.cell (p := ⟨fb, fo + k * 4 + 2, none⟩) hl2).trans f2, (hb.cell (p := ⟨fb, fo + k * 4 + 3, none⟩) hl2).trans f3⟩)
          obtain ⟨ra, re⟩ := rr
          dsimp only at HFK HZB HNX
          clear hfw hfk hcl hC hmem g1 g2 hkl hlt hl1 hl2
          by_cases hre : re = 0
          · have HN1 := Lib.hid (HNX.out hre)
            subst hre
            go_wp2
            go_region_held3 (fun W => W.cell? ⟨w.heap.size, 0, none⟩ = some (.slice DA nd dc) ∧ W.cell? ⟨w.heap.size, 1, none⟩ = some (.slice (some ⟨fb, fo, none⟩) nf fc) ∧ W.cell? ⟨fb, fo + k * 4, none⟩ = some (.int .i64 fk.params) ∧ W.cell? ⟨fb, fo + k * 4 + 1, none⟩ = some (.int .i64 fk.regs) ∧ W.cell? ⟨fb, fo + k * 4 + 2, none⟩ = some (.int .i64 fk.area) ∧ W.cell? ⟨fb, fo + k * 4 + 3, none⟩ = some (.slice CA fk.code.length cc)) (first | with_reducible exact HK3.out | go_keep) ((go_at_call 30; (with_reducible refine HFK.out.mono ?_); rintro e w5 ⟨hb, rfl⟩; have HB5 := Lib.hid (HR.out.1.drew.trans (hb.mono HR.out.1.size)); have HK3 := Lib.hid (HS5.out w5 hb); clear hb))
            go_wp2
            go_roundw
            case rel => exact ⟨k + 1, HLT.out, by go_num, HB5.out, HN1.out⟩
            case measure => first | exact down12 HLT.out | exact down12w HLT.out HADD.out
          · have HZ := Lib.hid (HZB.out hre)
            have hne : (re != 0) = true := by simpa using hre
            go_wp2
            go_region_held3 (fun W => W.cell? ⟨w.heap.size, 0, none⟩ = some (.slice DA nd dc) ∧ W.cell? ⟨w.heap.size, 1, none⟩ = some (.slice (some ⟨fb, fo, none⟩) nf fc) ∧ W.cell? ⟨fb, fo + k * 4, none⟩ = some (.int .i64 fk.params) ∧ W.cell? ⟨fb, fo + k * 4 + 1, none⟩ = some (.int .i64 fk.regs) ∧ W.cell? ⟨fb, fo + k * 4 + 2, none⟩ = some (.int .i64 fk.area) ∧ W.cell? ⟨fb, fo + k * 4 + 3, none⟩ = some (.slice CA fk.code.length cc)) (first | with_reducible exact HK3.out | go_keep) ((go_at_call 30; (with_reducible refine HFK.out.mono ?_); rintro e w5 ⟨hb, rfl⟩; have HB5 := Lib.hid (HB1.out.trans ((HR.out.1.drew.trans (hb.mono HR.out.1.size)).mono HB1.out.size)); have HK3 := Lib.hid (HS5.out w5 hb); clear hb))
            go_wp2
            go_ret3
            exact ⟨HB5.out, by rw [HZ.out]; rfl⟩
        · obtain rfl : k = nf := Nat.le_antisymm hk (Nat.le_of_not_lt hlt)
          have HZ := Lib.hid (HOK.out HPN.out HR.out.2)
          go_wp2
          go_ret3
          exact ⟨HBR.out, by rw [HZ.out]; rfl⟩
  · have HZ := Lib.hid (findM_bad (m := ⟨data, fs⟩) h0)
    have hne : ((ModV.mk data fs).err != 0) = true := by simpa using h0
    generalize findM ⟨data, fs⟩ = z at *
    generalize (ModV.mk data fs).err = q at *
    subst hDe hFe
    clear hD hF hs hb1 h0 HFU HFW
    go_enter Tryz.func12, Tryz.ntmps12
    go_wp2_with (go_at_call 29; rw [← hW1]; (with_reducible refine HCK.out.mono ?_); rintro e w2 ⟨rfl, hb⟩; have HB2 := Lib.hid (HB1.out.trans (hb.mono HB1.out.size)); clear hb)
    go_ret3
    exact ⟨HB2.out, by rw [HZ.out]; rfl⟩
end Go.Proofs.YtfdblmjgpoocpaaGreat
