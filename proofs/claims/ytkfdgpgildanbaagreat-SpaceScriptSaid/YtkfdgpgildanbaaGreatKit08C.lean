import Derived.Test.YtkfdgpgildanbaaGreatKit08B
import Derived.Test.YtkfdgpgildanbaaGreatS14
import Derived.Test.YtkfdgpgildanbaaGreatS13
namespace Go.Proofs.YtkfdgpgildanbaaGreat
open Go.RowKit Go.Shelf
set_option linter.unusedVariables false
set_option linter.unusedSimpArgs false
structure CpAt (w W : World) (D F D' F' : Value) (mb : Nat) (data : List Int) : Prop where
  one : W.heap[w.heap.size]? = some (.cells #[D, F] 25 (0, 0))
  res : W.heap[w.heap.size + 1]? = some (.cells #[.slice none 0 0, .slice none 0 0] 25 (0, 0))
  mod : W.heap[mb]? = some (.cells #[D', F'] 25 (0, 0))
  mlo : w.heap.size + 1 < mb
  dat : Owns W w.heap.size 5 1 IsU8 D' data.length (data.map (Value.int .u8))
  bel : Below w.heap.size w W
section
variable {w W W' : World} {D F D' F' : Value} {mb : Nat} {data : List Int} {fs : List FunV} {Cs : List Value}
theorem CpAt.grow (h : CpAt w W D F D' F' mb data) (hb : Below W.heap.size W W') : CpAt w W' D F D' F' mb data :=
  ⟨box_below h.one hb, box_below h.res hb, box_below h.mod hb, h.mlo, h.dat.below hb (Nat.le_refl _), h.bel.trans (hb.mono h.bel.size)⟩
theorem CpAt.more {F' : Value} {f : FunV} {C F'' : Value} (h : CpAt w W D F D' F' mb data) (ho : OwnF 112 w.heap.size W F' fs Cs) (hm : MoreF 112 w.heap.size W W' F' F'' fs Cs f C) : CpAt w W' D F D' F' mb data := by
  have hb : But (fun k => some k = F'.ownBlock) W W' := ⟨hm.bel.os, hm.bel.tape, hm.bel.output, hm.size, fun k hk hn => hm.blk k hk hn⟩
  have typ : ∀ (u : TypeId), u ≠ 112 → ∀ g c, W.heap[g]? = some (.cells c u (0, 0)) → ¬ some g = F'.ownBlock := fun u hu g c hc e => by
    obtain ⟨c2, hc2⟩ := ho.own.typed e.symm
    exact hu (other_type hc hc2)
  refine ⟨hb.heap h.one (typ _ (by decide) _ _ h.one), hb.heap h.res (typ _ (by decide) _ _ h.res), hb.heap h.mod (typ _ (by decide) _ _ h.mod), h.mlo, Owns.but h.dat hb (fun g hg => ?_), h.bel.trans hm.bel⟩
  obtain ⟨c, hc⟩ := h.dat.typed hg
  exact typ _ (by decide) g c hc
theorem CpAt.put {F'' : Value} (h : CpAt w W D F D' F' mb data) (hf : OwnF 112 w.heap.size W F'' fs Cs) : CpAt w (W.setCell ⟨mb, 1, none⟩ F'') D F D' F'' mb data ∧ OwnF 112 w.heap.size (W.setCell ⟨mb, 1, none⟩ F'') F'' fs Cs := by
  have h1 := heap_setCell_same W mb 1 _ _ F'' h.mod
  have hb := but_one W mb 1 F''
  have hlo := h.mlo
  have typ : ∀ (u : TypeId), u ≠ 25 → ∀ g c, W.heap[g]? = some (.cells c u (0, 0)) → ¬ OneBlock mb g := fun u hu g c hc e => by
    have e' : g = mb := e
    subst e'
    exact hu (other_type hc h.mod)
  refine ⟨⟨hb.heap h.one (show ¬ w.heap.size = mb by omega), hb.heap h.res (show ¬ w.heap.size + 1 = mb by omega), h1, h.mlo, Owns.but h.dat hb (fun g hg => ?_), But.below h.bel hb h.bel.size (fun k hk => by have : k = mb := hk; omega)⟩, hf.but hb (fun g hg => ?_) (fun k hk e => by have e' : k = mb := e; omega) (typ _ (by decide)) (typ _ (by decide))⟩
  · obtain ⟨c, hc⟩ := h.dat.typed hg
    exact typ _ (by decide) g c hc
  · obtain ⟨c, hc⟩ := hf.own.typed hg
    exact typ _ (by decide) g c hc
theorem cp_made {w w2 : World} {D F D' : Value} {data : List Int} (h0 : w2.heap[w.heap.size]? = some (.cells #[D, F] 25 (0, 0))) (h1 : w2.heap[w.heap.size + 1]? = some (.cells #[.slice none 0 0, .slice none 0 0] 25 (0, 0)))
    (ho : Owns w2 w.heap.size 5 1 IsU8 D' data.length (data.map (Value.int .u8))) (hb : Below w.heap.size w w2) : CpAt w (w2.alloc (.cells #[D', .slice none 0 0] 25)) D F D' (.slice none 0 0) w2.heap.size data := by
  have hba : Below w2.heap.size w2 (w2.alloc (.cells #[D', .slice none 0 0] 25)) := (Below.refl _ w2).alloc (Nat.le_refl _) _
  exact ⟨box_below h0 hba, box_below h1 hba, heap_alloc_new _ _, heap_lt h1, ho.below hba (Nat.le_refl _), hb.trans (hba.mono hb.size)⟩
theorem cp_fun {W w6 : World} {p r a : Int} {C C6 : Value} {bs : Nat} {l : List InsV} {Xs : List Value} (hb : Below (W.alloc (.cells #[.int .i64 p, .int .i64 r, .int .i64 a, C] 112)).heap.size (W.alloc (.cells #[.int .i64 p, .int .i64 r, .int .i64 a, C] 112)) w6) (hc : OwnC bs w6 C6 l Xs) :
    (w6.setCell ⟨W.heap.size, 3, none⟩ C6).heap[W.heap.size]? = some (.cells #[.int .i64 p, .int .i64 r, .int .i64 a, C6] 112 (0, 0)) ∧ Below W.heap.size W (w6.setCell ⟨W.heap.size, 3, none⟩ C6) ∧ OwnC bs (w6.setCell ⟨W.heap.size, 3, none⟩ C6) C6 l Xs := by
  have h0 := box_below (heap_alloc_new W (.cells #[.int .i64 p, .int .i64 r, .int .i64 a, C] 112)) hb
  have h1 := heap_setCell_same w6 W.heap.size 3 _ _ C6 h0
  have hbu := but_one w6 W.heap.size 3 C6
  have hW : Below W.heap.size W w6 := ((Below.refl _ W).alloc (Nat.le_refl _) _).trans (hb.mono (by simp))
  refine ⟨h1, But.below hW hbu hW.size (fun k hk => by have : k = W.heap.size := hk; omega), hc.but hbu (fun g hg e => ?_) (fun i hi g hg e => ?_)⟩
  · obtain ⟨c, hc2⟩ := hc.own.typed hg
    have e' : g = W.heap.size := e
    subst e'
    exact absurd (other_type hc2 h0) (by decide)
  · obtain ⟨c, hc2⟩ := (hc.nums i hi).typed hg
    have e' : g = W.heap.size := e
    subst e'
    exact absurd (other_type hc2 h0) (by decide)
def Codes0 (W : World) (l : List FunV) (Cs : List Value) : Prop := ∀ i, i < l.length → CodeAt 0 W (Cs.getD i (.slice none 0 0)) (l.getD i .zero).code
theorem codes0_below {l : List FunV} (h : Codes0 W l Cs) (hb : Below W.heap.size W W') : Codes0 W' l Cs := fun i hi => (h i hi).below hb (Nat.le_refl _)
theorem codes0_typ {l : List FunV} {R : Nat → Prop} (h : Codes0 W l Cs) (hb : But R W W') (typ : ∀ (u : TypeId), u = 115 ∨ u = 3 → ∀ g c, W.heap[g]? = some (.cells c u (0, 0)) → ¬ R g) : Codes0 W' l Cs :=
  fun i hi => (h i hi).but hb (fun k hk => absurd hk (Nat.not_lt_zero _)) (typ _ (.inl rfl)) (typ _ (.inr rfl))
theorem codes0_more {base : Nat} {l : List FunV} {V V' C : Value} {f : FunV} (h : Codes0 W l Cs) (ho : OwnF 112 base W V l Cs) (hC : CodeAt 0 W C f.code) (hm : MoreF 112 base W W' V V' l Cs f C) : Codes0 W' (l ++ [f]) (Cs ++ [C]) := by
  have hb : But (fun k => some k = V.ownBlock) W W' := ⟨hm.bel.os, hm.bel.tape, hm.bel.output, hm.size, fun k hk hn => hm.blk k hk hn⟩
  have typ : ∀ (u : TypeId), u ≠ 112 → ∀ g c, W.heap[g]? = some (.cells c u (0, 0)) → ¬ some g = V.ownBlock := fun u hu g c hc e => by
    obtain ⟨c2, hc2⟩ := ho.own.typed e.symm
    exact hu (other_type hc hc2)
  intro i hi
  rw [List.length_append] at hi
  simp only [List.length_cons, List.length_nil, Nat.zero_add] at hi
  rw [getD_snoc l f .zero hi, getD_snoc Cs C _ (by rw [ho.len]; exact hi), ho.len]
  by_cases hlt : i < l.length
  · rw [if_pos hlt, if_pos hlt]
    exact (h i hlt).but hb (fun k hk => absurd hk (Nat.not_lt_zero _)) (typ _ (by decide)) (typ _ (by decide))
  · rw [if_neg hlt, if_neg hlt]
    exact hC.but hb (fun k hk => absurd hk (Nat.not_lt_zero _)) (typ _ (by decide)) (typ _ (by decide))
theorem cp_end (h : CpAt w W D F D' F' mb data) (ho : OwnF 112 0 W F' fs Cs) (v0 v1 : Value) :
    Below w.heap.size w ((W.setCell ⟨w.heap.size + 1, 0, none⟩ v0).setCell ⟨w.heap.size + 1, 1, none⟩ v1) ∧ Owns ((W.setCell ⟨w.heap.size + 1, 0, none⟩ v0).setCell ⟨w.heap.size + 1, 1, none⟩ v1) w.heap.size 5 1 IsU8 D' data.length (data.map (Value.int .u8)) ∧ OwnF 112 0 ((W.setCell ⟨w.heap.size + 1, 0, none⟩ v0).setCell ⟨w.heap.size + 1, 1, none⟩ v1) F' fs Cs ∧ ((W.setCell ⟨w.heap.size + 1, 0, none⟩ v0).setCell ⟨w.heap.size + 1, 1, none⟩ v1).heap[w.heap.size + 1]? = some (.cells #[v0, v1] 25 (0, 0)) := by
  have hb := (but_one W (w.heap.size + 1) 0 v0).trans (but_one _ (w.heap.size + 1) 1 v1)
  have typ : ∀ (u : TypeId), u ≠ 25 → ∀ g c, W.heap[g]? = some (.cells c u (0, 0)) → ¬ OneBlock (w.heap.size + 1) g := fun u hu g c hc e => by
    have e' : g = w.heap.size + 1 := e
    subst e'
    exact hu (other_type hc h.res)
  refine ⟨But.below h.bel hb h.bel.size (fun k hk => by have : k = w.heap.size + 1 := hk; omega), Owns.but h.dat hb (fun g hg => ?_), ho.but hb (fun g hg => ?_) (fun k hk => absurd hk (Nat.not_lt_zero _)) (typ _ (by decide)) (typ _ (by decide)), ?_⟩
  · obtain ⟨c, hc⟩ := h.dat.typed hg
    exact typ _ (by decide) g c hc
  · obtain ⟨c, hc⟩ := ho.own.typed hg
    exact typ _ (by decide) g c hc
  · exact heap_setCell_same _ (w.heap.size + 1) 1 _ _ v1 (heap_setCell_same W (w.heap.size + 1) 0 _ _ v0 h.res)
end
def Apart8 (Cs : List Value) : Prop := ∀ i j, i < j → j < Cs.length → ∀ g, (Cs.getD i (.slice none 0 0)).ownBlock = some g → (Cs.getD j (.slice none 0 0)).ownBlock ≠ some g
structure Sep8 (A B : Nat) (Cs : List Value) : Prop where
  lt : ∀ i, i < Cs.length → ∀ g, (Cs.getD i (.slice none 0 0)).ownBlock = some g → A ≤ g ∧ g < B
  ne : Apart8 Cs
theorem Sep8.nil (A B : Nat) : Sep8 A B [] := ⟨fun i hi => absurd hi (by simp), fun i j _ hj => absurd hj (by simp)⟩
theorem Sep8.mono {A B B' : Nat} {Cs : List Value} (h : Sep8 A B Cs) (hb : B ≤ B') : Sep8 A B' Cs := ⟨fun i hi g hg => ⟨(h.lt i hi g hg).1, Nat.lt_of_lt_of_le (h.lt i hi g hg).2 hb⟩, h.ne⟩
theorem Sep8.snoc {A B B' : Nat} {Cs : List Value} {C : Value} (h : Sep8 A B Cs) (hC : ∀ g, C.ownBlock = some g → B ≤ g ∧ g < B') (hA : A ≤ B) (hb : B ≤ B') : Sep8 A B' (Cs ++ [C]) := by
  have hl : (Cs ++ [C]).length = Cs.length + 1 := by simp
  refine ⟨fun i hi g hg => ?_, fun i j hij hj g hg => ?_⟩
  · rw [hl] at hi
    rw [getD_snoc Cs C _ hi] at hg
    split at hg
    · exact ⟨(h.lt i (by assumption) g hg).1, Nat.lt_of_lt_of_le (h.lt i (by assumption) g hg).2 hb⟩
    · exact ⟨Nat.le_trans hA (hC g hg).1, (hC g hg).2⟩
  · rw [hl] at hj
    rw [getD_snoc Cs C _ (by omega), if_pos (by omega)] at hg
    rw [getD_snoc Cs C _ hj]
    split
    · exact h.ne i j hij (by assumption) g hg
    · intro hg2
      have h1 := (h.lt i (by omega) g hg).2
      have h2 := (hC g hg2).1
      omega
def CpDoneL (w : World) (data : List Int) (fs : List FunV) (e : Ending) (w' : World) : Prop := ∃ D' F' Cs, e = .returned (.agg #[D', F']) ∧ OutB w w' D' data ∧ OwnF 112 0 w' F' fs Cs ∧ Sep8 w.heap.size w'.heap.size Cs ∧ ∀ g, F'.ownBlock = some g → w.heap.size ≤ g
set_option maxRecDepth 100000 in
set_option maxHeartbeats 8000000 in
theorem copyModule_low (D F : Value) (data : List Int) (fs : List FunV) (w : World) (hD : IsBytes w w.heap.size D data) (hF : IsFuns w w.heap.size F fs) (hl : longM ⟨data, fs⟩ = false) :
    Calls Tryz.prog 13 #[.agg #[D, F]] w (CpDoneL w data fs) := by
  obtain ⟨l1, l2, l3⟩ := long_few hl
  dsimp only at l1 l2 l3
  have HF := Lib.hid hF
  have HS := Lib.hid l3
  obtain ⟨DA, dc, hDe⟩ := hD.len
  obtain ⟨FA, fc, hFe⟩ := hF.len
  have hb0 : Below w.heap.size w ((w.alloc (.cells #[D, F] 25)).alloc (.cells #[.slice none 0 0, .slice none 0 0] 25)) := ((Below.refl _ w).alloc (Nat.le_refl _) _).alloc (by simp) _
  have h0 : ((w.alloc (.cells #[D, F] 25)).alloc (.cells #[.slice none 0 0, .slice none 0 0] 25)).heap[w.heap.size]? = some (.cells #[D, F] 25 (0, 0)) := by
    rw [Below.heap_alloc _ _ _ (by simp)]
    exact heap_alloc_new _ _
  have h1 : ((w.alloc (.cells #[D, F] 25)).alloc (.cells #[.slice none 0 0, .slice none 0 0] 25)).heap[w.heap.size + 1]? = some (.cells #[.slice none 0 0, .slice none 0 0] 25 (0, 0)) := by
    have := heap_alloc_new (w.alloc (.cells #[D, F] 25)) (.cells #[.slice none 0 0, .slice none 0 0] 25)
    rw [World.size_alloc] at this
    exact this
  have HC := Lib.hid (copy_any D data _ (hD.grow hb0) (by omega))
  subst hDe hFe
  obtain ⟨n, hn⟩ : ∃ n, n = fs.length := ⟨_, rfl⟩
  have HN := Lib.hid hn
  rw [← hn] at l2 HF HC h0 h1 hb0 ⊢
  have H0 := Lib.hid h0
  have H1 := Lib.hid h1
  have HB0 := Lib.hid hb0
  obtain ⟨c0, c1⟩ := cells2 h0
  clear hD hF hl l3 h0 h1 hb0 hn
  go_enter Tryz.func13, Tryz.ntmps13
  go_wp2_with (go_at_call 53; (with_reducible refine HC.out.mono ?_); rintro e w2 ⟨D2, rfl, ho, hb⟩; obtain ⟨dA, dc2, hde⟩ := owns_len ho; subst hde; have K2 := Lib.hid (cp_made (box_below H0.out hb) (box_below H1.out hb) (Owns.base ho HB0.out.size) (HB0.out.trans (hb.mono HB0.out.size))); clear ho hb)
  clear c0 c1
  go_loopw [4] (fun i wr => ∃ (k : Nat) (F' : Value) (Cs : List Value), k ≤ n ∧ i = .int .i64 k ∧ Hid (CpAt w wr (.slice DA data.length dc) (.slice FA n fc) (.slice dA data.length dc2) F' w2.heap.size data ∧ OwnF 112 w.heap.size wr F' (fs.take k) Cs ∧ Codes0 wr (fs.take k) Cs ∧ Sep8 w.heap.size wr.heap.size Cs)) (fun i _ => n - (intOf i).toNat)
  case atStart => exact ⟨0, _, [], by omega, rfl, K2.out, OwnF.nil _ _ _, fun i hi => absurd hi (by simp), Sep8.nil _ _⟩
  case round =>
    obtain ⟨k, F', Cs, hk, rfl, HR⟩ := hrel
    have KR := Lib.hid HR.out.1
    have KO := Lib.hid HR.out.2.1
    have KZ := Lib.hid HR.out.2.2.1
    have KS := Lib.hid HR.out.2.2.2
    clear HR
    obtain ⟨fA, fc2, hFe⟩ := owns_len KO.out.own
    obtain ⟨m, hm⟩ : ∃ m, m = (fs.take k).length := ⟨_, rfl⟩
    have HMl := Lib.hid hm
    rw [← hm] at hFe
    subst hFe
    clear hm
    obtain ⟨d0, d1⟩ := cells2 KR.out.one
    obtain ⟨m0, m1⟩ := cells2 KR.out.mod
    by_cases hlt : k < n
    · have hkl : k < fs.length := by rw [← HN.out]; exact hlt
      obtain ⟨b, off, cap', hVe, hcp, hbB, hcl⟩ := HF.out.plain (by omega)
      rw [← HN.out] at hVe
      cases hVe
      obtain ⟨C, hC, hcell⟩ := hcl k hkl
      have HTK := Lib.hid (funs_take fs hkl)
      have hmem : fs.getD k .zero ∈ fs := by simp [List.getD, List.getElem?_eq_getElem hkl]
      have hsm := HS.out _ hmem
      have hin := funs_getD HF.out hkl
      obtain ⟨⟨p, r, a, c⟩, hy⟩ : ∃ y, y = fs.getD k .zero := ⟨_, rfl⟩
      rw [← hy] at hC hcell HTK hsm hin
      dsimp only at hC hsm
      have hbr := KR.out.bel
      have hc' : ∀ j, j < 4 → wr.cell? ⟨b, off + k * 4 + j, none⟩ = some (funCell ⟨p, r, a, c⟩ C j) := fun j hj => (hbr.cell (p := ⟨b, off + k * 4 + j, none⟩) hbB).trans (hcell j hj)
      have g0 : wr.cell? ⟨b, off + k * 4, none⟩ = some (.int .i64 p) := hc' 0 (by omega)
      have g1 : wr.cell? ⟨b, off + k * 4 + 1, none⟩ = some (.int .i64 r) := hc' 1 (by omega)
      have g2 : wr.cell? ⟨b, off + k * 4 + 2, none⟩ = some (.int .i64 a) := hc' 2 (by omega)
      have g3 : wr.cell? ⟨b, off + k * 4 + 3, none⟩ = some C := hc' 3 (by omega)
      have hCw := hC.grow hbr
      obtain ⟨CA, Cc, hCe⟩ := hC.len
      subst hCe
      have ha : Below wr.heap.size wr (wr.alloc (.cells #[.int .i64 p, .int .i64 r, .int .i64 a, .slice CA c.length Cc] 112)) := (Below.refl wr.heap.size wr).alloc (Nat.le_refl _) _
      have HJ := Lib.hid (copyCode_any _ c _ (hCw.grow ha) (by omega) hsm.2)
      have HKa := Lib.hid (heap_alloc_new wr (.cells #[.int .i64 p, .int .i64 r, .int .i64 a, .slice CA c.length Cc] 112))
      have HCl := Lib.hid hsm.1
      have HIn := Lib.hid hin
      have HML : Hid (m ≤ 100) := Lib.hid (by rw [HMl.out, List.length_take]; omega)
      obtain ⟨i0, i1, i2, i3⟩ := cells4 HKa.out
      have k0 : (0 : Int) ≤ (k : Int) := by omega
      have k1 : (k : Int) < (n : Int) := by omega
      clear hcell hc' hC hCw hy hcl hcp hbB ha hsm hmem hin hbr
      go_wp2_with (first
        | (go_at_call 54; (with_reducible refine HJ.out.mono ?_); rintro e w6 ⟨hb, C6, Xs6, rfl, hc⟩; obtain ⟨cA, cc, hce⟩ := owns_len hc.own; subst hce; obtain ⟨hf7, hb7, hc7⟩ := cp_fun hb hc; have K7 := Lib.hid (KR.out.grow hb7); have O7 := Lib.hid (KO.out.below hb7 (Nat.le_refl _)); have Z7 := Lib.hid (codes0_below KZ.out hb7); have S7 := Lib.hid (KS.out.snoc (C := .slice cA c.length cc) (fun g hg => ⟨Nat.le_trans (by simp) (hc7.own.lt hg).1, (hc7.own.lt hg).2⟩) KR.out.bel.size hb7.size); have HC0 : Hid (CodeAt 0 (w6.setCell ⟨wr.heap.size, 3, none⟩ (.slice cA c.length cc)) (.slice cA c.length cc) c) := Lib.hid (.inr ⟨_, Xs6, hc7, by have := HCl.out; omega⟩); have HC7 : Hid (CodeAt w.heap.size (w6.setCell ⟨wr.heap.size, 3, none⟩ (.slice cA c.length cc)) (.slice cA c.length cc) c) := Lib.hid (.inr ⟨_, Xs6, hc7, by have := HCl.out; omega⟩); obtain ⟨j0, j1, j2, j3⟩ := cells4 (box_below HKa.out hb); have f3 := frozen_of_row _ wr.heap.size 3 _ _ (box_below HKa.out hb); obtain ⟨l0, l1, l2, l3⟩ := cells4 hf7; obtain ⟨n0, n1⟩ := cells2 K7.out.mod; clear hb hc hf7 hb7 hc7)
        | (at_builtin; refine wpList_outF (f := ⟨p, r, a, c⟩) rfl (.tmp 27) (.tmp 29) rfl rfl rfl (by simp) O7.out HC7.out HIn.out K7.out.bel.size (by have := HML.out; have := HMl.out; omega) ?_; intro V8 w8 hm; obtain ⟨nA, nc, hn8⟩ := owns_len hm.own.own; obtain ⟨n8, hn9⟩ : ∃ n8, n8 = (fs.take k ++ [(⟨p, r, a, c⟩ : FunV)]).length := ⟨_, rfl⟩; rw [← hn9] at hn8; subst hn8; clear hn9; have hk8 := K7.out.more O7.out hm; obtain ⟨kp, op⟩ := hk8.put hm.own; have Z8 := Lib.hid (codes0_typ (codes0_more Z7.out O7.out HC0.out hm) (but_one w8 w2.heap.size 1 (.slice nA n8 nc)) (fun u hu g c hc e => by have e' : g = w2.heap.size := e; subst e'; have := other_type hc hk8.mod; rcases hu with rfl | rfl <;> exact absurd this (by decide))); have S8 := Lib.hid (S7.out.mono (Nat.le_trans hm.size (but_one w8 w2.heap.size 1 (.slice nA n8 nc)).size)); have K8 := Lib.hid kp; have O8 := Lib.hid op; obtain ⟨o0, o1⟩ := cells2 hk8.mod; have o2 := frozen_of_row _ w2.heap.size 1 _ _ hk8.mod; clear hm hk8 kp op))
      go_roundw
      case rel => exact ⟨k + 1, _, _, by omega, by go_num, K8.out, by rw [HTK.out]; exact ⟨O8.out, Z8.out, S8.out⟩⟩
      case measure => simp [intOf]; omega
    · obtain rfl : k = n := by omega
      have htk : fs.take k = fs := by rw [HN.out]; exact List.take_length
      rw [htk] at KO KZ
      have KO0 := Lib.hid (OwnF.mk (Owns.base KO.out.own (Nat.zero_le _)) KO.out.len KO.out.inn KZ.out : OwnF 112 0 wr _ fs Cs)
      have r0 := (cells2 KR.out.res).1
      have r1 := (cells2 KR.out.res).2
      have f0 := frozen_of_row _ (w.heap.size + 1) 0 _ _ KR.out.res
      have f1 := frozen_of_row _ (w.heap.size + 1) 1 _ _ KR.out.res
      clear htk
      go_wp2
      refine (show ∀ W, (Below w.heap.size w W ∧ Owns W w.heap.size 5 1 IsU8 (.slice dA data.length dc2) data.length (data.map (Value.int .u8)) ∧ OwnF 112 0 W (.slice fA m fc2) fs Cs ∧ W.heap[w.heap.size + 1]? = some (.cells #[.slice dA data.length dc2, .slice fA m fc2] 25 (0, 0)) ∧ wr.heap.size ≤ W.heap.size) → bodyPost _ _ _ _ _ W from fun W h => ?_) _ (let h := cp_end KR.out KO0.out (.slice dA data.length dc2) (.slice fA m fc2); ⟨h.1, h.2.1, h.2.2.1, h.2.2.2, ((but_one wr (w.heap.size + 1) 0 _).trans (but_one _ (w.heap.size + 1) 1 _)).size⟩)
      obtain ⟨hb, hd, hf, hm, hsz⟩ := h
      obtain ⟨x0, x1⟩ := cells2 hm
      refine bodyPost_ret (v := .agg #[.slice dA data.length dc2, .slice fA m fc2]) (by simp [results, Tryz.results13, go_sem, x0, x1]) rfl ?_
      exact ⟨_, _, Cs, rfl, ⟨hd, hb⟩, hf, KS.out.mono hsz, fun g hg => (KO.out.own.lt hg).1⟩
end Go.Proofs.YtkfdgpgildanbaaGreat
