/- The document's own Get. Contract; no condition but that the text is short. -/
import Derived.Test.YtohlifeenhaifaaGreatDoorRef13P
import Derived.LoopTactic
namespace Go.Proofs.YtohlifeenhaifaaGreatDoor
open Go.RowKit Go.Shelf
set_option linter.unusedVariables false
set_option linter.unusedSimpArgs false
theorem words_cnt13 (s : ByteArray) : (wordsL (lettersOf s)).length ≤ s.size + 1 ∧ ∀ x ∈ wordsL (lettersOf s), x.length ≤ s.size := by
  have h1 := words_wide (lettersOf s) []
  have h2 := wide_bound (wordsL (lettersOf s))
  rw [letters_len13] at h1
  unfold wordsL at h2 ⊢
  simp at h1
  exact ⟨by have := h2.1; omega, fun x hx => by have := h2.2 x hx; omega⟩
theorem cnt_zero13 : cntM ⟨[], []⟩ = 0 := rfl
theorem get_line13 (s : ByteArray) {a e : Nat} {m : ModV} {R : ModV × Int × Nat} (hae : a ≤ e) (hes : e ≤ s.size) (hp : ∀ j (hj : j < s.size), j < e → a ≤ j → ((s[j]'hj).toNat : Int) ≠ 10) (hend : ∀ h : e < s.size, (s[e].toNat : Int) = 10) (hR : runL m a (restL (lettersOf s) s.size a) = R) :
    ((lineR m (wordsL (lettersOf (s.extract a e)))).2 = 0 → runL (lineR m (wordsL (lettersOf (s.extract a e)))).1 (e + 1) (restL (lettersOf s) s.size (e + 1)) = R) ∧ ((lineR m (wordsL (lettersOf (s.extract a e)))).2 ≠ 0 → R.2 = ((lineR m (wordsL (lettersOf (s.extract a e)))).2, a)) := by
  have hl : (lettersOf (s.extract a e)).length = e - a := by
    rw [letters_len13, ByteArray.size_extract]
    omega
  rw [rest_line s hae hes (fun j hj h => hp j (by omega) hj h) hend] at hR
  constructor
  · intro h
    rw [runL_step h, hl, show a + (e - a) + 1 = e + 1 by omega] at hR
    exact hR
  · intro h
    rw [← hR]
    exact runL_stop h
theorem facts13 {w W : World} {D F : Value} (hm : W.heap[w.heap.size]? = some (.cells #[.slice none 0 0, .slice none 0 0] 25 (0, 0))) (hf : W.heap[w.heap.size + 1]? = some (.cells #[.int .i64 0, .int .i64 0] 41 (0, 0))) (hx : W.heap[w.heap.size + 2]? = some (.cells #[D, F] 25 (0, 0))) :
    (W.cell? ⟨w.heap.size, 0, none⟩ = some (.slice none 0 0) ∧ W.cell? ⟨w.heap.size, 1, none⟩ = some (.slice none 0 0)) ∧ (W.cell? ⟨w.heap.size + 1, 0, none⟩ = some (.int .i64 0) ∧ W.cell? ⟨w.heap.size + 1, 1, none⟩ = some (.int .i64 0)) ∧ (W.cell? ⟨w.heap.size + 1 + 1, 0, none⟩ = some D ∧ W.cell? ⟨w.heap.size + 1 + 1, 1, none⟩ = some F) ∧
    (W.frozen? ⟨w.heap.size, 0, none⟩ = false ∧ W.frozen? ⟨w.heap.size, 1, none⟩ = false) ∧ (W.frozen? ⟨w.heap.size + 1, 0, none⟩ = false ∧ W.frozen? ⟨w.heap.size + 1, 1, none⟩ = false) ∧ (W.frozen? ⟨w.heap.size + 1 + 1, 0, none⟩ = false ∧ W.frozen? ⟨w.heap.size + 1 + 1, 1, none⟩ = false) :=
  ⟨cells2 hm, cells2 hf, cells2 hx, ⟨frozen_of_row W _ 0 _ _ hm, frozen_of_row W _ 1 _ _ hm⟩, ⟨frozen_of_row W _ 0 _ _ hf, frozen_of_row W _ 1 _ _ hf⟩, ⟨frozen_of_row W _ 0 _ _ hx, frozen_of_row W _ 1 _ _ hx⟩⟩
theorem Gt13.facts {w W : World} {D F : Value} {m : ModV} (h : Gt13 w W D F m) :
    (W.cell? ⟨w.heap.size, 0, none⟩ = some (.slice none 0 0) ∧ W.cell? ⟨w.heap.size, 1, none⟩ = some (.slice none 0 0)) ∧ (W.cell? ⟨w.heap.size + 1, 0, none⟩ = some (.int .i64 0) ∧ W.cell? ⟨w.heap.size + 1, 1, none⟩ = some (.int .i64 0)) ∧ (W.cell? ⟨w.heap.size + 1 + 1, 0, none⟩ = some D ∧ W.cell? ⟨w.heap.size + 1 + 1, 1, none⟩ = some F) ∧
    (W.frozen? ⟨w.heap.size, 0, none⟩ = false ∧ W.frozen? ⟨w.heap.size, 1, none⟩ = false) ∧ (W.frozen? ⟨w.heap.size + 1, 0, none⟩ = false ∧ W.frozen? ⟨w.heap.size + 1, 1, none⟩ = false) ∧ (W.frozen? ⟨w.heap.size + 1 + 1, 0, none⟩ = false ∧ W.frozen? ⟨w.heap.size + 1 + 1, 1, none⟩ = false) := facts13 h.mod h.flt h.box
theorem Gt13.kept {w w1 W : World} {D F : Value} {m : ModV} (h : Gt13 w w1 D F m) (hb : Below (w.heap.size + 3) w1 W) :
    (W.cell? ⟨w.heap.size, 0, none⟩ = some (.slice none 0 0) ∧ W.cell? ⟨w.heap.size, 1, none⟩ = some (.slice none 0 0)) ∧ (W.cell? ⟨w.heap.size + 1, 0, none⟩ = some (.int .i64 0) ∧ W.cell? ⟨w.heap.size + 1, 1, none⟩ = some (.int .i64 0)) ∧ (W.cell? ⟨w.heap.size + 1 + 1, 0, none⟩ = some D ∧ W.cell? ⟨w.heap.size + 1 + 1, 1, none⟩ = some F) ∧
    (W.frozen? ⟨w.heap.size, 0, none⟩ = false ∧ W.frozen? ⟨w.heap.size, 1, none⟩ = false) ∧ (W.frozen? ⟨w.heap.size + 1, 0, none⟩ = false ∧ W.frozen? ⟨w.heap.size + 1, 1, none⟩ = false) ∧ (W.frozen? ⟨w.heap.size + 1 + 1, 0, none⟩ = false ∧ W.frozen? ⟨w.heap.size + 1 + 1, 1, none⟩ = false) := facts13 ((hb.block _ (by omega)).trans h.mod) ((hb.block _ (by omega)).trans h.flt) ((hb.block _ (by omega)).trans h.box)
theorem Gt13.data {w W : World} {D F : Value} {m : ModV} (h : Gt13 w W D F m) (hc : cntM m ≤ 4001) : Calls Tryz.prog 27 #[.agg #[D, F]] W (Makes W (.int .i64 m.err)) := by
  obtain ⟨b0, Cs, hm⟩ := h.mo
  have hcn := cnt_fun (m := m)
  exact rcheck8_big D F m.data m.funcs W (IsBytes.of_owns hm.dat hm.bd (Nat.le_refl _)) (hm.fns.fn.funs (by omega)) (fun f hf => by have := hcn.2.2 f hf; omega)
theorem line_in13 {w W w1 : World} {D F V : Value} {m : ModV} {s0 : ByteArray} {r : List ByteArray} {t : ByteArray} {B : Nat} (h : Gt13 w W D F m) (hb : Below W.heap.size W w1) (ho : Owns w1 B 9 1 IsStr V (s0 :: r).length (strB (s0 :: r))) (hm : (s0 :: r).map lettersOf = wordsL (lettersOf t)) (ht : t.size ≤ 4000) (hc : cntM m ≤ 4001) :
    Calls Tryz.prog 41 #[.agg #[D, F], V] w1 (LineDn13 (w.heap.size + 3) m w1 (wordsL (lettersOf t))) := by
  obtain ⟨b0, Cs, hmo⟩ := (h.grow hb).mo
  have hcn := cnt_fun (m := m)
  have hw := words_cnt13 t
  rw [← hm] at hw
  have hlen := hw.1
  rw [List.length_map, List.length_cons] at hlen
  rw [← hm]
  exact rline13_any ⟨hmo, (h.grow hb).big, IsStrs.of_owns13 ho (Nat.le_refl _) (by simp only [List.length_cons]; omega), fun x hx => by have := hw.2 _ (List.mem_map.2 ⟨x, hx, rfl⟩); rw [letters_len13] at this; omega, by omega, by omega, by omega, fun f hf => by have := hcn.2.2 f hf; omega⟩
set_option maxRecDepth 100000 in
set_option maxHeartbeats 16000000 in
theorem rget13_any (s : ByteArray) (w : World) (hs : s.size ≤ 4000) : Calls Tryz.prog 19 #[.string s] w (MGotDone w (got13 (lettersOf s))) := by
  have hlen := letters_len13 s
  have hl4 : ¬ 400000 < (lettersOf s).length := by omega
  have HGS := Lib.hid (fun (e : Int) (k : Nat) => @got_stop (lettersOf s) hl4 e k)
  have HGR := Lib.hid (fun (m : ModV) => @got_run (lettersOf s) hl4 m)
  have hI4 : ¬ (400000 : Int) < (s.size : Int) := by omega
  have HS := Lib.hid hs
  have HLE := Lib.hid hlen
  obtain ⟨R, hR⟩ : ∃ R, R = runL ⟨[], []⟩ 0 (linesOf (lettersOf s)) := ⟨_, rfl⟩
  have HR := Lib.hid hR
  have HGT := Lib.hid (Gt13.start w)
  obtain ⟨W0, hW0⟩ : ∃ W0, W0 = ((w.alloc (.cells #[.slice none 0 0, .slice none 0 0] 25)).alloc (.cells #[.int .i64 0, .int .i64 0] 41)).alloc (.cells #[.slice none 0 0, .slice none 0 0] 25) := ⟨_, rfl⟩
  rw [← hW0] at HGT
  have HW0 := Lib.hid hW0
  clear hlen hl4 hs hR hW0
  go_enter Tryz.func19, Tryz.ntmps19
  go_wp2
  rw [← HW0.out]
  go_loopw [5, 6, 7, 9] (fun v5 _ _ _ wr => ∃ (a : Nat) (D F : Value) (m : ModV), v5 = .int .i64 a ∧ a ≤ s.size + 1 ∧ Hid (Gt13 w wr D F m ∧ cntM m ≤ a ∧ runL m a (restL (lettersOf s) s.size a) = R)) (fun v5 _ _ _ _ => s.size + 1 - (intOf v5).toNat)
  case atStart => exact ⟨0, _, _, _, rfl, Nat.zero_le _, Lib.hid ⟨HGT.out, Nat.le_refl _, by unfold restL; rw [if_pos (Nat.zero_le _), List.drop_zero]; exact HR.out.symm⟩⟩
  case round =>
    obtain ⟨a, D, F, m, rfl, ha, HG⟩ := hrel
    obtain ⟨b0, Cs, hmo⟩ := HG.out.1.mo
    obtain ⟨DA, dc, hDe⟩ := owns_len hmo.dat
    obtain ⟨FA, fc, hFe⟩ := owns_len hmo.fns.fown
    obtain ⟨dn, hdn⟩ : ∃ n, n = m.data.length := ⟨_, rfl⟩
    obtain ⟨fn, hfn⟩ : ∃ n, n = m.funcs.length := ⟨_, rfl⟩
    rw [← hdn] at hDe
    rw [← hfn] at hFe
    subst hDe hFe
    have HMO := Lib.hid hmo
    have G := Lib.hid HG.out.1
    have a0 : (0 : Int) ≤ (a : Int) := by omega
    clear hmo hdn hfn
    by_cases hlt : a < s.size
    · have hlt2 : (a : Int) < (s.size : Int) := by omega
      have HLT := Lib.hid hlt
      go_wp2
      go_loopw [6] (fun v6 wx => ∃ e : Nat, v6 = .int .i64 e ∧ wx = wr ∧ a ≤ e ∧ e ≤ s.size ∧ Hid (∀ j (hj : j < s.size), j < e → a ≤ j → ((s[j]'hj).toNat : Int) ≠ 10)) (fun v6 _ => s.size - (intOf v6).toNat)
      case atStart => exact ⟨a, rfl, rfl, Nat.le_refl _, by omega, Lib.hid (fun j hj h1 h2 => by omega)⟩
      case round =>
        obtain ⟨e, rfl, rfl, hae, hes, HE⟩ := hrel
        have e0 : (0 : Int) ≤ (e : Int) := by omega
        obtain ⟨pl, hpl⟩ : ∃ pl : Bool, pl = (if h : e < s.size then ((s[e].toNat : Int) != 10) else false) := ⟨_, rfl⟩
        have HPL := Lib.hid hpl
        clear hpl
        go_upto_region 7 with fail
        go_cut [30] from 21 to 30 (fun s30 wx => s30 = .bool pl ∧ wx = wr)
        case first =>
          by_cases hle : e < s.size
          · have hle2 : (e : Int) < (s.size : Int) := by omega
            have hp := HPL.out
            rw [dif_pos hle] at hp
            by_cases e1 : (s[e].toNat : Int) = 10
            · have e2 : ((s[e].toNat : Int) != 10) = false := by rw [e1]; rfl
              have hpf : pl = false := by rw [hp, e1]; rfl
              subst hpf
              clear hp
              go_wp2
              go_meet
              case rel => exact ⟨rfl, rfl⟩
            · have e2 : ((s[e].toNat : Int) != 10) = true := by simpa using e1
              have hpf : pl = true := by rw [hp]; simpa using e1
              subst hpf
              clear hp
              go_wp2
              go_meet
              case rel => exact ⟨rfl, rfl⟩
          · have hle2 : ¬ (e : Int) < (s.size : Int) := by omega
            have hp := HPL.out
            rw [dif_neg hle] at hp
            subst hp
            go_wp2
            go_meet
            case rel => exact ⟨rfl, rfl⟩
        case rest =>
          obtain ⟨rfl, rfl⟩ := hcut
          cases pl with
          | true =>
            have hlt' : e < s.size := by
              rcases Nat.lt_or_ge e s.size with h | h
              · exact h
              · have hp := HPL.out
                rw [dif_neg (by omega)] at hp
                cases hp
            have hne : (s[e].toNat : Int) ≠ 10 := by
              have hp := HPL.out
              rw [dif_pos hlt'] at hp
              intro h1
              rw [h1] at hp
              cases hp
            have HE2 : Hid (∀ j (hj : j < s.size), j < e + 1 → a ≤ j → ((s[j]'hj).toNat : Int) ≠ 10) := Lib.hid (fun j hj h1 h2 => by
              rcases Nat.lt_or_ge j e with h3 | h3
              · exact HE.out j hj h3 h2
              · obtain rfl : j = e := by omega
                exact hne)
            have hii : (e : Int) < 9223372036854775807 := by have h2 := HS.out; omega
            have HIM := Lib.hid hlt'
            clear hne HPL HE hlt'
            go_upto_region 8 with fail
            go_wp2
            go_roundw
            case rel => exact ⟨e + 1, by first | rfl | trivial | go_num, by first | rfl | trivial, by omega, by have := HIM.out; omega, HE2⟩
            case measure => have := HIM.out; simp [intOf]; omega
          | false =>
            have HEnd : Hid (∀ h : e < s.size, (s[e].toNat : Int) = 10) := Lib.hid (fun h => by
              have hp := HPL.out
              rw [dif_pos h] at hp
              simpa using hp.symm)
            have HLN := Lib.hid (get_line13 s hae hes HE.out HEnd.out HG.out.2.2)
            have HT : Hid ((s.extract a e).size = e - a) := Lib.hid (by rw [ByteArray.size_extract]; omega)
            have haeI : (a : Int) ≤ (e : Int) := by omega
            have hesI : (e : Int) ≤ (s.size : Int) := by omega
            have HAE := Lib.hid (And.intro hae hes)
            have HC := Lib.hid HG.out.2.1
            have hii : (e : Int) < 9223372036854775807 := by have h2 := HS.out; omega
            have HWD : Hid (∀ W, Calls Tryz.prog 40 #[.string (s.extract a e)] W (RWordsDone W (wordsL (lettersOf (s.extract a e))))) := Lib.hid (fun W => rwords13_any _ W (by rw [HT.out]; have := HS.out; omega))
            have HCT := Lib.hid (words_cnt13 (s.extract a e)).1
            clear HPL HE HEnd hae hes HG
            obtain ⟨t, ht⟩ : ∃ t, t = s.extract a e := ⟨_, rfl⟩
            have HTE := Lib.hid ht
            rw [← ht] at HLN HT HWD HCT
            clear ht
            obtain ⟨wl, hwl⟩ : ∃ wl, wl = wordsL (lettersOf t) := ⟨_, rfl⟩
            have HWL := Lib.hid hwl
            rw [← hwl] at HLN HWD HCT
            clear hwl
            obtain ⟨er, her⟩ : ∃ er, er = (lineP m wl).2 := ⟨_, rfl⟩
            have HER := Lib.hid her
            clear her
            by_cases hwz : wl = []
            · have HLZ : Hid (runL m (e + 1) (restL (lettersOf s) s.size (e + 1)) = R) := Lib.hid (by
                have h1 := HLN.out.1
                unfold lineR at h1
                rw [if_pos hwz] at h1
                exact h1 rfl)
              have HWZ := Lib.hid hwz
              clear HLN hwz
              go_wp2_with (go_at_call 40; rw [← HTE.out]; (with_reducible refine (HWD.out _).mono ?_); rintro e1 w1 ⟨v7, ws, rfl, ho, hmap, hb1⟩; obtain rfl : ws = [] := List.map_eq_nil_iff.1 (hmap.trans HWZ.out); obtain ⟨A7, c7, he7⟩ := owns_len ho; simp only [List.length_nil] at he7; subst he7; have G1 := Lib.hid (G.out.grow hb1); clear ho hmap hb1)
              go_roundw
              case rel => exact ⟨e + 1, _, _, m, by first | rfl | trivial | go_num, by have := HAE.out; omega, Lib.hid ⟨G1.out, by have := HC.out; have := HAE.out; omega, HLZ.out⟩⟩
              case measure => have := HAE.out; have := HLT.out; simp [intOf]; omega
            · have hln := HLN.out
              unfold lineR at hln
              rw [if_neg hwz, ← HER.out] at hln
              have HLZ := Lib.hid hln
              have HWZ := Lib.hid hwz
              clear HLN hln hwz
              by_cases her0 : er = 0
              · subst her0
                have HL2 := Lib.hid (HLZ.out.1 rfl)
                clear HLZ
                go_wp2_with (first
                  | (go_at_call 40; rw [← HTE.out]; (with_reducible refine (HWD.out _).mono ?_); rintro e1 w1 ⟨v7, ws, rfl, ho, hmap, hb1⟩; obtain ⟨x, r, rfl⟩ : ∃ x r, ws = x :: r := List.exists_cons_of_ne_nil (fun h => HWZ.out (by rw [← hmap, h]; rfl)); obtain ⟨A7, c7, he7⟩ := owns_len ho; obtain ⟨nw, hnw⟩ : ∃ nw, nw = r.length := ⟨_, rfl⟩; have nw0 : (0 : Int) < (nw : Int) + 1 := (by omega); rw [List.length_cons, ← hnw] at he7; subst he7; have G1 := Lib.hid (G.out.grow hb1); have HLC := Lib.hid (line_in13 G.out hb1 ho (hmap.trans HWL.out) (by rw [HT.out]; have := HS.out; omega) (by have := HC.out; have := HS.out; omega)); obtain ⟨⟨m0, m1⟩, ⟨f0, f1⟩, ⟨x0, x1⟩, -⟩ := G1.out.facts; clear ho hmap hb1 hnw)
                  | (go_at_call 41; (with_reducible refine HLC.out.mono ?_); rintro e2 w2 ⟨DA2, dn2, dc2, FA2, fn2, fc2, he2, hb2, hok⟩; rw [← HWL.out, ← HER.out] at he2 hok; subst he2; have HOK := Lib.hid (hok rfl); have hb3 := hb2.alloc (by have := hb2.size; have := G1.out.big; omega) (.cells #[.slice DA2 dn2 dc2, .slice FA2 fn2 fc2] 25); have HB2 := Lib.hid hb2; have HB3 := Lib.hid hb3; clear m0 m1 f0 f1 x0 x1; obtain ⟨⟨m0, m1⟩, ⟨f0, f1⟩, ⟨x0, x1⟩, ⟨gm0, gm1⟩, ⟨gf0, gf1⟩, ⟨gx0, gx1⟩⟩ := G1.out.kept hb3; obtain ⟨n0, n1⟩ := cells2 (heap_alloc_new w2 (.cells #[.slice DA2 dn2 dc2, .slice FA2 fn2 fc2] 25)); clear hok hb2 hb3 HLC))
                go_roundw
                case rel =>
                  exact ⟨e + 1, .slice DA2 dn2 dc2, .slice FA2 fn2 fc2, (lineP m wl).1, by first | rfl | trivial | go_num, by have := HAE.out; omega, Lib.hid ⟨G1.out.line HB3.out (by obtain ⟨b1, Cs1, h1⟩ := HOK.out; exact ⟨b1, Cs1, h1.grow ((Below.refl _ w2).alloc (Nat.le_refl _) _)⟩), by have h1 := line_cnt (m := m) HWZ.out; have := HC.out; have := HAE.out; have := HT.out; have := HCT.out; omega, HL2.out⟩⟩
                case measure => have := HAE.out; have := HLT.out; simp [intOf]; omega
              · have her2 : (er != 0) = true := by simpa using her0
                have hgot := HGS.out er a (by rw [← HR.out]; exact HLZ.out.2 her0) her0
                have HGot := Lib.hid hgot
                clear hgot HLZ her0
                go_wp2_with (first
                  | (go_at_call 40; rw [← HTE.out]; (with_reducible refine (HWD.out _).mono ?_); rintro e1 w1 ⟨v7, ws, rfl, ho, hmap, hb1⟩; obtain ⟨x, r, rfl⟩ : ∃ x r, ws = x :: r := List.exists_cons_of_ne_nil (fun h => HWZ.out (by rw [← hmap, h]; rfl)); obtain ⟨A7, c7, he7⟩ := owns_len ho; obtain ⟨nw, hnw⟩ : ∃ nw, nw = r.length := ⟨_, rfl⟩; have nw0 : (0 : Int) < (nw : Int) + 1 := (by omega); rw [List.length_cons, ← hnw] at he7; subst he7; have G1 := Lib.hid (G.out.grow hb1); have HLC := Lib.hid (line_in13 G.out hb1 ho (hmap.trans HWL.out) (by rw [HT.out]; have := HS.out; omega) (by have := HC.out; have := HS.out; omega)); obtain ⟨⟨m0, m1⟩, ⟨f0, f1⟩, ⟨x0, x1⟩, -⟩ := G1.out.facts; clear ho hmap hb1 hnw)
                  | (go_at_call 41; (with_reducible refine HLC.out.mono ?_); rintro e2 w2 ⟨DA2, dn2, dc2, FA2, fn2, fc2, he2, hb2, hok⟩; rw [← HWL.out, ← HER.out] at he2; subst he2; have hb3 := hb2.alloc (by have := hb2.size; have := G1.out.big; omega) (.cells #[.slice DA2 dn2 dc2, .slice FA2 fn2 fc2] 25); have HB3 := Lib.hid hb3; clear m0 m1 f0 f1 x0 x1; obtain ⟨⟨m0, m1⟩, ⟨f0, f1⟩, ⟨x0, x1⟩, ⟨gm0, gm1⟩, ⟨gf0, gf1⟩, ⟨gx0, gx1⟩⟩ := G1.out.kept hb3; obtain ⟨n0, n1⟩ := cells2 (heap_alloc_new w2 (.cells #[.slice DA2 dn2 dc2, .slice FA2 fn2 fc2] 25)); clear hok hb2 hb3 HLC))
                rw [HGot.out]
                exact bodyPost_ret (v := .tuple #[.agg #[.slice none 0 0, .slice none 0 0], .agg #[.int .i64 er, .int .i64 a]]) (by simp [results, Tryz.results19, go_sem, m0, m1, f0, f1]) rfl (got_nil13 (G1.out.bel.trans (HB3.out.mono (by omega))) er a)
    · have hge2 : ¬ (a : Int) < (s.size : Int) := by omega
      have hr := HG.out.2.2
      rw [rest_done s (by omega)] at hr
      have hgot := HGR.out m (by rw [← HR.out, ← hr])
      have HCheck := Lib.hid (HG.out.1.data (by have := HG.out.2.1; have := HS.out; omega))
      obtain ⟨⟨m0, m1⟩, ⟨f0, f1⟩, ⟨x0, x1⟩, -⟩ := G.out.facts
      clear hr
      by_cases hme : m.err = 0
      · rw [if_neg (by simpa using hme)] at hgot
        have HGot := Lib.hid hgot
        have hCk := HCheck.out
        rw [hme] at hCk
        have HCk := Lib.hid hCk
        clear hgot hCk HCheck hme
        go_wp2_with (go_at_call 27; (with_reducible refine HCk.out.mono ?_); rintro e w1 ⟨rfl, hb1⟩; have G1 := Lib.hid (G.out.grow hb1); clear m0 m1 f0 f1 x0 x1 hb1; obtain ⟨⟨m0, m1⟩, ⟨f0, f1⟩, ⟨x0, x1⟩, ⟨gm0, gm1⟩, ⟨gf0, gf1⟩, -⟩ := G1.out.facts)
        rw [HGot.out]
        exact bodyPost_ret (v := .tuple #[.agg #[.slice DA dn dc, .slice FA fn fc], .agg #[.int .i64 0, .int .i64 0]]) (by simp [results, Tryz.results19, go_sem, m0, m1, f0, f1]) rfl (got_some13 G1.out)
      · rw [if_pos (by simpa using hme)] at hgot
        obtain ⟨me, hmee⟩ : ∃ me, me = m.err := ⟨_, rfl⟩
        rw [← hmee] at hgot hme HCheck
        have hme2 : (me != 0) = true := by simpa using hme
        have HGot := Lib.hid hgot
        clear hgot hmee hme
        go_wp2_with (go_at_call 27; (with_reducible refine HCheck.out.mono ?_); rintro e w1 ⟨rfl, hb1⟩; have G1 := Lib.hid (G.out.grow hb1); clear m0 m1 f0 f1 x0 x1 hb1; obtain ⟨⟨m0, m1⟩, ⟨f0, f1⟩, ⟨x0, x1⟩, ⟨gm0, gm1⟩, ⟨gf0, gf1⟩, -⟩ := G1.out.facts)
        rw [HGot.out]
        exact bodyPost_ret (v := .tuple #[.agg #[.slice none 0 0, .slice none 0 0], .agg #[.int .i64 me, .int .i64 0]]) (by simp [results, Tryz.results19, go_sem, m0, m1, f0, f1]) rfl (got_nil13 G1.out.bel me 0)
end Go.Proofs.YtohlifeenhaifaaGreatDoor
