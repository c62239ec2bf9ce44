/- The document's own Unset of layer 11. Contract; no condition but that the instructions are few. -/
import Derived.Test.YtjoiocjnffaogaaGreatRef11B
namespace Go.Proofs.YtjoiocjnffaogaaGreat
open Go.RowKit Go.Shelf
set_option linter.unusedVariables false
set_option linter.unusedSimpArgs false

def UnsetN (w : World) (l : List InsV) (p : Int) (e : Ending) (w' : World) : Prop :=
  Below w.heap.size w w' ∧ ((badP p ∧ e = .returned (.tuple #[.int .i64 0, .int .i64 0, .int .i64 2])) ∨ (¬ badP p ∧ check10 l ≠ 0 ∧ e = .returned (.tuple #[.int .i64 0, .int .i64 0, .int .i64 (check10 l)])) ∨
    (¬ badP p ∧ check10 l = 0 ∧ ∃ i r, e = .returned (.tuple #[.int .i64 i, .int .i64 r, .int .i64 0]) ∧ UnsIs l p.toNat i r))
theorem mask_bitI (l : List InsV) (p i : Nat) {r : Nat} (h : r < 64) : ((maskV l p i : Nat) : Int) / 2 ^ r % 2 = if sureB l p r i then 1 else 0 := by
  have h1 := maskV_bit l p i h
  have h2 : ((maskV l p i : Nat) : Int) / 2 ^ r % 2 = ((maskV l p i / 2 ^ r % 2 : Nat) : Int) := by push_cast; rfl
  rw [h2, h1]
  split <;> rfl
set_option maxRecDepth 100000 in
set_option maxHeartbeats 16000000 in
theorem rUnset11_any (A : Option Addr) (n cap : Nat) (l : List InsV) (p : Int) (w : World) (hn : n = l.length) (h : IsCode w w.heap.size (.slice A n cap) l) (hs : n ≤ 1000) :
    Calls Tryz.prog 10 #[.slice A n cap, .int .i64 p] w (UnsetN w l p) := by
  have HC := Lib.hid h
  have HN := Lib.hid hn
  have HMS := Lib.hid (rMasks11_any A n cap l p w hn h hs)
  by_cases hp : badP p
  · have HM2 := Lib.hid (HMS.out.mono fun e w' hh => And.intro hh.1 ((hh.2.resolve_right (fun h => by rcases h with h | h <;> exact h.1 hp)).2))
    have HP := Lib.hid hp
    clear h hn hp HMS
    go_enter Tryz.func10, Tryz.ntmps10
    go_wp2_with (go_at_call 8; (with_reducible refine HM2.out.mono ?_); rintro e w1 ⟨hb, rfl⟩; have HB1 := Lib.hid hb; clear hb)
    go_ret3
    exact ⟨HB1.out, .inl ⟨HP.out, rfl⟩⟩
  · have HP := Lib.hid hp
    by_cases h0 : check10 l = 0
    · have hg := good10 h0
      have HM2 := Lib.hid (HMS.out.mono fun e w' hh => And.intro hh.1 (((hh.2.resolve_left (fun h => hp h.1)).resolve_left (fun h => h.2.1 h0)).2.2))
      have H0 := Lib.hid h0
      have HG := Lib.hid hg
      have hsI : (n : Int) ≤ 1000 := by omega
      obtain ⟨pn, hpn⟩ : ∃ pn, pn = p.toNat := ⟨_, rfl⟩
      have HPN := Lib.hid hpn.symm
      rw [← hpn] at HM2
      clear h hn hg h0 HMS hp hpn
      go_enter Tryz.func10, Tryz.ntmps10
      go_wp2_with (go_at_call 8; (with_reducible refine HM2.out.mono ?_); rintro e w1 ⟨hb, gb, rfl, hge, hrow⟩; have HB1 := Lib.hid hb; have HR1 := Lib.hid hrow; clear hb hge hrow)
      go_loopw [9] (fun v wr => ∃ a : Nat, a ≤ n ∧ v = .int .i64 a ∧ Hid (Below w1.heap.size w1 wr ∧ SureUpto l pn a)) (fun v _ => n - (intOf v).toNat)
      case atStart => exact ⟨0, by omega, rfl, Below.refl _ _, fun b hb => absurd hb (by omega)⟩
      case round =>
        obtain ⟨a, ha, rfl, HA⟩ := hrel
        obtain ⟨hb, hsu⟩ := HA.out
        have HB := Lib.hid hb
        have HSU := Lib.hid hsu
        have HBW := Lib.hid (HB1.out.trans (hb.mono HB1.out.size))
        clear HA hb hsu
        by_cases hlt : a < n
        · have hal : a < l.length := by rw [← HN.out]; exact hlt
          obtain ⟨cb, co, op, ca, b1, c, n1, args, YA, Yc, hA, hy, hin, hcc⟩ := code_cells HC.out HN.out hlt
          cases hA
          obtain ⟨hX, c0, c1, c2, c3, c4, c5⟩ := hcc wr HBW.out
          have hck := good_chk HG.out hal
          have hbd := rds_bd hck
          have hln := rds_len hck
          have hag := chk_args hck
          rw [hy] at hag
          dsimp only at hag
          have HRD := Lib.hid (rreads_any op ca b1 c n1 YA Yc args wr hX (by omega))
          rw [← hy] at HRD
          have HBD := Lib.hid hbd
          have HAL := Lib.hid hal
          obtain ⟨xl, hxl⟩ : ∃ xl, xl = (rdsV (l.getD a .zero)).length := ⟨_, rfl⟩
          have HXL := Lib.hid hxl
          have xl3 : (xl : Int) ≤ 11 := by omega
          have k0 : (0 : Int) ≤ (a : Int) := by omega
          have k1 : (a : Int) < (n : Int) := by omega
          have HLT := Lib.hid hlt
          clear hX hy hin hcc hck hbd hln hag hal hxl hlt
          go_wp2_with (go_at_call 22; (with_reducible refine HRD.out.mono ?_); rintro e w5 ⟨hb, R, rfl, ho⟩; have HB5 := Lib.hid (HB.out.trans (hb.mono HB.out.size)); have HR5 := Lib.hid (IsNums.of_owns ho (Nat.le_refl _)); obtain ⟨rA, rc, hre⟩ := owns_len ho; rw [← HXL.out] at hre; subst hre; clear hb ho)
          go_loopw [11] (fun v wi => ∃ q : Nat, q ≤ xl ∧ v = .int .i64 q ∧ Hid (Below w5.heap.size w5 wi ∧ ∀ k, k < q → sureB l pn ((rdsV (l.getD a .zero)).getD k 0).toNat a = true)) (fun v _ => xl - (intOf v).toNat)
          case atStart => exact ⟨0, by omega, rfl, Below.refl _ _, fun k hk => absurd hk (by omega)⟩
          case round =>
            obtain ⟨q, hq, rfl, HQ⟩ := hrel
            obtain ⟨hb, hsq⟩ := HQ.out
            have HI := Lib.hid hb
            have HSQ := Lib.hid hsq
            have HI1 := Lib.hid (HB5.out.trans (hb.mono HB5.out.size))
            clear HQ hsq
            by_cases hql : q < xl
            · have q0 : (0 : Int) ≤ (q : Int) := by omega
              have q1 : (q : Int) < (xl : Int) := by omega
              have hql2 : q < (rdsV (l.getD a .zero)).length := by rw [← HXL.out]; exact hql
              obtain ⟨nb, no, nc, hV, _, _, hnc⟩ := (HR5.out.below hb (Nat.le_refl _)).plain (by rw [← HXL.out]; omega)
              rw [← HXL.out] at hV
              cases hV
              have hx1 := hnc q hql2
              have hmem : (rdsV (l.getD a .zero)).getD q 0 ∈ rdsV (l.getD a .zero) := by
                generalize rdsV (l.getD a .zero) = rs at *
                rw [List.getD, List.getElem?_eq_getElem hql2]
                exact List.getElem_mem hql2
              have hxb := HBD.out _ hmem
              have z1 : wr.cell? ⟨gb, a, none⟩ = some (.int .u64 ((maskV l pn a : Nat) : Int)) := (HR1.out.below HI1.out HR1.out.lt).cell HLT.out
              have HUN : Hid (sureB l pn ((rdsV (l.getD a .zero)).getD q 0).toNat a = false → UnsIs l pn (a : Int) ((rdsV (l.getD a .zero)).getD q 0)) := Lib.hid (fun hf => .inr ⟨a, q, HAL.out, hql2, rfl, rfl, HSU.out, HSQ.out, hf⟩)
              have HNX : Hid (sureB l pn ((rdsV (l.getD a .zero)).getD q 0).toNat a = true → ∀ k, k < q + 1 → sureB l pn ((rdsV (l.getD a .zero)).getD k 0).toNat a = true) := Lib.hid (fun ht k hk => by
                by_cases e : k = q
                · subst e; exact ht
                · exact HSQ.out k (by omega))
              generalize (rdsV (l.getD a .zero)).getD q 0 = x at hx1 hxb HUN HNX
              obtain ⟨xn, rfl⟩ : ∃ xn : Nat, x = xn := ⟨x.toNat, by omega⟩
              rw [Int.toNat_natCast] at HUN HNX
              have y0 : (0 : Int) ≤ (xn : Int) := by omega
              have y1 : (xn : Int) < 64 := hxb.2
              have hbit := mask_bitI l pn a (r := xn) (by omega)
              have hml := maskV_lt l pn a
              have m0 : (0 : Int) ≤ ((maskV l pn a : Nat) : Int) := by omega
              have hdn : (0 : Int) ≤ ((maskV l pn a : Nat) : Int) / 2 ^ xn := Int.ediv_nonneg m0 (Int.pow_nonneg (by decide))
              generalize maskV l pn a = mk at *
              have HML := Lib.hid hml
              clear hnc hmem hxb hb hql2 hml
              cases hsb : sureB l pn xn a with
              | true =>
                rw [hsb, if_pos rfl] at hbit
                have HSN := Lib.hid (HNX.out hsb)
                have e1 : (((mk : Nat) : Int) / 2 ^ xn % 2 == 0) = false := by rw [hbit]; rfl
                have e2 : (((mk : Nat) : Int) / 2 ^ xn).tmod 2 = 1 := by rw [Int.tmod_eq_emod_of_nonneg hdn]; exact hbit
                clear hsb hbit
                go_wp2
                go_quiet (fail)
                go_wp2
                go_roundw
                case rel => exact ⟨q + 1, by omega, by go_num, below_drewN HI.out _, HSN.out⟩
                case measure => simp [intOf]; omega
              | false =>
                rw [hsb, if_neg (by simp)] at hbit
                have HSN := Lib.hid (HUN.out hsb)
                have e1 : (((mk : Nat) : Int) / 2 ^ xn % 2 == 0) = true := by rw [hbit]; rfl
                have e2 : (((mk : Nat) : Int) / 2 ^ xn).tmod 2 = 0 := by rw [Int.tmod_eq_emod_of_nonneg hdn]; exact hbit
                clear hsb hbit
                go_wp2
                go_quiet (fail)
                go_wp2
                go_quiet (fail)
                go_wp2
                go_ret3
                refine ⟨HB1.out.trans ((below_drewN (below_drewN HI1.out _) _).mono HB1.out.size), .inr (.inr ⟨HP.out, H0.out, (a : Int), (xn : Int), rfl, ?_⟩)⟩
                rw [HPN.out]
                exact HSN.out
            · obtain rfl : q = xl := by omega
              have HSN : Hid (SureUpto l pn (a + 1)) := Lib.hid (fun b hb x hx => by
                by_cases e : b = a
                · subst e
                  obtain ⟨i, hi, rfl⟩ := List.getElem_of_mem hx
                  have := HSQ.out i (by rw [HXL.out]; exact hi)
                  rw [List.getD, List.getElem?_eq_getElem hi] at this
                  exact this
                · exact HSU.out b (by omega) x hx)
              clear hb
              go_wp2
              go_roundw
              case rel => exact ⟨a + 1, by have := HLT.out; omega, by go_num, HI1.out, HSN.out⟩
              case measure => have := HLT.out; simp [intOf]; omega
        · obtain rfl : a = n := by omega
          go_wp2
          go_ret3
          refine ⟨HBW.out, .inr (.inr ⟨HP.out, H0.out, -1, -1, rfl, ?_⟩)⟩
          rw [HPN.out]
          exact .inl ⟨rfl, rfl, by rw [← HN.out]; exact HSU.out⟩
    · have HM2 := Lib.hid (HMS.out.mono fun e w' hh => And.intro hh.1 (((hh.2.resolve_left (fun h => hp h.1)).resolve_right (fun h => h0 h.2.1)).2.2))
      have hne : (check10 l != 0) = true := by simpa using h0
      have H0 := Lib.hid h0
      unfold UnsetN
      generalize check10 l = z at *
      clear h hn h0 hp HMS
      go_enter Tryz.func10, Tryz.ntmps10
      go_wp2_with (go_at_call 8; (with_reducible refine HM2.out.mono ?_); rintro e w1 ⟨hb, rfl⟩; have HB1 := Lib.hid hb; clear hb)
      go_ret3
      exact ⟨HB1.out, .inr (.inl ⟨HP.out, H0.out, rfl⟩)⟩
end Go.Proofs.YtjoiocjnffaogaaGreat
