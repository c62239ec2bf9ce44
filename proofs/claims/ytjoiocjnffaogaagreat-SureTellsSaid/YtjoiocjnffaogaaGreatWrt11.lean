/- The landed bit and written. Contracts; no condition but that the instructions flow. -/
import Derived.Test.YtjoiocjnffaogaaGreatRep11
import Derived.Test.YtjoiocjnffaogaaGreatFix11
import Derived.Test.YtjoiocjnffaogaaGreatS19
namespace Go.Proofs.YtjoiocjnffaogaaGreat
open Go.RowKit Go.Shelf
set_option linter.unusedVariables false
set_option linter.unusedSimpArgs false

theorem bit11 (r : Nat) (hr : r < 64) (w : World) : Calls Tryz.prog 18 #[.int .i64 r] w fun e w' => e = .returned (.int .u64 ((2 ^ r : Nat) : Int)) ∧ w = w' := by
  obtain ⟨e, he⟩ : ∃ e, e = 2 ^ r := ⟨_, rfl⟩
  have he64 : e < 18446744073709551616 := by rw [he]; exact (show 2 ^ r < 2 ^ 64 from Nat.pow_lt_pow_right (by decide) hr)
  have f2 : IntKind.u64.wrap (2 ^ r) = ((e : Nat) : Int) := by
    have h3 : ((2 ^ r : Nat) : Int) = (2 : Int) ^ r := by simp
    rw [IntKind.wrap_u64, ← h3, ← he]
    omega
  have r0 : ¬ (r : Int) < 0 := by omega
  have r1 : min r 64 = r := by omega
  rw [← he]
  clear he
  go_enter Tryz.func18, Tryz.ntmps18
  go_wp2
  go_ret
  exact ⟨rfl, rfl⟩
def WrtDone (w : World) (l : List InsV) (n : Nat) (e : Ending) (w' : World) : Prop :=
  e = .returned (.slice (some ⟨w.heap.size, 0, none⟩) n n) ∧ MkAt w w' n (fun i => wmV (wrtV (l.getD i .zero)))
set_option maxRecDepth 100000 in
set_option maxHeartbeats 16000000 in
theorem written11 (A : Option Addr) (n cap : Nat) (l : List InsV) (w : World) (hn : n = l.length) (h : IsCode w w.heap.size (.slice A n cap) l) (hg : Good10 l) (h4 : n ≤ 4096) :
    Calls Tryz.prog 17 #[.slice A n cap] w (WrtDone w l n) := by
  have HC := Lib.hid h
  have HN := Lib.hid hn
  have HG := Lib.hid hg
  have hmk := make_u64s n (by omega)
  have HMM : Hid (MkAt w (w.alloc (.cells (madeCells (Value.int .u64 0).cells (n * 1)) 30)) n (fun _ => 0)) := Lib.hid (MkAt.made n w)
  generalize madeCells (Value.int .u64 0).cells (n * 1) = mb at *
  have hnI : (n : Int) ≤ 4096 := by omega
  have HN4 := Lib.hid h4
  clear h hn hg
  go_enter Tryz.func17, Tryz.ntmps17
  go_wp2
  go_loopw [12] (fun v wr => ∃ k : Nat, k ≤ n ∧ v = .int .i64 k ∧ Hid (MkAt w wr n (fun i => if i < k then wmV (wrtV (l.getD i .zero)) else 0))) (fun v _ => n - (intOf v).toNat)
  case atStart => exact ⟨0, by omega, rfl, HMM.out.congr fun i hi => by simp⟩
  case round =>
    obtain ⟨k, hk, rfl, HR⟩ := hrel
    by_cases hlt : k < n
    · have hadd : wrap64 ((k : Int) + 1) = (k : Int) + 1 := by unfold wrap64; omega
      have k0 : (0 : Int) ≤ (k : Int) := by omega
      have k1 : (k : Int) < (n : Int) := by omega
      obtain ⟨cb, co, op, ca, b1, c, n1, args, YA, Yc, hA, hy, hin, hcc⟩ := code_cells HC.out HN.out hlt
      cases hA
      obtain ⟨hXr, c0, c1, c2, c3, c4, c5⟩ := hcc wr HR.out.bel
      have hkl : k < l.length := by rw [← HN.out]; exact hlt
      have hwb := wrt_bd (good_chk HG.out hkl)
      have hbox : Below wr.heap.size wr (wr.alloc (.cells (insCells op ca b1 c n1 (.slice YA args.length Yc)) 37)) := (Below.refl _ _).alloc (Nat.le_refl _) _
      have HWT : Hid (Calls Tryz.prog 33 #[.agg (insCells op ca b1 c n1 (.slice YA args.length Yc))] (wr.alloc (.cells (insCells op ca b1 c n1 (.slice YA args.length Yc)) 37)) (Makes (wr.alloc (.cells (insCells op ca b1 c n1 (.slice YA args.length Yc)) 37)) (.int .i64 (wrtV (l.getD k .zero))))) := Lib.hid (by
        rw [hy]
        exact writes_any op ca b1 c n1 (.slice YA args.length Yc) args _ ((hXr.below hbox (by have := HR.out.bel.size; omega)).more (by have := hbox.size; have := HR.out.bel.size; omega)))
      have HMB := Lib.hid (HR.out.grow hbox)
      have HWM : Hid (wmV (wrtV (l.getD k .zero)) = if 0 ≤ wrtV (l.getD k .zero) then 2 ^ (wrtV (l.getD k .zero)).toNat else 0) := Lib.hid rfl
      obtain ⟨xw, hxw⟩ : ∃ xw, xw = wrtV (l.getD k .zero) := ⟨_, rfl⟩
      have HXW := Lib.hid hxw
      rw [← hxw] at HWT hwb HWM
      have HLT := Lib.hid hlt
      clear hXr hy hin hxw hcc hbox hlt
      by_cases hw : 0 ≤ xw
      · obtain ⟨xn, rfl⟩ : ∃ xn : Nat, xw = xn := ⟨xw.toNat, by omega⟩
        have x0 : ((xn : Int) != (-1)) = true := by simp
        have HBI := Lib.hid (fun W => bit11 xn (by omega) W)
        have HW2 : Hid (wmV (xn : Int) = 2 ^ xn) := Lib.hid (by rw [HWM.out, if_pos hw, Int.toNat_natCast])
        obtain ⟨e2, he2⟩ : ∃ e2, e2 = 2 ^ xn := ⟨_, rfl⟩
        rw [← he2] at HBI HW2
        clear he2 hw hwb
        go_wp2_with (first
          | (go_at_call 33; (with_reducible refine HWT.out.mono ?_); rintro e w2 ⟨rfl, hb⟩; have HM2 := Lib.hid (HMB.out.grow hb); have r2 := HM2.out.row.cell HLT.out; have q2 := HM2.out.row.frozen k; unfold wordsU at r2; dsimp only at r2; rw [if_neg (Nat.lt_irrefl k)] at r2; clear hb)
          | (go_at_call 18; (with_reducible refine (HBI.out _).mono ?_); rintro e w3 ⟨rfl, rfl⟩))
        go_roundw
        case rel =>
          refine ⟨k + 1, by have := HLT.out; omega, by go_num, (HM2.out.set k e2).congr fun i hi => ?_⟩
          by_cases e : i = k
          · subst e
            rw [if_pos rfl, if_pos (by omega), ← HXW.out, HW2.out]
          · rw [if_neg e]
            by_cases e3 : i < k
            · rw [if_pos e3, if_pos (by omega)]
            · rw [if_neg e3, if_neg (by omega)]
        case measure => have := HLT.out; simp [intOf]; omega
      · obtain rfl : xw = -1 := by omega
        have x0 : ((-1 : Int) != (-1)) = false := by decide
        clear hw hwb
        go_wp2_with (go_at_call 33; (with_reducible refine HWT.out.mono ?_); rintro e w2 ⟨rfl, hb⟩; have HM2 := Lib.hid (HMB.out.grow hb); clear hb)
        go_roundw
        case rel =>
          refine ⟨k + 1, by have := HLT.out; omega, by go_num, HM2.out.congr fun i hi => ?_⟩
          by_cases e : i = k
          · subst e
            rw [if_neg (Nat.lt_irrefl _), if_pos (by omega), ← HXW.out, HWM.out, if_neg (by decide)]
          · by_cases e3 : i < k
            · rw [if_pos e3, if_pos (by omega)]
            · rw [if_neg e3, if_neg (by omega)]
        case measure => have := HLT.out; simp [intOf]; omega
    · obtain rfl : k = n := by omega
      go_wp2
      go_ret
      exact ⟨rfl, HR.out.congr fun i hi => if_pos hi⟩
end Go.Proofs.YtjoiocjnffaogaaGreat
