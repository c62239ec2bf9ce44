/- Copies of instructions. Contract; no condition but that they are few, of few arguments each. -/
import Derived.Test.YtobbjphpngckgaaKit07
import Derived.Test.YtobbjphpngckgaaRef07J
import Derived.Test.YtobbjphpngckgaaLaws07D
namespace Go.Proofs.Ytobbjphpngckgaa
open Go.RowKit Go.Shelf
set_option linter.unusedVariables false
set_option linter.unusedSimpArgs false

set_option maxRecDepth 100000 in
set_option maxHeartbeats 4000000 in
theorem copyCode_any (V : Value) (l : List InsV) (w : World) (h : IsCode w w.heap.size V l) (hs : l.length ≤ 1000) (h20 : ∀ y ∈ l, y.args.length ≤ 20) :
    Calls Try.prog 11 #[V] w fun e w' => Below w.heap.size w w' ∧ ∃ U Xs, e = .returned U ∧ OwnC w.heap.size w' U l Xs := by
  obtain ⟨A, cap, rfl⟩ := h.len
  have HC := Lib.hid h
  have HA20 := Lib.hid h20
  obtain ⟨n, hn⟩ : ∃ n, n = l.length := ⟨_, rfl⟩
  have HN := Lib.hid hn
  rw [← hn] at HC hs ⊢
  clear h hn h20
  go_enter Try.func11, Try.ntmps11
  go_wp2
  go_loopw [3, 4] (fun out i wr => ∃ (k : Nat) (Xs : List Value), k ≤ n ∧ i = .int .i64 k ∧ Hid (OwnC w.heap.size wr out (l.take k) Xs ∧ Below w.heap.size w wr)) (fun _ i _ => n - (intOf i).toNat)
  case atStart => exact ⟨0, [], by omega, rfl, ⟨OwnC.nil _ _, Below.refl _ _⟩⟩
  case round =>
    obtain ⟨k, Xs, hk, rfl, HR⟩ := hrel
    obtain ⟨ho, hb⟩ := HR.out
    have HO := Lib.hid ho
    have HB := Lib.hid hb
    obtain ⟨oA, oc, hoe⟩ := owns_len ho.own
    subst hoe
    clear HR ho
    by_cases hlt : k < n
    · have hkl : k < l.length := by rw [← HN.out]; exact hlt
      obtain ⟨b, off, cap', hV, hcp, hbB, hcl⟩ := HC.out.plain (by omega)
      rw [← HN.out] at hV
      cases hV
      obtain ⟨X, hX, hcell⟩ := hcl k hkl
      have hcl' : ∀ j, j < 6 → wr.cell? ⟨b, off + k * 6 + j, none⟩ = some (insCell (l.getD k .zero) X j) := fun j hj => (hb.cell (p := ⟨b, off + k * 6 + j, none⟩) hbB).trans (hcell j hj)
      have HTK := Lib.hid (code_take l hkl)
      have hin := code_getD HC.out hkl
      have hlk : (l.take k).length = k := by rw [List.length_take]; omega
      have h2 : (l.getD k .zero).args.length ≤ 20 := HA20.out _ (by simp [List.getD, List.getElem?_eq_getElem hkl])
      obtain ⟨⟨op, a, b1, c, n1, args⟩, hy⟩ : ∃ y, y = l.getD k .zero := ⟨_, rfl⟩
      rw [← hy] at hX hcl' HTK hin h2
      have c0 : wr.cell? ⟨b, off + k * 6, none⟩ = some (.int .i64 op) := hcl' 0 (by omega)
      have c1 : wr.cell? ⟨b, off + k * 6 + 1, none⟩ = some (.int .i64 a) := hcl' 1 (by omega)
      have c2 : wr.cell? ⟨b, off + k * 6 + 2, none⟩ = some (.int .i64 b1) := hcl' 2 (by omega)
      have c3 : wr.cell? ⟨b, off + k * 6 + 3, none⟩ = some (.int .i64 c) := hcl' 3 (by omega)
      have c4 : wr.cell? ⟨b, off + k * 6 + 4, none⟩ = some (.int .i64 n1) := hcl' 4 (by omega)
      have c5 : wr.cell? ⟨b, off + k * 6 + 5, none⟩ = some X := hcl' 5 (by omega)
      have hXw := (hX.below hb (Nat.le_refl _)).more hb.size
      dsimp only at hXw h2
      have HCI := Lib.hid (copyIns_any op a b1 c n1 X args _ hXw (by omega))
      have HIN := Lib.hid hin
      have HLK := Lib.hid hlk
      obtain ⟨XA, Xc, rfl⟩ := hX.len
      have k0 : (0 : Int) ≤ (k : Int) := by omega
      have k1 : (k : Int) < (n : Int) := by omega
      clear hcl' hcell hX hXw hy hcl hcp hin h2 hlk hkl
      generalize l.take k = lk at *
      go_wp2_with (first
        | (go_at_call 35; (with_reducible refine HCI.out.mono ?_); rintro e w2 ⟨X2, rfl, ho, hb2⟩; obtain ⟨xA, xc, hxe⟩ := owns_len ho; subst hxe; have HX2 := Lib.hid ho; have HO2 := Lib.hid (HO.out.below hb2 (Nat.le_refl _)); have HB2 := Lib.hid (HB.out.trans (hb2.mono HB.out.size)); clear ho hb2)
        | (at_builtin; refine wpList_outC rfl _ _ rfl (y := ⟨op, a, b1, c, n1, args⟩) rfl rfl (by simp) HO2.out (Owns.base HX2.out (Nat.zero_le _)) rfl HIN.out HB2.out.size (by have := HLK.out; omega) ?_; intro V3 w3 hc hb3 hk3 hkp; have HC3 := Lib.hid hc; have HB3 := Lib.hid (HB2.out.trans hb3); clear hc hb3 hk3 hkp))
      go_roundw
      case rel => exact ⟨k + 1, _, by omega, by go_num, ⟨by rw [HTK.out]; exact HC3.out, HB3.out⟩⟩
      case measure => simp [intOf]; omega
    · obtain rfl : k = n := by omega
      have htk : l.take k = l := by rw [HN.out]; exact List.take_length
      have HTE := Lib.hid htk
      clear htk hb
      go_wp2
      go_ret
      have HOO := HO.out
      generalize Value.slice oA (l.take k).length oc = U at HOO ⊢
      rw [HTE.out] at HOO
      exact ⟨HB.out, _, _, rfl, HOO⟩
end Go.Proofs.Ytobbjphpngckgaa
