import Derived.Test.YtkfdgpgildanbaaGreatSp15V
namespace Go.Proofs.YtkfdgpgildanbaaGreat
open Go.RowKit Go.Shelf
set_option linter.unusedVariables false
set_option linter.unusedSimpArgs false
theorem store_far15 {xs : List Int} {a n v : Int} {k : Nat} (h : (k : Int) < a ∨ a + n ≤ k) : (storeL xs a n v).getD k 0 = xs.getD k 0 := by
  unfold storeL
  split
  · rename_i he
    obtain ⟨hs, h0, h1, h2, h3⟩ := numE_zero he
    have hl : (bytesV v n.toNat).length = n.toNat := bytesV_len v _
    rw [getD_lay (by rw [hl]; omega)]
    split
    · rfl
    · split
      · rw [hl] at *; omega
      · rfl
  · rfl
theorem load_store15 {xs : List Int} {a v : Int} (h : numE xs.length a 8 = 0) (h0 : 0 ≤ v) (h1 : v < 18446744073709551616) : loadV (storeL xs a 8 v) a 8 = v := by
  have hl : (storeL xs a 8 v).length = xs.length := storeL_len
  unfold loadV
  rw [hl, if_pos h]
  obtain ⟨hs, g0, g1, g2, g3⟩ := numE_zero h
  unfold storeL
  rw [if_pos h]
  have hb : (bytesV v 8).length = 8 := bytesV_len v _
  have e := layL_part (xs := xs) (ys := bytesV v 8) (a := a.toNat) (by rw [hb]; omega)
  rw [hb] at e
  have e2 : partL (layL xs a.toNat (bytesV v (8 : Int).toNat)) a 8 = bytesV v 8 := by
    obtain ⟨k, rfl⟩ : ∃ k : Nat, a = (k : Int) := ⟨a.toNat, by omega⟩
    simpa using e
  rw [e2, numV_bytesV]
  omega
structure BackAt (S0 S : SpV) (f : Nat) (res back : Int) (wr : Bool) : Prop where
  ok : S.ok
  m : S.m = S0.m
  size : S.size = S0.size
  f : S.f = f
  pc : S.pc = 0
  ek : S.ek = 0
  at_ : S.at_ ≤ S0.at_
  links : S.links = S0.links ++ [⟨S0.f, S0.at_, back, res⟩]
  far : wr = false → ∀ k : Nat, S0.at_ ≤ k → S.mem.getD k 0 = S0.mem.getD k 0
theorem BackAt.ret {S0 S : SpV} {f : Nat} {res back v : Int} {b : Bool} (h0 : S0.ok) (he : S0.ek = 0) (hr : S0.regB res = true) (h : BackAt S0 S f res back b) (hv0 : 0 ≤ v) (hv1 : v < 18446744073709551616) :
    (S.retS v).ok ∧ S.refE = 0 ∧ (S.retS v).f = S0.f ∧ (S.retS v).at_ = S0.at_ ∧ (S.retS v).links.length = S0.links.length ∧ (S.retS v).pc = back ∧ (S.retS v).getE res = 0 ∧ (S.retS v).getV res = v ∧ (S.retS v).mem.length = S0.mem.length ∧
    (b = false → ∀ k : Nat, S0.at_ ≤ k → ¬ (S0.at_ + 8 * res ≤ k ∧ k < S0.at_ + 8 * res + 8) → (S.retS v).mem.getD k 0 = S0.mem.getD k 0) := by
  have hs := h0.slot he hr
  have hl : S.links.getLast? = some ⟨S0.f, S0.at_, back, res⟩ := by rw [h.links]; simp
  have hln : S.mem.length = S0.mem.length := by rw [h.ok.len, h0.len, h.size]
  have e : S.retS v = S.backS ⟨S0.f, S0.at_, back, res⟩ v := by
    unfold SpV.retS
    rw [if_pos h.ek, hl]
  have hg : (S.retS v).getE res = 0 := by
    rw [e]
    unfold SpV.getE SpV.backS
    simp only
    rw [if_pos h.ek]
    have : (SpV.regB { S with links := S.links.dropLast, f := S0.f, at_ := S0.at_, pc := back, mem := storeL S.mem (slotV S0.at_ res) 8 v } res) = true := by
      unfold SpV.regB at hr ⊢
      simp only
      rw [h.m]
      exact hr
    rw [this, if_pos rfl]
  have hn : numE S.mem.length (slotV S0.at_ res) 8 = 0 := by rw [hs.1, hln, h0.len]; exact numE_in hs.2.1 hs.2.2
  refine ⟨h.ok.retS v, by unfold SpV.refE; rw [if_pos h.ek], by rw [e]; rfl, by rw [e]; rfl, by rw [e]; show S.links.dropLast.length = _; rw [h.links]; simp, by rw [e]; rfl, hg, ?_, ?_, fun hb k hk hk2 => ?_⟩
  · unfold SpV.getV
    rw [if_pos hg, e]
    exact load_store15 hn hv0 hv1
  · rw [e]
    show (storeL S.mem _ 8 v).length = _
    rw [storeL_len, hln]
  · rw [e]
    show (storeL S.mem (slotV S0.at_ res) 8 v).getD k 0 = _
    rw [hs.1, store_far15 (by omega), h.far hb k hk]
theorem actS_keep (S : SpV) (A : ActS) : (S.actS A).m = S.m ∧ (S.actS A).size = S.size ∧ (S.actS A).done.length ≤ S.done.length + 1 := by
  unfold SpV.actS
  (repeat' split) <;> simp only [SpV.setS, SpV.goS, SpV.burnS, SpV.callS, SpV.retS, SpV.stopS, SpV.getbS, SpV.putbS, SpV.memS, SpV.backS] <;> (repeat' split) <;> simp
theorem act_at15 {w : World} {LA : Option Addr} {lc ln : Nat} {l : List ActS} (h : IsActS w w.heap.size (.slice LA ln lc) l) (hn : ln = l.length) {i : Nat} (hi : i < ln) :
    ∃ b off, LA = some ⟨b, off, none⟩ ∧ ln ≤ lc ∧ b < w.heap.size ∧ ∃ K R N B V X n c xs E C, l.getD i .zero = ⟨K, R, N, B, V, .slice X n c, xs, E, C⟩ ∧ (l.getD i .zero).ok w w.heap.size ∧
      ∀ W, Below w.heap.size w W → W.cell? ⟨b, off + i * 8, none⟩ = some (.int .i64 K) ∧ W.cell? ⟨b, off + i * 8 + 1, none⟩ = some (.int .i64 R) ∧ W.cell? ⟨b, off + i * 8 + 2, none⟩ = some (.int .i64 N) ∧ W.cell? ⟨b, off + i * 8 + 3, none⟩ = some (.int .i64 B) ∧ W.cell? ⟨b, off + i * 8 + 4, none⟩ = some (.int .u64 V) ∧ W.cell? ⟨b, off + i * 8 + 5, none⟩ = some (.slice X n c) ∧ W.cell? ⟨b, off + i * 8 + 6, none⟩ = some (.int .i64 E) ∧ W.cell? ⟨b, off + i * 8 + 7, none⟩ = some (.int .i64 C) := by
  have hil : i < l.length := by omega
  rcases h.2.2 with ⟨h0, _⟩ | ⟨b, off, cap, h1, h2, h3, h4⟩
  · rw [h0] at hil; cases hil
  · injection h1 with h1 h1' h1''
    subst h1 h1''
    have hok : (l.getD i .zero).ok w w.heap.size := h.2.1 _ (by rw [show l.getD i .zero = l[i] by simp [List.getD, List.getElem?_eq_getElem hil]]; exact List.getElem_mem hil)
    have hc := h4 i hil
    generalize hA : l.getD i .zero = A at *
    obtain ⟨K, R, N, B, V, X, xs, E, C⟩ := A
    obtain ⟨XA, c, hx⟩ := hok.b.len
    simp only at hx
    subst hx
    refine ⟨b, off, rfl, by omega, h3, K, R, N, B, V, XA, _, c, xs, E, C, rfl, hok, fun W hb => ?_⟩
    have hw : ∀ j, j < 8 → W.cell? ⟨b, off + i * 8 + j, none⟩ = some (ActS.cell ⟨K, R, N, B, V, .slice XA xs.length c, xs, E, C⟩ j) := fun j hj => by
      rw [hb.cell (p := ⟨b, off + i * 8 + j, none⟩) h3]
      exact hc j hj
    exact ⟨hw 0 (by decide), hw 1 (by decide), hw 2 (by decide), hw 3 (by decide), hw 4 (by decide), hw 5 (by decide), hw 6 (by decide), hw 7 (by decide)⟩
end Go.Proofs.YtkfdgpgildanbaaGreat
