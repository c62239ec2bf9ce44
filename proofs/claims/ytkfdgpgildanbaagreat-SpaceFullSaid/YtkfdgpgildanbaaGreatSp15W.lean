/- Frames along a chain of calls: what they are together, and when they are too many. Plain mathematics. -/
import Derived.Test.YtkfdgpgildanbaaGreatMath15
namespace Go.Proofs.YtkfdgpgildanbaaGreat
set_option linter.unusedVariables false
set_option linter.unusedSimpArgs false
def fsM (m : ModV) (f : Nat) : Int := fsV (fnV m f).regs (fnV m f).area
theorem push_iff {m : ModV} {f : Nat} {x : Int} (hm : m.err = 0) (hf : f < m.funcs.length) (h0 : 16 ≤ x) (h1 : x ≤ 65536) (h2 : x % 16 = 0) :
    pushE x (fnV m f).regs (fnV m f).area (floV m) = 0 ↔ floV m + fsM m f ≤ x := by
  have h3 := fs_fn hm hf
  have h4 := flo_bd hm
  unfold pushE fsM
  rw [if_pos h3.2.2.2]
  have e1 : edgeV x = true := edge_iff.2 (by omega)
  have e2 : edgeV (floV m) = true := edge_iff.2 (by omega)
  rw [e1, e2]
  simp only [Bool.and_self, if_true]
  split <;> omega
/-- A space whose frames are so many bytes. -/
structure FullAt (m : ModV) (n : Nat) (S : SpV) (sum : Int) : Prop where
  ok : S.ok
  mod : S.m = m
  sz : S.size = n
  at_ : S.ek = 0 → S.at_ = n - sum
theorem full_new {m : ModV} {n : Nat} {inp : List Int} {fuel : Int} (h : newE15 m n fuel = 0) (hb : ∀ x ∈ inp, 0 ≤ x ∧ x < 256) :
    FullAt m n (newS m n inp fuel) (fsM m 0) ∧ (newS m n inp fuel).ek = (if fsM m 0 > n - floV m then 3 else 0) ∧ (newS m n inp fuel).f = 0 ∧ (newS m n inp fuel).links = [] := by
  have hok := newS_ok h hb
  obtain ⟨h1, h2, h3, h4, h5, h6, h7⟩ := newE15_zero h
  have hf := (err_funs h6).2.1
  have hp : (new0 m n inp fuel).newE 0 = 0 ↔ floV m + fsM m 0 ≤ n := push_iff (m := m) (f := 0) (x := (n : Int)) h6 (show 0 < m.funcs.length by omega) h3 h4 h5
  by_cases he : floV m + fsM m 0 ≤ n
  · have e := hp.2 he
    have hn : newS m n inp fuel = { new0 m n inp fuel with at_ := (new0 m n inp fuel).newAt 0 } := by unfold newS; rw [if_pos e]
    rw [hn] at hok ⊢
    refine ⟨⟨hok, rfl, rfl, fun _ => ?_⟩, ?_, rfl, rfl⟩
    · have e' : pushE (n : Int) (fnV m 0).regs (fnV m 0).area (floV m) = 0 := e
      show pushV (n : Int) (fnV m 0).regs (fnV m 0).area (floV m) = _
      unfold pushV
      rw [if_pos e']
      rfl
    · rw [if_neg (by omega)]; rfl
  · have e : ¬ (new0 m n inp fuel).newE 0 = 0 := fun c => he (hp.1 c)
    have hn : newS m n inp fuel = { new0 m n inp fuel with ek := 3 } := by unfold newS; rw [if_neg e]
    rw [hn] at hok ⊢
    refine ⟨⟨hok, rfl, rfl, fun c => absurd c (show ¬ (3 : Int) = 0 by decide)⟩, ?_, rfl, rfl⟩
    rw [if_pos (by omega)]
section
variable {m : ModV} {n : Nat} {S : SpV} {sum : Int}
theorem FullAt.callE (h : FullAt m n S sum) (hr : S.ek = 0) {t : Nat} (ht : t < m.funcs.length) :
    S.callE t (List.replicate (fnV m t).params.toNat 0) 0 0 = (if (fnV m S.f).regs = 0 then 5 else 0) := by
  have hm := h.ok.mod
  rw [h.mod] at hm
  have hp := err_fn hm ht
  have hfn := h.ok.fn
  rw [h.mod] at hfn
  have hq := err_fn hm hfn
  have hfit : S.fitB (t : Int) (List.replicate (fnV m t).params.toNat (0 : Int)).length = true := by
    refine fit_iff.2 ⟨by omega, by rw [h.mod]; omega, ?_⟩
    rw [h.mod, List.length_replicate, Int.toNat_natCast]
    omega
  unfold SpV.callE
  rw [if_pos hr, hfit, if_pos rfl]
  by_cases h0 : (fnV m S.f).regs = 0
  · rw [if_pos h0]
    have : S.regB 0 = false := by unfold SpV.regB; rw [h.mod, h0]; decide
    rw [this]
    simp
  · rw [if_neg h0]
    have hr0 : S.regB 0 = true := by unfold SpV.regB; rw [h.mod]; simp; omega
    have hall : (List.replicate (fnV m t).params.toNat (0 : Int)).all S.regB = true := by
      simp only [List.all_eq_true]
      intro x hx
      rw [List.eq_of_mem_replicate hx]
      exact hr0
    rw [hall, hr0, show placeB 0 = true by decide]
    simp
theorem FullAt.callS (h : FullAt m n S sum) (hr : S.ek = 0) {t : Nat} (ht : t < m.funcs.length) {args : List Int} (he : S.callE t args 0 0 = 0) :
    FullAt m n (S.callS t args 0 0) (sum + fsM m t) ∧ (S.callS t args 0 0).ek = (if 256 ≤ S.links.length ∨ sum + fsM m t > n - floV m then 3 else 0) ∧
    ((S.callS t args 0 0).ek = 0 → (S.callS t args 0 0).f = t ∧ (S.callS t args 0 0).links.length = S.links.length + 1) := by
  have hok := h.ok.callS t args 0 0
  have hm := h.ok.mod
  rw [h.mod] at hm
  obtain ⟨h0, hfr⟩ := h.ok.run hr
  have hat := h.at_ hr
  have hp : S.newE t = 0 ↔ floV m + fsM m t ≤ S.at_ := by
    unfold SpV.newE
    rw [h.mod]
    exact push_iff hm ht h.ok.at0 h.ok.at1 hfr.al
  have hd := h.ok.deep
  have hs : S.callS t args 0 0 = (if S.outB t then { S with ek := 3 } else { S with links := S.links ++ [⟨S.f, S.at_, 0, 0⟩], f := t, at_ := S.newAt t, pc := 0, mem := passL S.mem S.at_ (S.newAt t) 0 args }) := by
    unfold SpV.callS
    rw [if_pos he, Int.toNat_natCast]
  by_cases ho : S.outB t = true
  · rw [hs, if_pos ho] at hok ⊢
    simp [SpV.outB] at ho
    refine ⟨⟨hok, h.mod, h.sz, fun c => absurd c (show ¬ (3 : Int) = 0 by decide)⟩, ?_, fun c => absurd c (show ¬ (3 : Int) = 0 by decide)⟩
    show (3 : Int) = _
    rw [if_pos]
    rcases ho with ho | ho
    · left; omega
    · right
      have := mt hp.2 ho
      omega
  · rw [hs, if_neg ho] at hok ⊢
    simp [SpV.outB] at ho
    have h1 := hp.1 ho.2
    refine ⟨⟨hok, h.mod, h.sz, fun _ => ?_⟩, ?_, fun _ => ⟨rfl, by simp⟩⟩
    · show S.newAt t = _
      have e := ho.2
      unfold SpV.newE at e
      unfold SpV.newAt pushV
      rw [if_pos e, h.mod]
      have : fsM m t = fsV (fnV m t).regs (fnV m t).area := rfl
      omega
    · show S.ek = _
      rw [hr, if_neg]
      omega
end
end Go.Proofs.YtkfdgpgildanbaaGreat
