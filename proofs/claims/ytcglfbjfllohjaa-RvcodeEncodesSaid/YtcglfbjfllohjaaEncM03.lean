/- Which numbers an instruction may have and which word it is, in the program's own way: plain arithmetic over the forms. No condition but what each names. -/
import Derived.Test.YtcglfbjfllohjaaFormC03
namespace Go.Proofs.Ytcglfbjfllohjaa
open Go.RowKit
set_option linter.unusedVariables false

def Allowed (f : RvForm) (rd rs1 rs2 imm : Int) : Prop := regOk rd f.hasRd ∧ regOk rs1 f.has1 ∧ regOk rs2 f.has2 ∧ immOk f imm
theorem reg_mod {n : Int} {b : Bool} (h : regOk n b) (k : Int) : (if b = true then n % 32 * k else 0) = n * k := by
  unfold regOk at h
  cases b
  · simp at h
    simp [h]
  · simp at h
    simp
    rw [Int.emod_eq_of_lt h.1 (by omega)]
theorem jV_ok {f : RvForm} {rd rs1 rs2 imm : Int} (h : Allowed f rd rs1 rs2 imm) : jV f rd rs1 rs2 imm = immV f imm + rd * 128 + rs1 * 32768 + rs2 * 1048576 := by
  unfold jV
  rw [reg_mod h.1, reg_mod h.2.1, reg_mod h.2.2.1]
theorem cLim_pos (f : RvForm) : (0 : Int) < (f.cLim : Int) ∧ (0 : Int) < (f.bLim : Int) := by cases f <;> decide
theorem jV_back {f : RvForm} {rd rs1 rs2 imm : Int} (h : Allowed f rd rs1 rs2 imm) :
    toldV f (jV f rd rs1 rs2 imm) = imm ∧ (readsR f 0 (jV f rd rs1 rs2 imm)).rd = rd ∧ (readsR f 0 (jV f rd rs1 rs2 imm)).rs1 = rs1 ∧ (readsR f 0 (jV f rd rs1 rs2 imm)).rs2 = rs2 := by
  obtain ⟨r1, _, r3, r4, r5, _⟩ := read_back f imm 0 rd 0 rs1 rs2 0 h.2.2.2 (by omega) ⟨by omega, (cLim_pos f).2⟩ ⟨by omega, (cLim_pos f).1⟩ h.1 h.2.1 h.2.2.1 (jV f rd rs1 rs2 imm) (by rw [jV_ok h]; omega)
  exact ⟨r1, r3, r4, r5⟩
theorem join_bd (f : RvForm) (rd rs1 rs2 imm : Int) : 0 ≤ jV f rd rs1 rs2 imm ∧ jV f rd rs1 rs2 imm < 4294967296 := by
  rw [← join_is]
  exact joinV_bd _ _
/-- What split makes of what was joined is what was joined, just if the numbers may be. -/
def BackSame (f : RvForm) (rd rs1 rs2 imm : Int) : Prop :=
  splitV (fdsV f.letter) (joinV (fdsV f.letter) (num4 rd rs1 rs2 imm)) 0 = rd ∧ splitV (fdsV f.letter) (joinV (fdsV f.letter) (num4 rd rs1 rs2 imm)) 1 = rs1 ∧
    splitV (fdsV f.letter) (joinV (fdsV f.letter) (num4 rd rs1 rs2 imm)) 2 = rs2 ∧ splitV (fdsV f.letter) (joinV (fdsV f.letter) (num4 rd rs1 rs2 imm)) 3 = imm
theorem back_iff (f : RvForm) (rd rs1 rs2 imm : Int) : BackSame f rd rs1 rs2 imm ↔ Allowed f rd rs1 rs2 imm := by
  unfold BackSame
  rw [join_is]
  obtain ⟨h0, h1⟩ := join_bd f rd rs1 rs2 imm
  have hs := split_is f _ h0 h1
  rw [hs.s0, hs.s1, hs.s2, hs.s3]
  constructor
  · rintro ⟨e0, e1, e2, e3⟩
    have := reads_ok f (jV f rd rs1 rs2 imm)
    rw [e0, e1, e2, e3] at this
    exact this
  · intro h
    obtain ⟨r1, r2, r3, r4⟩ := jV_back h
    exact ⟨r2, r3, r4, r1⟩
/-- A row's numbers. -/
theorem row_bd {k : Nat} (h : 1 ≤ k) (h' : k ≤ 63) : (0 ≤ aB k ∧ aB k < 128) ∧ (0 ≤ bB k ∧ bB k < ((rvRowN k).form.bLim : Int)) ∧ (0 ≤ cB k ∧ cB k < ((rvRowN k).form.cLim : Int)) := by
  have hf := rvRows_fit _ (rvRowN_mem h h')
  unfold RvRow.fits at hf
  simp only [Bool.and_eq_true, decide_eq_true_eq] at hf
  unfold aB bB cB
  rw [if_neg (by omega), if_neg (by omega), if_neg (by omega)]
  omega
theorem lim_256 (f : RvForm) : (f.bLim : Int) ≤ 256 ∧ (f.cLim : Int) ≤ 256 := by cases f <;> decide
theorem letB_form {k : Nat} (h : 1 ≤ k) : letB k = (rvRowN k).form.letter := by unfold letB; rw [if_neg (by omega)]
/-- The word, by the program's own way. -/
theorem word_is {k : Nat} (h : 1 ≤ k) (h' : k ≤ 63) {rd rs1 rs2 imm : Int} (ha : Allowed (rvRowN k).form rd rs1 rs2 imm) :
    bits .or .u32 (ownV (rvRowN k).form (aB k) (bB k) (cB k)) (joinV (fdsV (rvRowN k).form.letter) (num4 rd rs1 rs2 imm)) = encV ⟨k, rd, rs1, rs2, imm⟩ := by
  obtain ⟨h1, h2, h3⟩ := row_bd h h'
  rw [own_is _ _ _ _ _ _ _ _ h1 h2 h3, jV_ok ha]
  unfold aB bB cB
  rw [if_neg (by omega), if_neg (by omega), if_neg (by omega)]
  show _ = ((rvRowN k).a : Int) + immV (rvRowN k).form imm + rd * 128 + rs1 * 32768 + rs2 * 1048576 + ((rvRowN k).b : Int) * 4096 + ((rvRowN k).c : Int) * (rvRowN k).form.cAt
  omega
theorem ok_iff {k : Nat} (h : 1 ≤ k) (h' : k ≤ 63) (rd rs1 rs2 imm : Int) : (⟨k, rd, rs1, rs2, imm⟩ : RvV).ok ↔ Allowed (rvRowN k).form rd rs1 rs2 imm :=
  ⟨fun h => ⟨h.rd, h.rs1, h.rs2, h.imm⟩, fun h => ⟨⟨by show (1 : Int) ≤ k; omega, by show (k : Int) ≤ 63; omega⟩, h.1, h.2.1, h.2.2.1, h.2.2.2⟩⟩
/-- A row's masks tell just its words. -/
theorem found_iff {k : Nat} (h : 1 ≤ k) (h' : k ≤ 63) {x : Int} (hx : 0 ≤ x) (hx' : x < 4294967296) :
    bits .and .u32 x (maskV (rvRowN k).form) = ownV (rvRowN k).form (aB k) (bB k) (cB k) ↔ IsWord (readsV k x) x := by
  obtain ⟨h1, h2, h3⟩ := row_bd h h'
  rw [dec_is _ x _ _ _ hx hx' h1 h2 h3]
  have hr := reads_ok (rvRowN k).form x
  rw [jV_ok hr]
  have e : ((k : Int)).toNat = k := rfl
  have hok : (readsV k x).ok := ⟨⟨by show (1 : Int) ≤ k; omega, by show (k : Int) ≤ 63; omega⟩, hr.1, hr.2.1, hr.2.2.1, hr.2.2.2⟩
  have he : encV (readsV k x) = aB k + (immV (rvRowN k).form (readsR (rvRowN k).form 0 x).imm + (readsR (rvRowN k).form 0 x).rd * 128 + (readsR (rvRowN k).form 0 x).rs1 * 32768 + (readsR (rvRowN k).form 0 x).rs2 * 1048576) + bB k * 4096 + cB k * (rvRowN k).form.cAt := by
    unfold aB bB cB
    rw [if_neg (by omega), if_neg (by omega), if_neg (by omega)]
    show ((rvRowN k).a : Int) + immV (rvRowN k).form (readsR (rvRowN k).form 0 x).imm + (readsR (rvRowN k).form 0 x).rd * 128 + (readsR (rvRowN k).form 0 x).rs1 * 32768 + (readsR (rvRowN k).form 0 x).rs2 * 1048576 + ((rvRowN k).b : Int) * 4096 + ((rvRowN k).c : Int) * (rvRowN k).form.cAt = _
    omega
  unfold IsWord
  rw [he]
  constructor
  · exact fun h => ⟨hok, h.symm⟩
  · exact fun h => h.2.symm
/-- A word's instruction is told by the first row that has it; no other has. -/
theorem isWord_row {y : RvV} {x : Int} (h : IsWord y x) : IsWord (readsV y.op x) x := by
  rw [(isWord_at h).2.2.2]
  exact h
end Go.Proofs.Ytcglfbjfllohjaa
