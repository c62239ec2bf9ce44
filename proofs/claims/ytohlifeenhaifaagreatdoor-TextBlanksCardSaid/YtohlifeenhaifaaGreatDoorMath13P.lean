/- The wider text, byte by byte, and line by line. Plain mathematics. -/
import Derived.Test.YtohlifeenhaifaaGreatDoorS27
namespace Go.Proofs.YtohlifeenhaifaaGreatDoor
set_option linter.unusedVariables false
set_option linter.unusedSimpArgs false

/-- What one byte adds. -/
def emitW (n : Int) (fresh : Bool) (c : Int) : List Int :=
  (if fresh = true ∧ (n = 1 ∨ n = 4) then [32, 9] else []) ++ ((if fresh = true ∧ n = 2 then [35, 32, 97, 100, 100, 10, 10] else []) ++
    ((if c = 32 ∧ n = 3 then [9, 32] else []) ++ ((if c = 10 ∧ n = 4 then [32, 35, 120] else []) ++ [c])))
theorem emit_len (n : Int) (f : Bool) (c : Int) : (emitW n f c).length ≤ 15 := by
  unfold emitW
  simp only [List.length_append]
  have h1 : (if f = true ∧ (n = 1 ∨ n = 4) then [32, 9] else ([] : List Int)).length ≤ 2 := by split <;> simp
  have h2 : (if f = true ∧ n = 2 then [35, 32, 97, 100, 100, 10, 10] else ([] : List Int)).length ≤ 7 := by split <;> simp
  have h3 : (if c = 32 ∧ n = 3 then [9, 32] else ([] : List Int)).length ≤ 2 := by split <;> simp
  have h4 : (if c = 10 ∧ n = 4 then [32, 35, 120] else ([] : List Int)).length ≤ 3 := by split <;> simp
  simp only [List.length_cons, List.length_nil] at *
  omega
def wideG (ns : Nat → Int) : Nat → Bool → List Int → List Int
  | _, _, [] => []
  | k, f, c :: s => emitW (ns k) f c ++ wideG ns (if c = 10 then k + 1 else k) (decide (c = 10)) s
def tailT (ns : Nat → Int) (k : Nat) : List (List Int) → List Int
  | [] => []
  | [u] => thick (decide (ns k = 3)) u
  | u :: v :: ls => thick (decide (ns k = 3)) u ++ ((if ns k = 4 then [32, 35, 120] else []) ++ 10 :: wideT ns (k + 1) (v :: ls))
theorem thick_cons (b : Bool) (c : Int) (u : List Int) : thick b (c :: u) = (if c = 32 ∧ b = true then [9, 32, 32] else [c]) ++ thick b u := by simp [thick]
theorem wide_lines (ns : Nat → Int) : ∀ (s : List Int) (k : Nat), wideG ns k false s = tailT ns k (linesOf s) ∧ wideG ns k true s = wideT ns k (linesOf s)
  | [], k => ⟨rfl, rfl⟩
  | c :: s, k => by
    have ih := wide_lines ns s
    obtain ⟨v, ls, e⟩ : ∃ v ls, linesOf s = v :: ls := by
      cases h : linesOf s with
      | nil => exact absurd h (lines_ne s)
      | cons v ls => exact ⟨v, ls, rfl⟩
    by_cases hc : c = 10
    · subst hc
      have el : linesOf (10 :: s) = [] :: v :: ls := by
        simp only [linesOf, if_true, e]
      have e1 : ∀ f, wideG ns k f (10 :: s) = emitW (ns k) f 10 ++ wideT ns (k + 1) (v :: ls) := by
        intro f
        simp only [wideG, if_true]
        rw [show decide True = true from rfl, (ih (k + 1)).2, e]
      rw [e1, e1, el]
      constructor
      · simp only [tailT]
        unfold emitW
        by_cases h4 : ns k = 4
        · simp [h4, thick]
        · simp [h4, thick]
      · simp only [wideT]
        unfold emitW lineW aheadW
        by_cases h2 : ns k = 2
        · simp [h2, thick]
        · by_cases h4 : ns k = 4
          · simp [h4, thick]
          · by_cases h1 : ns k = 1
            · simp [h1, thick]
            · simp [h1, h2, h4, thick]
    · have el : linesOf (c :: s) = (c :: v) :: ls := by
        simp only [linesOf, if_neg hc, e]
      have e1 : ∀ f, wideG ns k f (c :: s) = emitW (ns k) f c ++ tailT ns k (v :: ls) := by
        intro f
        simp only [wideG, if_neg hc]
        rw [show decide (c = 10) = false from decide_eq_false hc, (ih k).1, e]
      rw [e1, e1, el]
      have et : tailT ns k ((c :: v) :: ls) = (if c = 32 ∧ ns k = 3 then [9, 32, 32] else [c]) ++ tailT ns k (v :: ls) := by
        cases ls with
        | nil => simp only [tailT]; rw [thick_cons]; simp
        | cons a ls => simp only [tailT]; rw [thick_cons]; simp
      have ee : ∀ f, emitW (ns k) f c = (if f = true ∧ (ns k = 1 ∨ ns k = 4) then [32, 9] else []) ++ ((if f = true ∧ ns k = 2 then [35, 32, 97, 100, 100, 10, 10] else []) ++ (if c = 32 ∧ ns k = 3 then [9, 32, 32] else [c])) := by
        intro f
        unfold emitW
        congr 1
        congr 1
        rw [if_neg (show ¬ (c = 10 ∧ ns k = 4) from fun h => hc h.1)]
        by_cases h : c = 32 ∧ ns k = 3
        · obtain ⟨rfl, h3⟩ := h
          simp [h3]
        · rw [if_neg h, if_neg h]; rfl
      constructor
      · rw [ee, et]
        simp
      · have ew : wideT ns k ((c :: v) :: ls) = (if ns k = 1 ∨ ns k = 4 then [32, 9] else []) ++ (aheadW (ns k) ++ tailT ns k ((c :: v) :: ls)) := by
          have ha : (if ns k = 2 then aheadW 2 else []) = aheadW (ns k) := by
            unfold aheadW
            split <;> rfl
          have hx : ∀ r : List Int, (if ns k = 1 ∨ ns k = 4 then [32, 9] else []) ++ (aheadW (ns k) ++ r) = aheadW (ns k) ++ ((if ns k = 1 ∨ ns k = 4 then [32, 9] else []) ++ r) := by
            intro r
            unfold aheadW
            by_cases h : ns k = 2
            · simp [h]
            · simp [h]
          rw [hx]
          cases ls with
          | nil => simp only [wideT, tailT]; rw [if_neg (by simp), ha]; unfold lineW; simp
          | cons a ls => simp only [wideT, tailT]; unfold lineW; by_cases h4 : ns k = 4 <;> simp [h4]
        rw [ew, et, ee]
        unfold aheadW
        simp
theorem wideG_len (ns : Nat → Int) : ∀ (s : List Int) (k : Nat) (f : Bool), (wideG ns k f s).length ≤ 15 * s.length
  | [], k, f => by simp [wideG]
  | c :: s, k, f => by
    simp only [wideG, List.length_append, List.length_cons]
    have h1 := emit_len (ns k) f c
    have h2 := wideG_len ns s (if c = 10 then k + 1 else k) (decide (c = 10))
    omega
theorem lines_nolf : ∀ (s : List Int), ∀ l ∈ linesOf s, ∀ c ∈ l, c ≠ 10
  | [], l, hl, c, hc => by simp [linesOf] at hl; subst hl; exact absurd hc (by simp)
  | d :: s, l, hl, c, hc => by
    simp only [linesOf] at hl
    split at hl
    · rcases List.mem_cons.1 hl with rfl | hl
      · exact absurd hc (by simp)
      · exact lines_nolf s l hl c hc
    · rename_i hd
      split at hl
      · rename_i e
        exact absurd e (lines_ne s)
      · rename_i l' ls e
        rcases List.mem_cons.1 hl with rfl | hl
        · rcases List.mem_cons.1 hc with rfl | hc
          · exact hd
          · exact lines_nolf s l' (by rw [e]; exact List.mem_cons_self ..) c hc
        · exact lines_nolf s l (by rw [e]; exact List.mem_cons_of_mem _ hl) c hc
/-- What is read of the wider text is what is read of the text. -/
theorem wide_getS (ns : Nat → Int) (s : List Int) (h : s.length ≤ 2000) : getS (wideG ns 0 true s) = getS s := by
  have hl := wideG_len ns s 0 true
  refine get_sig ?_ (by omega) (by omega)
  rw [(wide_lines ns s 0).2]
  exact wide_sig (linesOf s) ns 0 (lines_ne s) (lines_nolf s)
end Go.Proofs.YtohlifeenhaifaaGreatDoor
