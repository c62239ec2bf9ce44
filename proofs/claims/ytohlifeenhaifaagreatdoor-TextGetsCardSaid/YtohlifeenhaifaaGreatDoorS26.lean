/- Lemmas of Math13, Math13B, Math13C, Math13D, Math13E, Math13F, Math13G, Math13H, Math13I, each with its own remark. -/
import Derived.Test.YtohlifeenhaifaaGreatDoorS05
import Derived.Test.YtohlifeenhaifaaGreatDoorS10
/- (Math13) Numbers as words, and back. Plain mathematics. -/
namespace Go.Proofs.YtohlifeenhaifaaGreatDoor
set_option linter.unusedVariables false
set_option linter.unusedSimpArgs false

/-- A number from 0 on as digits. -/
def digL (n : Nat) : List Int := if h : n < 10 then [48 + (n : Int)] else digL (n / 10) ++ [48 + ((n % 10 : Nat) : Int)]
termination_by n
decreasing_by omega
theorem digL_small {n : Nat} (h : n < 10) : digL n = [48 + (n : Int)] := by rw [digL, dif_pos h]
theorem digL_big {n : Nat} (h : ¬ n < 10) : digL n = digL (n / 10) ++ [48 + ((n % 10 : Nat) : Int)] := by rw [digL, dif_neg h]
/-- A number as a word. -/
def numL (x : Int) : List Int := if x < 0 then 45 :: digL x.natAbs else digL x.toNat
/-- What digits are worth. -/
def worth : Nat → List Int → Nat
  | n, [] => n
  | n, c :: l => worth (10 * n + (c - 48).toNat) l
def isDig (c : Int) : Bool := decide (48 ≤ c ∧ c ≤ 57)
theorem worth_app : ∀ (l : List Int) (n : Nat) (c : Int), worth n (l ++ [c]) = 10 * worth n l + (c - 48).toNat
  | [], n, c => rfl
  | d :: l, n, c => by simp only [List.cons_append, worth]; exact worth_app l _ c
theorem dig_facts (n : Nat) : worth 0 (digL n) = n ∧ (∀ c ∈ digL n, isDig c = true) ∧ digL n ≠ [] ∧ (n ≠ 0 → (digL n).headD 0 ≠ 48) := by
  induction n using Nat.strongRecOn with
  | _ n ih =>
    by_cases h : n < 10
    · rw [digL_small h]
      refine ⟨by simp [worth]; omega, fun c hc => ?_, by simp, fun h0 => by simp; omega⟩
      simp at hc
      subst hc
      unfold isDig
      exact decide_eq_true (by omega)
    · rw [digL_big h]
      obtain ⟨h1, h2, h3, h4⟩ := ih (n / 10) (by omega)
      refine ⟨by rw [worth_app, h1]; omega, fun c hc => ?_, by simp, fun _ => ?_⟩
      · rcases List.mem_append.1 hc with hc | hc
        · exact h2 c hc
        · simp at hc
          subst hc
          unfold isDig
          exact decide_eq_true (by omega)
      · have h5 := h4 (by omega)
        cases hd : digL (n / 10) with
        | nil => exact absurd hd h3
        | cons c l => rw [hd] at h5; simpa using h5
theorem digL_len : ∀ (k n : Nat), n < 10 ^ (k + 1) → (digL n).length ≤ k + 1
  | 0, n, h => by rw [digL_small (by simpa using h)]; simp
  | k + 1, n, h => by
    by_cases hn : n < 10
    · rw [digL_small hn]; simp
    · rw [digL_big hn]
      have hp : 10 ^ (k + 1 + 1) = 10 * 10 ^ (k + 1) := by rw [Nat.pow_succ, Nat.mul_comm]
      have h2 : n / 10 < 10 ^ (k + 1) := by
        rw [hp] at h
        omega
      have := digL_len k (n / 10) h2
      simp
      omega
/-- The number of a word: whether it is one, and which. -/
def numP (s : List Int) : Option Int :=
  let below := decide (1 < s.length) && s.headD 0 == 45
  let t := if below then s.tail else s
  if t = [] ∨ 19 < t.length ∨ (t.headD 0 = 48 ∧ (1 < t.length ∨ below = true)) then none
  else if t.all isDig = false then none
  else if below = true ∧ worth 0 t ≤ 2 ^ 63 then some (-(worth 0 t : Int))
  else if below = false ∧ worth 0 t < 2 ^ 63 then some (worth 0 t : Int)
  else none
theorem dig_len19 {n : Nat} (h : n ≤ 2 ^ 63) : (digL n).length ≤ 19 := digL_len 18 n (Nat.lt_of_le_of_lt h (by decide))
theorem dig_head {n : Nat} : 48 ≤ (digL n).headD 0 ∧ (digL n).headD 0 ≤ 57 := by
  obtain ⟨_, h2, h3, _⟩ := dig_facts n
  cases hd : digL n with
  | nil => exact absurd hd h3
  | cons c l =>
    have := h2 c (by rw [hd]; exact List.mem_cons_self ..)
    simpa [isDig] using this
theorem one_zero {n : Nat} (h : (digL n).headD 0 = 48) : n = 0 := by
  obtain ⟨_, _, _, h4⟩ := dig_facts n
  exact Decidable.byContradiction fun hc => h4 hc h
/-- A number's word is read as it. -/
theorem num_back {x : Int} (h : InI x) : numP (numL x) = some x := by
  unfold InI at h
  unfold numL
  split
  · rename_i hx
    obtain ⟨h1, h2, h3, h4⟩ := dig_facts x.natAbs
    have hlen : 0 < (digL x.natAbs).length := List.length_pos_iff.2 h3
    have hl := dig_len19 (n := x.natAbs) (by omega)
    have hb : (decide (1 < (45 :: digL x.natAbs).length) && (45 :: digL x.natAbs).headD 0 == 45) = true := by simp; omega
    unfold numP
    simp only [hb, if_true, List.tail_cons]
    rw [if_neg, if_neg, if_pos ⟨trivial, by rw [h1]; omega⟩, h1]
    · congr 1; omega
    · rw [List.all_eq_true.2 h2]; simp
    · rintro (hc | hc | hc)
      · exact h3 hc
      · omega
      · have := one_zero hc.1; omega
  · rename_i hx
    obtain ⟨h1, h2, h3, h4⟩ := dig_facts x.toNat
    have hl := dig_len19 (n := x.toNat) (by omega)
    have hb : (decide (1 < (digL x.toNat).length) && (digL x.toNat).headD 0 == 45) = false := by
      have := (dig_head (n := x.toNat)).1
      simp
      intro _ hc
      rw [List.headD_eq_head?_getD] at this
      omega
    unfold numP
    simp only [hb, Bool.false_eq_true, if_false]
    rw [if_neg, if_neg, if_neg (by simp), if_pos ⟨trivial, by rw [h1]; omega⟩, h1]
    · congr 1; omega
    · rw [List.all_eq_true.2 h2]; simp
    · rintro (hc | hc | hc)
      · exact h3 hc
      · omega
      · rcases hc.2 with hc2 | hc2
        · have h0 := one_zero hc.1
          rw [h0, digL_small (by decide)] at hc2
          simp at hc2
        · cases hc2
end Go.Proofs.YtohlifeenhaifaaGreatDoor

/- (Math13B) A line's words, and the lines of a text. Plain mathematics. -/
namespace Go.Proofs.YtohlifeenhaifaaGreatDoor
set_option linter.unusedVariables false
set_option linter.unusedSimpArgs false

def isBlank (c : Int) : Bool := decide (c = 32 ∨ c = 9)
def flushW (w : List Int) : List (List Int) := if w = [] then [] else if w.headD 0 = 35 then [] else [w]
/-- The words of a line, the one that has been begun first. -/
def wordsG : List Int → List Int → List (List Int)
  | w, [] => flushW w
  | w, c :: s => if isBlank c = true then (if w = [] then wordsG [] s else if w.headD 0 = 35 then [] else w :: wordsG [] s) else wordsG (w ++ [c]) s
def wordsL (s : List Int) : List (List Int) := wordsG [] s
/-- A word: not empty, with no blank in it, and no remark. -/
structure IsWord13 (w : List Int) : Prop where
  ne : w ≠ []
  nb : ∀ c ∈ w, isBlank c = false
  nr : w.headD 0 ≠ 35
theorem wordsG_plain : ∀ (u w s : List Int), (∀ c ∈ u, isBlank c = false) → wordsG w (u ++ s) = wordsG (w ++ u) s
  | [], w, s, _ => by simp
  | c :: u, w, s, h => by
    simp only [List.cons_append, wordsG]
    rw [h c (List.mem_cons_self ..)]
    simp only [Bool.false_eq_true, if_false]
    rw [wordsG_plain u (w ++ [c]) s (fun d hd => h d (List.mem_cons_of_mem _ hd))]
    simp
theorem words_blank (s : List Int) {c : Int} (h : isBlank c = true) : wordsG [] (c :: s) = wordsG [] s := by simp [wordsG, h]
theorem words_blanks : ∀ (u s : List Int), (∀ c ∈ u, isBlank c = true) → wordsG [] (u ++ s) = wordsG [] s
  | [], s, _ => rfl
  | c :: u, s, h => by
    rw [List.cons_append, words_blank _ (h c (List.mem_cons_self ..))]
    exact words_blanks u s (fun d hd => h d (List.mem_cons_of_mem _ hd))
theorem words_word {w s : List Int} {c : Int} (hw : IsWord13 w) (hc : isBlank c = true) : wordsG [] (w ++ c :: s) = w :: wordsG [] s := by
  rw [wordsG_plain w [] _ hw.nb, List.nil_append]
  show (if isBlank c = true then (if w = [] then wordsG [] s else if w.headD 0 = 35 then [] else w :: wordsG [] s) else wordsG (w ++ [c]) s) = _
  rw [if_pos hc, if_neg hw.ne, if_neg hw.nr]
theorem words_last {w : List Int} (hw : IsWord13 w) : wordsG [] w = [w] := by
  have := wordsG_plain w [] [] hw.nb
  rw [List.append_nil, List.nil_append] at this
  rw [this]
  show flushW w = [w]
  unfold flushW
  rw [if_neg hw.ne, if_neg hw.nr]
/-- Words with one blank between. -/
def joinW : List (List Int) → List Int
  | [] => []
  | [w] => w
  | w :: l => w ++ 32 :: joinW l
theorem joinW_cons (w : List Int) {l : List (List Int)} (h : l ≠ []) : joinW (w :: l) = w ++ 32 :: joinW l := by
  cases l with
  | nil => exact absurd rfl h
  | cons v l => rfl
theorem words_join : ∀ (l : List (List Int)), (∀ w ∈ l, IsWord13 w) → wordsL (joinW l) = l
  | [], _ => rfl
  | [w], h => words_last (h w (List.mem_cons_self ..))
  | w :: v :: l, h => by
    unfold wordsL
    rw [joinW_cons w (by simp), words_word (h w (List.mem_cons_self ..)) (by decide)]
    congr 1
    exact words_join (v :: l) (fun u hu => h u (List.mem_cons_of_mem _ hu))
theorem words_joinb (u : List Int) (l : List (List Int)) (hu : ∀ c ∈ u, isBlank c = true) (h : ∀ w ∈ l, IsWord13 w) : wordsL (u ++ joinW l) = l := by
  unfold wordsL
  rw [words_blanks u _ hu]
  exact words_join l h
/-- The digits of a number are a word. -/
theorem num_word (x : Int) : IsWord13 (numL x) := by
  have dig : ∀ n, ∀ c ∈ digL n, isBlank c = false := fun n c hc => by
    have := (dig_facts n).2.1 c hc
    unfold isDig at this
    unfold isBlank
    have h2 := of_decide_eq_true this
    exact decide_eq_false (by omega)
  unfold numL
  split
  · refine ⟨by simp, fun c hc => ?_, by simp⟩
    rcases List.mem_cons.1 hc with rfl | hc
    · decide
    · exact dig _ c hc
  · refine ⟨(dig_facts _).2.2.1, dig _, ?_⟩
    have := (dig_head (n := x.toNat)).1
    omega
/-- A text's lines. -/
def linesOf : List Int → List (List Int)
  | [] => [[]]
  | c :: s => if c = 10 then [] :: linesOf s else match linesOf s with
    | [] => [[c]]
    | l :: ls => (c :: l) :: ls
theorem lines_ne : ∀ (s : List Int), linesOf s ≠ []
  | [] => by simp [linesOf]
  | c :: s => by
    simp only [linesOf]
    split
    · simp
    · split <;> simp
theorem lines_line : ∀ (u s : List Int), (∀ c ∈ u, c ≠ 10) → linesOf (u ++ 10 :: s) = u :: linesOf s
  | [], s, _ => by simp [linesOf]
  | c :: u, s, h => by
    have ih := lines_line u s (fun d hd => h d (List.mem_cons_of_mem _ hd))
    simp only [List.cons_append, linesOf]
    rw [if_neg (h c (List.mem_cons_self ..)), ih]
/-- All lines, each with its end. -/
def textOf (ls : List (List Int)) : List Int := ls.flatMap (fun l => l ++ [10])
theorem lines_text : ∀ (ls : List (List Int)), (∀ l ∈ ls, ∀ c ∈ l, c ≠ 10) → linesOf (textOf ls) = ls ++ [[]]
  | [], _ => rfl
  | l :: ls, h => by
    have ih := lines_text ls (fun u hu => h u (List.mem_cons_of_mem _ hu))
    have e : textOf (l :: ls) = l ++ 10 :: textOf ls := by simp [textOf]
    rw [e, lines_line l _ (h l (List.mem_cons_self ..)), ih]
    rfl
end Go.Proofs.YtohlifeenhaifaaGreatDoor

/- (Math13C) An instruction's line, and back. Plain mathematics. -/
namespace Go.Proofs.YtohlifeenhaifaaGreatDoor
set_option linter.unusedVariables false
set_option linter.unusedSimpArgs false

/-- An instruction's fields, in the order of its shape. -/
def valsV (y : InsV) : List Int := (itemsL y.n y.args y.letters [y.a, y.b, y.c]).map (·.2)
/-- An instruction's words. -/
def insW (y : InsV) : List (List Int) := lettersOf (nameI y.op) :: (valsV y).map numL
/-- A line of an instruction: nothing if there is no such operation. -/
def insT (y : InsV) : List Int := lettersOf (nameI y.op) ++ (valsV y).flatMap (fun v => 32 :: numL v)
theorem join_flat (w : List Int) : ∀ (l : List (List Int)), joinW (w :: l) = w ++ l.flatMap (fun v => 32 :: v)
  | [] => by simp [joinW]
  | v :: l => by
    rw [joinW_cons w (by simp), join_flat v l]
    simp
theorem insT_join (y : InsV) : insT y = joinW (insW y) := by
  unfold insT insW
  rw [join_flat, List.flatMap_map]
/-- Fields are read, as many as are needed. -/
def fldG : List Int → List Int → RdV → Option RdV
  | [], l, s => if l = [] then some s else none
  | q :: L, l, s => if q = 108 then (if l.length ≤ 8 then some ⟨s.pos, s.rs, s.n, l⟩ else none)
    else match l with
      | [] => none
      | x :: l => fldG L l (if isReg q = true then ⟨s.pos, s.rs ++ [x], s.n, s.args⟩ else ⟨s.pos, s.rs, x, s.args⟩)
/-- All arguments stand at the end of a shape. -/
def lastQ13 : List Int → Bool
  | [] => true
  | q :: L => if q = 108 then L.isEmpty else lastQ13 L
theorem fld_back {n : Int} {args : List Int} (h8 : args.length ≤ 8) : ∀ {L rs : List Int} {s : RdV}, lastQ13 L = true → regN L ≤ rs.length →
    fldG L ((itemsL n args L rs).map (·.2)) s = some ⟨s.pos, s.rs ++ rs.take (regN L), if hasN L then n else s.n, if conL L then args else s.args⟩
  | [], rs, s, _, _ => by simp [fldG, itemsL, regN, hasN, conL]
  | q :: L, rs, s, hl, hr => by
    by_cases hc : q = 108
    · subst hc
      simp only [lastQ13, if_true] at hl
      have hL : L = [] := by simpa using hl
      subst hL
      have e0 : isReg 108 = false := rfl
      simp only [fldG, if_true, itemsL, heldOf, e0, Bool.false_eq_true, if_false, List.append_nil, List.map_map]
      rw [if_pos (by simpa using h8)]
      simp [regN, e0, hasN, conL, isNumQ, Function.comp_def]
    · simp only [lastQ13, if_neg hc] at hl
      by_cases hq : isReg q = true
      · have e1 : isNumQ q = false := by simp [isNumQ, hq]
        match rs, hr with
        | [], hr => simp only [regN, hq, if_true, List.length_nil] at hr; omega
        | r :: rs, hr =>
          simp only [regN, hq, if_true, List.length_cons] at hr
          have ih := fld_back (n := n) h8 (L := L) (rs := rs) (s := ⟨s.pos, s.rs ++ [r], s.n, s.args⟩) hl (by omega)
          have ei : (itemsL n args (q :: L) (r :: rs)).map (·.2) = r :: (itemsL n args L rs).map (·.2) := by simp [itemsL, heldOf, restOf, hq]
          rw [ei]
          simp only [fldG, if_neg hc, hq, if_true]
          rw [ih]
          have eN : hasN (q :: L) = hasN L := by rw [show hasN (q :: L) = (isNumQ q || hasN L) from by simp [hasN, isNumQ], e1, Bool.false_or]
          have eC : conL (q :: L) = conL L := by simp [conL, hc]
          rw [eN, eC]
          simp [regN, hq, Nat.add_comm 1]
      · have e1 : isNumQ q = true := by simp [isNumQ, hq, hc]
        have hqf : isReg q = false := by simpa using hq
        simp only [regN, hqf, Bool.false_eq_true, if_false, Nat.zero_add] at hr
        have ih := fld_back (n := n) h8 (L := L) (rs := rs) (s := ⟨s.pos, s.rs, n, s.args⟩) hl hr
        have ei : (itemsL n args (q :: L) rs).map (·.2) = n :: (itemsL n args L rs).map (·.2) := by simp [itemsL, heldOf, restOf, hqf, hc]
        rw [ei]
        simp only [fldG, if_neg hc, hqf, Bool.false_eq_true, if_false]
        rw [ih]
        have eN : hasN (q :: L) = true := by rw [show hasN (q :: L) = (isNumQ q || hasN L) from by simp [hasN, isNumQ], e1, Bool.true_or]
        have eC : conL (q :: L) = conL L := by simp [conL, hc]
        rw [eN, eC]
        simp only [regN, hqf, Bool.false_eq_true, if_false, Nat.zero_add, if_true]
        congr 2
        cases hasN L <;> simp
theorem last_shape (op : Int) : lastQ13 (lettersOf (shapeI op)) = true := by
  unfold shapeI
  split
  · rename_i h
    have hall : ∀ k, k < 33 → lastQ13 (lettersOf (shapeB k)) = true := by decide +kernel
    exact hall _ (by omega)
  · rfl
def fieldsP (op : Int) (l : List Int) : Option InsV := (fldG (lettersOf (shapeI op)) l ⟨0, [], 0, []⟩).map (insOf op)
theorem ins_bare {y : InsV} (ho : OkI y) (p : Nat) : insOf y.op ⟨p, [] ++ [y.a, y.b, y.c].take (regN y.letters), if hasN y.letters then y.n else 0, if conL y.letters then y.args else []⟩ = y := by
  have hr3 := okShape_reg (shapes_ok y.op)
  have hbare := ho.bare
  unfold bareV at hbare
  rw [Bool.and_eq_true, Bool.and_eq_true] at hbare
  obtain ⟨b1, b2, b3⟩ := hbare
  obtain ⟨op, a, b', c, n, args⟩ := y
  unfold insOf
  simp only [List.nil_append, InsV.mk.injEq, true_and]
  have hr3' : regN (InsV.letters ⟨op, a, b', c, n, args⟩) ≤ 3 := by simpa [InsV.letters] using hr3
  generalize InsV.letters ⟨op, a, b', c, n, args⟩ = L at *
  refine ⟨?_, ?_, ?_, ?_, ?_⟩
  · rcases (show regN L = 0 ∨ regN L = 1 ∨ regN L = 2 ∨ regN L = 3 by omega) with e | e | e | e <;> simp [e] at b1 ⊢
    exact b1.1.symm
  · rcases (show regN L = 0 ∨ regN L = 1 ∨ regN L = 2 ∨ regN L = 3 by omega) with e | e | e | e <;> simp [e] at b1 ⊢
    · exact b1.2.1.symm
    · exact b1.1.symm
  · rcases (show regN L = 0 ∨ regN L = 1 ∨ regN L = 2 ∨ regN L = 3 by omega) with e | e | e | e <;> simp [e] at b1 ⊢
    · exact b1.2.2.symm
    · exact b1.2.symm
    · exact b1.symm
  · cases hh : hasN L <;> simp [hh] at b2 ⊢
    exact b2.symm
  · cases hh : conL L <;> simp [hh] at b3 ⊢
    exact b3
theorem fields_back {y : InsV} (h : y.chk = 0) : fieldsP y.op (valsV y) = some y := by
  have ho := chk_ok h
  have hr3 := okShape_reg (shapes_ok y.op)
  unfold fieldsP valsV
  have hf := fld_back (n := y.n) ho.args (L := y.letters) (rs := [y.a, y.b, y.c]) (s := ⟨0, [], 0, []⟩) (last_shape y.op) (by simpa [InsV.letters] using hr3)
  rw [show lettersOf (shapeI y.op) = y.letters from rfl, hf]
  show some (insOf y.op _) = some y
  rw [ins_bare ho]
end Go.Proofs.YtohlifeenhaifaaGreatDoor

/- (Math13D) A module's text, and what is read of a text. Plain mathematics. -/
namespace Go.Proofs.YtohlifeenhaifaaGreatDoor
set_option linter.unusedVariables false
set_option linter.unusedSimpArgs false

def bytesW : List Int := [98, 121, 116, 101, 115]
def funcW : List Int := [102, 117, 110, 99]
/-- Which operation a word names; -1 if none. -/
def findW (w : List Int) : Int := match (nameL.map lettersOf).findIdx? (fun x => decide (x = w)) with | some k => k | none => -1
def wordB (w : List Int) : Bool := !w.isEmpty && w.all (fun c => !isBlank c) && w.headD 0 != 35 && w.all (fun c => c != 10)
theorem word_of {w : List Int} (h : wordB w = true) : IsWord13 w ∧ ∀ c ∈ w, c ≠ 10 := by
  unfold wordB at h
  simp only [Bool.and_eq_true, Bool.not_eq_true', bne_iff_ne, List.all_eq_true] at h
  obtain ⟨⟨⟨h1, h2⟩, h3⟩, h4⟩ := h
  exact ⟨⟨by intro e; subst e; simp at h1, fun c hc => by simpa using h2 c hc, h3⟩, fun c hc => h4 c hc⟩
theorem name_facts (k : Nat) (h : k < 33) : findW (lettersOf (nameB k)) = k ∧ wordB (lettersOf (nameB k)) = true ∧ lettersOf (nameB k) ≠ bytesW ∧ lettersOf (nameB k) ≠ funcW := by
  have hall : ∀ k, k < 33 → findW (lettersOf (nameB k)) = k ∧ wordB (lettersOf (nameB k)) = true ∧ lettersOf (nameB k) ≠ bytesW ∧ lettersOf (nameB k) ≠ funcW := by decide +kernel
  exact hall k h
theorem op_name {op : Int} (h : 0 ≤ op ∧ op < 33) : findW (lettersOf (nameI op)) = op ∧ wordB (lettersOf (nameI op)) = true ∧ lettersOf (nameI op) ≠ bytesW ∧ lettersOf (nameI op) ≠ funcW := by
  unfold nameI
  rw [if_pos h]
  have := name_facts op.toNat (by omega)
  rw [show ((op.toNat : Nat) : Int) = op by omega] at this
  exact this
def numsP : List (List Int) → Option (List Int)
  | [] => some []
  | w :: l => match numP w, numsP l with
    | some n, some ns => some (n :: ns)
    | _, _ => none
theorem nums_back : ∀ (l : List Int), (∀ x ∈ l, InI x) → numsP (l.map numL) = some l
  | [], _ => rfl
  | x :: l, h => by
    simp only [List.map_cons, numsP]
    rw [num_back (h x (List.mem_cons_self ..)), nums_back l (fun y hy => h y (List.mem_cons_of_mem _ hy))]
def addC : List FunV → InsV → List FunV
  | [], _ => []
  | [f], y => [⟨f.params, f.regs, f.area, f.code ++ [y]⟩]
  | f :: g :: fs, y => f :: addC (g :: fs) y
theorem addC_last : ∀ (fs : List FunV) (f : FunV) (y : InsV), addC (fs ++ [f]) y = fs ++ [⟨f.params, f.regs, f.area, f.code ++ [y]⟩]
  | [], f, y => rfl
  | [g], f, y => rfl
  | g :: h :: fs, f, y => by
    have := addC_last (h :: fs) f y
    simp only [List.cons_append] at this ⊢
    simp only [addC]
    rw [this]
/-- A module with a line more; an error. -/
def lineP (m : ModV) (l : List (List Int)) : ModV × Int :=
  if l.headD [] = bytesW then
    if m.funcs ≠ [] then (m, 10) else match numsP l.tail with
      | none => (m, 5)
      | some n => if n.all (fun x => decide (0 ≤ x ∧ x ≤ 255)) = true then (⟨m.data ++ n, m.funcs⟩, 0) else (m, 5)
  else if l.headD [] = funcW then
    if l.length ≠ 4 then (m, 10) else match numsP l.tail with
      | none => (m, 5)
      | some n => (⟨m.data, m.funcs ++ [⟨n.getD 0 0, n.getD 1 0, n.getD 2 0, []⟩]⟩, 0)
  else if 0 ≤ findW (l.headD []) then
    if m.funcs = [] ∨ fieldsP (findW (l.headD [])) (List.replicate (l.length - 1) 0) = none then (m, 10) else match numsP l.tail with
      | none => (m, 5)
      | some n => (⟨m.data, addC m.funcs ((fieldsP (findW (l.headD [])) n).getD .zero)⟩, 0)
  else (m, 10)
/-- All lines, one behind the other: what has been read, an error, its place. -/
def runL : ModV → Nat → List (List Int) → ModV × Int × Nat
  | m, at', [] => (m, 0, 0)
  | m, at', l :: ls => if wordsL l = [] then runL m (at' + l.length + 1) ls
    else if (lineP m (wordsL l)).2 = 0 then runL (lineP m (wordsL l)).1 (at' + l.length + 1) ls else (m, (lineP m (wordsL l)).2, at')
def getM13 (s : List Int) : ModV × Int × Nat :=
  if 400000 < s.length then (⟨[], []⟩, 3, 400000)
  else if (runL ⟨[], []⟩ 0 (linesOf s)).2.1 ≠ 0 then (⟨[], []⟩, (runL ⟨[], []⟩ 0 (linesOf s)).2)
  else if (runL ⟨[], []⟩ 0 (linesOf s)).1.err ≠ 0 then (⟨[], []⟩, (runL ⟨[], []⟩ 0 (linesOf s)).1.err, 0)
  else ((runL ⟨[], []⟩ 0 (linesOf s)).1, 0, 0)
def chunk16 (l : List Int) : List (List Int) := if h : l = [] then [] else l.take 16 :: chunk16 (l.drop 16)
termination_by l.length
decreasing_by
  have := List.length_pos_iff.2 h
  simp
  omega
def insLn (y : InsV) : List Int := 32 :: 32 :: joinW (insW y)
def funLn (f : FunV) : List (List Int) := joinW [funcW, numL f.params, numL f.regs, numL f.area] :: f.code.map insLn
def linesM (m : ModV) : List (List Int) := (chunk16 m.data).map (fun c => joinW (bytesW :: c.map numL)) ++ m.funcs.flatMap funLn
def textM (m : ModV) : List Int := textOf (linesM m)
theorem nums_words (l : List Int) : ∀ w ∈ l.map numL, IsWord13 w := by
  intro w hw
  obtain ⟨x, _, rfl⟩ := List.mem_map.1 hw
  exact num_word x
theorem bytes_word : IsWord13 bytesW := (word_of (by decide)).1
theorem func_word : IsWord13 funcW := (word_of (by decide)).1
theorem run_one {m m' : ModV} {at' : Nat} {l : List Int} {ws : List (List Int)} {ls : List (List Int)} (hw : wordsL l = ws) (hn : ws ≠ []) (hp : lineP m ws = (m', 0)) : runL m at' (l :: ls) = runL m' (at' + l.length + 1) ls := by
  simp only [runL]
  rw [hw, if_neg hn, hp, if_pos rfl]
theorem run_chunks : ∀ (n : Nat) (d0 d : List Int) (at' : Nat) (ls : List (List Int)), d.length ≤ n → (∀ x ∈ d, 0 ≤ x ∧ x < 256) →
    ∃ at'', runL ⟨d0, []⟩ at' ((chunk16 d).map (fun c => joinW (bytesW :: c.map numL)) ++ ls) = runL ⟨d0 ++ d, []⟩ at'' ls
  | n, d0, [], at', ls, _, _ => by
    rw [chunk16, dif_pos rfl]
    exact ⟨at', by simp⟩
  | 0, d0, x :: d, at', ls, hl, _ => by simp at hl
  | n + 1, d0, x :: d, at', ls, hl, hb => by
    rw [chunk16, dif_neg (by simp)]
    generalize hc : (x :: d).take 16 = c
    have hcb : ∀ y ∈ c, 0 ≤ y ∧ y < 256 := fun y hy => hb y (List.mem_of_mem_take (hc ▸ hy))
    have hw : wordsL (joinW (bytesW :: c.map numL)) = bytesW :: c.map numL := words_join _ (fun w hw => by
      rcases List.mem_cons.1 hw with rfl | hw
      · exact bytes_word
      · exact nums_words c w hw)
    have hp : lineP ⟨d0, []⟩ (bytesW :: c.map numL) = (⟨d0 ++ c, []⟩, 0) := by
      unfold lineP
      simp only [List.headD_cons, List.tail_cons, if_true, ne_eq, not_true_eq_false, if_false]
      rw [nums_back c (fun y hy => by have := hcb y hy; unfold InI; omega)]
      have : c.all (fun x => decide (0 ≤ x ∧ x ≤ 255)) = true := List.all_eq_true.2 (fun y hy => decide_eq_true (by have := hcb y hy; omega))
      simp only [this, if_true]
    obtain ⟨at'', h⟩ := run_chunks n (d0 ++ c) ((x :: d).drop 16) (at' + (joinW (bytesW :: c.map numL)).length + 1) ls (by simp at hl ⊢; omega) (fun y hy => hb y (List.mem_of_mem_drop hy))
    refine ⟨at'', ?_⟩
    rw [List.map_cons, List.cons_append, run_one hw (by simp) hp, h, List.append_assoc, ← hc, List.take_append_drop]
end Go.Proofs.YtohlifeenhaifaaGreatDoor

/- (Math13E) A module's text is read as it. Plain mathematics. -/
namespace Go.Proofs.YtohlifeenhaifaaGreatDoor
set_option linter.unusedVariables false
set_option linter.unusedSimpArgs false

theorem ins_words {y : InsV} (h : y.chk = 0) : ∀ w ∈ insW y, IsWord13 w := by
  intro w hw
  unfold insW at hw
  rcases List.mem_cons.1 hw with rfl | hw
  · exact (word_of (op_name (chk_ok h).op).2.1).1
  · exact nums_words _ w hw
theorem ins_line {y : InsV} (h : y.chk = 0) : wordsL (insLn y) = insW y :=
  words_joinb [32, 32] (insW y) (by decide) (ins_words h)
theorem fields_many (op : Int) : ∀ (L l l' : List Int) (s s' : RdV), l.length = l'.length → ((fldG L l s).isSome = (fldG L l' s').isSome)
  | [], l, l', s, s', h => by
    cases l <;> cases l' <;> simp_all [fldG]
  | q :: L, l, l', s, s', h => by
    simp only [fldG]
    split
    · rw [h]; split <;> rfl
    · cases l with
      | nil => cases l' with
        | nil => rfl
        | cons x l' => simp at h
      | cons x l => cases l' with
        | nil => simp at h
        | cons x' l' => exact fields_many op L l l' _ _ (by simpa using h)
theorem vals_in {y : InsV} (h : y.chk = 0) (hb : InsB y) (ha : ∀ x ∈ y.args, InI x) : ∀ x ∈ valsV y, InI x := by
  intro x hx
  unfold valsV at hx
  obtain ⟨⟨q, v⟩, hp, rfl⟩ := List.mem_map.1 hx
  have key : ∀ (L rs : List Int), (∀ r ∈ rs, InI r) → ∀ p ∈ itemsL y.n y.args L rs, InI p.2 := by
    intro L
    induction L with
    | nil => intro rs _ p hp; simp [itemsL] at hp
    | cons q L ih =>
      intro rs hrs p hp
      simp only [itemsL, List.mem_append, List.mem_map] at hp
      rcases hp with ⟨v, hv, rfl⟩ | hp
      · unfold heldOf at hv
        split at hv
        · simp at hv
          subst hv
          cases rs with
          | nil => show InI 0; unfold InI; decide
          | cons r rs => exact hrs r (List.mem_cons_self ..)
        · split at hv
          · exact ha v hv
          · simp at hv; subst hv; exact hb.n
      · refine ih (restOf q rs) (fun r hr => ?_) p hp
        unfold restOf at hr
        split at hr
        · exact hrs r (List.mem_of_mem_tail hr)
        · exact hrs r hr
  exact key _ _ (by
    intro r hr
    simp only [List.mem_cons, List.not_mem_nil, or_false] at hr
    rcases hr with rfl | rfl | rfl
    · exact hb.a
    · exact hb.b
    · exact hb.c) _ hp
/-- What an instruction of a text is: one that may be, of the machine's numbers. -/
structure Ins13 (y : InsV) : Prop where
  chk : y.chk = 0
  bd : InsB y
  args : ∀ x ∈ y.args, InI x
theorem ins_step {y : InsV} (h : Ins13 y) (data : List Int) (fs : List FunV) (f : FunV) : lineP ⟨data, fs ++ [f]⟩ (insW y) = (⟨data, fs ++ [⟨f.params, f.regs, f.area, f.code ++ [y]⟩]⟩, 0) := by
  have ho := chk_ok h.chk
  obtain ⟨n1, n2, n3, n4⟩ := op_name ho.op
  have hf := fields_back h.chk
  have hm : fieldsP y.op (List.replicate ((insW y).length - 1) 0) ≠ none := by
    have h1 := fields_many y.op (lettersOf (shapeI y.op)) (List.replicate ((insW y).length - 1) 0) (valsV y) ⟨0, [], 0, []⟩ ⟨0, [], 0, []⟩ (by simp [insW])
    unfold fieldsP at hf ⊢
    intro hc
    rw [Option.map_eq_none_iff] at hc
    rw [hc] at h1
    cases hg : fldG (lettersOf (shapeI y.op)) (valsV y) ⟨0, [], 0, []⟩ with
    | none => rw [hg] at hf; simp at hf
    | some s => rw [hg] at h1; simp at h1
  unfold lineP
  rw [show (insW y).headD [] = lettersOf (nameI y.op) from rfl, if_neg n3, if_neg n4, n1, if_pos ho.op.1, if_neg (by
    rintro (hc | hc)
    · simp at hc
    · exact hm hc)]
  rw [show (insW y).tail = (valsV y).map numL from rfl, nums_back _ (vals_in h.chk h.bd h.args)]
  simp only [hf, Option.getD_some, addC_last]
theorem run_code : ∀ (l : List InsV) (data : List Int) (fs : List FunV) (f : FunV) (at' : Nat) (ls : List (List Int)), (∀ y ∈ l, Ins13 y) →
    ∃ at'', runL ⟨data, fs ++ [f]⟩ at' (l.map insLn ++ ls) = runL ⟨data, fs ++ [⟨f.params, f.regs, f.area, f.code ++ l⟩]⟩ at'' ls
  | [], data, fs, f, at', ls, _ => ⟨at', by simp⟩
  | y :: l, data, fs, f, at', ls, h => by
    have hy := h y (List.mem_cons_self ..)
    obtain ⟨at'', h2⟩ := run_code l data fs ⟨f.params, f.regs, f.area, f.code ++ [y]⟩ (at' + (insLn y).length + 1) ls (fun z hz => h z (List.mem_cons_of_mem _ hz))
    refine ⟨at'', ?_⟩
    rw [List.map_cons, List.cons_append, run_one (ins_line hy.chk) (by simp [insW]) (ins_step hy data fs f), h2]
    simp
/-- What a function of a text is. -/
structure Fun13 (f : FunV) : Prop where
  bd : FunB f
  code : ∀ y ∈ f.code, Ins13 y
theorem fun_words (f : FunV) : ∀ w ∈ [funcW, numL f.params, numL f.regs, numL f.area], IsWord13 w := by
  intro w hw
  simp only [List.mem_cons, List.not_mem_nil, or_false] at hw
  rcases hw with rfl | rfl | rfl | rfl
  · exact func_word
  · exact num_word _
  · exact num_word _
  · exact num_word _
theorem run_fun {f : FunV} (h : Fun13 f) (data : List Int) (fs : List FunV) (at' : Nat) (ls : List (List Int)) : ∃ at'', runL ⟨data, fs⟩ at' (funLn f ++ ls) = runL ⟨data, fs ++ [f]⟩ at'' ls := by
  have hw : wordsL (joinW [funcW, numL f.params, numL f.regs, numL f.area]) = [funcW, numL f.params, numL f.regs, numL f.area] := words_join _ (fun_words f)
  have hp : lineP ⟨data, fs⟩ [funcW, numL f.params, numL f.regs, numL f.area] = (⟨data, fs ++ [⟨f.params, f.regs, f.area, []⟩]⟩, 0) := by
    unfold lineP
    have hn := nums_back [f.params, f.regs, f.area] (fun x hx => by
      simp only [List.mem_cons, List.not_mem_nil, or_false] at hx
      rcases hx with rfl | rfl | rfl
      · exact h.bd.params
      · exact h.bd.regs
      · exact h.bd.area)
    simp only [List.map_cons, List.map_nil] at hn
    rw [show ([funcW, numL f.params, numL f.regs, numL f.area] : List (List Int)).headD [] = funcW from rfl, if_neg (by decide), if_pos rfl, if_neg (by simp)]
    rw [show ([funcW, numL f.params, numL f.regs, numL f.area] : List (List Int)).tail = [numL f.params, numL f.regs, numL f.area] from rfl, hn]
    rfl
  obtain ⟨at'', h2⟩ := run_code f.code data fs ⟨f.params, f.regs, f.area, []⟩ (at' + (joinW [funcW, numL f.params, numL f.regs, numL f.area]).length + 1) ls h.code
  refine ⟨at'', ?_⟩
  unfold funLn
  rw [List.cons_append, run_one hw (by simp) hp, h2]
  simp
theorem run_funs : ∀ (gs : List FunV) (data : List Int) (fs : List FunV) (at' : Nat) (ls : List (List Int)), (∀ f ∈ gs, Fun13 f) → ∃ at'', runL ⟨data, fs⟩ at' (gs.flatMap funLn ++ ls) = runL ⟨data, fs ++ gs⟩ at'' ls
  | [], data, fs, at', ls, _ => ⟨at', by simp⟩
  | f :: gs, data, fs, at', ls, h => by
    obtain ⟨a1, h1⟩ := run_fun (h f (List.mem_cons_self ..)) data fs at' (gs.flatMap funLn ++ ls)
    obtain ⟨a2, h2⟩ := run_funs gs data (fs ++ [f]) a1 ls (fun g hg => h g (List.mem_cons_of_mem _ hg))
    refine ⟨a2, ?_⟩
    rw [List.flatMap_cons, List.append_assoc, h1, h2]
    simp
/-- All lines of a module are read as it. -/
theorem run_lines {m : ModV} (hd : ∀ x ∈ m.data, 0 ≤ x ∧ x < 256) (hf : ∀ f ∈ m.funcs, Fun13 f) : runL ⟨[], []⟩ 0 (linesM m ++ [[]]) = (m, 0, 0) := by
  obtain ⟨a1, h1⟩ := run_chunks m.data.length [] m.data 0 (m.funcs.flatMap funLn ++ [[]]) (Nat.le_refl _) hd
  obtain ⟨a2, h2⟩ := run_funs m.funcs m.data [] a1 [[]] hf
  unfold linesM
  rw [List.append_assoc, h1, List.nil_append, h2, List.nil_append]
  simp [runL, wordsL, wordsG, flushW]
theorem num_plain (x : Int) : ∀ c ∈ numL x, c ≠ 10 := by
  have dig : ∀ n, ∀ c ∈ digL n, c ≠ 10 := fun n c hc => by
    have := of_decide_eq_true ((dig_facts n).2.1 c hc)
    omega
  intro c hc
  unfold numL at hc
  split at hc
  · rcases List.mem_cons.1 hc with rfl | hc
    · decide
    · exact dig _ c hc
  · exact dig _ c hc
theorem join_plain : ∀ (l : List (List Int)), (∀ w ∈ l, ∀ c ∈ w, c ≠ 10) → ∀ c ∈ joinW l, c ≠ 10
  | [], _, c, hc => by simp [joinW] at hc
  | [w], h, c, hc => h w (List.mem_cons_self ..) c hc
  | w :: v :: l, h, c, hc => by
    rw [joinW_cons w (by simp)] at hc
    rcases List.mem_append.1 hc with hc | hc
    · exact h w (List.mem_cons_self ..) c hc
    · rcases List.mem_cons.1 hc with rfl | hc
      · decide
      · exact join_plain (v :: l) (fun u hu => h u (List.mem_cons_of_mem _ hu)) c hc
theorem ins_plain {y : InsV} (h : y.chk = 0) : ∀ c ∈ insLn y, c ≠ 10 := by
  intro c hc
  unfold insLn at hc
  rcases List.mem_cons.1 hc with rfl | hc
  · decide
  rcases List.mem_cons.1 hc with rfl | hc
  · decide
  refine join_plain _ (fun w hw => ?_) c hc
  unfold insW at hw
  rcases List.mem_cons.1 hw with rfl | hw
  · exact (word_of (op_name (chk_ok h).op).2.1).2
  · obtain ⟨x, _, rfl⟩ := List.mem_map.1 hw
    exact num_plain x
theorem fun_plain {f : FunV} (h : Fun13 f) : ∀ l ∈ funLn f, ∀ c ∈ l, c ≠ 10 := by
  intro l hl
  unfold funLn at hl
  rcases List.mem_cons.1 hl with rfl | hl
  · refine join_plain _ (fun w hw => ?_)
    simp only [List.mem_cons, List.not_mem_nil, or_false] at hw
    rcases hw with rfl | rfl | rfl | rfl
    · exact (word_of (by decide)).2
    · exact num_plain _
    · exact num_plain _
    · exact num_plain _
  · obtain ⟨y, hy, rfl⟩ := List.mem_map.1 hl
    exact ins_plain (h.code y hy).chk
theorem lines_plain {m : ModV} (hf : ∀ f ∈ m.funcs, Fun13 f) : ∀ l ∈ linesM m, ∀ c ∈ l, c ≠ 10 := by
  intro l hl
  unfold linesM at hl
  rcases List.mem_append.1 hl with hl | hl
  · obtain ⟨c, _, rfl⟩ := List.mem_map.1 hl
    refine join_plain _ (fun w hw => ?_)
    rcases List.mem_cons.1 hw with rfl | hw
    · exact (word_of (by decide)).2
    · obtain ⟨x, _, rfl⟩ := List.mem_map.1 hw
      exact num_plain x
  · obtain ⟨f, hfm, hl⟩ := List.mem_flatMap.1 hl
    exact fun_plain (hf f hfm) l hl
/-- A module's text is read as it, if it is not too long. -/
theorem get_text {m : ModV} (he : m.err = 0) (hd : ∀ x ∈ m.data, 0 ≤ x ∧ x < 256) (hf : ∀ f ∈ m.funcs, Fun13 f) (hl : (textM m).length ≤ 400000) : getM13 (textM m) = (m, 0, 0) := by
  unfold getM13
  rw [if_neg (by omega), show linesOf (textM m) = linesM m ++ [[]] from lines_text _ (lines_plain hf), run_lines hd hf]
  dsimp only
  rw [if_neg (by simp), if_neg (by simp [he])]
/-- How long a word of a number is. -/
theorem num_len {x : Int} (h : InI x) : (numL x).length ≤ 20 := by
  unfold InI at h
  unfold numL
  split
  · have := dig_len19 (n := x.natAbs) (by omega)
    simp
    omega
  · have := dig_len19 (n := x.toNat) (by omega)
    omega
theorem join_len : ∀ (l : List (List Int)) (k : Nat), (∀ w ∈ l, w.length ≤ k) → (joinW l).length ≤ l.length * (k + 1)
  | [], k, _ => by simp [joinW]
  | [w], k, h => by
    have := h w (List.mem_cons_self ..)
    simp [joinW]
    omega
  | w :: v :: l, k, h => by
    have h1 := h w (List.mem_cons_self ..)
    have h2 := join_len (v :: l) k (fun u hu => h u (List.mem_cons_of_mem _ hu))
    rw [joinW_cons w (by simp)]
    simp only [List.length_append, List.length_cons] at h2 ⊢
    rw [show (l.length + 1 + 1) * (k + 1) = (l.length + 1) * (k + 1) + (k + 1) from by rw [Nat.add_mul (l.length + 1) 1 (k + 1), Nat.one_mul]]
    omega
end Go.Proofs.YtohlifeenhaifaaGreatDoor

/- (Math13F) What is read of a text: numbers in their own words, and how long its text is. Plain mathematics. -/
namespace Go.Proofs.YtohlifeenhaifaaGreatDoor
set_option linter.unusedVariables false
set_option linter.unusedSimpArgs false

theorem snoc_of {t : List Int} (h : t ≠ []) : ∃ u c, t = u ++ [c] := by
  cases hr : t.reverse with
  | nil => exact absurd (by simpa using hr) h
  | cons c r => exact ⟨r.reverse, c, by rw [← List.reverse_reverse t, hr]; simp⟩
theorem dig_canon : ∀ (n : Nat) (t : List Int), t.length = n → t ≠ [] → (∀ c ∈ t, isDig c = true) → (t.headD 0 ≠ 48 ∨ t.length = 1) → digL (worth 0 t) = t ∧ (t.headD 0 ≠ 48 → 0 < worth 0 t) := by
  intro n
  induction n with
  | zero => intro t hl h; exact absurd (List.eq_nil_of_length_eq_zero hl) h
  | succ n ih =>
    intro t hl h hd hh
    obtain ⟨u, c, rfl⟩ := snoc_of h
    have hc := of_decide_eq_true (hd c (by simp))
    rw [worth_app]
    cases u with
    | nil =>
      simp only [List.nil_append, worth, Nat.mul_zero, Nat.zero_add]
      rw [digL_small (by omega)]
      refine ⟨by congr 1; omega, fun h0 => ?_⟩
      simp at h0
      omega
    | cons a u =>
      have hne : (a :: u).headD 0 ≠ 48 := by
        rcases hh with h1 | h1
        · simpa using h1
        · simp at h1
      obtain ⟨i1, i2⟩ := ih (a :: u) (by simpa using hl) (by simp) (fun d hd2 => hd d (List.mem_append_left _ hd2)) (.inl hne)
      have i3 := i2 hne
      generalize worth 0 (a :: u) = m at *
      rw [digL_big (by omega), show (10 * m + (c - 48).toNat) / 10 = m by omega, i1, show (10 * m + (c - 48).toNat) % 10 = (c - 48).toNat by omega]
      exact ⟨by congr 2; omega, fun _ => by omega⟩
/-- A word that is a number is that number's own. -/
theorem num_canon {w : List Int} {x : Int} (h : numP w = some x) : numL x = w ∧ InI x := by
  unfold numP at h
  generalize hb : (decide (1 < w.length) && w.headD 0 == 45) = b at h
  cases b with
  | true =>
    simp only [if_true] at h
    rw [Bool.and_eq_true, beq_iff_eq] at hb
    have hw : w = 45 :: w.tail := by
      cases w with
      | nil => simp at hb
      | cons a t => have := hb.2; simp at this; rw [this]; rfl
    generalize ht : w.tail = t at h hw
    split at h
    · cases h
    · rename_i h1
      split at h
      · cases h
      · rename_i h2
        have hd : ∀ c ∈ t, isDig c = true := by
          have : t.all isDig = true := by simpa using h2
          exact List.all_eq_true.1 this
        have hne : t ≠ [] := fun e => h1 (.inl e)
        have hh : t.headD 0 ≠ 48 := fun e => h1 (.inr (.inr ⟨e, .inr trivial⟩))
        obtain ⟨c1, c2⟩ := dig_canon t.length t rfl hne hd (.inl hh)
        have c3 := c2 hh
        simp only [true_and, Bool.true_eq_false, false_and, if_false] at h
        split at h
        · rename_i h3
          injection h with h
          subst h
          refine ⟨?_, by unfold InI; omega⟩
          unfold numL
          rw [if_pos (by omega), show (-(worth 0 t : Int)).natAbs = worth 0 t by omega, c1, hw]
        · cases h
  | false =>
    simp only [Bool.false_eq_true, if_false] at h
    split at h
    · cases h
    · rename_i h1
      split at h
      · cases h
      · rename_i h2
        have hd : ∀ c ∈ w, isDig c = true := by
          have : w.all isDig = true := by simpa using h2
          exact List.all_eq_true.1 this
        have hne : w ≠ [] := fun e => h1 (.inl e)
        have hh : w.headD 0 ≠ 48 ∨ w.length = 1 := by
          by_cases e : w.headD 0 = 48
          · right
            have h3 : ¬ 1 < w.length := fun h4 => h1 (.inr (.inr ⟨e, .inl h4⟩))
            have := List.length_pos_iff.2 hne
            omega
          · exact .inl e
        obtain ⟨c1, c2⟩ := dig_canon w.length w rfl hne hd hh
        simp only [false_and, if_false, true_and] at h
        split at h
        · rename_i h3
          injection h with h
          subst h
          refine ⟨?_, by unfold InI; omega⟩
          unfold numL
          rw [if_neg (by omega), Int.toNat_natCast, c1]
        · cases h
theorem nums_canon : ∀ (l : List (List Int)) (n : List Int), numsP l = some n → n.map numL = l ∧ ∀ x ∈ n, InI x
  | [], n, h => by
    simp [numsP] at h
    subst h
    exact ⟨rfl, by simp⟩
  | w :: l, n, h => by
    simp only [numsP] at h
    split at h
    · rename_i a b hx hxs
      injection h with h
      subst h
      obtain ⟨h1, h2⟩ := num_canon hx
      obtain ⟨h3, h4⟩ := nums_canon l _ hxs
      refine ⟨by rw [List.map_cons, h1, h3], fun y hy => ?_⟩
      rcases List.mem_cons.1 hy with rfl | hy
      · exact h2
      · exact h4 y hy
    · cases h
end Go.Proofs.YtohlifeenhaifaaGreatDoor

/- (Math13G) An instruction that is read has just the fields that stand there; how long a text of what was read is. Plain mathematics. -/
namespace Go.Proofs.YtohlifeenhaifaaGreatDoor
set_option linter.unusedVariables false
set_option linter.unusedSimpArgs false

/-- At most one number beside the registers. -/
def onceN : List Int → Bool
  | [] => true
  | q :: L => if isNumQ q = true then !hasN L else onceN L
theorem once_shape (op : Int) : onceN (lettersOf (shapeI op)) = true := by
  unfold shapeI
  split
  · rename_i h
    have hall : ∀ k, k < 33 → onceN (lettersOf (shapeB k)) = true := by decide +kernel
    exact hall _ (by omega)
  · rfl
theorem hasN_cons (q : Int) (L : List Int) : hasN (q :: L) = (isNumQ q || hasN L) := by simp [hasN, isNumQ]
theorem fld_keep : ∀ {L l : List Int} {s s' : RdV}, lastQ13 L = true → fldG L l s = some s' → (hasN L = false → s'.n = s.n) ∧ (∃ u, s'.rs = s.rs ++ u ∧ u.length = regN L) ∧ (conL L = false → s'.args = s.args)
  | [], l, s, s', _, h => by
    simp only [fldG] at h
    split at h
    · injection h with h; subst h; exact ⟨fun _ => rfl, ⟨[], by simp, rfl⟩, fun _ => rfl⟩
    · cases h
  | q :: L, l, s, s', hl, h => by
    simp only [fldG] at h
    by_cases hc : q = 108
    · subst hc
      rw [if_pos rfl] at h
      simp only [lastQ13, if_true] at hl
      have hL : L = [] := by simpa using hl
      subst hL
      split at h
      · injection h with h
        subst h
        exact ⟨fun _ => rfl, ⟨[], by simp, rfl⟩, fun h0 => absurd h0 (by decide)⟩
      · cases h
    · rw [if_neg hc] at h
      simp only [lastQ13, if_neg hc] at hl
      cases l with
      | nil => cases h
      | cons x l =>
        simp only at h
        have ih := fld_keep hl h
        have eC : conL (q :: L) = conL L := by simp [conL, hc]
        rw [hasN_cons, eC]
        by_cases hq : isReg q = true
        · have e1 : isNumQ q = false := by simp [isNumQ, hq]
          rw [if_pos hq] at h ih
          obtain ⟨i1, ⟨u, i2, i3⟩, i4⟩ := ih
          rw [e1, Bool.false_or]
          exact ⟨i1, ⟨x :: u, by rw [i2]; simp, by simp [regN, hq, i3]; omega⟩, i4⟩
        · have e1 : isNumQ q = true := by simp [isNumQ, hq, hc]
          have hqf : isReg q = false := by simpa using hq
          rw [if_neg hq] at h ih
          obtain ⟨i1, ⟨u, i2, i3⟩, i4⟩ := ih
          rw [e1, Bool.true_or]
          exact ⟨fun h0 => (by cases h0), ⟨u, i2, by simp [regN, hqf, i3]⟩, i4⟩
/-- Just these values are read. -/
theorem fld_fwd : ∀ {L l : List Int} {s s' : RdV}, lastQ13 L = true → onceN L = true → fldG L l s = some s' → (itemsL s'.n s'.args L (s'.rs.drop s.rs.length)).map (·.2) = l
  | [], l, s, s', _, _, h => by
    simp only [fldG] at h
    split at h
    · rename_i h0; simp [itemsL, h0]
    · cases h
  | q :: L, l, s, s', hl, ho, h => by
    have hk := fld_keep hl h
    simp only [fldG] at h
    by_cases hc : q = 108
    · subst hc
      rw [if_pos rfl] at h
      simp only [lastQ13, if_true] at hl
      have hL : L = [] := by simpa using hl
      subst hL
      split at h
      · injection h with h
        subst h
        have e0 : isReg 108 = false := rfl
        simp [itemsL, heldOf, e0, Function.comp_def]
      · cases h
    · rw [if_neg hc] at h
      simp only [lastQ13, if_neg hc] at hl
      cases l with
      | nil => cases h
      | cons x l =>
        simp only at h
        by_cases hq : isReg q = true
        · have e1 : isNumQ q = false := by simp [isNumQ, hq]
          rw [if_pos hq] at h
          simp only [onceN, e1, Bool.false_eq_true, if_false] at ho
          have ih := fld_fwd hl ho h
          obtain ⟨_, ⟨u, i2, i3⟩, _⟩ := fld_keep hl h
          simp only [List.length_append, List.length_cons, List.length_nil, Nat.zero_add] at ih
          have hd : s'.rs.drop s.rs.length = x :: u := by rw [i2]; simp
          have hd2 : s'.rs.drop (s.rs.length + 1) = u := by rw [← List.drop_drop, hd]; rfl
          rw [hd2] at ih
          rw [hd]
          simp [itemsL, heldOf, restOf, hq, ih]
        · have e1 : isNumQ q = true := by simp [isNumQ, hq, hc]
          have hqf : isReg q = false := by simpa using hq
          rw [if_neg hq] at h
          simp only [onceN, e1, if_true] at ho
          have hn : hasN L = false := by simpa using ho
          have ho2 : onceN L = true := by
            have key : ∀ (M : List Int), hasN M = false → onceN M = true := by
              intro M
              induction M with
              | nil => intro _; rfl
              | cons a M ihM =>
                intro hM
                rw [hasN_cons, Bool.or_eq_false_iff] at hM
                simp only [onceN, hM.1, Bool.false_eq_true, if_false]
                exact ihM hM.2
            exact key L hn
          have ih := fld_fwd hl ho2 h
          obtain ⟨i1, _, _⟩ := fld_keep hl h
          have hx := i1 hn
          simp only at ih hx
          rw [hx] at ih ⊢
          simp [itemsL, heldOf, restOf, hqf, hc, ih]
theorem items_take (n : Int) (args : List Int) : ∀ (L rs rs' : List Int), rs.length = regN L → itemsL n args L (rs ++ rs') = itemsL n args L rs
  | [], rs, rs', _ => by simp [itemsL]
  | q :: L, rs, rs', h => by
    by_cases hq : isReg q = true
    · simp only [regN, hq, if_true] at h
      match rs, h with
      | [], h => simp at h; omega
      | r :: rs, h =>
        simp only [List.length_cons] at h
        have := items_take n args L rs rs' (by omega)
        simp [itemsL, heldOf, restOf, hq, this]
    · have hqf : isReg q = false := by simpa using hq
      simp only [regN, hqf, Bool.false_eq_true, if_false, Nat.zero_add] at h
      have := items_take n args L rs rs' h
      simp [itemsL, heldOf, restOf, hqf, this]
/-- What is read of an operation's values has just them. -/
theorem fields_fwd {op : Int} {l : List Int} {y : InsV} (h : fieldsP op l = some y) : valsV y = l ∧ y.op = op := by
  unfold fieldsP at h
  cases hg : fldG (lettersOf (shapeI op)) l ⟨0, [], 0, []⟩ with
  | none => rw [hg] at h; simp at h
  | some s =>
    rw [hg] at h
    simp only [Option.map_some, Option.some.injEq] at h
    subst h
    have hr3 := okShape_reg (shapes_ok op)
    obtain ⟨_, ⟨u, i2, i3⟩, _⟩ := fld_keep (last_shape op) hg
    have hf := fld_fwd (last_shape op) (once_shape op) hg
    simp only [List.nil_append, List.length_nil, List.drop_zero] at i2 hf
    refine ⟨?_, rfl⟩
    unfold valsV
    rw [show (insOf op s).letters = lettersOf (shapeI op) from rfl, show (insOf op s).n = s.n from rfl, show (insOf op s).args = s.args from rfl]
    have hrs : ∃ r', [(insOf op s).a, (insOf op s).b, (insOf op s).c] = s.rs ++ r' := by
      show ∃ r', [s.rs.getD 0 0, s.rs.getD 1 0, s.rs.getD 2 0] = s.rs ++ r'
      rw [i2]
      match u, i3 with
      | [], _ => exact ⟨[0, 0, 0], rfl⟩
      | [a], _ => exact ⟨[0, 0], rfl⟩
      | [a, b], _ => exact ⟨[0], rfl⟩
      | [a, b, c], _ => exact ⟨[], rfl⟩
      | a :: b :: c :: d :: u, i3 => simp at i3; omega
    obtain ⟨r', hr'⟩ := hrs
    rw [hr', items_take s.n s.args _ _ _ (by rw [i2]; exact i3)]
    exact hf
end Go.Proofs.YtohlifeenhaifaaGreatDoor

/- (Math13H) What is read of a text, put and read again, is the same. Plain mathematics. -/
namespace Go.Proofs.YtohlifeenhaifaaGreatDoor
set_option linter.unusedVariables false
set_option linter.unusedSimpArgs false

/-- How much some words take, each with one more. -/
def wideW (l : List (List Int)) : Nat := (l.map (fun w => w.length + 1)).sum
theorem wideW_cons (w : List Int) (l : List (List Int)) : wideW (w :: l) = w.length + 1 + wideW l := by simp [wideW]
theorem words_wide : ∀ (s w : List Int), wideW (wordsG w s) ≤ w.length + s.length + 1
  | [], w => by
    simp only [wordsG, flushW]
    split
    · simp [wideW]
    · split <;> simp [wideW]
  | c :: s, w => by
    simp only [wordsG]
    split
    · split
      · have := words_wide s []
        simp at this ⊢
        omega
      · split
        · simp [wideW]
        · have := words_wide s []
          rw [wideW_cons]
          simp at this ⊢
          omega
    · have := words_wide s (w ++ [c])
      simp at this ⊢
      omega
theorem join_wide : ∀ (l : List (List Int)), l ≠ [] → (joinW l).length + 1 = wideW l
  | [], h => absurd rfl h
  | [w], _ => by simp [joinW, wideW]
  | w :: v :: l, _ => by
    have := join_wide (v :: l) (by simp)
    rw [joinW_cons w (by simp), wideW_cons]
    simp at this ⊢
    omega
theorem lines_wide : ∀ (s : List Int), wideW (linesOf s) = s.length + 1
  | [] => rfl
  | c :: s => by
    have ih := lines_wide s
    simp only [linesOf]
    split
    · rw [wideW_cons]; simp; omega
    · split
      · rename_i h; exact absurd h (lines_ne s)
      · rename_i l ls h
        rw [h] at ih
        rw [wideW_cons] at ih ⊢
        simp
        omega
def costI (y : InsV) : Nat := (insLn y).length + 1
def costF (f : FunV) : Nat := (joinW [funcW, numL f.params, numL f.regs, numL f.area]).length + 1 + (f.code.map costI).sum
def costD (d : Int) : Nat := (numL d).length + 7
def costM (m : ModV) : Nat := (m.data.map costD).sum + (m.funcs.map costF).sum
theorem text_len (ls : List (List Int)) : (textOf ls).length = wideW ls := by
  unfold textOf wideW
  rw [List.length_flatMap]
  congr 1
  apply List.map_congr_left
  intro l _
  simp
theorem flat_len (c : List Int) : ((c.map numL).flatMap (fun v => 32 :: v)).length + 6 * c.length = (c.map costD).sum := by
  induction c with
  | nil => rfl
  | cons x c ih =>
    simp only [List.map_cons, List.flatMap_cons, List.length_append, List.length_cons, List.sum_cons]
    unfold costD
    unfold costD at ih
    omega
theorem chunks_wide : ∀ (n : Nat) (d : List Int), d.length ≤ n → wideW ((chunk16 d).map (fun c => joinW (bytesW :: c.map numL))) ≤ (d.map costD).sum
  | n, [], _ => by rw [chunk16, dif_pos rfl]; simp [wideW]
  | 0, x :: d, h => by simp at h
  | n + 1, x :: d, h => by
    rw [chunk16, dif_neg (by simp), List.map_cons, wideW_cons, join_flat]
    have ih := chunks_wide n ((x :: d).drop 16) (by simp at h ⊢; omega)
    have hs : ((x :: d).map costD).sum = (((x :: d).take 16).map costD).sum + (((x :: d).drop 16).map costD).sum := by
      rw [← List.sum_append, ← List.map_append, List.take_append_drop]
    have hf := flat_len ((x :: d).take 16)
    have hl : 1 ≤ ((x :: d).take 16).length := by simp
    have hb : bytesW.length = 5 := rfl
    rw [List.length_append, hb, hs]
    omega
theorem funs_wide : ∀ (fs : List FunV), wideW (fs.flatMap funLn) = (fs.map costF).sum
  | [] => rfl
  | f :: fs => by
    have ih := funs_wide fs
    have happ : ∀ (a b : List (List Int)), wideW (a ++ b) = wideW a + wideW b := fun a b => by simp [wideW]
    rw [List.flatMap_cons, happ, ih, List.map_cons, List.sum_cons]
    congr 1
    unfold funLn costF
    rw [wideW_cons]
    congr 1
    unfold wideW
    rw [List.map_map]
    rfl
theorem text_cost (m : ModV) : (textM m).length ≤ costM m := by
  unfold textM linesM costM
  rw [text_len]
  have happ : ∀ (a b : List (List Int)), wideW (a ++ b) = wideW a + wideW b := fun a b => by simp [wideW]
  rw [happ, funs_wide]
  have := chunks_wide m.data.length m.data (Nat.le_refl _)
  omega
end Go.Proofs.YtohlifeenhaifaaGreatDoor

/- (Math13I) What is read of a text, put and read again, is the same: what is known of all that is read. Plain mathematics. -/
namespace Go.Proofs.YtohlifeenhaifaaGreatDoor
set_option linter.unusedVariables false
set_option linter.unusedSimpArgs false

theorem find_name13 {w : List Int} (h : 0 ≤ findW w) : 0 ≤ findW w ∧ findW w < 33 ∧ lettersOf (nameI (findW w)) = w := by
  unfold findW at *
  cases hf : (nameL.map lettersOf).findIdx? (fun x => decide (x = w)) with
  | none => rw [hf] at h; simp at h
  | some k =>
    rw [hf] at h
    obtain ⟨hk, hp, _⟩ := List.findIdx?_eq_some_iff_getElem.1 hf
    have hl : nameL.length = 33 := by decide +kernel
    have hk2 : k < 33 := by simpa [hl] using hk
    refine ⟨by simp, by simp; omega, ?_⟩
    have he := of_decide_eq_true hp
    simp only [List.getElem_map] at he
    show lettersOf (nameI (k : Int)) = w
    unfold nameI
    rw [if_pos (by omega), Int.toNat_natCast, ← he]
    congr 1
    simp [nameB, List.getD, hl, hk2]
theorem mem_err13 {fs : List FunV} (h : firstF fs = 0) : ∀ f ∈ fs, f.err = 0 := by
  induction fs with
  | nil => intro f hf; simp at hf
  | cons z l ih =>
    intro f hf
    simp only [firstF] at h
    split at h
    · rename_i hz
      rcases List.mem_cons.1 hf with rfl | hf
      · exact hz
      · exact ih h f hf
    · rename_i hz; exact absurd h hz
theorem err_funs13 {m : ModV} (h : m.err = 0) : firstF m.funcs = 0 := by
  unfold ModV.err at h
  split at h
  · omega
  · split at h
    · exact h
    · omega
/-- What is known of what has been read. -/
structure GoodI13 (y : InsV) : Prop where
  bd : InsB y
  args : ∀ x ∈ y.args, InI x
structure Good13 (m : ModV) : Prop where
  data : ∀ x ∈ m.data, 0 ≤ x ∧ x < 256
  funs : ∀ f ∈ m.funcs, FunB f ∧ ∀ y ∈ f.code, GoodI13 y
theorem fld_bd : ∀ {L l : List Int} {s s' : RdV}, fldG L l s = some s' → (∀ x ∈ l, InI x) → (∀ x ∈ s.rs, InI x) → InI s.n → (∀ x ∈ s.args, InI x) → (∀ x ∈ s'.rs, InI x) ∧ InI s'.n ∧ ∀ x ∈ s'.args, InI x
  | [], l, s, s', h, _, h2, h3, h4 => by
    simp only [fldG] at h
    split at h
    · injection h with h; subst h; exact ⟨h2, h3, h4⟩
    · cases h
  | q :: L, l, s, s', h, h1, h2, h3, h4 => by
    simp only [fldG] at h
    split at h
    · split at h
      · injection h with h; subst h; exact ⟨h2, h3, h1⟩
      · cases h
    · cases l with
      | nil => cases h
      | cons x l =>
        simp only at h
        have hx := h1 x (List.mem_cons_self ..)
        have hl : ∀ z ∈ l, InI z := fun z hz => h1 z (List.mem_cons_of_mem _ hz)
        split at h
        · exact fld_bd h hl (fun z hz => by
            rcases List.mem_append.1 hz with hz | hz
            · exact h2 z hz
            · simp at hz; subst hz; exact hx) h3 h4
        · exact fld_bd h hl h2 hx h4
theorem getD_in {l : List Int} (h : ∀ x ∈ l, InI x) (i : Nat) : InI (l.getD i 0) := by
  by_cases hi : i < l.length
  · rw [List.getD, List.getElem?_eq_getElem hi]
    exact h _ (List.getElem_mem hi)
  · rw [List.getD, List.getElem?_eq_none (by omega)]
    show InI 0
    unfold InI; decide
theorem fields_good13 {op : Int} {l : List Int} {y : InsV} (h : fieldsP op l = some y) (ho : 0 ≤ op ∧ op < 33) (hl : ∀ x ∈ l, InI x) : GoodI13 y := by
  unfold fieldsP at h
  cases hg : fldG (lettersOf (shapeI op)) l ⟨0, [], 0, []⟩ with
  | none => rw [hg] at h; simp at h
  | some s =>
    rw [hg] at h
    simp only [Option.map_some, Option.some.injEq] at h
    subst h
    obtain ⟨h1, h2, h3⟩ := fld_bd hg hl (by simp) (show InI 0 by unfold InI; decide) (by simp)
    exact ⟨⟨by unfold InI; show _ ≤ op ∧ op < _; omega, getD_in h1 0, getD_in h1 1, getD_in h1 2, h2⟩, h3⟩
theorem addC_mem : ∀ (fs : List FunV) (y : InsV) (f : FunV), f ∈ addC fs y → f ∈ fs ∨ ∃ g ∈ fs, f = ⟨g.params, g.regs, g.area, g.code ++ [y]⟩
  | [], y, f, h => by simp [addC] at h
  | [g], y, f, h => by simp [addC] at h; exact .inr ⟨g, by simp, h⟩
  | g :: k :: fs, y, f, h => by
    simp only [addC] at h
    rcases List.mem_cons.1 h with rfl | h
    · exact .inl (List.mem_cons_self ..)
    · rcases addC_mem (k :: fs) y f h with h | ⟨g', hg, he⟩
      · exact .inl (List.mem_cons_of_mem _ h)
      · exact .inr ⟨g', List.mem_cons_of_mem _ hg, he⟩
theorem addC_cost : ∀ (fs : List FunV) (y : InsV), ((addC fs y).map costF).sum ≤ (fs.map costF).sum + costI y
  | [], y => by simp [addC]
  | [g], y => by
    simp only [addC, List.map_cons, List.map_nil, List.sum_cons, List.sum_nil]
    unfold costF
    simp
    omega
  | g :: k :: fs, y => by
    have := addC_cost (k :: fs) y
    simp only [addC, List.map_cons, List.sum_cons] at this ⊢
    omega
theorem lineP_cons (m : ModV) (w : List Int) (l : List (List Int)) : lineP m (w :: l) =
  (if w = bytesW then
    if m.funcs ≠ [] then (m, 10) else match numsP l with
      | none => (m, 5)
      | some n => if n.all (fun x => decide (0 ≤ x ∧ x ≤ 255)) = true then (⟨m.data ++ n, m.funcs⟩, 0) else (m, 5)
  else if w = funcW then
    if (w :: l).length ≠ 4 then (m, 10) else match numsP l with
      | none => (m, 5)
      | some n => (⟨m.data, m.funcs ++ [⟨n.getD 0 0, n.getD 1 0, n.getD 2 0, []⟩]⟩, 0)
  else if 0 ≤ findW w then
    if m.funcs = [] ∨ fieldsP (findW w) (List.replicate ((w :: l).length - 1) 0) = none then (m, 10) else match numsP l with
      | none => (m, 5)
      | some n => (⟨m.data, addC m.funcs ((fieldsP (findW w) n).getD .zero)⟩, 0)
  else (m, 10) : ModV × Int) := rfl
/-- A line more: what is known stays, and the text grows by little. -/
theorem line_good {m : ModV} {ws : List (List Int)} (hn : ws ≠ []) (h0 : (lineP m ws).2 = 0) (hg : Good13 m) : Good13 (lineP m ws).1 ∧ costM (lineP m ws).1 ≤ costM m + 7 * wideW ws := by
  cases ws with
  | nil => exact absurd rfl hn
  | cons w l =>
    rw [lineP_cons] at h0 ⊢
    rw [wideW_cons]
    by_cases hb : w = bytesW
    · rw [if_pos hb] at h0 ⊢
      by_cases hf : m.funcs ≠ []
      · rw [if_pos hf] at h0; exact absurd (show (10 : Int) = 0 from h0) (by decide)
      · rw [if_neg hf] at h0 ⊢
        cases hs : numsP l with
        | none => rw [hs] at h0; exact absurd (show (5 : Int) = 0 from h0) (by decide)
        | some n =>
          rw [hs] at h0
          simp only at h0 ⊢
          by_cases ha : n.all (fun x => decide (0 ≤ x ∧ x ≤ 255)) = true
          · rw [if_pos ha]
            obtain ⟨h1, h2⟩ := nums_canon l n hs
            refine ⟨⟨fun x hx => ?_, hg.funs⟩, ?_⟩
            · rcases List.mem_append.1 hx with hx | hx
              · exact hg.data x hx
              · have := of_decide_eq_true (List.all_eq_true.1 ha x hx); omega
            · unfold costM
              rw [List.map_append, List.sum_append]
              have hw : (n.map costD).sum ≤ 7 * wideW l := by
                rw [← h1]
                clear h1 h2 hs ha h0
                induction n with
                | nil => simp
                | cons x n ih =>
                  rw [List.map_cons, List.map_cons, wideW_cons, List.sum_cons]
                  unfold costD at ih ⊢
                  omega
              dsimp only
              omega
          · rw [if_neg ha] at h0; exact absurd (show (5 : Int) = 0 from h0) (by decide)
    · rw [if_neg hb] at h0 ⊢
      by_cases hfn : w = funcW
      · rw [if_pos hfn] at h0 ⊢
        by_cases h4 : (w :: l).length ≠ 4
        · rw [if_pos h4] at h0; exact absurd (show (10 : Int) = 0 from h0) (by decide)
        · rw [if_neg h4] at h0 ⊢
          cases hs : numsP l with
          | none => rw [hs] at h0; exact absurd (show (5 : Int) = 0 from h0) (by decide)
          | some n =>
            obtain ⟨h1, h2⟩ := nums_canon l n hs
            have hl : n.length = 3 := by
              have := congrArg List.length h1
              simp at this h4
              omega
            match n, hl with
            | [x, y, z], _ =>
              refine ⟨⟨hg.data, fun f hf => ?_⟩, ?_⟩
              · rcases List.mem_append.1 hf with hf | hf
                · exact hg.funs f hf
                · simp at hf
                  subst hf
                  exact ⟨⟨h2 x (by simp), h2 y (by simp), h2 z (by simp)⟩, by simp⟩
              · unfold costM
                rw [List.map_append, List.sum_append]
                have hj := join_wide (w :: l) (by simp)
                rw [wideW_cons] at hj
                have he : costF ⟨x, y, z, []⟩ = (joinW (w :: l)).length + 1 := by
                  unfold costF
                  rw [hfn, ← h1]
                  simp
                simp only [List.getD_cons_zero, List.getD_cons_succ, List.map_cons, List.map_nil, List.sum_cons, List.sum_nil]
                rw [he]
                omega
      · rw [if_neg hfn] at h0 ⊢
        by_cases hop : 0 ≤ findW w
        · rw [if_pos hop] at h0 ⊢
          obtain ⟨o1, o2, o3⟩ := find_name13 hop
          by_cases hc : m.funcs = [] ∨ fieldsP (findW w) (List.replicate ((w :: l).length - 1) 0) = none
          · rw [if_pos hc] at h0; exact absurd (show (10 : Int) = 0 from h0) (by decide)
          · rw [if_neg hc] at h0 ⊢
            cases hs : numsP l with
            | none => rw [hs] at h0; exact absurd (show (5 : Int) = 0 from h0) (by decide)
            | some n =>
              obtain ⟨h1, h2⟩ := nums_canon l n hs
              simp only
              have hlen : n.length = l.length := by rw [← h1, List.length_map]
              cases hy : fieldsP (findW w) n with
              | none =>
                have hm := fields_many (findW w) (lettersOf (shapeI (findW w))) (List.replicate ((w :: l).length - 1) 0) n ⟨0, [], 0, []⟩ ⟨0, [], 0, []⟩ (by simp [hlen])
                exfalso
                apply hc
                right
                unfold fieldsP at hy ⊢
                rw [Option.map_eq_none_iff] at hy ⊢
                rw [hy] at hm
                simpa using hm
              | some y =>
                obtain ⟨v1, v2⟩ := fields_fwd hy
                have hgi := fields_good13 hy ⟨o1, o2⟩ h2
                simp only [Option.getD_some]
                refine ⟨⟨hg.data, fun f hf => ?_⟩, ?_⟩
                · rcases addC_mem _ _ _ hf with hf | ⟨g, hgm, rfl⟩
                  · exact hg.funs f hf
                  · obtain ⟨b1, b2⟩ := hg.funs g hgm
                    refine ⟨⟨b1.params, b1.regs, b1.area⟩, fun z hz => ?_⟩
                    rcases List.mem_append.1 hz with hz | hz
                    · exact b2 z hz
                    · simp at hz; subst hz; exact hgi
                · have hcst := addC_cost m.funcs y
                  have hw : insW y = w :: l := by
                    unfold insW
                    rw [v1, v2, o3, h1]
                  have hj := join_wide (w :: l) (by simp)
                  rw [wideW_cons] at hj
                  unfold costM
                  have he : costI y = (joinW (w :: l)).length + 3 := by
                    unfold costI insLn
                    rw [hw]
                    simp
                  simp only
                  omega
        · rw [if_neg hop] at h0; exact absurd (show (10 : Int) = 0 from h0) (by decide)
theorem run_good : ∀ (ls : List (List Int)) (m m' : ModV) (at' a2 : Nat), runL m at' ls = (m', 0, a2) → Good13 m → Good13 m' ∧ costM m' ≤ costM m + 7 * wideW ls
  | [], m, m', at', a2, h, hg => by
    simp only [runL, Prod.mk.injEq] at h
    obtain ⟨rfl, _⟩ := h
    exact ⟨hg, by omega⟩
  | l :: ls, m, m', at', a2, h, hg => by
    simp only [runL] at h
    rw [wideW_cons]
    split at h
    · obtain ⟨h1, h2⟩ := run_good ls m m' _ a2 h hg
      exact ⟨h1, by omega⟩
    · rename_i hne
      split at h
      · rename_i h0
        obtain ⟨g1, g2⟩ := line_good hne h0 hg
        obtain ⟨h1, h2⟩ := run_good ls _ m' _ a2 h g1
        have hw := words_wide l []
        simp at hw
        unfold wordsL at g2
        exact ⟨h1, by unfold wordsL at h2; omega⟩
      · rename_i h0
        simp only [Prod.mk.injEq] at h
        exact absurd h.2.1 h0
theorem first_chk : ∀ {l : List InsV}, firstE l = 0 → ∀ y ∈ l, y.chk = 0
  | [], _, y, hy => by simp at hy
  | z :: l, h, y, hy => by
    simp only [firstE] at h
    split at h
    · rename_i hz
      rcases List.mem_cons.1 hy with rfl | hy
      · exact hz
      · exact first_chk h y hy
    · rename_i hz; exact absurd h hz
theorem ferr_chk {f : FunV} (h : f.err = 0) : ∀ y ∈ f.code, y.chk = 0 := by
  unfold FunV.err at h
  split at h
  · split at h
    · rename_i hj
      have hc : firstE f.code = 0 := by
        unfold joinE at hj
        split at hj
        · assumption
        · exact hj
      exact first_chk hc
    · rename_i hj; exact absurd h hj
  · omega
/-- What is read of a text is read again of its own text. -/
theorem get_again {s : List Int} {x : ModV} (hs : s.length ≤ 50000) (h : getM13 s = (x, 0, 0)) (hx : x.err = 0) : getM13 (textM x) = (x, 0, 0) := by
  unfold getM13 at h
  rw [if_neg (by omega)] at h
  generalize hr : runL ⟨[], []⟩ 0 (linesOf s) = r at h
  obtain ⟨m', e, a2⟩ := r
  simp only at h
  by_cases he : e ≠ 0
  · rw [if_pos he] at h
    simp only [Prod.mk.injEq] at h
    exact absurd h.2.1 he
  · rw [if_neg he] at h
    have he' : e = 0 := by omega
    subst he'
    by_cases hm : m'.err ≠ 0
    · rw [if_pos hm] at h
      simp only [Prod.mk.injEq] at h
      exact absurd h.2.1 hm
    · rw [if_neg hm] at h
      simp only [Prod.mk.injEq, and_true] at h
      subst h
      obtain ⟨g1, g2⟩ := run_good _ _ _ _ _ hr ⟨by simp, by simp⟩
      rw [lines_wide] at g2
      have h0 : costM ⟨[], []⟩ = 0 := rfl
      refine get_text hx g1.data (fun f hf => ⟨(g1.funs f hf).1, fun y hy => ?_⟩) (by have := text_cost m'; omega)
      exact ⟨ferr_chk (mem_err13 (err_funs13 hx) f hf) y hy, ((g1.funs f hf).2 y hy).bd, ((g1.funs f hf).2 y hy).args⟩
end Go.Proofs.YtohlifeenhaifaaGreatDoor
