/- Lemmas of Math13J, Math13K, Math13L, Math13M, Math13N, Math13O, each with its own remark. -/
import Derived.Test.YtohlifeenhaifaaGreatDoorS26
import Derived.Laws.BytesArg
import Derived.Lib.FieldsP
import Derived.Lib.SpaceUEq
import Derived.Laws.RangeAny
import Derived.Laws.RangeString
import Derived.Lib.ItoaNum
import Derived.Lib.AtoiAllCases
/- (Math13J) Blanks, empty lines and remarks change nothing of what is read of a text. Plain mathematics. -/
namespace Go.Proofs.YtohlifeenhaifaaGreatDoor
set_option linter.unusedVariables false
set_option linter.unusedSimpArgs false

/-- A text's lines with contents, as words. -/
def sigL (ls : List (List Int)) : List (List (List Int)) := (ls.map wordsL).filter (fun w => !w.isEmpty)
theorem sig_cons (l : List Int) (ls : List (List Int)) : sigL (l :: ls) = (if wordsL l = [] then [] else [wordsL l]) ++ sigL ls := by
  unfold sigL
  rw [List.map_cons, List.filter_cons]
  cases h : wordsL l with
  | nil => simp
  | cons w ws => simp
/-- What is read hangs on the lines with contents alone. -/
def runS : ModV → List (List (List Int)) → ModV × Int
  | m, [] => (m, 0)
  | m, w :: ws => if (lineP m w).2 = 0 then runS (lineP m w).1 ws else (m, (lineP m w).2)
theorem run_sig : ∀ (ls : List (List Int)) (m : ModV) (at' : Nat), ((runL m at' ls).1, (runL m at' ls).2.1) = runS m (sigL ls)
  | [], m, at' => rfl
  | l :: ls, m, at' => by
    rw [sig_cons]
    simp only [runL]
    by_cases h : wordsL l = []
    · rw [if_pos h, if_pos h, List.nil_append]
      exact run_sig ls m _
    · rw [if_neg h, if_neg h, List.singleton_append]
      simp only [runS]
      split
      · exact run_sig ls _ _
      · rfl
/-- The module and the error that are read of a text. -/
def getS (s : List Int) : ModV × Int := ((getM13 s).1, (getM13 s).2.1)
theorem get_sig {s s' : List Int} (h : sigL (linesOf s) = sigL (linesOf s')) (hs : s.length ≤ 400000) (hs' : s'.length ≤ 400000) : getS s = getS s' := by
  have h1 := run_sig (linesOf s) ⟨[], []⟩ 0
  have h2 := run_sig (linesOf s') ⟨[], []⟩ 0
  rw [h, ← h2] at h1
  simp only [Prod.mk.injEq] at h1
  unfold getS getM13
  generalize runL ⟨[], []⟩ 0 (linesOf s) = r1 at *
  generalize runL ⟨[], []⟩ 0 (linesOf s') = r2 at *
  obtain ⟨m1, e1, a1⟩ := r1
  obtain ⟨m2, e2, a2⟩ := r2
  obtain ⟨rfl, rfl⟩ := h1
  rw [if_neg (show ¬ 400000 < s.length by omega), if_neg (show ¬ 400000 < s'.length by omega)]
  by_cases he : e1 ≠ 0
  · rw [if_pos he, if_pos he]
  · rw [if_neg he, if_neg he]
/-- Each blank made wider, or not. -/
def thick (b : Bool) (u : List Int) : List Int := u.flatMap (fun c => if c = 32 ∧ b = true then [9, 32, 32] else [c])
theorem thick_words (b : Bool) : ∀ (u w : List Int), wordsG w (thick b u) = wordsG w u
  | [], w => rfl
  | c :: u, w => by
    have e : thick b (c :: u) = (if c = 32 ∧ b = true then [9, 32, 32] else [c]) ++ thick b u := by simp [thick]
    rw [e]
    by_cases h : c = 32 ∧ b = true
    · obtain ⟨rfl, rfl⟩ := h
      rw [if_pos ⟨rfl, rfl⟩]
      have ih := thick_words true u []
      show wordsG w (9 :: 32 :: 32 :: thick true u) = wordsG w (32 :: u)
      have hb1 : isBlank 9 = true := by decide
      have hb2 : isBlank 32 = true := by decide
      simp only [wordsG, hb1, hb2, if_true]
      rw [ih]
    · rw [if_neg h, List.singleton_append]
      simp only [wordsG]
      rw [thick_words b u [], thick_words b u (w ++ [c])]
theorem thick_plain (b : Bool) {u : List Int} (h : ∀ c ∈ u, c ≠ 10) : ∀ c ∈ thick b u, c ≠ 10 := by
  intro c hc
  unfold thick at hc
  obtain ⟨d, hd, hc⟩ := List.mem_flatMap.1 hc
  split at hc
  · simp at hc
    rcases hc with rfl | rfl <;> decide
  · simp at hc
    subst hc
    exact h c hd
/-- A remark behind a line. -/
theorem remark_words : ∀ (u w : List Int), wordsG w (u ++ [32, 35, 120]) = wordsG w u
  | [], w => by
    have hb1 : isBlank 32 = true := by decide
    have hb2 : isBlank 35 = false := by decide
    have hb3 : isBlank 120 = false := by decide
    simp only [List.nil_append, wordsG, hb1, hb2, hb3, if_true, Bool.false_eq_true, if_false, flushW]
    split
    · simp
    · split <;> simp
  | c :: u, w => by
    simp only [List.cons_append, wordsG]
    rw [remark_words u [], remark_words u (w ++ [c])]
/-- What one line is made of. -/
def lineW (n : Int) (u : List Int) (last : Bool) : List Int := (if n = 1 ∨ n = 4 then [32, 9] else []) ++ (thick (decide (n = 3)) u ++ (if n = 4 ∧ last = false then [32, 35, 120] else []))
def aheadW (n : Int) : List Int := if n = 2 then [35, 32, 97, 100, 100, 10, 10] else []
theorem lineW_words (n : Int) (u : List Int) (last : Bool) : wordsL (lineW n u last) = wordsL u := by
  unfold lineW wordsL
  have h1 : ∀ (r : List Int), wordsG [] ((if n = 1 ∨ n = 4 then [32, 9] else []) ++ r) = wordsG [] r := fun r => words_blanks _ r (by
    intro c hc
    split at hc
    · simp at hc; rcases hc with rfl | rfl <;> decide
    · simp at hc)
  rw [h1]
  split
  · rw [remark_words, thick_words]
  · rw [List.append_nil, thick_words]
theorem lineW_plain (n : Int) {u : List Int} (last : Bool) (h : ∀ c ∈ u, c ≠ 10) : ∀ c ∈ lineW n u last, c ≠ 10 := by
  intro c hc
  unfold lineW at hc
  rcases List.mem_append.1 hc with hc | hc
  · split at hc
    · simp at hc; rcases hc with rfl | rfl <;> decide
    · simp at hc
  · rcases List.mem_append.1 hc with hc | hc
    · exact thick_plain _ h c hc
    · split at hc
      · simp at hc; rcases hc with rfl | rfl | rfl <;> decide
      · simp at hc
theorem ahead_sig (n : Int) (s : List Int) : sigL (linesOf (aheadW n ++ s)) = sigL (linesOf s) := by
  unfold aheadW
  split
  · have e : [35, 32, 97, 100, 100, 10, 10] ++ s = [35, 32, 97, 100, 100] ++ 10 :: ([] ++ 10 :: s) := rfl
    rw [e, lines_line _ _ (by decide), lines_line _ _ (by simp), sig_cons, sig_cons]
    have h1 : wordsL [35, 32, 97, 100, 100] = [] := by decide
    have h2 : wordsL [] = [] := rfl
    rw [h1, h2]
    simp
  · rfl
theorem lines_last {u : List Int} (h : ∀ c ∈ u, c ≠ 10) : linesOf u = [u] := by
  induction u with
  | nil => rfl
  | cons c u ih =>
    simp only [linesOf]
    rw [if_neg (h c (List.mem_cons_self ..)), ih (fun d hd => h d (List.mem_cons_of_mem _ hd))]
/-- A text, line by line made wider: ns tells how. -/
def wideT : (Nat → Int) → Nat → List (List Int) → List Int
  | ns, k, [] => []
  | ns, k, [u] => if u = [] then [] else (if ns k = 2 then aheadW 2 else []) ++ lineW (ns k) u true
  | ns, k, u :: v :: ls => aheadW (ns k) ++ (lineW (ns k) u false ++ 10 :: wideT ns (k + 1) (v :: ls))
theorem wide_sig : ∀ (ls : List (List Int)) (ns : Nat → Int) (k : Nat), ls ≠ [] → (∀ l ∈ ls, ∀ c ∈ l, c ≠ 10) → sigL (linesOf (wideT ns k ls)) = sigL ls
  | [], ns, k, h, _ => absurd rfl h
  | [u], ns, k, _, h => by
    simp only [wideT]
    have hu := h u (List.mem_cons_self ..)
    split
    · rename_i e; subst e; rfl
    · have e : (if ns k = 2 then aheadW 2 else []) = aheadW (ns k) := by
        unfold aheadW
        split <;> rfl
      rw [e, ahead_sig, lines_last (lineW_plain _ _ hu), sig_cons, sig_cons, lineW_words]
  | u :: v :: ls, ns, k, _, h => by
    simp only [wideT]
    have hu := h u (List.mem_cons_self ..)
    have ih := wide_sig (v :: ls) ns (k + 1) (by simp) (fun l hl => h l (List.mem_cons_of_mem _ hl))
    rw [ahead_sig, lines_line _ _ (lineW_plain _ _ hu), sig_cons, ih, lineW_words, sig_cons u (v :: ls)]
end Go.Proofs.YtohlifeenhaifaaGreatDoor

/- (Math13K) How long a module's text is. Plain mathematics. -/
namespace Go.Proofs.YtohlifeenhaifaaGreatDoor
set_option linter.unusedVariables false
set_option linter.unusedSimpArgs false

theorem items_len13 (n : Int) (args : List Int) : ∀ (L rs : List Int), (itemsL n args L rs).length ≤ L.length * (args.length + 1) := by
  intro L
  induction L with
  | nil => intro rs; simp [itemsL]
  | cons q qs ih =>
    intro rs
    simp only [itemsL, List.length_append, List.length_map, List.length_cons]
    have h1 := ih (restOf q rs)
    have h2 : (heldOf n args q rs).length ≤ args.length + 1 := by
      unfold heldOf
      split
      · simp
      · split
        · omega
        · simp
    have h3 : (qs.length + 1) * (args.length + 1) = qs.length * (args.length + 1) + (args.length + 1) := by rw [Nat.add_mul]; simp
    omega
theorem shape_len13 (op : Int) : (lettersOf (shapeI op)).length ≤ 3 ∧ (lettersOf (nameI op)).length ≤ 8 := by
  have hall : ∀ k, k < 33 → (lettersOf (shapeB k)).length ≤ 3 ∧ (lettersOf (nameB k)).length ≤ 8 := by decide +kernel
  unfold shapeI nameI
  split
  · exact hall _ (by omega)
  · simp [lettersOf]
theorem sum_le {α : Type} (f : α → Nat) (k : Nat) : ∀ (l : List α), (∀ x ∈ l, f x ≤ k) → (l.map f).sum ≤ l.length * k
  | [], _ => by simp
  | x :: l, h => by
    have h1 := h x (List.mem_cons_self ..)
    have h2 := sum_le f k l (fun y hy => h y (List.mem_cons_of_mem _ hy))
    rw [List.map_cons, List.sum_cons, List.length_cons, Nat.add_mul]
    omega
theorem cost_ins {y : InsV} (h : Ins13 y) : costI y ≤ 600 := by
  have hv : (valsV y).length ≤ 27 := by
    unfold valsV
    rw [List.length_map]
    have h1 := items_len13 y.n y.args y.letters [y.a, y.b, y.c]
    have h2 := (shape_len13 y.op).1
    have h3 := (chk_ok h.chk).args
    have h4 : y.letters.length * (y.args.length + 1) ≤ 3 * 9 := Nat.mul_le_mul h2 (by omega)
    omega
  have hj := join_wide (insW y) (by simp [insW])
  have hw : wideW (insW y) ≤ 9 + 27 * 21 := by
    unfold insW
    rw [wideW_cons]
    have h1 : wideW ((valsV y).map numL) ≤ (valsV y).length * 21 := by
      unfold wideW
      rw [List.map_map]
      exact sum_le _ 21 _ (fun x hx => by
        have := num_len (vals_in h.chk h.bd h.args x hx)
        simp only [Function.comp_apply]
        omega)
    have h2 := (shape_len13 y.op).2
    omega
  unfold costI insLn
  simp only [List.length_cons]
  omega
theorem cost_fun {f : FunV} (h : Fun13 f) {k : Nat} (hk : f.code.length ≤ k) : costF f ≤ 100 + k * 600 := by
  unfold costF
  have h1 := join_wide [funcW, numL f.params, numL f.regs, numL f.area] (by simp)
  have h2 := num_len h.bd.params
  have h3 := num_len h.bd.regs
  have h4 := num_len h.bd.area
  have h5 := sum_le costI 600 f.code (fun y hy => cost_ins (h.code y hy))
  have h6 : funcW.length = 4 := rfl
  have h7 : f.code.length * 600 ≤ k * 600 := Nat.mul_le_mul_right _ hk
  simp only [wideW, List.map_cons, List.map_nil, List.sum_cons, List.sum_nil] at h1
  omega
/-- A module that is not long has no long text. -/
theorem text_few {m : ModV} (hd : ∀ x ∈ m.data, 0 ≤ x ∧ x < 256) (hf : ∀ f ∈ m.funcs, Fun13 f) (h1 : m.data.length ≤ 200) (h2 : m.funcs.length ≤ 8) (h3 : ∀ f ∈ m.funcs, f.code.length ≤ 60) : (textM m).length ≤ 400000 := by
  have ht := text_cost m
  have c1 := sum_le costD 27 m.data (fun x hx => by
    have := hd x hx
    have := num_len (x := x) (by unfold InI; omega)
    unfold costD
    omega)
  have c2 := sum_le costF (100 + 60 * 600) m.funcs (fun f hfm => cost_fun (hf f hfm) (h3 f hfm))
  have c3 : m.data.length * 27 ≤ 200 * 27 := Nat.mul_le_mul_right _ h1
  have c4 : m.funcs.length * (100 + 60 * 600) ≤ 8 * (100 + 60 * 600) := Nat.mul_le_mul_right _ h2
  unfold costM at ht
  omega
end Go.Proofs.YtohlifeenhaifaaGreatDoor

/- (Math13L) Texts of the model as lists of their bytes. Plain lemmas. -/
namespace Go.Proofs.YtohlifeenhaifaaGreatDoor
set_option linter.unusedVariables false
set_option linter.unusedSimpArgs false

theorem str_letters (s : ByteArray) : strOfNums (lettersOf s) = s := by
  obtain ⟨⟨l⟩⟩ := s
  unfold strOfNums lettersOf
  simp only [List.map_map]
  congr 2
  conv => rhs; rw [← List.map_id l]
  apply List.map_congr_left
  intro c _
  simp
theorem letters_str {l : List Int} (h : ∀ x ∈ l, 0 ≤ x ∧ x < 256) : lettersOf (strOfNums l) = l := by
  unfold strOfNums lettersOf
  simp only [List.map_map]
  conv => rhs; rw [← List.map_id l]
  apply List.map_congr_left
  intro x hx
  have := h x hx
  simp only [Function.comp_apply, id_eq, UInt8.toNat_ofNat']
  omega
theorem str_app (a b : List Int) : strOfNums (a ++ b) = strOfNums a ++ strOfNums b := by
  apply ByteArray.ext
  simp [strOfNums, ByteArray.data_append]
theorem str_size (l : List Int) : (strOfNums l).size = l.length := by simp [strOfNums, ByteArray.size]
theorem letters_bd (s : ByteArray) : ∀ x ∈ lettersOf s, 0 ≤ x ∧ x < 256 := by
  intro x hx
  unfold lettersOf at hx
  obtain ⟨c, _, rfl⟩ := List.mem_map.1 hx
  have := UInt8.toNat_lt c
  omega
end Go.Proofs.YtohlifeenhaifaaGreatDoor

/- (Math13M) The words that strings.FieldsFunc cuts out of a line are the line's words. Plain mathematics. -/
namespace Go.Proofs.YtohlifeenhaifaaGreatDoor
open Go.Lib
set_option linter.unusedVariables false
set_option linter.unusedSimpArgs false

def flushB (w : List Int) : List (List Int) := if w = [] then [] else [w]
/-- The words of a line, those behind a remark's mark too; the one that has been begun first. -/
def fieldsI : List Int → List Int → List (List Int)
  | w, [] => flushB w
  | w, c :: s => if isBlank c = true then (if w = [] then fieldsI [] s else w :: fieldsI [] s) else fieldsI (w ++ [c]) s
def plainW (w : List Int) : Bool := w.headD 0 != 35
theorem words_fields : ∀ (s w : List Int), wordsG w s = (fieldsI w s).takeWhile plainW
  | [], w => by
    unfold wordsG fieldsI flushW flushB
    split
    · rfl
    · by_cases h : w.headD 0 = 35
      · rw [if_pos h, List.takeWhile_cons_of_neg (by simp only [plainW, h]; decide)]
      · rw [if_neg h, List.takeWhile_cons_of_pos (by simpa [plainW] using h)]; rfl
  | c :: s, w => by
    simp only [wordsG, fieldsI]
    split
    · split
      · exact words_fields s []
      · by_cases h : w.headD 0 = 35
        · rw [if_pos h, List.takeWhile_cons_of_neg (by simp only [plainW, h]; decide)]
        · rw [if_neg h, List.takeWhile_cons_of_pos (by simpa [plainW] using h), words_fields s []]
    · exact words_fields s _
theorem fieldsI_plain : ∀ (u w s : List Int), (∀ c ∈ u, isBlank c = false) → fieldsI w (u ++ s) = fieldsI (w ++ u) s
  | [], w, s, _ => by simp
  | c :: u, w, s, h => by
    simp only [List.cons_append, fieldsI]
    rw [h c (List.mem_cons_self ..)]
    simp only [Bool.false_eq_true, if_false]
    rw [fieldsI_plain u (w ++ [c]) s (fun d hd => h d (List.mem_cons_of_mem _ hd))]
    simp
def blankP (r : Nat) : Bool := decide (r = 32 ∨ r = 9)
/-- What a rune at a place is: a byte alone, or no blank, all its bytes no blanks. -/
theorem rune_parts (s : ByteArray) (pos : Nat) (h : pos < s.size) :
    1 ≤ (Utf8.decode s pos).2 ∧ pos + (Utf8.decode s pos).2 ≤ s.size ∧
    (if blankP (Utf8.decode s pos).1 = true then (Utf8.decode s pos).2 = 1 ∧ isBlank (s[pos].toNat : Int) = true
     else ∀ j, j < (Utf8.decode s pos).2 → isBlank ((s.data.toList.getD (pos + j) 0).toNat : Int) = false) := by
  have hg : s.data.toList.getD pos 0 = s[pos] := by
    have : pos < s.data.toList.length := by simpa using h
    rw [List.getD_eq_getElem?_getD, List.getElem?_eq_getElem this]
    simp
    rfl
  by_cases ha : (s[pos]'h).toNat < 128
  · rw [decode_ascii s pos h ha]
    refine ⟨Nat.le_refl _, by show pos + 1 ≤ _; omega, ?_⟩
    by_cases hb : blankP (s[pos]'h).toNat = true
    · rw [if_pos hb]
      refine ⟨rfl, ?_⟩
      unfold blankP at hb
      have hb2 := of_decide_eq_true hb
      unfold isBlank
      exact decide_eq_true (by omega)
    · rw [if_neg hb]
      intro j hj
      have hj0 : j = 0 := by simpa using hj
      subst hj0
      rw [Nat.add_zero, hg]
      have hb2 : ¬ ((s[pos]'h).toNat = 32 ∨ (s[pos]'h).toNat = 9) := by simpa [blankP] using hb
      unfold isBlank
      exact decide_eq_false (by omega)
  · obtain ⟨h1, h2⟩ := decode_high s pos h (by omega)
    have hN := decode_N s pos
    have hc := decodeN_conts (s.data.toList.length - pos) (s.data.toList.getD pos 0).toNat (s.data.toList.getD (pos + 1) 0).toNat (s.data.toList.getD (pos + 2) 0).toNat (s.data.toList.getD (pos + 3) 0).toNat
    rw [← hN] at hc
    obtain ⟨c2, c3, c4, c5⟩ := hc
    have hl : s.data.toList.length = s.size := Array.length_toList
    refine ⟨h2, by omega, ?_⟩
    rw [if_neg (by unfold blankP; exact fun hc => by have := of_decide_eq_true hc; omega)]
    intro j hj
    have hi : ∀ x : UInt8, 128 ≤ x.toNat → isBlank (x.toNat : Int) = false := fun x hx => by unfold isBlank; exact decide_eq_false (by omega)
    rcases (show j = 0 ∨ j = 1 ∨ j = 2 ∨ j = 3 by omega) with rfl | rfl | rfl | rfl
    · rw [Nat.add_zero, hg]; exact hi _ (by omega)
    · exact hi _ (by have := (c2 (by omega)).1; omega)
    · exact hi _ (by have := (c3 (by omega)).1; omega)
    · exact hi _ (by have := (c4 (by omega)).1; omega)
def openI (L : List Int) (st : Option Nat) (pos : Nat) : List Int := match st with
  | some a => (L.drop a).take (pos - a)
  | none => []
def pieceI (L : List Int) (x : Nat × Nat) : List Int := (L.drop x.1).take (x.2 - x.1)
theorem piece_more13 (L : List Int) {a pos k : Nat} (h : a ≤ pos) : (L.drop a).take (pos - a) ++ (L.drop pos).take k = (L.drop a).take (pos + k - a) := by
  have e : L.drop pos = (L.drop a).drop (pos - a) := by rw [List.drop_drop]; congr 1; omega
  rw [e, show pos + k - a = (pos - a) + k by omega, List.take_add]
theorem spans_fields (s : ByteArray) : ∀ (f pos : Nat) (st : Option Nat) (acc : List (Nat × Nat)), s.size ≤ pos + f → pos ≤ s.size → (∀ a, st = some a → a < pos) →
    (closeSpans s (spansFromP blankP s f pos st acc)).map (pieceI (lettersOf s)) = acc.map (pieceI (lettersOf s)) ++ fieldsI (openI (lettersOf s) st pos) ((lettersOf s).drop pos) := by
  have hL : (lettersOf s).length = s.size := by unfold lettersOf; rw [List.length_map]; exact Array.length_toList
  have fin : ∀ (pos : Nat) (st : Option Nat) (acc : List (Nat × Nat)), ¬ pos < s.size → pos ≤ s.size → (∀ a, st = some a → a < pos) →
      (closeSpans s (acc, st)).map (pieceI (lettersOf s)) = acc.map (pieceI (lettersOf s)) ++ fieldsI (openI (lettersOf s) st pos) ((lettersOf s).drop pos) := by
    intro pos st acc hp hp2 hst
    have hpe : pos = s.size := by omega
    subst hpe
    rw [List.drop_of_length_le (by omega)]
    cases st with
    | none => simp [closeSpans, openI, fieldsI, flushB]
    | some a =>
      have ha := hst a rfl
      have hne : openI (lettersOf s) (some a) s.size ≠ [] := by
        intro h0
        have := congrArg List.length h0
        simp [openI, hL] at this
        omega
      simp only [closeSpans, fieldsI, flushB, if_neg hne, List.map_append]
      rfl
  intro f
  induction f with
  | zero =>
    intro pos st acc h1 h2 h3
    unfold spansFromP
    exact fin pos st acc (by omega) h2 h3
  | succ f ih =>
    intro pos st acc h1 h2 h3
    unfold spansFromP
    by_cases hp : pos < s.size
    · rw [if_pos hp]
      obtain ⟨r1, r2, r3⟩ := rune_parts s pos hp
      by_cases hb : blankP (Utf8.decode s pos).1 = true
      · rw [if_pos hb] at r3 ⊢
        obtain ⟨r4, r5⟩ := r3
        rw [letters_drop s hp]
        simp only [fieldsI, r5, if_true]
        cases st with
        | none =>
          simp only
          rw [ih _ none acc (by omega) r2 (by simp), r4]
          simp [openI]
        | some a =>
          have ha := h3 a rfl
          have hne : openI (lettersOf s) (some a) pos ≠ [] := by
            intro h0
            have := congrArg List.length h0
            simp [openI, hL] at this
            omega
          simp only
          rw [ih _ none _ (by omega) r2 (by simp), r4, if_neg hne, List.map_append, List.append_assoc]
          rfl
      · rw [if_neg hb] at r3 ⊢
        have hsplit : (lettersOf s).drop pos = ((lettersOf s).drop pos).take (Utf8.decode s pos).2 ++ (lettersOf s).drop (pos + (Utf8.decode s pos).2) := by
          rw [← List.drop_drop, List.take_append_drop]
        have hnb : ∀ c ∈ ((lettersOf s).drop pos).take (Utf8.decode s pos).2, isBlank c = false := by
          intro c hc
          obtain ⟨j, hj, rfl⟩ := List.getElem_of_mem hc
          have hj2 : j < (Utf8.decode s pos).2 := by rw [List.length_take] at hj; omega
          have hj3 : pos + j < s.data.toList.length := by rw [List.length_take, List.length_drop, hL] at hj; have : s.data.toList.length = s.size := Array.length_toList; omega
          have := r3 j hj2
          rw [List.getElem_take, List.getElem_drop]
          unfold lettersOf
          rw [List.getElem_map]
          rw [List.getD_eq_getElem?_getD, List.getElem?_eq_getElem hj3] at this
          exact this
        cases st with
        | none =>
          simp only
          rw [ih _ (some pos) acc (by omega) r2 (by intro a h; injection h; omega)]
          conv => rhs; rw [hsplit, fieldsI_plain _ _ _ hnb]
          simp [openI]
        | some a =>
          have ha := h3 a rfl
          simp only
          rw [ih _ (some a) acc (by omega) r2 (by intro a' h; injection h; omega)]
          conv => rhs; rw [hsplit, fieldsI_plain _ _ _ hnb]
          simp only [openI]
          rw [piece_more13 _ (by omega)]
    · rw [if_neg hp]
      exact fin pos st acc hp h2 h3
/-- All pieces of a line, as lists of bytes. -/
theorem pieces_fields (s : ByteArray) : (goFieldsP blankP s).map lettersOf = fieldsI [] (lettersOf s) := by
  have h := spans_fields s s.size 0 none [] (by omega) (Nat.zero_le _) (by simp)
  simp only [List.map_nil, List.nil_append, List.drop_zero] at h
  rw [show fieldsI [] (lettersOf s) = fieldsI (openI (lettersOf s) none 0) (lettersOf s) from rfl, ← h]
  unfold goFieldsP spansOfP
  rw [List.map_map]
  apply List.map_congr_left
  intro x _
  show lettersOf (s.extract x.1 x.2) = pieceI (lettersOf s) x
  unfold lettersOf pieceI
  rw [Lib.extract_data, ← List.map_drop, ← List.map_take]
end Go.Proofs.YtohlifeenhaifaaGreatDoor

/- (Math13N) What strconv.Atoi and strconv.Itoa make of words is the chapter's numbers. Plain mathematics. -/
namespace Go.Proofs.YtohlifeenhaifaaGreatDoor
open Go.Lib
set_option linter.unusedVariables false
set_option linter.unusedSimpArgs false

theorem dec_digL (n : Nat) : (decDigits n).map (fun c : UInt8 => (c.toNat : Int)) = digL n := by
  induction n using Nat.strongRecOn with
  | _ n ih =>
    by_cases h : n < 10
    · rw [digL_small h, decDigits, dif_pos h]
      have : (UInt8.ofNat (48 + n)).toNat = 48 + n := by simp; omega
      simp only [List.map_cons, List.map_nil, this]
      simp
    · rw [digL_big h, decDigits, dif_neg h, List.map_append, ih (n / 10) (by omega)]
      have : (UInt8.ofNat (48 + n % 10)).toNat = 48 + n % 10 := by simp; omega
      simp only [List.map_cons, List.map_nil, this]
      simp
theorem itoa_num (x : Int) : lettersOf ⟨(itoa x).toArray⟩ = numL x := by
  unfold lettersOf itoa numL
  split
  · show (45 :: decDigits x.natAbs).map _ = _
    rw [List.map_cons, dec_digL]
    rfl
  · show (decDigits x.toNat).map _ = _
    exact dec_digL _
theorem itoa_str (x : Int) : (⟨(itoa x).toArray⟩ : ByteArray) = strOfNums (numL x) := by rw [← itoa_num, str_letters]
theorem parse_app : ∀ (l r : List UInt8) (a : Nat), parseUint10 a (l ++ r) = match parseUint10 a l with | .ok u => parseUint10 u r | .syntax => .syntax | .range => .range
  | [], r, a => rfl
  | c :: l, r, a => by
    simp only [List.cons_append, parseUint10]
    split
    · split
      · rfl
      · split
        · rfl
        · exact parse_app l r _
    · rfl
theorem parse_dec (n : Nat) (h : n < 18446744073709551616) : parseUint10 0 (decDigits n) = .ok n ∧ decDigits n ≠ [] := by
  induction n using Nat.strongRecOn with
  | _ n ih =>
    have hd : ∀ k, k < 10 → (UInt8.ofNat (48 + k)).toNat = 48 + k := fun k hk => by simp; omega
    by_cases h10 : n < 10
    · rw [decDigits, dif_pos h10]
      refine ⟨?_, by simp⟩
      simp only [parseUint10, hd n h10]
      rw [if_pos (by omega), if_neg (by omega), if_neg (by omega)]
      congr 1
      omega
    · rw [decDigits, dif_neg h10]
      refine ⟨?_, by simp⟩
      rw [parse_app, (ih (n / 10) (by omega) (by omega)).1]
      simp only [parseUint10, hd (n % 10) (by omega)]
      rw [if_pos (by omega), if_neg (by omega), if_neg (by omega)]
      congr 1
      omega
theorem dec_first (n : Nat) : ∃ c r, decDigits n = c :: r ∧ 48 ≤ c.toNat ∧ c.toNat ≤ 57 := by
  obtain ⟨h1, h2, h3, h4⟩ := dig_facts n
  have he := dec_digL n
  cases hd : decDigits n with
  | nil => rw [hd] at he; exact absurd he.symm h3
  | cons c r =>
    refine ⟨c, r, rfl, ?_⟩
    rw [hd] at he
    have := h2 (c.toNat : Int) (by rw [← he]; simp)
    unfold isDig at this
    have := of_decide_eq_true this
    omega
theorem atoi_back {x : Int} (h : InI x) : atoiAll (itoa x) = .ok x := by
  unfold InI at h
  unfold itoa
  split
  · rw [atoiAll_minus]
    obtain ⟨h1, h2⟩ := parse_dec x.natAbs (by omega)
    unfold parseMag
    rw [if_neg h2, h1]
    simp only [signed]
    rw [if_neg (by omega)]
    congr 1
    omega
  · obtain ⟨c, r, hc, h3, h4⟩ := dec_first x.toNat
    obtain ⟨h1, h2⟩ := parse_dec x.toNat (by omega)
    rw [hc, atoiAll_plain c r (by omega) (by omega), ← hc]
    unfold parseMag
    rw [if_neg h2, h1]
    simp only [signless]
    rw [if_neg (by omega)]
    congr 1
    omega
theorem num13_yes {s : ByteArray} {v : Int} (h : numP (lettersOf s) = some v) : InI v ∧ atoiAll s.data.toList = .ok v ∧ (⟨(itoa v).toArray⟩ : ByteArray) = s := by
  obtain ⟨hc, hi⟩ := num_canon h
  have e : (⟨(itoa v).toArray⟩ : ByteArray) = s := by rw [itoa_str, hc, str_letters]
  refine ⟨hi, ?_, e⟩
  rw [← e]
  exact atoi_back hi
theorem num13_no {s : ByteArray} {v : Int} (h : numP (lettersOf s) = none) (ha : atoiAll s.data.toList = .ok v) : (⟨(itoa v).toArray⟩ : ByteArray) ≠ s := by
  intro e
  have hb := atoiAll_bounds ha
  have hi : InI v := by unfold InI; omega
  rw [← e, itoa_num, num_back hi] at h
  cases h
theorem num13_of {s : ByteArray} {v : Int} (h : numP (lettersOf s) = some v) : s = strOfNums (numL v) := by
  rw [← itoa_str]
  exact (num13_yes h).2.2.symm
end Go.Proofs.YtohlifeenhaifaaGreatDoor

/- (Math13O) How much a line adds to a module, and a run of lines one by one. Plain mathematics. -/
namespace Go.Proofs.YtohlifeenhaifaaGreatDoor
set_option linter.unusedVariables false

/-- How much a module holds. -/
def cntM (m : ModV) : Nat := m.data.length + m.funcs.length + (m.funcs.map (fun f => f.code.length)).sum
theorem addC_len : ∀ (fs : List FunV) (y : InsV), (addC fs y).length = fs.length
  | [], _ => rfl
  | [f], _ => rfl
  | f :: g :: fs, y => by
    have := addC_len (g :: fs) y
    simp only [addC, List.length_cons] at this ⊢
    omega
theorem addC_sum : ∀ (fs : List FunV) (y : InsV), ((addC fs y).map (fun f => f.code.length)).sum ≤ (fs.map (fun f => f.code.length)).sum + 1
  | [], _ => by simp [addC]
  | [f], _ => by simp [addC]
  | f :: g :: fs, y => by
    have := addC_sum (g :: fs) y
    simp only [addC, List.map_cons, List.sum_cons] at this ⊢
    omega
theorem nums_len13 : ∀ (l : List (List Int)) (n : List Int), numsP l = some n → n.length = l.length
  | [], n, h => by simp [numsP] at h; subst h; rfl
  | w :: l, n, h => by
    simp only [numsP] at h
    split at h
    · rename_i a ns h1 h2
      injection h with h
      subst h
      simp [nums_len13 l ns h2]
    · cases h
theorem line_cnt {m : ModV} {ws : List (List Int)} (hn : ws ≠ []) : cntM (lineP m ws).1 ≤ cntM m + ws.length := by
  have hp := List.length_pos_iff.2 hn
  unfold lineP
  split
  · split
    · simp only; omega
    · split
      · simp only; omega
      · rename_i n h
        have := nums_len13 _ _ h
        rw [List.length_tail] at this
        split
        · simp only [cntM, List.length_append]; omega
        · simp only; omega
  · split
    · split
      · simp only; omega
      · split
        · simp only; omega
        · simp [cntM]; omega
    · split
      · split
        · simp only; omega
        · split
          · simp only; omega
          · rename_i n h
            have h1 := addC_len m.funcs ((fieldsP (findW (ws.headD [])) n).getD .zero)
            have h2 := addC_sum m.funcs ((fieldsP (findW (ws.headD [])) n).getD .zero)
            simp only [cntM]
            omega
      · simp only; omega
theorem cnt_fun {m : ModV} : m.data.length ≤ cntM m ∧ m.funcs.length ≤ cntM m ∧ ∀ f ∈ m.funcs, f.code.length ≤ cntM m := by
  refine ⟨by unfold cntM; omega, by unfold cntM; omega, fun f hf => ?_⟩
  have : f.code.length ≤ (m.funcs.map (fun f => f.code.length)).sum := by
    generalize m.funcs = fs at hf
    induction fs with
    | nil => cases hf
    | cons g fs ih =>
      simp only [List.map_cons, List.sum_cons]
      rcases List.mem_cons.1 hf with rfl | hf
      · omega
      · have := ih hf; omega
  unfold cntM
  omega
def lineR (m : ModV) (ws : List (List Int)) : ModV × Int := if ws = [] then (m, 0) else lineP m ws
theorem lineR_cnt (m : ModV) (ws : List (List Int)) : cntM (lineR m ws).1 ≤ cntM m + ws.length := by
  unfold lineR
  split
  · simp only; omega
  · exact line_cnt (by assumption)
theorem runL_step {m : ModV} {at' : Nat} {l : List Int} {ls : List (List Int)} (h : (lineR m (wordsL l)).2 = 0) : runL m at' (l :: ls) = runL (lineR m (wordsL l)).1 (at' + l.length + 1) ls := by
  unfold lineR at *
  simp only [runL]
  by_cases hw : wordsL l = []
  · rw [if_pos hw, if_pos hw]
  · rw [if_neg hw] at h
    rw [if_neg hw, if_neg hw, if_pos h]
theorem runL_stop {m : ModV} {at' : Nat} {l : List Int} {ls : List (List Int)} (h : (lineR m (wordsL l)).2 ≠ 0) : (runL m at' (l :: ls)).2 = ((lineR m (wordsL l)).2, at') := by
  unfold lineR at *
  simp only [runL]
  by_cases hw : wordsL l = []
  · rw [if_pos hw] at h
    exact absurd rfl h
  · rw [if_neg hw] at h
    rw [if_neg hw, if_neg hw, if_neg h]
/-- What stands behind some lines. -/
def Run13 (pre : List (List Int)) (m : ModV) : Prop := ∀ rest, runL ⟨[], []⟩ 0 (pre ++ rest) = runL m (wideW pre) rest
theorem Run13.nil : Run13 [] ⟨[], []⟩ := fun rest => rfl
theorem wide_snoc (pre : List (List Int)) (l : List Int) : wideW (pre ++ [l]) = wideW pre + (l.length + 1) := by simp [wideW]
theorem Run13.step {pre : List (List Int)} {m : ModV} {l : List Int} (h : Run13 pre m) (h0 : (lineR m (wordsL l)).2 = 0) : Run13 (pre ++ [l]) (lineR m (wordsL l)).1 := fun rest => by
  rw [List.append_assoc, List.singleton_append, h, runL_step h0, wide_snoc]
  rfl
theorem Run13.stop {pre : List (List Int)} {m : ModV} {l : List Int} (h : Run13 pre m) (h0 : (lineR m (wordsL l)).2 ≠ 0) (rest : List (List Int)) : (runL ⟨[], []⟩ 0 (pre ++ [l] ++ rest)).2 = ((lineR m (wordsL l)).2, wideW pre) := by
  rw [List.append_assoc, List.singleton_append, h, runL_stop h0]
def got13 (s : List Int) : MGot := ⟨(getM13 s).2.1, (getM13 s).2.2, (getM13 s).1⟩
theorem got_long {s : List Int} (h : 400000 < s.length) : got13 s = ⟨3, 400000, ⟨[], []⟩⟩ := by
  unfold got13 getM13
  rw [if_pos h]
  rfl
theorem got_stop {s : List Int} (h : ¬ 400000 < s.length) {e : Int} {k : Nat} (h1 : (runL ⟨[], []⟩ 0 (linesOf s)).2 = (e, k)) (he : e ≠ 0) : got13 s = ⟨e, k, ⟨[], []⟩⟩ := by
  unfold got13 getM13
  rw [if_neg h, if_pos (by rw [h1]; exact he), h1]
theorem got_run {s : List Int} (h : ¬ 400000 < s.length) {m : ModV} (h1 : runL ⟨[], []⟩ 0 (linesOf s) = (m, 0, 0)) : got13 s = if m.err ≠ 0 then ⟨m.err, 0, ⟨[], []⟩⟩ else ⟨0, 0, m⟩ := by
  unfold got13 getM13
  rw [if_neg h, h1]
  simp only [ne_eq, not_true_eq_false, if_false]
  split <;> rfl
end Go.Proofs.YtohlifeenhaifaaGreatDoor
