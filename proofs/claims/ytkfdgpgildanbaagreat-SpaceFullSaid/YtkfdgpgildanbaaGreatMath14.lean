/- Outcomes, and their texts: two that may be have one text just if they are the same. Plain mathematics. -/
import Derived.Test.YtkfdgpgildanbaaGreatS01
import Derived.Lib.ItoaNum
import Derived.Laws.BytesArg
namespace Go.Proofs.YtkfdgpgildanbaaGreat
set_option linter.unusedVariables false
set_option linter.unusedSimpArgs false

/-- A number from 0 on as digits. -/
def dig14 (n : Nat) : List Int := if h : n < 10 then [48 + (n : Int)] else dig14 (n / 10) ++ [48 + ((n % 10 : Nat) : Int)]
termination_by n
decreasing_by omega
theorem dig14_small {n : Nat} (h : n < 10) : dig14 n = [48 + (n : Int)] := by rw [dig14, dif_pos h]
theorem dig14_big {n : Nat} (h : ¬ n < 10) : dig14 n = dig14 (n / 10) ++ [48 + ((n % 10 : Nat) : Int)] := by rw [dig14, dif_neg h]
/-- A number as a word. -/
def num14 (x : Int) : List Int := if x < 0 then 45 :: dig14 x.natAbs else dig14 x.toNat
/-- What digits are worth. -/
def worth14 : Nat → List Int → Nat
  | n, [] => n
  | n, c :: l => worth14 (10 * n + (c - 48).toNat) l
theorem worth14_app : ∀ (l : List Int) (n : Nat) (c : Int), worth14 n (l ++ [c]) = 10 * worth14 n l + (c - 48).toNat
  | [], n, c => rfl
  | d :: l, n, c => by simp only [List.cons_append, worth14]; exact worth14_app l _ c
theorem dig14_facts (n : Nat) : worth14 0 (dig14 n) = n ∧ (∀ c ∈ dig14 n, 48 ≤ c ∧ c ≤ 57) ∧ dig14 n ≠ [] := by
  induction n using Nat.strongRecOn with
  | _ n ih =>
    by_cases h : n < 10
    · rw [dig14_small h]
      refine ⟨by simp [worth14]; omega, fun c hc => ?_, by simp⟩
      simp at hc
      subst hc
      omega
    · rw [dig14_big h]
      obtain ⟨h1, h2, h3⟩ := ih (n / 10) (by omega)
      refine ⟨by rw [worth14_app, h1]; omega, fun c hc => ?_, by simp⟩
      rcases List.mem_append.1 hc with hc | hc
      · exact h2 c hc
      · simp at hc
        subst hc
        omega
theorem dig14_len : ∀ (k n : Nat), n < 10 ^ (k + 1) → (dig14 n).length ≤ k + 1
  | 0, n, h => by rw [dig14_small (by simpa using h)]; simp
  | k + 1, n, h => by
    by_cases hn : n < 10
    · rw [dig14_small hn]; simp
    · rw [dig14_big hn]
      have hp : 10 ^ (k + 1 + 1) = 10 * 10 ^ (k + 1) := by rw [Nat.pow_succ, Nat.mul_comm]
      have h2 : n / 10 < 10 ^ (k + 1) := by
        rw [hp] at h
        omega
      have := dig14_len k (n / 10) h2
      simp
      omega
theorem dig14_inj {n m : Nat} (h : dig14 n = dig14 m) : n = m := by rw [← (dig14_facts n).1, ← (dig14_facts m).1, h]
theorem num14_mem (x : Int) : ∀ c ∈ num14 x, c = 45 ∨ 48 ≤ c ∧ c ≤ 57 := by
  intro c hc
  unfold num14 at hc
  split at hc
  · rcases List.mem_cons.1 hc with rfl | hc
    · exact .inl rfl
    · exact .inr ((dig14_facts _).2.1 c hc)
  · exact .inr ((dig14_facts _).2.1 c hc)
theorem num14_inj {x y : Int} (h : num14 x = num14 y) : x = y := by
  unfold num14 at h
  split at h <;> split at h
  · have := dig14_inj (List.cons.inj h).2; omega
  · have := (dig14_facts y.toNat).2.1 45 (by rw [← h]; simp); omega
  · have := (dig14_facts x.toNat).2.1 45 (by rw [h]; simp); omega
  · have := dig14_inj h; omega
theorem num14_len {x : Int} (h : -1000 ≤ x ∧ x ≤ 999) : (num14 x).length ≤ 5 := by
  unfold num14
  split
  · have := dig14_len 3 x.natAbs (by omega); simp; omega
  · have := dig14_len 3 x.toNat (by omega); omega
theorem dec_dig14 (n : Nat) : (Go.Lib.decDigits n).map (fun c : UInt8 => (c.toNat : Int)) = dig14 n := by
  induction n using Nat.strongRecOn with
  | _ n ih =>
    by_cases h : n < 10
    · rw [dig14_small h, Go.Lib.decDigits, dif_pos h]
      have : (UInt8.ofNat (48 + n)).toNat = 48 + n := by simp; omega
      simp only [List.map_cons, List.map_nil, this]
      simp
    · rw [dig14_big h, Go.Lib.decDigits, dif_neg h, List.map_append, ih (n / 10) (by omega)]
      have : (UInt8.ofNat (48 + n % 10)).toNat = 48 + n % 10 := by simp; omega
      simp only [List.map_cons, List.map_nil, this]
      simp
theorem itoa14 (x : Int) : lettersOf ⟨(Go.Lib.itoa x).toArray⟩ = num14 x := by
  unfold lettersOf Go.Lib.itoa num14
  split
  · show (45 :: Go.Lib.decDigits x.natAbs).map _ = _
    rw [List.map_cons, dec_dig14]
    rfl
  · show (Go.Lib.decDigits x.toNat).map _ = _
    exact dec_dig14 _
theorem str_letters14 (s : ByteArray) : strOfNums (lettersOf s) = s := by
  obtain ⟨⟨l⟩⟩ := s
  unfold strOfNums lettersOf
  simp only [List.map_map]
  congr 2
  conv => rhs; rw [← List.map_id l]
  apply List.map_congr_left
  intro c _
  simp
theorem letters_str14 {l : List Int} (h : ∀ x ∈ l, 0 ≤ x ∧ x < 256) : lettersOf (strOfNums l) = l := by
  unfold strOfNums lettersOf
  simp only [List.map_map]
  conv => rhs; rw [← List.map_id l]
  apply List.map_congr_left
  intro x hx
  have := h x hx
  simp only [Function.comp_apply, id_eq, UInt8.toNat_ofNat']
  omega
theorem str_app14 (a b : List Int) : strOfNums (a ++ b) = strOfNums a ++ strOfNums b := by
  apply ByteArray.ext
  simp [strOfNums, ByteArray.data_append]
theorem str_size14 (l : List Int) : (strOfNums l).size = l.length := by simp [strOfNums, ByteArray.size]
theorem itoa_str14 (x : Int) : (⟨(Go.Lib.itoa x).toArray⟩ : ByteArray) = strOfNums (num14 x) := by rw [← itoa14, str_letters14]
/-- Deeds: a kind and a number. -/
def gotB (d : Int × Int) : Bool := d.1 == 1 && decide (0 ≤ d.2 ∧ d.2 ≤ 255)
def gotN (d : Int × Int) : Bool := d.1 == 1 && d.2 == -1
def putB (d : Int × Int) : Bool := d.1 == 2 && decide (0 ≤ d.2 ∧ d.2 ≤ 255)
def okD (d : Int × Int) : Bool := gotB d || gotN d || putB d
/-- Endings. -/
def okE (k c : Int) : Bool := (k == 1 && decide (0 ≤ c ∧ c ≤ 255)) || (k == 2 && (c == 1 || c == 2)) || ((k == 3 || k == 4) && c == 0)
def goodL : Bool → List (Int × Int) → Bool
  | _, [] => true
  | o, d :: l => okD d && !(o && gotB d) && goodL (o || gotN d) l
/-- May an outcome be? -/
def okO (L : List (Int × Int)) (k c : Int) : Bool := decide (L.length ≤ 100000) && okE k c && goodL false L
def textD (d : Int × Int) : List Int := (if d.1 = 2 then 45 else 43) :: (num14 d.2 ++ [32])
def textE (k c : Int) : List Int :=
  if k = 1 then [101, 120, 105, 116, 32] ++ num14 c
  else if k = 2 then [116, 114, 97, 112, 32] ++ num14 c
  else if k = 3 then [115, 116, 97, 99, 107] else [102, 117, 101, 108]
def textO (L : List (Int × Int)) (k c : Int) : List Int := L.flatMap textD ++ textE k c
theorem okD_cases {d : Int × Int} (h : okD d = true) : (d.1 = 1 ∧ -1 ≤ d.2 ∧ d.2 ≤ 255) ∨ (d.1 = 2 ∧ 0 ≤ d.2 ∧ d.2 ≤ 255) := by
  unfold okD gotB gotN putB at h
  simp only [Bool.or_eq_true, Bool.and_eq_true, beq_iff_eq, decide_eq_true_eq] at h
  omega
theorem okE_cases {k c : Int} (h : okE k c = true) : (k = 1 ∧ 0 ≤ c ∧ c ≤ 255) ∨ (k = 2 ∧ (c = 1 ∨ c = 2)) ∨ ((k = 3 ∨ k = 4) ∧ c = 0) := by
  unfold okE at h
  simp only [Bool.or_eq_true, Bool.and_eq_true, beq_iff_eq, decide_eq_true_eq] at h
  omega
theorem good_mem : ∀ (L : List (Int × Int)) (o : Bool), goodL o L = true → ∀ d ∈ L, okD d = true
  | [], _, _, d, hd => by cases hd
  | a :: L, o, h, d, hd => by
    simp only [goodL, Bool.and_eq_true] at h
    rcases List.mem_cons.1 hd with rfl | hd
    · exact h.1.1
    · exact good_mem L _ h.2 d hd
theorem split32 : ∀ {a b r s : List Int}, (∀ x ∈ a, x ≠ 32) → (∀ x ∈ b, x ≠ 32) → a ++ 32 :: r = b ++ 32 :: s → a = b ∧ r = s
  | [], [], r, s, _, _, h => ⟨rfl, (List.cons.inj h).2⟩
  | [], y :: b, r, s, _, hb, h => absurd (List.cons.inj h).1.symm (hb y (List.mem_cons_self ..))
  | x :: a, [], r, s, ha, _, h => absurd (List.cons.inj h).1 (ha x (List.mem_cons_self ..))
  | x :: a, y :: b, r, s, ha, hb, h => by
    obtain ⟨h1, h2⟩ := List.cons.inj h
    obtain ⟨h3, h4⟩ := split32 (fun z hz => ha z (List.mem_cons_of_mem _ hz)) (fun z hz => hb z (List.mem_cons_of_mem _ hz)) h2
    exact ⟨by rw [h1, h3], h4⟩
theorem num_no32 (x : Int) : ∀ c ∈ num14 x, c ≠ 32 := fun c hc => by have := num14_mem x c hc; omega
theorem textE_head {k c : Int} : ∀ (y : Int) (l : List Int), textE k c = y :: l → y ≠ 43 ∧ y ≠ 45 := by
  intro y l h
  unfold textE at h
  split at h
  · obtain ⟨rfl, _⟩ := List.cons.inj h; decide
  · split at h
    · obtain ⟨rfl, _⟩ := List.cons.inj h; decide
    · split at h
      · obtain ⟨rfl, _⟩ := List.cons.inj h; decide
      · obtain ⟨rfl, _⟩ := List.cons.inj h; decide
theorem textE_inj {k c k' c' : Int} (h : okE k c = true) (h' : okE k' c' = true) (e : textE k c = textE k' c') : k = k' ∧ c = c' := by
  rcases okE_cases h with ⟨rfl, _⟩ | ⟨rfl, _⟩ | ⟨rfl | rfl, rfl⟩ <;> rcases okE_cases h' with ⟨rfl, _⟩ | ⟨rfl, _⟩ | ⟨rfl | rfl, rfl⟩ <;> simp [textE] at e ⊢ <;> exact num14_inj e
theorem text_inj : ∀ (L L' : List (Int × Int)) (k c k' c' : Int), (∀ d ∈ L, okD d = true) → (∀ d ∈ L', okD d = true) → okE k c = true → okE k' c' = true → textO L k c = textO L' k' c' → L = L' ∧ k = k' ∧ c = c'
  | [], [], k, c, k', c', _, _, h, h', e => ⟨rfl, textE_inj h h' e⟩
  | [], d :: L', k, c, k', c', _, _, h, h', e => by
    have e' : textE k c = (if d.1 = 2 then 45 else 43) :: ((num14 d.2 ++ [32]) ++ (L'.flatMap textD ++ textE k' c')) := by
      have : textE k c = textO (d :: L') k' c' := e
      rw [this]; simp [textO, textD]
    have := textE_head _ _ e'
    split at this <;> omega
  | d :: L, [], k, c, k', c', _, _, h, h', e => by
    have e' : textE k' c' = (if d.1 = 2 then 45 else 43) :: ((num14 d.2 ++ [32]) ++ (L.flatMap textD ++ textE k c)) := by
      have : textE k' c' = textO (d :: L) k c := e.symm
      rw [this]; simp [textO, textD]
    have := textE_head _ _ e'
    split at this <;> omega
  | d :: L, d' :: L', k, c, k', c', hL, hL', h, h', e => by
    have e' : (if d.1 = 2 then (45 : Int) else 43) :: (num14 d.2 ++ 32 :: (textO L k c)) = (if d'.1 = 2 then (45 : Int) else 43) :: (num14 d'.2 ++ 32 :: (textO L' k' c')) := by
      have h1 : ∀ (d : Int × Int) (L : List (Int × Int)) (k c : Int), textO (d :: L) k c = (if d.1 = 2 then (45 : Int) else 43) :: (num14 d.2 ++ 32 :: (textO L k c)) := fun d L k c => by simp [textO, textD]
      rw [← h1, ← h1]; exact e
    obtain ⟨e1, e2⟩ := List.cons.inj e'
    obtain ⟨e3, e4⟩ := split32 (num_no32 _) (num_no32 _) e2
    have e5 := num14_inj e3
    obtain ⟨r1, r2, r3⟩ := text_inj L L' k c k' c' (fun x hx => hL x (List.mem_cons_of_mem _ hx)) (fun x hx => hL' x (List.mem_cons_of_mem _ hx)) h h' e4
    have d1 := okD_cases (hL d (List.mem_cons_self ..))
    have d2 := okD_cases (hL' d' (List.mem_cons_self ..))
    have e6 : d.1 = d'.1 := by split at e1 <;> split at e1 <;> omega
    exact ⟨by rw [r1, show d = d' from Prod.ext e6 e5], r2, r3⟩
theorem textD_bd {d : Int × Int} : ∀ x ∈ textD d, 0 ≤ x ∧ x < 256 := by
  intro x hx
  unfold textD at hx
  rcases List.mem_cons.1 hx with rfl | hx
  · split <;> omega
  · rcases List.mem_append.1 hx with hx | hx
    · have := num14_mem _ x hx; omega
    · simp at hx; omega
theorem textE_bd {k c : Int} : ∀ x ∈ textE k c, 0 ≤ x ∧ x < 256 := by
  intro x hx
  unfold textE at hx
  split at hx
  · rcases List.mem_append.1 hx with hx | hx
    · simp at hx; omega
    · have := num14_mem _ x hx; omega
  · split at hx
    · rcases List.mem_append.1 hx with hx | hx
      · simp at hx; omega
      · have := num14_mem _ x hx; omega
    · split at hx
      · simp at hx; omega
      · simp at hx; omega
theorem textO_bd {L : List (Int × Int)} {k c : Int} : ∀ x ∈ textO L k c, 0 ≤ x ∧ x < 256 := by
  intro x hx
  rcases List.mem_append.1 hx with hx | hx
  · obtain ⟨d, _, hd⟩ := List.mem_flatMap.1 hx
    exact textD_bd x hd
  · exact textE_bd x hx
theorem str_inj14 {a b : List Int} (ha : ∀ x ∈ a, 0 ≤ x ∧ x < 256) (hb : ∀ x ∈ b, 0 ≤ x ∧ x < 256) (h : strOfNums a = strOfNums b) : a = b := by
  rw [← letters_str14 ha, ← letters_str14 hb, h]
/-- Two outcomes that may be have one text just if they are the same. -/
theorem texts14 {L L' : List (Int × Int)} {k c k' c' : Int} (h : okO L k c = true) (h' : okO L' k' c' = true) : strOfNums (textO L k c) = strOfNums (textO L' k' c') ↔ (k = k' ∧ c = c' ∧ L = L') := by
  unfold okO at h h'
  simp only [Bool.and_eq_true] at h h'
  constructor
  · intro e
    obtain ⟨h1, h2, h3⟩ := text_inj L L' k c k' c' (good_mem _ _ h.2) (good_mem _ _ h'.2) h.1.2 h'.1.2 (str_inj14 textO_bd textO_bd e)
    exact ⟨h2, h3, h1⟩
  · rintro ⟨rfl, rfl, rfl⟩; rfl
/-- What a tape has told may stand in an outcome. -/
theorem good_app : ∀ (L : List (Int × Int)) (o : Bool) (d : Int × Int), goodL o L = true → okD d = true → (gotB d = true → o = false ∧ ∀ x ∈ L, gotN x = false) → goodL o (L ++ [d]) = true
  | [], o, d, _, hd, hg => by
    simp only [List.nil_append, goodL, hd, Bool.true_and, Bool.and_true]
    cases hgb : gotB d
    · simp
    · simp [(hg hgb).1]
  | a :: L, o, d, h, hd, hg => by
    simp only [goodL, Bool.and_eq_true] at h
    simp only [List.cons_append, goodL, h.1.1, h.1.2, Bool.true_and]
    refine good_app L _ d h.2 hd (fun hb => ⟨?_, fun x hx => (hg hb).2 x (List.mem_cons_of_mem _ hx)⟩)
    rw [(hg hb).1, (hg hb).2 a (List.mem_cons_self ..)]; rfl
end Go.Proofs.YtkfdgpgildanbaaGreat
