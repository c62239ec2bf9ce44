/- Lemmas of Text13A, Text13B, Text13C, Text13D, each with its own remark. -/
import Derived.Test.YtohlifeenhaifaaGreatDoorS27
import Derived.Test.YtohlifeenhaifaaGreatDoorS10
import Derived.Test.YtohlifeenhaifaaGreatDoorShelf
import Derived.WalkSmall
import Derived.LoopTactic
/- (Text13A) The landed text: what the library's variables hold; rows of texts; which number a word is. Contracts; no condition but what each names. -/
namespace Go.Proofs.YtohlifeenhaifaaGreatDoor
open Go.RowKit Go.Shelf
set_option linter.unusedVariables false
set_option linter.unusedSimpArgs false

/-- What the library's variables hold: a table of powers of ten, two errors. -/
structure Env13 (w : World) : Prop where
  tab : ∀ nm, Tryz.prog.globalNamed nm = some (Tryz.laysM171_ren.g 17) → Lib.TabIs Tryz.prog w nm .u64 Lib.pow10Tab
  syn : ∃ tp p, w.var? Tryz.prog "strconv.ErrSyntax" = some #[.iface tp p]
  rng : ∃ tp p, w.var? Tryz.prog "strconv.ErrRange" = some #[.iface tp p]
theorem var_grow {P : Program} {n : String} {w w' : World} {cs : Array Value} (hv : w.var? P n = some cs) (hb : Below w.heap.size w w') : w'.var? P n = some cs := by
  cases hg : P.globalNamed n with
  | none => simp [World.var?, hg] at hv
  | some g =>
    have hlt : g < w.heap.size := by
      rcases Nat.lt_or_ge g w.heap.size with h | h
      · exact h
      · simp [World.var?, hg, Array.getElem?_eq_none h] at hv
    exact var?_below hb hg hlt hv
theorem Env13.grow {w w' : World} (h : Env13 w) (hb : Below w.heap.size w w') : Env13 w' := by
  obtain ⟨h1, ⟨a, b, h2⟩, ⟨c, d, h3⟩⟩ := h
  exact ⟨fun nm hg => var_grow (h1 nm hg) hb, ⟨a, b, var_grow h2 hb⟩, ⟨c, d, var_grow h3 hb⟩⟩
theorem below_grow13 (w : World) (n : Nat) (os : Array Obj) : Below w.heap.size w (Sort.grow (w.drewN n) os) :=
  ⟨rfl, rfl, rfl, by show w.heap.size ≤ (w.heap ++ os).size; rw [Array.size_append]; omega, fun j hj => by
    show (w.heap ++ os)[j]? = w.heap[j]?
    rw [Array.getElem?_append_left hj]⟩

theorem text_beq (a b : ByteArray) : (a.toList == b.toList) = (lettersOf a == lettersOf b) := by
  have h := beq_strOfNums (letters_bd a) (letters_bd b)
  rwa [str_letters, str_letters] at h
theorem text_ne {a b : ByteArray} (h : a ≠ b) : (a.toList == b.toList) = false := by
  rw [text_beq, beq_eq_false_iff_ne]
  exact fun e => h (by rw [← str_letters a, e, str_letters])

/-! ### Rows of texts -/
/-- Texts in a row. -/
def IsStrs (w : World) (B : Nat) (V : Value) (l : List ByteArray) : Prop :=
  l.length ≤ maxLen ∧ ((l = [] ∧ ∃ a cap, V = .slice a 0 cap) ∨
    ∃ b off cap, V = .slice (some ⟨b, off, none⟩) l.length cap ∧ l.length ≤ cap ∧ b < B ∧ ∀ i, i < l.length → w.cell? ⟨b, off + i, none⟩ = some (.string (l.getD i ⟨#[]⟩)))
section
variable {w w' : World} {B B' : Nat} {V : Value} {l : List ByteArray}
theorem IsStrs.len (h : IsStrs w B V l) : ∃ a cap, V = .slice a l.length cap := by
  rcases h.2 with ⟨rfl, a, cap, h⟩ | ⟨b, off, cap, h, _⟩
  · exact ⟨a, cap, h⟩
  · exact ⟨_, cap, h⟩
theorem IsStrs.but {R : Nat → Prop} (h : IsStrs w B V l) (hb : But R w w') (hB : B ≤ w.heap.size) (hr : ∀ k, k < B → ¬ R k) : IsStrs w' B V l := by
  refine ⟨h.1, ?_⟩
  rcases h.2 with h0 | ⟨b, off, cap, h1, h2, h3, h4⟩
  · exact .inl h0
  · refine .inr ⟨b, off, cap, h1, h2, h3, fun i hi => ?_⟩
    rw [hb.cell (p := ⟨b, off + i, none⟩) (show b < _ by omega) (hr b h3)]
    exact h4 i hi
theorem IsStrs.below (h : IsStrs w B V l) (hb : Below B' w w') (hB : B ≤ B') (hs : B ≤ w.heap.size) : IsStrs w' B V l :=
  h.but (R := fun k => B ≤ k) ⟨hb.os, hb.tape, hb.output, hb.size, fun k hk hn => hb.block k (by omega)⟩ hs (fun k hk hn => by omega)
theorem IsStrs.more (h : IsStrs w B V l) (hB : B ≤ B') : IsStrs w B' V l := by
  refine ⟨h.1, ?_⟩
  rcases h.2 with h0 | ⟨b, off, cap, h1, h2, h3, h4⟩
  · exact .inl h0
  · exact .inr ⟨b, off, cap, h1, h2, by omega, h4⟩
theorem IsStrs.grow (h : IsStrs w w.heap.size V l) (hb : Below w.heap.size w w') : IsStrs w' w'.heap.size V l := (h.below hb (Nat.le_refl _) (Nat.le_refl _)).more hb.size
theorem IsStrs.plain (h : IsStrs w B V l) (hn : 0 < l.length) : ∃ b off cap, V = .slice (some ⟨b, off, none⟩) l.length cap ∧ l.length ≤ cap ∧ b < B ∧ ∀ i, i < l.length → w.cell? ⟨b, off + i, none⟩ = some (.string (l.getD i ⟨#[]⟩)) := by
  rcases h.2 with ⟨rfl, _⟩ | h0
  · simp at hn
  · exact h0
end

/-! ### Numbers -/
theorem atoi13_ok (s : ByteArray) (hs : s.size ≤ 4294967296) (v : Int) (h : Lib.atoiAll s.data.toList = .ok v) (w : World) :
    Calls Tryz.prog 29 #[.string s] w (Makes w (.tuple #[.int .i64 v, .nilIface])) := by
  refine (Any.strconv_Atoi_ok Tryz.laysC172 s (by omega) v h w).mono ?_
  rintro e w' ⟨rfl, rfl | ⟨t, rfl⟩⟩
  · exact ⟨rfl, Below.refl _ _⟩
  · exact ⟨rfl, Lib.bytesWorld_below _ _ _⟩
def BadAtoi (w : World) (e : Ending) (w' : World) : Prop := ∃ x T N, e = .returned (.tuple #[.int .i64 x, .iface T (.pointer (some ⟨N, 0, none⟩))]) ∧ Below w.heap.size w w'
theorem atoi13_bad (s : ByteArray) (hs : s.size ≤ 4294967296) (h : ∀ v, Lib.atoiAll s.data.toList ≠ .ok v) (w : World) (hE : Env13 w) :
    Calls Tryz.prog 29 #[.string s] w (BadAtoi w) := by
  cases ha : Lib.atoiAll s.data.toList
  · exact absurd ha (h _)
  · obtain ⟨tp, p, hv⟩ := hE.syn
    refine (Any.strconv_Atoi_syntax_var Tryz.laysC172 s (by omega) ha tp p w hv).mono ?_
    rintro e w' ⟨N, rfl, _, _, hb⟩
    exact ⟨_, _, N, rfl, hb⟩
  · obtain ⟨tp, p, hv⟩ := hE.rng
    refine (Any.strconv_Atoi_range_var Tryz.laysC172 s (by omega) ha tp p w hv).mono ?_
    rintro e w' ⟨N, rfl, _, _, hb⟩
    exact ⟨_, _, N, rfl, hb⟩
theorem itoa13 (n : Int) (hn : InI n) (w : World) (hE : Env13 w) :
    Calls Tryz.prog 30 #[.int .i64 n] w (Makes w (.string (strOfNums (numL n)))) := by
  unfold InI at hn
  refine (Any.strconv_Itoa Tryz.laysM171 n (by omega) (by omega) w (hE.tab _ Tryz.laysM171.m17)).mono ?_
  rintro e w' ⟨rfl, k, os, rfl⟩
  exact ⟨by rw [itoa_str], below_grow13 w k os⟩
set_option maxRecDepth 100000 in
set_option maxHeartbeats 4000000 in
theorem number13_some (s : ByteArray) (hs : s.size ≤ 4294967296) (v : Int) (h : numP (lettersOf s) = some v) (w : World) (hE : Env13 w) :
    Calls Tryz.prog 13 #[.string s] w (Makes w (.tuple #[.int .i64 v, .bool true])) := by
  obtain ⟨hi, ha, -⟩ := num13_yes h
  have hse := num13_of h
  have HA := Lib.hid (fun w => atoi13_ok s hs v ha w)
  have HI := Lib.hid (fun w h => itoa13 v hi w h)
  have HE := Lib.hid hE
  have HS := Lib.hid hse
  rw [hse] at HA ⊢
  clear hse h ha hs hE hi HS
  generalize strOfNums (numL v) = t at *
  go_enter Tryz.func13, Tryz.ntmps13
  go_wp2_with (first | (go_at_call 29; (with_reducible refine (HA.out _).mono ?_); rintro e w1 ⟨rfl, hb1⟩; have HB1 := Lib.hid hb1; clear hb1) | (go_at_call 30; (with_reducible refine (HI.out _ (HE.out.grow HB1.out)).mono ?_); rintro e w2 ⟨rfl, hb2⟩; have HB2 := Lib.hid hb2; clear hb2))
  go_ret2
  exact ⟨rfl, below_next HB1.out HB2.out HB1.out.size⟩
set_option maxRecDepth 100000 in
set_option maxHeartbeats 4000000 in
theorem number13_none (s : ByteArray) (hs : s.size ≤ 4294967296) (h : numP (lettersOf s) = none) (w : World) (hE : Env13 w) :
    Calls Tryz.prog 13 #[.string s] w (Makes w (.tuple #[.int .i64 0, .bool false])) := by
  have HE := Lib.hid hE
  by_cases ha : ∃ v, Lib.atoiAll s.data.toList = .ok v
  · obtain ⟨v, ha⟩ := ha
    have hne := num13_no h ha
    rw [itoa_str] at hne
    have hb := Lib.atoiAll_bounds ha
    have hi : InI v := by unfold InI; omega
    have HA := Lib.hid (fun w => atoi13_ok s hs v ha w)
    have HI := Lib.hid (fun w h => itoa13 v hi w h)
    have t1 : ((strOfNums (numL v)).toList == s.toList) = false := text_ne hne
    have t2 : ((strOfNums (numL v)).toList != s.toList) = true := by rw [bne, t1]; rfl
    clear h ha hs hE hi hne hb
    generalize strOfNums (numL v) = t at *
    go_enter Tryz.func13, Tryz.ntmps13
    go_wp2_with (first | (go_at_call 29; (with_reducible refine (HA.out _).mono ?_); rintro e w1 ⟨rfl, hb1⟩; have HB1 := Lib.hid hb1; clear hb1) | (go_at_call 30; (with_reducible refine (HI.out _ (HE.out.grow HB1.out)).mono ?_); rintro e w2 ⟨rfl, hb2⟩; have HB2 := Lib.hid hb2; clear hb2))
    go_ret2
    exact ⟨rfl, below_next HB1.out HB2.out HB1.out.size⟩
  · have HA := Lib.hid (fun w h => atoi13_bad s hs (fun v hv => ha ⟨v, hv⟩) w h)
    clear h ha hs hE
    go_enter Tryz.func13, Tryz.ntmps13
    go_wp2_with (go_at_call 29; (with_reducible refine (HA.out _ HE.out).mono ?_); rintro e w1 ⟨x, T, NB, rfl, hb1⟩; have HB1 := Lib.hid hb1; clear hb1)
    go_ret2
    exact ⟨rfl, HB1.out⟩
end Go.Proofs.YtohlifeenhaifaaGreatDoor

/- (Text13B) The landed text: a line's words. Contracts; no condition but what each names. -/
namespace Go.Proofs.YtohlifeenhaifaaGreatDoor
open Go.RowKit Go.Shelf
set_option linter.unusedVariables false
set_option linter.unusedSimpArgs false

theorem fields_wide : ∀ (s w : List Int), wideW (fieldsI w s) ≤ w.length + s.length + 1
  | [], w => by
    simp only [fieldsI, flushB]
    split <;> simp [wideW]
  | c :: s, w => by
    simp only [fieldsI]
    split
    · split
      · have := fields_wide s []
        simp at this ⊢
        omega
      · have := fields_wide s []
        rw [wideW_cons]
        simp at this ⊢
        omega
    · have := fields_wide s (w ++ [c])
      simp at this ⊢
      omega
theorem wide_bound : ∀ (l : List (List Int)), l.length ≤ wideW l ∧ ∀ x ∈ l, x.length + 1 ≤ wideW l
  | [] => by simp
  | w :: l => by
    obtain ⟨h1, h2⟩ := wide_bound l
    rw [wideW_cons]
    refine ⟨by simp; omega, fun x hx => ?_⟩
    rcases List.mem_cons.1 hx with rfl | hx
    · omega
    · have := h2 x hx; omega
/-- Words up to a remark's mark. -/
def cutW (l : List ByteArray) : List ByteArray := l.takeWhile (fun s => plainW (lettersOf s))
theorem cutW_map (l : List ByteArray) : (cutW l).map lettersOf = (l.map lettersOf).takeWhile plainW := by
  unfold cutW
  rw [List.takeWhile_map]
  rfl
theorem cutW_words (s : ByteArray) : (cutW (Lib.goFieldsP blankP s)).map lettersOf = wordsL (lettersOf s) := by
  rw [cutW_map, pieces_fields]
  exact (words_fields _ _).symm
theorem cutW_take {l : List ByteArray} {k : Nat} (hk : k ≤ l.length) (h : ∀ i, i < k → plainW (lettersOf (l.getD i ⟨#[]⟩)) = true) (he : k < l.length → plainW (lettersOf (l.getD k ⟨#[]⟩)) = false) : cutW l = l.take k := by
  induction l generalizing k with
  | nil => simp [cutW]
  | cons a l ih =>
    cases k with
    | zero =>
      have := he (by simp)
      simp at this
      unfold cutW
      rw [List.takeWhile_cons_of_neg (by simp [this])]
      rfl
    | succ k =>
      have h0 := h 0 (by omega)
      simp at h0
      have := ih (k := k) (by simpa using hk) (fun i hi => by have := h (i + 1) (by omega); simpa using this) (fun hk => by have := he (by simpa using hk); simpa using this)
      unfold cutW at this ⊢
      rw [List.takeWhile_cons_of_pos (p := fun s => plainW (lettersOf s)) h0, this]
      rfl
theorem blank13_any (x : Nat) (hx : x ≤ 1114111) (w : World) : Calls Tryz.prog 70 #[.int .i32 x] w fun e w' => e = .returned (.bool (blankP x)) ∧ w = w' := by
  by_cases h1 : x = 32
  · subst h1
    go_enter Tryz.func70, Tryz.ntmps70
    go_wp2
    go_ret
    exact ⟨rfl, rfl⟩
  · by_cases h2 : x = 9
    · subst h2
      go_enter Tryz.func70, Tryz.ntmps70
      go_wp2
      go_ret
      exact ⟨rfl, rfl⟩
    · have t1 : ((x : Int) == 32) = false := by rw [beq_eq_false_iff_ne]; omega
      have t2 : ((x : Int) == 9) = false := by rw [beq_eq_false_iff_ne]; omega
      have e : blankP x = false := by unfold blankP; exact decide_eq_false (by omega)
      rw [e]
      clear e h1 h2
      go_enter Tryz.func70, Tryz.ntmps70
      go_wp2
      go_ret
      exact ⟨rfl, rfl⟩
theorem remark_prefix (s : ByteArray) : Lib.hasPrefix s.data.toList [35] = !(plainW (lettersOf s)) := by
  unfold Lib.hasPrefix plainW lettersOf
  cases s.data.toList with
  | nil => rfl
  | cons c r =>
    simp only [List.map_cons, List.headD_cons, List.isPrefixOf, Bool.and_true]
    by_cases h : c = 35
    · subst h; rfl
    · have h1 : ((35 : UInt8) == c) = false := by rw [beq_eq_false_iff_ne]; exact fun e => h e.symm
      have h2 : ((c.toNat : Int) != 35) = true := by
        rw [bne_iff_ne]
        exact fun e => h (UInt8.toNat_inj.1 (show c.toNat = (35 : UInt8).toNat by have : (35 : UInt8).toNat = 35 := rfl; omega))
      rw [h1, h2]
      rfl
theorem remark13_any (s : ByteArray) (w : World) : Calls Tryz.prog 72 #[.string s] w fun e w' => e = .returned (.bool (!(plainW (lettersOf s)))) ∧ w = w' := by
  have hp : Calls Tryz.prog 73 #[.string s, .string ⟨#[35]⟩] w fun e w' => e = .returned (.bool (!(plainW (lettersOf s)))) ∧ w = w' :=
    (Any.strings_HasPrefix Tryz.lays99 s ⟨#[35]⟩ w).mono fun e w' ⟨h1, h2⟩ => ⟨by rw [h1, remark_prefix], h2.symm⟩
  have HP := Lib.hid hp
  clear hp
  go_enter Tryz.func72, Tryz.ntmps72
  go_wp2_with (go_at_call 73; (with_reducible refine HP.out.mono ?_); rintro e w1 ⟨rfl, rfl⟩)
  go_ret
  exact ⟨rfl, rfl⟩
theorem cutW_take2 {l : List ByteArray} {k : Nat} (hk : k ≤ l.length) (h : ∀ i, i < k → plainW (lettersOf (l.getD i ⟨#[]⟩)) = true) (he : k < l.length → plainW (lettersOf (l.getD k ⟨#[]⟩)) = false) : (cutW l).length = k := by
  rw [cutW_take hk h he, List.length_take]; omega
def idx13 (l : List ByteArray) : Int := if (cutW l).length < l.length then ((cutW l).length : Int) else -1
theorem idx_at {l : List ByteArray} {k : Nat} (hk : k < l.length) (h : ∀ i, i < k → plainW (lettersOf (l.getD i ⟨#[]⟩)) = true) (he : plainW (lettersOf (l.getD k ⟨#[]⟩)) = false) : idx13 l = k := by
  unfold idx13
  rw [cutW_take2 (Nat.le_of_lt hk) h (fun _ => he), if_pos hk]
theorem idx_end {l : List ByteArray} (h : ∀ i, i < l.length → plainW (lettersOf (l.getD i ⟨#[]⟩)) = true) : idx13 l = -1 := by
  unfold idx13
  rw [cutW_take2 (Nat.le_refl _) h (fun h => absurd h (by omega)), if_neg (by omega)]
set_option maxRecDepth 100000 in
set_option maxHeartbeats 4000000 in
theorem index13_any (V : Value) (l : List ByteArray) (w : World) (hV : IsStrs w w.heap.size V l) :
    Calls Tryz.prog 71 #[V, .func (.func 72) #[] #[]] w fun e w' => e = .returned (.int .i64 (idx13 l)) ∧ w = w' := by
  have hm := hV.1
  obtain ⟨a0, cap0, hVe⟩ := hV.len
  have HV := Lib.hid hV.plain
  have HYes : Hid (∀ (s : ByteArray) (w : World), plainW (lettersOf s) = true → Calls Tryz.prog 72 #[.string s] w fun e w' => e = .returned (.bool false) ∧ w = w') := Lib.hid (fun s w h => (remark13_any s w).mono fun e w' ⟨h1, h2⟩ => ⟨by rw [h1, h]; rfl, h2⟩)
  have HNo : Hid (∀ (s : ByteArray) (w : World), plainW (lettersOf s) = false → Calls Tryz.prog 72 #[.string s] w fun e w' => e = .returned (.bool true) ∧ w = w') := Lib.hid (fun s w h => (remark13_any s w).mono fun e w' ⟨h1, h2⟩ => ⟨by rw [h1, h]; rfl, h2⟩)
  subst hVe
  obtain ⟨n, hn⟩ : ∃ n, n = l.length := ⟨_, rfl⟩
  rw [← hn] at hm ⊢
  have HN := Lib.hid hn
  clear hn hV
  unfold maxLen at hm
  go_enter Tryz.func71, Tryz.ntmps71
  go_wp2
  go_loop [5, 8] (fun _ v8 => ∃ k : Nat, v8 = .int .i64 k ∧ Hid (k ≤ n ∧ ∀ i, i < k → plainW (lettersOf (l.getD i ⟨#[]⟩)) = true)) (fun _ v8 => n - (intOf v8).toNat)
  case atStart => exact ⟨0, rfl, Lib.hid ⟨Nat.zero_le _, fun i hi => absurd hi (by omega)⟩⟩
  case round =>
    obtain ⟨k, rfl, HR⟩ := hrel
    have hkn := HR.out.1
    by_cases hlt : k < n
    · obtain ⟨b, off, cap, hVe, hcap, hb, hc⟩ := HV.out (by have := HN.out; omega)
      injection hVe with e1 e2 e3
      subst e1
      subst e3
      have hcell := hc k (by have := HN.out; omega)
      have hlt2 : (k : Int) < (n : Int) := by omega
      have hd : decide (k < n) = true := decide_eq_true hlt
      clear hc
      by_cases hp : plainW (lettersOf (l.getD k ⟨#[]⟩)) = true
      · have HC := Lib.hid (HYes.out _ w hp)
        have HP : Hid (k + 1 ≤ n ∧ ∀ i, i < k + 1 → plainW (lettersOf (l.getD i ⟨#[]⟩)) = true) := Lib.hid ⟨by omega, fun i hi => by
          by_cases hik : i = k
          · subst hik; exact hp
          · exact HR.out.2 i (by omega)⟩
        clear hp
        generalize l.getD k ⟨#[]⟩ = s at *
        go_wp2_with (go_at_call 72; (with_reducible refine HC.out.mono ?_); rintro e w1 ⟨rfl, rfl⟩)
        go_round
        case rel => exact ⟨k + 1, by go_num, HP⟩
        case measure => simp [intOf]; omega
      · have hp2 : plainW (lettersOf (l.getD k ⟨#[]⟩)) = false := by simpa using hp
        have HC := Lib.hid (HNo.out _ w hp2)
        have HI := Lib.hid (idx_at (by have := HN.out; omega) HR.out.2 hp2)
        clear hp hp2
        generalize l.getD k ⟨#[]⟩ = s at *
        go_wp2_with (go_at_call 72; (with_reducible refine HC.out.mono ?_); rintro e w1 ⟨rfl, rfl⟩)
        go_ret
        exact ⟨by rw [HI.out]; rfl, rfl⟩
    · have hk : k = n := by omega
      subst hk
      have HI := Lib.hid (idx_end (HN.out ▸ HR.out.2))
      go_wp2
      go_ret
      exact ⟨by rw [HI.out]; rfl, rfl⟩
/-- Texts in a row that holds texts alone. -/
def Strs13 (w : World) (V : Value) (l : List ByteArray) : Prop :=
  l.length ≤ maxLen ∧ ∃ A off cap c, V = .slice (some ⟨A, off, none⟩) l.length cap ∧ l.length ≤ cap ∧ w.heap[A]? = some (.cells c 9 (0, 0)) ∧ ∀ i, i < l.length → w.cell? ⟨A, off + i, none⟩ = some (.string (l.getD i ⟨#[]⟩))
theorem Strs13.strs {w : World} {V : Value} {l : List ByteArray} (h : Strs13 w V l) : IsStrs w w.heap.size V l := by
  obtain ⟨h0, A, off, cap, c, h1, h2, h3, h4⟩ := h
  exact ⟨h0, .inr ⟨A, off, cap, h1, h2, heap_lt h3, h4⟩⟩
theorem Strs13.but {w w' : World} {V : Value} {l : List ByteArray} {R : Nat → Prop} (h : Strs13 w V l) (hb : But R w w') (hR : ∀ k c, w.heap[k]? = some (.cells c 9 (0, 0)) → ¬ R k) : Strs13 w' V l := by
  obtain ⟨h0, A, off, cap, c, h1, h2, h3, h4⟩ := h
  exact ⟨h0, A, off, cap, c, h1, h2, hb.heap h3 (hR _ _ h3), fun i hi => (hb.cell (p := ⟨A, off + i, none⟩) (heap_lt h3) (hR _ _ h3)).trans (h4 i hi)⟩
theorem Strs13.grow {w w' : World} {V : Value} {l : List ByteArray} (h : Strs13 w V l) (hb : Below w.heap.size w w') : Strs13 w' V l :=
  h.but (But.of_below (R := NoBlock) hb) (fun _ _ _ h => h)
/-- What strings.FieldsFunc leaves: a row of its own. -/
def FieldsDone13 (w : World) (l : List ByteArray) (e : Ending) (w' : World) : Prop :=
  ∃ A, e = .returned (.slice (some ⟨A, 0, none⟩) l.length l.length) ∧ Strs13 w' (.slice (some ⟨A, 0, none⟩) l.length l.length) l ∧ (∀ k, k < l.length → Strs13 w' (.slice (some ⟨A, 0, none⟩) k l.length) (l.take k)) ∧ Below w.heap.size w w'
theorem pieces_bound (s : ByteArray) : (Lib.goFieldsP blankP s).length ≤ s.size + 1 ∧ ∀ x ∈ Lib.goFieldsP blankP s, x.size ≤ s.size := by
  have hw := fields_wide (lettersOf s) []
  rw [← pieces_fields] at hw
  have hl : (lettersOf s).length = s.size := by unfold lettersOf; rw [List.length_map]; exact Array.length_toList
  obtain ⟨h1, h2⟩ := wide_bound ((Lib.goFieldsP blankP s).map lettersOf)
  rw [List.length_map] at h1
  simp only [List.length_nil, Nat.zero_add] at hw
  refine ⟨by omega, fun x hx => ?_⟩
  have := h2 (lettersOf x) (List.mem_map_of_mem hx)
  have hx2 : (lettersOf x).length = x.size := by unfold lettersOf; rw [List.length_map]; exact Array.length_toList
  omega
theorem fields13_any (s : ByteArray) (hs : s.size ≤ 4294967295) (w : World) :
    Calls Tryz.prog 69 #[.string s, .func (.func 70) #[] #[]] w (FieldsDone13 w (Lib.goFieldsP blankP s)) := by
  refine (Any.strings_FieldsFunc_runes Tryz.lays229 70 #[] (enters_of Tryz.func70 (by kernel_rfl) rfl) blankP s w (by omega) (fun W x hx hb => ?_) (by kernel_rfl) (by kernel_rfl)).mono ?_
  · exact (blank13_any x hx W).mono fun e w' ⟨h1, h2⟩ => ⟨h1, 0, h2.symm⟩
  · rintro e w' ⟨A, rfl, hA, hown, hb⟩
    have hbd := (pieces_bound s).1
    generalize Lib.goFieldsP blankP s = l at *
    have hcell : ∀ i, i < l.length → w'.cell? ⟨A, 0 + i, none⟩ = some (.string (l.getD i ⟨#[]⟩)) := fun i hi => by
      have h := hown.cells (g := A) rfl i (.string (l.getD i ⟨#[]⟩)) (by rw [List.getElem?_map, List.getElem?_eq_getElem hi]; simp [List.getD, List.getElem?_eq_getElem hi])
      rw [← h]
      congr 1
      unfold Addr.add
      split <;> simp_all
    have hlt := (hown.lt A rfl).2
    have hl : l.length ≤ maxLen := by unfold maxLen; omega
    obtain ⟨c, hc⟩ : ∃ c, w'.heap[A]? = some (.cells c 9 (0, 0)) := by
      rcases hown.2 with ⟨h0, _⟩ | ⟨g, cap, cur, h0, _, h1, _⟩
      · cases h0
      · injection h0 with h0 _ _
        injection h0 with h0
        injection h0 with h0 _ _
        subst h0
        exact ⟨cur, h1⟩
    refine ⟨A, rfl, ⟨hl, A, 0, l.length, c, rfl, Nat.le_refl _, hc, hcell⟩, fun k hk => ⟨by rw [List.length_take]; omega, A, 0, l.length, c, by rw [List.length_take, Nat.min_eq_left (by omega)], by rw [List.length_take]; omega, hc, fun i hi => ?_⟩, hb⟩
    rw [List.length_take] at hi
    rw [hcell i (by omega)]
    simp [List.getD, List.getElem?_take, show i < k by omega]
def WordsDone (w : World) (s : ByteArray) (e : Ending) (w' : World) : Prop :=
  ∃ V l, e = .returned V ∧ Strs13 w' V l ∧ l.map lettersOf = wordsL (lettersOf s) ∧ (∀ x ∈ l, x.size ≤ s.size) ∧ l.length ≤ s.size + 1 ∧ Below w.heap.size w w'
set_option maxRecDepth 100000 in
set_option maxHeartbeats 4000000 in
theorem words13_any (s : ByteArray) (hs : s.size ≤ 4294967295) (w : World) : Calls Tryz.prog 39 #[.string s] w (WordsDone w s) := by
  have HF := Lib.hid (fields13_any s hs w)
  obtain ⟨hb1, hb2⟩ := pieces_bound s
  have hcw := cutW_words s
  have hpre : cutW (Lib.goFieldsP blankP s) <+: Lib.goFieldsP blankP s := List.takeWhile_prefix _
  generalize Lib.goFieldsP blankP s = l at *
  obtain ⟨n, hn⟩ : ∃ n, n = l.length := ⟨_, rfl⟩
  by_cases hk : (cutW l).length < l.length
  · obtain ⟨k, hke⟩ : ∃ k, k = (cutW l).length := ⟨_, rfl⟩
    have hcut : cutW l = l.take k := by rw [hke]; exact List.prefix_iff_eq_take.1 hpre
    have HI : Hid (∀ V W, IsStrs W W.heap.size V l → Calls Tryz.prog 71 #[V, .func (.func 72) #[] #[]] W fun e w' => e = .returned (.int .i64 k) ∧ W = w') := Lib.hid (fun V W hV => (index13_any V l W hV).mono fun e w' ⟨h1, h2⟩ => ⟨by rw [h1]; unfold idx13; rw [if_pos hk, hke], h2⟩)
    have HD : Hid ((l.take k).map lettersOf = wordsL (lettersOf s) ∧ (∀ x ∈ l.take k, x.size ≤ s.size) ∧ (l.take k).length ≤ s.size + 1) := Lib.hid ⟨by rw [← hcut]; exact hcw, fun x hx => hb2 x (List.mem_of_mem_take hx), by rw [List.length_take]; omega⟩
    have hkn : k < n := by omega
    have hnn : n ≤ 9223372036854775807 := by omega
    have HN := Lib.hid hn
    have hk2 : k ≤ n := by omega
    clear hb1 hb2 hcw hpre hke hcut hk hs hn
    go_enter Tryz.func39, Tryz.ntmps39
    go_wp2_with (first | (go_at_call 69; (with_reducible refine HF.out.mono ?_); rintro e w1 ⟨A, rfl, hV, hT, hb⟩; have HV := Lib.hid hV; have HT := Lib.hid hT; have HB := Lib.hid hb; clear hV hT hb; rw [← HN.out]) | (go_at_call 71; (with_reducible refine (HI.out _ _ (by rw [HN.out]; exact HV.out.strs)).mono ?_); rintro e w2 ⟨rfl, rfl⟩))
    go_ret
    refine ⟨_, l.take k, rfl, ?_, HD.out.1, HD.out.2.1, HD.out.2.2, HB.out⟩
    have := HT.out k (by rw [← HN.out]; exact hkn)
    rw [HN.out]
    exact this
  · have he : cutW l = l := List.IsPrefix.eq_of_length_le hpre (by omega)
    have HI : Hid (∀ V W, IsStrs W W.heap.size V l → Calls Tryz.prog 71 #[V, .func (.func 72) #[] #[]] W fun e w' => e = .returned (.int .i64 (-1)) ∧ W = w') := Lib.hid (fun V W hV => (index13_any V l W hV).mono fun e w' ⟨h1, h2⟩ => ⟨by rw [h1]; unfold idx13; rw [if_neg hk], h2⟩)
    have HD : Hid (l.map lettersOf = wordsL (lettersOf s) ∧ (∀ x ∈ l, x.size ≤ s.size) ∧ l.length ≤ s.size + 1) := Lib.hid ⟨by rw [← hcw, he], hb2, hb1⟩
    have HN := Lib.hid hn
    clear hb1 hb2 hcw hpre hk he hs hn
    go_enter Tryz.func39, Tryz.ntmps39
    go_wp2_with (first | (go_at_call 69; (with_reducible refine HF.out.mono ?_); rintro e w1 ⟨A, rfl, hV, hT, hb⟩; have HV := Lib.hid hV; have HB := Lib.hid hb; clear hV hT hb; rw [← HN.out]) | (go_at_call 71; (with_reducible refine (HI.out _ _ (by rw [HN.out]; exact HV.out.strs)).mono ?_); rintro e w2 ⟨rfl, rfl⟩))
    go_ret
    exact ⟨_, l, rfl, by rw [HN.out]; exact HV.out, HD.out.1, HD.out.2.1, HD.out.2.2, HB.out⟩
end Go.Proofs.YtohlifeenhaifaaGreatDoor

/- (Text13C) The landed text: appends of one cell, an instruction's room, a line of a name and numbers. Contracts; no condition but what each names. -/
namespace Go.Proofs.YtohlifeenhaifaaGreatDoor
open Go.RowKit Go.Shelf
set_option linter.unusedVariables false
set_option linter.unusedSimpArgs false

/-- What an append of one cell leaves. -/
structure More1 (t : TypeId) (base : Nat) (K : Value → Prop) (W W' : World) (V V' : Value) (xs : List Value) (u : Value) : Prop where
  own : Owns W' base t 1 K V' (xs ++ [u]).length (xs ++ [u])
  bel : Below base W W'
  blk : ∀ i, i < W.heap.size → some i ≠ V.ownBlock → W'.heap[i]? = W.heap[i]?
  size : W.heap.size ≤ W'.heap.size
theorem run_one1 {P : Program} {W : World} {t ts ty : TypeId} {z : Value} {bytes : Nat} (hts : P.underlying ts = some (.slice t)) (hinf : (P.info? t).map (fun i => (i.zero, i.size, i.bytes)) = some (some z, 1, bytes)) (hz1 : z.cells.size = 1)
    {K : Value → Prop} (hKz : ∀ u ∈ z.cells.toList, K u) {V u : Value} {xs : List Value} {base : Nat}
    (h : Owns W base t 1 K V xs.length xs) (hu : K u) (hu1 : u.oneCell' = true) (hb : base ≤ W.heap.size) (hl : xs.length ≤ 1000000000) (hby : bytes ≤ 100000) :
    ∃ V' W', (Builtin.append_ #[ts, ts] ty #[V, .slice (some ⟨W.heap.size, 0, none⟩) 1 1]).run P (W.alloc (.cells #[u] t)) = .ok V' W' ∧ More1 t base K W W' V V' xs u := by
  obtain ⟨i, hi, h1, h2, h3⟩ := info_parts hinf
  have ha : Below W.heap.size W (W.alloc (.cells #[u] t)) := (Below.refl W.heap.size W).alloc (Nat.le_refl _) _
  have hg := Owns.below h ha (Nat.le_refl _)
  have hmul : (xs.length + 1) * bytes ≤ 140737488355328 := Nat.le_trans (Nat.mul_le_mul (show xs.length + 1 ≤ 1000000001 by omega) hby) (by decide)
  obtain ⟨V', W', hr, ho', hg'⟩ := run_append_q (P := P) _ base ts ty t i _ 1 bytes hts hi h1 h2 h3 hz1 (by decide) K hKz V xs.length xs hg ⟨W.heap.size, 0, none⟩ 1 1 [u] rfl (news_one W u t) (by intro v hv; simp at hv; subst hv; exact hu1) (by intro v hv; simp at hv; subst hv; exact hu) (by unfold maxLen; omega) hmul (by simp; omega)
  refine ⟨V', W', hr, ?_⟩
  have e : World.grownBy (W.alloc (.cells #[u] t)) W' V.ownBlock := hg'
  exact ⟨by rw [List.length_append]; exact ho', (ha.mono hb).grown e (by simp; omega) fun j hj => (h.lt hj).1, fun i hi hn => (e.block i (by simp; omega) hn).trans (ha.block i hi), Nat.le_trans (by simp) e.size⟩
theorem wpList_one1 {P : Program} {W : World} {ops : Array Oper} {rest : List Oper} {o : Oper} {a : Act} {Q : Exit → Act → World → Prop} (hgd : o.guard = none) (s x : Operand) {ts t : TypeId}
    (ho : o.op = .call { callee := .builtin .append, args := #[s, x], argTypes := #[ts, ts] }) {z : Value} {bytes : Nat} (hts : P.underlying ts = some (.slice t)) (hinf : (P.info? t).map (fun i => (i.zero, i.size, i.bytes)) = some (some z, 1, bytes)) (hz1 : z.cells.size = 1)
    {K : Value → Prop} (hKz : ∀ u ∈ z.cells.toList, K u) {V u : Value} {xs : List Value} {base g : Nat} (hs : a.eval s = V) (hx : a.eval x = .slice (some ⟨g, 0, none⟩) 1 1) (hgs : g = W.heap.size)
    (h : Owns W base t 1 K V xs.length xs) (hu : K u) (hu1 : u.oneCell' = true) (hb : base ≤ W.heap.size) (hl : xs.length ≤ 1000000000) (hby : bytes ≤ 100000)
    (hK : ∀ V' W', More1 t base K W W' V V' xs u → wpList P ops Q rest (a.put o.dst V') W') :
    wpList P ops Q (o :: rest) a (W.alloc (.cells #[u] t)) := by
  subst hgs
  refine wpList_plain hgd fun _ hK' => ?_
  obtain ⟨V', W', hr, hm⟩ := run_one1 (ty := o.type) hts hinf hz1 hKz h hu hu1 hb hl hby
  unfold Oper.wp execOp
  simp only [ho, resolve, invoke, builtin, Sem.run_bind, Sem.run_pure, Result.andThen_ok, List.map_toArray, List.map_cons, List.map_nil, hs, hx, hr]
  exact hK' _ _ (hK V' W' hm)
theorem step_one1 {P : Program} {W : World} {ops : Array Oper} {o : Oper} {a : Act} {K' : Act → World → Prop} {Q : Exit → Act → World → Prop} {E : Prop} (hgd : o.guard = none) (s x : Operand) {ts t : TypeId}
    (ho : o.op = .call { callee := .builtin .append, args := #[s, x], argTypes := #[ts, ts] }) {z : Value} {bytes : Nat} (hts : P.underlying ts = some (.slice t)) (hinf : (P.info? t).map (fun i => (i.zero, i.size, i.bytes)) = some (some z, 1, bytes)) (hz1 : z.cells.size = 1)
    {K : Value → Prop} (hKz : ∀ u ∈ z.cells.toList, K u) {V u : Value} {xs : List Value} {base g : Nat} (hs : a.eval s = V) (hx : a.eval x = .slice (some ⟨g, 0, none⟩) 1 1) (hgs : g = W.heap.size)
    (h : Owns W base t 1 K V xs.length xs) (hu : K u) (hu1 : u.oneCell' = true) (hb : base ≤ W.heap.size) (hl : xs.length ≤ 1000000000) (hby : bytes ≤ 100000)
    (hK : ∀ V' W', More1 t base K W W' V V' xs u → K' (a.put o.dst V') W') :
    if Region.wanted o (yielded ops a.tmps) = true then Oper.wp P o a (W.alloc (.cells #[u] t)) K' Q else E := by
  subst hgs
  exact step_out hgd s x _ ho V _ hs hx (fun V' W' => More1 t base K W W' V V' xs u) (run_one1 hts hinf hz1 hKz h hu hu1 hb hl hby) fun V' W' hh => hK V' W' hh

/-- As many zeros. -/
def RoomDone (w : World) (n : Nat) (e : Ending) (w' : World) : Prop := ∃ V, e = .returned V ∧ Owns w' w.heap.size 3 1 (IsNum .i64) V n ((List.replicate n 0).map (Value.int .i64)) ∧ Below w.heap.size w w'
theorem repl_snoc (k : Nat) : (List.replicate k (0 : Int)).map (Value.int .i64) ++ [.int .i64 0] = (List.replicate (k + 1) (0 : Int)).map (Value.int .i64) := by
  rw [List.replicate_succ', List.map_append]
  rfl
set_option maxRecDepth 100000 in
set_option maxHeartbeats 4000000 in
theorem room_none (many : Int) (h : many ≤ 0) (w : World) : Calls Tryz.prog 67 #[.int .i64 many] w (RoomDone w 0) := by
  have h2 : ¬ (0 < many) := by omega
  have h8 : many ≤ 8 := by omega
  go_enter Tryz.func67, Tryz.ntmps67
  go_wp2
  refine wp_loop_rounds 1 ?_
  rw [rounds_succ]
  go_wp2
  go_ret
  exact ⟨_, rfl, Owns.nil _ _ _ _ _, Below.refl _ _⟩
set_option maxRecDepth 100000 in
set_option maxHeartbeats 4000000 in
theorem room_some (many : Int) (n : Nat) (h : min many 8 = (n : Int)) (hn : n ≤ 8) (w : World) : Calls Tryz.prog 67 #[.int .i64 many] w (RoomDone w n) := by
  go_enter Tryz.func67, Tryz.ntmps67
  go_wp2
  clear h
  go_loopw [3, 6] (fun v3 v6 wr => ∃ k : Nat, v6 = .int .i64 k ∧ k ≤ n ∧ Owns wr w.heap.size 3 1 (IsNum .i64) v3 k ((List.replicate k 0).map (Value.int .i64)) ∧ Below w.heap.size w wr) (fun _ v6 _ => n - (intOf v6).toNat)
  case atStart => exact ⟨0, rfl, Nat.zero_le _, Owns.nil _ _ _ _ _, Below.refl _ _⟩
  case round =>
    obtain ⟨k, rfl, hk, ho, hb⟩ := hrel
    have HO := Lib.hid ho
    have HB := Lib.hid hb
    obtain ⟨A, c, he⟩ := owns_len ho
    subst he
    clear ho hb
    by_cases hlt : k < n
    · have HOL : Hid (Owns wr w.heap.size 3 1 (IsNum .i64) (.slice A k c) ((List.replicate k (0 : Int)).map (Value.int .i64)).length ((List.replicate k (0 : Int)).map (Value.int .i64))) := by
        have := HO.out
        rw [List.length_map, List.length_replicate]
        exact Lib.hid this
      have HLen : Hid (((List.replicate k (0 : Int)).map (Value.int .i64)).length ≤ 1000000000) := by
        rw [List.length_map, List.length_replicate]
        exact Lib.hid (by omega)
      go_wp2_with (at_builtin; refine wpList_one1 rfl (.tmp 8) (.tmp 9) rfl Tryz.underlying26 int_info rfl (zero_num .i64) rfl rfl rfl HOL.out ⟨0, rfl⟩ rfl HB.out.size HLen.out (by decide) ?_; intro V' W' hM; have HM := Lib.hid hM; obtain ⟨A', c', he'⟩ := owns_len hM.own; subst he'; clear hM)
      go_roundw
      case rel =>
        have h1 := HM.out.own
        rw [repl_snoc] at h1
        rw [List.length_map, List.length_replicate] at h1
        exact ⟨k + 1, by go_num, by omega, h1, HB.out.trans HM.out.bel⟩
      case measure => simp [intOf]; omega
    · have hkn : k = n := by omega
      subst hkn
      go_wp2
      go_ret
      exact ⟨_, rfl, HO.out, HB.out⟩
end Go.Proofs.YtohlifeenhaifaaGreatDoor

/- (Text13D) The landed text: a line of a name and numbers. Contract; no condition but what it names. -/
namespace Go.Proofs.YtohlifeenhaifaaGreatDoor
open Go.RowKit Go.Shelf
set_option linter.unusedVariables false
set_option linter.unusedSimpArgs false

theorem Owns.one13 (w : World) {base : Nat} (t : TypeId) {K : Value → Prop} {u : Value} (hu : K u) (hu1 : u.oneCell' = true) (hb : base ≤ w.heap.size) : Owns (w.alloc (.cells #[u] t)) base t 1 K (.slice (some ⟨w.heap.size, 0, none⟩) 1 1) 1 [u] := by
  refine ⟨⟨rfl, .inr ⟨w.heap.size, 1, #[u], rfl, hb, heap_alloc_new w _, by omega, by unfold maxLen; omega, rfl, rfl⟩⟩, fun g cur t' fr hg hc v hv => ?_⟩
  simp [Value.ownBlock] at hg
  subst hg
  rw [heap_alloc_new w _] at hc
  injection hc with hc
  injection hc with hc _ _
  subst hc
  simp at hv
  subst hv
  exact hu
def IsStr (u : Value) : Prop := ∃ s, u = .string s
theorem zero_str : ∀ u ∈ (Value.string ⟨#[]⟩).cells.toList, IsStr u := by
  intro u hu
  simp [Value.cells] at hu
  exact ⟨_, hu⟩
/-- Words as values. -/
def strV (l : List (List Int)) : List Value := l.map (fun x => .string (strOfNums x))
theorem strV_snoc (l : List (List Int)) (x : List Int) : strV l ++ [.string (strOfNums x)] = strV (l ++ [x]) := by simp [strV]
theorem join_text (w : List Int) (l : List (List Int)) : (⟨(Lib.join (((w :: l).map strOfNums).map (fun s => s.data.toList)) [32]).toArray⟩ : ByteArray) = strOfNums (joinW (w :: l)) := by
  rw [join_flat, List.map_cons, List.map_cons, Lib.join_cons]
  apply ByteArray.ext
  show _ = ((w ++ l.flatMap (fun v => 32 :: v)).map fun n => UInt8.ofNat n.toNat).toArray
  simp only [strOfNums_data, List.map_append, List.map_flatMap]
  congr 2
  unfold Lib.joinTail
  induction l with
  | nil => rfl
  | cons v l ih =>
    simp only [List.map_cons, List.flatten_cons, List.flatMap_cons, ih, strOfNums_data]
    rfl
theorem join_size (w : List Int) (l : List (List Int)) (h : ∀ x ∈ l, x.length ≤ 20) : (joinW (w :: l)).length ≤ w.length + 21 * l.length := by
  rw [join_flat, List.length_append]
  have : (l.flatMap (fun v => 32 :: v)).length ≤ 21 * l.length := by
    induction l with
    | nil => simp
    | cons v l ih =>
      have h1 := h v (List.mem_cons_self ..)
      have h2 := ih (fun x hx => h x (List.mem_cons_of_mem _ hx))
      simp only [List.flatMap_cons, List.length_append, List.length_cons] at h2 ⊢
      omega
  omega
theorem strings_info : (Tryz.prog.info? 9).map (fun i => (i.zero, i.size, i.bytes)) = some (some (.string ⟨#[]⟩), 1, 16) := by kernel_rfl
set_option maxRecDepth 100000 in
set_option maxHeartbeats 4000000 in
theorem joined13_any (nm : List Int) (X : Value) (ns : List Int) (w : World) (hX : IsNums .i64 w w.heap.size X ns) (hin : ∀ x ∈ ns, InI x) (hn : ns.length ≤ 1000000) (hm : nm.length ≤ 1000000) (hE : Env13 w) :
    Calls Tryz.prog 32 #[.string (strOfNums nm), X] w (Makes w (.string (strOfNums (joinW (nm :: ns.map numL))))) := by
  have HJ : Hid (∀ (bk o c : Nat) (W : World), (∀ i, i < ns.length + 1 → W.cell? ⟨bk, o + i, none⟩ = some ((strV (nm :: ns.map numL)).getD i undef)) → bk < W.heap.size → ns.length + 1 ≤ c → Calls Tryz.prog 57 #[.slice (some ⟨bk, o, none⟩) (ns.length + 1 : Nat) c, .string ⟨#[32]⟩] W (Makes W (.string (strOfNums (joinW (nm :: ns.map numL)))))) := Lib.hid (fun bk o c W hc hb hcap => by
    have hl : ((nm :: ns.map numL).map strOfNums).length = ns.length + 1 := by simp
    have hj := join_text nm (ns.map numL)
    have hsz : (Lib.join (((nm :: ns.map numL).map strOfNums).map (fun s => s.data.toList)) [32]).length ≤ 140737488355328 := by
      have h1 := congrArg (fun s : ByteArray => s.size) hj
      have h2 := join_size nm (ns.map numL) (fun x hx => by obtain ⟨y, hy, rfl⟩ := List.mem_map.1 hx; exact num_len (hin y hy))
      rw [str_size] at h1
      simp only [ByteArray.size, List.size_toArray] at h1
      rw [List.length_map] at h2
      omega
    have h := Any.strings_Join Tryz.lays156 Tryz.Builder_Extra_156 bk o c ((nm :: ns.map numL).map strOfNums) ⟨#[32]⟩ W (fun j x hx => by
      have hj' : j < ns.length + 1 := by rw [← hl]; exact (List.getElem?_eq_some_iff.1 hx).1
      rw [hc j hj']
      unfold strV
      rw [List.getElem?_map] at hx
      obtain ⟨y, hy, rfl⟩ := Option.map_eq_some_iff.1 hx
      rw [List.getD_eq_getElem?_getD, List.getElem?_map, hy]
      rfl) hb (by rw [hl]; omega) (by rw [hl]; exact hcap) hsz
    rw [hl] at h
    exact h.mono fun e w' ⟨h1, h2⟩ => ⟨by rw [h1, ← hj], h2⟩)
  have HI : Hid (∀ (n : Int) (W : World), InI n → Env13 W → Calls Tryz.prog 30 #[.int .i64 n] W (Makes W (.string (strOfNums (numL n))))) := Lib.hid (fun n W h1 h2 => itoa13 n h1 W h2)
  have HE := Lib.hid hE
  have HX := Lib.hid hX
  have HIN := Lib.hid hin
  obtain ⟨A, c, hXe⟩ := hX.len
  subst hXe
  obtain ⟨m, hme⟩ : ∃ m, m = ns.length := ⟨_, rfl⟩
  have HM := Lib.hid hme
  rw [← hme] at HJ hn ⊢
  clear hme hX hin hE hm
  have HO0 := Lib.hid (Owns.one13 w 9 (K := IsStr) (u := .string (strOfNums nm)) ⟨_, rfl⟩ rfl (Nat.le_refl _))
  have HB0 := Lib.hid ((Below.refl w.heap.size w).alloc (Nat.le_refl _) (.cells #[.string (strOfNums nm)] 9))
  generalize hS : strOfNums nm = s0 at *
  have HS := Lib.hid hS
  clear hS
  go_enter Tryz.func32, Tryz.ntmps32
  go_wp2
  go_loopw [5, 7, 12] (fun v5 _ v12 wr => ∃ k : Nat, v12 = .int .i64 k ∧ Hid (k ≤ m ∧ Owns wr w.heap.size 9 1 IsStr v5 (k + 1) (strV (nm :: (ns.take k).map numL)) ∧ Below w.heap.size w wr)) (fun _ _ v12 _ => m - (intOf v12).toNat)
  case atStart => exact ⟨0, rfl, Lib.hid ⟨Nat.zero_le _, by have := HO0.out; rw [← HS.out] at this; simpa [strV, HS.out] using this, HB0.out⟩⟩
  case round =>
    obtain ⟨k, rfl, HR⟩ := hrel
    have hk := HR.out.1
    obtain ⟨A5, c5, he⟩ := owns_len HR.out.2.1
    subst he
    by_cases hlt : k < m
    · obtain ⟨b, off, cap, hVe, hcap, hb, hc⟩ := HX.out.plain (by have := HM.out; omega)
      injection hVe with e1 e2 e3
      subst e1
      subst e3
      have hcell : wr.cell? ⟨b, off + k, none⟩ = some (.int .i64 (ns.getD k 0)) := (HR.out.2.2.cell (p := ⟨b, off + k, none⟩) hb).trans (hc k (by have := HM.out; omega))
      have HT : Hid (ns.take (k + 1) = ns.take k ++ [ns.getD k 0] ∧ InI (ns.getD k 0)) := Lib.hid ⟨take_snoc' (by have := HM.out; omega), by
        have hlt2 : k < ns.length := by have := HM.out; omega
        have e : ns.getD k 0 = ns[k] := by simp [List.getD, List.getElem?_eq_getElem hlt2]
        rw [e]
        exact HIN.out _ (List.getElem_mem hlt2)⟩
      generalize ns.getD k 0 = x at *
      clear hc
      have HLen : Hid ((strV (nm :: (ns.take k).map numL)).length = k + 1) := by
        unfold strV
        simp only [List.length_map, List.length_cons, List.length_take]
        exact Lib.hid (by have := HM.out; omega)
      go_wp2_with (first
        | (go_at_call 30; (with_reducible refine (HI.out _ _ HT.out.2 (HE.out.grow HR.out.2.2)).mono ?_); rintro e w1 ⟨rfl, hb1⟩; have HB1 := Lib.hid hb1; have HO1 : Hid (Owns w1 w.heap.size 9 1 IsStr (.slice A5 (k + 1 : Nat) c5) (strV (nm :: (ns.take k).map numL)).length (strV (nm :: (ns.take k).map numL))) := (by rw [HLen.out]; exact Lib.hid (Owns.below HR.out.2.1 hb1 (Nat.le_refl _))); have HZ1 := Lib.hid (Nat.le_trans HR.out.2.2.size hb1.size); clear hb1)
        | (at_builtin; refine wpList_one1 rfl (.tmp 16) (.tmp 19) rfl Tryz.underlying74 strings_info rfl zero_str rfl rfl rfl HO1.out ⟨_, rfl⟩ rfl HZ1.out (by rw [HLen.out]; omega) (by decide) ?_; intro V' W' hM; have hO2 := hM.own; rw [List.length_append, HLen.out, List.length_singleton, strV_snoc] at hO2; have HO2 := Lib.hid hO2; have HMo := Lib.hid hM.bel; obtain ⟨A', c', he'⟩ := owns_len hO2; subst he'; clear hM hO2))
      go_roundw
      case rel =>
        refine ⟨k + 1, by go_num, Lib.hid ⟨by omega, ?_, (below_next HR.out.2.2 HB1.out HR.out.2.2.size).trans HMo.out⟩⟩
        rw [HT.out.1, List.map_append]
        exact HO2.out
      case measure => simp [intOf]; omega
    · have hkm : k = m := by omega
      subst hkm
      have hle := HR.out.2.1
      rw [List.take_of_length_le (by have := HM.out; omega)] at hle
      obtain ⟨g, hA5⟩ : ∃ g, A5 = some ⟨g, 0, none⟩ := by
        rcases hle.1.2 with ⟨h0, h00⟩ | ⟨g, _, _, h0, _⟩
        · cases h00
        · injection h0 with h0 _ _; exact ⟨g, h0⟩
      subst hA5
      have HG := Lib.hid hle
      have hcap : k + 1 ≤ c5 := by
        rcases hle.1.2 with ⟨h0, h00⟩ | ⟨_, _, _, h0, _, _, h3, _⟩
        · cases h00
        · injection h0 with _ _ h0; omega
      have HC : Hid (∀ i, i < k + 1 → wr.cell? ⟨g, 0 + i, none⟩ = some ((strV (nm :: ns.map numL)).getD i undef)) := Lib.hid (fun i hi => by
        have hl : (strV (nm :: ns.map numL)).length = k + 1 := by unfold strV; simp only [List.length_map, List.length_cons]; have := HM.out; omega
        have h := hle.1.cells (g := g) rfl i _ (List.getElem?_eq_getElem (show i < (strV (nm :: ns.map numL)).length by omega))
        rw [List.getD_eq_getElem?_getD, List.getElem?_eq_getElem (by omega)]
        rw [show (⟨g, 0, none⟩ : Addr).add i = ⟨g, 0 + i, none⟩ from by unfold Addr.add; split <;> simp_all] at h
        exact h)
      clear hle
      go_wp2_with (go_at_call 57; (with_reducible refine (HJ.out g 0 c5 _ HC.out (HG.out.lt rfl).2 hcap).mono ?_); rintro e w1 ⟨rfl, hb1⟩; have HB1 := Lib.hid hb1; clear hb1)
      go_ret
      exact ⟨rfl, below_next HR.out.2.2 HB1.out HR.out.2.2.size⟩
end Go.Proofs.YtohlifeenhaifaaGreatDoor
