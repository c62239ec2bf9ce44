/- Some of the chapter's examples (the statements' awake), and what stands between them: an instruction made, whether the next one may follow, a choice. Contracts; no condition. -/
import Derived.Test.YtbcfdjpnckikdaaCheck06
import Derived.Test.YtbcfdjpnckikdaaReads06
import Derived.Test.YtbcfdjpnckikdaaRefA06
namespace Go.Proofs.Ytbcfdjpnckikdaa
open Go.RowKit
set_option linter.unusedVariables false
set_option linter.unusedSimpArgs false

theorem of_any (a b c d e : Int) (w : World) : Calls Try.prog 21 #[.int .i64 a, .int .i64 b, .int .i64 c, .int .i64 d, .int .i64 e] w (Makes w (.agg (insCells a b c d e (.slice none 0 0)))) := by
  go_enter Try.func21, Try.ntmps21
  go_wp2
  exact bodyPost_ret (v := .agg (insCells a b c d e (.slice none 0 0))) (by simp [results, Try.results21, go_sem]) rfl ⟨rfl, (Below.refl _ _).alloc (Nat.le_refl _) _⟩
/-- May the next one be executed after it? -/
def fallsV (op : Int) : Bool := if op = 25 then false else if op = 29 then false else if op = 32 then false else opB op
theorem falls_any (op a b c n : Int) (X : Value) (w : World) : Calls Try.prog 26 #[.agg (insCells op a b c n X)] w (Makes w (.bool (fallsV op))) := by
  have HB := Lib.hid ((Below.refl w.heap.size w).alloc (Nat.le_refl _) (.cells (insCells op a b c n X) 28))

  by_cases h25 : op = 25
  · subst h25
    rw [show fallsV 25 = false from rfl]
    go_enter Try.func26, Try.ntmps26
    go_wp2
    go_ret
    exact ⟨rfl, HB.out⟩
  by_cases h29 : op = 29
  · subst h29
    rw [show fallsV 29 = false from rfl]
    go_enter Try.func26, Try.ntmps26
    go_wp2
    go_ret
    exact ⟨rfl, HB.out⟩
  by_cases h32 : op = 32
  · subst h32
    rw [show fallsV 32 = false from rfl]
    go_enter Try.func26, Try.ntmps26
    go_wp2
    go_ret
    exact ⟨rfl, HB.out⟩
  have hf : fallsV op = opB op := by unfold fallsV; rw [if_neg h25, if_neg h29, if_neg h32]
  have HE := Lib.hid (fun w => exists_any op w)
  have HF := Lib.hid hf
  have e1 : (op == 25) = false := by simpa using h25
  have e2 : (op == 29) = false := by simpa using h29
  have e3 : (op == 32) = false := by simpa using h32
  clear hf h25 h29 h32
  go_enter Try.func26, Try.ntmps26
  go_wp2_with (go_at_call 28; (with_reducible refine (HE.out _).mono ?_); rintro e w1 ⟨rfl, rfl⟩)
  go_ret
  rw [HF.out]
  exact ⟨rfl, HB.out⟩
/-- Closed: the chapter's examples. -/
def findD (s : ByteArray) : Int := match nameL.findIdx? (fun x => decide (x.data.toList = s.data.toList)) with | some k => k | none => -1
theorem find_data (s : ByteArray) : findV s = findD s := by
  unfold findV findD
  simp only [ByteArray.toList_eq]
  rfl
abbrev brnzS : ByteArray := ⟨#[98, 114, 110, 122]⟩
abbrev addS : ByteArray := ⟨#[97, 100, 100]⟩
abbrev addbS : ByteArray := ⟨#[97, 100, 100, 32]⟩
abbrev wclS : ByteArray := ⟨#[119, 99, 108]⟩
theorem find_brnz : findV brnzS = 27 := by rw [find_data]; decide +kernel
theorem find_addb : findV addbS = -1 := by rw [find_data]; decide +kernel
theorem name_add : nameI 3 = addS := by kernel_rfl
theorem name_33 : nameI 33 = ⟨#[]⟩ := by kernel_rfl
theorem shape_call : shapeI 28 = wclS := by kernel_rfl
theorem items_add : itemsOf (shapeI 3) 0 1 2 0 [] = [(119, 0), (114, 1), (114, 2)] := by decide +kernel
theorem items_store : itemsOf (shapeI 22) 4 5 0 8 [] = [(114, 4), (114, 5), (122, 8)] := by decide +kernel
theorem items_call : itemsOf (shapeI 28) 0 0 0 2 [3, 3] = [(119, 0), (99, 2), (108, 3), (108, 3)] := by decide +kernel
theorem items_brz : itemsOf (shapeI 26) 1 0 0 40 [] = [(114, 1), (116, 40)] := by decide +kernel
theorem check_1 : checkV 3 0 1 2 0 [] 3 0 = 0 := by decide +kernel
theorem check_2 : checkV 3 0 1 3 0 [] 3 0 = 5 := by decide +kernel
theorem check_3 : checkV 3 0 1 2 1 [] 3 0 = 2 := by decide +kernel
theorem check_4 : checkV 33 0 0 0 0 [] 3 0 = 16 := by decide +kernel
theorem check_5 : checkV 21 0 1 0 7 [] 2 0 = 0 := by decide +kernel
theorem check_6 : checkV 20 0 1 0 7 [] 2 0 = 5 := by decide +kernel
theorem check_7 : checkV 23 0 0 0 8 [] 1 8 = 0 := by decide +kernel
theorem check_8 : checkV 23 0 0 0 9 [] 1 8 = 5 := by decide +kernel
/-- A box of an instruction stands. -/
structure Held (w : World) (b' : Nat) (op a b c n : Int) (X : Value) : Prop where
  six : SixC w b' op a b c n X
  lt : b' < w.heap.size
theorem Held.below {w w' : World} {b' : Nat} {op a b c n : Int} {X : Value} (h : Held w b' op a b c n X) (hb : Below w.heap.size w w') : Held w' b' op a b c n X :=
  ⟨six_below h.six hb h.lt, Nat.lt_of_lt_of_le h.lt hb.size⟩
theorem Held.new (w : World) (op a b c n : Int) (X : Value) (t : TypeId) : Held (w.alloc (.cells (insCells op a b c n X) t)) w.heap.size op a b c n X :=
  ⟨cells6 (heap_alloc_new _ _), by simp⟩
theorem Held.alloc {w : World} {b' : Nat} {op a b c n : Int} {X : Value} (h : Held w b' op a b c n X) (o : Obj) : Held (w.alloc o) b' op a b c n X := h.below ((Below.refl _ _).alloc (Nat.le_refl _) _)
theorem Held.drewN {w : World} {b' : Nat} {op a b c n : Int} {X : Value} (h : Held w b' op a b c n X) (k : Nat) : Held (w.drewN k) b' op a b c n X := ⟨h.six, h.lt⟩
theorem reads_nums {w w' : World} {base B : Nat} {v : Value} {xs : List Int} (h : w.ownsRow base 3 1 v xs.length (xs.map (Value.int .i64))) (hB : w.heap.size ≤ B) : IsNums .i64 w B v xs := by
  rcases h.2 with ⟨rfl, h0⟩ | ⟨g, cap, cur, rfl, h1, h2, h3, h4, h5, h6⟩
  · have : xs = [] := List.eq_nil_of_length_eq_zero h0
    subst this
    exact ⟨by simp, .inl ⟨rfl, rfl⟩⟩
  · refine ⟨by omega, .inr ⟨⟨g, 0, none⟩, cap, rfl, h3, fun _ => ?_, fun i hi => ?_⟩⟩
    · have := (h.lt g (by simp [Value.ownBlock])).2
      show g < B
      omega
    · exact h.cells (g := g) rfl i _ (by simp [List.getElem?_eq_getElem hi, List.getD])
theorem two_nums (w : World) (x y : Int) : IsNums .i64 (w.alloc (.cells #[.int .i64 x, .int .i64 y] 3)) (w.heap.size + 1) (.slice (some ⟨w.heap.size, 0, none⟩) 2 2) [x, y] :=
  IsNums.of_row (xs := [x, y]) (heap_alloc_new w _) (Nat.lt_succ_self _) (by simp [maxLen]) (Nat.le_refl 2)
set_option maxHeartbeats 4000000 in
set_option maxRecDepth 100000 in
theorem awake_any (w : World) : Calls Try.prog 8 #[] w (Makes w (.bool true)) := by
  have HO := Lib.hid (fun w => of_any 3 0 1 2 0 w)
  have hN := fun w => name_any 3 w
  rw [name_add] at hN
  have HN := Lib.hid hN
  have hF := fun w => find_any brnzS w
  rw [find_brnz] at hF
  have HF := Lib.hid hF
  have hS := fun w => shape_any 28 w
  rw [shape_call] at hS
  have HS := Lib.hid hS
  have hC := fun w => check_any 3 0 1 2 0 (.slice none 0 0) [] 3 0 w (nums_nil _ _)
  rw [check_1] at hC
  have HC := Lib.hid hC
  have hR := fun w => reads_any 3 0 1 2 0 (.slice none 0 0) [] w (nums_nil _ _) (by rw [items_add]; decide)
  rw [items_add, show readsV [(119, 0), (114, 1), (114, 2)] = [1, 2] from by decide +kernel] at hR
  have HR := Lib.hid hR
  have hW := fun w => writes_any 3 0 1 2 0 (.slice none 0 0) [] w (nums_nil _ _)
  rw [items_add, show firstV 119 [(119, 0), (114, 1), (114, 2)] = 0 from by decide +kernel] at hW
  have HW := Lib.hid hW
  have hL := fun w => falls_any 3 0 1 2 0 (.slice none 0 0) w
  rw [show fallsV 3 = true from by decide +kernel] at hL
  have HL := Lib.hid hL
  clear hN hF hS hC hR hW hL
  go_enter Try.func8, Try.ntmps8
  go_wp2_with (first
    | (go_at_call 21; (with_reducible refine (HO.out _).mono ?_); rintro e w1 ⟨rfl, hb⟩; have B1 := Lib.hid hb; clear hb; have H1 := Lib.hid (Held.new w1 3 0 1 2 0 (.slice none 0 0) 28); have A1 := Lib.hid (B1.out.alloc B1.out.size (.cells (insCells 3 0 1 2 0 (.slice none 0 0)) 28)))
    | (go_at_call 9; (with_reducible refine (HN.out _).mono ?_); rintro e w2 ⟨rfl, hb⟩; have B2 := Lib.hid hb; clear hb; have H2 := Lib.hid (H1.out.below B2.out); have A2 := Lib.hid (A1.out.trans (B2.out.mono A1.out.size)))
    | (go_at_call 13; (with_reducible refine (HF.out _).mono ?_); rintro e w3 ⟨rfl, hb⟩; have B3 := Lib.hid hb; clear hb; have H3 := Lib.hid (H2.out.below B3.out); have A3 := Lib.hid (A2.out.trans (B3.out.mono A2.out.size)))
    | (go_at_call 11; (with_reducible refine (HS.out _).mono ?_); rintro e w4 ⟨rfl, hb⟩; have B4 := Lib.hid hb; clear hb; have H4 := Lib.hid (H3.out.below B4.out); have A4 := Lib.hid (A3.out.trans (B4.out.mono A3.out.size)); obtain ⟨k40, k41, k42, k43, k44, k45⟩ := H4.out.six)
    | (go_at_call 16; (with_reducible refine (HC.out _).mono ?_); rintro e w5 ⟨rfl, hb⟩; have B5 := Lib.hid hb; clear hb; have H5 := Lib.hid (H4.out.below B5.out); have A5 := Lib.hid (A4.out.trans (B5.out.mono A4.out.size)); obtain ⟨k50, k51, k52, k53, k54, k55⟩ := H5.out.six)
    | (go_at_call 23; (with_reducible refine (HR.out _).mono ?_); rintro e w6 ⟨v, rfl, hv, hb⟩; have B6 := Lib.hid hb; have N6 := Lib.hid ((reads_nums (w' := w6) hv (Nat.le_refl _)).below ((Below.refl _ _).alloc (Nat.le_refl _) (.cells #[.int .i64 1, .int .i64 2] 3)) (Nat.le_refl _)); have Y6 := Lib.hid (two_nums w6 1 2); clear hb hv; have H6 := Lib.hid ((H5.out.below B6.out).alloc (.cells #[.int .i64 1, .int .i64 2] 3)); have A6 := Lib.hid ((A5.out.trans (B6.out.mono A5.out.size)).alloc (Nat.le_trans A5.out.size B6.out.size) (.cells #[.int .i64 1, .int .i64 2] 3)))
    | (go_at_call 22; (with_reducible refine (sameInts_any _ _ [1, 2] [1, 2] _ _ _ N6.out Y6.out).mono ?_); rintro e w7 ⟨rfl, kd, rfl⟩; have H7 := Lib.hid (H6.out.drewN kd); have A7 := Lib.hid (below_drewN A6.out kd); obtain ⟨k70, k71, k72, k73, k74, k75⟩ := H7.out.six)
    | (go_at_call 24; (with_reducible refine (HW.out _).mono ?_); rintro e w8 ⟨rfl, hb⟩; have B8 := Lib.hid hb; clear hb; have H8 := Lib.hid (H7.out.below B8.out); have A8 := Lib.hid (A7.out.trans (B8.out.mono A7.out.size)); obtain ⟨k80, k81, k82, k83, k84, k85⟩ := H8.out.six)
    | (go_at_call 26; (with_reducible refine (HL.out _).mono ?_); rintro e w9 ⟨rfl, hb⟩; have B9 := Lib.hid hb; clear hb; have H9 := Lib.hid (H8.out.below B9.out); have A9 := Lib.hid (A8.out.trans (B9.out.mono A8.out.size))))
  go_ret
  exact ⟨rfl, A9.out⟩

end Go.Proofs.Ytbcfdjpnckikdaa
