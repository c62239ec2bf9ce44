/- The document's own numbers of words. Contract; no condition but that the words are short and few. -/
import Derived.Test.YtohlifeenhaifaaGreatDoorRef13F
namespace Go.Proofs.YtohlifeenhaifaaGreatDoor
open Go.RowKit Go.Shelf
set_option linter.unusedVariables false
set_option linter.unusedSimpArgs false

theorem numsP_app : ∀ (l : List (List Int)) (x : List Int), numsP (l ++ [x]) = (match numsP l, numP x with
    | some ns, some n => some (ns ++ [n])
    | _, _ => none)
  | [], x => by
    show (match numP x, numsP [] with
      | some n, some ns => some (n :: ns)
      | _, _ => none) = _
    cases h : numP x <;> rfl
  | w :: l, x => by
    show (match numP w, numsP (l ++ [x]) with
      | some n, some ns => some (n :: ns)
      | _, _ => none) = _
    rw [numsP_app l x]
    show _ = (match (match numP w, numsP l with
      | some n, some ns => some (n :: ns)
      | _, _ => none), numP x with
      | some ns, some n => some (ns ++ [n])
      | _, _ => none)
    cases h : numP w <;> cases h2 : numsP l <;> cases h3 : numP x <;> rfl
theorem numsP_bad : ∀ (l : List (List Int)) (x : List Int), x ∈ l → numP x = none → numsP l = none
  | w :: l, x, hm, hx => by
    rcases List.mem_cons.1 hm with h | h
    · subst h
      show (match numP x, numsP l with
        | some n, some ns => some (n :: ns)
        | _, _ => none) = none
      rw [hx]
    · show (match numP w, numsP l with
        | some n, some ns => some (n :: ns)
        | _, _ => none) = none
      rw [numsP_bad l x h hx]
      cases numP w <;> rfl
theorem numsP_len : ∀ (l : List (List Int)) (ns : List Int), numsP l = some ns → ns.length = l.length
  | [], ns, h => by cases h; rfl
  | w :: l, ns, h => by
    have h2 : (match numP w, numsP l with
      | some n, some ns => some (n :: ns)
      | _, _ => none) = some ns := h
    cases hw : numP w with
    | none => rw [hw] at h2; cases h2
    | some n =>
      cases hl : numsP l with
      | none => rw [hw, hl] at h2; cases h2
      | some ms =>
        rw [hw, hl] at h2
        cases h2
        simp [numsP_len l ms hl]
/-- What numbers leaves. -/
def NumbersDone (w : World) (o : Option (List Int)) (e : Ending) (w' : World) : Prop :=
  match o with
  | some ns => ∃ v, e = .returned (.tuple #[v, .bool true]) ∧ Owns w' w.heap.size 3 1 (IsNum .i64) v ns.length (ns.map (Value.int .i64)) ∧ Below w.heap.size w w'
  | none => e = .returned (.tuple #[.slice none 0 0, .bool false]) ∧ Below w.heap.size w w'
set_option maxRecDepth 100000 in
set_option maxHeartbeats 8000000 in
theorem rnumbers13_any (V : Value) (ws : List ByteArray) (w : World) (hV : IsStrs w w.heap.size V ws) (hl : ∀ x ∈ ws, x.size ≤ 4000) (hn : ws.length ≤ 100000) : Calls Tryz.prog 76 #[V] w (NumbersDone w (numsP (ws.map lettersOf))) := by
  have HV := Lib.hid hV
  have HL := Lib.hid hl
  have HO0 := Lib.hid (Owns.nil w w.heap.size 3 1 (IsNum .i64))
  have HB0 := Lib.hid (Below.refl w.heap.size w)
  obtain ⟨VA, vcap, rfl⟩ := hV.len
  clear hV hl
  obtain ⟨m, hm⟩ : ∃ m, m = ws.length := ⟨_, rfl⟩
  have HM := Lib.hid hm
  rw [← hm] at hn HV ⊢
  clear hm
  have HN := Lib.hid hn
  go_enter Tryz.func76, Tryz.ntmps76
  go_wp2
  go_loopw [4, 5, 6, 7] (fun v4 v5 _ _ wr => ∃ (i : Nat) (ns : List Int), v5 = .int .i64 i ∧ i ≤ m ∧ Hid (ns.length = i ∧ numsP ((ws.take i).map lettersOf) = some ns ∧ Owns wr w.heap.size 3 1 (IsNum .i64) v4 i (ns.map (Value.int .i64)) ∧ Below w.heap.size w wr)) (fun _ v5 _ _ _ => m - (intOf v5).toNat)
  case atStart => exact ⟨0, [], rfl, by omega, Lib.hid ⟨rfl, rfl, HO0.out, HB0.out⟩⟩
  case round =>
    obtain ⟨i, ns, rfl, hi, HR⟩ := hrel
    obtain ⟨A4, c4, he4⟩ := owns_len HR.out.2.2.1
    subst he4
    have i0 : (0 : Int) ≤ (i : Int) := by omega
    by_cases hlt : i < m
    · have i1 : (i : Int) < (m : Int) := by omega
      have hlw : i < ws.length := by rw [← HM.out]; exact hlt
      obtain ⟨b, off, cap, hVe, hcap, hb, hc⟩ := HV.out.plain (by omega)
      injection hVe with e1 e2 e3
      subst e1
      subst e3
      clear e2
      have hcell : wr.cell? ⟨b, off + i, none⟩ = some (.string (ws.getD i ⟨#[]⟩)) := (HR.out.2.2.2.cell (p := ⟨b, off + i, none⟩) hb).trans (hc i hlw)
      have hmem : ws.getD i ⟨#[]⟩ ∈ ws := by rw [List.getD_eq_getElem?_getD, List.getElem?_eq_getElem hlw]; exact List.getElem_mem hlw
      have HTK : Hid (ws.take (i + 1) = ws.take i ++ [ws.getD i ⟨#[]⟩]) := Lib.hid (by rw [List.take_succ_eq_append_getElem hlw, List.getD_eq_getElem?_getD, List.getElem?_eq_getElem hlw]; rfl)
      have HX := Lib.hid hmem
      generalize ws.getD i ⟨#[]⟩ = x at *
      have HNM := Lib.hid (rnumber13_any x (HL.out _ HX.out) wr)
      have HIM := Lib.hid hlt
      clear hc hmem hcap
      have hnx := HNM.out
      clear HNM
      unfold numA13 at hnx
      cases hp : numP (lettersOf x) with
      | none =>
        rw [hp] at hnx
        have HNM := Lib.hid hnx
        have HBD := Lib.hid (numsP_bad (ws.map lettersOf) (lettersOf x) (List.mem_map.2 ⟨x, HX.out, rfl⟩) hp)
        clear hnx hp
        go_wp2_with (go_at_call 14; (with_reducible refine HNM.out.mono ?_); rintro e w1 ⟨rfl, hb1⟩; have HB1 := Lib.hid (HR.out.2.2.2.trans (hb1.mono HR.out.2.2.2.size)); clear hb1)
        go_ret2
        rw [HBD.out]
        exact ⟨rfl, HB1.out⟩
      | some n =>
        rw [hp] at hnx
        have HNM := Lib.hid hnx
        have HNS : Hid (numsP ((ws.take (i + 1)).map lettersOf) = some (ns ++ [n])) := Lib.hid (by
          rw [HTK.out, List.map_append]
          show numsP ((ws.take i).map lettersOf ++ [lettersOf x]) = _
          rw [numsP_app, HR.out.2.1, hp])
        clear hnx hp
        have HLen : Hid ((ns.map (Value.int .i64)).length = i) := Lib.hid (by rw [List.length_map]; exact HR.out.1)
        have HI9 := Lib.hid (show i ≤ 1000000000 by omega)
        go_wp2_with (first
          | (go_at_call 14; (with_reducible refine HNM.out.mono ?_); rintro e w1 ⟨rfl, hb1⟩; have HB1 := Lib.hid (HR.out.2.2.2.trans (hb1.mono HR.out.2.2.2.size)); have HO1 : Hid (Owns w1 w.heap.size 3 1 (IsNum .i64) (.slice A4 i c4) (ns.map (Value.int .i64)).length (ns.map (Value.int .i64))) := Lib.hid (by rw [HLen.out]; exact HR.out.2.2.1.but (But.of_below (R := NoBlock) hb1) (fun _ _ h => h)); have HZ1 := Lib.hid HB1.out.size; clear hb1)
          | (at_builtin; refine wpList_one1 rfl (.tmp 24) (.tmp 26) rfl Tryz.underlying26 int_info rfl (zero_num .i64) rfl rfl rfl HO1.out ⟨n, rfl⟩ rfl HZ1.out (by rw [HLen.out]; exact HI9.out) (by decide) ?_; intro V' W' hM; have hO2 := hM.own; rw [List.length_append, HLen.out, List.length_singleton] at hO2; have HO2 := Lib.hid hO2; have HMo := Lib.hid hM.bel; obtain ⟨A', c', he'⟩ := owns_len hO2; subst he'; clear hM hO2))
        go_roundw
        case rel => exact ⟨i + 1, ns ++ [n], by first | rfl | trivial | go_num, by have := HIM.out; omega, Lib.hid ⟨by rw [List.length_append, HR.out.1]; rfl, HNS.out, by rw [List.map_append]; exact HO2.out, HB1.out.trans HMo.out⟩⟩
        case measure => have := HIM.out; simp [intOf]; omega
    · obtain rfl : m = i := by omega
      have hte : ws.take m = ws := List.take_of_length_le (by rw [← HM.out]; exact Nat.le_refl _)
      have hnp := HR.out.2.1
      rw [hte] at hnp
      have HNP := Lib.hid hnp
      clear hnp hte
      go_wp2
      go_ret2
      rw [HNP.out]
      exact ⟨_, rfl, by rw [HR.out.1]; exact HR.out.2.2.1, HR.out.2.2.2⟩
end Go.Proofs.YtohlifeenhaifaaGreatDoor
