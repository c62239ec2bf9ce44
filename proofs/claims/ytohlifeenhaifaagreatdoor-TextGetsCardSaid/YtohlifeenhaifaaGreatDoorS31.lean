/- Lemmas of Text13M, Text13N, Text13O, Text13P, Range13, Split13, Text13Q, each with its own remark. -/
import Derived.Test.YtohlifeenhaifaaGreatDoorS30
import Derived.Test.YtohlifeenhaifaaGreatDoorS03
import Derived.Test.YtohlifeenhaifaaGreatDoorS27
import Derived.RangeFuncNested
import Derived.RangeFuncBound
import Derived.RangeFuncCalls
import Derived.RangeFuncLeaves
import Derived.Shelf.RegionOpen
import Derived.WalkKit
import Derived.OwnWalkIn
import Derived.TacticsInMore
import Derived.LoopNIn
import Derived.LoopIn
import Derived.Test.YtohlifeenhaifaaGreatDoorS01
import Derived.Test.YtohlifeenhaifaaGreatDoorS28
/- (Text13M) A line's reading, as the landed reader goes about it. Plain mathematics. -/
namespace Go.Proofs.YtohlifeenhaifaaGreatDoor
open Go.RowKit Go.Shelf
set_option linter.unusedVariables false
set_option linter.unusedSimpArgs false

theorem findV_W (s : ByteArray) : findV s = findW (lettersOf s) := by
  unfold findV findW
  rw [List.findIdx?_map]
  have e : (fun x : ByteArray => decide (x.toList = s.toList)) = (fun x => decide (x = lettersOf s)) ∘ lettersOf := by
    funext x
    have := text_beq x s
    simp only [Function.comp]
    by_cases h : x.toList = s.toList
    · rw [h] at this
      simp at this
      simp [h, this]
    · have h2 : (x.toList == s.toList) = false := by simpa using h
      rw [h2] at this
      simp [h]
      exact fun e => by rw [e] at this; simp at this
  rw [e]
  cases List.findIdx? ((fun x => decide (x = lettersOf s)) ∘ lettersOf) nameL <;> rfl
theorem suf13 (op : Int) : Lib.hasSuffix (shapeI op).data.toList [108] = conL (lettersOf (shapeI op)) := by
  unfold shapeI
  split
  · rename_i h
    have hall : ∀ k, k < 33 → Lib.hasSuffix (shapeB k).data.toList [108] = conL (lettersOf (shapeB k)) := by decide +kernel
    exact hall _ (by omega)
  · rfl
theorem cnt_no (mm : Nat) : ∀ (L : List Int), conL L = false → cntL mm L = L.length
  | [], _ => rfl
  | q :: L, h => by
    have hc : q ≠ 108 := by rintro rfl; simp [conL] at h
    have h2 : conL L = false := by simpa [conL, hc] using h
    simp only [cntL, if_neg hc, List.length_cons, cnt_no mm L h2]
    omega
theorem cnt_yes (mm : Nat) : ∀ (L : List Int), lastQ13 L = true → conL L = true → cntL mm L + 1 = L.length + mm
  | [], _, h => by simp [conL] at h
  | q :: L, hl, h => by
    by_cases hc : q = 108
    · subst hc
      simp only [lastQ13, if_true] at hl
      have hL : L = [] := by simpa using hl
      subst hL
      simp [cntL]
      omega
    · simp only [lastQ13, if_neg hc] at hl
      have h2 : conL L = true := by simpa [conL, hc] using h
      have := cnt_yes mm L hl h2
      simp only [cntL, if_neg hc, List.length_cons]
      omega
theorem fld_some : ∀ (L l : List Int) (s : RdV), lastQ13 L = true → ((fldG L l s).isSome = true ↔ if conL L then L.length ≤ l.length + 1 ∧ l.length + 1 ≤ L.length + 8 else l.length = L.length)
  | [], l, s, _ => by
    cases l <;> simp [fldG, conL]
  | q :: L, l, s, hl => by
    by_cases hc : q = 108
    · subst hc
      simp only [lastQ13, if_true] at hl
      have hL : L = [] := by simpa using hl
      subst hL
      simp only [fldG, if_true]
      have e : conL [108] = true := by simp [conL]
      rw [e]
      simp only [if_true, List.length_cons, List.length_nil]
      split
      · simp; omega
      · simp; omega
    · simp only [lastQ13, if_neg hc] at hl
      have e : conL (q :: L) = conL L := by simp [conL, hc]
      rw [e]
      simp only [fldG, if_neg hc]
      cases l with
      | nil =>
        simp only [Option.isSome_none, Bool.false_eq_true, false_iff, List.length_cons, List.length_nil]
        split
        · rename_i hC
          have : L ≠ [] := by rintro rfl; simp [conL] at hC
          have := List.length_pos_iff.2 this
          omega
        · omega
      | cons x l =>
        rw [fld_some L l _ hl]
        simp only [List.length_cons]
        split <;> omega
def mmO (op : Int) (n : Nat) : Nat := if conL (lettersOf (shapeI op)) then min 8 (n + 1 - (lettersOf (shapeI op)).length) else 0
theorem mmO_le (op : Int) (n : Nat) : mmO op n ≤ 8 := by unfold mmO; split <;> omega
theorem fields_cnt (op : Int) (n : Nat) : fieldsP op (List.replicate n 0) = none ↔ n ≠ cntL (mmO op n) (lettersOf (shapeI op)) := by
  have h := fld_some (lettersOf (shapeI op)) (List.replicate n 0) ⟨0, [], 0, []⟩ (last_shape op)
  have hl := last_shape op
  rw [List.length_replicate] at h
  unfold fieldsP
  rw [Option.map_eq_none_iff, ← Option.not_isSome_iff_eq_none, h]
  unfold mmO
  by_cases hC : conL (lettersOf (shapeI op)) = true
  · rw [hC]
    simp only [if_true]
    have := cnt_yes (min 8 (n + 1 - (lettersOf (shapeI op)).length)) _ hl hC
    omega
  · have hCf : conL (lettersOf (shapeI op)) = false := by simpa using hC
    rw [hCf]
    simp only [Bool.false_eq_true, if_false]
    rw [cnt_no _ _ hCf]
theorem line_bytes {m : ModV} {ws : List (List Int)} (h : ws.headD [] = bytesW) (hf : m.funcs = []) : (lineP m ws).2 = dataE ws.tail ∧ ∀ ns, dataE ws.tail = 0 → numsP ws.tail = some ns → (lineP m ws).1 = ⟨m.data ++ ns, m.funcs⟩ := by
  unfold lineP dataE
  rw [if_pos h, if_neg (by simp [hf])]
  cases hn : numsP ws.tail with
  | none => exact ⟨rfl, fun ns h => by simp at h⟩
  | some n =>
    simp only
    have e : (fun x => decide (0 ≤ x ∧ x ≤ 255)) = byteB := rfl
    rw [e]
    split
    · exact ⟨rfl, fun ns _ h => by injection h with h; rw [h]⟩
    · exact ⟨rfl, fun ns h => by simp at h⟩
theorem line_bytes_in {m : ModV} {ws : List (List Int)} (h : ws.headD [] = bytesW) (hf : m.funcs ≠ []) : (lineP m ws).2 = 10 := by
  unfold lineP
  rw [if_pos h, if_pos hf]
theorem bytes_func : bytesW ≠ funcW := by decide
theorem line_func {m : ModV} {ws : List (List Int)} (hw : ws ≠ []) (h : ws.headD [] = funcW) : (lineP m ws).2 = fillE ws.tail 3 ∧ ∀ ns, fillE ws.tail 3 = 0 → numsP ws.tail = some ns → (lineP m ws).1 = ⟨m.data, m.funcs ++ [funOf ns]⟩ := by
  have hl : ws.length = ws.tail.length + 1 := by cases ws with
    | nil => exact absurd rfl hw
    | cons a l => simp
  unfold lineP fillE
  rw [if_neg (by rw [h]; exact fun e => bytes_func e.symm), if_pos h]
  by_cases h4 : ws.length = 4
  · rw [if_neg (by omega), if_neg (by omega)]
    cases hn : numsP ws.tail with
    | none => exact ⟨rfl, fun ns h => by simp at h⟩
    | some n => exact ⟨by simp, fun ns _ h => by injection h with h; rw [← h]; rfl⟩
  · rw [if_pos h4, if_pos (by omega)]
    exact ⟨rfl, fun ns h => by simp at h⟩
theorem line_ins {m : ModV} {ws : List (List Int)} (hw : ws ≠ []) (h1 : ws.headD [] ≠ bytesW) (h2 : ws.headD [] ≠ funcW) (h3 : 0 ≤ findW (ws.headD [])) (hf : m.funcs ≠ []) :
    (lineP m ws).2 = fillE ws.tail (cntL (mmO (findW (ws.headD [])) ws.tail.length) (lettersOf (shapeI (findW (ws.headD []))))) ∧
    ∀ ns y, (lineP m ws).2 = 0 → numsP ws.tail = some ns → fieldsP (findW (ws.headD [])) ns = some y → (lineP m ws).1 = ⟨m.data, addC m.funcs y⟩ := by
  have hl : ws.length - 1 = ws.tail.length := by simp
  have hc := fields_cnt (findW (ws.headD [])) ws.tail.length
  unfold lineP fillE
  rw [if_neg h1, if_neg h2, if_pos h3, hl]
  by_cases hn : ws.tail.length ≠ cntL (mmO (findW (ws.headD [])) ws.tail.length) (lettersOf (shapeI (findW (ws.headD []))))
  · rw [if_pos hn, if_pos (.inr (hc.2 hn))]
    exact ⟨rfl, fun ns y h => by simp at h⟩
  · rw [if_neg hn, if_neg (by rintro (h | h); exact hf h; exact hn (hc.1 h))]
    cases hm : numsP ws.tail with
    | none => exact ⟨rfl, fun ns y h => by simp at h⟩
    | some n =>
      refine ⟨by simp, fun ns y _ h hy => ?_⟩
      injection h with h
      subst h
      simp only [hy, Option.getD_some]
theorem line_out {m : ModV} {ws : List (List Int)} (h1 : ws.headD [] ≠ bytesW) (h2 : ws.headD [] ≠ funcW) (h : findW (ws.headD []) < 0 ∨ m.funcs = []) : (lineP m ws).2 = 10 := by
  unfold lineP
  rw [if_neg h1, if_neg h2]
  by_cases h3 : 0 ≤ findW (ws.headD [])
  · rw [if_pos h3, if_pos (.inl (by rcases h with h | h; omega; exact h))]
  · rw [if_neg h3]
theorem find_low (w : List Int) : -1 ≤ findW w ∧ findW w < 33 := by
  by_cases h : 0 ≤ findW w
  · obtain ⟨h1, h2, _⟩ := find_name13 h
    omega
  · unfold findW at h ⊢
    split
    · rename_i k hk
      rw [hk] at h
      simp at h
    · omega
theorem find_bytes : findW bytesW = -1 ∧ findW funcW = -1 := by decide +kernel
end Go.Proofs.YtohlifeenhaifaaGreatDoor

/- (Text13N) The landed reader: a line. Contract; no condition but what it names. -/
namespace Go.Proofs.YtohlifeenhaifaaGreatDoor
open Go.RowKit Go.Shelf
set_option linter.unusedVariables false
set_option linter.unusedSimpArgs false

def LineDone13 (base rb : Nat) (m : ModV) (w : World) (ws : List (List Int)) (e : Ending) (w' : World) : Prop :=
  e = .returned (.int .i64 (lineR m ws).2) ∧ Wr13 rb base w w' ∧ ((lineR m ws).2 = 0 → ∃ b0 D F Cs, Rdr13 base b0 w' rb D F (lineR m ws).1 Cs)
theorem slice_tail (A off n cap : Nat) (hc : n + 1 ≤ cap) : ∃ o' c', n ≤ c' ∧ (0 < n → o' = off + 1) ∧ ∀ W, (Instr.slice 74 (.slice (some ⟨A, off, none⟩) (n + 1) cap) (some (.int .i64 1)) none none).run Tryz.prog W = .ok (.slice (some ⟨A, o', none⟩) n c') W := by
  by_cases h1 : cap = 1
  · subst h1
    have hn : n = 0 := by omega
    subst hn
    refine ⟨off, 0, Nat.le_refl _, fun h => absurd h (by omega), fun W => ?_⟩
    simp [go_sem, Tryz.underlying74, Tryz.sizeOf9]
  · refine ⟨off + 1, cap - 1, by omega, fun _ => rfl, fun W => ?_⟩
    simp [go_sem, Tryz.underlying74, Tryz.sizeOf9, h1]
    intro h; omega
theorem strs_tail {w : World} {A off n cap : Nat} {s0 : ByteArray} {r : List ByteArray} (h : Strs13 w (.slice (some ⟨A, off, none⟩) (n + 1) cap) (s0 :: r)) (hn : r.length = n) : n + 1 ≤ cap ∧ w.cell? ⟨A, off, none⟩ = some (.string s0) ∧ ∀ o' c', n ≤ c' → (0 < n → o' = off + 1) → Strs13 w (.slice (some ⟨A, o', none⟩) n c') r := by
  obtain ⟨h0, A2, off2, cap2, c, e, h1, h2, h3⟩ := h
  injection e with e1 _ e3
  injection e1 with e1
  injection e1 with e1 e2 _
  subst e1 e2 e3
  have hl : (s0 :: r).length = n + 1 := by simp [hn]
  refine ⟨by omega, h3 0 (by simp), fun o' c' hc ho => ⟨by simp at h0; omega, A, o', c', c, by rw [hn], by omega, h2, fun i hi => ?_⟩⟩
  rw [ho (by omega)]
  have := h3 (i + 1) (by rw [hl]; omega)
  rw [show off + 1 + i = off + (i + 1) by omega, this]
  simp
/-- An empty line. -/
theorem line13_none (V : Value) (base b0 rb : Nat) (D F : Value) (m : ModV) (Cs : List Value) (w : World) (hR : Rdr13 base b0 w rb D F m Cs) (hV : Strs13 w V []) :
    Calls Tryz.prog 38 #[.pointer (some ⟨rb, 0, none⟩), V] w (LineDone13 base rb m w []) := by
  obtain ⟨A, off, cap, rfl, -⟩ := hV.at
  have HR := Lib.hid hR
  clear hR hV
  go_enter Tryz.func38, Tryz.ntmps38
  go_wp2
  go_ret
  exact ⟨rfl, Wr13.refl _ _ _, fun _ => ⟨_, _, _, _, HR.out⟩⟩
set_option maxRecDepth 100000 in
set_option maxHeartbeats 16000000 in
theorem line13_bytes (V : Value) (s0 : ByteArray) (r : List ByteArray) (base b0 rb : Nat) (D F : Value) (m : ModV) (Cs : List Value) (w0 w : World) (hE : Env13 w0) (h0 : Below w0.heap.size w0 w) (hB : w0.heap.size ≤ base ∧ w0.heap.size ≤ rb) (hbw : base ≤ w.heap.size)
    (hR : Rdr13 base b0 w rb D F m Cs) (hV : Strs13 w V (s0 :: r)) (hsz : ∀ x ∈ s0 :: r, x.size ≤ 4294967295) (hm : m.data.length + r.length ≤ 900000000) (hn : lettersOf s0 = bytesW) (hf : m.funcs = []) :
    Calls Tryz.prog 38 #[.pointer (some ⟨rb, 0, none⟩), V] w (LineDone13 base rb m w ((s0 :: r).map lettersOf)) := by
  obtain ⟨A, off, cap, hVe, -⟩ := hV.at
  obtain ⟨n, hne⟩ : ∃ n, r.length = n := ⟨_, rfl⟩
  rw [show (s0 :: r).length = n + 1 by simp [hne]] at hVe
  subst hVe
  obtain ⟨hcap, hc0, hst⟩ := strs_tail hV hne
  obtain ⟨o', c', hcc, hoo, hsl⟩ := slice_tail A off n cap hcap
  have HV := Lib.hid (hst o' c' hcc hoo)
  obtain ⟨FA, fc, hFe⟩ := owns_len hR.fns.fn.own
  have hnf : m.funcs.length = 0 := by rw [hf]; rfl
  rw [hnf] at hFe
  subst hFe
  have HLP := Lib.hid (line_bytes (m := m) (ws := (s0 :: r).map lettersOf) hn hf)
  have HFind : Hid (∀ W, Calls Tryz.prog 63 #[.string s0] W (Makes W (.int .i64 (-1)))) := Lib.hid (fun W => by
    have h := find_any s0 W
    rw [findV_W, hn, find_bytes.1] at h
    exact h)
  have HShape : Hid (∀ W, Calls Tryz.prog 56 #[.int .i64 (-1)] W (Makes W (.string ⟨#[]⟩))) := Lib.hid (fun W => shape_any (-1) W)
  have HD : Hid (∀ W, Below w.heap.size w W → Calls Tryz.prog 64 #[.pointer (some ⟨rb, 0, none⟩), .slice (some ⟨A, o', none⟩) n c'] W (DataDone13 base b0 rb (.slice FA 0 fc) m Cs W (r.map lettersOf))) := Lib.hid (fun W hb =>
    data13_any _ r base b0 rb D _ m Cs w0 W hE (h0.trans (hb.mono h0.size)) hB (Nat.le_trans hbw hb.size) (hR.grow hb) ((hst o' c' hcc hoo).grow hb) (fun x hx => hsz x (List.mem_cons_of_mem _ hx)) (by omega))
  have t0 : (s0.toList == [98, 121, 116, 101, 115]) = true := by
    have h := text_beq s0 ⟨#[98, 121, 116, 101, 115]⟩
    rw [show (⟨#[98, 121, 116, 101, 115]⟩ : ByteArray).toList = [98, 121, 116, 101, 115] by decide +kernel, hn] at h
    rw [h]
    decide +kernel
  have hc1 := hR.cells.2
  have HB := Lib.hid hbw
  have HRl := Lib.hid hR.lt
  clear hE h0 hB hbw hR hV hsz hm hn hf hcap hst hcc hoo hne hnf
  go_enter Tryz.func38, Tryz.ntmps38
  go_wp2
  go_quiet (fail)
  have hbq := below_drewN (Below.refl w.heap.size w) nq
  have hc1q : (w.drewN nq).cell? ⟨rb, 1, none⟩ = some (.slice FA 0 fc) := hc1
  obtain ⟨W1, hW1⟩ : ∃ W1, W1 = w.drewN nq := ⟨_, rfl⟩
  rw [← hW1] at hbq hc1q ⊢
  have HB1 := Lib.hid hbq
  clear hc1 hW1 hbq
  go_wp2_with (first
    | (go_at_call 63; (with_reducible refine (HFind.out _).mono ?_); rintro e W2 ⟨rfl, hb2⟩; have HB2 := Lib.hid hb2; clear hb2)
    | (go_at_call 56; (with_reducible refine (HShape.out _).mono ?_); rintro e W3 ⟨rfl, hb3⟩; have HB3 := Lib.hid (Below.trans (HB1.out.trans ((HB2.out.alloc HB2.out.size _).mono HB1.out.size)) (hb3.mono (by have h1 := HB1.out.size; have h2 := HB2.out.size; simp; omega))); clear hb3)
    | (go_at_call 64; (with_reducible refine (HD.out _ HB3.out).mono ?_); rintro e W4 ⟨D', ns, rfl, hr4, hb4, hok⟩; have HR4 := Lib.hid hr4; have HB4 := Lib.hid hb4; have HOK := Lib.hid hok; clear hr4 hb4 hok))
  go_ret
  refine ⟨?_, (Wr13.of_below HB3.out).trans HB4.out, fun h => ?_⟩
  · show _ = Ending.returned (.int .i64 (lineP m ((s0 :: r).map lettersOf)).2)
    rw [HLP.out.1]
    rfl
  · have h' : dataE (r.map lettersOf) = 0 := by
      have h2 : (lineP m ((s0 :: r).map lettersOf)).2 = 0 := h
      rw [HLP.out.1] at h2
      exact h2
    have e := HLP.out.2 ns h' (HOK.out h')
    exact ⟨b0, D', _, Cs, by show Rdr13 _ _ _ _ _ _ (lineP m ((s0 :: r).map lettersOf)).1 _; rw [e]; exact HR4.out⟩

theorem bytesB_no {s0 : ByteArray} (h : lettersOf s0 ≠ bytesW) : (s0.toList == [98, 121, 116, 101, 115]) = false := by
  have e := text_beq s0 ⟨#[98, 121, 116, 101, 115]⟩
  rw [show (⟨#[98, 121, 116, 101, 115]⟩ : ByteArray).toList = [98, 121, 116, 101, 115] by decide +kernel] at e
  rw [e, beq_eq_false_iff_ne]
  exact h
theorem bytesB_yes {s0 : ByteArray} (h : lettersOf s0 = bytesW) : (s0.toList == [98, 121, 116, 101, 115]) = true := by
  have e := text_beq s0 ⟨#[98, 121, 116, 101, 115]⟩
  rw [show (⟨#[98, 121, 116, 101, 115]⟩ : ByteArray).toList = [98, 121, 116, 101, 115] by decide +kernel] at e
  rw [e, h]
  decide +kernel
theorem funcB_no {s0 : ByteArray} (h : lettersOf s0 ≠ funcW) : (s0.toList == [102, 117, 110, 99]) = false := by
  have e := text_beq s0 ⟨#[102, 117, 110, 99]⟩
  rw [show (⟨#[102, 117, 110, 99]⟩ : ByteArray).toList = [102, 117, 110, 99] by decide +kernel] at e
  rw [e, beq_eq_false_iff_ne]
  exact h
theorem funcB_yes {s0 : ByteArray} (h : lettersOf s0 = funcW) : (s0.toList == [102, 117, 110, 99]) = true := by
  have e := text_beq s0 ⟨#[102, 117, 110, 99]⟩
  rw [show (⟨#[102, 117, 110, 99]⟩ : ByteArray).toList = [102, 117, 110, 99] by decide +kernel] at e
  rw [e, h]
  decide +kernel
theorem rdr_fn {base b0 rb : Nat} {D F : Value} {m : ModV} {Cs : List Value} {w : World} (hR : Rdr13 base b0 w rb D F m Cs) : ∃ FA fc, F = .slice FA m.funcs.length fc := owns_len hR.fns.fn.own
set_option maxRecDepth 100000 in
set_option maxHeartbeats 16000000 in
theorem line13_func (V : Value) (s0 : ByteArray) (r : List ByteArray) (base b0 rb : Nat) (D F : Value) (m : ModV) (Cs : List Value) (w0 w : World) (hE : Env13 w0) (h0 : Below w0.heap.size w0 w) (hB : w0.heap.size ≤ base ∧ w0.heap.size ≤ rb) (hbw : base ≤ w.heap.size)
    (hR : Rdr13 base b0 w rb D F m Cs) (hV : Strs13 w V (s0 :: r)) (hsz : ∀ x ∈ s0 :: r, x.size ≤ 4294967295) (hm : m.funcs.length ≤ 900000) (hn : lettersOf s0 = funcW) :
    Calls Tryz.prog 38 #[.pointer (some ⟨rb, 0, none⟩), V] w (LineDone13 base rb m w ((s0 :: r).map lettersOf)) := by
  obtain ⟨A, off, cap, hVe, -⟩ := hV.at
  obtain ⟨n, hne⟩ : ∃ n, r.length = n := ⟨_, rfl⟩
  rw [show (s0 :: r).length = n + 1 by simp [hne]] at hVe
  subst hVe
  obtain ⟨hcap, hc0, hst⟩ := strs_tail hV hne
  obtain ⟨o', c', hcc, hoo, hsl⟩ := slice_tail A off n cap hcap
  obtain ⟨FA, fc, hFe⟩ := rdr_fn hR
  subst hFe
  have HLP := Lib.hid (line_func (m := m) (ws := (s0 :: r).map lettersOf) (by simp) hn)
  have HFind : Hid (∀ W, Calls Tryz.prog 63 #[.string s0] W (Makes W (.int .i64 (-1)))) := Lib.hid (fun W => by
    have h := find_any s0 W
    rw [findV_W, hn, find_bytes.2] at h
    exact h)
  have HShape : Hid (∀ W, Calls Tryz.prog 56 #[.int .i64 (-1)] W (Makes W (.string ⟨#[]⟩))) := Lib.hid (fun W => shape_any (-1) W)
  have HD : Hid (∀ W, Below w.heap.size w W → Calls Tryz.prog 65 #[.pointer (some ⟨rb, 0, none⟩), .slice (some ⟨A, o', none⟩) n c'] W (FunDone13 base rb D m Cs W (r.map lettersOf))) := Lib.hid (fun W hb =>
    function13_any _ r base b0 rb D _ m Cs w0 W hE (h0.trans (hb.mono h0.size)) hB (Nat.le_trans hbw hb.size) (hR.grow hb) ((hst o' c' hcc hoo).grow hb) (fun x hx => hsz x (List.mem_cons_of_mem _ hx)) (by omega))
  have t0 := bytesB_no (s0 := s0) (by rw [hn]; exact fun e => bytes_func e.symm)
  have t1 := funcB_yes hn
  have hc1 := hR.cells.2
  have HRl := Lib.hid hR.lt
  clear hE h0 hB hbw hR hV hsz hm hn hcap hst hcc hoo hne
  generalize m.funcs.length = nf at *
  go_enter Tryz.func38, Tryz.ntmps38
  go_wp2
  go_quiet (fail)
  have hbq := below_drewN (Below.refl w.heap.size w) nq
  have hc1q : (w.drewN nq).cell? ⟨rb, 1, none⟩ = some (.slice FA nf fc) := hc1
  obtain ⟨W1, hW1⟩ : ∃ W1, W1 = w.drewN nq := ⟨_, rfl⟩
  rw [← hW1] at hbq hc1q ⊢
  have HB1 := Lib.hid hbq
  clear hc1 hW1 hbq
  go_wp2_with (first
    | (go_at_call 63; (with_reducible refine (HFind.out _).mono ?_); rintro e W2 ⟨rfl, hb2⟩; have HB2 := Lib.hid hb2; clear hb2)
    | (go_at_call 56; (with_reducible refine (HShape.out _).mono ?_); rintro e W3 ⟨rfl, hb3⟩; have HB3 := Lib.hid (Below.trans (HB1.out.trans ((HB2.out.alloc HB2.out.size _).mono HB1.out.size)) (hb3.mono (by have h1 := HB1.out.size; have h2 := HB2.out.size; simp; omega))); clear hb3)
    | (go_at_call 65; (with_reducible refine (HD.out _ HB3.out).mono ?_); rintro e W4 ⟨F', ns, rfl, hr4, hb4, hok⟩; have HR4 := Lib.hid hr4; have HB4 := Lib.hid hb4; have HOK := Lib.hid hok; clear hr4 hb4 hok))
  all_goals
    go_ret
    refine ⟨?_, (Wr13.of_below HB3.out).trans HB4.out, fun h => ?_⟩
    · show _ = Ending.returned (.int .i64 (lineP m ((s0 :: r).map lettersOf)).2)
      rw [HLP.out.1]
      rfl
    · have h' : fillE (r.map lettersOf) 3 = 0 := by
        have h2 : (lineP m ((s0 :: r).map lettersOf)).2 = 0 := h
        rw [HLP.out.1] at h2
        exact h2
      have e := HLP.out.2 ns h' (HOK.out h')
      exact ⟨_, D, F', _, by show Rdr13 _ _ _ _ _ _ (lineP m ((s0 :: r).map lettersOf)).1 _; rw [e]; exact HR4.out⟩
end Go.Proofs.YtohlifeenhaifaaGreatDoor

/- (Text13O) The landed reader: a line that is an instruction's, or none. Contract; no condition but what it names. -/
namespace Go.Proofs.YtohlifeenhaifaaGreatDoor
open Go.RowKit Go.Shelf
set_option linter.unusedVariables false
set_option linter.unusedSimpArgs false

theorem size_letters (s : ByteArray) : s.size = (lettersOf s).length := by unfold lettersOf; rw [List.length_map]; exact Array.length_toList.symm
theorem suffix13 (op : Int) (w : World) : Calls Tryz.prog 66 #[.string (shapeI op), .string ⟨#[108]⟩] w fun e w' => e = .returned (.bool (conL (lettersOf (shapeI op)))) ∧ w = w' := by
  have h1 := (shape_len13 op).1
  have h2 := suf13 op
  rw [← size_letters] at h1
  generalize shapeI op = s at *
  refine (Any.strings_HasSuffix Tryz.lays100 s ⟨#[108]⟩ w (by omega)).mono fun e w' ⟨h3, h4⟩ => ⟨?_, h4.symm⟩
  rw [h3, h2]
theorem suffix13_none (w : World) : Calls Tryz.prog 66 #[.string ⟨#[]⟩, .string ⟨#[108]⟩] w fun e w' => e = .returned (.bool false) ∧ w = w' := by
  have h := suffix13 (-1) w
  have e : shapeI (-1) = ⟨#[]⟩ := by decide +kernel
  rw [e] at h
  have e2 : conL (lettersOf ⟨#[]⟩) = false := by decide +kernel
  rw [e2] at h
  exact h
set_option maxRecDepth 100000 in
set_option maxHeartbeats 16000000 in
theorem line13_bytes_in (V : Value) (s0 : ByteArray) (r : List ByteArray) (base b0 rb : Nat) (D F : Value) (m : ModV) (Cs : List Value) (w : World)
    (hR : Rdr13 base b0 w rb D F m Cs) (hV : Strs13 w V (s0 :: r)) (hn : lettersOf s0 = bytesW) (hf : m.funcs ≠ []) :
    Calls Tryz.prog 38 #[.pointer (some ⟨rb, 0, none⟩), V] w (LineDone13 base rb m w ((s0 :: r).map lettersOf)) := by
  obtain ⟨A, off, cap, hVe, -⟩ := hV.at
  obtain ⟨n, hne⟩ : ∃ n, r.length = n := ⟨_, rfl⟩
  rw [show (s0 :: r).length = n + 1 by simp [hne]] at hVe
  subst hVe
  obtain ⟨hcap, hc0, hst⟩ := strs_tail hV hne
  obtain ⟨o', c', hcc, hoo, hsl⟩ := slice_tail A off n cap hcap
  obtain ⟨FA, fc, hFe⟩ := rdr_fn hR
  subst hFe
  have HLP := Lib.hid (show (lineP m ((s0 :: r).map lettersOf)).2 = 10 from line_bytes_in (ws := (s0 :: r).map lettersOf) hn hf)
  obtain ⟨op, hop⟩ : ∃ op, op = findW (lettersOf s0) := ⟨_, rfl⟩
  have hlow := find_low (lettersOf s0)
  rw [← hop] at hlow
  have HFind : Hid (∀ W, Calls Tryz.prog 63 #[.string s0] W (Makes W (.int .i64 op))) := Lib.hid (fun W => by
    have h := find_any s0 W
    rw [findV_W, ← hop] at h
    exact h)
  have HShape : Hid (∀ W, Calls Tryz.prog 56 #[.int .i64 (-1)] W (Makes W (.string ⟨#[]⟩))) := Lib.hid (fun W => shape_any (-1) W)
  have HSuf : Hid (∀ W, Calls Tryz.prog 66 #[.string ⟨#[]⟩, .string ⟨#[108]⟩] W fun e w' => e = .returned (.bool false) ∧ W = w') := Lib.hid suffix13_none
  have hm1 : op = -1 := by rw [hop, hn]; exact find_bytes.1
  subst hm1
  have t0 := bytesB_yes hn
  have t1 := funcB_no (s0 := s0) (by rw [hn]; exact bytes_func)
  have hnf := List.length_pos_iff.2 hf
  clear hop hlow hn hf
  have hc1 := hR.cells.2
  clear hR hV hcap hst hcc hoo hne
  generalize m.funcs.length = nf at *
  have hnf2 : (0 : Int) < (nf : Int) := by omega
  go_enter Tryz.func38, Tryz.ntmps38
  go_wp2
  go_quiet (fail)
  have hbq := below_drewN (Below.refl w.heap.size w) nq
  have hc1q : (w.drewN nq).cell? ⟨rb, 1, none⟩ = some (.slice FA nf fc) := hc1
  obtain ⟨W1, hW1⟩ : ∃ W1, W1 = w.drewN nq := ⟨_, rfl⟩
  rw [← hW1] at hbq hc1q ⊢
  have HB1 := Lib.hid hbq
  clear hc1 hW1 hbq
  go_wp2_with (first
    | (go_at_call 63; (with_reducible refine (HFind.out _).mono ?_); rintro e W2 ⟨rfl, hb2⟩; have HB2 := Lib.hid hb2; clear hb2)
    | (go_at_call 56; (with_reducible refine (HShape.out _).mono ?_); rintro e W3 ⟨rfl, hb3⟩; have HB3 := Lib.hid (Below.trans (HB1.out.trans ((HB2.out.alloc HB2.out.size _).mono HB1.out.size)) (hb3.mono (by have h1 := HB1.out.size; have h2 := HB2.out.size; simp; omega))); have hbx0 : W3.cell? ⟨W2.heap.size, 0, none⟩ = some (.int .i64 (-1)) := ((hb3.cell (p := ⟨W2.heap.size, 0, none⟩) (by simp)).trans (cell_of_row _ _ _ _ _ _ (heap_alloc_new W2 _))); clear hb3)
    | (go_at_call 66; (with_reducible refine (HSuf.out _).mono ?_); rintro e W4 ⟨rfl, rfl⟩))
  all_goals
    go_ret
    exact ⟨by show _ = Ending.returned (.int .i64 (lineP m ((s0 :: r).map lettersOf)).2); rw [HLP.out]; rfl, Wr13.of_below HB3.out, fun h => by have h2 : (lineP m ((s0 :: r).map lettersOf)).2 = 0 := h; rw [HLP.out] at h2; cases h2⟩
set_option maxRecDepth 100000 in
set_option maxHeartbeats 16000000 in
theorem line13_none_op (V : Value) (s0 : ByteArray) (r : List ByteArray) (base b0 rb : Nat) (D F : Value) (m : ModV) (Cs : List Value) (w : World)
    (hR : Rdr13 base b0 w rb D F m Cs) (hV : Strs13 w V (s0 :: r)) (h1 : lettersOf s0 ≠ bytesW) (h2 : lettersOf s0 ≠ funcW) (h3 : findW (lettersOf s0) < 0) :
    Calls Tryz.prog 38 #[.pointer (some ⟨rb, 0, none⟩), V] w (LineDone13 base rb m w ((s0 :: r).map lettersOf)) := by
  obtain ⟨A, off, cap, hVe, -⟩ := hV.at
  obtain ⟨n, hne⟩ : ∃ n, r.length = n := ⟨_, rfl⟩
  rw [show (s0 :: r).length = n + 1 by simp [hne]] at hVe
  subst hVe
  obtain ⟨hcap, hc0, hst⟩ := strs_tail hV hne
  obtain ⟨o', c', hcc, hoo, hsl⟩ := slice_tail A off n cap hcap
  obtain ⟨FA, fc, hFe⟩ := rdr_fn hR
  subst hFe
  have HLP := Lib.hid (show (lineP m ((s0 :: r).map lettersOf)).2 = 10 from line_out (ws := (s0 :: r).map lettersOf) h1 h2 (.inl h3))
  obtain ⟨op, hop⟩ : ∃ op, op = findW (lettersOf s0) := ⟨_, rfl⟩
  have hlow := find_low (lettersOf s0)
  rw [← hop] at hlow
  have HFind : Hid (∀ W, Calls Tryz.prog 63 #[.string s0] W (Makes W (.int .i64 op))) := Lib.hid (fun W => by
    have h := find_any s0 W
    rw [findV_W, ← hop] at h
    exact h)
  have HShape : Hid (∀ W, Calls Tryz.prog 56 #[.int .i64 (-1)] W (Makes W (.string ⟨#[]⟩))) := Lib.hid (fun W => shape_any (-1) W)
  have HSuf : Hid (∀ W, Calls Tryz.prog 66 #[.string ⟨#[]⟩, .string ⟨#[108]⟩] W fun e w' => e = .returned (.bool false) ∧ W = w') := Lib.hid suffix13_none
  have hm1 : op = -1 := by omega
  subst hm1
  have t0 := bytesB_no h1
  have t1 := funcB_no h2
  clear hop hlow h1 h2 h3
  have hc1 := hR.cells.2
  clear hR hV hcap hst hcc hoo hne
  generalize m.funcs.length = nf at *
  go_enter Tryz.func38, Tryz.ntmps38
  go_wp2
  go_quiet (fail)
  have hbq := below_drewN (Below.refl w.heap.size w) nq
  have hc1q : (w.drewN nq).cell? ⟨rb, 1, none⟩ = some (.slice FA nf fc) := hc1
  obtain ⟨W1, hW1⟩ : ∃ W1, W1 = w.drewN nq := ⟨_, rfl⟩
  rw [← hW1] at hbq hc1q ⊢
  have HB1 := Lib.hid hbq
  clear hc1 hW1 hbq
  go_wp2_with (first
    | (go_at_call 63; (with_reducible refine (HFind.out _).mono ?_); rintro e W2 ⟨rfl, hb2⟩; have HB2 := Lib.hid hb2; clear hb2)
    | (go_at_call 56; (with_reducible refine (HShape.out _).mono ?_); rintro e W3 ⟨rfl, hb3⟩; have HB3 := Lib.hid (Below.trans (HB1.out.trans ((HB2.out.alloc HB2.out.size _).mono HB1.out.size)) (hb3.mono (by have h1 := HB1.out.size; have h2 := HB2.out.size; simp; omega))); have hbx0 : W3.cell? ⟨W2.heap.size, 0, none⟩ = some (.int .i64 (-1)) := ((hb3.cell (p := ⟨W2.heap.size, 0, none⟩) (by simp)).trans (cell_of_row _ _ _ _ _ _ (heap_alloc_new W2 _))); clear hb3)
    | (go_at_call 66; (with_reducible refine (HSuf.out _).mono ?_); rintro e W4 ⟨rfl, rfl⟩))
  all_goals
    go_ret
    exact ⟨by show _ = Ending.returned (.int .i64 (lineP m ((s0 :: r).map lettersOf)).2); rw [HLP.out]; rfl, Wr13.of_below HB3.out, fun h => by have h2 : (lineP m ((s0 :: r).map lettersOf)).2 = 0 := h; rw [HLP.out] at h2; cases h2⟩
set_option maxRecDepth 100000 in
set_option maxHeartbeats 16000000 in
theorem line13_none_true (V : Value) (s0 : ByteArray) (r : List ByteArray) (base b0 rb : Nat) (D F : Value) (m : ModV) (Cs : List Value) (w : World)
    (hR : Rdr13 base b0 w rb D F m Cs) (hV : Strs13 w V (s0 :: r)) (h1 : lettersOf s0 ≠ bytesW) (h2 : lettersOf s0 ≠ funcW) (h3 : m.funcs = []) (h4 : 0 ≤ findW (lettersOf s0)) (hcon : conL (lettersOf (shapeI (findW (lettersOf s0)))) = true) :
    Calls Tryz.prog 38 #[.pointer (some ⟨rb, 0, none⟩), V] w (LineDone13 base rb m w ((s0 :: r).map lettersOf)) := by
  obtain ⟨A, off, cap, hVe, -⟩ := hV.at
  obtain ⟨n, hne⟩ : ∃ n, r.length = n := ⟨_, rfl⟩
  rw [show (s0 :: r).length = n + 1 by simp [hne]] at hVe
  subst hVe
  obtain ⟨hcap, hc0, hst⟩ := strs_tail hV hne
  obtain ⟨o', c', hcc, hoo, hsl⟩ := slice_tail A off n cap hcap
  obtain ⟨FA, fc, hFe⟩ := rdr_fn hR
  subst hFe
  have HLP := Lib.hid (show (lineP m ((s0 :: r).map lettersOf)).2 = 10 from line_out (ws := (s0 :: r).map lettersOf) h1 h2 (.inr h3))
  obtain ⟨op, hop⟩ : ∃ op, op = findW (lettersOf s0) := ⟨_, rfl⟩
  have hlow := find_low (lettersOf s0)
  rw [← hop] at hlow
  have HFind : Hid (∀ W, Calls Tryz.prog 63 #[.string s0] W (Makes W (.int .i64 op))) := Lib.hid (fun W => by
    have h := find_any s0 W
    rw [findV_W, ← hop] at h
    exact h)
  have HShape : Hid (∀ W, Calls Tryz.prog 56 #[.int .i64 op] W (Makes W (.string (shapeI op)))) := Lib.hid (fun W => shape_any op W)
  have HSuf : Hid (∀ W, Calls Tryz.prog 66 #[.string (shapeI op), .string ⟨#[108]⟩] W fun e w' => e = .returned (.bool true) ∧ W = w') := Lib.hid (fun W => by
    have h := suffix13 op W
    rw [hop, hcon, ← hop] at h
    exact h)
  have t0 := bytesB_no h1
  have t1 := funcB_no h2
  have hnf : m.funcs.length = 0 := by rw [h3]; rfl
  rw [← hop] at h4
  clear hop h1 h2 h3 hcon
  have hc1 := hR.cells.2
  clear hR hV hcap hst hcc hoo hne
  generalize m.funcs.length = nf at *
  subst hnf
  generalize shapeI op = sh at *
  go_enter Tryz.func38, Tryz.ntmps38
  go_wp2
  go_quiet (fail)
  have hbq := below_drewN (Below.refl w.heap.size w) nq
  have hc1q : (w.drewN nq).cell? ⟨rb, 1, none⟩ = some (.slice FA 0 fc) := hc1
  obtain ⟨W1, hW1⟩ : ∃ W1, W1 = w.drewN nq := ⟨_, rfl⟩
  rw [← hW1] at hbq hc1q ⊢
  have HB1 := Lib.hid hbq
  clear hc1 hW1 hbq
  go_wp2_with (first
    | (go_at_call 63; (with_reducible refine (HFind.out _).mono ?_); rintro e W2 ⟨rfl, hb2⟩; have HB2 := Lib.hid hb2; clear hb2)
    | (go_at_call 56; (with_reducible refine (HShape.out _).mono ?_); rintro e W3 ⟨rfl, hb3⟩; have HB3 := Lib.hid (Below.trans (HB1.out.trans ((HB2.out.alloc HB2.out.size _).mono HB1.out.size)) (hb3.mono (by have h1 := HB1.out.size; have h2 := HB2.out.size; simp; omega))); have hbx0 : W3.cell? ⟨W2.heap.size, 0, none⟩ = some (.int .i64 op) := ((hb3.cell (p := ⟨W2.heap.size, 0, none⟩) (by simp)).trans (cell_of_row _ _ _ _ _ _ (heap_alloc_new W2 _))); clear hb3)
    | (go_at_call 66; (with_reducible refine (HSuf.out _).mono ?_); rintro e W4 ⟨rfl, rfl⟩))
  all_goals
    go_ret
    exact ⟨by show _ = Ending.returned (.int .i64 (lineP m ((s0 :: r).map lettersOf)).2); rw [HLP.out]; rfl, Wr13.of_below HB3.out, fun h => by have h2 : (lineP m ((s0 :: r).map lettersOf)).2 = 0 := h; rw [HLP.out] at h2; cases h2⟩
set_option maxRecDepth 100000 in
set_option maxHeartbeats 16000000 in
theorem line13_none_false (V : Value) (s0 : ByteArray) (r : List ByteArray) (base b0 rb : Nat) (D F : Value) (m : ModV) (Cs : List Value) (w : World)
    (hR : Rdr13 base b0 w rb D F m Cs) (hV : Strs13 w V (s0 :: r)) (h1 : lettersOf s0 ≠ bytesW) (h2 : lettersOf s0 ≠ funcW) (h3 : m.funcs = []) (h4 : 0 ≤ findW (lettersOf s0)) (hcon : conL (lettersOf (shapeI (findW (lettersOf s0)))) = false) :
    Calls Tryz.prog 38 #[.pointer (some ⟨rb, 0, none⟩), V] w (LineDone13 base rb m w ((s0 :: r).map lettersOf)) := by
  obtain ⟨A, off, cap, hVe, -⟩ := hV.at
  obtain ⟨n, hne⟩ : ∃ n, r.length = n := ⟨_, rfl⟩
  rw [show (s0 :: r).length = n + 1 by simp [hne]] at hVe
  subst hVe
  obtain ⟨hcap, hc0, hst⟩ := strs_tail hV hne
  obtain ⟨o', c', hcc, hoo, hsl⟩ := slice_tail A off n cap hcap
  obtain ⟨FA, fc, hFe⟩ := rdr_fn hR
  subst hFe
  have HLP := Lib.hid (show (lineP m ((s0 :: r).map lettersOf)).2 = 10 from line_out (ws := (s0 :: r).map lettersOf) h1 h2 (.inr h3))
  obtain ⟨op, hop⟩ : ∃ op, op = findW (lettersOf s0) := ⟨_, rfl⟩
  have hlow := find_low (lettersOf s0)
  rw [← hop] at hlow
  have HFind : Hid (∀ W, Calls Tryz.prog 63 #[.string s0] W (Makes W (.int .i64 op))) := Lib.hid (fun W => by
    have h := find_any s0 W
    rw [findV_W, ← hop] at h
    exact h)
  have HShape : Hid (∀ W, Calls Tryz.prog 56 #[.int .i64 op] W (Makes W (.string (shapeI op)))) := Lib.hid (fun W => shape_any op W)
  have HSuf : Hid (∀ W, Calls Tryz.prog 66 #[.string (shapeI op), .string ⟨#[108]⟩] W fun e w' => e = .returned (.bool false) ∧ W = w') := Lib.hid (fun W => by
    have h := suffix13 op W
    rw [hop, hcon, ← hop] at h
    exact h)
  have t0 := bytesB_no h1
  have t1 := funcB_no h2
  have hnf : m.funcs.length = 0 := by rw [h3]; rfl
  rw [← hop] at h4
  clear hop h1 h2 h3 hcon
  have hc1 := hR.cells.2
  clear hR hV hcap hst hcc hoo hne
  generalize m.funcs.length = nf at *
  subst hnf
  generalize shapeI op = sh at *
  go_enter Tryz.func38, Tryz.ntmps38
  go_wp2
  go_quiet (fail)
  have hbq := below_drewN (Below.refl w.heap.size w) nq
  have hc1q : (w.drewN nq).cell? ⟨rb, 1, none⟩ = some (.slice FA 0 fc) := hc1
  obtain ⟨W1, hW1⟩ : ∃ W1, W1 = w.drewN nq := ⟨_, rfl⟩
  rw [← hW1] at hbq hc1q ⊢
  have HB1 := Lib.hid hbq
  clear hc1 hW1 hbq
  go_wp2_with (first
    | (go_at_call 63; (with_reducible refine (HFind.out _).mono ?_); rintro e W2 ⟨rfl, hb2⟩; have HB2 := Lib.hid hb2; clear hb2)
    | (go_at_call 56; (with_reducible refine (HShape.out _).mono ?_); rintro e W3 ⟨rfl, hb3⟩; have HB3 := Lib.hid (Below.trans (HB1.out.trans ((HB2.out.alloc HB2.out.size _).mono HB1.out.size)) (hb3.mono (by have h1 := HB1.out.size; have h2 := HB2.out.size; simp; omega))); have hbx0 : W3.cell? ⟨W2.heap.size, 0, none⟩ = some (.int .i64 op) := ((hb3.cell (p := ⟨W2.heap.size, 0, none⟩) (by simp)).trans (cell_of_row _ _ _ _ _ _ (heap_alloc_new W2 _))); clear hb3)
    | (go_at_call 66; (with_reducible refine (HSuf.out _).mono ?_); rintro e W4 ⟨rfl, rfl⟩))
  all_goals
    go_ret
    exact ⟨by show _ = Ending.returned (.int .i64 (lineP m ((s0 :: r).map lettersOf)).2); rw [HLP.out]; rfl, Wr13.of_below HB3.out, fun h => by have h2 : (lineP m ((s0 :: r).map lettersOf)).2 = 0 := h; rw [HLP.out] at h2; cases h2⟩
end Go.Proofs.YtohlifeenhaifaaGreatDoor

/- (Text13P) The landed reader: a line that is an instruction's. Contract; no condition but what it names. -/
namespace Go.Proofs.YtohlifeenhaifaaGreatDoor
open Go.RowKit Go.Shelf
set_option linter.unusedVariables false
set_option linter.unusedSimpArgs false

theorem room13 (op : Int) (n : Nat) (q : Int) (hq : q = (n : Int) - (shapeI op).size + 1) (hc : conL (lettersOf (shapeI op)) = true) (hn : n ≤ 1000000000) (w : World) : Calls Tryz.prog 67 #[.int .i64 q] w (RoomDone w (mmO op n)) := by
  have h1 := (shape_len13 op).1
  rw [size_letters] at hq
  unfold mmO
  rw [if_pos hc]
  generalize (lettersOf (shapeI op)).length = k at *
  by_cases h : n + 1 ≤ k
  · rw [show min 8 (n + 1 - k) = 0 by omega]
    exact room_none q (by omega) w
  · exact room_some q _ (by omega) (by omega) w
theorem mmO_no {op : Int} {n : Nat} (hc : conL (lettersOf (shapeI op)) = false) : mmO op n = 0 := by unfold mmO; rw [hc]; rfl
theorem line_done {m : ModV} {ws : List (List Int)} {op : Int} {base b0 rb : Nat} {D : Value} {w w' : World} {n : Nat} (hw : ws ≠ []) (h1 : ws.headD [] ≠ bytesW) (h2 : ws.headD [] ≠ funcW) (h3 : 0 ≤ findW (ws.headD [])) (hf : m.funcs ≠ []) (hop : op = findW (ws.headD [])) (hn : ws.tail.length = n)
    {e : Ending} (h : InsDone13 base b0 rb D m w op (mmO op n) ws.tail e w') : LineDone13 base rb m w ws e w' := by
  subst hop
  subst hn
  obtain ⟨F', Cs', y, he, hr, hwr, hok⟩ := h
  obtain ⟨l1, l2⟩ := line_ins hw h1 h2 h3 hf
  have e1 : lineR m ws = lineP m ws := by unfold lineR; rw [if_neg hw]
  refine ⟨by rw [e1, l1]; exact he, hwr, fun h => ?_⟩
  rw [e1] at h ⊢
  obtain ⟨ns, hns, hfs⟩ := hok (by rw [← l1]; exact h)
  rw [l2 ns y h hns hfs]
  exact ⟨_, _, _, _, hr⟩
theorem set_room13 {w W1 W2 W4 W5 : World} {XA : Option Addr} {mm xc : Nat} {cs : Array Value} (h3 : Below w.heap.size w W4) (h1 : Below w.heap.size w W1) (h2 : Below W1.heap.size W1 W2) (hX : Owns W5 W4.heap.size 3 1 (IsNum .i64) (.slice XA mm xc) mm ((List.replicate mm 0).map (Value.int .i64))) (h5 : Below W4.heap.size W4 W5) (hbx : W5.heap[W2.heap.size]? = some (.cells cs 28 (0, 0))) :
    Below w.heap.size w (W5.setCell ⟨W2.heap.size, 5, none⟩ (.slice XA mm xc)) ∧ Owns (W5.setCell ⟨W2.heap.size, 5, none⟩ (.slice XA mm xc)) w.heap.size 3 1 (IsNum .i64) (.slice XA mm xc) mm ((List.replicate mm 0).map (Value.int .i64)) := by
  refine ⟨(h3.trans (h5.mono h3.size)).setCell (p := ⟨W2.heap.size, 5, none⟩) (Nat.le_trans h1.size h2.size) _, ?_⟩
  have hb : But (OneBlock W2.heap.size) W5 (W5.setCell ⟨W2.heap.size, 5, none⟩ (.slice XA mm xc)) := (But.refl (OneBlock W2.heap.size) W5).setCell (p := ⟨W2.heap.size, 5, none⟩) (.inl rfl) _
  refine Owns.base (hX.but hb (fun g hg e => ?_)) h3.size
  have e' : g = W2.heap.size := e
  subst e'
  obtain ⟨c, hc⟩ := hX.typed hg
  exact typed_ne hc (by decide) hbx
set_option maxRecDepth 100000 in
set_option maxHeartbeats 16000000 in
theorem line13_ins_con (V : Value) (s0 : ByteArray) (r : List ByteArray) (base b0 rb : Nat) (D F : Value) (m : ModV) (Cs : List Value) (w0 w : World) (hE : Env13 w0) (h0 : Below w0.heap.size w0 w) (hB : w0.heap.size ≤ base ∧ w0.heap.size ≤ rb) (hbw : base ≤ w.heap.size)
    (hR : Rdr13 base b0 w rb D F m Cs) (hV : Strs13 w V (s0 :: r)) (hsz : ∀ x ∈ s0 :: r, x.size ≤ 4294967295) (hrl : r.length ≤ 1000000000) (hfl : m.funcs.length ≤ 900000) (hcl : ∀ f ∈ m.funcs, f.code.length ≤ 900000)
    (h1 : lettersOf s0 ≠ bytesW) (h2 : lettersOf s0 ≠ funcW) (h3 : 0 ≤ findW (lettersOf s0)) (hf : m.funcs ≠ []) (hcon : conL (lettersOf (shapeI (findW (lettersOf s0)))) = true) :
    Calls Tryz.prog 38 #[.pointer (some ⟨rb, 0, none⟩), V] w (LineDone13 base rb m w ((s0 :: r).map lettersOf)) := by
  obtain ⟨A, off, cap, hVe, -⟩ := hV.at
  obtain ⟨n, hne⟩ : ∃ n, r.length = n := ⟨_, rfl⟩
  rw [show (s0 :: r).length = n + 1 by simp [hne]] at hVe
  subst hVe
  obtain ⟨hcap, hc0, hst⟩ := strs_tail hV hne
  obtain ⟨o', c', hcc, hoo, hsl⟩ := slice_tail A off n cap hcap
  obtain ⟨FA, fc, hFe⟩ := rdr_fn hR
  subst hFe
  obtain ⟨op, hop⟩ : ∃ op, op = findW (lettersOf s0) := ⟨_, rfl⟩
  have hlow := find_low (lettersOf s0)
  rw [← hop] at hlow hcon
  have HLD := Lib.hid (fun (e : Ending) (w' : World) (h : InsDone13 base b0 rb D m w op (mmO op n) (r.map lettersOf) e w') => line_done (ws := (s0 :: r).map lettersOf) (by simp) h1 h2 h3 hf hop (by simpa using hne) h)
  have HFind : Hid (∀ W, Calls Tryz.prog 63 #[.string s0] W (Makes W (.int .i64 op))) := Lib.hid (fun W => by
    have h := find_any s0 W
    rw [findV_W, ← hop] at h
    exact h)
  have HShape : Hid (∀ W, Calls Tryz.prog 56 #[.int .i64 op] W (Makes W (.string (shapeI op)))) := Lib.hid (fun W => shape_any op W)
  have HSuf : Hid (∀ W, Calls Tryz.prog 66 #[.string (shapeI op), .string ⟨#[108]⟩] W fun e w' => e = .returned (.bool true) ∧ W = w') := Lib.hid (fun W => by
    have h := suffix13 op W
    rw [hcon] at h
    exact h)
  have t0 := bytesB_no h1
  have t1 := funcB_no h2
  have hnf := List.length_pos_iff.2 hf
  rw [← hop] at h3
  have HD : Hid (∀ (W : World) (X : Value), Below w.heap.size w W → Owns W w.heap.size 3 1 (IsNum .i64) X (mmO op n) ((List.replicate (mmO op n) 0).map (Value.int .i64)) → Calls Tryz.prog 68 #[.pointer (some ⟨rb, 0, none⟩), .agg #[.int .i64 op, .int .i64 0, .int .i64 0, .int .i64 0, .int .i64 0, X], .slice (some ⟨A, o', none⟩) n c'] W (InsDone13 base b0 rb D m w op (mmO op n) (r.map lettersOf))) := Lib.hid (fun W X hb hX =>
    instruction13_any _ r op X (mmO op n) base b0 rb D _ m Cs w0 w W hE h0 hB hbw hR hb (hst o' c' hcc hoo) (fun x hx => hsz x (List.mem_cons_of_mem _ hx)) hX (mmO_le op n) (fun _ => hcon) (by unfold InI; omega) hf hfl hcl)
  have HRoom : Hid (∀ (q : Int) (W : World), q = (n : Int) - (shapeI op).size + 1 → Calls Tryz.prog 67 #[.int .i64 q] W (RoomDone W (mmO op n))) := Lib.hid (fun q W hq => room13 op n q hq hcon (by omega) W)
  have hszb : (shapeI op).size ≤ 3 := by rw [size_letters]; exact (shape_len13 op).1
  have hnb : n ≤ 1000000000 := by omega
  have hc1 := hR.cells.2
  clear hE h0 hB hbw hR hV hsz hcap hst hcc hoo hne hrl hfl hcl h1 h2 hf hlow hop hcon
  generalize mmO op n = mm at *
  generalize m.funcs.length = nf at *
  have hnf2 : (0 : Int) < (nf : Int) := by omega
  generalize shapeI op = sh at *
  go_enter Tryz.func38, Tryz.ntmps38
  go_wp2
  go_quiet (fail)
  have hbq := below_drewN (Below.refl w.heap.size w) nq
  have hc1q : (w.drewN nq).cell? ⟨rb, 1, none⟩ = some (.slice FA nf fc) := hc1
  obtain ⟨W1, hW1⟩ : ∃ W1, W1 = w.drewN nq := ⟨_, rfl⟩
  rw [← hW1] at hbq hc1q ⊢
  have HB1 := Lib.hid hbq
  clear hc1 hW1 hbq
  go_wp2_with (first
    | (go_at_call 63; (with_reducible refine (HFind.out _).mono ?_); rintro e W2 ⟨rfl, hb2⟩; have HB2 := Lib.hid hb2; clear hb2)
    | (go_at_call 56; (with_reducible refine (HShape.out _).mono ?_); rintro e W3 ⟨rfl, hb3⟩; have HB3 := Lib.hid (Below.trans (HB1.out.trans ((HB2.out.alloc HB2.out.size _).mono HB1.out.size)) (hb3.mono (by have h1 := HB1.out.size; have h2 := HB2.out.size; simp; omega))); have hbx := (hb3.block W2.heap.size (by simp)).trans (heap_alloc_new W2 _); obtain ⟨n0, n1, n2, n3, n4, n5⟩ := cells6 hbx; have HX3 := Lib.hid (And.intro hbx (heap_lt hbx)); clear hb3 hbx)
    | (go_at_call 66; (with_reducible refine (HSuf.out _).mono ?_); rintro e W4 ⟨rfl, rfl⟩)
    | (go_at_call 67; (with_reducible refine (HRoom.out _ _ (by first | rfl | omega | (simp only [IntKind.wrap_i64]; omega))).mono ?_); rintro e W5 ⟨X, rfl, hX, hb5⟩; obtain ⟨XA, xc, he⟩ := owns_len hX; subst he; have hbx5 := (hb5.block W2.heap.size HX3.out.2).trans HX3.out.1; have hg5 := frozen_of_row W5 W2.heap.size 5 _ _ hbx5; obtain ⟨n0, n1, n2, n3, n4, n5⟩ := cells6 hbx5; have HS := Lib.hid (set_room13 HB3.out HB1.out HB2.out hX hb5 hbx5); clear hX hb5 hbx5)
    | (go_at_call 68; (with_reducible refine (HD.out _ _ HS.out.1 HS.out.2).mono ?_); rintro e W7 hdone; have HDone := Lib.hid hdone; clear hdone; obtain ⟨_, _, _, he, -, -, -⟩ := HDone.out; subst he))
  all_goals
    go_ret
    exact HLD.out _ _ HDone.out
set_option maxRecDepth 100000 in
set_option maxHeartbeats 16000000 in
theorem line13_ins_plain (V : Value) (s0 : ByteArray) (r : List ByteArray) (base b0 rb : Nat) (D F : Value) (m : ModV) (Cs : List Value) (w0 w : World) (hE : Env13 w0) (h0 : Below w0.heap.size w0 w) (hB : w0.heap.size ≤ base ∧ w0.heap.size ≤ rb) (hbw : base ≤ w.heap.size)
    (hR : Rdr13 base b0 w rb D F m Cs) (hV : Strs13 w V (s0 :: r)) (hsz : ∀ x ∈ s0 :: r, x.size ≤ 4294967295) (hrl : r.length ≤ 1000000000) (hfl : m.funcs.length ≤ 900000) (hcl : ∀ f ∈ m.funcs, f.code.length ≤ 900000)
    (h1 : lettersOf s0 ≠ bytesW) (h2 : lettersOf s0 ≠ funcW) (h3 : 0 ≤ findW (lettersOf s0)) (hf : m.funcs ≠ []) (hcon : conL (lettersOf (shapeI (findW (lettersOf s0)))) = false) :
    Calls Tryz.prog 38 #[.pointer (some ⟨rb, 0, none⟩), V] w (LineDone13 base rb m w ((s0 :: r).map lettersOf)) := by
  obtain ⟨A, off, cap, hVe, -⟩ := hV.at
  obtain ⟨n, hne⟩ : ∃ n, r.length = n := ⟨_, rfl⟩
  rw [show (s0 :: r).length = n + 1 by simp [hne]] at hVe
  subst hVe
  obtain ⟨hcap, hc0, hst⟩ := strs_tail hV hne
  obtain ⟨o', c', hcc, hoo, hsl⟩ := slice_tail A off n cap hcap
  obtain ⟨FA, fc, hFe⟩ := rdr_fn hR
  subst hFe
  obtain ⟨op, hop⟩ : ∃ op, op = findW (lettersOf s0) := ⟨_, rfl⟩
  have hlow := find_low (lettersOf s0)
  rw [← hop] at hlow hcon
  have HLD := Lib.hid (fun (e : Ending) (w' : World) (h : InsDone13 base b0 rb D m w op (mmO op n) (r.map lettersOf) e w') => line_done (ws := (s0 :: r).map lettersOf) (by simp) h1 h2 h3 hf hop (by simpa using hne) h)
  have HFind : Hid (∀ W, Calls Tryz.prog 63 #[.string s0] W (Makes W (.int .i64 op))) := Lib.hid (fun W => by
    have h := find_any s0 W
    rw [findV_W, ← hop] at h
    exact h)
  have HShape : Hid (∀ W, Calls Tryz.prog 56 #[.int .i64 op] W (Makes W (.string (shapeI op)))) := Lib.hid (fun W => shape_any op W)
  have HSuf : Hid (∀ W, Calls Tryz.prog 66 #[.string (shapeI op), .string ⟨#[108]⟩] W fun e w' => e = .returned (.bool false) ∧ W = w') := Lib.hid (fun W => by
    have h := suffix13 op W
    rw [hcon] at h
    exact h)
  have t0 := bytesB_no h1
  have t1 := funcB_no h2
  have hnf := List.length_pos_iff.2 hf
  rw [← hop] at h3
  have HD : Hid (∀ (W : World) (X : Value), Below w.heap.size w W → Owns W w.heap.size 3 1 (IsNum .i64) X (mmO op n) ((List.replicate (mmO op n) 0).map (Value.int .i64)) → Calls Tryz.prog 68 #[.pointer (some ⟨rb, 0, none⟩), .agg #[.int .i64 op, .int .i64 0, .int .i64 0, .int .i64 0, .int .i64 0, X], .slice (some ⟨A, o', none⟩) n c'] W (InsDone13 base b0 rb D m w op (mmO op n) (r.map lettersOf))) := Lib.hid (fun W X hb hX =>
    instruction13_any _ r op X (mmO op n) base b0 rb D _ m Cs w0 w W hE h0 hB hbw hR hb (hst o' c' hcc hoo) (fun x hx => hsz x (List.mem_cons_of_mem _ hx)) hX (mmO_le op n) (fun h => by rw [mmO_no hcon] at h; omega) (by unfold InI; omega) hf hfl hcl)
  have HO : Hid (∀ W, Owns W w.heap.size 3 1 (IsNum .i64) (.slice none 0 0) (mmO op n) ((List.replicate (mmO op n) 0).map (Value.int .i64))) := Lib.hid (fun W => by rw [mmO_no hcon]; exact Owns.nil _ _ _ _ _)
  have hc1 := hR.cells.2
  clear hE h0 hB hbw hR hV hsz hcap hst hcc hoo hne hrl hfl hcl h1 h2 hf hlow hop hcon
  generalize mmO op n = mm at *
  generalize m.funcs.length = nf at *
  have hnf2 : (0 : Int) < (nf : Int) := by omega
  generalize shapeI op = sh at *
  go_enter Tryz.func38, Tryz.ntmps38
  go_wp2
  go_quiet (fail)
  have hbq := below_drewN (Below.refl w.heap.size w) nq
  have hc1q : (w.drewN nq).cell? ⟨rb, 1, none⟩ = some (.slice FA nf fc) := hc1
  obtain ⟨W1, hW1⟩ : ∃ W1, W1 = w.drewN nq := ⟨_, rfl⟩
  rw [← hW1] at hbq hc1q ⊢
  have HB1 := Lib.hid hbq
  clear hc1 hW1 hbq
  go_wp2_with (first
    | (go_at_call 63; (with_reducible refine (HFind.out _).mono ?_); rintro e W2 ⟨rfl, hb2⟩; have HB2 := Lib.hid hb2; clear hb2)
    | (go_at_call 56; (with_reducible refine (HShape.out _).mono ?_); rintro e W3 ⟨rfl, hb3⟩; have HB3 := Lib.hid (Below.trans (HB1.out.trans ((HB2.out.alloc HB2.out.size _).mono HB1.out.size)) (hb3.mono (by have h1 := HB1.out.size; have h2 := HB2.out.size; simp; omega))); have hbx := (hb3.block W2.heap.size (by simp)).trans (heap_alloc_new W2 _); obtain ⟨n0, n1, n2, n3, n4, n5⟩ := cells6 hbx; have HX3 := Lib.hid (And.intro hbx (heap_lt hbx)); clear hb3 hbx)
    | (go_at_call 66; (with_reducible refine (HSuf.out _).mono ?_); rintro e W4 ⟨rfl, rfl⟩)
    | (go_at_call 68; (with_reducible refine (HD.out _ _ HB3.out (HO.out _)).mono ?_); rintro e W7 hdone; have HDone := Lib.hid hdone; clear hdone; obtain ⟨_, _, _, he, -, -, -⟩ := HDone.out; subst he))
  all_goals
    go_ret
    exact HLD.out _ _ HDone.out
end Go.Proofs.YtohlifeenhaifaaGreatDoor

/- (Range13) A range over an iterator that writes cells of its own between two rounds: a law over any program. No condition but what it names. -/
namespace Go.Proofs.YtohlifeenhaifaaGreatDoor
open Go.RowKit
set_option linter.unusedVariables false

/-- An iterator's word: its own moves are Mv; a round that goes on keeps Kp. -/
def SeqMoves {α : Type} (F : Fence) (n : Nat) (P : Program) (gf : Nat) (lb : Array Value) (encs : α → Array Value) (Mv Kp : World → World → Prop) (S Sp : List α → Prop) (W : World) : Prop :=
  ∀ (l : Nat) (J X : List α → World → Prop), (∀ s A B, Mv A B → J s A → J s B) → (∀ s A B, Mv A B → X s A → X s B) →
    (∀ s x A, J s A → Sp (s ++ [x]) → YieldAt F (n - 1) P l (encs x) A fun e B => (e = .returned (.bool true) ∧ J (s ++ [x]) B ∧ Kp A B) ∨ (e = .returned (.bool false) ∧ X (s ++ [x]) B)) →
    J [] W → CallsIn F n P gf (#[.func (.yield l) #[] #[]] ++ lb) W fun e B => (∃ v, e = .returned v) ∧ ((∃ s, S s ∧ J s B) ∨ ∃ s, Sp s ∧ X s B)
/-- The loop's book: its record, its rounds' deferred calls. -/
def BookAt (b : Nat) (r : LoopState → Option Code → Loop) (st : LoopState) (pe : Option Code) (W : World) : Prop := W.heap[b + 1]? = some (.loop (r st pe)) ∧ W.heap[b]? = some (.deferred (some []))
/-- What the body's and the caller's words abide: a block of no cells that is written from a place on. -/
def Turns (b : Nat) (I : World → Prop) : Prop := ∀ A l o o', b ≤ l → A.heap[l]? = some o → o.isCells = false → I A → I (A.putObj l o')
section
variable {F : Fence} {n : Nat} {P : Program}
theorem range_moves {α : Type} {g : Operand} {ps : Array Tmp} {assign body : Code} {Q : Exit → Act → World → Prop} {a : Act} {w : World} (hro : F.round = none) (h1 : 1 ≤ n) {gf : Nat} {lb : Array Value}
    (hg : a.eval g = .func (.func gf) #[] lb) (hF : F.fn gf) (eg : ∀ args w, (callFunc gf args).run P w = .ok (.enter gf args) w) {encs : α → Array Value} {Mv Kp : World → World → Prop} {S Sp : List α → Prop}
    (hseq : ∀ W, Below w.heap.size w W → SeqMoves F (n - 1) P gf lb encs Mv Kp S Sp W) (hKt : ∀ {A B C : World}, Kp A B → Kp B C → Kp A C)
    (hKb : ∀ (A : World) l o o', w.heap.size ≤ l → A.heap[l]? = some o → o.isCells = false → o.isWalk = false → Kp A (A.putObj l o')) (hMv : ∀ A B (k : Nat) (o : Obj), Mv A B → A.heap[k]? = some o → o.isCells = false → B.heap[k]? = some o)
    (hps : ∀ x, (encs x).size = ps.size) (I X : List α → World → Prop) (hIm : ∀ s A B, Mv A B → I s A → I s B) (hXm : ∀ s A B, Mv A B → X s A → X s B) (hIt : ∀ s, Turns w.heap.size (I s)) (hXt : ∀ s, Turns w.heap.size (X s))
    (h0 : ∀ W, Below w.heap.size w W → I [] W) (a₁ : α → Act)
    (hassign : ∀ (l : Nat) (x : α) (W : World) (K : Act → World → Prop), K (a₁ x) W →
      assign.wpIn (F.inRound l) (n - 1 - 1) P (Exit.then K (fun _ _ _ => False)) { tmps := (ps.zip (encs x)).foldl (fun t (p, v) => t.setIfInBounds p v) a.tmps, defers := [] } W)
    (hbody : ∀ (l : Nat) (s : List α) (x : α) (W : World), I s W → Sp (s ++ [x]) → body.wpIn (F.inRound l) (n - 1 - 1) P (ownPostK Kp I (fun c s W => c = .ret ∧ X s W) (s ++ [x]) W) (a₁ x) W)
    (hdone : ∀ (D : Nat) (s : List α) (W : World), w.heap.size ≤ D → S s → I s W → W.heap[D]? = some (.deferred (some [])) → Q .normal { a with defers := { target := .collected D, args := #[] } :: a.defers } W)
    (hstop : ∀ (D : Nat) (s : List α) (W : World), w.heap.size ≤ D → Sp s → X s W → W.heap[D]? = some (.deferred (some [])) → Code.wpIn F n P .ret Q { a with defers := { target := .collected D, args := #[] } :: a.defers } W) :
    (Code.rangeFunc g ps assign body).wpIn F n P Q a w := by
  refine wpIn_rangeFunc fun fn hfn => ?_
  rw [hro]
  obtain ⟨r, hr⟩ : ∃ r : LoopState → Option Code → Loop, r = fun st pe => { state := st, pending := pe, fn, tmps := a.tmps, params := ps, assign, body, defers := w.heap.size } := ⟨_, rfl⟩
  obtain ⟨W1, hW1⟩ : ∃ W1, W1 = (w.alloc (.deferred (some []))).alloc (.loop (r .ready none)) := ⟨_, rfl⟩
  have hb1 : Below w.heap.size w W1 := by
    rw [hW1]
    exact ((Below.refl _ w).alloc (Nat.le_refl _) _).alloc (by simp) _
  have hbook : BookAt w.heap.size r .ready none W1 := by
    constructor
    · rw [hW1]
      have := heap_alloc_new (w.alloc (.deferred (some []))) (.loop (r .ready none))
      rwa [World.size_alloc] at this
    · rw [hW1]
      exact (Below.heap_alloc _ _ _ (by simp)).trans (heap_alloc_new w _)
  have bookMv : ∀ {st pe A B}, Mv A B → BookAt w.heap.size r st pe A → BookAt w.heap.size r st pe B := fun hm hb => ⟨hMv _ _ _ _ hm hb.1 rfl, hMv _ _ _ _ hm hb.2 rfl⟩
  -- what the end of a round does to the book
  have close : ∀ (jump : Option Code) (A B : World), BookAt w.heap.size r .busy none A → KeepsOthers A B → ∃ C, (Instr.endRound (w.heap.size + 1) jump).run P B = .ok (.bool jump.isNone) C ∧
      BookAt w.heap.size r (if jump.isNone then .ready else .done) jump C ∧ (∀ I : World → Prop, Turns w.heap.size I → I B → I C) ∧ Kp B C := fun jump A B hA hk => by
    have hl := hk.same _ _ hA.1 rfl
    refine ⟨_, by have := run_endRound (P := P) jump hl; rw [hr] at this; exact this, ⟨by rw [World.putObj_heap_same (heap_lt hl), hr], (World.putObj_heap_other (by omega)).trans (hk.same _ _ hA.2 rfl)⟩, fun I ht hi => ht _ _ _ _ (by omega) hl rfl hi, hKb _ _ _ _ (by omega) hl rfl rfl⟩
  refine ⟨w.heap.size + 1, [{ target := .collected w.heap.size, args := #[] }], W1, { target := .fn (.func gf) lb, args := #[.func (.yield (w.heap.size + 1)) #[] #[]] }, W1, gf, #[.func (.yield (w.heap.size + 1)) #[] #[]] ++ lb, W1, ?_, ?_, ?_, ?_, fun _ => h1, ?_⟩
  · rw [hW1, hr]
    exact run_enterLoop_outer _ _ _ _ _
  · simp only [resolve, hg]
    simp [go_sem]
  · intro f' hf'
    simp [Target.leads] at hf'
    subst hf'
    exact hF
  · simp [invoke, go_sem, eg]
  · refine (hseq W1 hb1 (w.heap.size + 1) (fun s W => I s W ∧ BookAt w.heap.size r .ready none W) (fun s W => X s W ∧ BookAt w.heap.size r .done (some .ret) W) (fun s A B hm h => ⟨hIm s A B hm h.1, bookMv hm h.2⟩) (fun s A B hm h => ⟨hXm s A B hm h.1, bookMv hm h.2⟩) ?_ ⟨h0 W1 hb1, hbook⟩).mono ?_
    · rintro s x A ⟨hi, hbk⟩ hlen
      have hyd := run_yield (P := P) (args := encs x) hbk.1 (by rw [hr]; exact hps x)
      have hbg := run_beginRound (P := P) hbk.1 (by rw [hr])
      have hpo := World.putObj_heap_same (o := .loop { r .ready none with state := .busy }) (heap_lt hbk.1)
      have hbusy : BookAt w.heap.size r .busy none (A.putObj (w.heap.size + 1) (.loop { r .ready none with state := .busy })) := ⟨by rw [hpo, hr], (World.putObj_heap_other (by omega)).trans hbk.2⟩
      have hkp := hKb A _ _ (.loop { r .ready none with state := .busy }) (show w.heap.size ≤ w.heap.size + 1 by omega) hbk.1 rfl rfl
      have hi2 := hIt s A _ _ (.loop { r .ready none with state := .busy }) (show w.heap.size ≤ w.heap.size + 1 by omega) hbk.1 rfl hi
      rw [hr] at hyd
      refine ⟨fn, _, assign, body, hyd, roundIn_of_wpIn hfn (hassign _ x A _ ⟨_, hbg, wpIn_mono (hbody _ s x _ hi2 hlen) ?_⟩)⟩
      intro e b B hp
      match e, hp with
      | .normal, ⟨hk, hkp2, hi3⟩ =>
        obtain ⟨C, hC, hbC, hIC, hKC⟩ := close none _ B hbusy hk
        exact ⟨_, _, hC, .inl ⟨rfl, ⟨hIC _ (hIt _) hi3, hbC⟩, hKt (hKt hkp hkp2) hKC⟩⟩
      | .ret, ⟨hk, _, hx⟩ =>
        obtain ⟨C, hC, hbC, hIC, hKC⟩ := close (some .ret) _ B hbusy hk
        exact ⟨_, _, hC, .inr ⟨rfl, hIC _ (hXt _) hx, hbC⟩⟩
      | .exit id, ⟨_, h, _⟩ => cases h
      | .goto t, ⟨_, h, _⟩ => cases h
      | .panic ch, h => exact h.elim
      | .outgrown, h => exact h.elim
    · rintro e B ⟨⟨v, rfl⟩, (⟨s, hS, hi, hbk⟩ | ⟨s, hSp, hx, hbk⟩)⟩
      · have he := run_endLoop (P := P) hbk.1 (by rw [hr]; simp)
        refine ⟨none, _, by rw [he, hr], hdone _ s _ (Nat.le_refl _) hS (hIt s _ _ _ _ (by omega) hbk.1 rfl hi) ((World.putObj_heap_other (by omega)).trans hbk.2)⟩
      · have he := run_endLoop (P := P) hbk.1 (by rw [hr]; simp)
        refine ⟨some .ret, _, by rw [he, hr], hstop _ s _ (Nat.le_refl _) hSp (hXt s _ _ _ _ (by omega) hbk.1 rfl hx) ((World.putObj_heap_other (by omega)).trans hbk.2)⟩
end
end Go.Proofs.YtohlifeenhaifaaGreatDoor

/- (Split13) strings.SplitSeq at a separator of one byte: the text's lines, one behind the other. Contract; no condition but what it names. -/
namespace Go.Proofs.YtohlifeenhaifaaGreatDoor
open Go.RowKit Go.Shelf
set_option linter.unusedVariables false
set_option linter.unusedSimpArgs false

theorem index_none : ∀ (l : List UInt8), Lib.indexByte l 10 = -1 → ∀ c ∈ l.map (fun b : UInt8 => (b.toNat : Int)), c ≠ 10
  | [], _ => by simp
  | b :: l, h => by
    have hg := Lib.indexByte_ge l 10
    unfold Lib.indexByte at h
    split at h
    · cases h
    · rename_i hb
      split at h
      · rename_i h2
        intro c hc
        rcases List.mem_cons.1 hc with rfl | hc
        · intro e
          apply hb
          rw [beq_iff_eq]
          exact UInt8.toNat_inj.1 (by have : (10 : UInt8).toNat = 10 := rfl; have e' : (b.toNat : Int) = 10 := e; omega)
        · exact index_none l (by simpa using h2) c hc
      · omega
theorem index_some : ∀ (l : List UInt8) (k : Nat), Lib.indexByte l 10 = (k : Int) → k < l.length ∧ (∀ c ∈ (l.take k).map (fun b : UInt8 => (b.toNat : Int)), c ≠ 10) ∧ l = l.take k ++ 10 :: l.drop (k + 1)
  | [], k, h => by unfold Lib.indexByte at h; omega
  | b :: l, k, h => by
    have hg := Lib.indexByte_ge l 10
    unfold Lib.indexByte at h
    split at h
    · rename_i hb
      have hk : k = 0 := by omega
      subst hk
      have hb2 : b = 10 := by simpa using hb
      subst hb2
      exact ⟨by simp, by simp, by simp⟩
    · rename_i hb
      split at h
      · omega
      · rename_i h2
        have h3 : Lib.indexByte l 10 ≠ -1 := by simpa using h2
        obtain ⟨j, rfl⟩ : ∃ j, k = j + 1 := ⟨k - 1, by omega⟩
        obtain ⟨i1, i2, i3⟩ := index_some l j (by omega)
        refine ⟨by simp; omega, ?_, ?_⟩
        · intro c hc
          rw [List.take_succ_cons] at hc
          rcases List.mem_cons.1 hc with rfl | hc
          · intro e
            apply hb
            rw [beq_iff_eq]
            exact UInt8.toNat_inj.1 (by have : (10 : UInt8).toNat = 10 := rfl; have e' : (b.toNat : Int) = 10 := e; omega)
          · exact i2 c hc
        · rw [List.take_succ_cons, List.drop_succ_cons, List.cons_append, ← i3]
theorem lines_one : ∀ (s : List Int), (∀ c ∈ s, c ≠ 10) → linesOf s = [s]
  | [], _ => rfl
  | c :: s, h => by
    have ih := lines_one s (fun d hd => h d (List.mem_cons_of_mem _ hd))
    simp only [linesOf]
    rw [if_neg (h c (List.mem_cons_self ..)), ih]
def cutHead (r : ByteArray) (k : Nat) : ByteArray := r.extract 0 k
def cutTail (r : ByteArray) (k : Nat) : ByteArray := r.extract (k + 1) r.size
theorem cutHead_data (r : ByteArray) (k : Nat) : (cutHead r k).data.toList = r.data.toList.take k := by
  unfold cutHead
  rw [ByteArray.data_extract, Array.toList_extract]
  simp [List.extract]
theorem cutTail_data (r : ByteArray) (k : Nat) : (cutTail r k).data.toList = r.data.toList.drop (k + 1) := by
  unfold cutTail
  rw [ByteArray.data_extract, Array.toList_extract]
  simp [List.extract]
  apply List.take_of_length_le
  rw [List.length_drop, Array.length_toList]
  show r.data.size - (k + 1) ≤ r.data.size - (k + 1)
  exact Nat.le_refl _
theorem cut_lines {r : ByteArray} {k : Nat} (h : Lib.indexByte r.data.toList 10 = (k : Int)) : k < r.size ∧ (cutTail r k).size < r.size ∧ linesOf (lettersOf r) = lettersOf (cutHead r k) :: linesOf (lettersOf (cutTail r k)) := by
  obtain ⟨h1, h2, h3⟩ := index_some _ _ h
  have hs : r.size = r.data.toList.length := Array.length_toList.symm
  have e : lettersOf r = lettersOf (cutHead r k) ++ 10 :: lettersOf (cutTail r k) := by
    unfold lettersOf
    rw [cutHead_data, cutTail_data]
    conv => lhs; rw [h3]
    simp
  refine ⟨by omega, ?_, ?_⟩
  · have : (cutTail r k).size = (cutTail r k).data.toList.length := Array.length_toList.symm
    rw [this, cutTail_data, List.length_drop]
    omega
  · rw [e]
    exact lines_line _ _ (fun c hc => h2 c (by unfold lettersOf at hc; rw [cutHead_data] at hc; exact hc))
theorem cut_last {r : ByteArray} (h : Lib.indexByte r.data.toList 10 = -1) : linesOf (lettersOf r) = [lettersOf r] := lines_one _ (index_none _ h)
theorem cells1 {w : World} {b : Nat} {v : Value} {t : TypeId} (h : w.heap[b]? = some (.cells #[v] t (0, 0))) : w.cell? ⟨b, 0, none⟩ = some v := by simp [World.cell?, h]
def strSize (zb : Nat) (w : World) : Nat := match w.cell? ⟨zb, 0, none⟩ with | some (.string r) => r.size | _ => 0
def Mv13 (zb : Nat) (A B : World) : Prop := ∃ r : ByteArray, B = A.setCell ⟨zb, 0, none⟩ (.string r)
def Kp13 (zb : Nat) (A B : World) : Prop := ∀ k, zb ≤ k → k < zb + 3 → B.heap[k]? = A.heap[k]?
structure Spl13 (zb : Nat) (r : ByteArray) (w : World) : Prop where
  str : w.heap[zb]? = some (.cells #[.string r] 9 (0, 0))
  sep : w.heap[zb + 1]? = some (.cells #[.string ⟨#[10]⟩] 9 (0, 0))
  sav : w.heap[zb + 2]? = some (.cells #[.int .i64 0] 3 (0, 0))
theorem Spl13.kp {zb : Nat} {r : ByteArray} {A B : World} (h : Spl13 zb r A) (k : Kp13 zb A B) : Spl13 zb r B :=
  ⟨(k _ (by omega) (by omega)).trans h.str, (k _ (by omega) (by omega)).trans h.sep, (k _ (by omega) (by omega)).trans h.sav⟩
theorem Spl13.set {zb : Nat} {r : ByteArray} {A : World} (h : Spl13 zb r A) (q : ByteArray) : Spl13 zb q (A.setCell ⟨zb, 0, none⟩ (.string q)) :=
  ⟨heap_setCell_same A zb 0 _ _ _ h.str, (Below.heap_setCell _ _ _ _ (by simp)).trans h.sep, (Below.heap_setCell _ _ _ _ (by simp)).trans h.sav⟩
theorem Spl13.size {zb : Nat} {r : ByteArray} {A : World} (h : Spl13 zb r A) : strSize zb A = r.size := by
  unfold strSize
  rw [(cells1 h.str)]
attribute [local go_sem] Oper.semAt_some
set_option maxRecDepth 100000 in
set_option maxHeartbeats 4000000 in
theorem split13_moves (n : Nat) (hn : 3 ≤ n) (zb : Nat) (s : ByteArray) (W : World) (h : Spl13 zb s W) (hsz : s.size ≤ 1000000) :
    SeqMoves Fence.wide n Tryz.prog 95 #[.pointer (some ⟨zb + 1, 0, none⟩), .pointer (some ⟨zb, 0, none⟩), .pointer (some ⟨zb + 2, 0, none⟩)] (fun x : ByteArray => #[.string x]) (Mv13 zb) (Kp13 zb)
      (fun l => l.map lettersOf = linesOf (lettersOf s)) (fun l => ∃ t, linesOf (lettersOf s) = l.map lettersOf ++ t) W := by
  intro l J X hJ hX hY h0
  have h1 : 1 ≤ n := by omega
  refine callsIn_of_wp Tryz.func95 rfl trivial ?_ rfl
  simp only [Tryz.ntmps95, List.size_toArray, List.length_cons, List.length_nil, Nat.reduceAdd, Nat.reduceSub, Array.replicate_succ, Array.replicate_zero, List.push_toArray, List.append_toArray, List.nil_append, List.cons_append]
  have c1 := cells1 h.sep
  gi_wp2
  gi_loopw [7, 8] (fun _ _ wr => ∃ (pre : List ByteArray) (r : ByteArray), Hid (J pre wr ∧ Spl13 zb r wr ∧ linesOf (lettersOf s) = pre.map lettersOf ++ linesOf (lettersOf r) ∧ r.size ≤ 1000000)) (fun _ _ wr => strSize zb wr)
  case atStart => exact ⟨[], s, Lib.hid ⟨h0, h, rfl, hsz⟩⟩
  case round =>
    obtain ⟨pre, r, HR⟩ := hrel
    have c0 := cells1 HR.out.2.1.str
    have c1 := cells1 HR.out.2.1.sep
    have c2 := cells1 HR.out.2.1.sav
    by_cases hi : Lib.indexByte r.data.toList 10 = -1
    · have HI : Hid (∀ w, Calls Tryz.prog 97 #[.string r, .string ⟨#[10]⟩] w fun e w' => e = .returned (.int .i64 (-1)) ∧ w = w') := Lib.hid (fun w => (Any.strings_Index_one Tryz.lays143 r 10 w).mono fun e w' ⟨h1, h2⟩ => ⟨by rw [h1, hi], h2.symm⟩)
      have HL := Lib.hid (cut_last hi)
      clear hi
      obtain ⟨fn, tmps, assign, body, hy, hR⟩ := hY pre r wr HR.out.1 ⟨[], by rw [HR.out.2.2.1, HL.out]; simp⟩
      try dsimp only at hy
      gi_wp2_with (refine ⟨trivial, ?_⟩; gi_at_call 97; (with_reducible refine (callsIn_wide.2 (HI.out _)).mono ?_); rintro e w' ⟨rfl, rfl⟩)
      refine hR.mono ?_
      rintro e W' (⟨rfl, hJ', hk⟩ | ⟨rfl, hX'⟩)
      · have HJ' := Lib.hid hJ'
        clear hJ' hk
        gi_wp2
        go_end0
        exact ⟨⟨_, rfl⟩, .inl ⟨_, by rw [HR.out.2.2.1, HL.out]; simp, HJ'.out⟩⟩
      · have HX' := Lib.hid hX'
        clear hX'
        gi_wp2
        go_end0
        exact ⟨⟨_, rfl⟩, .inr ⟨_, ⟨[], by rw [HR.out.2.2.1, HL.out]; simp⟩, HX'.out⟩⟩
    · obtain ⟨k, hk⟩ : ∃ k : Nat, Lib.indexByte r.data.toList 10 = (k : Int) := ⟨(Lib.indexByte r.data.toList 10).toNat, by have := Lib.indexByte_ge r.data.toList 10; omega⟩
      have HI : Hid (∀ w, Calls Tryz.prog 97 #[.string r, .string ⟨#[10]⟩] w fun e w' => e = .returned (.int .i64 k) ∧ w = w') := Lib.hid (fun w => (Any.strings_Index_one Tryz.lays143 r 10 w).mono fun e w' ⟨h1, h2⟩ => ⟨by rw [h1, hk], h2.symm⟩)
      have HL := Lib.hid (cut_lines hk)
      have hks := HL.out.1
      have hks1 : k + 1 ≤ r.size := by omega
      have hkb : k ≤ 1000000 := by have := HR.out.2.2.2; omega
      clear hi hk
      obtain ⟨fn, tmps, assign, body, hy, hR⟩ := hY pre (cutHead r k) wr HR.out.1 ⟨linesOf (lettersOf (cutTail r k)), by rw [HR.out.2.2.1, HL.out.2.2]; simp⟩
      try dsimp only at hy
      unfold cutHead at hy
      gi_wp2_with (refine ⟨trivial, ?_⟩; gi_at_call 97; (with_reducible refine (callsIn_wide.2 (HI.out _)).mono ?_); rintro e w' ⟨rfl, rfl⟩)
      refine hR.mono ?_
      rintro e W' (⟨rfl, hJ', hk⟩ | ⟨rfl, hX'⟩)
      · have HJ' := Lib.hid hJ'
        have HS := Lib.hid (HR.out.2.1.kp hk)
        have d0 := cells1 HS.out.str
        have d1 := cells1 HS.out.sep
        have g0 := frozen_of_row W' zb 0 _ _ HS.out.str
        have HM : Hid (Mv13 zb W' (W'.setCell ⟨zb, 0, none⟩ (.string (r.extract (k + 1) r.size)))) := Lib.hid ⟨_, rfl⟩
        clear hJ' hk c0 c1 c2
        gi_wp2
        go_roundw
        case rel =>
          refine ⟨pre ++ [cutHead r k], cutTail r k, Lib.hid ⟨hJ _ _ _ HM.out HJ'.out, HS.out.set _, ?_, by have := HL.out.2.1; have := HR.out.2.2.2; omega⟩⟩
          rw [HR.out.2.2.1, HL.out.2.2]
          simp
        case measure =>
          have h1 := (HS.out.set (cutTail r k)).size
          have h2 := HR.out.2.1.size
          have h3 := HL.out.2.1
          show strSize zb (W'.setCell ⟨zb, 0, none⟩ (.string (cutTail r k))) < strSize zb wr
          omega
      · have HX' := Lib.hid hX'
        clear hX'
        gi_wp2
        refine bodyPost_ret (results_none rfl _ _ _) rfl ?_
        exact ⟨⟨_, rfl⟩, .inr ⟨_, ⟨linesOf (lettersOf (cutTail r k)), by rw [HR.out.2.2.1, HL.out.2.2]; simp [cutHead]⟩, HX'.out⟩⟩
end Go.Proofs.YtohlifeenhaifaaGreatDoor

/- (Text13Q) The landed reader: any line; what stands in memory between two lines of a text. Contracts; no condition but what each names. -/
namespace Go.Proofs.YtohlifeenhaifaaGreatDoor
open Go.RowKit Go.Shelf
set_option linter.unusedVariables false
set_option linter.unusedSimpArgs false

theorem line13_any (V : Value) (l : List ByteArray) (base b0 rb : Nat) (D F : Value) (m : ModV) (Cs : List Value) (w0 w : World) (hE : Env13 w0) (h0 : Below w0.heap.size w0 w) (hB : w0.heap.size ≤ base ∧ w0.heap.size ≤ rb) (hbw : base ≤ w.heap.size)
    (hR : Rdr13 base b0 w rb D F m Cs) (hV : Strs13 w V l) (hsz : ∀ x ∈ l, x.size ≤ 4294967295) (hrl : l.length ≤ 500000) (hc : cntM m ≤ 500000) :
    Calls Tryz.prog 38 #[.pointer (some ⟨rb, 0, none⟩), V] w (LineDone13 base rb m w (l.map lettersOf)) := by
  obtain ⟨c1, c2, c3⟩ := cnt_fun (m := m)
  cases l with
  | nil => exact line13_none V base b0 rb D F m Cs w hR hV
  | cons s0 r =>
    have hr1 : r.length ≤ 500000 := by simp at hrl; omega
    by_cases h1 : lettersOf s0 = bytesW
    · by_cases hf : m.funcs = []
      · exact line13_bytes V s0 r base b0 rb D F m Cs w0 w hE h0 hB hbw hR hV hsz (by omega) h1 hf
      · exact line13_bytes_in V s0 r base b0 rb D F m Cs w hR hV h1 hf
    · by_cases h2 : lettersOf s0 = funcW
      · exact line13_func V s0 r base b0 rb D F m Cs w0 w hE h0 hB hbw hR hV hsz (by omega) h2
      · by_cases h3 : 0 ≤ findW (lettersOf s0)
        · by_cases hf : m.funcs = []
          · cases hcon : conL (lettersOf (shapeI (findW (lettersOf s0)))) with
            | true => exact line13_none_true V s0 r base b0 rb D F m Cs w hR hV h1 h2 hf h3 hcon
            | false => exact line13_none_false V s0 r base b0 rb D F m Cs w hR hV h1 h2 hf h3 hcon
          · cases hcon : conL (lettersOf (shapeI (findW (lettersOf s0)))) with
            | true => exact line13_ins_con V s0 r base b0 rb D F m Cs w0 w hE h0 hB hbw hR hV hsz (by omega) (by omega) (fun f hf => by have := c3 f hf; omega) h1 h2 h3 hf hcon
            | false => exact line13_ins_plain V s0 r base b0 rb D F m Cs w0 w hE h0 hB hbw hR hV hsz (by omega) (by omega) (fun f hf => by have := c3 f hf; omega) h1 h2 h3 hf hcon
        · exact line13_none_op V s0 r base b0 rb D F m Cs w hR hV h1 h2 (by omega)
theorem Rdr13.but {R : Nat → Prop} {base b0 rb : Nat} {D F : Value} {m : ModV} {Cs : List Value} {A B : World} (h : Rdr13 base b0 A rb D F m Cs) (hb : But R A B) (hR : ∀ k c t, A.heap[k]? = some (.cells c t (0, 0)) → R k → t = 9) : Rdr13 base b0 B rb D F m Cs :=
  ⟨hb.heap h.box (fun e => absurd (hR _ _ _ h.box e) (by decide)), h.dat.but hb (fun g hg e => by obtain ⟨c, hc⟩ := h.dat.typed hg; exact absurd (hR _ _ _ hc e) (by decide)), h.bd, h.fns.but hb (fun k c hc e => absurd (hR _ _ _ hc e) (by decide)) (fun k c hc e => absurd (hR _ _ _ hc e) (by decide)) (fun k c hc e => absurd (hR _ _ _ hc e) (by decide))⟩
/-- What has been read, and where all lies, between two lines. -/
structure Mid13 (w : World) (pre : List (List Int)) (B : World) : Prop where
  rdr : ∃ m b0 D F Cs, Rdr13 (w.heap.size + 7) b0 B (w.heap.size + 2) D F m Cs ∧ Run13 pre m ∧ cntM m ≤ wideW pre
  mod : B.heap[w.heap.size]? = some (.cells #[.slice none 0 0, .slice none 0 0] 25 (0, 0))
  flt : B.heap[w.heap.size + 1]? = some (.cells #[.int .i64 0, .int .i64 0] 41 (0, 0))
  plc : B.heap[w.heap.size + 3]? = some (.cells #[.int .i64 (wideW pre)] 3 (0, 0))
  str : ∃ c, B.heap[w.heap.size + 4]? = some (.cells c 9 (0, 0))
  bel : Below w.heap.size w B
  big : w.heap.size + 7 ≤ B.heap.size
/-- Where a line is wrong. -/
structure Bad13 (w : World) (s : List Int) (B : World) : Prop where
  mod : B.heap[w.heap.size]? = some (.cells #[.slice none 0 0, .slice none 0 0] 25 (0, 0))
  flt : ∃ (e : Int) (k : Nat), B.heap[w.heap.size + 1]? = some (.cells #[.int .i64 e, .int .i64 k] 41 (0, 0)) ∧ e ≠ 0 ∧ (runL ⟨[], []⟩ 0 (linesOf s)).2 = (e, k)
  str : ∃ c, B.heap[w.heap.size + 4]? = some (.cells c 9 (0, 0))
  bel : Below w.heap.size w B
theorem Mid13.but {R : Nat → Prop} {w A B : World} {pre : List (List Int)} (h : Mid13 w pre A) (hb : But R A B) (hR : ∀ k c t, A.heap[k]? = some (.cells c t (0, 0)) → R k → t = 9) (hs : ∃ c, B.heap[w.heap.size + 4]? = some (.cells c 9 (0, 0))) (hl : ∀ k, R k → w.heap.size ≤ k) : Mid13 w pre B := by
  obtain ⟨m, b0, D, F, Cs, h1, h2⟩ := h.rdr
  exact ⟨⟨m, b0, D, F, Cs, h1.but hb hR, h2⟩, hb.heap h.mod (fun e => absurd (hR _ _ _ h.mod e) (by decide)), hb.heap h.flt (fun e => absurd (hR _ _ _ h.flt e) (by decide)), hb.heap h.plc (fun e => absurd (hR _ _ _ h.plc e) (by decide)), hs, But.below h.bel hb h.bel.size hl, Nat.le_trans h.big hb.size⟩
theorem Bad13.but {R : Nat → Prop} {w A B : World} {s : List Int} (h : Bad13 w s A) (hb : But R A B) (hR : ∀ k c t, A.heap[k]? = some (.cells c t (0, 0)) → R k → t = 9) (hs : ∃ c, B.heap[w.heap.size + 4]? = some (.cells c 9 (0, 0))) (hl : ∀ k, R k → w.heap.size ≤ k) : Bad13 w s B := by
  obtain ⟨e, k, h1, h2⟩ := h.flt
  exact ⟨hb.heap h.mod (fun e => absurd (hR _ _ _ h.mod e) (by decide)), ⟨e, k, hb.heap h1 (fun e => absurd (hR _ _ _ h1 e) (by decide)), h2⟩, hs, But.below h.bel hb h.bel.size hl⟩
theorem mv_but {zb : Nat} {A B : World} (h : Mv13 zb A B) : But (OneBlock zb) A B := by
  obtain ⟨r, rfl⟩ := h
  exact (But.refl (OneBlock zb) A).setCell (p := ⟨zb, 0, none⟩) (.inl rfl) _
theorem mv_str {zb : Nat} {A B : World} (h : Mv13 zb A B) (hs : ∃ c, A.heap[zb]? = some (.cells c 9 (0, 0))) : ∃ c, B.heap[zb]? = some (.cells c 9 (0, 0)) := by
  obtain ⟨r, rfl⟩ := h
  obtain ⟨c, hc⟩ := hs
  exact ⟨_, heap_setCell_same A zb 0 _ _ _ hc⟩
theorem Mid13.mv {w A B : World} {pre : List (List Int)} (hm : Mv13 (w.heap.size + 4) A B) (h : Mid13 w pre A) : Mid13 w pre B :=
  h.but (mv_but hm) (fun k c t hc e => by
    have e' : k = w.heap.size + 4 := e
    subst e'
    obtain ⟨c', hc'⟩ := h.str
    exact other_type hc hc') (mv_str hm h.str) (fun k e => by have e' : k = w.heap.size + 4 := e; omega)
theorem Bad13.mv {w A B : World} {s : List Int} (hm : Mv13 (w.heap.size + 4) A B) (h : Bad13 w s A) : Bad13 w s B :=
  h.but (mv_but hm) (fun k c t hc e => by
    have e' : k = w.heap.size + 4 := e
    subst e'
    obtain ⟨c', hc'⟩ := h.str
    exact other_type hc hc') (mv_str hm h.str) (fun k e => by have e' : k = w.heap.size + 4 := e; omega)
theorem put_but (A : World) (l : Nat) (o : Obj) : But (OneBlock l) A (A.putObj l o) := by
  have h := grownBy_putObj' A l o
  exact ⟨h.os, h.tape, h.output, h.size, fun k hk hn => h.block k hk (fun e => hn (by injection e))⟩
theorem Mid13.turns {w : World} {pre : List (List Int)} {b : Nat} (hb : w.heap.size ≤ b) : Turns b (Mid13 w pre) := fun A l o o' hl ho hc h => by
  have hn : ∀ k c t, A.heap[k]? = some (.cells c t (0, 0)) → ¬ OneBlock l k := fun k c t hk e => by
    have e' : k = l := e
    subst e'
    rw [hk] at ho
    injection ho with ho
    subst ho
    cases hc
  obtain ⟨c, hs⟩ := h.str
  exact h.but (put_but A l o') (fun k c t hk e => absurd e (hn k c t hk)) ⟨c, (put_but A l o').heap hs (hn _ _ _ hs)⟩ (fun k e => by have e' : k = l := e; omega)
theorem Bad13.turns {w : World} {s : List Int} {b : Nat} (hb : w.heap.size ≤ b) : Turns b (Bad13 w s) := fun A l o o' hl ho hc h => by
  have hn : ∀ k c t, A.heap[k]? = some (.cells c t (0, 0)) → ¬ OneBlock l k := fun k c t hk e => by
    have e' : k = l := e
    subst e'
    rw [hk] at ho
    injection ho with ho
    subst ho
    cases hc
  obtain ⟨c, hs⟩ := h.str
  exact h.but (put_but A l o') (fun k c t hk e => absurd e (hn k c t hk)) ⟨c, (put_but A l o').heap hs (hn _ _ _ hs)⟩ (fun k e => by have e' : k = l := e; omega)
theorem kp13_t {zb : Nat} {A B C : World} (h : Kp13 zb A B) (k : Kp13 zb B C) : Kp13 zb A C := fun i h1 h2 => (k i h1 h2).trans (h i h1 h2)
theorem kp13_b {zb b : Nat} (hb : zb + 3 ≤ b) (A : World) (l : Nat) (o o' : Obj) (hl : b ≤ l) : Kp13 zb A (A.putObj l o') := fun i h1 h2 => World.putObj_heap_other (by omega)
theorem kp_wr {rb bb zb : Nat} {A B : World} (h : Wr13 rb bb A B) (h1 : zb + 3 ≤ bb) (h2 : rb < zb) (hz : zb + 3 ≤ A.heap.size) : Kp13 zb A B := fun i h3 h4 => h.block i (by omega) (by rintro (e | ⟨e, _⟩) <;> omega)
theorem wr_others {rb bb : Nat} {A B : World} {c : Array Value} {t : TypeId} (h : Wr13 rb bb A B) (hr : A.heap[rb]? = some (.cells c t (0, 0))) : KeepsOthers A B :=
  ⟨h.size, fun k o ho hc => (h.block k (heap_lt ho) (by
    rintro (rfl | ⟨_, c', t', f', e⟩)
    · rw [hr] at ho; injection ho with ho; subst ho; cases hc
    · rw [e] at ho; injection ho with ho; subst ho; cases hc)).trans ho⟩
end Go.Proofs.YtohlifeenhaifaaGreatDoor
