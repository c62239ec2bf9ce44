/- Step and Run of the document's own way of layer 4: contracts for any such machine, in whatever memory of the program. -/
import Derived.Test.YtnaceogkaiodnaaGreatM14
import Derived.Test.YtnaceogkaiodnaaGreatM27
import Derived.Test.YtnaceogkaiodnaaGreatM10
import Derived.Test.YtnaceogkaiodnaaGreatM13
import Derived.Test.YtnaceogkaiodnaaGreatM2
import Derived.Deep.RegionHeld3
namespace Go.Proofs.YtnaceogkaiodnaaGreat
open Go.RowKit
set_option linter.unusedVariables false

section
variable {w w' : World} {rx rm rb rc : Nat} {V : Value} {code : List Int} {s : MSt}
theorem rmem_any (h : RMach w rx rm rb rc V code s) (op imm : Int) (d a b : Nat) (hd : d < 32) (ha : a < 32) (hb : b < 32) (o1 : 11 ≤ op) (o2 : op ≤ 21) :
    Calls Tryz.prog 41 #[.pointer (some ⟨rx, 0, none⟩), .agg #[.int .i64 op, .int .i64 d, .int .i64 a, .int .i64 b, .int .i64 imm]] w (REffDone rx rm rb rc V code w (execV ⟨op, d, a, b, imm⟩ s)) := by
  have hz : 0 < sizeV op := by
    rcases (by omega : op = 11 ∨ op = 12 ∨ op = 13 ∨ op = 14 ∨ op = 15 ∨ op = 16 ∨ op = 17 ∨ op = 18 ∨ op = 19 ∨ op = 20 ∨ op = 21) with rfl | rfl | rfl | rfl | rfl | rfl | rfl | rfl | rfl | rfl | rfl <;> decide
  have ga : s.get (a : Int) = s.r a := rfl
  have gb : s.get (b : Int) = s.r b := rfl
  unfold execV
  simp only [ga, gb]
  rw [if_neg (show ¬ op = 63 by omega)]
  by_cases hs : 18 ≤ op
  · rw [if_pos (show storeOp op = true from decide_eq_true (by omega))]
    by_cases he : numE s.xs.length (w64 (s.r a + imm)) (sizeV op) = 0
    · rw [if_pos he]
      exact rmemStore_ok h op imm d a b hd ha hb hs o2 he
    · rw [if_neg he]
      exact rmemStore_bad h op imm d a b hd ha hb hs o2 he
  · rw [if_neg (show ¬ storeOp op = true by rw [show storeOp op = false from decide_eq_false (by omega)]; decide), if_pos hz]
    by_cases he : numE s.xs.length (w64 (s.r a + imm)) (sizeV op) = 0
    · rw [if_pos he]
      cases hg : signedOp op
      · rw [if_neg (by decide)]
        exact rmemLoad_okU h op imm d a b hd ha hb o1 (by omega) hg he
      · rw [if_pos rfl]
        exact rmemLoad_okS h op imm d a b hd ha hb o1 (by omega) hg he
    · rw [if_neg he]
      exact rmemLoad_bad h op imm d a b hd ha hb o1 (by omega) he
theorem notR_text {f : RvForm} (h : f ≠ .R) : ((FormStr f).toList == [82]) = false := by
  cases f
  · exact absurd rfl h
  all_goals kernel_rfl
/-- What an instruction does is what executing it is. -/
theorem rexec_any (h : RMach w rx rm rb rc V code s) {y : RvV} (hy : y.ok) (hf : Calls Tryz.prog 38 #[.pointer (some ⟨rx, 0, none⟩)] w (RFetchDone w (.agg #[.int .i64 y.op, .int .i64 y.rd, .int .i64 y.rs1, .int .i64 y.rs2, .int .i64 y.imm]) 0)) :
    Calls Tryz.prog 14 #[.pointer (some ⟨rx, 0, none⟩)] w (REffDone rx rm rb rc V code w (execV y s)) := by
  obtain ⟨hd0, hd1⟩ := reg_pos hy.rd
  obtain ⟨ha0, ha1⟩ := reg_pos hy.rs1
  obtain ⟨hb0, hb1⟩ := reg_pos hy.rs2
  have hop := hy.op
  clear hy
  obtain ⟨op, rd, rs1, rs2, imm⟩ := y
  simp only at *
  obtain ⟨d, rfl⟩ := nat_of hd0
  obtain ⟨a, rfl⟩ := nat_of ha0
  obtain ⟨b, rfl⟩ := nat_of hb0
  have hd : d < 32 := by omega
  have ha : a < 32 := by omega
  have hb : b < 32 := by omega
  rcases op_cases hop with rfl | rfl | rfl | rfl | rfl | rfl | rfl | rfl | rfl | rfl | rfl | rfl | rfl | rfl | rfl | rfl | rfl | rfl | rfl | rfl | rfl | rfl | ⟨g1, g2⟩ | ⟨g1, g2⟩
  · rw [exec_1]; exact rexec_1 h imm d a b hd ha hb hf
  · rw [exec_2]; exact rexec_2 h imm d a b hd ha hb hf
  · rw [exec_3]; exact rexec_jump h imm d a b hd ha hb _ (by decide) (by decide) (fun u hu => rjump_jal hu imm d a b hd ha hb) hf
  · rw [exec_4]; exact rexec_jump h imm d a b hd ha hb _ (by decide) (by decide) (fun u hu => rjump_jalr hu imm d a b hd ha hb) hf
  · rw [exec_5]; exact rexec_jump h imm d a b hd ha hb _ (by decide) (by decide) (fun u hu => rjump_br hu imm d a b hd ha hb (by decide)) hf
  · rw [exec_6]; exact rexec_jump h imm d a b hd ha hb _ (by decide) (by decide) (fun u hu => rjump_br hu imm d a b hd ha hb (by decide)) hf
  · rw [exec_7]; exact rexec_jump h imm d a b hd ha hb _ (by decide) (by decide) (fun u hu => rjump_br hu imm d a b hd ha hb (by decide)) hf
  · rw [exec_8]; exact rexec_jump h imm d a b hd ha hb _ (by decide) (by decide) (fun u hu => rjump_br hu imm d a b hd ha hb (by decide)) hf
  · rw [exec_9]; exact rexec_jump h imm d a b hd ha hb _ (by decide) (by decide) (fun u hu => rjump_br hu imm d a b hd ha hb (by decide)) hf
  · rw [exec_10]; exact rexec_jump h imm d a b hd ha hb _ (by decide) (by decide) (fun u hu => rjump_br hu imm d a b hd ha hb (by decide)) hf
  iterate 11
    · exact rexec_mem h imm d a b hd ha hb _ (by decide) (by decide) (by decide) (fun u hu => rmem_any hu _ imm d a b hd ha hb (by decide) (by decide)) hf
  · rw [exec_63]; exact rexec_63 h imm d a b hd ha hb hf
  · rw [exec_make (by show 22 ≤ op; omega) (by show op ≤ 62; omega)]
    simp only
    have hn := notR g1 g2
    rw [if_neg hn]
    have ht := notR_text hn
    rw [← show formV op = FormStr (rvRowN op.toNat).form by unfold formV; rw [if_pos hop]] at ht
    unfold mkV
    cases hh : halfOp op
    · exact rexec_Ido h imm d a b hd ha hb (by omega) (by omega) hh (formV op) (fun u => rform_any op u) ht hf
    · exact rexec_Ihalf h imm d a b hd ha hb (by omega) (by omega) hh (formV op) (fun u => rform_any op u) ht hf
  · rw [exec_make (by show 22 ≤ op; omega) (by show op ≤ 62; omega)]
    simp only
    have hn := isR g1 g2
    rw [if_pos hn]
    have ht : ∀ u, Calls Tryz.prog 43 #[.int .i64 op] u (TextDone u ⟨#[82]⟩) := fun u => by
      have := rform_any op u
      rw [show formV op = ⟨#[82]⟩ by unfold formV; rw [if_pos hop, hn]; rfl] at this
      exact this
    unfold mkV
    cases hh : halfOp op
    · exact rexec_Rdo h imm d a b hd ha hb (by omega) (by omega) hh ht hf
    · exact rexec_Rhalf h imm d a b hd ha hb (by omega) (by omega) hh ht hf
/-- A step is what it should be. -/
theorem rstep_any (h : RMach w rx rm rb rc V code s) : Calls Tryz.prog 14 #[.pointer (some ⟨rx, 0, none⟩)] w (REffDone rx rm rb rc V code w (stepV code s)) := by
  unfold stepV
  by_cases h1 : s.pc % 4 = 0
  · rw [if_neg (by simpa using h1)]
    by_cases h2 : s.pc < 4294967296 ∨ (code.length : Int) ≤ (s.pc - 4294967296) / 4
    · rw [if_pos h2]
      exact rexec_none h (by decide) (rfetch_out h h1 h2)
    · rw [if_neg h2]
      obtain ⟨j, hj⟩ : ∃ j : Nat, (s.pc - 4294967296) / 4 = j := nat_of (by omega)
      have hj1 : j < code.length := by omega
      have hp : s.pc = 4294967296 + 4 * (j : Int) := by omega
      have hj2 : ((s.pc - 4294967296) / 4).toNat = j := by omega
      rw [hj2]
      have hm := h.iscode
      rcases hm with h' | ⟨cb, cap, cur, rfl, q1, q2⟩
      · have := h'.1
        rw [this] at hj1
        simp at hj1
      · have hx := h.words (code.getD j 0) (getD_mem hj1)
        by_cases hy : ∃ y, IsWord y (code.getD j 0)
        · obtain ⟨y, hy⟩ := hy
          rw [decV_some hy]
          exact rexec_any h hy.1 (rfetch_ok h rfl q1 (q2 j hj1) hp hj1 fun u => rdec_yes hy u)
        · have hn : ∀ y, ¬ IsWord y (code.getD j 0) := fun y hh => hy ⟨y, hh⟩
          rw [decV_none hn]
          exact rexec_none h (by decide) (rfetch_ill h rfl q1 (q2 j hj1) hp hj1 fun u => rdec_no hx.1 hx.2 hn u)
  · rw [if_pos (by simpa using h1)]
    exact rexec_none h (by decide) (rfetch_odd h h1)
end
end Go.Proofs.YtnaceogkaiodnaaGreat

namespace Go.Proofs.YtnaceogkaiodnaaGreat
open Go.RowKit
set_option linter.unusedVariables false

section
variable {w w' : World} {rx rm rb rc : Nat} {V : Value} {code : List Int} {s : MSt}
/-- What a run leaves. -/
def RRunDone (rx rm rb rc : Nat) (V : Value) (code : List Int) (w : World) (r : Int × Nat × MSt) (e : Ending) (w' : World) : Prop :=
  e = .returned (.tuple #[.int .i64 r.1, .int .i64 r.2.1]) ∧ RMach w' rx rm rb rc V code r.2.2 ∧ But (TwoBlocks rx rb) w w'
set_option maxRecDepth 100000 in
set_option maxHeartbeats 4000000 in
theorem rrun_any (h : RMach w rx rm rb rc V code s) (most : Int) (n : Nat) (hn : most = n ∨ most ≤ 0 ∧ n = 0) (hb : n ≤ 1000000) (hl : -9223372036854775808 ≤ most) :
    Calls Tryz.prog 16 #[.pointer (some ⟨rx, 0, none⟩), .int .i64 most] w (RRunDone rx rm rb rc V code w (runV code n s)) := by
  have HM := Lib.hid h
  have hmax : max most 0 = (n : Int) := by omega
  obtain ⟨R0, hR0⟩ : ∃ R0, R0 = runV code n s := ⟨_, rfl⟩
  rw [← hR0]
  have HR0 := Lib.hid hR0
  clear hR0
  go_enter Tryz.func16, Tryz.ntmps16
  go_wp2_with fail
  go_loopw [6] (fun i wr => ∃ k : Nat, k ≤ n ∧ i = .int .i64 k ∧ Hid (RanV code k s ∧ RMach wr rx rm rb rc V code (itV code k s) ∧ But (TwoBlocks rx rb) w wr)) (fun i _ => n - (intOf i).toNat)
  case atStart => exact ⟨0, by omega, rfl, ⟨fun k hk => by omega, HM.out, But.refl _ _⟩⟩
  case round =>
    obtain ⟨k, hk, rfl, hq⟩ := hrel
    by_cases hlt : k < n
    · have hc : (k : Int) < most := by omega
      have hst := rstep_any hq.out.2.1
      by_cases he : (stepV code (itV code k s)).1 = 0
      · have hra : RanV code (k + 1) s := fun q hq' => by
          by_cases e : q = k
          · rw [e]; exact he
          · exact hq.out.1 q (by omega)
        have HRA := Lib.hid hra
        have hit := it_one code k s
        generalize stepV code (itV code k s) = R at hst he hit
        obtain ⟨E, s2⟩ := R
        obtain rfl : E = 0 := he
        have HST := Lib.hid hst
        have HIT := Lib.hid hit
        clear hst hra hit h hn hmax
        go_wp2_with (go_at_call 14; (with_reducible refine HST.out.mono ?_); rintro e w2 ⟨rfl, hm, hb2⟩; have M2 := Lib.hid hm; have B2 := Lib.hid hb2; clear hm hb2)
        go_roundw
        case rel => exact ⟨k + 1, by omega, by go_num, ⟨HRA.out, by rw [HIT.out]; exact M2.out, hq.out.2.2.trans B2.out⟩⟩
        case measure => simp [intOf]; omega
      · have hend : runV code n s = ((stepV code (itV code k s)).1, k, itV code k s) := by
          obtain ⟨q, rfl⟩ : ∃ q, n = k + (q + 1) := ⟨n - k - 1, by omega⟩
          exact run_ends hq.out.1 he
        have HR1 := Lib.hid (HR0.out.trans hend)
        have hsy := step_stays code _ he
        generalize stepV code (itV code k s) = R at hst he hsy HR1
        obtain ⟨E, s2⟩ := R
        simp only at he hsy
        subst hsy
        have e1 : (E != 0) = true := by simpa using he
        have e2 : (E == 0) = false := by simpa using he
        have HST := Lib.hid hst
        clear hst he h hn hmax hend
        go_wp2_with (go_at_call 14; (with_reducible refine HST.out.mono ?_); rintro e w2 ⟨rfl, hm, hb2⟩; have M2 := Lib.hid hm; have B2 := Lib.hid hb2; clear hm hb2)
        go_ret2
        rw [HR1.out]
        exact ⟨rfl, M2.out, hq.out.2.2.trans B2.out⟩
    · obtain rfl : k = n := by omega
      have hc : ¬ (k : Int) < most := by omega
      have HR1 := Lib.hid (HR0.out.trans (run_all hq.out.1))
      have HN := Lib.hid hn
      clear h hn
      go_wp2
      all_goals
        go_ret2
        rw [HR1.out]
        have hn := HN.out
        exact ⟨ret_int2 rfl (by show _ = ((k : Nat) : Int); omega), hq.out.2.1, hq.out.2.2⟩
def RLoadDone (rx rm rb rc : Nat) (cs : List Int) (s : MSt) (w : World) (e : Ending) (w' : World) : Prop :=
  e = .returned (.int .i64 0) ∧ ∃ V', RMach w' rx rm rb rc V' cs s ∧ (∀ k, CodeIn V' k → w.heap.size ≤ k ∧ k < w'.heap.size) ∧ But (OneBlock rx) w w'
theorem RMach.setV {V' : Value} {cs : List Int} (h : RMach w rx rm rb rc V code s) (hc : RCode w V' cs) (hca : ∀ k, CodeIn V' k → k ≠ rx) (hw : ∀ x ∈ cs, 0 ≤ x ∧ x < 4294967296) (hl : cs.length ≤ 65536) : RMach (w.setCell ⟨rx, 34, none⟩ V') rx rm rb rc V' cs s := by
  obtain ⟨cur, h1, h2⟩ := h.head
  have hs := h2.size
  have ho : ∀ j : Nat, j ≠ 34 → (cur.setIfInBounds 34 V')[j]? = cur[j]? := fun j hj => by rw [Array.getElem?_setIfInBounds_ne (by omega)]
  have ha := h.apart
  have hb := (But.refl (OneBlock rx) w).setCell (p := ⟨rx, 34, none⟩) (.inl rfl) V'
  exact ⟨⟨_, heap_setCell_same w rx 34 cur _ V' h1, ⟨by simpa using hs, fun k hk => (ho k (by omega)).trans (h2.reg k hk), (ho 32 (by omega)).trans h2.pc, (ho 33 (by omega)).trans h2.mem, by rw [Array.getElem?_setIfInBounds_self_of_lt (by omega)]⟩⟩, hc.heap fun k hk hlt => hb.block k hlt (oneBlock_not (hca k hk)), h.mem.but hb (oneBlock_not ha.1) (oneBlock_not ha.2), h.ok, hw, hl⟩
set_option maxRecDepth 100000 in
set_option maxHeartbeats 4000000 in
theorem rLoad_some (h : RMach w rx rm rb rc V code s) (ad : Addr) (cap : Nat) {cs : List Int} (hl : cs.length ≤ 65536) (hc : ∀ i, i < cs.length → w.cell? (ad.add i) = some (.int .u32 (cs.getD i 0))) (hb : 0 < cs.length → ad.block < w.heap.size) (hw : ∀ x ∈ cs, 0 ≤ x ∧ x < 4294967296) :
    Calls Tryz.prog 31 #[.pointer (some ⟨rx, 0, none⟩), .slice (some ad) cs.length cap] w (RLoadDone rx rm rb rc cs s w) := by
  obtain ⟨i0, hi, hz0, hz1, hz2⟩ := info_parts u32_info
  have HI := Lib.hid hi
  have HZ0 := Lib.hid hz0
  have HZ1 := Lib.hid hz1
  have HZ2 := Lib.hid hz2
  have news : ∀ j u, (cs.map (Value.int .u32))[j]? = some u → (w.alloc (.cells #[] 74)).cell? (ad.add j) = some u := by
    intro j u hj
    have hlj : j < cs.length := by
      rcases Nat.lt_or_ge j cs.length with h | h
      · exact h
      · rw [List.getElem?_eq_none (by simpa using h)] at hj
        cases hj
    have hbl : (ad.add j).block = ad.block := by unfold Addr.add; split <;> rfl
    rw [World.cell?_alloc_lt w _ _ (by rw [hbl]; exact hb (by omega)), hc j hlj]
    simp [List.getElem?_eq_getElem hlj] at hj
    subst hj
    simp [List.getD, List.getElem?_eq_getElem hlj]
  have hmade := Owns.made w w.heap.size 74 1 (IsNum .u32) (Nat.le_refl _)
  have HN := Lib.hid news
  have HM := Lib.hid hmade
  have HR := Lib.hid h
  have HW := Lib.hid hw
  have hlim : ¬ (65536 : Int) < (cs.length : Int) := by omega
  have lt := h.lt
  clear hi hz0 hz1 hz2 news hmade hc hb hw h
  go_enter Tryz.func31, Tryz.ntmps31
  go_wp2_with (at_builtin; refine wpList_append_q _ rfl (.tmp 9) (.tmp 10) 22 rfl w.heap.size 74 i0 _ 1 4 Tryz.underlying22 HI.out HZ0.out HZ1.out HZ2.out rfl (by decide) (IsNum .u32) (zero_num .u32) _ 0 [] rfl HM.out ad cs.length cap (cs.map (Value.int .u32)) rfl (by simp) HN.out (ints_oneCell _ _) (num_cells _ _) (by simp only [maxLen]; omega) (by omega) (by simp) ?_; intro v' w1 hown' hgrow; have hbel := ((Below.refl w.heap.size w).alloc (Nat.le_refl _) _).grown hgrow (by simp) (fun g hg => (HM.out.lt hg).1); have M1 := Lib.hid (HR.out.below hbel); have B1 := Lib.hid hbel; have c1 := M1.out.codec; have f1 := M1.out.free 34; obtain ⟨A', n', c', hv'⟩ : ∃ A' n' c', v' = .slice A' n' c' := (by rcases hown'.1.2 with ⟨e, _⟩ | ⟨_, _, _, e, _⟩ <;> exact ⟨_, _, _, e⟩); subst hv'; have R0 := Lib.hid hown'; clear hown' hgrow hbel)
  go_ret
  have ho : Owns w1 w.heap.size 74 1 (IsNum .u32) (.slice A' n' c') cs.length (cs.map (Value.int .u32)) := by have h := R0.out; simpa using h
  have hin : ∀ k, CodeIn (.slice A' n' c') k → w.heap.size ≤ k ∧ k < w1.heap.size := by
    rintro k ⟨o, n, c, hk⟩
    rw [hk] at ho
    exact ho.lt (g := k) (by simp [Value.ownBlock])
  have hcode : RCode w1 (.slice A' n' c') cs := by
    rcases ho.1.2 with ⟨he, hn⟩ | ⟨g, cp, cur, he, h1, h2, h3, h4, h5, _⟩
    · have : cs = [] := List.eq_nil_of_length_eq_zero (by omega)
      subst this
      exact .inl ⟨rfl, none, 0, he⟩
    · rw [he] at ho
      refine .inr ⟨g, cp, cur, he, h2, fun i hi => ?_⟩
      have hcell := ho.1.cells (g := g) rfl i _ (by simp [List.getElem?_eq_getElem hi, List.getD] : (cs.map (Value.int .u32))[i]? = some (.int .u32 (cs.getD i 0)))
      have e : (⟨g, 0, none⟩ : Addr).add i = ⟨g, i, none⟩ := by unfold Addr.add; split <;> simp_all
      rw [e, cell_of_row w1 g i _ _ _ h2] at hcell
      exact hcell
  exact ⟨rfl, _, M1.out.setV hcode (fun k hk => by have := hin k hk; omega) HW.out hl, fun k hk => ⟨(hin k hk).1, by have := (hin k hk).2; simpa [World.setCell] using this⟩, (But.of_below (R := OneBlock rx) B1.out).setCell (p := ⟨rx, 34, none⟩) (.inl rfl) _⟩
set_option maxRecDepth 100000 in
theorem rLoad_none (h : RMach w rx rm rb rc V code s) : Calls Tryz.prog 31 #[.pointer (some ⟨rx, 0, none⟩), .slice none 0 0] w (RLoadDone rx rm rb rc [] s w) := by
  have HM := Lib.hid (h.alloc (.cells #[] 74))
  have HR := Lib.hid h
  have c1 := HM.out.codec
  have f1 := HM.out.free 34
  have lt := h.lt
  clear h
  go_enter Tryz.func31, Tryz.ntmps31
  go_wp2
  go_ret
  have hone : ∀ k, CodeIn (.slice (some ⟨w.heap.size, 0, none⟩) 0 0) k → k = w.heap.size := fun k hk => by
    obtain ⟨o, n, c, e⟩ := hk
    injection e with e _ _
    injection e with e
    injection e with e _ _
    exact e.symm
  exact ⟨rfl, .slice (some ⟨w.heap.size, 0, none⟩) 0 0, (HR.out.setV (cs := []) (.inl ⟨rfl, _, _, rfl⟩) (fun k hk => by rw [hone k hk]; omega) (by simp) (by simp)).alloc _, fun k hk => by rw [hone k hk]; simp [World.setCell], ((But.refl (OneBlock rx) w).setCell (p := ⟨rx, 34, none⟩) (.inl rfl) _).alloc _⟩
theorem rLoad_any (h : RMach w rx rm rb rc V code s) {B : Nat} {Vc : Value} {cs : List Int} (hc : IsNums .u32 w B Vc cs) (hB : B ≤ w.heap.size) (hl : cs.length ≤ 65536) (hw : ∀ x ∈ cs, 0 ≤ x ∧ x < 4294967296) :
    Calls Tryz.prog 31 #[.pointer (some ⟨rx, 0, none⟩), Vc] w (RLoadDone rx rm rb rc cs s w) := by
  rcases hc.2 with ⟨rfl, rfl⟩ | ⟨ad, cap, rfl, _, h2, h3⟩
  · exact rLoad_none h
  · exact rLoad_some h ad cap hl h3 (fun hp => Nat.lt_of_lt_of_le (h2 hp) hB) hw
def rmach0 (p : Nat) : Array Value := #[.int .u64 0, .int .u64 0, .int .u64 0, .int .u64 0, .int .u64 0, .int .u64 0, .int .u64 0, .int .u64 0, .int .u64 0, .int .u64 0, .int .u64 0, .int .u64 0, .int .u64 0, .int .u64 0, .int .u64 0, .int .u64 0, .int .u64 0, .int .u64 0, .int .u64 0, .int .u64 0, .int .u64 0, .int .u64 0, .int .u64 0, .int .u64 0, .int .u64 0, .int .u64 0, .int .u64 0, .int .u64 0, .int .u64 0, .int .u64 0, .int .u64 0, .int .u64 0, .int .u64 4294967296, .pointer (some ⟨p, 0, none⟩), .slice none 0 0]
theorem rmach0_cells (rm : Nat) (xs : List Int) : RCells (rmach0 rm) rm (.slice none 0 0) (MSt.zero xs) :=
  ⟨rfl, fun k hk => by
    match k, hk with
    | 0, _ => rfl
    | 1, _ => rfl
    | 2, _ => rfl
    | 3, _ => rfl
    | 4, _ => rfl
    | 5, _ => rfl
    | 6, _ => rfl
    | 7, _ => rfl
    | 8, _ => rfl
    | 9, _ => rfl
    | 10, _ => rfl
    | 11, _ => rfl
    | 12, _ => rfl
    | 13, _ => rfl
    | 14, _ => rfl
    | 15, _ => rfl
    | 16, _ => rfl
    | 17, _ => rfl
    | 18, _ => rfl
    | 19, _ => rfl
    | 20, _ => rfl
    | 21, _ => rfl
    | 22, _ => rfl
    | 23, _ => rfl
    | 24, _ => rfl
    | 25, _ => rfl
    | 26, _ => rfl
    | 27, _ => rfl
    | 28, _ => rfl
    | 29, _ => rfl
    | 30, _ => rfl
    | 31, _ => rfl
    | k + 32, h => exact absurd h (by omega), rfl, rfl, rfl⟩
def RMadeMach (w : World) (rm rb rc : Nat) (xs : List Int) (e : Ending) (w' : World) : Prop :=
  ∃ rx, e = .returned (.pointer (some ⟨rx, 0, none⟩)) ∧ RMach w' rx rm rb rc (.slice none 0 0) [] (MSt.zero xs) ∧ w.heap.size ≤ rx ∧ Below w.heap.size w w'
set_option maxRecDepth 100000 in
set_option maxHeartbeats 4000000 in
theorem rnewMach_any {xs : List Int} (h : RefAt w rm rb rc xs) : Calls Tryz.prog 30 #[.pointer (some ⟨rm, 0, none⟩)] w (RMadeMach w rm rb rc xs) := by
  have HM := Lib.hid h
  clear h
  go_enter Tryz.func30, Tryz.ntmps30
  go_wp2
  go_ret
  exact ⟨w.heap.size, rfl, ⟨⟨_, heap_alloc_new w _, rmach0_cells rm xs⟩, .inl ⟨rfl, none, 0, rfl⟩, HM.out.below ((Below.refl _ _).alloc (Nat.le_refl _) _), MSt.zero_ok HM.out.bd, by simp, by simp⟩, Nat.le_refl _, (Below.refl _ _).alloc (Nat.le_refl _) _⟩
end
end Go.Proofs.YtnaceogkaiodnaaGreat

namespace Go.Proofs.YtnaceogkaiodnaaGreat
open Go.RowKit
set_option linter.unusedVariables false

/-- The blocks that a landed machine's calls change; those that a machine stands on. -/
def XBlk (xb bb : Nat) (V : Value) (k : Nat) : Prop := k = xb ∨ k = bb ∨ CodeIn V k
structure PairAt (u w : World) (pb xb mb bb c eb : Nat) (V : Value) (rx rm rb rc : Nat) (U : Value) (code : List Int) (s t : MSt) : Prop where
  lt : pb < w.heap.size
  p0 : w.cell? ⟨pb, 0, none⟩ = some (.pointer (some ⟨xb, 0, none⟩))
  p1 : w.cell? ⟨pb, 1, none⟩ = some (.pointer (some ⟨rx, 0, none⟩))
  p2 : w.cell? ⟨pb, 2, none⟩ = some (.pointer (some ⟨mb, 0, none⟩))
  p3 : w.cell? ⟨pb, 3, none⟩ = some (.pointer (some ⟨rm, 0, none⟩))
  m : Mach w xb mb bb c eb V code s
  r : RMach w rx rm rb rc U code t
  of1 : ∀ k, XBlk xb bb V k → ¬ (k = pb ∨ k = rx ∨ k = rm ∨ k = rb ∨ CodeIn U k)
  of2 : ∀ k, TwoBlocks rx rb k → ¬ (k = pb ∨ k = xb ∨ k = mb ∨ k = bb ∨ k = eb ∨ CodeIn V k)
  lo1 : ∀ k, XBlk xb bb V k → u.heap.size ≤ k
  lo2 : ∀ k, TwoBlocks rx rb k → u.heap.size ≤ k
  bel : Below u.heap.size u w
section
variable {u w w' : World} {pb xb mb bb c eb rx rm rb rc : Nat} {U V : Value} {code : List Int} {s s' t t' : MSt}
theorem PairAt.below (h : PairAt u w pb xb mb bb c eb V rx rm rb rc U code s t) (hb : Below w.heap.size w w') : PairAt u w' pb xb mb bb c eb V rx rm rb rc U code s t :=
  ⟨Nat.lt_of_lt_of_le h.lt hb.size, (hb.cell (p := ⟨pb, 0, none⟩) h.lt).trans h.p0, (hb.cell (p := ⟨pb, 1, none⟩) h.lt).trans h.p1, (hb.cell (p := ⟨pb, 2, none⟩) h.lt).trans h.p2, (hb.cell (p := ⟨pb, 3, none⟩) h.lt).trans h.p3, h.m.below hb, h.r.below hb, h.of1, h.of2, h.lo1, h.lo2, h.bel.trans (hb.mono h.bel.size)⟩
theorem PairAt.drewN (h : PairAt u w pb xb mb bb c eb V rx rm rb rc U code s t) (n : Nat) : PairAt u (w.drewN n) pb xb mb bb c eb V rx rm rb rc U code s t := h.below (below_drewN (Below.refl _ _) n)
theorem PairAt.both (h : PairAt u w pb xb mb bb c eb V rx rm rb rc U code s s) : Both w mb bb c rm rb rc s.xs :=
  ⟨h.m.mem, h.r.mem, fun e => h.of1 bb (.inr (.inl rfl)) (.inr (.inr (.inr (.inl e))))⟩
/-- A call of the landed machine. -/
theorem PairAt.fst' (h : PairAt u w pb xb mb bb c eb V rx rm rb rc U code s t) (hm : Mach w' xb mb bb c eb V code s') (hb : But (XBlk xb bb V) w w') : PairAt u w' pb xb mb bb c eb V rx rm rb rc U code s' t := by
  have hp : ¬ XBlk xb bb V pb := fun q => h.of1 _ q (.inl rfl)
  exact ⟨Nat.lt_of_lt_of_le h.lt hb.size, (hb.cell (p := ⟨pb, 0, none⟩) h.lt hp).trans h.p0, (hb.cell (p := ⟨pb, 1, none⟩) h.lt hp).trans h.p1, (hb.cell (p := ⟨pb, 2, none⟩) h.lt hp).trans h.p2, (hb.cell (p := ⟨pb, 3, none⟩) h.lt hp).trans h.p3, hm, h.r.but hb (fun q => h.of1 _ q (.inr (.inl rfl))) (fun q => h.of1 _ q (.inr (.inr (.inl rfl)))) (fun q => h.of1 _ q (.inr (.inr (.inr (.inl rfl))))) (fun _ k hk q => h.of1 _ q (.inr (.inr (.inr (.inr hk))))), h.of1, h.of2, h.lo1, h.lo2, But.below h.bel hb h.bel.size h.lo1⟩
/-- A call of the document's machine. -/
theorem PairAt.snd' (h : PairAt u w pb xb mb bb c eb V rx rm rb rc U code s t) (hm : RMach w' rx rm rb rc U code t') (hb : But (TwoBlocks rx rb) w w') : PairAt u w' pb xb mb bb c eb V rx rm rb rc U code s t' := by
  have hp : ¬ TwoBlocks rx rb pb := fun q => h.of2 _ q (.inl rfl)
  exact ⟨Nat.lt_of_lt_of_le h.lt hb.size, (hb.cell (p := ⟨pb, 0, none⟩) h.lt hp).trans h.p0, (hb.cell (p := ⟨pb, 1, none⟩) h.lt hp).trans h.p1, (hb.cell (p := ⟨pb, 2, none⟩) h.lt hp).trans h.p2, (hb.cell (p := ⟨pb, 3, none⟩) h.lt hp).trans h.p3, h.m.but hb (fun q => h.of2 _ q (.inr (.inl rfl))) (fun q => h.of2 _ q (.inr (.inr (.inl rfl)))) (fun q => h.of2 _ q (.inr (.inr (.inr (.inl rfl))))) (fun q => h.of2 _ q (.inr (.inr (.inr (.inr (.inl rfl)))))) (fun _ k hk q => h.of2 _ q (.inr (.inr (.inr (.inr (.inr hk)))))), hm, h.of1, h.of2, h.lo1, h.lo2, But.below h.bel hb h.bel.size h.lo2⟩
set_option maxRecDepth 100000 in
set_option maxHeartbeats 8000000 in
theorem pairAlike_any (h : PairAt u w pb xb mb bb c eb V rx rm rb rc U code s s) :
    Calls Tryz.prog 11 #[.pointer (some ⟨pb, 0, none⟩)] w fun e w' => e = .returned (.bool true) ∧ Below w.heap.size w w' := by
  have H := Lib.hid h
  have p0 := h.p0
  have p1 := h.p1
  have p2 := h.p2
  have p3 := h.p3
  have c0 := h.r.pc
  clear h
  go_enter Tryz.func11, Tryz.ntmps11
  go_wp2_with fail
  go_loopw [3] (fun i wr => ∃ k q : Nat, k ≤ 34 ∧ i = .int .i64 ((k : Int) - 1) ∧ wr = w.drewN q) (fun i _ => 34 - (intOf i + 1).toNat)
  case atStart => exact ⟨0, 0, by omega, rfl, rfl⟩
  case round =>
    obtain ⟨k, q, hk, rfl, rfl⟩ := hrel
    by_cases hlt : k < 34
    · have HR1 := Lib.hid (fun n => reg_any (H.out.m.drewN n) ((k : Int) - 1))
      have hr2 := fun n => rReg_any (H.out.r.drewN n) ((k : Int) - 1)
      rw [show (if 0 ≤ (k : Int) - 1 ∧ (k : Int) - 1 < 32 then s.r ((k : Int) - 1).toNat else 0) = regV s ((k : Int) - 1) from rfl] at hr2
      have HR2 := Lib.hid hr2
      generalize hi : (k : Int) - 1 = i at *
      have k1 : i ≤ 32 := by omega
      generalize regV s i = x at *
      clear hr2 c0
      go_wp2_with fail
      go_quiet (first
        | (go_at_call 21; with_reducible first | exact quiet_left3 (HR1.out _) | exact quiet_add_left3 (HR1.out _))
        | (go_at_call 34; with_reducible first | exact quiet_left3 (HR2.out _) | exact quiet_add_left3 (HR2.out _)))
      go_wp2_with fail
      go_roundw
      case rel => exact ⟨k + 1, _, by omega, by go_num, rfl⟩
      case measure => simp [intOf]; omega
    · obtain rfl : k = 34 := by omega
      have HD := Lib.hid (H.out.drewN q)
      have HPL := Lib.hid (fun n => place_any (HD.out.m.drewN n))
      have HAL := Lib.hid (fun n => alike_any mb bb c rm rb rc s.xs ((w.drewN q).drewN n) ((HD.out.drewN n).both))
      go_wp2_with fail
      have HPLd := Lib.hid (show Calls Tryz.prog 24 #[.pointer (some ⟨xb, 0, none⟩)] (w.drewN q).drew fun e w' => e = .returned (.int .u64 s.pc) ∧ (w.drewN q).drew = w' from HPL.out 1)
      have HALd := Lib.hid (show Calls Tryz.prog 35 #[.pointer (some ⟨mb, 0, none⟩), .pointer (some ⟨rm, 0, none⟩)] (w.drewN q).drew fun e w' => e = .returned (.bool true) ∧ Below (w.drewN q).drew.heap.size (w.drewN q).drew w' from HAL.out 1)
      have HK0 := Lib.hid (show (w.drewN q).cell? ⟨pb, 0, none⟩ = some (.pointer (some ⟨xb, 0, none⟩)) ∧ (w.drewN q).cell? ⟨pb, 1, none⟩ = some (.pointer (some ⟨rx, 0, none⟩)) ∧ (w.drewN q).cell? ⟨pb, 2, none⟩ = some (.pointer (some ⟨mb, 0, none⟩)) ∧ (w.drewN q).cell? ⟨pb, 3, none⟩ = some (.pointer (some ⟨rm, 0, none⟩)) ∧ (w.drewN q).cell? ⟨rx, 32, none⟩ = some (.int .u64 s.pc) from ⟨HD.out.p0, HD.out.p1, HD.out.p2, HD.out.p3, HD.out.r.pc⟩)
      have HB := Lib.hid (below_drewN (Below.refl w.heap.size w) q)
      clear HPL HAL p0 p1 p2 p3 c0
      generalize w.drewN q = X at *
      have HKd := Lib.hid (show X.drew.cell? ⟨pb, 0, none⟩ = some (.pointer (some ⟨xb, 0, none⟩)) ∧ X.drew.cell? ⟨pb, 1, none⟩ = some (.pointer (some ⟨rx, 0, none⟩)) ∧ X.drew.cell? ⟨pb, 2, none⟩ = some (.pointer (some ⟨mb, 0, none⟩)) ∧ X.drew.cell? ⟨pb, 3, none⟩ = some (.pointer (some ⟨rm, 0, none⟩)) ∧ X.drew.cell? ⟨rx, 32, none⟩ = some (.int .u64 s.pc) from HK0.out)
      go_region_held3 (fun w' => w'.cell? ⟨pb, 0, none⟩ = some (.pointer (some ⟨xb, 0, none⟩)) ∧ w'.cell? ⟨pb, 1, none⟩ = some (.pointer (some ⟨rx, 0, none⟩)) ∧ w'.cell? ⟨pb, 2, none⟩ = some (.pointer (some ⟨mb, 0, none⟩)) ∧ w'.cell? ⟨pb, 3, none⟩ = some (.pointer (some ⟨rm, 0, none⟩)) ∧ w'.cell? ⟨rx, 32, none⟩ = some (.int .u64 s.pc)) (first | with_reducible exact HK0.out | with_reducible exact HKd.out | with_reducible exact HK1.out | go_keep)
        (first
          | (go_at_call 24; (with_reducible refine HPLd.out.mono ?_); rintro e w' ⟨rfl, rfl⟩)
          | (go_at_call 35; (with_reducible refine HALd.out.mono ?_); rintro e w2 ⟨rfl, hb2⟩; have HK1 := Lib.hid (show w2.cell? ⟨pb, 0, none⟩ = some (.pointer (some ⟨xb, 0, none⟩)) ∧ w2.cell? ⟨pb, 1, none⟩ = some (.pointer (some ⟨rx, 0, none⟩)) ∧ w2.cell? ⟨pb, 2, none⟩ = some (.pointer (some ⟨mb, 0, none⟩)) ∧ w2.cell? ⟨pb, 3, none⟩ = some (.pointer (some ⟨rm, 0, none⟩)) ∧ w2.cell? ⟨rx, 32, none⟩ = some (.int .u64 s.pc) from ⟨(hb2.cell (p := ⟨pb, 0, none⟩) HD.out.lt).trans HK0.out.1, (hb2.cell (p := ⟨pb, 1, none⟩) HD.out.lt).trans HK0.out.2.1, (hb2.cell (p := ⟨pb, 2, none⟩) HD.out.lt).trans HK0.out.2.2.1, (hb2.cell (p := ⟨pb, 3, none⟩) HD.out.lt).trans HK0.out.2.2.2.1, (hb2.cell (p := ⟨rx, 32, none⟩) HD.out.r.lt.1).trans HK0.out.2.2.2.2⟩); have B2 := Lib.hid ((below_drewN HB.out 1).trans (hb2.mono HB.out.size)); clear hb2))
      all_goals
        go_wp2_with fail
        go_ret
        exact ⟨rfl, B2.out⟩
end
end Go.Proofs.YtnaceogkaiodnaaGreat

