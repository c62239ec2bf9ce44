/- The library's Repeat of one word, so many times. Contract; no condition but that they are few. -/
import Derived.Test.YtjoiocjnffaogaaGreatHeap11A
import Derived.Test.YtjoiocjnffaogaaGreatRef11B
import Derived.Laws.BitsAllLaws
import Derived.Laws.CopyOwn
namespace Go.Proofs.YtjoiocjnffaogaaGreat
open Go.RowKit Go.Shelf
set_option linter.unusedVariables false
set_option linter.unusedSimpArgs false

set_option maxHeartbeats 4000000 in
theorem mul64_one (n : Nat) (hn : n ≤ 5000) (w : World) : Calls Tryz.prog 65 #[.int .u64 1, .int .u64 n] w fun e w' => e = .returned (.tuple #[.int .u64 0, .int .u64 n]) ∧ w = w' := by
  have h1 : bits .and .u64 (n : Int) 4294967295 = (n : Int) := by
    have := u64_and_nat n 4294967295 (by omega) (by decide)
    rw [show (n &&& 4294967295 : Nat) = n from by rw [show (4294967295 : Nat) = 2 ^ 32 - 1 from rfl, Nat.and_two_pow_sub_one_eq_mod]; omega] at this
    exact this
  have h2 : bits .and .u64 (1 : Int) 4294967295 = 1 := by decide +kernel
  have h3 : bits .and .u64 (0 : Int) 4294967295 = 0 := by decide +kernel
  have h4 : (n : Int) / 4294967296 = 0 := by omega
  go_enter Tryz.func65, Tryz.ntmps65
  go_wp2
  go_ret2
  exact ⟨rfl, rfl⟩
theorem mul_one11 (n : Nat) (hn : n ≤ 5000) (w : World) : Calls Tryz.prog 49 #[.int .u64 1, .int .u64 n] w fun e w' => e = .returned (.tuple #[.int .u64 0, .int .u64 n]) ∧ w = w' := by
  have HM := Lib.hid (mul64_one n hn w)
  clear hn
  go_enter Tryz.func49, Tryz.ntmps49
  go_wp2_with (go_at_call 65; (with_reducible refine HM.out.mono ?_); rintro e w1 ⟨rfl, rfl⟩)
  go_ret2
  exact ⟨rfl, rfl⟩
/-- A row of which the first k are laid. -/
def repL (n k : Nat) (C : Value) : List Value := List.replicate k C ++ List.replicate (n - k) (.int .u64 0)
theorem repL_len {n k : Nat} {C : Value} (h : k ≤ n) : (repL n k C).length = n := by simp [repL]; omega
theorem repL_lay {n k m : Nat} {C : Value} (h : k + m ≤ n) : splice (repL n k C) k (List.replicate m C) = repL n (k + m) C := by
  unfold splice repL
  rw [List.length_replicate, List.take_append_of_le_length (by simp), List.take_of_length_le (by simp), List.drop_append, List.drop_eq_nil_of_le (by simp), List.nil_append, List.length_replicate, List.drop_replicate, ← List.append_assoc, List.replicate_append_replicate]
  congr 2
  omega
theorem repL_first {n : Nat} {C : Value} (h : 1 ≤ n) : splice (List.replicate n (.int .u64 0)) 0 [C] = repL n 1 C := by
  have := repL_lay (n := n) (k := 0) (m := 1) (C := C) (by omega)
  unfold repL at this ⊢
  simpa using this
theorem u64_size : (Tryz.prog.info? 30).map (·.size) = some 1 := by kernel_rfl
structure RepAt (w wr : World) (n k : Nat) (C : Value) : Prop where
  bel : Below w.heap.size w wr
  row : wr.heap[w.heap.size]? = some (.cells (repL n k C).toArray 30 (0, 0))
theorem RepAt.cell {w wr : World} {n k : Nat} {C : Value} (h : RepAt w wr n k C) {i : Nat} (hi : i < k) : wr.cell? ⟨w.heap.size, i, none⟩ = some C := by
  rw [cell_of_row _ _ _ _ _ _ h.row]
  unfold repL
  simp [List.getElem?_append, hi]
set_option maxRecDepth 100000 in
set_option maxHeartbeats 8000000 in
theorem repeat11 (xb n : Nat) (c : Int) (w : World) (hx : w.cell? ⟨xb, 0, none⟩ = some (.int .u64 c)) (hxb : xb < w.heap.size) (h1 : 1 ≤ n) (hn : n ≤ 5000) :
    Calls Tryz.prog 26 #[.slice (some ⟨xb, 0, none⟩) 1 1, .int .i64 n] w fun e w' => e = .returned (.slice (some ⟨w.heap.size, 0, none⟩) n n) ∧ RepAt w w' n n (.int .u64 c) := by
  have HM := Lib.hid (mul_one11 n hn w)
  have hmk := make_u64s n (by omega)
  have hmb : madeCells (Value.int .u64 0).cells (n * 1) = (List.replicate n (.int .u64 0)).toArray := by
    apply Array.ext_getElem?
    intro i
    rcases Nat.lt_or_ge i n with hi | hi
    · rw [made_row rfl hi]; simp [hi]
    · rw [Array.getElem?_eq_none (by simp [madeCells]; omega)]; simp [hi]
  have n0 : ¬ (n : Int) < 0 := by omega
  have n1 : (n : Int) ≤ 5000 := by omega
  have n2 : ¬ 9223372036854775807 < (n : Int) := by omega
  have w1 : IntKind.u64.wrap (n : Int) = (n : Int) := by rw [IntKind.wrap_u64]; omega
  have w2 : wrap64 (n : Int) = (n : Int) := by unfold wrap64; omega
  have HX := Lib.hid hx
  have HXB := Lib.hid hxb
  have HMB := Lib.hid hmb
  have H1 := Lib.hid h1
  generalize madeCells (Value.int .u64 0).cells (n * 1) = mb at *
  obtain ⟨Z0, hz⟩ : ∃ Z0 : List Value, Z0 = List.replicate n (.int .u64 0) := ⟨_, rfl⟩
  have HG : Hid ((w.alloc (.cells mb 30)).heap[w.heap.size]? = some (.cells Z0.toArray 30 (0, 0))) := Lib.hid (by rw [hz, ← hmb]; exact heap_alloc_new w (.cells mb 30))
  have HMN : Hid ([Value.int .u64 c].length = Nat.min 1 n) := Lib.hid (by simp only [Nat.min_def]; split <;> simp <;> omega)
  have HSRC : Hid (∀ j v, [Value.int .u64 c][j]? = some v → (w.alloc (.cells mb 30)).cell? ((⟨xb, 0, none⟩ : Addr).add j) = some v) := Lib.hid (fun j v hj => by
    cases j with
    | succ j => simp at hj
    | zero =>
    simp at hj
    subst hj
    exact (((Below.refl w.heap.size w).alloc (Nat.le_refl _) (.cells mb 30)).cell (p := ⟨xb, 0, none⟩) hxb).trans hx)
  have HFIT : Hid (0 + [Value.int .u64 c].length ≤ Z0.length) := Lib.hid (by rw [hz]; simp; omega)
  have HONE : Hid (∀ v ∈ [Value.int .u64 c], v.oneCell' = true) := Lib.hid (by intro v hv; simp at hv; subst hv; rfl)
  have HBA := Lib.hid ((Below.refl w.heap.size w).alloc (Nat.le_refl _) (.cells mb 30))
  have HST : Hid (∀ w2 : World, Hid (w2.heap[w.heap.size]? = some (.cells (splice Z0 0 [.int .u64 c]).toArray 30 (0, 0))) → Below w.heap.size w w2 → RepAt w w2 n 1 (.int .u64 c)) := Lib.hid (fun w2 hg hb => ⟨hb, by rw [← repL_first h1, ← hz]; exact hg.out⟩)
  clear hz
  clear hx hmb h1 hxb
  go_enter Tryz.func26, Tryz.ntmps26
  go_wp2_with (first
    | (go_at_call 49; (with_reducible refine HM.out.mono ?_); rintro e w1 ⟨rfl, rfl⟩)
    | (with_reducible refine wpList_copy_splice rfl (.tmp 31) (.tmp 32) 26 26 rfl 30 Tryz.underlying26 u64_size (some ⟨w.heap.size, 0, none⟩) (some ⟨xb, 0, none⟩) n n 1 1 rfl rfl w.heap.size 0 Z0 30 HG.out [.int .u64 c] HMN.out (fun _ => ⟨rfl, _, rfl, HSRC.out⟩) HFIT.out HONE.out w.heap.size w HBA.out (Nat.le_refl _) ?_; intro w2 hg2 hb2; have HR2 := Lib.hid (HST.out w2 hg2 hb2); clear hg2 hb2))
  go_loopw [8] (fun v wr => ∃ k : Nat, 1 ≤ k ∧ k ≤ n ∧ v = .int .i64 k ∧ Hid (RepAt w wr n k (.int .u64 c))) (fun v _ => n - (intOf v).toNat)
  case atStart => exact ⟨1, Nat.le_refl _, H1.out, rfl, HR2.out⟩
  case round =>
    obtain ⟨k, hk1, hkn, rfl, HR⟩ := hrel
    by_cases hlt : k < n
    · have k0 : (0 : Int) ≤ (k : Int) := by omega
      have k1 : (k : Int) < (n : Int) := by omega
      have k2 : (k : Int) ≤ (n : Int) := by omega
      have k3 : ¬ n = k := by omega
      obtain ⟨m, hm⟩ : ∃ m, m = Nat.min k (n - k) := ⟨_, rfl⟩
      have HMN := Lib.hid (show k + m ≤ n ∧ 1 ≤ m ∧ m = Nat.min k (n - k) ∧ m ≤ k from by
        have h1 : m ≤ k := by rw [hm]; exact Nat.min_le_left _ _
        have h2 : m ≤ n - k := by rw [hm]; exact Nat.min_le_right _ _
        have h3 : 1 ≤ m := by rw [hm]; exact Nat.le_min.2 ⟨hk1, Nat.le_sub_of_add_le (by omega)⟩
        exact ⟨by omega, h3, hm, h1⟩)
      have HK := Lib.hid (And.intro hk1 hlt)
      obtain ⟨RL, hrl⟩ : ∃ RL, RL = repL n k (.int .u64 c) := ⟨_, rfl⟩
      obtain ⟨CS, hcs⟩ : ∃ CS : List Value, CS = List.replicate m (.int .u64 c) := ⟨_, rfl⟩
      have HROW : Hid (wr.drew.heap[w.heap.size]? = some (.cells RL.toArray 30 (0, 0))) := Lib.hid (by rw [hrl]; exact HR.out.row)
      have HCL : Hid (CS.length = Nat.min k (n - k)) := Lib.hid (by rw [hcs, List.length_replicate]; exact HMN.out.2.2.1)
      have HCM : Hid (CS.length = m) := Lib.hid (by rw [hcs, List.length_replicate])
      have HCC : Hid (∀ j v, CS[j]? = some v → wr.drew.cell? ((⟨w.heap.size, 0, none⟩ : Addr).add j) = some v) := Lib.hid (fun j v hj => by
        rw [addr_zero_j]
        rw [hcs, List.getElem?_replicate] at hj
        split at hj
        · rename_i hjm
          rw [← hj]
          exact HR.out.cell (i := j) (by have := HMN.out.2.2.2; omega)
        · cases hj)
      have HCF : Hid (k + CS.length ≤ RL.length) := Lib.hid (by rw [HCM.out, hrl, repL_len hkn]; exact HMN.out.1)
      have HCO : Hid (∀ v ∈ CS, v.oneCell' = true) := Lib.hid (by intro v hv; rw [hcs, List.mem_replicate] at hv; rw [hv.2]; rfl)
      have HBL : Hid (Below w.heap.size w wr.drew) := Lib.hid HR.out.bel.drew
      have HNX : Hid (∀ w2 : World, Hid (w2.heap[w.heap.size]? = some (.cells (splice RL k CS).toArray 30 (0, 0))) → Below w.heap.size w w2 → RepAt w w2 n (k + m) (.int .u64 c)) := Lib.hid (fun w2 hg hb => ⟨hb, by rw [← repL_lay HMN.out.1, ← hrl, ← hcs]; exact hg.out⟩)
      clear hm hk1 hkn hlt hrl hcs
      go_wp2
      go_region_law (
        (refine step_copy_splice (w := wr.drew) ?_ (.tmp 41) (.tmp 44) 26 26 ?_ 30 Tryz.underlying26 u64_size (some ⟨w.heap.size, k, none⟩) (some ⟨w.heap.size, 0, none⟩) (n - k) (n - k) k n ?_ ?_ w.heap.size k RL 30 ?_ CS HCL.out ?_ HCF.out HCO.out w.heap.size w ?_ ?_ ?_)
        · rfl
        · rfl
        · simp [go_sem]
        · simp [go_sem]
        · exact HROW.out
        · exact (fun _ => ⟨rfl, _, rfl, HCC.out⟩)
        · exact HBL.out
        · exact Nat.le_refl _
        (intro w2 hg2 hb2; have HR3 := Lib.hid (HNX.out w2 hg2 hb2); rw [HCM.out]; have HW3 : Hid (IntKind.i64.wrap ((k : Int) + (m : Int)) = ((k + m : Nat) : Int)) := Lib.hid (by have := HMN.out.1; rw [IntKind.wrap_i64]; omega); clear hg2 hb2))
      all_goals
        go_simp
        go_roundw
        case rel =>
          (repeat apply Exists.intro)
          refine ⟨⟨k + m, by have := HK.out; omega, HMN.out.1, congrArg (Value.int .i64) HW3.out, HR3.out⟩, rfl⟩
        case measure =>
          have h1 := HMN.out
          have h2 := HK.out
          have h3 : IntKind.i64.wrap ((k : Int) + (m : Int)) = (k : Int) + (m : Int) := by rw [IntKind.wrap_i64]; omega
          simp [intOf, h3]
          omega
    · obtain rfl : k = n := by omega
      go_wp2
      go_ret
      exact ⟨rfl, HR.out⟩
end Go.Proofs.YtjoiocjnffaogaaGreat
