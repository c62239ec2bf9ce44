/- Lemmas of Fits06, Check06, each with its own remark. -/
import Derived.Test.YtohlifeenhaifaaGreatDoorS02
import Derived.Test.YtohlifeenhaifaaGreatDoorS03
import Derived.Deep.RegionHeld3
/- (Fits06) The landed op.bounds and op.fits: are all fields within the bounds of their letters? Contracts; no condition but that the numbers of registers and bytes are small. -/
namespace Go.Proofs.YtohlifeenhaifaaGreatDoor
open Go.RowKit Go.Shelf
set_option linter.unusedVariables false
set_option linter.unusedSimpArgs false

/-- The least and the greatest number of a letter. -/
def limV (regs area q : Int) : Int × Int :=
  if q = 119 then (0, regs - 1) else if q = 114 then (0, regs - 1) else if q = 108 then (0, regs - 1) else if q = 107 then (1, 6) else if q = 109 then (1, 7) else if q = 122 then (1, 8)
  else if q = 102 then (0, area) else if q = 100 then (0, 8192) else if q = 116 then (0, 4095) else if q = 99 then (0, 63) else (-9223372036854775808, 9223372036854775807)
theorem bounds_in (regs area : Int) (w : World) : Calls Tryz.prog 124 #[.int .i64 regs, .int .i64 area] w fun e w' =>
    e = .returned (.func (.func 145) #[] #[.pointer (some ⟨w.heap.size, 0, none⟩), .pointer (some ⟨w.heap.size + 1, 0, none⟩)]) ∧ (w.alloc (.cells #[.int .i64 regs] 3)).alloc (.cells #[.int .i64 area] 3) = w' := by
  go_enter Tryz.func124, Tryz.ntmps124
  go_wp2
  go_ret
  simp

def Drawn (w : World) (v : Value) (e : Ending) (w' : World) : Prop := e = .returned v ∧ ∃ k, w' = w.drewN k
set_option maxHeartbeats 2000000 in
theorem lim_any (regs area q : Int) (br ba : Nat) (w : World) (h0 : 0 ≤ regs) (h1 : regs ≤ 64) (cr : w.cell? ⟨br, 0, none⟩ = some (.int .i64 regs)) (ca : w.cell? ⟨ba, 0, none⟩ = some (.int .i64 area)) :
    Calls Tryz.prog 145 #[.int .i32 q, .pointer (some ⟨br, 0, none⟩), .pointer (some ⟨ba, 0, none⟩)] w (Drawn w (.tuple #[.int .i64 (limV regs area q).1, .int .i64 (limV regs area q).2])) := by

  by_cases hq119 : q = 119
  · subst hq119
    rw [show limV regs area 119 = (0, regs - 1) from rfl]
    go_enter Tryz.func145, Tryz.ntmps145
    go_wp2
    go_quiet (fail)
    go_wp2
    go_ret2
    exact ⟨rfl, _, rfl⟩
  by_cases hq114 : q = 114
  · subst hq114
    rw [show limV regs area 114 = (0, regs - 1) from rfl]
    go_enter Tryz.func145, Tryz.ntmps145
    go_wp2
    go_quiet (fail)
    go_wp2
    go_ret2
    exact ⟨rfl, _, rfl⟩
  by_cases hq108 : q = 108
  · subst hq108
    rw [show limV regs area 108 = (0, regs - 1) from rfl]
    go_enter Tryz.func145, Tryz.ntmps145
    go_wp2
    go_quiet (fail)
    go_wp2
    go_ret2
    exact ⟨rfl, _, rfl⟩
  by_cases hq107 : q = 107
  · subst hq107
    rw [show limV regs area 107 = (1, 6) from rfl]
    go_enter Tryz.func145, Tryz.ntmps145
    go_wp2
    go_ret2
    exact ⟨rfl, 0, rfl⟩
  by_cases hq109 : q = 109
  · subst hq109
    rw [show limV regs area 109 = (1, 7) from rfl]
    go_enter Tryz.func145, Tryz.ntmps145
    go_wp2
    go_ret2
    exact ⟨rfl, 0, rfl⟩
  by_cases hq122 : q = 122
  · subst hq122
    rw [show limV regs area 122 = (1, 8) from rfl]
    go_enter Tryz.func145, Tryz.ntmps145
    go_wp2
    go_ret2
    exact ⟨rfl, 0, rfl⟩
  by_cases hq102 : q = 102
  · subst hq102
    rw [show limV regs area 102 = (0, area) from rfl]
    go_enter Tryz.func145, Tryz.ntmps145
    go_wp2
    go_quiet (fail)
    go_wp2
    go_ret2
    exact ⟨rfl, _, rfl⟩
  by_cases hq100 : q = 100
  · subst hq100
    rw [show limV regs area 100 = (0, 8192) from rfl]
    go_enter Tryz.func145, Tryz.ntmps145
    go_wp2
    go_ret2
    exact ⟨rfl, 0, rfl⟩
  by_cases hq116 : q = 116
  · subst hq116
    rw [show limV regs area 116 = (0, 4095) from rfl]
    go_enter Tryz.func145, Tryz.ntmps145
    go_wp2
    go_ret2
    exact ⟨rfl, 0, rfl⟩
  by_cases hq99 : q = 99
  · subst hq99
    rw [show limV regs area 99 = (0, 63) from rfl]
    go_enter Tryz.func145, Tryz.ntmps145
    go_wp2
    go_ret2
    exact ⟨rfl, 0, rfl⟩
  have hl : limV regs area q = (-9223372036854775808, 9223372036854775807) := by unfold limV; simp only [hq119, hq114, hq108, hq107, hq109, hq122, hq102, hq100, hq116, hq99, if_false]
  rw [hl]
  have e119 : (q == 119) = false := by simpa using hq119
  have e114 : (q == 114) = false := by simpa using hq114
  have e108 : (q == 108) = false := by simpa using hq108
  have e107 : (q == 107) = false := by simpa using hq107
  have e109 : (q == 109) = false := by simpa using hq109
  have e122 : (q == 122) = false := by simpa using hq122
  have e102 : (q == 102) = false := by simpa using hq102
  have e100 : (q == 100) = false := by simpa using hq100
  have e116 : (q == 116) = false := by simpa using hq116
  have e99 : (q == 99) = false := by simpa using hq99
  clear hl hq119 hq114 hq108 hq107 hq109 hq122 hq102 hq100 hq116 hq99
  go_enter Tryz.func145, Tryz.ntmps145
  go_wp2
  go_ret2
  exact ⟨rfl, 0, rfl⟩

theorem heap_of_cell {w : World} {p : Addr} {v : Value} (h : w.cell? p = some v) : p.block < w.heap.size := by
  obtain ⟨o, ho, _⟩ := cells_of_cell h
  exact heap_lt ho
/-- Is a field as its letter says? -/
def fitB (regs area : Int) (p : Int × Int) : Bool := decide ((limV regs area p.1).1 ≤ p.2 ∧ p.2 ≤ (limV regs area p.1).2) && (p.1 != 122 || (p.2 == 1 || p.2 == 2 || p.2 == 4 || p.2 == 8))
theorem fits_all {regs area : Int} {l : List (Int × Int)} (h : ∀ p ∈ l, fitB regs area p = true) : l.all (fitB regs area) = true := List.all_eq_true.2 h
theorem fits_not {regs area : Int} {l ini : List (Int × Int)} {x : Int × Int} (hp : ini ++ [x] <+: l) (hx : fitB regs area x = false) : l.all (fitB regs area) = false := by
  obtain ⟨t, rfl⟩ := hp
  simp [hx]
attribute [local go_sem] Oper.semAt_some
set_option maxRecDepth 100000 in
set_option maxHeartbeats 4000000 in
theorem fits_in (m : Nat) (hm : 5 ≤ m) (op a b c n : Int) (X : Value) (args : List Int) (regs area : Int) (br ba : Nat) (w : World) (hX : IsNums .i64 w w.heap.size X args) (h0 : 0 ≤ regs) (h64 : regs ≤ 64)
    (hbr : br < w.heap.size) (hba : ba < w.heap.size) (cr : w.cell? ⟨br, 0, none⟩ = some (.int .i64 regs)) (ca : w.cell? ⟨ba, 0, none⟩ = some (.int .i64 area)) :
    CallsIn Fence.wide m Tryz.prog 123 #[.agg (insCells op a b c n X), .func (.func 145) #[] #[.pointer (some ⟨br, 0, none⟩), .pointer (some ⟨ba, 0, none⟩)]] w (Makes w (.bool ((itemsOf (shapeI op) a b c n args).all (fitB regs area)))) := by
  have h1 : 1 ≤ m := by omega
  have HX := Lib.hid hX
  have HR := Lib.hid cr
  have HA := Lib.hid ca
  clear hX cr ca
  refine callsIn_of_wp_marks Tryz.func123 rfl trivial ?_ rfl
  simp only [Tryz.ntmps123, List.size_toArray, List.length_cons, List.length_nil, Nat.reduceAdd, Nat.reduceSub, Array.replicate_succ, Array.replicate_zero, List.push_toArray, List.append_toArray, List.nil_append, List.cons_append]
  gi_wp2_with (refine ⟨trivial, ?_⟩; gi_at_call 144; (with_reducible refine (callsIn_wide.2 (fields_in op a b c n X _)).mono ?_); rintro e w' ⟨rfl, rfl⟩)
  have bF := Boxed.new (w.alloc (.cells (insCells op a b c n X) 28)) 161 (.func (.func 145) #[] #[.pointer (some ⟨br, 0, none⟩), .pointer (some ⟨ba, 0, none⟩)])
  have bR := Boxed.new ((w.alloc (.cells (insCells op a b c n X) 28)).alloc (.cells #[.func (.func 145) #[] #[.pointer (some ⟨br, 0, none⟩), .pointer (some ⟨ba, 0, none⟩)]] 161)) 4 (.bool false)
  rw [World.size_alloc] at bF
  rw [World.size_alloc, World.size_alloc] at bR
  have hbox : ((((w.alloc (.cells (insCells op a b c n X) 28)).alloc (.cells #[.func (.func 145) #[] #[.pointer (some ⟨br, 0, none⟩), .pointer (some ⟨ba, 0, none⟩)]] 161)).alloc (.cells #[.bool false] 4)).alloc (.cells (insCells op a b c n X) 28)).heap[w.heap.size + 3]? = some (.cells (insCells op a b c n X) 28 (0, 0)) := by
    have := heap_alloc_new (((w.alloc (.cells (insCells op a b c n X) 28)).alloc (.cells #[.func (.func 145) #[] #[.pointer (some ⟨br, 0, none⟩), .pointer (some ⟨ba, 0, none⟩)]] 161)).alloc (.cells #[.bool false] 4)) (.cells (insCells op a b c n X) 28)
    simpa using this
  have hB0 : Below w.heap.size w ((((w.alloc (.cells (insCells op a b c n X) 28)).alloc (.cells #[.func (.func 145) #[] #[.pointer (some ⟨br, 0, none⟩), .pointer (some ⟨ba, 0, none⟩)]] 161)).alloc (.cells #[.bool false] 4)).alloc (.cells (insCells op a b c n X) 28)) :=
    ((((Below.refl _ w).alloc (Nat.le_refl _) _).alloc (by simp) _).alloc (by simp; omega) _).alloc (by simp; omega) _
  refine wpIn_rangeFunc_ownG rfl h1 (gf := 153) (lb := #[.pointer (some ⟨w.heap.size + 3, 0, none⟩)]) rfl trivial (enters_of Tryz.func153 (by kernel_rfl) rfl)
    (fields_stops (m - 1) (by omega) (w.heap.size + 2) (w.heap.size + 3) op a b c n X args _ hbox ((HX.out.below hB0 (Nat.le_refl _)).more hB0.size) (by simp) ((bR.alloc _).cell) (noAddr_bool _) (by omega) (fun ad len cap e hl => by have := nums_block HX.out ad len cap e hl; omega))
    kpO_t (kpO_b (by simp)) (Below.refl _ _) (fun _ => rfl)
    (fun pre W => ((∀ p ∈ pre, fitB regs area p = true) ∧ W.cell? ⟨w.heap.size + 2, 0, none⟩ = some (.bool false) ∧ W.frozen? ⟨w.heap.size + 2, 0, none⟩ = false ∧ W.cell? ⟨w.heap.size + 1, 0, none⟩ = some (.func (.func 145) #[] #[.pointer (some ⟨br, 0, none⟩), .pointer (some ⟨ba, 0, none⟩)])) ∧ Below w.heap.size w W)
    (fun c' pre W => (c' = .ret ∧ ∃ ini last, pre = ini ++ [last] ∧ fitB regs area last = false ∧ W.cell? ⟨w.heap.size + 2, 0, none⟩ = some (.bool false)) ∧ Below w.heap.size w W)
    (OwnFrom.and (Own.from (fun s A B row hs hg hr => ⟨hs.1, cell_kept hs.2.1 hg hr, (frozen_kept hs.2.1 hg hr).trans hs.2.2.1, cell_kept hs.2.2.2 hg hr⟩) _) (ownFrom_below (Nat.le_refl _) (by simp; omega)))
    (fun c' => OwnFrom.and (Own.from (fun s A B row hs hg hr => by obtain ⟨hc, ini, last, e1, e2, e4⟩ := hs; exact ⟨hc, ini, last, e1, e2, cell_kept e4 hg hr⟩) _) (ownFrom_below (Nat.le_refl _) (by simp; omega)))
    ⟨⟨by simp, (bR.alloc _).cell, (bR.alloc _).frozen, ((bF.alloc _).alloc _).cell⟩, hB0⟩
    (fun x => { tmps := #[.agg (insCells op a b c n X), .func (.func 145) #[] #[.pointer (some ⟨br, 0, none⟩), .pointer (some ⟨ba, 0, none⟩)], .pointer (some ⟨w.heap.size, 0, none⟩), .pointer (some ⟨w.heap.size + 1, 0, none⟩), .pointer (some ⟨w.heap.size + 2, 0, none⟩), .int .i32 x.1, .int .i64 x.2, undef, undef, .agg (insCells op a b c n X), .func (.func 153) #[] #[.pointer (some ⟨w.heap.size + 3, 0, none⟩)], .int .i32 x.1, .int .i64 x.2, undef, undef, undef, undef, undef, undef, undef, undef, undef, undef, undef, undef, undef, undef, undef, undef, undef, undef, undef, undef, undef, undef, undef], defers := [] }) ?assign ?body ?done ?stop
  case assign =>
    intro l x W K hK
    dsimp only [encF]
    gi_wp2
    exact hK
  case body =>
    rintro l pre ⟨q, z⟩ W ⟨⟨hp, hcr, hfr, hcf⟩, hB⟩ _
    have HP := Lib.hid hp
    have HL := Lib.hid (heap_of_cell hcr)
    have HC := Lib.hid (lim_any regs area q br ba W h0 h64 ((hB.cell (p := ⟨br, 0, none⟩) hbr).trans HR.out) ((hB.cell (p := ⟨ba, 0, none⟩) hba).trans HA.out))
    obtain ⟨lo, hlo⟩ : ∃ lo, lo = (limV regs area q).1 := ⟨_, rfl⟩
    obtain ⟨hi, hhi⟩ : ∃ hi, hi = (limV regs area q).2 := ⟨_, rfl⟩
    rw [← hlo, ← hhi] at HC
    have HF : Hid (fitB regs area (q, z) = (decide (lo ≤ z ∧ z ≤ hi) && (q != 122 || (z == 1 || z == 2 || z == 4 || z == 8)))) := by
      rw [hlo, hhi]
      exact Lib.hid rfl
    have hz : q = 122 → lo = 1 ∧ hi = 8 := fun h => by rw [hlo, hhi, h]; exact ⟨rfl, rfl⟩
    have HZ := Lib.hid hz
    have HB := Lib.hid hB
    clear hp hlo hhi hz hB
    dsimp only
    by_cases hl : z < lo
    · have hf : fitB regs area (q, z) = false := by rw [HF.out, decide_eq_false (by omega)]; rfl
      have HFF := Lib.hid hf
      clear hf
      gi_wp2
      refine ⟨trivial, fun h => by (simp [Fence.wide] at h), ?_⟩
      (with_reducible refine (CallsIn.inRound l (callsIn_wide.2 HC.out)).mono ?_)
      rintro e w' ⟨rfl, kd, hw'⟩
      have hcr2 : w'.cell? ⟨w.heap.size + 2, 0, none⟩ = some (.bool false) := by rw [hw']; exact hcr
      have hfr2 : w'.frozen? ⟨w.heap.size + 2, 0, none⟩ = false := by rw [hw']; exact hfr
      have hcf2 : w'.cell? ⟨w.heap.size + 1, 0, none⟩ = some (.func (.func 145) #[] #[.pointer (some ⟨br, 0, none⟩), .pointer (some ⟨ba, 0, none⟩)]) := by rw [hw']; exact hcf
      have hKO : KeepsOthers W w' := by rw [hw']; exact ⟨Nat.le_refl _, fun k o h _ => h⟩
      have hB2 : Below w.heap.size w w' := by rw [hw']; exact below_drewN HB.out kd
      have hKP : KpO (w.heap.size + 2) W w' := ⟨by rw [hw']; exact KeepC.below (below_drewN (Below.refl _ _) kd) HL.out, hKO.walks⟩
      have HKO := Lib.hid hKO
      have HKP := Lib.hid hKP
      have HB2 := Lib.hid hB2
      have HCF := Lib.hid hcf2
      clear hw' hKO hKP hB2 hcf2
      gi_wp2
      exact ⟨(HKO.out.trans (KeepsOthers.setCell _ _ _)).from _, ⟨rfl, pre, _, rfl, HFF.out, World.cell?_setCell_same' _ _ _ (by rw [hcr2]; rfl)⟩, HB2.out.setCell (p := ⟨w.heap.size + 2, 0, none⟩) (by simp) _⟩
    by_cases hh : hi < z
    · have hf : fitB regs area (q, z) = false := by rw [HF.out, decide_eq_false (by omega)]; rfl
      have HFF := Lib.hid hf
      clear hf
      gi_wp2
      refine ⟨trivial, fun h => by (simp [Fence.wide] at h), ?_⟩
      (with_reducible refine (CallsIn.inRound l (callsIn_wide.2 HC.out)).mono ?_)
      rintro e w' ⟨rfl, kd, hw'⟩
      have hcr2 : w'.cell? ⟨w.heap.size + 2, 0, none⟩ = some (.bool false) := by rw [hw']; exact hcr
      have hfr2 : w'.frozen? ⟨w.heap.size + 2, 0, none⟩ = false := by rw [hw']; exact hfr
      have hcf2 : w'.cell? ⟨w.heap.size + 1, 0, none⟩ = some (.func (.func 145) #[] #[.pointer (some ⟨br, 0, none⟩), .pointer (some ⟨ba, 0, none⟩)]) := by rw [hw']; exact hcf
      have hKO : KeepsOthers W w' := by rw [hw']; exact ⟨Nat.le_refl _, fun k o h _ => h⟩
      have hB2 : Below w.heap.size w w' := by rw [hw']; exact below_drewN HB.out kd
      have hKP : KpO (w.heap.size + 2) W w' := ⟨by rw [hw']; exact KeepC.below (below_drewN (Below.refl _ _) kd) HL.out, hKO.walks⟩
      have HKO := Lib.hid hKO
      have HKP := Lib.hid hKP
      have HB2 := Lib.hid hB2
      have HCF := Lib.hid hcf2
      clear hw' hKO hKP hB2 hcf2
      gi_wp2
      exact ⟨(HKO.out.trans (KeepsOthers.setCell _ _ _)).from _, ⟨rfl, pre, _, rfl, HFF.out, World.cell?_setCell_same' _ _ _ (by rw [hcr2]; rfl)⟩, HB2.out.setCell (p := ⟨w.heap.size + 2, 0, none⟩) (by simp) _⟩
    by_cases hq : q = 122
    · obtain ⟨h1l, h8⟩ := HZ.out hq
      subst hq h1l h8
      have h8 : z = 1 ∨ z = 2 ∨ z = 3 ∨ z = 4 ∨ z = 5 ∨ z = 6 ∨ z = 7 ∨ z = 8 := by omega
      clear hl hh
      rcases h8 with rfl | rfl | rfl | rfl | rfl | rfl | rfl | rfl
      · have hf : fitB regs area (122, 1) = true := by rw [HF.out]; rfl
        have HFF := Lib.hid hf
        clear hf
        gi_wp2
        refine ⟨trivial, fun h => by (simp [Fence.wide] at h), ?_⟩
        (with_reducible refine (CallsIn.inRound l (callsIn_wide.2 HC.out)).mono ?_)
        rintro e w' ⟨rfl, kd, hw'⟩
        have hcr2 : w'.cell? ⟨w.heap.size + 2, 0, none⟩ = some (.bool false) := by rw [hw']; exact hcr
        have hfr2 : w'.frozen? ⟨w.heap.size + 2, 0, none⟩ = false := by rw [hw']; exact hfr
        have hcf2 : w'.cell? ⟨w.heap.size + 1, 0, none⟩ = some (.func (.func 145) #[] #[.pointer (some ⟨br, 0, none⟩), .pointer (some ⟨ba, 0, none⟩)]) := by rw [hw']; exact hcf
        have hKO : KeepsOthers W w' := by rw [hw']; exact ⟨Nat.le_refl _, fun k o h _ => h⟩
        have hB2 : Below w.heap.size w w' := by rw [hw']; exact below_drewN HB.out kd
        have hKP : KpO (w.heap.size + 2) W w' := ⟨by rw [hw']; exact KeepC.below (below_drewN (Below.refl _ _) kd) HL.out, hKO.walks⟩
        have HKO := Lib.hid hKO
        have HKP := Lib.hid hKP
        have HB2 := Lib.hid hB2
        have HCF := Lib.hid hcf2
        clear hw' hKO hKP hB2 hcf2
        gi_wp2
        exact ⟨HKO.out.from _, HKP.out, ⟨fun p hp' => (List.mem_append.1 hp').elim (HP.out p) (fun e => by simp at e; subst e; exact HFF.out), hcr2, hfr2, HCF.out⟩, HB2.out⟩
      · have hf : fitB regs area (122, 2) = true := by rw [HF.out]; rfl
        have HFF := Lib.hid hf
        clear hf
        gi_wp2
        refine ⟨trivial, fun h => by (simp [Fence.wide] at h), ?_⟩
        (with_reducible refine (CallsIn.inRound l (callsIn_wide.2 HC.out)).mono ?_)
        rintro e w' ⟨rfl, kd, hw'⟩
        have hcr2 : w'.cell? ⟨w.heap.size + 2, 0, none⟩ = some (.bool false) := by rw [hw']; exact hcr
        have hfr2 : w'.frozen? ⟨w.heap.size + 2, 0, none⟩ = false := by rw [hw']; exact hfr
        have hcf2 : w'.cell? ⟨w.heap.size + 1, 0, none⟩ = some (.func (.func 145) #[] #[.pointer (some ⟨br, 0, none⟩), .pointer (some ⟨ba, 0, none⟩)]) := by rw [hw']; exact hcf
        have hKO : KeepsOthers W w' := by rw [hw']; exact ⟨Nat.le_refl _, fun k o h _ => h⟩
        have hB2 : Below w.heap.size w w' := by rw [hw']; exact below_drewN HB.out kd
        have hKP : KpO (w.heap.size + 2) W w' := ⟨by rw [hw']; exact KeepC.below (below_drewN (Below.refl _ _) kd) HL.out, hKO.walks⟩
        have HKO := Lib.hid hKO
        have HKP := Lib.hid hKP
        have HB2 := Lib.hid hB2
        have HCF := Lib.hid hcf2
        clear hw' hKO hKP hB2 hcf2
        gi_wp2
        exact ⟨HKO.out.from _, HKP.out, ⟨fun p hp' => (List.mem_append.1 hp').elim (HP.out p) (fun e => by simp at e; subst e; exact HFF.out), hcr2, hfr2, HCF.out⟩, HB2.out⟩
      · have hf : fitB regs area (122, 3) = false := by rw [HF.out]; rfl
        have HFF := Lib.hid hf
        clear hf
        gi_wp2
        refine ⟨trivial, fun h => by (simp [Fence.wide] at h), ?_⟩
        (with_reducible refine (CallsIn.inRound l (callsIn_wide.2 HC.out)).mono ?_)
        rintro e w' ⟨rfl, kd, hw'⟩
        have hcr2 : w'.cell? ⟨w.heap.size + 2, 0, none⟩ = some (.bool false) := by rw [hw']; exact hcr
        have hfr2 : w'.frozen? ⟨w.heap.size + 2, 0, none⟩ = false := by rw [hw']; exact hfr
        have hcf2 : w'.cell? ⟨w.heap.size + 1, 0, none⟩ = some (.func (.func 145) #[] #[.pointer (some ⟨br, 0, none⟩), .pointer (some ⟨ba, 0, none⟩)]) := by rw [hw']; exact hcf
        have hKO : KeepsOthers W w' := by rw [hw']; exact ⟨Nat.le_refl _, fun k o h _ => h⟩
        have hB2 : Below w.heap.size w w' := by rw [hw']; exact below_drewN HB.out kd
        have hKP : KpO (w.heap.size + 2) W w' := ⟨by rw [hw']; exact KeepC.below (below_drewN (Below.refl _ _) kd) HL.out, hKO.walks⟩
        have HKO := Lib.hid hKO
        have HKP := Lib.hid hKP
        have HB2 := Lib.hid hB2
        have HCF := Lib.hid hcf2
        clear hw' hKO hKP hB2 hcf2
        gi_wp2
        exact ⟨(HKO.out.trans (KeepsOthers.setCell _ _ _)).from _, ⟨rfl, pre, _, rfl, HFF.out, World.cell?_setCell_same' _ _ _ (by rw [hcr2]; rfl)⟩, HB2.out.setCell (p := ⟨w.heap.size + 2, 0, none⟩) (by simp) _⟩
      · have hf : fitB regs area (122, 4) = true := by rw [HF.out]; rfl
        have HFF := Lib.hid hf
        clear hf
        gi_wp2
        refine ⟨trivial, fun h => by (simp [Fence.wide] at h), ?_⟩
        (with_reducible refine (CallsIn.inRound l (callsIn_wide.2 HC.out)).mono ?_)
        rintro e w' ⟨rfl, kd, hw'⟩
        have hcr2 : w'.cell? ⟨w.heap.size + 2, 0, none⟩ = some (.bool false) := by rw [hw']; exact hcr
        have hfr2 : w'.frozen? ⟨w.heap.size + 2, 0, none⟩ = false := by rw [hw']; exact hfr
        have hcf2 : w'.cell? ⟨w.heap.size + 1, 0, none⟩ = some (.func (.func 145) #[] #[.pointer (some ⟨br, 0, none⟩), .pointer (some ⟨ba, 0, none⟩)]) := by rw [hw']; exact hcf
        have hKO : KeepsOthers W w' := by rw [hw']; exact ⟨Nat.le_refl _, fun k o h _ => h⟩
        have hB2 : Below w.heap.size w w' := by rw [hw']; exact below_drewN HB.out kd
        have hKP : KpO (w.heap.size + 2) W w' := ⟨by rw [hw']; exact KeepC.below (below_drewN (Below.refl _ _) kd) HL.out, hKO.walks⟩
        have HKO := Lib.hid hKO
        have HKP := Lib.hid hKP
        have HB2 := Lib.hid hB2
        have HCF := Lib.hid hcf2
        clear hw' hKO hKP hB2 hcf2
        gi_wp2
        exact ⟨HKO.out.from _, HKP.out, ⟨fun p hp' => (List.mem_append.1 hp').elim (HP.out p) (fun e => by simp at e; subst e; exact HFF.out), hcr2, hfr2, HCF.out⟩, HB2.out⟩
      · have hf : fitB regs area (122, 5) = false := by rw [HF.out]; rfl
        have HFF := Lib.hid hf
        clear hf
        gi_wp2
        refine ⟨trivial, fun h => by (simp [Fence.wide] at h), ?_⟩
        (with_reducible refine (CallsIn.inRound l (callsIn_wide.2 HC.out)).mono ?_)
        rintro e w' ⟨rfl, kd, hw'⟩
        have hcr2 : w'.cell? ⟨w.heap.size + 2, 0, none⟩ = some (.bool false) := by rw [hw']; exact hcr
        have hfr2 : w'.frozen? ⟨w.heap.size + 2, 0, none⟩ = false := by rw [hw']; exact hfr
        have hcf2 : w'.cell? ⟨w.heap.size + 1, 0, none⟩ = some (.func (.func 145) #[] #[.pointer (some ⟨br, 0, none⟩), .pointer (some ⟨ba, 0, none⟩)]) := by rw [hw']; exact hcf
        have hKO : KeepsOthers W w' := by rw [hw']; exact ⟨Nat.le_refl _, fun k o h _ => h⟩
        have hB2 : Below w.heap.size w w' := by rw [hw']; exact below_drewN HB.out kd
        have hKP : KpO (w.heap.size + 2) W w' := ⟨by rw [hw']; exact KeepC.below (below_drewN (Below.refl _ _) kd) HL.out, hKO.walks⟩
        have HKO := Lib.hid hKO
        have HKP := Lib.hid hKP
        have HB2 := Lib.hid hB2
        have HCF := Lib.hid hcf2
        clear hw' hKO hKP hB2 hcf2
        gi_wp2
        exact ⟨(HKO.out.trans (KeepsOthers.setCell _ _ _)).from _, ⟨rfl, pre, _, rfl, HFF.out, World.cell?_setCell_same' _ _ _ (by rw [hcr2]; rfl)⟩, HB2.out.setCell (p := ⟨w.heap.size + 2, 0, none⟩) (by simp) _⟩
      · have hf : fitB regs area (122, 6) = false := by rw [HF.out]; rfl
        have HFF := Lib.hid hf
        clear hf
        gi_wp2
        refine ⟨trivial, fun h => by (simp [Fence.wide] at h), ?_⟩
        (with_reducible refine (CallsIn.inRound l (callsIn_wide.2 HC.out)).mono ?_)
        rintro e w' ⟨rfl, kd, hw'⟩
        have hcr2 : w'.cell? ⟨w.heap.size + 2, 0, none⟩ = some (.bool false) := by rw [hw']; exact hcr
        have hfr2 : w'.frozen? ⟨w.heap.size + 2, 0, none⟩ = false := by rw [hw']; exact hfr
        have hcf2 : w'.cell? ⟨w.heap.size + 1, 0, none⟩ = some (.func (.func 145) #[] #[.pointer (some ⟨br, 0, none⟩), .pointer (some ⟨ba, 0, none⟩)]) := by rw [hw']; exact hcf
        have hKO : KeepsOthers W w' := by rw [hw']; exact ⟨Nat.le_refl _, fun k o h _ => h⟩
        have hB2 : Below w.heap.size w w' := by rw [hw']; exact below_drewN HB.out kd
        have hKP : KpO (w.heap.size + 2) W w' := ⟨by rw [hw']; exact KeepC.below (below_drewN (Below.refl _ _) kd) HL.out, hKO.walks⟩
        have HKO := Lib.hid hKO
        have HKP := Lib.hid hKP
        have HB2 := Lib.hid hB2
        have HCF := Lib.hid hcf2
        clear hw' hKO hKP hB2 hcf2
        gi_wp2
        exact ⟨(HKO.out.trans (KeepsOthers.setCell _ _ _)).from _, ⟨rfl, pre, _, rfl, HFF.out, World.cell?_setCell_same' _ _ _ (by rw [hcr2]; rfl)⟩, HB2.out.setCell (p := ⟨w.heap.size + 2, 0, none⟩) (by simp) _⟩
      · have hf : fitB regs area (122, 7) = false := by rw [HF.out]; rfl
        have HFF := Lib.hid hf
        clear hf
        gi_wp2
        refine ⟨trivial, fun h => by (simp [Fence.wide] at h), ?_⟩
        (with_reducible refine (CallsIn.inRound l (callsIn_wide.2 HC.out)).mono ?_)
        rintro e w' ⟨rfl, kd, hw'⟩
        have hcr2 : w'.cell? ⟨w.heap.size + 2, 0, none⟩ = some (.bool false) := by rw [hw']; exact hcr
        have hfr2 : w'.frozen? ⟨w.heap.size + 2, 0, none⟩ = false := by rw [hw']; exact hfr
        have hcf2 : w'.cell? ⟨w.heap.size + 1, 0, none⟩ = some (.func (.func 145) #[] #[.pointer (some ⟨br, 0, none⟩), .pointer (some ⟨ba, 0, none⟩)]) := by rw [hw']; exact hcf
        have hKO : KeepsOthers W w' := by rw [hw']; exact ⟨Nat.le_refl _, fun k o h _ => h⟩
        have hB2 : Below w.heap.size w w' := by rw [hw']; exact below_drewN HB.out kd
        have hKP : KpO (w.heap.size + 2) W w' := ⟨by rw [hw']; exact KeepC.below (below_drewN (Below.refl _ _) kd) HL.out, hKO.walks⟩
        have HKO := Lib.hid hKO
        have HKP := Lib.hid hKP
        have HB2 := Lib.hid hB2
        have HCF := Lib.hid hcf2
        clear hw' hKO hKP hB2 hcf2
        gi_wp2
        exact ⟨(HKO.out.trans (KeepsOthers.setCell _ _ _)).from _, ⟨rfl, pre, _, rfl, HFF.out, World.cell?_setCell_same' _ _ _ (by rw [hcr2]; rfl)⟩, HB2.out.setCell (p := ⟨w.heap.size + 2, 0, none⟩) (by simp) _⟩
      · have hf : fitB regs area (122, 8) = true := by rw [HF.out]; rfl
        have HFF := Lib.hid hf
        clear hf
        gi_wp2
        refine ⟨trivial, fun h => by (simp [Fence.wide] at h), ?_⟩
        (with_reducible refine (CallsIn.inRound l (callsIn_wide.2 HC.out)).mono ?_)
        rintro e w' ⟨rfl, kd, hw'⟩
        have hcr2 : w'.cell? ⟨w.heap.size + 2, 0, none⟩ = some (.bool false) := by rw [hw']; exact hcr
        have hfr2 : w'.frozen? ⟨w.heap.size + 2, 0, none⟩ = false := by rw [hw']; exact hfr
        have hcf2 : w'.cell? ⟨w.heap.size + 1, 0, none⟩ = some (.func (.func 145) #[] #[.pointer (some ⟨br, 0, none⟩), .pointer (some ⟨ba, 0, none⟩)]) := by rw [hw']; exact hcf
        have hKO : KeepsOthers W w' := by rw [hw']; exact ⟨Nat.le_refl _, fun k o h _ => h⟩
        have hB2 : Below w.heap.size w w' := by rw [hw']; exact below_drewN HB.out kd
        have hKP : KpO (w.heap.size + 2) W w' := ⟨by rw [hw']; exact KeepC.below (below_drewN (Below.refl _ _) kd) HL.out, hKO.walks⟩
        have HKO := Lib.hid hKO
        have HKP := Lib.hid hKP
        have HB2 := Lib.hid hB2
        have HCF := Lib.hid hcf2
        clear hw' hKO hKP hB2 hcf2
        gi_wp2
        exact ⟨HKO.out.from _, HKP.out, ⟨fun p hp' => (List.mem_append.1 hp').elim (HP.out p) (fun e => by simp at e; subst e; exact HFF.out), hcr2, hfr2, HCF.out⟩, HB2.out⟩
    · have e1 : (q == 122) = false := by simpa using hq
      have hf : fitB regs area (q, z) = true := by rw [HF.out, decide_eq_true (by omega)]; simp [hq]
      have HFF := Lib.hid hf
      clear hf hq
      gi_wp2
      refine ⟨trivial, fun h => by (simp [Fence.wide] at h), ?_⟩
      (with_reducible refine (CallsIn.inRound l (callsIn_wide.2 HC.out)).mono ?_)
      rintro e w' ⟨rfl, kd, hw'⟩
      have hcr2 : w'.cell? ⟨w.heap.size + 2, 0, none⟩ = some (.bool false) := by rw [hw']; exact hcr
      have hfr2 : w'.frozen? ⟨w.heap.size + 2, 0, none⟩ = false := by rw [hw']; exact hfr
      have hcf2 : w'.cell? ⟨w.heap.size + 1, 0, none⟩ = some (.func (.func 145) #[] #[.pointer (some ⟨br, 0, none⟩), .pointer (some ⟨ba, 0, none⟩)]) := by rw [hw']; exact hcf
      have hKO : KeepsOthers W w' := by rw [hw']; exact ⟨Nat.le_refl _, fun k o h _ => h⟩
      have hB2 : Below w.heap.size w w' := by rw [hw']; exact below_drewN HB.out kd
      have hKP : KpO (w.heap.size + 2) W w' := ⟨by rw [hw']; exact KeepC.below (below_drewN (Below.refl _ _) kd) HL.out, hKO.walks⟩
      have HKO := Lib.hid hKO
      have HKP := Lib.hid hKP
      have HB2 := Lib.hid hB2
      have HCF := Lib.hid hcf2
      clear hw' hKO hKP hB2 hcf2
      gi_wp2
      exact ⟨HKO.out.from _, HKP.out, ⟨fun p hp' => (List.mem_append.1 hp').elim (HP.out p) (fun e => by simp at e; subst e; exact HFF.out), hcr2, hfr2, HCF.out⟩, HB2.out⟩
  case done =>
    rintro D ys W hD rfl ⟨⟨hne, hcr, hfr, hcf⟩, hB⟩ hK
    have HE := Lib.hid (fits_all hne)
    clear hne
    gi_wp2
    have hK' := (KeepsOthers.setCell W ⟨w.heap.size + 2, 0, none⟩ (.bool true)).same D _ hK rfl
    refine ⟨by simp, .inl ⟨_, _, rfl, run_takeDeferred hK', ?_⟩⟩
    have hc5 := cell_kept (World.cell?_setCell_same' W ⟨w.heap.size + 2, 0, none⟩ (.bool true) (by rw [hcr]; rfl)) (grownBy_putObj' _ D (.deferred none)) (fun r e => by cases e; exact ⟨_, hK', rfl⟩)
    refine ⟨.bool true, ?_, ?_⟩
    · simp [results, Tryz.f123, go_sem, hc5]
    · rw [HE.out]
      exact ⟨rfl, (hB.setCell (p := ⟨w.heap.size + 2, 0, none⟩) (by simp) _).trans (belowK_b (w := w) (Nat.le_refl _) _ D _ _ (by simp at hD; omega) hK' rfl rfl)⟩
  case stop =>
    rintro D c' pre W hD hpre ⟨⟨rfl, ini, last, e1, e2, hcr⟩, hB⟩ hK
    subst e1
    have HE := Lib.hid (fits_not hpre e2)
    clear hpre e2
    gi_wp2
    refine ⟨by simp, .inl ⟨_, _, rfl, run_takeDeferred hK, ?_⟩⟩
    have hc5 := cell_kept hcr (grownBy_putObj' _ D (.deferred none)) (fun r e => by cases e; exact ⟨_, hK, rfl⟩)
    refine ⟨.bool false, ?_, ?_⟩
    · simp [results, Tryz.f123, go_sem, hc5]
    · rw [HE.out]
      exact ⟨rfl, hB.trans (belowK_b (w := w) (Nat.le_refl _) W D _ _ (by simp at hD; omega) hK rfl rfl)⟩

theorem fits_any (op a b c n : Int) (X : Value) (args : List Int) (regs area : Int) (br ba : Nat) (w : World) (hX : IsNums .i64 w w.heap.size X args) (h0 : 0 ≤ regs) (h64 : regs ≤ 64)
    (hbr : br < w.heap.size) (hba : ba < w.heap.size) (cr : w.cell? ⟨br, 0, none⟩ = some (.int .i64 regs)) (ca : w.cell? ⟨ba, 0, none⟩ = some (.int .i64 area)) :
    Calls Tryz.prog 123 #[.agg (insCells op a b c n X), .func (.func 145) #[] #[.pointer (some ⟨br, 0, none⟩), .pointer (some ⟨ba, 0, none⟩)]] w (Makes w (.bool ((itemsOf (shapeI op) a b c n args).all (fitB regs area)))) :=
  callsIn_wide.1 (fits_in 5 (Nat.le_refl _) op a b c n X args regs area br ba w hX h0 h64 hbr hba cr ca)

end Go.Proofs.YtohlifeenhaifaaGreatDoor

/- (Check06) The landed op.Check: why an instruction may not be. Contract; no condition but that the argument is an instruction in memory. -/
namespace Go.Proofs.YtohlifeenhaifaaGreatDoor
open Go.RowKit
set_option linter.unusedVariables false
set_option linter.unusedSimpArgs false

/-- Are all fields nought that are not of the shape? -/
def bareV (L : List Int) (a b c n : Int) (args : List Int) : Bool := (([a, b, c].drop (regN L)).all (fun x => x == 0)) && ((hasN L || n == 0) && (conL L || args.isEmpty))
def restA (L : List Int) (args : List Int) : List Int := if conL L then [] else args
theorem same_rest (L : List Int) (op a b c n : Int) (args : List Int) (h : regN L ≤ 3) :
    sameV op (restR (regN L) 0 a) (restR (regN L) 1 b) (restR (regN L) 2 c) (restN L n) (restA L args) op 0 0 0 0 [] = bareV L a b c n args := by
  unfold sameV bareV restN restA
  rw [Bool.eq_iff_iff]
  rcases (show regN L = 0 ∨ regN L = 1 ∨ regN L = 2 ∨ regN L = 3 by omega) with h | h | h | h <;> rw [h] <;> cases hasN L <;> cases conL L <;> simp [restR, and_assoc]
theorem rest_nums {w : World} {B : Nat} {X : Value} {args : List Int} (L : List Int) (h : IsNums .i64 w B X args) : IsNums .i64 w B (restX L X) (restA L args) := by
  unfold restX restA
  split
  · exact ⟨by simp, .inl ⟨rfl, rfl⟩⟩
  · exact h
theorem nums_nil (w : World) (B : Nat) : IsNums .i64 w B (.slice none 0 0) [] := ⟨by simp, .inl ⟨rfl, rfl⟩⟩
theorem nums_drew {w : World} {B : Nat} {X : Value} {args : List Int} (h : IsNums .i64 w B X args) : IsNums .i64 w.drew B X args := h.of_block fun _ _ => rfl
/-- Why an instruction may not be. -/
def checkV (op a b c n : Int) (args : List Int) (regs area : Int) : Int :=
  if ¬ (0 ≤ op ∧ op < 33) then 16 else if regs < 0 ∨ 64 < regs ∨ area < 0 ∨ 4096 < area then 2 else if bareV (lettersOf (shapeI op)) a b c n args = false then 2
  else if 8 < args.length then 3 else if (itemsOf (shapeI op) a b c n args).all (fitB regs area) = false then 5 else 0
def BoundsDone (regs area : Int) (w : World) (e : Ending) (w' : World) : Prop :=
  ∃ br ba, e = .returned (.func (.func 145) #[] #[.pointer (some ⟨br, 0, none⟩), .pointer (some ⟨ba, 0, none⟩)]) ∧ br < w'.heap.size ∧ ba < w'.heap.size ∧ w'.cell? ⟨br, 0, none⟩ = some (.int .i64 regs) ∧ w'.cell? ⟨ba, 0, none⟩ = some (.int .i64 area) ∧ Below w.heap.size w w'
theorem bounds_any (regs area : Int) (w : World) : Calls Tryz.prog 124 #[.int .i64 regs, .int .i64 area] w (BoundsDone regs area w) := by
  refine (bounds_in regs area w).mono ?_
  rintro e w' ⟨rfl, rfl⟩
  refine ⟨_, _, rfl, by simp; omega, by simp, ?_, ?_, ((Below.refl _ w).alloc (Nat.le_refl _) _).alloc (by simp) _⟩
  · rw [World.cell?_alloc_lt _ _ _ (by simp)]
    exact (Boxed.new w 3 (.int .i64 regs)).cell
  · have h := (Boxed.new (w.alloc (.cells #[.int .i64 regs] 3)) 3 (.int .i64 area)).cell
    rwa [World.size_alloc] at h
abbrev SixC (w : World) (b' : Nat) (op a b c n : Int) (X : Value) : Prop := w.cell? ⟨b', 0, none⟩ = some (.int .i64 op) ∧ w.cell? ⟨b', 1, none⟩ = some (.int .i64 a) ∧ w.cell? ⟨b', 2, none⟩ = some (.int .i64 b) ∧ w.cell? ⟨b', 3, none⟩ = some (.int .i64 c) ∧ w.cell? ⟨b', 4, none⟩ = some (.int .i64 n) ∧ w.cell? ⟨b', 5, none⟩ = some X
theorem six_below {w w' : World} {B b' : Nat} {op a b c n : Int} {X : Value} (h : SixC w b' op a b c n X) (hb : Below B w w') (hB : b' < B) : SixC w' b' op a b c n X :=
  ⟨(hb.cell (p := ⟨b', 0, none⟩) hB).trans h.1, (hb.cell (p := ⟨b', 1, none⟩) hB).trans h.2.1, (hb.cell (p := ⟨b', 2, none⟩) hB).trans h.2.2.1, (hb.cell (p := ⟨b', 3, none⟩) hB).trans h.2.2.2.1, (hb.cell (p := ⟨b', 4, none⟩) hB).trans h.2.2.2.2.1, (hb.cell (p := ⟨b', 5, none⟩) hB).trans h.2.2.2.2.2⟩
theorem below_drewB {B : Nat} {w w' : World} (h : Below B w.drew w') : Below B w w' := ⟨h.os, h.tape, h.output, h.size, h.block⟩

set_option maxHeartbeats 4000000 in
set_option maxRecDepth 100000 in
theorem check_early (op a b c n : Int) (X : Value) (args : List Int) (regs area : Int) (w : World) (h : ¬ (0 ≤ op ∧ op < 33) ∨ regs < 0 ∨ 64 < regs ∨ area < 0 ∨ 4096 < area) :
    Calls Tryz.prog 105 #[.agg (insCells op a b c n X), .int .i64 regs, .int .i64 area] w (Makes w (.int .i64 (checkV op a b c n args regs area))) := by
  have hB0 : Below w.heap.size w (w.alloc (.cells (insCells op a b c n X) 28)) := (Below.refl _ w).alloc (Nat.le_refl _) _
  have HB0 := Lib.hid hB0
  have HE := Lib.hid (fun w => exists_any op w)
  by_cases ho : 0 ≤ op ∧ op < 33
  case neg =>
    have hc : checkV op a b c n args regs area = 16 := by unfold checkV; rw [if_pos ho]
    have HC := Lib.hid hc
    rw [opB_no ho] at HE
    clear hc ho h hB0
    go_enter Tryz.func105, Tryz.ntmps105
    go_wp2_with (go_at_call 58; (with_reducible refine (HE.out _).mono ?_); rintro e w1 ⟨rfl, rfl⟩)
    go_ret
    rw [HC.out]
    exact ⟨rfl, HB0.out⟩
  rw [opB_yes ho] at HE
  have h2 : regs < 0 ∨ 64 < regs ∨ area < 0 ∨ 4096 < area := h.resolve_left (fun h => h ho)
  have hc : checkV op a b c n args regs area = 2 := by unfold checkV; rw [if_neg (fun h => h ho), if_pos h2]
  have HC := Lib.hid hc
  clear hc ho h hB0
  by_cases g0 : regs < 0
  · go_enter Tryz.func105, Tryz.ntmps105
    go_wp2_with (go_at_call 58; (with_reducible refine (HE.out _).mono ?_); rintro e w1 ⟨rfl, rfl⟩)
    go_ret
    rw [HC.out]
    exact ⟨rfl, HB0.out⟩
  by_cases g1 : 64 < regs
  · go_enter Tryz.func105, Tryz.ntmps105
    go_wp2_with (go_at_call 58; (with_reducible refine (HE.out _).mono ?_); rintro e w1 ⟨rfl, rfl⟩)
    go_ret
    rw [HC.out]
    exact ⟨rfl, HB0.out⟩
  by_cases g2 : area < 0
  · go_enter Tryz.func105, Tryz.ntmps105
    go_wp2_with (go_at_call 58; (with_reducible refine (HE.out _).mono ?_); rintro e w1 ⟨rfl, rfl⟩)
    go_ret
    rw [HC.out]
    exact ⟨rfl, HB0.out⟩
  by_cases g3 : 4096 < area
  · go_enter Tryz.func105, Tryz.ntmps105
    go_wp2_with (go_at_call 58; (with_reducible refine (HE.out _).mono ?_); rintro e w1 ⟨rfl, rfl⟩)
    go_ret
    rw [HC.out]
    exact ⟨rfl, HB0.out⟩
  omega
set_option maxHeartbeats 4000000 in
set_option maxRecDepth 100000 in
theorem check_late (op a b c n : Int) (X : Value) (args : List Int) (regs area : Int) (w : World) (hX : IsNums .i64 w w.heap.size X args) (ho : 0 ≤ op ∧ op < 33) (h0 : 0 ≤ regs) (h1 : regs ≤ 64) (h2 : 0 ≤ area) (h3 : area ≤ 4096) :
    Calls Tryz.prog 105 #[.agg (insCells op a b c n X), .int .i64 regs, .int .i64 area] w (Makes w (.int .i64 (checkV op a b c n args regs area))) := by
  have hB0 : Below w.heap.size w (w.alloc (.cells (insCells op a b c n X) 28)) := (Below.refl _ w).alloc (Nat.le_refl _) _
  have HB0 := Lib.hid hB0
  have HE := Lib.hid (fun w => exists_any op w)
  rw [opB_yes ho] at HE
  have hr3 := okShape_reg (shapes_ok op)
  obtain ⟨XA, Xc, rfl⟩ := hX.len
  have HX0 := Lib.hid ((hX.below hB0 (Nat.le_refl _)).more hB0.size)
  have HK0 : Hid (SixC (w.alloc (.cells (insCells op a b c n (.slice XA args.length Xc)) 28)) w.heap.size op a b c n (.slice XA args.length Xc)) := Lib.hid (cells6 (heap_alloc_new _ _))
  have HL0 : Hid (w.heap.size < (w.alloc (.cells (insCells op a b c n (.slice XA args.length Xc)) 28)).heap.size) := Lib.hid (by simp)
  have hR := fun W => rest_any op a b c n (.slice XA args.length Xc) W ⟨_, _, _, rfl⟩
  have hS := fun W (h : IsNums .i64 W W.heap.size (.slice XA args.length Xc) args) => same_any op (restR (regN (lettersOf (shapeI op))) 0 a) (restR (regN (lettersOf (shapeI op))) 1 b) (restR (regN (lettersOf (shapeI op))) 2 c) (restN (lettersOf (shapeI op)) n) (restX (lettersOf (shapeI op)) (.slice XA args.length Xc)) (restA (lettersOf (shapeI op)) args) op 0 0 0 0 (.slice none 0 0) [] W (rest_nums _ h) (nums_nil _ _)
  rw [same_rest _ op a b c n args hr3] at hS
  have hF := fun W br ba (h : IsNums .i64 W W.heap.size (.slice XA args.length Xc) args) g1 g2 g3 g4 => fits_any op a b c n (.slice XA args.length Xc) args regs area br ba W h h0 h1 g1 g2 g3 g4
  have HBd := Lib.hid (fun W => bounds_any regs area W)
  obtain ⟨ra, hra⟩ : ∃ x, x = restR (regN (lettersOf (shapeI op))) 0 a := ⟨_, rfl⟩
  obtain ⟨rb, hrb⟩ : ∃ x, x = restR (regN (lettersOf (shapeI op))) 1 b := ⟨_, rfl⟩
  obtain ⟨rc, hrc⟩ : ∃ x, x = restR (regN (lettersOf (shapeI op))) 2 c := ⟨_, rfl⟩
  obtain ⟨rn, hrn⟩ : ∃ x, x = restN (lettersOf (shapeI op)) n := ⟨_, rfl⟩
  obtain ⟨rX, hrX⟩ : ∃ x, x = restX (lettersOf (shapeI op)) (.slice XA args.length Xc) := ⟨_, rfl⟩
  rw [← hra, ← hrb, ← hrc, ← hrn, ← hrX] at hR
  rw [← hra, ← hrb, ← hrc, ← hrn, ← hrX] at hS
  clear hra hrb hrc hrn hrX
  have hc0 : checkV op a b c n args regs area = if bareV (lettersOf (shapeI op)) a b c n args = false then 2 else if 8 < args.length then 3 else if (itemsOf (shapeI op) a b c n args).all (fitB regs area) = false then 5 else 0 := by
    unfold checkV
    rw [if_neg (fun h => h ho), if_neg (by omega)]
  obtain ⟨bv, hbv⟩ : ∃ x, x = bareV (lettersOf (shapeI op)) a b c n args := ⟨_, rfl⟩
  obtain ⟨fv, hfv⟩ : ∃ x, x = (itemsOf (shapeI op) a b c n args).all (fitB regs area) := ⟨_, rfl⟩
  rw [← hbv, ← hfv] at hc0
  rw [← hbv] at hS
  rw [← hfv] at hF
  have HR := Lib.hid hR
  have hm := hX.1
  unfold maxLen at hm
  clear hX hB0 hR hbv hfv ho hr3
  cases bv
  · have HSm := Lib.hid hS
    have HC : Hid (checkV op a b c n args regs area = 2) := Lib.hid (by rw [hc0]; rfl)
    clear hS hF hc0
    go_enter Tryz.func105, Tryz.ntmps105
    go_wp2_with (go_at_call 58; (with_reducible refine (HE.out _).mono ?_); rintro e w1 ⟨rfl, rfl⟩)
    go_region_held3 (fun w' => w'.cell? ⟨w.heap.size, 0, none⟩ = some (.int .i64 op) ∧ w'.cell? ⟨w.heap.size, 1, none⟩ = some (.int .i64 a) ∧ w'.cell? ⟨w.heap.size, 2, none⟩ = some (.int .i64 b) ∧ w'.cell? ⟨w.heap.size, 3, none⟩ = some (.int .i64 c) ∧ w'.cell? ⟨w.heap.size, 4, none⟩ = some (.int .i64 n) ∧ w'.cell? ⟨w.heap.size, 5, none⟩ = some (.slice XA args.length Xc)) (first | with_reducible exact HK2.out | with_reducible exact HK1.out | go_keep)
      (first
        | (go_at_call 122; (with_reducible refine (HR.out _).mono ?_); rintro e w1 ⟨rfl, hb⟩; have B1 := Lib.hid (below_drewB hb); have HK1 := Lib.hid (six_below HK0.out B1.out HL0.out); have HX1 := Lib.hid ((HX0.out.below B1.out (Nat.le_refl _)).more B1.out.size); clear hb)
        | (go_at_call 80; (with_reducible refine (HSm.out _ HX1.out).mono ?_); rintro e w2 ⟨rfl, hb⟩; have B2 := Lib.hid (B1.out.trans (hb.mono B1.out.size)); have HK2 := Lib.hid (six_below HK0.out B2.out HL0.out); have HX2 := Lib.hid ((HX0.out.below B2.out (Nat.le_refl _)).more B2.out.size); have hk2 := HK2.out; obtain ⟨k0, k1, k2, k3, k4, k5⟩ := hk2; clear hb))
    go_wp2
    go_ret
    rw [HC.out]
    exact ⟨rfl, HB0.out.trans (B2.out.mono HB0.out.size)⟩
  · have HSm := Lib.hid hS
    clear hS
    by_cases h8 : 8 < args.length
    · have HC : Hid (checkV op a b c n args regs area = 3) := Lib.hid (by rw [hc0]; simp [h8])
      clear hF hc0
      go_enter Tryz.func105, Tryz.ntmps105
      go_wp2_with (go_at_call 58; (with_reducible refine (HE.out _).mono ?_); rintro e w1 ⟨rfl, rfl⟩)
      go_region_held3 (fun w' => w'.cell? ⟨w.heap.size, 0, none⟩ = some (.int .i64 op) ∧ w'.cell? ⟨w.heap.size, 1, none⟩ = some (.int .i64 a) ∧ w'.cell? ⟨w.heap.size, 2, none⟩ = some (.int .i64 b) ∧ w'.cell? ⟨w.heap.size, 3, none⟩ = some (.int .i64 c) ∧ w'.cell? ⟨w.heap.size, 4, none⟩ = some (.int .i64 n) ∧ w'.cell? ⟨w.heap.size, 5, none⟩ = some (.slice XA args.length Xc)) (first | with_reducible exact HK2.out | with_reducible exact HK1.out | go_keep)
        (first
          | (go_at_call 122; (with_reducible refine (HR.out _).mono ?_); rintro e w1 ⟨rfl, hb⟩; have B1 := Lib.hid (below_drewB hb); have HK1 := Lib.hid (six_below HK0.out B1.out HL0.out); have HX1 := Lib.hid ((HX0.out.below B1.out (Nat.le_refl _)).more B1.out.size); clear hb)
          | (go_at_call 80; (with_reducible refine (HSm.out _ HX1.out).mono ?_); rintro e w2 ⟨rfl, hb⟩; have B2 := Lib.hid (B1.out.trans (hb.mono B1.out.size)); have HK2 := Lib.hid (six_below HK0.out B2.out HL0.out); have HX2 := Lib.hid ((HX0.out.below B2.out (Nat.le_refl _)).more B2.out.size); have hk2 := HK2.out; obtain ⟨k0, k1, k2, k3, k4, k5⟩ := hk2; clear hb))
      go_wp2
      go_ret
      rw [HC.out]
      exact ⟨rfl, HB0.out.trans (B2.out.mono HB0.out.size)⟩
    · cases fv
      · have HFt := Lib.hid hF
        have HC : Hid (checkV op a b c n args regs area = 5) := Lib.hid (by rw [hc0]; simp [h8])
        clear hF hc0
        go_enter Tryz.func105, Tryz.ntmps105
        go_wp2_with (go_at_call 58; (with_reducible refine (HE.out _).mono ?_); rintro e w1 ⟨rfl, rfl⟩)
        go_region_held3 (fun w' => w'.cell? ⟨w.heap.size, 0, none⟩ = some (.int .i64 op) ∧ w'.cell? ⟨w.heap.size, 1, none⟩ = some (.int .i64 a) ∧ w'.cell? ⟨w.heap.size, 2, none⟩ = some (.int .i64 b) ∧ w'.cell? ⟨w.heap.size, 3, none⟩ = some (.int .i64 c) ∧ w'.cell? ⟨w.heap.size, 4, none⟩ = some (.int .i64 n) ∧ w'.cell? ⟨w.heap.size, 5, none⟩ = some (.slice XA args.length Xc)) (first | with_reducible exact HK2.out | with_reducible exact HK1.out | go_keep)
          (first
            | (go_at_call 122; (with_reducible refine (HR.out _).mono ?_); rintro e w1 ⟨rfl, hb⟩; have B1 := Lib.hid (below_drewB hb); have HK1 := Lib.hid (six_below HK0.out B1.out HL0.out); have HX1 := Lib.hid ((HX0.out.below B1.out (Nat.le_refl _)).more B1.out.size); clear hb)
            | (go_at_call 80; (with_reducible refine (HSm.out _ HX1.out).mono ?_); rintro e w2 ⟨rfl, hb⟩; have B2 := Lib.hid (B1.out.trans (hb.mono B1.out.size)); have HK2 := Lib.hid (six_below HK0.out B2.out HL0.out); have HX2 := Lib.hid ((HX0.out.below B2.out (Nat.le_refl _)).more B2.out.size); have hk2 := HK2.out; obtain ⟨k0, k1, k2, k3, k4, k5⟩ := hk2; clear hb))
        go_wp2
        go_region_held3 (fun w' => w'.cell? ⟨w.heap.size, 0, none⟩ = some (.int .i64 op) ∧ w'.cell? ⟨w.heap.size, 1, none⟩ = some (.int .i64 a) ∧ w'.cell? ⟨w.heap.size, 2, none⟩ = some (.int .i64 b) ∧ w'.cell? ⟨w.heap.size, 3, none⟩ = some (.int .i64 c) ∧ w'.cell? ⟨w.heap.size, 4, none⟩ = some (.int .i64 n) ∧ w'.cell? ⟨w.heap.size, 5, none⟩ = some (.slice XA args.length Xc)) (first | with_reducible exact HK4.out | with_reducible exact HK3.out | go_keep)
          (first
            | (go_at_call 124; (with_reducible refine (HBd.out _).mono ?_); rintro e w3 ⟨br, ba, rfl, hbr, hba, hcr, hca, hb⟩; have C3 := Lib.hid (And.intro hbr (And.intro hba (And.intro hcr hca))); have B3 := Lib.hid (B2.out.trans ((below_drewB hb).mono B2.out.size)); have HK3 := Lib.hid (six_below HK0.out B3.out HL0.out); have HX3 := Lib.hid ((HX0.out.below B3.out (Nat.le_refl _)).more B3.out.size); clear hb hbr hba hcr hca)
            | (go_at_call 123; (with_reducible refine (HFt.out _ _ _ HX3.out C3.out.1 C3.out.2.1 C3.out.2.2.1 C3.out.2.2.2).mono ?_); rintro e w4 ⟨rfl, hb⟩; have B4 := Lib.hid (B3.out.trans (hb.mono B3.out.size)); have HK4 := Lib.hid (six_below HK0.out B4.out HL0.out); have hk4 := HK4.out; obtain ⟨m0, m1, m2, m3, m4, m5⟩ := hk4; clear hb))
        go_wp2
        go_ret
        rw [HC.out]
        exact ⟨rfl, HB0.out.trans (B4.out.mono HB0.out.size)⟩
      · have HFt := Lib.hid hF
        have HC : Hid (checkV op a b c n args regs area = 0) := Lib.hid (by rw [hc0]; simp [h8])
        clear hF hc0
        go_enter Tryz.func105, Tryz.ntmps105
        go_wp2_with (go_at_call 58; (with_reducible refine (HE.out _).mono ?_); rintro e w1 ⟨rfl, rfl⟩)
        go_region_held3 (fun w' => w'.cell? ⟨w.heap.size, 0, none⟩ = some (.int .i64 op) ∧ w'.cell? ⟨w.heap.size, 1, none⟩ = some (.int .i64 a) ∧ w'.cell? ⟨w.heap.size, 2, none⟩ = some (.int .i64 b) ∧ w'.cell? ⟨w.heap.size, 3, none⟩ = some (.int .i64 c) ∧ w'.cell? ⟨w.heap.size, 4, none⟩ = some (.int .i64 n) ∧ w'.cell? ⟨w.heap.size, 5, none⟩ = some (.slice XA args.length Xc)) (first | with_reducible exact HK2.out | with_reducible exact HK1.out | go_keep)
          (first
            | (go_at_call 122; (with_reducible refine (HR.out _).mono ?_); rintro e w1 ⟨rfl, hb⟩; have B1 := Lib.hid (below_drewB hb); have HK1 := Lib.hid (six_below HK0.out B1.out HL0.out); have HX1 := Lib.hid ((HX0.out.below B1.out (Nat.le_refl _)).more B1.out.size); clear hb)
            | (go_at_call 80; (with_reducible refine (HSm.out _ HX1.out).mono ?_); rintro e w2 ⟨rfl, hb⟩; have B2 := Lib.hid (B1.out.trans (hb.mono B1.out.size)); have HK2 := Lib.hid (six_below HK0.out B2.out HL0.out); have HX2 := Lib.hid ((HX0.out.below B2.out (Nat.le_refl _)).more B2.out.size); have hk2 := HK2.out; obtain ⟨k0, k1, k2, k3, k4, k5⟩ := hk2; clear hb))
        go_wp2
        go_region_held3 (fun w' => w'.cell? ⟨w.heap.size, 0, none⟩ = some (.int .i64 op) ∧ w'.cell? ⟨w.heap.size, 1, none⟩ = some (.int .i64 a) ∧ w'.cell? ⟨w.heap.size, 2, none⟩ = some (.int .i64 b) ∧ w'.cell? ⟨w.heap.size, 3, none⟩ = some (.int .i64 c) ∧ w'.cell? ⟨w.heap.size, 4, none⟩ = some (.int .i64 n) ∧ w'.cell? ⟨w.heap.size, 5, none⟩ = some (.slice XA args.length Xc)) (first | with_reducible exact HK4.out | with_reducible exact HK3.out | go_keep)
          (first
            | (go_at_call 124; (with_reducible refine (HBd.out _).mono ?_); rintro e w3 ⟨br, ba, rfl, hbr, hba, hcr, hca, hb⟩; have C3 := Lib.hid (And.intro hbr (And.intro hba (And.intro hcr hca))); have B3 := Lib.hid (B2.out.trans ((below_drewB hb).mono B2.out.size)); have HK3 := Lib.hid (six_below HK0.out B3.out HL0.out); have HX3 := Lib.hid ((HX0.out.below B3.out (Nat.le_refl _)).more B3.out.size); clear hb hbr hba hcr hca)
            | (go_at_call 123; (with_reducible refine (HFt.out _ _ _ HX3.out C3.out.1 C3.out.2.1 C3.out.2.2.1 C3.out.2.2.2).mono ?_); rintro e w4 ⟨rfl, hb⟩; have B4 := Lib.hid (B3.out.trans (hb.mono B3.out.size)); have HK4 := Lib.hid (six_below HK0.out B4.out HL0.out); have hk4 := HK4.out; obtain ⟨m0, m1, m2, m3, m4, m5⟩ := hk4; clear hb))
        go_wp2
        go_ret
        rw [HC.out]
        exact ⟨rfl, HB0.out.trans (B4.out.mono HB0.out.size)⟩
theorem check_any (op a b c n : Int) (X : Value) (args : List Int) (regs area : Int) (w : World) (hX : IsNums .i64 w w.heap.size X args) :
    Calls Tryz.prog 105 #[.agg (insCells op a b c n X), .int .i64 regs, .int .i64 area] w (Makes w (.int .i64 (checkV op a b c n args regs area))) := by
  by_cases h : ¬ (0 ≤ op ∧ op < 33) ∨ regs < 0 ∨ 64 < regs ∨ area < 0 ∨ 4096 < area
  · exact check_early op a b c n X args regs area w h
  · exact check_late op a b c n X args regs area w hX (by omega) (by omega) (by omega) (by omega) (by omega)

end Go.Proofs.YtohlifeenhaifaaGreatDoor
