/- Numbers split of a word by fields: the contract of rvcode.split, for any fields in a row and any word. No condition. -/
import Derived.Test.YtcglfbjfllohjaaJoin03
import Derived.Deep.RegionWith
namespace Go.Proofs.Ytcglfbjfllohjaa
open Go.RowKit
set_option linter.unusedVariables false


/-- Four numbers in a block. -/
def NumAt (w : World) (p : Nat) (g : Nat → Int) : Prop := w.heap[p]? = some (.cells #[.int .i64 (g 0), .int .i64 (g 1), .int .i64 (g 2), .int .i64 (g 3)] 46 (0, 0))
theorem NumAt.cell {w : World} {p : Nat} {g : Nat → Int} (h : NumAt w p g) {j : Nat} (hj : j < 4) : w.cell? ⟨p, j, none⟩ = some (.int .i64 (g j)) := by
  rw [cell_of_row _ _ _ _ _ _ h]
  have : j = 0 ∨ j = 1 ∨ j = 2 ∨ j = 3 := by omega
  rcases this with rfl | rfl | rfl | rfl <;> rfl
theorem NumAt.free {w : World} {p : Nat} {g : Nat → Int} (h : NumAt w p g) (j : Nat) : w.frozen? ⟨p, j, none⟩ = false := by
  unfold NumAt at h
  simp [World.frozen?, h]
theorem NumAt.set {w : World} {p : Nat} {g : Nat → Int} (h : NumAt w p g) {j : Nat} (hj : j < 4) (v : Int) : NumAt (w.setCell ⟨p, j, none⟩ (.int .i64 v)) p (setN g j v) := by
  unfold NumAt
  rw [heap_setCell_same w p j _ _ _ h]
  have : j = 0 ∨ j = 1 ∨ j = 2 ∨ j = 3 := by omega
  rcases this with rfl | rfl | rfl | rfl <;> simp [setN]
theorem NumAt.of_block {w w' : World} {p : Nat} {g : Nat → Int} (h : NumAt w p g) (hb : w'.heap[p]? = w.heap[p]?) : NumAt w' p g := by
  unfold NumAt
  rw [hb]
  exact h
theorem NumAt.lt {w : World} {p : Nat} {g : Nat → Int} (h : NumAt w p g) : p < w.heap.size := heap_lt h
def SplitAt (w wr : World) (g : Nat → Int) : Prop := NumAt wr w.heap.size (fun _ => 0) ∧ NumAt wr (w.heap.size + 1) g ∧ Below w.heap.size w wr
theorem split_step {w W1 : World} {S : Nat → Int} {j n : Nat} (v : Int) (hz : NumAt W1 w.heap.size (fun _ => 0)) (hn : NumAt W1 (w.heap.size + 1) S) (hb : Below w.heap.size w W1) (hj : j < 4) :
    SplitAt w ((W1.drewN n).setCell ⟨w.heap.size + 1, j, none⟩ (.int .i64 v)) (setN S j v) :=
  ⟨NumAt.of_block (w := W1.drewN n) (hz.of_block rfl) (heap_setCell_other _ _ _ _ (by show w.heap.size ≠ w.heap.size + 1; omega)), NumAt.set (w := W1.drewN n) (hn.of_block rfl) hj v, (below_drewN hb n).setCell (p := ⟨w.heap.size + 1, j, none⟩) (show w.heap.size ≤ w.heap.size + 1 by omega) _⟩
set_option maxHeartbeats 8000000 in
theorem split_any (A : Nat) (V : Value) (l : List Fd) (x : Int) (w : World) (hV : IsFds w A w.heap.size V l) (hx : 0 ≤ x) (hx' : x < 4294967296) (hl : l.length ≤ 6) :
    Calls Try.prog 26 #[V, .int .u32 x] w fun e w' => e = .returned (.agg #[.int .i64 (splitV l x 0), .int .i64 (splitV l x 1), .int .i64 (splitV l x 2), .int .i64 (splitV l x 3)]) ∧ Below w.heap.size w w' := by
  rcases hV with ⟨rfl, rfl⟩ | ⟨b, cap, rfl, hcap, ⟨_, hb⟩, hrow⟩
  · go_enter Try.func26, Try.ntmps26
    go_wp2
    go_loopw [10] (fun i wr => i = .int .i64 0 ∧ wr = (w.alloc (.cells #[.int .i64 0, .int .i64 0, .int .i64 0, .int .i64 0] 46)).alloc (.cells #[.int .i64 0, .int .i64 0, .int .i64 0, .int .i64 0] 46)) (fun _ _ => 0)
    case atStart => exact ⟨rfl, rfl⟩
    case round =>
      obtain ⟨rfl, rfl⟩ := hrel
      go_wp2
      exact bodyPost_ret (v := .agg #[.int .i64 0, .int .i64 0, .int .i64 0, .int .i64 0]) (by simp [results, Try.results26, go_sem]) rfl ⟨rfl, ((Below.refl _ _).alloc (Nat.le_refl _) _).alloc (by simp) _⟩
  · have HROW := Lib.hid hrow
    obtain ⟨len, hlen⟩ : ∃ len, len = l.length := ⟨_, rfl⟩
    have HL := Lib.hid hlen
    rw [← hlen] at hl hcap ⊢
    clear hrow hlen
    go_enter Try.func26, Try.ntmps26
    go_wp2
    go_loopw [10] (fun i wr => ∃ k : Nat, k ≤ len ∧ i = .int .i64 k ∧ Hid (SplitAt w wr (splitV (l.take k) x))) (fun i _ => len - (intOf i).toNat)
    case atStart =>
      exact ⟨0, by omega, rfl, Lib.hid ⟨NumAt.of_block (w := w.alloc (.cells #[.int .i64 0, .int .i64 0, .int .i64 0, .int .i64 0] 46)) (heap_alloc_new w _) (heap_alloc_old _ _ (by simp)), by
        have := heap_alloc_new (w.alloc (.cells #[.int .i64 0, .int .i64 0, .int .i64 0, .int .i64 0] 46)) (.cells #[.int .i64 0, .int .i64 0, .int .i64 0, .int .i64 0] 46)
        rw [show (w.alloc (.cells #[.int .i64 0, .int .i64 0, .int .i64 0, .int .i64 0] 46)).heap.size = w.heap.size + 1 by simp] at this
        exact this, ((Below.refl _ _).alloc (Nat.le_refl _) _).alloc (by simp) _⟩⟩
    case round =>
      obtain ⟨k, hk, rfl, hq⟩ := hrel
      by_cases hlt : k < len
      · obtain ⟨F, hF⟩ : ∃ F, F = l.getD k .zero := ⟨_, rfl⟩
        have hso := splitV_one (l := l) (k := k) (by rw [← HL.out]; exact hlt) x
        obtain ⟨v1, v2, hfd, c0, c1, c2⟩ := HROW.out k (by rw [← HL.out]; exact hlt)
        obtain ⟨hz, hn, hbw⟩ := hq.out
        rw [← hF] at hso hfd c0
        have d0 : wr.cell? ⟨b, k * 3, none⟩ = some (.int .i64 F.of) := (hbw.cell (p := ⟨b, _, none⟩) hb).trans c0
        have d1 : wr.cell? ⟨b, k * 3 + 1, none⟩ = some v1 := (hbw.cell (p := ⟨b, _, none⟩) hb).trans c1
        have d2 : wr.cell? ⟨b, k * 3 + 2, none⟩ = some v2 := (hbw.cell (p := ⟨b, _, none⟩) hb).trans c2
        have hof := hfd.ok.of
        have hof1 : (F.of : Int) < 4 := by omega
        have hof0 : (0 : Int) ≤ (F.of : Int) := by omega
        obtain ⟨S, hS⟩ : ∃ S, S = splitV (l.take k) x := ⟨_, rfl⟩
        have hin := splitV_in (l.take k) x
        rw [← hS] at hso hn hin
        have hgi := hin F.of
        have htb := F.take_bd hfd.ok x
        obtain ⟨T, hT⟩ : ∃ T, T = F.take x := ⟨_, rfl⟩
        rw [← hT] at hso htb
        have hsz : b < wr.heap.size := Nat.lt_of_lt_of_le hb hbw.size
        have hsz2 : w.heap.size + 1 < wr.heap.size := hn.lt
        have hhow := hfd.below hbw (Nat.le_refl _)
        have HSO := Lib.hid hso
        have HT := Lib.hid hT
        have HBW := Lib.hid hbw
        have HOK := Lib.hid hfd.ok
        have HN := Lib.hid hn
        have HZ := Lib.hid hz
        obtain ⟨G, hG⟩ : ∃ G, G = S F.of := ⟨_, rfl⟩
        rw [← hG] at hgi
        have HG := Lib.hid hG
        have hgi1 : -9223372036854775808 ≤ G := hgi.1
        have hgi2 : G < 9223372036854775808 := hgi.2
        clear hF hso hG hS hT hfd c0 c1 c2 hbw hn hz hq hin hgi
        rcases hhow.how with ⟨h0, pf, pm, pa, l1, l2, l3, rfl, rfl, e1, e2, e3⟩ | ⟨h0, pf, pa, l1, l3, rfl, rfl, e1, e3⟩
        · obtain ⟨C, hC⟩ : ∃ C : Array Value, C = #[.int .i64 F.of, .func (.func 42) #[] #[.pointer (some ⟨pf, 0, none⟩), .pointer (some ⟨pm, 0, none⟩), .pointer (some ⟨pa, 0, none⟩)], .func (.func 43) #[] #[.pointer (some ⟨pa, 0, none⟩), .pointer (some ⟨pm, 0, none⟩), .pointer (some ⟨pf, 0, none⟩)]] := ⟨_, rfl⟩
          have q0 : (wr.alloc (.cells C 68)).cell? ⟨wr.heap.size, 0, none⟩ = some (.int .i64 F.of) := new_cell _ _ _ _ _ _ rfl (by rw [hC]; rfl)
          have q2 : (wr.alloc (.cells C 68)).cell? ⟨wr.heap.size, 2, none⟩ = some (.func (.func 43) #[] #[.pointer (some ⟨pa, 0, none⟩), .pointer (some ⟨pm, 0, none⟩), .pointer (some ⟨pf, 0, none⟩)]) := new_cell _ _ _ _ _ _ rfl (by rw [hC]; rfl)
          have qn : NumAt (wr.alloc (.cells C 68)) (w.heap.size + 1) S := HN.out.of_block (heap_alloc_old _ _ hsz2)
          have qz : NumAt (wr.alloc (.cells C 68)) w.heap.size (fun _ => 0) := HZ.out.of_block (heap_alloc_old _ _ (by omega))
          have qb : Below w.heap.size w (wr.alloc (.cells C 68)) := HBW.out.alloc HBW.out.size _
          have q5 : (wr.alloc (.cells C 68)).cell? ⟨w.heap.size + 1, F.of, none⟩ = some (.int .i64 G) := by rw [HG.out]; exact qn.cell hof
          have q6 : (wr.alloc (.cells C 68)).frozen? ⟨w.heap.size + 1, F.of, none⟩ = false := qn.free _
          have qc := part2_any F (wr.alloc (.cells C 68))  x pf pm pa HOK.out h0 hx hx' (old_cell _ e1) (old_cell _ e2) (old_cell _ e3)
          have E1 := Lib.hid (old_cell (.cells C 68) e1)
          have E2 := Lib.hid (old_cell (.cells C 68) e2)
          have E3 := Lib.hid (old_cell (.cells C 68) e3)
          have QN := Lib.hid qn
          have QZ := Lib.hid qz
          have QB := Lib.hid qb
          have H0 := Lib.hid h0
          clear qc qn qz qb e1 e2 e3 l1 l2 l3 h0 hhow
          have HCC := Lib.hid hC
          clear hC
          go_wp2
          rw [← HCC.out]
          generalize wr.alloc (.cells C 68) = W1 at *
          go_region_with ((go_at_call 43; (with_reducible refine (part2_any F _ x pf pm pa HOK.out H0.out hx hx' ?_ ?_ ?_).mono ?_); exact E1.out; exact E2.out; exact E3.out; rintro e w' ⟨rfl, m, rfl⟩))
          all_goals
            go_wp2
            go_roundw
            case rel => exact ⟨k + 1, by omega, by go_num, Lib.hid (by rw [HSO.out, HT.out, ← HG.out]; exact split_step _ QZ.out QN.out QB.out hof)⟩
            case measure => simp [intOf]; omega
        · obtain ⟨C, hC⟩ : ∃ C : Array Value, C = #[.int .i64 F.of, .func (.func 44) #[] #[.pointer (some ⟨pf, 0, none⟩), .pointer (some ⟨pa, 0, none⟩)], .func (.func 45) #[] #[.pointer (some ⟨pa, 0, none⟩), .pointer (some ⟨pf, 0, none⟩)]] := ⟨_, rfl⟩
          have q0 : (wr.alloc (.cells C 68)).cell? ⟨wr.heap.size, 0, none⟩ = some (.int .i64 F.of) := new_cell _ _ _ _ _ _ rfl (by rw [hC]; rfl)
          have q2 : (wr.alloc (.cells C 68)).cell? ⟨wr.heap.size, 2, none⟩ = some (.func (.func 45) #[] #[.pointer (some ⟨pa, 0, none⟩), .pointer (some ⟨pf, 0, none⟩)]) := new_cell _ _ _ _ _ _ rfl (by rw [hC]; rfl)
          have qn : NumAt (wr.alloc (.cells C 68)) (w.heap.size + 1) S := HN.out.of_block (heap_alloc_old _ _ hsz2)
          have qz : NumAt (wr.alloc (.cells C 68)) w.heap.size (fun _ => 0) := HZ.out.of_block (heap_alloc_old _ _ (by omega))
          have qb : Below w.heap.size w (wr.alloc (.cells C 68)) := HBW.out.alloc HBW.out.size _
          have q5 : (wr.alloc (.cells C 68)).cell? ⟨w.heap.size + 1, F.of, none⟩ = some (.int .i64 G) := by rw [HG.out]; exact qn.cell hof
          have q6 : (wr.alloc (.cells C 68)).frozen? ⟨w.heap.size + 1, F.of, none⟩ = false := qn.free _
          have E1 := Lib.hid (old_cell (.cells C 68) e1)
          have E3 := Lib.hid (old_cell (.cells C 68) e3)
          have QN := Lib.hid qn
          have QZ := Lib.hid qz
          have QB := Lib.hid qb
          have H0 := Lib.hid h0
          clear qn qz qb e1 e3 l1 l3 h0 hhow
          have HCC := Lib.hid hC
          clear hC
          go_wp2
          rw [← HCC.out]
          generalize wr.alloc (.cells C 68) = W1 at *
          go_region_with ((go_at_call 45; (with_reducible refine (top2_any F _ x pf pa HOK.out H0.out hx hx' ?_ ?_).mono ?_); exact E1.out; exact E3.out; rintro e w' ⟨rfl, m, rfl⟩))
          all_goals
            go_wp2
            go_roundw
            case rel => exact ⟨k + 1, by omega, by go_num, Lib.hid (by rw [HSO.out, HT.out, ← HG.out]; exact split_step _ QZ.out QN.out QB.out hof)⟩
            case measure => simp [intOf]; omega
      · obtain rfl : k = len := by omega
        have hlt2 : List.take k l = l := List.take_of_length_le (by rw [HL.out]; exact Nat.le_refl _)
        have hq2 : SplitAt w wr (splitV l x) := by
          have := hq.out
          rw [hlt2] at this
          exact this
        obtain ⟨hz, hn, hbw⟩ := hq2
        clear hlt2 hq
        have n0 : wr.cell? ⟨w.heap.size + 1, 0, none⟩ = some (.int .i64 (splitV l x 0)) := hn.cell (by omega)
        have n1 : wr.cell? ⟨w.heap.size + 1, 1, none⟩ = some (.int .i64 (splitV l x 1)) := hn.cell (by omega)
        have n2 : wr.cell? ⟨w.heap.size + 1, 2, none⟩ = some (.int .i64 (splitV l x 2)) := hn.cell (by omega)
        have n3 : wr.cell? ⟨w.heap.size + 1, 3, none⟩ = some (.int .i64 (splitV l x 3)) := hn.cell (by omega)
        have z0 : wr.cell? ⟨w.heap.size, 0, none⟩ = some (.int .i64 0) := hz.cell (j := 0) (by omega)
        have z1 : wr.cell? ⟨w.heap.size, 1, none⟩ = some (.int .i64 0) := hz.cell (j := 1) (by omega)
        have z2 : wr.cell? ⟨w.heap.size, 2, none⟩ = some (.int .i64 0) := hz.cell (j := 2) (by omega)
        have z3 : wr.cell? ⟨w.heap.size, 3, none⟩ = some (.int .i64 0) := hz.cell (j := 3) (by omega)
        have f0 : wr.frozen? ⟨w.heap.size, 0, none⟩ = false := hz.free _
        have f1 : wr.frozen? ⟨w.heap.size, 1, none⟩ = false := hz.free _
        have f2 : wr.frozen? ⟨w.heap.size, 2, none⟩ = false := hz.free _
        have f3 : wr.frozen? ⟨w.heap.size, 3, none⟩ = false := hz.free _
        have HBW := Lib.hid hbw
        clear hbw hz hn
        go_wp2
        exact bodyPost_ret (v := .agg #[.int .i64 (splitV l x 0), .int .i64 (splitV l x 1), .int .i64 (splitV l x 2), .int .i64 (splitV l x 3)]) (by simp [results, Try.results26, go_sem, z0, z1, z2, z3]) rfl ⟨rfl, (((HBW.out.setCell (p := ⟨w.heap.size, 0, none⟩) (Nat.le_refl _) _).setCell (p := ⟨w.heap.size, 1, none⟩) (Nat.le_refl _) _).setCell (p := ⟨w.heap.size, 2, none⟩) (Nat.le_refl _) _).setCell (p := ⟨w.heap.size, 3, none⟩) (Nat.le_refl _) _⟩

end Go.Proofs.Ytcglfbjfllohjaa