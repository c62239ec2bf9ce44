/- Numbers joined to a word by fields, and split of one: the contracts of rvcode.join and rvcode.split, for any fields in a row. No condition but that the numbers are the machine's. -/
import Derived.Test.YtcglfbjfllohjaaFields03
import Derived.Deep.RegionHeld3
import Derived.StillTailTactics
import Derived.Laws.EntriesVeiled
import Derived.Deep.RegionWith
import Derived.Deep.RegionLaw
namespace Go.Proofs.Ytcglfbjfllohjaa
open Go.RowKit
set_option linter.unusedVariables false

/-- Four numbers, as a function of their place. -/
def num4 (a b c d : Int) (k : Nat) : Int := if k = 0 then a else if k = 1 then b else if k = 2 then c else d
def joinV (l : List Fd) (g : Nat → Int) : Int := l.foldl (fun acc F => bits .or .u32 acc (F.put (g F.of))) 0
def setN (g : Nat → Int) (k : Nat) (v : Int) (j : Nat) : Int := if j = k then v else g j
def splitV (l : List Fd) (x : Int) : Nat → Int := l.foldl (fun g F => setN g F.of (bits .or .i64 (g F.of) (F.take x))) (fun _ => 0)
theorem take_one {l : List Fd} {k : Nat} (h : k < l.length) : l.take (k + 1) = l.take k ++ [l.getD k .zero] := by
  rw [List.take_succ_eq_append_getElem h]
  simp [List.getD, List.getElem?_eq_getElem h]
theorem joinV_one {l : List Fd} {k : Nat} (h : k < l.length) (g : Nat → Int) : joinV (l.take (k + 1)) g = bits .or .u32 (joinV (l.take k) g) ((l.getD k .zero).put (g (l.getD k .zero).of)) := by
  unfold joinV
  rw [take_one h, List.foldl_append]
  rfl
theorem splitV_one {l : List Fd} {k : Nat} (h : k < l.length) (x : Int) : splitV (l.take (k + 1)) x = setN (splitV (l.take k) x) (l.getD k .zero).of (bits .or .i64 (splitV (l.take k) x (l.getD k .zero).of) ((l.getD k .zero).take x)) := by
  unfold splitV
  rw [take_one h, List.foldl_append]
  rfl
theorem or_bd (a b : Int) : 0 ≤ bits .or .u32 a b ∧ bits .or .u32 a b < 4294967296 := by
  unfold bits
  simp only [IntKind.wrap_u32]
  omega
theorem joinV_bd (l : List Fd) (g : Nat → Int) : 0 ≤ joinV l g ∧ joinV l g < 4294967296 := by
  unfold joinV
  rcases List.eq_nil_or_concat l with rfl | ⟨l', F, rfl⟩
  · simp
  · rw [List.concat_eq_append, List.foldl_append]
    exact or_bd _ _
def InI (n : Int) : Prop := -9223372036854775808 ≤ n ∧ n < 9223372036854775808
theorem ori_bd (a b : Int) : InI (bits .or .i64 a b) := by
  unfold bits InI
  simp only [IntKind.wrap_i64]
  omega
theorem setN_in {g : Nat → Int} (h : ∀ j, InI (g j)) {k : Nat} {v : Int} (hv : InI v) : ∀ j, InI (setN g k v j) := by
  intro j
  unfold setN
  split
  · exact hv
  · exact h j
theorem fold_in {α β : Type} {P : β → Prop} {f : β → α → β} (h : ∀ b a, P b → P (f b a)) : ∀ (l : List α) (b : β), P b → P (l.foldl f b)
  | [], _, hb => hb
  | a :: l, b, hb => fold_in h l (f b a) (h b a hb)
theorem splitV_in (l : List Fd) (x : Int) : ∀ j, InI (splitV l x j) :=
  fold_in (P := fun g : Nat → Int => ∀ j, InI (g j)) (fun g F hg => setN_in hg (ori_bd _ _)) l _ (fun j => by simp [InI])


set_option maxHeartbeats 2000000 in
theorem join_any (A : Nat) (V : Value) (l : List Fd) (n0 n1 n2 n3 : Int) (w : World) (hV : IsFds w A w.heap.size V l) (i0 : InI n0) (i1 : InI n1) (i2 : InI n2) (i3 : InI n3) (hl : l.length ≤ 6) :
    Calls Try.prog 25 #[V, .agg #[.int .i64 n0, .int .i64 n1, .int .i64 n2, .int .i64 n3]] w fun e w' => e = .returned (.int .u32 (joinV l (num4 n0 n1 n2 n3))) ∧ Below w.heap.size w w' := by
  rcases hV with ⟨rfl, rfl⟩ | ⟨b, cap, rfl, hcap, ⟨_, hb⟩, hrow⟩
  · go_enter Try.func25, Try.ntmps25
    go_wp2
    go_loopw [5, 10] (fun x i wr => x = .int .u32 0 ∧ i = .int .i64 0 ∧ wr = w.alloc (.cells #[.int .i64 n0, .int .i64 n1, .int .i64 n2, .int .i64 n3] 46)) (fun _ _ _ => 0)
    case atStart => exact ⟨rfl, rfl, rfl⟩
    case round =>
      obtain ⟨rfl, rfl, rfl⟩ := hrel
      go_wp2
      go_ret
      exact ⟨rfl, (Below.refl _ _).alloc (Nat.le_refl _) _⟩
  · have hn : ∀ j, j < 4 → (w.alloc (.cells #[.int .i64 n0, .int .i64 n1, .int .i64 n2, .int .i64 n3] 46)).cell? ⟨w.heap.size, j, none⟩ = some (.int .i64 (num4 n0 n1 n2 n3 j)) := fun j hj => by
      have : j = 0 ∨ j = 1 ∨ j = 2 ∨ j = 3 := by omega
      rcases this with rfl | rfl | rfl | rfl <;> exact new_cell _ _ _ _ _ _ rfl rfl
    have hg : ∀ j, InI (num4 n0 n1 n2 n3 j) := fun j => by
      unfold num4
      split
      · exact i0
      · split
        · exact i1
        · split
          · exact i2
          · exact i3
    have hw0 : Below w.heap.size w (w.alloc (.cells #[.int .i64 n0, .int .i64 n1, .int .i64 n2, .int .i64 n3] 46)) := (Below.refl _ _).alloc (Nat.le_refl _) _
    have hz0 : (w.alloc (.cells #[.int .i64 n0, .int .i64 n1, .int .i64 n2, .int .i64 n3] 46)).heap.size = w.heap.size + 1 := by simp
    obtain ⟨W0, hW⟩ : ∃ W0, W0 = w.alloc (.cells #[.int .i64 n0, .int .i64 n1, .int .i64 n2, .int .i64 n3] 46) := ⟨_, rfl⟩
    rw [← hW] at hn hw0 hz0
    have HW := Lib.hid hW
    obtain ⟨g, hgg⟩ : ∃ g, g = num4 n0 n1 n2 n3 := ⟨_, rfl⟩
    rw [← hgg] at hn hg ⊢
    have HN := Lib.hid hn
    have HG := Lib.hid hg
    have HROW := Lib.hid hrow
    have HGG := Lib.hid hgg
    have HZ := Lib.hid hz0
    have HB0 := Lib.hid hw0
    obtain ⟨len, hlen⟩ : ∃ len, len = l.length := ⟨_, rfl⟩
    have HL := Lib.hid hlen
    rw [← hlen] at hl hcap ⊢
    clear hn hg hrow hgg hW hz0 hw0 hlen i0 i1 i2 i3
    go_enter Try.func25, Try.ntmps25
    go_wp2
    rw [← HW.out]
    go_loopw [5, 10] (fun x i wr => ∃ k : Nat, k ≤ len ∧ i = .int .i64 k ∧ x = .int .u32 (joinV (l.take k) g) ∧ Hid (Below W0.heap.size W0 wr)) (fun _ i _ => len - (intOf i).toNat)
    case atStart => exact ⟨0, by omega, rfl, rfl, Lib.hid (Below.refl _ _)⟩
    case round =>
      obtain ⟨k, hk, rfl, rfl, hq⟩ := hrel
      by_cases hlt : k < len
      · obtain ⟨F, hF⟩ : ∃ F, F = l.getD k .zero := ⟨_, rfl⟩
        have hjo := joinV_one (l := l) (k := k) (by rw [← HL.out]; exact hlt) g
        obtain ⟨v1, v2, hfd, c0, c1, c2⟩ := HROW.out k (by rw [← HL.out]; exact hlt)
        rw [← hF] at hjo hfd c0
        have hbw : Below w.heap.size w wr := HB0.out.trans (hq.out.mono HB0.out.size)
        have d0 : wr.cell? ⟨b, k * 3, none⟩ = some (.int .i64 F.of) := (hbw.cell (p := ⟨b, _, none⟩) hb).trans c0
        have d1 : wr.cell? ⟨b, k * 3 + 1, none⟩ = some v1 := (hbw.cell (p := ⟨b, _, none⟩) hb).trans c1
        have d2 : wr.cell? ⟨b, k * 3 + 2, none⟩ = some v2 := (hbw.cell (p := ⟨b, _, none⟩) hb).trans c2
        have hof := hfd.ok.of
        have hof1 : (F.of : Int) < 4 := by omega
        have hnz : w.heap.size < W0.heap.size := by rw [HZ.out]; omega
        have dn : wr.cell? ⟨w.heap.size, F.of, none⟩ = some (.int .i64 (g F.of)) := (hq.out.cell (p := ⟨w.heap.size, F.of, none⟩) hnz).trans (HN.out F.of hof)
        have hgi := HG.out F.of
        have hjb := joinV_bd (l.take k) g
        have hpb := F.put_bd hfd.ok (g F.of)
        have hjb2 := joinV_bd (l.take (k + 1)) g
        have hsz : b < wr.heap.size := Nat.lt_of_lt_of_le hb hbw.size
        have hsz2 : w.heap.size < wr.heap.size := Nat.lt_of_lt_of_le hnz hq.out.size
        obtain ⟨G, hG⟩ : ∃ G, G = g F.of := ⟨_, rfl⟩
        obtain ⟨J, hJ⟩ : ∃ J, J = joinV (l.take k) g := ⟨_, rfl⟩
        obtain ⟨T, hT⟩ : ∃ T, T = F.put G := ⟨_, rfl⟩
        rw [← hG] at hjo dn hgi hpb
        rw [← hJ] at hjo hjb ⊢
        rw [← hT] at hjo hpb
        have HJO := Lib.hid hjo
        have HT := Lib.hid hT
        have HBW := Lib.hid hbw
        have HOK := Lib.hid hfd.ok
        have hhow := hfd.below hbw (Nat.le_refl _)
        clear hF hjo hG hJ hT hfd c0 c1 c2 hbw
        have hgi1 := hgi.1
        have hgi2 := hgi.2
        rcases hhow.how with ⟨h0, pf, pm, pa, l1, l2, l3, rfl, rfl, e1, e2, e3⟩ | ⟨h0, pf, pa, l1, l3, rfl, rfl, e1, e3⟩
        · have hc : ∀ n : Nat, Calls Try.prog 42 #[.int .i64 G, .pointer (some ⟨pf, 0, none⟩), .pointer (some ⟨pm, 0, none⟩), .pointer (some ⟨pa, 0, none⟩)] ((wr.alloc (.cells #[.int .i64 F.of, .func (.func 42) #[] #[.pointer (some ⟨pf, 0, none⟩), .pointer (some ⟨pm, 0, none⟩), .pointer (some ⟨pa, 0, none⟩)], .func (.func 43) #[] #[.pointer (some ⟨pa, 0, none⟩), .pointer (some ⟨pm, 0, none⟩), .pointer (some ⟨pf, 0, none⟩)]] 68)).drewN n)
              fun e w' => e = .returned (.int .u32 T) ∧ ∃ m, w' = ((wr.alloc (.cells #[.int .i64 F.of, .func (.func 42) #[] #[.pointer (some ⟨pf, 0, none⟩), .pointer (some ⟨pm, 0, none⟩), .pointer (some ⟨pa, 0, none⟩)], .func (.func 43) #[] #[.pointer (some ⟨pa, 0, none⟩), .pointer (some ⟨pm, 0, none⟩), .pointer (some ⟨pf, 0, none⟩)]] 68)).drewN n).drewN m :=
            fun n => by rw [HT.out]; exact part1_any F _ G pf pm pa HOK.out h0 hgi1 hgi2 (old_cell _ e1) (old_cell _ e2) (old_cell _ e3)
          have HC := Lib.hid hc
          clear hc e1 e2 e3 hgi l1 l2 l3 h0 hhow
          go_wp2
          go_quiet ((go_at_call 42; with_reducible exact Calls.quiet_of (HC.out _)))
          go_wp2
          go_roundw
          case rel => exact ⟨k + 1, by omega, by go_num, by rw [HJO.out], Lib.hid (below_drewN (hq.out.alloc hq.out.size _) _)⟩
          case measure => simp [intOf]; omega
        · have hc : ∀ n : Nat, Calls Try.prog 44 #[.int .i64 G, .pointer (some ⟨pf, 0, none⟩), .pointer (some ⟨pa, 0, none⟩)] ((wr.alloc (.cells #[.int .i64 F.of, .func (.func 44) #[] #[.pointer (some ⟨pf, 0, none⟩), .pointer (some ⟨pa, 0, none⟩)], .func (.func 45) #[] #[.pointer (some ⟨pa, 0, none⟩), .pointer (some ⟨pf, 0, none⟩)]] 68)).drewN n)
              fun e w' => e = .returned (.int .u32 T) ∧ ∃ m, w' = ((wr.alloc (.cells #[.int .i64 F.of, .func (.func 44) #[] #[.pointer (some ⟨pf, 0, none⟩), .pointer (some ⟨pa, 0, none⟩)], .func (.func 45) #[] #[.pointer (some ⟨pa, 0, none⟩), .pointer (some ⟨pf, 0, none⟩)]] 68)).drewN n).drewN m :=
            fun n => by rw [HT.out]; exact top1_any F _ G pf pa HOK.out h0 hgi1 hgi2 (old_cell _ e1) (old_cell _ e3)
          have HC := Lib.hid hc
          have H0 := Lib.hid h0
          clear hc e1 e3 hgi l1 l3 h0 hhow
          go_wp2
          go_quiet ((go_at_call 44; with_reducible exact Calls.quiet_of (HC.out _)))
          go_wp2
          go_roundw
          case rel => exact ⟨k + 1, by omega, by go_num, by rw [HJO.out], Lib.hid (below_drewN (hq.out.alloc hq.out.size _) _)⟩
          case measure => simp [intOf]; omega
      · obtain rfl : k = len := by omega
        have hlt2 : List.take k l = l := List.take_of_length_le (by rw [HL.out]; exact Nat.le_refl _)
        rw [hlt2]
        clear hlt2
        go_wp2
        go_ret
        exact ⟨rfl, HB0.out.trans (hq.out.mono HB0.out.size)⟩

end Go.Proofs.Ytcglfbjfllohjaa