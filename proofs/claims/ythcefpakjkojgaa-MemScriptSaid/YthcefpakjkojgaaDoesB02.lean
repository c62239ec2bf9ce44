/- Bytes told and laid by both memories, the program's and the document's own: they answer alike, and stay alike. Contracts for any act, in whatever memory of the program. -/
import Derived.Test.YthcefpakjkojgaaDoes02
namespace Go.Proofs.Ythcefpakjkojgaa
open Go.RowKit
set_option linter.unusedVariables false

theorem Lent.but {w w' : World} {g : Nat} {xs : List Int} {R : Nat → Prop} (h : Lent w g xs) (hb : But R w w') (hg : ¬ R g) : Lent w' g xs := by
  obtain ⟨cur, h1, h2⟩ := h
  exact ⟨cur, hb.heap h1 hg, h2⟩
theorem But.fresh {R : Nat → Prop} {a w w' : World} {g : Nat} (h : But R a w) (k : But (OneBlock g) w w') (hg : a.heap.size ≤ g) : But R a w' :=
  ⟨k.os.trans h.os, k.tape.trans h.tape, k.output.trans h.output, Nat.le_trans h.size k.size, fun i hi hr => (k.block i (Nat.lt_of_lt_of_le hi h.size) (oneBlock_not (show i ≠ g by omega))).trans (h.block i hi hr)⟩
theorem Lent.row {w : World} {g : Nat} {xs : List Int} (h : Lent w g xs) : ∃ c, Row 5 w g c (xs ++ [77, 201, 5]) := by
  obtain ⟨cur, h1, h2⟩ := h
  have hl : (xs ++ [77, 201, 5]).length = xs.length + 3 := by simp
  refine ⟨cur.size, cur, h1, rfl, by rw [hl]; exact h2, ?_⟩
  have := congrArg List.length h2
  simp at this
  rw [hl]
  omega
set_option maxHeartbeats 1000000 in
theorem over_row (g n c : Nat) (zs : List Int) (w : World) (C : Nat) (h : Row 5 w g C zs) (hz : zs.length = c) (hb : ∀ x ∈ zs, 0 ≤ x ∧ x < 256) (hn : n ≤ c) (hm : c ≤ 9223372036854775807) :
    Calls Try.prog 37 #[.slice (some ⟨g, 0, none⟩) n c] w fun e w' => e = .returned (.tuple #[]) ∧ But (OneBlock g) w w' := by
  have HR := Lib.hid h
  have HZ := Lib.hid hz
  have HB := Lib.hid hb
  clear h hz hb
  go_enter Try.func37, Try.ntmps37
  go_wp2
  go_loopw [3] (fun i wr => ∃ k : Nat, k ≤ c ∧ i = .int .i64 k ∧ Hid (∃ zs, Row 5 wr g C zs ∧ zs.length = c ∧ (∀ x ∈ zs, 0 ≤ x ∧ x < 256) ∧ But (OneBlock g) w wr)) (fun i _ => c - (intOf i).toNat)
  case atStart => exact ⟨0, by omega, rfl, zs, HR.out, HZ.out, HB.out, But.refl _ _⟩
  case round =>
    obtain ⟨k, hk, rfl, hq⟩ := hrel
    by_cases hlt : k < c
    · obtain ⟨zs', hr, hl, hbd, hbut⟩ := hq.out
      have hcell := hr.cell (i := k) (by omega)
      have hfro := hr.free k
      obtain ⟨y1, y2⟩ := getD_bd hbd (k := k) (by omega)
      obtain ⟨y, hy⟩ : ∃ y, y = zs'.getD k 0 := ⟨_, rfl⟩
      rw [← hy] at hcell y1 y2
      have HR2 := Lib.hid hr
      have HL2 := Lib.hid hl
      have HB2 := Lib.hid hbd
      have HBU := Lib.hid hbut
      clear hy hq hr hl hbd hbut
      go_wp2
      go_roundw
      case rel => exact ⟨k + 1, by omega, by go_num, zs'.set k ((y + 91) % 256), HR2.out.set (by rw [HL2.out]; exact hlt) _, by rw [List.length_set]; exact HL2.out, fun x hx => by
          rcases List.mem_or_eq_of_mem_set hx with h1 | h1
          · exact HB2.out x h1
          · subst h1; omega, HBU.out.setCell (p := ⟨g, k, none⟩) (Or.inl rfl) _⟩
      case measure => simp [intOf]; omega
    · obtain ⟨zs', hr, hl, hbd, hbut⟩ := hq.out
      have HBU := Lib.hid hbut
      clear hq hr hl hbd hbut
      go_wp2
      go_end0
      exact ⟨rfl, HBU.out⟩

set_option maxRecDepth 100000 in
set_option maxHeartbeats 4000000 in
theorem does_bytes (n a v : Int) (Y : Value) (mb bb c rm rb rc : Nat) (xs : List Int) (w : World) (h : Both w mb bb c rm rb rc xs) (hn' : n < 9223372036854775808) (ha : 0 ≤ a) (ha' : a < 18446744073709551616) :
    Calls Try.prog 16 #[.pointer (some ⟨mb, 0, none⟩), .pointer (some ⟨rm, 0, none⟩), .agg #[.int .i64 4, .int .i64 n, .int .u64 a, .int .u64 v, Y]] w (DoesDone w mb bb c rm rb rc xs.length) := by
  have b1 : But NoBlock w (w.alloc (.cells #[.int .i64 4, .int .i64 n, .int .u64 a, .int .u64 v, Y] 35)) := (But.refl NoBlock _).alloc _
  have h1 := h.quiet b1
  have hbd : ∀ x ∈ bytesL xs a n, 0 ≤ x ∧ x < 256 := by
    unfold bytesL
    split
    · exact partL_bd h.m.bd a n
    · simp
  have hc := bytes_any h1.m a n ha ha' hn'
  have hr : ∀ w1, RefAt w1 rm rb rc xs → Calls Try.prog 36 #[.pointer (some ⟨rm, 0, none⟩), .int .u64 a, .int .i64 n] w1 (BytesDone w1 (bytesL xs a n) (accE xs.length a n)) := fun w1 k => rbytes_any k a n ha ha' hn'
  obtain ⟨E, hE⟩ : ∃ E, E = accE xs.length a n := ⟨_, rfl⟩
  obtain ⟨XS, hX⟩ : ∃ XS, XS = bytesL xs a n := ⟨_, rfl⟩
  rw [← hE, ← hX] at hc hr
  rw [← hX] at hbd
  have HC1 := Lib.hid hc
  have HC2 := Lib.hid hr
  have H1 := Lib.hid h1
  have HB1 := Lib.hid b1
  have HBD := Lib.hid hbd
  have c2 : (w.alloc (.cells #[.int .i64 4, .int .i64 n, .int .u64 a, .int .u64 v, Y] 35)).cell? ⟨w.heap.size, 2, none⟩ = some (.int .u64 a) := by simp [go_sem]
  have c1 : (w.alloc (.cells #[.int .i64 4, .int .i64 n, .int .u64 a, .int .u64 v, Y] 35)).cell? ⟨w.heap.size, 1, none⟩ = some (.int .i64 n) := by simp [go_sem]
  have C1 := Lib.hid c1
  have C2 := Lib.hid c2
  clear hc hr h1 b1 hE hX hbd h c1 c2
  go_enter Try.func16, Try.ntmps16
  go_wp2_with (first
    | (go_at_call 19; (with_reducible refine HC1.out.mono ?_); rintro e w1 ⟨v1, rfl, ho1, hb1⟩; have O1 := Lib.hid ho1; have B1 := Lib.hid hb1; have H2 := Lib.hid (H1.out.below hb1); have d1 : w1.cell? ⟨w.heap.size, 1, none⟩ = some (.int .i64 n) := (hb1.cell (p := ⟨w.heap.size, 1, none⟩) (by simp)).trans C1.out; have d2 : w1.cell? ⟨w.heap.size, 2, none⟩ = some (.int .u64 a) := (hb1.cell (p := ⟨w.heap.size, 2, none⟩) (by simp)).trans C2.out; clear ho1 hb1)
    | (go_at_call 36; (with_reducible refine (HC2.out _ H2.out.r).mono ?_); rintro e w2 ⟨v2, rfl, ho2, hb2⟩; have B2 := Lib.hid hb2; have O12 := Lib.hid (O1.out.below hb2 (Nat.le_refl _)); have HS := Lib.hid (sameBytes_yes v1 v2 XS w2 _ _ (IsBytes.of_owns O12.out HBD.out (Nat.le_refl _)) (IsBytes.of_owns ho2 HBD.out (Nat.le_refl _))); have H3 := Lib.hid (H2.out.below hb2); have HO := Lib.hid (over_any v1 _ _ _ w2 O12.out); clear ho2 hb2)
    | (go_at_call 22; (with_reducible refine HS.out.mono ?_); rintro e w' ⟨rfl, rfl⟩)
    | (go_at_call 37; (with_reducible refine HO.out.mono ?_); rintro e w4 ⟨rfl, hb4⟩; have B4 := Lib.hid hb4; clear hb4))
  go_ret
  have q1 := B1.out.size
  have q2 := B2.out.size
  have hbe : Below (w.alloc (.cells #[.int .i64 4, .int .i64 n, .int .u64 a, .int .u64 v, Y] 35)).heap.size (w.alloc (.cells #[.int .i64 4, .int .i64 n, .int .u64 a, .int .u64 v, Y] 35)) w4 := (B1.out.trans (B2.out.mono (by omega))).trans B4.out
  exact ⟨rfl, xs, rfl, H1.out.below hbe, HB1.out.none.trans (But.of_below hbe)⟩

set_option maxRecDepth 100000 in
set_option maxHeartbeats 8000000 in
theorem does_lay (n a v : Int) (Y : Value) (ys : List Int) (mb bb c rm rb rc B : Nat) (xs : List Int) (w : World) (h : Both w mb bb c rm rb rc xs) (ha : 0 ≤ a) (ha' : a < 18446744073709551616) (hY : IsBytes w B Y ys) (hB : B ≤ w.heap.size) (hBb : B ≤ bb) (hBr : B ≤ rb) (h200 : ys.length ≤ 200) :
    Calls Try.prog 16 #[.pointer (some ⟨mb, 0, none⟩), .pointer (some ⟨rm, 0, none⟩), .agg #[.int .i64 5, .int .i64 n, .int .u64 a, .int .u64 v, Y]] w (DoesDone w mb bb c rm rb rc xs.length) := by
  have lt := h.lt
  obtain ⟨lt1, lt2, lt3, lt4⟩ := lt
  have b1 : But NoBlock w (w.alloc (.cells #[.int .i64 5, .int .i64 n, .int .u64 a, .int .u64 v, Y] 35)) := (But.refl NoBlock _).alloc _
  have h1 := h.quiet b1
  have hY1 := hY.but b1 hB (fun _ _ => noBlock_not _)
  have hle := lent_any Y ys _ (hY1.more (by simp; omega)) (by omega)
  have c2 : (w.alloc (.cells #[.int .i64 5, .int .i64 n, .int .u64 a, .int .u64 v, Y] 35)).cell? ⟨w.heap.size, 2, none⟩ = some (.int .u64 a) := by simp [go_sem]
  have c4 : (w.alloc (.cells #[.int .i64 5, .int .i64 n, .int .u64 a, .int .u64 v, Y] 35)).cell? ⟨w.heap.size, 4, none⟩ = some Y := by simp [go_sem]
  have C2 := Lib.hid c2
  have C4 := Lib.hid c4
  have HL := Lib.hid hle
  have H1 := Lib.hid h1
  have HB1 := Lib.hid b1
  have HY1 := Lib.hid hY1
  have hcs : ∀ w1, MemAt w1 mb bb c xs → ∀ X C, IsBytes w1 C X ys → Calls Try.prog 20 #[.pointer (some ⟨mb, 0, none⟩), .int .u64 a, X] w1 (StoreDone w1 mb bb c (layB xs a ys) (accE xs.length a ys.length)) := fun w1 k X C hX => lay_any k a hX ha ha'
  have hrs : ∀ w1, RefAt w1 rm rb rc xs → B ≤ w1.heap.size → IsBytes w1 B Y ys → Calls Try.prog 39 #[.pointer (some ⟨rm, 0, none⟩), .int .u64 a, Y] w1 (RStoreDone w1 rm rb rc (layB xs a ys) (accE xs.length a ys.length)) := fun w1 k hb hX => rlay_any k a hX hb hBr ha ha'
  have hlen : (layB xs a ys).length = xs.length := layB_len' _ _ _
  obtain ⟨E, hE⟩ : ∃ E, E = accE xs.length a ys.length := ⟨_, rfl⟩
  obtain ⟨XS, hX⟩ : ∃ XS, XS = layB xs a ys := ⟨_, rfl⟩
  rw [← hX] at hlen
  simp only [← hE, ← hX] at hcs hrs
  have HCS := Lib.hid hcs
  have HRS := Lib.hid hrs
  have HLEN := Lib.hid hlen
  have HNE := Lib.hid h.ne
  clear hle c2 c4 h1 b1 hY1 hcs hrs hE hX hlen hY h
  go_enter Try.func16, Try.ntmps16
  go_wp2_with (go_at_call 38; (with_reducible refine HL.out.mono ?_); rintro e w1 ⟨g, rfl, hg, hln, hb1⟩; have LN1 := Lib.hid hln; have B1 := Lib.hid hb1; have H2 := Lib.hid (H1.out.below hb1); clear hln hb1)
  have sz1 : w.heap.size + 1 ≤ g := by simpa using hg
  have s1 : w.heap.size + 1 ≤ w1.heap.size := by have := B1.out.size; simpa using this
  have e2 : w1.cell? ⟨w.heap.size, 2, none⟩ = some (.int .u64 a) := (B1.out.cell (p := ⟨w.heap.size, 2, none⟩) (by simp)).trans C2.out
  have e4 : w1.cell? ⟨w.heap.size, 4, none⟩ = some Y := (B1.out.cell (p := ⟨w.heap.size, 4, none⟩) (by simp)).trans C4.out
  have hYw1 : IsBytes w1 B Y ys := HY1.out.below B1.out (by simp; omega)
  have hm1 : MemAt w1.drew mb bb c xs := (H2.out.quiet ((But.refl NoBlock _).drew)).m
  have hin : IsBytes w1.drew w1.heap.size (.slice (some ⟨g, 0, none⟩) ys.length (ys.length + 3)) ys := LN1.out.bytes hYw1.1 (by unfold maxLen; omega) LN1.out.lt (by omega)
  have HC1 := Lib.hid (HCS.out _ hm1 _ _ hin)
  have HYW := Lib.hid hYw1
  have E2 := Lib.hid e2
  have E4 := Lib.hid e4
  clear hYw1 hm1 hin hg
  go_region_held3 (fun w' => w'.cell? ⟨w.heap.size, 2, none⟩ = some (.int .u64 a) ∧ w'.cell? ⟨w.heap.size, 4, none⟩ = some Y) (first | go_keep | exact HK4.out | exact HK3.out | exact HK2.out)
    (first
      | (go_at_call 20; (with_reducible refine HC1.out.mono ?_); rintro e w2 ⟨rfl, hm2, hb2⟩; have HM2 := Lib.hid hm2; have BM := Lib.hid (hb2.of_drew); have s2 := BM.out.size; have HR2 := Lib.hid (H2.out.ref BM.out); have HYW2 := Lib.hid (HYW.out.but BM.out (by omega) (fun q hq => oneBlock_not (show q ≠ bb by omega))); have HC2 := Lib.hid (HRS.out _ HR2.out (by omega) HYW2.out); have HK2 := Lib.hid (⟨(BM.out.cell (p := ⟨w.heap.size, 2, none⟩) (show w.heap.size < _ by omega) (oneBlock_not (show w.heap.size ≠ bb by omega))).trans E2.out, (BM.out.cell (p := ⟨w.heap.size, 4, none⟩) (show w.heap.size < _ by omega) (oneBlock_not (show w.heap.size ≠ bb by omega))).trans E4.out⟩ : w2.cell? ⟨w.heap.size, 2, none⟩ = some (.int .u64 a) ∧ w2.cell? ⟨w.heap.size, 4, none⟩ = some Y); clear hm2 hb2)
      | (go_at_call 39; (with_reducible refine HC2.out.mono ?_); rintro e w3 ⟨rfl, hm3, hb3⟩; have HM3 := Lib.hid hm3; have BR := Lib.hid hb3; have s3 := hb3.size; have LN3 := Lib.hid ((LN1.out.but BM.out (oneBlock_not (show g ≠ bb by omega))).but hb3 (oneBlock_not (show g ≠ rb by omega))); have HYW3 := Lib.hid (HYW2.out.but hb3 (by omega) (fun q hq => oneBlock_not (show q ≠ rb by omega))); have HC3 := Lib.hid (kept_yes Y ys g w3 w3.heap.size LN3.out (HYW3.out.more (by omega)) (by omega)); have HK3 := Lib.hid (⟨(hb3.cell (p := ⟨w.heap.size, 2, none⟩) (show w.heap.size < _ by omega) (oneBlock_not (show w.heap.size ≠ rb by omega))).trans HK2.out.1, (hb3.cell (p := ⟨w.heap.size, 4, none⟩) (show w.heap.size < _ by omega) (oneBlock_not (show w.heap.size ≠ rb by omega))).trans HK2.out.2⟩ : w3.cell? ⟨w.heap.size, 2, none⟩ = some (.int .u64 a) ∧ w3.cell? ⟨w.heap.size, 4, none⟩ = some Y); clear hm3 hb3)
      | (go_at_call 40; (with_reducible refine HC3.out.mono ?_); rintro e w4 ⟨rfl, hb4⟩; have B4 := Lib.hid hb4; have s4 := hb4.size; have HK4 := Lib.hid (⟨(hb4.cell (p := ⟨w.heap.size, 2, none⟩) (show w.heap.size < _ by omega)).trans HK3.out.1, (hb4.cell (p := ⟨w.heap.size, 4, none⟩) (show w.heap.size < _ by omega)).trans HK3.out.2⟩ : w4.cell? ⟨w.heap.size, 2, none⟩ = some (.int .u64 a) ∧ w4.cell? ⟨w.heap.size, 4, none⟩ = some Y); clear hb4))
  have hln4 := LN3.out.below B4.out LN3.out.lt
  obtain ⟨C, hrow⟩ := hln4.row
  have HO := Lib.hid (over_row g ys.length (ys.length + 3) _ w4 C hrow (by simp) (by
    intro x hx
    rcases List.mem_append.1 hx with h | h
    · exact HY1.out.1 x h
    · simp at h; omega) (by omega) (by omega))
  clear hln4 hrow
  go_wp2_with (go_at_call 37; (with_reducible refine HO.out.mono ?_); rintro e w5 ⟨rfl, hb5⟩; have B5 := Lib.hid hb5; clear hb5)
  go_ret
  have hs := H2.out.store HM2.out BM.out HM3.out BR.out
  have hb4 := hs.1.below B4.out
  have hb5 := hb4.but B5.out (oneBlock_not (show mb ≠ g by omega)) (oneBlock_not (show bb ≠ g by omega)) (oneBlock_not (show rm ≠ g by omega)) (oneBlock_not (show rb ≠ g by omega))
  have f1 : But (TwoBlocks bb rb) w w1 := HB1.out.none.trans (But.of_below B1.out)
  exact ⟨rfl, XS, HLEN.out, hb5, ((f1.trans hs.2).trans (But.of_below B4.out)).fresh B5.out (by omega)⟩
theorem does_any (A : ActV) (mb bb c rm rb rc B : Nat) (xs : List Int) (w : World) (h : Both w mb bb c rm rb rc xs) (hA : A.ok w B) (hB : B ≤ w.heap.size) (hBb : B ≤ bb) (hBr : B ≤ rb) (h200 : A.bs.length ≤ 200) :
    Calls Try.prog 16 #[.pointer (some ⟨mb, 0, none⟩), .pointer (some ⟨rm, 0, none⟩), .agg #[.int .i64 A.kind, .int .i64 A.n, .int .u64 A.at', .int .u64 A.v, A.b]] w (DoesDone w mb bb c rm rb rc xs.length) := by
  obtain ⟨k, n, a, v, Y, ys⟩ := A
  obtain ⟨hk, hn, ha, hv, hY⟩ := hA
  simp only at hk hn ha hv hY h200 ⊢
  by_cases h0 : k = 0
  · subst h0
    exact does_load0 n a v Y mb bb c rm rb rc xs w h hn.2 ha.1 ha.2
  by_cases h1 : k = 1
  · subst h1
    exact does_load1 n a v Y mb bb c rm rb rc xs w h hn.2 ha.1 ha.2
  by_cases h2 : k = 2
  · subst h2
    exact does_store2 n a v Y mb bb c rm rb rc xs w h hn.2 ha.1 ha.2 hv.1 hv.2
  by_cases h3 : k = 3
  · subst h3
    exact does_store3 n a v Y mb bb c rm rb rc xs w h hn.2 ha.1 ha.2 hv.1 hv.2
  by_cases h4 : k = 4
  · subst h4
    exact does_bytes n a v Y mb bb c rm rb rc xs w h hn.2 ha.1 ha.2
  by_cases h5 : k = 5
  · subst h5
    exact does_lay n a v Y ys mb bb c rm rb rc B xs w h ha.1 ha.2 hY hB hBb hBr h200
  exact does_other k n a v Y mb bb c rm rb rc xs w h (by omega)
end Go.Proofs.Ythcefpakjkojgaa
