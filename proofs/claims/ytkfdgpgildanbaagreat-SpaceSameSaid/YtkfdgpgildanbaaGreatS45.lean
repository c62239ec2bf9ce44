import Derived.Test.YtkfdgpgildanbaaGreatS44
import Derived.Test.YtkfdgpgildanbaaGreatS41
import Derived.Test.YtkfdgpgildanbaaGreatS43
import Derived.Test.YtkfdgpgildanbaaGreatS05
namespace Go.Proofs.YtkfdgpgildanbaaGreat
open Go.RowKit
set_option linter.unusedVariables false
set_option linter.unusedSimpArgs false
def byteB14 (n : Int) : Bool := decide (0 ≤ n ∧ n ≤ 255)
theorem isByte14 (n : Int) (w : World) : Calls Tryz.prog 177 #[.int .i64 n] w fun e w' => e = .returned (.bool (byteB14 n)) ∧ w = w' := by
  by_cases h0 : 0 ≤ n
  · by_cases h1 : n ≤ 255
    · have HQ : Hid (byteB14 n = true) := Lib.hid (decide_eq_true ⟨h0, h1⟩)
      go_enter Tryz.func177, Tryz.ntmps177
      go_wp2
      go_ret
      exact ⟨by rw [HQ.out]; first | done | rfl, rfl⟩
    · have HQ : Hid (byteB14 n = false) := Lib.hid (decide_eq_false (fun h => h1 h.2))
      go_enter Tryz.func177, Tryz.ntmps177
      go_wp2
      go_ret
      exact ⟨by rw [HQ.out]; first | done | rfl, rfl⟩
  · have HQ : Hid (byteB14 n = false) := Lib.hid (decide_eq_false (fun h => h0 h.1))
    go_enter Tryz.func177, Tryz.ntmps177
    go_wp2
    go_ret
    exact ⟨by rw [HQ.out]; first | done | rfl, rfl⟩
theorem below_one14 (w : World) (o : Obj) : Below w.heap.size w (w.alloc o) := (Below.refl _ _).alloc (Nat.le_refl _) _
theorem gotByte14 (k b : Int) (w : World) : Calls Tryz.prog 180 #[.agg #[.int .i64 k, .int .i64 b]] w (Makes w (.bool (gotB (k, b)))) := by
  have HB := Lib.hid (fun W => isByte14 b W)
  by_cases hk : k = 1
  · subst hk
    have HQ : Hid (byteB14 b = gotB (1, b)) := Lib.hid (by simp [gotB, byteB14])
    go_enter Tryz.func180, Tryz.ntmps180
    go_wp2_with (go_at_call 177; (with_reducible refine (HB.out _).mono ?_); rintro e w' ⟨rfl, rfl⟩)
    go_ret
    exact ⟨by rw [HQ.out]; first | done | rfl, below_one14 _ _⟩
  · have HQ : Hid (gotB (k, b) = false) := Lib.hid (by simp [gotB, hk])
    have hk2 : (k == 1) = false := by simpa using hk
    go_enter Tryz.func180, Tryz.ntmps180
    go_wp2
    go_ret
    exact ⟨by rw [HQ.out]; first | done | rfl, below_one14 _ _⟩
theorem putByte14 (k b : Int) (w : World) : Calls Tryz.prog 201 #[.agg #[.int .i64 k, .int .i64 b]] w (Makes w (.bool (putB (k, b)))) := by
  have HB := Lib.hid (fun W => isByte14 b W)
  by_cases hk : k = 2
  · subst hk
    have HQ : Hid (byteB14 b = putB (2, b)) := Lib.hid (by simp [putB, byteB14])
    go_enter Tryz.func201, Tryz.ntmps201
    go_wp2_with (go_at_call 177; (with_reducible refine (HB.out _).mono ?_); rintro e w' ⟨rfl, rfl⟩)
    go_ret
    exact ⟨by rw [HQ.out]; first | done | rfl, below_one14 _ _⟩
  · have HQ : Hid (putB (k, b) = false) := Lib.hid (by simp [putB, hk])
    have hk2 : (k == 2) = false := by simpa using hk
    go_enter Tryz.func201, Tryz.ntmps201
    go_wp2
    go_ret
    exact ⟨by rw [HQ.out]; first | done | rfl, below_one14 _ _⟩
theorem gotNothing14 (k b : Int) (w : World) : Calls Tryz.prog 181 #[.agg #[.int .i64 k, .int .i64 b]] w (Makes w (.bool (gotN (k, b)))) := by
  by_cases hk : k = 1
  · subst hk
    obtain ⟨q, hq⟩ : ∃ q, q = (b == -1) := ⟨_, rfl⟩
    have HQ : Hid (q = gotN (1, b)) := Lib.hid (by simp [gotN, hq])
    rw [← HQ.out]
    by_cases hb : b = -1
    · subst hb
      obtain rfl : q = true := hq
      go_enter Tryz.func181, Tryz.ntmps181
      go_wp2
      go_ret
      exact ⟨rfl, below_one14 _ _⟩
    · have hb2 : (b == -1) = false := by simpa using hb
      obtain rfl : q = false := hq.trans hb2
      clear hq
      go_enter Tryz.func181, Tryz.ntmps181
      go_wp2
      go_ret
      exact ⟨rfl, below_one14 _ _⟩
  · have HQ : Hid (gotN (k, b) = false) := Lib.hid (by simp [gotN, hk])
    have hk2 : (k == 1) = false := by simpa using hk
    go_enter Tryz.func181, Tryz.ntmps181
    go_wp2
    go_ret
    exact ⟨by rw [HQ.out]; first | done | rfl, below_one14 _ _⟩
set_option maxRecDepth 100000 in
theorem deedValid14 (k b : Int) (w : World) : Calls Tryz.prog 179 #[.agg #[.int .i64 k, .int .i64 b]] w (Makes w (.bool (okD (k, b)))) := by
  obtain ⟨g1, hg1⟩ : ∃ g1, g1 = gotB (k, b) := ⟨_, rfl⟩
  obtain ⟨g2, hg2⟩ : ∃ g2, g2 = gotN (k, b) := ⟨_, rfl⟩
  obtain ⟨g3, hg3⟩ : ∃ g3, g3 = putB (k, b) := ⟨_, rfl⟩
  have HQ : Hid (okD (k, b) = (g1 || g2 || g3)) := Lib.hid (by rw [hg1, hg2, hg3]; rfl)
  have H1 := Lib.hid (fun W => gotByte14 k b W)
  have H2 := Lib.hid (fun W => gotNothing14 k b W)
  have H3 := Lib.hid (fun W => putByte14 k b W)
  rw [← hg1] at H1
  rw [← hg2] at H2
  rw [← hg3] at H3
  rw [HQ.out]
  have HX : Hid (∀ W, Below (w.alloc (.cells #[.int .i64 k, .int .i64 b] 209)).heap.size (w.alloc (.cells #[.int .i64 k, .int .i64 b] 209)) W → W.cell? ⟨w.heap.size, 0, none⟩ = some (.int .i64 k) ∧ W.cell? ⟨w.heap.size, 1, none⟩ = some (.int .i64 b)) := Lib.hid (fun W hb => cells2_14 (box_below14 (heap_alloc_new w _) hb))
  have HW := Lib.hid (below_one14 w (.cells #[.int .i64 k, .int .i64 b] 209))
  obtain ⟨x0, x1⟩ := HX.out _ (Below.refl _ _)
  clear hg1 hg2 hg3
  cases g1
  · cases g2
    · go_enter Tryz.func179, Tryz.ntmps179
      go_wp2_with (first
        | (go_at_call 180; (with_reducible refine (H1.out _).mono ?_); rintro e w1 ⟨rfl, hb⟩; have HB1 := Lib.hid hb; obtain ⟨y0, y1⟩ := HX.out _ hb; clear hb)
        | (go_at_call 181; (with_reducible refine (H2.out _).mono ?_); rintro e w2 ⟨rfl, hb⟩; have HB2 := Lib.hid (HB1.out.trans (hb.mono HB1.out.size)); obtain ⟨z0, z1⟩ := HX.out _ HB2.out; clear hb)
        | (go_at_call 201; (with_reducible refine (H3.out _).mono ?_); rintro e w3 ⟨rfl, hb⟩; have HB3 := Lib.hid (HB2.out.trans (hb.mono HB2.out.size)); clear hb))
      go_ret
      exact ⟨rfl, HW.out.trans (HB3.out.mono HW.out.size)⟩
    · go_enter Tryz.func179, Tryz.ntmps179
      go_wp2_with (first
        | (go_at_call 180; (with_reducible refine (H1.out _).mono ?_); rintro e w1 ⟨rfl, hb⟩; have HB1 := Lib.hid hb; obtain ⟨y0, y1⟩ := HX.out _ hb; clear hb)
        | (go_at_call 181; (with_reducible refine (H2.out _).mono ?_); rintro e w2 ⟨rfl, hb⟩; have HB2 := Lib.hid (HB1.out.trans (hb.mono HB1.out.size)); obtain ⟨z0, z1⟩ := HX.out _ HB2.out; clear hb))
      go_ret
      exact ⟨rfl, HW.out.trans (HB2.out.mono HW.out.size)⟩
  · go_enter Tryz.func179, Tryz.ntmps179
    go_wp2_with (go_at_call 180; (with_reducible refine (H1.out _).mono ?_); rintro e w1 ⟨rfl, hb⟩; have HB1 := Lib.hid hb; obtain ⟨y0, y1⟩ := HX.out _ hb; clear hb)
    go_ret
    exact ⟨rfl, HW.out.trans (HB1.out.mono HW.out.size)⟩
theorem endingValid14 (k c : Int) (w : World) : Calls Tryz.prog 147 #[.agg #[.int .i64 k, .int .i64 c]] w (Makes w (.bool (okE k c))) := by
  have HB := Lib.hid (fun W => isByte14 c W)
  obtain ⟨x0, x1⟩ := cells2_14 (heap_alloc_new w (.cells #[.int .i64 k, .int .i64 c] 193))
  by_cases h1 : k = 1
  · subst h1
    have HQ : Hid (byteB14 c = okE 1 c) := Lib.hid (by simp [okE, byteB14])
    go_enter Tryz.func147, Tryz.ntmps147
    go_wp2_with (go_at_call 177; (with_reducible refine (HB.out _).mono ?_); rintro e w' ⟨rfl, rfl⟩)
    go_ret
    exact ⟨by rw [HQ.out]; first | done | rfl, below_one14 _ _⟩
  · have e1 : (k == 1) = false := by simpa using h1
    by_cases h2 : k = 2
    · subst h2
      by_cases hc : c = 1
      · subst hc
        go_enter Tryz.func147, Tryz.ntmps147
        go_wp2
        go_ret
        exact ⟨rfl, below_one14 _ _⟩
      · have e2 : (c == 1) = false := by simpa using hc
        obtain ⟨q, hq⟩ : ∃ q, q = (c == 2) := ⟨_, rfl⟩
        have HQ : Hid (okE 2 c = q) := Lib.hid (by rw [hq]; simp [okE, e2])
        have hq2 := hq.symm
        clear hq hc
        go_enter Tryz.func147, Tryz.ntmps147
        go_wp2
        go_ret
        exact ⟨by rw [HQ.out]; first | done | rfl, below_one14 _ _⟩
    · have e2 : (k == 2) = false := by simpa using h2
      obtain ⟨q, hq⟩ : ∃ q, q = (c == 0) := ⟨_, rfl⟩
      have hq2 := hq.symm
      by_cases h3 : k = 3
      · subst h3
        have HQ : Hid (okE 3 c = q) := Lib.hid (by rw [hq]; simp [okE])
        clear hq h1 h2
        go_enter Tryz.func147, Tryz.ntmps147
        go_wp2
        go_ret
        exact ⟨by rw [HQ.out]; first | done | rfl, below_one14 _ _⟩
      · have e3 : (k == 3) = false := by simpa using h3
        by_cases h4 : k = 4
        · subst h4
          have HQ : Hid (okE 4 c = q) := Lib.hid (by rw [hq]; simp [okE])
          clear hq h1 h2 h3
          go_enter Tryz.func147, Tryz.ntmps147
          go_wp2
          go_ret
          exact ⟨by rw [HQ.out]; first | done | rfl, below_one14 _ _⟩
        · have e4 : (k == 4) = false := by simpa using h4
          have HQ : Hid (okE k c = false) := Lib.hid (by simp [okE, h1, h2, h3, h4])
          clear hq hq2 h1 h2 h3 h4
          go_enter Tryz.func147, Tryz.ntmps147
          go_wp2
          go_ret
          exact ⟨by rw [HQ.out]; first | done | rfl, below_one14 _ _⟩
end Go.Proofs.YtkfdgpgildanbaaGreat
namespace Go.Proofs.YtkfdgpgildanbaaGreat
open Go.RowKit
set_option linter.unusedVariables false
set_option linter.unusedSimpArgs false
theorem all14 (V : Value) (A : Option Addr) (n c : Nat) (hV : V = .slice A n c) (w : World) : Calls Tryz.prog 178 #[V] w fun e w' =>
    e = .returned (.func (.func 200) #[] #[.pointer (some ⟨w.heap.size, 0, none⟩)]) ∧ w.alloc (.cells #[V] 177) = w' := by
  subst hV
  go_enter Tryz.func178, Tryz.ntmps178
  go_wp2
  go_ret
  simp
def Mv14 (A B : World) : Prop := ∃ c t, B = A.alloc (.cells c t)
def Kp14 (g b : Nat) (A B : World) : Prop := (g < b → g < A.heap.size → B.heap[g]? = A.heap[g]?) ∧ A.heap.size ≤ B.heap.size
theorem Kp14.trans {g b : Nat} {A B C : World} (h : Kp14 g b A B) (k : Kp14 g b B C) : Kp14 g b A C := ⟨fun e e2 => (k.1 e (Nat.lt_of_lt_of_le e2 h.2)).trans (h.1 e e2), Nat.le_trans h.2 k.2⟩
theorem Mv14.kp {g b : Nat} {A B : World} (h : Mv14 A B) : Kp14 g b A B := by
  obtain ⟨c, t, rfl⟩ := h
  exact ⟨fun _ e => Below.heap_alloc _ _ _ e, by simp⟩
theorem Mv14.book {A B : World} {k : Nat} {o : Obj} (h : Mv14 A B) (hk : A.heap[k]? = some o) : B.heap[k]? = some o := by
  obtain ⟨c, t, rfl⟩ := h
  exact (Below.heap_alloc _ _ _ (heap_lt hk)).trans hk
theorem Mv14.below {A B : World} (h : Mv14 A B) : Below A.heap.size A B := by
  obtain ⟨c, t, rfl⟩ := h
  exact (Below.refl _ _).alloc (Nat.le_refl _) _
theorem kp_put14 {g b c : Nat} (hb : b ≤ c) (A : World) (l : Nat) (o' : Obj) (hl : c ≤ l) : Kp14 g b A (A.putObj l o') := ⟨fun e _ => World.putObj_heap_other (by omega), by simp [World.putObj]⟩
structure DAt (g off b : Nat) (A : Option Addr) (L : List (Int × Int)) (W : World) : Prop where
  at' : 0 < L.length → A = some ⟨g, off, none⟩ ∧ g < b
  le : b ≤ W.heap.size
  cells : ∀ i, i < L.length → W.cell? ⟨g, off + i * 2, none⟩ = some (.int .i64 (L.getD i (0, 0)).1) ∧ W.cell? ⟨g, off + i * 2 + 1, none⟩ = some (.int .i64 (L.getD i (0, 0)).2)
theorem DAt.kp {g off b : Nat} {A : Option Addr} {L : List (Int × Int)} {W W' : World} (h : DAt g off b A L W) (k : Kp14 g b W W') : DAt g off b A L W' :=
  ⟨h.at', Nat.le_trans h.le k.2, fun i hi => by
    have hg := (h.at' (by omega)).2
    rw [World.cell?_of_block (w := W) (a := ⟨g, off + i * 2, none⟩) (k.1 hg (Nat.lt_of_lt_of_le hg h.le)), World.cell?_of_block (w := W) (a := ⟨g, off + i * 2 + 1, none⟩) (k.1 hg (Nat.lt_of_lt_of_le hg h.le))]
    exact h.cells i hi⟩
theorem kp_alloc14 {g b : Nat} {W : World} (hb : b ≤ W.heap.size) (o : Obj) : Kp14 g b W (W.alloc o) := ⟨fun e _ => Below.heap_alloc _ _ _ (by omega), by simp⟩
theorem DAt.alloc {g off b : Nat} {A : Option Addr} {L : List (Int × Int)} {W : World} (h : DAt g off b A L W) (o : Obj) : DAt g off b A L (W.alloc o) := h.kp (kp_alloc14 h.le o)
theorem IsDeeds.dat {w : World} {B : Nat} {V : Value} {L : List (Int × Int)} (h : IsDeeds w B V L) (hB : B ≤ w.heap.size) : ∃ g off A cap, V = .slice A L.length cap ∧ L.length ≤ cap ∧ DAt g off B A L w := by
  by_cases hn : 0 < L.length
  · obtain ⟨b, off, cap, h1, h2, h3, h4⟩ := h.plain hn
    exact ⟨b, off, _, cap, h1, h2, fun _ => ⟨rfl, h3⟩, hB, h4⟩
  · obtain ⟨A, cap, h1, h2⟩ := h.len
    exact ⟨0, 0, A, cap, h1, h2, fun h => absurd h hn, hB, fun i hi => absurd hi (by omega)⟩
set_option maxRecDepth 100000 in
set_option maxHeartbeats 4000000 in
theorem all14_moves (n : Nat) (hn : 3 ≤ n) (vb g off cap b : Nat) (A : Option Addr) (L : List (Int × Int)) (hc : L.length ≤ cap) (hl : L.length ≤ maxLen) (W : World) (hv : W.heap[vb]? = some (.cells #[.slice A L.length cap] 177 (0, 0))) (hD : DAt g off b A L W) :
    SeqMoves Fence.wide n Tryz.prog 200 #[.pointer (some ⟨vb, 0, none⟩)] (fun d : Int × Int => #[.agg #[.int .i64 d.1, .int .i64 d.2]]) Mv14 (Kp14 g b) (fun l => l = L) (fun l => ∃ t, L = l ++ t) W := by
  intro l J X hJ hX hY h0
  have h1 : 1 ≤ n := by omega
  have v0 := cells1_14 hv
  unfold maxLen at hl
  have HD := Lib.hid hD
  obtain ⟨m, hm⟩ : ∃ m, m = L.length := ⟨_, rfl⟩
  have HM := Lib.hid hm
  have H0 := Lib.hid h0
  rw [← hm] at v0 hl hc
  clear hm hv hD h0
  refine callsIn_of_wp Tryz.func200 rfl trivial ?_ rfl
  simp only [Tryz.ntmps200, List.size_toArray, List.length_cons, List.length_nil, Nat.reduceAdd, Nat.reduceSub, Array.replicate_succ, Array.replicate_zero, List.push_toArray, List.append_toArray, List.nil_append, List.cons_append]
  gi_wp2
  gi_loopw [4, 7] (fun _ v7 wr => ∃ i : Nat, v7 = .int .i64 i ∧ i ≤ m ∧ Hid (J (L.take i) wr ∧ DAt g off b A L wr)) (fun _ v7 _ => m - (intOf v7).toNat)
  case atStart => exact ⟨0, rfl, by omega, Lib.hid ⟨H0.out, HD.out⟩⟩
  case round =>
    obtain ⟨i, rfl, hib, HR⟩ := hrel
    by_cases hi : i < m
    · have hiL : (i : Int) < (m : Int) := by omega
      have hi0 : (0 : Int) ≤ (i : Int) := by omega
      have hlt : i < L.length := by rw [← HM.out]; exact hi
      obtain ⟨hA, hg⟩ := HR.out.2.at' (by omega)
      subst hA
      obtain ⟨c0, c1⟩ := HR.out.2.cells i hlt
      obtain ⟨⟨x, y⟩, hx⟩ : ∃ d, d = L.getD i (0, 0) := ⟨_, rfl⟩
      rw [← hx] at c0 c1
      dsimp only at c0 c1
      have HT := Lib.hid (take_snoc14 hlt)
      rw [← hx] at HT
      have HJd := Lib.hid (hJ _ _ _ ⟨#[.int .i64 x, .int .i64 y], 182, rfl⟩ HR.out.1)
      have HDA := Lib.hid (HR.out.2.alloc (.cells #[.int .i64 x, .int .i64 y] 182))
      obtain ⟨fn, tmps, assign, body, hy, hR⟩ := hY (L.take i) (x, y) _ HJd.out ⟨L.drop (i + 1), by rw [← HT.out, List.take_append_drop]⟩
      try dsimp only at hy
      obtain ⟨z0, z1⟩ := cells2_14 (heap_alloc_new wr (.cells #[.int .i64 x, .int .i64 y] 182))
      have HIm := Lib.hid (And.intro hi hg)
      clear hx hlt hg hi
      gi_wp2
      refine hR.mono ?_
      rintro e W' (⟨rfl, hJ', hk⟩ | ⟨rfl, hX'⟩)
      · have HJ' := Lib.hid hJ'
        have HS := Lib.hid (HDA.out.kp hk)
        clear hJ' hk c0 c1
        gi_wp2
        go_roundw
        case rel => exact ⟨i + 1, by go_num, HIm.out.1, Lib.hid ⟨by rw [HT.out]; exact HJ'.out, HS.out⟩⟩
        case measure => have := HIm.out.1; simp [intOf]; omega
      · have HX' := Lib.hid hX'
        clear hX'
        gi_wp2
        refine bodyPost_ret (results_none rfl _ _ _) rfl ?_
        exact ⟨⟨_, rfl⟩, .inr ⟨_, ⟨L.drop (i + 1), by rw [← HT.out, List.take_append_drop]⟩, HX'.out⟩⟩
    · have hiL : ¬ (i : Int) < (m : Int) := by omega
      have HE : Hid (L.take i = L) := Lib.hid (List.take_of_length_le (by rw [← HM.out]; omega))
      clear hi
      gi_wp2
      go_end0
      exact ⟨⟨_, rfl⟩, .inl (by have h := HR.out.1; rw [HE.out] at h; exact h)⟩
end Go.Proofs.YtkfdgpgildanbaaGreat
namespace Go.Proofs.YtkfdgpgildanbaaGreat
open Go.RowKit
set_option linter.unusedVariables false
set_option linter.unusedSimpArgs false
theorem goodL_app : ∀ (a b : List (Int × Int)) (o : Bool), goodL o (a ++ b) = (goodL o a && goodL (o || a.any gotN) b)
  | [], b, o => by simp [goodL]
  | d :: a, b, o => by
    simp only [List.cons_append, goodL, goodL_app a b, List.any_cons, Bool.or_assoc, Bool.and_assoc]
structure Vld14 (w : World) (s : List (Int × Int)) (W : World) : Prop where
  good : goodL false s = true
  res : W.heap[w.heap.size]? = some (.cells #[.bool false] 4 (0, 0))
  ovr : W.heap[w.heap.size + 1]? = some (.cells #[.bool (s.any gotN)] 4 (0, 0))
  bel : Below w.heap.size w W
  big : w.heap.size + 3 ≤ W.heap.size
structure Bad14 (w : World) (L : List (Int × Int)) (W : World) : Prop where
  bad : goodL false L = false
  res : W.heap[w.heap.size]? = some (.cells #[.bool false] 4 (0, 0))
  bel : Below w.heap.size w W
theorem Vld14.but {R : Nat → Prop} {w A B : World} {s : List (Int × Int)} (h : Vld14 w s A) (hb : But R A B) (hr : ∀ k, R k → w.heap.size + 3 ≤ k) : Vld14 w s B :=
  ⟨h.good, hb.heap h.res (fun e => by have := hr _ e; omega), hb.heap h.ovr (fun e => by have := hr _ e; omega), But.below h.bel hb h.bel.size (fun k e => by have := hr k e; omega), Nat.le_trans h.big hb.size⟩
theorem Bad14.but {R : Nat → Prop} {w A B : World} {s : List (Int × Int)} (h : Bad14 w s A) (hb : But R A B) (hr : ∀ k, R k → w.heap.size + 3 ≤ k) : Bad14 w s B :=
  ⟨h.bad, hb.heap h.res (fun e => by have := hr _ e; omega), But.below h.bel hb h.bel.size (fun k e => by have := hr k e; omega)⟩
theorem put_but14 (A : World) (l : Nat) (o : Obj) : But (OneBlock l) A (A.putObj l o) := by
  have h := grownBy_putObj' A l o
  exact ⟨h.os, h.tape, h.output, h.size, fun k hk hn => h.block k hk (fun e => hn (by injection e))⟩
theorem below_oth14 {A B : World} (h : Below A.heap.size A B) : KeepsOthers A B := ⟨h.size, fun k o ho _ => (h.block k (heap_lt ho)).trans ho⟩
theorem vld_start (w : World) (V : Value) (W0 : World) (h : W0 = ((w.alloc (.cells #[.bool false] 4)).alloc (.cells #[.bool false] 4)).alloc (.cells #[V] 177)) :
    W0.heap.size = w.heap.size + 3 ∧ W0.heap[w.heap.size + 2]? = some (.cells #[V] 177 (0, 0)) ∧ W0.heap[w.heap.size]? = some (.cells #[.bool false] 4 (0, 0)) ∧ W0.heap[w.heap.size + 1]? = some (.cells #[.bool false] 4 (0, 0)) := by
  have h1 := heap_alloc_new w (.cells #[.bool false] 4)
  have h2 := heap_alloc_new (w.alloc (.cells #[.bool false] 4)) (.cells #[.bool false] 4)
  have h3 := heap_alloc_new ((w.alloc (.cells #[.bool false] 4)).alloc (.cells #[.bool false] 4)) (.cells #[V] 177)
  rw [World.size_alloc] at h2
  rw [World.size_alloc, World.size_alloc] at h3
  subst h
  refine ⟨by simp, h3, ?_, ?_⟩
  · rw [Below.heap_alloc _ _ _ (by simp; omega), Below.heap_alloc _ _ _ (by simp)]
    exact h1
  · rw [Below.heap_alloc _ _ _ (by simp)]
    exact h2
theorem bad_end14 {w A : World} {s L : List (Int × Int)} (h : Vld14 w s A) (hb : goodL false L = false) : Bad14 w L (A.setCell ⟨w.heap.size, 0, none⟩ (.bool false)) := by
  have hset := heap_setCell_same A w.heap.size 0 _ _ (.bool false) h.res
  exact ⟨hb, hset, h.bel.setCell (p := ⟨w.heap.size, 0, none⟩) (Nat.le_refl _) _⟩
theorem vld_next14 {w A : World} {s : List (Int × Int)} {d : Int × Int} {v : Bool} (h : Vld14 w s A) (hg : goodL false (s ++ [d]) = true) (hv : (s ++ [d]).any gotN = v) : Vld14 w (s ++ [d]) (A.setCell ⟨w.heap.size + 1, 0, none⟩ (.bool v)) := by
  have hset := heap_setCell_same A (w.heap.size + 1) 0 _ _ (.bool v) h.ovr
  refine ⟨hg, (Below.heap_setCell _ _ _ _ (by show w.heap.size ≠ w.heap.size + 1; omega)).trans h.res, by rw [hv]; exact hset, h.bel.setCell (p := ⟨w.heap.size + 1, 0, none⟩) (by simp) _, by have := h.big; simpa [World.setCell] using this⟩
attribute [local go_sem] Oper.semAt_some
set_option maxRecDepth 100000 in
set_option maxHeartbeats 16000000 in
theorem recValid14_in (n : Nat) (hn : 6 ≤ n) (V : Value) (L : List (Int × Int)) (w : World) (hV : IsDeeds w w.heap.size V L) :
    CallsIn Fence.wide n Tryz.prog 148 #[V] w (Makes w (.bool (goodL false L))) := by
  have h1 : 1 ≤ n := by omega
  obtain ⟨g, off, A, cap, rfl, hc, hD⟩ := hV.dat (Nat.le_refl _)
  have hl := hV.1
  have HL := Lib.hid (And.intro hc hl)
  have HD := Lib.hid hD
  clear hV hc hl hD
  refine callsIn_of_wp_marks Tryz.func148 rfl trivial ?_ rfl
  simp only [Tryz.ntmps148, List.size_toArray, List.length_cons, List.length_nil, Nat.reduceAdd, Nat.reduceSub, Array.replicate_succ, Array.replicate_zero, List.push_toArray, List.append_toArray, List.nil_append, List.cons_append]
  gi_wp2_with (refine ⟨trivial, ?_⟩; gi_at_call 178; (with_reducible refine (callsIn_wide.2 (all14 _ _ _ _ rfl _)).mono ?_); rintro e w' ⟨rfl, rfl⟩)
  obtain ⟨W0, hW0⟩ : ∃ W0, W0 = ((w.alloc (.cells #[.bool false] 4)).alloc (.cells #[.bool false] 4)).alloc (.cells #[.slice A L.length cap] 177) := ⟨_, rfl⟩
  obtain ⟨hs0, hv0, hr0, hx0⟩ := vld_start w (.slice A L.length cap) W0 hW0
  rw [← hW0]
  simp only [Nat.add_assoc, Nat.reduceAdd]
  have HB0 := Lib.hid (show Below w.heap.size w W0 by rw [hW0]; exact (((Below.refl _ _).alloc (Nat.le_refl _) _).alloc (by simp) _).alloc (by simp; omega) _)
  have HS0 := Lib.hid hs0
  have HV0 := Lib.hid hv0
  have HR0 := Lib.hid hr0
  have HX0 := Lib.hid hx0
  clear hW0 hs0 hv0 hr0 hx0
  refine range_boxes (n := n) (w := W0) rfl h1 (gf := 200) (lb := #[.pointer (some ⟨w.heap.size + 2, 0, none⟩)]) rfl trivial (enters_of Tryz.func200 (by kernel_rfl) rfl)
    (encs := fun d : Int × Int => #[.agg #[.int .i64 d.1, .int .i64 d.2]]) (Mv := Mv14) (Kp := Kp14 g w.heap.size) (S := fun l => l = L) (Sp := fun l => ∃ t, L = l ++ t)
    (fun W hb => all14_moves (n - 1) (by omega) (w.heap.size + 2) g off cap w.heap.size A L HL.out.1 HL.out.2 W ((hb.block _ (by have := HS0.out; omega)).trans HV0.out) ((HD.out.kp ⟨fun e _ => HB0.out.block _ e, HB0.out.size⟩).kp ⟨fun _ e => hb.block _ e, hb.size⟩))
    (fun h k => h.trans k) (fun h => h.kp) (fun A l o o' hl _ _ _ => kp_put14 (c := W0.heap.size) (by have := HS0.out; omega) A l o' hl) (fun A B k o hm hk _ => hm.book hk) (fun _ => rfl)
    (fun s W => Vld14 w s W) (fun _ W => Bad14 w L W) (fun s A B hm h => h.but (But.of_below (R := NoBlock) hm.below) (fun _ e => e.elim)) (fun s A B hm h => h.but (But.of_below (R := NoBlock) hm.below) (fun _ e => e.elim))
    (fun s A l o o' hl _ _ h => h.but (put_but14 A l o') (fun k e => by have e' : k = l := e; have := HS0.out; omega)) (fun s A l o o' hl _ _ h => h.but (put_but14 A l o') (fun k e => by have e' : k = l := e; have := HS0.out; omega))
    (fun W hb => ⟨rfl, (hb.block _ (by have := HS0.out; omega)).trans HR0.out, (hb.block _ (by have := HS0.out; omega)).trans HX0.out, HB0.out.trans (hb.mono HB0.out.size), by have := HS0.out; have := hb.size; omega⟩)
    (fun d W => { tmps := #[.slice A L.length cap, undef, .pointer (some ⟨w.heap.size, 0, none⟩), .pointer (some ⟨w.heap.size + 1, 0, none⟩), .pointer (some ⟨W.heap.size, 0, none⟩), .slice A L.length cap,
      .func (.func 200) #[] #[.pointer (some ⟨w.heap.size + 2, 0, none⟩)], .agg #[.int .i64 d.1, .int .i64 d.2], undef, undef, undef, undef, undef, undef, undef, undef, undef, undef, undef, undef, undef, undef, undef], defers := [] })
    (fun d W => W.alloc (.cells #[.int .i64 d.1, .int .i64 d.2] 209)) (fun d W => ⟨_, _, rfl⟩) ?assign ?body ?done ?stop
  case assign =>
    rintro l ⟨x, y⟩ W K hK
    obtain ⟨z0, z1⟩ := cells2_14 (heap_alloc_new W (.cells #[.int .i64 0, .int .i64 0] 209))
    gi_wp2
    exact hK
  case body =>
    rintro l s ⟨x, y⟩ W1 W hI1 hI ⟨t, ht⟩ hc hsz
    have hbx := hc _ _ (heap_alloc_new W1 _) rfl
    have hbl := hI1.big
    obtain ⟨bx, hbxe⟩ : ∃ bx, bx = W1.heap.size := ⟨_, rfl⟩
    rw [← hbxe] at hbx hbl ⊢
    dsimp only at hbx ⊢
    have HBX := Lib.hid hbx
    have HBL := Lib.hid hbl
    have HI := Lib.hid hI
    have HW := Lib.hid (And.intro hI.bel hI.big)
    obtain ⟨z0, z1⟩ := cells2_14 hbx
    have r0 := cells1_14 hI.res
    have o0 := cells1_14 hI.ovr
    have g0 := frozen_of_row W w.heap.size 0 _ _ hI.res
    have hLs : L = s ++ [(x, y)] ++ t := by rw [ht]
    have HGL : Hid (goodL false L = ((okD (x, y) && !(s.any gotN && gotB (x, y))) && goodL (s.any gotN || gotN (x, y)) t)) := Lib.hid (by
      rw [hLs, List.append_assoc, goodL_app, hI.good, Bool.true_and, Bool.false_or]
      simp only [List.singleton_append, goodL])
    have HGS : Hid ((okD (x, y) && !(s.any gotN && gotB (x, y))) = true → goodL false (s ++ [(x, y)]) = true) := Lib.hid (fun h => by
      rw [goodL_app, hI.good, Bool.true_and, Bool.false_or]
      simp only [goodL, h, Bool.true_and])
    have HAN : Hid ((s ++ [(x, y)]).any gotN = (s.any gotN || gotN (x, y))) := Lib.hid (by simp)
    have H1 := Lib.hid (fun W => deedValid14 x y W)
    have H2 := Lib.hid (fun W => gotByte14 x y W)
    have H3 := Lib.hid (fun W => gotNothing14 x y W)
    clear hbxe hbx hI hI1 hc hsz ht hLs hbl
    generalize okD (x, y) = okv at *
    generalize gotB (x, y) = gbv at *
    generalize gotN (x, y) = gnv at *
    generalize hov : s.any gotN = ov at *
    have HOV := Lib.hid hov
    clear hov
    gi_wp2
    refine ⟨trivial, fun h => by (simp [Fence.wide] at h), ?_⟩
    (with_reducible refine (CallsIn.inRound l (callsIn_wide.2 (H1.out _))).mono ?_)
    rintro e W2 ⟨rfl, hb⟩
    have HB2 := Lib.hid hb
    have HI2 := Lib.hid (HI.out.but (But.of_below (R := NoBlock) hb) (fun _ e => e.elim))
    obtain ⟨y0, y1⟩ := cells2_14 (box_below14 HBX.out hb)
    have r2 := cells1_14 HI2.out.res
    have o2 := cells1_14 HI2.out.ovr
    rw [HOV.out] at o2
    have g2 := frozen_of_row W2 w.heap.size 0 _ _ HI2.out.res
    clear hb
    cases okv
    · have HEnd := Lib.hid (bad_end14 HI2.out (show goodL false L = false by rw [HGL.out]; simp))
      have HKO := Lib.hid (below_oth14 HB2.out)
      gi_wp2
      case h_1.isTrue => rename_i hh _; cases hh
      case h_1.isFalse => rename_i hh _; cases hh
      case h_2 =>
        refine ⟨trivial, ?_⟩
        rename_i KK hKK _ _
        refine hKK _ _ ?_
        gi_wp2
        exact ⟨HKO.out.trans (KeepsOthers.setCell _ _ _), rfl, HEnd.out⟩
    · cases ov
      · have HGood := Lib.hid (HGS.out (by simp))
        have p2 := frozen_of_row W2 (w.heap.size + 1) 0 _ _ HI2.out.ovr
        gi_wp2
        refine ⟨trivial, ?_⟩
        rename_i KK hKK
        refine hKK _ _ ?_
        gi_wp2
        refine ⟨trivial, fun h => by (simp [Fence.wide] at h), ?_⟩
        (with_reducible refine (CallsIn.inRound l (callsIn_wide.2 (H3.out _))).mono ?_)
        rintro e W3 ⟨rfl, hb⟩
        have HB3 := Lib.hid (HB2.out.trans (hb.mono HB2.out.size))
        have HI3 := Lib.hid (HI2.out.but (But.of_below (R := NoBlock) hb) (fun _ e => e.elim))
        have o3 := cells1_14 HI3.out.ovr
        have p3 := frozen_of_row W3 (w.heap.size + 1) 0 _ _ HI3.out.ovr
        have HN := Lib.hid (vld_next14 HI3.out HGood.out (v := gnv) (by rw [HAN.out]; rfl))
        have HKO := Lib.hid (below_oth14 HB3.out)
        have HKp : Hid (Kp14 g w.heap.size W (W3.setCell ⟨w.heap.size + 1, 0, none⟩ (.bool gnv))) := Lib.hid ⟨fun e1 e2 => (Below.heap_setCell _ _ _ _ (by show g ≠ w.heap.size + 1; omega)).trans (HB3.out.block _ e2), by have := HB3.out.size; simpa [World.setCell] using this⟩
        clear hb
        gi_wp2
        exact ⟨HKO.out.trans (KeepsOthers.setCell _ _ _), HKp.out, HN.out⟩
      · gi_wp2
        refine ⟨trivial, fun h => by (simp [Fence.wide] at h), ?_⟩
        (with_reducible refine (CallsIn.inRound l (callsIn_wide.2 (H2.out _))).mono ?_)
        rintro e W3 ⟨rfl, hb⟩
        have HB3 := Lib.hid (HB2.out.trans (hb.mono HB2.out.size))
        have HI3 := Lib.hid (HI2.out.but (But.of_below (R := NoBlock) hb) (fun _ e => e.elim))
        have r3 := cells1_14 HI3.out.res
        have g3 := frozen_of_row W3 w.heap.size 0 _ _ HI3.out.res
        have o3 := cells1_14 HI3.out.ovr
        have p3 := frozen_of_row W3 (w.heap.size + 1) 0 _ _ HI3.out.ovr
        rw [HOV.out] at o3
        have HKO := Lib.hid (below_oth14 HB3.out)
        clear hb
        cases gbv
        · have HGood := Lib.hid (HGS.out (by simp))
          have HN := Lib.hid (vld_next14 HI3.out HGood.out (v := true) (by rw [HAN.out]; rfl))
          have HKp : Hid (Kp14 g w.heap.size W (W3.setCell ⟨w.heap.size + 1, 0, none⟩ (.bool true))) := Lib.hid ⟨fun e1 e2 => (Below.heap_setCell _ _ _ _ (by show g ≠ w.heap.size + 1; omega)).trans (HB3.out.block _ e2), by have := HB3.out.size; simpa [World.setCell] using this⟩
          gi_wp2
          refine ⟨trivial, ?_⟩
          rename_i KK hKK
          refine hKK _ _ ?_
          gi_wp2
          exact ⟨HKO.out.trans (KeepsOthers.setCell _ _ _), HKp.out, HN.out⟩
        · have HEnd := Lib.hid (bad_end14 HI3.out (show goodL false L = false by rw [HGL.out]; simp))
          gi_wp2
          exact ⟨HKO.out.trans (KeepsOthers.setCell _ _ _), rfl, HEnd.out⟩
  case done =>
    intro D ys W hD hS hI hK
    subst hS
    have r0 := cells1_14 hI.res
    have g0 := frozen_of_row W w.heap.size 0 _ _ hI.res
    have HI := Lib.hid hI
    have HK := Lib.hid hK
    have HDD : Hid (w.heap.size + 3 ≤ D) := Lib.hid (by have := HS0.out; omega)
    clear hI hK hD
    gi_wp2
    refine ⟨by simp, .inl ⟨_, _, rfl, run_takeDeferred ((KeepsOthers.setCell W ⟨w.heap.size, 0, none⟩ (.bool true)).same D _ HK.out rfl), ?_⟩⟩
    have k0 : ((W.setCell ⟨w.heap.size, 0, none⟩ (.bool true)).putObj D (.deferred none)).heap[w.heap.size]? = some (.cells #[.bool true] 4 (0, 0)) := (World.putObj_heap_other (by have := HDD.out; omega)).trans (heap_setCell_same W w.heap.size 0 _ _ (.bool true) HI.out.res)
    have hb : Below w.heap.size w (W.setCell ⟨w.heap.size, 0, none⟩ (.bool true)) := HI.out.bel.setCell (p := ⟨w.heap.size, 0, none⟩) (Nat.le_refl _) _
    have HPost := Lib.hid (But.below hb (put_but14 _ D (.deferred none)) hb.size (fun k e => by have e' : k = D := e; have := HDD.out; omega))
    rw [HI.out.good]
    generalize (W.setCell ⟨w.heap.size, 0, none⟩ (.bool true)).putObj D (.deferred none) = Wf at *
    have q0 := cells1_14 k0
    exact ⟨.bool true, by simp [results, Tryz.results148, go_sem, q0], rfl, HPost.out⟩
  case stop =>
    intro D ys W hD hSp hX hK
    have HX := Lib.hid hX
    have HK := Lib.hid hK
    have HDD : Hid (w.heap.size + 3 ≤ D) := Lib.hid (by have := HS0.out; omega)
    clear hX hK hSp hD
    gi_wp2
    refine ⟨by simp, .inl ⟨_, _, rfl, run_takeDeferred HK.out, ?_⟩⟩
    have k0 : (W.putObj D (.deferred none)).heap[w.heap.size]? = some (.cells #[.bool false] 4 (0, 0)) := (World.putObj_heap_other (by have := HDD.out; omega)).trans HX.out.res
    have HPost := Lib.hid (But.below HX.out.bel (put_but14 W D (.deferred none)) HX.out.bel.size (fun k e => by have e' : k = D := e; have := HDD.out; omega))
    rw [HX.out.bad]
    generalize W.putObj D (.deferred none) = Wf at *
    have q0 := cells1_14 k0
    exact ⟨.bool false, by simp [results, Tryz.results148, go_sem, q0], rfl, HPost.out⟩
theorem recValid14 (V : Value) (L : List (Int × Int)) (w : World) (hV : IsDeeds w w.heap.size V L) : Calls Tryz.prog 148 #[V] w (Makes w (.bool (goodL false L))) :=
  callsIn_wide.1 (recValid14_in 6 (Nat.le_refl _) V L w hV)
end Go.Proofs.YtkfdgpgildanbaaGreat
namespace Go.Proofs.YtkfdgpgildanbaaGreat
open Go.RowKit
set_option linter.unusedVariables false
set_option linter.unusedSimpArgs false
def errO (L : List (Int × Int)) (k c : Int) : Int := if okO L k c = true then 0 else 2
theorem check14 (V : Value) (L : List (Int × Int)) (k c : Int) (w : World) (hV : IsDeeds w w.heap.size V L) :
    Calls Tryz.prog 83 #[.agg #[V, .int .i64 k, .int .i64 c]] w (Makes w (.int .i64 (errO L k c))) := by
  obtain ⟨A, cap, rfl, hc⟩ := hV.len
  have HB := Lib.hid (below_one14 w (.cells #[.slice A L.length cap, .int .i64 k, .int .i64 c] 93))
  have HX : Hid (∀ W, Below (w.alloc (.cells #[.slice A L.length cap, .int .i64 k, .int .i64 c] 93)).heap.size (w.alloc (.cells #[.slice A L.length cap, .int .i64 k, .int .i64 c] 93)) W → W.cell? ⟨w.heap.size, 0, none⟩ = some (.slice A L.length cap) ∧ W.cell? ⟨w.heap.size, 1, none⟩ = some (.int .i64 k) ∧ W.cell? ⟨w.heap.size, 2, none⟩ = some (.int .i64 c)) := Lib.hid (fun W hb => cells3_14 (box_below14 (heap_alloc_new w _) hb))
  have HV : Hid (∀ W, Below (w.alloc (.cells #[.slice A L.length cap, .int .i64 k, .int .i64 c] 93)).heap.size (w.alloc (.cells #[.slice A L.length cap, .int .i64 k, .int .i64 c] 93)) W → Calls Tryz.prog 148 #[.slice A L.length cap] W (Makes W (.bool (goodL false L)))) := Lib.hid (fun W hb => recValid14 _ L W ((hV.grow (below_one14 w _)).grow hb))
  have HE := Lib.hid (fun W => endingValid14 k c W)
  obtain ⟨x0, x1, x2⟩ := HX.out _ (Below.refl _ _)
  have hlI := hV.1
  unfold maxLen at hlI
  obtain ⟨q, hq⟩ : ∃ q : Bool, q = decide (L.length ≤ 100000) := ⟨_, rfl⟩
  have HQ : Hid (errO L k c = if (q && okE k c && goodL false L) = true then 0 else 2) := Lib.hid (by unfold errO okO; rw [hq])
  rw [HQ.out]
  clear hV hc
  generalize L.length = n at *
  generalize okE k c = ek at *
  generalize goodL false L = gl at *
  cases q
  · have hI : decide ((100000 : Int) < (n : Int)) = true := decide_eq_true (by have := of_decide_eq_false hq.symm; omega)
    clear hq HQ
    go_enter Tryz.func83, Tryz.ntmps83
    go_wp2
    go_ret
    exact ⟨rfl, HB.out⟩
  · have hI : decide ((100000 : Int) < (n : Int)) = false := decide_eq_false (by have := of_decide_eq_true hq.symm; omega)
    clear hq HQ
    cases ek
    · go_enter Tryz.func83, Tryz.ntmps83
      go_wp2_with (go_at_call 147; (with_reducible refine (HE.out _).mono ?_); rintro e w1 ⟨rfl, hb⟩; have HB1 := Lib.hid hb; obtain ⟨y0, y1, y2⟩ := HX.out _ hb; clear hb)
      go_ret
      exact ⟨rfl, HB.out.trans (HB1.out.mono HB.out.size)⟩
    · go_enter Tryz.func83, Tryz.ntmps83
      cases gl
      · go_wp2_with (first
          | (go_at_call 147; (with_reducible refine (HE.out _).mono ?_); rintro e w1 ⟨rfl, hb⟩; have HB1 := Lib.hid hb; obtain ⟨y0, y1, y2⟩ := HX.out _ hb; clear hb)
          | (go_at_call 148; (with_reducible refine (HV.out _ HB1.out).mono ?_); rintro e w2 ⟨rfl, hb⟩; have HB2 := Lib.hid (HB1.out.trans (hb.mono HB1.out.size)); clear hb))
        go_ret
        exact ⟨rfl, HB.out.trans (HB2.out.mono HB.out.size)⟩
      · go_wp2_with (first
          | (go_at_call 147; (with_reducible refine (HE.out _).mono ?_); rintro e w1 ⟨rfl, hb⟩; have HB1 := Lib.hid hb; obtain ⟨y0, y1, y2⟩ := HX.out _ hb; clear hb)
          | (go_at_call 148; (with_reducible refine (HV.out _ HB1.out).mono ?_); rintro e w2 ⟨rfl, hb⟩; have HB2 := Lib.hid (HB1.out.trans (hb.mono HB1.out.size)); clear hb))
        go_ret
        exact ⟨rfl, HB.out.trans (HB2.out.mono HB.out.size)⟩
def sameO (L : List (Int × Int)) (k c : Int) (M : List (Int × Int)) (k' c' : Int) : Bool := (k == k' && c == c') && L == M
theorem eqlE_same (w : World) (a b : Int) : (binOp .eql 45 (.agg #[.int .i64 a, .int .i64 b]) (.agg #[.int .i64 a, .int .i64 b])).run Tryz.prog w = .ok (.bool true) w := by go_simp
theorem eqlE_diff (w : World) (a b c d : Int) (h : ¬ (a = c ∧ b = d)) : (binOp .eql 45 (.agg #[.int .i64 a, .int .i64 b]) (.agg #[.int .i64 c, .int .i64 d])).run Tryz.prog w = .ok (.bool false) w := by
  by_cases h0 : a = c
  · subst h0
    have h1 : (b == d) = false := by simpa using fun e => h ⟨rfl, e⟩
    go_simp
  · have h1 : (a == c) = false := by simpa using h0
    go_simp
theorem two_alloc14 (w : World) (c d : Array Value) (t u : TypeId) : Below w.heap.size w ((w.alloc (.cells c t)).alloc (.cells d u)) ∧ ((w.alloc (.cells c t)).alloc (.cells d u)).heap[w.heap.size]? = some (.cells c t (0, 0)) ∧ ((w.alloc (.cells c t)).alloc (.cells d u)).heap[w.heap.size + 1]? = some (.cells d u (0, 0)) := by
  refine ⟨((Below.refl _ w).alloc (Nat.le_refl _) _).alloc (by simp) _, ?_, ?_⟩
  · rw [Below.heap_alloc _ _ _ (by simp)]
    exact heap_alloc_new _ _
  · have := heap_alloc_new (w.alloc (.cells c t)) (.cells d u)
    rw [World.size_alloc] at this
    exact this
set_option maxRecDepth 100000 in
set_option maxHeartbeats 4000000 in
theorem same14 (V V' : Value) (L M : List (Int × Int)) (k c k' c' : Int) (w : World) (hV : IsDeeds w w.heap.size V L) (hV' : IsDeeds w w.heap.size V' M) :
    Calls Tryz.prog 76 #[.agg #[V, .int .i64 k, .int .i64 c], .agg #[V', .int .i64 k', .int .i64 c']] w (Makes w (.bool (sameO L k c M k' c'))) := by
  obtain ⟨A, cap, rfl, hc⟩ := hV.len
  obtain ⟨A', cap', rfl, hc'⟩ := hV'.len
  obtain ⟨hB, h0, h1⟩ := two_alloc14 w #[.slice A L.length cap, .int .i64 k, .int .i64 c] #[.slice A' M.length cap', .int .i64 k', .int .i64 c'] 93 93
  obtain ⟨x0, x1, x2⟩ := cells3_14 h0
  obtain ⟨y0, y1, y2⟩ := cells3_14 h1
  have HB := Lib.hid hB
  have HE := Lib.hid (equalD _ _ L M _ _ _ (hV.grow hB) (hV'.grow hB))
  clear hV hV' hc hc' h0 h1 hB
  by_cases he : k = k' ∧ c = c'
  · have HQ : Hid (sameO L k c M k' c' = (L == M)) := Lib.hid (by unfold sameO; rw [he.1, he.2]; simp)
    rw [HQ.out]
    obtain ⟨rfl, rfl⟩ := he
    have hq := fun w => eqlE_same w k c
    clear HQ
    generalize (L == M) = b at *
    go_enter Tryz.func76, Tryz.ntmps76
    go_wp2_with (go_at_call 140; (with_reducible refine HE.out.mono ?_); rintro e w1 ⟨rfl, hw⟩; have HW := Lib.hid hw; clear hw)
    go_ret
    obtain ⟨q, rfl⟩ := HW.out
    exact ⟨rfl, below_drewN HB.out q⟩
  · have HQ : Hid (sameO L k c M k' c' = false) := Lib.hid (by
      unfold sameO
      have : (k == k' && c == c') = false := by
        rw [Bool.eq_false_iff]
        intro h
        simp at h
        exact he h
      rw [this]; rfl)
    rw [HQ.out]
    have hq := fun w => eqlE_diff w k c k' c' he
    clear HQ he HE
    go_enter Tryz.func76, Tryz.ntmps76
    go_wp2
    go_ret
    exact ⟨rfl, HB.out⟩
def beginsO (L M : List (Int × Int)) : Bool := decide (L.length ≤ M.length) && L == M.take L.length
end Go.Proofs.YtkfdgpgildanbaaGreat
namespace Go.Proofs.YtkfdgpgildanbaaGreat
open Go.RowKit
set_option linter.unusedVariables false
set_option linter.unusedSimpArgs false
structure RTape14 (base : Nat) (W : World) (rb : Nat) (X V : Value) (xs : List Int) (k : Nat) (L : List (Int × Int)) : Prop where
  box : W.heap[rb]? = some (.cells #[X, .int .i64 k, V] 127 (0, 0))
  all : IsBytes W base X xs
  done : Owns W base 182 2 AnyC14 V L.length (cellsD L)
  few : L.length ≤ 100000
  le : k ≤ xs.length
  rb : base ≤ rb
section
variable {base : Nat} {W W' : World} {rb : Nat} {X V : Value} {xs : List Int} {k : Nat} {L : List (Int × Int)}
theorem RTape14.cells (h : RTape14 base W rb X V xs k L) : W.cell? ⟨rb, 0, none⟩ = some X ∧ W.cell? ⟨rb, 1, none⟩ = some (.int .i64 k) ∧ W.cell? ⟨rb, 2, none⟩ = some V := cells3_14 h.box
theorem RTape14.lt (h : RTape14 base W rb X V xs k L) : rb < W.heap.size := heap_lt h.box
theorem RTape14.free (h : RTape14 base W rb X V xs k L) (o : Nat) : W.frozen? ⟨rb, o, none⟩ = false := frozen_of_row W rb o _ _ h.box
theorem RTape14.but {R : Nat → Prop} (h : RTape14 base W rb X V xs k L) (hb : But R W W') (h1 : ¬ R rb) (h2 : ∀ j, j < base → ¬ R j) (h3 : ∀ g, V.ownBlock = some g → ¬ R g) : RTape14 base W' rb X V xs k L :=
  ⟨hb.heap h.box h1, h.all.but hb (Nat.le_trans h.rb (Nat.le_of_lt h.lt)) h2, h.done.but hb h3, h.few, h.le, h.rb⟩
theorem RTape14.grow (h : RTape14 base W rb X V xs k L) (hb : Below W.heap.size W W') : RTape14 base W' rb X V xs k L :=
  h.but (But.of_below (R := NoBlock) hb) (fun h => h) (fun _ _ h => h) (fun _ _ h => h)
theorem RTape14.ne (h : RTape14 base W rb X V xs k L) : some rb ≠ V.ownBlock := fun e => by
  obtain ⟨_, c, hc⟩ := typed14 h.done e.symm
  exact types14 hc h.box (by decide)
theorem RTape14.more {V' : Value} {a b : Int} (h : RTape14 base W rb X V xs k L) (hM : MoreD base W W' V V' L a b) (hf : L.length < 100000) :
    RTape14 base (W'.setCell ⟨rb, 2, none⟩ V') rb X V' xs k (L ++ [(a, b)]) ∧ Wt14 rb V V' W (W'.setCell ⟨rb, 2, none⟩ V') := by
  have hbx : W'.heap[rb]? = some (.cells #[X, .int .i64 k, V] 127 (0, 0)) := (hM.blk rb h.lt h.ne).trans h.box
  have hset := heap_setCell_same W' rb 2 _ _ V' hbx
  have hb1 : But (fun k => k = rb ∨ V.ownBlock = some k) W W' := ⟨hM.bel.os, hM.bel.tape, hM.bel.output, hM.size, fun k hk hn => hM.blk k hk (fun e => hn (.inr e.symm))⟩
  have hbut : But (fun k => k = rb ∨ V.ownBlock = some k) W (W'.setCell ⟨rb, 2, none⟩ V') := hb1.setCell (p := ⟨rb, 2, none⟩) (.inl (.inl rfl)) _
  have hbut2 : But (OneBlock rb) W' (W'.setCell ⟨rb, 2, none⟩ V') := (But.refl (OneBlock rb) W').setCell (p := ⟨rb, 2, none⟩) (.inl rfl) _
  refine ⟨⟨hset, h.all.but hbut (Nat.le_trans h.rb (Nat.le_of_lt h.lt)) (fun j hj => ?_), ?_, by simp; omega, h.le, h.rb⟩, ⟨hbut, hM.whr⟩⟩
  · rintro (rfl | e)
    · have := h.rb; omega
    · have := (typed14 h.done e).1; omega
  · rw [List.length_append]
    refine hM.own.but hbut2 (fun g hg e => ?_)
    have e' : g = rb := e
    subst e'
    obtain ⟨_, c, hc⟩ := typed14 hM.own hg
    exact types14 hc hbx (by decide)
theorem RTape14.next (h : RTape14 base W rb X V xs k L) (hk : k < xs.length) {n : Int} (hn : n = (k : Int) + 1) : RTape14 base (W.setCell ⟨rb, 1, none⟩ (.int .i64 n)) rb X V xs (k + 1) L := by
  have hset := heap_setCell_same W rb 1 _ _ (.int .i64 n) h.box
  have hbut : But (OneBlock rb) W (W.setCell ⟨rb, 1, none⟩ (.int .i64 n)) := (But.refl (OneBlock rb) W).setCell (p := ⟨rb, 1, none⟩) (.inl rfl) _
  have e1 : ∀ g, OneBlock rb g → g = rb := fun g e => e
  subst hn
  refine ⟨hset, h.all.but hbut (Nat.le_trans h.rb (Nat.le_of_lt h.lt)) (fun j hj e => ?_), h.done.but hbut (fun g hg e => ?_), h.few, hk, h.rb⟩
  · have := h.rb; have := e1 _ e; omega
  · have := e1 _ e
    subst this
    exact h.ne hg.symm
end
def RTapeDone (base rb : Nat) (w : World) (X V : Value) (v : Value) (xs : List Int) (k : Nat) (L : List (Int × Int)) (e : Ending) (w' : World) : Prop :=
  ∃ V', e = .returned v ∧ RTape14 base w' rb X V' xs k L ∧ Wt14 rb V V' w w'
theorem Wt14.undraw {tb : Nat} {V V' : Value} {w w' : World} {q : Nat} (h : Wt14 tb V V' (w.drewN q) w') : Wt14 tb V V' w w' := ⟨⟨h.but.os, h.but.tape, h.but.output, h.but.size, h.but.block⟩, h.whr⟩
theorem mod256_14 (b : Int) : (wrap64 (b.tmod 256 + 256)).tmod 256 = b % 256 := by
  have h1 := Int.tmod_lt_of_pos b (show (0 : Int) < 256 by decide)
  have h2 := Int.lt_tmod_of_pos b (show (0 : Int) < 256 by decide)
  rw [IntWalk.wrap64_in _ (by omega), Int.tmod_eq_emod_of_nonneg (by omega)]
  have h3 := Int.tmod_add_mul_tdiv b 256
  omega
set_option maxRecDepth 100000 in
set_option maxHeartbeats 4000000 in
theorem rput14 {base rb : Nat} {w : World} {X V : Value} {xs : List Int} {k : Nat} {L : List (Int × Int)} (h : RTape14 base w rb X V xs k L) (hf : L.length < 100000) (b : Int) :
    Calls Tryz.prog 153 #[.pointer (some ⟨rb, 0, none⟩), .int .i64 b] w (RTapeDone base rb w X V (.int .i64 0) xs k (L ++ [(2, b % 256)])) := by
  obtain ⟨c0, c1, c2⟩ := h.cells
  obtain ⟨A, cap, hVe⟩ := owns_len14 h.done
  subst hVe
  have H := Lib.hid h
  have HB := Lib.hid (Nat.le_trans h.rb (Nat.le_of_lt h.lt))
  have HF := Lib.hid hf
  have HQ := Lib.hid (mod256_14 b)
  have HO : Hid (Owns w base 182 2 AnyC14 (.slice A L.length cap) L.length (cellsD L)) := Lib.hid h.done
  have hI : decide ((100000 : Int) ≤ (L.length : Int)) = false := decide_eq_false (by omega)
  clear h hf
  go_enter Tryz.func153, Tryz.ntmps153
  go_wp2_with (at_builtin; refine wpList_deed rfl (.tmp 15) (.tmp 21) rfl Tryz.underlying91 rfl rfl rfl HO.out HB.out (by have := HF.out; omega) ?_; intro V' W' hM; have HP := Lib.hid (H.out.more hM HF.out); have hbx := (hM.blk _ H.out.lt H.out.ne).trans H.out.box; obtain ⟨d0, d1, d2⟩ := cells3_14 hbx; have g2 := frozen_of_row W' rb 2 _ _ hbx; obtain ⟨A', cap', hVe⟩ := owns_len14 hM.own; subst hVe; clear hM hbx)
  go_ret
  exact ⟨_, rfl, by have h := HP.out.1; rw [HQ.out] at h; exact h, HP.out.2⟩
set_option maxRecDepth 100000 in
set_option maxHeartbeats 4000000 in
theorem rgetEnd14 {base rb : Nat} {w : World} {X V : Value} {xs : List Int} {k : Nat} {L : List (Int × Int)} (h : RTape14 base w rb X V xs k L) (hf : L.length < 100000) (hk : ¬ k < xs.length) (hl : xs.length ≤ 1000000) :
    Calls Tryz.prog 152 #[.pointer (some ⟨rb, 0, none⟩)] w (RTapeDone base rb w X V (.tuple #[.int .i64 (-1), .int .i64 0]) xs k (L ++ [(1, -1)])) := by
  obtain ⟨c0, c1, c2⟩ := h.cells
  obtain ⟨A, cap, hVe⟩ := owns_len14 h.done
  obtain ⟨XA, xcap, hXe⟩ := h.all.len
  have hkI : decide (k < xs.length) = false := decide_eq_false hk
  have hkI2 : ¬ (k : Int) < (xs.length : Int) := by omega
  subst hVe hXe
  have H : Hid (∀ q, RTape14 base (w.drewN q) rb (.slice XA xs.length xcap) (.slice A L.length cap) xs k L) := Lib.hid (fun q => h.grow (below_drewN (Below.refl _ _) q))
  have HB := Lib.hid (Nat.le_trans h.rb (Nat.le_of_lt h.lt))
  have HF := Lib.hid hf
  have hI : decide ((100000 : Int) ≤ (L.length : Int)) = false := decide_eq_false (by omega)
  clear h hf hk
  go_enter Tryz.func152, Tryz.ntmps152
  go_wp2
  go_quiet (fail)
  go_wp2_with (at_builtin; refine wpList_deed rfl (.tmp 43) (.tmp 46) rfl Tryz.underlying91 rfl rfl rfl (H.out _).done HB.out (by have := HF.out; omega) ?_; intro V' W' hM; have HP := Lib.hid ((H.out _).more hM HF.out); have hbx := (hM.blk _ (H.out 0).lt (H.out 0).ne).trans (H.out 0).box; obtain ⟨d0, d1, d2⟩ := cells3_14 hbx; have g2 := frozen_of_row W' rb 2 _ _ hbx; obtain ⟨A', cap', hVe⟩ := owns_len14 hM.own; subst hVe; clear hM hbx)
  go_ret2
  exact ⟨_, rfl, HP.out.1, HP.out.2.undraw⟩
set_option maxRecDepth 100000 in
set_option maxHeartbeats 4000000 in
theorem rgetMore14 {base rb : Nat} {w : World} {X V : Value} {xs : List Int} {k : Nat} {L : List (Int × Int)} (h : RTape14 base w rb X V xs k L) (hf : L.length < 100000) (hk : k < xs.length) (hl : xs.length ≤ 1000000) :
    Calls Tryz.prog 152 #[.pointer (some ⟨rb, 0, none⟩)] w (RTapeDone base rb w X V (.tuple #[.int .i64 (xs.getD k 0), .int .i64 0]) xs (k + 1) (L ++ [(1, xs.getD k 0)])) := by
  obtain ⟨c0, c1, c2⟩ := h.cells
  obtain ⟨A, cap, hVe⟩ := owns_len14 h.done
  obtain ⟨xg, xo, xcap, hXe, hcp, hxb, hx⟩ := h.all.plain (by omega)
  have hx0 := hx k hk
  have hbd := getD_bd h.all.1 hk
  have hkI : decide (k < xs.length) = true := decide_eq_true hk
  have hkI2 : (k : Int) < (xs.length : Int) := by omega
  have hk0 : (0 : Int) ≤ (k : Int) := by omega
  obtain ⟨m, hm⟩ : ∃ m : Nat, m = k + 1 := ⟨_, rfl⟩
  have hs : IntKind.i64.wrap ((k : Int) + 1) = (m : Int) := by rw [IntWalk.i64_in _ (by omega)]; omega
  have hs2 : (k : Int) + 1 = (m : Int) := by omega
  subst hVe hXe
  obtain ⟨x, hxe⟩ : ∃ x, x = xs.getD k 0 := ⟨_, rfl⟩
  rw [← hxe] at hx0 hbd ⊢
  have x0 : 0 ≤ x := hbd.1
  have x1 : x < 256 := hbd.2
  have HN : Hid (∀ q, RTape14 base ((w.drewN q).setCell ⟨rb, 1, none⟩ (.int .i64 (m : Int))) rb (.slice (some ⟨xg, xo, none⟩) xs.length xcap) (.slice A L.length cap) xs (k + 1) L) := Lib.hid (fun q => (h.grow (below_drewN (Below.refl _ _) q)).next hk hs2.symm)
  have HB : Hid (∀ q, base ≤ ((w.drewN q).setCell ⟨rb, 1, none⟩ (.int .i64 (m : Int))).heap.size) := Lib.hid (fun q => by have := Nat.le_trans h.rb (Nat.le_of_lt h.lt); simpa [World.setCell] using this)
  have HW : Hid (∀ q, But (fun k => k = rb ∨ (Value.slice A L.length cap).ownBlock = some k) w ((w.drewN q).setCell ⟨rb, 1, none⟩ (.int .i64 (m : Int)))) := Lib.hid (fun q => ((But.refl _ w).drewN q).setCell (p := ⟨rb, 1, none⟩) (.inl (.inl rfl)) _)
  have HF := Lib.hid hf
  have hI : decide ((100000 : Int) ≤ (L.length : Int)) = false := decide_eq_false (by omega)
  have g1 := h.free 1
  have HD : Hid (∀ q, (w.drewN q).cell? ⟨rb, 0, none⟩ = some (.slice (some ⟨xg, xo, none⟩) xs.length xcap)) := Lib.hid (fun q => h.cells.1)
  clear h hf hk hx hbd hcp hxb hm hxe
  go_enter Tryz.func152, Tryz.ntmps152
  go_wp2
  go_quiet (fail)
  generalize nq = q1 at *
  go_wp2
  go_quiet (fail)
  go_wp2_with (at_builtin; refine wpList_deed rfl (.tmp 43) (.tmp 46) rfl Tryz.underlying91 rfl rfl (by simp [World.setCell]) (HN.out (q1 + nq)).done (HB.out (q1 + nq)) (by have := HF.out; omega) ?_; intro V' W' hM; have HP := Lib.hid ((HN.out (q1 + nq)).more hM HF.out); have hbx := (hM.blk _ (HN.out (q1 + nq)).lt (HN.out (q1 + nq)).ne).trans (HN.out (q1 + nq)).box; obtain ⟨d0, d1, d2⟩ := cells3_14 hbx; have g2 := frozen_of_row W' rb 2 _ _ hbx; obtain ⟨A', cap', hVe⟩ := owns_len14 hM.own; subst hVe; clear hM hbx)
  go_ret2
  exact ⟨_, rfl, HP.out.1, (HW.out (q1 + nq)).trans HP.out.2.but, by have h := HP.out.2.whr; simpa [World.setCell] using h⟩
end Go.Proofs.YtkfdgpgildanbaaGreat
namespace Go.Proofs.YtkfdgpgildanbaaGreat
set_option linter.unusedVariables false
set_option linter.unusedSimpArgs false
structure LinkV where
  f : Nat
  at_ : Int
  back : Int
  res : Int
structure SpV where
  m : ModV
  size : Nat
  inp : List Int
  mem : List Int
  left : List Int
  done : List (Int × Int)
  fuel : Int
  f : Nat
  at_ : Int
  pc : Int
  links : List LinkV
  ek : Int
  ec : Int
def fnV (m : ModV) (f : Nat) : FunV := m.funcs.getD f .zero
def floV (m : ModV) : Int := floorV m.data.length
def SpV.regB (S : SpV) (r : Int) : Bool := decide (0 ≤ r) && decide (r < (fnV S.m S.f).regs)
def placeB (n : Int) : Bool := decide (0 ≤ n) && decide (n < 4096)
def SpV.refE (S : SpV) : Int := if S.ek = 0 then 0 else 9
def SpV.getE (S : SpV) (r : Int) : Int := if S.ek = 0 then (if S.regB r then 0 else 5) else 9
def SpV.getV (S : SpV) (r : Int) : Int := if S.getE r = 0 then loadV S.mem (slotV S.at_ r) 8 else 0
def SpV.setS (S : SpV) (r v : Int) : SpV := if S.getE r = 0 then { S with mem := storeL S.mem (slotV S.at_ r) 8 v } else S
def SpV.goE (S : SpV) (n : Int) : Int := if S.ek = 0 then (if placeB n then 0 else 5) else 9
def SpV.goS (S : SpV) (n : Int) : SpV := if S.goE n = 0 then { S with pc := n } else S
def SpV.burnE (S : SpV) (n : Int) : Int := if S.ek = 0 then (if n < 0 ∨ S.fuel < n then 2 else 0) else 9
def SpV.burnS (S : SpV) (n : Int) : SpV := if S.burnE n = 0 then { S with fuel := S.fuel - n } else S
def SpV.fitB (S : SpV) (f : Int) (n : Nat) : Bool := decide (0 ≤ f) && decide (f < S.m.funcs.length) && decide ((n : Int) = (fnV S.m f.toNat).params)
def SpV.callE (S : SpV) (f : Int) (args : List Int) (res back : Int) : Int :=
  if S.ek = 0 then (if S.fitB f args.length then (if args.all S.regB && (S.regB res && placeB back) then 0 else 5) else 2) else 9
def passL (mem : List Int) (src dst : Int) : Nat → List Int → List Int
  | _, [] => mem
  | i, a :: l => passL (storeL mem (slotV dst i) 8 (loadV mem (slotV src a) 8)) src dst (i + 1) l
def setsL (mem : List Int) (dst : Int) : Nat → List Int → List Int
  | _, [] => mem
  | i, v :: l => setsL (storeL mem (slotV dst i) 8 v) dst (i + 1) l
def SpV.newAt (S : SpV) (f : Nat) : Int := pushV S.at_ (fnV S.m f).regs (fnV S.m f).area (floV S.m)
def SpV.newE (S : SpV) (f : Nat) : Int := pushE S.at_ (fnV S.m f).regs (fnV S.m f).area (floV S.m)
def SpV.outB (S : SpV) (f : Nat) : Bool := decide (S.links.length = 256) || decide (S.newE f ≠ 0)
def SpV.callS (S : SpV) (f : Int) (args : List Int) (res back : Int) : SpV :=
  if S.callE f args res back = 0 then
    (if S.outB f.toNat then { S with ek := 3 } else
      { S with links := S.links ++ [⟨S.f, S.at_, back, res⟩], f := f.toNat, at_ := S.newAt f.toNat, pc := 0, mem := passL S.mem S.at_ (S.newAt f.toNat) 0 args })
  else S
def SpV.backS (S : SpV) (l : LinkV) (v : Int) : SpV :=
  { S with links := S.links.dropLast, f := l.f, at_ := l.at_, pc := l.back, mem := storeL S.mem (slotV l.at_ l.res) 8 v }
def SpV.retS (S : SpV) (v : Int) : SpV :=
  if S.ek = 0 then (match S.links.getLast? with | none => { S with ek := 1, ec := v % 256 } | some l => S.backS l v) else S
def SpV.stopE (S : SpV) (k c : Int) : Int := if S.ek = 0 then (if okO [] k c then 0 else 2) else 9
def SpV.stopS (S : SpV) (k c : Int) : SpV := if S.stopE k c = 0 then { S with ek := k, ec := c } else S
def hd15 : List Int → Int
  | [] => -1
  | x :: _ => x
def SpV.getbV (S : SpV) : Int := if S.ek = 0 then hd15 S.left else 0
def SpV.getbS (S : SpV) : SpV := if S.ek = 0 then { S with left := S.left.tail, done := S.done ++ [(1, hd15 S.left)] } else S
def SpV.putbS (S : SpV) (b : Int) : SpV := if S.ek = 0 then { S with done := S.done ++ [(2, b % 256)] } else S
def SpV.memS (S : SpV) (a n v : Int) : SpV := { S with mem := storeL S.mem a n v }
def sizeB (n : Int) : Bool := decide (16 ≤ n) && decide (n ≤ 65536) && decide (n % 16 = 0)
def newE15 (m : ModV) (n fuel : Int) : Int :=
  if fuel < 0 ∨ 10000000 < fuel ∨ sizeB n = false ∨ m.err ≠ 0 then 2 else (if n < floV m then 8 else 0)
def new0 (m : ModV) (n : Nat) (inp : List Int) (fuel : Int) : SpV :=
  ⟨m, n, inp, layB (List.replicate n 0) 16 m.data, inp, [], fuel, 0, n, 0, [], 0, 0⟩
def newS (m : ModV) (n : Nat) (inp : List Int) (fuel : Int) : SpV :=
  if (new0 m n inp fuel).newE 0 = 0 then { new0 m n inp fuel with at_ := (new0 m n inp fuel).newAt 0 } else { new0 m n inp fuel with ek := 3 }
structure FrOk (m : ModV) (size : Nat) (f : Nat) (x : Int) : Prop where
  fn : f < m.funcs.length
  lo : floV m ≤ x
  hi : x + fsV (fnV m f).regs (fnV m f).area ≤ size
  al : x % 16 = 0
structure SpV.ok (S : SpV) : Prop where
  mod : S.m.err = 0
  lo : 16 ≤ S.size
  hi : S.size ≤ 65536
  al : S.size % 16 = 0
  flo : floV S.m ≤ S.size
  len : S.mem.length = S.size
  bd : ∀ x ∈ S.inp, 0 ≤ x ∧ x < 256
  fuel0 : 0 ≤ S.fuel
  fuel1 : S.fuel ≤ 10000000
  fn : S.f < S.m.funcs.length
  at0 : 16 ≤ S.at_
  at1 : S.at_ ≤ 65536
  run : S.ek = 0 → S.ec = 0 ∧ FrOk S.m S.size S.f S.at_
  pc0 : 0 ≤ S.pc
  pc1 : S.pc < 4096
  deep : S.links.length ≤ 256
  link : ∀ l ∈ S.links, FrOk S.m S.size l.f l.at_ ∧ placeB l.back = true ∧ 0 ≤ l.res ∧ l.res < (fnV S.m l.f).regs
  few : S.done.length ≤ 100000
  ends : InI S.ek ∧ InI S.ec
theorem firstF_zero : ∀ {l : List FunV}, firstF l = 0 → ∀ f ∈ l, f.err = 0
  | [], _, f, hf => by cases hf
  | g :: l, h, f, hf => by
    simp only [firstF] at h
    split at h
    · rename_i h0
      rcases List.mem_cons.1 hf with rfl | hf
      · exact h0
      · exact firstF_zero h f hf
    · rename_i h0; exact absurd h h0
theorem err_funs {m : ModV} (h : m.err = 0) : m.data.length ≤ 8192 ∧ 1 ≤ m.funcs.length ∧ m.funcs.length ≤ 64 ∧ ∀ f ∈ m.funcs, f.err = 0 := by
  unfold ModV.err at h
  split at h
  · omega
  · split at h
    · rename_i h1 h2
      simp [someV] at h2
      exact ⟨by omega, by omega, by omega, firstF_zero h⟩
    · omega
theorem err_fn {m : ModV} (h : m.err = 0) {f : Nat} (hf : f < m.funcs.length) : 0 ≤ (fnV m f).regs ∧ (fnV m f).regs ≤ 64 ∧ 0 ≤ (fnV m f).params ∧ (fnV m f).params ≤ (fnV m f).regs ∧ (fnV m f).params ≤ 8 ∧ 0 ≤ (fnV m f).area ∧ (fnV m f).area ≤ 4096 := by
  have h1 := (err_funs h).2.2.2 (fnV m f) (by unfold fnV; rw [List.getD_eq_getElem?_getD, List.getElem?_eq_getElem hf]; exact List.getElem_mem hf)
  unfold FunV.err at h1
  split at h1
  · rename_i h2
    simp [framedV] at h2
    omega
  · omega
theorem flo_bd {m : ModV} (h : m.err = 0) : 16 ≤ floV m ∧ floV m % 16 = 0 ∧ floV m ≤ 8208 := by
  have := (err_funs h).1
  unfold floV floorV upV
  rw [if_pos ⟨by omega, by omega⟩]
  omega
theorem fs_fn {m : ModV} (h : m.err = 0) {f : Nat} (hf : f < m.funcs.length) : 8 * (fnV m f).regs ≤ fsV (fnV m f).regs (fnV m f).area ∧ fsV (fnV m f).regs (fnV m f).area % 16 = 0 ∧ fsV (fnV m f).regs (fnV m f).area ≤ 4608 ∧ fsE (fnV m f).regs (fnV m f).area = 0 := by
  obtain ⟨h1, h2, h3, h4, h5, h6, h7⟩ := err_fn h hf
  obtain ⟨e1, e2⟩ := fs_ok h1 h2 h6 h7
  have := fs_bd (fnV m f).regs (fnV m f).area
  refine ⟨?_, this.2.2, this.2.1, e2⟩
  rw [e1]; unfold upV; omega
theorem slot_in {m : ModV} {size f : Nat} {x r : Int} (hm : m.err = 0) (hs : size ≤ 65536) (h : FrOk m size f x) (h0 : 0 ≤ r) (h1 : r < (fnV m f).regs) : slotV x r = x + 8 * r ∧ 16 ≤ x + 8 * r ∧ x + 8 * r + 8 ≤ size := by
  have hf := flo_bd hm
  have h2 := fs_fn hm h.fn
  have h3 := h.lo
  have h4 := h.hi
  refine ⟨?_, by omega, by omega⟩
  unfold slotV
  rw [show x + r * 8 = x + 8 * r by omega]
  omega
theorem numE_in {size x : Int} (h0 : 16 ≤ x) (h1 : x + 8 ≤ size) : numE size x 8 = 0 := by
  unfold numE accE
  rw [if_pos (by decide), if_neg (by omega), if_neg (by omega)]
section
variable {S : SpV}
theorem SpV.ok.slot (h : S.ok) (hr : S.ek = 0) {r : Int} (hb : S.regB r = true) : slotV S.at_ r = S.at_ + 8 * r ∧ 16 ≤ S.at_ + 8 * r ∧ S.at_ + 8 * r + 8 ≤ S.size := by
  simp [SpV.regB] at hb
  exact slot_in h.mod h.hi (h.run hr).2 hb.1 hb.2
theorem SpV.ok.slotE (h : S.ok) (hr : S.ek = 0) {r : Int} (hb : S.regB r = true) : numE S.mem.length (slotV S.at_ r) 8 = 0 := by
  obtain ⟨h1, h2, h3⟩ := h.slot hr hb
  rw [h1, h.len]
  exact numE_in h2 h3
theorem storeL_len {xs : List Int} {a n v : Int} : (storeL xs a n v).length = xs.length := by
  unfold storeL
  split
  · rename_i h
    obtain ⟨hs, h0, h1, h2, h3⟩ := numE_zero h
    have : (bytesV v n.toNat).length = n.toNat := bytesV_len v _
    exact layL_len (by rw [this]; omega)
  · rfl
theorem SpV.ok.mem' (h : S.ok) {l : List Int} (hl : l.length = S.mem.length) : ({ S with mem := l } : SpV).ok :=
  ⟨h.mod, h.lo, h.hi, h.al, h.flo, hl.trans h.len, h.bd, h.fuel0, h.fuel1, h.fn, h.at0, h.at1, h.run, h.pc0, h.pc1, h.deep, h.link, h.few, h.ends⟩
theorem SpV.ok.setS (h : S.ok) (r v : Int) : (S.setS r v).ok := by
  unfold SpV.setS
  split
  · exact h.mem' storeL_len
  · exact h
theorem SpV.ok.goS (h : S.ok) (n : Int) : (S.goS n).ok := by
  unfold SpV.goS SpV.goE
  by_cases h1 : S.ek = 0
  · rw [if_pos h1]
    by_cases h2 : placeB n = true
    · rw [if_pos h2, if_pos rfl]
      simp [placeB] at h2
      exact ⟨h.mod, h.lo, h.hi, h.al, h.flo, h.len, h.bd, h.fuel0, h.fuel1, h.fn, h.at0, h.at1, h.run, h2.1, h2.2, h.deep, h.link, h.few, h.ends⟩
    · rw [if_neg h2, if_neg (by decide)]; exact h
  · rw [if_neg h1, if_neg (by decide)]; exact h
theorem SpV.ok.burnS (h : S.ok) (n : Int) : (S.burnS n).ok := by
  unfold SpV.burnS SpV.burnE
  by_cases h1 : S.ek = 0
  · rw [if_pos h1]
    by_cases h2 : n < 0 ∨ S.fuel < n
    · rw [if_pos h2, if_neg (by decide)]; exact h
    · rw [if_neg h2, if_pos rfl]
      have := h.fuel1
      exact ⟨h.mod, h.lo, h.hi, h.al, h.flo, h.len, h.bd, by show 0 ≤ S.fuel - n; omega, by show S.fuel - n ≤ 10000000; omega, h.fn, h.at0, h.at1, h.run, h.pc0, h.pc1, h.deep, h.link, h.few, h.ends⟩
  · rw [if_neg h1, if_neg (by decide)]; exact h
theorem SpV.ok.stopS (h : S.ok) (k c : Int) : (S.stopS k c).ok := by
  unfold SpV.stopS SpV.stopE
  by_cases h1 : S.ek = 0
  · rw [if_pos h1]
    by_cases h2 : okO [] k c = true
    · rw [if_pos h2, if_pos rfl]
      have h3 := h2
      unfold okO at h3
      simp only [Bool.and_eq_true] at h3
      have h4 : k ≠ 0 ∧ InI k ∧ InI c := by
        unfold InI
        rcases okE_cases h3.1.2 with ⟨rfl, _, _⟩ | ⟨rfl, rfl | rfl⟩ | ⟨rfl | rfl, rfl⟩ <;> omega
      exact ⟨h.mod, h.lo, h.hi, h.al, h.flo, h.len, h.bd, h.fuel0, h.fuel1, h.fn, h.at0, h.at1, fun e => absurd e h4.1, h.pc0, h.pc1, h.deep, h.link, h.few, h4.2⟩
    · rw [if_neg h2, if_neg (by decide)]; exact h
  · rw [if_neg h1, if_neg (by decide)]; exact h
theorem SpV.ok.getbS (h : S.ok) (hf : S.done.length < 100000) : S.getbS.ok := by
  unfold SpV.getbS
  split
  · exact ⟨h.mod, h.lo, h.hi, h.al, h.flo, h.len, h.bd, h.fuel0, h.fuel1, h.fn, h.at0, h.at1, h.run, h.pc0, h.pc1, h.deep, h.link, by simp; omega, h.ends⟩
  · exact h
theorem SpV.ok.putbS (h : S.ok) (hf : S.done.length < 100000) (b : Int) : (S.putbS b).ok := by
  unfold SpV.putbS
  split
  · exact ⟨h.mod, h.lo, h.hi, h.al, h.flo, h.len, h.bd, h.fuel0, h.fuel1, h.fn, h.at0, h.at1, h.run, h.pc0, h.pc1, h.deep, h.link, by simp; omega, h.ends⟩
  · exact h
theorem SpV.ok.retS (h : S.ok) (v : Int) : (S.retS v).ok := by
  unfold SpV.retS
  split
  · rename_i hr
    split
    · exact ⟨h.mod, h.lo, h.hi, h.al, h.flo, h.len, h.bd, h.fuel0, h.fuel1, h.fn, h.at0, h.at1, fun e => absurd e (show ¬ (1 : Int) = 0 by decide), h.pc0, h.pc1, h.deep, h.link, h.few, by unfold InI; have := Int.emod_nonneg v (show (256 : Int) ≠ 0 by decide); have := Int.emod_lt_of_pos v (show (0 : Int) < 256 by decide); show _ ∧ _ ∧ _; constructor <;> simp only [] <;> omega⟩
    · rename_i l hl
      obtain ⟨h1, h2, h3, h4⟩ := h.link l (List.mem_of_getLast? hl)
      simp [placeB] at h2
      have h5 := flo_bd h.mod
      have h6 := h1.lo
      have h7 := h1.hi
      have h8 := (fs_bd (fnV S.m l.f).regs (fnV S.m l.f).area).1
      have h9 := h.hi
      exact ⟨h.mod, h.lo, h.hi, h.al, h.flo, storeL_len.trans h.len, h.bd, h.fuel0, h.fuel1, h1.fn, by show 16 ≤ l.at_; omega, by show l.at_ ≤ 65536; omega, fun e => ⟨(h.run e).1, h1⟩, h2.1, h2.2, by show S.links.dropLast.length ≤ 256; have := h.deep; simp; omega, fun k hk => h.link k (List.dropLast_subset _ hk), h.few, h.ends⟩
  · exact h
theorem passL_len : ∀ (l : List Int) (i : Nat) (mem : List Int) (a b : Int), (passL mem a b i l).length = mem.length
  | [], _, _, _, _ => rfl
  | x :: l, i, mem, a, b => by simp only [passL]; rw [passL_len l, storeL_len]
theorem setsL_len : ∀ (l : List Int) (i : Nat) (mem : List Int) (b : Int), (setsL mem b i l).length = mem.length
  | [], _, _, _ => rfl
  | x :: l, i, mem, b => by simp only [setsL]; rw [setsL_len l, storeL_len]
theorem push_fr {m : ModV} {size f : Nat} {x : Int} (hm : m.err = 0) (hf : f < m.funcs.length) (hs : size ≤ 65536) (hx : x ≤ size) (he : pushE x (fnV m f).regs (fnV m f).area (floV m) = 0) :
    FrOk m size f (pushV x (fnV m f).regs (fnV m f).area (floV m)) ∧ pushV x (fnV m f).regs (fnV m f).area (floV m) + fsV (fnV m f).regs (fnV m f).area = x := by
  have h1 := fs_fn hm hf
  have h2 := flo_bd hm
  have e : pushV x (fnV m f).regs (fnV m f).area (floV m) = x - fsV (fnV m f).regs (fnV m f).area := by unfold pushV; rw [if_pos he]
  unfold pushE at he
  rw [if_pos h1.2.2.2] at he
  split at he
  · rename_i hed
    simp only [Bool.and_eq_true] at hed
    have h3 := edge_iff.1 hed.1
    split at he
    · omega
    · rw [e]
      exact ⟨⟨hf, by omega, by omega, by omega⟩, by omega⟩
  · omega
theorem SpV.ok.at_le (h : S.ok) (hr : S.ek = 0) : S.at_ ≤ S.size := by
  have h1 := (h.run hr).2.hi
  have h2 := (fs_bd (fnV S.m S.f).regs (fnV S.m S.f).area).1
  omega
theorem fit_iff {f : Int} {n : Nat} : S.fitB f n = true ↔ 0 ≤ f ∧ f < S.m.funcs.length ∧ (n : Int) = (fnV S.m f.toNat).params := by
  simp [SpV.fitB, and_assoc]
theorem callE_zero {f : Int} {args : List Int} {res back : Int} (h : S.callE f args res back = 0) : S.ek = 0 ∧ S.fitB f args.length = true ∧ (∀ a ∈ args, S.regB a = true) ∧ S.regB res = true ∧ placeB back = true := by
  unfold SpV.callE at h
  split at h
  · split at h
    · split at h
      · rename_i h1 h2 h3
        simp only [Bool.and_eq_true, List.all_eq_true] at h3
        exact ⟨h1, h2, h3.1, h3.2.1, h3.2.2⟩
      · omega
    · omega
  · omega
theorem SpV.ok.callS (h : S.ok) (f : Int) (args : List Int) (res back : Int) : (S.callS f args res back).ok := by
  unfold SpV.callS
  split
  · rename_i he
    obtain ⟨h1, h2, h3, h4, h5⟩ := callE_zero he
    split
    · exact ⟨h.mod, h.lo, h.hi, h.al, h.flo, h.len, h.bd, h.fuel0, h.fuel1, h.fn, h.at0, h.at1, fun e => absurd e (show ¬ (3 : Int) = 0 by decide), h.pc0, h.pc1, h.deep, h.link, h.few, by unfold InI; show _ ∧ _; exact ⟨by simp, h.ends.2⟩⟩
    · rename_i ho
      simp [SpV.outB] at ho
      obtain ⟨f1, f2, f3⟩ := fit_iff.1 h2
      have hfl : f.toNat < S.m.funcs.length := by omega
      obtain ⟨p1, p2⟩ := push_fr (f := f.toNat) (x := S.at_) h.mod hfl h.hi (h.at_le h1) ho.2
      have h6 := flo_bd h.mod
      have h7 := p1.lo
      have h8 := (fs_bd (fnV S.m f.toNat).regs (fnV S.m f.toNat).area).1
      have h9 := h.at1
      have hd := h.deep
      refine ⟨h.mod, h.lo, h.hi, h.al, h.flo, (passL_len _ _ _ _ _).trans h.len, h.bd, h.fuel0, h.fuel1, hfl, ?_, ?_, fun e => ⟨(h.run e).1, p1⟩, by simp, by simp, ?_, ?_, h.few, h.ends⟩
      · show 16 ≤ S.newAt f.toNat; unfold SpV.newAt; omega
      · show S.newAt f.toNat ≤ 65536; unfold SpV.newAt; omega
      · show (S.links ++ [_]).length ≤ 256; simp; have := ho.1; omega
      · intro l hl
        rcases List.mem_append.1 hl with hl | hl
        · exact h.link l hl
        · simp at hl
          subst hl
          simp [SpV.regB] at h4
          exact ⟨(h.run h1).2, h5, h4.1, h4.2⟩
  · exact h
end
theorem layB_len {xs ys : List Int} {a : Int} (h : 0 ≤ a) : (layB xs a ys).length = xs.length := by
  unfold layB
  split
  · rename_i h1
    obtain ⟨h2, h3, h4, h5⟩ := accE_zero h1
    exact layL_len (by omega)
  · rfl
theorem newE15_zero {m : ModV} {n fuel : Int} (h : newE15 m n fuel = 0) : 0 ≤ fuel ∧ fuel ≤ 10000000 ∧ 16 ≤ n ∧ n ≤ 65536 ∧ n % 16 = 0 ∧ m.err = 0 ∧ floV m ≤ n := by
  unfold newE15 at h
  split at h
  · omega
  · rename_i h1
    split at h
    · omega
    · simp only [not_or] at h1
      obtain ⟨a, b, c, d⟩ := h1
      simp [sizeB] at c
      exact ⟨by omega, by omega, by omega, by omega, by omega, by omega, by omega⟩
theorem newS_ok {m : ModV} {n : Nat} {inp : List Int} {fuel : Int} (h : newE15 m n fuel = 0) (hb : ∀ x ∈ inp, 0 ≤ x ∧ x < 256) : (newS m n inp fuel).ok := by
  obtain ⟨h1, h2, h3, h4, h5, h6, h7⟩ := newE15_zero h
  have hf := (err_funs h6).2.1
  have hl : (layB (List.replicate n (0 : Int)) 16 m.data).length = n := by rw [layB_len (by decide)]; simp
  have hn : n ≤ 65536 := by omega
  unfold newS
  split
  · rename_i he
    obtain ⟨p1, p2⟩ := push_fr (f := 0) (x := n) (size := n) h6 (by omega) hn (by omega) he
    have h8 := flo_bd h6
    have h9 := p1.lo
    have h10 := (fs_bd (fnV m 0).regs (fnV m 0).area).1
    have en : (new0 m n inp fuel).newAt 0 = pushV (n : Int) (fnV m 0).regs (fnV m 0).area (floV m) := rfl
    exact ⟨h6, by show 16 ≤ n; omega, hn, by show n % 16 = 0; omega, h7, hl, hb, h1, h2, by show 0 < m.funcs.length; omega, by show 16 ≤ (new0 m n inp fuel).newAt 0; rw [en]; omega, by show (new0 m n inp fuel).newAt 0 ≤ 65536; rw [en]; omega, fun _ => ⟨rfl, p1⟩, by show (0 : Int) ≤ 0; omega, by show (0 : Int) < 4096; omega, by show 0 ≤ 256; omega, fun l hl => (by cases hl), by show 0 ≤ 100000; omega, by unfold InI new0; simp⟩
  · exact ⟨h6, by show 16 ≤ n; omega, hn, by show n % 16 = 0; omega, h7, hl, hb, h1, h2, by show 0 < m.funcs.length; omega, by show (16 : Int) ≤ n; omega, by show (n : Int) ≤ 65536; omega, fun e => absurd e (show ¬ (3 : Int) = 0 by decide), by show (0 : Int) ≤ 0; omega, by show (0 : Int) < 4096; omega, by show 0 ≤ 256; omega, fun l hl => (by cases hl), by show 0 ≤ 100000; omega, by unfold InI new0; simp⟩
end Go.Proofs.YtkfdgpgildanbaaGreat
namespace Go.Proofs.YtkfdgpgildanbaaGreat
open Go.RowKit
set_option linter.unusedVariables false
set_option linter.unusedSimpArgs false
section
variable {base : Nat} {W W' : World} {X : Value} {xs : List Int}
theorem OwnB.blk (h : OwnB base W X xs) {g : Nat} (hg : X.ownBlock = some g) : ∃ cur, W.heap[g]? = some (.cells cur 5 (0, 0)) := by
  rcases h.2.2 with ⟨rfl, _⟩ | ⟨g', off, cap, cur, rfl, h2, h3, h4, h5⟩
  · simp [Value.ownBlock] at hg
  · simp [Value.ownBlock] at hg
    subst hg
    exact ⟨_, h4⟩
theorem OwnB.but' {R : Nat → Prop} (h : OwnB base W X xs) (hb : But R W W') (hr : ∀ g, X.ownBlock = some g → ¬ R g) : OwnB base W' X xs := by
  refine ⟨h.1, h.2.1, ?_⟩
  rcases h.2.2 with h0 | ⟨g, off, cap, cur, h1, h2, h3, h4, h5⟩
  · exact .inl h0
  · exact .inr ⟨g, off, cap, cur, h1, h2, h3, hb.heap h4 (hr g (by rw [h1]; rfl)), h5⟩
theorem OwnB.low (h : OwnB base W X xs) {g : Nat} (hg : X.ownBlock = some g) : base ≤ g := by
  rcases h.2.2 with ⟨rfl, _⟩ | ⟨g', off, cap, cur, rfl, h2, h3, h4, h5⟩
  · simp [Value.ownBlock] at hg
  · simp [Value.ownBlock] at hg
    subst hg
    exact h3
end
def TapeDone15 (base tb : Nat) (w : World) (X V : Value) (v : Value) (xs : List Int) (L : List (Int × Int)) (e : Ending) (w' : World) : Prop :=
  ∃ X' V', e = .returned v ∧ Tape14 base w' tb X' V' xs L ∧ Wt14 tb V V' w w' ∧ X'.ownBlock = X.ownBlock
set_option maxRecDepth 100000 in
set_option maxHeartbeats 4000000 in
theorem put15 {base tb : Nat} {w : World} {X V : Value} {xs : List Int} {L : List (Int × Int)} (h : Tape14 base w tb X V xs L) (hb : base ≤ w.heap.size) (hf : L.length < 100000) (b : Int) :
    Calls Tryz.prog 108 #[.pointer (some ⟨tb, 0, none⟩), .int .i64 b] w (TapeDone15 base tb w X V (.int .i64 0) xs (L ++ [(2, b % 256)])) := by
  have hr := refusal14 h hf
  have HR := Lib.hid hr
  obtain ⟨c0, c1, c2⟩ := h.cells
  obtain ⟨A, cap, hVe⟩ := owns_len14 h.done
  subst hVe
  have H := Lib.hid h
  have HB := Lib.hid hb
  have HF := Lib.hid hf
  have hu := u8_mod14 b
  have HO : Hid (Owns w base 182 2 AnyC14 (.slice A L.length cap) L.length (cellsD L)) := Lib.hid h.done
  clear h hb hf hr
  go_enter Tryz.func108, Tryz.ntmps108
  go_wp2_with (first
    | (go_at_call 158; (with_reducible refine HR.out.mono ?_); rintro e w' ⟨rfl, rfl⟩)
    | (at_builtin; refine wpList_deed rfl (.tmp 15) (.tmp 20) rfl Tryz.underlying177 rfl rfl rfl HO.out HB.out (by have := HF.out; omega) ?_; intro V' W' hM; have HP := Lib.hid (H.out.more hM HF.out); have hbx := (hM.blk _ H.out.lt H.out.ne).trans H.out.box; obtain ⟨d0, d1, d2⟩ := cells3_14 hbx; have g2 := frozen_of_row W' tb 2 _ _ hbx; obtain ⟨A', cap', hVe⟩ := owns_len14 hM.own; subst hVe; clear hM hbx))
  go_ret
  exact ⟨_, _, rfl, HP.out.1, HP.out.2, rfl⟩
set_option maxRecDepth 100000 in
set_option maxHeartbeats 4000000 in
theorem getEnd15 {base tb : Nat} {w : World} {X V : Value} {L : List (Int × Int)} (h : Tape14 base w tb X V [] L) (hb : base ≤ w.heap.size) (hf : L.length < 100000) :
    Calls Tryz.prog 102 #[.pointer (some ⟨tb, 0, none⟩)] w (TapeDone15 base tb w X V (.tuple #[.int .i64 (-1), .int .i64 0]) [] (L ++ [(1, -1)])) := by
  have hr := refusal14 h hf
  have HR := Lib.hid hr
  obtain ⟨c0, c1, c2⟩ := h.cells
  obtain ⟨A, cap, hVe⟩ := owns_len14 h.done
  obtain ⟨XA, xcap, hXe⟩ := h.left.len
  subst hVe hXe
  have H := Lib.hid h
  have HB := Lib.hid hb
  have HF := Lib.hid hf
  have HO : Hid (Owns w base 182 2 AnyC14 (.slice A L.length cap) L.length (cellsD L)) := Lib.hid h.done
  clear h hb hf hr
  simp only [List.length_nil] at c1
  go_enter Tryz.func102, Tryz.ntmps102
  go_wp2_with (first
    | (go_at_call 158; (with_reducible refine HR.out.mono ?_); rintro e w' ⟨rfl, rfl⟩)
    | (at_builtin; refine wpList_deed rfl (.tmp 36) (.tmp 39) rfl Tryz.underlying177 rfl rfl rfl HO.out HB.out (by have := HF.out; omega) ?_; intro V' W' hM; have HP := Lib.hid (H.out.more hM HF.out); have hbx := (hM.blk _ H.out.lt H.out.ne).trans H.out.box; obtain ⟨d0, d1, d2⟩ := cells3_14 hbx; have g2 := frozen_of_row W' tb 2 _ _ hbx; obtain ⟨A', cap', hVe⟩ := owns_len14 hM.own; subst hVe; clear hM hbx))
  go_ret2
  exact ⟨_, _, rfl, HP.out.1, HP.out.2, rfl⟩
set_option maxRecDepth 100000 in
set_option maxHeartbeats 4000000 in
theorem getMore15 {base tb : Nat} {w : World} {X V : Value} {x : Int} {ys : List Int} {L : List (Int × Int)} (h : Tape14 base w tb X V (x :: ys) L) (hb : base ≤ w.heap.size) (hf : L.length < 100000) :
    Calls Tryz.prog 102 #[.pointer (some ⟨tb, 0, none⟩)] w (TapeDone15 base tb w X V (.tuple #[.int .i64 x, .int .i64 0]) ys (L ++ [(1, x)])) := by
  have hr := refusal14 h hf
  have HR := Lib.hid hr
  obtain ⟨c0, c1, c2⟩ := h.cells
  obtain ⟨A, cap, hVe⟩ := owns_len14 h.done
  obtain ⟨g, off, xcap, hXe, hcp, hx0, hnx⟩ := h.left.first
  obtain ⟨o', ho'⟩ : ∃ o', o' = if xcap = 1 then off else off + 1 := ⟨_, rfl⟩
  have hsl := slice_one14 g off ys.length xcap o' hcp ho'
  subst hVe hXe
  have hxb := h.left.2.1 x (List.mem_cons_self ..)
  have x0 : 0 ≤ x := hxb.1
  have x1 : x < 256 := hxb.2
  have H1 := Lib.hid (h.next (X' := .slice (some ⟨g, o', none⟩) ys.length (xcap - 1)) (fun W' hW => hnx W' o' (fun hc => by rw [ho', if_neg hc]) (hW g)))
  have HSZ : Hid (base ≤ (w.setCell ⟨tb, 1, none⟩ (.slice (some ⟨g, o', none⟩) ys.length (xcap - 1))).heap.size) := Lib.hid (by simpa [World.setCell] using hb)
  have HF := Lib.hid hf
  have HO : Hid (Owns (w.setCell ⟨tb, 1, none⟩ (.slice (some ⟨g, o', none⟩) ys.length (xcap - 1))) base 182 2 AnyC14 (.slice A L.length cap) L.length (cellsD L)) := Lib.hid H1.out.done
  have HW : Hid (But (fun k => k = tb ∨ (Value.slice A L.length cap).ownBlock = some k) w (w.setCell ⟨tb, 1, none⟩ (.slice (some ⟨g, o', none⟩) ys.length (xcap - 1)))) := Lib.hid ((But.refl _ w).setCell (p := ⟨tb, 1, none⟩) (.inl (.inl rfl)) _)
  obtain ⟨e0, e1, e2⟩ := H1.out.cells
  have g1 := h.free 1
  have hlen : (0 : Int) < ((ys.length + 1 : Nat) : Int) := by omega
  have hyl := h.left.1
  simp only [List.length_cons] at c1 hyl
  clear h hb hf hr hnx hcp ho' hxb
  generalize ys.length = n at *
  go_enter Tryz.func102, Tryz.ntmps102
  go_wp2_with (first
    | (go_at_call 158; (with_reducible refine HR.out.mono ?_); rintro e w' ⟨rfl, rfl⟩)
    | (at_builtin; refine wpList_deed rfl (.tmp 36) (.tmp 39) rfl Tryz.underlying177 rfl rfl (by simp [World.setCell]) HO.out HSZ.out (by have := HF.out; omega) ?_; intro V' W' hM; have HP := Lib.hid (H1.out.more hM HF.out); have hbx := (hM.blk _ H1.out.lt H1.out.ne).trans H1.out.box; obtain ⟨d0, d1, d2⟩ := cells3_14 hbx; have g2 := frozen_of_row W' tb 2 _ _ hbx; obtain ⟨A', cap', hVe⟩ := owns_len14 hM.own; subst hVe; clear hM hbx))
  go_ret2
  exact ⟨_, _, rfl, HP.out.1, ⟨HW.out.trans HP.out.2.but, by have h := HP.out.2.whr; simpa [World.setCell] using h⟩, rfl⟩
theorem tape_any15 {base tb : Nat} {w : World} {X V : Value} {xs : List Int} {L : List (Int × Int)} (h : Tape14 base w tb X V xs L) (hb : base ≤ w.heap.size) (hf : L.length < 100000) :
    Calls Tryz.prog 102 #[.pointer (some ⟨tb, 0, none⟩)] w (TapeDone15 base tb w X V (.tuple #[.int .i64 (hd15 xs), .int .i64 0]) xs.tail (L ++ [(1, hd15 xs)])) := by
  cases xs with
  | nil => exact getEnd15 h hb hf
  | cons x ys => exact getMore15 h hb hf
structure RT15 (W : World) (b rb : Nat) (X V : Value) (xs : List Int) (k : Nat) (L : List (Int × Int)) : Prop where
  box : W.heap[rb]? = some (.cells #[X, .int .i64 k, V] 127 (0, 0))
  own : OwnB 0 W X xs
  low : ∀ g, X.ownBlock = some g → g < b
  done : Owns W b 182 2 AnyC14 V L.length (cellsD L)
  few : L.length ≤ 100000
  le : k ≤ xs.length
  rb : b ≤ rb
section
variable {W W' : World} {b rb : Nat} {X V : Value} {xs : List Int} {k : Nat} {L : List (Int × Int)}
theorem RT15.toR (h : RT15 W b rb X V xs k L) : RTape14 b W rb X V xs k L := by
  refine ⟨h.box, ?_, h.done, h.few, h.le, h.rb⟩
  refine ⟨h.own.2.1, by have := h.own.1; unfold maxLen; omega, ?_⟩
  rcases h.own.2.2 with h0 | ⟨g, off, cap, cur, h1, h2, h3, h4, h5⟩
  · exact .inl h0
  · refine .inr ⟨_, cap, h1, h2, fun _ => h.low g (by rw [h1]; rfl), fun i hi => ?_⟩
    have e : (⟨g, off, none⟩ : Addr).add i = ⟨g, off + i, none⟩ := by unfold Addr.add; split <;> simp_all
    rw [e, cell_of_row _ _ _ _ _ _ h4]
    exact h5 i hi
theorem RT15.but {R : Nat → Prop} (h : RT15 W b rb X V xs k L) (hb : But R W W') (h1 : ¬ R rb) (h2 : ∀ g, X.ownBlock = some g → ¬ R g) (h3 : ∀ g, V.ownBlock = some g → ¬ R g) : RT15 W' b rb X V xs k L :=
  ⟨hb.heap h.box h1, h.own.but' hb h2, h.low, h.done.but hb h3, h.few, h.le, h.rb⟩
theorem RT15.ofR {V' : Value} {k' : Nat} {L' : List (Int × Int)} (h : RT15 W b rb X V xs k L) (hR : RTape14 b W' rb X V' xs k' L') (hw : Wt14 rb V V' W W') : RT15 W' b rb X V' xs k' L' := by
  refine ⟨hR.box, h.own.but' hw.but (fun g hg => ?_), h.low, hR.done, hR.few, hR.le, hR.rb⟩
  obtain ⟨c, hc⟩ := h.own.blk hg
  rintro (rfl | e)
  · exact types14 hc h.box (by decide)
  · obtain ⟨_, c', hc'⟩ := typed14 h.done e
    exact types14 hc hc' (by decide)
end
def RTDone15 (W : World) (b rb : Nat) (X V : Value) (v : Value) (xs : List Int) (k : Nat) (L : List (Int × Int)) (e : Ending) (W' : World) : Prop :=
  ∃ V', e = .returned v ∧ RT15 W' b rb X V' xs k L ∧ Wt14 rb V V' W W'
theorem rput15 {W : World} {b rb : Nat} {X V : Value} {xs : List Int} {k : Nat} {L : List (Int × Int)} (h : RT15 W b rb X V xs k L) (hf : L.length < 100000) (n : Int) :
    Calls Tryz.prog 153 #[.pointer (some ⟨rb, 0, none⟩), .int .i64 n] W (RTDone15 W b rb X V (.int .i64 0) xs k (L ++ [(2, n % 256)])) := by
  refine (rput14 h.toR hf n).mono ?_
  rintro e W' ⟨V', rfl, hR, hw⟩
  exact ⟨V', rfl, h.ofR hR hw, hw⟩
theorem rget15 {W : World} {b rb : Nat} {X V : Value} {xs : List Int} {k : Nat} {L : List (Int × Int)} (h : RT15 W b rb X V xs k L) (hf : L.length < 100000) (hl : xs.length ≤ 1000000) :
    ∃ k', xs.drop k' = (xs.drop k).tail ∧ Calls Tryz.prog 152 #[.pointer (some ⟨rb, 0, none⟩)] W (RTDone15 W b rb X V (.tuple #[.int .i64 (hd15 (xs.drop k)), .int .i64 0]) xs k' (L ++ [(1, hd15 (xs.drop k))])) := by
  by_cases hk : k < xs.length
  · have e : xs.drop k = xs.getD k 0 :: xs.drop (k + 1) := by
      rw [List.drop_eq_getElem_cons hk]; simp [List.getD, List.getElem?_eq_getElem hk]
    refine ⟨k + 1, by rw [e]; rfl, ?_⟩
    rw [e]
    refine (rgetMore14 h.toR hf hk hl).mono ?_
    rintro e W' ⟨V', rfl, hR, hw⟩
    exact ⟨V', rfl, h.ofR hR hw, hw⟩
  · have e : xs.drop k = [] := List.drop_eq_nil_of_le (by omega)
    refine ⟨k, by rw [e]; rfl, ?_⟩
    rw [e]
    refine (rgetEnd14 h.toR hf hk hl).mono ?_
    rintro e W' ⟨V', rfl, hR, hw⟩
    exact ⟨V', rfl, h.ofR hR hw, hw⟩
end Go.Proofs.YtkfdgpgildanbaaGreat
