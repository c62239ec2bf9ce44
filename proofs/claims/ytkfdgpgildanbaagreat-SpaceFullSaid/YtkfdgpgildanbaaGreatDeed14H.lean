/- The deeds of a record, passed on one behind the other; is a record valid? Contracts; no condition but that the record lies in memory. -/
import Derived.Test.YtkfdgpgildanbaaGreatDeed14G
namespace Go.Proofs.YtkfdgpgildanbaaGreat
open Go.RowKit
set_option linter.unusedVariables false
set_option linter.unusedSimpArgs false

theorem all14 (V : Value) (A : Option Addr) (n c : Nat) (hV : V = .slice A n c) (w : World) : Calls Tryz.prog 178 #[V] w fun e w' =>
    e = .returned (.func (.func 200) #[] #[.pointer (some ⟨w.heap.size, 0, none⟩)]) ∧ w.alloc (.cells #[V] 177) = w' := by
  subst hV
  go_enter Tryz.func178, Tryz.ntmps178
  go_wp2
  go_ret
  simp
/-- What the iterator does between two rounds: it makes boxes. -/
def Mv14 (A B : World) : Prop := ∃ c t, B = A.alloc (.cells c t)
/-- What a round keeps: the block of the deeds. -/
def Kp14 (g b : Nat) (A B : World) : Prop := (g < b → g < A.heap.size → B.heap[g]? = A.heap[g]?) ∧ A.heap.size ≤ B.heap.size
theorem Kp14.trans {g b : Nat} {A B C : World} (h : Kp14 g b A B) (k : Kp14 g b B C) : Kp14 g b A C := ⟨fun e e2 => (k.1 e (Nat.lt_of_lt_of_le e2 h.2)).trans (h.1 e e2), Nat.le_trans h.2 k.2⟩
theorem Mv14.kp {g b : Nat} {A B : World} (h : Mv14 A B) : Kp14 g b A B := by
  obtain ⟨c, t, rfl⟩ := h
  exact ⟨fun _ e => Below.heap_alloc _ _ _ e, by simp⟩
theorem Mv14.book {A B : World} {k : Nat} {o : Obj} (h : Mv14 A B) (hk : A.heap[k]? = some o) : B.heap[k]? = some o := by
  obtain ⟨c, t, rfl⟩ := h
  exact (Below.heap_alloc _ _ _ (heap_lt hk)).trans hk
theorem Mv14.below {A B : World} (h : Mv14 A B) : Below A.heap.size A B := by
  obtain ⟨c, t, rfl⟩ := h
  exact (Below.refl _ _).alloc (Nat.le_refl _) _
theorem kp_put14 {g b c : Nat} (hb : b ≤ c) (A : World) (l : Nat) (o' : Obj) (hl : c ≤ l) : Kp14 g b A (A.putObj l o') := ⟨fun e _ => World.putObj_heap_other (by omega), by simp [World.putObj]⟩
/-- Deeds at a place. -/
structure DAt (g off b : Nat) (A : Option Addr) (L : List (Int × Int)) (W : World) : Prop where
  at' : 0 < L.length → A = some ⟨g, off, none⟩ ∧ g < b
  le : b ≤ W.heap.size
  cells : ∀ i, i < L.length → W.cell? ⟨g, off + i * 2, none⟩ = some (.int .i64 (L.getD i (0, 0)).1) ∧ W.cell? ⟨g, off + i * 2 + 1, none⟩ = some (.int .i64 (L.getD i (0, 0)).2)
theorem DAt.kp {g off b : Nat} {A : Option Addr} {L : List (Int × Int)} {W W' : World} (h : DAt g off b A L W) (k : Kp14 g b W W') : DAt g off b A L W' :=
  ⟨h.at', Nat.le_trans h.le k.2, fun i hi => by
    have hg := (h.at' (by omega)).2
    rw [World.cell?_of_block (w := W) (a := ⟨g, off + i * 2, none⟩) (k.1 hg (Nat.lt_of_lt_of_le hg h.le)), World.cell?_of_block (w := W) (a := ⟨g, off + i * 2 + 1, none⟩) (k.1 hg (Nat.lt_of_lt_of_le hg h.le))]
    exact h.cells i hi⟩
theorem kp_alloc14 {g b : Nat} {W : World} (hb : b ≤ W.heap.size) (o : Obj) : Kp14 g b W (W.alloc o) := ⟨fun e _ => Below.heap_alloc _ _ _ (by omega), by simp⟩
theorem DAt.alloc {g off b : Nat} {A : Option Addr} {L : List (Int × Int)} {W : World} (h : DAt g off b A L W) (o : Obj) : DAt g off b A L (W.alloc o) := h.kp (kp_alloc14 h.le o)
theorem IsDeeds.dat {w : World} {B : Nat} {V : Value} {L : List (Int × Int)} (h : IsDeeds w B V L) (hB : B ≤ w.heap.size) : ∃ g off A cap, V = .slice A L.length cap ∧ L.length ≤ cap ∧ DAt g off B A L w := by
  by_cases hn : 0 < L.length
  · obtain ⟨b, off, cap, h1, h2, h3, h4⟩ := h.plain hn
    exact ⟨b, off, _, cap, h1, h2, fun _ => ⟨rfl, h3⟩, hB, h4⟩
  · obtain ⟨A, cap, h1, h2⟩ := h.len
    exact ⟨0, 0, A, cap, h1, h2, fun h => absurd h hn, hB, fun i hi => absurd hi (by omega)⟩
set_option maxRecDepth 100000 in
set_option maxHeartbeats 4000000 in
theorem all14_moves (n : Nat) (hn : 3 ≤ n) (vb g off cap b : Nat) (A : Option Addr) (L : List (Int × Int)) (hc : L.length ≤ cap) (hl : L.length ≤ maxLen) (W : World) (hv : W.heap[vb]? = some (.cells #[.slice A L.length cap] 177 (0, 0))) (hD : DAt g off b A L W) :
    SeqMoves Fence.wide n Tryz.prog 200 #[.pointer (some ⟨vb, 0, none⟩)] (fun d : Int × Int => #[.agg #[.int .i64 d.1, .int .i64 d.2]]) Mv14 (Kp14 g b) (fun l => l = L) (fun l => ∃ t, L = l ++ t) W := by
  intro l J X hJ hX hY h0
  have h1 : 1 ≤ n := by omega
  have v0 := cells1_14 hv
  unfold maxLen at hl
  have HD := Lib.hid hD
  obtain ⟨m, hm⟩ : ∃ m, m = L.length := ⟨_, rfl⟩
  have HM := Lib.hid hm
  have H0 := Lib.hid h0
  rw [← hm] at v0 hl hc
  clear hm hv hD h0
  refine callsIn_of_wp Tryz.func200 rfl trivial ?_ rfl
  simp only [Tryz.ntmps200, List.size_toArray, List.length_cons, List.length_nil, Nat.reduceAdd, Nat.reduceSub, Array.replicate_succ, Array.replicate_zero, List.push_toArray, List.append_toArray, List.nil_append, List.cons_append]
  gi_wp2
  gi_loopw [4, 7] (fun _ v7 wr => ∃ i : Nat, v7 = .int .i64 i ∧ i ≤ m ∧ Hid (J (L.take i) wr ∧ DAt g off b A L wr)) (fun _ v7 _ => m - (intOf v7).toNat)
  case atStart => exact ⟨0, rfl, by omega, Lib.hid ⟨H0.out, HD.out⟩⟩
  case round =>
    obtain ⟨i, rfl, hib, HR⟩ := hrel
    by_cases hi : i < m
    · have hiL : (i : Int) < (m : Int) := by omega
      have hi0 : (0 : Int) ≤ (i : Int) := by omega
      have hlt : i < L.length := by rw [← HM.out]; exact hi
      obtain ⟨hA, hg⟩ := HR.out.2.at' (by omega)
      subst hA
      obtain ⟨c0, c1⟩ := HR.out.2.cells i hlt
      obtain ⟨⟨x, y⟩, hx⟩ : ∃ d, d = L.getD i (0, 0) := ⟨_, rfl⟩
      rw [← hx] at c0 c1
      dsimp only at c0 c1
      have HT := Lib.hid (take_snoc14 hlt)
      rw [← hx] at HT
      have HJd := Lib.hid (hJ _ _ _ ⟨#[.int .i64 x, .int .i64 y], 182, rfl⟩ HR.out.1)
      have HDA := Lib.hid (HR.out.2.alloc (.cells #[.int .i64 x, .int .i64 y] 182))
      obtain ⟨fn, tmps, assign, body, hy, hR⟩ := hY (L.take i) (x, y) _ HJd.out ⟨L.drop (i + 1), by rw [← HT.out, List.take_append_drop]⟩
      try dsimp only at hy
      obtain ⟨z0, z1⟩ := cells2_14 (heap_alloc_new wr (.cells #[.int .i64 x, .int .i64 y] 182))
      have HIm := Lib.hid (And.intro hi hg)
      clear hx hlt hg hi
      gi_wp2
      refine hR.mono ?_
      rintro e W' (⟨rfl, hJ', hk⟩ | ⟨rfl, hX'⟩)
      · have HJ' := Lib.hid hJ'
        have HS := Lib.hid (HDA.out.kp hk)
        clear hJ' hk c0 c1
        gi_wp2
        go_roundw
        case rel => exact ⟨i + 1, by go_num, HIm.out.1, Lib.hid ⟨by rw [HT.out]; exact HJ'.out, HS.out⟩⟩
        case measure => have := HIm.out.1; simp [intOf]; omega
      · have HX' := Lib.hid hX'
        clear hX'
        gi_wp2
        refine bodyPost_ret (results_none rfl _ _ _) rfl ?_
        exact ⟨⟨_, rfl⟩, .inr ⟨_, ⟨L.drop (i + 1), by rw [← HT.out, List.take_append_drop]⟩, HX'.out⟩⟩
    · have hiL : ¬ (i : Int) < (m : Int) := by omega
      have HE : Hid (L.take i = L) := Lib.hid (List.take_of_length_le (by rw [← HM.out]; omega))
      clear hi
      gi_wp2
      go_end0
      exact ⟨⟨_, rfl⟩, .inl (by have h := HR.out.1; rw [HE.out] at h; exact h)⟩
end Go.Proofs.YtkfdgpgildanbaaGreat
