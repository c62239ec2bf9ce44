import Derived.Test.YtkfdgpgildanbaaGreatRows
import Derived.Test.YtkfdgpgildanbaaGreatSp15Q
import Derived.Deep.Slices
import Derived.ChangeSame
import Derived.ChangeShapes
import Derived.WideShapes
namespace Go.Proofs.YtkfdgpgildanbaaGreat
open Go.RowKit Go.ChangeShapes Go.WideShapes
set_option linter.unusedVariables false
set_option maxRecDepth 100000
structure ActS where
  kind : Int
  r : Int
  n : Int
  back : Int
  v : Int
  X : Value
  args : List Int
  ek : Int
  ec : Int
def ActS.cell (A : ActS) : Nat → Value
  | 0 => .int .i64 A.kind
  | 1 => .int .i64 A.r
  | 2 => .int .i64 A.n
  | 3 => .int .i64 A.back
  | 4 => .int .u64 A.v
  | 5 => A.X
  | 6 => .int .i64 A.ek
  | _ => .int .i64 A.ec
def ActS.cells (A : ActS) : List Value := [.int .i64 A.kind, .int .i64 A.r, .int .i64 A.n, .int .i64 A.back, .int .u64 A.v, A.X, .int .i64 A.ek, .int .i64 A.ec]
def ActS.zero : ActS := ⟨0, 0, 0, 0, 0, .slice none 0 0, [], 0, 0⟩
structure ActS.ok (A : ActS) (w : World) (B : Nat) : Prop where
  k : InI A.kind
  r : InI A.r
  n : InI A.n
  back : InI A.back
  v : 0 ≤ A.v ∧ A.v < 18446744073709551616
  b : IsNums .i64 w B A.X A.args
  ain : ∀ x ∈ A.args, InI x
  e : InI A.ek ∧ InI A.ec
theorem ActS.ok.but {A : ActS} {w w' : World} {B : Nat} {R : Nat → Prop} (h : A.ok w B) (hb : But R w w') (hB : B ≤ w.heap.size) (hr : ∀ k, k < B → ¬ R k) : A.ok w' B :=
  ⟨h.k, h.r, h.n, h.back, h.v, h.b.but hb hB hr, h.ain, h.e⟩
theorem ActS.ok.below {A : ActS} {w w' : World} {B B' : Nat} (h : A.ok w B) (hb : Below B' w w') (hB : B ≤ B') : A.ok w' B :=
  ⟨h.k, h.r, h.n, h.back, h.v, h.b.below hb hB, h.ain, h.e⟩
section
variable {H : Type} {enc : TypeId × Value → H} {w : World}
theorem open_nums_in {fuel : Nat} {c : Value} {x : DataW H × List MemPlace} (h : DataW.trod enc Tryz.prog w 0 (fun _ => true) true fuel 43 [c] = some x) : ∃ zs, IsNums .i64 w w.heap.size c zs ∧ ∀ x ∈ zs, InI x := by
  rcases open_ints Tryz.underlying43 Tryz.underlying3 (by kernel_rfl) h with ⟨hcs, _⟩ | ⟨a, l, cap, zs, hcs, _, hl, hm, hz, _, hcell, hwz⟩
  · injection hcs with hcs _
    subst hcs
    exact ⟨[], ⟨by simp, .inl ⟨rfl, rfl⟩⟩, by simp⟩
  · injection hcs with hcs _
    subst hcs
    exact ⟨_, IsNums.of_cells hl hm (by simpa using hz) hcell, fun x hx => wf_i64 (hwz x (List.mem_of_mem_take hx))⟩
theorem open_act {fuel : Nat} {cs : List Value} {x : DataW H × List MemPlace} (h : DataW.trod enc Tryz.prog w 0 (fun _ => true) true fuel 47 cs = some x) : ∃ A : ActS, cs = A.cells ∧ A.ok w w.heap.size := by
  obtain ⟨xs, n, _, _, hl, hx, hf⟩ := DataW.trod_struct Tryz.underlying47 h
  have hC : Tryz.prog.cellsOf 47 = 8 := by kernel_rfl
  have c1 : Tryz.prog.cellsOf 3 = 1 := by kernel_rfl
  have c2 : Tryz.prog.cellsOf 42 = 1 := by kernel_rfl
  have c3 : Tryz.prog.cellsOf 43 = 1 := by kernel_rfl
  have c4 : Tryz.prog.cellsOf 45 = 2 := by kernel_rfl
  rw [hC] at hl
  match cs, hl with
  | [v0, v1, v2, v3, v4, v5, v6, v7], _ =>
    match xs, hx with
    | [y0, y1, y2, y3, y4, y5, y6], _ =>
      have h0 := hf 0 _ rfl
      have h1 := hf 1 _ rfl
      have h2 := hf 2 _ rfl
      have h3 := hf 3 _ rfl
      have h4 := hf 4 _ rfl
      have h5 := hf 5 _ rfl
      have h6 := hf 6 _ rfl
      simp [c1] at h0
      simp [c1] at h1
      simp [c1] at h2
      simp [c1] at h3
      simp [c2] at h4
      simp [c3] at h5
      simp [c4] at h6
      obtain ⟨k, e0, _, w0⟩ := DataW.trod_int Tryz.underlying3 h0
      obtain ⟨r, e1, _, w1⟩ := DataW.trod_int Tryz.underlying3 h1
      obtain ⟨n, e2, _, w2⟩ := DataW.trod_int Tryz.underlying3 h2
      obtain ⟨bk, e3, _, w3⟩ := DataW.trod_int Tryz.underlying3 h3
      obtain ⟨v, e4, _, w4⟩ := DataW.trod_int Tryz.underlying42 h4
      obtain ⟨zs, hz, hzi⟩ := open_nums_in (c := v5) h5
      obtain ⟨xs2, n2, _, _, hl2, hx2, hf2⟩ := DataW.trod_struct Tryz.underlying45 h6
      match xs2, hx2 with
      | [z0, z1], _ =>
        have g0 := hf2 0 _ rfl
        have g1 := hf2 1 _ rfl
        simp [c1] at g0
        simp [c1] at g1
        obtain ⟨ek, e6, _, w6⟩ := DataW.trod_int Tryz.underlying3 g0
        obtain ⟨ec, e7, _, w7⟩ := DataW.trod_int Tryz.underlying3 g1
        injection e0 with e0 _
        injection e1 with e1 _
        injection e2 with e2 _
        injection e3 with e3 _
        injection e4 with e4 _
        injection e6 with e6 _
        injection e7 with e7 _
        subst e0 e1 e2 e3 e4 e6 e7
        exact ⟨⟨k, r, n, bk, v, v5, zs, ek, ec⟩, rfl, ⟨wf_i64 w0, wf_i64 w1, wf_i64 w2, wf_i64 w3, wf_u64 w4, hz, hzi, wf_i64 w6, wf_i64 w7⟩⟩
end
def IsActS (w : World) (B : Nat) (V : Value) (l : List ActS) : Prop :=
  l.length ≤ maxLen ∧ (∀ A ∈ l, A.ok w B) ∧ ((l = [] ∧ ∃ a cap, V = .slice a 0 cap) ∨
    ∃ b off cap, V = .slice (some ⟨b, off, none⟩) l.length cap ∧ l.length ≤ cap ∧ b < B ∧ ∀ i, i < l.length → ∀ j, j < 8 → w.cell? ⟨b, off + i * 8 + j, none⟩ = some ((l.getD i .zero).cell j))
theorem IsActS.len {w : World} {B : Nat} {V : Value} {l : List ActS} (h : IsActS w B V l) : ∃ a cap, V = .slice a l.length cap := by
  rcases h.2.2 with ⟨rfl, a, cap, h⟩ | ⟨b, off, cap, h, _⟩
  · exact ⟨a, cap, h⟩
  · exact ⟨_, cap, h⟩
theorem IsActS.but {w w' : World} {B : Nat} {V : Value} {l : List ActS} {R : Nat → Prop} (h : IsActS w B V l) (hb : But R w w') (hB : B ≤ w.heap.size) (hr : ∀ k, k < B → ¬ R k) : IsActS w' B V l := by
  refine ⟨h.1, fun A hA => (h.2.1 A hA).but hb hB hr, ?_⟩
  rcases h.2.2 with h0 | ⟨b, off, cap, h1, h2, h3, h4⟩
  · exact .inl h0
  · refine .inr ⟨b, off, cap, h1, h2, h3, fun i hi j hj => ?_⟩
    rw [hb.cell (p := ⟨b, off + i * 8 + j, none⟩) (show b < _ by omega) (hr b h3)]
    exact h4 i hi j hj
theorem IsActS.below {w w' : World} {B B' : Nat} {V : Value} {l : List ActS} (h : IsActS w B V l) (hb : Below B' w w') (hB : B ≤ B') (hs : B ≤ w.heap.size) : IsActS w' B V l :=
  h.but (R := fun k => B ≤ k) ⟨hb.os, hb.tape, hb.output, hb.size, fun k hk hn => hb.block k (by omega)⟩ hs (fun k hk hn => by omega)
theorem listS_of {α : Type} {n : Nat} (d : α) {Q : Nat → α → Prop} (h : ∀ i, i < n → ∃ A, Q i A) : ∃ l : List α, l.length = n ∧ ∀ i, i < n → Q i (l.getD i d) := by
  induction n with
  | zero => exact ⟨[], rfl, fun i hi => by omega⟩
  | succ n ih =>
    obtain ⟨l, hl, hq⟩ := ih (fun i hi => h i (by omega))
    obtain ⟨A, hA⟩ := h n (by omega)
    refine ⟨l ++ [A], by simp [hl], fun i hi => ?_⟩
    by_cases e : i < n
    · have : (l ++ [A]).getD i d = l.getD i d := by simp [List.getD, List.getElem?_append_left (by omega : i < l.length)]
      rw [this]
      exact hq i e
    · obtain rfl : i = n := by omega
      have : (l ++ [A]).getD i d = A := by simp [List.getD, ← hl]
      rw [this]
      exact hA
theorem ActS.cells_cell (A : ActS) {j : Nat} (hj : j < 8) : A.cells[j]? = some (A.cell j) := by
  have : j = 0 ∨ j = 1 ∨ j = 2 ∨ j = 3 ∨ j = 4 ∨ j = 5 ∨ j = 6 ∨ j = 7 := by omega
  rcases this with rfl | rfl | rfl | rfl | rfl | rfl | rfl | rfl <;> rfl
theorem addS_twice (a : Addr) (h : a.spot = none) (i j : Nat) : (a.add i).add j = ⟨a.block, a.off + i + j, none⟩ := by
  obtain ⟨b, o, s⟩ := a
  simp only at h
  subst h
  unfold Addr.add
  split <;> split <;> simp_all [Nat.add_assoc]
theorem open_acts {H : Type} {enc : TypeId × Value → H} {w : World} {fuel : Nat} {V : Value} {x : DataW H × List MemPlace} (h : DataW.trod enc Tryz.prog w 0 (fun _ => true) true fuel 26 [V] = some x) : ∃ l, IsActS w w.heap.size V l := by
  have hC : Tryz.prog.cellsOf 47 = 8 := by kernel_rfl
  rcases Go.Deep.open_slice Tryz.underlying26 h with ⟨hcs, _⟩ | ⟨a, len, cap, m, n, D, Pl, hcs, _, hl, hm, hmm, _, hi⟩
  · injection hcs with hcs _
    subst hcs
    exact ⟨[], by simp, by simp, .inl ⟨rfl, none, 0, rfl⟩⟩
  · injection hcs with hcs _
    subst hcs
    obtain rfl : m = cap := by simpa using hmm
    by_cases h0 : len = 0
    · subst h0
      exact ⟨[], by simp, by simp, .inl ⟨rfl, some a, m, rfl⟩⟩
    have hs : a.spot = none := by
      obtain ⟨cs', hc, ht⟩ := hi 0 (by omega)
      obtain ⟨_, hlen, hcell⟩ := World.cells?_some hc
      rw [hC] at hcell hlen
      have h1 := hcell 0 (by omega)
      have e : a.add (0 * 8) = a := by simp [Addr.add]
      rw [e] at h1
      have e2 : a.add 0 = a := by simp [Addr.add]
      rw [e2, List.getElem?_eq_getElem (by omega)] at h1
      exact World.cell?_spot h1
    have hb : a.block < w.heap.size := by
      obtain ⟨cs', hc, ht⟩ := hi 0 (by omega)
      obtain ⟨_, hlen, hcell⟩ := World.cells?_some hc
      rw [hC] at hcell hlen
      have h1 := hcell 0 (by omega)
      rw [List.getElem?_eq_getElem (by omega), addS_twice a hs] at h1
      exact block_lt_of_cell (a := ⟨a.block, _, none⟩) h1
    have hq : ∀ i, i < len → ∃ A : ActS, A.ok w w.heap.size ∧ ∀ j, j < 8 → w.cell? ⟨a.block, a.off + i * 8 + j, none⟩ = some (A.cell j) := by
      intro i hil
      obtain ⟨cs', hc, ht⟩ := hi i (by omega)
      obtain ⟨A, rfl, hA⟩ := open_act ht
      obtain ⟨_, hlen, hcell⟩ := World.cells?_some hc
      refine ⟨A, hA, fun j hj => ?_⟩
      have h1 := hcell j (by rw [hC]; exact hj)
      rw [hC, addS_twice a hs, A.cells_cell hj] at h1
      exact h1
    obtain ⟨l, hll, hlq⟩ := listS_of .zero hq
    refine ⟨l, by omega, fun A hA => ?_, .inr ⟨a.block, a.off, m, ?_, by omega, hb, fun i hi j hj => (hlq i (by omega)).2 j hj⟩⟩
    · obtain ⟨i, hi, rfl⟩ := List.getElem_of_mem hA
      have := (hlq i (by omega)).1
      simpa [List.getD, List.getElem?_eq_getElem hi] using this
    · rw [hll]
      obtain ⟨b, o, s⟩ := a
      simp only at hs
      subst hs
      rfl
def longS (l : List ActS) : Bool := l.any (fun A => decide (20 < A.args.length)) || decide (50 < l.length)
theorem longS_false {l : List ActS} (h : longS l = false) : l.length ≤ 50 ∧ ∀ A ∈ l, A.args.length ≤ 20 := by
  unfold longS at h
  simp at h
  exact ⟨by omega, fun A hA => by have := h.1 A hA; omega⟩
theorem longS_at {l : List ActS} {k : Nat} (hk : k < l.length) (h : 20 < (l.getD k .zero).args.length) : longS l = true := by
  unfold longS
  simp
  left
  refine ⟨l[k], List.getElem_mem hk, ?_⟩
  simpa [List.getD, List.getElem?_eq_getElem hk] using h
theorem longS_end {l : List ActS} (h : ∀ i, i < l.length → (l.getD i .zero).args.length ≤ 20) : longS l = decide (50 < l.length) := by
  unfold longS
  have : l.any (fun A => decide (20 < A.args.length)) = false := by
    simp
    intro A hA
    obtain ⟨i, hi, rfl⟩ := List.getElem_of_mem hA
    have := h i hi
    simpa [List.getD, List.getElem?_eq_getElem hi] using this
  rw [this, Bool.false_or]
theorem longS_empty (a : Option Addr) (cap : Nat) (w : World) : Calls Tryz.prog 11 #[.slice a 0 cap] w fun e w' => e = .returned (.bool false) ∧ w = w' := by
  go_enter Tryz.func11, Tryz.ntmps11
  go_wp2
  go_loop [3] (fun i => i = .int .i64 0) (fun _ => 0)
  case atStart => rfl
  case round =>
    obtain rfl := hrel
    go_wp2
    go_ret
    exact ⟨rfl, rfl⟩
set_option maxHeartbeats 1000000 in
theorem longS_some (b off cap n : Nat) (l : List ActS) (w : World) (hn : n = l.length) (hm : n ≤ 9223372036854775807) (hcap : n ≤ cap)
    (hB : ∀ i, i < n → ∃ A c, w.cell? ⟨b, off + i * 8 + 5, none⟩ = some (.slice A (l.getD i .zero).args.length c) ∧ (l.getD i .zero).args.length ≤ 9223372036854775807) :
    Calls Tryz.prog 11 #[.slice (some ⟨b, off, none⟩) n cap] w fun e w' => e = .returned (.bool (longS l)) ∧ w = w' := by
  have HB := Lib.hid hB
  have HN := Lib.hid hn
  clear hB hn
  go_enter Tryz.func11, Tryz.ntmps11
  go_wp2
  go_loop [3] (fun i => ∃ k : Nat, k ≤ n ∧ i = .int .i64 k ∧ ∀ i, i < k → (l.getD i .zero).args.length ≤ 20) (fun i => n - (intOf i).toNat)
  case atStart => exact ⟨0, by omega, rfl, fun i hi => by omega⟩
  case round =>
    obtain ⟨k, hk, rfl, hall⟩ := hrel
    have HA := Lib.hid hall
    clear hall
    by_cases hlt : k < n
    · obtain ⟨A, c, hcell, hlen⟩ := HB.out k hlt
      obtain ⟨m, hm2⟩ : ∃ m, m = (l.getD k .zero).args.length := ⟨_, rfl⟩
      rw [← hm2] at hcell hlen
      have HM := Lib.hid hm2
      clear hm2
      by_cases hgt : 20 < m
      · have e := longS_at (l := l) (k := k) (by rw [← HN.out]; exact hlt) (by rw [← HM.out]; exact hgt)
        have E := Lib.hid e
        clear e
        go_wp2
        go_ret
        exact ⟨ret_bool E.out.symm, rfl⟩
      · have hle : m ≤ 20 := by omega
        clear hgt
        go_wp2
        go_round
        case rel => exact ⟨k + 1, by omega, by go_num, fun i hi => by
            by_cases e : i < k
            · exact HA.out i e
            · obtain rfl : i = k := by omega
              rw [← HM.out]
              exact hle⟩
        case measure => simp [intOf]; omega
    · obtain rfl : k = n := by omega
      have e := Lib.hid (longS_end (l := l) (by rw [← HN.out]; exact HA.out))
      go_wp2
      go_ret
      exact ⟨ret_bool (by rw [e.out, ← HN.out]; apply decide_eq_decide.2; omega), rfl⟩
theorem longS_any (V : Value) (l : List ActS) (w : World) (B : Nat) (h : IsActS w B V l) : Calls Tryz.prog 11 #[V] w fun e w' => e = .returned (.bool (longS l)) ∧ w = w' := by
  have hm := h.1
  unfold maxLen at hm
  rcases h.2.2 with ⟨rfl, a, cap, rfl⟩ | ⟨b, off, cap, rfl, h2, h3, h4⟩
  · exact longS_empty a cap w
  · refine longS_some b off cap l.length l w rfl (by omega) h2 (fun i hi => ?_)
    have hc := h4 i hi 5 (by omega)
    have hok := (h.2.1 (l.getD i .zero) (by rw [show l.getD i .zero = l[i] by simp [List.getD, List.getElem?_eq_getElem hi]]; exact List.getElem_mem hi)).b
    obtain ⟨A, c, e⟩ := hok.len
    exact ⟨A, c, by rw [hc]; exact congrArg some e, by have := hok.1; unfold maxLen at this; omega⟩
theorem open_acts_value {H : Type} {enc : TypeId × Value → H} {w : World} {r : Reach} {b0 : Nat} {v : Value} {d : DataW H} {p : List MemPlace} (hv : Value.okWide Tryz.prog w r b0 26 v)
    (h : DataW.Trod enc Tryz.prog w 0 (fun _ => true) true 26 v d p) : ∃ l, IsActS w w.heap.size v l := by
  obtain ⟨a, len, cap, rfl⟩ := okWide_slice Tryz.underlying26 hv
  obtain ⟨fuel, hf⟩ := h
  exact open_acts hf
def ActS.arr (A : ActS) : Array Value := #[.int .i64 A.kind, .int .i64 A.r, .int .i64 A.n, .int .i64 A.back, .int .u64 A.v, A.X, .int .i64 A.ek, .int .i64 A.ec]
theorem cells8 {w : World} {b' : Nat} {v0 v1 v2 v3 v4 v5 v6 v7 : Value} {T : TypeId} (h : w.heap[b']? = some (.cells #[v0, v1, v2, v3, v4, v5, v6, v7] T (0, 0))) :
    w.cell? ⟨b', 0, none⟩ = some v0 ∧ w.cell? ⟨b', 1, none⟩ = some v1 ∧ w.cell? ⟨b', 2, none⟩ = some v2 ∧ w.cell? ⟨b', 3, none⟩ = some v3 ∧ w.cell? ⟨b', 4, none⟩ = some v4 ∧ w.cell? ⟨b', 5, none⟩ = some v5 ∧ w.cell? ⟨b', 6, none⟩ = some v6 ∧ w.cell? ⟨b', 7, none⟩ = some v7 := by
  simp [World.cell?, h]
end Go.Proofs.YtkfdgpgildanbaaGreat
