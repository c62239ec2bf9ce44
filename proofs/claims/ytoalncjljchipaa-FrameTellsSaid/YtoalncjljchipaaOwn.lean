/- Words for slices that a call makes by append: that their spare room, too, holds only cells of a kind (append keeps that); for slices of bytes that come in; and the law of append over both. Plain lemmas over any program; no condition but what each names. -/
import Derived.WalkKit
import Derived.ProofKit
import Derived.Laws.BytesArg
import Derived.Laws.OwnMore
import Derived.Deep.AppendLies
import Derived.Deep.Draws
namespace Go.Proofs.Ytoalncjljchipaa
open Go.RowKit
set_option linter.unusedVariables false

/-- A slice of the call's own, all of whose cells, those of its spare room too, are of the kind K. -/
def Owns (w : World) (base : Nat) (e : TypeId) (size : Nat) (K : Value → Prop) (v : Value) (n : Nat) (xs : List Value) : Prop :=
  w.ownsRow base e size v n xs ∧ ∀ g cur t fr, v.ownBlock = some g → w.heap[g]? = some (.cells cur t fr) → ∀ u ∈ cur.toList, K u

theorem Owns.nil (w : World) (base : Nat) (e : TypeId) (size : Nat) (K : Value → Prop) : Owns w base e size K (.slice none 0 0) 0 [] :=
  ⟨World.ownsRow_nil _ _ _ _, fun g _ _ _ h => by simp [Value.ownBlock] at h⟩
theorem Owns.of_blocks {w w' : World} {base : Nat} {e : TypeId} {size : Nat} {K : Value → Prop} {v : Value} {n : Nat} {xs : List Value} (h : Owns w base e size K v n xs)
    (hb : ∀ g, v.ownBlock = some g → w'.heap[g]? = w.heap[g]?) (hs : w.heap.size ≤ w'.heap.size) : Owns w' base e size K v n xs := by
  refine ⟨⟨h.1.1, ?_⟩, fun g cur t fr hg hc => h.2 g cur t fr hg (by rw [← hb g hg]; exact hc)⟩
  rcases h.1.2 with ⟨rfl, hn⟩ | ⟨g, cap, cur, rfl, h1, h2, h3⟩
  · exact .inl ⟨rfl, hn⟩
  · exact .inr ⟨g, cap, cur, rfl, h1, by rw [hb g (by simp [Value.ownBlock])]; exact h2, h3⟩
theorem Owns.lt {w : World} {base : Nat} {e : TypeId} {size : Nat} {K : Value → Prop} {v : Value} {n : Nat} {xs : List Value} (h : Owns w base e size K v n xs) {g : Nat} (hg : v.ownBlock = some g) : base ≤ g ∧ g < w.heap.size :=
  h.1.lt g hg
theorem Owns.alloc {w : World} {base : Nat} {e : TypeId} {size : Nat} {K : Value → Prop} {v : Value} {n : Nat} {xs : List Value} (h : Owns w base e size K v n xs) (o : Obj) : Owns (w.alloc o) base e size K v n xs :=
  h.of_blocks (fun g hg => Below.heap_alloc w o g (h.lt hg).2) (by simp)
theorem Owns.drew {w : World} {base : Nat} {e : TypeId} {size : Nat} {K : Value → Prop} {v : Value} {n : Nat} {xs : List Value} (h : Owns w base e size K v n xs) : Owns w.drew base e size K v n xs :=
  h.of_blocks (fun g hg => rfl) (Nat.le_refl _)
theorem Owns.drewN {w : World} {base : Nat} {e : TypeId} {size : Nat} {K : Value → Prop} {v : Value} {n : Nat} {xs : List Value} (h : Owns w base e size K v n xs) (k : Nat) : Owns (w.drewN k) base e size K v n xs :=
  h.of_blocks (fun g hg => rfl) (Nat.le_refl _)
theorem Owns.below {w w' : World} {base B : Nat} {e : TypeId} {size : Nat} {K : Value → Prop} {v : Value} {n : Nat} {xs : List Value} (h : Owns w base e size K v n xs) (hb : Below B w w') (hB : w.heap.size ≤ B) : Owns w' base e size K v n xs :=
  h.of_blocks (fun g hg => hb.block g (Nat.lt_of_lt_of_le (h.lt hg).2 hB)) hb.size
theorem Owns.base {w : World} {base base' : Nat} {e : TypeId} {size : Nat} {K : Value → Prop} {v : Value} {n : Nat} {xs : List Value} (h : Owns w base e size K v n xs) (hb : base' ≤ base) : Owns w base' e size K v n xs := by
  refine ⟨⟨h.1.1, ?_⟩, h.2⟩
  rcases h.1.2 with ⟨rfl, hn⟩ | ⟨g, cap, cur, rfl, h1, h2, h3⟩
  · exact .inl ⟨rfl, hn⟩
  · exact .inr ⟨g, cap, cur, rfl, by omega, h2, h3⟩

theorem mem_zeroCells {z : Array Value} {n : Nat} {u : Value} (h : u ∈ (Builtin.zeroCells z n).toList) : u ∈ z.toList := by
  unfold Builtin.zeroCells at h
  simp at h
  obtain ⟨k, hk, rfl⟩ := h
  have hs : 0 < z.size := by
    rcases Nat.eq_zero_or_pos z.size with h0 | h0
    · rw [h0] at hk; simp at hk
    · exact h0
  have hlt : k % z.size < z.size := Nat.mod_lt _ hs
  rw [getElem!_pos z (k % z.size) hlt]
  simp

section
variable {P : Program} (w : World)
theorem run_append_q (base : Nat) (t ty e : TypeId) (i : TypeInfo) (z : Value) (size bytes : Nat) (ht : P.underlying t = some (.slice e)) (hi : P.info? e = some i) (hz : i.zero = some z)
    (hsize : i.size = size) (hby : i.bytes = bytes) (hzs : z.cells.size = size) (hsz : 0 < size) (K : Value → Prop) (hKz : ∀ u ∈ z.cells.toList, K u)
    (v : Value) (n : Nat) (xs : List Value) (hown : Owns w base e size K v n xs)
    (a : Addr) (m c : Nat) (news : List Value) (hl : news.length = m * size) (hnews : ∀ j u, news[j]? = some u → w.cell? (a.add j) = some u) (h1 : ∀ u ∈ news, u.oneCell' = true) (hKn : ∀ u ∈ news, K u)
    (h63 : n + m ≤ maxLen) (hbytes : (n + m) * bytes ≤ 140737488355328) (hbase : base ≤ w.heap.size) :
    ∃ v' w', (Builtin.append_ #[t, t] ty #[v, .slice (some a) m c]).run P w = .ok v' w' ∧ Owns w' base e size K v' (n + m) (xs ++ news) ∧ w.grownBy w' v.ownBlock := by
  obtain ⟨v', w', hr, h2, h3, _⟩ := run_append_own (P := P) w base t ty e i z size bytes ht hi hz hsize hby hzs hsz v n xs hown.1 a m c news hl hnews h1 h63 hbytes hbase
  refine ⟨v', w', hr, ⟨h2, ?_⟩, h3⟩
  subst hsize
  subst hby
  have hsmall : n + m ≤ 9223372036854775807 := by simp only [maxLen] at h63; omega
  have hx : ∀ u ∈ xs, K u := by
    intro u hu
    rcases hown.1.2 with ⟨rfl, rfl⟩ | ⟨g, cap, cur, rfl, hbg, hg, hnc, hcm, hcs, htake⟩
    · have hx : xs = [] := List.eq_nil_of_length_eq_zero (by simpa using hown.1.1)
      subst hx
      simp at hu
    · rw [← htake] at hu
      exact hown.2 g cur _ _ (by simp [Value.ownBlock]) hg u (List.mem_of_mem_take hu)
  have grown : ∀ (k : Nat) (g' : Nat) (cur' : Array Value) (t' : TypeId) (fr' : Nat × Nat),
      (w.drew.alloc (.cells (xs.toArray ++ news.toArray ++ Builtin.zeroCells z.cells k) e)).heap[w.heap.size]? = some (.cells cur' t' fr') → ∀ u ∈ cur'.toList, K u := by
    intro k g' cur' t' fr' hc u hu
    have hh : (w.drew.alloc (.cells (xs.toArray ++ news.toArray ++ Builtin.zeroCells z.cells k) e)).heap[w.heap.size]? = some (.cells (xs.toArray ++ news.toArray ++ Builtin.zeroCells z.cells k) e) := heap_alloc_new w.drew _
    rw [hh] at hc
    injection hc with hc
    injection hc with hc _ _
    subst hc
    simp only [Array.toList_append, List.mem_append] at hu
    rcases hu with (hu | hu) | hu
    · exact hx u (by simpa using hu)
    · exact hKn u (by simpa using hu)
    · exact hKz u (mem_zeroCells hu)
  intro g' cur' t' fr' hgb hc u hu
  rcases hown.1.2 with ⟨rfl, rfl⟩ | ⟨g, cap, cur, rfl, hbg, hg, hnc, hcm, hcs, htake⟩
  · have hxn : xs = [] := List.eq_nil_of_length_eq_zero (by simpa using hown.1.1)
    subst hxn
    by_cases hm : m = 0
    · subst hm
      have hn : news = [] := List.eq_nil_of_length_eq_zero (by simpa using hl)
      subst hn
      have hr' : (Builtin.append_ #[t, t] ty #[.slice none 0 0, .slice (some a) 0 c]).run P w = .ok (.slice none 0 0) w := by
        simp [Builtin.append_, run_underlying ht, sizeOf, typeInfo, hi, Builtin.lenOf, Builtin.firstCells, loadCells, loadCellsFrom]
      rw [hr'] at hr
      injection hr with hv hw
      subst hv
      simp [Value.ownBlock] at hgb
    · have hr' := run_append_nil (P := P) w t ty e i z ht hi hz a m c news hl hnews (by omega) (by omega) (by have hb := hbytes; simp only [Nat.zero_add] at hb; omega)
      rw [hr'] at hr
      injection hr with hv hw
      subst hv hw
      simp [Value.ownBlock] at hgb
      subst hgb
      exact grown (grownCap w m 0 e - m) w.heap.size cur' t' fr' (by simpa using hc) u hu
  · by_cases hroom : n + m ≤ cap
    · have hfit : n * i.size + news.length ≤ cur.size := by rw [hl, hcs, ← Nat.add_mul]; exact Nat.mul_le_mul_right _ hroom
      have hr' := run_append_room (P := P) w t ty e i ht hi g n cap cur hg a m c news hl hnews h1 hroom hfit
      rw [hr'] at hr
      injection hr with hv hw
      subst hv hw
      simp [Value.ownBlock] at hgb
      subst hgb
      rw [setRow_heap w g cur _ e _ hg] at hc
      injection hc with hc
      injection hc with hc _ _
      subst hc
      have hc0 := hown.2 g cur _ _ (by simp [Value.ownBlock]) hg
      simp only [List.mem_append] at hu
      rcases hu with (hu | hu) | hu
      · exact hc0 u (List.mem_of_mem_take hu)
      · exact hKn u hu
      · exact hc0 u (List.mem_of_mem_drop hu)
    · have holds : ∀ j u, xs[j]? = some u → w.cell? ((⟨g, 0, none⟩ : Addr).add j) = some u := hown.1.cells (g := g) rfl
      have hr' := run_append_grow (P := P) w t ty e i z ht hi hz ⟨g, 0, none⟩ n cap xs hown.1.1 holds a m c news hl hnews (by omega) (by omega) (growslice_fits (by omega) hbytes)
      rw [hr'] at hr
      injection hr with hv hw
      subst hv hw
      simp [Value.ownBlock] at hgb
      subst hgb
      exact grown _ w.heap.size cur' t' fr' hc u hu

theorem wpList_append_q {ops : Array Oper} {rest : List Oper} {o : Oper} {a : Act} {Q : Exit → Act → World → Prop} (hgd : o.guard = none) (s x : Operand) (t : TypeId)
    (ho : o.op = .call { callee := .builtin .append, args := #[s, x], argTypes := #[t, t] })
    (base : Nat) (e : TypeId) (i : TypeInfo) (z : Value) (size bytes : Nat) (ht : P.underlying t = some (.slice e)) (hi : P.info? e = some i) (hz : i.zero = some z)
    (hsize : i.size = size) (hby : i.bytes = bytes) (hzs : z.cells.size = size) (hsz : 0 < size) (K : Value → Prop) (hKz : ∀ u ∈ z.cells.toList, K u)
    (v : Value) (n : Nat) (xs : List Value) (hs : a.eval s = v) (hown : Owns w base e size K v n xs)
    (ad : Addr) (m c : Nat) (news : List Value) (hx : a.eval x = .slice (some ad) m c) (hl : news.length = m * size) (hnews : ∀ j u, news[j]? = some u → w.cell? (ad.add j) = some u) (h1 : ∀ u ∈ news, u.oneCell' = true) (hKn : ∀ u ∈ news, K u)
    (h63 : n + m ≤ maxLen) (hbytes : (n + m) * bytes ≤ 140737488355328) (hbase : base ≤ w.heap.size)
    (h : ∀ v' w', Owns w' base e size K v' (n + m) (xs ++ news) → w.grownBy w' v.ownBlock → wpList P ops Q rest (a.put o.dst v') w') : wpList P ops Q (o :: rest) a w :=
  wpList_plain hgd fun _ hK => by
    obtain ⟨v', w', hr, h2, h3⟩ := run_append_q (P := P) w base t o.type e i z size bytes ht hi hz hsize hby hzs hsz K hKz v n xs hown ad m c news hl hnews h1 hKn h63 hbytes hbase
    unfold Oper.wp execOp
    simp only [ho, resolve, invoke, builtin, Sem.run_bind, Sem.run_pure, Result.andThen_ok, List.map_toArray, List.map_cons, List.map_nil, hs, hx, hr]
    exact hK _ _ (h v' w' h2 h3)
end

/-- A cell that holds a byte. -/
def IsU8 (u : Value) : Prop := ∃ k : Int, 0 ≤ k ∧ k < 256 ∧ u = .int .u8 k
theorem u8_cells {xs : List Int} (h : ∀ x ∈ xs, 0 ≤ x ∧ x < 256) : ∀ u ∈ xs.map (Value.int .u8), IsU8 u := by
  intro u hu
  obtain ⟨x, hx, rfl⟩ := List.mem_map.1 hu
  exact ⟨x, (h x hx).1, (h x hx).2, rfl⟩

/-- A slice of bytes that came in, or that a call has made: nil, or it leads to the bytes xs. -/
def IsBytes (w : World) (B : Nat) (X : Value) (xs : List Int) : Prop :=
  (∀ x ∈ xs, 0 ≤ x ∧ x < 256) ∧ xs.length ≤ maxLen ∧ ((X = .slice none 0 0 ∧ xs = []) ∨
    ∃ ad cap, X = .slice (some ad) xs.length cap ∧ xs.length ≤ cap ∧ (0 < xs.length → ad.block < B) ∧ ∀ i, i < xs.length → w.cell? (ad.add i) = some (.int .u8 (xs.getD i 0)))
theorem IsBytes.below {w w' : World} {B B' : Nat} {X : Value} {xs : List Int} (h : IsBytes w B X xs) (hb : Below B' w w') (hB : B ≤ B') : IsBytes w' B X xs := by
  refine ⟨h.1, h.2.1, ?_⟩
  rcases h.2.2 with h0 | ⟨ad, cap, h1, h2, h3, h4⟩
  · exact .inl h0
  · refine .inr ⟨ad, cap, h1, h2, h3, fun i hi => ?_⟩
    rw [World.cell?_of_block (hb.block (ad.add i).block (by
      have := h3 (by omega)
      have e : (ad.add i).block = ad.block := by unfold Addr.add; split <;> rfl
      omega))]
    exact h4 i hi
theorem IsBytes.more {w : World} {B B' : Nat} {X : Value} {xs : List Int} (h : IsBytes w B X xs) (hB : B ≤ B') : IsBytes w B' X xs := by
  refine ⟨h.1, h.2.1, ?_⟩
  rcases h.2.2 with h0 | ⟨ad, cap, h1, h2, h3, h4⟩
  · exact .inl h0
  · exact .inr ⟨ad, cap, h1, h2, fun hn => Nat.lt_of_lt_of_le (h3 hn) hB, h4⟩
theorem IsBytes.len {w : World} {B : Nat} {X : Value} {xs : List Int} (h : IsBytes w B X xs) : ∃ A cap, X = .slice A xs.length cap := by
  rcases h.2.2 with ⟨h0, rfl⟩ | ⟨ad, cap, h1, _⟩
  · exact ⟨none, 0, h0⟩
  · exact ⟨_, cap, h1⟩
/-- Where there is a byte, the slice's address is a plain one. -/
theorem IsBytes.plain {w : World} {B : Nat} {X : Value} {xs : List Int} (h : IsBytes w B X xs) (hn : 0 < xs.length) :
    ∃ b off cap, X = .slice (some ⟨b, off, none⟩) xs.length cap ∧ xs.length ≤ cap ∧ b < B ∧ ∀ i, i < xs.length → w.cell? ⟨b, off + i, none⟩ = some (.int .u8 (xs.getD i 0)) := by
  rcases h.2.2 with ⟨_, rfl⟩ | ⟨⟨b, off, spot⟩, cap, h1, h2, h3, h4⟩
  · simp at hn
  · have hspot : spot = none := by simpa [Addr.add] using World.cell?_spot (h4 0 hn)
    subst hspot
    refine ⟨b, off, cap, h1, h2, h3 hn, fun i hi => ?_⟩
    have := h4 i hi
    by_cases h0 : i = 0
    · subst h0
      simpa [Addr.add] using this
    · simpa [Addr.add, h0] using this
theorem IsBytes.of_owns {w : World} {base B : Nat} {e : TypeId} {K : Value → Prop} {v : Value} {n : Nat} {xs : List Int} (h : Owns w base e 1 K v n (xs.map (Value.int .u8))) (hx : ∀ x ∈ xs, 0 ≤ x ∧ x < 256) (hB : w.heap.size ≤ B) : IsBytes w B v xs := by
  have hn : xs.length = n := by simpa using h.1.1
  subst hn
  rcases h.1.2 with ⟨rfl, h0⟩ | ⟨g, cap, cur, rfl, h1, h2, h3, h4, h5, h6⟩
  · have : xs = [] := List.eq_nil_of_length_eq_zero h0
    subst this
    exact ⟨hx, by simp, .inl ⟨rfl, rfl⟩⟩
  · refine ⟨hx, by omega, .inr ⟨⟨g, 0, none⟩, cap, rfl, h3, fun _ => ?_, fun i hi => ?_⟩⟩
    · have := (h.lt (g := g) (by simp [Value.ownBlock])).2
      show g < B
      omega
    · exact h.1.cells (g := g) rfl i _ (by simp [List.getElem?_eq_getElem hi, List.getD])

/-- Bytes as a string, and back: as many, and the same. -/
theorem strOfNums_inj {xs ys : List Int} (hx : ∀ x ∈ xs, 0 ≤ x ∧ x < 256) (hy : ∀ x ∈ ys, 0 ≤ x ∧ x < 256) (h' : (xs.map fun n => UInt8.ofNat n.toNat) = ys.map fun n => UInt8.ofNat n.toNat) : xs = ys := by
  induction xs generalizing ys with
  | nil => cases ys with
    | nil => rfl
    | cons y ys => simp at h'
  | cons x xs ih => cases ys with
    | nil => simp at h'
    | cons y ys =>
      simp only [List.map_cons, List.cons.injEq] at h'
      have hx0 := hx x (by simp)
      have hy0 := hy y (by simp)
      have e := congrArg UInt8.toNat h'.1
      simp only [UInt8.toNat_ofNat'] at e
      have : x = y := by omega
      subst this
      rw [ih (ys := ys) (fun z hz => hx z (by simp [hz])) (fun z hz => hy z (by simp [hz])) h'.2]
theorem beq_strOfNums {xs ys : List Int} (hx : ∀ x ∈ xs, 0 ≤ x ∧ x < 256) (hy : ∀ x ∈ ys, 0 ≤ x ∧ x < 256) : ((strOfNums xs).toList == (strOfNums ys).toList) = (xs == ys) := by
  rw [Bool.eq_iff_iff, beq_iff_eq, beq_iff_eq]
  refine ⟨fun h => strOfNums_inj hx hy ?_, fun h => by rw [h]⟩
  have h2 := h
  rw [ByteArray.toList_eq, ByteArray.toList_eq, strOfNums_data, strOfNums_data] at h2
  exact h2
theorem Owns.made (w : World) (base : Nat) (e : TypeId) (size : Nat) (K : Value → Prop) (hb : base ≤ w.heap.size) : Owns (w.alloc (.cells #[] e)) base e size K (.slice (some ⟨w.heap.size, 0, none⟩) 0 0) 0 [] := by
  refine ⟨World.ownsRow_made w #[] 0 hb (Nat.zero_le _) (by simp), fun g cur t fr hg hc => ?_⟩
  simp [Value.ownBlock] at hg
  subst hg
  rw [heap_alloc_new] at hc
  injection hc with hc
  injection hc with hc _ _
  subst hc
  simp

theorem conv_bytes {P : Program} {w : World} {B : Nat} {X : Value} {xs : List Int} (h : IsBytes w B X xs) {src dst e : TypeId} (hs : P.underlying src = some (.slice e)) (he : P.underlying e = some (.int .u8)) (hd : P.underlying dst = some .string) :
    (convert src dst X).run P w = .ok (.string (strOfNums xs)) w := by
  by_cases hn : 0 < xs.length
  · obtain ⟨b, off, cap, rfl, _, _, hc⟩ := h.plain hn
    exact run_convert_bytes_arg w src e hs he b off _ cap xs rfl hc dst hd
  · have hx : xs = [] := List.eq_nil_of_length_eq_zero (by omega)
    subst hx
    rcases h.2.2 with ⟨rfl, _⟩ | ⟨ad, cap, rfl, _⟩
    · rw [run_convert_bytes_nil w src e hs he 0 0 dst hd]
      rfl
    · rw [run_convert_bytes_string w src dst e _ _ cap hs he hd]
      have := run_bytesToString (P := P) w ad 0 cap [] (by simp [loadCells, loadCellsFrom])
      simp only [List.length_nil]
      rw [this]
      rfl
theorem wf_u64 {a : Int} (h : (Lit.int .u64 a).wf = true) : 0 ≤ a ∧ a < 18446744073709551616 := by
  simp [Lit.wf, IntKind.min, IntKind.max, IntKind.signed, IntKind.bits] at h
  omega
theorem wf_u8 {a : Int} (h : (Lit.int .u8 a).wf = true) : 0 ≤ a ∧ a < 256 := by
  simp [Lit.wf, IntKind.min, IntKind.max, IntKind.signed, IntKind.bits] at h
  omega
theorem wf_i64 {a : Int} (h : (Lit.int .i64 a).wf = true) : -9223372036854775808 ≤ a ∧ a < 9223372036854775808 := by
  simp [Lit.wf, IntKind.min, IntKind.max, IntKind.signed, IntKind.bits] at h
  omega
theorem IsBytes.of_row {w : World} {x : Addr} {len cap : Nat} {zs : List Int} (hl : len ≤ cap) (hm : cap ≤ maxLen) (hz : zs.length = cap) (hc : ∀ i, i < zs.length → w.cell? (x.add i) = some (.int .u8 (zs.getD i 0)))
    (hw : ∀ n ∈ zs, (Lit.int .u8 n).wf = true) : IsBytes w w.heap.size (.slice (some x) len cap) (zs.take len) := by
  have hlen : (zs.take len).length = len := by simp; omega
  refine ⟨fun y hy => wf_u8 (hw y (List.mem_of_mem_take hy)), by omega, .inr ⟨x, cap, by rw [hlen], by omega, fun hn => ?_, fun i hi => ?_⟩⟩
  · have h := block_lt_of_cell (hc 0 (by omega))
    have e : (x.add 0).block = x.block := by unfold Addr.add; split <;> rfl
    omega
  · rw [hlen] at hi
    rw [hc i (by omega)]
    simp [List.getD, hi]
end Go.Proofs.Ytoalncjljchipaa
