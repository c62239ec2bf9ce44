/- Lemmas of Own, But, Math01, Math06, Nums06, Op06A, PutGet, NumB07, KitBytes, each with its own remark. -/
import Derived.WalkKit
import Derived.ProofKit
import Derived.Laws.BytesArg
import Derived.Laws.OwnMore
import Derived.Deep.AppendLies
import Derived.Deep.Draws
import Derived.Below
import Derived.Test.YtohlifeenhaifaaGreatDoorChecked
import Derived.WalkSpells
import Derived.WalkLawsBesides
import Derived.Deep.WholeRow
import Derived.Lib.Hide
import Derived.Lib.SliceRun
import Derived.BigQuiet
import Derived.Deep.QuietTactic
import Derived.Test.YtohlifeenhaifaaGreatDoorRows
/- (Own) Words for slices that a call makes by append: that their spare room, too, holds only cells of a kind (append keeps that); for slices of bytes that come in; and the law of append over both. Plain lemmas over any program; no condition but what each names. -/
namespace Go.Proofs.YtohlifeenhaifaaGreatDoor
open Go.RowKit
set_option linter.unusedVariables false

/-- A slice of the call's own, all of whose cells, those of its spare room too, are of the kind K. -/
def Owns (w : World) (base : Nat) (e : TypeId) (size : Nat) (K : Value → Prop) (v : Value) (n : Nat) (xs : List Value) : Prop :=
  w.ownsRow base e size v n xs ∧ ∀ g cur t fr, v.ownBlock = some g → w.heap[g]? = some (.cells cur t fr) → ∀ u ∈ cur.toList, K u

theorem Owns.nil (w : World) (base : Nat) (e : TypeId) (size : Nat) (K : Value → Prop) : Owns w base e size K (.slice none 0 0) 0 [] :=
  ⟨World.ownsRow_nil _ _ _ _, fun g _ _ _ h => by simp [Value.ownBlock] at h⟩
theorem Owns.of_blocks {w w' : World} {base : Nat} {e : TypeId} {size : Nat} {K : Value → Prop} {v : Value} {n : Nat} {xs : List Value} (h : Owns w base e size K v n xs)
    (hb : ∀ g, v.ownBlock = some g → w'.heap[g]? = w.heap[g]?) (hs : w.heap.size ≤ w'.heap.size) : Owns w' base e size K v n xs := by
  refine ⟨⟨h.1.1, ?_⟩, fun g cur t fr hg hc => h.2 g cur t fr hg (by rw [← hb g hg]; exact hc)⟩
  rcases h.1.2 with ⟨rfl, hn⟩ | ⟨g, cap, cur, rfl, h1, h2, h3⟩
  · exact .inl ⟨rfl, hn⟩
  · exact .inr ⟨g, cap, cur, rfl, h1, by rw [hb g (by simp [Value.ownBlock])]; exact h2, h3⟩
theorem Owns.lt {w : World} {base : Nat} {e : TypeId} {size : Nat} {K : Value → Prop} {v : Value} {n : Nat} {xs : List Value} (h : Owns w base e size K v n xs) {g : Nat} (hg : v.ownBlock = some g) : base ≤ g ∧ g < w.heap.size :=
  h.1.lt g hg
theorem Owns.alloc {w : World} {base : Nat} {e : TypeId} {size : Nat} {K : Value → Prop} {v : Value} {n : Nat} {xs : List Value} (h : Owns w base e size K v n xs) (o : Obj) : Owns (w.alloc o) base e size K v n xs :=
  h.of_blocks (fun g hg => Below.heap_alloc w o g (h.lt hg).2) (by simp)
theorem Owns.drew {w : World} {base : Nat} {e : TypeId} {size : Nat} {K : Value → Prop} {v : Value} {n : Nat} {xs : List Value} (h : Owns w base e size K v n xs) : Owns w.drew base e size K v n xs :=
  h.of_blocks (fun g hg => rfl) (Nat.le_refl _)
theorem Owns.drewN {w : World} {base : Nat} {e : TypeId} {size : Nat} {K : Value → Prop} {v : Value} {n : Nat} {xs : List Value} (h : Owns w base e size K v n xs) (k : Nat) : Owns (w.drewN k) base e size K v n xs :=
  h.of_blocks (fun g hg => rfl) (Nat.le_refl _)
theorem Owns.below {w w' : World} {base B : Nat} {e : TypeId} {size : Nat} {K : Value → Prop} {v : Value} {n : Nat} {xs : List Value} (h : Owns w base e size K v n xs) (hb : Below B w w') (hB : w.heap.size ≤ B) : Owns w' base e size K v n xs :=
  h.of_blocks (fun g hg => hb.block g (Nat.lt_of_lt_of_le (h.lt hg).2 hB)) hb.size
theorem Owns.base {w : World} {base base' : Nat} {e : TypeId} {size : Nat} {K : Value → Prop} {v : Value} {n : Nat} {xs : List Value} (h : Owns w base e size K v n xs) (hb : base' ≤ base) : Owns w base' e size K v n xs := by
  refine ⟨⟨h.1.1, ?_⟩, h.2⟩
  rcases h.1.2 with ⟨rfl, hn⟩ | ⟨g, cap, cur, rfl, h1, h2, h3⟩
  · exact .inl ⟨rfl, hn⟩
  · exact .inr ⟨g, cap, cur, rfl, by omega, h2, h3⟩

theorem mem_zeroCells {z : Array Value} {n : Nat} {u : Value} (h : u ∈ (Builtin.zeroCells z n).toList) : u ∈ z.toList := by
  unfold Builtin.zeroCells at h
  simp at h
  obtain ⟨k, hk, rfl⟩ := h
  have hs : 0 < z.size := by
    rcases Nat.eq_zero_or_pos z.size with h0 | h0
    · rw [h0] at hk; simp at hk
    · exact h0
  have hlt : k % z.size < z.size := Nat.mod_lt _ hs
  rw [getElem!_pos z (k % z.size) hlt]
  simp

section
variable {P : Program} (w : World)
theorem run_append_q (base : Nat) (t ty e : TypeId) (i : TypeInfo) (z : Value) (size bytes : Nat) (ht : P.underlying t = some (.slice e)) (hi : P.info? e = some i) (hz : i.zero = some z)
    (hsize : i.size = size) (hby : i.bytes = bytes) (hzs : z.cells.size = size) (hsz : 0 < size) (K : Value → Prop) (hKz : ∀ u ∈ z.cells.toList, K u)
    (v : Value) (n : Nat) (xs : List Value) (hown : Owns w base e size K v n xs)
    (a : Addr) (m c : Nat) (news : List Value) (hl : news.length = m * size) (hnews : ∀ j u, news[j]? = some u → w.cell? (a.add j) = some u) (h1 : ∀ u ∈ news, u.oneCell' = true) (hKn : ∀ u ∈ news, K u)
    (h63 : n + m ≤ maxLen) (hbytes : (n + m) * bytes ≤ 140737488355328) (hbase : base ≤ w.heap.size) :
    ∃ v' w', (Builtin.append_ #[t, t] ty #[v, .slice (some a) m c]).run P w = .ok v' w' ∧ Owns w' base e size K v' (n + m) (xs ++ news) ∧ w.grownBy w' v.ownBlock := by
  obtain ⟨v', w', hr, h2, h3, _⟩ := run_append_own (P := P) w base t ty e i z size bytes ht hi hz hsize hby hzs hsz v n xs hown.1 a m c news hl hnews h1 h63 hbytes hbase
  refine ⟨v', w', hr, ⟨h2, ?_⟩, h3⟩
  subst hsize
  subst hby
  have hsmall : n + m ≤ 9223372036854775807 := by simp only [maxLen] at h63; omega
  have hx : ∀ u ∈ xs, K u := by
    intro u hu
    rcases hown.1.2 with ⟨rfl, rfl⟩ | ⟨g, cap, cur, rfl, hbg, hg, hnc, hcm, hcs, htake⟩
    · have hx : xs = [] := List.eq_nil_of_length_eq_zero (by simpa using hown.1.1)
      subst hx
      simp at hu
    · rw [← htake] at hu
      exact hown.2 g cur _ _ (by simp [Value.ownBlock]) hg u (List.mem_of_mem_take hu)
  have grown : ∀ (k : Nat) (g' : Nat) (cur' : Array Value) (t' : TypeId) (fr' : Nat × Nat),
      (w.drew.alloc (.cells (xs.toArray ++ news.toArray ++ Builtin.zeroCells z.cells k) e)).heap[w.heap.size]? = some (.cells cur' t' fr') → ∀ u ∈ cur'.toList, K u := by
    intro k g' cur' t' fr' hc u hu
    have hh : (w.drew.alloc (.cells (xs.toArray ++ news.toArray ++ Builtin.zeroCells z.cells k) e)).heap[w.heap.size]? = some (.cells (xs.toArray ++ news.toArray ++ Builtin.zeroCells z.cells k) e) := heap_alloc_new w.drew _
    rw [hh] at hc
    injection hc with hc
    injection hc with hc _ _
    subst hc
    simp only [Array.toList_append, List.mem_append] at hu
    rcases hu with (hu | hu) | hu
    · exact hx u (by simpa using hu)
    · exact hKn u (by simpa using hu)
    · exact hKz u (mem_zeroCells hu)
  intro g' cur' t' fr' hgb hc u hu
  rcases hown.1.2 with ⟨rfl, rfl⟩ | ⟨g, cap, cur, rfl, hbg, hg, hnc, hcm, hcs, htake⟩
  · have hxn : xs = [] := List.eq_nil_of_length_eq_zero (by simpa using hown.1.1)
    subst hxn
    by_cases hm : m = 0
    · subst hm
      have hn : news = [] := List.eq_nil_of_length_eq_zero (by simpa using hl)
      subst hn
      have hr' : (Builtin.append_ #[t, t] ty #[.slice none 0 0, .slice (some a) 0 c]).run P w = .ok (.slice none 0 0) w := by
        simp [Builtin.append_, run_underlying ht, sizeOf, typeInfo, hi, Builtin.lenOf, Builtin.firstCells, loadCells, loadCellsFrom]
      rw [hr'] at hr
      injection hr with hv hw
      subst hv
      simp [Value.ownBlock] at hgb
    · have hr' := run_append_nil (P := P) w t ty e i z ht hi hz a m c news hl hnews (by omega) (by omega) (by have hb := hbytes; simp only [Nat.zero_add] at hb; omega)
      rw [hr'] at hr
      injection hr with hv hw
      subst hv hw
      simp [Value.ownBlock] at hgb
      subst hgb
      exact grown (grownCap w m 0 e - m) w.heap.size cur' t' fr' (by simpa using hc) u hu
  · by_cases hroom : n + m ≤ cap
    · have hfit : n * i.size + news.length ≤ cur.size := by rw [hl, hcs, ← Nat.add_mul]; exact Nat.mul_le_mul_right _ hroom
      have hr' := run_append_room (P := P) w t ty e i ht hi g n cap cur hg a m c news hl hnews h1 hroom hfit
      rw [hr'] at hr
      injection hr with hv hw
      subst hv hw
      simp [Value.ownBlock] at hgb
      subst hgb
      rw [setRow_heap w g cur _ e _ hg] at hc
      injection hc with hc
      injection hc with hc _ _
      subst hc
      have hc0 := hown.2 g cur _ _ (by simp [Value.ownBlock]) hg
      simp only [List.mem_append] at hu
      rcases hu with (hu | hu) | hu
      · exact hc0 u (List.mem_of_mem_take hu)
      · exact hKn u hu
      · exact hc0 u (List.mem_of_mem_drop hu)
    · have holds : ∀ j u, xs[j]? = some u → w.cell? ((⟨g, 0, none⟩ : Addr).add j) = some u := hown.1.cells (g := g) rfl
      have hr' := run_append_grow (P := P) w t ty e i z ht hi hz ⟨g, 0, none⟩ n cap xs hown.1.1 holds a m c news hl hnews (by omega) (by omega) (growslice_fits (by omega) hbytes)
      rw [hr'] at hr
      injection hr with hv hw
      subst hv hw
      simp [Value.ownBlock] at hgb
      subst hgb
      exact grown _ w.heap.size cur' t' fr' hc u hu

theorem wpList_append_q {ops : Array Oper} {rest : List Oper} {o : Oper} {a : Act} {Q : Exit → Act → World → Prop} (hgd : o.guard = none) (s x : Operand) (t : TypeId)
    (ho : o.op = .call { callee := .builtin .append, args := #[s, x], argTypes := #[t, t] })
    (base : Nat) (e : TypeId) (i : TypeInfo) (z : Value) (size bytes : Nat) (ht : P.underlying t = some (.slice e)) (hi : P.info? e = some i) (hz : i.zero = some z)
    (hsize : i.size = size) (hby : i.bytes = bytes) (hzs : z.cells.size = size) (hsz : 0 < size) (K : Value → Prop) (hKz : ∀ u ∈ z.cells.toList, K u)
    (v : Value) (n : Nat) (xs : List Value) (hs : a.eval s = v) (hown : Owns w base e size K v n xs)
    (ad : Addr) (m c : Nat) (news : List Value) (hx : a.eval x = .slice (some ad) m c) (hl : news.length = m * size) (hnews : ∀ j u, news[j]? = some u → w.cell? (ad.add j) = some u) (h1 : ∀ u ∈ news, u.oneCell' = true) (hKn : ∀ u ∈ news, K u)
    (h63 : n + m ≤ maxLen) (hbytes : (n + m) * bytes ≤ 140737488355328) (hbase : base ≤ w.heap.size)
    (h : ∀ v' w', Owns w' base e size K v' (n + m) (xs ++ news) → w.grownBy w' v.ownBlock → wpList P ops Q rest (a.put o.dst v') w') : wpList P ops Q (o :: rest) a w :=
  wpList_plain hgd fun _ hK => by
    obtain ⟨v', w', hr, h2, h3⟩ := run_append_q (P := P) w base t o.type e i z size bytes ht hi hz hsize hby hzs hsz K hKz v n xs hown ad m c news hl hnews h1 hKn h63 hbytes hbase
    unfold Oper.wp execOp
    simp only [ho, resolve, invoke, builtin, Sem.run_bind, Sem.run_pure, Result.andThen_ok, List.map_toArray, List.map_cons, List.map_nil, hs, hx, hr]
    exact hK _ _ (h v' w' h2 h3)
end

/-- A cell that holds a byte. -/
def IsU8 (u : Value) : Prop := ∃ k : Int, 0 ≤ k ∧ k < 256 ∧ u = .int .u8 k
theorem u8_cells {xs : List Int} (h : ∀ x ∈ xs, 0 ≤ x ∧ x < 256) : ∀ u ∈ xs.map (Value.int .u8), IsU8 u := by
  intro u hu
  obtain ⟨x, hx, rfl⟩ := List.mem_map.1 hu
  exact ⟨x, (h x hx).1, (h x hx).2, rfl⟩

/-- A slice of bytes that came in, or that a call has made: nil, or it leads to the bytes xs. -/
def IsBytes (w : World) (B : Nat) (X : Value) (xs : List Int) : Prop :=
  (∀ x ∈ xs, 0 ≤ x ∧ x < 256) ∧ xs.length ≤ maxLen ∧ ((X = .slice none 0 0 ∧ xs = []) ∨
    ∃ ad cap, X = .slice (some ad) xs.length cap ∧ xs.length ≤ cap ∧ (0 < xs.length → ad.block < B) ∧ ∀ i, i < xs.length → w.cell? (ad.add i) = some (.int .u8 (xs.getD i 0)))
theorem IsBytes.below {w w' : World} {B B' : Nat} {X : Value} {xs : List Int} (h : IsBytes w B X xs) (hb : Below B' w w') (hB : B ≤ B') : IsBytes w' B X xs := by
  refine ⟨h.1, h.2.1, ?_⟩
  rcases h.2.2 with h0 | ⟨ad, cap, h1, h2, h3, h4⟩
  · exact .inl h0
  · refine .inr ⟨ad, cap, h1, h2, h3, fun i hi => ?_⟩
    rw [World.cell?_of_block (hb.block (ad.add i).block (by
      have := h3 (by omega)
      have e : (ad.add i).block = ad.block := by unfold Addr.add; split <;> rfl
      omega))]
    exact h4 i hi
theorem IsBytes.more {w : World} {B B' : Nat} {X : Value} {xs : List Int} (h : IsBytes w B X xs) (hB : B ≤ B') : IsBytes w B' X xs := by
  refine ⟨h.1, h.2.1, ?_⟩
  rcases h.2.2 with h0 | ⟨ad, cap, h1, h2, h3, h4⟩
  · exact .inl h0
  · exact .inr ⟨ad, cap, h1, h2, fun hn => Nat.lt_of_lt_of_le (h3 hn) hB, h4⟩
theorem IsBytes.len {w : World} {B : Nat} {X : Value} {xs : List Int} (h : IsBytes w B X xs) : ∃ A cap, X = .slice A xs.length cap := by
  rcases h.2.2 with ⟨h0, rfl⟩ | ⟨ad, cap, h1, _⟩
  · exact ⟨none, 0, h0⟩
  · exact ⟨_, cap, h1⟩
/-- Where there is a byte, the slice's address is a plain one. -/
theorem IsBytes.plain {w : World} {B : Nat} {X : Value} {xs : List Int} (h : IsBytes w B X xs) (hn : 0 < xs.length) :
    ∃ b off cap, X = .slice (some ⟨b, off, none⟩) xs.length cap ∧ xs.length ≤ cap ∧ b < B ∧ ∀ i, i < xs.length → w.cell? ⟨b, off + i, none⟩ = some (.int .u8 (xs.getD i 0)) := by
  rcases h.2.2 with ⟨_, rfl⟩ | ⟨⟨b, off, spot⟩, cap, h1, h2, h3, h4⟩
  · simp at hn
  · have hspot : spot = none := by simpa [Addr.add] using World.cell?_spot (h4 0 hn)
    subst hspot
    refine ⟨b, off, cap, h1, h2, h3 hn, fun i hi => ?_⟩
    have := h4 i hi
    by_cases h0 : i = 0
    · subst h0
      simpa [Addr.add] using this
    · simpa [Addr.add, h0] using this
theorem IsBytes.of_owns {w : World} {base B : Nat} {e : TypeId} {K : Value → Prop} {v : Value} {n : Nat} {xs : List Int} (h : Owns w base e 1 K v n (xs.map (Value.int .u8))) (hx : ∀ x ∈ xs, 0 ≤ x ∧ x < 256) (hB : w.heap.size ≤ B) : IsBytes w B v xs := by
  have hn : xs.length = n := by simpa using h.1.1
  subst hn
  rcases h.1.2 with ⟨rfl, h0⟩ | ⟨g, cap, cur, rfl, h1, h2, h3, h4, h5, h6⟩
  · have : xs = [] := List.eq_nil_of_length_eq_zero h0
    subst this
    exact ⟨hx, by simp, .inl ⟨rfl, rfl⟩⟩
  · refine ⟨hx, by omega, .inr ⟨⟨g, 0, none⟩, cap, rfl, h3, fun _ => ?_, fun i hi => ?_⟩⟩
    · have := (h.lt (g := g) (by simp [Value.ownBlock])).2
      show g < B
      omega
    · exact h.1.cells (g := g) rfl i _ (by simp [List.getElem?_eq_getElem hi, List.getD])

/-- Bytes as a string, and back: as many, and the same. -/
theorem strOfNums_inj {xs ys : List Int} (hx : ∀ x ∈ xs, 0 ≤ x ∧ x < 256) (hy : ∀ x ∈ ys, 0 ≤ x ∧ x < 256) (h' : (xs.map fun n => UInt8.ofNat n.toNat) = ys.map fun n => UInt8.ofNat n.toNat) : xs = ys := by
  induction xs generalizing ys with
  | nil => cases ys with
    | nil => rfl
    | cons y ys => simp at h'
  | cons x xs ih => cases ys with
    | nil => simp at h'
    | cons y ys =>
      simp only [List.map_cons, List.cons.injEq] at h'
      have hx0 := hx x (by simp)
      have hy0 := hy y (by simp)
      have e := congrArg UInt8.toNat h'.1
      simp only [UInt8.toNat_ofNat'] at e
      have : x = y := by omega
      subst this
      rw [ih (ys := ys) (fun z hz => hx z (by simp [hz])) (fun z hz => hy z (by simp [hz])) h'.2]
theorem beq_strOfNums {xs ys : List Int} (hx : ∀ x ∈ xs, 0 ≤ x ∧ x < 256) (hy : ∀ x ∈ ys, 0 ≤ x ∧ x < 256) : ((strOfNums xs).toList == (strOfNums ys).toList) = (xs == ys) := by
  rw [Bool.eq_iff_iff, beq_iff_eq, beq_iff_eq]
  refine ⟨fun h => strOfNums_inj hx hy ?_, fun h => by rw [h]⟩
  have h2 := h
  rw [ByteArray.toList_eq, ByteArray.toList_eq, strOfNums_data, strOfNums_data] at h2
  exact h2
theorem Owns.made (w : World) (base : Nat) (e : TypeId) (size : Nat) (K : Value → Prop) (hb : base ≤ w.heap.size) : Owns (w.alloc (.cells #[] e)) base e size K (.slice (some ⟨w.heap.size, 0, none⟩) 0 0) 0 [] := by
  refine ⟨World.ownsRow_made w #[] 0 hb (Nat.zero_le _) (by simp), fun g cur t fr hg hc => ?_⟩
  simp [Value.ownBlock] at hg
  subst hg
  rw [heap_alloc_new] at hc
  injection hc with hc
  injection hc with hc _ _
  subst hc
  simp

theorem conv_bytes {P : Program} {w : World} {B : Nat} {X : Value} {xs : List Int} (h : IsBytes w B X xs) {src dst e : TypeId} (hs : P.underlying src = some (.slice e)) (he : P.underlying e = some (.int .u8)) (hd : P.underlying dst = some .string) :
    (convert src dst X).run P w = .ok (.string (strOfNums xs)) w := by
  by_cases hn : 0 < xs.length
  · obtain ⟨b, off, cap, rfl, _, _, hc⟩ := h.plain hn
    exact run_convert_bytes_arg w src e hs he b off _ cap xs rfl hc dst hd
  · have hx : xs = [] := List.eq_nil_of_length_eq_zero (by omega)
    subst hx
    rcases h.2.2 with ⟨rfl, _⟩ | ⟨ad, cap, rfl, _⟩
    · rw [run_convert_bytes_nil w src e hs he 0 0 dst hd]
      rfl
    · rw [run_convert_bytes_string w src dst e _ _ cap hs he hd]
      have := run_bytesToString (P := P) w ad 0 cap [] (by simp [loadCells, loadCellsFrom])
      simp only [List.length_nil]
      rw [this]
      rfl
theorem wf_u64 {a : Int} (h : (Lit.int .u64 a).wf = true) : 0 ≤ a ∧ a < 18446744073709551616 := by
  simp [Lit.wf, IntKind.min, IntKind.max, IntKind.signed, IntKind.bits] at h
  omega
theorem wf_u8 {a : Int} (h : (Lit.int .u8 a).wf = true) : 0 ≤ a ∧ a < 256 := by
  simp [Lit.wf, IntKind.min, IntKind.max, IntKind.signed, IntKind.bits] at h
  omega
theorem wf_i64 {a : Int} (h : (Lit.int .i64 a).wf = true) : -9223372036854775808 ≤ a ∧ a < 9223372036854775808 := by
  simp [Lit.wf, IntKind.min, IntKind.max, IntKind.signed, IntKind.bits] at h
  omega
theorem IsBytes.of_row {w : World} {x : Addr} {len cap : Nat} {zs : List Int} (hl : len ≤ cap) (hm : cap ≤ maxLen) (hz : zs.length = cap) (hc : ∀ i, i < zs.length → w.cell? (x.add i) = some (.int .u8 (zs.getD i 0)))
    (hw : ∀ n ∈ zs, (Lit.int .u8 n).wf = true) : IsBytes w w.heap.size (.slice (some x) len cap) (zs.take len) := by
  have hlen : (zs.take len).length = len := by simp; omega
  refine ⟨fun y hy => wf_u8 (hw y (List.mem_of_mem_take hy)), by omega, .inr ⟨x, cap, by rw [hlen], by omega, fun hn => ?_, fun i hi => ?_⟩⟩
  · have h := block_lt_of_cell (hc 0 (by omega))
    have e : (x.add 0).block = x.block := by unfold Addr.add; split <;> rfl
    omega
  · rw [hlen] at hi
    rw [hc i (by omega)]
    simp [List.getD, hi]
end Go.Proofs.YtohlifeenhaifaaGreatDoor

/- (But) A word for what a call leaves of memory: all blocks that were there are as they were, but those of a set. Plain lemmas over any program; no condition but what each names. -/
namespace Go.Proofs.YtohlifeenhaifaaGreatDoor
open Go.RowKit
set_option linter.unusedVariables false

/-- All blocks that were there are as they were, but those of R. -/
structure But (R : Nat → Prop) (w w' : World) : Prop where
  os : w'.os = w.os
  tape : w'.tape = w.tape
  output : w'.output = w.output
  size : w.heap.size ≤ w'.heap.size
  block : ∀ k, k < w.heap.size → ¬ R k → w'.heap[k]? = w.heap[k]?
def NoBlock : Nat → Prop := fun _ => False
def OneBlock (b : Nat) : Nat → Prop := fun k => k = b
theorem oneBlock_not {a b : Nat} (h : a ≠ b) : ¬ OneBlock b a := h
theorem noBlock_not (a : Nat) : ¬ NoBlock a := fun h => h
theorem But.refl (R : Nat → Prop) (w : World) : But R w w := ⟨rfl, rfl, rfl, Nat.le_refl _, fun _ _ _ => rfl⟩
theorem But.trans {R : Nat → Prop} {a b c : World} (h : But R a b) (k : But R b c) : But R a c :=
  ⟨k.os.trans h.os, k.tape.trans h.tape, k.output.trans h.output, Nat.le_trans h.size k.size, fun i hi hr => (k.block i (Nat.lt_of_lt_of_le hi h.size) hr).trans (h.block i hi hr)⟩
theorem But.mono {R S : Nat → Prop} {w w' : World} (h : But R w w') (hs : ∀ k, R k → S k) : But S w w' :=
  ⟨h.os, h.tape, h.output, h.size, fun k hk hn => h.block k hk fun hr => hn (hs k hr)⟩
theorem But.none {R : Nat → Prop} {w w' : World} (h : But NoBlock w w') : But R w w' := h.mono fun _ h => h.elim
theorem But.of_below {R : Nat → Prop} {w w' : World} (h : Below w.heap.size w w') : But R w w' :=
  ⟨h.os, h.tape, h.output, h.size, fun k hk _ => h.block k hk⟩
theorem But.below {R : Nat → Prop} {B : Nat} {a w w' : World} (hb : Below B a w) (h : But R w w') (hB : B ≤ w.heap.size) (hr : ∀ k, R k → B ≤ k) : Below B a w' :=
  hb.trans ⟨h.os, h.tape, h.output, h.size, fun k hk => h.block k (by omega) fun hk' => by have := hr k hk'; omega⟩
theorem But.below0 {w w' : World} (h : But NoBlock w w') : Below w.heap.size w w' :=
  ⟨h.os, h.tape, h.output, h.size, fun k hk => h.block k hk fun hk' => hk'⟩
theorem But.drew {R : Nat → Prop} {w w' : World} (h : But R w w') : But R w w'.drew := ⟨h.os, h.tape, h.output, h.size, h.block⟩
theorem But.of_drew {R : Nat → Prop} {w w' : World} (h : But R w.drew w') : But R w w' := ⟨h.os, h.tape, h.output, h.size, h.block⟩
theorem But.drewN {R : Nat → Prop} {w w' : World} (h : But R w w') (n : Nat) : But R w (w'.drewN n) := ⟨h.os, h.tape, h.output, h.size, h.block⟩
theorem But.alloc {R : Nat → Prop} {w w' : World} (h : But R w w') (o : Obj) : But R w (w'.alloc o) :=
  h.trans (But.of_below ((Below.refl _ _).alloc (Nat.le_refl _) o))
theorem But.setCell {R : Nat → Prop} {w w' : World} (h : But R w w') {p : Addr} (hp : R p.block ∨ w.heap.size ≤ p.block) (u : Value) : But R w (w'.setCell p u) :=
  ⟨h.os, h.tape, h.output, by simpa [World.setCell] using h.size, fun k hk hn => by
    rw [Below.heap_setCell _ _ _ _ (fun e => by subst e; rcases hp with hp | hp; exact hn hp; omega)]
    exact h.block k hk hn⟩
theorem But.setRow {R : Nat → Prop} {w w' : World} (h : But R w w') {g : Nat} (hp : R g ∨ w.heap.size ≤ g) (cs : Array Value) : But R w (w'.setRow g cs) :=
  ⟨h.os, h.tape, h.output, by simpa [World.setRow] using h.size, fun k hk hn => by
    rw [setRow_other w' g k cs (fun e => by subst e; rcases hp with hp | hp; exact hn hp; omega)]
    exact h.block k hk hn⟩
theorem below_drewN {B : Nat} {a w : World} (h : Below B a w) (n : Nat) : Below B a (w.drewN n) := ⟨h.os, h.tape, h.output, h.size, h.block⟩
theorem below_store {B bb : Nat} {a w w' : World} (h : Below B a w) (hb : But (OneBlock bb) w w') (hB : B ≤ w.heap.size) (hbb : B ≤ bb) : Below B a w' :=
  But.below h hb hB (fun k hk => by rw [show k = bb from hk]; exact hbb)
theorem below_next {B : Nat} {a w w' : World} (h : Below B a w) (hb : Below w.heap.size w w') (hB : B ≤ w.heap.size) : Below B a w' := h.trans (hb.mono hB)
theorem heap_lt {w : World} {k : Nat} {o : Obj} (h : w.heap[k]? = some o) : k < w.heap.size := by
  rcases Nat.lt_or_ge k w.heap.size with h' | h'
  · exact h'
  · rw [Array.getElem?_eq_none h'] at h
    cases h
theorem But.heap {R : Nat → Prop} {w w' : World} (h : But R w w') {k : Nat} {o : Obj} (hk : w.heap[k]? = some o) (hn : ¬ R k) : w'.heap[k]? = some o := by
  rw [h.block k (heap_lt hk) hn]; exact hk
theorem But.cell {R : Nat → Prop} {w w' : World} (h : But R w w') {p : Addr} (hk : p.block < w.heap.size) (hn : ¬ R p.block) : w'.cell? p = w.cell? p :=
  World.cell?_of_block (w := w) (h.block p.block hk hn)
theorem IsBytes.but {w w' : World} {B : Nat} {R : Nat → Prop} {X : Value} {xs : List Int} (h : IsBytes w B X xs) (hb : But R w w') (hB : B ≤ w.heap.size) (hr : ∀ k, k < B → ¬ R k) : IsBytes w' B X xs := by
  refine ⟨h.1, h.2.1, ?_⟩
  rcases h.2.2 with h0 | ⟨ad, cap, h1, h2, h3, h4⟩
  · exact .inl h0
  · refine .inr ⟨ad, cap, h1, h2, h3, fun i hi => ?_⟩
    have := h3 (by omega)
    have e : (ad.add i).block = ad.block := by unfold Addr.add; split <;> rfl
    rw [hb.cell (by omega) (by rw [e]; exact hr _ this)]
    exact h4 i hi
theorem Owns.but {w w' : World} {base : Nat} {R : Nat → Prop} {e : TypeId} {size : Nat} {K : Value → Prop} {v : Value} {n : Nat} {xs : List Value} (h : Owns w base e size K v n xs) (hb : But R w w') (hr : ∀ g, v.ownBlock = some g → ¬ R g) : Owns w' base e size K v n xs :=
  h.of_blocks (fun g hg => hb.block g (h.lt hg).2 (hr g hg)) hb.size

/-- A row of bytes: a block of c bytes, the first of which are xs. -/
def Row (t : TypeId) (w : World) (b c : Nat) (xs : List Int) : Prop :=
  ∃ cur : Array Value, w.heap[b]? = some (.cells cur t (0, 0)) ∧ cur.size = c ∧ cur.toList.take xs.length = xs.map (Value.int .u8) ∧ xs.length ≤ c
theorem Row.but {t : TypeId} {w w' : World} {b c : Nat} {xs : List Int} {R : Nat → Prop} (h : Row t w b c xs) (hb : But R w w') (hn : ¬ R b) : Row t w' b c xs := by
  obtain ⟨cur, h1, h2⟩ := h
  exact ⟨cur, hb.heap h1 hn, h2⟩
theorem Row.lt {t : TypeId} {w : World} {b c : Nat} {xs : List Int} (h : Row t w b c xs) : b < w.heap.size := by
  obtain ⟨cur, h1, _⟩ := h
  exact heap_lt h1
theorem Row.cell {t : TypeId} {w : World} {b c : Nat} {xs : List Int} (h : Row t w b c xs) {i : Nat} (hi : i < xs.length) : w.cell? ⟨b, i, none⟩ = some (.int .u8 (xs.getD i 0)) := by
  obtain ⟨cur, h1, h2, h3, h4⟩ := h
  have h5 : (xs.map (Value.int .u8))[i]? = some (.int .u8 (xs.getD i 0)) := by
    rw [List.getElem?_map, List.getElem?_eq_getElem hi]
    simp [List.getD, List.getElem?_eq_getElem hi]
  rw [← h3, List.getElem?_take, if_pos hi] at h5
  simp [World.cell?, h1]
  simpa using h5
theorem Row.free {t : TypeId} {w : World} {b c : Nat} {xs : List Int} (h : Row t w b c xs) (i : Nat) : w.frozen? ⟨b, i, none⟩ = false := by
  obtain ⟨cur, h1, h2, h3, h4⟩ := h
  exact frozen_of_row w b i cur _ h1
theorem Row.bytes {t : TypeId} {w : World} {b c : Nat} {xs : List Int} (h : Row t w b c xs) (hx : ∀ x ∈ xs, 0 ≤ x ∧ x < 256) {B : Nat} (hB : b < B) {a n cap : Nat} (ha : a + n ≤ xs.length) (hn : n ≤ cap) (hm : n ≤ maxLen) :
    IsBytes w B (.slice (some ⟨b, a, none⟩) n cap) ((xs.drop a).take n) := by
  have hl : ((xs.drop a).take n).length = n := by simp; omega
  refine ⟨fun x hx' => hx x (List.mem_of_mem_drop (List.mem_of_mem_take hx')), by omega, .inr ⟨⟨b, a, none⟩, cap, by rw [hl], by omega, fun _ => hB, fun i hi => ?_⟩⟩
  have e : (⟨b, a, none⟩ : Addr).add i = ⟨b, a + i, none⟩ := by unfold Addr.add; split <;> simp_all
  rw [hl] at hi
  rw [e, h.cell (by omega)]
  simp [List.getD, hi]
/-- A byte is laid. -/
theorem Row.set {t : TypeId} {w : World} {b c : Nat} {xs : List Int} (h : Row t w b c xs) {i : Nat} (hi : i < xs.length) (y : Int) : Row t (w.setCell ⟨b, i, none⟩ (.int .u8 y)) b c (xs.set i y) := by
  obtain ⟨cur, h1, h2, h3, h4⟩ := h
  refine ⟨cur.setIfInBounds i (.int .u8 y), heap_setCell_same w b i cur _ _ h1, by simpa using h2, ?_, by simpa using h4⟩
  rw [Array.toList_setIfInBounds, List.length_set, List.take_set, h3, List.map_set]
/-- Bytes are laid, one behind the other. -/
def layL (xs : List Int) (a : Nat) (ys : List Int) : List Int := xs.take a ++ (ys ++ xs.drop (a + ys.length))
theorem layL_len {xs : List Int} {a : Nat} {ys : List Int} (h : a + ys.length ≤ xs.length) : (layL xs a ys).length = xs.length := by simp [layL]; omega
theorem layL_bd {xs ys : List Int} (a : Nat) (hx : ∀ x ∈ xs, 0 ≤ x ∧ x < 256) (hy : ∀ x ∈ ys, 0 ≤ x ∧ x < 256) : ∀ x ∈ layL xs a ys, 0 ≤ x ∧ x < 256 := by
  intro x h
  simp only [layL, List.mem_append] at h
  rcases h with h | h | h
  · exact hx x (List.mem_of_mem_take h)
  · exact hy x h
  · exact hx x (List.mem_of_mem_drop h)
theorem layL_nil (xs : List Int) (a : Nat) : layL xs a [] = xs := by simp [layL]
theorem layL_snoc {xs ys : List Int} {a : Nat} (y : Int) (h : a + ys.length < xs.length) : layL xs a (ys ++ [y]) = (layL xs a ys).set (a + ys.length) y := by
  unfold layL
  have h1 : (xs.take a).length = a := by simp; omega
  rw [List.set_append_right _ _ (by omega), h1, List.set_append_right _ _ (by omega)]
  have e : a + ys.length - a - ys.length = 0 := by omega
  rw [e, List.drop_eq_getElem_cons h, List.set_cons_zero]
  simp [Nat.add_assoc]
theorem Row.lay {t : TypeId} {w : World} {b c : Nat} {xs ys : List Int} {a : Nat} (h : Row t w b c xs) (ha : a + ys.length ≤ xs.length) {cur : Array Value} (hc : w.heap[b]? = some (.cells cur t (0, 0))) :
    Row t (w.setRow b (cur.toList.take a ++ (ys.map (Value.int .u8) ++ cur.toList.drop (a + ys.length))).toArray) b c (layL xs a ys) := by
  obtain ⟨cur', h1, h2, h3, h4⟩ := h
  rw [hc] at h1
  injection h1 with h1
  injection h1 with h1 _ _
  subst h1
  refine ⟨_, setRow_heap w b cur _ t _ hc, by simp; omega, ?_, by rw [layL_len ha]; exact h4⟩
  have hl : cur.toList.length = c := by simpa using h2
  rw [layL_len ha]
  have hcur : cur.toList = xs.map (Value.int .u8) ++ cur.toList.drop xs.length := by rw [← h3, List.take_append_drop]
  generalize cur.toList.drop xs.length = sp at hcur
  rw [hcur]
  have hxl : (xs.map (Value.int .u8)).length = xs.length := by simp
  have e1 : (xs.map (Value.int .u8) ++ sp).take a = (xs.map (Value.int .u8)).take a := List.take_append_of_le_length (by rw [hxl]; omega)
  have e2 : (xs.map (Value.int .u8) ++ sp).drop (a + ys.length) = (xs.map (Value.int .u8)).drop (a + ys.length) ++ sp := List.drop_append_of_le_length (by rw [hxl]; omega)
  rw [e1, e2, ← List.append_assoc (ys.map (Value.int .u8)), ← List.append_assoc ((xs.map (Value.int .u8)).take a)]
  rw [List.take_append_of_le_length (by simp; omega), List.take_of_length_le (by simp; omega)]
  unfold layL
  simp
end Go.Proofs.YtohlifeenhaifaaGreatDoor

/- (Math01) Plain arithmetic of numbers of 64 bits: what each function of two words is, said over whole numbers, with no Go in sight. No condition but the bounds that each lemma names. -/
namespace Go.Proofs.YtohlifeenhaifaaGreatDoor
open Go.RowKit

theorem ret_int {k : IntKind} {a b : Int} (h : a = b) : Ending.returned (.int k a) = .returned (.int k b) := by rw [h]
theorem ret_int2 {k l : IntKind} {a b c d : Int} (h : a = b) (h' : c = d) : Ending.returned (.tuple #[.int k a, .int l c]) = .returned (.tuple #[.int k b, .int l d]) := by rw [h, h']
theorem ret_bool {a b : Bool} (h : a = b) : Ending.returned (.bool a) = .returned (.bool b) := by rw [h]

def sg (a : Int) : Int := if a < 9223372036854775808 then a else a - 18446744073709551616
def low0 (a b : Int) : Int := if a < 9223372036854775808 then 0 else b
def bitV (b : Bool) : Int := if b then 1 else 0
def mulhuV (a b : Int) : Int := a * b / 18446744073709551616
def mulhsuV (a b : Int) : Int := (mulhuV a b - low0 a b) % 18446744073709551616
def mulhV (a b : Int) : Int := ((mulhuV a b - low0 a b) % 18446744073709551616 - low0 b a) % 18446744073709551616
def divV (a b : Int) : Int := if b = 0 then 18446744073709551615 else (sg a).tdiv (sg b) % 18446744073709551616
def divuV (a b : Int) : Int := if b = 0 then 18446744073709551615 else a / b
def remV (a b : Int) : Int := if b = 0 then a else (sg a).tmod (sg b) % 18446744073709551616
def remuV (a b : Int) : Int := if b = 0 then a else a % b
def shlV (a : Int) (n : Nat) : Int := a * 2 ^ n % 18446744073709551616
def shrV (a : Int) (n : Nat) : Int := a / 2 ^ n
def sarV (a : Int) (n : Nat) : Int := sg a / 2 ^ n % 18446744073709551616
def doV (fn a b : Int) : Int :=
  if fn = 1 then (a + b) % 18446744073709551616 else if fn = 2 then (a - b) % 18446744073709551616 else if fn = 3 then a * b % 18446744073709551616
  else if fn = 4 then mulhV a b else if fn = 5 then mulhuV a b else if fn = 6 then mulhsuV a b
  else if fn = 7 then divV a b else if fn = 8 then divuV a b else if fn = 9 then remV a b else if fn = 10 then remuV a b
  else if fn = 11 then bits .and .u64 a b else if fn = 12 then bits .or .u64 a b else if fn = 13 then bits .xor .u64 a b
  else if fn = 14 then shlV a (b % 64).toNat else if fn = 15 then shrV a (b % 64).toNat else if fn = 16 then sarV a (b % 64).toNat
  else if fn = 17 then bitV (decide (sg a < sg b)) else if fn = 18 then bitV (decide (a < b)) else if fn = 19 then bitV (a == b) else if fn = 20 then bitV (!(a == b))
  else 0
def doE (fn : Int) : Int := if 1 ≤ fn ∧ fn ≤ 20 then 0 else 2

theorem doE_in {fn : Int} (h : 1 ≤ fn) (h' : fn ≤ 20) : doE fn = 0 := by unfold doE; rw [if_pos ⟨h, h'⟩]
theorem doE_out {fn : Int} (h : fn < 1 ∨ 20 < fn) : doE fn = 2 := by unfold doE; rw [if_neg (by omega)]
theorem doV_out {fn a b : Int} (h : fn < 1 ∨ 20 < fn) : doV fn a b = 0 := by
  unfold doV
  repeat rw [if_neg (by omega)]

theorem wrap64_sg {a : Int} (h : 0 ≤ a) (h' : a < 18446744073709551616) : wrap64 a = sg a := by
  unfold wrap64 sg
  split <;> omega
theorem sg_bd {a : Int} (h : 0 ≤ a) (h' : a < 18446744073709551616) : -9223372036854775808 ≤ sg a ∧ sg a < 9223372036854775808 := by
  unfold sg
  split <;> omega
theorem sg_mod {a : Int} (h : 0 ≤ a) (h' : a < 18446744073709551616) : sg a % 18446744073709551616 = a := by
  unfold sg
  split <;> omega
theorem sg_zero {a : Int} (h : 0 ≤ a) (h' : a < 18446744073709551616) (h0 : a ≠ 0) : sg a ≠ 0 := by
  unfold sg
  split <;> omega
theorem sg_of_mod {z : Int} (h : -9223372036854775808 ≤ z) (h' : z < 9223372036854775808) : sg (z % 18446744073709551616) = z := by
  unfold sg
  split <;> omega
theorem u64_wrap64 (z : Int) : wrap64 z % 18446744073709551616 = z % 18446744073709551616 := by
  unfold wrap64
  omega

theorem mulhu_bd {a b : Int} (ha : 0 ≤ a) (ha' : a < 18446744073709551616) (hb : 0 ≤ b) (hb' : b < 18446744073709551616) : 0 ≤ mulhuV a b ∧ mulhuV a b < 18446744073709551616 := by
  unfold mulhuV
  have h1 := Int.mul_nonneg ha hb
  have h2 : a * b ≤ 18446744073709551615 * 18446744073709551615 := Int.mul_le_mul (by omega) (by omega) hb (by omega)
  constructor
  · omega
  · omega

theorem ediv_bd {a b : Int} (ha : 0 ≤ a) (hb : 0 < b) : 0 ≤ a / b ∧ a / b ≤ a := ⟨Int.ediv_nonneg ha (by omega), Int.ediv_le_self b ha⟩
theorem emod_bd {a b : Int} (hb : 0 < b) : 0 ≤ a % b ∧ a % b < b := ⟨Int.emod_nonneg a (by omega), Int.emod_lt_of_pos a hb⟩

/-- What the document's way, by sizes and signs, makes of a division. -/
def magV (a : Int) : Int := if a < 9223372036854775808 then a else 18446744073709551616 - a
theorem mag_bd {a : Int} (h : 0 ≤ a) (h' : a < 18446744073709551616) : 0 ≤ magV a ∧ magV a ≤ 9223372036854775808 := by
  unfold magV
  split <;> omega
theorem sg_mag {a : Int} : sg a = if a < 9223372036854775808 then magV a else - magV a := by
  unfold sg magV
  split <;> omega
theorem divV_same {a b : Int} (ha : 0 ≤ a) (ha' : a < 18446744073709551616) (hb : 0 < b) (hb' : b < 18446744073709551616) (hs : (a < 9223372036854775808) = (b < 9223372036854775808)) :
    divV a b = magV a / magV b := by
  have h1 := mag_bd ha ha'
  have h2 := mag_bd (a := b) (by omega) hb'
  have h3 : 0 < magV b := by unfold magV; split <;> omega
  have h4 := ediv_bd h1.1 h3
  unfold divV
  rw [if_neg (by omega), sg_mag, sg_mag]
  by_cases hc : b < 9223372036854775808
  · rw [if_pos hc, if_pos (by rw [hs]; exact hc), Int.tdiv_eq_ediv_of_nonneg h1.1]; omega
  · rw [if_neg hc, if_neg (by rw [hs]; exact hc), Int.neg_tdiv, Int.tdiv_neg, Int.tdiv_eq_ediv_of_nonneg h1.1]; omega
theorem divV_other {a b : Int} (ha : 0 ≤ a) (ha' : a < 18446744073709551616) (hb : 0 < b) (hb' : b < 18446744073709551616) (hs : (a < 9223372036854775808) ≠ (b < 9223372036854775808)) :
    divV a b = (0 - magV a / magV b) % 18446744073709551616 := by
  have h1 := mag_bd ha ha'
  unfold divV
  rw [if_neg (by omega), sg_mag, sg_mag]
  by_cases hc : b < 9223372036854775808
  · have hd : ¬ a < 9223372036854775808 := fun h => hs (by simp [h, hc])
    rw [if_pos hc, if_neg hd, Int.neg_tdiv, Int.tdiv_eq_ediv_of_nonneg h1.1]; omega
  · have hd : a < 9223372036854775808 := by
      apply Classical.byContradiction
      intro h
      exact hs (by simp [h, hc])
    rw [if_neg hc, if_pos hd, Int.tdiv_neg, Int.tdiv_eq_ediv_of_nonneg h1.1]; omega
theorem remV_up {a b : Int} (ha : 0 ≤ a) (ha' : a < 9223372036854775808) (hb : 0 < b) (hb' : b < 18446744073709551616) : remV a b = magV a % magV b := by
  have h1 := mag_bd ha (by omega)
  have h2 := mag_bd (a := b) (by omega) hb'
  have h3 : 0 < magV b := by unfold magV; split <;> omega
  have h4 := emod_bd (a := magV a) h3
  unfold remV
  rw [if_neg (by omega), sg_mag, sg_mag, if_pos ha']
  by_cases hc : b < 9223372036854775808
  · rw [if_pos hc, Int.tmod_eq_emod_of_nonneg h1.1]; omega
  · rw [if_neg hc, Int.tmod_neg, Int.tmod_eq_emod_of_nonneg h1.1]; omega
theorem remV_down {a b : Int} (ha : 9223372036854775808 ≤ a) (ha' : a < 18446744073709551616) (hb : 0 < b) (hb' : b < 18446744073709551616) : remV a b = (0 - magV a % magV b) % 18446744073709551616 := by
  have h1 := mag_bd (a := a) (by omega) (by omega)
  unfold remV
  rw [if_neg (by omega), sg_mag, sg_mag, if_neg (by omega)]
  by_cases hc : b < 9223372036854775808
  · rw [if_pos hc, Int.neg_tmod, Int.tmod_eq_emod_of_nonneg h1.1]; omega
  · rw [if_neg hc, Int.neg_tmod, Int.tmod_neg, Int.tmod_eq_emod_of_nonneg h1.1]; omega
theorem minus_mag {a : Int} (h : 9223372036854775808 ≤ a) (h' : a < 18446744073709551616) : (0 - a) % 18446744073709551616 = magV a := by
  unfold magV
  rw [if_neg (by omega)]
  omega
theorem mag_up {a : Int} (h : a < 9223372036854775808) : magV a = a := by unfold magV; rw [if_pos h]
theorem mag_pos {a : Int} (h : 0 < a) (h' : a < 18446744073709551616) : 0 < magV a := by unfold magV; split <;> omega

theorem divV_bd {a b : Int} : 0 ≤ divV a b ∧ divV a b < 18446744073709551616 := by
  unfold divV
  split
  · omega
  · omega
theorem remV_bd {a b : Int} (ha : 0 ≤ a) (ha' : a < 18446744073709551616) : 0 ≤ remV a b ∧ remV a b < 18446744073709551616 := by
  unfold remV
  split
  · omega
  · omega
theorem divuV_bd {a b : Int} (ha : 0 ≤ a) (ha' : a < 18446744073709551616) (hb : 0 ≤ b) : 0 ≤ divuV a b ∧ divuV a b < 18446744073709551616 := by
  unfold divuV
  split
  · omega
  · have := ediv_bd ha (show 0 < b by omega); omega
theorem remuV_bd {a b : Int} (ha : 0 ≤ a) (ha' : a < 18446744073709551616) (hb : 0 ≤ b) (hb' : b < 18446744073709551616) : 0 ≤ remuV a b ∧ remuV a b < 18446744073709551616 := by
  unfold remuV
  split
  · omega
  · have := emod_bd (a := a) (show 0 < b by omega); omega

theorem pow_pos' (n : Nat) : (0 : Int) < 2 ^ n := Int.pow_pos (by omega)
theorem shrV_zero (a : Int) : shrV a 0 = a := by unfold shrV; simp
theorem shrV_succ (a : Int) (n : Nat) : shrV a (n + 1) = shrV a n / 2 := by
  unfold shrV
  rw [Int.pow_succ, Int.ediv_mul_of_nonneg (by have := pow_pos' n; omega)]
theorem shrV_bd {a : Int} (ha : 0 ≤ a) (n : Nat) : 0 ≤ shrV a n ∧ shrV a n ≤ a := ediv_bd ha (pow_pos' n)
theorem shlV_zero {a : Int} (h : 0 ≤ a) (h' : a < 18446744073709551616) : shlV a 0 = a := by unfold shlV; simp; omega
theorem shlV_succ (a : Int) (n : Nat) : shlV a (n + 1) = shlV a n * 2 % 18446744073709551616 := by
  unfold shlV
  rw [Int.pow_succ, ← Int.mul_assoc]
  generalize a * 2 ^ n = x
  omega
theorem shlV_bd (a : Int) (n : Nat) : 0 ≤ shlV a n ∧ shlV a n < 18446744073709551616 := by unfold shlV; omega
theorem sarV_zero {a : Int} (h : 0 ≤ a) (h' : a < 18446744073709551616) : sarV a 0 = a := by
  unfold sarV
  rw [Int.pow_zero, Int.ediv_one, sg_mod h h']
theorem sg_shr_bd {a : Int} (h : 0 ≤ a) (h' : a < 18446744073709551616) (n : Nat) : -9223372036854775808 ≤ sg a / 2 ^ n ∧ sg a / 2 ^ n < 9223372036854775808 := by
  have hb := sg_bd h h'
  have hp := pow_pos' n
  constructor
  · rw [Int.le_ediv_iff_mul_le hp]
    have : (1 : Int) ≤ 2 ^ n := hp
    have := Int.mul_le_mul_of_nonneg_left this (show (0 : Int) ≤ 9223372036854775808 by omega)
    omega
  · rw [Int.ediv_lt_iff_lt_mul hp]
    have : (1 : Int) ≤ 2 ^ n := hp
    have := Int.mul_le_mul_of_nonneg_left this (show (0 : Int) ≤ 9223372036854775808 by omega)
    omega
theorem sarV_succ {a : Int} (h : 0 ≤ a) (h' : a < 18446744073709551616) (n : Nat) :
    sarV a (n + 1) = sarV a n / 2 + sarV a n / 9223372036854775808 * 9223372036854775808 := by
  have hb := sg_shr_bd h h' n
  unfold sarV
  rw [Int.pow_succ, Int.ediv_mul_of_nonneg (by have := pow_pos' n; omega)]
  generalize sg a / 2 ^ n = z at *
  omega
theorem sarV_bd (a : Int) (n : Nat) : 0 ≤ sarV a n ∧ sarV a n < 18446744073709551616 := by unfold sarV; omega
theorem bitV_bd (b : Bool) : 0 ≤ bitV b ∧ bitV b ≤ 1 := by cases b <;> simp [bitV]

theorem mulhV_bd (a b : Int) : 0 ≤ mulhV a b ∧ mulhV a b < 18446744073709551616 := by unfold mulhV; omega
theorem mulhsuV_bd (a b : Int) : 0 ≤ mulhsuV a b ∧ mulhsuV a b < 18446744073709551616 := by unfold mulhsuV; omega
theorem bits_bd (o : BinOp) (a b : Int) : 0 ≤ bits o .u64 a b ∧ bits o .u64 a b < 18446744073709551616 := by
  unfold bits
  simp only [IntKind.wrap_u64]
  omega

def inW (v : Int) : Prop := 0 ≤ v ∧ v < 18446744073709551616
theorem inW_ite {c : Prop} [Decidable c] {x y : Int} (h : inW x) (h' : inW y) : inW (if c then x else y) := by
  by_cases hc : c
  · rw [if_pos hc]; exact h
  · rw [if_neg hc]; exact h'
theorem inW_bit (b : Bool) : inW (bitV b) := by cases b <;> simp [inW, bitV]
theorem doV_bd {fn a b : Int} (ha : 0 ≤ a) (ha' : a < 18446744073709551616) (hb : 0 ≤ b) (hb' : b < 18446744073709551616) : 0 ≤ doV fn a b ∧ doV fn a b < 18446744073709551616 := by
  show inW (doV fn a b)
  unfold doV
  repeat' (with_reducible refine inW_ite ?_ ?_)
  all_goals first
    | exact mulhV_bd _ _ | exact mulhsuV_bd _ _ | exact bits_bd _ _ _ | exact divV_bd | exact remV_bd ha ha' | exact divuV_bd ha ha' hb | exact remuV_bd ha ha' hb hb' | exact mulhu_bd ha ha' hb hb' | exact shlV_bd _ _ | exact sarV_bd _ _
    | exact inW_bit _ | (have := shrV_bd ha (b % 64).toNat; exact ⟨this.1, by omega⟩) | (unfold inW; omega)

def zextV (a s : Int) : Int := if s = 1 then a % 256 else if s = 2 then a % 65536 else if s = 4 then a % 4294967296 else if s = 8 then a else 0
def sext1 (z top : Int) : Int := if z < top then z else z + 18446744073709551616 - 2 * top
def sextV (a s : Int) : Int := if s = 1 then sext1 (a % 256) 128 else if s = 2 then sext1 (a % 65536) 32768 else if s = 4 then sext1 (a % 4294967296) 2147483648 else if s = 8 then a else 0
def sizedB (s : Int) : Bool := s == 1 || s == 2 || s == 4 || s == 8
theorem sized_cases {s : Int} (h : sizedB s = true) : s = 1 ∨ s = 2 ∨ s = 4 ∨ s = 8 := by simpa [sizedB, or_assoc] using h
theorem sized_not {s : Int} (h : sizedB s = false) : s ≠ 1 ∧ s ≠ 2 ∧ s ≠ 4 ∧ s ≠ 8 := by simpa [sizedB, and_assoc] using h
theorem zextV_not {a s : Int} (h : sizedB s = false) : zextV a s = 0 := by
  have := sized_not h
  unfold zextV
  repeat rw [if_neg (by omega)]
theorem sextV_not {a s : Int} (h : sizedB s = false) : sextV a s = 0 := by
  have := sized_not h
  unfold sextV
  repeat rw [if_neg (by omega)]
theorem zextV_1 (a : Int) : zextV a 1 = a % 256 := by simp [zextV]
theorem zextV_2 (a : Int) : zextV a 2 = a % 65536 := by simp [zextV]
theorem zextV_4 (a : Int) : zextV a 4 = a % 4294967296 := by simp [zextV]
theorem zextV_8 (a : Int) : zextV a 8 = a := by simp [zextV]
theorem sextV_1 (a : Int) : sextV a 1 = sext1 (a % 256) 128 := by simp [sextV]
theorem sextV_2 (a : Int) : sextV a 2 = sext1 (a % 65536) 32768 := by simp [sextV]
theorem sextV_4 (a : Int) : sextV a 4 = sext1 (a % 4294967296) 2147483648 := by simp [sextV]
theorem sextV_8 (a : Int) : sextV a 8 = a := by simp [sextV]
theorem zextV_bd {a s : Int} (h : 0 ≤ a) (h' : a < 18446744073709551616) : 0 ≤ zextV a s ∧ zextV a s < 18446744073709551616 := by
  unfold zextV
  repeat' split
  all_goals omega
theorem sextV_bd {a s : Int} (h : 0 ≤ a) (h' : a < 18446744073709551616) : 0 ≤ sextV a s ∧ sextV a s < 18446744073709551616 := by
  unfold sextV sext1
  repeat' split
  all_goals omega

/-- What the functions of the low halves are: the first and the second number that each takes, and which have them. -/
def halfB (fn : Int) : Bool := fn == 1 || fn == 2 || fn == 3 || fn == 7 || fn == 8 || fn == 9 || fn == 10 || fn == 14 || fn == 15 || fn == 16
def halfX (fn a : Int) : Int := if fn = 7 ∨ fn = 9 ∨ fn = 16 then sextV a 4 else zextV a 4
def halfY (fn b : Int) : Int := if fn = 7 ∨ fn = 9 then sextV b 4 else if fn = 14 ∨ fn = 15 ∨ fn = 16 then b % 32 else zextV b 4
def halfV (fn a b : Int) : Int := if halfB fn = true then sextV (doV fn (halfX fn a) (halfY fn b)) 4 else 0
def halfE (fn : Int) : Int := if halfB fn = true then 0 else 2
theorem half_cases {fn : Int} (h : halfB fn = true) : fn = 1 ∨ fn = 2 ∨ fn = 3 ∨ fn = 7 ∨ fn = 8 ∨ fn = 9 ∨ fn = 10 ∨ fn = 14 ∨ fn = 15 ∨ fn = 16 := by simpa [halfB, or_assoc] using h
theorem half_not {fn : Int} (h : halfB fn = false) : fn ≠ 1 ∧ fn ≠ 2 ∧ fn ≠ 3 ∧ fn ≠ 7 ∧ fn ≠ 8 ∧ fn ≠ 9 ∧ fn ≠ 10 ∧ fn ≠ 14 ∧ fn ≠ 15 ∧ fn ≠ 16 := by simpa [halfB, and_assoc] using h
theorem do_cases {fn : Int} (h : 1 ≤ fn) (h' : fn ≤ 20) : fn = 1 ∨ fn = 2 ∨ fn = 3 ∨ fn = 4 ∨ fn = 5 ∨ fn = 6 ∨ fn = 7 ∨ fn = 8 ∨ fn = 9 ∨ fn = 10 ∨ fn = 11 ∨ fn = 12 ∨ fn = 13 ∨ fn = 14 ∨ fn = 15 ∨ fn = 16 ∨ fn = 17 ∨ fn = 18 ∨ fn = 19 ∨ fn = 20 := by omega

end Go.Proofs.YtohlifeenhaifaaGreatDoor

/- (Math06) What an instruction's fields are, letter by letter: plain mathematics. -/
namespace Go.Proofs.YtohlifeenhaifaaGreatDoor
set_option linter.unusedVariables false

/-- Is a letter one of a register? -/
def isReg (q : Int) : Bool := decide (q = 119 ∨ q = 114)
/-- What a field holds: registers are taken one after the other, Args for the letter l, else the number. -/
def heldOf (n : Int) (args : List Int) (q : Int) (rs : List Int) : List Int := if isReg q then [rs.headD 0] else if q = 108 then args else [n]
def restOf (q : Int) (rs : List Int) : List Int := if isReg q then rs.tail else rs
def itemsL (n : Int) (args : List Int) : List Int → List Int → List (Int × Int)
  | [], _ => []
  | q :: qs, rs => (heldOf n args q rs).map (fun x => (q, x)) ++ itemsL n args qs (restOf q rs)
def regN : List Int → Nat
  | [] => 0
  | q :: qs => (if isReg q then 1 else 0) + regN qs
/-- The letters of a text. -/
def lettersOf (s : ByteArray) : List Int := s.data.toList.map fun c => (c.toNat : Int)
theorem letters_drop (s : ByteArray) {k : Nat} (h : k < s.size) : (lettersOf s).drop k = (s[k].toNat : Int) :: (lettersOf s).drop (k + 1) := by
  unfold lettersOf
  have hl : k < s.data.toList.length := by simpa using h
  rw [List.drop_eq_getElem_cons (by simpa using hl)]
  simp
  rfl
theorem letters_end (s : ByteArray) : (lettersOf s).drop s.size = [] := by
  apply List.drop_eq_nil_of_le
  simp [lettersOf]
/-- A text whose letters are small, with at most three registers. -/
def okShape (s : ByteArray) : Bool := (lettersOf s).all (fun q => decide (q < 128)) && decide (regN (lettersOf s) ≤ 3)
theorem okShape_lt {s : ByteArray} (h : okShape s = true) {k : Nat} (hk : k < s.size) : (s[k]'hk).toNat < 128 := by
  unfold okShape at h
  rw [Bool.and_eq_true] at h
  have h1 := List.all_eq_true.1 h.1 ((s[k]'hk).toNat : Int) (by
    have := letters_drop s hk
    exact List.mem_of_mem_drop (by rw [this]; exact List.mem_cons_self))
  simp at h1
  omega
theorem okShape_reg {s : ByteArray} (h : okShape s = true) : regN (lettersOf s) ≤ 3 := by
  unfold okShape at h
  rw [Bool.and_eq_true] at h
  exact of_decide_eq_true h.2
theorem items_step {n q : Int} {args qs rs : List Int} {pre items : List (Int × Int)} (h : items = pre ++ itemsL n args (q :: qs) rs) : items = (pre ++ (heldOf n args q rs).map (fun x => (q, x))) ++ itemsL n args qs (restOf q rs) := by
  rw [h]; simp [itemsL]
theorem items_pre {α β : Type} {items pre rest : List β} {hs : List α} {f : α → β} (h : items = (pre ++ hs.map f) ++ rest) (t : Nat) : pre ++ (hs.take t).map f <+: items := by
  refine ⟨(hs.drop t).map f ++ rest, ?_⟩
  rw [h]
  have e : hs.map f = (hs.take t).map f ++ (hs.drop t).map f := by rw [← List.map_append, List.take_append_drop]
  rw [← List.append_assoc, List.append_assoc pre, ← e]
theorem items_lt {α β : Type} {items pre rest : List β} {hs : List α} {f : α → β} (h : items = (pre ++ hs.map f) ++ rest) {t : Nat} (ht : t < hs.length) : (pre ++ (hs.take t).map f).length < items.length := by
  rw [h]
  simp
  omega
theorem take_snocF {β : Type} (hs : List Int) {t : Nat} (ht : t < hs.length) (f : Int → β) : (hs.take (t + 1)).map f = (hs.take t).map f ++ [f (hs.getD t 0)] := by
  rw [List.take_succ_eq_append_getElem ht, List.map_append]
  simp [List.getD, ht]
def itemsOf (s : ByteArray) (a b c n : Int) (args : List Int) : List (Int × Int) := itemsL n args (lettersOf s) [a, b, c]
end Go.Proofs.YtohlifeenhaifaaGreatDoor

/- (Nums06) Slices of numbers: what they are in the model. Plain lemmas; no condition but what each names. -/
namespace Go.Proofs.YtohlifeenhaifaaGreatDoor
open Go.RowKit
set_option linter.unusedVariables false

/-- A slice of numbers of a kind: nil, or it leads to the numbers xs. -/
def IsNums (K : IntKind) (w : World) (B : Nat) (X : Value) (xs : List Int) : Prop :=
  xs.length ≤ maxLen ∧ ((X = .slice none 0 0 ∧ xs = []) ∨
    ∃ ad cap, X = .slice (some ad) xs.length cap ∧ xs.length ≤ cap ∧ (0 < xs.length → ad.block < B) ∧ ∀ i, i < xs.length → w.cell? (ad.add i) = some (.int K (xs.getD i 0)))
theorem add_block (ad : Addr) (i : Nat) : (ad.add i).block = ad.block := by unfold Addr.add; split <;> rfl
theorem IsNums.of_block {K : IntKind} {w w' : World} {B : Nat} {X : Value} {xs : List Int} (h : IsNums K w B X xs) (hb : ∀ b, b < B → w'.heap[b]? = w.heap[b]?) : IsNums K w' B X xs := by
  refine ⟨h.1, ?_⟩
  rcases h.2 with h0 | ⟨ad, cap, h1, h2, h3, h4⟩
  · exact .inl h0
  · refine .inr ⟨ad, cap, h1, h2, h3, fun i hi => ?_⟩
    rw [World.cell?_of_block (hb (ad.add i).block (by rw [add_block]; exact h3 (by omega)))]
    exact h4 i hi
theorem IsNums.below {K : IntKind} {w w' : World} {B B' : Nat} {X : Value} {xs : List Int} (h : IsNums K w B X xs) (hb : Below B' w w') (hB : B ≤ B') : IsNums K w' B X xs :=
  h.of_block fun b h => hb.block b (Nat.lt_of_lt_of_le h hB)
theorem IsNums.but {K : IntKind} {w w' : World} {B : Nat} {R : Nat → Prop} {X : Value} {xs : List Int} (h : IsNums K w B X xs) (hb : But R w w') (hB : B ≤ w.heap.size) (hr : ∀ k, k < B → ¬ R k) : IsNums K w' B X xs :=
  h.of_block fun b h => hb.block b (by omega) (hr b h)
theorem IsNums.more {K : IntKind} {w : World} {B B' : Nat} {X : Value} {xs : List Int} (h : IsNums K w B X xs) (hB : B ≤ B') : IsNums K w B' X xs := by
  refine ⟨h.1, ?_⟩
  rcases h.2 with h0 | ⟨ad, cap, h1, h2, h3, h4⟩
  · exact .inl h0
  · exact .inr ⟨ad, cap, h1, h2, fun hn => Nat.lt_of_lt_of_le (h3 hn) hB, h4⟩
theorem IsNums.len {K : IntKind} {w : World} {B : Nat} {X : Value} {xs : List Int} (h : IsNums K w B X xs) : ∃ A cap, X = .slice A xs.length cap := by
  rcases h.2 with ⟨h0, rfl⟩ | ⟨ad, cap, h1, _⟩
  · exact ⟨none, 0, h0⟩
  · exact ⟨_, cap, h1⟩
theorem IsNums.plain {K : IntKind} {w : World} {B : Nat} {X : Value} {xs : List Int} (h : IsNums K w B X xs) (hn : 0 < xs.length) :
    ∃ b off cap, X = .slice (some ⟨b, off, none⟩) xs.length cap ∧ xs.length ≤ cap ∧ b < B ∧ ∀ i, i < xs.length → w.cell? ⟨b, off + i, none⟩ = some (.int K (xs.getD i 0)) := by
  rcases h.2 with ⟨_, rfl⟩ | ⟨⟨b, off, spot⟩, cap, h1, h2, h3, h4⟩
  · simp at hn
  · have hspot : spot = none := by simpa [Addr.add] using World.cell?_spot (h4 0 hn)
    subst hspot
    refine ⟨b, off, cap, h1, h2, h3 hn, fun i hi => ?_⟩
    have := h4 i hi
    by_cases h0 : i = 0
    · subst h0
      simpa [Addr.add] using this
    · simpa [Addr.add, h0] using this
theorem IsNums.of_owns {K : IntKind} {w : World} {base B : Nat} {e : TypeId} {Q : Value → Prop} {v : Value} {n : Nat} {xs : List Int} (h : Owns w base e 1 Q v n (xs.map (Value.int K))) (hB : w.heap.size ≤ B) : IsNums K w B v xs := by
  have hn : xs.length = n := by simpa using h.1.1
  subst hn
  rcases h.1.2 with ⟨rfl, h0⟩ | ⟨g, cap, cur, rfl, h1, h2, h3, h4, h5, h6⟩
  · have : xs = [] := List.eq_nil_of_length_eq_zero h0
    subst this
    exact ⟨by simp, .inl ⟨rfl, rfl⟩⟩
  · refine ⟨by omega, .inr ⟨⟨g, 0, none⟩, cap, rfl, h3, fun _ => ?_, fun i hi => ?_⟩⟩
    · have := (h.lt (g := g) (by simp [Value.ownBlock])).2
      show g < B
      omega
    · exact h.1.cells (g := g) rfl i _ (by simp [List.getElem?_eq_getElem hi, List.getD])
def IsNum (K : IntKind) (u : Value) : Prop := ∃ n : Int, u = .int K n
theorem num_cells (K : IntKind) (xs : List Int) : ∀ u ∈ xs.map (Value.int K), IsNum K u := by
  intro u hu
  obtain ⟨x, hx, rfl⟩ := List.mem_map.1 hu
  exact ⟨x, rfl⟩
theorem zero_num (K : IntKind) : ∀ u ∈ (Value.int K 0).cells.toList, IsNum K u := by
  intro u hu
  simp [Value.cells] at hu
  subst hu
  exact ⟨0, rfl⟩
theorem int_info : (Tryz.prog.info? 3).map (fun i => (i.zero, i.size, i.bytes)) = some (some (.int .i64 0), 1, 8) := by kernel_rfl
theorem IsNums.of_row {K : IntKind} {w : World} {b B cap : Nat} {xs : List Int} {t : TypeId} (h : w.heap[b]? = some (.cells (xs.map (Value.int K)).toArray t (0, 0))) (hB : b < B) (hm : xs.length ≤ maxLen) (hc : xs.length ≤ cap) : IsNums K w B (.slice (some ⟨b, 0, none⟩) xs.length cap) xs := by
  refine ⟨hm, .inr ⟨_, cap, rfl, hc, fun _ => hB, fun i hi => ?_⟩⟩
  have e : (⟨b, 0, none⟩ : Addr).add i = ⟨b, i, none⟩ := by unfold Addr.add; split <;> simp_all
  rw [e]
  simp [World.cell?, h, List.getElem?_eq_getElem hi, List.getD]
end Go.Proofs.YtohlifeenhaifaaGreatDoor

/- (Op06A) The bytecode's operations: which there are, their names and shapes; an operation is found by its name. Contracts of the landed functions; no condition but that a number is one of the machine's. -/
namespace Go.Proofs.YtohlifeenhaifaaGreatDoor
open Go.RowKit
set_option linter.unusedVariables false
set_option linter.unusedSimpArgs false

def nameL : List ByteArray := [⟨#[110, 111, 112]⟩, ⟨#[99, 111, 110, 115, 116]⟩, ⟨#[109, 111, 118]⟩, ⟨#[97, 100, 100]⟩, ⟨#[115, 117, 98]⟩, ⟨#[109, 117, 108]⟩, ⟨#[100, 105, 118]⟩, ⟨#[100, 105, 118, 117]⟩, ⟨#[114, 101, 109]⟩, ⟨#[114, 101, 109, 117]⟩, ⟨#[97, 110, 100]⟩, ⟨#[111, 114]⟩, ⟨#[120, 111, 114]⟩, ⟨#[115, 104, 108]⟩, ⟨#[115, 104, 114]⟩, ⟨#[115, 97, 114]⟩, ⟨#[108, 116]⟩, ⟨#[108, 116, 117]⟩, ⟨#[101, 113]⟩, ⟨#[110, 101]⟩, ⟨#[101, 120, 116]⟩, ⟨#[108, 111, 97, 100]⟩, ⟨#[115, 116, 111, 114, 101]⟩, ⟨#[108, 101, 97]⟩, ⟨#[100, 97, 116, 97]⟩, ⟨#[106, 109, 112]⟩, ⟨#[98, 114, 122]⟩, ⟨#[98, 114, 110, 122]⟩, ⟨#[99, 97, 108, 108]⟩, ⟨#[114, 101, 116]⟩, ⟨#[103, 101, 116, 98]⟩, ⟨#[112, 117, 116, 98]⟩, ⟨#[101, 120, 105, 116]⟩]
def shapeL : List ByteArray := [⟨#[]⟩, ⟨#[119, 105]⟩, ⟨#[119, 114]⟩, ⟨#[119, 114, 114]⟩, ⟨#[119, 114, 114]⟩, ⟨#[119, 114, 114]⟩, ⟨#[119, 114, 114]⟩, ⟨#[119, 114, 114]⟩, ⟨#[119, 114, 114]⟩, ⟨#[119, 114, 114]⟩, ⟨#[119, 114, 114]⟩, ⟨#[119, 114, 114]⟩, ⟨#[119, 114, 114]⟩, ⟨#[119, 114, 114]⟩, ⟨#[119, 114, 114]⟩, ⟨#[119, 114, 114]⟩, ⟨#[119, 114, 114]⟩, ⟨#[119, 114, 114]⟩, ⟨#[119, 114, 114]⟩, ⟨#[119, 114, 114]⟩, ⟨#[119, 114, 107]⟩, ⟨#[119, 114, 109]⟩, ⟨#[114, 114, 122]⟩, ⟨#[119, 102]⟩, ⟨#[119, 100]⟩, ⟨#[116]⟩, ⟨#[114, 116]⟩, ⟨#[114, 116]⟩, ⟨#[119, 99, 108]⟩, ⟨#[114]⟩, ⟨#[119]⟩, ⟨#[114]⟩, ⟨#[114]⟩]
def nameB (k : Nat) : ByteArray := nameL.getD k ⟨#[]⟩
def shapeB (k : Nat) : ByteArray := shapeL.getD k ⟨#[]⟩
/-- The name, the shape of a number; none where it is no operation. -/
def nameI (op : Int) : ByteArray := if 0 ≤ op ∧ op < 33 then nameB op.toNat else ⟨#[]⟩
def shapeI (op : Int) : ByteArray := if 0 ≤ op ∧ op < 33 then shapeB op.toNat else ⟨#[]⟩
theorem run_index_texts {P : Program} {t e : TypeId} {n : Nat} {i : TypeInfo} (h : P.underlying t = some (.array n e)) (hi : P.info? e = some i) (hs : i.size = 1) (hu : P.underlying e = some .string) (cs : Array Value) (k : Nat) (hk : k < n) (v : ByteArray) (hv : cs[k]? = some (.string v)) (w : World) :
    (Instr.index t (.agg cs) (.int .i64 k)).run P w = .ok (.string v) w := by
  have hn : 0 ≤ (k : Int) ∧ (k : Int) < (n : Int) := by omega
  simp [Instr.index, run_underlying h, asIntOf, hn, hk, go_sem, sizeOf, typeInfo, hi, hs, run_underlying hu, hv, part, isAgg]
theorem text_info : (Tryz.prog.info? 9).map (fun i => (i.zero, i.size, i.bytes)) = some (some (.string ⟨#[]⟩), 1, 16) := by kernel_rfl
def namesA : Value := .agg #[.string ⟨#[110, 111, 112]⟩, .string ⟨#[99, 111, 110, 115, 116]⟩, .string ⟨#[109, 111, 118]⟩, .string ⟨#[97, 100, 100]⟩, .string ⟨#[115, 117, 98]⟩, .string ⟨#[109, 117, 108]⟩, .string ⟨#[100, 105, 118]⟩, .string ⟨#[100, 105, 118, 117]⟩, .string ⟨#[114, 101, 109]⟩, .string ⟨#[114, 101, 109, 117]⟩, .string ⟨#[97, 110, 100]⟩, .string ⟨#[111, 114]⟩, .string ⟨#[120, 111, 114]⟩, .string ⟨#[115, 104, 108]⟩, .string ⟨#[115, 104, 114]⟩, .string ⟨#[115, 97, 114]⟩, .string ⟨#[108, 116]⟩, .string ⟨#[108, 116, 117]⟩, .string ⟨#[101, 113]⟩, .string ⟨#[110, 101]⟩, .string ⟨#[101, 120, 116]⟩, .string ⟨#[108, 111, 97, 100]⟩, .string ⟨#[115, 116, 111, 114, 101]⟩, .string ⟨#[108, 101, 97]⟩, .string ⟨#[100, 97, 116, 97]⟩, .string ⟨#[106, 109, 112]⟩, .string ⟨#[98, 114, 122]⟩, .string ⟨#[98, 114, 110, 122]⟩, .string ⟨#[99, 97, 108, 108]⟩, .string ⟨#[114, 101, 116]⟩, .string ⟨#[103, 101, 116, 98]⟩, .string ⟨#[112, 117, 116, 98]⟩, .string ⟨#[101, 120, 105, 116]⟩]
def shapesA : Value := .agg #[.string ⟨#[]⟩, .string ⟨#[119, 105]⟩, .string ⟨#[119, 114]⟩, .string ⟨#[119, 114, 114]⟩, .string ⟨#[119, 114, 114]⟩, .string ⟨#[119, 114, 114]⟩, .string ⟨#[119, 114, 114]⟩, .string ⟨#[119, 114, 114]⟩, .string ⟨#[119, 114, 114]⟩, .string ⟨#[119, 114, 114]⟩, .string ⟨#[119, 114, 114]⟩, .string ⟨#[119, 114, 114]⟩, .string ⟨#[119, 114, 114]⟩, .string ⟨#[119, 114, 114]⟩, .string ⟨#[119, 114, 114]⟩, .string ⟨#[119, 114, 114]⟩, .string ⟨#[119, 114, 114]⟩, .string ⟨#[119, 114, 114]⟩, .string ⟨#[119, 114, 114]⟩, .string ⟨#[119, 114, 114]⟩, .string ⟨#[119, 114, 107]⟩, .string ⟨#[119, 114, 109]⟩, .string ⟨#[114, 114, 122]⟩, .string ⟨#[119, 102]⟩, .string ⟨#[119, 100]⟩, .string ⟨#[116]⟩, .string ⟨#[114, 116]⟩, .string ⟨#[114, 116]⟩, .string ⟨#[119, 99, 108]⟩, .string ⟨#[114]⟩, .string ⟨#[119]⟩, .string ⟨#[114]⟩, .string ⟨#[114]⟩]
def opB (op : Int) : Bool := decide (0 ≤ op ∧ op < 33)
theorem opB_yes {op : Int} (h : 0 ≤ op ∧ op < 33) : opB op = true := decide_eq_true h
theorem opB_no {op : Int} (h : ¬ (0 ≤ op ∧ op < 33)) : opB op = false := decide_eq_false h

theorem names_same : namesA = .agg (nameL.map Value.string).toArray := by kernel_rfl
theorem name_at {k : Nat} (hk : k < 33) (w : World) : (Instr.index 101 namesA (.int .i64 k)).run Tryz.prog w = .ok (.string (nameB k)) w := by
  rw [names_same]
  have hl : nameL.length = 33 := by kernel_rfl
  obtain ⟨i0, hi, h0, h1, h2⟩ := info_parts text_info
  exact run_index_texts Tryz.underlying101 hi h1 Tryz.underlying9 _ k hk _ (by simp [nameB, List.getD, hl, hk]) w
def namesC : Array Value := #[.string ⟨#[110, 111, 112]⟩, .string ⟨#[99, 111, 110, 115, 116]⟩, .string ⟨#[109, 111, 118]⟩, .string ⟨#[97, 100, 100]⟩, .string ⟨#[115, 117, 98]⟩, .string ⟨#[109, 117, 108]⟩, .string ⟨#[100, 105, 118]⟩, .string ⟨#[100, 105, 118, 117]⟩, .string ⟨#[114, 101, 109]⟩, .string ⟨#[114, 101, 109, 117]⟩, .string ⟨#[97, 110, 100]⟩, .string ⟨#[111, 114]⟩, .string ⟨#[120, 111, 114]⟩, .string ⟨#[115, 104, 108]⟩, .string ⟨#[115, 104, 114]⟩, .string ⟨#[115, 97, 114]⟩, .string ⟨#[108, 116]⟩, .string ⟨#[108, 116, 117]⟩, .string ⟨#[101, 113]⟩, .string ⟨#[110, 101]⟩, .string ⟨#[101, 120, 116]⟩, .string ⟨#[108, 111, 97, 100]⟩, .string ⟨#[115, 116, 111, 114, 101]⟩, .string ⟨#[108, 101, 97]⟩, .string ⟨#[100, 97, 116, 97]⟩, .string ⟨#[106, 109, 112]⟩, .string ⟨#[98, 114, 122]⟩, .string ⟨#[98, 114, 110, 122]⟩, .string ⟨#[99, 97, 108, 108]⟩, .string ⟨#[114, 101, 116]⟩, .string ⟨#[103, 101, 116, 98]⟩, .string ⟨#[112, 117, 116, 98]⟩, .string ⟨#[101, 120, 105, 116]⟩]
theorem namesC_cells : namesC.all (·.oneCell') = true := by kernel_rfl
theorem namesC_info : (Tryz.prog.info? 101).map (·.size) = some namesC.size := by kernel_rfl
theorem namesC_results : Tryz.f59.results = #[.cell 0 101] := by kernel_rfl
set_option maxRecDepth 100000 in
set_option maxHeartbeats 2000000 in
theorem names_any (w : World) : Calls Tryz.prog 59 #[] w fun e w' => e = .returned namesA ∧ Below w.heap.size w w' := by
  go_enter Tryz.func59, Tryz.ntmps59
  go_wp2_with (with_reducible refine wpList_store_row rfl 101 (.tmp 0) (.tmp 1) rfl w.heap.size namesC ?c1 ?c2 101 ?old ?c3 namesC_info ?c4 namesC_cells ?_)
  case c3 => exact heap_alloc_new _ _
  case c1 => rfl
  case c2 => rfl
  case c4 => rfl
  rw [World.setRow_alloc_new]
  exact bodyPost_ret (v := .agg namesC) (results_cell_row namesC_results _ _ w.heap.size 101 namesC (0, 0) (.array 33 9) rfl (heap_alloc_new _ _) Tryz.underlying101 rfl namesC_info) rfl ⟨rfl, (Below.refl _ _).alloc (Nat.le_refl _) _⟩

theorem shapes_same : shapesA = .agg (shapeL.map Value.string).toArray := by kernel_rfl
theorem shape_at {k : Nat} (hk : k < 33) (w : World) : (Instr.index 101 shapesA (.int .i64 k)).run Tryz.prog w = .ok (.string (shapeB k)) w := by
  rw [shapes_same]
  have hl : shapeL.length = 33 := by kernel_rfl
  obtain ⟨i0, hi, h0, h1, h2⟩ := info_parts text_info
  exact run_index_texts Tryz.underlying101 hi h1 Tryz.underlying9 _ k hk _ (by simp [shapeB, List.getD, hl, hk]) w
def shapesC : Array Value := #[.string ⟨#[]⟩, .string ⟨#[119, 105]⟩, .string ⟨#[119, 114]⟩, .string ⟨#[119, 114, 114]⟩, .string ⟨#[119, 114, 114]⟩, .string ⟨#[119, 114, 114]⟩, .string ⟨#[119, 114, 114]⟩, .string ⟨#[119, 114, 114]⟩, .string ⟨#[119, 114, 114]⟩, .string ⟨#[119, 114, 114]⟩, .string ⟨#[119, 114, 114]⟩, .string ⟨#[119, 114, 114]⟩, .string ⟨#[119, 114, 114]⟩, .string ⟨#[119, 114, 114]⟩, .string ⟨#[119, 114, 114]⟩, .string ⟨#[119, 114, 114]⟩, .string ⟨#[119, 114, 114]⟩, .string ⟨#[119, 114, 114]⟩, .string ⟨#[119, 114, 114]⟩, .string ⟨#[119, 114, 114]⟩, .string ⟨#[119, 114, 107]⟩, .string ⟨#[119, 114, 109]⟩, .string ⟨#[114, 114, 122]⟩, .string ⟨#[119, 102]⟩, .string ⟨#[119, 100]⟩, .string ⟨#[116]⟩, .string ⟨#[114, 116]⟩, .string ⟨#[114, 116]⟩, .string ⟨#[119, 99, 108]⟩, .string ⟨#[114]⟩, .string ⟨#[119]⟩, .string ⟨#[114]⟩, .string ⟨#[114]⟩]
theorem shapesC_cells : shapesC.all (·.oneCell') = true := by kernel_rfl
theorem shapesC_info : (Tryz.prog.info? 101).map (·.size) = some shapesC.size := by kernel_rfl
theorem shapesC_results : Tryz.f93.results = #[.cell 0 101] := by kernel_rfl
set_option maxRecDepth 100000 in
set_option maxHeartbeats 2000000 in
theorem shapes_any (w : World) : Calls Tryz.prog 93 #[] w fun e w' => e = .returned shapesA ∧ Below w.heap.size w w' := by
  go_enter Tryz.func93, Tryz.ntmps93
  go_wp2_with (with_reducible refine wpList_store_row rfl 101 (.tmp 0) (.tmp 1) rfl w.heap.size shapesC ?c1 ?c2 101 ?old ?c3 shapesC_info ?c4 shapesC_cells ?_)
  case c3 => exact heap_alloc_new _ _
  case c1 => rfl
  case c2 => rfl
  case c4 => rfl
  rw [World.setRow_alloc_new]
  exact bodyPost_ret (v := .agg shapesC) (results_cell_row shapesC_results _ _ w.heap.size 101 shapesC (0, 0) (.array 33 9) rfl (heap_alloc_new _ _) Tryz.underlying101 rfl shapesC_info) rfl ⟨rfl, (Below.refl _ _).alloc (Nat.le_refl _) _⟩

theorem exists_any (op : Int) (w : World) : Calls Tryz.prog 58 #[.int .i64 op] w fun e w' => e = .returned (.bool (opB op)) ∧ w = w' := by
  by_cases h0 : 0 ≤ op
  · by_cases h1 : op < 33
    · rw [opB_yes ⟨h0, h1⟩]
      go_enter Tryz.func58, Tryz.ntmps58
      go_wp2
      go_ret
      exact ⟨rfl, rfl⟩
    · rw [opB_no (by omega)]
      go_enter Tryz.func58, Tryz.ntmps58
      go_wp2
      go_ret
      exact ⟨rfl, rfl⟩
  · rw [opB_no (by omega)]
    go_enter Tryz.func58, Tryz.ntmps58
    go_wp2
    go_ret
    exact ⟨rfl, rfl⟩
/-- What a call ends with that only makes memory of its own. -/
def Makes (w : World) (v : Value) (e : Ending) (w' : World) : Prop := e = .returned v ∧ Below w.heap.size w w'

theorem name_yes {k : Nat} (hk : k < 33) (w : World) : Calls Tryz.prog 33 #[.int .i64 k] w (Makes w (.string (nameB k))) := by
  have hb := opB_yes (op := (k : Int)) ⟨by omega, by omega⟩
  have hx := fun w => name_at hk w
  generalize nameB k = s at hx ⊢
  have HE := Lib.hid (exists_any (k : Int) w)
  have HN := Lib.hid (names_any w)
  rw [hb] at HE
  clear hb
  generalize namesA = A at hx HN
  go_enter Tryz.func33, Tryz.ntmps33
  go_wp2_with (first | (go_at_call 58; (with_reducible refine HE.out.mono ?_); rintro e w1 ⟨rfl, rfl⟩) | (go_at_call 59; (with_reducible refine HN.out.mono ?_); rintro e w1 ⟨rfl, hB⟩; have HB := Lib.hid hB; clear hB))
  go_ret
  exact ⟨rfl, HB.out⟩
theorem name_no {op : Int} (h : ¬ (0 ≤ op ∧ op < 33)) (w : World) : Calls Tryz.prog 33 #[.int .i64 op] w (Makes w (.string ⟨#[]⟩)) := by
  have hb := opB_no h
  have HE := Lib.hid (exists_any op w)
  rw [hb] at HE
  clear hb h
  go_enter Tryz.func33, Tryz.ntmps33
  go_wp2_with (go_at_call 58; (with_reducible refine HE.out.mono ?_); rintro e w1 ⟨rfl, rfl⟩)
  go_ret
  exact ⟨rfl, Below.refl _ _⟩
theorem name_any (op : Int) (w : World) : Calls Tryz.prog 33 #[.int .i64 op] w (Makes w (.string (nameI op))) := by
  unfold nameI
  split
  · rename_i h
    obtain ⟨k, rfl⟩ : ∃ k : Nat, op = k := ⟨op.toNat, by omega⟩
    exact name_yes (by omega) w
  · rename_i h
    exact name_no h w

theorem shape_yes {k : Nat} (hk : k < 33) (w : World) : Calls Tryz.prog 56 #[.int .i64 k] w (Makes w (.string (shapeB k))) := by
  have hb := opB_yes (op := (k : Int)) ⟨by omega, by omega⟩
  have hx := fun w => shape_at hk w
  generalize shapeB k = s at hx ⊢
  have HE := Lib.hid (exists_any (k : Int) w)
  have HN := Lib.hid (shapes_any w)
  rw [hb] at HE
  clear hb
  generalize shapesA = A at hx HN
  go_enter Tryz.func56, Tryz.ntmps56
  go_wp2_with (first | (go_at_call 58; (with_reducible refine HE.out.mono ?_); rintro e w1 ⟨rfl, rfl⟩) | (go_at_call 93; (with_reducible refine HN.out.mono ?_); rintro e w1 ⟨rfl, hB⟩; have HB := Lib.hid hB; clear hB))
  go_ret
  exact ⟨rfl, HB.out⟩
theorem shape_no {op : Int} (h : ¬ (0 ≤ op ∧ op < 33)) (w : World) : Calls Tryz.prog 56 #[.int .i64 op] w (Makes w (.string ⟨#[]⟩)) := by
  have hb := opB_no h
  have HE := Lib.hid (exists_any op w)
  rw [hb] at HE
  clear hb h
  go_enter Tryz.func56, Tryz.ntmps56
  go_wp2_with (go_at_call 58; (with_reducible refine HE.out.mono ?_); rintro e w1 ⟨rfl, rfl⟩)
  go_ret
  exact ⟨rfl, Below.refl _ _⟩
theorem shape_any (op : Int) (w : World) : Calls Tryz.prog 56 #[.int .i64 op] w (Makes w (.string (shapeI op))) := by
  unfold shapeI
  split
  · rename_i h
    obtain ⟨k, rfl⟩ : ∃ k : Nat, op = k := ⟨op.toNat, by omega⟩
    exact shape_yes (by omega) w
  · rename_i h
    exact shape_no h w

end Go.Proofs.YtohlifeenhaifaaGreatDoor

/- (PutGet) What package word's isSize, Put and Get return: contracts for all numbers, sizes and slices of bytes, in whatever memory; what was there stays as it was. -/
namespace Go.Proofs.YtohlifeenhaifaaGreatDoor
open Go.RowKit
set_option linter.unusedVariables false

theorem isSize_any (s : Int) (w : World) : Calls Tryz.prog 155 #[.int .i64 s] w fun e w' => e = .returned (.bool (sizedB s)) ∧ w = w' := by
  by_cases h1 : s = 1
  · subst h1
    go_enter Tryz.func155, Tryz.ntmps155
    go_wp2
    go_ret
    exact ⟨rfl, rfl⟩
  by_cases h2 : s = 2
  · subst h2
    go_enter Tryz.func155, Tryz.ntmps155
    go_wp2
    go_ret
    exact ⟨rfl, rfl⟩
  by_cases h4 : s = 4
  · subst h4
    go_enter Tryz.func155, Tryz.ntmps155
    go_wp2
    go_ret
    exact ⟨rfl, rfl⟩
  by_cases h8 : s = 8
  · subst h8
    go_enter Tryz.func155, Tryz.ntmps155
    go_wp2
    go_ret
    exact ⟨rfl, rfl⟩
  have e : sizedB s = false := by simp [sizedB, h1, h2, h4, h8]
  rw [e]
  clear e
  have b1 : (s == 1) = false := by simpa using h1
  have b2 : (s == 2) = false := by simpa using h2
  have b4 : (s == 4) = false := by simpa using h4
  have b8 : (s == 8) = false := by simpa using h8
  clear h1 h2 h4 h8
  go_enter Tryz.func155, Tryz.ntmps155
  go_wp2
  go_ret
  exact ⟨rfl, rfl⟩
theorem isSize_any_no {s : Int} (h : sizedB s = false) (w : World) : Calls Tryz.prog 155 #[.int .i64 s] w fun e w' => e = .returned (.bool false) ∧ w = w' := by
  rw [← h]
  exact isSize_any s w
theorem u8_info : (Tryz.prog.info? 5).map (fun i => (i.zero, i.size, i.bytes)) = some (some (.int .u8 0), 1, 1) := by kernel_rfl
theorem zero_u8 : ∀ u ∈ (Value.int .u8 0).cells.toList, IsU8 u := by
  intro u hu
  simp [Value.cells] at hu
  subst hu
  exact ⟨0, by omega, by omega, rfl⟩

/-- The bytes of a number, the lowest first. -/
def byteV (a : Int) (k : Nat) : Int := a / 256 ^ k % 256
def bytesV (a : Int) (n : Nat) : List Int := (List.range n).map (byteV a)
theorem bytesV_len (a : Int) (n : Nat) : (bytesV a n).length = n := by simp [bytesV]
theorem bytesV_succ (a : Int) (n : Nat) : bytesV a (n + 1) = bytesV a n ++ [byteV a n] := by simp [bytesV, List.range_succ]
theorem byteV_bd (a : Int) (k : Nat) : 0 ≤ byteV a k ∧ byteV a k < 256 := by unfold byteV; omega
theorem bytesV_bd (a : Int) (n : Nat) : ∀ x ∈ bytesV a n, 0 ≤ x ∧ x < 256 := by
  intro x hx
  obtain ⟨k, _, rfl⟩ := List.mem_map.1 hx
  exact byteV_bd a k
theorem pow_256 (k : Nat) : (2 : Int) ^ (8 * k) = 256 ^ k := by rw [Int.pow_mul]; rfl

/-- What Put leaves: bytes of the call's own. -/
def PutDone (w : World) (xs : List Int) (e : Ending) (w' : World) : Prop :=
  ∃ v, e = .returned (.tuple #[v, .int .i64 0]) ∧ Owns w' w.heap.size 5 1 IsU8 v xs.length (xs.map (Value.int .u8)) ∧ Below w.heap.size w w'


theorem news_one (w : World) (x : Value) (t : TypeId) : ∀ j u, [x][j]? = some u → (w.alloc (.cells #[x] t)).cell? ((⟨w.heap.size, 0, none⟩ : Addr).add j) = some u := by
  exact World.news_of_block (cs := #[x]) (heap_alloc_new w _)
theorem byteV_shift (a : Int) (k : Nat) : a / 2 ^ (8 * k) % 256 = byteV a k := by rw [pow_256]; rfl
theorem put_step {w wr w1 : World} {v v' : Value} {a y : Int} {k : Nat} {t : TypeId} {o : Obj} (hy : y = byteV a k) (hb : Below w.heap.size w wr) (hown : Owns wr w.heap.size t 1 IsU8 v k ((bytesV a k).map (Value.int .u8)))
    (ho : Owns w1 w.heap.size t 1 IsU8 v' (k + 1) ((bytesV a k).map (Value.int .u8) ++ [.int .u8 y])) (hg : (wr.alloc o).grownBy w1 v.ownBlock) :
    Owns w1 w.heap.size t 1 IsU8 v' (k + 1) ((bytesV a (k + 1)).map (Value.int .u8)) ∧ Below w.heap.size w w1 := by
  refine ⟨?_, (hb.alloc hb.size o).grown hg (by have := hb.size; simp; omega) (fun g hg' => (hown.lt hg').1)⟩
  rw [bytesV_succ, List.map_append, ← hy]
  exact ho
theorem put_end {w w' : World} {v : Value} {a : Int} {k n : Nat} (h : Owns w' w.heap.size 5 1 IsU8 v k ((bytesV a k).map (Value.int .u8))) (hb : Below w.heap.size w w') (hk : k = n) : PutDone w (bytesV a n) (.returned (.tuple #[v, .int .i64 0])) w' := by
  subst hk
  exact ⟨v, rfl, by rw [bytesV_len]; exact h, hb⟩

set_option maxHeartbeats 1000000 in
theorem put_yes (a : Int) (n : Nat) (w : World) (ha : 0 ≤ a) (ha' : a < 18446744073709551616) (hs : sizedB n = true) :
    Calls Tryz.prog 154 #[.int .u64 a, .int .i64 n] w (PutDone w (bytesV a n)) := by
  obtain ⟨i0, hi, hz0, hz1, hz2⟩ := info_parts u8_info
  have hn8 : n ≤ 8 := by rcases sized_cases hs with h | h | h | h <;> omega
  have cs : ∀ w, Calls Tryz.prog 155 #[.int .i64 n] w fun e w' => e = .returned (.bool true) ∧ w = w' := fun w => hs ▸ isSize_any n w
  have CS := Lib.hid cs
  clear cs hs
  have HI := Lib.hid hi
  have HZ0 := Lib.hid hz0
  have HZ1 := Lib.hid hz1
  have HZ2 := Lib.hid hz2
  clear hi hz0 hz1 hz2
  go_enter Tryz.func154, Tryz.ntmps154
  go_wp2_with (go_at_call 155; (with_reducible refine (CS.out _).mono ?_); rintro e w' ⟨rfl, rfl⟩)
  go_loopw [6, 12] (fun v i wr => ∃ k : Nat, k ≤ n ∧ i = .int .i64 k ∧ Owns wr w.heap.size 5 1 IsU8 v k ((bytesV a k).map (Value.int .u8)) ∧ Below w.heap.size w wr) (fun _ i _ => n - (intOf i).toNat)
  case atStart => exact ⟨0, by omega, rfl, Owns.nil _ _ _ _ _, Below.refl _ _⟩
  case round =>
    obtain ⟨k, hk, rfl, hown, hb⟩ := hrel
    have hnx := hb.size
    have HO := Lib.hid hown
    have HB := Lib.hid hb
    clear hown hb
    by_cases hlt : k < n
    · go_wp2_with (at_builtin; refine wpList_append_q _ rfl (.tmp 15) (.tmp 21) 22 rfl w.heap.size 5 i0 _ 1 1 Tryz.underlying22 HI.out HZ0.out HZ1.out HZ2.out rfl (by decide) IsU8 zero_u8 _ k _ rfl (HO.out.alloc _) ⟨wr.heap.size, 0, none⟩ 1 1 [.int .u8 (a / 2 ^ (8 * k) % 256)] rfl rfl (news_one _ _ _) (by intro u hu; simp at hu; subst hu; rfl) (by intro u hu; simp at hu; subst hu; exact ⟨_, by omega, by omega, rfl⟩) (by simp only [maxLen]; omega) (by omega) (by simp; omega) ?_; intro v' w1 hown' hgrow; have R0 := Lib.hid (put_step (byteV_shift a k) HB.out HO.out hown' hgrow); clear hown' hgrow)
      go_roundw
      case rel => exact ⟨k + 1, by omega, by go_num, R0.out.1, R0.out.2⟩
      case measure => simp [intOf]; omega
    · go_wp2
      go_ret2
      exact put_end HO.out HB.out (by omega)
theorem put_no (a s : Int) (w : World) (hs : sizedB s = false) :
    Calls Tryz.prog 154 #[.int .u64 a, .int .i64 s] w fun e w' => e = .returned (.tuple #[.slice none 0 0, .int .i64 2]) ∧ w = w' := by
  have H := Lib.hid hs
  clear hs
  go_enter Tryz.func154, Tryz.ntmps154
  go_wp2_with (go_at_call 155; (with_reducible refine (isSize_any_no H.out _).mono ?_); rintro e w' ⟨rfl, rfl⟩)
  go_ret2
  exact ⟨rfl, rfl⟩

/-- The number that bytes are, the lowest first. -/
def numV : List Int → Int
  | [] => 0
  | x :: xs => x + 256 * numV xs
def getV (xs : List Int) : Int := if 8 < xs.length then 0 else if sizedB xs.length = true then numV xs else 0
def getE (xs : List Int) : Int := if 8 < xs.length then 3 else if sizedB xs.length = true then 0 else 2
theorem numV_bd : ∀ {xs : List Int}, (∀ x ∈ xs, 0 ≤ x ∧ x < 256) → 0 ≤ numV xs ∧ numV xs < 256 ^ xs.length
  | [], _ => by simp [numV]
  | x :: xs, h => by
    have ih := numV_bd (xs := xs) (fun y hy => h y (by simp [hy]))
    have hx := h x (by simp)
    simp only [numV, List.length_cons, Int.pow_succ]
    generalize (256 : Int) ^ xs.length = p at *
    omega
theorem numV_snoc : ∀ (xs : List Int) (y : Int), numV (xs ++ [y]) = numV xs + y * 256 ^ xs.length
  | [], y => by simp [numV]
  | x :: xs, y => by
    simp only [List.cons_append, numV, numV_snoc xs y, List.length_cons, Int.pow_succ]
    rw [show y * (256 ^ xs.length * 256) = 256 * (y * 256 ^ xs.length) by
      generalize (256 : Int) ^ xs.length = p
      rw [Int.mul_comm p 256, ← Int.mul_assoc, Int.mul_comm y 256, Int.mul_assoc]]
    omega
theorem take_snoc' {xs : List Int} {k : Nat} (h : k < xs.length) : xs.take (k + 1) = xs.take k ++ [xs.getD k 0] := by
  rw [List.take_succ_eq_append_getElem h]
  simp [List.getD, List.getElem?_eq_getElem h]
theorem drop_cons' {xs : List Int} {k : Nat} (h : k < xs.length) : xs.drop k = xs.getD k 0 :: xs.drop (k + 1) := by
  rw [List.drop_eq_getElem_cons h]
  simp [List.getD, List.getElem?_eq_getElem h]
theorem pow_le_64 {n : Nat} (h : n ≤ 8) : (256 : Int) ^ n ≤ 18446744073709551616 := by
  have hn : n = 0 ∨ n = 1 ∨ n = 2 ∨ n = 3 ∨ n = 4 ∨ n = 5 ∨ n = 6 ∨ n = 7 ∨ n = 8 := by omega
  rcases hn with rfl | rfl | rfl | rfl | rfl | rfl | rfl | rfl | rfl <;> decide
/-- 'or' of a number below a power of two and a multiple of it is their sum. -/
theorem or_add {x y : Int} {k : Nat} (hx : 0 ≤ x) (hx' : x < 256 ^ k) (hy : 0 ≤ y) (h : y * 256 ^ k < 18446744073709551616) (hk : k ≤ 8) :
    bits .or .u64 x (y * 256 ^ k) = x + y * 256 ^ k := by
  obtain ⟨a, rfl⟩ := Int.eq_ofNat_of_zero_le hx
  obtain ⟨b, rfl⟩ := Int.eq_ofNat_of_zero_le hy
  have hp : (256 : Int) ^ k = ((2 ^ (8 * k) : Nat) : Int) := by rw [← pow_256]; simp
  have hle := pow_le_64 hk
  rw [hp] at hx' h hle ⊢
  have h1 : a < 2 ^ (8 * k) := by exact_mod_cast hx'
  have key := Nat.two_pow_add_eq_or_of_lt h1 b
  have hm : (b : Int) * ((2 ^ (8 * k) : Nat) : Int) = ((2 ^ (8 * k) * b : Nat) : Int) := by rw [Int.natCast_mul, Int.mul_comm]
  rw [hm] at h ⊢
  generalize (2 ^ (8 * k) : Nat) = q at *
  rw [bits_or_u64_nat a (q * b) (by omega) (by omega), Nat.or_comm, ← key]
  omega


theorem get_step {xs : List Int} {k : Nat} (hx : ∀ x ∈ xs, 0 ≤ x ∧ x < 256) (hk : k < xs.length) (h8 : xs.length ≤ 8) :
    bits .or .u64 (numV (xs.take k)) (xs.getD k 0 * 2 ^ (8 * k) % 18446744073709551616) = numV (xs.take (k + 1)) := by
  have hy : 0 ≤ xs.getD k 0 ∧ xs.getD k 0 < 256 := by
    have : xs.getD k 0 = xs[k] := by simp [List.getD, List.getElem?_eq_getElem hk]
    rw [this]
    exact hx _ (List.getElem_mem hk)
  have hb := numV_bd (xs := xs.take k) (fun y hy => hx y (List.mem_of_mem_take hy))
  have hl : (xs.take k).length = k := by simp; omega
  rw [hl] at hb
  have hp : (0 : Int) < 256 ^ k := Int.pow_pos (by omega)
  have hn := pow_le_64 (n := k + 1) (by omega)
  rw [Int.pow_succ] at hn
  have hlt : xs.getD k 0 * 256 ^ k < 18446744073709551616 := by
    have h1 : xs.getD k 0 * 256 ^ k ≤ 255 * 256 ^ k := Int.mul_le_mul_of_nonneg_right (by omega) (by omega)
    generalize (256 : Int) ^ k = p at *
    omega
  have h0 : 0 ≤ xs.getD k 0 * 256 ^ k := Int.mul_nonneg hy.1 (by omega)
  rw [pow_256, Int.emod_eq_of_lt h0 hlt, or_add hb.1 hb.2 hy.1 hlt (by omega), take_snoc' hk, numV_snoc, hl]
theorem getD_bd {xs : List Int} (hx : ∀ x ∈ xs, 0 ≤ x ∧ x < 256) {k : Nat} (hk : k < xs.length) : 0 ≤ xs.getD k 0 ∧ xs.getD k 0 < 256 := by
  have : xs.getD k 0 = xs[k] := by simp [List.getD, List.getElem?_eq_getElem hk]
  rw [this]
  exact hx _ (List.getElem_mem hk)
theorem drop_bd {xs : List Int} (hx : ∀ x ∈ xs, 0 ≤ x ∧ x < 256) (h8 : xs.length ≤ 8) (k : Nat) : 0 ≤ numV (xs.drop (k + 1)) ∧ 256 * numV (xs.drop (k + 1)) + 255 < 18446744073709551616 ∨ xs.length ≤ k := by
  rcases Nat.lt_or_ge k xs.length with hk | hk
  · left
    have hb := numV_bd (xs := xs.drop (k + 1)) (fun y hy => hx y (List.mem_of_mem_drop hy))
    have hl : (xs.drop (k + 1)).length = xs.length - (k + 1) := by simp
    rw [hl] at hb
    have hn := pow_le_64 (n := xs.length - (k + 1) + 1) (by omega)
    rw [Int.pow_succ] at hn
    generalize (256 : Int) ^ (xs.length - (k + 1)) = p at *
    omega
  · exact .inr hk
theorem get_bd {xs : List Int} (hx : ∀ x ∈ xs, 0 ≤ x ∧ x < 256) : 0 ≤ getV xs ∧ getV xs < 18446744073709551616 := by
  unfold getV
  split
  · omega
  · split
    · have h := numV_bd hx
      have h2 := pow_le_64 (n := xs.length) (by omega)
      omega
    · omega
end Go.Proofs.YtohlifeenhaifaaGreatDoor

/- (NumB07) Bytes and the numbers that they are: plain mathematics. -/
namespace Go.Proofs.YtohlifeenhaifaaGreatDoor
open Go.RowKit
set_option linter.unusedVariables false

theorem emod_split (a : Int) {p : Int} (hp : 0 < p) : a % (p * 256) = a % p + a / p % 256 * p := by
  have h1 := Int.mul_ediv_add_emod a p
  have h2 := Int.mul_ediv_add_emod (a / p) 256
  have h3 := Int.emod_nonneg a (by omega : p ≠ 0)
  have h4 := Int.emod_lt_of_pos a hp
  have h5 : 0 ≤ a / p % 256 ∧ a / p % 256 < 256 := by omega
  generalize a % p = r at *
  generalize hq : a / p = q at *
  generalize q % 256 = d at *
  generalize q / 256 = k at *
  have e : a = (r + d * p) + p * 256 * k := by rw [← h1, ← h2]; grind
  have hd : d * p ≤ 255 * p := Int.mul_le_mul_of_nonneg_right (by omega) (by omega)
  have hd0 : 0 ≤ d * p := Int.mul_nonneg h5.1 (by omega)
  rw [e, Int.add_mul_emod_self_left, Int.emod_eq_of_lt (by omega) (by omega)]
theorem numV_bytesV (a : Int) : ∀ n : Nat, numV (bytesV a n) = a % 256 ^ n
  | 0 => by simp [bytesV, numV]
  | n + 1 => by
    rw [bytesV_succ, numV_snoc, numV_bytesV a n, bytesV_len, Int.pow_succ, emod_split a (Int.pow_pos (by omega))]
    rfl
theorem bytesV_cons (a : Int) (n : Nat) : bytesV a (n + 1) = a % 256 :: bytesV (a / 256) n := by
  unfold bytesV
  rw [List.range_succ_eq_map, List.map_cons, List.map_map]
  have h0 : byteV a 0 = a % 256 := by unfold byteV; simp
  rw [h0]
  congr 1
  apply List.map_congr_left
  intro k _
  show byteV a (k + 1) = byteV (a / 256) k
  unfold byteV
  rw [Int.pow_succ, Int.mul_comm, Int.ediv_mul_of_nonneg (by omega)]
theorem bytesV_numV : ∀ xs : List Int, (∀ x ∈ xs, 0 ≤ x ∧ x < 256) → bytesV (numV xs) xs.length = xs
  | [], _ => rfl
  | x :: xs, h => by
    have hx := h x (by simp)
    rw [List.length_cons, bytesV_cons]
    have e1 : numV (x :: xs) % 256 = x := by simp only [numV]; omega
    have e2 : numV (x :: xs) / 256 = numV xs := by simp only [numV]; omega
    rw [e1, e2, bytesV_numV xs (fun y hy => h y (by simp [hy]))]

theorem numV_inj {xs ys : List Int} (hl : xs.length = ys.length) (hx : ∀ x ∈ xs, 0 ≤ x ∧ x < 256) (hy : ∀ x ∈ ys, 0 ≤ x ∧ x < 256) (h : numV xs = numV ys) : xs = ys := by
  rw [← bytesV_numV xs hx, ← bytesV_numV ys hy, h, hl]
end Go.Proofs.YtohlifeenhaifaaGreatDoor

/- (KitBytes) What the helpers of the statements do with slices of bytes (the same, a copy, lent, kept, written over): contracts for all slices of bytes, in whatever memory. -/
namespace Go.Proofs.YtohlifeenhaifaaGreatDoor
open Go.RowKit
set_option linter.unusedVariables false

/-- What CopyBytes and LentBytes leave. -/
def CopyDone (w : World) (xs : List Int) (e : Ending) (w' : World) : Prop :=
  ∃ v, e = .returned v ∧ Owns w' w.heap.size 5 1 IsU8 v xs.length (xs.map (Value.int .u8)) ∧ Below w.heap.size w w'
/-- A list that is lent: in a block of its own, three marks behind it. -/
def Lent (w : World) (g : Nat) (xs : List Int) : Prop := ∃ cur, w.heap[g]? = some (.cells cur 5 (0, 0)) ∧ cur.toList.take (xs.length + 3) = (xs ++ [77, 201, 5]).map (Value.int .u8)
theorem Lent.below {w w' : World} {g B : Nat} {xs : List Int} (h : Lent w g xs) (hb : Below B w w') (hg : g < B) : Lent w' g xs := by
  obtain ⟨cur, h1, h2⟩ := h
  exact ⟨cur, (hb.block g hg).trans h1, h2⟩
theorem Lent.lt {w : World} {g : Nat} {xs : List Int} (h : Lent w g xs) : g < w.heap.size := by
  obtain ⟨cur, h1, _⟩ := h
  rcases Nat.lt_or_ge g w.heap.size with h | h
  · exact h
  · rw [Array.getElem?_eq_none h] at h1
    cases h1
theorem Lent.cell {w : World} {g : Nat} {xs : List Int} (h : Lent w g xs) {i : Nat} (hi : i < xs.length + 3) : w.cell? ⟨g, i, none⟩ = some (.int .u8 ((xs ++ [77, 201, 5]).getD i 0)) := by
  obtain ⟨cur, h1, h2⟩ := h
  have hl : i < (xs ++ [77, 201, 5]).length := by simp; omega
  have h3 : ((xs ++ [77, 201, 5]).map (Value.int .u8))[i]? = some (.int .u8 ((xs ++ [77, 201, 5]).getD i 0)) := by
    rw [List.getElem?_map, List.getElem?_eq_getElem hl]
    simp [List.getD, List.getElem?_eq_getElem hl]
  rw [← h2, List.getElem?_take] at h3
  rw [if_pos hi] at h3
  simp [World.cell?, h1]
  simpa using h3
theorem Lent.bytes {w : World} {g B cap : Nat} {xs : List Int} (h : Lent w g xs) (hx : ∀ x ∈ xs, 0 ≤ x ∧ x < 256) (hm : xs.length ≤ maxLen) (hB : g < B) (hc : xs.length ≤ cap) : IsBytes w B (.slice (some ⟨g, 0, none⟩) xs.length cap) xs := by
  refine ⟨hx, hm, .inr ⟨⟨g, 0, none⟩, cap, rfl, hc, fun _ => hB, fun i hi => ?_⟩⟩
  have e : (⟨g, 0, none⟩ : Addr).add i = ⟨g, i, none⟩ := by unfold Addr.add; split <;> simp_all
  rw [e, h.cell (by omega)]
  simp [List.getD, List.getElem?_append_left hi]
theorem Lent.marks {w : World} {g B cap : Nat} {xs : List Int} (h : Lent w g xs) (hB : g < B) (hc : 3 ≤ cap) : IsBytes w B (.slice (some ⟨g, xs.length, none⟩) 3 cap) [77, 201, 5] := by
  refine ⟨by intro x hx; simp at hx; omega, by simp [maxLen], .inr ⟨⟨g, xs.length, none⟩, cap, rfl, by simpa using hc, fun _ => hB, fun i hi => ?_⟩⟩
  have hi3 : i < 3 := by simpa using hi
  have e : (⟨g, xs.length, none⟩ : Addr).add i = ⟨g, xs.length + i, none⟩ := by unfold Addr.add; split <;> simp_all
  rw [e, h.cell (by omega)]
  simp [List.getD, List.getElem?_append_right]
def LentDone (w : World) (xs : List Int) (e : Ending) (w' : World) : Prop :=
  ∃ g, e = .returned (.slice (some ⟨g, 0, none⟩) xs.length (xs.length + 3)) ∧ w.heap.size ≤ g ∧ Lent w' g xs ∧ Below w.heap.size w w'
theorem marks_cells (w : World) : ∀ j u, ([77, 201, 5].map (Value.int .u8))[j]? = some u → (w.alloc (.cells #[.int .u8 77, .int .u8 201, .int .u8 5] 5)).cell? ((⟨w.heap.size, 0, none⟩ : Addr).add j) = some u :=
  World.news_of_block (cs := #[.int .u8 77, .int .u8 201, .int .u8 5]) (heap_alloc_new w _)
theorem lent_form {w : World} {base : Nat} {v : Value} {xs : List Int} (h : Owns w base 5 1 IsU8 v (xs.length + 3) (xs.map (Value.int .u8) ++ [77, 201, 5].map (Value.int .u8))) :
    ∃ g cap, v = .slice (some ⟨g, 0, none⟩) (xs.length + 3) cap ∧ base ≤ g ∧ xs.length + 3 ≤ cap ∧ cap ≤ 9223372036854775807 ∧ Lent w g xs := by
  rcases h.1.2 with ⟨_, h0⟩ | ⟨g, cap, cur, hv, h1, h2, h3, h4, _, h6⟩
  · omega
  · unfold maxLen at h4
    exact ⟨g, cap, hv, h1, h3, by omega, cur, h2, by rw [List.map_append, ← h6, Nat.mul_one]⟩
/-- A block of so many bytes. -/
def Full (w : World) (g cap : Nat) : Prop := ∃ cur, w.heap[g]? = some (.cells cur 5 (0, 0)) ∧ cur.size = cap ∧ ∀ u ∈ cur.toList, IsU8 u
theorem Full.cell {w : World} {g cap : Nat} (h : Full w g cap) {k : Nat} (hk : k < cap) : ∃ y : Int, 0 ≤ y ∧ y < 256 ∧ w.cell? ⟨g, k, none⟩ = some (.int .u8 y) ∧ w.frozen? ⟨g, k, none⟩ = false := by
  obtain ⟨cur, h1, h2, h3⟩ := h
  obtain ⟨y, y1, y2, hy⟩ := h3 (cur[k]'(by omega)) (by simp)
  refine ⟨y, y1, y2, ?_, frozen_of_row w g k cur _ h1⟩
  rw [cell_of_row w g k cur _ _ h1, Array.getElem?_eq_getElem (by omega), hy]
theorem Full.set {w : World} {g cap : Nat} (h : Full w g cap) (k : Nat) {u : Value} (hu : IsU8 u) : Full (w.setCell ⟨g, k, none⟩ u) g cap := by
  obtain ⟨cur, h1, h2, h3⟩ := h
  refine ⟨cur.setIfInBounds k u, heap_setCell_same w g k cur _ u h1, by simpa using h2, fun x hx => ?_⟩
  rw [Array.toList_setIfInBounds] at hx
  rcases List.mem_or_eq_of_mem_set hx with h | h
  · exact h3 x h
  · subst h; exact hu
set_option maxHeartbeats 1000000 in
theorem over_any (v : Value) (n base : Nat) (xs : List Value) (w : World) (h : Owns w base 5 1 IsU8 v n xs) :
    Calls Tryz.prog 22 #[v] w fun e w' => e = .returned (.tuple #[]) ∧ Below base w w' := by
  rcases h.1.2 with ⟨rfl, _⟩ | ⟨g, cap, cur, rfl, h1, h2, h3, h4, h5, _⟩
  · clear h
    go_enter Tryz.func22, Tryz.ntmps22
    go_wp2
    go_loopw [3] (fun i wr => i = .int .i64 0 ∧ wr = w) (fun _ _ => 0)
    case atStart => exact ⟨rfl, rfl⟩
    case round =>
      obtain ⟨rfl, rfl⟩ := hrel
      go_wp2
      go_end0
      exact ⟨rfl, Below.refl _ _⟩
  · have hF : Full w g cap := ⟨cur, h2, by simpa using h5, h.2 g cur _ _ (by simp [Value.ownBlock]) h2⟩
    have HF := Lib.hid hF
    unfold maxLen at h4
    clear h h2 h5 hF
    go_enter Tryz.func22, Tryz.ntmps22
    go_wp2
    go_loopw [3] (fun i wr => ∃ k : Nat, k ≤ cap ∧ i = .int .i64 k ∧ Full wr g cap ∧ Below base w wr) (fun i _ => cap - (intOf i).toNat)
    case atStart => exact ⟨0, by omega, rfl, HF.out, Below.refl _ _⟩
    case round =>
      obtain ⟨k, hk, rfl, hf, hb⟩ := hrel
      have HF2 := Lib.hid hf
      have HB := Lib.hid hb
      clear hf hb
      by_cases hlt : k < cap
      · obtain ⟨y, y1, y2, hcell, hfro⟩ := HF2.out.cell hlt
        go_wp2
        go_roundw
        case rel => exact ⟨k + 1, by omega, by go_num, HF2.out.set k ⟨_, by omega, by omega, rfl⟩, HB.out.setCell h1 _⟩
        case measure => simp [intOf]; omega
      · go_wp2
        go_end0
        exact ⟨rfl, HB.out⟩

end Go.Proofs.YtohlifeenhaifaaGreatDoor
