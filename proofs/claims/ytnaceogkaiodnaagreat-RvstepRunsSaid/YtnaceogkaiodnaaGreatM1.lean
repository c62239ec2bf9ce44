/- Plain arithmetic of numbers of 64 bits: what each function of two words is, said over whole numbers, with no Go in sight. No condition but the bounds that each lemma names. -/
import Derived.WalkKit
import Derived.ProofKit
import Derived.Laws.BytesArg
import Derived.Laws.OwnMore
import Derived.Deep.AppendLies
import Derived.Deep.Draws
import Derived.Test.YtnaceogkaiodnaaGreatRows
import Derived.WalkSpells
import Derived.WalkLawsBesides
import Derived.Lib.Hide
import Derived.Below
import Derived.LaidEqlPtr
import Derived.Laws.CopyOwn
namespace Go.Proofs.YtnaceogkaiodnaaGreat
open Go.RowKit

theorem ret_int {k : IntKind} {a b : Int} (h : a = b) : Ending.returned (.int k a) = .returned (.int k b) := by rw [h]
theorem ret_int2 {k l : IntKind} {a b c d : Int} (h : a = b) (h' : c = d) : Ending.returned (.tuple #[.int k a, .int l c]) = .returned (.tuple #[.int k b, .int l d]) := by rw [h, h']
theorem ret_bool {a b : Bool} (h : a = b) : Ending.returned (.bool a) = .returned (.bool b) := by rw [h]

def sg (a : Int) : Int := if a < 9223372036854775808 then a else a - 18446744073709551616
def low0 (a b : Int) : Int := if a < 9223372036854775808 then 0 else b
def bitV (b : Bool) : Int := if b then 1 else 0
def mulhuV (a b : Int) : Int := a * b / 18446744073709551616
def mulhsuV (a b : Int) : Int := (mulhuV a b - low0 a b) % 18446744073709551616
def mulhV (a b : Int) : Int := ((mulhuV a b - low0 a b) % 18446744073709551616 - low0 b a) % 18446744073709551616
def divV (a b : Int) : Int := if b = 0 then 18446744073709551615 else (sg a).tdiv (sg b) % 18446744073709551616
def divuV (a b : Int) : Int := if b = 0 then 18446744073709551615 else a / b
def remV (a b : Int) : Int := if b = 0 then a else (sg a).tmod (sg b) % 18446744073709551616
def remuV (a b : Int) : Int := if b = 0 then a else a % b
def shlV (a : Int) (n : Nat) : Int := a * 2 ^ n % 18446744073709551616
def shrV (a : Int) (n : Nat) : Int := a / 2 ^ n
def sarV (a : Int) (n : Nat) : Int := sg a / 2 ^ n % 18446744073709551616
def doV (fn a b : Int) : Int :=
  if fn = 1 then (a + b) % 18446744073709551616 else if fn = 2 then (a - b) % 18446744073709551616 else if fn = 3 then a * b % 18446744073709551616
  else if fn = 4 then mulhV a b else if fn = 5 then mulhuV a b else if fn = 6 then mulhsuV a b
  else if fn = 7 then divV a b else if fn = 8 then divuV a b else if fn = 9 then remV a b else if fn = 10 then remuV a b
  else if fn = 11 then bits .and .u64 a b else if fn = 12 then bits .or .u64 a b else if fn = 13 then bits .xor .u64 a b
  else if fn = 14 then shlV a (b % 64).toNat else if fn = 15 then shrV a (b % 64).toNat else if fn = 16 then sarV a (b % 64).toNat
  else if fn = 17 then bitV (decide (sg a < sg b)) else if fn = 18 then bitV (decide (a < b)) else if fn = 19 then bitV (a == b) else if fn = 20 then bitV (!(a == b))
  else 0
def doE (fn : Int) : Int := if 1 ≤ fn ∧ fn ≤ 20 then 0 else 2

theorem doE_in {fn : Int} (h : 1 ≤ fn) (h' : fn ≤ 20) : doE fn = 0 := by unfold doE; rw [if_pos ⟨h, h'⟩]
theorem doE_out {fn : Int} (h : fn < 1 ∨ 20 < fn) : doE fn = 2 := by unfold doE; rw [if_neg (by omega)]
theorem doV_out {fn a b : Int} (h : fn < 1 ∨ 20 < fn) : doV fn a b = 0 := by
  unfold doV
  repeat rw [if_neg (by omega)]

theorem wrap64_sg {a : Int} (h : 0 ≤ a) (h' : a < 18446744073709551616) : wrap64 a = sg a := by
  unfold wrap64 sg
  split <;> omega
theorem sg_zero {a : Int} (h : 0 ≤ a) (h' : a < 18446744073709551616) (h0 : a ≠ 0) : sg a ≠ 0 := by
  unfold sg
  split <;> omega
theorem u64_wrap64 (z : Int) : wrap64 z % 18446744073709551616 = z % 18446744073709551616 := by
  unfold wrap64
  omega

theorem mulhu_bd {a b : Int} (ha : 0 ≤ a) (ha' : a < 18446744073709551616) (hb : 0 ≤ b) (hb' : b < 18446744073709551616) : 0 ≤ mulhuV a b ∧ mulhuV a b < 18446744073709551616 := by
  unfold mulhuV
  have h1 := Int.mul_nonneg ha hb
  have h2 : a * b ≤ 18446744073709551615 * 18446744073709551615 := Int.mul_le_mul (by omega) (by omega) hb (by omega)
  constructor
  · omega
  · omega

theorem ediv_bd {a b : Int} (ha : 0 ≤ a) (hb : 0 < b) : 0 ≤ a / b ∧ a / b ≤ a := ⟨Int.ediv_nonneg ha (by omega), Int.ediv_le_self b ha⟩
theorem emod_bd {a b : Int} (hb : 0 < b) : 0 ≤ a % b ∧ a % b < b := ⟨Int.emod_nonneg a (by omega), Int.emod_lt_of_pos a hb⟩

theorem divV_bd {a b : Int} : 0 ≤ divV a b ∧ divV a b < 18446744073709551616 := by
  unfold divV
  split
  · omega
  · omega
theorem remV_bd {a b : Int} (ha : 0 ≤ a) (ha' : a < 18446744073709551616) : 0 ≤ remV a b ∧ remV a b < 18446744073709551616 := by
  unfold remV
  split
  · omega
  · omega
theorem divuV_bd {a b : Int} (ha : 0 ≤ a) (ha' : a < 18446744073709551616) (hb : 0 ≤ b) : 0 ≤ divuV a b ∧ divuV a b < 18446744073709551616 := by
  unfold divuV
  split
  · omega
  · have := ediv_bd ha (show 0 < b by omega); omega
theorem remuV_bd {a b : Int} (ha : 0 ≤ a) (ha' : a < 18446744073709551616) (hb : 0 ≤ b) (hb' : b < 18446744073709551616) : 0 ≤ remuV a b ∧ remuV a b < 18446744073709551616 := by
  unfold remuV
  split
  · omega
  · have := emod_bd (a := a) (show 0 < b by omega); omega

theorem pow_pos' (n : Nat) : (0 : Int) < 2 ^ n := Int.pow_pos (by omega)
theorem shrV_bd {a : Int} (ha : 0 ≤ a) (n : Nat) : 0 ≤ shrV a n ∧ shrV a n ≤ a := ediv_bd ha (pow_pos' n)
theorem shlV_bd (a : Int) (n : Nat) : 0 ≤ shlV a n ∧ shlV a n < 18446744073709551616 := by unfold shlV; omega
theorem sarV_bd (a : Int) (n : Nat) : 0 ≤ sarV a n ∧ sarV a n < 18446744073709551616 := by unfold sarV; omega
theorem mulhV_bd (a b : Int) : 0 ≤ mulhV a b ∧ mulhV a b < 18446744073709551616 := by unfold mulhV; omega
theorem mulhsuV_bd (a b : Int) : 0 ≤ mulhsuV a b ∧ mulhsuV a b < 18446744073709551616 := by unfold mulhsuV; omega
theorem bits_bd (o : BinOp) (a b : Int) : 0 ≤ bits o .u64 a b ∧ bits o .u64 a b < 18446744073709551616 := by
  unfold bits
  simp only [IntKind.wrap_u64]
  omega

def inW (v : Int) : Prop := 0 ≤ v ∧ v < 18446744073709551616
theorem inW_ite {c : Prop} [Decidable c] {x y : Int} (h : inW x) (h' : inW y) : inW (if c then x else y) := by
  by_cases hc : c
  · rw [if_pos hc]; exact h
  · rw [if_neg hc]; exact h'
theorem inW_bit (b : Bool) : inW (bitV b) := by cases b <;> simp [inW, bitV]
theorem doV_bd {fn a b : Int} (ha : 0 ≤ a) (ha' : a < 18446744073709551616) (hb : 0 ≤ b) (hb' : b < 18446744073709551616) : 0 ≤ doV fn a b ∧ doV fn a b < 18446744073709551616 := by
  show inW (doV fn a b)
  unfold doV
  repeat' (with_reducible refine inW_ite ?_ ?_)
  all_goals first
    | exact mulhV_bd _ _ | exact mulhsuV_bd _ _ | exact bits_bd _ _ _ | exact divV_bd | exact remV_bd ha ha' | exact divuV_bd ha ha' hb | exact remuV_bd ha ha' hb hb' | exact mulhu_bd ha ha' hb hb' | exact shlV_bd _ _ | exact sarV_bd _ _
    | exact inW_bit _ | (have := shrV_bd ha (b % 64).toNat; exact ⟨this.1, by omega⟩) | (unfold inW; omega)

def zextV (a s : Int) : Int := if s = 1 then a % 256 else if s = 2 then a % 65536 else if s = 4 then a % 4294967296 else if s = 8 then a else 0
def sext1 (z top : Int) : Int := if z < top then z else z + 18446744073709551616 - 2 * top
def sextV (a s : Int) : Int := if s = 1 then sext1 (a % 256) 128 else if s = 2 then sext1 (a % 65536) 32768 else if s = 4 then sext1 (a % 4294967296) 2147483648 else if s = 8 then a else 0
def sizedB (s : Int) : Bool := s == 1 || s == 2 || s == 4 || s == 8
theorem sized_cases {s : Int} (h : sizedB s = true) : s = 1 ∨ s = 2 ∨ s = 4 ∨ s = 8 := by simpa [sizedB, or_assoc] using h
theorem sized_not {s : Int} (h : sizedB s = false) : s ≠ 1 ∧ s ≠ 2 ∧ s ≠ 4 ∧ s ≠ 8 := by simpa [sizedB, and_assoc] using h
theorem zextV_not {a s : Int} (h : sizedB s = false) : zextV a s = 0 := by
  have := sized_not h
  unfold zextV
  repeat rw [if_neg (by omega)]
theorem sextV_not {a s : Int} (h : sizedB s = false) : sextV a s = 0 := by
  have := sized_not h
  unfold sextV
  repeat rw [if_neg (by omega)]
theorem zextV_1 (a : Int) : zextV a 1 = a % 256 := by simp [zextV]
theorem zextV_2 (a : Int) : zextV a 2 = a % 65536 := by simp [zextV]
theorem zextV_4 (a : Int) : zextV a 4 = a % 4294967296 := by simp [zextV]
theorem zextV_8 (a : Int) : zextV a 8 = a := by simp [zextV]
theorem sextV_1 (a : Int) : sextV a 1 = sext1 (a % 256) 128 := by simp [sextV]
theorem sextV_2 (a : Int) : sextV a 2 = sext1 (a % 65536) 32768 := by simp [sextV]
theorem sextV_4 (a : Int) : sextV a 4 = sext1 (a % 4294967296) 2147483648 := by simp [sextV]
theorem sextV_8 (a : Int) : sextV a 8 = a := by simp [sextV]
theorem zextV_bd {a s : Int} (h : 0 ≤ a) (h' : a < 18446744073709551616) : 0 ≤ zextV a s ∧ zextV a s < 18446744073709551616 := by
  unfold zextV
  repeat' split
  all_goals omega
theorem sextV_bd {a s : Int} (h : 0 ≤ a) (h' : a < 18446744073709551616) : 0 ≤ sextV a s ∧ sextV a s < 18446744073709551616 := by
  unfold sextV sext1
  repeat' split
  all_goals omega

/-- What the functions of the low halves are: the first and the second number that each takes, and which have them. -/
def halfB (fn : Int) : Bool := fn == 1 || fn == 2 || fn == 3 || fn == 7 || fn == 8 || fn == 9 || fn == 10 || fn == 14 || fn == 15 || fn == 16
def halfX (fn a : Int) : Int := if fn = 7 ∨ fn = 9 ∨ fn = 16 then sextV a 4 else zextV a 4
def halfY (fn b : Int) : Int := if fn = 7 ∨ fn = 9 then sextV b 4 else if fn = 14 ∨ fn = 15 ∨ fn = 16 then b % 32 else zextV b 4
def halfV (fn a b : Int) : Int := if halfB fn = true then sextV (doV fn (halfX fn a) (halfY fn b)) 4 else 0
def halfE (fn : Int) : Int := if halfB fn = true then 0 else 2
theorem half_cases {fn : Int} (h : halfB fn = true) : fn = 1 ∨ fn = 2 ∨ fn = 3 ∨ fn = 7 ∨ fn = 8 ∨ fn = 9 ∨ fn = 10 ∨ fn = 14 ∨ fn = 15 ∨ fn = 16 := by simpa [halfB, or_assoc] using h
theorem half_not {fn : Int} (h : halfB fn = false) : fn ≠ 1 ∧ fn ≠ 2 ∧ fn ≠ 3 ∧ fn ≠ 7 ∧ fn ≠ 8 ∧ fn ≠ 9 ∧ fn ≠ 10 ∧ fn ≠ 14 ∧ fn ≠ 15 ∧ fn ≠ 16 := by simpa [halfB, and_assoc] using h
theorem do_cases {fn : Int} (h : 1 ≤ fn) (h' : fn ≤ 20) : fn = 1 ∨ fn = 2 ∨ fn = 3 ∨ fn = 4 ∨ fn = 5 ∨ fn = 6 ∨ fn = 7 ∨ fn = 8 ∨ fn = 9 ∨ fn = 10 ∨ fn = 11 ∨ fn = 12 ∨ fn = 13 ∨ fn = 14 ∨ fn = 15 ∨ fn = 16 ∨ fn = 17 ∨ fn = 18 ∨ fn = 19 ∨ fn = 20 := by omega

end Go.Proofs.YtnaceogkaiodnaaGreat

namespace Go.Proofs.YtnaceogkaiodnaaGreat
open Go.RowKit
set_option linter.unusedVariables false

/-- A slice of the call's own, all of whose cells, those of its spare room too, are of the kind K. -/
def Owns (w : World) (base : Nat) (e : TypeId) (size : Nat) (K : Value → Prop) (v : Value) (n : Nat) (xs : List Value) : Prop :=
  w.ownsRow base e size v n xs ∧ ∀ g cur t fr, v.ownBlock = some g → w.heap[g]? = some (.cells cur t fr) → ∀ u ∈ cur.toList, K u

theorem Owns.nil (w : World) (base : Nat) (e : TypeId) (size : Nat) (K : Value → Prop) : Owns w base e size K (.slice none 0 0) 0 [] :=
  ⟨World.ownsRow_nil _ _ _ _, fun g _ _ _ h => by simp [Value.ownBlock] at h⟩
theorem Owns.of_blocks {w w' : World} {base : Nat} {e : TypeId} {size : Nat} {K : Value → Prop} {v : Value} {n : Nat} {xs : List Value} (h : Owns w base e size K v n xs)
    (hb : ∀ g, v.ownBlock = some g → w'.heap[g]? = w.heap[g]?) (hs : w.heap.size ≤ w'.heap.size) : Owns w' base e size K v n xs := by
  refine ⟨⟨h.1.1, ?_⟩, fun g cur t fr hg hc => h.2 g cur t fr hg (by rw [← hb g hg]; exact hc)⟩
  rcases h.1.2 with ⟨rfl, hn⟩ | ⟨g, cap, cur, rfl, h1, h2, h3⟩
  · exact .inl ⟨rfl, hn⟩
  · exact .inr ⟨g, cap, cur, rfl, h1, by rw [hb g (by simp [Value.ownBlock])]; exact h2, h3⟩
theorem Owns.lt {w : World} {base : Nat} {e : TypeId} {size : Nat} {K : Value → Prop} {v : Value} {n : Nat} {xs : List Value} (h : Owns w base e size K v n xs) {g : Nat} (hg : v.ownBlock = some g) : base ≤ g ∧ g < w.heap.size :=
  h.1.lt g hg
theorem Owns.alloc {w : World} {base : Nat} {e : TypeId} {size : Nat} {K : Value → Prop} {v : Value} {n : Nat} {xs : List Value} (h : Owns w base e size K v n xs) (o : Obj) : Owns (w.alloc o) base e size K v n xs :=
  h.of_blocks (fun g hg => Below.heap_alloc w o g (h.lt hg).2) (by simp)
theorem Owns.drew {w : World} {base : Nat} {e : TypeId} {size : Nat} {K : Value → Prop} {v : Value} {n : Nat} {xs : List Value} (h : Owns w base e size K v n xs) : Owns w.drew base e size K v n xs :=
  h.of_blocks (fun g hg => rfl) (Nat.le_refl _)
theorem Owns.drewN {w : World} {base : Nat} {e : TypeId} {size : Nat} {K : Value → Prop} {v : Value} {n : Nat} {xs : List Value} (h : Owns w base e size K v n xs) (k : Nat) : Owns (w.drewN k) base e size K v n xs :=
  h.of_blocks (fun g hg => rfl) (Nat.le_refl _)
theorem Owns.below {w w' : World} {base B : Nat} {e : TypeId} {size : Nat} {K : Value → Prop} {v : Value} {n : Nat} {xs : List Value} (h : Owns w base e size K v n xs) (hb : Below B w w') (hB : w.heap.size ≤ B) : Owns w' base e size K v n xs :=
  h.of_blocks (fun g hg => hb.block g (Nat.lt_of_lt_of_le (h.lt hg).2 hB)) hb.size
theorem Owns.base {w : World} {base base' : Nat} {e : TypeId} {size : Nat} {K : Value → Prop} {v : Value} {n : Nat} {xs : List Value} (h : Owns w base e size K v n xs) (hb : base' ≤ base) : Owns w base' e size K v n xs := by
  refine ⟨⟨h.1.1, ?_⟩, h.2⟩
  rcases h.1.2 with ⟨rfl, hn⟩ | ⟨g, cap, cur, rfl, h1, h2, h3⟩
  · exact .inl ⟨rfl, hn⟩
  · exact .inr ⟨g, cap, cur, rfl, by omega, h2, h3⟩

theorem mem_zeroCells {z : Array Value} {n : Nat} {u : Value} (h : u ∈ (Builtin.zeroCells z n).toList) : u ∈ z.toList := by
  unfold Builtin.zeroCells at h
  simp at h
  obtain ⟨k, hk, rfl⟩ := h
  have hs : 0 < z.size := by
    rcases Nat.eq_zero_or_pos z.size with h0 | h0
    · rw [h0] at hk; simp at hk
    · exact h0
  have hlt : k % z.size < z.size := Nat.mod_lt _ hs
  rw [getElem!_pos z (k % z.size) hlt]
  simp

section
variable {P : Program} (w : World)
theorem run_append_q (base : Nat) (t ty e : TypeId) (i : TypeInfo) (z : Value) (size bytes : Nat) (ht : P.underlying t = some (.slice e)) (hi : P.info? e = some i) (hz : i.zero = some z)
    (hsize : i.size = size) (hby : i.bytes = bytes) (hzs : z.cells.size = size) (hsz : 0 < size) (K : Value → Prop) (hKz : ∀ u ∈ z.cells.toList, K u)
    (v : Value) (n : Nat) (xs : List Value) (hown : Owns w base e size K v n xs)
    (a : Addr) (m c : Nat) (news : List Value) (hl : news.length = m * size) (hnews : ∀ j u, news[j]? = some u → w.cell? (a.add j) = some u) (h1 : ∀ u ∈ news, u.oneCell' = true) (hKn : ∀ u ∈ news, K u)
    (h63 : n + m ≤ maxLen) (hbytes : (n + m) * bytes ≤ 140737488355328) (hbase : base ≤ w.heap.size) :
    ∃ v' w', (Builtin.append_ #[t, t] ty #[v, .slice (some a) m c]).run P w = .ok v' w' ∧ Owns w' base e size K v' (n + m) (xs ++ news) ∧ w.grownBy w' v.ownBlock := by
  obtain ⟨v', w', hr, h2, h3, _⟩ := run_append_own (P := P) w base t ty e i z size bytes ht hi hz hsize hby hzs hsz v n xs hown.1 a m c news hl hnews h1 h63 hbytes hbase
  refine ⟨v', w', hr, ⟨h2, ?_⟩, h3⟩
  subst hsize
  subst hby
  have hsmall : n + m ≤ 9223372036854775807 := by simp only [maxLen] at h63; omega
  have hx : ∀ u ∈ xs, K u := by
    intro u hu
    rcases hown.1.2 with ⟨rfl, rfl⟩ | ⟨g, cap, cur, rfl, hbg, hg, hnc, hcm, hcs, htake⟩
    · have hx : xs = [] := List.eq_nil_of_length_eq_zero (by simpa using hown.1.1)
      subst hx
      simp at hu
    · rw [← htake] at hu
      exact hown.2 g cur _ _ (by simp [Value.ownBlock]) hg u (List.mem_of_mem_take hu)
  have grown : ∀ (k : Nat) (g' : Nat) (cur' : Array Value) (t' : TypeId) (fr' : Nat × Nat),
      (w.drew.alloc (.cells (xs.toArray ++ news.toArray ++ Builtin.zeroCells z.cells k) e)).heap[w.heap.size]? = some (.cells cur' t' fr') → ∀ u ∈ cur'.toList, K u := by
    intro k g' cur' t' fr' hc u hu
    have hh : (w.drew.alloc (.cells (xs.toArray ++ news.toArray ++ Builtin.zeroCells z.cells k) e)).heap[w.heap.size]? = some (.cells (xs.toArray ++ news.toArray ++ Builtin.zeroCells z.cells k) e) := heap_alloc_new w.drew _
    rw [hh] at hc
    injection hc with hc
    injection hc with hc _ _
    subst hc
    simp only [Array.toList_append, List.mem_append] at hu
    rcases hu with (hu | hu) | hu
    · exact hx u (by simpa using hu)
    · exact hKn u (by simpa using hu)
    · exact hKz u (mem_zeroCells hu)
  intro g' cur' t' fr' hgb hc u hu
  rcases hown.1.2 with ⟨rfl, rfl⟩ | ⟨g, cap, cur, rfl, hbg, hg, hnc, hcm, hcs, htake⟩
  · have hxn : xs = [] := List.eq_nil_of_length_eq_zero (by simpa using hown.1.1)
    subst hxn
    by_cases hm : m = 0
    · subst hm
      have hn : news = [] := List.eq_nil_of_length_eq_zero (by simpa using hl)
      subst hn
      have hr' : (Builtin.append_ #[t, t] ty #[.slice none 0 0, .slice (some a) 0 c]).run P w = .ok (.slice none 0 0) w := by
        simp [Builtin.append_, run_underlying ht, sizeOf, typeInfo, hi, Builtin.lenOf, Builtin.firstCells, loadCells, loadCellsFrom]
      rw [hr'] at hr
      injection hr with hv hw
      subst hv
      simp [Value.ownBlock] at hgb
    · have hr' := run_append_nil (P := P) w t ty e i z ht hi hz a m c news hl hnews (by omega) (by omega) (by have hb := hbytes; simp only [Nat.zero_add] at hb; omega)
      rw [hr'] at hr
      injection hr with hv hw
      subst hv hw
      simp [Value.ownBlock] at hgb
      subst hgb
      exact grown (grownCap w m 0 e - m) w.heap.size cur' t' fr' (by simpa using hc) u hu
  · by_cases hroom : n + m ≤ cap
    · have hfit : n * i.size + news.length ≤ cur.size := by rw [hl, hcs, ← Nat.add_mul]; exact Nat.mul_le_mul_right _ hroom
      have hr' := run_append_room (P := P) w t ty e i ht hi g n cap cur hg a m c news hl hnews h1 hroom hfit
      rw [hr'] at hr
      injection hr with hv hw
      subst hv hw
      simp [Value.ownBlock] at hgb
      subst hgb
      rw [setRow_heap w g cur _ e _ hg] at hc
      injection hc with hc
      injection hc with hc _ _
      subst hc
      have hc0 := hown.2 g cur _ _ (by simp [Value.ownBlock]) hg
      simp only [List.mem_append] at hu
      rcases hu with (hu | hu) | hu
      · exact hc0 u (List.mem_of_mem_take hu)
      · exact hKn u hu
      · exact hc0 u (List.mem_of_mem_drop hu)
    · have holds : ∀ j u, xs[j]? = some u → w.cell? ((⟨g, 0, none⟩ : Addr).add j) = some u := hown.1.cells (g := g) rfl
      have hr' := run_append_grow (P := P) w t ty e i z ht hi hz ⟨g, 0, none⟩ n cap xs hown.1.1 holds a m c news hl hnews (by omega) (by omega) (growslice_fits (by omega) hbytes)
      rw [hr'] at hr
      injection hr with hv hw
      subst hv hw
      simp [Value.ownBlock] at hgb
      subst hgb
      exact grown _ w.heap.size cur' t' fr' hc u hu

theorem wpList_append_q {ops : Array Oper} {rest : List Oper} {o : Oper} {a : Act} {Q : Exit → Act → World → Prop} (hgd : o.guard = none) (s x : Operand) (t : TypeId)
    (ho : o.op = .call { callee := .builtin .append, args := #[s, x], argTypes := #[t, t] })
    (base : Nat) (e : TypeId) (i : TypeInfo) (z : Value) (size bytes : Nat) (ht : P.underlying t = some (.slice e)) (hi : P.info? e = some i) (hz : i.zero = some z)
    (hsize : i.size = size) (hby : i.bytes = bytes) (hzs : z.cells.size = size) (hsz : 0 < size) (K : Value → Prop) (hKz : ∀ u ∈ z.cells.toList, K u)
    (v : Value) (n : Nat) (xs : List Value) (hs : a.eval s = v) (hown : Owns w base e size K v n xs)
    (ad : Addr) (m c : Nat) (news : List Value) (hx : a.eval x = .slice (some ad) m c) (hl : news.length = m * size) (hnews : ∀ j u, news[j]? = some u → w.cell? (ad.add j) = some u) (h1 : ∀ u ∈ news, u.oneCell' = true) (hKn : ∀ u ∈ news, K u)
    (h63 : n + m ≤ maxLen) (hbytes : (n + m) * bytes ≤ 140737488355328) (hbase : base ≤ w.heap.size)
    (h : ∀ v' w', Owns w' base e size K v' (n + m) (xs ++ news) → w.grownBy w' v.ownBlock → wpList P ops Q rest (a.put o.dst v') w') : wpList P ops Q (o :: rest) a w :=
  wpList_plain hgd fun _ hK => by
    obtain ⟨v', w', hr, h2, h3⟩ := run_append_q (P := P) w base t o.type e i z size bytes ht hi hz hsize hby hzs hsz K hKz v n xs hown ad m c news hl hnews h1 hKn h63 hbytes hbase
    unfold Oper.wp execOp
    simp only [ho, resolve, invoke, builtin, Sem.run_bind, Sem.run_pure, Result.andThen_ok, List.map_toArray, List.map_cons, List.map_nil, hs, hx, hr]
    exact hK _ _ (h v' w' h2 h3)
end

/-- A cell that holds a byte. -/
def IsU8 (u : Value) : Prop := ∃ k : Int, 0 ≤ k ∧ k < 256 ∧ u = .int .u8 k
theorem u8_cells {xs : List Int} (h : ∀ x ∈ xs, 0 ≤ x ∧ x < 256) : ∀ u ∈ xs.map (Value.int .u8), IsU8 u := by
  intro u hu
  obtain ⟨x, hx, rfl⟩ := List.mem_map.1 hu
  exact ⟨x, (h x hx).1, (h x hx).2, rfl⟩

/-- A slice of bytes that came in, or that a call has made: nil, or it leads to the bytes xs. -/
def IsBytes (w : World) (B : Nat) (X : Value) (xs : List Int) : Prop :=
  (∀ x ∈ xs, 0 ≤ x ∧ x < 256) ∧ xs.length ≤ maxLen ∧ ((X = .slice none 0 0 ∧ xs = []) ∨
    ∃ ad cap, X = .slice (some ad) xs.length cap ∧ xs.length ≤ cap ∧ (0 < xs.length → ad.block < B) ∧ ∀ i, i < xs.length → w.cell? (ad.add i) = some (.int .u8 (xs.getD i 0)))
theorem IsBytes.below {w w' : World} {B B' : Nat} {X : Value} {xs : List Int} (h : IsBytes w B X xs) (hb : Below B' w w') (hB : B ≤ B') : IsBytes w' B X xs := by
  refine ⟨h.1, h.2.1, ?_⟩
  rcases h.2.2 with h0 | ⟨ad, cap, h1, h2, h3, h4⟩
  · exact .inl h0
  · refine .inr ⟨ad, cap, h1, h2, h3, fun i hi => ?_⟩
    rw [World.cell?_of_block (hb.block (ad.add i).block (by
      have := h3 (by omega)
      have e : (ad.add i).block = ad.block := by unfold Addr.add; split <;> rfl
      omega))]
    exact h4 i hi
theorem IsBytes.more {w : World} {B B' : Nat} {X : Value} {xs : List Int} (h : IsBytes w B X xs) (hB : B ≤ B') : IsBytes w B' X xs := by
  refine ⟨h.1, h.2.1, ?_⟩
  rcases h.2.2 with h0 | ⟨ad, cap, h1, h2, h3, h4⟩
  · exact .inl h0
  · exact .inr ⟨ad, cap, h1, h2, fun hn => Nat.lt_of_lt_of_le (h3 hn) hB, h4⟩
theorem IsBytes.len {w : World} {B : Nat} {X : Value} {xs : List Int} (h : IsBytes w B X xs) : ∃ A cap, X = .slice A xs.length cap := by
  rcases h.2.2 with ⟨h0, rfl⟩ | ⟨ad, cap, h1, _⟩
  · exact ⟨none, 0, h0⟩
  · exact ⟨_, cap, h1⟩
/-- Where there is a byte, the slice's address is a plain one. -/
theorem IsBytes.plain {w : World} {B : Nat} {X : Value} {xs : List Int} (h : IsBytes w B X xs) (hn : 0 < xs.length) :
    ∃ b off cap, X = .slice (some ⟨b, off, none⟩) xs.length cap ∧ xs.length ≤ cap ∧ b < B ∧ ∀ i, i < xs.length → w.cell? ⟨b, off + i, none⟩ = some (.int .u8 (xs.getD i 0)) := by
  rcases h.2.2 with ⟨_, rfl⟩ | ⟨⟨b, off, spot⟩, cap, h1, h2, h3, h4⟩
  · simp at hn
  · have hspot : spot = none := by simpa [Addr.add] using World.cell?_spot (h4 0 hn)
    subst hspot
    refine ⟨b, off, cap, h1, h2, h3 hn, fun i hi => ?_⟩
    have := h4 i hi
    by_cases h0 : i = 0
    · subst h0
      simpa [Addr.add] using this
    · simpa [Addr.add, h0] using this
theorem IsBytes.of_owns {w : World} {base B : Nat} {e : TypeId} {K : Value → Prop} {v : Value} {n : Nat} {xs : List Int} (h : Owns w base e 1 K v n (xs.map (Value.int .u8))) (hx : ∀ x ∈ xs, 0 ≤ x ∧ x < 256) (hB : w.heap.size ≤ B) : IsBytes w B v xs := by
  have hn : xs.length = n := by simpa using h.1.1
  subst hn
  rcases h.1.2 with ⟨rfl, h0⟩ | ⟨g, cap, cur, rfl, h1, h2, h3, h4, h5, h6⟩
  · have : xs = [] := List.eq_nil_of_length_eq_zero h0
    subst this
    exact ⟨hx, by simp, .inl ⟨rfl, rfl⟩⟩
  · refine ⟨hx, by omega, .inr ⟨⟨g, 0, none⟩, cap, rfl, h3, fun _ => ?_, fun i hi => ?_⟩⟩
    · have := (h.lt (g := g) (by simp [Value.ownBlock])).2
      show g < B
      omega
    · exact h.1.cells (g := g) rfl i _ (by simp [List.getElem?_eq_getElem hi, List.getD])

/-- Bytes as a string, and back: as many, and the same. -/
theorem strOfNums_inj {xs ys : List Int} (hx : ∀ x ∈ xs, 0 ≤ x ∧ x < 256) (hy : ∀ x ∈ ys, 0 ≤ x ∧ x < 256) (h' : (xs.map fun n => UInt8.ofNat n.toNat) = ys.map fun n => UInt8.ofNat n.toNat) : xs = ys := by
  induction xs generalizing ys with
  | nil => cases ys with
    | nil => rfl
    | cons y ys => simp at h'
  | cons x xs ih => cases ys with
    | nil => simp at h'
    | cons y ys =>
      simp only [List.map_cons, List.cons.injEq] at h'
      have hx0 := hx x (by simp)
      have hy0 := hy y (by simp)
      have e := congrArg UInt8.toNat h'.1
      simp only [UInt8.toNat_ofNat'] at e
      have : x = y := by omega
      subst this
      rw [ih (ys := ys) (fun z hz => hx z (by simp [hz])) (fun z hz => hy z (by simp [hz])) h'.2]
theorem beq_strOfNums {xs ys : List Int} (hx : ∀ x ∈ xs, 0 ≤ x ∧ x < 256) (hy : ∀ x ∈ ys, 0 ≤ x ∧ x < 256) : ((strOfNums xs).toList == (strOfNums ys).toList) = (xs == ys) := by
  rw [Bool.eq_iff_iff, beq_iff_eq, beq_iff_eq]
  refine ⟨fun h => strOfNums_inj hx hy ?_, fun h => by rw [h]⟩
  have h2 := h
  rw [ByteArray.toList_eq, ByteArray.toList_eq, strOfNums_data, strOfNums_data] at h2
  exact h2
theorem Owns.made (w : World) (base : Nat) (e : TypeId) (size : Nat) (K : Value → Prop) (hb : base ≤ w.heap.size) : Owns (w.alloc (.cells #[] e)) base e size K (.slice (some ⟨w.heap.size, 0, none⟩) 0 0) 0 [] := by
  refine ⟨World.ownsRow_made w #[] 0 hb (Nat.zero_le _) (by simp), fun g cur t fr hg hc => ?_⟩
  simp [Value.ownBlock] at hg
  subst hg
  rw [heap_alloc_new] at hc
  injection hc with hc
  injection hc with hc _ _
  subst hc
  simp

theorem conv_bytes {P : Program} {w : World} {B : Nat} {X : Value} {xs : List Int} (h : IsBytes w B X xs) {src dst e : TypeId} (hs : P.underlying src = some (.slice e)) (he : P.underlying e = some (.int .u8)) (hd : P.underlying dst = some .string) :
    (convert src dst X).run P w = .ok (.string (strOfNums xs)) w := by
  by_cases hn : 0 < xs.length
  · obtain ⟨b, off, cap, rfl, _, _, hc⟩ := h.plain hn
    exact run_convert_bytes_arg w src e hs he b off _ cap xs rfl hc dst hd
  · have hx : xs = [] := List.eq_nil_of_length_eq_zero (by omega)
    subst hx
    rcases h.2.2 with ⟨rfl, _⟩ | ⟨ad, cap, rfl, _⟩
    · rw [run_convert_bytes_nil w src e hs he 0 0 dst hd]
      rfl
    · rw [run_convert_bytes_string w src dst e _ _ cap hs he hd]
      have := run_bytesToString (P := P) w ad 0 cap [] (by simp [loadCells, loadCellsFrom])
      simp only [List.length_nil]
      rw [this]
      rfl
end Go.Proofs.YtnaceogkaiodnaaGreat

namespace Go.Proofs.YtnaceogkaiodnaaGreat
open Go.RowKit
set_option linter.unusedVariables false

theorem isSize_any (s : Int) (w : World) : Calls Tryz.prog 78 #[.int .i64 s] w fun e w' => e = .returned (.bool (sizedB s)) ∧ w = w' := by
  by_cases h1 : s = 1
  · subst h1
    go_enter Tryz.func78, Tryz.ntmps78
    go_wp2
    go_ret
    exact ⟨rfl, rfl⟩
  by_cases h2 : s = 2
  · subst h2
    go_enter Tryz.func78, Tryz.ntmps78
    go_wp2
    go_ret
    exact ⟨rfl, rfl⟩
  by_cases h4 : s = 4
  · subst h4
    go_enter Tryz.func78, Tryz.ntmps78
    go_wp2
    go_ret
    exact ⟨rfl, rfl⟩
  by_cases h8 : s = 8
  · subst h8
    go_enter Tryz.func78, Tryz.ntmps78
    go_wp2
    go_ret
    exact ⟨rfl, rfl⟩
  have e : sizedB s = false := by simp [sizedB, h1, h2, h4, h8]
  rw [e]
  clear e
  have b1 : (s == 1) = false := by simpa using h1
  have b2 : (s == 2) = false := by simpa using h2
  have b4 : (s == 4) = false := by simpa using h4
  have b8 : (s == 8) = false := by simpa using h8
  clear h1 h2 h4 h8
  go_enter Tryz.func78, Tryz.ntmps78
  go_wp2
  go_ret
  exact ⟨rfl, rfl⟩
theorem isSize_any_no {s : Int} (h : sizedB s = false) (w : World) : Calls Tryz.prog 78 #[.int .i64 s] w fun e w' => e = .returned (.bool false) ∧ w = w' := by
  rw [← h]
  exact isSize_any s w
theorem u8_info : (Tryz.prog.info? 5).map (fun i => (i.zero, i.size, i.bytes)) = some (some (.int .u8 0), 1, 1) := by kernel_rfl
theorem zero_u8 : ∀ u ∈ (Value.int .u8 0).cells.toList, IsU8 u := by
  intro u hu
  simp [Value.cells] at hu
  subst hu
  exact ⟨0, by omega, by omega, rfl⟩

/-- The bytes of a number, the lowest first. -/
def byteV (a : Int) (k : Nat) : Int := a / 256 ^ k % 256
def bytesV (a : Int) (n : Nat) : List Int := (List.range n).map (byteV a)
theorem bytesV_len (a : Int) (n : Nat) : (bytesV a n).length = n := by simp [bytesV]
theorem bytesV_succ (a : Int) (n : Nat) : bytesV a (n + 1) = bytesV a n ++ [byteV a n] := by simp [bytesV, List.range_succ]
theorem byteV_bd (a : Int) (k : Nat) : 0 ≤ byteV a k ∧ byteV a k < 256 := by unfold byteV; omega
theorem bytesV_bd (a : Int) (n : Nat) : ∀ x ∈ bytesV a n, 0 ≤ x ∧ x < 256 := by
  intro x hx
  obtain ⟨k, _, rfl⟩ := List.mem_map.1 hx
  exact byteV_bd a k
theorem pow_256 (k : Nat) : (2 : Int) ^ (8 * k) = 256 ^ k := by rw [Int.pow_mul]; rfl

/-- What Put leaves: bytes of the call's own. -/
def PutDone (w : World) (xs : List Int) (e : Ending) (w' : World) : Prop :=
  ∃ v, e = .returned (.tuple #[v, .int .i64 0]) ∧ Owns w' w.heap.size 5 1 IsU8 v xs.length (xs.map (Value.int .u8)) ∧ Below w.heap.size w w'


theorem news_one (w : World) (x : Value) (t : TypeId) : ∀ j u, [x][j]? = some u → (w.alloc (.cells #[x] t)).cell? ((⟨w.heap.size, 0, none⟩ : Addr).add j) = some u := by
  exact World.news_of_block (cs := #[x]) (heap_alloc_new w _)
theorem byteV_shift (a : Int) (k : Nat) : a / 2 ^ (8 * k) % 256 = byteV a k := by rw [pow_256]; rfl
theorem put_step {w wr w1 : World} {v v' : Value} {a y : Int} {k : Nat} {t : TypeId} {o : Obj} (hy : y = byteV a k) (hb : Below w.heap.size w wr) (hown : Owns wr w.heap.size t 1 IsU8 v k ((bytesV a k).map (Value.int .u8)))
    (ho : Owns w1 w.heap.size t 1 IsU8 v' (k + 1) ((bytesV a k).map (Value.int .u8) ++ [.int .u8 y])) (hg : (wr.alloc o).grownBy w1 v.ownBlock) :
    Owns w1 w.heap.size t 1 IsU8 v' (k + 1) ((bytesV a (k + 1)).map (Value.int .u8)) ∧ Below w.heap.size w w1 := by
  refine ⟨?_, (hb.alloc hb.size o).grown hg (by have := hb.size; simp; omega) (fun g hg' => (hown.lt hg').1)⟩
  rw [bytesV_succ, List.map_append, ← hy]
  exact ho
theorem put_end {w w' : World} {v : Value} {a : Int} {k n : Nat} (h : Owns w' w.heap.size 5 1 IsU8 v k ((bytesV a k).map (Value.int .u8))) (hb : Below w.heap.size w w') (hk : k = n) : PutDone w (bytesV a n) (.returned (.tuple #[v, .int .i64 0])) w' := by
  subst hk
  exact ⟨v, rfl, by rw [bytesV_len]; exact h, hb⟩

set_option maxHeartbeats 1000000 in
theorem put_yes (a : Int) (n : Nat) (w : World) (ha : 0 ≤ a) (ha' : a < 18446744073709551616) (hs : sizedB n = true) :
    Calls Tryz.prog 152 #[.int .u64 a, .int .i64 n] w (PutDone w (bytesV a n)) := by
  obtain ⟨i0, hi, hz0, hz1, hz2⟩ := info_parts u8_info
  have hn8 : n ≤ 8 := by rcases sized_cases hs with h | h | h | h <;> omega
  have cs : ∀ w, Calls Tryz.prog 78 #[.int .i64 n] w fun e w' => e = .returned (.bool true) ∧ w = w' := fun w => hs ▸ isSize_any n w
  have CS := Lib.hid cs
  clear cs hs
  have HI := Lib.hid hi
  have HZ0 := Lib.hid hz0
  have HZ1 := Lib.hid hz1
  have HZ2 := Lib.hid hz2
  clear hi hz0 hz1 hz2
  go_enter Tryz.func152, Tryz.ntmps152
  go_wp2_with (go_at_call 78; (with_reducible refine (CS.out _).mono ?_); rintro e w' ⟨rfl, rfl⟩)
  go_loopw [6, 12] (fun v i wr => ∃ k : Nat, k ≤ n ∧ i = .int .i64 k ∧ Owns wr w.heap.size 5 1 IsU8 v k ((bytesV a k).map (Value.int .u8)) ∧ Below w.heap.size w wr) (fun _ i _ => n - (intOf i).toNat)
  case atStart => exact ⟨0, by omega, rfl, Owns.nil _ _ _ _ _, Below.refl _ _⟩
  case round =>
    obtain ⟨k, hk, rfl, hown, hb⟩ := hrel
    have hnx := hb.size
    have HO := Lib.hid hown
    have HB := Lib.hid hb
    clear hown hb
    by_cases hlt : k < n
    · go_wp2_with (at_builtin; refine wpList_append_q _ rfl (.tmp 15) (.tmp 21) 25 rfl w.heap.size 5 i0 _ 1 1 Tryz.underlying25 HI.out HZ0.out HZ1.out HZ2.out rfl (by decide) IsU8 zero_u8 _ k _ rfl (HO.out.alloc _) ⟨wr.heap.size, 0, none⟩ 1 1 [.int .u8 (a / 2 ^ (8 * k) % 256)] rfl rfl (news_one _ _ _) (by intro u hu; simp at hu; subst hu; rfl) (by intro u hu; simp at hu; subst hu; exact ⟨_, by omega, by omega, rfl⟩) (by simp only [maxLen]; omega) (by omega) (by simp; omega) ?_; intro v' w1 hown' hgrow; have R0 := Lib.hid (put_step (byteV_shift a k) HB.out HO.out hown' hgrow); clear hown' hgrow)
      go_roundw
      case rel => exact ⟨k + 1, by omega, by go_num, R0.out.1, R0.out.2⟩
      case measure => simp [intOf]; omega
    · go_wp2
      go_ret2
      exact put_end HO.out HB.out (by omega)
/-- The number that bytes are, the lowest first. -/
def numV : List Int → Int
  | [] => 0
  | x :: xs => x + 256 * numV xs
def getV (xs : List Int) : Int := if 8 < xs.length then 0 else if sizedB xs.length = true then numV xs else 0
def getE (xs : List Int) : Int := if 8 < xs.length then 3 else if sizedB xs.length = true then 0 else 2
theorem numV_bd : ∀ {xs : List Int}, (∀ x ∈ xs, 0 ≤ x ∧ x < 256) → 0 ≤ numV xs ∧ numV xs < 256 ^ xs.length
  | [], _ => by simp [numV]
  | x :: xs, h => by
    have ih := numV_bd (xs := xs) (fun y hy => h y (by simp [hy]))
    have hx := h x (by simp)
    simp only [numV, List.length_cons, Int.pow_succ]
    generalize (256 : Int) ^ xs.length = p at *
    omega
theorem numV_snoc : ∀ (xs : List Int) (y : Int), numV (xs ++ [y]) = numV xs + y * 256 ^ xs.length
  | [], y => by simp [numV]
  | x :: xs, y => by
    simp only [List.cons_append, numV, numV_snoc xs y, List.length_cons, Int.pow_succ]
    rw [show y * (256 ^ xs.length * 256) = 256 * (y * 256 ^ xs.length) by
      generalize (256 : Int) ^ xs.length = p
      rw [Int.mul_comm p 256, ← Int.mul_assoc, Int.mul_comm y 256, Int.mul_assoc]]
    omega
theorem take_snoc' {xs : List Int} {k : Nat} (h : k < xs.length) : xs.take (k + 1) = xs.take k ++ [xs.getD k 0] := by
  rw [List.take_succ_eq_append_getElem h]
  simp [List.getD, List.getElem?_eq_getElem h]
theorem drop_cons' {xs : List Int} {k : Nat} (h : k < xs.length) : xs.drop k = xs.getD k 0 :: xs.drop (k + 1) := by
  rw [List.drop_eq_getElem_cons h]
  simp [List.getD, List.getElem?_eq_getElem h]
theorem pow_le_64 {n : Nat} (h : n ≤ 8) : (256 : Int) ^ n ≤ 18446744073709551616 := by
  have hn : n = 0 ∨ n = 1 ∨ n = 2 ∨ n = 3 ∨ n = 4 ∨ n = 5 ∨ n = 6 ∨ n = 7 ∨ n = 8 := by omega
  rcases hn with rfl | rfl | rfl | rfl | rfl | rfl | rfl | rfl | rfl <;> decide
/-- 'or' of a number below a power of two and a multiple of it is their sum. -/
theorem or_add {x y : Int} {k : Nat} (hx : 0 ≤ x) (hx' : x < 256 ^ k) (hy : 0 ≤ y) (h : y * 256 ^ k < 18446744073709551616) (hk : k ≤ 8) :
    bits .or .u64 x (y * 256 ^ k) = x + y * 256 ^ k := by
  obtain ⟨a, rfl⟩ := Int.eq_ofNat_of_zero_le hx
  obtain ⟨b, rfl⟩ := Int.eq_ofNat_of_zero_le hy
  have hp : (256 : Int) ^ k = ((2 ^ (8 * k) : Nat) : Int) := by rw [← pow_256]; simp
  have hle := pow_le_64 hk
  rw [hp] at hx' h hle ⊢
  have h1 : a < 2 ^ (8 * k) := by exact_mod_cast hx'
  have key := Nat.two_pow_add_eq_or_of_lt h1 b
  have hm : (b : Int) * ((2 ^ (8 * k) : Nat) : Int) = ((2 ^ (8 * k) * b : Nat) : Int) := by rw [Int.natCast_mul, Int.mul_comm]
  rw [hm] at h ⊢
  generalize (2 ^ (8 * k) : Nat) = q at *
  rw [bits_or_u64_nat a (q * b) (by omega) (by omega), Nat.or_comm, ← key]
  omega


theorem get_long (X : Value) (xs : List Int) (w : World) (B : Nat) (hX : IsBytes w B X xs) (h : 8 < xs.length) :
    Calls Tryz.prog 59 #[X] w fun e w' => e = .returned (.tuple #[.int .u64 (getV xs), .int .i64 (getE xs)]) ∧ w = w' := by
  rw [show getV xs = 0 by unfold getV; rw [if_pos h], show getE xs = 3 by unfold getE; rw [if_pos h]]
  obtain ⟨A, cap, rfl⟩ := hX.len
  have hm := hX.2.1
  unfold maxLen at hm
  have h8 : (8 : Int) < (xs.length : Int) := by omega
  clear hX h
  go_enter Tryz.func59, Tryz.ntmps59
  go_wp2
  go_ret2
  exact ⟨rfl, rfl⟩
theorem get_odd (X : Value) (xs : List Int) (w : World) (B : Nat) (hX : IsBytes w B X xs) (h : ¬ 8 < xs.length) (hs : sizedB xs.length = false) :
    Calls Tryz.prog 59 #[X] w fun e w' => e = .returned (.tuple #[.int .u64 (getV xs), .int .i64 (getE xs)]) ∧ w = w' := by
  rw [show getV xs = 0 by unfold getV; rw [if_neg h, if_neg (by simp [hs])], show getE xs = 2 by unfold getE; rw [if_neg h, if_neg (by simp [hs])]]
  obtain ⟨A, cap, rfl⟩ := hX.len
  have h8 : ¬ (8 : Int) < (xs.length : Int) := by omega
  have HS := Lib.hid hs
  clear hX h hs
  go_enter Tryz.func59, Tryz.ntmps59
  go_wp2_with (go_at_call 78; (with_reducible refine (isSize_any_no HS.out _).mono ?_); rintro e w' ⟨rfl, rfl⟩)
  go_ret2
  exact ⟨rfl, rfl⟩

theorem get_step {xs : List Int} {k : Nat} (hx : ∀ x ∈ xs, 0 ≤ x ∧ x < 256) (hk : k < xs.length) (h8 : xs.length ≤ 8) :
    bits .or .u64 (numV (xs.take k)) (xs.getD k 0 * 2 ^ (8 * k) % 18446744073709551616) = numV (xs.take (k + 1)) := by
  have hy : 0 ≤ xs.getD k 0 ∧ xs.getD k 0 < 256 := by
    have : xs.getD k 0 = xs[k] := by simp [List.getD, List.getElem?_eq_getElem hk]
    rw [this]
    exact hx _ (List.getElem_mem hk)
  have hb := numV_bd (xs := xs.take k) (fun y hy => hx y (List.mem_of_mem_take hy))
  have hl : (xs.take k).length = k := by simp; omega
  rw [hl] at hb
  have hp : (0 : Int) < 256 ^ k := Int.pow_pos (by omega)
  have hn := pow_le_64 (n := k + 1) (by omega)
  rw [Int.pow_succ] at hn
  have hlt : xs.getD k 0 * 256 ^ k < 18446744073709551616 := by
    have h1 : xs.getD k 0 * 256 ^ k ≤ 255 * 256 ^ k := Int.mul_le_mul_of_nonneg_right (by omega) (by omega)
    generalize (256 : Int) ^ k = p at *
    omega
  have h0 : 0 ≤ xs.getD k 0 * 256 ^ k := Int.mul_nonneg hy.1 (by omega)
  rw [pow_256, Int.emod_eq_of_lt h0 hlt, or_add hb.1 hb.2 hy.1 hlt (by omega), take_snoc' hk, numV_snoc, hl]
theorem getD_bd {xs : List Int} (hx : ∀ x ∈ xs, 0 ≤ x ∧ x < 256) {k : Nat} (hk : k < xs.length) : 0 ≤ xs.getD k 0 ∧ xs.getD k 0 < 256 := by
  have : xs.getD k 0 = xs[k] := by simp [List.getD, List.getElem?_eq_getElem hk]
  rw [this]
  exact hx _ (List.getElem_mem hk)
theorem drop_bd {xs : List Int} (hx : ∀ x ∈ xs, 0 ≤ x ∧ x < 256) (h8 : xs.length ≤ 8) (k : Nat) : 0 ≤ numV (xs.drop (k + 1)) ∧ 256 * numV (xs.drop (k + 1)) + 255 < 18446744073709551616 ∨ xs.length ≤ k := by
  rcases Nat.lt_or_ge k xs.length with hk | hk
  · left
    have hb := numV_bd (xs := xs.drop (k + 1)) (fun y hy => hx y (List.mem_of_mem_drop hy))
    have hl : (xs.drop (k + 1)).length = xs.length - (k + 1) := by simp
    rw [hl] at hb
    have hn := pow_le_64 (n := xs.length - (k + 1) + 1) (by omega)
    rw [Int.pow_succ] at hn
    generalize (256 : Int) ^ (xs.length - (k + 1)) = p at *
    omega
  · exact .inr hk
set_option maxHeartbeats 1000000 in
theorem get_fit (X : Value) (xs : List Int) (w : World) (B : Nat) (hX : IsBytes w B X xs) (h : ¬ 8 < xs.length) (hs : sizedB xs.length = true) :
    Calls Tryz.prog 59 #[X] w fun e w' => e = .returned (.tuple #[.int .u64 (getV xs), .int .i64 (getE xs)]) ∧ w = w' := by
  rw [show getV xs = numV xs by unfold getV; rw [if_neg h, if_pos hs], show getE xs = 0 by unfold getE; rw [if_neg h, if_pos hs]]
  have hpos : 0 < xs.length := by rcases sized_cases hs with h | h | h | h <;> omega
  obtain ⟨b, off, cap, rfl, hcap, hlt, hc⟩ := hX.plain hpos
  have hx := hX.1
  have h8 : ¬ (8 : Int) < (xs.length : Int) := by omega
  have cs : ∀ w, Calls Tryz.prog 78 #[.int .i64 xs.length] w fun e w' => e = .returned (.bool true) ∧ w = w' := fun w => hs ▸ isSize_any _ w
  have CS := Lib.hid cs
  have HC := Lib.hid hc
  have HX := Lib.hid hx
  obtain ⟨n, hn⟩ : ∃ n, n = xs.length := ⟨_, rfl⟩
  have hn8 : n ≤ 8 := by omega
  rw [← hn] at hcap h8 CS HC ⊢
  have HN := Lib.hid hn
  clear cs hs hc hx h hX hpos hlt hn
  go_enter Tryz.func59, Tryz.ntmps59
  go_wp2_with (go_at_call 78; (with_reducible refine (CS.out _).mono ?_); rintro e w' ⟨rfl, rfl⟩)
  go_loop [4, 17] (fun x i => ∃ k : Nat, k ≤ n ∧ i = .int .i64 k ∧ x = .int .u64 (numV (xs.take k))) (fun _ i => n - (intOf i).toNat)
  case atStart => exact ⟨0, by omega, rfl, rfl⟩
  case round =>
    obtain ⟨k, hk, rfl, rfl⟩ := hrel
    by_cases hlt : k < n
    · have hcell := HC.out k hlt
      have hst := get_step HX.out (k := k) (by rw [← HN.out]; exact hlt) (by rw [← HN.out]; exact hn8)
      have HST := Lib.hid hst
      obtain ⟨y1, y2⟩ := getD_bd HX.out (k := k) (by rw [← HN.out]; exact hlt)
      obtain ⟨y, hy⟩ : ∃ y, y = xs.getD k 0 := ⟨_, rfl⟩
      rw [← hy] at hcell y1 y2
      have HY := Lib.hid hy
      clear hst hy
      go_wp2
      go_round
      case rel => exact ⟨k + 1, by omega, by go_num, by rw [← HST.out, ← HY.out]; simp only [IntKind.wrap_u64]⟩
      case measure => simp [intOf]; omega
    · go_wp2
      go_ret2
      exact ⟨ret_int2 (by rw [List.take_of_length_le (by have := HN.out; omega)]) rfl, rfl⟩
theorem get_any (X : Value) (xs : List Int) (w : World) (B : Nat) (hX : IsBytes w B X xs) :
    Calls Tryz.prog 59 #[X] w fun e w' => e = .returned (.tuple #[.int .u64 (getV xs), .int .i64 (getE xs)]) ∧ w = w' := by
  by_cases h : 8 < xs.length
  · exact get_long X xs w B hX h
  · cases hs : sizedB xs.length
    · exact get_odd X xs w B hX h hs
    · exact get_fit X xs w B hX h hs
end Go.Proofs.YtnaceogkaiodnaaGreat

namespace Go.Proofs.YtnaceogkaiodnaaGreat
open Go.RowKit
set_option linter.unusedVariables false

theorem sameBytes_any (X Y : Value) (xs ys : List Int) (w : World) (B C : Nat) (hX : IsBytes w B X xs) (hY : IsBytes w C Y ys) :
    Calls Tryz.prog 62 #[X, Y] w fun e w' => e = .returned (.bool (xs == ys)) ∧ w = w' := by
  have cx := conv_bytes (P := Tryz.prog) hX Tryz.underlying25 Tryz.underlying5 Tryz.underlying9
  have cy := conv_bytes (P := Tryz.prog) hY Tryz.underlying25 Tryz.underlying5 Tryz.underlying9
  have e := beq_strOfNums hX.1 hY.1
  have E := Lib.hid e
  clear e hX hY
  go_enter Tryz.func62, Tryz.ntmps62
  go_wp2
  go_ret
  exact ⟨ret_bool E.out, rfl⟩
theorem sameBytes_yes (X Y : Value) (xs : List Int) (w : World) (B C : Nat) (hX : IsBytes w B X xs) (hY : IsBytes w C Y xs) :
    Calls Tryz.prog 62 #[X, Y] w fun e w' => e = .returned (.bool true) ∧ w = w' := by
  have h := sameBytes_any X Y xs xs w B C hX hY
  rw [beq_self_eq_true] at h
  exact h

/-- What CopyBytes and LentBytes leave. -/
def CopyDone (w : World) (xs : List Int) (e : Ending) (w' : World) : Prop :=
  ∃ v, e = .returned v ∧ Owns w' w.heap.size 5 1 IsU8 v xs.length (xs.map (Value.int .u8)) ∧ Below w.heap.size w w'
/-- A list that is lent: in a block of its own, three marks behind it. -/
def Lent (w : World) (g : Nat) (xs : List Int) : Prop := ∃ cur, w.heap[g]? = some (.cells cur 5 (0, 0)) ∧ cur.toList.take (xs.length + 3) = (xs ++ [77, 201, 5]).map (Value.int .u8)
theorem Lent.below {w w' : World} {g B : Nat} {xs : List Int} (h : Lent w g xs) (hb : Below B w w') (hg : g < B) : Lent w' g xs := by
  obtain ⟨cur, h1, h2⟩ := h
  exact ⟨cur, (hb.block g hg).trans h1, h2⟩
theorem Lent.lt {w : World} {g : Nat} {xs : List Int} (h : Lent w g xs) : g < w.heap.size := by
  obtain ⟨cur, h1, _⟩ := h
  rcases Nat.lt_or_ge g w.heap.size with h | h
  · exact h
  · rw [Array.getElem?_eq_none h] at h1
    cases h1
theorem Lent.cell {w : World} {g : Nat} {xs : List Int} (h : Lent w g xs) {i : Nat} (hi : i < xs.length + 3) : w.cell? ⟨g, i, none⟩ = some (.int .u8 ((xs ++ [77, 201, 5]).getD i 0)) := by
  obtain ⟨cur, h1, h2⟩ := h
  have hl : i < (xs ++ [77, 201, 5]).length := by simp; omega
  have h3 : ((xs ++ [77, 201, 5]).map (Value.int .u8))[i]? = some (.int .u8 ((xs ++ [77, 201, 5]).getD i 0)) := by
    rw [List.getElem?_map, List.getElem?_eq_getElem hl]
    simp [List.getD, List.getElem?_eq_getElem hl]
  rw [← h2, List.getElem?_take] at h3
  rw [if_pos hi] at h3
  simp [World.cell?, h1]
  simpa using h3
theorem Lent.bytes {w : World} {g B cap : Nat} {xs : List Int} (h : Lent w g xs) (hx : ∀ x ∈ xs, 0 ≤ x ∧ x < 256) (hm : xs.length ≤ maxLen) (hB : g < B) (hc : xs.length ≤ cap) : IsBytes w B (.slice (some ⟨g, 0, none⟩) xs.length cap) xs := by
  refine ⟨hx, hm, .inr ⟨⟨g, 0, none⟩, cap, rfl, hc, fun _ => hB, fun i hi => ?_⟩⟩
  have e : (⟨g, 0, none⟩ : Addr).add i = ⟨g, i, none⟩ := by unfold Addr.add; split <;> simp_all
  rw [e, h.cell (by omega)]
  simp [List.getD, List.getElem?_append_left hi]
theorem Lent.marks {w : World} {g B cap : Nat} {xs : List Int} (h : Lent w g xs) (hB : g < B) (hc : 3 ≤ cap) : IsBytes w B (.slice (some ⟨g, xs.length, none⟩) 3 cap) [77, 201, 5] := by
  refine ⟨by intro x hx; simp at hx; omega, by simp [maxLen], .inr ⟨⟨g, xs.length, none⟩, cap, rfl, by simpa using hc, fun _ => hB, fun i hi => ?_⟩⟩
  have hi3 : i < 3 := by simpa using hi
  have e : (⟨g, xs.length, none⟩ : Addr).add i = ⟨g, xs.length + i, none⟩ := by unfold Addr.add; split <;> simp_all
  rw [e, h.cell (by omega)]
  simp [List.getD, List.getElem?_append_right]
/-- A block of so many bytes. -/
def Full (w : World) (g cap : Nat) : Prop := ∃ cur, w.heap[g]? = some (.cells cur 5 (0, 0)) ∧ cur.size = cap ∧ ∀ u ∈ cur.toList, IsU8 u
theorem Full.cell {w : World} {g cap : Nat} (h : Full w g cap) {k : Nat} (hk : k < cap) : ∃ y : Int, 0 ≤ y ∧ y < 256 ∧ w.cell? ⟨g, k, none⟩ = some (.int .u8 y) ∧ w.frozen? ⟨g, k, none⟩ = false := by
  obtain ⟨cur, h1, h2, h3⟩ := h
  obtain ⟨y, y1, y2, hy⟩ := h3 (cur[k]'(by omega)) (by simp)
  refine ⟨y, y1, y2, ?_, frozen_of_row w g k cur _ h1⟩
  rw [cell_of_row w g k cur _ _ h1, Array.getElem?_eq_getElem (by omega), hy]
theorem Full.set {w : World} {g cap : Nat} (h : Full w g cap) (k : Nat) {u : Value} (hu : IsU8 u) : Full (w.setCell ⟨g, k, none⟩ u) g cap := by
  obtain ⟨cur, h1, h2, h3⟩ := h
  refine ⟨cur.setIfInBounds k u, heap_setCell_same w g k cur _ u h1, by simpa using h2, fun x hx => ?_⟩
  rw [Array.toList_setIfInBounds] at hx
  rcases List.mem_or_eq_of_mem_set hx with h | h
  · exact h3 x h
  · subst h; exact hu
end Go.Proofs.YtnaceogkaiodnaaGreat

namespace Go.Proofs.YtnaceogkaiodnaaGreat
open Go.RowKit
set_option linter.unusedVariables false

/-- All blocks that were there are as they were, but those of R. -/
structure But (R : Nat → Prop) (w w' : World) : Prop where
  os : w'.os = w.os
  tape : w'.tape = w.tape
  output : w'.output = w.output
  size : w.heap.size ≤ w'.heap.size
  block : ∀ k, k < w.heap.size → ¬ R k → w'.heap[k]? = w.heap[k]?
def NoBlock : Nat → Prop := fun _ => False
def OneBlock (b : Nat) : Nat → Prop := fun k => k = b
theorem oneBlock_not {a b : Nat} (h : a ≠ b) : ¬ OneBlock b a := h
theorem noBlock_not (a : Nat) : ¬ NoBlock a := fun h => h
theorem But.refl (R : Nat → Prop) (w : World) : But R w w := ⟨rfl, rfl, rfl, Nat.le_refl _, fun _ _ _ => rfl⟩
theorem But.trans {R : Nat → Prop} {a b c : World} (h : But R a b) (k : But R b c) : But R a c :=
  ⟨k.os.trans h.os, k.tape.trans h.tape, k.output.trans h.output, Nat.le_trans h.size k.size, fun i hi hr => (k.block i (Nat.lt_of_lt_of_le hi h.size) hr).trans (h.block i hi hr)⟩
theorem But.mono {R S : Nat → Prop} {w w' : World} (h : But R w w') (hs : ∀ k, R k → S k) : But S w w' :=
  ⟨h.os, h.tape, h.output, h.size, fun k hk hn => h.block k hk fun hr => hn (hs k hr)⟩
theorem But.none {R : Nat → Prop} {w w' : World} (h : But NoBlock w w') : But R w w' := h.mono fun _ h => h.elim
theorem But.of_below {R : Nat → Prop} {w w' : World} (h : Below w.heap.size w w') : But R w w' :=
  ⟨h.os, h.tape, h.output, h.size, fun k hk _ => h.block k hk⟩
theorem But.below {R : Nat → Prop} {B : Nat} {a w w' : World} (hb : Below B a w) (h : But R w w') (hB : B ≤ w.heap.size) (hr : ∀ k, R k → B ≤ k) : Below B a w' :=
  hb.trans ⟨h.os, h.tape, h.output, h.size, fun k hk => h.block k (by omega) fun hk' => by have := hr k hk'; omega⟩
theorem But.below0 {w w' : World} (h : But NoBlock w w') : Below w.heap.size w w' :=
  ⟨h.os, h.tape, h.output, h.size, fun k hk => h.block k hk fun hk' => hk'⟩
theorem But.drew {R : Nat → Prop} {w w' : World} (h : But R w w') : But R w w'.drew := ⟨h.os, h.tape, h.output, h.size, h.block⟩
theorem But.of_drew {R : Nat → Prop} {w w' : World} (h : But R w.drew w') : But R w w' := ⟨h.os, h.tape, h.output, h.size, h.block⟩
theorem But.drewN {R : Nat → Prop} {w w' : World} (h : But R w w') (n : Nat) : But R w (w'.drewN n) := ⟨h.os, h.tape, h.output, h.size, h.block⟩
theorem But.alloc {R : Nat → Prop} {w w' : World} (h : But R w w') (o : Obj) : But R w (w'.alloc o) :=
  h.trans (But.of_below ((Below.refl _ _).alloc (Nat.le_refl _) o))
theorem But.setCell {R : Nat → Prop} {w w' : World} (h : But R w w') {p : Addr} (hp : R p.block ∨ w.heap.size ≤ p.block) (u : Value) : But R w (w'.setCell p u) :=
  ⟨h.os, h.tape, h.output, by simpa [World.setCell] using h.size, fun k hk hn => by
    rw [Below.heap_setCell _ _ _ _ (fun e => by subst e; rcases hp with hp | hp; exact hn hp; omega)]
    exact h.block k hk hn⟩
theorem But.setRow {R : Nat → Prop} {w w' : World} (h : But R w w') {g : Nat} (hp : R g ∨ w.heap.size ≤ g) (cs : Array Value) : But R w (w'.setRow g cs) :=
  ⟨h.os, h.tape, h.output, by simpa [World.setRow] using h.size, fun k hk hn => by
    rw [setRow_other w' g k cs (fun e => by subst e; rcases hp with hp | hp; exact hn hp; omega)]
    exact h.block k hk hn⟩
theorem below_drewN {B : Nat} {a w : World} (h : Below B a w) (n : Nat) : Below B a (w.drewN n) := ⟨h.os, h.tape, h.output, h.size, h.block⟩
theorem below_store {B bb : Nat} {a w w' : World} (h : Below B a w) (hb : But (OneBlock bb) w w') (hB : B ≤ w.heap.size) (hbb : B ≤ bb) : Below B a w' :=
  But.below h hb hB (fun k hk => by rw [show k = bb from hk]; exact hbb)
theorem below_next {B : Nat} {a w w' : World} (h : Below B a w) (hb : Below w.heap.size w w') (hB : B ≤ w.heap.size) : Below B a w' := h.trans (hb.mono hB)
theorem heap_lt {w : World} {k : Nat} {o : Obj} (h : w.heap[k]? = some o) : k < w.heap.size := by
  rcases Nat.lt_or_ge k w.heap.size with h' | h'
  · exact h'
  · rw [Array.getElem?_eq_none h'] at h
    cases h
theorem But.heap {R : Nat → Prop} {w w' : World} (h : But R w w') {k : Nat} {o : Obj} (hk : w.heap[k]? = some o) (hn : ¬ R k) : w'.heap[k]? = some o := by
  rw [h.block k (heap_lt hk) hn]; exact hk
theorem But.cell {R : Nat → Prop} {w w' : World} (h : But R w w') {p : Addr} (hk : p.block < w.heap.size) (hn : ¬ R p.block) : w'.cell? p = w.cell? p :=
  World.cell?_of_block (w := w) (h.block p.block hk hn)
theorem IsBytes.but {w w' : World} {B : Nat} {R : Nat → Prop} {X : Value} {xs : List Int} (h : IsBytes w B X xs) (hb : But R w w') (hB : B ≤ w.heap.size) (hr : ∀ k, k < B → ¬ R k) : IsBytes w' B X xs := by
  refine ⟨h.1, h.2.1, ?_⟩
  rcases h.2.2 with h0 | ⟨ad, cap, h1, h2, h3, h4⟩
  · exact .inl h0
  · refine .inr ⟨ad, cap, h1, h2, h3, fun i hi => ?_⟩
    have := h3 (by omega)
    have e : (ad.add i).block = ad.block := by unfold Addr.add; split <;> rfl
    rw [hb.cell (by omega) (by rw [e]; exact hr _ this)]
    exact h4 i hi
theorem Owns.but {w w' : World} {base : Nat} {R : Nat → Prop} {e : TypeId} {size : Nat} {K : Value → Prop} {v : Value} {n : Nat} {xs : List Value} (h : Owns w base e size K v n xs) (hb : But R w w') (hr : ∀ g, v.ownBlock = some g → ¬ R g) : Owns w' base e size K v n xs :=
  h.of_blocks (fun g hg => hb.block g (h.lt hg).2 (hr g hg)) hb.size

/-- A row of bytes: a block of c bytes, the first of which are xs. -/
def Row (t : TypeId) (w : World) (b c : Nat) (xs : List Int) : Prop :=
  ∃ cur : Array Value, w.heap[b]? = some (.cells cur t (0, 0)) ∧ cur.size = c ∧ cur.toList.take xs.length = xs.map (Value.int .u8) ∧ xs.length ≤ c
theorem Row.but {t : TypeId} {w w' : World} {b c : Nat} {xs : List Int} {R : Nat → Prop} (h : Row t w b c xs) (hb : But R w w') (hn : ¬ R b) : Row t w' b c xs := by
  obtain ⟨cur, h1, h2⟩ := h
  exact ⟨cur, hb.heap h1 hn, h2⟩
theorem Row.lt {t : TypeId} {w : World} {b c : Nat} {xs : List Int} (h : Row t w b c xs) : b < w.heap.size := by
  obtain ⟨cur, h1, _⟩ := h
  exact heap_lt h1
theorem Row.cell {t : TypeId} {w : World} {b c : Nat} {xs : List Int} (h : Row t w b c xs) {i : Nat} (hi : i < xs.length) : w.cell? ⟨b, i, none⟩ = some (.int .u8 (xs.getD i 0)) := by
  obtain ⟨cur, h1, h2, h3, h4⟩ := h
  have h5 : (xs.map (Value.int .u8))[i]? = some (.int .u8 (xs.getD i 0)) := by
    rw [List.getElem?_map, List.getElem?_eq_getElem hi]
    simp [List.getD, List.getElem?_eq_getElem hi]
  rw [← h3, List.getElem?_take, if_pos hi] at h5
  simp [World.cell?, h1]
  simpa using h5
theorem Row.free {t : TypeId} {w : World} {b c : Nat} {xs : List Int} (h : Row t w b c xs) (i : Nat) : w.frozen? ⟨b, i, none⟩ = false := by
  obtain ⟨cur, h1, h2, h3, h4⟩ := h
  exact frozen_of_row w b i cur _ h1
theorem Row.bytes {t : TypeId} {w : World} {b c : Nat} {xs : List Int} (h : Row t w b c xs) (hx : ∀ x ∈ xs, 0 ≤ x ∧ x < 256) {B : Nat} (hB : b < B) {a n cap : Nat} (ha : a + n ≤ xs.length) (hn : n ≤ cap) (hm : n ≤ maxLen) :
    IsBytes w B (.slice (some ⟨b, a, none⟩) n cap) ((xs.drop a).take n) := by
  have hl : ((xs.drop a).take n).length = n := by simp; omega
  refine ⟨fun x hx' => hx x (List.mem_of_mem_drop (List.mem_of_mem_take hx')), by omega, .inr ⟨⟨b, a, none⟩, cap, by rw [hl], by omega, fun _ => hB, fun i hi => ?_⟩⟩
  have e : (⟨b, a, none⟩ : Addr).add i = ⟨b, a + i, none⟩ := by unfold Addr.add; split <;> simp_all
  rw [hl] at hi
  rw [e, h.cell (by omega)]
  simp [List.getD, hi]
/-- A byte is laid. -/
theorem Row.set {t : TypeId} {w : World} {b c : Nat} {xs : List Int} (h : Row t w b c xs) {i : Nat} (hi : i < xs.length) (y : Int) : Row t (w.setCell ⟨b, i, none⟩ (.int .u8 y)) b c (xs.set i y) := by
  obtain ⟨cur, h1, h2, h3, h4⟩ := h
  refine ⟨cur.setIfInBounds i (.int .u8 y), heap_setCell_same w b i cur _ _ h1, by simpa using h2, ?_, by simpa using h4⟩
  rw [Array.toList_setIfInBounds, List.length_set, List.take_set, h3, List.map_set]
/-- Bytes are laid, one behind the other. -/
def layL (xs : List Int) (a : Nat) (ys : List Int) : List Int := xs.take a ++ (ys ++ xs.drop (a + ys.length))
theorem layL_len {xs : List Int} {a : Nat} {ys : List Int} (h : a + ys.length ≤ xs.length) : (layL xs a ys).length = xs.length := by simp [layL]; omega
theorem layL_bd {xs ys : List Int} (a : Nat) (hx : ∀ x ∈ xs, 0 ≤ x ∧ x < 256) (hy : ∀ x ∈ ys, 0 ≤ x ∧ x < 256) : ∀ x ∈ layL xs a ys, 0 ≤ x ∧ x < 256 := by
  intro x h
  simp only [layL, List.mem_append] at h
  rcases h with h | h | h
  · exact hx x (List.mem_of_mem_take h)
  · exact hy x h
  · exact hx x (List.mem_of_mem_drop h)
theorem layL_nil (xs : List Int) (a : Nat) : layL xs a [] = xs := by simp [layL]
theorem layL_snoc {xs ys : List Int} {a : Nat} (y : Int) (h : a + ys.length < xs.length) : layL xs a (ys ++ [y]) = (layL xs a ys).set (a + ys.length) y := by
  unfold layL
  have h1 : (xs.take a).length = a := by simp; omega
  rw [List.set_append_right _ _ (by omega), h1, List.set_append_right _ _ (by omega)]
  have e : a + ys.length - a - ys.length = 0 := by omega
  rw [e, List.drop_eq_getElem_cons h, List.set_cons_zero]
  simp [Nat.add_assoc]
theorem Row.lay {t : TypeId} {w : World} {b c : Nat} {xs ys : List Int} {a : Nat} (h : Row t w b c xs) (ha : a + ys.length ≤ xs.length) {cur : Array Value} (hc : w.heap[b]? = some (.cells cur t (0, 0))) :
    Row t (w.setRow b (cur.toList.take a ++ (ys.map (Value.int .u8) ++ cur.toList.drop (a + ys.length))).toArray) b c (layL xs a ys) := by
  obtain ⟨cur', h1, h2, h3, h4⟩ := h
  rw [hc] at h1
  injection h1 with h1
  injection h1 with h1 _ _
  subst h1
  refine ⟨_, setRow_heap w b cur _ t _ hc, by simp; omega, ?_, by rw [layL_len ha]; exact h4⟩
  have hl : cur.toList.length = c := by simpa using h2
  rw [layL_len ha]
  have hcur : cur.toList = xs.map (Value.int .u8) ++ cur.toList.drop xs.length := by rw [← h3, List.take_append_drop]
  generalize cur.toList.drop xs.length = sp at hcur
  rw [hcur]
  have hxl : (xs.map (Value.int .u8)).length = xs.length := by simp
  have e1 : (xs.map (Value.int .u8) ++ sp).take a = (xs.map (Value.int .u8)).take a := List.take_append_of_le_length (by rw [hxl]; omega)
  have e2 : (xs.map (Value.int .u8) ++ sp).drop (a + ys.length) = (xs.map (Value.int .u8)).drop (a + ys.length) ++ sp := List.drop_append_of_le_length (by rw [hxl]; omega)
  rw [e1, e2, ← List.append_assoc (ys.map (Value.int .u8)), ← List.append_assoc ((xs.map (Value.int .u8)).take a)]
  rw [List.take_append_of_le_length (by simp; omega), List.take_of_length_le (by simp; omega)]
  unfold layL
  simp
end Go.Proofs.YtnaceogkaiodnaaGreat

namespace Go.Proofs.YtnaceogkaiodnaaGreat
set_option linter.unusedVariables false

/-- The forms, and an operation's row. -/
inductive RvForm where
  | R | I | X | Y | S | B | U | J | E
  deriving DecidableEq
structure RvRow where
  name : String
  form : RvForm
  a : Nat
  b : Nat
  c : Nat
def rvRows : List RvRow := [
  ⟨ "lui", .U, 55, 0, 0⟩, ⟨ "auipc", .U, 23, 0, 0⟩, ⟨ "jal", .J, 111, 0, 0⟩, ⟨ "jalr", .I, 103, 0, 0⟩,
  ⟨ "beq", .B, 99, 0, 0⟩, ⟨ "bne", .B, 99, 1, 0⟩, ⟨ "blt", .B, 99, 4, 0⟩, ⟨ "bge", .B, 99, 5, 0⟩, ⟨ "bltu", .B, 99, 6, 0⟩, ⟨ "bgeu", .B, 99, 7, 0⟩,
  ⟨ "lb", .I, 3, 0, 0⟩, ⟨ "lh", .I, 3, 1, 0⟩, ⟨ "lw", .I, 3, 2, 0⟩, ⟨ "ld", .I, 3, 3, 0⟩, ⟨ "lbu", .I, 3, 4, 0⟩, ⟨ "lhu", .I, 3, 5, 0⟩, ⟨ "lwu", .I, 3, 6, 0⟩,
  ⟨ "sb", .S, 35, 0, 0⟩, ⟨ "sh", .S, 35, 1, 0⟩, ⟨ "sw", .S, 35, 2, 0⟩, ⟨ "sd", .S, 35, 3, 0⟩,
  ⟨ "addi", .I, 19, 0, 0⟩, ⟨ "slti", .I, 19, 2, 0⟩, ⟨ "sltiu", .I, 19, 3, 0⟩, ⟨ "xori", .I, 19, 4, 0⟩, ⟨ "ori", .I, 19, 6, 0⟩, ⟨ "andi", .I, 19, 7, 0⟩,
  ⟨ "slli", .X, 19, 1, 0⟩, ⟨ "srli", .X, 19, 5, 0⟩, ⟨ "srai", .X, 19, 5, 16⟩,
  ⟨ "addiw", .I, 27, 0, 0⟩, ⟨ "slliw", .Y, 27, 1, 0⟩, ⟨ "srliw", .Y, 27, 5, 0⟩, ⟨ "sraiw", .Y, 27, 5, 32⟩,
  ⟨ "add", .R, 51, 0, 0⟩, ⟨ "sub", .R, 51, 0, 32⟩, ⟨ "sll", .R, 51, 1, 0⟩, ⟨ "slt", .R, 51, 2, 0⟩, ⟨ "sltu", .R, 51, 3, 0⟩, ⟨ "xor", .R, 51, 4, 0⟩, ⟨ "srl", .R, 51, 5, 0⟩, ⟨ "sra", .R, 51, 5, 32⟩, ⟨ "or", .R, 51, 6, 0⟩, ⟨ "and", .R, 51, 7, 0⟩,
  ⟨ "addw", .R, 59, 0, 0⟩, ⟨ "subw", .R, 59, 0, 32⟩, ⟨ "sllw", .R, 59, 1, 0⟩, ⟨ "srlw", .R, 59, 5, 0⟩, ⟨ "sraw", .R, 59, 5, 32⟩,
  ⟨ "mul", .R, 51, 0, 1⟩, ⟨ "mulh", .R, 51, 1, 1⟩, ⟨ "mulhsu", .R, 51, 2, 1⟩, ⟨ "mulhu", .R, 51, 3, 1⟩, ⟨ "div", .R, 51, 4, 1⟩, ⟨ "divu", .R, 51, 5, 1⟩, ⟨ "rem", .R, 51, 6, 1⟩, ⟨ "remu", .R, 51, 7, 1⟩,
  ⟨ "mulw", .R, 59, 0, 1⟩, ⟨ "divw", .R, 59, 4, 1⟩, ⟨ "divuw", .R, 59, 5, 1⟩, ⟨ "remw", .R, 59, 6, 1⟩, ⟨ "remuw", .R, 59, 7, 1⟩,
  ⟨ "ecall", .E, 115, 0, 0⟩]
def rvRow0 : RvRow := ⟨ "", .E, 0, 0, 0⟩
def rvRowN (n : Nat) : RvRow := rvRows.getD (n - 1) rvRow0
theorem rvRows_len : rvRows.length = 63 := by decide

/-- An instruction, in plain numbers. -/
structure RvV where
  op : Int
  rd : Int
  rs1 : Int
  rs2 : Int
  imm : Int
  deriving DecidableEq
def RvForm.hasRd : RvForm → Bool
  | .R | .I | .X | .Y | .U | .J => true
  | _ => false
def RvForm.has1 : RvForm → Bool
  | .R | .I | .X | .Y | .S | .B => true
  | _ => false
def RvForm.has2 : RvForm → Bool
  | .R | .S | .B => true
  | _ => false
def RvForm.hasB : RvForm → Bool
  | .U | .J | .E => false
  | _ => true
/-- The width of c, 0 where there is none: how many bits. -/
def RvForm.hasC : RvForm → Bool
  | .R | .X | .Y => true
  | _ => false
def regOk (n : Int) (has : Bool) : Prop := if has = true then 0 ≤ n ∧ n ≤ 31 else n = 0
def immOk (f : RvForm) (n : Int) : Prop :=
  match f with
  | .I | .S => -2048 ≤ n ∧ n ≤ 2047
  | .X => 0 ≤ n ∧ n ≤ 63
  | .Y => 0 ≤ n ∧ n ≤ 31
  | .B => -4096 ≤ n ∧ n ≤ 4094 ∧ n % 2 = 0
  | .U => -524288 ≤ n ∧ n ≤ 524287
  | .J => -1048576 ≤ n ∧ n ≤ 1048574 ∧ n % 2 = 0
  | _ => n = 0
/-- May an instruction be? -/
structure RvV.ok (x : RvV) : Prop where
  op : 1 ≤ x.op ∧ x.op ≤ 63
  rd : regOk x.rd (rvRowN x.op.toNat).form.hasRd
  rs1 : regOk x.rs1 (rvRowN x.op.toNat).form.has1
  rs2 : regOk x.rs2 (rvRowN x.op.toNat).form.has2
  imm : immOk (rvRowN x.op.toNat).form x.imm
/-- The bits of an immediate in a word. -/
def immV (f : RvForm) (n : Int) : Int :=
  match f with
  | .I => n % 4096 * 1048576
  | .X => n % 64 * 1048576
  | .Y => n % 32 * 1048576
  | .S => n % 32 * 128 + n / 32 % 128 * 33554432
  | .B => n / 2048 % 2 * 128 + n / 2 % 16 * 256 + n / 32 % 64 * 33554432 + n / 4096 % 2 * 2147483648
  | .U => n % 1048576 * 4096
  | .J => n / 4096 % 256 * 4096 + n / 2048 % 2 * 1048576 + n / 2 % 1024 * 2097152 + n / 1048576 % 2 * 2147483648
  | _ => 0
/-- How many numbers b, and c, may be, and where c stands. -/
def RvForm.bLim : RvForm → Nat
  | .U | .J | .E => 1
  | _ => 8
def RvForm.cLim : RvForm → Nat
  | .X => 64
  | .R | .Y => 128
  | _ => 1
def RvForm.cAt : RvForm → Int
  | .X => 67108864
  | _ => 33554432
def encR (r : RvRow) (rd rs1 rs2 imm : Int) : Int := (r.a : Int) + immV r.form imm + rd * 128 + rs1 * 32768 + rs2 * 1048576 + (r.b : Int) * 4096 + (r.c : Int) * r.form.cAt
/-- Which word an instruction is. -/
def encV (x : RvV) : Int := encR (rvRowN x.op.toNat) x.rd x.rs1 x.rs2 x.imm
def signedV (n half : Int) : Int := if half ≤ n then n - 2 * half else n
/-- The immediate that is read of a word. -/
def toldV (f : RvForm) (w : Int) : Int :=
  match f with
  | .I => signedV (w / 1048576 % 4096) 2048
  | .X => w / 1048576 % 64
  | .Y => w / 1048576 % 32
  | .S => signedV (w / 128 % 32 + w / 33554432 % 128 * 32) 2048
  | .B => signedV (w / 256 % 16 * 2 + w / 33554432 % 64 * 32 + w / 128 % 2 * 2048 + w / 2147483648 % 2 * 4096) 4096
  | .U => signedV (w / 4096 % 1048576) 524288
  | .J => signedV (w / 2097152 % 1024 * 2 + w / 1048576 % 2 * 2048 + w / 4096 % 256 * 4096 + w / 2147483648 % 2 * 1048576) 1048576
  | _ => 0
def readsR (f : RvForm) (op w : Int) : RvV :=
  ⟨op, if f.hasRd = true then w / 128 % 32 else 0, if f.has1 = true then w / 32768 % 32 else 0, if f.has2 = true then w / 1048576 % 32 else 0, toldV f w⟩
def readsV (op w : Int) : RvV := readsR (rvRowN op.toNat).form op w

/-- A row's numbers fit their fields. -/
def RvRow.fits (r : RvRow) : Bool := decide (r.a < 128) && decide (r.b < r.form.bLim) && decide (r.c < r.form.cLim)
theorem rvRows_fit : ∀ r ∈ rvRows, r.fits = true := by decide
theorem rvRowN_mem {n : Nat} (h : 1 ≤ n) (h' : n ≤ 63) : rvRowN n ∈ rvRows := by
  unfold rvRowN
  have hl : n - 1 < rvRows.length := by rw [rvRows_len]; omega
  rw [List.getD_eq_getElem?_getD, List.getElem?_eq_getElem hl]
  exact List.getElem_mem _
theorem row_fits {op : Int} (h : 1 ≤ op ∧ op ≤ 63) : (rvRowN op.toNat).fits = true := rvRows_fit _ (rvRowN_mem (by omega) (by omega))

theorem cut_at {w P Q k : Int} (low hi : Int) (h : w = low + P * (k + Q * hi)) (hl : 0 ≤ low ∧ low < P) (hk : 0 ≤ k ∧ k < Q) : w / P % Q = k := by
  have hp : P ≠ 0 := by omega
  rw [h, Int.add_mul_ediv_left _ _ hp, Int.ediv_eq_zero_of_lt hl.1 hl.2, Int.zero_add, Int.add_mul_emod_self_left, Int.emod_eq_of_lt hk.1 hk.2]
set_option linter.unusedSimpArgs false in
theorem read_back (f : RvForm) (n a rd b rs1 rs2 c : Int) (h : immOk f n) (ha : 0 ≤ a ∧ a < 128) (hb : 0 ≤ b ∧ b < f.bLim) (hc : 0 ≤ c ∧ c < f.cLim)
    (hrd : regOk rd f.hasRd) (h1 : regOk rs1 f.has1) (h2 : regOk rs2 f.has2)
    (w : Int) (hw : w = a + immV f n + rd * 128 + rs1 * 32768 + rs2 * 1048576 + b * 4096 + c * f.cAt) :
    toldV f w = n ∧ w % 128 = a ∧ (if f.hasRd = true then w / 128 % 32 else 0) = rd ∧ (if f.has1 = true then w / 32768 % 32 else 0) = rs1 ∧ (if f.has2 = true then w / 1048576 % 32 else 0) = rs2 ∧ (f.hasB = true → w / 4096 % 8 = b) ∧ (f.hasC = true → w / f.cAt % f.cLim = c) ∧ 0 ≤ w ∧ w < 4294967296 := by
  cases f
  case R =>
    simp only [immOk, regOk, RvForm.hasRd, RvForm.has1, RvForm.has2, RvForm.hasB, RvForm.hasC, RvForm.bLim, RvForm.cLim, RvForm.cAt, immV, toldV, signedV, if_true, Bool.false_eq_true, if_false] at *
    subst hw h
    refine ⟨?_, ?_, ?_, ?_, ?_, ?_, ?_, ?_, ?_⟩ <;> omega
  case I =>
    simp only [immOk, regOk, RvForm.hasRd, RvForm.has1, RvForm.has2, RvForm.hasB, RvForm.hasC, RvForm.bLim, RvForm.cLim, RvForm.cAt, immV, toldV, signedV, if_true, Bool.false_eq_true, if_false] at *
    have hm : 0 ≤ n % 4096 ∧ n % 4096 < 4096 := by omega
    have hn : n = n % 4096 ∧ n % 4096 < 2048 ∨ n = n % 4096 - 4096 ∧ 2048 ≤ n % 4096 := by omega
    generalize n % 4096 = m at hw hm hn
    have e : w / 1048576 % 4096 = m := by omega
    rw [e]
    refine ⟨by split <;> omega, ?_, ?_, ?_, ?_, ?_, ?_, ?_, ?_⟩ <;> omega
  case X =>
    simp only [immOk, regOk, RvForm.hasRd, RvForm.has1, RvForm.has2, RvForm.hasB, RvForm.hasC, RvForm.bLim, RvForm.cLim, RvForm.cAt, immV, toldV, signedV, if_true, Bool.false_eq_true, if_false] at *
    have hm : n % 64 = n := by omega
    rw [hm] at hw
    refine ⟨?_, ?_, ?_, ?_, ?_, ?_, ?_, ?_, ?_⟩ <;> omega
  case Y =>
    simp only [immOk, regOk, RvForm.hasRd, RvForm.has1, RvForm.has2, RvForm.hasB, RvForm.hasC, RvForm.bLim, RvForm.cLim, RvForm.cAt, immV, toldV, signedV, if_true, Bool.false_eq_true, if_false] at *
    have hm : n % 32 = n := by omega
    rw [hm] at hw
    refine ⟨?_, ?_, ?_, ?_, ?_, ?_, ?_, ?_, ?_⟩ <;> omega
  case S =>
    simp only [immOk, regOk, RvForm.hasRd, RvForm.has1, RvForm.has2, RvForm.hasB, RvForm.hasC, RvForm.bLim, RvForm.cLim, RvForm.cAt, immV, toldV, signedV, if_true, Bool.false_eq_true, if_false] at *
    have hm : 0 ≤ n % 32 ∧ n % 32 < 32 := by omega
    have hk : 0 ≤ n / 32 % 128 ∧ n / 32 % 128 < 128 := by omega
    have hn : n = n % 32 + n / 32 % 128 * 32 ∧ n / 32 % 128 < 64 ∨ n = n % 32 + n / 32 % 128 * 32 - 4096 ∧ 64 ≤ n / 32 % 128 := by omega
    generalize n % 32 = m at hw hm hn
    generalize n / 32 % 128 = k at hw hk hn
    have e1 : w / 128 % 32 = m := by omega
    have e2 : w / 33554432 % 128 = k := by omega
    rw [e1, e2]
    refine ⟨by split <;> omega, ?_, ?_, ?_, ?_, ?_, ?_, ?_, ?_⟩ <;> omega
  case B =>
    simp only [immOk, regOk, RvForm.hasRd, RvForm.has1, RvForm.has2, RvForm.hasB, RvForm.hasC, RvForm.bLim, RvForm.cLim, RvForm.cAt, immV, toldV, signedV, if_true, Bool.false_eq_true, if_false] at *
    have g1 : 0 ≤ n / 2 % 16 ∧ n / 2 % 16 < 16 := by omega
    have g2 : 0 ≤ n / 32 % 64 ∧ n / 32 % 64 < 64 := by omega
    have g3 : 0 ≤ n / 2048 % 2 ∧ n / 2048 % 2 < 2 := by omega
    have g4 : 0 ≤ n / 4096 % 2 ∧ n / 4096 % 2 < 2 := by omega
    have hn : n = n / 2 % 16 * 2 + n / 32 % 64 * 32 + n / 2048 % 2 * 2048 - n / 4096 % 2 * 4096 := by omega
    generalize n / 2 % 16 = k1 at hw hn g1
    generalize n / 32 % 64 = k2 at hw hn g2
    generalize n / 2048 % 2 = k3 at hw hn g3
    generalize n / 4096 % 2 = k4 at hw hn g4
    have e1 : w / 256 % 16 = k1 := cut_at (a * 1 + k3 * 128) (b * 1 + rs1 * 8 + rs2 * 256 + k2 * 8192 + k4 * 524288) (by omega) (by omega) (by omega)
    have e2 : w / 33554432 % 64 = k2 := cut_at (a * 1 + k3 * 128 + k1 * 256 + b * 4096 + rs1 * 32768 + rs2 * 1048576) (k4 * 1) (by omega) (by omega) (by omega)
    have e3 : w / 128 % 2 = k3 := cut_at (a * 1) (k1 * 1 + b * 16 + rs1 * 128 + rs2 * 4096 + k2 * 131072 + k4 * 8388608) (by omega) (by omega) (by omega)
    have e4 : w / 2147483648 % 2 = k4 := cut_at (a * 1 + k3 * 128 + k1 * 256 + b * 4096 + rs1 * 32768 + rs2 * 1048576 + k2 * 33554432) (0) (by omega) (by omega) (by omega)
    have e5 : w / 1 % 128 = a := cut_at 0 (k3 * 1 + k1 * 2 + b * 32 + rs1 * 256 + rs2 * 8192 + k2 * 262144 + k4 * 16777216) (by omega) (by omega) (by omega)
    have e6 : w / 4096 % 8 = b := cut_at (a * 1 + k3 * 128 + k1 * 256) (rs1 * 1 + rs2 * 32 + k2 * 1024 + k4 * 65536) (by omega) (by omega) (by omega)
    have e7 : w / 32768 % 32 = rs1 := cut_at (a * 1 + k3 * 128 + k1 * 256 + b * 4096) (rs2 * 1 + k2 * 32 + k4 * 2048) (by omega) (by omega) (by omega)
    have e8 : w / 1048576 % 32 = rs2 := cut_at (a * 1 + k3 * 128 + k1 * 256 + b * 4096 + rs1 * 32768) (k2 * 1 + k4 * 64) (by omega) (by omega) (by omega)
    rw [e1, e2, e3, e4, e6, e7, e8]
    rw [Int.ediv_one] at e5
    refine ⟨?_, e5, hrd.symm, rfl, rfl, fun _ => rfl, fun h => absurd h (by decide), by omega, by omega⟩
    clear e1 e2 e3 e4 e5 e6 e7 e8 hw
    split <;> omega
  case U =>
    simp only [immOk, regOk, RvForm.hasRd, RvForm.has1, RvForm.has2, RvForm.hasB, RvForm.hasC, RvForm.bLim, RvForm.cLim, RvForm.cAt, immV, toldV, signedV, if_true, Bool.false_eq_true, if_false] at *
    have hm : 0 ≤ n % 1048576 ∧ n % 1048576 < 1048576 := by omega
    have hn : n = n % 1048576 ∧ n % 1048576 < 524288 ∨ n = n % 1048576 - 1048576 ∧ 524288 ≤ n % 1048576 := by omega
    generalize n % 1048576 = m at hw hm hn
    have e : w / 4096 % 1048576 = m := by omega
    rw [e]
    refine ⟨by split <;> omega, by omega, by omega, by omega, by omega, fun h => absurd h (by decide), fun h => absurd h (by decide), by omega, by omega⟩
  case J =>
    simp only [immOk, regOk, RvForm.hasRd, RvForm.has1, RvForm.has2, RvForm.hasB, RvForm.hasC, RvForm.bLim, RvForm.cLim, RvForm.cAt, immV, toldV, signedV, if_true, Bool.false_eq_true, if_false] at *
    have g1 : 0 ≤ n / 2 % 1024 ∧ n / 2 % 1024 < 1024 := by omega
    have g2 : 0 ≤ n / 2048 % 2 ∧ n / 2048 % 2 < 2 := by omega
    have g3 : 0 ≤ n / 4096 % 256 ∧ n / 4096 % 256 < 256 := by omega
    have g4 : 0 ≤ n / 1048576 % 2 ∧ n / 1048576 % 2 < 2 := by omega
    have hn : n = n / 2 % 1024 * 2 + n / 2048 % 2 * 2048 + n / 4096 % 256 * 4096 - n / 1048576 % 2 * 1048576 := by omega
    generalize n / 2 % 1024 = k1 at hw hn g1
    generalize n / 2048 % 2 = k2 at hw hn g2
    generalize n / 4096 % 256 = k3 at hw hn g3
    generalize n / 1048576 % 2 = k4 at hw hn g4
    have e1 : w / 2097152 % 1024 = k1 := cut_at (a * 1 + rd * 128 + k3 * 4096 + k2 * 1048576) (k4 * 1) (by omega) (by omega) (by omega)
    have e2 : w / 1048576 % 2 = k2 := cut_at (a * 1 + rd * 128 + k3 * 4096) (k1 * 1 + k4 * 1024) (by omega) (by omega) (by omega)
    have e3 : w / 4096 % 256 = k3 := cut_at (a * 1 + rd * 128) (k2 * 1 + k1 * 2 + k4 * 2048) (by omega) (by omega) (by omega)
    have e4 : w / 2147483648 % 2 = k4 := cut_at (a * 1 + rd * 128 + k3 * 4096 + k2 * 1048576 + k1 * 2097152) (0) (by omega) (by omega) (by omega)
    have e5 : w / 1 % 128 = a := cut_at 0 (rd * 1 + k3 * 32 + k2 * 8192 + k1 * 16384 + k4 * 16777216) (by omega) (by omega) (by omega)
    have e6 : w / 128 % 32 = rd := cut_at (a * 1) (k3 * 1 + k2 * 256 + k1 * 512 + k4 * 524288) (by omega) (by omega) (by omega)
    rw [e1, e2, e3, e4, e6]
    rw [Int.ediv_one] at e5
    refine ⟨?_, e5, rfl, h1.symm, h2.symm, fun h => absurd h (by decide), fun h => absurd h (by decide), by omega, by omega⟩
    clear e1 e2 e3 e4 e5 e6 hw
    split <;> omega
  case E =>
    simp only [immOk, regOk, RvForm.hasRd, RvForm.has1, RvForm.has2, RvForm.hasB, RvForm.hasC, RvForm.bLim, RvForm.cLim, RvForm.cAt, immV, toldV, signedV, if_true, Bool.false_eq_true, if_false] at *
    refine ⟨?_, ?_, ?_, ?_, ?_, ?_, ?_, ?_, ?_⟩ <;> omega
/-- What is known of an instruction's word. -/
theorem enc_facts {x : RvV} (h : x.ok) : readsV x.op (encV x) = x ∧ encV x % 128 = ((rvRowN x.op.toNat).a : Int) ∧ ((rvRowN x.op.toNat).form.hasB = true → encV x / 4096 % 8 = ((rvRowN x.op.toNat).b : Int)) ∧
    ((rvRowN x.op.toNat).form.hasC = true → encV x / (rvRowN x.op.toNat).form.cAt % (rvRowN x.op.toNat).form.cLim = ((rvRowN x.op.toNat).c : Int)) ∧ 0 ≤ encV x ∧ encV x < 4294967296 := by
  have hf := row_fits h.op
  unfold RvRow.fits at hf
  simp only [Bool.and_eq_true, decide_eq_true_eq] at hf
  obtain ⟨r1, r2, r3, r4, r5, r6, r7, r8, r9⟩ := read_back (rvRowN x.op.toNat).form x.imm (rvRowN x.op.toNat).a x.rd (rvRowN x.op.toNat).b x.rs1 x.rs2 (rvRowN x.op.toNat).c h.imm (by omega) (by omega) (by omega) h.rd h.rs1 h.rs2 (encV x) rfl
  refine ⟨?_, r2, r6, r7, r8, r9⟩
  unfold readsV readsR
  rw [r1, r3, r4, r5]
/-- Could a word be of both operations? -/
def rvMeet (r q : RvRow) : Bool := r.a == q.a && (!(r.form.hasB && q.form.hasB) || r.b == q.b) && (!(r.form.hasC && q.form.hasC && r.form.cAt == q.form.cAt && r.form.cLim == q.form.cLim) || r.c == q.c)
theorem rvMeet_one : ∀ i j : Fin 63, rvMeet (rvRowN (i + 1)) (rvRowN (j + 1)) = true → i = j := by decide +kernel
theorem enc_meet {x y : RvV} (hx : x.ok) (hy : y.ok) (h : encV x = encV y) : rvMeet (rvRowN x.op.toNat) (rvRowN y.op.toNat) = true := by
  obtain ⟨_, a1, b1, c1, _, _⟩ := enc_facts hx
  obtain ⟨_, a2, b2, c2, _, _⟩ := enc_facts hy
  rw [← h] at a2 b2 c2
  generalize rvRowN x.op.toNat = r at *
  generalize rvRowN y.op.toNat = q at *
  generalize encV x = w at *
  have ha : r.a = q.a := by omega
  have hb : r.form.hasB = true → q.form.hasB = true → r.b = q.b := fun h1 h2 => by
    have := b1 h1
    have := b2 h2
    omega
  have hc : r.form.hasC = true → q.form.hasC = true → r.form.cAt = q.form.cAt → r.form.cLim = q.form.cLim → r.c = q.c := fun h1 h2 h3 h4 => by
    have e1 := c1 h1
    have e2 := c2 h2
    rw [← h3, ← h4] at e2
    omega
  unfold rvMeet
  rw [Bool.and_eq_true, Bool.and_eq_true]
  refine ⟨⟨by simpa using ha, ?_⟩, ?_⟩
  · cases g1 : r.form.hasB <;> cases g2 : q.form.hasB <;> simp
    exact hb g1 g2
  · cases g1 : r.form.hasC <;> cases g2 : q.form.hasC <;> simp
    by_cases g3 : r.form.cAt = q.form.cAt
    · by_cases g4 : r.form.cLim = q.form.cLim
      · exact .inr (hc g1 g2 g3 g4)
      · exact .inl (.inr g4)
    · exact .inl (.inl g3)
/-- Each instruction has a word of its own. -/
theorem enc_inj {x y : RvV} (hx : x.ok) (hy : y.ok) (h : encV x = encV y) : x = y := by
  have hm := enc_meet hx hy h
  have o1 := hx.op
  have o2 := hy.op
  have e := rvMeet_one ⟨x.op.toNat - 1, by omega⟩ ⟨y.op.toNat - 1, by omega⟩ (by
    show rvMeet (rvRowN (x.op.toNat - 1 + 1)) (rvRowN (y.op.toNat - 1 + 1)) = true
    rw [show x.op.toNat - 1 + 1 = x.op.toNat by omega, show y.op.toNat - 1 + 1 = y.op.toNat by omega]
    exact hm)
  have e2 : x.op.toNat - 1 = y.op.toNat - 1 := congrArg Fin.val e
  have e3 : x.op = y.op := by omega
  rw [← (enc_facts hx).1, ← (enc_facts hy).1, h, e3]
/-- An instruction that a word is, or none. -/
def IsWord (x : RvV) (w : Int) : Prop := x.ok ∧ encV x = w
theorem isWord_one {x y : RvV} {w : Int} (hx : IsWord x w) (hy : IsWord y w) : x = y := enc_inj hx.1 hy.1 (hx.2.trans hy.2.symm)
open Classical in
noncomputable def decV (w : Int) : Option RvV := if h : ∃ x, IsWord x w then some h.choose else none
theorem decV_some {x : RvV} {w : Int} (h : IsWord x w) : decV w = some x := by
  have he : ∃ x, IsWord x w := ⟨x, h⟩
  unfold decV
  rw [dif_pos he]
  exact congrArg some (isWord_one he.choose_spec h)
theorem decV_none {w : Int} (h : ∀ x, ¬ IsWord x w) : decV w = none := by
  unfold decV
  rw [dif_neg fun ⟨x, hx⟩ => h x hx]
/-- A word's instruction is found at its operation: there its low bits are the row's, and what is read is it. -/
theorem isWord_at {x : RvV} {w : Int} (h : IsWord x w) : 1 ≤ x.op ∧ x.op ≤ 63 ∧ w % 128 = ((rvRowN x.op.toNat).a : Int) ∧ readsV x.op w = x := by
  obtain ⟨hx, rfl⟩ := h
  exact ⟨hx.op.1, hx.op.2, (enc_facts hx).2.1, (enc_facts hx).1⟩
#print axioms decV_some
end Go.Proofs.YtnaceogkaiodnaaGreat

namespace Go.Proofs.YtnaceogkaiodnaaGreat
open Go.RowKit
set_option linter.unusedVariables false

/-- A memory: a block that leads to itself and to its bytes, and the block of its bytes. -/
structure MemAt (w : World) (mb bb c : Nat) (xs : List Int) : Prop where
  head : w.heap[mb]? = some (.cells #[.pointer (some ⟨mb, 0, none⟩), .slice (some ⟨bb, 0, none⟩) xs.length c] 105 (0, 0))
  row : Row 5 w bb c xs
  bd : ∀ x ∈ xs, 0 ≤ x ∧ x < 256
  lo : 16 ≤ xs.length
  hi : xs.length ≤ 65536
  cap : c ≤ maxLen
theorem MemAt.ne {w : World} {mb bb c : Nat} {xs : List Int} (h : MemAt w mb bb c xs) : mb ≠ bb := by
  intro e
  subst e
  obtain ⟨cur, h1, _⟩ := h.row
  rw [h.head] at h1
  injection h1 with h1
  injection h1 with _ h1 _
  exact absurd h1 (by decide)
theorem MemAt.cell0 {w : World} {mb bb c : Nat} {xs : List Int} (h : MemAt w mb bb c xs) : w.cell? ⟨mb, 0, none⟩ = some (.pointer (some ⟨mb, 0, none⟩)) := by
  rw [cell_of_row w mb 0 _ _ _ h.head]; rfl
theorem MemAt.cell1 {w : World} {mb bb c : Nat} {xs : List Int} (h : MemAt w mb bb c xs) : w.cell? ⟨mb, 1, none⟩ = some (.slice (some ⟨bb, 0, none⟩) xs.length c) := by
  rw [cell_of_row w mb 1 _ _ _ h.head]; rfl
theorem MemAt.but {w w' : World} {mb bb c : Nat} {xs : List Int} {R : Nat → Prop} (h : MemAt w mb bb c xs) (hb : But R w w') (h1 : ¬ R mb) (h2 : ¬ R bb) : MemAt w' mb bb c xs :=
  ⟨hb.heap h.head h1, h.row.but hb h2, h.bd, h.lo, h.hi, h.cap⟩
theorem MemAt.lt {w : World} {mb bb c : Nat} {xs : List Int} (h : MemAt w mb bb c xs) : mb < w.heap.size ∧ bb < w.heap.size := ⟨heap_lt h.head, h.row.lt⟩
theorem MemAt.alloc {w : World} {mb bb c : Nat} {xs : List Int} (h : MemAt w mb bb c xs) (o : Obj) : MemAt (w.alloc o) mb bb c xs := h.but ((But.refl NoBlock _).alloc _) (noBlock_not _) (noBlock_not _)
theorem MemAt.below {w w' : World} {mb bb c : Nat} {xs : List Int} (h : MemAt w mb bb c xs) (hb : Below w.heap.size w w') : MemAt w' mb bb c xs := h.but (But.of_below (R := NoBlock) hb) (noBlock_not _) (noBlock_not _)
/-- No memory: nil, or one that nobody made. -/
def NoMem (w : World) (p : Value) : Prop := p = .pointer none ∨ ∃ b, p = .pointer (some ⟨b, 0, none⟩) ∧ w.cell? ⟨b, 0, none⟩ = some (.pointer none)

/-- What is wrong with an access to bytes, to a number. -/
def accE (size at' n : Int) : Int := if n < 0 then 2 else if at' < 16 ∨ size < at' ∨ size - at' < n then 15 else 0
def numE (size at' n : Int) : Int := if sizedB n = true then accE size at' n else 2
theorem accE_ok {size at' n : Int} (h0 : 0 ≤ n) (h1 : 16 ≤ at') (h2 : at' ≤ size) (h3 : n ≤ size - at') : accE size at' n = 0 := by unfold accE; rw [if_neg (by omega), if_neg (by omega)]
theorem accE_zero {size at' n : Int} (h : accE size at' n = 0) : 0 ≤ n ∧ 16 ≤ at' ∧ at' ≤ size ∧ n ≤ size - at' := by
  unfold accE at h
  split at h
  · omega
  · split at h <;> omega
theorem numE_zero {size at' n : Int} (h : numE size at' n = 0) : sizedB n = true ∧ 0 ≤ n ∧ 16 ≤ at' ∧ at' ≤ size ∧ n ≤ size - at' := by
  unfold numE at h
  split at h
  · exact ⟨by assumption, accE_zero h⟩
  · omega

theorem mem_info : ∃ j, Tryz.prog.info? 105 = some j := Option.isSome_iff_exists.1 (by kernel_rfl)
theorem eql_self (a : Addr) (w : World) : (binOp .eql 36 (.pointer (some a)) (.pointer (some a))).run Tryz.prog w = .ok (.bool true) w := by
  obtain ⟨j, hj⟩ := mem_info
  exact run_eql_ptr_same w a Tryz.underlying36 hj
theorem eql_nil_some (a : Addr) (w : World) : (binOp .eql 36 (.pointer none) (.pointer (some a))).run Tryz.prog w = .ok (.bool false) w := by
  have h : ∀ d : Nat, (Op.equalIn (d + 1) 36 (.pointer none) (.pointer (some a))).run Tryz.prog w = .ok false w := fun d => by
    simp [Op.equalIn, run_underlying Tryz.underlying36]
  simp only [binOp]
  simp [Op.equal, Op.maxDepth, h 9999]

theorem valid_yes {mb bb c : Nat} {xs : List Int} {w : World} (h : MemAt w mb bb c xs) :
    Calls Tryz.prog 56 #[.pointer (some ⟨mb, 0, none⟩)] w fun e w' => e = .returned (.bool true) ∧ w = w' := by
  have h0 := h.cell0
  have he := eql_self
  clear h
  go_enter Tryz.func56, Tryz.ntmps56
  go_wp2
  go_ret
  exact ⟨rfl, rfl⟩
theorem valid_no {p : Value} {w : World} (h : NoMem w p) :
    Calls Tryz.prog 56 #[p] w fun e w' => e = .returned (.bool false) ∧ w = w' := by
  rcases h with rfl | ⟨b, rfl, h⟩
  · go_enter Tryz.func56, Tryz.ntmps56
    go_wp2
    go_ret
    exact ⟨rfl, rfl⟩
  · have he := eql_nil_some
    go_enter Tryz.func56, Tryz.ntmps56
    go_wp2
    go_ret
    exact ⟨rfl, rfl⟩
theorem size_yes {mb bb c : Nat} {xs : List Int} {w : World} (h : MemAt w mb bb c xs) :
    Calls Tryz.prog 61 #[.pointer (some ⟨mb, 0, none⟩)] w fun e w' => e = .returned (.int .i64 xs.length) ∧ w = w' := by
  have hv := Lib.hid (valid_yes h)
  have h0 := h.cell1
  clear h
  go_enter Tryz.func61, Tryz.ntmps61
  go_wp2_with (go_at_call 56; (with_reducible refine hv.out.mono ?_); rintro e w' ⟨rfl, rfl⟩)
  go_ret
  exact ⟨rfl, rfl⟩
theorem size_no {p : Value} {w : World} (h : NoMem w p) :
    Calls Tryz.prog 61 #[p] w fun e w' => e = .returned (.int .i64 0) ∧ w = w' := by
  have hv := Lib.hid (valid_no h)
  clear h
  go_enter Tryz.func61, Tryz.ntmps61
  go_wp2_with (go_at_call 56; (with_reducible refine hv.out.mono ?_); rintro e w' ⟨rfl, rfl⟩)
  go_ret
  exact ⟨rfl, rfl⟩

theorem checkBytes_any {mb bb c : Nat} {xs : List Int} {w : World} (h : MemAt w mb bb c xs) (a n : Int) (ha : 0 ≤ a) (ha' : a < 18446744073709551616) (hn' : n < 9223372036854775808) :
    Calls Tryz.prog 54 #[.pointer (some ⟨mb, 0, none⟩), .int .u64 a, .int .i64 n] w fun e w' => e = .returned (.int .i64 (accE xs.length a n)) ∧ w = w' := by
  have h1 := h.cell1
  have hl := h.hi
  obtain ⟨L, hL⟩ : ∃ L, L = xs.length := ⟨_, rfl⟩
  rw [← hL] at h1 hl ⊢
  clear h hL
  by_cases c1 : n < 0
  · rw [show accE L a n = 2 by unfold accE; rw [if_pos c1]]
    go_enter Tryz.func54, Tryz.ntmps54
    go_wp2
    go_ret
    exact ⟨rfl, rfl⟩
  have c1' : 0 ≤ n := by omega
  by_cases c2 : a < 16
  · rw [show accE L a n = 15 by unfold accE; rw [if_neg c1, if_pos (by omega)]]
    clear c1
    go_enter Tryz.func54, Tryz.ntmps54
    go_wp2
    go_ret
    exact ⟨rfl, rfl⟩
  by_cases c3 : (L : Int) < a
  · rw [show accE L a n = 15 by unfold accE; rw [if_neg c1, if_pos (by omega)]]
    have c2' : 16 ≤ a := by omega
    clear c1 c2
    go_enter Tryz.func54, Tryz.ntmps54
    go_wp2
    go_ret
    exact ⟨rfl, rfl⟩
  have c2' : 16 ≤ a := by omega
  have c3' : a ≤ (L : Int) := by omega
  by_cases c4 : (L : Int) - a < n
  · rw [show accE L a n = 15 by unfold accE; rw [if_neg c1, if_pos (by omega)]]
    clear c1 c2 c3
    go_enter Tryz.func54, Tryz.ntmps54
    go_wp2
    go_ret
    exact ⟨rfl, rfl⟩
  rw [show accE L a n = 0 by unfold accE; rw [if_neg c1, if_neg (by omega)]]
  have c4' : n ≤ (L : Int) - a := by omega
  clear c1 c2 c3 c4
  go_enter Tryz.func54, Tryz.ntmps54
  go_wp2
  go_ret
  exact ⟨rfl, rfl⟩
end Go.Proofs.YtnaceogkaiodnaaGreat

namespace Go.Proofs.YtnaceogkaiodnaaGreat
open Go.RowKit
set_option linter.unusedVariables false

theorem cut_eq {bb k m m' : Nat} (h : m' = m) : Ending.returned (.tuple #[.slice (some ⟨bb, k, none⟩) m' m', .int .i64 0]) = .returned (.tuple #[.slice (some ⟨bb, k, none⟩) m m, .int .i64 0]) := by rw [h]
theorem checkNumber_any {mb bb c : Nat} {xs : List Int} {w : World} (h : MemAt w mb bb c xs) (a n : Int) (ha : 0 ≤ a) (ha' : a < 18446744073709551616) (hn' : n < 9223372036854775808) :
    Calls Tryz.prog 58 #[.pointer (some ⟨mb, 0, none⟩), .int .u64 a, .int .i64 n] w fun e w' => e = .returned (.int .i64 (numE xs.length a n)) ∧ w = w' := by
  have HC := Lib.hid (checkBytes_any h a n ha ha' hn')
  have hE : ∀ z, numE xs.length a z = if sizedB z = true then accE xs.length a z else 2 := fun _ => rfl
  cases hs : sizedB n
  · rw [hE, if_neg (by simp [hs])]
    obtain ⟨h1, h2, h4, h8⟩ := sized_not hs
    have b1 : (n == 1) = false := by simpa using h1
    have b2 : (n == 2) = false := by simpa using h2
    have b4 : (n == 4) = false := by simpa using h4
    have b8 : (n == 8) = false := by simpa using h8
    clear hE h1 h2 h4 h8 hs h
    go_enter Tryz.func58, Tryz.ntmps58
    go_wp2
    go_ret
    exact ⟨rfl, rfl⟩
  · rw [hE, if_pos hs]
    clear hE h
    rcases sized_cases hs with rfl | rfl | rfl | rfl
    all_goals
      clear hs
      go_enter Tryz.func58, Tryz.ntmps58
      go_wp2_with (go_at_call 54; (with_reducible refine HC.out.mono ?_); rintro e w' ⟨rfl, rfl⟩)
      go_ret
      exact ⟨rfl, rfl⟩

theorem cutB_bad {mb bb c : Nat} {xs : List Int} {w : World} (h : MemAt w mb bb c xs) (a n : Int) (ha : 0 ≤ a) (ha' : a < 18446744073709551616) (hn' : n < 9223372036854775808) (he : accE xs.length a n ≠ 0) :
    Calls Tryz.prog 53 #[.pointer (some ⟨mb, 0, none⟩), .int .u64 a, .int .i64 n, .func (.func 54) #[.pointer (some ⟨mb, 0, none⟩)] #[]] w fun e w' => e = .returned (.tuple #[.slice none 0 0, .int .i64 (accE xs.length a n)]) ∧ w = w' := by
  have HV := Lib.hid (valid_yes h)
  have HC := Lib.hid (checkBytes_any h a n ha ha' hn')
  obtain ⟨E, hE⟩ : ∃ E, E = accE xs.length a n := ⟨_, rfl⟩
  rw [← hE] at HC he ⊢
  have he' : (E == 0) = false := by simpa using he
  clear h hE he
  go_enter Tryz.func53, Tryz.ntmps53
  go_wp2_with (first
    | (go_at_call 56; (with_reducible refine HV.out.mono ?_); rintro e w' ⟨rfl, rfl⟩)
    | (go_at_call 54; (with_reducible refine HC.out.mono ?_); rintro e w' ⟨rfl, rfl⟩))
  go_ret2
  exact ⟨rfl, rfl⟩
theorem cutB_ok {mb bb c : Nat} {xs : List Int} {w : World} (h : MemAt w mb bb c xs) (k m : Nat) (hk : 16 ≤ k) (hkm : k + m ≤ xs.length) (hm : 0 < m) :
    Calls Tryz.prog 53 #[.pointer (some ⟨mb, 0, none⟩), .int .u64 k, .int .i64 m, .func (.func 54) #[.pointer (some ⟨mb, 0, none⟩)] #[]] w fun e w' => e = .returned (.tuple #[.slice (some ⟨bb, k, none⟩) m m, .int .i64 0]) ∧ w = w' := by
  have hl := h.hi
  have HV := Lib.hid (valid_yes h)
  have hc := checkBytes_any h k m (by omega) (by omega) (by omega)
  rw [show accE xs.length k m = 0 by rw [accE_ok (by omega) (by omega) (by omega) (by omega)]] at hc
  have HC := Lib.hid hc
  have h1 := h.cell1
  have hcap := h.cap
  have hrow : xs.length ≤ c := by obtain ⟨_, _, _, _, h4⟩ := h.row; exact h4
  unfold maxLen at hcap
  obtain ⟨L, hL⟩ : ∃ L, L = xs.length := ⟨_, rfl⟩
  rw [← hL] at h1 hl hkm hrow
  clear h hL hc
  go_enter Tryz.func53, Tryz.ntmps53
  go_wp2_with (first
    | (go_at_call 56; (with_reducible refine HV.out.mono ?_); rintro e w' ⟨rfl, rfl⟩)
    | (go_at_call 54; (with_reducible refine HC.out.mono ?_); rintro e w' ⟨rfl, rfl⟩))
  go_ret2
  exact ⟨cut_eq (by omega), rfl⟩

theorem cutN_bad {mb bb c : Nat} {xs : List Int} {w : World} (h : MemAt w mb bb c xs) (a n : Int) (ha : 0 ≤ a) (ha' : a < 18446744073709551616) (hn' : n < 9223372036854775808) (he : numE xs.length a n ≠ 0) :
    Calls Tryz.prog 53 #[.pointer (some ⟨mb, 0, none⟩), .int .u64 a, .int .i64 n, .func (.func 58) #[.pointer (some ⟨mb, 0, none⟩)] #[]] w fun e w' => e = .returned (.tuple #[.slice none 0 0, .int .i64 (numE xs.length a n)]) ∧ w = w' := by
  have HV := Lib.hid (valid_yes h)
  have HC := Lib.hid (checkNumber_any h a n ha ha' hn')
  obtain ⟨E, hE⟩ : ∃ E, E = numE xs.length a n := ⟨_, rfl⟩
  rw [← hE] at HC he ⊢
  have he' : (E == 0) = false := by simpa using he
  clear h hE he
  go_enter Tryz.func53, Tryz.ntmps53
  go_wp2_with (first
    | (go_at_call 56; (with_reducible refine HV.out.mono ?_); rintro e w' ⟨rfl, rfl⟩)
    | (go_at_call 58; (with_reducible refine HC.out.mono ?_); rintro e w' ⟨rfl, rfl⟩))
  go_ret2
  exact ⟨rfl, rfl⟩
theorem cutN_ok {mb bb c : Nat} {xs : List Int} {w : World} (h : MemAt w mb bb c xs) (k m : Nat) (hk : 16 ≤ k) (hkm : k + m ≤ xs.length) (hs : sizedB m = true) (hm : 0 < m) :
    Calls Tryz.prog 53 #[.pointer (some ⟨mb, 0, none⟩), .int .u64 k, .int .i64 m, .func (.func 58) #[.pointer (some ⟨mb, 0, none⟩)] #[]] w fun e w' => e = .returned (.tuple #[.slice (some ⟨bb, k, none⟩) m m, .int .i64 0]) ∧ w = w' := by
  have hl := h.hi
  have HV := Lib.hid (valid_yes h)
  have hc := checkNumber_any h k m (by omega) (by omega) (by omega)
  rw [show numE xs.length k m = 0 by unfold numE; rw [if_pos hs, accE_ok (by omega) (by omega) (by omega) (by omega)]] at hc
  have HC := Lib.hid hc
  have h1 := h.cell1
  have hcap := h.cap
  have hrow : xs.length ≤ c := by obtain ⟨_, _, _, _, h4⟩ := h.row; exact h4
  unfold maxLen at hcap
  obtain ⟨L, hL⟩ : ∃ L, L = xs.length := ⟨_, rfl⟩
  rw [← hL] at h1 hl hkm hrow
  clear h hL hc
  go_enter Tryz.func53, Tryz.ntmps53
  go_wp2_with (first
    | (go_at_call 56; (with_reducible refine HV.out.mono ?_); rintro e w' ⟨rfl, rfl⟩)
    | (go_at_call 58; (with_reducible refine HC.out.mono ?_); rintro e w' ⟨rfl, rfl⟩))
  go_ret2
  exact ⟨cut_eq (by omega), rfl⟩

theorem cutB_nil {mb bb c : Nat} {xs : List Int} {w : World} (h : MemAt w mb bb c xs) (k : Nat) (hk : 16 ≤ k) (hkm : k ≤ xs.length) :
    Calls Tryz.prog 53 #[.pointer (some ⟨mb, 0, none⟩), .int .u64 k, .int .i64 0, .func (.func 54) #[.pointer (some ⟨mb, 0, none⟩)] #[]] w fun e w' => e = .returned (.tuple #[.slice (some ⟨bb, 0, none⟩) 0 0, .int .i64 0]) ∧ w = w' := by
  have hl := h.hi
  have HV := Lib.hid (valid_yes h)
  have hc := checkBytes_any h k 0 (by omega) (by omega) (by omega)
  rw [show accE xs.length k 0 = 0 by rw [accE_ok (by omega) (by omega) (by omega) (by omega)]] at hc
  have HC := Lib.hid hc
  have h1 := h.cell1
  have hcap := h.cap
  have hrow : xs.length ≤ c := by obtain ⟨_, _, _, _, h4⟩ := h.row; exact h4
  unfold maxLen at hcap
  obtain ⟨L, hL⟩ : ∃ L, L = xs.length := ⟨_, rfl⟩
  rw [← hL] at h1 hl hkm hrow
  clear h hL hc
  go_enter Tryz.func53, Tryz.ntmps53
  go_wp2_with (first
    | (go_at_call 56; (with_reducible refine HV.out.mono ?_); rintro e w' ⟨rfl, rfl⟩)
    | (go_at_call 54; (with_reducible refine HC.out.mono ?_); rintro e w' ⟨rfl, rfl⟩))
  go_ret2
  exact ⟨by simp, rfl⟩
end Go.Proofs.YtnaceogkaiodnaaGreat

namespace Go.Proofs.YtnaceogkaiodnaaGreat
open Go.RowKit
set_option linter.unusedVariables false

/-- The number at a place; the bytes at a place. -/
def partL (xs : List Int) (a n : Int) : List Int := (xs.drop a.toNat).take n.toNat
def loadV (xs : List Int) (a n : Int) : Int := if numE xs.length a n = 0 then numV (partL xs a n) else 0
def storeL (xs : List Int) (a n v : Int) : List Int := if numE xs.length a n = 0 then layL xs a.toNat (bytesV v n.toNat) else xs
def bytesL (xs : List Int) (a n : Int) : List Int := if accE xs.length a n = 0 then partL xs a n else []
def layB (xs : List Int) (a : Int) (ys : List Int) : List Int := if accE xs.length a ys.length = 0 then layL xs a.toNat ys else xs
theorem partL_len {xs : List Int} {k m : Nat} (h : k + m ≤ xs.length) : (partL xs k m).length = m := by simp [partL]; omega
theorem partL_nat (xs : List Int) (k m : Nat) : partL xs k m = (xs.drop k).take m := by simp [partL]
theorem nat_of {a : Int} (h : 0 ≤ a) : ∃ k : Nat, a = k := Int.eq_ofNat_of_zero_le h
theorem getV_sized {xs : List Int} (h : sizedB xs.length = true) : getV xs = numV xs ∧ getE xs = 0 := by
  have : ¬ 8 < xs.length := by rcases sized_cases h with h | h | h | h <;> omega
  unfold getV getE
  rw [if_neg this, if_neg this, if_pos h, if_pos h]
  exact ⟨rfl, rfl⟩
theorem ret_e2 {v v' : Value} {a b : Int} (h : v = v') (h' : a = b) : Ending.returned (.tuple #[v, .int .i64 a]) = .returned (.tuple #[v', .int .i64 b]) := by rw [h, h']
theorem u8_size : (Tryz.prog.info? 5).map (·.size) = some 1 := by kernel_rfl

theorem load_bad {mb bb c : Nat} {xs : List Int} {w : World} (h : MemAt w mb bb c xs) (a n : Int) (ha : 0 ≤ a) (ha' : a < 18446744073709551616) (hn' : n < 9223372036854775808) (he : numE xs.length a n ≠ 0) :
    Calls Tryz.prog 27 #[.pointer (some ⟨mb, 0, none⟩), .int .u64 a, .int .i64 n] w fun e w' => e = .returned (.tuple #[.int .u64 0, .int .i64 (numE xs.length a n)]) ∧ w = w' := by
  have HC := Lib.hid (cutN_bad h a n ha ha' hn' he)
  obtain ⟨E, hE⟩ : ∃ E, E = numE xs.length a n := ⟨_, rfl⟩
  rw [← hE] at HC he ⊢
  have he' : (E != 0) = true := by simpa using he
  clear h hE he
  go_enter Tryz.func27, Tryz.ntmps27
  go_wp2_with (go_at_call 53; (with_reducible refine HC.out.mono ?_); rintro e w' ⟨rfl, rfl⟩)
  go_ret2
  exact ⟨rfl, rfl⟩
theorem load_ok {mb bb c : Nat} {xs : List Int} {w : World} (h : MemAt w mb bb c xs) (k m : Nat) (hk : 16 ≤ k) (hkm : k + m ≤ xs.length) (hs : sizedB m = true) :
    Calls Tryz.prog 27 #[.pointer (some ⟨mb, 0, none⟩), .int .u64 k, .int .i64 m] w fun e w' => e = .returned (.tuple #[.int .u64 (numV (partL xs k m)), .int .i64 0]) ∧ w = w' := by
  have hm : 0 < m := by rcases sized_cases hs with h | h | h | h <;> omega
  have hl := h.hi
  have HC := Lib.hid (cutN_ok h k m hk hkm hs hm)
  have hB := h.row.bytes h.bd h.row.lt hkm (Nat.le_refl m) (by unfold maxLen; omega)
  have hg := get_any _ _ w _ hB
  have hlen : ((xs.drop k).take m).length = m := by simp; omega
  have hgs := getV_sized (xs := (xs.drop k).take m) (by rw [hlen]; exact hs)
  rw [hgs.1, hgs.2, ← partL_nat] at hg
  have HG := Lib.hid hg
  obtain ⟨z, hz⟩ : ∃ z, z = numV (partL xs k m) := ⟨_, rfl⟩
  rw [← hz] at HG ⊢
  clear h hB hg hgs hz hlen hs
  go_enter Tryz.func27, Tryz.ntmps27
  go_wp2_with (first
    | (go_at_call 53; (with_reducible refine HC.out.mono ?_); rintro e w' ⟨rfl, rfl⟩)
    | (go_at_call 59; (with_reducible refine HG.out.mono ?_); rintro e w' ⟨rfl, rfl⟩))
  go_ret2
  exact ⟨rfl, rfl⟩
theorem load_any {mb bb c : Nat} {xs : List Int} {w : World} (h : MemAt w mb bb c xs) (a n : Int) (ha : 0 ≤ a) (ha' : a < 18446744073709551616) (hn' : n < 9223372036854775808) :
    Calls Tryz.prog 27 #[.pointer (some ⟨mb, 0, none⟩), .int .u64 a, .int .i64 n] w fun e w' => e = .returned (.tuple #[.int .u64 (loadV xs a n), .int .i64 (numE xs.length a n)]) ∧ w = w' := by
  by_cases he : numE xs.length a n = 0
  · obtain ⟨hs, h0, h1, h2, h3⟩ := numE_zero he
    unfold loadV
    rw [if_pos he, he]
    obtain ⟨k, rfl⟩ := nat_of ha
    obtain ⟨m, rfl⟩ := nat_of h0
    exact load_ok h k m (by omega) (by omega) hs
  · unfold loadV
    rw [if_neg he]
    exact load_bad h a n ha ha' hn' he
theorem load_no {p : Value} {w : World} (h : NoMem w p) (a n : Int) :
    Calls Tryz.prog 27 #[p, .int .u64 a, .int .i64 n] w fun e w' => e = .returned (.tuple #[.int .u64 0, .int .i64 1]) ∧ w = w' := by
  have HV := Lib.hid (valid_no h)
  clear h
  have hcut : Calls Tryz.prog 53 #[p, .int .u64 a, .int .i64 n, .func (.func 58) #[p] #[]] w fun e w' => e = .returned (.tuple #[.slice none 0 0, .int .i64 1]) ∧ w = w' := by
    go_enter Tryz.func53, Tryz.ntmps53
    go_wp2_with (go_at_call 56; (with_reducible refine HV.out.mono ?_); rintro e w' ⟨rfl, rfl⟩)
    go_ret2
    exact ⟨rfl, rfl⟩
  have HC := Lib.hid hcut
  clear hcut HV
  go_enter Tryz.func27, Tryz.ntmps27
  go_wp2_with (go_at_call 53; (with_reducible refine HC.out.mono ?_); rintro e w' ⟨rfl, rfl⟩)
  go_ret2
  exact ⟨rfl, rfl⟩

/-- What Store and Lay leave. -/
def StoreDone (w : World) (mb bb c : Nat) (xs' : List Int) (E : Int) (e : Ending) (w' : World) : Prop :=
  e = .returned (.int .i64 E) ∧ MemAt w' mb bb c xs' ∧ But (OneBlock bb) w w'
theorem store_bad {mb bb c : Nat} {xs : List Int} {w : World} (h : MemAt w mb bb c xs) (a n v : Int) (ha : 0 ≤ a) (ha' : a < 18446744073709551616) (hn' : n < 9223372036854775808) (he : numE xs.length a n ≠ 0) :
    Calls Tryz.prog 148 #[.pointer (some ⟨mb, 0, none⟩), .int .u64 a, .int .i64 n, .int .u64 v] w fun e w' => e = .returned (.int .i64 (numE xs.length a n)) ∧ w = w' := by
  have HC := Lib.hid (cutN_bad h a n ha ha' hn' he)
  obtain ⟨E, hE⟩ : ∃ E, E = numE xs.length a n := ⟨_, rfl⟩
  rw [← hE] at HC he ⊢
  have he' : (E != 0) = true := by simpa using he
  clear h hE he
  go_enter Tryz.func148, Tryz.ntmps148
  go_wp2_with (go_at_call 53; (with_reducible refine HC.out.mono ?_); rintro e w' ⟨rfl, rfl⟩)
  go_ret
  exact ⟨rfl, rfl⟩
theorem store_no {p : Value} {w : World} (h : NoMem w p) (a n v : Int) :
    Calls Tryz.prog 148 #[p, .int .u64 a, .int .i64 n, .int .u64 v] w fun e w' => e = .returned (.int .i64 1) ∧ w = w' := by
  have HV := Lib.hid (valid_no h)
  clear h
  have hcut : Calls Tryz.prog 53 #[p, .int .u64 a, .int .i64 n, .func (.func 58) #[p] #[]] w fun e w' => e = .returned (.tuple #[.slice none 0 0, .int .i64 1]) ∧ w = w' := by
    go_enter Tryz.func53, Tryz.ntmps53
    go_wp2_with (go_at_call 56; (with_reducible refine HV.out.mono ?_); rintro e w' ⟨rfl, rfl⟩)
    go_ret2
    exact ⟨rfl, rfl⟩
  have HC := Lib.hid hcut
  clear hcut HV
  go_enter Tryz.func148, Tryz.ntmps148
  go_wp2_with (go_at_call 53; (with_reducible refine HC.out.mono ?_); rintro e w' ⟨rfl, rfl⟩)
  go_ret
  exact ⟨rfl, rfl⟩
theorem MemAt.lay {w : World} {mb bb c : Nat} {xs ys : List Int} {a : Nat} (h : MemAt w mb bb c xs) (ha : a + ys.length ≤ xs.length) (hy : ∀ y ∈ ys, 0 ≤ y ∧ y < 256) {cur : Array Value} (hc : w.heap[bb]? = some (.cells cur 5 (0, 0))) :
    MemAt (w.setRow bb (cur.toList.take a ++ (ys.map (Value.int .u8) ++ cur.toList.drop (a + ys.length))).toArray) mb bb c (layL xs a ys) := by
  refine ⟨?_, h.row.lay ha hc, layL_bd a h.bd hy, by rw [layL_len ha]; exact h.lo, by rw [layL_len ha]; exact h.hi, h.cap⟩
  rw [setRow_other w bb mb _ h.ne, layL_len ha]
  exact h.head
theorem owns_cells {w : World} {base : Nat} {e : TypeId} {K : Value → Prop} {v : Value} {n : Nat} {xs : List Value} (h : Owns w base e 1 K v n xs) (hn : 0 < n) :
    ∃ g cap, v = .slice (some ⟨g, 0, none⟩) n cap ∧ base ≤ g ∧ g < w.heap.size ∧ ∀ j u, xs[j]? = some u → w.cell? ((⟨g, 0, none⟩ : Addr).add j) = some u := by
  rcases h.1.2 with ⟨rfl, h0⟩ | ⟨g, cap, cur, rfl, h1, h2, h3, h4, h5, h6⟩
  · omega
  · exact ⟨g, cap, rfl, h1, heap_lt h2, h.1.cells (g := g) rfl⟩
set_option maxHeartbeats 1000000 in
theorem store_ok {mb bb c : Nat} {xs : List Int} {w : World} (h : MemAt w mb bb c xs) (k m : Nat) (v : Int) (hv : 0 ≤ v) (hv' : v < 18446744073709551616) (hk : 16 ≤ k) (hkm : k + m ≤ xs.length) (hs : sizedB m = true) :
    Calls Tryz.prog 148 #[.pointer (some ⟨mb, 0, none⟩), .int .u64 k, .int .i64 m, .int .u64 v] w (StoreDone w mb bb c (layL xs k (bytesV v m)) 0) := by
  have hm : 0 < m := by rcases sized_cases hs with h | h | h | h <;> omega
  have hl := h.hi
  have HC := Lib.hid (cutN_ok h k m hk hkm hs hm)
  have HP := Lib.hid (put_yes v m w hv hv' hs)
  have HM := Lib.hid h
  clear h hs
  go_enter Tryz.func148, Tryz.ntmps148
  go_wp2_with (first
    | (go_at_call 53; (with_reducible refine HC.out.mono ?_); rintro e w' ⟨rfl, rfl⟩)
    | (go_at_call 152; refine HP.out.mono ?_; rintro e w1 ⟨q, rfl, hown, hbel⟩; rw [bytesV_len] at hown; obtain ⟨g, cap, rfl, g1, g2, g3⟩ := owns_cells hown hm; have hm1 := HM.out.but (But.of_below (R := NoBlock) hbel) (noBlock_not _) (noBlock_not _); obtain ⟨cur, hcur, hsz, htk, hcl⟩ := hm1.row; have HM1 := Lib.hid hm1; have HCUR := Lib.hid hcur; have HSZ := Lib.hid hsz; have HG3 := Lib.hid g3; have HB := Lib.hid hbel; clear hown hbel hm1 hcur hsz htk g3)
    | (with_reducible refine wpList_copy_own rfl (.tmp 30) (.tmp 31) 25 25 rfl 5 Tryz.underlying25 u8_size bb k m m ⟨g, 0, none⟩ m cap rfl rfl cur 5 HCUR.out ((bytesV v m).map (Value.int .u8)) (by simp [bytesV_len]) HG3.out (by simp [bytesV_len, HSZ.out]; omega) (ints_oneCell _ _) ?_))
  go_ret
  refine ⟨rfl, HM1.out.lay (by rw [bytesV_len]; exact hkm) (bytesV_bd v m) HCUR.out, ?_⟩
  exact (But.of_below (R := OneBlock bb) HB.out).setRow (.inl rfl) _
theorem store_any {mb bb c : Nat} {xs : List Int} {w : World} (h : MemAt w mb bb c xs) (a n v : Int) (ha : 0 ≤ a) (ha' : a < 18446744073709551616) (hn' : n < 9223372036854775808) (hv : 0 ≤ v) (hv' : v < 18446744073709551616) :
    Calls Tryz.prog 148 #[.pointer (some ⟨mb, 0, none⟩), .int .u64 a, .int .i64 n, .int .u64 v] w (StoreDone w mb bb c (storeL xs a n v) (numE xs.length a n)) := by
  by_cases he : numE xs.length a n = 0
  · obtain ⟨hs, h0, h1, h2, h3⟩ := numE_zero he
    unfold storeL
    rw [if_pos he, he]
    obtain ⟨k, rfl⟩ := nat_of ha
    obtain ⟨m, rfl⟩ := nat_of h0
    exact store_ok h k m v hv hv' (by omega) (by omega) hs
  · unfold storeL
    rw [if_neg he]
    exact (store_bad h a n v ha ha' hn' he).mono fun e w' ⟨h1, h2⟩ => by subst h2; exact ⟨h1, h, But.refl _ _⟩
end Go.Proofs.YtnaceogkaiodnaaGreat

namespace Go.Proofs.YtnaceogkaiodnaaGreat
set_option linter.unusedVariables false

/-- A machine: its registers, its place, its memory's bytes. -/
structure MSt where
  r : Nat → Int
  pc : Int
  xs : List Int
def MSt.set (s : MSt) (n v : Int) : MSt := if n = 0 then s else { s with r := fun k => if k = n.toNat then v else s.r k }
def MSt.get (s : MSt) (n : Int) : Int := s.r n.toNat
def MSt.at' (s : MSt) (p : Int) : MSt := { s with pc := p }
/-- A number as a word. -/
def w64 (n : Int) : Int := n % 18446744073709551616
/-- Which function of two words an operation is, and whether of their halves. -/
def fnV (op : Int) : Int :=
  if op = 22 ∨ op = 35 ∨ op = 31 ∨ op = 45 then 1 else if op = 36 ∨ op = 46 then 2 else if op = 23 ∨ op = 38 then 17 else if op = 24 ∨ op = 39 then 18
  else if op = 25 ∨ op = 40 then 13 else if op = 26 ∨ op = 43 then 12 else if op = 27 ∨ op = 44 then 11
  else if op = 28 ∨ op = 37 ∨ op = 32 ∨ op = 47 then 14 else if op = 29 ∨ op = 41 ∨ op = 33 ∨ op = 48 then 15 else if op = 30 ∨ op = 42 ∨ op = 34 ∨ op = 49 then 16
  else if op = 50 ∨ op = 58 then 3 else if op = 51 then 4 else if op = 52 then 6 else if op = 53 then 5 else if op = 54 ∨ op = 59 then 7 else if op = 55 ∨ op = 60 then 8 else if op = 56 ∨ op = 61 then 9 else if op = 57 ∨ op = 62 then 10 else 0
def halfOp (op : Int) : Bool := decide (31 ≤ op ∧ op ≤ 34 ∨ 45 ≤ op ∧ op ≤ 49 ∨ 58 ≤ op ∧ op ≤ 62)
/-- How many bytes a load or a store has; whether what is loaded is signed. -/
def sizeV (op : Int) : Int := if op = 11 ∨ op = 18 ∨ op = 15 then 1 else if op = 12 ∨ op = 19 ∨ op = 16 then 2 else if op = 13 ∨ op = 20 ∨ op = 17 then 4 else if op = 14 ∨ op = 21 then 8 else 0
def signedOp (op : Int) : Bool := decide (11 ≤ op ∧ op ≤ 14 ∨ 18 ≤ op ∧ op ≤ 21)
def storeOp (op : Int) : Bool := decide (18 ≤ op ∧ op ≤ 21)
def takesV (op s t : Int) : Bool :=
  if op = 5 then decide (s = t) else if op = 6 then decide (s ≠ t) else if op = 7 then decide (sg s < sg t) else if op = 8 then decide (¬ sg s < sg t) else if op = 9 then decide (s < t) else decide (¬ s < t)
/-- What an instruction other than a load, a store or a jump makes. -/
def makeV (i : RvV) (s : MSt) : Int :=
  if i.op = 1 then w64 (i.imm * 4096) else if i.op = 2 then w64 (s.pc + i.imm * 4096)
  else if halfOp i.op = true then halfV (fnV i.op) (s.get i.rs1) (if (rvRowN i.op.toNat).form = .R then s.get i.rs2 else w64 i.imm)
  else doV (fnV i.op) (s.get i.rs1) (if (rvRowN i.op.toNat).form = .R then s.get i.rs2 else w64 i.imm)
def nextV (s : MSt) : Int := w64 (s.pc + 4)
/-- An instruction is executed. -/
def execV (i : RvV) (s : MSt) : Int × MSt :=
  if i.op = 63 then (1, s)
  else if storeOp i.op = true then
    if numE s.xs.length (w64 (s.get i.rs1 + i.imm)) (sizeV i.op) = 0 then (0, { s with pc := nextV s, xs := storeL s.xs (w64 (s.get i.rs1 + i.imm)) (sizeV i.op) (s.get i.rs2) }) else (5, s)
  else if 0 < sizeV i.op then
    if numE s.xs.length (w64 (s.get i.rs1 + i.imm)) (sizeV i.op) = 0 then
      (0, (s.set i.rd (if signedOp i.op = true then sextV (loadV s.xs (w64 (s.get i.rs1 + i.imm)) (sizeV i.op)) (sizeV i.op) else loadV s.xs (w64 (s.get i.rs1 + i.imm)) (sizeV i.op))).at' (nextV s)) else (5, s)
  else if i.op = 3 then (0, (s.set i.rd (nextV s)).at' (w64 (s.pc + i.imm)))
  else if i.op = 4 then (0, (s.set i.rd (nextV s)).at' (w64 (s.get i.rs1 + i.imm) / 2 * 2))
  else if 5 ≤ i.op ∧ i.op ≤ 10 then (0, s.at' (if takesV i.op (s.get i.rs1) (s.get i.rs2) = true then w64 (s.pc + i.imm) else nextV s))
  else (0, (s.set i.rd (makeV i s)).at' (nextV s))
/-- A step. -/
noncomputable def stepV (code : List Int) (s : MSt) : Int × MSt :=
  if s.pc % 4 ≠ 0 then (3, s)
  else if s.pc < 4294967296 ∨ (code.length : Int) ≤ (s.pc - 4294967296) / 4 then (4, s)
  else match decV (code.getD ((s.pc - 4294967296) / 4).toNat 0) with
    | none => (2, s)
    | some i => execV i s

/-- What ends otherwise than by having run changes nothing. -/
theorem exec_stays (i : RvV) (s : MSt) (h : (execV i s).1 ≠ 0) : (execV i s).2 = s := by
  unfold execV at h ⊢
  split
  · rfl
  · rename_i h1
    rw [if_neg h1] at h
    split
    · rename_i h2
      rw [if_pos h2] at h
      split
      · rename_i h3
        rw [if_pos h3] at h
        exact absurd rfl h
      · rfl
    · rename_i h2
      rw [if_neg h2] at h
      split
      · rename_i h3
        rw [if_pos h3] at h
        split
        · rename_i h4
          rw [if_pos h4] at h
          exact absurd rfl h
        · rfl
      · rename_i h3
        rw [if_neg h3] at h
        exfalso
        repeat' (split at h)
        all_goals exact h rfl
theorem step_stays (code : List Int) (s : MSt) (h : (stepV code s).1 ≠ 0) : (stepV code s).2 = s := by
  unfold stepV at h ⊢
  split
  · rfl
  · rename_i h1
    rw [if_neg h1] at h
    split
    · rfl
    · rename_i h2
      rw [if_neg h2] at h
      split
      · rfl
      · rename_i i hi
        rw [hi] at h
        exact exec_stays i s h
theorem set_zero (s : MSt) (n v : Int) (hn : 0 ≤ n) (h : s.r 0 = 0) : (s.set n v).r 0 = 0 := by
  unfold MSt.set
  split
  · exact h
  · rename_i h0
    show (if 0 = n.toNat then v else s.r 0) = 0
    rw [if_neg (by omega)]
    exact h
theorem set_other (s : MSt) (n v : Int) (k : Nat) (h : k ≠ n.toNat) : (s.set n v).r k = s.r k := by
  unfold MSt.set
  split
  · rfl
  · show (if k = n.toNat then v else s.r k) = s.r k
    rw [if_neg h]
theorem set_xs (s : MSt) (n v : Int) : (s.set n v).xs = s.xs := by
  unfold MSt.set
  split <;> rfl
theorem set_pc (s : MSt) (n v : Int) : (s.set n v).pc = s.pc := by
  unfold MSt.set
  split <;> rfl
theorem w64_bd (n : Int) : 0 ≤ w64 n ∧ w64 n < 18446744073709551616 := by unfold w64; omega
def InW (n : Int) : Prop := 0 ≤ n ∧ n < 18446744073709551616
/-- A state whose numbers are the machine's. -/
structure MSt.ok (s : MSt) : Prop where
  r : ∀ k, InW (s.r k)
  zero : s.r 0 = 0
  pc : InW s.pc
  xs : ∀ x ∈ s.xs, 0 ≤ x ∧ x < 256
theorem MSt.ok.set {s : MSt} (h : s.ok) {n v : Int} (hn : 0 ≤ n) (hv : InW v) : (s.set n v).ok := by
  refine ⟨fun k => ?_, set_zero s n v hn h.zero, by rw [set_pc]; exact h.pc, by rw [set_xs]; exact h.xs⟩
  unfold MSt.set
  split
  · exact h.r k
  · show InW (if k = n.toNat then v else s.r k)
    split
    · exact hv
    · exact h.r k
theorem MSt.ok.at' {s : MSt} (h : s.ok) {p : Int} (hp : InW p) : (s.at' p).ok := ⟨h.r, h.zero, hp, h.xs⟩
theorem halfV_bd {fn a b : Int} : InW (halfV fn a b) := by
  unfold halfV
  split
  · have := @sextV_bd
    unfold sextV sext1 InW
    simp only [show ((4 : Int) = 1) = False by simp, show ((4 : Int) = 2) = False by simp, if_false, if_true]
    split <;> omega
  · exact ⟨by omega, by omega⟩
theorem makeV_bd (i : RvV) {s : MSt} (h : s.ok) : InW (makeV i s) := by
  unfold makeV
  split
  · exact w64_bd _
  · split
    · exact w64_bd _
    · split
      · exact halfV_bd
      · have h1 := h.r i.rs1.toNat
        have h2 : InW (if (rvRowN i.op.toNat).form = .R then s.get i.rs2 else w64 i.imm) := by
          split
          · exact h.r _
          · exact w64_bd _
        exact doV_bd h1.1 h1.2 h2.1 h2.2
theorem storeL_bd {xs : List Int} (h : ∀ x ∈ xs, 0 ≤ x ∧ x < 256) (a n v : Int) : ∀ x ∈ storeL xs a n v, 0 ≤ x ∧ x < 256 := by
  unfold storeL
  split
  · exact layL_bd _ h (bytesV_bd _ _)
  · exact h
theorem numE_in {size a n : Int} (h : numE size a n = 0) : sizedB n = true ∧ 0 ≤ n ∧ 16 ≤ a ∧ a + n ≤ size := by
  unfold numE accE at h
  split at h
  · rename_i hs
    split at h
    · cases h
    · split at h
      · cases h
      · exact ⟨hs, by omega, by omega, by omega⟩
  · cases h
theorem storeL_same_len (xs : List Int) (a n v : Int) : (storeL xs a n v).length = xs.length := by
  unfold storeL
  split
  · rename_i h
    have := numE_in h
    exact layL_len (by rw [bytesV_len]; omega)
  · rfl
/-- What is read of memory is a word: a lemma that the memory's own text brings. -/
def LoadBd : Prop := ∀ (xs : List Int) (a n : Int), (∀ x ∈ xs, 0 ≤ x ∧ x < 256) → InW (loadV xs a n)
theorem reg_pos {n : Int} {b : Bool} (h : regOk n b) : 0 ≤ n ∧ n ≤ 31 := by
  unfold regOk at h
  cases b <;> simp at h <;> omega
theorem nextV_bd (s : MSt) : InW (nextV s) := w64_bd _
theorem exec_ok (hl : LoadBd) {i : RvV} (hi : i.ok) {s : MSt} (h : s.ok) : (execV i s).2.ok ∧ (execV i s).2.xs.length = s.xs.length := by
  have hrd := (reg_pos hi.rd).1
  unfold execV
  split
  · exact ⟨h, rfl⟩
  · split
    · split
      · exact ⟨⟨h.r, h.zero, nextV_bd s, storeL_bd h.xs _ _ _⟩, storeL_same_len _ _ _ _⟩
      · exact ⟨h, rfl⟩
    · split
      · split
        · refine ⟨(h.set hrd ?_).at' (nextV_bd s), by show (s.set _ _).xs.length = _; rw [set_xs]⟩
          have := hl s.xs (w64 (s.get i.rs1 + i.imm)) (sizeV i.op) h.xs
          split
          · exact sextV_bd this.1 this.2
          · exact this
        · exact ⟨h, rfl⟩
      · split
        · exact ⟨(h.set hrd (nextV_bd s)).at' (w64_bd _), by show (s.set _ _).xs.length = _; rw [set_xs]⟩
        · split
          · refine ⟨(h.set hrd (nextV_bd s)).at' ?_, by show (s.set _ _).xs.length = _; rw [set_xs]⟩
            have := w64_bd (s.get i.rs1 + i.imm)
            exact ⟨by omega, by omega⟩
          · split
            · refine ⟨h.at' ?_, rfl⟩
              split
              · exact w64_bd _
              · exact nextV_bd s
            · exact ⟨(h.set hrd (makeV_bd i h)).at' (nextV_bd s), by show (s.set _ _).xs.length = _; rw [set_xs]⟩
theorem decV_is {w : Int} {i : RvV} (h : decV w = some i) : IsWord i w := by
  unfold decV at h
  split at h
  · rename_i he
    injection h with h
    rw [← h]
    exact he.choose_spec
  · cases h
theorem step_ok (hl : LoadBd) (code : List Int) {s : MSt} (h : s.ok) : (stepV code s).2.ok ∧ (stepV code s).2.xs.length = s.xs.length := by
  unfold stepV
  split
  · exact ⟨h, rfl⟩
  · split
    · exact ⟨h, rfl⟩
    · split
      · exact ⟨h, rfl⟩
      · rename_i i hi
        exact exec_ok hl (decV_is hi).1 h
/-- A step changes one register at most; and of memory some eight bytes in a row at most, and then no register. -/
def LittleV (s t : MSt) : Prop :=
  (t.xs = s.xs ∧ ∃ n : Nat, ∀ k, k ≠ n → t.r k = s.r k) ∨ (t.r = s.r ∧ ∃ (a : Nat) (ys : List Int), ys.length ≤ 8 ∧ a + ys.length ≤ s.xs.length ∧ t.xs = layL s.xs a ys)
theorem exec_little (i : RvV) (s : MSt) : LittleV s (execV i s).2 := by
  have hset : ∀ n v p, LittleV s ((s.set n v).at' p) := fun n v p => .inl ⟨by show (s.set n v).xs = _; rw [set_xs], n.toNat, fun k hk => set_other s n v k hk⟩
  have hsame : LittleV s s := .inl ⟨rfl, 0, fun _ _ => rfl⟩
  unfold execV
  split
  · exact hsame
  · split
    · split
      · rename_i h
        have hn := numE_in h
        refine .inr ⟨rfl, (w64 (s.get i.rs1 + i.imm)).toNat, bytesV (s.get i.rs2) (sizeV i.op).toNat, ?_, ?_, ?_⟩
        · rw [bytesV_len]
          have := sized_cases hn.1
          omega
        · rw [bytesV_len]
          omega
        · show storeL _ _ _ _ = _
          unfold storeL
          rw [if_pos h]
      · exact hsame
    · split
      · split
        · exact hset _ _ _
        · exact hsame
      · split
        · exact hset _ _ _
        · split
          · exact hset _ _ _
          · split
            · exact .inl ⟨rfl, 0, fun _ _ => rfl⟩
            · exact hset _ _ _
theorem step_little (code : List Int) (s : MSt) : LittleV s (stepV code s).2 := by
  have hsame : LittleV s s := .inl ⟨rfl, 0, fun _ _ => rfl⟩
  unfold stepV
  split
  · exact hsame
  · split
    · exact hsame
    · split
      · exact hsame
      · exact exec_little _ s
/-- A run: how it ends, how many steps ran, what it leaves. -/
noncomputable def runV (code : List Int) : Nat → MSt → Int × Nat × MSt
  | 0, s => (0, 0, s)
  | n + 1, s => if (stepV code s).1 ≠ 0 then ((stepV code s).1, 0, s) else ((runV code n (stepV code s).2).1, (runV code n (stepV code s).2).2.1 + 1, (runV code n (stepV code s).2).2.2)
/-- So many steps, one behind the other; and whether all of them ran. -/
noncomputable def itV (code : List Int) : Nat → MSt → MSt
  | 0, s => s
  | n + 1, s => itV code n (stepV code s).2
def RanV (code : List Int) (n : Nat) (s : MSt) : Prop := ∀ k, k < n → (stepV code (itV code k s)).1 = 0
theorem it_one (code : List Int) : ∀ (n : Nat) (s : MSt), itV code (n + 1) s = (stepV code (itV code n s)).2
  | 0, _ => rfl
  | n + 1, s => it_one code n (stepV code s).2
theorem ran_head {code : List Int} {n : Nat} {s : MSt} (h : RanV code (n + 1) s) : (stepV code s).1 = 0 ∧ RanV code n (stepV code s).2 :=
  ⟨h 0 (by omega), fun k hk => h (k + 1) (by omega)⟩
/-- Where so many steps ran, a run of as many, or more, is those and the rest. -/
theorem run_ran (code : List Int) : ∀ (n m : Nat) (s : MSt), RanV code n s → runV code (n + m) s = ((runV code m (itV code n s)).1, (runV code m (itV code n s)).2.1 + n, (runV code m (itV code n s)).2.2)
  | 0, m, s, _ => by simp [itV]
  | n + 1, m, s, h => by
    obtain ⟨h0, h1⟩ := ran_head h
    have ih := run_ran code n m (stepV code s).2 h1
    rw [show n + 1 + m = (n + m) + 1 by omega]
    show (if (stepV code s).1 ≠ 0 then _ else _) = _
    rw [if_neg (by simpa using h0), ih]
    simp only [itV, Nat.add_assoc]
theorem run_all {code : List Int} {n : Nat} {s : MSt} (h : RanV code n s) : runV code n s = (0, n, itV code n s) := by
  have := run_ran code n 0 s h
  simpa [runV] using this
/-- Where a step behind so many ended otherwise, so does the run. -/
theorem run_ends {code : List Int} {n m : Nat} {s : MSt} (h : RanV code n s) (he : (stepV code (itV code n s)).1 ≠ 0) : runV code (n + (m + 1)) s = ((stepV code (itV code n s)).1, n, itV code n s) := by
  rw [run_ran code n (m + 1) s h]
  simp [runV, he]
/-- Each run is one of the two. -/
theorem run_cases (code : List Int) : ∀ (n : Nat) (s : MSt), RanV code n s ∨ ∃ k, k < n ∧ RanV code k s ∧ (stepV code (itV code k s)).1 ≠ 0
  | 0, s => .inl fun k hk => by omega
  | n + 1, s => by
    rcases run_cases code n s with h | ⟨k, hk, h1, h2⟩
    · by_cases h0 : (stepV code (itV code n s)).1 = 0
      · refine .inl fun k hk => ?_
        by_cases e : k = n
        · rw [e]; exact h0
        · exact h k (by omega)
      · exact .inr ⟨n, by omega, h, h0⟩
    · exact .inr ⟨k, by omega, h1, h2⟩
/-- So many steps, and then so many more, are as many as both. -/
theorem run_split (code : List Int) (a b : Nat) (s : MSt) :
    runV code (a + b) s = if (runV code a s).1 = 0 then ((runV code b (runV code a s).2.2).1, (runV code a s).2.1 + (runV code b (runV code a s).2.2).2.1, (runV code b (runV code a s).2.2).2.2) else runV code a s := by
  rcases run_cases code a s with h | ⟨k, hk, h1, h2⟩
  · rw [run_all h, if_pos rfl, run_ran code a b s h]
    simp only [Nat.add_comm]
  · obtain ⟨c, rfl⟩ : ∃ c, a = k + (c + 1) := ⟨a - k - 1, by omega⟩
    rw [run_ends h1 h2, if_neg h2, show k + (c + 1) + b = k + ((c + b) + 1) by omega, run_ends h1 h2]
#print axioms run_split
end Go.Proofs.YtnaceogkaiodnaaGreat

