/- The landed op.Writes and op.Target: the first field of a letter. Contracts; no condition but that the argument is an instruction in memory. -/
import Derived.Test.YtobbjphpngckgaaFld06
namespace Go.Proofs.Ytobbjphpngckgaa
open Go.RowKit Go.Shelf
set_option linter.unusedVariables false
set_option linter.unusedSimpArgs false
attribute [local go_sem] Oper.semAt_some

theorem shapes_ok (op : Int) : okShape (shapeI op) = true := by
  unfold shapeI
  split
  · rename_i h
    have h2 : shapeL.all okShape = true := by kernel_rfl
    have hl : shapeL.length = 33 := by kernel_rfl
    have hk : op.toNat < shapeL.length := by omega
    have e : shapeB op.toNat = shapeL[op.toNat] := by simp [shapeB, List.getD, hk]
    rw [e]
    exact List.all_eq_true.1 h2 _ (List.getElem_mem hk)
  · rfl
/-- op.fields hands back a value that gives all fields, or as many as the loop's body asks for. -/
theorem fields_stops (m : Nat) (hm : 3 ≤ m) (Ro bI : Nat) (op a b c n : Int) (X : Value) (args : List Int) (w : World)
    (hbox : w.heap[bI]? = some (.cells (insCells op a b c n X) 35 (0, 0))) (hX : IsNums .i64 w w.heap.size X args)
    (hR : Ro < w.heap.size) {v : Value} (hv : w.cell? ⟨Ro, 0, none⟩ = some v) (hna : NoAddr v) (hbI : bI ≠ Ro) (hXR : ∀ ad len cap, X = .slice (some ad) len cap → 0 < len → ad.block ≠ Ro) :
    SeqStopsK Fence.wide m Try.prog 73 #[.pointer (some ⟨bI, 0, none⟩)] encF (KpO Ro) (fun ys => ys = itemsOf (shapeI op) a b c n args) (fun pre => pre <+: itemsOf (shapeI op) a b c n args) (itemsOf (shapeI op) a b c n args).length w := fun l J Jx W hW hJ hJx hY h0 => by
  have hlI := heap_lt hbox
  have hRo : W.cell? ⟨Ro, 0, none⟩ = w.cell? ⟨Ro, 0, none⟩ := hW.cell (p := ⟨Ro, 0, none⟩) hR
  exact fields1_in m hm l Ro bI op a b c n X args (shapeI op) (shapes_ok op) rfl J Jx W hJ hY ((hW.block bI hlI).trans hbox) ((hX.below hW (Nat.le_refl _)).more hW.size) (Nat.lt_of_lt_of_le hR hW.size)
    (fun g hg => inReach_num (hRo.trans hv) hna hg) hbI hXR h0
/-- The number of the first field of a letter, -1 where there is none. -/
def firstV (q : Int) (l : List (Int × Int)) : Int := match l.find? (fun x => x.1 == q) with | some x => x.2 | none => -1
theorem first_none {q : Int} {l : List (Int × Int)} (h : ∀ p ∈ l, p.1 ≠ q) : firstV q l = -1 := by
  have : l.find? (fun x => x.1 == q) = none := by
    rw [List.find?_eq_none]
    intro x hx
    simpa using h x hx
  simp [firstV, this]
theorem first_some {q : Int} {l ini : List (Int × Int)} {x : Int × Int} (hp : ini ++ [x] <+: l) (h : ∀ p ∈ ini, p.1 ≠ q) (hx : x.1 = q) : firstV q l = x.2 := by
  obtain ⟨t, rfl⟩ := hp
  have h1 : ini.find? (fun x => x.1 == q) = none := by
    rw [List.find?_eq_none]
    intro x hx
    simpa using h x hx
  simp [firstV, List.find?_append, h1, hx]
/-- A struct that is handed over: its cells, and Args in memory. -/
structure InsAt (w : World) (B : Nat) (op a b c n : Int) (X : Value) (args : List Int) : Prop where
  args : IsNums .i64 w B X args
theorem nums_block {K : IntKind} {w : World} {B : Nat} {X : Value} {xs : List Int} (h : IsNums K w B X xs) : ∀ ad len cap, X = .slice (some ad) len cap → 0 < len → ad.block < B := by
  intro ad len cap e hl
  rcases h.2 with ⟨h1, _⟩ | ⟨ad', cap', h1, _, h3, _⟩
  · rw [h1] at e; cases e
  · rw [h1] at e; cases e; exact h3 hl
theorem noAddr_int (K : IntKind) (z : Int) : NoAddr (.int K z) := fun a len cap e => by cases e
theorem noAddr_bool (z : Bool) : NoAddr (.bool z) := fun a len cap e => by cases e
theorem noAddr_nil : NoAddr (.slice none 0 0) := fun a len cap e => by cases e

end Go.Proofs.Ytobbjphpngckgaa
