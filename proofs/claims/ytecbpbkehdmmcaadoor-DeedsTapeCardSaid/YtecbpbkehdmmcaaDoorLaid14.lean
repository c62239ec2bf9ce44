/- What the library's variables that the statements of layer 14 list hold: what follows for the walks, and one world that holds them. No condition but what each names. -/
import Derived.Test.YtecbpbkehdmmcaaDoorCards
import Derived.Test.YtecbpbkehdmmcaaDoorTie
import Derived.Test.YtecbpbkehdmmcaaDoorDeed14K
import Derived.WalkKit
import Derived.ProofKit
import Derived.OpenShut
import Derived.Deep.DeepHandedRow
import Derived.Deep.DeepWitnessRowRef
import Derived.Lib.LaidTab
import Derived.LaidLaws
namespace Go.Proofs.YtecbpbkehdmmcaaDoor
open Go.ChangeShapes Go.WideShapes Go.ChangeAt Go.RowKit
set_option linter.unusedVariables false
set_option maxRecDepth 100000

theorem laid_tail14 {P : Program} {x : String × DataW Unit} {r : List (String × DataW Unit)} {W : World} (h : laidMet P (x :: r) W) : laidMet P r W := by
  obtain ⟨ps, ⟨g, t, cs, fuel, p, q, _, _, _, _, h6, e⟩, hnd, hrows⟩ := h
  subst e
  exact ⟨q, h6, (List.nodup_append.1 hnd).2.1, fun b off hm => hrows b off (List.mem_append_right _ hm)⟩
theorem g0_14 : Tryd.prog.globalNamed "internal/strconv.uint64pow10" = some 0 := by kernel_rfl
theorem t0_14 : (Tryd.prog.globals[0]?).map (·.type) = some 99 := by kernel_rfl
theorem cu14 : Tryd.prog.cellsOf 92 = 1 := by kernel_rfl
theorem ct14 : Tryd.prog.cellsOf 99 = 20 := by kernel_rfl
theorem pow14 : (Rows.laid_internal_strconv_uint64pow10 : DataW Unit) = Lib.tabData .u64 Lib.pow10Tab := by kernel_rfl
theorem env14_of_met {W : World} (h : laidMet Tryd.prog Rows.deedsKnownRow.laid W) : Env14 W := by
  have h2 := laid_tail14 (laid_tail14 h)
  rw [pow14] at h2
  have ht := Lib.tabIs_of_head (rest := _) g0_14 t0_14 Tryd.underlying99 Tryd.underlying92 cu14 ct14 h2
  intro nm hnm
  have e : Tryd.laysM171_ren.g 17 = 0 := rfl
  rw [e] at hnm
  unfold Lib.TabIs World.var? at ht ⊢
  rw [g0_14] at ht
  rw [hnm]
  exact ht
theorem env14_of_laid {W : World} (h : laidMetH Tryd.prog Rows.deedsKnownRow.laid W) : Env14 W := env14_of_met h
/-! ### One world that holds them -/
def tab14 (l : List Int) (k : IntKind) : Array Value := (l.map (Value.int k)).toArray
def putCells14 (cs : Array Value) : Obj → Obj
  | .cells _ t frozen => .cells cs t frozen
  | o => o
noncomputable def laidWorld14 (os : Os) : World :=
  let w0 := World.holding Tryd.prog os ⟨#[], #[], []⟩
  { w0 with heap := ((w0.heap.modify 0 (putCells14 (tab14 [1, 10, 100, 1000, 10000, 100000, 1000000, 10000000, 100000000, 1000000000, 10000000000, 100000000000, 1000000000000, 10000000000000, 100000000000000, 1000000000000000, 10000000000000000, 100000000000000000, 1000000000000000000, 10000000000000000000] .u64))).modify 1 (putCells14 (tab14 [0, 1, 28, 2, 29, 14, 24, 3, 30, 22, 20, 15, 25, 17, 4, 8, 31, 27, 13, 23, 21, 19, 16, 7, 26, 12, 18, 6, 11, 5, 10, 9] .u8))).modify 2 (putCells14 (tab14 [0, 1, 56, 2, 57, 49, 28, 3, 61, 58, 42, 50, 38, 29, 17, 4, 62, 47, 59, 36, 45, 43, 51, 22, 53, 39, 33, 30, 24, 18, 12, 5, 63, 55, 48, 27, 60, 41, 37, 16, 46, 35, 44, 21, 52, 32, 23, 11, 54, 26, 40, 15, 34, 20, 31, 10, 25, 14, 19, 9, 13, 8, 7, 6] .u8)) }
theorem laid_met14 (os : Os) (args : Array Value) : laidMet Tryd.prog Rows.deedsKnownRow.laid ((laidWorld14 os).forCall (fun _ _ => 0) ⟨#[], args, []⟩).memory :=
  laidMet_of_run' 8 (by kernel_rfl) (by kernel_rfl)
theorem refs14 (os : Os) (args : Array Value) : ((laidWorld14 os).forCall (fun _ _ => 0) ⟨#[], args, []⟩).variablesRefB Tryd.checked.prog = true := by kernel_rfl
theorem rest14 (os : Os) (args : Array Value) : (((laidWorld14 os).forCall (fun _ _ => 0) ⟨#[], args, []⟩).heap.toList.drop Tryd.checked.prog.globals.size).take ((begin Tryd.checked.prog (fun _ _ => 0) default).world.heap.size - Tryd.checked.prog.globals.size) =
      (begin Tryd.checked.prog (fun _ _ => 0) default).world.heap.toList.drop Tryd.checked.prog.globals.size := by kernel_rfl
end Go.Proofs.YtecbpbkehdmmcaaDoor
