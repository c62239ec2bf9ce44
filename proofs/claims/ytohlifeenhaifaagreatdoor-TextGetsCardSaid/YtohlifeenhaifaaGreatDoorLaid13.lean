/- What the library's variables that the statements of layer 13 list hold: what follows for the walks, and one world that holds them. No condition but what each names. -/
import Derived.Test.YtohlifeenhaifaaGreatDoorCards
import Derived.Test.YtohlifeenhaifaaGreatDoorTie
import Derived.Test.YtohlifeenhaifaaGreatDoorS28
import Derived.WalkKit
import Derived.ProofKit
import Derived.OpenShut
import Derived.Deep.DeepHandedRow
import Derived.Deep.DeepWitnessRowRef
import Derived.Lib.LaidTab
import Derived.Stop.LaidErr
import Derived.LaidLaws
namespace Go.Proofs.YtohlifeenhaifaaGreatDoor
open Go.ChangeShapes Go.WideShapes Go.ChangeAt Go.RowKit
set_option linter.unusedVariables false
set_option maxRecDepth 100000

theorem laid_tail13 {P : Program} {x : String × DataW Unit} {r : List (String × DataW Unit)} {W : World} (h : laidMet P (x :: r) W) : laidMet P r W := by
  obtain ⟨ps, ⟨g, t, cs, fuel, p, q, _, _, _, _, h6, e⟩, hnd, hrows⟩ := h
  subst e
  exact ⟨q, h6, (List.nodup_append.1 hnd).2.1, fun b off hm => hrows b off (List.mem_append_right _ hm)⟩
theorem star13 : "*" ++ "errors.errorString" = "*errors.errorString" := by decide
theorem rowE13 (u : TypeId) (h : Tryz.prog.typeName? 3 u = some "*errors.errorString") : u = 168 :=
  typeName_ptr_named (nm := "errors.errorString") (by rw [star13]; kernel_rfl) (by kernel_rfl) (by decide) u (by rw [star13]; exact h)
theorem g0_13 : Tryz.prog.globalNamed "strconv.ErrSyntax" = some 0 := by kernel_rfl
theorem g1_13 : Tryz.prog.globalNamed "strconv.ErrRange" = some 1 := by kernel_rfl
theorem g2_13 : Tryz.prog.globalNamed "internal/strconv.uint64pow10" = some 2 := by kernel_rfl
theorem t0_13 : (Tryz.prog.globals[0]?).map (·.type) = some 58 := by kernel_rfl
theorem t1_13 : (Tryz.prog.globals[1]?).map (·.type) = some 58 := by kernel_rfl
theorem t2_13 : (Tryz.prog.globals[2]?).map (·.type) = some 173 := by kernel_rfl
theorem ce13 : Tryz.prog.cellsOf 170 = 1 := by kernel_rfl
theorem cs13 : Tryz.prog.cellsOf 9 = 1 := by kernel_rfl
theorem cu13 : Tryz.prog.cellsOf 61 = 1 := by kernel_rfl
theorem ct13 : Tryz.prog.cellsOf 173 = 20 := by kernel_rfl
theorem pow13 : (Rows.laid_internal_strconv_uint64pow10 : DataW Unit) = Lib.tabData .u64 Lib.pow10Tab := by kernel_rfl
theorem env_of_met {W : World} (h : laidMet Tryz.prog Rows.textKnownRow.laid W) : Env13 W := by
  have h2 := laid_tail13 (laid_tail13 h)
  have h4 := laid_tail13 (laid_tail13 h2)
  have h5 := laid_tail13 h4
  rw [pow13] at h2
  have ht := Lib.tabIs_of_head (rest := _) g2_13 t2_13 Tryz.underlying173 Tryz.underlying61 cu13 ct13 h2
  obtain ⟨a, s, hv, _⟩ := laid_sentinel h4 g1_13 t1_13 Tryz.underlying58 rowE13 Tryz.underlying168 Tryz.underlying170 rfl rfl Tryz.underlying9 ce13 cs13
  obtain ⟨a2, s2, hv2, _⟩ := laid_sentinel h5 g0_13 t0_13 Tryz.underlying58 rowE13 Tryz.underlying168 Tryz.underlying170 rfl rfl Tryz.underlying9 ce13 cs13
  refine ⟨fun nm hnm => ?_, ⟨_, _, hv2⟩, ⟨_, _, hv⟩⟩
  have e : Tryz.laysM171_ren.g 17 = 2 := rfl
  rw [e] at hnm
  unfold Lib.TabIs World.var? at ht ⊢
  rw [g2_13] at ht
  rw [hnm]
  exact ht
theorem env_of_laid {W : World} (h : laidMetH Tryz.prog Rows.textKnownRow.laid W) : Env13 W := env_of_met h
/-! ### One world that holds them -/
def tab13 (l : List Int) (k : IntKind) : Array Value := (l.map (Value.int k)).toArray
def errRange13 : ByteArray := { data := #[118, 97, 108, 117, 101, 32, 111, 117, 116, 32, 111, 102, 32, 114, 97, 110, 103, 101] }
def errSyntax13 : ByteArray := { data := #[105, 110, 118, 97, 108, 105, 100, 32, 115, 121, 110, 116, 97, 120] }
noncomputable def low13 : Nat := (World.holding Tryz.prog default ⟨#[], #[], []⟩).heap.size
def putCells (cs : Array Value) : Obj → Obj
  | .cells _ t frozen => .cells cs t frozen
  | o => o
noncomputable def laidWorld13 (os : Os) : World :=
  let w0 := World.holding Tryz.prog os ⟨#[.cells #[.string errSyntax13] 170, .cells #[.string errRange13] 170], #[], []⟩
  { w0 with heap := (((((((w0.heap.modify 0 (putCells #[.iface 168 (.pointer (some ⟨low13, 0, none⟩))])).modify 1 (putCells #[.iface 168 (.pointer (some ⟨low13 + 1, 0, none⟩))])).modify 2 (putCells (tab13 [1, 10, 100, 1000, 10000, 100000, 1000000, 10000000, 100000000, 1000000000, 10000000000, 100000000000, 1000000000000, 10000000000000, 100000000000000, 1000000000000000, 10000000000000000, 100000000000000000, 1000000000000000000, 10000000000000000000] .u64))).modify 3
      (putCells (tab13 [240, 240, 240, 240, 240, 240, 240, 240, 240, 240, 240, 240, 240, 240, 240, 240, 240, 240, 240, 240, 240, 240, 240, 240, 240, 240, 240, 240, 240, 240, 240, 240, 240, 240, 240, 240, 240, 240, 240, 240, 240, 240, 240, 240, 240, 240, 240, 240, 240, 240, 240, 240, 240, 240, 240, 240, 240, 240, 240, 240, 240, 240, 240, 240, 240, 240, 240, 240, 240, 240, 240, 240, 240, 240, 240, 240, 240, 240, 240, 240, 240, 240, 240, 240, 240, 240, 240, 240, 240, 240, 240, 240, 240, 240, 240, 240, 240, 240, 240, 240, 240, 240, 240, 240, 240, 240, 240, 240, 240, 240, 240, 240, 240, 240, 240, 240, 240, 240, 240, 240, 240, 240, 240, 240, 240, 240, 240, 240, 241, 241, 241, 241, 241, 241, 241, 241, 241, 241, 241, 241, 241, 241, 241, 241, 241, 241, 241, 241, 241, 241, 241, 241, 241, 241, 241, 241, 241, 241, 241, 241, 241, 241, 241, 241, 241, 241, 241, 241, 241, 241, 241, 241, 241, 241, 241, 241, 241, 241, 241, 241, 241, 241, 241, 241, 241, 241, 241, 241, 241, 241, 241, 241, 241, 241, 2, 2, 2, 2, 2, 2, 2, 2, 2, 2, 2, 2, 2, 2, 2, 2, 2, 2, 2, 2, 2, 2, 2, 2, 2, 2, 2, 2, 2, 2, 19, 3, 3, 3, 3, 3, 3, 3, 3, 3, 3, 3, 3, 35, 3, 3, 52, 4, 4, 4, 68, 241, 241, 241, 241, 241, 241, 241, 241, 241, 241, 241] .u8))).modify 4
      (putCells (tab13 [128, 191, 160, 191, 128, 159, 144, 191, 128, 143, 0, 0, 0, 0, 0, 0, 0, 0, 0, 0, 0, 0, 0, 0, 0, 0, 0, 0, 0, 0, 0, 0] .u8))).modify 6 (putCells (tab13 [0, 1, 28, 2, 29, 14, 24, 3, 30, 22, 20, 15, 25, 17, 4, 8, 31, 27, 13, 23, 21, 19, 16, 7, 26, 12, 18, 6, 11, 5, 10, 9] .u8))).modify 7 (putCells (tab13 [0, 1, 56, 2, 57, 49, 28, 3, 61, 58, 42, 50, 38, 29, 17, 4, 62, 47, 59, 36, 45, 43, 51, 22, 53, 39, 33, 30, 24, 18, 12, 5, 63, 55, 48, 27, 60, 41, 37, 16, 46, 35, 44, 21, 52, 32, 23, 11, 54, 26, 40, 15, 34, 20, 31, 10, 25, 14, 19, 9, 13, 8, 7, 6] .u8))) }
theorem laid_met13 (os : Os) (args : Array Value) : laidMet Tryz.prog Rows.textKnownRow.laid ((laidWorld13 os).forCall (fun _ _ => 0) ⟨#[], args, []⟩).memory :=
  laidMet_of_run' 8 (by kernel_rfl) (by kernel_rfl)
theorem refs13 (os : Os) (args : Array Value) : ((laidWorld13 os).forCall (fun _ _ => 0) ⟨#[], args, []⟩).variablesRefB Tryz.checked.prog = true := by kernel_rfl
theorem rest13 (os : Os) (args : Array Value) : (((laidWorld13 os).forCall (fun _ _ => 0) ⟨#[], args, []⟩).heap.toList.drop Tryz.checked.prog.globals.size).take ((begin Tryz.checked.prog (fun _ _ => 0) default).world.heap.size - Tryz.checked.prog.globals.size) =
      (begin Tryz.checked.prog (fun _ _ => 0) default).world.heap.toList.drop Tryz.checked.prog.globals.size := by kernel_rfl
end Go.Proofs.YtohlifeenhaifaaGreatDoor
