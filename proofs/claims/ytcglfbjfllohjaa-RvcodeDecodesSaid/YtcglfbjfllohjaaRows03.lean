/- The table of package rvcode: the slice of structs that rows makes, cell for cell. No condition. -/
import Derived.Test.YtcglfbjfllohjaaFields03
import Derived.Laws.CopyOwn
import Derived.Deep.RegionWith
namespace Go.Proofs.Ytcglfbjfllohjaa
open Go.RowKit
set_option linter.unusedVariables false

def rowsM : Array Value := #[(.string ⟨#[109, 117, 108]⟩), .int .u8 82, .int .u8 51, .int .u8 0, .int .u8 1,
  (.string ⟨#[109, 117, 108, 104]⟩), .int .u8 82, .int .u8 51, .int .u8 1, .int .u8 1,
  (.string ⟨#[109, 117, 108, 104, 115, 117]⟩), .int .u8 82, .int .u8 51, .int .u8 2, .int .u8 1,
  (.string ⟨#[109, 117, 108, 104, 117]⟩), .int .u8 82, .int .u8 51, .int .u8 3, .int .u8 1,
  (.string ⟨#[100, 105, 118]⟩), .int .u8 82, .int .u8 51, .int .u8 4, .int .u8 1,
  (.string ⟨#[100, 105, 118, 117]⟩), .int .u8 82, .int .u8 51, .int .u8 5, .int .u8 1,
  (.string ⟨#[114, 101, 109]⟩), .int .u8 82, .int .u8 51, .int .u8 6, .int .u8 1,
  (.string ⟨#[114, 101, 109, 117]⟩), .int .u8 82, .int .u8 51, .int .u8 7, .int .u8 1,
  (.string ⟨#[109, 117, 108, 119]⟩), .int .u8 82, .int .u8 59, .int .u8 0, .int .u8 1,
  (.string ⟨#[100, 105, 118, 119]⟩), .int .u8 82, .int .u8 59, .int .u8 4, .int .u8 1,
  (.string ⟨#[100, 105, 118, 117, 119]⟩), .int .u8 82, .int .u8 59, .int .u8 5, .int .u8 1,
  (.string ⟨#[114, 101, 109, 119]⟩), .int .u8 82, .int .u8 59, .int .u8 6, .int .u8 1,
  (.string ⟨#[114, 101, 109, 117, 119]⟩), .int .u8 82, .int .u8 59, .int .u8 7, .int .u8 1]
def rows0 : Array Value := #[(.string ⟨#[]⟩), .int .u8 0, .int .u8 0, .int .u8 0, .int .u8 0,
  (.string ⟨#[108, 117, 105]⟩), .int .u8 85, .int .u8 55, .int .u8 0, .int .u8 0,
  (.string ⟨#[97, 117, 105, 112, 99]⟩), .int .u8 85, .int .u8 23, .int .u8 0, .int .u8 0,
  (.string ⟨#[106, 97, 108]⟩), .int .u8 74, .int .u8 111, .int .u8 0, .int .u8 0,
  (.string ⟨#[106, 97, 108, 114]⟩), .int .u8 73, .int .u8 103, .int .u8 0, .int .u8 0,
  (.string ⟨#[98, 101, 113]⟩), .int .u8 66, .int .u8 99, .int .u8 0, .int .u8 0,
  (.string ⟨#[98, 110, 101]⟩), .int .u8 66, .int .u8 99, .int .u8 1, .int .u8 0,
  (.string ⟨#[98, 108, 116]⟩), .int .u8 66, .int .u8 99, .int .u8 4, .int .u8 0,
  (.string ⟨#[98, 103, 101]⟩), .int .u8 66, .int .u8 99, .int .u8 5, .int .u8 0,
  (.string ⟨#[98, 108, 116, 117]⟩), .int .u8 66, .int .u8 99, .int .u8 6, .int .u8 0,
  (.string ⟨#[98, 103, 101, 117]⟩), .int .u8 66, .int .u8 99, .int .u8 7, .int .u8 0,
  (.string ⟨#[108, 98]⟩), .int .u8 73, .int .u8 3, .int .u8 0, .int .u8 0,
  (.string ⟨#[108, 104]⟩), .int .u8 73, .int .u8 3, .int .u8 1, .int .u8 0,
  (.string ⟨#[108, 119]⟩), .int .u8 73, .int .u8 3, .int .u8 2, .int .u8 0,
  (.string ⟨#[108, 100]⟩), .int .u8 73, .int .u8 3, .int .u8 3, .int .u8 0,
  (.string ⟨#[108, 98, 117]⟩), .int .u8 73, .int .u8 3, .int .u8 4, .int .u8 0,
  (.string ⟨#[108, 104, 117]⟩), .int .u8 73, .int .u8 3, .int .u8 5, .int .u8 0,
  (.string ⟨#[108, 119, 117]⟩), .int .u8 73, .int .u8 3, .int .u8 6, .int .u8 0,
  (.string ⟨#[115, 98]⟩), .int .u8 83, .int .u8 35, .int .u8 0, .int .u8 0,
  (.string ⟨#[115, 104]⟩), .int .u8 83, .int .u8 35, .int .u8 1, .int .u8 0,
  (.string ⟨#[115, 119]⟩), .int .u8 83, .int .u8 35, .int .u8 2, .int .u8 0,
  (.string ⟨#[115, 100]⟩), .int .u8 83, .int .u8 35, .int .u8 3, .int .u8 0,
  (.string ⟨#[97, 100, 100, 105]⟩), .int .u8 73, .int .u8 19, .int .u8 0, .int .u8 0,
  (.string ⟨#[115, 108, 116, 105]⟩), .int .u8 73, .int .u8 19, .int .u8 2, .int .u8 0,
  (.string ⟨#[115, 108, 116, 105, 117]⟩), .int .u8 73, .int .u8 19, .int .u8 3, .int .u8 0,
  (.string ⟨#[120, 111, 114, 105]⟩), .int .u8 73, .int .u8 19, .int .u8 4, .int .u8 0,
  (.string ⟨#[111, 114, 105]⟩), .int .u8 73, .int .u8 19, .int .u8 6, .int .u8 0,
  (.string ⟨#[97, 110, 100, 105]⟩), .int .u8 73, .int .u8 19, .int .u8 7, .int .u8 0,
  (.string ⟨#[115, 108, 108, 105]⟩), .int .u8 88, .int .u8 19, .int .u8 1, .int .u8 0,
  (.string ⟨#[115, 114, 108, 105]⟩), .int .u8 88, .int .u8 19, .int .u8 5, .int .u8 0,
  (.string ⟨#[115, 114, 97, 105]⟩), .int .u8 88, .int .u8 19, .int .u8 5, .int .u8 16,
  (.string ⟨#[97, 100, 100, 105, 119]⟩), .int .u8 73, .int .u8 27, .int .u8 0, .int .u8 0,
  (.string ⟨#[115, 108, 108, 105, 119]⟩), .int .u8 89, .int .u8 27, .int .u8 1, .int .u8 0,
  (.string ⟨#[115, 114, 108, 105, 119]⟩), .int .u8 89, .int .u8 27, .int .u8 5, .int .u8 0,
  (.string ⟨#[115, 114, 97, 105, 119]⟩), .int .u8 89, .int .u8 27, .int .u8 5, .int .u8 32,
  (.string ⟨#[97, 100, 100]⟩), .int .u8 82, .int .u8 51, .int .u8 0, .int .u8 0,
  (.string ⟨#[115, 117, 98]⟩), .int .u8 82, .int .u8 51, .int .u8 0, .int .u8 32,
  (.string ⟨#[115, 108, 108]⟩), .int .u8 82, .int .u8 51, .int .u8 1, .int .u8 0,
  (.string ⟨#[115, 108, 116]⟩), .int .u8 82, .int .u8 51, .int .u8 2, .int .u8 0,
  (.string ⟨#[115, 108, 116, 117]⟩), .int .u8 82, .int .u8 51, .int .u8 3, .int .u8 0,
  (.string ⟨#[120, 111, 114]⟩), .int .u8 82, .int .u8 51, .int .u8 4, .int .u8 0,
  (.string ⟨#[115, 114, 108]⟩), .int .u8 82, .int .u8 51, .int .u8 5, .int .u8 0,
  (.string ⟨#[115, 114, 97]⟩), .int .u8 82, .int .u8 51, .int .u8 5, .int .u8 32,
  (.string ⟨#[111, 114]⟩), .int .u8 82, .int .u8 51, .int .u8 6, .int .u8 0,
  (.string ⟨#[97, 110, 100]⟩), .int .u8 82, .int .u8 51, .int .u8 7, .int .u8 0,
  (.string ⟨#[97, 100, 100, 119]⟩), .int .u8 82, .int .u8 59, .int .u8 0, .int .u8 0,
  (.string ⟨#[115, 117, 98, 119]⟩), .int .u8 82, .int .u8 59, .int .u8 0, .int .u8 32,
  (.string ⟨#[115, 108, 108, 119]⟩), .int .u8 82, .int .u8 59, .int .u8 1, .int .u8 0,
  (.string ⟨#[115, 114, 108, 119]⟩), .int .u8 82, .int .u8 59, .int .u8 5, .int .u8 0,
  (.string ⟨#[115, 114, 97, 119]⟩), .int .u8 82, .int .u8 59, .int .u8 5, .int .u8 32,
  (.string ⟨#[]⟩), .int .u8 0, .int .u8 0, .int .u8 0, .int .u8 0,
  (.string ⟨#[]⟩), .int .u8 0, .int .u8 0, .int .u8 0, .int .u8 0,
  (.string ⟨#[]⟩), .int .u8 0, .int .u8 0, .int .u8 0, .int .u8 0,
  (.string ⟨#[]⟩), .int .u8 0, .int .u8 0, .int .u8 0, .int .u8 0,
  (.string ⟨#[]⟩), .int .u8 0, .int .u8 0, .int .u8 0, .int .u8 0,
  (.string ⟨#[]⟩), .int .u8 0, .int .u8 0, .int .u8 0, .int .u8 0,
  (.string ⟨#[]⟩), .int .u8 0, .int .u8 0, .int .u8 0, .int .u8 0,
  (.string ⟨#[]⟩), .int .u8 0, .int .u8 0, .int .u8 0, .int .u8 0,
  (.string ⟨#[]⟩), .int .u8 0, .int .u8 0, .int .u8 0, .int .u8 0,
  (.string ⟨#[]⟩), .int .u8 0, .int .u8 0, .int .u8 0, .int .u8 0,
  (.string ⟨#[]⟩), .int .u8 0, .int .u8 0, .int .u8 0, .int .u8 0,
  (.string ⟨#[]⟩), .int .u8 0, .int .u8 0, .int .u8 0, .int .u8 0,
  (.string ⟨#[]⟩), .int .u8 0, .int .u8 0, .int .u8 0, .int .u8 0,
  (.string ⟨#[101, 99, 97, 108, 108]⟩), .int .u8 69, .int .u8 115, .int .u8 0, .int .u8 0]
def rows1 : Array Value := #[(.string ⟨#[]⟩), .int .u8 0, .int .u8 0, .int .u8 0, .int .u8 0,
  (.string ⟨#[108, 117, 105]⟩), .int .u8 85, .int .u8 55, .int .u8 0, .int .u8 0,
  (.string ⟨#[97, 117, 105, 112, 99]⟩), .int .u8 85, .int .u8 23, .int .u8 0, .int .u8 0,
  (.string ⟨#[106, 97, 108]⟩), .int .u8 74, .int .u8 111, .int .u8 0, .int .u8 0,
  (.string ⟨#[106, 97, 108, 114]⟩), .int .u8 73, .int .u8 103, .int .u8 0, .int .u8 0,
  (.string ⟨#[98, 101, 113]⟩), .int .u8 66, .int .u8 99, .int .u8 0, .int .u8 0,
  (.string ⟨#[98, 110, 101]⟩), .int .u8 66, .int .u8 99, .int .u8 1, .int .u8 0,
  (.string ⟨#[98, 108, 116]⟩), .int .u8 66, .int .u8 99, .int .u8 4, .int .u8 0,
  (.string ⟨#[98, 103, 101]⟩), .int .u8 66, .int .u8 99, .int .u8 5, .int .u8 0,
  (.string ⟨#[98, 108, 116, 117]⟩), .int .u8 66, .int .u8 99, .int .u8 6, .int .u8 0,
  (.string ⟨#[98, 103, 101, 117]⟩), .int .u8 66, .int .u8 99, .int .u8 7, .int .u8 0,
  (.string ⟨#[108, 98]⟩), .int .u8 73, .int .u8 3, .int .u8 0, .int .u8 0,
  (.string ⟨#[108, 104]⟩), .int .u8 73, .int .u8 3, .int .u8 1, .int .u8 0,
  (.string ⟨#[108, 119]⟩), .int .u8 73, .int .u8 3, .int .u8 2, .int .u8 0,
  (.string ⟨#[108, 100]⟩), .int .u8 73, .int .u8 3, .int .u8 3, .int .u8 0,
  (.string ⟨#[108, 98, 117]⟩), .int .u8 73, .int .u8 3, .int .u8 4, .int .u8 0,
  (.string ⟨#[108, 104, 117]⟩), .int .u8 73, .int .u8 3, .int .u8 5, .int .u8 0,
  (.string ⟨#[108, 119, 117]⟩), .int .u8 73, .int .u8 3, .int .u8 6, .int .u8 0,
  (.string ⟨#[115, 98]⟩), .int .u8 83, .int .u8 35, .int .u8 0, .int .u8 0,
  (.string ⟨#[115, 104]⟩), .int .u8 83, .int .u8 35, .int .u8 1, .int .u8 0,
  (.string ⟨#[115, 119]⟩), .int .u8 83, .int .u8 35, .int .u8 2, .int .u8 0,
  (.string ⟨#[115, 100]⟩), .int .u8 83, .int .u8 35, .int .u8 3, .int .u8 0,
  (.string ⟨#[97, 100, 100, 105]⟩), .int .u8 73, .int .u8 19, .int .u8 0, .int .u8 0,
  (.string ⟨#[115, 108, 116, 105]⟩), .int .u8 73, .int .u8 19, .int .u8 2, .int .u8 0,
  (.string ⟨#[115, 108, 116, 105, 117]⟩), .int .u8 73, .int .u8 19, .int .u8 3, .int .u8 0,
  (.string ⟨#[120, 111, 114, 105]⟩), .int .u8 73, .int .u8 19, .int .u8 4, .int .u8 0,
  (.string ⟨#[111, 114, 105]⟩), .int .u8 73, .int .u8 19, .int .u8 6, .int .u8 0,
  (.string ⟨#[97, 110, 100, 105]⟩), .int .u8 73, .int .u8 19, .int .u8 7, .int .u8 0,
  (.string ⟨#[115, 108, 108, 105]⟩), .int .u8 88, .int .u8 19, .int .u8 1, .int .u8 0,
  (.string ⟨#[115, 114, 108, 105]⟩), .int .u8 88, .int .u8 19, .int .u8 5, .int .u8 0,
  (.string ⟨#[115, 114, 97, 105]⟩), .int .u8 88, .int .u8 19, .int .u8 5, .int .u8 16,
  (.string ⟨#[97, 100, 100, 105, 119]⟩), .int .u8 73, .int .u8 27, .int .u8 0, .int .u8 0,
  (.string ⟨#[115, 108, 108, 105, 119]⟩), .int .u8 89, .int .u8 27, .int .u8 1, .int .u8 0,
  (.string ⟨#[115, 114, 108, 105, 119]⟩), .int .u8 89, .int .u8 27, .int .u8 5, .int .u8 0,
  (.string ⟨#[115, 114, 97, 105, 119]⟩), .int .u8 89, .int .u8 27, .int .u8 5, .int .u8 32,
  (.string ⟨#[97, 100, 100]⟩), .int .u8 82, .int .u8 51, .int .u8 0, .int .u8 0,
  (.string ⟨#[115, 117, 98]⟩), .int .u8 82, .int .u8 51, .int .u8 0, .int .u8 32,
  (.string ⟨#[115, 108, 108]⟩), .int .u8 82, .int .u8 51, .int .u8 1, .int .u8 0,
  (.string ⟨#[115, 108, 116]⟩), .int .u8 82, .int .u8 51, .int .u8 2, .int .u8 0,
  (.string ⟨#[115, 108, 116, 117]⟩), .int .u8 82, .int .u8 51, .int .u8 3, .int .u8 0,
  (.string ⟨#[120, 111, 114]⟩), .int .u8 82, .int .u8 51, .int .u8 4, .int .u8 0,
  (.string ⟨#[115, 114, 108]⟩), .int .u8 82, .int .u8 51, .int .u8 5, .int .u8 0,
  (.string ⟨#[115, 114, 97]⟩), .int .u8 82, .int .u8 51, .int .u8 5, .int .u8 32,
  (.string ⟨#[111, 114]⟩), .int .u8 82, .int .u8 51, .int .u8 6, .int .u8 0,
  (.string ⟨#[97, 110, 100]⟩), .int .u8 82, .int .u8 51, .int .u8 7, .int .u8 0,
  (.string ⟨#[97, 100, 100, 119]⟩), .int .u8 82, .int .u8 59, .int .u8 0, .int .u8 0,
  (.string ⟨#[115, 117, 98, 119]⟩), .int .u8 82, .int .u8 59, .int .u8 0, .int .u8 32,
  (.string ⟨#[115, 108, 108, 119]⟩), .int .u8 82, .int .u8 59, .int .u8 1, .int .u8 0,
  (.string ⟨#[115, 114, 108, 119]⟩), .int .u8 82, .int .u8 59, .int .u8 5, .int .u8 0,
  (.string ⟨#[115, 114, 97, 119]⟩), .int .u8 82, .int .u8 59, .int .u8 5, .int .u8 32,
  (.string ⟨#[109, 117, 108]⟩), .int .u8 82, .int .u8 51, .int .u8 0, .int .u8 1,
  (.string ⟨#[109, 117, 108, 104]⟩), .int .u8 82, .int .u8 51, .int .u8 1, .int .u8 1,
  (.string ⟨#[109, 117, 108, 104, 115, 117]⟩), .int .u8 82, .int .u8 51, .int .u8 2, .int .u8 1,
  (.string ⟨#[109, 117, 108, 104, 117]⟩), .int .u8 82, .int .u8 51, .int .u8 3, .int .u8 1,
  (.string ⟨#[100, 105, 118]⟩), .int .u8 82, .int .u8 51, .int .u8 4, .int .u8 1,
  (.string ⟨#[100, 105, 118, 117]⟩), .int .u8 82, .int .u8 51, .int .u8 5, .int .u8 1,
  (.string ⟨#[114, 101, 109]⟩), .int .u8 82, .int .u8 51, .int .u8 6, .int .u8 1,
  (.string ⟨#[114, 101, 109, 117]⟩), .int .u8 82, .int .u8 51, .int .u8 7, .int .u8 1,
  (.string ⟨#[109, 117, 108, 119]⟩), .int .u8 82, .int .u8 59, .int .u8 0, .int .u8 1,
  (.string ⟨#[100, 105, 118, 119]⟩), .int .u8 82, .int .u8 59, .int .u8 4, .int .u8 1,
  (.string ⟨#[100, 105, 118, 117, 119]⟩), .int .u8 82, .int .u8 59, .int .u8 5, .int .u8 1,
  (.string ⟨#[114, 101, 109, 119]⟩), .int .u8 82, .int .u8 59, .int .u8 6, .int .u8 1,
  (.string ⟨#[114, 101, 109, 117, 119]⟩), .int .u8 82, .int .u8 59, .int .u8 7, .int .u8 1,
  (.string ⟨#[101, 99, 97, 108, 108]⟩), .int .u8 69, .int .u8 115, .int .u8 0, .int .u8 0]

/-- A list of plain operations, run. -/
def plainRun (P : Program) : List Oper → Act → World → Option (Act × World)
  | [], a, w => some (a, w)
  | o :: rest, a, w =>
    match o.guard with
    | some _ => none
    | none => match (execOp a.eval o).run P w with
      | .ok (.value v) w' => plainRun P rest (a.put o.dst v) w'
      | .ok .skip w' => plainRun P rest (a.put o.dst undef) w'
      | _ => none
theorem plain_list {P : Program} {ops : Array Oper} {Q : Exit → Act → World → Prop} : ∀ (l : List Oper) (a a' : Act) (w w' : World), plainRun P l a w = some (a', w') → Q .normal a' w' → wpList P ops Q l a w
  | [], a, a', w, w', h, hq => by
    unfold plainRun at h
    injection h with h
    injection h with h1 h2
    subst h1 h2
    exact hq
  | o :: rest, a, a', w, w', h, hq => by
    unfold plainRun at h
    unfold wpList
    split at h
    · cases h
    · rename_i hg
      rw [if_pos (by simp [Region.wanted, hg])]
      refine .inl ?_
      unfold Oper.wp
      split at h
      · rename_i v w1 he
        rw [he]
        exact plain_list rest _ a' w1 w' h hq
      · rename_i w1 he
        rw [he]
        exact plain_list rest _ a' w1 w' h hq
      · cases h

def rowA1 : Value := (.agg #[(.string ⟨#[108, 117, 105]⟩), .int .u8 85, .int .u8 55, .int .u8 0, .int .u8 0])
def rowA2 : Value := (.agg #[(.string ⟨#[97, 117, 105, 112, 99]⟩), .int .u8 85, .int .u8 23, .int .u8 0, .int .u8 0])
def rowA3 : Value := (.agg #[(.string ⟨#[106, 97, 108]⟩), .int .u8 74, .int .u8 111, .int .u8 0, .int .u8 0])
def rowA4 : Value := (.agg #[(.string ⟨#[106, 97, 108, 114]⟩), .int .u8 73, .int .u8 103, .int .u8 0, .int .u8 0])
def rowA5 : Value := (.agg #[(.string ⟨#[98, 101, 113]⟩), .int .u8 66, .int .u8 99, .int .u8 0, .int .u8 0])
def rowA6 : Value := (.agg #[(.string ⟨#[98, 110, 101]⟩), .int .u8 66, .int .u8 99, .int .u8 1, .int .u8 0])
def rowA7 : Value := (.agg #[(.string ⟨#[98, 108, 116]⟩), .int .u8 66, .int .u8 99, .int .u8 4, .int .u8 0])
def rowA8 : Value := (.agg #[(.string ⟨#[98, 103, 101]⟩), .int .u8 66, .int .u8 99, .int .u8 5, .int .u8 0])
def rowA9 : Value := (.agg #[(.string ⟨#[98, 108, 116, 117]⟩), .int .u8 66, .int .u8 99, .int .u8 6, .int .u8 0])
def rowA10 : Value := (.agg #[(.string ⟨#[98, 103, 101, 117]⟩), .int .u8 66, .int .u8 99, .int .u8 7, .int .u8 0])
def rowA11 : Value := (.agg #[(.string ⟨#[108, 98]⟩), .int .u8 73, .int .u8 3, .int .u8 0, .int .u8 0])
def rowA12 : Value := (.agg #[(.string ⟨#[108, 104]⟩), .int .u8 73, .int .u8 3, .int .u8 1, .int .u8 0])
def rowA13 : Value := (.agg #[(.string ⟨#[108, 119]⟩), .int .u8 73, .int .u8 3, .int .u8 2, .int .u8 0])
def rowA14 : Value := (.agg #[(.string ⟨#[108, 100]⟩), .int .u8 73, .int .u8 3, .int .u8 3, .int .u8 0])
def rowA15 : Value := (.agg #[(.string ⟨#[108, 98, 117]⟩), .int .u8 73, .int .u8 3, .int .u8 4, .int .u8 0])
def rowA16 : Value := (.agg #[(.string ⟨#[108, 104, 117]⟩), .int .u8 73, .int .u8 3, .int .u8 5, .int .u8 0])
def rowA17 : Value := (.agg #[(.string ⟨#[108, 119, 117]⟩), .int .u8 73, .int .u8 3, .int .u8 6, .int .u8 0])
def rowA18 : Value := (.agg #[(.string ⟨#[115, 98]⟩), .int .u8 83, .int .u8 35, .int .u8 0, .int .u8 0])
def rowA19 : Value := (.agg #[(.string ⟨#[115, 104]⟩), .int .u8 83, .int .u8 35, .int .u8 1, .int .u8 0])
def rowA20 : Value := (.agg #[(.string ⟨#[115, 119]⟩), .int .u8 83, .int .u8 35, .int .u8 2, .int .u8 0])
def rowA21 : Value := (.agg #[(.string ⟨#[115, 100]⟩), .int .u8 83, .int .u8 35, .int .u8 3, .int .u8 0])
def rowA22 : Value := (.agg #[(.string ⟨#[97, 100, 100, 105]⟩), .int .u8 73, .int .u8 19, .int .u8 0, .int .u8 0])
def rowA23 : Value := (.agg #[(.string ⟨#[115, 108, 116, 105]⟩), .int .u8 73, .int .u8 19, .int .u8 2, .int .u8 0])
def rowA24 : Value := (.agg #[(.string ⟨#[115, 108, 116, 105, 117]⟩), .int .u8 73, .int .u8 19, .int .u8 3, .int .u8 0])
def rowA25 : Value := (.agg #[(.string ⟨#[120, 111, 114, 105]⟩), .int .u8 73, .int .u8 19, .int .u8 4, .int .u8 0])
def rowA26 : Value := (.agg #[(.string ⟨#[111, 114, 105]⟩), .int .u8 73, .int .u8 19, .int .u8 6, .int .u8 0])
def rowA27 : Value := (.agg #[(.string ⟨#[97, 110, 100, 105]⟩), .int .u8 73, .int .u8 19, .int .u8 7, .int .u8 0])
def rowA28 : Value := (.agg #[(.string ⟨#[115, 108, 108, 105]⟩), .int .u8 88, .int .u8 19, .int .u8 1, .int .u8 0])
def rowA29 : Value := (.agg #[(.string ⟨#[115, 114, 108, 105]⟩), .int .u8 88, .int .u8 19, .int .u8 5, .int .u8 0])
def rowA30 : Value := (.agg #[(.string ⟨#[115, 114, 97, 105]⟩), .int .u8 88, .int .u8 19, .int .u8 5, .int .u8 16])
def rowA31 : Value := (.agg #[(.string ⟨#[97, 100, 100, 105, 119]⟩), .int .u8 73, .int .u8 27, .int .u8 0, .int .u8 0])
def rowA32 : Value := (.agg #[(.string ⟨#[115, 108, 108, 105, 119]⟩), .int .u8 89, .int .u8 27, .int .u8 1, .int .u8 0])
def rowA33 : Value := (.agg #[(.string ⟨#[115, 114, 108, 105, 119]⟩), .int .u8 89, .int .u8 27, .int .u8 5, .int .u8 0])
def rowA34 : Value := (.agg #[(.string ⟨#[115, 114, 97, 105, 119]⟩), .int .u8 89, .int .u8 27, .int .u8 5, .int .u8 32])
def rowA35 : Value := (.agg #[(.string ⟨#[97, 100, 100]⟩), .int .u8 82, .int .u8 51, .int .u8 0, .int .u8 0])
def rowA36 : Value := (.agg #[(.string ⟨#[115, 117, 98]⟩), .int .u8 82, .int .u8 51, .int .u8 0, .int .u8 32])
def rowA37 : Value := (.agg #[(.string ⟨#[115, 108, 108]⟩), .int .u8 82, .int .u8 51, .int .u8 1, .int .u8 0])
def rowA38 : Value := (.agg #[(.string ⟨#[115, 108, 116]⟩), .int .u8 82, .int .u8 51, .int .u8 2, .int .u8 0])
def rowA39 : Value := (.agg #[(.string ⟨#[115, 108, 116, 117]⟩), .int .u8 82, .int .u8 51, .int .u8 3, .int .u8 0])
def rowA40 : Value := (.agg #[(.string ⟨#[120, 111, 114]⟩), .int .u8 82, .int .u8 51, .int .u8 4, .int .u8 0])
def rowA41 : Value := (.agg #[(.string ⟨#[115, 114, 108]⟩), .int .u8 82, .int .u8 51, .int .u8 5, .int .u8 0])
def rowA42 : Value := (.agg #[(.string ⟨#[115, 114, 97]⟩), .int .u8 82, .int .u8 51, .int .u8 5, .int .u8 32])
def rowA43 : Value := (.agg #[(.string ⟨#[111, 114]⟩), .int .u8 82, .int .u8 51, .int .u8 6, .int .u8 0])
def rowA44 : Value := (.agg #[(.string ⟨#[97, 110, 100]⟩), .int .u8 82, .int .u8 51, .int .u8 7, .int .u8 0])
def rowA45 : Value := (.agg #[(.string ⟨#[97, 100, 100, 119]⟩), .int .u8 82, .int .u8 59, .int .u8 0, .int .u8 0])
def rowA46 : Value := (.agg #[(.string ⟨#[115, 117, 98, 119]⟩), .int .u8 82, .int .u8 59, .int .u8 0, .int .u8 32])
def rowA47 : Value := (.agg #[(.string ⟨#[115, 108, 108, 119]⟩), .int .u8 82, .int .u8 59, .int .u8 1, .int .u8 0])
def rowA48 : Value := (.agg #[(.string ⟨#[115, 114, 108, 119]⟩), .int .u8 82, .int .u8 59, .int .u8 5, .int .u8 0])
def rowA49 : Value := (.agg #[(.string ⟨#[115, 114, 97, 119]⟩), .int .u8 82, .int .u8 59, .int .u8 5, .int .u8 32])
def rowA63 : Value := (.agg #[(.string ⟨#[101, 99, 97, 108, 108]⟩), .int .u8 69, .int .u8 115, .int .u8 0, .int .u8 0])

set_option maxRecDepth 100000 in
theorem rowsM_any (w : World) : Calls Try.prog 39 #[] w fun e w' => e = .returned (.slice (some ⟨w.heap.size, 0, none⟩) 13 13) ∧ w.alloc (.cells rowsM 40) = w' := by
  go_enter Try.func39, Try.ntmps39
  refine wp_seq ?_
  refine wp_region_lit ?_
  refine plain_list _ _ _ _ _ (by kernel_rfl : plainRun Try.prog _ _ _ = some ({ tmps := #[(.slice none 0 0), undef, undef, undef, undef, undef, undef, undef, undef, undef, undef, undef, undef, undef, undef], defers := [] }, w)) ?_
  refine wp_seq ?_
  refine wp_region_lit ?_
  refine plain_list _ _ _ _ _ (by kernel_rfl : plainRun Try.prog _ _ _ = some ({ tmps := #[(.slice (some ⟨w.heap.size, 0, none⟩) 13 13), (.agg #[(.string ⟨#[109, 117, 108]⟩), .int .u8 82, .int .u8 51, .int .u8 0, .int .u8 1]), (.agg #[(.string ⟨#[109, 117, 108, 104]⟩), .int .u8 82, .int .u8 51, .int .u8 1, .int .u8 1]), (.agg #[(.string ⟨#[109, 117, 108, 104, 115, 117]⟩), .int .u8 82, .int .u8 51, .int .u8 2, .int .u8 1]), (.agg #[(.string ⟨#[109, 117, 108, 104, 117]⟩), .int .u8 82, .int .u8 51, .int .u8 3, .int .u8 1]), (.agg #[(.string ⟨#[100, 105, 118]⟩), .int .u8 82, .int .u8 51, .int .u8 4, .int .u8 1]), (.agg #[(.string ⟨#[100, 105, 118, 117]⟩), .int .u8 82, .int .u8 51, .int .u8 5, .int .u8 1]), (.agg #[(.string ⟨#[114, 101, 109]⟩), .int .u8 82, .int .u8 51, .int .u8 6, .int .u8 1]), (.agg #[(.string ⟨#[114, 101, 109, 117]⟩), .int .u8 82, .int .u8 51, .int .u8 7, .int .u8 1]), (.agg #[(.string ⟨#[109, 117, 108, 119]⟩), .int .u8 82, .int .u8 59, .int .u8 0, .int .u8 1]), (.agg #[(.string ⟨#[100, 105, 118, 119]⟩), .int .u8 82, .int .u8 59, .int .u8 4, .int .u8 1]), (.agg #[(.string ⟨#[100, 105, 118, 117, 119]⟩), .int .u8 82, .int .u8 59, .int .u8 5, .int .u8 1]), (.agg #[(.string ⟨#[114, 101, 109, 119]⟩), .int .u8 82, .int .u8 59, .int .u8 6, .int .u8 1]), (.agg #[(.string ⟨#[114, 101, 109, 117, 119]⟩), .int .u8 82, .int .u8 59, .int .u8 7, .int .u8 1]), (.slice (some ⟨w.heap.size, 0, none⟩) 13 13)], defers := [] }, w.alloc (.cells rowsM 40))) ?_
  go_wp2
  go_ret
  exact ⟨rfl, rfl⟩
section
variable {P : Program} {w : World}
theorem run_copy_wide (dT sT ty elem : TypeId) (g o dLen dCap : Nat) (a : Addr) (sLen sCap : Nat) (cur : Array Value) (t : TypeId) (cs : List Value) (s n : Nat)
    (hu : P.underlying dT = some (.slice elem)) (hs : (P.info? elem).map (·.size) = some s)
    (hg : w.heap[g]? = some (.cells cur t (0, 0))) (hn : n = Nat.min sLen dLen) (hl : cs.length = n * s)
    (hsrc : ∀ j v, cs[j]? = some v → w.cell? (a.add j) = some v) (hfit : o + cs.length ≤ cur.size) (h1 : ∀ v ∈ cs, v.oneCell' = true) :
    (Builtin.copy_ #[dT, sT] ty #[.slice (some ⟨g, o, none⟩) dLen dCap, .slice (some a) sLen sCap]).run P w =
      .ok (goInt n) (w.setRow g (cur.toList.take o ++ cs ++ cur.toList.drop (o + cs.length)).toArray) := by
  have hlo := run_loadCells_list (P := P) w a cs hsrc
  have hst := run_storeCells_at P g o t cs 0 cur w hg (by simpa using hfit) h1
  rw [hl] at hlo
  cases hq : P.info? elem with
  | none => simp [hq] at hs
  | some i =>
    have hi : i.size = s := by simpa [hq] using hs
    simp [Builtin.copy_, run_underlying hu, Builtin.lenOf, Builtin.firstCells, sizeOf, typeInfo, hq, hi, ← hn, hlo, hst]
theorem step_copy_wide {ops : Array Oper} {o : Oper} {a : Act} {K : Act → World → Prop} {Q : Exit → Act → World → Prop} {E : Prop} (hgd : o.guard = none) (d s : Operand) (dT sT : TypeId)
    (ho : o.op = .call { callee := .builtin .copy, args := #[d, s], argTypes := #[dT, sT] }) (elem : TypeId) (sz n : Nat) (hu : P.underlying dT = some (.slice elem)) (hsz : (P.info? elem).map (·.size) = some sz)
    (g off dLen dCap : Nat) (ad : Addr) (sLen sCap : Nat) (hd : a.eval d = .slice (some ⟨g, off, none⟩) dLen dCap) (hs : a.eval s = .slice (some ad) sLen sCap)
    (cur : Array Value) (t : TypeId) (hg : w.heap[g]? = some (.cells cur t (0, 0))) (cs : List Value) (hn : n = Nat.min sLen dLen) (hl : cs.length = n * sz)
    (hsrc : ∀ j v, cs[j]? = some v → w.cell? (ad.add j) = some v) (hfit : off + cs.length ≤ cur.size) (h1 : ∀ v ∈ cs, v.oneCell' = true)
    (h : K (a.put o.dst (goInt n)) (w.setRow g (cur.toList.take off ++ cs ++ cur.toList.drop (off + cs.length)).toArray)) :
    if Region.wanted o (yielded ops a.tmps) = true then Oper.wp P o a w K Q else E := by
  have hw : Region.wanted o (yielded ops a.tmps) = true := by simp [Region.wanted, hgd]
  rw [if_pos hw]
  have hrun := run_copy_wide (P := P) (w := w) dT sT o.type elem g off dLen dCap ad sLen sCap cur t cs sz n hu hsz hg hn hl hsrc hfit h1
  have he : (execOp a.eval o).run P w = .ok (.value (goInt n)) (w.setRow g (cur.toList.take off ++ cs ++ cur.toList.drop (off + cs.length)).toArray) := by
    simp [execOp, ho, resolve, invoke, builtin, hd, hs, hrun, Result.andThen]
  unfold Oper.wp
  rw [he]
  exact h
end
theorem row_new (w : World) (p : Nat) (cs : Array Value) (t : TypeId) (hp : p = w.heap.size) : ∀ j v, cs.toList[j]? = some v → (w.alloc (.cells cs t)).cell? ((⟨p, 0, none⟩ : Addr).add j) = some v := by
  intro j v hv
  have hadd : (⟨p, 0, none⟩ : Addr).add j = ⟨p, j, none⟩ := by unfold Addr.add; split <;> simp_all
  rw [hadd]
  exact new_cell w cs t p j v hp (by simpa using hv)
theorem rows_sum : (rows0.toList.take 250 ++ (rowsM.toList ++ rows0.toList.drop (250 + rowsM.size))).toArray = rows1 := by kernel_rfl
def RowsDone (w : World) (e : Ending) (w' : World) : Prop :=
  e = .returned (.slice (some ⟨w.heap.size, 0, none⟩) 64 64) ∧ w'.heap[w.heap.size]? = some (.cells rows1 40 (0, 0)) ∧ Below w.heap.size w w'
theorem rowsM_size : rowsM.toList.length = 13 * 5 := by kernel_rfl
theorem rows0_size : rows0.size = 320 := by kernel_rfl
theorem rowsM_one : ∀ v ∈ rowsM.toList, v.oneCell' = true := by
  have : rowsM.toList.all (·.oneCell') = true := by kernel_rfl
  exact fun v hv => List.all_eq_true.1 this v hv
set_option maxRecDepth 100000 in
set_option maxHeartbeats 4000000 in
theorem rows_any (w : World) : Calls Try.prog 33 #[] w (RowsDone w) := by
  go_enter Try.func33, Try.ntmps33
  refine wp_seq ?_
  refine wp_region_lit ?_
  refine plain_list _ _ _ _ _ (by kernel_rfl : plainRun Try.prog _ _ _ = some ({ tmps := #[(.slice none 0 0), undef, undef, undef, undef, undef, undef, undef, undef, undef, undef, undef, undef, undef, undef, undef, undef, undef, undef, undef, undef, undef, undef, undef, undef, undef, undef, undef, undef, undef, undef, undef, undef, undef, undef, undef, undef, undef, undef, undef, undef, undef, undef, undef, undef, undef, undef, undef, undef, undef, undef, undef, undef, undef, undef, undef, undef, undef], defers := [] }, w)) ?_
  refine wp_seq ?_
  refine wp_region_lit ?_
  refine plain_list _ _ _ _ _ (by kernel_rfl : plainRun Try.prog _ _ _ = some ({ tmps := #[(.slice none 0 0), (.slice (some ⟨w.heap.size, 0, none⟩) 64 64), rowA1, rowA2, rowA3, rowA4, rowA5, rowA6, rowA7, rowA8, rowA9, rowA10, rowA11, rowA12, rowA13, rowA14, rowA15, rowA16, rowA17, rowA18, rowA19, rowA20, rowA21, rowA22, rowA23, rowA24, rowA25, rowA26, rowA27, rowA28, rowA29, rowA30, rowA31, rowA32, rowA33, rowA34, rowA35, rowA36, rowA37, rowA38, rowA39, rowA40, rowA41, rowA42, rowA43, rowA44, rowA45, rowA46, rowA47, rowA48, rowA49, rowA63, (.slice (some ⟨w.heap.size, 0, none⟩) 64 64), undef, undef, undef, undef, undef], defers := [] }, w.alloc (.cells rows0 40))) ?_
  have hg0 : (w.alloc (.cells rows0 40)).heap[w.heap.size]? = some (.cells rows0 40 (0, 0)) := heap_alloc_new w _
  have hb0 : Below w.heap.size w (w.alloc (.cells rows0 40)) := (Below.refl _ _).alloc (Nat.le_refl _) _
  have hz0 : (w.alloc (.cells rows0 40)).heap.size = w.heap.size + 1 := by simp
  generalize w.alloc (.cells rows0 40) = W at *
  have HG := Lib.hid hg0
  have HB := Lib.hid hb0
  have HZ := Lib.hid hz0
  clear hg0 hb0 hz0
  have HS := Lib.hid rows_sum
  have hu : (Try.prog.info? 40).map (·.size) = some 5 := by kernel_rfl
  have HU := Lib.hid hu
  clear hu
  go_wp2
  go_region_law (first
    | (refine step_copy_wide rfl (.tmp 54) (.tmp 55) 60 60 rfl 40 5 13 Try.underlying60 HU.out w.heap.size 250 14 14 ⟨W.heap.size, 0, none⟩ 13 13 rfl rfl rows0 40 ((heap_alloc_old _ _ (show w.heap.size < W.heap.size by rw [HZ.out]; omega)).trans HG.out) rowsM.toList rfl rowsM_size (row_new _ _ _ _ rfl) (by rw [rowsM_size, rows0_size]; decide) rowsM_one ?_)
    | (go_simp; go_at_call 39; (with_reducible refine (rowsM_any _).mono ?_); rintro e w1 ⟨rfl, rfl⟩))
  all_goals
    rw [HS.out]
    go_wp2
    go_ret
    refine ⟨rfl, ?_, ?_⟩
    · exact setRow_heap (W.alloc (.cells rowsM 40)) w.heap.size rows0 rows1 40 _ ((heap_alloc_old _ _ (show w.heap.size < W.heap.size by rw [HZ.out]; omega)).trans HG.out)
    · exact below_setRow (w := (W.alloc (.cells rowsM 40)).drew) (below_drewN (HB.out.alloc HB.out.size _) 1) (Nat.le_refl _) _
end Go.Proofs.Ytcglfbjfllohjaa
