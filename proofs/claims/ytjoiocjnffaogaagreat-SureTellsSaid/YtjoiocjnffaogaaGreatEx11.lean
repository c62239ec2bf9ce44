/- The chapter's examples, reckoned. Plain mathematics. -/
import Derived.Test.YtjoiocjnffaogaaGreatMath11C
import Derived.Test.YtjoiocjnffaogaaGreatS08
namespace Go.Proofs.YtjoiocjnffaogaaGreat
set_option linter.unusedVariables false
set_option linter.unusedSimpArgs false

def threeV : List InsV := [⟨26, 0, 0, 0, 14, []⟩, ⟨1, 1, 0, 0, 5, []⟩, ⟨29, 1, 0, 0, 0, []⟩]
def nopV : List InsV := [⟨0, 0, 0, 0, 0, []⟩, ⟨29, 0, 0, 0, 0, []⟩]
theorem three_check : check10 threeV = 0 := by decide +kernel
theorem nop_check : check10 nopV = 0 := by decide +kernel
theorem three_mask : (List.range 3).map (maskV threeV 1) = [1, 1, 1] := by decide +kernel
theorem nop_mask : (List.range 2).map (maskV nopV 0) = [0, 0] := by decide +kernel
theorem three_reads : (List.range 3).map (fun i => rdsV (threeV.getD i .zero)) = [[0], [], [1]] := by decide +kernel
theorem nop_reads : (List.range 2).map (fun i => rdsV (nopV.getD i .zero)) = [[], [0]] := by decide +kernel
theorem three_sure : (List.range 3).map (fun p => (sureB threeV p 0 0, sureB threeV p 1 2)) = [(false, false), (true, false), (true, true)] := by decide +kernel
theorem nop_sure : sureB nopV 0 0 1 = false := by decide +kernel
end Go.Proofs.YtjoiocjnffaogaaGreat
