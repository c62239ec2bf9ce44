/- The document's own way of layer 3, in the words of the instructions' mathematics: Check, Encode, Name, Form, what is read of a word. No condition but that the numbers are the machine's. -/
import Derived.Test.YtcglfbjfllohjaaREnc03
import Derived.Test.YtcglfbjfllohjaaRCheck031
import Derived.Test.YtcglfbjfllohjaaRCheck032
import Derived.Test.YtcglfbjfllohjaaRReads03
namespace Go.Proofs.Ytcglfbjfllohjaa
open Go.RowKit
set_option linter.unusedVariables false

theorem rchk_yes_R (op rd rs1 rs2 imm : Int) (k : Nat) (s : ByteArray) (a b c : Int) (hr : ∀ w, Calls Try.prog 28 #[.int .i64 op] w (RRowYes w k s ⟨#[82]⟩ a b c)) (h : Allowed .R rd rs1 rs2 imm) (w : World) :
    Calls Try.prog 13 #[.agg #[.int .i64 op, .int .i64 rd, .int .i64 rs1, .int .i64 rs2, .int .i64 imm]] w (RCheckDone w 0) :=
  rcheck_R_0 op rd rs1 rs2 imm k s a b c w hr (fun w => register_yes _ _ w h.1) (fun w => register_yes _ _ w h.2.1) (fun w => register_yes _ _ w h.2.2.1) (fun w => immediate_yes_R _ w h.2.2.2)
theorem rchk_no_R (op rd rs1 rs2 imm : Int) (k : Nat) (s : ByteArray) (a b c : Int) (hr : ∀ w, Calls Try.prog 28 #[.int .i64 op] w (RRowYes w k s ⟨#[82]⟩ a b c)) (h : ¬ Allowed .R rd rs1 rs2 imm) (w : World) :
    Calls Try.prog 13 #[.agg #[.int .i64 op, .int .i64 rd, .int .i64 rs1, .int .i64 rs2, .int .i64 imm]] w (RCheckDone w 2) := by
  by_cases h1 : regOk rd true
  · by_cases h2 : regOk rs1 true
    · by_cases h3 : regOk rs2 true
      · have h4 : ¬ immOk .R imm := fun h4 => h ⟨h1, h2, h3, h4⟩
        exact rcheck_R_4 op rd rs1 rs2 imm k s a b c w hr (fun w => register_yes _ _ w h1) (fun w => register_yes _ _ w h2) (fun w => register_yes _ _ w h3) (fun w => immediate_no_R _ w h4)
      · exact rcheck_R_3 op rd rs1 rs2 imm k s a b c w hr (fun w => register_yes _ _ w h1) (fun w => register_yes _ _ w h2) (fun w => register_no _ _ w h3)
    · exact rcheck_R_2 op rd rs1 rs2 imm k s a b c w hr (fun w => register_yes _ _ w h1) (fun w => register_no _ _ w h2)
  · exact rcheck_R_1 op rd rs1 rs2 imm k s a b c w hr (fun w => register_no _ _ w h1)
theorem rchk_yes_I (op rd rs1 rs2 imm : Int) (k : Nat) (s : ByteArray) (a b c : Int) (hr : ∀ w, Calls Try.prog 28 #[.int .i64 op] w (RRowYes w k s ⟨#[73]⟩ a b c)) (h : Allowed .I rd rs1 rs2 imm) (w : World) :
    Calls Try.prog 13 #[.agg #[.int .i64 op, .int .i64 rd, .int .i64 rs1, .int .i64 rs2, .int .i64 imm]] w (RCheckDone w 0) :=
  rcheck_I_0 op rd rs1 rs2 imm k s a b c w hr (fun w => register_yes _ _ w h.1) (fun w => register_yes _ _ w h.2.1) (fun w => register_yes _ _ w h.2.2.1) (fun w => immediate_yes_I _ w h.2.2.2)
theorem rchk_no_I (op rd rs1 rs2 imm : Int) (k : Nat) (s : ByteArray) (a b c : Int) (hr : ∀ w, Calls Try.prog 28 #[.int .i64 op] w (RRowYes w k s ⟨#[73]⟩ a b c)) (h : ¬ Allowed .I rd rs1 rs2 imm) (w : World) :
    Calls Try.prog 13 #[.agg #[.int .i64 op, .int .i64 rd, .int .i64 rs1, .int .i64 rs2, .int .i64 imm]] w (RCheckDone w 2) := by
  by_cases h1 : regOk rd true
  · by_cases h2 : regOk rs1 true
    · by_cases h3 : regOk rs2 false
      · have h4 : ¬ immOk .I imm := fun h4 => h ⟨h1, h2, h3, h4⟩
        exact rcheck_I_4 op rd rs1 rs2 imm k s a b c w hr (fun w => register_yes _ _ w h1) (fun w => register_yes _ _ w h2) (fun w => register_yes _ _ w h3) (fun w => immediate_no_I _ w h4)
      · exact rcheck_I_3 op rd rs1 rs2 imm k s a b c w hr (fun w => register_yes _ _ w h1) (fun w => register_yes _ _ w h2) (fun w => register_no _ _ w h3)
    · exact rcheck_I_2 op rd rs1 rs2 imm k s a b c w hr (fun w => register_yes _ _ w h1) (fun w => register_no _ _ w h2)
  · exact rcheck_I_1 op rd rs1 rs2 imm k s a b c w hr (fun w => register_no _ _ w h1)
theorem rchk_yes_X (op rd rs1 rs2 imm : Int) (k : Nat) (s : ByteArray) (a b c : Int) (hr : ∀ w, Calls Try.prog 28 #[.int .i64 op] w (RRowYes w k s ⟨#[88]⟩ a b c)) (h : Allowed .X rd rs1 rs2 imm) (w : World) :
    Calls Try.prog 13 #[.agg #[.int .i64 op, .int .i64 rd, .int .i64 rs1, .int .i64 rs2, .int .i64 imm]] w (RCheckDone w 0) :=
  rcheck_X_0 op rd rs1 rs2 imm k s a b c w hr (fun w => register_yes _ _ w h.1) (fun w => register_yes _ _ w h.2.1) (fun w => register_yes _ _ w h.2.2.1) (fun w => immediate_yes_X _ w h.2.2.2)
theorem rchk_no_X (op rd rs1 rs2 imm : Int) (k : Nat) (s : ByteArray) (a b c : Int) (hr : ∀ w, Calls Try.prog 28 #[.int .i64 op] w (RRowYes w k s ⟨#[88]⟩ a b c)) (h : ¬ Allowed .X rd rs1 rs2 imm) (w : World) :
    Calls Try.prog 13 #[.agg #[.int .i64 op, .int .i64 rd, .int .i64 rs1, .int .i64 rs2, .int .i64 imm]] w (RCheckDone w 2) := by
  by_cases h1 : regOk rd true
  · by_cases h2 : regOk rs1 true
    · by_cases h3 : regOk rs2 false
      · have h4 : ¬ immOk .X imm := fun h4 => h ⟨h1, h2, h3, h4⟩
        exact rcheck_X_4 op rd rs1 rs2 imm k s a b c w hr (fun w => register_yes _ _ w h1) (fun w => register_yes _ _ w h2) (fun w => register_yes _ _ w h3) (fun w => immediate_no_X _ w h4)
      · exact rcheck_X_3 op rd rs1 rs2 imm k s a b c w hr (fun w => register_yes _ _ w h1) (fun w => register_yes _ _ w h2) (fun w => register_no _ _ w h3)
    · exact rcheck_X_2 op rd rs1 rs2 imm k s a b c w hr (fun w => register_yes _ _ w h1) (fun w => register_no _ _ w h2)
  · exact rcheck_X_1 op rd rs1 rs2 imm k s a b c w hr (fun w => register_no _ _ w h1)
theorem rchk_yes_Y (op rd rs1 rs2 imm : Int) (k : Nat) (s : ByteArray) (a b c : Int) (hr : ∀ w, Calls Try.prog 28 #[.int .i64 op] w (RRowYes w k s ⟨#[89]⟩ a b c)) (h : Allowed .Y rd rs1 rs2 imm) (w : World) :
    Calls Try.prog 13 #[.agg #[.int .i64 op, .int .i64 rd, .int .i64 rs1, .int .i64 rs2, .int .i64 imm]] w (RCheckDone w 0) :=
  rcheck_Y_0 op rd rs1 rs2 imm k s a b c w hr (fun w => register_yes _ _ w h.1) (fun w => register_yes _ _ w h.2.1) (fun w => register_yes _ _ w h.2.2.1) (fun w => immediate_yes_Y _ w h.2.2.2)
theorem rchk_no_Y (op rd rs1 rs2 imm : Int) (k : Nat) (s : ByteArray) (a b c : Int) (hr : ∀ w, Calls Try.prog 28 #[.int .i64 op] w (RRowYes w k s ⟨#[89]⟩ a b c)) (h : ¬ Allowed .Y rd rs1 rs2 imm) (w : World) :
    Calls Try.prog 13 #[.agg #[.int .i64 op, .int .i64 rd, .int .i64 rs1, .int .i64 rs2, .int .i64 imm]] w (RCheckDone w 2) := by
  by_cases h1 : regOk rd true
  · by_cases h2 : regOk rs1 true
    · by_cases h3 : regOk rs2 false
      · have h4 : ¬ immOk .Y imm := fun h4 => h ⟨h1, h2, h3, h4⟩
        exact rcheck_Y_4 op rd rs1 rs2 imm k s a b c w hr (fun w => register_yes _ _ w h1) (fun w => register_yes _ _ w h2) (fun w => register_yes _ _ w h3) (fun w => immediate_no_Y _ w h4)
      · exact rcheck_Y_3 op rd rs1 rs2 imm k s a b c w hr (fun w => register_yes _ _ w h1) (fun w => register_yes _ _ w h2) (fun w => register_no _ _ w h3)
    · exact rcheck_Y_2 op rd rs1 rs2 imm k s a b c w hr (fun w => register_yes _ _ w h1) (fun w => register_no _ _ w h2)
  · exact rcheck_Y_1 op rd rs1 rs2 imm k s a b c w hr (fun w => register_no _ _ w h1)
theorem rchk_yes_S (op rd rs1 rs2 imm : Int) (k : Nat) (s : ByteArray) (a b c : Int) (hr : ∀ w, Calls Try.prog 28 #[.int .i64 op] w (RRowYes w k s ⟨#[83]⟩ a b c)) (h : Allowed .S rd rs1 rs2 imm) (w : World) :
    Calls Try.prog 13 #[.agg #[.int .i64 op, .int .i64 rd, .int .i64 rs1, .int .i64 rs2, .int .i64 imm]] w (RCheckDone w 0) :=
  rcheck_S_0 op rd rs1 rs2 imm k s a b c w hr (fun w => register_yes _ _ w h.1) (fun w => register_yes _ _ w h.2.1) (fun w => register_yes _ _ w h.2.2.1) (fun w => immediate_yes_S _ w h.2.2.2)
theorem rchk_no_S (op rd rs1 rs2 imm : Int) (k : Nat) (s : ByteArray) (a b c : Int) (hr : ∀ w, Calls Try.prog 28 #[.int .i64 op] w (RRowYes w k s ⟨#[83]⟩ a b c)) (h : ¬ Allowed .S rd rs1 rs2 imm) (w : World) :
    Calls Try.prog 13 #[.agg #[.int .i64 op, .int .i64 rd, .int .i64 rs1, .int .i64 rs2, .int .i64 imm]] w (RCheckDone w 2) := by
  by_cases h1 : regOk rd false
  · by_cases h2 : regOk rs1 true
    · by_cases h3 : regOk rs2 true
      · have h4 : ¬ immOk .S imm := fun h4 => h ⟨h1, h2, h3, h4⟩
        exact rcheck_S_4 op rd rs1 rs2 imm k s a b c w hr (fun w => register_yes _ _ w h1) (fun w => register_yes _ _ w h2) (fun w => register_yes _ _ w h3) (fun w => immediate_no_S _ w h4)
      · exact rcheck_S_3 op rd rs1 rs2 imm k s a b c w hr (fun w => register_yes _ _ w h1) (fun w => register_yes _ _ w h2) (fun w => register_no _ _ w h3)
    · exact rcheck_S_2 op rd rs1 rs2 imm k s a b c w hr (fun w => register_yes _ _ w h1) (fun w => register_no _ _ w h2)
  · exact rcheck_S_1 op rd rs1 rs2 imm k s a b c w hr (fun w => register_no _ _ w h1)
theorem rchk_yes_B (op rd rs1 rs2 imm : Int) (k : Nat) (s : ByteArray) (a b c : Int) (hr : ∀ w, Calls Try.prog 28 #[.int .i64 op] w (RRowYes w k s ⟨#[66]⟩ a b c)) (h : Allowed .B rd rs1 rs2 imm) (w : World) :
    Calls Try.prog 13 #[.agg #[.int .i64 op, .int .i64 rd, .int .i64 rs1, .int .i64 rs2, .int .i64 imm]] w (RCheckDone w 0) :=
  rcheck_B_0 op rd rs1 rs2 imm k s a b c w hr (fun w => register_yes _ _ w h.1) (fun w => register_yes _ _ w h.2.1) (fun w => register_yes _ _ w h.2.2.1) (fun w => immediate_yes_B _ w h.2.2.2)
theorem rchk_no_B (op rd rs1 rs2 imm : Int) (k : Nat) (s : ByteArray) (a b c : Int) (hr : ∀ w, Calls Try.prog 28 #[.int .i64 op] w (RRowYes w k s ⟨#[66]⟩ a b c)) (h : ¬ Allowed .B rd rs1 rs2 imm) (w : World) :
    Calls Try.prog 13 #[.agg #[.int .i64 op, .int .i64 rd, .int .i64 rs1, .int .i64 rs2, .int .i64 imm]] w (RCheckDone w 2) := by
  by_cases h1 : regOk rd false
  · by_cases h2 : regOk rs1 true
    · by_cases h3 : regOk rs2 true
      · have h4 : ¬ immOk .B imm := fun h4 => h ⟨h1, h2, h3, h4⟩
        exact rcheck_B_4 op rd rs1 rs2 imm k s a b c w hr (fun w => register_yes _ _ w h1) (fun w => register_yes _ _ w h2) (fun w => register_yes _ _ w h3) (fun w => immediate_no_B _ w h4)
      · exact rcheck_B_3 op rd rs1 rs2 imm k s a b c w hr (fun w => register_yes _ _ w h1) (fun w => register_yes _ _ w h2) (fun w => register_no _ _ w h3)
    · exact rcheck_B_2 op rd rs1 rs2 imm k s a b c w hr (fun w => register_yes _ _ w h1) (fun w => register_no _ _ w h2)
  · exact rcheck_B_1 op rd rs1 rs2 imm k s a b c w hr (fun w => register_no _ _ w h1)
theorem rchk_yes_U (op rd rs1 rs2 imm : Int) (k : Nat) (s : ByteArray) (a b c : Int) (hr : ∀ w, Calls Try.prog 28 #[.int .i64 op] w (RRowYes w k s ⟨#[85]⟩ a b c)) (h : Allowed .U rd rs1 rs2 imm) (w : World) :
    Calls Try.prog 13 #[.agg #[.int .i64 op, .int .i64 rd, .int .i64 rs1, .int .i64 rs2, .int .i64 imm]] w (RCheckDone w 0) :=
  rcheck_U_0 op rd rs1 rs2 imm k s a b c w hr (fun w => register_yes _ _ w h.1) (fun w => register_yes _ _ w h.2.1) (fun w => register_yes _ _ w h.2.2.1) (fun w => immediate_yes_U _ w h.2.2.2)
theorem rchk_no_U (op rd rs1 rs2 imm : Int) (k : Nat) (s : ByteArray) (a b c : Int) (hr : ∀ w, Calls Try.prog 28 #[.int .i64 op] w (RRowYes w k s ⟨#[85]⟩ a b c)) (h : ¬ Allowed .U rd rs1 rs2 imm) (w : World) :
    Calls Try.prog 13 #[.agg #[.int .i64 op, .int .i64 rd, .int .i64 rs1, .int .i64 rs2, .int .i64 imm]] w (RCheckDone w 2) := by
  by_cases h1 : regOk rd true
  · by_cases h2 : regOk rs1 false
    · by_cases h3 : regOk rs2 false
      · have h4 : ¬ immOk .U imm := fun h4 => h ⟨h1, h2, h3, h4⟩
        exact rcheck_U_4 op rd rs1 rs2 imm k s a b c w hr (fun w => register_yes _ _ w h1) (fun w => register_yes _ _ w h2) (fun w => register_yes _ _ w h3) (fun w => immediate_no_U _ w h4)
      · exact rcheck_U_3 op rd rs1 rs2 imm k s a b c w hr (fun w => register_yes _ _ w h1) (fun w => register_yes _ _ w h2) (fun w => register_no _ _ w h3)
    · exact rcheck_U_2 op rd rs1 rs2 imm k s a b c w hr (fun w => register_yes _ _ w h1) (fun w => register_no _ _ w h2)
  · exact rcheck_U_1 op rd rs1 rs2 imm k s a b c w hr (fun w => register_no _ _ w h1)
theorem rchk_yes_J (op rd rs1 rs2 imm : Int) (k : Nat) (s : ByteArray) (a b c : Int) (hr : ∀ w, Calls Try.prog 28 #[.int .i64 op] w (RRowYes w k s ⟨#[74]⟩ a b c)) (h : Allowed .J rd rs1 rs2 imm) (w : World) :
    Calls Try.prog 13 #[.agg #[.int .i64 op, .int .i64 rd, .int .i64 rs1, .int .i64 rs2, .int .i64 imm]] w (RCheckDone w 0) :=
  rcheck_J_0 op rd rs1 rs2 imm k s a b c w hr (fun w => register_yes _ _ w h.1) (fun w => register_yes _ _ w h.2.1) (fun w => register_yes _ _ w h.2.2.1) (fun w => immediate_yes_J _ w h.2.2.2)
theorem rchk_no_J (op rd rs1 rs2 imm : Int) (k : Nat) (s : ByteArray) (a b c : Int) (hr : ∀ w, Calls Try.prog 28 #[.int .i64 op] w (RRowYes w k s ⟨#[74]⟩ a b c)) (h : ¬ Allowed .J rd rs1 rs2 imm) (w : World) :
    Calls Try.prog 13 #[.agg #[.int .i64 op, .int .i64 rd, .int .i64 rs1, .int .i64 rs2, .int .i64 imm]] w (RCheckDone w 2) := by
  by_cases h1 : regOk rd true
  · by_cases h2 : regOk rs1 false
    · by_cases h3 : regOk rs2 false
      · have h4 : ¬ immOk .J imm := fun h4 => h ⟨h1, h2, h3, h4⟩
        exact rcheck_J_4 op rd rs1 rs2 imm k s a b c w hr (fun w => register_yes _ _ w h1) (fun w => register_yes _ _ w h2) (fun w => register_yes _ _ w h3) (fun w => immediate_no_J _ w h4)
      · exact rcheck_J_3 op rd rs1 rs2 imm k s a b c w hr (fun w => register_yes _ _ w h1) (fun w => register_yes _ _ w h2) (fun w => register_no _ _ w h3)
    · exact rcheck_J_2 op rd rs1 rs2 imm k s a b c w hr (fun w => register_yes _ _ w h1) (fun w => register_no _ _ w h2)
  · exact rcheck_J_1 op rd rs1 rs2 imm k s a b c w hr (fun w => register_no _ _ w h1)
theorem rchk_yes_E (op rd rs1 rs2 imm : Int) (k : Nat) (s : ByteArray) (a b c : Int) (hr : ∀ w, Calls Try.prog 28 #[.int .i64 op] w (RRowYes w k s ⟨#[69]⟩ a b c)) (h : Allowed .E rd rs1 rs2 imm) (w : World) :
    Calls Try.prog 13 #[.agg #[.int .i64 op, .int .i64 rd, .int .i64 rs1, .int .i64 rs2, .int .i64 imm]] w (RCheckDone w 0) :=
  rcheck_E_0 op rd rs1 rs2 imm k s a b c w hr (fun w => register_yes _ _ w h.1) (fun w => register_yes _ _ w h.2.1) (fun w => register_yes _ _ w h.2.2.1) (fun w => immediate_yes_E _ w h.2.2.2)
theorem rchk_no_E (op rd rs1 rs2 imm : Int) (k : Nat) (s : ByteArray) (a b c : Int) (hr : ∀ w, Calls Try.prog 28 #[.int .i64 op] w (RRowYes w k s ⟨#[69]⟩ a b c)) (h : ¬ Allowed .E rd rs1 rs2 imm) (w : World) :
    Calls Try.prog 13 #[.agg #[.int .i64 op, .int .i64 rd, .int .i64 rs1, .int .i64 rs2, .int .i64 imm]] w (RCheckDone w 2) := by
  by_cases h1 : regOk rd false
  · by_cases h2 : regOk rs1 false
    · by_cases h3 : regOk rs2 false
      · have h4 : ¬ immOk .E imm := fun h4 => h ⟨h1, h2, h3, h4⟩
        exact rcheck_E_4 op rd rs1 rs2 imm k s a b c w hr (fun w => register_yes _ _ w h1) (fun w => register_yes _ _ w h2) (fun w => register_yes _ _ w h3) (fun w => immediate_no_E _ w h4)
      · exact rcheck_E_3 op rd rs1 rs2 imm k s a b c w hr (fun w => register_yes _ _ w h1) (fun w => register_yes _ _ w h2) (fun w => register_no _ _ w h3)
    · exact rcheck_E_2 op rd rs1 rs2 imm k s a b c w hr (fun w => register_yes _ _ w h1) (fun w => register_no _ _ w h2)
  · exact rcheck_E_1 op rd rs1 rs2 imm k s a b c w hr (fun w => register_no _ _ w h1)
theorem rchk_yes (f : RvForm) (op rd rs1 rs2 imm : Int) (k : Nat) (s : ByteArray) (a b c : Int) (hr : ∀ w, Calls Try.prog 28 #[.int .i64 op] w (RRowYes w k s (FormStr f) a b c)) (h : Allowed f rd rs1 rs2 imm) (w : World) :
    Calls Try.prog 13 #[.agg #[.int .i64 op, .int .i64 rd, .int .i64 rs1, .int .i64 rs2, .int .i64 imm]] w (RCheckDone w 0) := by
  cases f
  · exact rchk_yes_R op rd rs1 rs2 imm k s a b c hr h w
  · exact rchk_yes_I op rd rs1 rs2 imm k s a b c hr h w
  · exact rchk_yes_X op rd rs1 rs2 imm k s a b c hr h w
  · exact rchk_yes_Y op rd rs1 rs2 imm k s a b c hr h w
  · exact rchk_yes_S op rd rs1 rs2 imm k s a b c hr h w
  · exact rchk_yes_B op rd rs1 rs2 imm k s a b c hr h w
  · exact rchk_yes_U op rd rs1 rs2 imm k s a b c hr h w
  · exact rchk_yes_J op rd rs1 rs2 imm k s a b c hr h w
  · exact rchk_yes_E op rd rs1 rs2 imm k s a b c hr h w
theorem rchk_no (f : RvForm) (op rd rs1 rs2 imm : Int) (k : Nat) (s : ByteArray) (a b c : Int) (hr : ∀ w, Calls Try.prog 28 #[.int .i64 op] w (RRowYes w k s (FormStr f) a b c)) (h : ¬ Allowed f rd rs1 rs2 imm) (w : World) :
    Calls Try.prog 13 #[.agg #[.int .i64 op, .int .i64 rd, .int .i64 rs1, .int .i64 rs2, .int .i64 imm]] w (RCheckDone w 2) := by
  cases f
  · exact rchk_no_R op rd rs1 rs2 imm k s a b c hr h w
  · exact rchk_no_I op rd rs1 rs2 imm k s a b c hr h w
  · exact rchk_no_X op rd rs1 rs2 imm k s a b c hr h w
  · exact rchk_no_Y op rd rs1 rs2 imm k s a b c hr h w
  · exact rchk_no_S op rd rs1 rs2 imm k s a b c hr h w
  · exact rchk_no_B op rd rs1 rs2 imm k s a b c hr h w
  · exact rchk_no_U op rd rs1 rs2 imm k s a b c hr h w
  · exact rchk_no_J op rd rs1 rs2 imm k s a b c hr h w
  · exact rchk_no_E op rd rs1 rs2 imm k s a b c hr h w
theorem rcheck_yes {x : RvV} (hx : x.ok) (w : World) : Calls Try.prog 13 #[.agg #[.int .i64 x.op, .int .i64 x.rd, .int .i64 x.rs1, .int .i64 x.rs2, .int .i64 x.imm]] w (RCheckDone w 0) := by
  obtain ⟨op, rd, rs1, rs2, imm⟩ := x
  have h1 : 1 ≤ op := hx.op.1
  have h2 : op ≤ 63 := hx.op.2
  obtain ⟨k, rfl⟩ : ∃ k : Nat, op = k := ⟨op.toNat, by omega⟩
  exact rchk_yes _ k rd rs1 rs2 imm k _ _ _ _ (fun w => rrow_yes k w (by omega) (by omega)) ((ok_iff (k := k) (by omega) (by omega) rd rs1 rs2 imm).1 hx) w
theorem rcheck_no {x : RvV} (hx : ¬ x.ok) (w : World) : Calls Try.prog 13 #[.agg #[.int .i64 x.op, .int .i64 x.rd, .int .i64 x.rs1, .int .i64 x.rs2, .int .i64 x.imm]] w (RCheckDone w 2) := by
  obtain ⟨op, rd, rs1, rs2, imm⟩ := x
  by_cases hop : 1 ≤ op ∧ op ≤ 63
  · obtain ⟨k, rfl⟩ : ∃ k : Nat, op = k := ⟨op.toNat, by omega⟩
    exact rchk_no _ k rd rs1 rs2 imm k _ _ _ _ (fun w => rrow_yes k w (by omega) (by omega)) (fun h => hx ((ok_iff (k := k) (by omega) (by omega) rd rs1 rs2 imm).2 h)) w
  · exact rcheck_out op rd rs1 rs2 imm w (by omega)
theorem reg_31 {n : Int} {b : Bool} (h : regOk n b) : 0 ≤ n ∧ n ≤ 31 := by
  unfold regOk at h
  cases b <;> simp at h <;> omega
theorem immV_bd {f : RvForm} (n : Int) : 0 ≤ immV f n := by
  cases f <;> simp only [immV] <;> omega

/-- A word's sum, as the document adds it. -/
def totV (f : RvForm) (a b c I rd rs1 rs2 : Int) : Int :=
  match f with
  | .R => a + I + rd * 128 + rs1 * 32768 + rs2 * 1048576 + b * 4096 + c * 33554432
  | .I => a + I + rd * 128 + rs1 * 32768 + rs2 * 1048576 + b * 4096
  | .X => a + I + rd * 128 + rs1 * 32768 + rs2 * 1048576 + b * 4096 + c * 67108864
  | .Y => a + I + rd * 128 + rs1 * 32768 + rs2 * 1048576 + b * 4096 + c * 33554432
  | .S => a + I + rd * 128 + rs1 * 32768 + rs2 * 1048576 + b * 4096
  | .B => a + I + rd * 128 + rs1 * 32768 + rs2 * 1048576 + b * 4096
  | .U => a + I + rd * 128 + rs1 * 32768 + rs2 * 1048576
  | .J => a + I + rd * 128 + rs1 * 32768 + rs2 * 1048576
  | .E => a + I + rd * 128 + rs1 * 32768 + rs2 * 1048576
theorem renc_form (f : RvForm) (op rd rs1 rs2 imm : Int) (k : Nat) (s : ByteArray) (a b c : Int) (hc : ∀ w, Calls Try.prog 13 #[.agg #[.int .i64 op, .int .i64 rd, .int .i64 rs1, .int .i64 rs2, .int .i64 imm]] w (RCheckDone w 0))
    (hr : ∀ w, Calls Try.prog 28 #[.int .i64 op] w (RRowYes w k s (FormStr f) a b c)) (hn : -9223372036854775808 ≤ imm ∧ imm < 9223372036854775808)
    (h1 : 0 ≤ rd ∧ rd ≤ 31) (h2 : 0 ≤ rs1 ∧ rs1 ≤ 31) (h3 : 0 ≤ rs2 ∧ rs2 ≤ 31) (ha : 0 ≤ a) (hb : 0 ≤ b) (hcc : 0 ≤ c) (hb' : b < 256) (hc' : c < 128) (ht : totV f a b c (immV f imm) rd rs1 rs2 < 4294967296) (w : World) :
    Calls Try.prog 11 #[.agg #[.int .i64 op, .int .i64 rd, .int .i64 rs1, .int .i64 rs2, .int .i64 imm]] w (EncDone w (totV f a b c (immV f imm) rd rs1 rs2) 0) := by
  cases f
  · exact renc_R op rd rs1 rs2 imm _ k s a b c w hc hr (fun w => imm_R imm w hn.1 hn.2) h1 h2 h3 ha hb hcc (immV_bd imm) hb' hc' ht
  · exact renc_I op rd rs1 rs2 imm _ k s a b c w hc hr (fun w => imm_I imm w hn.1 hn.2) h1 h2 h3 ha hb hcc (immV_bd imm) hb' hc' ht
  · exact renc_X op rd rs1 rs2 imm _ k s a b c w hc hr (fun w => imm_X imm w hn.1 hn.2) h1 h2 h3 ha hb hcc (immV_bd imm) hb' hc' ht
  · exact renc_Y op rd rs1 rs2 imm _ k s a b c w hc hr (fun w => imm_Y imm w hn.1 hn.2) h1 h2 h3 ha hb hcc (immV_bd imm) hb' hc' ht
  · exact renc_S op rd rs1 rs2 imm _ k s a b c w hc hr (fun w => imm_S imm w hn.1 hn.2) h1 h2 h3 ha hb hcc (immV_bd imm) hb' hc' ht
  · exact renc_B op rd rs1 rs2 imm _ k s a b c w hc hr (fun w => imm_B imm w hn.1 hn.2) h1 h2 h3 ha hb hcc (immV_bd imm) hb' hc' ht
  · exact renc_U op rd rs1 rs2 imm _ k s a b c w hc hr (fun w => imm_U imm w hn.1 hn.2) h1 h2 h3 ha hb hcc (immV_bd imm) hb' hc' ht
  · exact renc_J op rd rs1 rs2 imm _ k s a b c w hc hr (fun w => imm_J imm w hn.1 hn.2) h1 h2 h3 ha hb hcc (immV_bd imm) hb' hc' ht
  · exact renc_E op rd rs1 rs2 imm _ k s a b c w hc hr (fun w => imm_E imm w hn.1 hn.2) h1 h2 h3 ha hb hcc (immV_bd imm) hb' hc' ht
theorem tot_is (f : RvForm) (a b c I rd rs1 rs2 : Int) (hb : 0 ≤ b ∧ b < (f.bLim : Int)) (hc : 0 ≤ c ∧ c < (f.cLim : Int)) : totV f a b c I rd rs1 rs2 = a + I + rd * 128 + rs1 * 32768 + rs2 * 1048576 + b * 4096 + c * f.cAt := by
  cases f <;> simp only [RvForm.bLim, RvForm.cLim] at hb hc <;> simp only [totV, RvForm.cAt] <;> omega
theorem cLim_128 (f : RvForm) : (f.cLim : Int) ≤ 128 := by cases f <;> decide
theorem renc_yes {x : RvV} (hx : x.ok) (hi : InI x.imm) (w : World) : Calls Try.prog 11 #[.agg #[.int .i64 x.op, .int .i64 x.rd, .int .i64 x.rs1, .int .i64 x.rs2, .int .i64 x.imm]] w (EncDone w (encV x) 0) := by
  have hf := enc_facts hx
  have hcy := fun w => rcheck_yes hx w
  obtain ⟨op, rd, rs1, rs2, imm⟩ := x
  have h1 : 1 ≤ op := hx.op.1
  have h2 : op ≤ 63 := hx.op.2
  obtain ⟨k, rfl⟩ : ∃ k : Nat, op = k := ⟨op.toNat, by omega⟩
  have ha := (ok_iff (k := k) (by omega) (by omega) rd rs1 rs2 imm).1 hx
  obtain ⟨g1, g2, g3⟩ := row_bd (k := k) (by omega) (by omega)
  have hl := lim_256 (rvRowN k).form
  have hl2 := cLim_128 (rvRowN k).form
  have he : totV (rvRowN k).form (aB k) (bB k) (cB k) (immV (rvRowN k).form imm) rd rs1 rs2 = encV ⟨k, rd, rs1, rs2, imm⟩ := by
    rw [tot_is _ _ _ _ _ _ _ _ g2 g3]
    unfold aB bB cB
    rw [if_neg (by omega), if_neg (by omega), if_neg (by omega)]
    rfl
  have := renc_form (rvRowN k).form k rd rs1 rs2 imm k _ _ _ _ hcy (fun w => rrow_yes k w (by omega) (by omega)) hi (reg_31 ha.1) (reg_31 ha.2.1) (reg_31 ha.2.2.1) g1.1 g2.1 g3.1 (by omega) (by omega) (by rw [he]; exact hf.2.2.2.2.2) w
  rw [he] at this
  exact this
theorem renc_no {x : RvV} (hx : ¬ x.ok) (w : World) : Calls Try.prog 11 #[.agg #[.int .i64 x.op, .int .i64 x.rd, .int .i64 x.rs1, .int .i64 x.rs2, .int .i64 x.imm]] w (EncDone w 0 2) :=
  renc_bad _ _ _ _ _ w (fun w => rcheck_no hx w)
theorem rname_of (op : Int) (s : ByteArray) (v : Value) (bb : Bool) (t a b c : Value) (w : World) (hr : ∀ w, Calls Try.prog 28 #[.int .i64 op] w fun e w' => e = .returned (.tuple #[.agg #[.string s, t, a, b, c], .bool bb]) ∧ Below w.heap.size w w') (ht : Storable t) (ha : Storable a) (hb : Storable b) (hc : Storable c) :
    Calls Try.prog 15 #[.int .i64 op] w (TextDone w s) := by
  have HR := Lib.hid hr
  unfold Storable at ht ha hb hc
  clear hr
  go_enter Try.func15, Try.ntmps15
  go_wp2_with (go_at_call 28; (with_reducible refine (HR.out _).mono ?_); rintro e w1 ⟨rfl, hb⟩; have HB := Lib.hid hb; clear hb)
  go_ret
  exact ⟨rfl, HB.out.alloc HB.out.size _⟩
theorem rform_of (op : Int) (s t : ByteArray) (bb : Bool) (a b c : Value) (w : World) (hr : ∀ w, Calls Try.prog 28 #[.int .i64 op] w fun e w' => e = .returned (.tuple #[.agg #[.string s, .string t, a, b, c], .bool bb]) ∧ Below w.heap.size w w') (ha : Storable a) (hb : Storable b) (hc : Storable c) :
    Calls Try.prog 17 #[.int .i64 op] w (TextDone w t) := by
  have HR := Lib.hid hr
  unfold Storable at ha hb hc
  clear hr
  go_enter Try.func17, Try.ntmps17
  go_wp2_with (go_at_call 28; (with_reducible refine (HR.out _).mono ?_); rintro e w1 ⟨rfl, hb⟩; have HB := Lib.hid hb; clear hb)
  go_ret
  exact ⟨rfl, HB.out.alloc HB.out.size _⟩
theorem st_int (k : IntKind) (n : Int) : Storable (.int k n) := fun w a m => run_store_int _ w a m k n
theorem st_str (s : ByteArray) : Storable (.string s) := fun w a m => run_store_string _ w a m s
theorem rname_any (op : Int) (w : World) : Calls Try.prog 15 #[.int .i64 op] w (TextDone w (nameV op)) := by
  unfold nameV
  split
  · rename_i h
    obtain ⟨k, rfl⟩ : ∃ k : Nat, op = k := ⟨op.toNat, by omega⟩
    exact rname_of k _ (.bool true) _ _ _ _ _ w (fun w => rrow_yes k w (by omega) (by omega)) (st_str _) (st_int _ _) (st_int _ _) (st_int _ _)
  · exact rname_of op _ (.bool true) _ _ _ _ _ w (fun w => rrow_no op w (by omega)) (st_str _) (st_int _ _) (st_int _ _) (st_int _ _)
theorem rform_any (op : Int) (w : World) : Calls Try.prog 17 #[.int .i64 op] w (TextDone w (formV op)) := by
  unfold formV
  split
  · rename_i h
    obtain ⟨k, rfl⟩ : ∃ k : Nat, op = k := ⟨op.toNat, by omega⟩
    exact rform_of k _ _ _ _ _ _ w (fun w => rrow_yes k w (by omega) (by omega)) (st_int _ _) (st_int _ _) (st_int _ _)
  · exact rform_of op _ _ _ _ _ _ w (fun w => rrow_no op w (by omega)) (st_int _ _) (st_int _ _) (st_int _ _)
theorem rreads_form (f : RvForm) (op x : Int) (k : Nat) (s : ByteArray) (a b c : Int) (hx : 0 ≤ x) (hx' : x < 4294967296) (hr : ∀ w, Calls Try.prog 28 #[.int .i64 op] w (RRowYes w k s (FormStr f) a b c)) (w : World) :
    Calls Try.prog 35 #[.int .i64 op, .int .u32 x] w (ReadsDone w (readsR f op x)) := by
  cases f
  · exact reads_R op x k s a b c w hx hx' hr
  · exact reads_I op x k s a b c w hx hx' hr
  · exact reads_X op x k s a b c w hx hx' hr
  · exact reads_Y op x k s a b c w hx hx' hr
  · exact reads_S op x k s a b c w hx hx' hr
  · exact reads_B op x k s a b c w hx hx' hr
  · exact reads_U op x k s a b c w hx hx' hr
  · exact reads_J op x k s a b c w hx hx' hr
  · exact reads_E op x k s a b c w hx hx' hr
theorem rreads_any (k : Nat) (x : Int) (h : 1 ≤ k) (h' : k ≤ 63) (hx : 0 ≤ x) (hx' : x < 4294967296) (w : World) : Calls Try.prog 35 #[.int .i64 k, .int .u32 x] w (ReadsDone w (readsV k x)) :=
  rreads_form _ k x k _ _ _ _ hx hx' (fun w => rrow_yes k w h h') w
end Go.Proofs.Ytcglfbjfllohjaa