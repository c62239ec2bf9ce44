import Derived.Test.YtkfdgpgildanbaaGreatSame15A
import Derived.Test.YtkfdgpgildanbaaGreatSkip15
import Derived.Test.YtkfdgpgildanbaaGreatS11
namespace Go.Proofs.YtkfdgpgildanbaaGreat
open Go.RowKit Go.Shelf
set_option linter.unusedVariables false
set_option linter.unusedSimpArgs false
def q21_0 : Oper := { dst := some 13, op := Op.move (Operand.tmp 0), type := 32, pos := "space.go:124", after := #[], guard := none }
def q21_1 : Oper := { dst := some 14, op := Op.nilCheck (Operand.tmp 13), type := 0, pos := "space.go:124", after := #[{ on := 0, ground := Ground.data }], guard := none }
def q21_2 : Oper := { dst := some 15, op := Op.fieldAddr 80 (Operand.tmp 14) 6, type := 0, pos := "space.go:124", after := #[{ on := 1, ground := Ground.data }], guard := none }
def q21_3 : Oper := { dst := some 16, op := Op.load 77 (Operand.tmp 15), type := 77, pos := "space.go:124", after := #[{ on := 2, ground := Ground.data }], guard := none }
def q21_4 : Oper := { dst := some 17, op := Op.move (Operand.tmp 1), type := 32, pos := "space.go:124", after := #[], guard := none }
def q21_5 : Oper := { dst := some 18, op := Op.nilCheck (Operand.tmp 17), type := 0, pos := "space.go:124", after := #[{ on := 4, ground := Ground.data }], guard := none }
def q21_6 : Oper := { dst := some 19, op := Op.fieldAddr 80 (Operand.tmp 18) 6, type := 0, pos := "space.go:124", after := #[{ on := 5, ground := Ground.data }], guard := none }
def q21_7 : Oper := { dst := some 20, op := Op.load 77 (Operand.tmp 19), type := 77, pos := "space.go:124", after := #[{ on := 6, ground := Ground.data }], guard := none }
def q21_8 : Oper := { dst := some 21, op := Op.binOp BinOp.eql 77 (Operand.tmp 16) (Operand.tmp 20) 77, type := 4, pos := "space.go:124", after := #[{ on := 3, ground := Ground.data }, { on := 7, ground := Ground.data }], guard := none }
def q21_9 : Oper := { dst := some 22, op := Op.move (Operand.tmp 21), type := 4, pos := "space.go:124", after := #[{ on := 8, ground := Ground.data }], guard := none }
def q21_10 : Oper := { dst := some 23, op := Op.move (Operand.tmp 0), type := 32, pos := "space.go:124", after := #[{ on := 9, ground := Ground.guard }], guard := some (9, true) }
def q21_11 : Oper := { dst := some 24, op := Op.nilCheck (Operand.tmp 23), type := 0, pos := "space.go:124", after := #[{ on := 10, ground := Ground.data }, { on := 9, ground := Ground.guard }], guard := some (9, true) }
def q21_12 : Oper := { dst := some 25, op := Op.fieldAddr 80 (Operand.tmp 24) 5, type := 0, pos := "space.go:124", after := #[{ on := 11, ground := Ground.data }, { on := 9, ground := Ground.guard }], guard := some (9, true) }
def q21_13 : Oper := { dst := some 26, op := Op.call { callee := Callee.value (Operand.func 72), args := #[Operand.tmp 25], argTypes := #[75] }, type := 2, pos := "space.go:124", after := #[{ on := 12, ground := Ground.data }, { on := 9, ground := Ground.chain }, { on := 9, ground := Ground.guard }], guard := some (9, true) }
def q21_14 : Oper := { dst := some 27, op := Op.move (Operand.tmp 1), type := 32, pos := "space.go:124", after := #[{ on := 9, ground := Ground.guard }], guard := some (9, true) }
def q21_15 : Oper := { dst := some 28, op := Op.nilCheck (Operand.tmp 27), type := 0, pos := "space.go:124", after := #[{ on := 14, ground := Ground.data }, { on := 9, ground := Ground.guard }], guard := some (9, true) }
def q21_16 : Oper := { dst := some 29, op := Op.fieldAddr 80 (Operand.tmp 28) 5, type := 0, pos := "space.go:124", after := #[{ on := 15, ground := Ground.data }, { on := 9, ground := Ground.guard }], guard := some (9, true) }
def q21_17 : Oper := { dst := some 30, op := Op.call { callee := Callee.value (Operand.func 72), args := #[Operand.tmp 29], argTypes := #[75] }, type := 2, pos := "space.go:124", after := #[{ on := 16, ground := Ground.data }, { on := 13, ground := Ground.chain }, { on := 9, ground := Ground.guard }], guard := some (9, true) }
def q21_18 : Oper := { dst := some 31, op := Op.binOp BinOp.eql 2 (Operand.tmp 26) (Operand.tmp 30) 2, type := 4, pos := "space.go:124", after := #[{ on := 13, ground := Ground.data }, { on := 17, ground := Ground.data }, { on := 9, ground := Ground.guard }], guard := some (9, true) }
def q21_19 : Oper := { dst := some 32, op := Op.pick (Operand.tmp 22) (Operand.tmp 31) (Operand.const (Value.bool false)), type := 4, pos := "space.go:124", after := #[{ on := 9, ground := Ground.data }, { on := 18, ground := Ground.data }], guard := none }
def q21_20 : Oper := { dst := some 33, op := Op.move (Operand.tmp 32), type := 4, pos := "space.go:124", after := #[{ on := 19, ground := Ground.data }, { on := 17, ground := Ground.chain }], guard := none }
def q21_21 : Oper := { dst := some 34, op := Op.move (Operand.tmp 0), type := 32, pos := "space.go:124", after := #[{ on := 20, ground := Ground.guard }], guard := some (20, true) }
def q21_22 : Oper := { dst := some 35, op := Op.nilCheck (Operand.tmp 34), type := 0, pos := "space.go:124", after := #[{ on := 21, ground := Ground.data }, { on := 20, ground := Ground.guard }], guard := some (20, true) }
def q21_23 : Oper := { dst := some 36, op := Op.fieldAddr 80 (Operand.tmp 35) 7, type := 0, pos := "space.go:124", after := #[{ on := 22, ground := Ground.data }, { on := 20, ground := Ground.guard }], guard := some (20, true) }
def q21_24 : Oper := { dst := some 37, op := Op.load 78 (Operand.tmp 36), type := 78, pos := "space.go:124", after := #[{ on := 23, ground := Ground.data }, { on := 20, ground := Ground.guard }], guard := some (20, true) }
def q21_25 : Oper := { dst := some 38, op := Op.move (Operand.tmp 1), type := 32, pos := "space.go:124", after := #[{ on := 20, ground := Ground.guard }], guard := some (20, true) }
def q21_26 : Oper := { dst := some 39, op := Op.nilCheck (Operand.tmp 38), type := 0, pos := "space.go:124", after := #[{ on := 25, ground := Ground.data }, { on := 20, ground := Ground.guard }], guard := some (20, true) }
def q21_27 : Oper := { dst := some 40, op := Op.fieldAddr 80 (Operand.tmp 39) 7, type := 0, pos := "space.go:124", after := #[{ on := 26, ground := Ground.data }, { on := 20, ground := Ground.guard }], guard := some (20, true) }
def q21_28 : Oper := { dst := some 41, op := Op.load 78 (Operand.tmp 40), type := 78, pos := "space.go:124", after := #[{ on := 27, ground := Ground.data }, { on := 20, ground := Ground.guard }], guard := some (20, true) }
def q21_29 : Oper := { dst := some 42, op := Op.call { callee := Callee.value (Operand.func 75), args := #[Operand.tmp 37, Operand.tmp 41], argTypes := #[78, 78] }, type := 4, pos := "space.go:124", after := #[{ on := 24, ground := Ground.data }, { on := 28, ground := Ground.data }, { on := 20, ground := Ground.chain }, { on := 20, ground := Ground.guard }], guard := some (20, true) }
def q21_30 : Oper := { dst := some 43, op := Op.pick (Operand.tmp 33) (Operand.tmp 42) (Operand.const (Value.bool false)), type := 4, pos := "space.go:124", after := #[{ on := 20, ground := Ground.data }, { on := 29, ground := Ground.data }], guard := none }
def q21_31 : Oper := { dst := some 44, op := Op.move (Operand.tmp 43), type := 4, pos := "space.go:124", after := #[{ on := 30, ground := Ground.data }, { on := 29, ground := Ground.chain }], guard := none }
def q21_32 : Oper := { dst := some 45, op := Op.move (Operand.tmp 0), type := 32, pos := "space.go:124", after := #[{ on := 31, ground := Ground.guard }], guard := some (31, true) }
def q21_33 : Oper := { dst := some 46, op := Op.call { callee := Callee.value (Operand.func 77), args := #[Operand.tmp 45], argTypes := #[32] }, type := 93, pos := "space.go:125", after := #[{ on := 32, ground := Ground.data }, { on := 31, ground := Ground.chain }, { on := 31, ground := Ground.guard }], guard := some (31, true) }
def q21_34 : Oper := { dst := some 47, op := Op.move (Operand.tmp 1), type := 32, pos := "space.go:124", after := #[{ on := 31, ground := Ground.guard }], guard := some (31, true) }
def q21_35 : Oper := { dst := some 48, op := Op.call { callee := Callee.value (Operand.func 77), args := #[Operand.tmp 47], argTypes := #[32] }, type := 93, pos := "space.go:125", after := #[{ on := 34, ground := Ground.data }, { on := 33, ground := Ground.chain }, { on := 31, ground := Ground.guard }], guard := some (31, true) }
def q21_36 : Oper := { dst := some 49, op := Op.call { callee := Callee.value (Operand.func 76), args := #[Operand.tmp 46, Operand.tmp 48], argTypes := #[93, 93] }, type := 4, pos := "space.go:125", after := #[{ on := 33, ground := Ground.data }, { on := 35, ground := Ground.data }, { on := 35, ground := Ground.chain }, { on := 31, ground := Ground.guard }], guard := some (31, true) }
def q21_37 : Oper := { dst := some 50, op := Op.pick (Operand.tmp 44) (Operand.tmp 49) (Operand.const (Value.bool false)), type := 4, pos := "space.go:124", after := #[{ on := 31, ground := Ground.data }, { on := 36, ground := Ground.data }], guard := none }
def q21_38 : Oper := { dst := some 51, op := Op.move (Operand.tmp 50), type := 4, pos := "space.go:124", after := #[{ on := 37, ground := Ground.data }, { on := 36, ground := Ground.chain }], guard := none }
def q21_39 : Oper := { dst := some 52, op := Op.move (Operand.tmp 0), type := 32, pos := "space.go:124", after := #[{ on := 38, ground := Ground.guard }], guard := some (38, true) }
def q21_40 : Oper := { dst := some 53, op := Op.call { callee := Callee.value (Operand.func 79), args := #[Operand.tmp 52], argTypes := #[32] }, type := 22, pos := "space.go:125", after := #[{ on := 39, ground := Ground.data }, { on := 38, ground := Ground.chain }, { on := 38, ground := Ground.guard }], guard := some (38, true) }
def q21_41 : Oper := { dst := some 54, op := Op.move (Operand.tmp 1), type := 32, pos := "space.go:124", after := #[{ on := 38, ground := Ground.guard }], guard := some (38, true) }
def q21_42 : Oper := { dst := some 55, op := Op.call { callee := Callee.value (Operand.func 79), args := #[Operand.tmp 54], argTypes := #[32] }, type := 22, pos := "space.go:125", after := #[{ on := 41, ground := Ground.data }, { on := 40, ground := Ground.chain }, { on := 38, ground := Ground.guard }], guard := some (38, true) }
def q21_43 : Oper := { dst := some 56, op := Op.call { callee := Callee.value (Operand.func 78), args := #[Operand.tmp 53, Operand.tmp 55], argTypes := #[22, 22] }, type := 4, pos := "space.go:125", after := #[{ on := 40, ground := Ground.data }, { on := 42, ground := Ground.data }, { on := 42, ground := Ground.chain }, { on := 38, ground := Ground.guard }], guard := some (38, true) }
def q21_44 : Oper := { dst := some 57, op := Op.pick (Operand.tmp 51) (Operand.tmp 56) (Operand.const (Value.bool false)), type := 4, pos := "space.go:124", after := #[{ on := 38, ground := Ground.data }, { on := 43, ground := Ground.data }], guard := none }
def q21_45 : Oper := { dst := some 58, op := Op.move (Operand.tmp 57), type := 4, pos := "space.go:124", after := #[{ on := 44, ground := Ground.data }, { on := 43, ground := Ground.chain }], guard := none }
def q21_46 : Oper := { dst := some 59, op := Op.move (Operand.tmp 0), type := 32, pos := "space.go:124", after := #[{ on := 45, ground := Ground.guard }], guard := some (45, true) }
def q21_47 : Oper := { dst := some 60, op := Op.nilCheck (Operand.tmp 59), type := 0, pos := "space.go:124", after := #[{ on := 46, ground := Ground.data }, { on := 45, ground := Ground.guard }], guard := some (45, true) }
def q21_48 : Oper := { dst := some 61, op := Op.fieldAddr 80 (Operand.tmp 60) 3, type := 0, pos := "space.go:124", after := #[{ on := 47, ground := Ground.data }, { on := 45, ground := Ground.guard }], guard := some (45, true) }
def q21_49 : Oper := { dst := some 62, op := Op.load 71 (Operand.tmp 61), type := 71, pos := "space.go:124", after := #[{ on := 48, ground := Ground.data }, { on := 45, ground := Ground.guard }], guard := some (45, true) }
def q21_50 : Oper := { dst := some 63, op := Op.move (Operand.tmp 1), type := 32, pos := "space.go:124", after := #[{ on := 45, ground := Ground.guard }], guard := some (45, true) }
def q21_51 : Oper := { dst := some 64, op := Op.nilCheck (Operand.tmp 63), type := 0, pos := "space.go:124", after := #[{ on := 50, ground := Ground.data }, { on := 45, ground := Ground.guard }], guard := some (45, true) }
def q21_52 : Oper := { dst := some 65, op := Op.fieldAddr 80 (Operand.tmp 64) 3, type := 0, pos := "space.go:124", after := #[{ on := 51, ground := Ground.data }, { on := 45, ground := Ground.guard }], guard := some (45, true) }
def q21_53 : Oper := { dst := some 66, op := Op.load 71 (Operand.tmp 65), type := 71, pos := "space.go:124", after := #[{ on := 52, ground := Ground.data }, { on := 45, ground := Ground.guard }], guard := some (45, true) }
def q21_54 : Oper := { dst := some 67, op := Op.call { callee := Callee.value (Operand.func 80), args := #[Operand.tmp 62, Operand.tmp 66], argTypes := #[71, 71] }, type := 4, pos := "space.go:126", after := #[{ on := 49, ground := Ground.data }, { on := 53, ground := Ground.data }, { on := 45, ground := Ground.chain }, { on := 45, ground := Ground.guard }], guard := some (45, true) }
def q21_55 : Oper := { dst := some 68, op := Op.pick (Operand.tmp 58) (Operand.tmp 67) (Operand.const (Value.bool false)), type := 4, pos := "space.go:124", after := #[{ on := 45, ground := Ground.data }, { on := 54, ground := Ground.data }], guard := none }
def q21_56 : Oper := { dst := some 69, op := Op.move (Operand.tmp 68), type := 4, pos := "space.go:124", after := #[{ on := 55, ground := Ground.data }, { on := 54, ground := Ground.chain }], guard := none }
def q21_57 : Oper := { dst := some 70, op := Op.move (Operand.tmp 0), type := 32, pos := "space.go:124", after := #[{ on := 56, ground := Ground.guard }], guard := some (56, true) }
def q21_58 : Oper := { dst := some 71, op := Op.nilCheck (Operand.tmp 70), type := 0, pos := "space.go:124", after := #[{ on := 57, ground := Ground.data }, { on := 56, ground := Ground.guard }], guard := some (56, true) }
def q21_59 : Oper := { dst := some 72, op := Op.fieldAddr 80 (Operand.tmp 71) 2, type := 0, pos := "space.go:124", after := #[{ on := 58, ground := Ground.data }, { on := 56, ground := Ground.guard }], guard := some (56, true) }
def q21_60 : Oper := { dst := some 73, op := Op.fieldAddr 70 (Operand.tmp 72) 0, type := 0, pos := "space.go:124", after := #[{ on := 59, ground := Ground.data }, { on := 56, ground := Ground.guard }], guard := some (56, true) }
def q21_61 : Oper := { dst := some 74, op := Op.load 25 (Operand.tmp 73), type := 25, pos := "space.go:124", after := #[{ on := 60, ground := Ground.data }, { on := 56, ground := Ground.guard }], guard := some (56, true) }
def q21_62 : Oper := { dst := some 75, op := Op.move (Operand.tmp 1), type := 32, pos := "space.go:124", after := #[{ on := 56, ground := Ground.guard }], guard := some (56, true) }
def q21_63 : Oper := { dst := some 76, op := Op.nilCheck (Operand.tmp 75), type := 0, pos := "space.go:124", after := #[{ on := 62, ground := Ground.data }, { on := 56, ground := Ground.guard }], guard := some (56, true) }
def q21_64 : Oper := { dst := some 77, op := Op.fieldAddr 80 (Operand.tmp 76) 2, type := 0, pos := "space.go:124", after := #[{ on := 63, ground := Ground.data }, { on := 56, ground := Ground.guard }], guard := some (56, true) }
def q21_65 : Oper := { dst := some 78, op := Op.fieldAddr 70 (Operand.tmp 77) 0, type := 0, pos := "space.go:124", after := #[{ on := 64, ground := Ground.data }, { on := 56, ground := Ground.guard }], guard := some (56, true) }
def q21_66 : Oper := { dst := some 79, op := Op.load 25 (Operand.tmp 78), type := 25, pos := "space.go:124", after := #[{ on := 65, ground := Ground.data }, { on := 56, ground := Ground.guard }], guard := some (56, true) }
def q21_67 : Oper := { dst := some 80, op := Op.call { callee := Callee.value (Operand.func 81), args := #[Operand.tmp 74, Operand.tmp 79], argTypes := #[25, 25] }, type := 4, pos := "space.go:126", after := #[{ on := 61, ground := Ground.data }, { on := 66, ground := Ground.data }, { on := 56, ground := Ground.chain }, { on := 56, ground := Ground.guard }], guard := some (56, true) }
def q21_68 : Oper := { dst := some 81, op := Op.pick (Operand.tmp 69) (Operand.tmp 80) (Operand.const (Value.bool false)), type := 4, pos := "space.go:124", after := #[{ on := 56, ground := Ground.data }, { on := 67, ground := Ground.data }], guard := none }
def q21_69 : Oper := { dst := some 4, op := Op.assign (Operand.tmp 81), type := 4, pos := "space.go:124", after := ([{ on := 68, ground := Ground.data }, { on := 67, ground := Ground.chain }, { on := 0, ground := Ground.phase }, { on := 1, ground := Ground.phase }, { on := 2, ground := Ground.phase }, { on := 3, ground := Ground.phase }, { on := 4, ground := Ground.phase }, { on := 5, ground := Ground.phase }, { on := 6, ground := Ground.phase }, { on := 7, ground := Ground.phase }, { on := 8, ground := Ground.phase }, { on := 9, ground := Ground.phase }, { on := 10, ground := Ground.phase }, { on := 11, ground := Ground.phase }, { on := 12, ground := Ground.phase }, { on := 13, ground := Ground.phase }, { on := 14, ground := Ground.phase }, { on := 15, ground := Ground.phase }, { on := 16, ground := Ground.phase }, { on := 17, ground := Ground.phase }, { on := 18, ground := Ground.phase }, { on := 19, ground := Ground.phase }, { on := 20, ground := Ground.phase }, { on := 21, ground := Ground.phase }, { on := 22, ground := Ground.phase }, { on := 23, ground := Ground.phase }, { on := 24, ground := Ground.phase }, { on := 25, ground := Ground.phase }, { on := 26, ground := Ground.phase }, { on := 27, ground := Ground.phase }, { on := 28, ground := Ground.phase }, { on := 29, ground := Ground.phase }, { on := 30, ground := Ground.phase }, { on := 31, ground := Ground.phase }, { on := 32, ground := Ground.phase }].append [{ on := 33, ground := Ground.phase }, { on := 34, ground := Ground.phase }, { on := 35, ground := Ground.phase }, { on := 36, ground := Ground.phase }, { on := 37, ground := Ground.phase }, { on := 38, ground := Ground.phase }, { on := 39, ground := Ground.phase }, { on := 40, ground := Ground.phase }, { on := 41, ground := Ground.phase }, { on := 42, ground := Ground.phase }, { on := 43, ground := Ground.phase }, { on := 44, ground := Ground.phase }, { on := 45, ground := Ground.phase }, { on := 46, ground := Ground.phase }, { on := 47, ground := Ground.phase }, { on := 48, ground := Ground.phase }, { on := 49, ground := Ground.phase }, { on := 50, ground := Ground.phase }, { on := 51, ground := Ground.phase }, { on := 52, ground := Ground.phase }, { on := 53, ground := Ground.phase }, { on := 54, ground := Ground.phase }, { on := 55, ground := Ground.phase }, { on := 56, ground := Ground.phase }, { on := 57, ground := Ground.phase }, { on := 58, ground := Ground.phase }, { on := 59, ground := Ground.phase }, { on := 60, ground := Ground.phase }, { on := 61, ground := Ground.phase }, { on := 62, ground := Ground.phase }, { on := 63, ground := Ground.phase }, { on := 64, ground := Ground.phase }, { on := 65, ground := Ground.phase }, { on := 66, ground := Ground.phase }, { on := 67, ground := Ground.phase }, { on := 68, ground := Ground.phase }]).toArray, guard := none }
def ops21 : Array Oper := #[q21_0, q21_1, q21_2, q21_3, q21_4, q21_5, q21_6, q21_7, q21_8, q21_9, q21_10, q21_11, q21_12, q21_13, q21_14, q21_15, q21_16, q21_17, q21_18, q21_19, q21_20, q21_21, q21_22, q21_23, q21_24, q21_25, q21_26, q21_27, q21_28, q21_29, q21_30, q21_31, q21_32, q21_33, q21_34, q21_35, q21_36, q21_37, q21_38, q21_39, q21_40, q21_41, q21_42, q21_43, q21_44, q21_45, q21_46, q21_47, q21_48, q21_49, q21_50, q21_51, q21_52, q21_53, q21_54, q21_55, q21_56, q21_57, q21_58, q21_59, q21_60, q21_61, q21_62, q21_63, q21_64, q21_65, q21_66, q21_67, q21_68, q21_69]
def S21 (sb tb : Nat) (S T : SpV) (p q : Loc) (LA1 LA2 : Option Addr) (ln1 lc1 ln2 lc2 : Nat) (DA1 : Option Addr) (dn1 dc1 : Nat) (FA1 : Option Addr) (fn1 fc1 : Nat) (DA2 : Option Addr) (dn2 dc2 : Nat) (FA2 : Option Addr) (fn2 fc2 : Nat) (W : World) : Prop :=
  W.cell? ⟨sb, 12, none⟩ = some (.int .i64 S.f) ∧ W.cell? ⟨sb, 13, none⟩ = some (.int .u64 S.at_) ∧ W.cell? ⟨sb, 14, none⟩ = some (.int .i64 S.pc) ∧ W.cell? ⟨sb, 15, none⟩ = some (.slice LA1 ln1 lc1) ∧ W.cell? ⟨sb, 9, none⟩ = some (.pointer (some ⟨p.mb, 0, none⟩)) ∧ W.cell? ⟨sb, 4, none⟩ = some (.slice DA1 dn1 dc1) ∧ W.cell? ⟨sb, 5, none⟩ = some (.slice FA1 fn1 fc1) ∧ W.cell? ⟨tb, 12, none⟩ = some (.int .i64 T.f) ∧ W.cell? ⟨tb, 13, none⟩ = some (.int .u64 T.at_) ∧ W.cell? ⟨tb, 14, none⟩ = some (.int .i64 T.pc) ∧ W.cell? ⟨tb, 15, none⟩ = some (.slice LA2 ln2 lc2) ∧ W.cell? ⟨tb, 9, none⟩ = some (.pointer (some ⟨q.mb, 0, none⟩)) ∧ W.cell? ⟨tb, 4, none⟩ = some (.slice DA2 dn2 dc2) ∧ W.cell? ⟨tb, 5, none⟩ = some (.slice FA2 fn2 fc2)
set_option maxRecDepth 100000 in
set_option maxHeartbeats 64000000 in
theorem region21 {Q : Exit → Act → World → Prop} (hQ : ∀ c a (d : Tmp) v w, Q (.panic c) (Act.put a (some d) v) w → Q (.panic c) a w) {w0 : World} {sb tb : Nat} {S T : SpV} {p q : Loc} {LA1 LA2 : Option Addr} {ln1 lc1 ln2 lc2 : Nat} {DA1 : Option Addr} {dn1 dc1 : Nat} {FA1 : Option Addr} {fn1 fc1 : Nat} {DA2 : Option Addr} {dn2 dc2 : Nat} {FA2 : Option Addr} {fn2 fc2 : Nat} {b0 b1 b2 b3 b4 b5 b6 : Bool} {u2 u3 u4 u5 u6 u7 u8 u9 u10 u11 u12 : Value}
    (hG : ∀ W, Below w0.heap.size w0 W → S21 sb tb S T p q LA1 LA2 ln1 lc1 ln2 lc2 DA1 dn1 dc1 FA1 fn1 fc1 DA2 dn2 dc2 FA2 fn2 fc2 W)
    (hq0 : ∀ w, (binOp .eql 77 (.agg #[.int .i64 S.f, .int .u64 S.at_, .int .i64 S.pc]) (.agg #[.int .i64 T.f, .int .u64 T.at_, .int .i64 T.pc])).run Tryz.prog w = .ok (.bool b0) w)
    (hq1 : (S.fuel == T.fuel) = b1)
    (hF1 : ∀ W, Below w0.heap.size w0 W → Calls Tryz.prog 72 #[.pointer (some ⟨sb, 11, none⟩)] W fun e w' => e = .returned (.int .i64 S.fuel) ∧ W = w')
    (hF2 : ∀ W, Below w0.heap.size w0 W → Calls Tryz.prog 72 #[.pointer (some ⟨tb, 11, none⟩)] W fun e w' => e = .returned (.int .i64 T.fuel) ∧ W = w')
    (hLK : ∀ W, Below w0.heap.size w0 W → Calls Tryz.prog 75 #[.slice LA1 ln1 lc1, .slice LA2 ln2 lc2] W (Drew14 W (.bool b2)))
    (hO1 : ∀ W, Below w0.heap.size w0 W → Calls Tryz.prog 77 #[.pointer (some ⟨sb, 0, none⟩)] W (OutcDone W S))
    (hO2 : ∀ W, Below w0.heap.size w0 W → Calls Tryz.prog 77 #[.pointer (some ⟨tb, 0, none⟩)] W (OutcDone W T))
    (hDS : ∀ (W : World) (V V' : Value), IsDeeds W W.heap.size V S.done → IsDeeds W W.heap.size V' T.done → Calls Tryz.prog 76 #[.agg #[V, .int .i64 S.ek, .int .i64 S.ec], .agg #[V', .int .i64 T.ek, .int .i64 T.ec]] W (Makes W (.bool b3)))
    (hR1 : ∀ W, Below w0.heap.size w0 W → Calls Tryz.prog 79 #[.pointer (some ⟨sb, 0, none⟩)] W (RestDone W S.left))
    (hR2 : ∀ W, Below w0.heap.size w0 W → Calls Tryz.prog 79 #[.pointer (some ⟨tb, 0, none⟩)] W (RestDone W T.left))
    (hEB : ∀ (W : World) (V V' : Value), IsBytes W W.heap.size V S.left → IsBytes W W.heap.size V' T.left → Calls Tryz.prog 78 #[V, V'] W (Drew W (.bool b4)))
    (hMS : ∀ W, Below w0.heap.size w0 W → Calls Tryz.prog 80 #[.pointer (some ⟨p.mb, 0, none⟩), .pointer (some ⟨q.mb, 0, none⟩)] W (Drew W (.bool b5)))
    (hMD : ∀ W, Below w0.heap.size w0 W → Calls Tryz.prog 81 #[.agg #[.slice DA1 dn1 dc1, .slice FA1 fn1 fc1], .agg #[.slice DA2 dn2 dc2, .slice FA2 fn2 fc2]] W (Makes W (.bool b6)))
    (H : ∀ (w' : World) (v13 v14 v15 v16 v17 v18 v19 v20 v21 v22 v23 v24 v25 v26 v27 v28 v29 v30 v31 v32 v33 v34 v35 v36 v37 v38 v39 v40 v41 v42 v43 v44 v45 v46 v47 v48 v49 v50 v51 v52 v53 v54 v55 v56 v57 v58 v59 v60 v61 v62 v63 v64 v65 v66 v67 v68 v69 v70 v71 v72 v73 v74 v75 v76 v77 v78 v79 v80 v81 : Value), Below w0.heap.size w0 w' → Q .normal { tmps := #[.pointer (some ⟨sb, 0, none⟩), .pointer (some ⟨tb, 0, none⟩), u2, u3, .bool (b0 && (b1 && (b2 && (b3 && (b4 && (b5 && b6)))))), u5, u6, u7, u8, u9, u10, u11, u12, v13, v14, v15, v16, v17, v18, v19, v20, v21, v22, v23, v24, v25, v26, v27, v28, v29, v30, v31, v32, v33, v34, v35, v36, v37, v38, v39, v40, v41, v42, v43, v44, v45, v46, v47, v48, v49, v50, v51, v52, v53, v54, v55, v56, v57, v58, v59, v60, v61, v62, v63, v64, v65, v66, v67, v68, v69, v70, v71, v72, v73, v74, v75, v76, v77, v78, v79, v80, v81], defers := [] } w') :
    Code.wp Tryz.prog (Code.region 3 ops21 true) Q { tmps := #[.pointer (some ⟨sb, 0, none⟩), .pointer (some ⟨tb, 0, none⟩), u2, u3, u4, u5, u6, u7, u8, u9, u10, u11, u12, undef, undef, undef, undef, undef, undef, undef, undef, undef, undef, undef, undef, undef, undef, undef, undef, undef, undef, undef, undef, undef, undef, undef, undef, undef, undef, undef, undef, undef, undef, undef, undef, undef, undef, undef, undef, undef, undef, undef, undef, undef, undef, undef, undef, undef, undef, undef, undef, undef, undef, undef, undef, undef, undef, undef, undef, undef, undef, undef, undef, undef, undef, undef, undef, undef, undef, undef, undef, undef], defers := [] } w0 := by
  have HH := Lib.hid H
  have HQ := Lib.hid hQ
  have HQ1 := Lib.hid hq1
  have HG := Lib.hid hG
  have HF1 := Lib.hid hF1
  have HF2 := Lib.hid hF2
  have HLK := Lib.hid hLK
  have HO1 := Lib.hid hO1
  have HO2 := Lib.hid hO2
  have HDS := Lib.hid hDS
  have HR1 := Lib.hid hR1
  have HR2 := Lib.hid hR2
  have HEB := Lib.hid hEB
  have HMS := Lib.hid hMS
  have HMD := Lib.hid hMD
  have B0 := Lib.hid (show Below w0.heap.size w0 w0.drew from (Below.refl _ w0).drew)
  clear H hQ hq1 hG hF1 hF2 hLK hO1 hO2 hDS hR1 hR2 hEB hMS hMD
  refine wp_region_held_drew (S := S21 sb tb S T p q LA1 LA2 ln1 lc1 ln2 lc2 DA1 dn1 dc1 FA1 fn1 fc1 DA2 dn2 dc2 FA2 fn2 fc2) (by kernel_rfl) (HG.out _ B0.out) (fun hHeld => ?_)
  show wpAnyH _ _ ops21 _ _ 70 (Array.replicate 70 false) _ _
  refine wpAnyH_one HQ.out 0 13 q21_0 (.pointer (some ⟨sb, 0, none⟩)) ?_ hHeld ?_
  · intro W _; unfold q21_0; go_simp
  refine wpAnyH_one HQ.out 1 14 q21_1 (.pointer (some ⟨sb, 0, none⟩)) ?_ hHeld ?_
  · intro W _; unfold q21_1; go_simp
  refine wpAnyH_one HQ.out 2 15 q21_2 (.pointer (some ⟨sb, 12, none⟩)) ?_ hHeld ?_
  · intro W _; unfold q21_2; go_simp
  refine wpAnyH_one HQ.out 3 16 q21_3 (.agg #[.int .i64 S.f, .int .u64 S.at_, .int .i64 S.pc]) ?_ hHeld ?_
  · intro W hSw; unfold S21 at hSw; unfold q21_3; clear hHeld; go_simp
  refine wpAnyH_one HQ.out 4 17 q21_4 (.pointer (some ⟨tb, 0, none⟩)) ?_ hHeld ?_
  · intro W _; unfold q21_4; go_simp
  refine wpAnyH_one HQ.out 5 18 q21_5 (.pointer (some ⟨tb, 0, none⟩)) ?_ hHeld ?_
  · intro W _; unfold q21_5; go_simp
  refine wpAnyH_one HQ.out 6 19 q21_6 (.pointer (some ⟨tb, 12, none⟩)) ?_ hHeld ?_
  · intro W _; unfold q21_6; go_simp
  refine wpAnyH_one HQ.out 7 20 q21_7 (.agg #[.int .i64 T.f, .int .u64 T.at_, .int .i64 T.pc]) ?_ hHeld ?_
  · intro W hSw; unfold S21 at hSw; unfold q21_7; clear hHeld; go_simp
  refine wpAnyH_one HQ.out 8 21 q21_8 (.bool b0) ?_ hHeld ?_
  · intro W _; have hqc := hq0 W; unfold q21_8; go_simp
  cases b0
  · skip
    exact wpAnyH_rest (by kernel_rfl) HQ.out hHeld (HH.out _ (.pointer (some ⟨sb, 0, none⟩)) (.pointer (some ⟨sb, 0, none⟩)) (.pointer (some ⟨sb, 12, none⟩)) (.agg #[.int .i64 S.f, .int .u64 S.at_, .int .i64 S.pc]) (.pointer (some ⟨tb, 0, none⟩)) (.pointer (some ⟨tb, 0, none⟩)) (.pointer (some ⟨tb, 12, none⟩)) (.agg #[.int .i64 T.f, .int .u64 T.at_, .int .i64 T.pc]) (.bool false) (.bool false) undef undef undef undef undef undef undef undef undef (.bool false) (.bool false) undef undef undef undef undef undef undef undef undef (.bool false) (.bool false) undef undef undef undef undef (.bool false) (.bool false) undef undef undef undef undef (.bool false) (.bool false) undef undef undef undef undef undef undef undef undef (.bool false) (.bool false) undef undef undef undef undef undef undef undef undef undef undef (.bool false) B0.out) [9, 10, 11, 12, 14, 15, 16, 13, 17, 18, 19, 20, 21, 22, 23, 24, 25, 26, 27, 28, 29, 30, 31, 32, 34, 33, 35, 36, 37, 38, 39, 41, 40, 42, 43, 44, 45, 46, 47, 48, 49, 50, 51, 52, 53, 54, 55, 56, 57, 58, 59, 60, 61, 62, 63, 64, 65, 66, 67, 68, 69] (by kernel_rfl) (by decide)
  skip
  refine wpAnyH_one HQ.out 9 22 q21_9 (.bool true) ?_ hHeld ?_
  · intro W _; unfold q21_9; go_simp
  refine wpAnyH_one HQ.out 10 23 q21_10 (.pointer (some ⟨sb, 0, none⟩)) ?_ hHeld ?_
  · intro W _; unfold q21_10; go_simp
  refine wpAnyH_one HQ.out 11 24 q21_11 (.pointer (some ⟨sb, 0, none⟩)) ?_ hHeld ?_
  · intro W _; unfold q21_11; go_simp
  refine wpAnyH_one HQ.out 12 25 q21_12 (.pointer (some ⟨sb, 11, none⟩)) ?_ hHeld ?_
  · intro W _; unfold q21_12; go_simp
  refine wpAnyH_one HQ.out 14 27 q21_14 (.pointer (some ⟨tb, 0, none⟩)) ?_ hHeld ?_
  · intro W _; unfold q21_14; go_simp
  refine wpAnyH_one HQ.out 15 28 q21_15 (.pointer (some ⟨tb, 0, none⟩)) ?_ hHeld ?_
  · intro W _; unfold q21_15; go_simp
  refine wpAnyH_one HQ.out 16 29 q21_16 (.pointer (some ⟨tb, 11, none⟩)) ?_ hHeld ?_
  · intro W _; unfold q21_16; go_simp
  refine wpAnyH_ready (rs := [13]) (by kernel_rfl) (by simp) ?_
  refine AllReadyH.cons (o := q21_13) rfl (fun K hK => ?_) AllReadyH.nil
  rw [if_pos]
  rotate_left
  · kernel_rfl
  unfold q21_13
  go_wp2_with (go_at_call 72; (with_reducible refine (HF1.out _ B0.out).mono ?_); rintro e w' ⟨rfl, rfl⟩)
  clear hHeld
  refine hK.out _ _ (HG.out _ B0.out) (fun hHeld => ?_)
  clear hK K
  try simp only [Act.put, List.setIfInBounds_toArray, List.set_cons_zero, List.set_cons_succ]
  refine wpAnyH_ready (rs := [17]) (by kernel_rfl) (by simp) ?_
  refine AllReadyH.cons (o := q21_17) rfl (fun K hK => ?_) AllReadyH.nil
  rw [if_pos]
  rotate_left
  · kernel_rfl
  unfold q21_17
  go_wp2_with (go_at_call 72; (with_reducible refine (HF2.out _ B0.out).mono ?_); rintro e w' ⟨rfl, rfl⟩)
  clear hHeld
  refine hK.out _ _ (HG.out _ B0.out) (fun hHeld => ?_)
  clear hK K
  try simp only [Act.put, List.setIfInBounds_toArray, List.set_cons_zero, List.set_cons_succ]
  refine wpAnyH_one HQ.out 18 31 q21_18 (.bool b1) ?_ hHeld ?_
  · intro W _; have hqf := HQ1.out; unfold q21_18; go_simp
  cases b1
  · skip
    exact wpAnyH_rest (by kernel_rfl) HQ.out hHeld (HH.out _ (.pointer (some ⟨sb, 0, none⟩)) (.pointer (some ⟨sb, 0, none⟩)) (.pointer (some ⟨sb, 12, none⟩)) (.agg #[.int .i64 S.f, .int .u64 S.at_, .int .i64 S.pc]) (.pointer (some ⟨tb, 0, none⟩)) (.pointer (some ⟨tb, 0, none⟩)) (.pointer (some ⟨tb, 12, none⟩)) (.agg #[.int .i64 T.f, .int .u64 T.at_, .int .i64 T.pc]) (.bool true) (.bool true) (.pointer (some ⟨sb, 0, none⟩)) (.pointer (some ⟨sb, 0, none⟩)) (.pointer (some ⟨sb, 11, none⟩)) (.int .i64 S.fuel) (.pointer (some ⟨tb, 0, none⟩)) (.pointer (some ⟨tb, 0, none⟩)) (.pointer (some ⟨tb, 11, none⟩)) (.int .i64 T.fuel) (.bool false) (.bool false) (.bool false) undef undef undef undef undef undef undef undef undef (.bool false) (.bool false) undef undef undef undef undef (.bool false) (.bool false) undef undef undef undef undef (.bool false) (.bool false) undef undef undef undef undef undef undef undef undef (.bool false) (.bool false) undef undef undef undef undef undef undef undef undef undef undef (.bool false) B0.out) [19, 20, 21, 22, 23, 24, 25, 26, 27, 28, 29, 30, 31, 32, 34, 33, 35, 36, 37, 38, 39, 41, 40, 42, 43, 44, 45, 46, 47, 48, 49, 50, 51, 52, 53, 54, 55, 56, 57, 58, 59, 60, 61, 62, 63, 64, 65, 66, 67, 68, 69] (by kernel_rfl) (by decide)
  skip
  refine wpAnyH_one HQ.out 19 32 q21_19 (.bool true) ?_ hHeld ?_
  · intro W _; unfold q21_19; go_simp
  refine wpAnyH_one HQ.out 20 33 q21_20 (.bool true) ?_ hHeld ?_
  · intro W _; unfold q21_20; go_simp
  refine wpAnyH_one HQ.out 21 34 q21_21 (.pointer (some ⟨sb, 0, none⟩)) ?_ hHeld ?_
  · intro W _; unfold q21_21; go_simp
  refine wpAnyH_one HQ.out 22 35 q21_22 (.pointer (some ⟨sb, 0, none⟩)) ?_ hHeld ?_
  · intro W _; unfold q21_22; go_simp
  refine wpAnyH_one HQ.out 23 36 q21_23 (.pointer (some ⟨sb, 15, none⟩)) ?_ hHeld ?_
  · intro W _; unfold q21_23; go_simp
  refine wpAnyH_one HQ.out 24 37 q21_24 (.slice LA1 ln1 lc1) ?_ hHeld ?_
  · intro W hSw; unfold S21 at hSw; unfold q21_24; clear hHeld; go_simp
  refine wpAnyH_one HQ.out 25 38 q21_25 (.pointer (some ⟨tb, 0, none⟩)) ?_ hHeld ?_
  · intro W _; unfold q21_25; go_simp
  refine wpAnyH_one HQ.out 26 39 q21_26 (.pointer (some ⟨tb, 0, none⟩)) ?_ hHeld ?_
  · intro W _; unfold q21_26; go_simp
  refine wpAnyH_one HQ.out 27 40 q21_27 (.pointer (some ⟨tb, 15, none⟩)) ?_ hHeld ?_
  · intro W _; unfold q21_27; go_simp
  refine wpAnyH_one HQ.out 28 41 q21_28 (.slice LA2 ln2 lc2) ?_ hHeld ?_
  · intro W hSw; unfold S21 at hSw; unfold q21_28; clear hHeld; go_simp
  refine wpAnyH_ready (rs := [29]) (by kernel_rfl) (by simp) ?_
  refine AllReadyH.cons (o := q21_29) rfl (fun K hK => ?_) AllReadyH.nil
  rw [if_pos]
  rotate_left
  · kernel_rfl
  unfold q21_29
  go_wp2_with (go_at_call 75; (with_reducible refine (HLK.out _ B0.out).mono ?_); rintro e w3 ⟨rfl, hw⟩; have B3 := Lib.hid (show Below w0.heap.size w0 w3 from by obtain ⟨n, rfl⟩ := hw; exact below_drewN B0.out n); clear hw)
  clear hHeld
  refine hK.out _ _ (HG.out _ B3.out) (fun hHeld => ?_)
  clear hK K
  try simp only [Act.put, List.setIfInBounds_toArray, List.set_cons_zero, List.set_cons_succ]
  cases b2
  · skip
    exact wpAnyH_rest (by kernel_rfl) HQ.out hHeld (HH.out _ (.pointer (some ⟨sb, 0, none⟩)) (.pointer (some ⟨sb, 0, none⟩)) (.pointer (some ⟨sb, 12, none⟩)) (.agg #[.int .i64 S.f, .int .u64 S.at_, .int .i64 S.pc]) (.pointer (some ⟨tb, 0, none⟩)) (.pointer (some ⟨tb, 0, none⟩)) (.pointer (some ⟨tb, 12, none⟩)) (.agg #[.int .i64 T.f, .int .u64 T.at_, .int .i64 T.pc]) (.bool true) (.bool true) (.pointer (some ⟨sb, 0, none⟩)) (.pointer (some ⟨sb, 0, none⟩)) (.pointer (some ⟨sb, 11, none⟩)) (.int .i64 S.fuel) (.pointer (some ⟨tb, 0, none⟩)) (.pointer (some ⟨tb, 0, none⟩)) (.pointer (some ⟨tb, 11, none⟩)) (.int .i64 T.fuel) (.bool true) (.bool true) (.bool true) (.pointer (some ⟨sb, 0, none⟩)) (.pointer (some ⟨sb, 0, none⟩)) (.pointer (some ⟨sb, 15, none⟩)) (.slice LA1 ln1 lc1) (.pointer (some ⟨tb, 0, none⟩)) (.pointer (some ⟨tb, 0, none⟩)) (.pointer (some ⟨tb, 15, none⟩)) (.slice LA2 ln2 lc2) (.bool false) (.bool false) (.bool false) undef undef undef undef undef (.bool false) (.bool false) undef undef undef undef undef (.bool false) (.bool false) undef undef undef undef undef undef undef undef undef (.bool false) (.bool false) undef undef undef undef undef undef undef undef undef undef undef (.bool false) B3.out) [30, 31, 32, 34, 33, 35, 36, 37, 38, 39, 41, 40, 42, 43, 44, 45, 46, 47, 48, 49, 50, 51, 52, 53, 54, 55, 56, 57, 58, 59, 60, 61, 62, 63, 64, 65, 66, 67, 68, 69] (by kernel_rfl) (by decide)
  skip
  refine wpAnyH_one HQ.out 30 43 q21_30 (.bool true) ?_ hHeld ?_
  · intro W _; unfold q21_30; go_simp
  refine wpAnyH_one HQ.out 31 44 q21_31 (.bool true) ?_ hHeld ?_
  · intro W _; unfold q21_31; go_simp
  refine wpAnyH_one HQ.out 32 45 q21_32 (.pointer (some ⟨sb, 0, none⟩)) ?_ hHeld ?_
  · intro W _; unfold q21_32; go_simp
  refine wpAnyH_one HQ.out 34 47 q21_34 (.pointer (some ⟨tb, 0, none⟩)) ?_ hHeld ?_
  · intro W _; unfold q21_34; go_simp
  refine wpAnyH_ready (rs := [33]) (by kernel_rfl) (by simp) ?_
  refine AllReadyH.cons (o := q21_33) rfl (fun K hK => ?_) AllReadyH.nil
  rw [if_pos]
  rotate_left
  · kernel_rfl
  unfold q21_33
  go_wp2_with (go_at_call 77; (with_reducible refine (HO1.out _ B3.out).mono ?_); rintro e w4 ⟨V1, rfl, ho, hb⟩; obtain ⟨v1, u1, hve⟩ := owns_len14 ho; subst hve; have B4 := Lib.hid (B3.out.trans (hb.mono B3.out.size)); have O1 := Lib.hid ho; clear ho hb)
  clear hHeld
  refine hK.out _ _ (HG.out _ B4.out) (fun hHeld => ?_)
  clear hK K
  try simp only [Act.put, List.setIfInBounds_toArray, List.set_cons_zero, List.set_cons_succ]
  refine wpAnyH_ready (rs := [35]) (by kernel_rfl) (by simp) ?_
  refine AllReadyH.cons (o := q21_35) rfl (fun K hK => ?_) AllReadyH.nil
  rw [if_pos]
  rotate_left
  · kernel_rfl
  unfold q21_35
  go_wp2_with (go_at_call 77; (with_reducible refine (HO2.out _ B4.out).mono ?_); rintro e w5 ⟨V2, rfl, ho, hb⟩; obtain ⟨v2, u2, hve⟩ := owns_len14 ho; subst hve; have B5 := Lib.hid (B4.out.trans (hb.mono B4.out.size)); have D1 := Lib.hid (IsDeeds.of_owns (O1.out.below hb (Nat.le_refl _)) (Nat.le_refl _)); have D2 := Lib.hid (IsDeeds.of_owns ho (Nat.le_refl _)); clear ho hb)
  clear hHeld
  refine hK.out _ _ (HG.out _ B5.out) (fun hHeld => ?_)
  clear hK K
  try simp only [Act.put, List.setIfInBounds_toArray, List.set_cons_zero, List.set_cons_succ]
  refine wpAnyH_ready (rs := [36]) (by kernel_rfl) (by simp) ?_
  refine AllReadyH.cons (o := q21_36) rfl (fun K hK => ?_) AllReadyH.nil
  rw [if_pos]
  rotate_left
  · kernel_rfl
  unfold q21_36
  go_wp2_with (go_at_call 76; (with_reducible refine (HDS.out _ _ _ D1.out D2.out).mono ?_); rintro e w6 ⟨rfl, hb⟩; have B6 := Lib.hid (B5.out.trans (hb.mono B5.out.size)); clear hb)
  clear hHeld
  refine hK.out _ _ (HG.out _ B6.out) (fun hHeld => ?_)
  clear hK K
  try simp only [Act.put, List.setIfInBounds_toArray, List.set_cons_zero, List.set_cons_succ]
  cases b3
  · skip
    exact wpAnyH_rest (by kernel_rfl) HQ.out hHeld (HH.out _ (.pointer (some ⟨sb, 0, none⟩)) (.pointer (some ⟨sb, 0, none⟩)) (.pointer (some ⟨sb, 12, none⟩)) (.agg #[.int .i64 S.f, .int .u64 S.at_, .int .i64 S.pc]) (.pointer (some ⟨tb, 0, none⟩)) (.pointer (some ⟨tb, 0, none⟩)) (.pointer (some ⟨tb, 12, none⟩)) (.agg #[.int .i64 T.f, .int .u64 T.at_, .int .i64 T.pc]) (.bool true) (.bool true) (.pointer (some ⟨sb, 0, none⟩)) (.pointer (some ⟨sb, 0, none⟩)) (.pointer (some ⟨sb, 11, none⟩)) (.int .i64 S.fuel) (.pointer (some ⟨tb, 0, none⟩)) (.pointer (some ⟨tb, 0, none⟩)) (.pointer (some ⟨tb, 11, none⟩)) (.int .i64 T.fuel) (.bool true) (.bool true) (.bool true) (.pointer (some ⟨sb, 0, none⟩)) (.pointer (some ⟨sb, 0, none⟩)) (.pointer (some ⟨sb, 15, none⟩)) (.slice LA1 ln1 lc1) (.pointer (some ⟨tb, 0, none⟩)) (.pointer (some ⟨tb, 0, none⟩)) (.pointer (some ⟨tb, 15, none⟩)) (.slice LA2 ln2 lc2) (.bool true) (.bool true) (.bool true) (.pointer (some ⟨sb, 0, none⟩)) (.agg #[.slice v1 S.done.length u1, .int .i64 S.ek, .int .i64 S.ec]) (.pointer (some ⟨tb, 0, none⟩)) (.agg #[.slice v2 T.done.length u2, .int .i64 T.ek, .int .i64 T.ec]) (.bool false) (.bool false) (.bool false) undef undef undef undef undef (.bool false) (.bool false) undef undef undef undef undef undef undef undef undef (.bool false) (.bool false) undef undef undef undef undef undef undef undef undef undef undef (.bool false) B6.out) [37, 38, 39, 41, 40, 42, 43, 44, 45, 46, 47, 48, 49, 50, 51, 52, 53, 54, 55, 56, 57, 58, 59, 60, 61, 62, 63, 64, 65, 66, 67, 68, 69] (by kernel_rfl) (by decide)
  skip
  refine wpAnyH_one HQ.out 37 50 q21_37 (.bool true) ?_ hHeld ?_
  · intro W _; unfold q21_37; go_simp
  refine wpAnyH_one HQ.out 38 51 q21_38 (.bool true) ?_ hHeld ?_
  · intro W _; unfold q21_38; go_simp
  refine wpAnyH_one HQ.out 39 52 q21_39 (.pointer (some ⟨sb, 0, none⟩)) ?_ hHeld ?_
  · intro W _; unfold q21_39; go_simp
  refine wpAnyH_one HQ.out 41 54 q21_41 (.pointer (some ⟨tb, 0, none⟩)) ?_ hHeld ?_
  · intro W _; unfold q21_41; go_simp
  refine wpAnyH_ready (rs := [40]) (by kernel_rfl) (by simp) ?_
  refine AllReadyH.cons (o := q21_40) rfl (fun K hK => ?_) AllReadyH.nil
  rw [if_pos]
  rotate_left
  · kernel_rfl
  unfold q21_40
  go_wp2_with (go_at_call 79; (with_reducible refine (HR1.out _ B6.out).mono ?_); rintro e w7 ⟨V3, rfl, hV, hw⟩; obtain ⟨v3, u3, hve⟩ := hV.len; subst hve; have B7 := Lib.hid (show Below w0.heap.size w0 w7 from by obtain ⟨n, rfl⟩ := hw; exact below_drewN B6.out n); have E3 := Lib.hid (show IsBytes w7 w7.heap.size _ S.left from by obtain ⟨n, rfl⟩ := hw; exact hV); clear hV hw)
  clear hHeld
  refine hK.out _ _ (HG.out _ B7.out) (fun hHeld => ?_)
  clear hK K
  try simp only [Act.put, List.setIfInBounds_toArray, List.set_cons_zero, List.set_cons_succ]
  refine wpAnyH_ready (rs := [42]) (by kernel_rfl) (by simp) ?_
  refine AllReadyH.cons (o := q21_42) rfl (fun K hK => ?_) AllReadyH.nil
  rw [if_pos]
  rotate_left
  · kernel_rfl
  unfold q21_42
  go_wp2_with (go_at_call 79; (with_reducible refine (HR2.out _ B7.out).mono ?_); rintro e w8 ⟨V4, rfl, hV, hw⟩; obtain ⟨v4, u4, hve⟩ := hV.len; subst hve; have B8 := Lib.hid (show Below w0.heap.size w0 w8 from by obtain ⟨n, rfl⟩ := hw; exact below_drewN B7.out n); have E4 := Lib.hid (show IsBytes w8 w8.heap.size _ T.left from by obtain ⟨n, rfl⟩ := hw; exact hV); have E5 := Lib.hid (show IsBytes w8 w8.heap.size _ S.left from by obtain ⟨n, rfl⟩ := hw; exact E3.out); clear hV hw)
  clear hHeld
  refine hK.out _ _ (HG.out _ B8.out) (fun hHeld => ?_)
  clear hK K
  try simp only [Act.put, List.setIfInBounds_toArray, List.set_cons_zero, List.set_cons_succ]
  refine wpAnyH_ready (rs := [43]) (by kernel_rfl) (by simp) ?_
  refine AllReadyH.cons (o := q21_43) rfl (fun K hK => ?_) AllReadyH.nil
  rw [if_pos]
  rotate_left
  · kernel_rfl
  unfold q21_43
  go_wp2_with (go_at_call 78; (with_reducible refine (HEB.out _ _ _ E5.out E4.out).mono ?_); rintro e w9 ⟨rfl, hw⟩; have B9 := Lib.hid (show Below w0.heap.size w0 w9 from by obtain ⟨n, rfl⟩ := hw; exact below_drewN B8.out n); clear hw)
  clear hHeld
  refine hK.out _ _ (HG.out _ B9.out) (fun hHeld => ?_)
  clear hK K
  try simp only [Act.put, List.setIfInBounds_toArray, List.set_cons_zero, List.set_cons_succ]
  cases b4
  · skip
    exact wpAnyH_rest (by kernel_rfl) HQ.out hHeld (HH.out _ (.pointer (some ⟨sb, 0, none⟩)) (.pointer (some ⟨sb, 0, none⟩)) (.pointer (some ⟨sb, 12, none⟩)) (.agg #[.int .i64 S.f, .int .u64 S.at_, .int .i64 S.pc]) (.pointer (some ⟨tb, 0, none⟩)) (.pointer (some ⟨tb, 0, none⟩)) (.pointer (some ⟨tb, 12, none⟩)) (.agg #[.int .i64 T.f, .int .u64 T.at_, .int .i64 T.pc]) (.bool true) (.bool true) (.pointer (some ⟨sb, 0, none⟩)) (.pointer (some ⟨sb, 0, none⟩)) (.pointer (some ⟨sb, 11, none⟩)) (.int .i64 S.fuel) (.pointer (some ⟨tb, 0, none⟩)) (.pointer (some ⟨tb, 0, none⟩)) (.pointer (some ⟨tb, 11, none⟩)) (.int .i64 T.fuel) (.bool true) (.bool true) (.bool true) (.pointer (some ⟨sb, 0, none⟩)) (.pointer (some ⟨sb, 0, none⟩)) (.pointer (some ⟨sb, 15, none⟩)) (.slice LA1 ln1 lc1) (.pointer (some ⟨tb, 0, none⟩)) (.pointer (some ⟨tb, 0, none⟩)) (.pointer (some ⟨tb, 15, none⟩)) (.slice LA2 ln2 lc2) (.bool true) (.bool true) (.bool true) (.pointer (some ⟨sb, 0, none⟩)) (.agg #[.slice v1 S.done.length u1, .int .i64 S.ek, .int .i64 S.ec]) (.pointer (some ⟨tb, 0, none⟩)) (.agg #[.slice v2 T.done.length u2, .int .i64 T.ek, .int .i64 T.ec]) (.bool true) (.bool true) (.bool true) (.pointer (some ⟨sb, 0, none⟩)) (.slice v3 S.left.length u3) (.pointer (some ⟨tb, 0, none⟩)) (.slice v4 T.left.length u4) (.bool false) (.bool false) (.bool false) undef undef undef undef undef undef undef undef undef (.bool false) (.bool false) undef undef undef undef undef undef undef undef undef undef undef (.bool false) B9.out) [44, 45, 46, 47, 48, 49, 50, 51, 52, 53, 54, 55, 56, 57, 58, 59, 60, 61, 62, 63, 64, 65, 66, 67, 68, 69] (by kernel_rfl) (by decide)
  skip
  refine wpAnyH_one HQ.out 44 57 q21_44 (.bool true) ?_ hHeld ?_
  · intro W _; unfold q21_44; go_simp
  refine wpAnyH_one HQ.out 45 58 q21_45 (.bool true) ?_ hHeld ?_
  · intro W _; unfold q21_45; go_simp
  refine wpAnyH_one HQ.out 46 59 q21_46 (.pointer (some ⟨sb, 0, none⟩)) ?_ hHeld ?_
  · intro W _; unfold q21_46; go_simp
  refine wpAnyH_one HQ.out 47 60 q21_47 (.pointer (some ⟨sb, 0, none⟩)) ?_ hHeld ?_
  · intro W _; unfold q21_47; go_simp
  refine wpAnyH_one HQ.out 48 61 q21_48 (.pointer (some ⟨sb, 9, none⟩)) ?_ hHeld ?_
  · intro W _; unfold q21_48; go_simp
  refine wpAnyH_one HQ.out 49 62 q21_49 (.pointer (some ⟨p.mb, 0, none⟩)) ?_ hHeld ?_
  · intro W hSw; unfold S21 at hSw; unfold q21_49; clear hHeld; go_simp
  refine wpAnyH_one HQ.out 50 63 q21_50 (.pointer (some ⟨tb, 0, none⟩)) ?_ hHeld ?_
  · intro W _; unfold q21_50; go_simp
  refine wpAnyH_one HQ.out 51 64 q21_51 (.pointer (some ⟨tb, 0, none⟩)) ?_ hHeld ?_
  · intro W _; unfold q21_51; go_simp
  refine wpAnyH_one HQ.out 52 65 q21_52 (.pointer (some ⟨tb, 9, none⟩)) ?_ hHeld ?_
  · intro W _; unfold q21_52; go_simp
  refine wpAnyH_one HQ.out 53 66 q21_53 (.pointer (some ⟨q.mb, 0, none⟩)) ?_ hHeld ?_
  · intro W hSw; unfold S21 at hSw; unfold q21_53; clear hHeld; go_simp
  refine wpAnyH_ready (rs := [54]) (by kernel_rfl) (by simp) ?_
  refine AllReadyH.cons (o := q21_54) rfl (fun K hK => ?_) AllReadyH.nil
  rw [if_pos]
  rotate_left
  · kernel_rfl
  unfold q21_54
  go_wp2_with (go_at_call 80; (with_reducible refine (HMS.out _ B9.out).mono ?_); rintro e w10 ⟨rfl, hw⟩; have B10 := Lib.hid (show Below w0.heap.size w0 w10 from by obtain ⟨n, rfl⟩ := hw; exact below_drewN B9.out n); clear hw)
  clear hHeld
  refine hK.out _ _ (HG.out _ B10.out) (fun hHeld => ?_)
  clear hK K
  try simp only [Act.put, List.setIfInBounds_toArray, List.set_cons_zero, List.set_cons_succ]
  cases b5
  · skip
    exact wpAnyH_rest (by kernel_rfl) HQ.out hHeld (HH.out _ (.pointer (some ⟨sb, 0, none⟩)) (.pointer (some ⟨sb, 0, none⟩)) (.pointer (some ⟨sb, 12, none⟩)) (.agg #[.int .i64 S.f, .int .u64 S.at_, .int .i64 S.pc]) (.pointer (some ⟨tb, 0, none⟩)) (.pointer (some ⟨tb, 0, none⟩)) (.pointer (some ⟨tb, 12, none⟩)) (.agg #[.int .i64 T.f, .int .u64 T.at_, .int .i64 T.pc]) (.bool true) (.bool true) (.pointer (some ⟨sb, 0, none⟩)) (.pointer (some ⟨sb, 0, none⟩)) (.pointer (some ⟨sb, 11, none⟩)) (.int .i64 S.fuel) (.pointer (some ⟨tb, 0, none⟩)) (.pointer (some ⟨tb, 0, none⟩)) (.pointer (some ⟨tb, 11, none⟩)) (.int .i64 T.fuel) (.bool true) (.bool true) (.bool true) (.pointer (some ⟨sb, 0, none⟩)) (.pointer (some ⟨sb, 0, none⟩)) (.pointer (some ⟨sb, 15, none⟩)) (.slice LA1 ln1 lc1) (.pointer (some ⟨tb, 0, none⟩)) (.pointer (some ⟨tb, 0, none⟩)) (.pointer (some ⟨tb, 15, none⟩)) (.slice LA2 ln2 lc2) (.bool true) (.bool true) (.bool true) (.pointer (some ⟨sb, 0, none⟩)) (.agg #[.slice v1 S.done.length u1, .int .i64 S.ek, .int .i64 S.ec]) (.pointer (some ⟨tb, 0, none⟩)) (.agg #[.slice v2 T.done.length u2, .int .i64 T.ek, .int .i64 T.ec]) (.bool true) (.bool true) (.bool true) (.pointer (some ⟨sb, 0, none⟩)) (.slice v3 S.left.length u3) (.pointer (some ⟨tb, 0, none⟩)) (.slice v4 T.left.length u4) (.bool true) (.bool true) (.bool true) (.pointer (some ⟨sb, 0, none⟩)) (.pointer (some ⟨sb, 0, none⟩)) (.pointer (some ⟨sb, 9, none⟩)) (.pointer (some ⟨p.mb, 0, none⟩)) (.pointer (some ⟨tb, 0, none⟩)) (.pointer (some ⟨tb, 0, none⟩)) (.pointer (some ⟨tb, 9, none⟩)) (.pointer (some ⟨q.mb, 0, none⟩)) (.bool false) (.bool false) (.bool false) undef undef undef undef undef undef undef undef undef undef undef (.bool false) B10.out) [55, 56, 57, 58, 59, 60, 61, 62, 63, 64, 65, 66, 67, 68, 69] (by kernel_rfl) (by decide)
  skip
  refine wpAnyH_one HQ.out 55 68 q21_55 (.bool true) ?_ hHeld ?_
  · intro W _; unfold q21_55; go_simp
  refine wpAnyH_one HQ.out 56 69 q21_56 (.bool true) ?_ hHeld ?_
  · intro W _; unfold q21_56; go_simp
  refine wpAnyH_one HQ.out 57 70 q21_57 (.pointer (some ⟨sb, 0, none⟩)) ?_ hHeld ?_
  · intro W _; unfold q21_57; go_simp
  refine wpAnyH_one HQ.out 58 71 q21_58 (.pointer (some ⟨sb, 0, none⟩)) ?_ hHeld ?_
  · intro W _; unfold q21_58; go_simp
  refine wpAnyH_one HQ.out 59 72 q21_59 (.pointer (some ⟨sb, 4, none⟩)) ?_ hHeld ?_
  · intro W _; unfold q21_59; go_simp
  refine wpAnyH_one HQ.out 60 73 q21_60 (.pointer (some ⟨sb, 4, none⟩)) ?_ hHeld ?_
  · intro W _; unfold q21_60; go_simp
  refine wpAnyH_one HQ.out 61 74 q21_61 (.agg #[.slice DA1 dn1 dc1, .slice FA1 fn1 fc1]) ?_ hHeld ?_
  · intro W hSw; unfold S21 at hSw; unfold q21_61; clear hHeld; go_simp
  refine wpAnyH_one HQ.out 62 75 q21_62 (.pointer (some ⟨tb, 0, none⟩)) ?_ hHeld ?_
  · intro W _; unfold q21_62; go_simp
  refine wpAnyH_one HQ.out 63 76 q21_63 (.pointer (some ⟨tb, 0, none⟩)) ?_ hHeld ?_
  · intro W _; unfold q21_63; go_simp
  refine wpAnyH_one HQ.out 64 77 q21_64 (.pointer (some ⟨tb, 4, none⟩)) ?_ hHeld ?_
  · intro W _; unfold q21_64; go_simp
  refine wpAnyH_one HQ.out 65 78 q21_65 (.pointer (some ⟨tb, 4, none⟩)) ?_ hHeld ?_
  · intro W _; unfold q21_65; go_simp
  refine wpAnyH_one HQ.out 66 79 q21_66 (.agg #[.slice DA2 dn2 dc2, .slice FA2 fn2 fc2]) ?_ hHeld ?_
  · intro W hSw; unfold S21 at hSw; unfold q21_66; clear hHeld; go_simp
  refine wpAnyH_ready (rs := [67]) (by kernel_rfl) (by simp) ?_
  refine AllReadyH.cons (o := q21_67) rfl (fun K hK => ?_) AllReadyH.nil
  rw [if_pos]
  rotate_left
  · kernel_rfl
  unfold q21_67
  go_wp2_with (go_at_call 81; (with_reducible refine (HMD.out _ B10.out).mono ?_); rintro e w11 ⟨rfl, hb⟩; have B11 := Lib.hid (B10.out.trans (hb.mono B10.out.size)); clear hb)
  clear hHeld
  refine hK.out _ _ (HG.out _ B11.out) (fun hHeld => ?_)
  clear hK K
  try simp only [Act.put, List.setIfInBounds_toArray, List.set_cons_zero, List.set_cons_succ]
  exact wpAnyH_rest (by kernel_rfl) HQ.out hHeld (HH.out _ (.pointer (some ⟨sb, 0, none⟩)) (.pointer (some ⟨sb, 0, none⟩)) (.pointer (some ⟨sb, 12, none⟩)) (.agg #[.int .i64 S.f, .int .u64 S.at_, .int .i64 S.pc]) (.pointer (some ⟨tb, 0, none⟩)) (.pointer (some ⟨tb, 0, none⟩)) (.pointer (some ⟨tb, 12, none⟩)) (.agg #[.int .i64 T.f, .int .u64 T.at_, .int .i64 T.pc]) (.bool true) (.bool true) (.pointer (some ⟨sb, 0, none⟩)) (.pointer (some ⟨sb, 0, none⟩)) (.pointer (some ⟨sb, 11, none⟩)) (.int .i64 S.fuel) (.pointer (some ⟨tb, 0, none⟩)) (.pointer (some ⟨tb, 0, none⟩)) (.pointer (some ⟨tb, 11, none⟩)) (.int .i64 T.fuel) (.bool true) (.bool true) (.bool true) (.pointer (some ⟨sb, 0, none⟩)) (.pointer (some ⟨sb, 0, none⟩)) (.pointer (some ⟨sb, 15, none⟩)) (.slice LA1 ln1 lc1) (.pointer (some ⟨tb, 0, none⟩)) (.pointer (some ⟨tb, 0, none⟩)) (.pointer (some ⟨tb, 15, none⟩)) (.slice LA2 ln2 lc2) (.bool true) (.bool true) (.bool true) (.pointer (some ⟨sb, 0, none⟩)) (.agg #[.slice v1 S.done.length u1, .int .i64 S.ek, .int .i64 S.ec]) (.pointer (some ⟨tb, 0, none⟩)) (.agg #[.slice v2 T.done.length u2, .int .i64 T.ek, .int .i64 T.ec]) (.bool true) (.bool true) (.bool true) (.pointer (some ⟨sb, 0, none⟩)) (.slice v3 S.left.length u3) (.pointer (some ⟨tb, 0, none⟩)) (.slice v4 T.left.length u4) (.bool true) (.bool true) (.bool true) (.pointer (some ⟨sb, 0, none⟩)) (.pointer (some ⟨sb, 0, none⟩)) (.pointer (some ⟨sb, 9, none⟩)) (.pointer (some ⟨p.mb, 0, none⟩)) (.pointer (some ⟨tb, 0, none⟩)) (.pointer (some ⟨tb, 0, none⟩)) (.pointer (some ⟨tb, 9, none⟩)) (.pointer (some ⟨q.mb, 0, none⟩)) (.bool true) (.bool true) (.bool true) (.pointer (some ⟨sb, 0, none⟩)) (.pointer (some ⟨sb, 0, none⟩)) (.pointer (some ⟨sb, 4, none⟩)) (.pointer (some ⟨sb, 4, none⟩)) (.agg #[.slice DA1 dn1 dc1, .slice FA1 fn1 fc1]) (.pointer (some ⟨tb, 0, none⟩)) (.pointer (some ⟨tb, 0, none⟩)) (.pointer (some ⟨tb, 4, none⟩)) (.pointer (some ⟨tb, 4, none⟩)) (.agg #[.slice DA2 dn2 dc2, .slice FA2 fn2 fc2]) (.bool b6) (.bool b6) B11.out) [68, 69] (by kernel_rfl) (by decide)
end Go.Proofs.YtkfdgpgildanbaaGreat
