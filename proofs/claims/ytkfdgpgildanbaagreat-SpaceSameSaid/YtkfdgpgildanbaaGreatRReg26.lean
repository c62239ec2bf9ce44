import Derived.Test.YtkfdgpgildanbaaGreatSkip15
import Derived.Test.YtkfdgpgildanbaaGreatRSp15G
namespace Go.Proofs.YtkfdgpgildanbaaGreat
open Go.RowKit Go.Shelf
set_option linter.unusedVariables false
set_option linter.unusedSimpArgs false
def q26_0 : Oper := { dst := some 6, op := Op.move (Operand.tmp 0), type := 36, pos := "ref.go:65", after := #[], guard := none }
def q26_1 : Oper := { dst := some 7, op := Op.nilCheck (Operand.tmp 6), type := 0, pos := "ref.go:65", after := #[{ on := 0, ground := Ground.data }], guard := none }
def q26_2 : Oper := { dst := some 8, op := Op.fieldAddr 130 (Operand.tmp 7) 0, type := 0, pos := "ref.go:65", after := #[{ on := 1, ground := Ground.data }], guard := none }
def q26_3 : Oper := { dst := some 9, op := Op.load 25 (Operand.tmp 8), type := 25, pos := "ref.go:65", after := #[{ on := 2, ground := Ground.data }], guard := none }
def q26_4 : Oper := { dst := some 10, op := Op.move (Operand.tmp 1), type := 36, pos := "ref.go:65", after := #[], guard := none }
def q26_5 : Oper := { dst := some 11, op := Op.nilCheck (Operand.tmp 10), type := 0, pos := "ref.go:65", after := #[{ on := 4, ground := Ground.data }], guard := none }
def q26_6 : Oper := { dst := some 12, op := Op.fieldAddr 130 (Operand.tmp 11) 0, type := 0, pos := "ref.go:65", after := #[{ on := 5, ground := Ground.data }], guard := none }
def q26_7 : Oper := { dst := some 13, op := Op.load 25 (Operand.tmp 12), type := 25, pos := "ref.go:65", after := #[{ on := 6, ground := Ground.data }], guard := none }
def q26_8 : Oper := { dst := some 14, op := Op.call { callee := Callee.value (Operand.func 98), args := #[Operand.tmp 9, Operand.tmp 13], argTypes := #[25, 25] }, type := 4, pos := "ref.go:65", after := #[{ on := 3, ground := Ground.data }, { on := 7, ground := Ground.data }], guard := none }
def q26_9 : Oper := { dst := some 15, op := Op.unOp UnOp.not 4 (Operand.tmp 14), type := 4, pos := "ref.go:65", after := #[{ on := 8, ground := Ground.data }], guard := none }
def q26_10 : Oper := { dst := some 16, op := Op.move (Operand.tmp 15), type := 4, pos := "ref.go:65", after := #[{ on := 9, ground := Ground.data }, { on := 8, ground := Ground.chain }], guard := none }
def q26_11 : Oper := { dst := some 17, op := Op.move (Operand.tmp 0), type := 36, pos := "ref.go:65", after := #[{ on := 10, ground := Ground.guard }], guard := some (10, false) }
def q26_12 : Oper := { dst := some 18, op := Op.nilCheck (Operand.tmp 17), type := 0, pos := "ref.go:65", after := #[{ on := 11, ground := Ground.data }, { on := 10, ground := Ground.guard }], guard := some (10, false) }
def q26_13 : Oper := { dst := some 19, op := Op.fieldAddr 130 (Operand.tmp 18) 1, type := 0, pos := "ref.go:65", after := #[{ on := 12, ground := Ground.data }, { on := 10, ground := Ground.guard }], guard := some (10, false) }
def q26_14 : Oper := { dst := some 20, op := Op.load 121 (Operand.tmp 19), type := 121, pos := "ref.go:65", after := #[{ on := 13, ground := Ground.data }, { on := 10, ground := Ground.guard }], guard := some (10, false) }
def q26_15 : Oper := { dst := some 21, op := Op.move (Operand.tmp 1), type := 36, pos := "ref.go:65", after := #[{ on := 10, ground := Ground.guard }], guard := some (10, false) }
def q26_16 : Oper := { dst := some 22, op := Op.nilCheck (Operand.tmp 21), type := 0, pos := "ref.go:65", after := #[{ on := 15, ground := Ground.data }, { on := 10, ground := Ground.guard }], guard := some (10, false) }
def q26_17 : Oper := { dst := some 23, op := Op.fieldAddr 130 (Operand.tmp 22) 1, type := 0, pos := "ref.go:65", after := #[{ on := 16, ground := Ground.data }, { on := 10, ground := Ground.guard }], guard := some (10, false) }
def q26_18 : Oper := { dst := some 24, op := Op.load 121 (Operand.tmp 23), type := 121, pos := "ref.go:65", after := #[{ on := 17, ground := Ground.data }, { on := 10, ground := Ground.guard }], guard := some (10, false) }
def q26_19 : Oper := { dst := some 25, op := Op.call { callee := Callee.value (Operand.func 99), args := #[Operand.tmp 20, Operand.tmp 24], argTypes := #[121, 121] }, type := 4, pos := "ref.go:65", after := #[{ on := 14, ground := Ground.data }, { on := 18, ground := Ground.data }, { on := 10, ground := Ground.chain }, { on := 10, ground := Ground.guard }], guard := some (10, false) }
def q26_20 : Oper := { dst := some 26, op := Op.unOp UnOp.not 4 (Operand.tmp 25), type := 4, pos := "ref.go:65", after := #[{ on := 19, ground := Ground.data }, { on := 10, ground := Ground.guard }], guard := some (10, false) }
def q26_21 : Oper := { dst := some 27, op := Op.pick (Operand.tmp 16) (Operand.const (Value.bool true)) (Operand.tmp 26), type := 4, pos := "ref.go:65", after := #[{ on := 10, ground := Ground.data }, { on := 20, ground := Ground.data }], guard := none }
def q26_22 : Oper := { dst := some 28, op := Op.move (Operand.tmp 27), type := 4, pos := "ref.go:65", after := #[{ on := 21, ground := Ground.data }, { on := 19, ground := Ground.chain }], guard := none }
def q26_23 : Oper := { dst := some 29, op := Op.move (Operand.tmp 0), type := 36, pos := "ref.go:65", after := #[{ on := 22, ground := Ground.guard }], guard := some (22, false) }
def q26_24 : Oper := { dst := some 30, op := Op.call { callee := Callee.value (Operand.func 97), args := #[Operand.tmp 29], argTypes := #[36] }, type := 93, pos := "ref.go:65", after := #[{ on := 23, ground := Ground.data }, { on := 22, ground := Ground.chain }, { on := 22, ground := Ground.guard }], guard := some (22, false) }
def q26_25 : Oper := { dst := some 31, op := Op.move (Operand.tmp 1), type := 36, pos := "ref.go:65", after := #[{ on := 22, ground := Ground.guard }], guard := some (22, false) }
def q26_26 : Oper := { dst := some 32, op := Op.call { callee := Callee.value (Operand.func 97), args := #[Operand.tmp 31], argTypes := #[36] }, type := 93, pos := "ref.go:65", after := #[{ on := 25, ground := Ground.data }, { on := 24, ground := Ground.chain }, { on := 22, ground := Ground.guard }], guard := some (22, false) }
def q26_27 : Oper := { dst := some 33, op := Op.call { callee := Callee.value (Operand.func 96), args := #[Operand.tmp 30, Operand.tmp 32], argTypes := #[93, 93] }, type := 4, pos := "ref.go:65", after := #[{ on := 24, ground := Ground.data }, { on := 26, ground := Ground.data }, { on := 26, ground := Ground.chain }, { on := 22, ground := Ground.guard }], guard := some (22, false) }
def q26_28 : Oper := { dst := some 34, op := Op.unOp UnOp.not 4 (Operand.tmp 33), type := 4, pos := "ref.go:65", after := #[{ on := 27, ground := Ground.data }, { on := 22, ground := Ground.guard }], guard := some (22, false) }
def q26_29 : Oper := { dst := some 35, op := Op.pick (Operand.tmp 28) (Operand.const (Value.bool true)) (Operand.tmp 34), type := 4, pos := "ref.go:65", after := #[{ on := 22, ground := Ground.data }, { on := 28, ground := Ground.data }], guard := none }
def q26_30 : Oper := { dst := some 36, op := Op.move (Operand.tmp 35), type := 4, pos := "ref.go:65", after := #[{ on := 29, ground := Ground.data }, { on := 27, ground := Ground.chain }], guard := none }
def q26_31 : Oper := { dst := some 37, op := Op.move (Operand.tmp 0), type := 36, pos := "ref.go:65", after := #[{ on := 30, ground := Ground.guard }], guard := some (30, false) }
def q26_32 : Oper := { dst := some 38, op := Op.nilCheck (Operand.tmp 37), type := 0, pos := "ref.go:65", after := #[{ on := 31, ground := Ground.data }, { on := 30, ground := Ground.guard }], guard := some (30, false) }
def q26_33 : Oper := { dst := some 39, op := Op.fieldAddr 130 (Operand.tmp 38) 2, type := 0, pos := "ref.go:65", after := #[{ on := 32, ground := Ground.data }, { on := 30, ground := Ground.guard }], guard := some (30, false) }
def q26_34 : Oper := { dst := some 40, op := Op.load 125 (Operand.tmp 39), type := 125, pos := "ref.go:65", after := #[{ on := 33, ground := Ground.data }, { on := 30, ground := Ground.guard }], guard := some (30, false) }
def q26_35 : Oper := { dst := some 41, op := Op.nilCheck (Operand.tmp 40), type := 0, pos := "ref.go:65", after := #[{ on := 34, ground := Ground.data }, { on := 30, ground := Ground.guard }], guard := some (30, false) }
def q26_36 : Oper := { dst := some 42, op := Op.fieldAddr 127 (Operand.tmp 41) 0, type := 0, pos := "ref.go:65", after := #[{ on := 35, ground := Ground.data }, { on := 30, ground := Ground.guard }], guard := some (30, false) }
def q26_37 : Oper := { dst := some 43, op := Op.load 22 (Operand.tmp 42), type := 22, pos := "ref.go:65", after := #[{ on := 36, ground := Ground.data }, { on := 30, ground := Ground.guard }], guard := some (30, false) }
def q26_38 : Oper := { dst := some 44, op := Op.move (Operand.tmp 0), type := 36, pos := "ref.go:65", after := #[{ on := 30, ground := Ground.guard }], guard := some (30, false) }
def q26_39 : Oper := { dst := some 45, op := Op.nilCheck (Operand.tmp 44), type := 0, pos := "ref.go:65", after := #[{ on := 38, ground := Ground.data }, { on := 30, ground := Ground.guard }], guard := some (30, false) }
def q26_40 : Oper := { dst := some 46, op := Op.fieldAddr 130 (Operand.tmp 45) 2, type := 0, pos := "ref.go:65", after := #[{ on := 39, ground := Ground.data }, { on := 30, ground := Ground.guard }], guard := some (30, false) }
def q26_41 : Oper := { dst := some 47, op := Op.load 125 (Operand.tmp 46), type := 125, pos := "ref.go:65", after := #[{ on := 40, ground := Ground.data }, { on := 30, ground := Ground.guard }], guard := some (30, false) }
def q26_42 : Oper := { dst := some 48, op := Op.nilCheck (Operand.tmp 47), type := 0, pos := "ref.go:65", after := #[{ on := 41, ground := Ground.data }, { on := 30, ground := Ground.guard }], guard := some (30, false) }
def q26_43 : Oper := { dst := some 49, op := Op.fieldAddr 127 (Operand.tmp 48) 1, type := 0, pos := "ref.go:65", after := #[{ on := 42, ground := Ground.data }, { on := 30, ground := Ground.guard }], guard := some (30, false) }
def q26_44 : Oper := { dst := some 50, op := Op.load 3 (Operand.tmp 49), type := 3, pos := "ref.go:65", after := #[{ on := 43, ground := Ground.data }, { on := 30, ground := Ground.guard }], guard := some (30, false) }
def q26_45 : Oper := { dst := some 51, op := Op.slice 22 (Operand.tmp 43) (some (Operand.tmp 50)) none none, type := 22, pos := "ref.go:65", after := #[{ on := 37, ground := Ground.data }, { on := 44, ground := Ground.data }, { on := 30, ground := Ground.guard }], guard := some (30, false) }
def q26_46 : Oper := { dst := some 52, op := Op.convert 22 9 (Operand.tmp 51), type := 9, pos := "ref.go:65", after := #[{ on := 45, ground := Ground.data }, { on := 30, ground := Ground.guard }], guard := some (30, false) }
def q26_47 : Oper := { dst := some 53, op := Op.move (Operand.tmp 1), type := 36, pos := "ref.go:65", after := #[{ on := 30, ground := Ground.guard }], guard := some (30, false) }
def q26_48 : Oper := { dst := some 54, op := Op.nilCheck (Operand.tmp 53), type := 0, pos := "ref.go:65", after := #[{ on := 47, ground := Ground.data }, { on := 30, ground := Ground.guard }], guard := some (30, false) }
def q26_49 : Oper := { dst := some 55, op := Op.fieldAddr 130 (Operand.tmp 54) 2, type := 0, pos := "ref.go:65", after := #[{ on := 48, ground := Ground.data }, { on := 30, ground := Ground.guard }], guard := some (30, false) }
def q26_50 : Oper := { dst := some 56, op := Op.load 125 (Operand.tmp 55), type := 125, pos := "ref.go:65", after := #[{ on := 49, ground := Ground.data }, { on := 30, ground := Ground.guard }], guard := some (30, false) }
def q26_51 : Oper := { dst := some 57, op := Op.nilCheck (Operand.tmp 56), type := 0, pos := "ref.go:65", after := #[{ on := 50, ground := Ground.data }, { on := 30, ground := Ground.guard }], guard := some (30, false) }
def q26_52 : Oper := { dst := some 58, op := Op.fieldAddr 127 (Operand.tmp 57) 0, type := 0, pos := "ref.go:65", after := #[{ on := 51, ground := Ground.data }, { on := 30, ground := Ground.guard }], guard := some (30, false) }
def q26_53 : Oper := { dst := some 59, op := Op.load 22 (Operand.tmp 58), type := 22, pos := "ref.go:65", after := #[{ on := 52, ground := Ground.data }, { on := 30, ground := Ground.guard }], guard := some (30, false) }
def q26_54 : Oper := { dst := some 60, op := Op.move (Operand.tmp 1), type := 36, pos := "ref.go:65", after := #[{ on := 30, ground := Ground.guard }], guard := some (30, false) }
def q26_55 : Oper := { dst := some 61, op := Op.nilCheck (Operand.tmp 60), type := 0, pos := "ref.go:65", after := #[{ on := 54, ground := Ground.data }, { on := 30, ground := Ground.guard }], guard := some (30, false) }
def q26_56 : Oper := { dst := some 62, op := Op.fieldAddr 130 (Operand.tmp 61) 2, type := 0, pos := "ref.go:65", after := #[{ on := 55, ground := Ground.data }, { on := 30, ground := Ground.guard }], guard := some (30, false) }
def q26_57 : Oper := { dst := some 63, op := Op.load 125 (Operand.tmp 62), type := 125, pos := "ref.go:65", after := #[{ on := 56, ground := Ground.data }, { on := 30, ground := Ground.guard }], guard := some (30, false) }
def q26_58 : Oper := { dst := some 64, op := Op.nilCheck (Operand.tmp 63), type := 0, pos := "ref.go:65", after := #[{ on := 57, ground := Ground.data }, { on := 30, ground := Ground.guard }], guard := some (30, false) }
def q26_59 : Oper := { dst := some 65, op := Op.fieldAddr 127 (Operand.tmp 64) 1, type := 0, pos := "ref.go:65", after := #[{ on := 58, ground := Ground.data }, { on := 30, ground := Ground.guard }], guard := some (30, false) }
def q26_60 : Oper := { dst := some 66, op := Op.load 3 (Operand.tmp 65), type := 3, pos := "ref.go:65", after := #[{ on := 59, ground := Ground.data }, { on := 30, ground := Ground.guard }], guard := some (30, false) }
def q26_61 : Oper := { dst := some 67, op := Op.slice 22 (Operand.tmp 59) (some (Operand.tmp 66)) none none, type := 22, pos := "ref.go:65", after := #[{ on := 53, ground := Ground.data }, { on := 60, ground := Ground.data }, { on := 30, ground := Ground.guard }], guard := some (30, false) }
def q26_62 : Oper := { dst := some 68, op := Op.convert 22 9 (Operand.tmp 67), type := 9, pos := "ref.go:65", after := #[{ on := 61, ground := Ground.data }, { on := 30, ground := Ground.guard }], guard := some (30, false) }
def q26_63 : Oper := { dst := some 69, op := Op.binOp BinOp.neq 9 (Operand.tmp 52) (Operand.tmp 68) 9, type := 4, pos := "ref.go:65", after := #[{ on := 46, ground := Ground.data }, { on := 62, ground := Ground.data }, { on := 30, ground := Ground.guard }], guard := some (30, false) }
def q26_64 : Oper := { dst := some 70, op := Op.pick (Operand.tmp 36) (Operand.const (Value.bool true)) (Operand.tmp 69), type := 4, pos := "ref.go:65", after := #[{ on := 30, ground := Ground.data }, { on := 63, ground := Ground.data }], guard := none }
def q26_65 : Oper := { dst := some 71, op := Op.move (Operand.tmp 70), type := 4, pos := "ref.go:65", after := #[{ on := 64, ground := Ground.data }, { on := 30, ground := Ground.chain }], guard := none }
def q26_66 : Oper := { dst := some 72, op := Op.move (Operand.tmp 0), type := 36, pos := "ref.go:65", after := #[{ on := 65, ground := Ground.guard }], guard := some (65, false) }
def q26_67 : Oper := { dst := some 73, op := Op.nilCheck (Operand.tmp 72), type := 0, pos := "ref.go:65", after := #[{ on := 66, ground := Ground.data }, { on := 65, ground := Ground.guard }], guard := some (65, false) }
def q26_68 : Oper := { dst := some 74, op := Op.fieldAddr 130 (Operand.tmp 73) 7, type := 0, pos := "ref.go:65", after := #[{ on := 67, ground := Ground.data }, { on := 65, ground := Ground.guard }], guard := some (65, false) }
def q26_69 : Oper := { dst := some 75, op := Op.load 128 (Operand.tmp 74), type := 128, pos := "ref.go:65", after := #[{ on := 68, ground := Ground.data }, { on := 65, ground := Ground.guard }], guard := some (65, false) }
def q26_70 : Oper := { dst := some 76, op := Op.call { callee := Callee.builtin Builtin.len, args := #[Operand.tmp 75], argTypes := #[128] }, type := 3, pos := "ref.go:65", after := #[{ on := 69, ground := Ground.data }, { on := 65, ground := Ground.guard }], guard := some (65, false) }
def q26_71 : Oper := { dst := some 77, op := Op.move (Operand.tmp 1), type := 36, pos := "ref.go:65", after := #[{ on := 65, ground := Ground.guard }], guard := some (65, false) }
def q26_72 : Oper := { dst := some 78, op := Op.nilCheck (Operand.tmp 77), type := 0, pos := "ref.go:65", after := #[{ on := 71, ground := Ground.data }, { on := 65, ground := Ground.guard }], guard := some (65, false) }
def q26_73 : Oper := { dst := some 79, op := Op.fieldAddr 130 (Operand.tmp 78) 7, type := 0, pos := "ref.go:65", after := #[{ on := 72, ground := Ground.data }, { on := 65, ground := Ground.guard }], guard := some (65, false) }
def q26_74 : Oper := { dst := some 80, op := Op.load 128 (Operand.tmp 79), type := 128, pos := "ref.go:65", after := #[{ on := 73, ground := Ground.data }, { on := 65, ground := Ground.guard }], guard := some (65, false) }
def q26_75 : Oper := { dst := some 81, op := Op.call { callee := Callee.builtin Builtin.len, args := #[Operand.tmp 80], argTypes := #[128] }, type := 3, pos := "ref.go:65", after := #[{ on := 74, ground := Ground.data }, { on := 65, ground := Ground.guard }], guard := some (65, false) }
def q26_76 : Oper := { dst := some 82, op := Op.binOp BinOp.neq 3 (Operand.tmp 76) (Operand.tmp 81) 3, type := 4, pos := "ref.go:65", after := #[{ on := 70, ground := Ground.data }, { on := 75, ground := Ground.data }, { on := 65, ground := Ground.guard }], guard := some (65, false) }
def q26_77 : Oper := { dst := some 83, op := Op.pick (Operand.tmp 71) (Operand.const (Value.bool true)) (Operand.tmp 82), type := 4, pos := "ref.go:65", after := #[{ on := 65, ground := Ground.data }, { on := 76, ground := Ground.data }], guard := none }
def ops26 : Array Oper := #[q26_0, q26_1, q26_2, q26_3, q26_4, q26_5, q26_6, q26_7, q26_8, q26_9, q26_10, q26_11, q26_12, q26_13, q26_14, q26_15, q26_16, q26_17, q26_18, q26_19, q26_20, q26_21, q26_22, q26_23, q26_24, q26_25, q26_26, q26_27, q26_28, q26_29, q26_30, q26_31, q26_32, q26_33, q26_34, q26_35, q26_36, q26_37, q26_38, q26_39, q26_40, q26_41, q26_42, q26_43, q26_44, q26_45, q26_46, q26_47, q26_48, q26_49, q26_50, q26_51, q26_52, q26_53, q26_54, q26_55, q26_56, q26_57, q26_58, q26_59, q26_60, q26_61, q26_62, q26_63, q26_64, q26_65, q26_66, q26_67, q26_68, q26_69, q26_70, q26_71, q26_72, q26_73, q26_74, q26_75, q26_76, q26_77]
def SR26 (rb qb : Nat) (p q : Loc) (DA1 FA1 DA2 FA2 LA1 LA2 XA1 XA2 : Option Addr) (dn1 dc1 fn1 fc1 dn2 dc2 fn2 fc2 ln1 lc1 ln2 lc2 xn1 xc1 xn2 xc2 : Nat) (R1 R2 : Value) (A B : List Int) (W : World) : Prop :=
  W.cell? ⟨rb, 0, none⟩ = some (.slice DA1 dn1 dc1) ∧ W.cell? ⟨rb, 1, none⟩ = some (.slice FA1 fn1 fc1) ∧ W.cell? ⟨rb, 2, none⟩ = some (.pointer (some ⟨p.mb, 0, none⟩)) ∧ W.cell? ⟨rb, 3, none⟩ = some (.pointer (some ⟨p.tb, 0, none⟩)) ∧ W.cell? ⟨rb, 8, none⟩ = some (.slice LA1 ln1 lc1) ∧ W.cell? ⟨p.tb, 0, none⟩ = some (.slice XA1 xn1 xc1) ∧ W.cell? ⟨p.tb, 1, none⟩ = some (.int .i64 p.k) ∧ W.cell? ⟨qb, 0, none⟩ = some (.slice DA2 dn2 dc2) ∧ W.cell? ⟨qb, 1, none⟩ = some (.slice FA2 fn2 fc2) ∧ W.cell? ⟨qb, 2, none⟩ = some (.pointer (some ⟨q.mb, 0, none⟩)) ∧ W.cell? ⟨qb, 3, none⟩ = some (.pointer (some ⟨q.tb, 0, none⟩)) ∧ W.cell? ⟨qb, 8, none⟩ = some (.slice LA2 ln2 lc2) ∧ W.cell? ⟨q.tb, 0, none⟩ = some (.slice XA2 xn2 xc2) ∧ W.cell? ⟨q.tb, 1, none⟩ = some (.int .i64 q.k) ∧ (convert 22 9 R1).run Tryz.prog W = .ok (.string (strOfNums A)) W ∧ (convert 22 9 R2).run Tryz.prog W = .ok (.string (strOfNums B)) W
set_option maxRecDepth 100000 in
set_option maxHeartbeats 64000000 in
theorem rregion26 {Q : Exit → Act → World → Prop} (hQ : ∀ c a (d : Tmp) v w, Q (.panic c) (Act.put a (some d) v) w → Q (.panic c) a w) {w0 : World} {rb qb : Nat} {p q : Loc} {DA1 FA1 DA2 FA2 LA1 LA2 XA1 XA2 : Option Addr} {dn1 dc1 fn1 fc1 dn2 dc2 fn2 fc2 ln1 lc1 ln2 lc2 xn1 xc1 xn2 xc2 : Nat} {R1 R2 : Value} {S T : SpV} {b0 b1 b2 b3 b4 : Bool} {u2 u3 u4 u5 : Value}
    (hG : ∀ W, Below w0.heap.size w0 W → SR26 rb qb p q DA1 FA1 DA2 FA2 LA1 LA2 XA1 XA2 dn1 dc1 fn1 fc1 dn2 dc2 fn2 fc2 ln1 lc1 ln2 lc2 xn1 xc1 xn2 xc2 R1 R2 S.left T.left W)
    (hM8 : ∀ W, Below w0.heap.size w0 W → Calls Tryz.prog 98 #[.agg #[.slice DA1 dn1 dc1, .slice FA1 fn1 fc1], .agg #[.slice DA2 dn2 dc2, .slice FA2 fn2 fc2]] W (Makes W (.bool b0)))
    (hMM : ∀ W, Below w0.heap.size w0 W → Calls Tryz.prog 99 #[.pointer (some ⟨p.mb, 0, none⟩), .pointer (some ⟨q.mb, 0, none⟩)] W (Drew W (.bool b1)))
    (hO1 : ∀ W, Below w0.heap.size w0 W → Calls Tryz.prog 97 #[.pointer (some ⟨rb, 0, none⟩)] W (OutcDone W S))
    (hO2 : ∀ W, Below w0.heap.size w0 W → Calls Tryz.prog 97 #[.pointer (some ⟨qb, 0, none⟩)] W (OutcDone W T))
    (hDS : ∀ (W : World) (V V' : Value), IsDeeds W W.heap.size V S.done → IsDeeds W W.heap.size V' T.done → Calls Tryz.prog 96 #[.agg #[V, .int .i64 S.ek, .int .i64 S.ec], .agg #[V', .int .i64 T.ek, .int .i64 T.ec]] W (Makes W (.bool b2)))
    (hbn : ((strOfNums S.left).toList != (strOfNums T.left).toList) = !b3)
    (hln : ((ln1 : Int) != (ln2 : Int)) = !b4)
    (hs1 : ∀ W, (Instr.slice 22 (.slice XA1 xn1 xc1) (some (.int .i64 (p.k : Int))) none none).run Tryz.prog W = .ok R1 W) (hs2 : ∀ W, (Instr.slice 22 (.slice XA2 xn2 xc2) (some (.int .i64 (q.k : Int))) none none).run Tryz.prog W = .ok R2 W)
    (H : ∀ (w' : World) (v6 v7 v8 v9 v10 v11 v12 v13 v14 v15 v16 v17 v18 v19 v20 v21 v22 v23 v24 v25 v26 v27 v28 v29 v30 v31 v32 v33 v34 v35 v36 v37 v38 v39 v40 v41 v42 v43 v44 v45 v46 v47 v48 v49 v50 v51 v52 v53 v54 v55 v56 v57 v58 v59 v60 v61 v62 v63 v64 v65 v66 v67 v68 v69 v70 v71 v72 v73 v74 v75 v76 v77 v78 v79 v80 v81 v82 : Value), Below w0.heap.size w0 w' → Q .normal { tmps := #[.pointer (some ⟨rb, 0, none⟩), .pointer (some ⟨qb, 0, none⟩), u2, u3, u4, u5, v6, v7, v8, v9, v10, v11, v12, v13, v14, v15, v16, v17, v18, v19, v20, v21, v22, v23, v24, v25, v26, v27, v28, v29, v30, v31, v32, v33, v34, v35, v36, v37, v38, v39, v40, v41, v42, v43, v44, v45, v46, v47, v48, v49, v50, v51, v52, v53, v54, v55, v56, v57, v58, v59, v60, v61, v62, v63, v64, v65, v66, v67, v68, v69, v70, v71, v72, v73, v74, v75, v76, v77, v78, v79, v80, v81, v82, .bool (!(b0 && (b1 && (b2 && (b3 && b4))))), undef, undef, undef, undef, undef, undef, undef, undef, undef, undef, undef, undef, undef, undef, undef, undef, undef, undef, undef, undef, undef, undef, undef, undef, undef, undef, undef, undef, undef, undef, undef, undef, undef, undef, undef, undef, undef, undef, undef, undef, undef, undef, undef, undef, undef, undef, undef, undef, undef, undef, undef, undef, undef, undef, undef, undef, undef, undef, undef, undef, undef, undef, undef, undef, undef, undef], defers := [] } w') :
    Code.wp Tryz.prog (Code.region 1 ops26 true) Q { tmps := #[.pointer (some ⟨rb, 0, none⟩), .pointer (some ⟨qb, 0, none⟩), u2, u3, u4, u5, undef, undef, undef, undef, undef, undef, undef, undef, undef, undef, undef, undef, undef, undef, undef, undef, undef, undef, undef, undef, undef, undef, undef, undef, undef, undef, undef, undef, undef, undef, undef, undef, undef, undef, undef, undef, undef, undef, undef, undef, undef, undef, undef, undef, undef, undef, undef, undef, undef, undef, undef, undef, undef, undef, undef, undef, undef, undef, undef, undef, undef, undef, undef, undef, undef, undef, undef, undef, undef, undef, undef, undef, undef, undef, undef, undef, undef, undef, undef, undef, undef, undef, undef, undef, undef, undef, undef, undef, undef, undef, undef, undef, undef, undef, undef, undef, undef, undef, undef, undef, undef, undef, undef, undef, undef, undef, undef, undef, undef, undef, undef, undef, undef, undef, undef, undef, undef, undef, undef, undef, undef, undef, undef, undef, undef, undef, undef, undef, undef, undef, undef, undef, undef, undef, undef, undef, undef, undef, undef, undef, undef, undef, undef, undef], defers := [] } w0 := by
  have HH := Lib.hid H
  have HQ := Lib.hid hQ
  have hnot0 := not15
  have HG := Lib.hid hG
  have HM8 := Lib.hid hM8
  have HMM := Lib.hid hMM
  have HO1 := Lib.hid hO1
  have HO2 := Lib.hid hO2
  have HDS := Lib.hid hDS
  have HBN := Lib.hid hbn
  have HLN := Lib.hid hln
  have B0 := Lib.hid (show Below w0.heap.size w0 w0.drew from (Below.refl _ w0).drew)
  clear H hQ hG hM8 hMM hO1 hO2 hDS hbn hln
  refine wp_region_held_drew (S := SR26 rb qb p q DA1 FA1 DA2 FA2 LA1 LA2 XA1 XA2 dn1 dc1 fn1 fc1 dn2 dc2 fn2 fc2 ln1 lc1 ln2 lc2 xn1 xc1 xn2 xc2 R1 R2 S.left T.left) (by kernel_rfl) (HG.out _ B0.out) (fun hHeld => ?_)
  show wpAnyH _ _ ops26 _ _ 78 (Array.replicate 78 false) _ _
  refine wpAnyH_one HQ.out 0 6 q26_0 (.pointer (some ⟨rb, 0, none⟩)) ?_ hHeld ?_
  · intro W _; unfold q26_0; go_simp
  refine wpAnyH_one HQ.out 1 7 q26_1 (.pointer (some ⟨rb, 0, none⟩)) ?_ hHeld ?_
  · intro W _; unfold q26_1; go_simp
  refine wpAnyH_one HQ.out 2 8 q26_2 (.pointer (some ⟨rb, 0, none⟩)) ?_ hHeld ?_
  · intro W _; unfold q26_2; go_simp
  refine wpAnyH_one HQ.out 3 9 q26_3 (.agg #[.slice DA1 dn1 dc1, .slice FA1 fn1 fc1]) ?_ hHeld ?_
  · intro W hSw; unfold SR26 at hSw; unfold q26_3; clear hHeld; go_simp
  refine wpAnyH_one HQ.out 4 10 q26_4 (.pointer (some ⟨qb, 0, none⟩)) ?_ hHeld ?_
  · intro W _; unfold q26_4; go_simp
  refine wpAnyH_one HQ.out 5 11 q26_5 (.pointer (some ⟨qb, 0, none⟩)) ?_ hHeld ?_
  · intro W _; unfold q26_5; go_simp
  refine wpAnyH_one HQ.out 6 12 q26_6 (.pointer (some ⟨qb, 0, none⟩)) ?_ hHeld ?_
  · intro W _; unfold q26_6; go_simp
  refine wpAnyH_one HQ.out 7 13 q26_7 (.agg #[.slice DA2 dn2 dc2, .slice FA2 fn2 fc2]) ?_ hHeld ?_
  · intro W hSw; unfold SR26 at hSw; unfold q26_7; clear hHeld; go_simp
  refine wpAnyH_ready (rs := [8]) (by kernel_rfl) (by simp) ?_
  refine AllReadyH.cons (o := q26_8) rfl (fun K hK => ?_) AllReadyH.nil
  rw [if_pos]
  rotate_left
  · kernel_rfl
  unfold q26_8
  go_wp2_with (go_at_call 98; (with_reducible refine (HM8.out _ B0.out).mono ?_); rintro e w1 ⟨rfl, hb⟩; have B1 := Lib.hid (B0.out.trans (hb.mono B0.out.size)); clear hb)
  clear hHeld
  refine hK.out _ _ (HG.out _ B1.out) (fun hHeld => ?_)
  clear hK K
  try simp only [Act.put, List.setIfInBounds_toArray, List.set_cons_zero, List.set_cons_succ]
  cases b0
  · skip
    refine wpAnyH_one HQ.out 9 15 q26_9 (.bool true) ?_ hHeld ?_
    · intro W _; have hnot := hnot0; unfold q26_9; go_simp
    exact wpAnyH_rest (by kernel_rfl) HQ.out hHeld (HH.out _ (.pointer (some ⟨rb, 0, none⟩)) (.pointer (some ⟨rb, 0, none⟩)) (.pointer (some ⟨rb, 0, none⟩)) (.agg #[.slice DA1 dn1 dc1, .slice FA1 fn1 fc1]) (.pointer (some ⟨qb, 0, none⟩)) (.pointer (some ⟨qb, 0, none⟩)) (.pointer (some ⟨qb, 0, none⟩)) (.agg #[.slice DA2 dn2 dc2, .slice FA2 fn2 fc2]) (.bool false) (.bool true) (.bool true) undef undef undef undef undef undef undef undef undef undef (.bool true) (.bool true) undef undef undef undef undef undef (.bool true) (.bool true) undef undef undef undef undef undef undef undef undef undef undef undef undef undef undef undef undef undef undef undef undef undef undef undef undef undef undef undef undef undef undef undef undef (.bool true) (.bool true) undef undef undef undef undef undef undef undef undef undef undef B1.out) [10, 11, 12, 13, 14, 15, 16, 17, 18, 19, 20, 21, 22, 23, 25, 24, 26, 27, 28, 29, 30, 31, 32, 33, 34, 35, 36, 37, 38, 39, 40, 41, 42, 43, 44, 45, 46, 47, 48, 49, 50, 51, 52, 53, 54, 55, 56, 57, 58, 59, 60, 61, 62, 63, 64, 65, 66, 67, 68, 69, 70, 71, 72, 73, 74, 75, 76, 77] (by kernel_rfl) (by decide)
  skip
  refine wpAnyH_one HQ.out 9 15 q26_9 (.bool false) ?_ hHeld ?_
  · intro W _; have hnot := hnot0; unfold q26_9; go_simp
  refine wpAnyH_one HQ.out 10 16 q26_10 (.bool false) ?_ hHeld ?_
  · intro W _; unfold q26_10; go_simp
  refine wpAnyH_one HQ.out 11 17 q26_11 (.pointer (some ⟨rb, 0, none⟩)) ?_ hHeld ?_
  · intro W _; unfold q26_11; go_simp
  refine wpAnyH_one HQ.out 12 18 q26_12 (.pointer (some ⟨rb, 0, none⟩)) ?_ hHeld ?_
  · intro W _; unfold q26_12; go_simp
  refine wpAnyH_one HQ.out 13 19 q26_13 (.pointer (some ⟨rb, 2, none⟩)) ?_ hHeld ?_
  · intro W _; unfold q26_13; go_simp
  refine wpAnyH_one HQ.out 14 20 q26_14 (.pointer (some ⟨p.mb, 0, none⟩)) ?_ hHeld ?_
  · intro W hSw; unfold SR26 at hSw; unfold q26_14; clear hHeld; go_simp
  refine wpAnyH_one HQ.out 15 21 q26_15 (.pointer (some ⟨qb, 0, none⟩)) ?_ hHeld ?_
  · intro W _; unfold q26_15; go_simp
  refine wpAnyH_one HQ.out 16 22 q26_16 (.pointer (some ⟨qb, 0, none⟩)) ?_ hHeld ?_
  · intro W _; unfold q26_16; go_simp
  refine wpAnyH_one HQ.out 17 23 q26_17 (.pointer (some ⟨qb, 2, none⟩)) ?_ hHeld ?_
  · intro W _; unfold q26_17; go_simp
  refine wpAnyH_one HQ.out 18 24 q26_18 (.pointer (some ⟨q.mb, 0, none⟩)) ?_ hHeld ?_
  · intro W hSw; unfold SR26 at hSw; unfold q26_18; clear hHeld; go_simp
  refine wpAnyH_ready (rs := [19]) (by kernel_rfl) (by simp) ?_
  refine AllReadyH.cons (o := q26_19) rfl (fun K hK => ?_) AllReadyH.nil
  rw [if_pos]
  rotate_left
  · kernel_rfl
  unfold q26_19
  go_wp2_with (go_at_call 99; (with_reducible refine (HMM.out _ B1.out).mono ?_); rintro e w2 ⟨rfl, hw⟩; have B2 := Lib.hid (show Below w0.heap.size w0 w2 from by obtain ⟨n, rfl⟩ := hw; exact below_drewN B1.out n); clear hw)
  clear hHeld
  refine hK.out _ _ (HG.out _ B2.out) (fun hHeld => ?_)
  clear hK K
  try simp only [Act.put, List.setIfInBounds_toArray, List.set_cons_zero, List.set_cons_succ]
  cases b1
  · skip
    refine wpAnyH_one HQ.out 20 26 q26_20 (.bool true) ?_ hHeld ?_
    · intro W _; have hnot := hnot0; unfold q26_20; go_simp
    exact wpAnyH_rest (by kernel_rfl) HQ.out hHeld (HH.out _ (.pointer (some ⟨rb, 0, none⟩)) (.pointer (some ⟨rb, 0, none⟩)) (.pointer (some ⟨rb, 0, none⟩)) (.agg #[.slice DA1 dn1 dc1, .slice FA1 fn1 fc1]) (.pointer (some ⟨qb, 0, none⟩)) (.pointer (some ⟨qb, 0, none⟩)) (.pointer (some ⟨qb, 0, none⟩)) (.agg #[.slice DA2 dn2 dc2, .slice FA2 fn2 fc2]) (.bool true) (.bool false) (.bool false) (.pointer (some ⟨rb, 0, none⟩)) (.pointer (some ⟨rb, 0, none⟩)) (.pointer (some ⟨rb, 2, none⟩)) (.pointer (some ⟨p.mb, 0, none⟩)) (.pointer (some ⟨qb, 0, none⟩)) (.pointer (some ⟨qb, 0, none⟩)) (.pointer (some ⟨qb, 2, none⟩)) (.pointer (some ⟨q.mb, 0, none⟩)) (.bool false) (.bool true) (.bool true) (.bool true) undef undef undef undef undef undef (.bool true) (.bool true) undef undef undef undef undef undef undef undef undef undef undef undef undef undef undef undef undef undef undef undef undef undef undef undef undef undef undef undef undef undef undef undef undef (.bool true) (.bool true) undef undef undef undef undef undef undef undef undef undef undef B2.out) [21, 22, 23, 25, 24, 26, 27, 28, 29, 30, 31, 32, 33, 34, 35, 36, 37, 38, 39, 40, 41, 42, 43, 44, 45, 46, 47, 48, 49, 50, 51, 52, 53, 54, 55, 56, 57, 58, 59, 60, 61, 62, 63, 64, 65, 66, 67, 68, 69, 70, 71, 72, 73, 74, 75, 76, 77] (by kernel_rfl) (by decide)
  skip
  refine wpAnyH_one HQ.out 20 26 q26_20 (.bool false) ?_ hHeld ?_
  · intro W _; have hnot := hnot0; unfold q26_20; go_simp
  refine wpAnyH_one HQ.out 21 27 q26_21 (.bool false) ?_ hHeld ?_
  · intro W _; unfold q26_21; go_simp
  refine wpAnyH_one HQ.out 22 28 q26_22 (.bool false) ?_ hHeld ?_
  · intro W _; unfold q26_22; go_simp
  refine wpAnyH_one HQ.out 23 29 q26_23 (.pointer (some ⟨rb, 0, none⟩)) ?_ hHeld ?_
  · intro W _; unfold q26_23; go_simp
  refine wpAnyH_one HQ.out 25 31 q26_25 (.pointer (some ⟨qb, 0, none⟩)) ?_ hHeld ?_
  · intro W _; unfold q26_25; go_simp
  refine wpAnyH_ready (rs := [24]) (by kernel_rfl) (by simp) ?_
  refine AllReadyH.cons (o := q26_24) rfl (fun K hK => ?_) AllReadyH.nil
  rw [if_pos]
  rotate_left
  · kernel_rfl
  unfold q26_24
  go_wp2_with (go_at_call 97; (with_reducible refine (HO1.out _ B2.out).mono ?_); rintro e w3 ⟨V1, rfl, ho, hb⟩; obtain ⟨v1, u1, hve⟩ := owns_len14 ho; subst hve; have B3 := Lib.hid (B2.out.trans (hb.mono B2.out.size)); have O1 := Lib.hid ho; clear ho hb)
  clear hHeld
  refine hK.out _ _ (HG.out _ B3.out) (fun hHeld => ?_)
  clear hK K
  try simp only [Act.put, List.setIfInBounds_toArray, List.set_cons_zero, List.set_cons_succ]
  refine wpAnyH_ready (rs := [26]) (by kernel_rfl) (by simp) ?_
  refine AllReadyH.cons (o := q26_26) rfl (fun K hK => ?_) AllReadyH.nil
  rw [if_pos]
  rotate_left
  · kernel_rfl
  unfold q26_26
  go_wp2_with (go_at_call 97; (with_reducible refine (HO2.out _ B3.out).mono ?_); rintro e w4 ⟨V2, rfl, ho, hb⟩; obtain ⟨v2, u2, hve⟩ := owns_len14 ho; subst hve; have B4 := Lib.hid (B3.out.trans (hb.mono B3.out.size)); have D1 := Lib.hid (IsDeeds.of_owns (O1.out.below hb (Nat.le_refl _)) (Nat.le_refl _)); have D2 := Lib.hid (IsDeeds.of_owns ho (Nat.le_refl _)); clear ho hb)
  clear hHeld
  refine hK.out _ _ (HG.out _ B4.out) (fun hHeld => ?_)
  clear hK K
  try simp only [Act.put, List.setIfInBounds_toArray, List.set_cons_zero, List.set_cons_succ]
  refine wpAnyH_ready (rs := [27]) (by kernel_rfl) (by simp) ?_
  refine AllReadyH.cons (o := q26_27) rfl (fun K hK => ?_) AllReadyH.nil
  rw [if_pos]
  rotate_left
  · kernel_rfl
  unfold q26_27
  go_wp2_with (go_at_call 96; (with_reducible refine (HDS.out _ _ _ D1.out D2.out).mono ?_); rintro e w5 ⟨rfl, hb⟩; have B5 := Lib.hid (B4.out.trans (hb.mono B4.out.size)); clear hb)
  clear hHeld
  refine hK.out _ _ (HG.out _ B5.out) (fun hHeld => ?_)
  clear hK K
  try simp only [Act.put, List.setIfInBounds_toArray, List.set_cons_zero, List.set_cons_succ]
  cases b2
  · skip
    refine wpAnyH_one HQ.out 28 34 q26_28 (.bool true) ?_ hHeld ?_
    · intro W _; have hnot := hnot0; unfold q26_28; go_simp
    exact wpAnyH_rest (by kernel_rfl) HQ.out hHeld (HH.out _ (.pointer (some ⟨rb, 0, none⟩)) (.pointer (some ⟨rb, 0, none⟩)) (.pointer (some ⟨rb, 0, none⟩)) (.agg #[.slice DA1 dn1 dc1, .slice FA1 fn1 fc1]) (.pointer (some ⟨qb, 0, none⟩)) (.pointer (some ⟨qb, 0, none⟩)) (.pointer (some ⟨qb, 0, none⟩)) (.agg #[.slice DA2 dn2 dc2, .slice FA2 fn2 fc2]) (.bool true) (.bool false) (.bool false) (.pointer (some ⟨rb, 0, none⟩)) (.pointer (some ⟨rb, 0, none⟩)) (.pointer (some ⟨rb, 2, none⟩)) (.pointer (some ⟨p.mb, 0, none⟩)) (.pointer (some ⟨qb, 0, none⟩)) (.pointer (some ⟨qb, 0, none⟩)) (.pointer (some ⟨qb, 2, none⟩)) (.pointer (some ⟨q.mb, 0, none⟩)) (.bool true) (.bool false) (.bool false) (.bool false) (.pointer (some ⟨rb, 0, none⟩)) (.agg #[.slice v1 S.done.length u1, .int .i64 S.ek, .int .i64 S.ec]) (.pointer (some ⟨qb, 0, none⟩)) (.agg #[.slice v2 T.done.length u2, .int .i64 T.ek, .int .i64 T.ec]) (.bool false) (.bool true) (.bool true) (.bool true) undef undef undef undef undef undef undef undef undef undef undef undef undef undef undef undef undef undef undef undef undef undef undef undef undef undef undef undef undef undef undef undef undef (.bool true) (.bool true) undef undef undef undef undef undef undef undef undef undef undef B5.out) [29, 30, 31, 32, 33, 34, 35, 36, 37, 38, 39, 40, 41, 42, 43, 44, 45, 46, 47, 48, 49, 50, 51, 52, 53, 54, 55, 56, 57, 58, 59, 60, 61, 62, 63, 64, 65, 66, 67, 68, 69, 70, 71, 72, 73, 74, 75, 76, 77] (by kernel_rfl) (by decide)
  skip
  refine wpAnyH_one HQ.out 28 34 q26_28 (.bool false) ?_ hHeld ?_
  · intro W _; have hnot := hnot0; unfold q26_28; go_simp
  refine wpAnyH_one HQ.out 29 35 q26_29 (.bool false) ?_ hHeld ?_
  · intro W _; unfold q26_29; go_simp
  refine wpAnyH_one HQ.out 30 36 q26_30 (.bool false) ?_ hHeld ?_
  · intro W _; unfold q26_30; go_simp
  refine wpAnyH_one HQ.out 31 37 q26_31 (.pointer (some ⟨rb, 0, none⟩)) ?_ hHeld ?_
  · intro W _; unfold q26_31; go_simp
  refine wpAnyH_one HQ.out 32 38 q26_32 (.pointer (some ⟨rb, 0, none⟩)) ?_ hHeld ?_
  · intro W _; unfold q26_32; go_simp
  refine wpAnyH_one HQ.out 33 39 q26_33 (.pointer (some ⟨rb, 3, none⟩)) ?_ hHeld ?_
  · intro W _; unfold q26_33; go_simp
  refine wpAnyH_one HQ.out 34 40 q26_34 (.pointer (some ⟨p.tb, 0, none⟩)) ?_ hHeld ?_
  · intro W hSw; unfold SR26 at hSw; unfold q26_34; clear hHeld; go_simp
  refine wpAnyH_one HQ.out 35 41 q26_35 (.pointer (some ⟨p.tb, 0, none⟩)) ?_ hHeld ?_
  · intro W _; unfold q26_35; go_simp
  refine wpAnyH_one HQ.out 36 42 q26_36 (.pointer (some ⟨p.tb, 0, none⟩)) ?_ hHeld ?_
  · intro W _; unfold q26_36; go_simp
  refine wpAnyH_one HQ.out 37 43 q26_37 (.slice XA1 xn1 xc1) ?_ hHeld ?_
  · intro W hSw; unfold SR26 at hSw; unfold q26_37; clear hHeld; go_simp
  refine wpAnyH_one HQ.out 38 44 q26_38 (.pointer (some ⟨rb, 0, none⟩)) ?_ hHeld ?_
  · intro W _; unfold q26_38; go_simp
  refine wpAnyH_one HQ.out 39 45 q26_39 (.pointer (some ⟨rb, 0, none⟩)) ?_ hHeld ?_
  · intro W _; unfold q26_39; go_simp
  refine wpAnyH_one HQ.out 40 46 q26_40 (.pointer (some ⟨rb, 3, none⟩)) ?_ hHeld ?_
  · intro W _; unfold q26_40; go_simp
  refine wpAnyH_one HQ.out 41 47 q26_41 (.pointer (some ⟨p.tb, 0, none⟩)) ?_ hHeld ?_
  · intro W hSw; unfold SR26 at hSw; unfold q26_41; clear hHeld; go_simp
  refine wpAnyH_one HQ.out 42 48 q26_42 (.pointer (some ⟨p.tb, 0, none⟩)) ?_ hHeld ?_
  · intro W _; unfold q26_42; go_simp
  refine wpAnyH_one HQ.out 43 49 q26_43 (.pointer (some ⟨p.tb, 1, none⟩)) ?_ hHeld ?_
  · intro W _; unfold q26_43; go_simp
  refine wpAnyH_one HQ.out 44 50 q26_44 (.int .i64 p.k) ?_ hHeld ?_
  · intro W hSw; unfold SR26 at hSw; unfold q26_44; clear hHeld; go_simp
  refine wpAnyH_one HQ.out 45 51 q26_45 (R1) ?_ hHeld ?_
  · intro W _; have hs := hs1; unfold q26_45; go_simp
  refine wpAnyH_one HQ.out 46 52 q26_46 (.string (strOfNums S.left)) ?_ hHeld ?_
  · intro W hSw; unfold SR26 at hSw; unfold q26_46; clear hHeld; go_simp
  refine wpAnyH_one HQ.out 47 53 q26_47 (.pointer (some ⟨qb, 0, none⟩)) ?_ hHeld ?_
  · intro W _; unfold q26_47; go_simp
  refine wpAnyH_one HQ.out 48 54 q26_48 (.pointer (some ⟨qb, 0, none⟩)) ?_ hHeld ?_
  · intro W _; unfold q26_48; go_simp
  refine wpAnyH_one HQ.out 49 55 q26_49 (.pointer (some ⟨qb, 3, none⟩)) ?_ hHeld ?_
  · intro W _; unfold q26_49; go_simp
  refine wpAnyH_one HQ.out 50 56 q26_50 (.pointer (some ⟨q.tb, 0, none⟩)) ?_ hHeld ?_
  · intro W hSw; unfold SR26 at hSw; unfold q26_50; clear hHeld; go_simp
  refine wpAnyH_one HQ.out 51 57 q26_51 (.pointer (some ⟨q.tb, 0, none⟩)) ?_ hHeld ?_
  · intro W _; unfold q26_51; go_simp
  refine wpAnyH_one HQ.out 52 58 q26_52 (.pointer (some ⟨q.tb, 0, none⟩)) ?_ hHeld ?_
  · intro W _; unfold q26_52; go_simp
  refine wpAnyH_one HQ.out 53 59 q26_53 (.slice XA2 xn2 xc2) ?_ hHeld ?_
  · intro W hSw; unfold SR26 at hSw; unfold q26_53; clear hHeld; go_simp
  refine wpAnyH_one HQ.out 54 60 q26_54 (.pointer (some ⟨qb, 0, none⟩)) ?_ hHeld ?_
  · intro W _; unfold q26_54; go_simp
  refine wpAnyH_one HQ.out 55 61 q26_55 (.pointer (some ⟨qb, 0, none⟩)) ?_ hHeld ?_
  · intro W _; unfold q26_55; go_simp
  refine wpAnyH_one HQ.out 56 62 q26_56 (.pointer (some ⟨qb, 3, none⟩)) ?_ hHeld ?_
  · intro W _; unfold q26_56; go_simp
  refine wpAnyH_one HQ.out 57 63 q26_57 (.pointer (some ⟨q.tb, 0, none⟩)) ?_ hHeld ?_
  · intro W hSw; unfold SR26 at hSw; unfold q26_57; clear hHeld; go_simp
  refine wpAnyH_one HQ.out 58 64 q26_58 (.pointer (some ⟨q.tb, 0, none⟩)) ?_ hHeld ?_
  · intro W _; unfold q26_58; go_simp
  refine wpAnyH_one HQ.out 59 65 q26_59 (.pointer (some ⟨q.tb, 1, none⟩)) ?_ hHeld ?_
  · intro W _; unfold q26_59; go_simp
  refine wpAnyH_one HQ.out 60 66 q26_60 (.int .i64 q.k) ?_ hHeld ?_
  · intro W hSw; unfold SR26 at hSw; unfold q26_60; clear hHeld; go_simp
  refine wpAnyH_one HQ.out 61 67 q26_61 (R2) ?_ hHeld ?_
  · intro W _; have hs := hs2; unfold q26_61; go_simp
  refine wpAnyH_one HQ.out 62 68 q26_62 (.string (strOfNums T.left)) ?_ hHeld ?_
  · intro W hSw; unfold SR26 at hSw; unfold q26_62; clear hHeld; go_simp
  cases b3
  · skip
    refine wpAnyH_one HQ.out 63 69 q26_63 (.bool true) ?_ hHeld ?_
    · intro W _; have hz := HBN.out; unfold q26_63; first | (go_simp; done) | (go_simp; simpa using hz)
    exact wpAnyH_rest (by kernel_rfl) HQ.out hHeld (HH.out _ (.pointer (some ⟨rb, 0, none⟩)) (.pointer (some ⟨rb, 0, none⟩)) (.pointer (some ⟨rb, 0, none⟩)) (.agg #[.slice DA1 dn1 dc1, .slice FA1 fn1 fc1]) (.pointer (some ⟨qb, 0, none⟩)) (.pointer (some ⟨qb, 0, none⟩)) (.pointer (some ⟨qb, 0, none⟩)) (.agg #[.slice DA2 dn2 dc2, .slice FA2 fn2 fc2]) (.bool true) (.bool false) (.bool false) (.pointer (some ⟨rb, 0, none⟩)) (.pointer (some ⟨rb, 0, none⟩)) (.pointer (some ⟨rb, 2, none⟩)) (.pointer (some ⟨p.mb, 0, none⟩)) (.pointer (some ⟨qb, 0, none⟩)) (.pointer (some ⟨qb, 0, none⟩)) (.pointer (some ⟨qb, 2, none⟩)) (.pointer (some ⟨q.mb, 0, none⟩)) (.bool true) (.bool false) (.bool false) (.bool false) (.pointer (some ⟨rb, 0, none⟩)) (.agg #[.slice v1 S.done.length u1, .int .i64 S.ek, .int .i64 S.ec]) (.pointer (some ⟨qb, 0, none⟩)) (.agg #[.slice v2 T.done.length u2, .int .i64 T.ek, .int .i64 T.ec]) (.bool true) (.bool false) (.bool false) (.bool false) (.pointer (some ⟨rb, 0, none⟩)) (.pointer (some ⟨rb, 0, none⟩)) (.pointer (some ⟨rb, 3, none⟩)) (.pointer (some ⟨p.tb, 0, none⟩)) (.pointer (some ⟨p.tb, 0, none⟩)) (.pointer (some ⟨p.tb, 0, none⟩)) (.slice XA1 xn1 xc1) (.pointer (some ⟨rb, 0, none⟩)) (.pointer (some ⟨rb, 0, none⟩)) (.pointer (some ⟨rb, 3, none⟩)) (.pointer (some ⟨p.tb, 0, none⟩)) (.pointer (some ⟨p.tb, 0, none⟩)) (.pointer (some ⟨p.tb, 1, none⟩)) (.int .i64 p.k) (R1) (.string (strOfNums S.left)) (.pointer (some ⟨qb, 0, none⟩)) (.pointer (some ⟨qb, 0, none⟩)) (.pointer (some ⟨qb, 3, none⟩)) (.pointer (some ⟨q.tb, 0, none⟩)) (.pointer (some ⟨q.tb, 0, none⟩)) (.pointer (some ⟨q.tb, 0, none⟩)) (.slice XA2 xn2 xc2) (.pointer (some ⟨qb, 0, none⟩)) (.pointer (some ⟨qb, 0, none⟩)) (.pointer (some ⟨qb, 3, none⟩)) (.pointer (some ⟨q.tb, 0, none⟩)) (.pointer (some ⟨q.tb, 0, none⟩)) (.pointer (some ⟨q.tb, 1, none⟩)) (.int .i64 q.k) (R2) (.string (strOfNums T.left)) (.bool true) (.bool true) (.bool true) undef undef undef undef undef undef undef undef undef undef undef B5.out) [64, 65, 66, 67, 68, 69, 70, 71, 72, 73, 74, 75, 76, 77] (by kernel_rfl) (by decide)
  skip
  refine wpAnyH_one HQ.out 63 69 q26_63 (.bool false) ?_ hHeld ?_
  · intro W _; have hz := HBN.out; unfold q26_63; first | (go_simp; done) | (go_simp; simpa using hz)
  refine wpAnyH_one HQ.out 64 70 q26_64 (.bool false) ?_ hHeld ?_
  · intro W _; unfold q26_64; go_simp
  refine wpAnyH_one HQ.out 65 71 q26_65 (.bool false) ?_ hHeld ?_
  · intro W _; unfold q26_65; go_simp
  refine wpAnyH_one HQ.out 66 72 q26_66 (.pointer (some ⟨rb, 0, none⟩)) ?_ hHeld ?_
  · intro W _; unfold q26_66; go_simp
  refine wpAnyH_one HQ.out 67 73 q26_67 (.pointer (some ⟨rb, 0, none⟩)) ?_ hHeld ?_
  · intro W _; unfold q26_67; go_simp
  refine wpAnyH_one HQ.out 68 74 q26_68 (.pointer (some ⟨rb, 8, none⟩)) ?_ hHeld ?_
  · intro W _; unfold q26_68; go_simp
  refine wpAnyH_one HQ.out 69 75 q26_69 (.slice LA1 ln1 lc1) ?_ hHeld ?_
  · intro W hSw; unfold SR26 at hSw; unfold q26_69; clear hHeld; go_simp
  refine wpAnyH_one HQ.out 70 76 q26_70 (.int .i64 ln1) ?_ hHeld ?_
  · intro W _; unfold q26_70; go_simp
  refine wpAnyH_one HQ.out 71 77 q26_71 (.pointer (some ⟨qb, 0, none⟩)) ?_ hHeld ?_
  · intro W _; unfold q26_71; go_simp
  refine wpAnyH_one HQ.out 72 78 q26_72 (.pointer (some ⟨qb, 0, none⟩)) ?_ hHeld ?_
  · intro W _; unfold q26_72; go_simp
  refine wpAnyH_one HQ.out 73 79 q26_73 (.pointer (some ⟨qb, 8, none⟩)) ?_ hHeld ?_
  · intro W _; unfold q26_73; go_simp
  refine wpAnyH_one HQ.out 74 80 q26_74 (.slice LA2 ln2 lc2) ?_ hHeld ?_
  · intro W hSw; unfold SR26 at hSw; unfold q26_74; clear hHeld; go_simp
  refine wpAnyH_one HQ.out 75 81 q26_75 (.int .i64 ln2) ?_ hHeld ?_
  · intro W _; unfold q26_75; go_simp
  refine wpAnyH_one HQ.out 76 82 q26_76 (.bool (!b4)) ?_ hHeld ?_
  · intro W _; have hz := HLN.out; unfold q26_76; go_simp
  exact wpAnyH_rest (by kernel_rfl) HQ.out hHeld (HH.out _ (.pointer (some ⟨rb, 0, none⟩)) (.pointer (some ⟨rb, 0, none⟩)) (.pointer (some ⟨rb, 0, none⟩)) (.agg #[.slice DA1 dn1 dc1, .slice FA1 fn1 fc1]) (.pointer (some ⟨qb, 0, none⟩)) (.pointer (some ⟨qb, 0, none⟩)) (.pointer (some ⟨qb, 0, none⟩)) (.agg #[.slice DA2 dn2 dc2, .slice FA2 fn2 fc2]) (.bool true) (.bool false) (.bool false) (.pointer (some ⟨rb, 0, none⟩)) (.pointer (some ⟨rb, 0, none⟩)) (.pointer (some ⟨rb, 2, none⟩)) (.pointer (some ⟨p.mb, 0, none⟩)) (.pointer (some ⟨qb, 0, none⟩)) (.pointer (some ⟨qb, 0, none⟩)) (.pointer (some ⟨qb, 2, none⟩)) (.pointer (some ⟨q.mb, 0, none⟩)) (.bool true) (.bool false) (.bool false) (.bool false) (.pointer (some ⟨rb, 0, none⟩)) (.agg #[.slice v1 S.done.length u1, .int .i64 S.ek, .int .i64 S.ec]) (.pointer (some ⟨qb, 0, none⟩)) (.agg #[.slice v2 T.done.length u2, .int .i64 T.ek, .int .i64 T.ec]) (.bool true) (.bool false) (.bool false) (.bool false) (.pointer (some ⟨rb, 0, none⟩)) (.pointer (some ⟨rb, 0, none⟩)) (.pointer (some ⟨rb, 3, none⟩)) (.pointer (some ⟨p.tb, 0, none⟩)) (.pointer (some ⟨p.tb, 0, none⟩)) (.pointer (some ⟨p.tb, 0, none⟩)) (.slice XA1 xn1 xc1) (.pointer (some ⟨rb, 0, none⟩)) (.pointer (some ⟨rb, 0, none⟩)) (.pointer (some ⟨rb, 3, none⟩)) (.pointer (some ⟨p.tb, 0, none⟩)) (.pointer (some ⟨p.tb, 0, none⟩)) (.pointer (some ⟨p.tb, 1, none⟩)) (.int .i64 p.k) (R1) (.string (strOfNums S.left)) (.pointer (some ⟨qb, 0, none⟩)) (.pointer (some ⟨qb, 0, none⟩)) (.pointer (some ⟨qb, 3, none⟩)) (.pointer (some ⟨q.tb, 0, none⟩)) (.pointer (some ⟨q.tb, 0, none⟩)) (.pointer (some ⟨q.tb, 0, none⟩)) (.slice XA2 xn2 xc2) (.pointer (some ⟨qb, 0, none⟩)) (.pointer (some ⟨qb, 0, none⟩)) (.pointer (some ⟨qb, 3, none⟩)) (.pointer (some ⟨q.tb, 0, none⟩)) (.pointer (some ⟨q.tb, 0, none⟩)) (.pointer (some ⟨q.tb, 1, none⟩)) (.int .i64 q.k) (R2) (.string (strOfNums T.left)) (.bool false) (.bool false) (.bool false) (.pointer (some ⟨rb, 0, none⟩)) (.pointer (some ⟨rb, 0, none⟩)) (.pointer (some ⟨rb, 8, none⟩)) (.slice LA1 ln1 lc1) (.int .i64 ln1) (.pointer (some ⟨qb, 0, none⟩)) (.pointer (some ⟨qb, 0, none⟩)) (.pointer (some ⟨qb, 8, none⟩)) (.slice LA2 ln2 lc2) (.int .i64 ln2) (.bool (!b4)) B5.out) [77] (by kernel_rfl) (by decide)
end Go.Proofs.YtkfdgpgildanbaaGreat
