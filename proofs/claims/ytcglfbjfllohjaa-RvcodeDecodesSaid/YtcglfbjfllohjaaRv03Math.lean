/- Instructions of the machine as words: plain mathematics: which word an instruction is, what is read of a word, and that each is got back. No program; no condition but what each names. -/
import Derived.Below
namespace Go.Proofs.Ytcglfbjfllohjaa
set_option linter.unusedVariables false

/-- The forms, and an operation's row. -/
inductive RvForm where
  | R | I | X | Y | S | B | U | J | E
  deriving DecidableEq
structure RvRow where
  name : String
  form : RvForm
  a : Nat
  b : Nat
  c : Nat
def rvRows : List RvRow := [
  ⟨ "lui", .U, 55, 0, 0⟩, ⟨ "auipc", .U, 23, 0, 0⟩, ⟨ "jal", .J, 111, 0, 0⟩, ⟨ "jalr", .I, 103, 0, 0⟩,
  ⟨ "beq", .B, 99, 0, 0⟩, ⟨ "bne", .B, 99, 1, 0⟩, ⟨ "blt", .B, 99, 4, 0⟩, ⟨ "bge", .B, 99, 5, 0⟩, ⟨ "bltu", .B, 99, 6, 0⟩, ⟨ "bgeu", .B, 99, 7, 0⟩,
  ⟨ "lb", .I, 3, 0, 0⟩, ⟨ "lh", .I, 3, 1, 0⟩, ⟨ "lw", .I, 3, 2, 0⟩, ⟨ "ld", .I, 3, 3, 0⟩, ⟨ "lbu", .I, 3, 4, 0⟩, ⟨ "lhu", .I, 3, 5, 0⟩, ⟨ "lwu", .I, 3, 6, 0⟩,
  ⟨ "sb", .S, 35, 0, 0⟩, ⟨ "sh", .S, 35, 1, 0⟩, ⟨ "sw", .S, 35, 2, 0⟩, ⟨ "sd", .S, 35, 3, 0⟩,
  ⟨ "addi", .I, 19, 0, 0⟩, ⟨ "slti", .I, 19, 2, 0⟩, ⟨ "sltiu", .I, 19, 3, 0⟩, ⟨ "xori", .I, 19, 4, 0⟩, ⟨ "ori", .I, 19, 6, 0⟩, ⟨ "andi", .I, 19, 7, 0⟩,
  ⟨ "slli", .X, 19, 1, 0⟩, ⟨ "srli", .X, 19, 5, 0⟩, ⟨ "srai", .X, 19, 5, 16⟩,
  ⟨ "addiw", .I, 27, 0, 0⟩, ⟨ "slliw", .Y, 27, 1, 0⟩, ⟨ "srliw", .Y, 27, 5, 0⟩, ⟨ "sraiw", .Y, 27, 5, 32⟩,
  ⟨ "add", .R, 51, 0, 0⟩, ⟨ "sub", .R, 51, 0, 32⟩, ⟨ "sll", .R, 51, 1, 0⟩, ⟨ "slt", .R, 51, 2, 0⟩, ⟨ "sltu", .R, 51, 3, 0⟩, ⟨ "xor", .R, 51, 4, 0⟩, ⟨ "srl", .R, 51, 5, 0⟩, ⟨ "sra", .R, 51, 5, 32⟩, ⟨ "or", .R, 51, 6, 0⟩, ⟨ "and", .R, 51, 7, 0⟩,
  ⟨ "addw", .R, 59, 0, 0⟩, ⟨ "subw", .R, 59, 0, 32⟩, ⟨ "sllw", .R, 59, 1, 0⟩, ⟨ "srlw", .R, 59, 5, 0⟩, ⟨ "sraw", .R, 59, 5, 32⟩,
  ⟨ "mul", .R, 51, 0, 1⟩, ⟨ "mulh", .R, 51, 1, 1⟩, ⟨ "mulhsu", .R, 51, 2, 1⟩, ⟨ "mulhu", .R, 51, 3, 1⟩, ⟨ "div", .R, 51, 4, 1⟩, ⟨ "divu", .R, 51, 5, 1⟩, ⟨ "rem", .R, 51, 6, 1⟩, ⟨ "remu", .R, 51, 7, 1⟩,
  ⟨ "mulw", .R, 59, 0, 1⟩, ⟨ "divw", .R, 59, 4, 1⟩, ⟨ "divuw", .R, 59, 5, 1⟩, ⟨ "remw", .R, 59, 6, 1⟩, ⟨ "remuw", .R, 59, 7, 1⟩,
  ⟨ "ecall", .E, 115, 0, 0⟩]
def rvRow0 : RvRow := ⟨ "", .E, 0, 0, 0⟩
def rvRowN (n : Nat) : RvRow := rvRows.getD (n - 1) rvRow0
theorem rvRows_len : rvRows.length = 63 := by decide

/-- An instruction, in plain numbers. -/
structure RvV where
  op : Int
  rd : Int
  rs1 : Int
  rs2 : Int
  imm : Int
  deriving DecidableEq
def RvForm.hasRd : RvForm → Bool
  | .R | .I | .X | .Y | .U | .J => true
  | _ => false
def RvForm.has1 : RvForm → Bool
  | .R | .I | .X | .Y | .S | .B => true
  | _ => false
def RvForm.has2 : RvForm → Bool
  | .R | .S | .B => true
  | _ => false
def RvForm.hasB : RvForm → Bool
  | .U | .J | .E => false
  | _ => true
/-- The width of c, 0 where there is none: how many bits. -/
def RvForm.hasC : RvForm → Bool
  | .R | .X | .Y => true
  | _ => false
def regOk (n : Int) (has : Bool) : Prop := if has = true then 0 ≤ n ∧ n ≤ 31 else n = 0
def immOk (f : RvForm) (n : Int) : Prop :=
  match f with
  | .I | .S => -2048 ≤ n ∧ n ≤ 2047
  | .X => 0 ≤ n ∧ n ≤ 63
  | .Y => 0 ≤ n ∧ n ≤ 31
  | .B => -4096 ≤ n ∧ n ≤ 4094 ∧ n % 2 = 0
  | .U => -524288 ≤ n ∧ n ≤ 524287
  | .J => -1048576 ≤ n ∧ n ≤ 1048574 ∧ n % 2 = 0
  | _ => n = 0
/-- May an instruction be? -/
structure RvV.ok (x : RvV) : Prop where
  op : 1 ≤ x.op ∧ x.op ≤ 63
  rd : regOk x.rd (rvRowN x.op.toNat).form.hasRd
  rs1 : regOk x.rs1 (rvRowN x.op.toNat).form.has1
  rs2 : regOk x.rs2 (rvRowN x.op.toNat).form.has2
  imm : immOk (rvRowN x.op.toNat).form x.imm
/-- The bits of an immediate in a word. -/
def immV (f : RvForm) (n : Int) : Int :=
  match f with
  | .I => n % 4096 * 1048576
  | .X => n % 64 * 1048576
  | .Y => n % 32 * 1048576
  | .S => n % 32 * 128 + n / 32 % 128 * 33554432
  | .B => n / 2048 % 2 * 128 + n / 2 % 16 * 256 + n / 32 % 64 * 33554432 + n / 4096 % 2 * 2147483648
  | .U => n % 1048576 * 4096
  | .J => n / 4096 % 256 * 4096 + n / 2048 % 2 * 1048576 + n / 2 % 1024 * 2097152 + n / 1048576 % 2 * 2147483648
  | _ => 0
/-- How many numbers b, and c, may be, and where c stands. -/
def RvForm.bLim : RvForm → Nat
  | .U | .J | .E => 1
  | _ => 8
def RvForm.cLim : RvForm → Nat
  | .X => 64
  | .R | .Y => 128
  | _ => 1
def RvForm.cAt : RvForm → Int
  | .X => 67108864
  | _ => 33554432
def encR (r : RvRow) (rd rs1 rs2 imm : Int) : Int := (r.a : Int) + immV r.form imm + rd * 128 + rs1 * 32768 + rs2 * 1048576 + (r.b : Int) * 4096 + (r.c : Int) * r.form.cAt
/-- Which word an instruction is. -/
def encV (x : RvV) : Int := encR (rvRowN x.op.toNat) x.rd x.rs1 x.rs2 x.imm
def signedV (n half : Int) : Int := if half ≤ n then n - 2 * half else n
/-- The immediate that is read of a word. -/
def toldV (f : RvForm) (w : Int) : Int :=
  match f with
  | .I => signedV (w / 1048576 % 4096) 2048
  | .X => w / 1048576 % 64
  | .Y => w / 1048576 % 32
  | .S => signedV (w / 128 % 32 + w / 33554432 % 128 * 32) 2048
  | .B => signedV (w / 256 % 16 * 2 + w / 33554432 % 64 * 32 + w / 128 % 2 * 2048 + w / 2147483648 % 2 * 4096) 4096
  | .U => signedV (w / 4096 % 1048576) 524288
  | .J => signedV (w / 2097152 % 1024 * 2 + w / 1048576 % 2 * 2048 + w / 4096 % 256 * 4096 + w / 2147483648 % 2 * 1048576) 1048576
  | _ => 0
def readsR (f : RvForm) (op w : Int) : RvV :=
  ⟨op, if f.hasRd = true then w / 128 % 32 else 0, if f.has1 = true then w / 32768 % 32 else 0, if f.has2 = true then w / 1048576 % 32 else 0, toldV f w⟩
def readsV (op w : Int) : RvV := readsR (rvRowN op.toNat).form op w

/-- A row's numbers fit their fields. -/
def RvRow.fits (r : RvRow) : Bool := decide (r.a < 128) && decide (r.b < r.form.bLim) && decide (r.c < r.form.cLim)
theorem rvRows_fit : ∀ r ∈ rvRows, r.fits = true := by decide
theorem rvRowN_mem {n : Nat} (h : 1 ≤ n) (h' : n ≤ 63) : rvRowN n ∈ rvRows := by
  unfold rvRowN
  have hl : n - 1 < rvRows.length := by rw [rvRows_len]; omega
  rw [List.getD_eq_getElem?_getD, List.getElem?_eq_getElem hl]
  exact List.getElem_mem _
theorem row_fits {op : Int} (h : 1 ≤ op ∧ op ≤ 63) : (rvRowN op.toNat).fits = true := rvRows_fit _ (rvRowN_mem (by omega) (by omega))

theorem cut_at {w P Q k : Int} (low hi : Int) (h : w = low + P * (k + Q * hi)) (hl : 0 ≤ low ∧ low < P) (hk : 0 ≤ k ∧ k < Q) : w / P % Q = k := by
  have hp : P ≠ 0 := by omega
  rw [h, Int.add_mul_ediv_left _ _ hp, Int.ediv_eq_zero_of_lt hl.1 hl.2, Int.zero_add, Int.add_mul_emod_self_left, Int.emod_eq_of_lt hk.1 hk.2]
set_option linter.unusedSimpArgs false in
theorem read_back (f : RvForm) (n a rd b rs1 rs2 c : Int) (h : immOk f n) (ha : 0 ≤ a ∧ a < 128) (hb : 0 ≤ b ∧ b < f.bLim) (hc : 0 ≤ c ∧ c < f.cLim)
    (hrd : regOk rd f.hasRd) (h1 : regOk rs1 f.has1) (h2 : regOk rs2 f.has2)
    (w : Int) (hw : w = a + immV f n + rd * 128 + rs1 * 32768 + rs2 * 1048576 + b * 4096 + c * f.cAt) :
    toldV f w = n ∧ w % 128 = a ∧ (if f.hasRd = true then w / 128 % 32 else 0) = rd ∧ (if f.has1 = true then w / 32768 % 32 else 0) = rs1 ∧ (if f.has2 = true then w / 1048576 % 32 else 0) = rs2 ∧ (f.hasB = true → w / 4096 % 8 = b) ∧ (f.hasC = true → w / f.cAt % f.cLim = c) ∧ 0 ≤ w ∧ w < 4294967296 := by
  cases f
  case R =>
    simp only [immOk, regOk, RvForm.hasRd, RvForm.has1, RvForm.has2, RvForm.hasB, RvForm.hasC, RvForm.bLim, RvForm.cLim, RvForm.cAt, immV, toldV, signedV, if_true, Bool.false_eq_true, if_false] at *
    subst hw h
    refine ⟨?_, ?_, ?_, ?_, ?_, ?_, ?_, ?_, ?_⟩ <;> omega
  case I =>
    simp only [immOk, regOk, RvForm.hasRd, RvForm.has1, RvForm.has2, RvForm.hasB, RvForm.hasC, RvForm.bLim, RvForm.cLim, RvForm.cAt, immV, toldV, signedV, if_true, Bool.false_eq_true, if_false] at *
    have hm : 0 ≤ n % 4096 ∧ n % 4096 < 4096 := by omega
    have hn : n = n % 4096 ∧ n % 4096 < 2048 ∨ n = n % 4096 - 4096 ∧ 2048 ≤ n % 4096 := by omega
    generalize n % 4096 = m at hw hm hn
    have e : w / 1048576 % 4096 = m := by omega
    rw [e]
    refine ⟨by split <;> omega, ?_, ?_, ?_, ?_, ?_, ?_, ?_, ?_⟩ <;> omega
  case X =>
    simp only [immOk, regOk, RvForm.hasRd, RvForm.has1, RvForm.has2, RvForm.hasB, RvForm.hasC, RvForm.bLim, RvForm.cLim, RvForm.cAt, immV, toldV, signedV, if_true, Bool.false_eq_true, if_false] at *
    have hm : n % 64 = n := by omega
    rw [hm] at hw
    refine ⟨?_, ?_, ?_, ?_, ?_, ?_, ?_, ?_, ?_⟩ <;> omega
  case Y =>
    simp only [immOk, regOk, RvForm.hasRd, RvForm.has1, RvForm.has2, RvForm.hasB, RvForm.hasC, RvForm.bLim, RvForm.cLim, RvForm.cAt, immV, toldV, signedV, if_true, Bool.false_eq_true, if_false] at *
    have hm : n % 32 = n := by omega
    rw [hm] at hw
    refine ⟨?_, ?_, ?_, ?_, ?_, ?_, ?_, ?_, ?_⟩ <;> omega
  case S =>
    simp only [immOk, regOk, RvForm.hasRd, RvForm.has1, RvForm.has2, RvForm.hasB, RvForm.hasC, RvForm.bLim, RvForm.cLim, RvForm.cAt, immV, toldV, signedV, if_true, Bool.false_eq_true, if_false] at *
    have hm : 0 ≤ n % 32 ∧ n % 32 < 32 := by omega
    have hk : 0 ≤ n / 32 % 128 ∧ n / 32 % 128 < 128 := by omega
    have hn : n = n % 32 + n / 32 % 128 * 32 ∧ n / 32 % 128 < 64 ∨ n = n % 32 + n / 32 % 128 * 32 - 4096 ∧ 64 ≤ n / 32 % 128 := by omega
    generalize n % 32 = m at hw hm hn
    generalize n / 32 % 128 = k at hw hk hn
    have e1 : w / 128 % 32 = m := by omega
    have e2 : w / 33554432 % 128 = k := by omega
    rw [e1, e2]
    refine ⟨by split <;> omega, ?_, ?_, ?_, ?_, ?_, ?_, ?_, ?_⟩ <;> omega
  case B =>
    simp only [immOk, regOk, RvForm.hasRd, RvForm.has1, RvForm.has2, RvForm.hasB, RvForm.hasC, RvForm.bLim, RvForm.cLim, RvForm.cAt, immV, toldV, signedV, if_true, Bool.false_eq_true, if_false] at *
    have g1 : 0 ≤ n / 2 % 16 ∧ n / 2 % 16 < 16 := by omega
    have g2 : 0 ≤ n / 32 % 64 ∧ n / 32 % 64 < 64 := by omega
    have g3 : 0 ≤ n / 2048 % 2 ∧ n / 2048 % 2 < 2 := by omega
    have g4 : 0 ≤ n / 4096 % 2 ∧ n / 4096 % 2 < 2 := by omega
    have hn : n = n / 2 % 16 * 2 + n / 32 % 64 * 32 + n / 2048 % 2 * 2048 - n / 4096 % 2 * 4096 := by omega
    generalize n / 2 % 16 = k1 at hw hn g1
    generalize n / 32 % 64 = k2 at hw hn g2
    generalize n / 2048 % 2 = k3 at hw hn g3
    generalize n / 4096 % 2 = k4 at hw hn g4
    have e1 : w / 256 % 16 = k1 := cut_at (a * 1 + k3 * 128) (b * 1 + rs1 * 8 + rs2 * 256 + k2 * 8192 + k4 * 524288) (by omega) (by omega) (by omega)
    have e2 : w / 33554432 % 64 = k2 := cut_at (a * 1 + k3 * 128 + k1 * 256 + b * 4096 + rs1 * 32768 + rs2 * 1048576) (k4 * 1) (by omega) (by omega) (by omega)
    have e3 : w / 128 % 2 = k3 := cut_at (a * 1) (k1 * 1 + b * 16 + rs1 * 128 + rs2 * 4096 + k2 * 131072 + k4 * 8388608) (by omega) (by omega) (by omega)
    have e4 : w / 2147483648 % 2 = k4 := cut_at (a * 1 + k3 * 128 + k1 * 256 + b * 4096 + rs1 * 32768 + rs2 * 1048576 + k2 * 33554432) (0) (by omega) (by omega) (by omega)
    have e5 : w / 1 % 128 = a := cut_at 0 (k3 * 1 + k1 * 2 + b * 32 + rs1 * 256 + rs2 * 8192 + k2 * 262144 + k4 * 16777216) (by omega) (by omega) (by omega)
    have e6 : w / 4096 % 8 = b := cut_at (a * 1 + k3 * 128 + k1 * 256) (rs1 * 1 + rs2 * 32 + k2 * 1024 + k4 * 65536) (by omega) (by omega) (by omega)
    have e7 : w / 32768 % 32 = rs1 := cut_at (a * 1 + k3 * 128 + k1 * 256 + b * 4096) (rs2 * 1 + k2 * 32 + k4 * 2048) (by omega) (by omega) (by omega)
    have e8 : w / 1048576 % 32 = rs2 := cut_at (a * 1 + k3 * 128 + k1 * 256 + b * 4096 + rs1 * 32768) (k2 * 1 + k4 * 64) (by omega) (by omega) (by omega)
    rw [e1, e2, e3, e4, e6, e7, e8]
    rw [Int.ediv_one] at e5
    refine ⟨?_, e5, hrd.symm, rfl, rfl, fun _ => rfl, fun h => absurd h (by decide), by omega, by omega⟩
    clear e1 e2 e3 e4 e5 e6 e7 e8 hw
    split <;> omega
  case U =>
    simp only [immOk, regOk, RvForm.hasRd, RvForm.has1, RvForm.has2, RvForm.hasB, RvForm.hasC, RvForm.bLim, RvForm.cLim, RvForm.cAt, immV, toldV, signedV, if_true, Bool.false_eq_true, if_false] at *
    have hm : 0 ≤ n % 1048576 ∧ n % 1048576 < 1048576 := by omega
    have hn : n = n % 1048576 ∧ n % 1048576 < 524288 ∨ n = n % 1048576 - 1048576 ∧ 524288 ≤ n % 1048576 := by omega
    generalize n % 1048576 = m at hw hm hn
    have e : w / 4096 % 1048576 = m := by omega
    rw [e]
    refine ⟨by split <;> omega, by omega, by omega, by omega, by omega, fun h => absurd h (by decide), fun h => absurd h (by decide), by omega, by omega⟩
  case J =>
    simp only [immOk, regOk, RvForm.hasRd, RvForm.has1, RvForm.has2, RvForm.hasB, RvForm.hasC, RvForm.bLim, RvForm.cLim, RvForm.cAt, immV, toldV, signedV, if_true, Bool.false_eq_true, if_false] at *
    have g1 : 0 ≤ n / 2 % 1024 ∧ n / 2 % 1024 < 1024 := by omega
    have g2 : 0 ≤ n / 2048 % 2 ∧ n / 2048 % 2 < 2 := by omega
    have g3 : 0 ≤ n / 4096 % 256 ∧ n / 4096 % 256 < 256 := by omega
    have g4 : 0 ≤ n / 1048576 % 2 ∧ n / 1048576 % 2 < 2 := by omega
    have hn : n = n / 2 % 1024 * 2 + n / 2048 % 2 * 2048 + n / 4096 % 256 * 4096 - n / 1048576 % 2 * 1048576 := by omega
    generalize n / 2 % 1024 = k1 at hw hn g1
    generalize n / 2048 % 2 = k2 at hw hn g2
    generalize n / 4096 % 256 = k3 at hw hn g3
    generalize n / 1048576 % 2 = k4 at hw hn g4
    have e1 : w / 2097152 % 1024 = k1 := cut_at (a * 1 + rd * 128 + k3 * 4096 + k2 * 1048576) (k4 * 1) (by omega) (by omega) (by omega)
    have e2 : w / 1048576 % 2 = k2 := cut_at (a * 1 + rd * 128 + k3 * 4096) (k1 * 1 + k4 * 1024) (by omega) (by omega) (by omega)
    have e3 : w / 4096 % 256 = k3 := cut_at (a * 1 + rd * 128) (k2 * 1 + k1 * 2 + k4 * 2048) (by omega) (by omega) (by omega)
    have e4 : w / 2147483648 % 2 = k4 := cut_at (a * 1 + rd * 128 + k3 * 4096 + k2 * 1048576 + k1 * 2097152) (0) (by omega) (by omega) (by omega)
    have e5 : w / 1 % 128 = a := cut_at 0 (rd * 1 + k3 * 32 + k2 * 8192 + k1 * 16384 + k4 * 16777216) (by omega) (by omega) (by omega)
    have e6 : w / 128 % 32 = rd := cut_at (a * 1) (k3 * 1 + k2 * 256 + k1 * 512 + k4 * 524288) (by omega) (by omega) (by omega)
    rw [e1, e2, e3, e4, e6]
    rw [Int.ediv_one] at e5
    refine ⟨?_, e5, rfl, h1.symm, h2.symm, fun h => absurd h (by decide), fun h => absurd h (by decide), by omega, by omega⟩
    clear e1 e2 e3 e4 e5 e6 hw
    split <;> omega
  case E =>
    simp only [immOk, regOk, RvForm.hasRd, RvForm.has1, RvForm.has2, RvForm.hasB, RvForm.hasC, RvForm.bLim, RvForm.cLim, RvForm.cAt, immV, toldV, signedV, if_true, Bool.false_eq_true, if_false] at *
    refine ⟨?_, ?_, ?_, ?_, ?_, ?_, ?_, ?_, ?_⟩ <;> omega
/-- What is known of an instruction's word. -/
theorem enc_facts {x : RvV} (h : x.ok) : readsV x.op (encV x) = x ∧ encV x % 128 = ((rvRowN x.op.toNat).a : Int) ∧ ((rvRowN x.op.toNat).form.hasB = true → encV x / 4096 % 8 = ((rvRowN x.op.toNat).b : Int)) ∧
    ((rvRowN x.op.toNat).form.hasC = true → encV x / (rvRowN x.op.toNat).form.cAt % (rvRowN x.op.toNat).form.cLim = ((rvRowN x.op.toNat).c : Int)) ∧ 0 ≤ encV x ∧ encV x < 4294967296 := by
  have hf := row_fits h.op
  unfold RvRow.fits at hf
  simp only [Bool.and_eq_true, decide_eq_true_eq] at hf
  obtain ⟨r1, r2, r3, r4, r5, r6, r7, r8, r9⟩ := read_back (rvRowN x.op.toNat).form x.imm (rvRowN x.op.toNat).a x.rd (rvRowN x.op.toNat).b x.rs1 x.rs2 (rvRowN x.op.toNat).c h.imm (by omega) (by omega) (by omega) h.rd h.rs1 h.rs2 (encV x) rfl
  refine ⟨?_, r2, r6, r7, r8, r9⟩
  unfold readsV readsR
  rw [r1, r3, r4, r5]
/-- Could a word be of both operations? -/
def rvMeet (r q : RvRow) : Bool := r.a == q.a && (!(r.form.hasB && q.form.hasB) || r.b == q.b) && (!(r.form.hasC && q.form.hasC && r.form.cAt == q.form.cAt && r.form.cLim == q.form.cLim) || r.c == q.c)
theorem rvMeet_one : ∀ i j : Fin 63, rvMeet (rvRowN (i + 1)) (rvRowN (j + 1)) = true → i = j := by decide +kernel
theorem enc_meet {x y : RvV} (hx : x.ok) (hy : y.ok) (h : encV x = encV y) : rvMeet (rvRowN x.op.toNat) (rvRowN y.op.toNat) = true := by
  obtain ⟨_, a1, b1, c1, _, _⟩ := enc_facts hx
  obtain ⟨_, a2, b2, c2, _, _⟩ := enc_facts hy
  rw [← h] at a2 b2 c2
  generalize rvRowN x.op.toNat = r at *
  generalize rvRowN y.op.toNat = q at *
  generalize encV x = w at *
  have ha : r.a = q.a := by omega
  have hb : r.form.hasB = true → q.form.hasB = true → r.b = q.b := fun h1 h2 => by
    have := b1 h1
    have := b2 h2
    omega
  have hc : r.form.hasC = true → q.form.hasC = true → r.form.cAt = q.form.cAt → r.form.cLim = q.form.cLim → r.c = q.c := fun h1 h2 h3 h4 => by
    have e1 := c1 h1
    have e2 := c2 h2
    rw [← h3, ← h4] at e2
    omega
  unfold rvMeet
  rw [Bool.and_eq_true, Bool.and_eq_true]
  refine ⟨⟨by simpa using ha, ?_⟩, ?_⟩
  · cases g1 : r.form.hasB <;> cases g2 : q.form.hasB <;> simp
    exact hb g1 g2
  · cases g1 : r.form.hasC <;> cases g2 : q.form.hasC <;> simp
    by_cases g3 : r.form.cAt = q.form.cAt
    · by_cases g4 : r.form.cLim = q.form.cLim
      · exact .inr (hc g1 g2 g3 g4)
      · exact .inl (.inr g4)
    · exact .inl (.inl g3)
/-- Each instruction has a word of its own. -/
theorem enc_inj {x y : RvV} (hx : x.ok) (hy : y.ok) (h : encV x = encV y) : x = y := by
  have hm := enc_meet hx hy h
  have o1 := hx.op
  have o2 := hy.op
  have e := rvMeet_one ⟨x.op.toNat - 1, by omega⟩ ⟨y.op.toNat - 1, by omega⟩ (by
    show rvMeet (rvRowN (x.op.toNat - 1 + 1)) (rvRowN (y.op.toNat - 1 + 1)) = true
    rw [show x.op.toNat - 1 + 1 = x.op.toNat by omega, show y.op.toNat - 1 + 1 = y.op.toNat by omega]
    exact hm)
  have e2 : x.op.toNat - 1 = y.op.toNat - 1 := congrArg Fin.val e
  have e3 : x.op = y.op := by omega
  rw [← (enc_facts hx).1, ← (enc_facts hy).1, h, e3]
/-- An instruction that a word is, or none. -/
def IsWord (x : RvV) (w : Int) : Prop := x.ok ∧ encV x = w
theorem isWord_one {x y : RvV} {w : Int} (hx : IsWord x w) (hy : IsWord y w) : x = y := enc_inj hx.1 hy.1 (hx.2.trans hy.2.symm)
open Classical in
noncomputable def decV (w : Int) : Option RvV := if h : ∃ x, IsWord x w then some h.choose else none
theorem decV_some {x : RvV} {w : Int} (h : IsWord x w) : decV w = some x := by
  have he : ∃ x, IsWord x w := ⟨x, h⟩
  unfold decV
  rw [dif_pos he]
  exact congrArg some (isWord_one he.choose_spec h)
theorem decV_none {w : Int} (h : ∀ x, ¬ IsWord x w) : decV w = none := by
  unfold decV
  rw [dif_neg fun ⟨x, hx⟩ => h x hx]
/-- A word's instruction is found at its operation: there its low bits are the row's, and what is read is it. -/
theorem isWord_at {x : RvV} {w : Int} (h : IsWord x w) : 1 ≤ x.op ∧ x.op ≤ 63 ∧ w % 128 = ((rvRowN x.op.toNat).a : Int) ∧ readsV x.op w = x := by
  obtain ⟨hx, rfl⟩ := h
  exact ⟨hx.op.1, hx.op.2, (enc_facts hx).2.1, (enc_facts hx).1⟩
#print axioms decV_some
end Go.Proofs.Ytcglfbjfllohjaa
