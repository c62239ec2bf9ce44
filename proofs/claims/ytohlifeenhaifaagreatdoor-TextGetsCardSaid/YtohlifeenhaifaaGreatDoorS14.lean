/- Lemmas of RefPG07, Ref07A, Ref07B, Ref07J, Kit07B, each with its own remark. -/
import Derived.Test.YtohlifeenhaifaaGreatDoorS01
import Derived.Test.YtohlifeenhaifaaGreatDoorS08
import Derived.Test.YtohlifeenhaifaaGreatDoorS05
import Derived.Deep.RegionHeld3
import Derived.Test.YtohlifeenhaifaaGreatDoorS09
/- (RefPG07) The document's own Put and Get of words: contracts for all numbers, sizes and slices of bytes. -/
namespace Go.Proofs.YtohlifeenhaifaaGreatDoor
open Go.RowKit
set_option linter.unusedVariables false

theorem sized_any (s : Int) (w : World) : Calls Tryz.prog 146 #[.int .i64 s] w fun e w' => e = .returned (.bool (sizedB s)) ∧ w = w' := by
  by_cases h1 : s = 1
  · subst h1
    go_enter Tryz.func146, Tryz.ntmps146
    go_wp2
    go_ret
    exact ⟨rfl, rfl⟩
  by_cases h2 : s = 2
  · subst h2
    go_enter Tryz.func146, Tryz.ntmps146
    go_wp2
    go_ret
    exact ⟨rfl, rfl⟩
  by_cases h4 : s = 4
  · subst h4
    go_enter Tryz.func146, Tryz.ntmps146
    go_wp2
    go_ret
    exact ⟨rfl, rfl⟩
  by_cases h8 : s = 8
  · subst h8
    go_enter Tryz.func146, Tryz.ntmps146
    go_wp2
    go_ret
    exact ⟨rfl, rfl⟩
  have e : sizedB s = false := by simp [sizedB, h1, h2, h4, h8]
  rw [e]
  clear e
  have b1 : (s == 1) = false := by simpa using h1
  have b2 : (s == 2) = false := by simpa using h2
  have b4 : (s == 4) = false := by simpa using h4
  have b8 : (s == 8) = false := by simpa using h8
  clear h1 h2 h4 h8
  go_enter Tryz.func146, Tryz.ntmps146
  go_wp2
  go_ret
  exact ⟨rfl, rfl⟩
theorem sized_any_no {s : Int} (h : sizedB s = false) (w : World) : Calls Tryz.prog 146 #[.int .i64 s] w fun e w' => e = .returned (.bool false) ∧ w = w' := by
  rw [← h]
  exact sized_any s w
theorem byteV_down (a : Int) (k : Nat) : a / 256 ^ k / 256 = a / 256 ^ (k + 1) := by
  rw [Int.pow_succ, Int.ediv_mul_of_nonneg (by have : (0 : Int) < 256 ^ k := Int.pow_pos (by omega); omega)]
theorem down_bd {a : Int} (ha : 0 ≤ a) (k : Nat) : 0 ≤ a / 256 ^ k ∧ a / 256 ^ k ≤ a := ediv_bd ha (Int.pow_pos (by omega))
set_option maxHeartbeats 1000000 in
theorem rput_yes (a : Int) (n : Nat) (w : World) (ha : 0 ≤ a) (ha' : a < 18446744073709551616) (hs : sizedB n = true) :
    Calls Tryz.prog 125 #[.int .u64 a, .int .i64 n] w (PutDone w (bytesV a n)) := by
  obtain ⟨i0, hi, hz0, hz1, hz2⟩ := info_parts u8_info
  have hn8 : n ≤ 8 := by rcases sized_cases hs with h | h | h | h <;> omega
  have cs : ∀ w, Calls Tryz.prog 146 #[.int .i64 n] w fun e w' => e = .returned (.bool true) ∧ w = w' := fun w => hs ▸ sized_any n w
  have CS := Lib.hid cs
  clear cs hs
  have HI := Lib.hid hi
  have HZ0 := Lib.hid hz0
  have HZ1 := Lib.hid hz1
  have HZ2 := Lib.hid hz2
  clear hi hz0 hz1 hz2
  have h0 : a = a / 256 ^ 0 := by simp
  have H0 := Lib.hid h0
  clear h0
  go_enter Tryz.func125, Tryz.ntmps125
  go_wp2_with (go_at_call 146; (with_reducible refine (CS.out _).mono ?_); rintro e w' ⟨rfl, rfl⟩)
  go_loopw [0, 6, 7] (fun x v i wr => ∃ k : Nat, k ≤ n ∧ x = .int .u64 (a / 256 ^ k) ∧ i = .int .i64 k ∧ Owns wr w.heap.size 5 1 IsU8 v k ((bytesV a k).map (Value.int .u8)) ∧ Below w.heap.size w wr) (fun _ _ i _ => n - (intOf i).toNat)
  case atStart => exact ⟨0, by omega, congrArg (Value.int .u64) H0.out, rfl, Owns.nil _ _ _ _ _, Below.refl _ _⟩
  case round =>
    obtain ⟨k, hk, rfl, rfl, hown, hb⟩ := hrel
    have hnx := hb.size
    have HO := Lib.hid hown
    have HB := Lib.hid hb
    have hd := byteV_down a k
    have HD := Lib.hid hd
    obtain ⟨d1, d2⟩ := down_bd ha k
    clear hown hb hd
    by_cases hlt : k < n
    · go_wp2_with (at_builtin; refine wpList_append_q _ rfl (.tmp 16) (.tmp 20) 22 rfl w.heap.size 5 i0 _ 1 1 Tryz.underlying22 HI.out HZ0.out HZ1.out HZ2.out rfl (by decide) IsU8 zero_u8 _ k _ rfl (HO.out.alloc _) ⟨wr.heap.size, 0, none⟩ 1 1 [.int .u8 (a / 256 ^ k % 256)] rfl rfl (news_one _ _ _) (by intro u hu; simp at hu; subst hu; rfl) (by intro u hu; simp at hu; subst hu; exact ⟨_, by omega, by omega, rfl⟩) (by simp only [maxLen]; omega) (by omega) (by simp; omega) ?_; intro v' w1 hown' hgrow; have R0 := Lib.hid (put_step (a := a) (k := k) rfl HB.out HO.out hown' hgrow); clear hown' hgrow)
      go_roundw
      case rel => exact ⟨k + 1, by omega, congrArg (Value.int .u64) HD.out, by go_num, R0.out.1, R0.out.2⟩
      case measure => simp [intOf]; omega
    · go_wp2
      go_ret2
      exact put_end HO.out HB.out (by omega)
theorem rput_no (a s : Int) (w : World) (hs : sizedB s = false) :
    Calls Tryz.prog 125 #[.int .u64 a, .int .i64 s] w fun e w' => e = .returned (.tuple #[.slice none 0 0, .int .i64 2]) ∧ w = w' := by
  have H := Lib.hid hs
  clear hs
  go_enter Tryz.func125, Tryz.ntmps125
  go_wp2_with (go_at_call 146; (with_reducible refine (sized_any_no H.out _).mono ?_); rintro e w' ⟨rfl, rfl⟩)
  go_ret2
  exact ⟨rfl, rfl⟩


end Go.Proofs.YtohlifeenhaifaaGreatDoor

/- (Ref07A) The document's own width, register, field, fault of layer 7. Contracts; no condition but that a register's number is one of three. -/
namespace Go.Proofs.YtohlifeenhaifaaGreatDoor
open Go.RowKit Go.Shelf
set_option linter.unusedVariables false
set_option linter.unusedSimpArgs false

def rwidthV (q : Int) : Nat := if q = 108 then 0 else widthV q
theorem rwidth_any (q : Int) (w : World) : Calls Tryz.prog 127 #[.int .u8 q] w fun e w' => e = .returned (.int .i64 (rwidthV q)) ∧ w = w' := by
  by_cases h105 : q = 105
  · subst h105
    go_enter Tryz.func127, Tryz.ntmps127
    go_wp2
    go_ret
    exact ⟨rfl, rfl⟩
  by_cases h102 : q = 102
  · subst h102
    go_enter Tryz.func127, Tryz.ntmps127
    go_wp2
    go_ret
    exact ⟨rfl, rfl⟩
  by_cases h100 : q = 100
  · subst h100
    go_enter Tryz.func127, Tryz.ntmps127
    go_wp2
    go_ret
    exact ⟨rfl, rfl⟩
  by_cases h116 : q = 116
  · subst h116
    go_enter Tryz.func127, Tryz.ntmps127
    go_wp2
    go_ret
    exact ⟨rfl, rfl⟩
  by_cases h108 : q = 108
  · subst h108
    go_enter Tryz.func127, Tryz.ntmps127
    go_wp2
    go_ret
    exact ⟨rfl, rfl⟩
  have hw : rwidthV q = 1 := by unfold rwidthV widthV; rw [if_neg h108, if_neg h105, if_neg h102, if_neg h100, if_neg h116]
  rw [hw]
  have e105 : (q == 105) = false := by simpa using h105
  have e102 : (q == 102) = false := by simpa using h102
  have e100 : (q == 100) = false := by simpa using h100
  have e116 : (q == 116) = false := by simpa using h116
  have e108 : (q == 108) = false := by simpa using h108
  clear h105 h102 h100 h116 h108 hw
  go_enter Tryz.func127, Tryz.ntmps127
  go_wp2
  go_ret
  exact ⟨rfl, rfl⟩
theorem rreg_any (q : Int) (w : World) : Calls Tryz.prog 128 #[.int .u8 q] w fun e w' => e = .returned (.bool (isReg q)) ∧ w = w' := by
  by_cases h119 : q = 119
  · subst h119
    go_enter Tryz.func128, Tryz.ntmps128
    go_wp2
    go_ret
    exact ⟨rfl, rfl⟩
  by_cases h114 : q = 114
  · subst h114
    go_enter Tryz.func128, Tryz.ntmps128
    go_wp2
    go_ret
    exact ⟨rfl, rfl⟩
  have e : isReg q = false := decide_eq_false (by omega)
  rw [e]
  have e119 : (q == 119) = false := by simpa using h119
  have e114 : (q == 114) = false := by simpa using h114
  clear h119 h114 e
  go_enter Tryz.func128, Tryz.ntmps128
  go_wp2
  go_ret
  exact ⟨rfl, rfl⟩
theorem rfield_num (op a b c n : Int) (X : Value) (q k : Int) (w : World) (hq : isReg q = false) :
    Calls Tryz.prog 126 #[.agg (insCells op a b c n X), .int .u8 q, .int .i64 k] w (Makes w (.int .i64 n)) := by
  have HR := Lib.hid (fun W => rreg_any q W)
  rw [hq] at HR
  have hk0 := heap_alloc_new w (.cells (insCells op a b c n X) 28)
  obtain ⟨c0, c1, c2, c3, c4, c5⟩ := cells6 hk0
  clear hq hk0
  go_enter Tryz.func126, Tryz.ntmps126
  go_wp2_with (go_at_call 128; (with_reducible refine (HR.out _).mono ?_); rintro e w' ⟨rfl, rfl⟩)
  go_ret
  exact ⟨rfl, (Below.refl _ w).alloc (Nat.le_refl _) _⟩
theorem rfield_reg (op a b c n : Int) (X : Value) (q : Int) (k : Nat) (w : World) (hq : isReg q = true) (hk : k < 3) :
    Calls Tryz.prog 126 #[.agg (insCells op a b c n X), .int .u8 q, .int .i64 k] w (Makes w (.int .i64 ([a, b, c].getD k 0))) := by
  have HR := Lib.hid (fun W => rreg_any q W)
  rw [hq] at HR
  have hk0 := heap_alloc_new w (.cells (insCells op a b c n X) 28)
  obtain ⟨c0, c1, c2, c3, c4, c5⟩ := cells6 hk0
  clear hq hk0
  rcases (show k = 0 ∨ k = 1 ∨ k = 2 by omega) with rfl | rfl | rfl
  all_goals
    go_enter Tryz.func126, Tryz.ntmps126
    go_wp2_with (go_at_call 128; (with_reducible refine (HR.out _).mono ?_); rintro e w' ⟨rfl, rfl⟩)
    go_ret
    exact ⟨rfl, ((Below.refl _ w).alloc (Nat.le_refl _) _).alloc (by simp) _⟩
def FaultDone (w : World) (z k : Int) (e : Ending) (w' : World) : Prop := e = .returned (.tuple #[.agg (insCells 0 0 0 0 0 (.slice none 0 0)), .int .i64 0, .agg #[.int .i64 z, .int .i64 k]]) ∧ Below w.heap.size w w'
/-- A byte that is laid in a new row. -/
theorem outB_one {w W : World} {x : Int} (h : Below w.heap.size w W) (hx : 0 ≤ x ∧ x < 256) : OutB w (W.alloc (.cells #[.int .u8 x] 5)) (.slice (some ⟨W.heap.size, 0, none⟩) 1 1) [x] := by
  refine ⟨⟨⟨by simp, .inr ⟨W.heap.size, 1, _, rfl, h.size, heap_alloc_new W _, Nat.le_refl _, by unfold maxLen; decide, rfl, rfl⟩⟩, fun g cur t fr hg hc => ?_⟩, h.alloc h.size _⟩
  simp [Value.ownBlock] at hg
  subst hg
  rw [heap_alloc_new] at hc
  injection hc with hc
  injection hc with hc _ _
  subst hc
  intro u hu
  simp at hu
  subst hu
  exact ⟨x, hx.1, hx.2, rfl⟩
/-- A byte more, at the operation. -/
theorem wpList_outB1 {w W : World} {ops : Array Oper} {rest : List Oper} {o : Oper} {a : Act} {Q : Exit → Act → World → Prop} (hgd : o.guard = none) (s x : Operand)
    (ho : o.op = .call { callee := .builtin .append, args := #[s, x], argTypes := #[22, 22] }) {V : Value} {xs : List Int} {z : Int} {g : Nat} (hs : a.eval s = V) (hx : a.eval x = .slice (some ⟨g, 0, none⟩) 1 1) (hg : g = W.heap.size) (h : OutB w W V xs)
    (hz : 0 ≤ z ∧ z < 256) (hl : xs.length + 1 ≤ 1000000)
    (hK : ∀ V' W', OutB w W' V' (xs ++ [z]) → (∀ i, i < W.heap.size → some i ≠ V.ownBlock → W'.heap[i]? = W.heap[i]?) → wpList Tryz.prog ops Q rest (a.put o.dst V') W') :
    wpList Tryz.prog ops Q (o :: rest) a (W.alloc (.cells #[.int .u8 z] 5)) := by
  subst hg
  have ha : Below W.heap.size W (W.alloc (.cells #[.int .u8 z] 5)) := (Below.refl W.heap.size W).alloc (Nat.le_refl _) _
  have h1 := outB_one (Below.refl W.heap.size W) hz
  refine wpList_outB hgd s x ho hs hx (h.grow ha) (ys := [z]) h1.own (by intro y hy; simp at hy; subst hy; exact hz) (by simp) (by simpa using hl) ?_
  intro V' W' ho' hb'
  exact hK V' W' ho' (fun i hi hn => (hb' i (by simp; omega) hn).trans (ha.block i hi))
end Go.Proofs.YtohlifeenhaifaaGreatDoor

/- (Ref07B) The document's own Put and Length of layer 7. Contracts; no condition but that the argument is an instruction in memory. -/
namespace Go.Proofs.YtohlifeenhaifaaGreatDoor
open Go.RowKit Go.Shelf
set_option linter.unusedVariables false
set_option linter.unusedSimpArgs false

/-- What the document's own Put knows between two letters. -/
structure RpAt (w wr : World) (op a b c n : Int) (X : Value) (V : Value) (xs : List Int) : Prop where
  box : wr.heap[w.heap.size]? = some (.cells (insCells op a b c n X) 28 (0, 0))
  out : OutB w wr V xs
section
variable {w wr w1 : World} {op a b c n : Int} {X V V' : Value} {xs xs' : List Int}
theorem RpAt.call (h : RpAt w wr op a b c n X V xs) (hb : Below wr.heap.size wr w1) : RpAt w w1 op a b c n X V xs := ⟨(hb.block _ (heap_lt h.box)).trans h.box, h.out.grow hb⟩
theorem RpAt.app (h : RpAt w wr op a b c n X V xs) (ho : OutB w w1 V' xs') (hb : ∀ i, i < wr.heap.size → some i ≠ V.ownBlock → w1.heap[i]? = wr.heap[i]?) : RpAt w w1 op a b c n X V' xs' :=
  ⟨(hb _ (heap_lt h.box) (h.out.own.not_own h.box (fun cur e => by injection e with _ e _; exact absurd e (by decide)))).trans h.box, ho⟩
theorem RpAt.drew (h : RpAt w wr op a b c n X V xs) : RpAt w wr.drew op a b c n X V xs := ⟨h.box, h.out.drew⟩
end
theorem rlow_any (n : Int) (s : Nat) (w : World) (hs : sizedB s = true) : Calls Tryz.prog 125 #[.int .u64 (IntKind.u64.wrap n), .int .i64 s] w fun e w' => ∃ v, e = .returned (.tuple #[v, .int .i64 0]) ∧ OutB w w' v (bytesV n s) := by
  have hs8 : s ≤ 8 := by rcases sized_cases hs with h | h | h | h <;> omega
  have hp := rput_yes (IntKind.u64.wrap n) s w (by rw [IntKind.wrap_u64]; omega) (by rw [IntKind.wrap_u64]; omega) hs
  rw [show bytesV (IntKind.u64.wrap n) s = bytesV n s by rw [IntKind.wrap_u64, bytesV_mod' n hs8]] at hp
  refine hp.mono ?_
  rintro e w' ⟨v, rfl, ho, hb⟩
  exact ⟨v, rfl, ho, hb⟩
theorem rlow_one (n : Int) (w : World) : Calls Tryz.prog 125 #[.int .u64 (IntKind.u64.wrap n), .int .i64 1] w fun e w' => ∃ v, e = .returned (.tuple #[v, .int .i64 0]) ∧ OutB w w' v (bytesV n 1) := rlow_any n 1 w (by decide)
set_option maxRecDepth 100000 in
set_option maxHeartbeats 8000000 in
theorem rput7_any (op a b c n : Int) (X : Value) (args : List Int) (w : World) (hX : IsNums .i64 w w.heap.size X args) (hin : InI n) :
    Calls Tryz.prog 107 #[.agg (insCells op a b c n X)] w (PutI w ⟨op, a, b, c, n, args⟩) := by
  have hB0 : Below w.heap.size w (w.alloc (.cells (insCells op a b c n X) 28)) := (Below.refl _ w).alloc (Nat.le_refl _) _
  have hX0 := (hX.below hB0 (Nat.le_refl _)).more hB0.size
  have hC := rcheck_any op a b c n X args 64 4096 _ hX0
  have hce : rcheckV op a b c n args 64 4096 = InsV.chk ⟨op, a, b, c, n, args⟩ := (check_same op a b c n args 64 4096 hin).symm
  rw [hce] at hC
  have HC := Lib.hid hC
  have HB0 := Lib.hid hB0
  obtain ⟨XA, Xc, rfl⟩ := hX.len
  have HX := Lib.hid hX
  have hk0 := heap_alloc_new w (.cells (insCells op a b c n (.slice XA args.length Xc)) 28)
  have HK0 := Lib.hid hk0
  by_cases h0 : InsV.chk ⟨op, a, b, c, n, args⟩ = 0
  · have hok := chk_ok h0
    have hop1 : 0 ≤ op := hok.op.1
    have hop2 : op < 33 := hok.op.2
    have h8 : args.length ≤ 8 := hok.args
    have HH := Lib.hid h0
    rw [h0] at HC
    obtain ⟨sh, hsh⟩ : ∃ sh, sh = shapeI op := ⟨_, rfl⟩
    have HS := Lib.hid (fun W => rshape_any op W)
    rw [← hsh] at HS
    have hE : InsV.bytes ⟨op, a, b, c, n, args⟩ = [op] ++ putL n args (lettersOf sh) [a, b, c] := by
      rw [hsh]
      show bytesV op 1 ++ _ = _
      rw [op_bytes hok.op]
      rfl
    have HT := Lib.hid (bytes_len (op := op) (a := a) (b := b) (c := c) (n := n) h8)
    have HSH := Lib.hid (show okShape sh = true by rw [hsh]; exact shapes_ok op)
    obtain ⟨ys, hys⟩ : ∃ ys, ys = InsV.bytes ⟨op, a, b, c, n, args⟩ := ⟨_, rfl⟩
    have HYS := Lib.hid hys
    rw [← hys] at HT hE
    have HE := Lib.hid hE
    obtain ⟨c0, c1, c2, c3, c4, c5⟩ := cells6 hk0
    have a8 : (args.length : Int) ≤ 8 := by omega
    have hss : sh.size ≤ 3 := by rw [hsh]; exact shapes_small op
    clear h0 hok h8 hX hX0 hB0 hk0 hC hce hsh hE hys
    go_enter Tryz.func107, Tryz.ntmps107
    go_wp2_with (first
      | (go_at_call 86; (with_reducible refine HC.out.mono ?_); rintro e w1 ⟨rfl, hb⟩; have HB1 := Lib.hid (HB0.out.trans (hb.mono HB0.out.size)); have hk1 := (hb.block w.heap.size (by simp)).trans HK0.out; have HK1 := Lib.hid hk1; obtain ⟨d0, d1, d2, d3, d4, d5⟩ := cells6 hk1; have ha := (Below.refl w1.heap.size w1).alloc (Nat.le_refl _) (.cells #[.int .u8 op] 5); have hk2 := (ha.block w.heap.size (heap_lt hk1)).trans hk1; obtain ⟨k0, k1, k2, k3, k4, k5⟩ := cells6 hk2; clear hb hk1 ha hk2)
      | (go_at_call 35; (with_reducible refine (HS.out _).mono ?_); rintro e w2 ⟨rfl, rfl⟩))
    have H1 : RpAt w (w1.alloc (.cells #[.int .u8 op] 5)) op a b c n (.slice XA args.length Xc) (.slice (some ⟨w1.heap.size, 0, none⟩) 1 1) [op] :=
      ⟨(((Below.refl w1.heap.size w1).alloc (Nat.le_refl _) _).block w.heap.size (heap_lt HK1.out)).trans HK1.out, outB_one HB1.out ⟨hop1, by omega⟩⟩
    have H1 := Lib.hid H1
    go_loopw [5, 7, 8] (fun V ah i wr => ∃ (k j : Nat) (xs : List Int), k ≤ sh.size ∧ i = .int .i64 k ∧ ah = .int .i64 j ∧ j + regN ((lettersOf sh).drop k) ≤ 3 ∧ Hid (ys = xs ++ putL n args ((lettersOf sh).drop k) ([a, b, c].drop j) ∧ RpAt w wr op a b c n (.slice XA args.length Xc) V xs)) (fun _ _ i _ => sh.size - (intOf i).toNat)
    case atStart => exact ⟨0, 0, _, Nat.zero_le _, rfl, rfl, by simpa using okShape_reg HSH.out, ⟨HE.out, H1.out⟩⟩
    case round =>
      obtain ⟨k, j, xs, hk, rfl, rfl, hj, HR⟩ := hrel
      clear H1 HE c0 c1 c2 c3 c4 c5 d0 d1 d2 d3 d4 d5 k0 k1 k2 k3 k4 k5 HK1 HB1 HC
      obtain ⟨hi, hR⟩ := HR.out
      by_cases hlt : k < sh.size
      · have hdr := letters_drop sh hlt
        rw [hdr] at hi hj
        obtain ⟨q, hq⟩ : ∃ q : Int, q = (sh[k].toNat : Int) := ⟨_, rfl⟩
        rw [← hq] at hi hj
        have hi2 : ys = (xs ++ heldB n args q ([a, b, c].drop j)) ++ putL n args ((lettersOf sh).drop (k + 1)) (restOf q ([a, b, c].drop j)) := by rw [hi]; simp [putL]
        have hlen : xs.length + (heldB n args q ([a, b, c].drop j)).length ≤ 100 := by
          have h1 := congrArg List.length hi2
          have h2 := HT.out
          simp only [List.length_append] at h1
          omega
        have HI := Lib.hid hi2
        have HLn := Lib.hid hlen
        have HR1 := Lib.hid hR
        obtain ⟨d0, d1, d2, d3, d4, d5⟩ := cells6 hR.box
        have HQ := Lib.hid hq
        simp only [regN] at hj
        have HN0 := Lib.hid hj
        clear hi hi2 hlen hdr hj hR HR
        by_cases hreg : isReg q = true
        · have hj3 : j < 3 := by have := HN0.out; simp only [hreg, if_true] at this; omega
          have hb8 : ((sh[k].toNat : Int) == 108) = false := by rw [← hq]; simp; rintro rfl; simp [isReg] at hreg
          have HN : Hid ((j + 1) + regN ((lettersOf sh).drop (k + 1)) ≤ 3) := by
            have h := HN0.out
            simp only [hreg, if_true] at h
            exact Lib.hid (by omega)
          have hx : ([a, b, c].drop j).headD 0 = [a, b, c].getD j 0 := by rcases (show j = 0 ∨ j = 1 ∨ j = 2 by omega) with rfl | rfl | rfl <;> rfl
          have HI' : Hid (ys = (xs ++ bytesV ([a, b, c].getD j 0) 1) ++ putL n args ((lettersOf sh).drop (k + 1)) ([a, b, c].drop (j + 1))) := by
            have h := HI.out
            simp only [heldB, restOf, hreg, if_true, List.tail_drop, hx] at h
            exact Lib.hid h
          have HLn' : Hid (xs.length + 1 ≤ 100) := by
            have h := HLn.out
            simp only [heldB, hreg, if_true, bytesV_len] at h
            exact Lib.hid h
          have hrv : rwidthV q = 1 := by unfold rwidthV; rw [if_neg (by rintro rfl; simp [isReg] at hreg), reg_width hreg]
          have HWd := Lib.hid (fun W => rwidth_any q W)
          have HF := Lib.hid (fun W => rfield_reg op a b c n (.slice XA args.length Xc) q j W hreg hj3)
          have HRg := Lib.hid (fun W => rreg_any q W)
          rw [hrv] at HWd
          rw [hreg] at HRg
          have HP := Lib.hid (fun W => rlow_one ([a, b, c].getD j 0) W)
          rw [hq] at HWd HF HRg
          generalize [a, b, c].getD j 0 = x at *
          clear HI HN0 HLn hq HQ hreg hx hrv
          have HLn := HLn'
          have HW1 : Hid (0 < 1) := Lib.hid (by decide)
          have hj3I : (j : Int) < 3 := by omega
          clear HLn'
          go_wp2
          go_region_held3 (fun W => W.cell? ⟨w.heap.size, 0, none⟩ = some (.int .i64 op) ∧ W.cell? ⟨w.heap.size, 1, none⟩ = some (.int .i64 a) ∧ W.cell? ⟨w.heap.size, 2, none⟩ = some (.int .i64 b) ∧ W.cell? ⟨w.heap.size, 3, none⟩ = some (.int .i64 c) ∧ W.cell? ⟨w.heap.size, 4, none⟩ = some (.int .i64 n) ∧ W.cell? ⟨w.heap.size, 5, none⟩ = some (.slice XA args.length Xc)) (first | with_reducible exact HK4.out | with_reducible exact HK2.out | go_keep)
            (first
              | (go_at_call 126; (with_reducible refine (HF.out _).mono ?_); rintro e w2 ⟨rfl, hb⟩; have HR2 := Lib.hid (HR1.out.drew.call hb); have HK2 := Lib.hid (cells6 HR2.out.box); clear hb)
              | (go_at_call 127; (with_reducible refine (HWd.out _).mono ?_); rintro e w3 ⟨rfl, rfl⟩)
              | (go_at_call 125; (with_reducible refine (HP.out _).mono ?_); rintro e w4 ⟨v4, rfl, ho⟩; have HO4 := Lib.hid ho; have HR4 := Lib.hid (HR2.out.call ho.bel); have HK4 := Lib.hid (cells6 HR4.out.box); clear ho))
          all_goals
            go_wp2_with (first
              | (at_builtin; refine wpList_outB rfl _ _ rfl rfl rfl HR4.out.out HO4.out.own (bytesV_bd _ _) (by rw [bytesV_len]; exact HW1.out) (by rw [bytesV_len]; have := HLn.out; omega) ?_; intro V6 w6 ho hb; have HR6 := Lib.hid (HR4.out.app ho hb); clear ho hb)
              | (go_at_call 128; (with_reducible refine (HRg.out _).mono ?_); rintro e w7 ⟨rfl, rfl⟩))
            go_roundw
            case rel => exact ⟨k + 1, j + 1, _, hlt, by go_num, by go_num, HN.out, ⟨HI'.out, HR6.out⟩⟩
            case measure => simp [intOf]; omega
        · by_cases hq8 : q = 108
          · have hb8 : ((sh[k].toNat : Int) == 108) = true := by rw [← hq, hq8]; rfl
            subst hq8
            have hc8 : heldB n args 108 ([a, b, c].drop j) = [(args.length : Int)] ++ args.map (· % 256) := by
              unfold heldB
              rw [if_neg (by decide), if_pos rfl, bytesV_one, args_bytes, Int.emod_eq_of_lt (by omega) (by omega)]
            have hr8 : restOf 108 ([a, b, c].drop j) = [a, b, c].drop j := by unfold restOf; rw [if_neg (by decide)]
            rw [hc8, hr8] at HI
            rw [hc8] at HLn
            have HN : Hid (j + regN ((lettersOf sh).drop (k + 1)) ≤ 3) := by
              have h := HN0.out
              rw [if_neg (by decide)] at h
              exact Lib.hid (by omega)
            have HLn' : Hid (xs.length + 1 + args.length ≤ 100) := by
              have h := HLn.out
              simp only [List.length_append, List.length_cons, List.length_nil, List.length_map] at h
              exact Lib.hid (by omega)
            clear hc8 hr8 HN0 HLn hreg hq HQ
            go_wp2_with (at_builtin; refine wpList_outB1 rfl _ _ rfl rfl rfl rfl HR1.out.out ⟨by omega, by omega⟩ (by have := HLn'.out; omega) ?_; intro V6 w6 ho hb; have HR6 := Lib.hid (HR1.out.app ho hb); clear ho hb; obtain ⟨f0, f1, f2, f3, f4, f5⟩ := cells6 HR6.out.box)
            clear d0 d1 d2 d3 d4 d5 f0 f1 f2 f3 f4 f5 HR1
            go_loopw [5, 9] (fun V i wi => ∃ t : Nat, t ≤ args.length ∧ i = .int .i64 t ∧ Hid (RpAt w wi op a b c n (.slice XA args.length Xc) V (xs ++ [(args.length : Int)] ++ (args.take t).map (· % 256)))) (fun _ i _ => args.length - (intOf i).toNat)
            case atStart => exact ⟨0, by omega, rfl, by simpa using HR6⟩
            case round =>
              obtain ⟨t, ht, rfl, HRt⟩ := hrel
              obtain ⟨f0, f1, f2, f3, f4, f5⟩ := cells6 HRt.out.box
              by_cases hlt2 : t < args.length
              · obtain ⟨b', o', cap', hXe, hcp, hbB, hcl⟩ := HX.out.plain (by omega)
                cases hXe
                have hct := (HRt.out.out.bel.cell (p := ⟨b', o' + t, none⟩) hbB).trans (hcl t hlt2)
                have htk : (args.take (t + 1)).map (· % 256) = (args.take t).map (· % 256) ++ [(args.getD t 0) % 256] := by
                  rw [take_snoc' hlt2, List.map_append]
                  rfl
                have HTK := Lib.hid htk
                have hltI : (t : Int) < (args.length : Int) := by omega
                have HLt : Hid ((xs ++ [(args.length : Int)] ++ (args.take t).map (· % 256)).length + 1 ≤ 1000000) := Lib.hid (by
                  rw [List.length_append, List.length_append, List.length_map, List.length_take]
                  have := HLn'.out
                  simp
                  omega)
                clear htk hcl hcp
                obtain ⟨z, hz⟩ : ∃ z, z = args.getD t 0 := ⟨_, rfl⟩
                rw [← hz] at hct HTK
                clear hz
                go_wp2_with (at_builtin; refine wpList_outB1 rfl _ _ rfl rfl rfl rfl HRt.out.out (by omega) HLt.out ?_; intro V8 w8 ho hb; have HR8 := Lib.hid (HRt.out.app ho hb); clear ho hb)
                go_roundw
                case rel => exact ⟨t + 1, by omega, by go_num, by rw [HTK.out, ← List.append_assoc]; exact HR8⟩
                case measure => simp [intOf]; omega
              · obtain rfl : t = args.length := by omega
                rw [List.take_length] at HRt
                go_wp2
                go_roundw
                case rel => exact ⟨k + 1, j, _, hlt, by go_num, rfl, HN.out, ⟨HI.out, by have := HRt.out; rw [List.append_assoc] at this; exact this⟩⟩
                case measure => simp [intOf]; omega
          · have hb8 : ((sh[k].toNat : Int) == 108) = false := by rw [← hq]; simpa using hq8
            have hreg' : isReg q = false := by simpa using hreg
            have hc8 : heldB n args q ([a, b, c].drop j) = bytesV n (widthV q) := by unfold heldB; rw [if_neg hreg, if_neg hq8]
            have hr8 : restOf q ([a, b, c].drop j) = [a, b, c].drop j := by unfold restOf; rw [if_neg hreg]
            rw [hc8, hr8] at HI
            rw [hc8, bytesV_len] at HLn
            have HN : Hid (j + regN ((lettersOf sh).drop (k + 1)) ≤ 3) := by
              have h := HN0.out
              rw [if_neg hreg] at h
              exact Lib.hid (by omega)
            have HWd := Lib.hid (fun W => rwidth_any q W)
            rw [show rwidthV q = widthV q by unfold rwidthV; rw [if_neg hq8]] at HWd
            have HF := Lib.hid (fun W => rfield_num op a b c n (.slice XA args.length Xc) q j W hreg')
            have HRg := Lib.hid (fun W => rreg_any q W)
            rw [hreg'] at HRg
            have HP := Lib.hid (fun W => rlow_any n (widthV q) W (width_sized q))
            have HW1 := Lib.hid (width_le q).1
            generalize widthV q = sz at HWd HP HW1 HI HLn
            rw [hq] at HWd HF HRg
            clear hc8 hr8 HN0 hq HQ hreg hreg' hq8
            go_wp2
            go_region_held3 (fun W => W.cell? ⟨w.heap.size, 0, none⟩ = some (.int .i64 op) ∧ W.cell? ⟨w.heap.size, 1, none⟩ = some (.int .i64 a) ∧ W.cell? ⟨w.heap.size, 2, none⟩ = some (.int .i64 b) ∧ W.cell? ⟨w.heap.size, 3, none⟩ = some (.int .i64 c) ∧ W.cell? ⟨w.heap.size, 4, none⟩ = some (.int .i64 n) ∧ W.cell? ⟨w.heap.size, 5, none⟩ = some (.slice XA args.length Xc)) (first | with_reducible exact HK4.out | with_reducible exact HK2.out | go_keep)
              (first
                | (go_at_call 126; (with_reducible refine (HF.out _).mono ?_); rintro e w2 ⟨rfl, hb⟩; have HR2 := Lib.hid (HR1.out.drew.call hb); have HK2 := Lib.hid (cells6 HR2.out.box); clear hb)
                | (go_at_call 127; (with_reducible refine (HWd.out _).mono ?_); rintro e w3 ⟨rfl, rfl⟩)
                | (go_at_call 125; (with_reducible refine (HP.out _).mono ?_); rintro e w4 ⟨v4, rfl, ho⟩; have HO4 := Lib.hid ho; have HR4 := Lib.hid (HR2.out.call ho.bel); have HK4 := Lib.hid (cells6 HR4.out.box); clear ho))
            all_goals
              go_wp2_with (first
                | (at_builtin; refine wpList_outB rfl _ _ rfl rfl rfl HR4.out.out HO4.out.own (bytesV_bd _ _) (by rw [bytesV_len]; exact HW1.out) (by rw [bytesV_len]; have := HLn.out; omega) ?_; intro V6 w6 ho hb; have HR6 := Lib.hid (HR4.out.app ho hb); clear ho hb)
                | (go_at_call 128; (with_reducible refine (HRg.out _).mono ?_); rintro e w7 ⟨rfl, rfl⟩))
              go_roundw
              case rel => exact ⟨k + 1, j, _, hlt, by go_num, rfl, HN.out, ⟨HI.out, HR6.out⟩⟩
              case measure => simp [intOf]; omega
      · obtain rfl : k = sh.size := by omega
        rw [letters_end] at hi
        have HI : Hid (ys = xs) := Lib.hid (by rw [hi]; first | done | simp [putL])
        have HO := Lib.hid hR.out
        clear hi hj hR HR
        go_wp2
        go_ret2
        exact puti_good HH.out (by rw [← HYS.out, HI.out]; exact HO.out)
  · obtain ⟨e0, he0⟩ : ∃ e0, e0 = InsV.chk ⟨op, a, b, c, n, args⟩ := ⟨_, rfl⟩
    have HE := Lib.hid he0.symm
    rw [← he0] at HC h0
    have HH := Lib.hid h0
    have hne : (e0 != 0) = true := by simpa using h0
    obtain ⟨c0, c1, c2, c3, c4, c5⟩ := cells6 hk0
    clear h0 hX hX0 hB0 hk0 he0 hC hce
    go_enter Tryz.func107, Tryz.ntmps107
    go_wp2_with (go_at_call 86; (with_reducible refine HC.out.mono ?_); rintro e w1 ⟨rfl, hb⟩; have HB1 := Lib.hid (HB0.out.trans (hb.mono HB0.out.size)); clear hb)
    go_ret2
    exact puti_bad HE.out HH.out HB1.out
end Go.Proofs.YtohlifeenhaifaaGreatDoor

/- (Ref07J) The document's own Join of layer 7. Contract; no condition but that the instructions are few. -/
namespace Go.Proofs.YtohlifeenhaifaaGreatDoor
open Go.RowKit Go.Shelf
set_option linter.unusedVariables false
set_option linter.unusedSimpArgs false

set_option maxRecDepth 100000 in
set_option maxHeartbeats 4000000 in
theorem rjoin7_any (V : Value) (l : List InsV) (w : World) (h : IsCode w w.heap.size V l) (hs : l.length ≤ 1000) : Calls Tryz.prog 85 #[V] w (JoinI w l) := by
  obtain ⟨A, cap, rfl⟩ := h.len
  have HC := Lib.hid h
  have hm := h.1
  unfold maxLen at hm
  obtain ⟨n, hn⟩ : ∃ n, n = l.length := ⟨_, rfl⟩
  have HN := Lib.hid hn
  rw [← hn] at hm HC hs ⊢
  clear h hn
  go_enter Tryz.func85, Tryz.ntmps85
  go_wp2
  go_loopw [4, 5] (fun out i wr => ∃ k : Nat, k ≤ n ∧ i = .int .i64 k ∧ Hid (firstE (l.take k) = 0 ∧ (allB (l.take k)).length ≤ 100 * k ∧ OutB w wr out (allB (l.take k)))) (fun _ i _ => n - (intOf i).toNat)
  case atStart => exact ⟨0, by omega, rfl, ⟨rfl, by simp [allB], OutB.nil (Below.refl _ _)⟩⟩
  case round =>
    obtain ⟨k, hk, rfl, HR⟩ := hrel
    obtain ⟨h0, hj, ho⟩ := HR.out
    have H0 := Lib.hid h0
    have HJ := Lib.hid hj
    have HO := Lib.hid ho
    obtain ⟨oA, oc, hoe⟩ := owns_len ho.own
    subst hoe
    clear HR h0 hj ho
    by_cases hlt : k < n
    · have hkl : k < l.length := by rw [← HN.out]; exact hlt
      obtain ⟨b, off, cap', hV, hcp, hbB, hcl⟩ := HC.out.plain (by omega)
      rw [← HN.out] at hV
      cases hV
      obtain ⟨X, hX, hcell⟩ := hcl k hkl
      have hb := HO.out.bel
      have hcl' : ∀ j, j < 6 → wr.cell? ⟨b, off + k * 6 + j, none⟩ = some (insCell (l.getD k .zero) X j) := fun j hj => (hb.cell (p := ⟨b, off + k * 6 + j, none⟩) hbB).trans (hcell j hj)
      have HTK := Lib.hid (code_take l hkl)
      have HST := Lib.hid (fun h => join_stop hkl H0.out h)
      have hin := (code_getD HC.out hkl).n
      obtain ⟨⟨op, a, b1, c, n1, args⟩, hy⟩ : ∃ y, y = l.getD k .zero := ⟨_, rfl⟩
      rw [← hy] at hX hcl' HTK HST hin
      have c0 : wr.cell? ⟨b, off + k * 6, none⟩ = some (.int .i64 op) := hcl' 0 (by omega)
      have c1 : wr.cell? ⟨b, off + k * 6 + 1, none⟩ = some (.int .i64 a) := hcl' 1 (by omega)
      have c2 : wr.cell? ⟨b, off + k * 6 + 2, none⟩ = some (.int .i64 b1) := hcl' 2 (by omega)
      have c3 : wr.cell? ⟨b, off + k * 6 + 3, none⟩ = some (.int .i64 c) := hcl' 3 (by omega)
      have c4 : wr.cell? ⟨b, off + k * 6 + 4, none⟩ = some (.int .i64 n1) := hcl' 4 (by omega)
      have c5 : wr.cell? ⟨b, off + k * 6 + 5, none⟩ = some X := hcl' 5 (by omega)
      have hXw := (hX.below hb (Nat.le_refl _)).more hb.size
      dsimp only at hXw
      have HP := Lib.hid (rput7_any op a b1 c n1 X args _ hXw hin)
      have HOA := HO
      obtain ⟨XA, Xc, rfl⟩ := hX.len
      have k0 : (0 : Int) ≤ (k : Int) := by omega
      have k1 : (k : Int) < (n : Int) := by omega
      clear hcl' hcell hX hXw hy hcl hb hcp hin
      by_cases hz : InsV.chk ⟨op, a, b1, c, n1, args⟩ = 0
      · have HP2 := Lib.hid (HP.out.mono fun e w' hh => hh.resolve_left (fun h => h.1 hz))
        have HF := Lib.hid (show firstE (l.take (k + 1)) = 0 by rw [HTK.out]; exact first_snoc _ _ H0.out hz)
        have HBS := Lib.hid (bytes_short hz)
        have HBP := Lib.hid (bytes_pos ⟨op, a, b1, c, n1, args⟩)
        have HBD := Lib.hid (InsV.bytes_bd ⟨op, a, b1, c, n1, args⟩)
        have HAS := Lib.hid (all_snoc (l.take k) ⟨op, a, b1, c, n1, args⟩)
        rw [← HTK.out] at HAS
        generalize InsV.bytes ⟨op, a, b1, c, n1, args⟩ = ys at *
        clear HP HST hz
        have hk1000 : 100 * k ≤ 100000 := by omega
        go_wp2_with (first
          | (go_at_call 107; (with_reducible refine HP2.out.mono ?_); rintro e w2 ⟨_, v2, rfl, ho⟩; have HO2 := Lib.hid ho; have HO3 := Lib.hid (HOA.out.grow ho.bel); clear ho)
          | (at_builtin; refine wpList_outB rfl _ _ rfl rfl rfl HO3.out HO2.out.own HBD.out HBP.out (by have := HBS.out; have := HJ.out; omega) ?_; intro V6 w6 ho hb; have HO6 := Lib.hid ho; clear ho hb))
        go_roundw
        case rel => exact ⟨k + 1, by omega, by go_num, ⟨HF.out, by rw [HAS.out, List.length_append]; have := HBS.out; have := HJ.out; omega, by rw [HAS.out]; exact HO6.out⟩⟩
        case measure => simp [intOf]; omega
      · have HZ := Lib.hid hz
        have HJE := Lib.hid (HST.out hz)
        have HP2 := Lib.hid (HP.out.mono fun e w' hh => hh.resolve_right (fun h => hz h.1))
        generalize InsV.chk ⟨op, a, b1, c, n1, args⟩ = z at HP2 HJE HZ
        have hne : (z != 0) = true := by simpa using HZ.out
        clear HP HST hz
        go_wp2_with (go_at_call 107; (with_reducible refine HP2.out.mono ?_); rintro e w2 ⟨_, rfl, hb⟩; have HB2 := Lib.hid (HOA.out.bel.trans (hb.mono HOA.out.bel.size)); clear hb)
        go_ret2
        exact join_bad HJE.out HZ.out HB2.out
    · obtain rfl : k = n := by omega
      have htk : l.take k = l := by rw [HN.out]; exact List.take_length
      have hfe := H0.out
      rw [htk] at hfe
      have HFE := Lib.hid hfe
      have HTE := Lib.hid htk
      by_cases hle : (allB (l.take k)).length ≤ 4096
      · have hleI : ¬ (4096 : Int) < ((allB (l.take k)).length : Int) := by omega
        have HL := Lib.hid hle
        clear htk hfe
        go_wp2
        go_ret2
        have hje : joinE l = 0 := by
          unfold joinE
          rw [if_pos HFE.out, if_neg (by have := HL.out; rw [HTE.out] at this; omega)]
        have HOO := HO.out
        generalize Value.slice oA (allB (l.take k)).length oc = V at HOO ⊢
        rw [HTE.out] at HOO
        exact join_good hje HOO
      · have hleI : (4096 : Int) < ((allB (l.take k)).length : Int) := by omega
        have HL : Hid (4096 < (allB l).length) := Lib.hid (by rw [htk] at hle; omega)
        clear htk hfe
        go_wp2
        go_ret2
        refine join_bad ?_ (show (3 : Int) ≠ 0 by decide) HO.out.bel
        unfold joinE
        rw [if_pos HFE.out, if_pos HL.out]
end Go.Proofs.YtohlifeenhaifaaGreatDoor

/- (Kit07B) Copies of instructions. Contract; no condition but that they are few, of few arguments each. -/
namespace Go.Proofs.YtohlifeenhaifaaGreatDoor
open Go.RowKit Go.Shelf
set_option linter.unusedVariables false
set_option linter.unusedSimpArgs false

end Go.Proofs.YtohlifeenhaifaaGreatDoor
