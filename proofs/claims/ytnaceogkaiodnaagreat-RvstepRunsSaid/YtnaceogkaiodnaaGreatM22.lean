/- The document's own way of layer 3, in the words of the instructions' mathematics: Check, Encode, Name, Form, what is read of a word. No condition but that the numbers are the machine's. -/
import Derived.Test.YtnaceogkaiodnaaGreatM14
import Derived.Test.YtnaceogkaiodnaaGreatM20
import Derived.Test.YtnaceogkaiodnaaGreatM18
import Derived.Test.YtnaceogkaiodnaaGreatM19
import Derived.Test.YtnaceogkaiodnaaGreatM17
import Derived.Test.YtnaceogkaiodnaaGreatM5
namespace Go.Proofs.YtnaceogkaiodnaaGreat
open Go.RowKit
set_option linter.unusedVariables false

theorem rchk_yes_R (op rd rs1 rs2 imm : Int) (k : Nat) (s : ByteArray) (a b c : Int) (hr : ∀ w, Calls Tryz.prog 70 #[.int .i64 op] w (RRowYes w k s ⟨#[82]⟩ a b c)) (h : Allowed .R rd rs1 rs2 imm) (w : World) :
    Calls Tryz.prog 123 #[.agg #[.int .i64 op, .int .i64 rd, .int .i64 rs1, .int .i64 rs2, .int .i64 imm]] w (RCheckDone w 0) :=
  rcheck_R_0 op rd rs1 rs2 imm k s a b c w hr (fun w => register_yes _ _ w h.1) (fun w => register_yes _ _ w h.2.1) (fun w => register_yes _ _ w h.2.2.1) (fun w => immediate_yes_R _ w h.2.2.2)
theorem rchk_yes_I (op rd rs1 rs2 imm : Int) (k : Nat) (s : ByteArray) (a b c : Int) (hr : ∀ w, Calls Tryz.prog 70 #[.int .i64 op] w (RRowYes w k s ⟨#[73]⟩ a b c)) (h : Allowed .I rd rs1 rs2 imm) (w : World) :
    Calls Tryz.prog 123 #[.agg #[.int .i64 op, .int .i64 rd, .int .i64 rs1, .int .i64 rs2, .int .i64 imm]] w (RCheckDone w 0) :=
  rcheck_I_0 op rd rs1 rs2 imm k s a b c w hr (fun w => register_yes _ _ w h.1) (fun w => register_yes _ _ w h.2.1) (fun w => register_yes _ _ w h.2.2.1) (fun w => immediate_yes_I _ w h.2.2.2)
theorem rchk_yes_X (op rd rs1 rs2 imm : Int) (k : Nat) (s : ByteArray) (a b c : Int) (hr : ∀ w, Calls Tryz.prog 70 #[.int .i64 op] w (RRowYes w k s ⟨#[88]⟩ a b c)) (h : Allowed .X rd rs1 rs2 imm) (w : World) :
    Calls Tryz.prog 123 #[.agg #[.int .i64 op, .int .i64 rd, .int .i64 rs1, .int .i64 rs2, .int .i64 imm]] w (RCheckDone w 0) :=
  rcheck_X_0 op rd rs1 rs2 imm k s a b c w hr (fun w => register_yes _ _ w h.1) (fun w => register_yes _ _ w h.2.1) (fun w => register_yes _ _ w h.2.2.1) (fun w => immediate_yes_X _ w h.2.2.2)
theorem rchk_yes_Y (op rd rs1 rs2 imm : Int) (k : Nat) (s : ByteArray) (a b c : Int) (hr : ∀ w, Calls Tryz.prog 70 #[.int .i64 op] w (RRowYes w k s ⟨#[89]⟩ a b c)) (h : Allowed .Y rd rs1 rs2 imm) (w : World) :
    Calls Tryz.prog 123 #[.agg #[.int .i64 op, .int .i64 rd, .int .i64 rs1, .int .i64 rs2, .int .i64 imm]] w (RCheckDone w 0) :=
  rcheck_Y_0 op rd rs1 rs2 imm k s a b c w hr (fun w => register_yes _ _ w h.1) (fun w => register_yes _ _ w h.2.1) (fun w => register_yes _ _ w h.2.2.1) (fun w => immediate_yes_Y _ w h.2.2.2)
theorem rchk_yes_S (op rd rs1 rs2 imm : Int) (k : Nat) (s : ByteArray) (a b c : Int) (hr : ∀ w, Calls Tryz.prog 70 #[.int .i64 op] w (RRowYes w k s ⟨#[83]⟩ a b c)) (h : Allowed .S rd rs1 rs2 imm) (w : World) :
    Calls Tryz.prog 123 #[.agg #[.int .i64 op, .int .i64 rd, .int .i64 rs1, .int .i64 rs2, .int .i64 imm]] w (RCheckDone w 0) :=
  rcheck_S_0 op rd rs1 rs2 imm k s a b c w hr (fun w => register_yes _ _ w h.1) (fun w => register_yes _ _ w h.2.1) (fun w => register_yes _ _ w h.2.2.1) (fun w => immediate_yes_S _ w h.2.2.2)
theorem rchk_yes_B (op rd rs1 rs2 imm : Int) (k : Nat) (s : ByteArray) (a b c : Int) (hr : ∀ w, Calls Tryz.prog 70 #[.int .i64 op] w (RRowYes w k s ⟨#[66]⟩ a b c)) (h : Allowed .B rd rs1 rs2 imm) (w : World) :
    Calls Tryz.prog 123 #[.agg #[.int .i64 op, .int .i64 rd, .int .i64 rs1, .int .i64 rs2, .int .i64 imm]] w (RCheckDone w 0) :=
  rcheck_B_0 op rd rs1 rs2 imm k s a b c w hr (fun w => register_yes _ _ w h.1) (fun w => register_yes _ _ w h.2.1) (fun w => register_yes _ _ w h.2.2.1) (fun w => immediate_yes_B _ w h.2.2.2)
theorem rchk_yes_U (op rd rs1 rs2 imm : Int) (k : Nat) (s : ByteArray) (a b c : Int) (hr : ∀ w, Calls Tryz.prog 70 #[.int .i64 op] w (RRowYes w k s ⟨#[85]⟩ a b c)) (h : Allowed .U rd rs1 rs2 imm) (w : World) :
    Calls Tryz.prog 123 #[.agg #[.int .i64 op, .int .i64 rd, .int .i64 rs1, .int .i64 rs2, .int .i64 imm]] w (RCheckDone w 0) :=
  rcheck_U_0 op rd rs1 rs2 imm k s a b c w hr (fun w => register_yes _ _ w h.1) (fun w => register_yes _ _ w h.2.1) (fun w => register_yes _ _ w h.2.2.1) (fun w => immediate_yes_U _ w h.2.2.2)
theorem rchk_yes_J (op rd rs1 rs2 imm : Int) (k : Nat) (s : ByteArray) (a b c : Int) (hr : ∀ w, Calls Tryz.prog 70 #[.int .i64 op] w (RRowYes w k s ⟨#[74]⟩ a b c)) (h : Allowed .J rd rs1 rs2 imm) (w : World) :
    Calls Tryz.prog 123 #[.agg #[.int .i64 op, .int .i64 rd, .int .i64 rs1, .int .i64 rs2, .int .i64 imm]] w (RCheckDone w 0) :=
  rcheck_J_0 op rd rs1 rs2 imm k s a b c w hr (fun w => register_yes _ _ w h.1) (fun w => register_yes _ _ w h.2.1) (fun w => register_yes _ _ w h.2.2.1) (fun w => immediate_yes_J _ w h.2.2.2)
theorem rchk_yes_E (op rd rs1 rs2 imm : Int) (k : Nat) (s : ByteArray) (a b c : Int) (hr : ∀ w, Calls Tryz.prog 70 #[.int .i64 op] w (RRowYes w k s ⟨#[69]⟩ a b c)) (h : Allowed .E rd rs1 rs2 imm) (w : World) :
    Calls Tryz.prog 123 #[.agg #[.int .i64 op, .int .i64 rd, .int .i64 rs1, .int .i64 rs2, .int .i64 imm]] w (RCheckDone w 0) :=
  rcheck_E_0 op rd rs1 rs2 imm k s a b c w hr (fun w => register_yes _ _ w h.1) (fun w => register_yes _ _ w h.2.1) (fun w => register_yes _ _ w h.2.2.1) (fun w => immediate_yes_E _ w h.2.2.2)
theorem rchk_yes (f : RvForm) (op rd rs1 rs2 imm : Int) (k : Nat) (s : ByteArray) (a b c : Int) (hr : ∀ w, Calls Tryz.prog 70 #[.int .i64 op] w (RRowYes w k s (FormStr f) a b c)) (h : Allowed f rd rs1 rs2 imm) (w : World) :
    Calls Tryz.prog 123 #[.agg #[.int .i64 op, .int .i64 rd, .int .i64 rs1, .int .i64 rs2, .int .i64 imm]] w (RCheckDone w 0) := by
  cases f
  · exact rchk_yes_R op rd rs1 rs2 imm k s a b c hr h w
  · exact rchk_yes_I op rd rs1 rs2 imm k s a b c hr h w
  · exact rchk_yes_X op rd rs1 rs2 imm k s a b c hr h w
  · exact rchk_yes_Y op rd rs1 rs2 imm k s a b c hr h w
  · exact rchk_yes_S op rd rs1 rs2 imm k s a b c hr h w
  · exact rchk_yes_B op rd rs1 rs2 imm k s a b c hr h w
  · exact rchk_yes_U op rd rs1 rs2 imm k s a b c hr h w
  · exact rchk_yes_J op rd rs1 rs2 imm k s a b c hr h w
  · exact rchk_yes_E op rd rs1 rs2 imm k s a b c hr h w
theorem rcheck_yes {x : RvV} (hx : x.ok) (w : World) : Calls Tryz.prog 123 #[.agg #[.int .i64 x.op, .int .i64 x.rd, .int .i64 x.rs1, .int .i64 x.rs2, .int .i64 x.imm]] w (RCheckDone w 0) := by
  obtain ⟨op, rd, rs1, rs2, imm⟩ := x
  have h1 : 1 ≤ op := hx.op.1
  have h2 : op ≤ 63 := hx.op.2
  obtain ⟨k, rfl⟩ : ∃ k : Nat, op = k := ⟨op.toNat, by omega⟩
  exact rchk_yes _ k rd rs1 rs2 imm k _ _ _ _ (fun w => rrow_yes k w (by omega) (by omega)) ((ok_iff (k := k) (by omega) (by omega) rd rs1 rs2 imm).1 hx) w
theorem reg_31 {n : Int} {b : Bool} (h : regOk n b) : 0 ≤ n ∧ n ≤ 31 := by
  unfold regOk at h
  cases b <;> simp at h <;> omega
theorem immV_bd {f : RvForm} (n : Int) : 0 ≤ immV f n := by
  cases f <;> simp only [immV] <;> omega

/-- A word's sum, as the document adds it. -/
def totV (f : RvForm) (a b c I rd rs1 rs2 : Int) : Int :=
  match f with
  | .R => a + I + rd * 128 + rs1 * 32768 + rs2 * 1048576 + b * 4096 + c * 33554432
  | .I => a + I + rd * 128 + rs1 * 32768 + rs2 * 1048576 + b * 4096
  | .X => a + I + rd * 128 + rs1 * 32768 + rs2 * 1048576 + b * 4096 + c * 67108864
  | .Y => a + I + rd * 128 + rs1 * 32768 + rs2 * 1048576 + b * 4096 + c * 33554432
  | .S => a + I + rd * 128 + rs1 * 32768 + rs2 * 1048576 + b * 4096
  | .B => a + I + rd * 128 + rs1 * 32768 + rs2 * 1048576 + b * 4096
  | .U => a + I + rd * 128 + rs1 * 32768 + rs2 * 1048576
  | .J => a + I + rd * 128 + rs1 * 32768 + rs2 * 1048576
  | .E => a + I + rd * 128 + rs1 * 32768 + rs2 * 1048576
theorem renc_form (f : RvForm) (op rd rs1 rs2 imm : Int) (k : Nat) (s : ByteArray) (a b c : Int) (hc : ∀ w, Calls Tryz.prog 123 #[.agg #[.int .i64 op, .int .i64 rd, .int .i64 rs1, .int .i64 rs2, .int .i64 imm]] w (RCheckDone w 0))
    (hr : ∀ w, Calls Tryz.prog 70 #[.int .i64 op] w (RRowYes w k s (FormStr f) a b c)) (hn : -9223372036854775808 ≤ imm ∧ imm < 9223372036854775808)
    (h1 : 0 ≤ rd ∧ rd ≤ 31) (h2 : 0 ≤ rs1 ∧ rs1 ≤ 31) (h3 : 0 ≤ rs2 ∧ rs2 ≤ 31) (ha : 0 ≤ a) (hb : 0 ≤ b) (hcc : 0 ≤ c) (hb' : b < 256) (hc' : c < 128) (ht : totV f a b c (immV f imm) rd rs1 rs2 < 4294967296) (w : World) :
    Calls Tryz.prog 85 #[.agg #[.int .i64 op, .int .i64 rd, .int .i64 rs1, .int .i64 rs2, .int .i64 imm]] w (EncDone w (totV f a b c (immV f imm) rd rs1 rs2) 0) := by
  cases f
  · exact renc_R op rd rs1 rs2 imm _ k s a b c w hc hr (fun w => imm_R imm w hn.1 hn.2) h1 h2 h3 ha hb hcc (immV_bd imm) hb' hc' ht
  · exact renc_I op rd rs1 rs2 imm _ k s a b c w hc hr (fun w => imm_I imm w hn.1 hn.2) h1 h2 h3 ha hb hcc (immV_bd imm) hb' hc' ht
  · exact renc_X op rd rs1 rs2 imm _ k s a b c w hc hr (fun w => imm_X imm w hn.1 hn.2) h1 h2 h3 ha hb hcc (immV_bd imm) hb' hc' ht
  · exact renc_Y op rd rs1 rs2 imm _ k s a b c w hc hr (fun w => imm_Y imm w hn.1 hn.2) h1 h2 h3 ha hb hcc (immV_bd imm) hb' hc' ht
  · exact renc_S op rd rs1 rs2 imm _ k s a b c w hc hr (fun w => imm_S imm w hn.1 hn.2) h1 h2 h3 ha hb hcc (immV_bd imm) hb' hc' ht
  · exact renc_B op rd rs1 rs2 imm _ k s a b c w hc hr (fun w => imm_B imm w hn.1 hn.2) h1 h2 h3 ha hb hcc (immV_bd imm) hb' hc' ht
  · exact renc_U op rd rs1 rs2 imm _ k s a b c w hc hr (fun w => imm_U imm w hn.1 hn.2) h1 h2 h3 ha hb hcc (immV_bd imm) hb' hc' ht
  · exact renc_J op rd rs1 rs2 imm _ k s a b c w hc hr (fun w => imm_J imm w hn.1 hn.2) h1 h2 h3 ha hb hcc (immV_bd imm) hb' hc' ht
  · exact renc_E op rd rs1 rs2 imm _ k s a b c w hc hr (fun w => imm_E imm w hn.1 hn.2) h1 h2 h3 ha hb hcc (immV_bd imm) hb' hc' ht
theorem tot_is (f : RvForm) (a b c I rd rs1 rs2 : Int) (hb : 0 ≤ b ∧ b < (f.bLim : Int)) (hc : 0 ≤ c ∧ c < (f.cLim : Int)) : totV f a b c I rd rs1 rs2 = a + I + rd * 128 + rs1 * 32768 + rs2 * 1048576 + b * 4096 + c * f.cAt := by
  cases f <;> simp only [RvForm.bLim, RvForm.cLim] at hb hc <;> simp only [totV, RvForm.cAt] <;> omega
theorem cLim_128 (f : RvForm) : (f.cLim : Int) ≤ 128 := by cases f <;> decide
theorem renc_yes {x : RvV} (hx : x.ok) (hi : InI x.imm) (w : World) : Calls Tryz.prog 85 #[.agg #[.int .i64 x.op, .int .i64 x.rd, .int .i64 x.rs1, .int .i64 x.rs2, .int .i64 x.imm]] w (EncDone w (encV x) 0) := by
  have hf := enc_facts hx
  have hcy := fun w => rcheck_yes hx w
  obtain ⟨op, rd, rs1, rs2, imm⟩ := x
  have h1 : 1 ≤ op := hx.op.1
  have h2 : op ≤ 63 := hx.op.2
  obtain ⟨k, rfl⟩ : ∃ k : Nat, op = k := ⟨op.toNat, by omega⟩
  have ha := (ok_iff (k := k) (by omega) (by omega) rd rs1 rs2 imm).1 hx
  obtain ⟨g1, g2, g3⟩ := row_bd (k := k) (by omega) (by omega)
  have hl := lim_256 (rvRowN k).form
  have hl2 := cLim_128 (rvRowN k).form
  have he : totV (rvRowN k).form (aB k) (bB k) (cB k) (immV (rvRowN k).form imm) rd rs1 rs2 = encV ⟨k, rd, rs1, rs2, imm⟩ := by
    rw [tot_is _ _ _ _ _ _ _ _ g2 g3]
    unfold aB bB cB
    rw [if_neg (by omega), if_neg (by omega), if_neg (by omega)]
    rfl
  have := renc_form (rvRowN k).form k rd rs1 rs2 imm k _ _ _ _ hcy (fun w => rrow_yes k w (by omega) (by omega)) hi (reg_31 ha.1) (reg_31 ha.2.1) (reg_31 ha.2.2.1) g1.1 g2.1 g3.1 (by omega) (by omega) (by rw [he]; exact hf.2.2.2.2.2) w
  rw [he] at this
  exact this
theorem rform_of (op : Int) (s t : ByteArray) (bb : Bool) (a b c : Value) (w : World) (hr : ∀ w, Calls Tryz.prog 70 #[.int .i64 op] w fun e w' => e = .returned (.tuple #[.agg #[.string s, .string t, a, b, c], .bool bb]) ∧ Below w.heap.size w w') (ha : Storable a) (hb : Storable b) (hc : Storable c) :
    Calls Tryz.prog 43 #[.int .i64 op] w (TextDone w t) := by
  have HR := Lib.hid hr
  unfold Storable at ha hb hc
  clear hr
  go_enter Tryz.func43, Tryz.ntmps43
  go_wp2_with (go_at_call 70; (with_reducible refine (HR.out _).mono ?_); rintro e w1 ⟨rfl, hb⟩; have HB := Lib.hid hb; clear hb)
  go_ret
  exact ⟨rfl, HB.out.alloc HB.out.size _⟩
theorem st_int (k : IntKind) (n : Int) : Storable (.int k n) := fun w a m => run_store_int _ w a m k n
theorem rform_any (op : Int) (w : World) : Calls Tryz.prog 43 #[.int .i64 op] w (TextDone w (formV op)) := by
  unfold formV
  split
  · rename_i h
    obtain ⟨k, rfl⟩ : ∃ k : Nat, op = k := ⟨op.toNat, by omega⟩
    exact rform_of k _ _ _ _ _ _ w (fun w => rrow_yes k w (by omega) (by omega)) (st_int _ _) (st_int _ _) (st_int _ _)
  · exact rform_of op _ _ _ _ _ _ w (fun w => rrow_no op w (by omega)) (st_int _ _) (st_int _ _) (st_int _ _)
theorem rreads_form (f : RvForm) (op x : Int) (k : Nat) (s : ByteArray) (a b c : Int) (hx : 0 ≤ x) (hx' : x < 4294967296) (hr : ∀ w, Calls Tryz.prog 70 #[.int .i64 op] w (RRowYes w k s (FormStr f) a b c)) (w : World) :
    Calls Tryz.prog 84 #[.int .i64 op, .int .u32 x] w (ReadsDone w (readsR f op x)) := by
  cases f
  · exact reads_R op x k s a b c w hx hx' hr
  · exact reads_I op x k s a b c w hx hx' hr
  · exact reads_X op x k s a b c w hx hx' hr
  · exact reads_Y op x k s a b c w hx hx' hr
  · exact reads_S op x k s a b c w hx hx' hr
  · exact reads_B op x k s a b c w hx hx' hr
  · exact reads_U op x k s a b c w hx hx' hr
  · exact reads_J op x k s a b c w hx hx' hr
  · exact reads_E op x k s a b c w hx hx' hr
theorem rreads_any (k : Nat) (x : Int) (h : 1 ≤ k) (h' : k ≤ 63) (hx : 0 ≤ x) (hx' : x < 4294967296) (w : World) : Calls Tryz.prog 84 #[.int .i64 k, .int .u32 x] w (ReadsDone w (readsV k x)) :=
  rreads_form _ k x k _ _ _ _ hx hx' (fun w => rrow_yes k w h h') w
end Go.Proofs.YtnaceogkaiodnaaGreat
namespace Go.Proofs.YtnaceogkaiodnaaGreat
open Go.RowKit
set_option linter.unusedVariables false

/-- The loop's state: the answer's place untouched, the table, no row that fits so far. -/
structure RDecAt (w : World) (x : Int) (k : Nat) (wr : World) : Prop where
  res : wr.heap[w.heap.size]? = some (.cells #[.int .i64 0, .int .i64 0, .int .i64 0, .int .i64 0, .int .i64 0] 76 (0, 0))
  row : wr.heap[w.heap.size + 1]? = some (.cells rowsR 116 (0, 0))
  bel : Below w.heap.size w wr
  no : ∀ j : Nat, 1 ≤ j → j < k → ¬ IsWord (readsV j x) x
theorem RDecAt.grow {w wr wr' : World} {x : Int} {k : Nat} (h : RDecAt w x k wr) (hb : Below wr.heap.size wr wr') : RDecAt w x k wr' :=
  ⟨(hb.block _ (heap_lt h.res)).trans h.res, (hb.block _ (heap_lt h.row)).trans h.row, h.bel.trans (hb.mono h.bel.size), h.no⟩
theorem RDecAt.next {w wr : World} {x : Int} {k : Nat} (h : RDecAt w x k wr) (hk : ¬ IsWord (readsV k x) x) : RDecAt w x (k + 1) wr :=
  ⟨h.res, h.row, h.bel, fun j h1 h2 => by
    by_cases e : j = k
    · subst e; exact hk
    · exact h.no j h1 (by omega)⟩
theorem RDecAt.none {w wr : World} {x : Int} (h : RDecAt w x 64 wr) : ∀ y, ¬ IsWord y x := fun y hy => by
  have h1 := (isWord_at hy).1
  have h2 := (isWord_at hy).2.1
  refine h.no y.op.toNat (by omega) (by omega) ?_
  rw [show ((y.op.toNat : Nat) : Int) = y.op by omega]
  exact isWord_row hy
theorem reads_is_ok {k : Nat} (h : 1 ≤ k) (h' : k ≤ 63) (x : Int) : (readsV k x).ok := by
  have hr := reads_ok (rvRowN k).form x
  exact ⟨⟨by show (1 : Int) ≤ k; omega, by show (k : Int) ≤ 63; omega⟩, hr.1, hr.2.1, hr.2.2.1, hr.2.2.2⟩
theorem imm_in {f : RvForm} {n : Int} (h : immOk f n) : InI n := by
  unfold InI
  cases f <;> simp only [immOk] at h <;> omega
theorem enc_word {x : RvV} (h : x.ok) : 0 ≤ encV x ∧ encV x < 4294967296 := (enc_facts h).2.2.2.2
set_option maxHeartbeats 8000000 in
set_option maxRecDepth 100000 in
theorem rdec_any (x : Int) (w : World) (hx : 0 ≤ x) (hx' : x < 4294967296) : Calls Tryz.prog 64 #[.int .u32 x] w (DecDone w x) := by
  have HX := Lib.hid (And.intro hx hx')
  go_enter Tryz.func64, Tryz.ntmps64
  go_wp2_with (go_at_call 83; (with_reducible refine (rrows_any _).mono ?_); rintro e w1 ⟨rfl, rfl⟩)
  have HST := Lib.hid (show RDecAt w x 1 ((w.alloc (.cells #[.int .i64 0, .int .i64 0, .int .i64 0, .int .i64 0, .int .i64 0] 76)).alloc (.cells rowsR 116)) from
    ⟨(heap_alloc_old _ _ (show w.heap.size < (w.alloc (.cells #[.int .i64 0, .int .i64 0, .int .i64 0, .int .i64 0, .int .i64 0] 76)).heap.size by simp)).trans (heap_alloc_new w _), by
      have := heap_alloc_new (w.alloc (.cells #[.int .i64 0, .int .i64 0, .int .i64 0, .int .i64 0, .int .i64 0] 76)) (.cells rowsR 116)
      simpa using this, ((Below.refl _ _).alloc (Nat.le_refl _) _).alloc (by simp) _, fun j h1 h2 => by omega⟩)
  go_loopw [5] (fun i wr => ∃ k : Nat, 1 ≤ k ∧ k ≤ 64 ∧ i = .int .i64 k ∧ Hid (RDecAt w x k wr)) (fun i _ => 64 - (intOf i).toNat)
  case atStart => exact ⟨1, by omega, by omega, rfl, HST⟩
  case round =>
    obtain ⟨k, hk1, hk, rfl, hq⟩ := hrel
    by_cases hlt : k ≤ 63
    · obtain ⟨c0, c1, c2, c3, c4⟩ := rrows_cells hq.out.row hk1 (by omega)
      have hrd := fun w => rreads_any k x hk1 hlt hx hx' w
      have hok := reads_is_ok hk1 hlt x
      have hen := fun w => renc_yes hok (imm_in hok.imm) w
      have hwb := enc_word hok
      have hat : IsWord (readsV k x) x ↔ encV (readsV k x) = x := ⟨fun h => h.2, fun h => ⟨hok, h⟩⟩
      have hA : x % 128 ≠ aB k → ¬ IsWord (readsV k x) x := fun h hw => by
        have := (isWord_at hw).2.2.1
        have e : aB k = ((rvRowN k).a : Int) := by unfold aB; rw [if_neg (by omega)]
        exact h (this.trans e.symm)
      have hab := (row_bd hk1 hlt).1
      obtain ⟨y, hy⟩ : ∃ y, y = readsV k x := ⟨_, rfl⟩
      rw [← hy] at hrd hen hwb hat hA hok
      have HY := Lib.hid hy
      clear hy
      obtain ⟨y0, y1, y2, y3, y4⟩ := y
      obtain ⟨v, hv⟩ : ∃ v, v = encV ⟨y0, y1, y2, y3, y4⟩ := ⟨_, rfl⟩
      rw [← hv] at hen hat hwb
      clear hv
      have HRD0 := Lib.hid hrd
      have HEN := Lib.hid hen
      have HAT := Lib.hid hat
      generalize nameB k = s0 at *
      generalize FormStr (rvRowN k).form = s1 at *
      generalize aB k = a at *
      generalize bB k = b at *
      generalize cB k = c at *
      clear hrd hen hat hok c0 c1 c3 c4
      obtain ⟨j, rfl⟩ : ∃ j, k = j + 1 := ⟨k - 1, by omega⟩
      have hrd2 := HRD0.out
      rw [show ((j + 1 : Nat) : Int) = (j : Int) + 1 by omega] at hrd2
      have HRD := Lib.hid hrd2
      clear hrd2
      have hgl := heap_lt hq.out.row
      have hj1 : (0 : Int) ≤ (j : Int) := by omega
      have hj2 : (j : Int) < 63 := by omega
      have c2 : wr.cell? ⟨w.heap.size + 1, j * 5 + 2, none⟩ = some (.int .u32 a) := c2
      by_cases ha : x % 128 = a
      · have hE : (a == x % 128) = true := by simpa using ha.symm
        have hE2 : (a != x % 128) = false := by simpa using ha.symm
        clear hA ha
        by_cases hvx : v = x
        · subst hvx
          have HW := Lib.hid (HAT.out.2 rfl)
          go_wp2_with (first
            | (go_at_call 84; (with_reducible refine (HRD.out _).mono ?_); rintro e w2 ⟨rfl, hb⟩; have B2 := Lib.hid hb; clear hb)
            | (go_at_call 85; (with_reducible refine (HEN.out _).mono ?_); rintro e w3 ⟨rfl, hb⟩; have B3 := Lib.hid hb; have D3 := Lib.hid (((hq.out.grow B2.out).grow ((Below.refl _ _).alloc (Nat.le_refl _) _)).grow hb); have z0 := cell_of_row w3 w.heap.size 0 _ _ _ D3.out.res; have z1 := cell_of_row w3 w.heap.size 1 _ _ _ D3.out.res; have z2 := cell_of_row w3 w.heap.size 2 _ _ _ D3.out.res; have z3 := cell_of_row w3 w.heap.size 3 _ _ _ D3.out.res; have z4 := cell_of_row w3 w.heap.size 4 _ _ _ D3.out.res; simp at z0 z1 z2 z3 z4; have f0 := blockD_free D3.out.res 0; have f1 := blockD_free D3.out.res 1; have f2 := blockD_free D3.out.res 2; have f3 := blockD_free D3.out.res 3; have f4 := blockD_free D3.out.res 4; have zl := heap_lt D3.out.res; have g0 := (hb.cell (p := ⟨w2.heap.size, 0, none⟩) (by simp)).trans (new_cell w2 _ _ _ _ (.int .i64 y0) rfl rfl); have g1 := (hb.cell (p := ⟨w2.heap.size, 1, none⟩) (by simp)).trans (new_cell w2 _ _ _ _ (.int .i64 y1) rfl rfl); have g2 := (hb.cell (p := ⟨w2.heap.size, 2, none⟩) (by simp)).trans (new_cell w2 _ _ _ _ (.int .i64 y2) rfl rfl); have g3 := (hb.cell (p := ⟨w2.heap.size, 3, none⟩) (by simp)).trans (new_cell w2 _ _ _ _ (.int .i64 y3) rfl rfl); have g4 := (hb.cell (p := ⟨w2.heap.size, 4, none⟩) (by simp)).trans (new_cell w2 _ _ _ _ (.int .i64 y4) rfl rfl); clear hb))
          exact bodyPost_ret (v := .tuple #[.agg #[.int .i64 y0, .int .i64 y1, .int .i64 y2, .int .i64 y3, .int .i64 y4], .int .i64 0])
            (results_cell_slot (fn := Tryz.f64) Tryz.results64 _ _ w.heap.size 76 _ (0, 0) _ rfl (fiveD_set D3.out.res) Tryz.underlying76 rfl rvD_size) rfl
            ⟨.inl ⟨⟨y0, y1, y2, y3, y4⟩, HW.out, rfl⟩, fiveD_below D3.out.bel (Nat.le_refl _)⟩
        · have hvE : (v == x) = false := by simpa using hvx
          have HN := Lib.hid (fun h => hvx (HAT.out.1 h))
          clear hvx
          go_wp2_with (first
            | (go_at_call 84; (with_reducible refine (HRD.out _).mono ?_); rintro e w2 ⟨rfl, hb⟩; have B2 := Lib.hid hb; clear hb)
            | (go_at_call 85; (with_reducible refine (HEN.out _).mono ?_); rintro e w3 ⟨rfl, hb⟩; have B3 := Lib.hid hb; clear hb))
          go_roundw
          case rel => exact ⟨j + 1 + 1, by omega, by omega, by go_num, Lib.hid ((((hq.out.grow B2.out).grow ((Below.refl _ _).alloc (Nat.le_refl _) _)).grow B3.out).next (by rw [← HY.out]; exact HN.out))⟩
          case measure => simp [intOf]; omega
      · have hE : (a == x % 128) = false := by simpa using fun h => ha h.symm
        have hE2 : (a != x % 128) = true := by simpa using fun h => ha h.symm
        have HN := Lib.hid (hA ha)
        clear hA ha
        go_wp2
        go_roundw
        case rel => exact ⟨j + 1 + 1, by omega, by omega, by go_num, Lib.hid (hq.out.next (by rw [← HY.out]; exact HN.out))⟩
        case measure => simp [intOf]; omega
    · obtain rfl : k = 64 := by omega
      have z0 : wr.cell? ⟨w.heap.size, 0, none⟩ = some (.int .i64 0) := cell_of_row _ _ _ _ _ _ hq.out.res
      have z1 : wr.cell? ⟨w.heap.size, 1, none⟩ = some (.int .i64 0) := cell_of_row _ _ _ _ _ _ hq.out.res
      have z2 : wr.cell? ⟨w.heap.size, 2, none⟩ = some (.int .i64 0) := cell_of_row _ _ _ _ _ _ hq.out.res
      have z3 : wr.cell? ⟨w.heap.size, 3, none⟩ = some (.int .i64 0) := cell_of_row _ _ _ _ _ _ hq.out.res
      have z4 : wr.cell? ⟨w.heap.size, 4, none⟩ = some (.int .i64 0) := cell_of_row _ _ _ _ _ _ hq.out.res
      have f0 := blockD_free hq.out.res 0
      have f1 := blockD_free hq.out.res 1
      have f2 := blockD_free hq.out.res 2
      have f3 := blockD_free hq.out.res 3
      have f4 := blockD_free hq.out.res 4
      go_wp2
      exact bodyPost_ret (v := .tuple #[.agg #[.int .i64 0, .int .i64 0, .int .i64 0, .int .i64 0, .int .i64 0], .int .i64 16]) (results_cell_slot (fn := Tryz.f64) Tryz.results64 _ _ w.heap.size 76 _ (0, 0) _ rfl (fiveD_set hq.out.res) Tryz.underlying76 rfl rvD_size) rfl
        ⟨.inr ⟨hq.out.none, rfl⟩, fiveD_below hq.out.bel (Nat.le_refl _)⟩
theorem rdec_yes {y : RvV} {x : Int} (h : IsWord y x) (w : World) : Calls Tryz.prog 64 #[.int .u32 x] w fun e w' => e = .returned (.tuple #[.agg #[.int .i64 y.op, .int .i64 y.rd, .int .i64 y.rs1, .int .i64 y.rs2, .int .i64 y.imm], .int .i64 0]) ∧ Below w.heap.size w w' := by
  have hf := enc_facts h.1
  rw [h.2] at hf
  refine (rdec_any x w hf.2.2.2.2.1 hf.2.2.2.2.2).mono fun e w' hd => ?_
  obtain ⟨h1 | h1, hb⟩ := hd
  · obtain ⟨z, hz, he⟩ := h1
    rw [isWord_one hz h] at he
    exact ⟨he, hb⟩
  · exact absurd h (h1.1 y)
theorem rdec_no {x : Int} (hx : 0 ≤ x) (hx' : x < 4294967296) (h : ∀ y, ¬ IsWord y x) (w : World) : Calls Tryz.prog 64 #[.int .u32 x] w fun e w' => e = .returned (.tuple #[.agg #[.int .i64 0, .int .i64 0, .int .i64 0, .int .i64 0, .int .i64 0], .int .i64 16]) ∧ Below w.heap.size w w' := by
  refine (rdec_any x w hx hx').mono fun e w' hd => ?_
  obtain ⟨h1 | h1, hb⟩ := hd
  · obtain ⟨z, hz, he⟩ := h1
    exact absurd hz (h z)
  · exact ⟨h1.2, hb⟩
end Go.Proofs.YtnaceogkaiodnaaGreat

