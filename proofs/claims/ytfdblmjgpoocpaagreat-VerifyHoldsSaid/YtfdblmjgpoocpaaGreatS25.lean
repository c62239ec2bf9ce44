/- Lemmas of Ver12A, Ver12B, Ver12, each with its own remark. -/
import Derived.Test.YtfdblmjgpoocpaaGreatS10
import Derived.Test.YtfdblmjgpoocpaaGreatS20
import Derived.BigQuiet
import Derived.Deep.QuietTactic
import Derived.Test.YtfdblmjgpoocpaaGreatS23
import Derived.Test.YtfdblmjgpoocpaaGreatS24
import Derived.Defers
/- (Ver12A) The landed verify: what an instruction is asked (exists, takes, fits, checks), and where the search stands (at). Contracts; no condition but what each names. -/
namespace Go.Proofs.YtfdblmjgpoocpaaGreat
open Go.RowKit Go.Shelf
set_option linter.unusedVariables false
set_option linter.unusedSimpArgs false

def existE (nf : Nat) (op n : Int) : Int := if op = 28 ∧ (nf : Int) ≤ n then 13 else 0
def takeE (fs : List FunV) (na : Nat) (op n : Int) : Int := if op = 28 ∧ (na : Int) ≠ (fs.getD n.toNat .zero).params then 2 else 0
def fitE (nd : Nat) (op n : Int) : Int := if op = 24 ∧ (nd : Int) < n then 5 else 0
/-- The search, in a block of its own. -/
def SrchAt (W : World) (sb : Nat) (D F : Value) (a b : Int) : Prop := W.heap[sb]? = some (.cells #[D, F, .int .i64 a, .int .i64 b] 58 (0, 0))
theorem SrchAt.lt {W : World} {sb : Nat} {D F : Value} {a b : Int} (h : SrchAt W sb D F a b) : sb < W.heap.size := heap_lt h
theorem SrchAt.cells {W : World} {sb : Nat} {D F : Value} {a b : Int} (h : SrchAt W sb D F a b) : W.cell? ⟨sb, 0, none⟩ = some D ∧ W.cell? ⟨sb, 1, none⟩ = some F ∧ W.cell? ⟨sb, 2, none⟩ = some (.int .i64 a) ∧ W.cell? ⟨sb, 3, none⟩ = some (.int .i64 b) := by
  unfold SrchAt at h
  simp [World.cell?, h]
theorem SrchAt.free {W : World} {sb : Nat} {D F : Value} {a b : Int} (h : SrchAt W sb D F a b) (o : Nat) : W.frozen? ⟨sb, o, none⟩ = false := frozen_of_row W sb o _ _ h
theorem SrchAt.grow {W W' : World} {sb : Nat} {D F : Value} {a b : Int} (h : SrchAt W sb D F a b) (hb : Below W.heap.size W W') : SrchAt W' sb D F a b := box_below h hb
theorem SrchAt.set {W : World} {sb : Nat} {D F : Value} {a b : Int} (h : SrchAt W sb D F a b) (a' b' : Int) : SrchAt ((W.setCell ⟨sb, 2, none⟩ (.int .i64 a')).setCell ⟨sb, 3, none⟩ (.int .i64 b')) sb D F a' b' := by
  have h1 := heap_setCell_same W sb 2 _ _ (.int .i64 a') h
  have h2 := heap_setCell_same _ sb 3 _ _ (.int .i64 b') h1
  exact h2
set_option maxRecDepth 100000 in
set_option maxHeartbeats 16000000 in
theorem exists12_any (sb nf fc : Nat) (D : Value) (FA : Option Addr) (a0 b0 : Int) (op a b c n : Int) (X : Value) (w : World) (hs : SrchAt w sb D (.slice FA nf fc) a0 b0) :
    Calls Tryz.prog 81 #[.pointer (some ⟨sb, 0, none⟩), .agg (insCells op a b c n X)] w (Makes w (.int .i64 (existE nf op n))) := by
  have hb := (Below.refl w.heap.size w).alloc (Nat.le_refl _) (.cells (insCells op a b c n X) 37)
  obtain ⟨-, q1, -, -⟩ := (hs.grow hb).cells
  have HB := Lib.hid hb
  clear hs hb
  by_cases h28 : op = 28
  · subst h28
    by_cases hge : (nf : Int) ≤ n
    · have HZ : Hid (existE nf 28 n = 13) := Lib.hid (by unfold existE; rw [if_pos ⟨rfl, hge⟩])
      generalize existE nf 28 n = z at *
      go_enter Tryz.func81, Tryz.ntmps81
      go_wp2
      go_quiet (fail)
      go_wp2
      go_ret
      exact ⟨by rw [HZ.out]; rfl, below_drewN HB.out _⟩
    · have HZ : Hid (existE nf 28 n = 0) := Lib.hid (by unfold existE; rw [if_neg (fun hc => hge hc.2)])
      generalize existE nf 28 n = z at *
      have hlt : n < (nf : Int) := by omega
      go_enter Tryz.func81, Tryz.ntmps81
      go_wp2
      go_quiet (fail)
      go_wp2
      go_ret
      exact ⟨by rw [HZ.out]; rfl, below_drewN HB.out _⟩
  · have t28 : (op == 28) = false := by simpa using h28
    have HZ : Hid (existE nf op n = 0) := Lib.hid (by unfold existE; rw [if_neg (fun hc => h28 hc.1)])
    generalize existE nf op n = z at *
    go_enter Tryz.func81, Tryz.ntmps81
    go_wp2
    go_quiet (fail)
    go_wp2
    go_ret
    exact ⟨by rw [HZ.out]; rfl, below_drewN HB.out _⟩
set_option maxRecDepth 100000 in
set_option maxHeartbeats 16000000 in
theorem fits12_any (sb nd dc : Nat) (DA : Option Addr) (F : Value) (a0 b0 : Int) (op a b c n : Int) (X : Value) (w : World) (hs : SrchAt w sb (.slice DA nd dc) F a0 b0) :
    Calls Tryz.prog 83 #[.pointer (some ⟨sb, 0, none⟩), .agg (insCells op a b c n X)] w (Makes w (.int .i64 (fitE nd op n))) := by
  have hb := (Below.refl w.heap.size w).alloc (Nat.le_refl _) (.cells (insCells op a b c n X) 37)
  obtain ⟨q0, -, -, -⟩ := (hs.grow hb).cells
  have HB := Lib.hid hb
  clear hs hb
  by_cases h24 : op = 24
  · subst h24
    by_cases hgt : (nd : Int) < n
    · have HZ : Hid (fitE nd 24 n = 5) := Lib.hid (by unfold fitE; rw [if_pos ⟨rfl, hgt⟩])
      generalize fitE nd 24 n = z at *
      go_enter Tryz.func83, Tryz.ntmps83
      go_wp2
      go_quiet (fail)
      go_wp2
      go_ret
      exact ⟨by rw [HZ.out]; rfl, below_drewN HB.out _⟩
    · have HZ : Hid (fitE nd 24 n = 0) := Lib.hid (by unfold fitE; rw [if_neg (fun hc => hgt hc.2)])
      generalize fitE nd 24 n = z at *
      have hle : ¬ n > (nd : Int) := hgt
      go_enter Tryz.func83, Tryz.ntmps83
      go_wp2
      go_quiet (fail)
      go_wp2
      go_ret
      exact ⟨by rw [HZ.out]; rfl, below_drewN HB.out _⟩
  · have t24 : (op == 24) = false := by simpa using h24
    have HZ : Hid (fitE nd op n = 0) := Lib.hid (by unfold fitE; rw [if_neg (fun hc => h24 hc.1)])
    generalize fitE nd op n = z at *
    go_enter Tryz.func83, Tryz.ntmps83
    go_wp2
    go_quiet (fail)
    go_wp2
    go_ret
    exact ⟨by rw [HZ.out]; rfl, below_drewN HB.out _⟩
set_option maxRecDepth 100000 in
set_option maxHeartbeats 16000000 in
theorem takes12_any (sb : Nat) (D F : Value) (fs : List FunV) (a0 b0 : Int) (op a b c n : Int) (XA : Option Addr) (na xc : Nat) (w : World) (hs : SrchAt w sb D F a0 b0) (hF : IsFuns w w.heap.size F fs) (hn : op = 28 → 0 ≤ n ∧ n < fs.length) :
    Calls Tryz.prog 82 #[.pointer (some ⟨sb, 0, none⟩), .agg (insCells op a b c n (.slice XA na xc))] w (Makes w (.int .i64 (takeE fs na op n))) := by
  have hb := (Below.refl w.heap.size w).alloc (Nat.le_refl _) (.cells (insCells op a b c n (.slice XA na xc)) 37)
  obtain ⟨-, q1, -, -⟩ := (hs.grow hb).cells
  have HB := Lib.hid hb
  by_cases h28 : op = 28
  · subst h28
    obtain ⟨n0, n1⟩ := hn rfl
    obtain ⟨k, rfl⟩ : ∃ k : Nat, n = k := ⟨n.toNat, by omega⟩
    have hk : k < fs.length := by omega
    obtain ⟨fb, fo, fc2, hV, _, hfb, hfc⟩ := hF.plain (by omega)
    subst hV
    obtain ⟨C, hC, hcell⟩ := hfc k hk
    have f0 := (hb.cell (p := ⟨fb, fo + k * 4, none⟩) hfb).trans (hcell 0 (by omega))
    replace f0 : _ = some (Value.int .i64 (fs.getD k .zero).params) := f0
    have HE : Hid (takeE fs na 28 k = if (na : Int) ≠ (fs.getD k .zero).params then 2 else 0) := Lib.hid (by unfold takeE; rw [Int.toNat_natCast]; simp)
    generalize takeE fs na 28 k = z at *
    generalize (fs.getD k .zero).params = pr at *
    generalize fs.length = nf at *
    clear hn hF hs hb hk hcell hfc hC
    by_cases hne : (na : Int) ≠ pr
    · have HZ : Hid (z = 2) := Lib.hid (by rw [HE.out, if_pos hne])
      have t1 : ((na : Int) != pr) = true := by simpa using hne
      go_enter Tryz.func82, Tryz.ntmps82
      go_wp2
      go_quiet (fail)
      go_wp2
      go_ret
      exact ⟨by rw [HZ.out]; rfl, below_drewN HB.out _⟩
    · have hpr : pr = (na : Int) := by omega
      subst hpr
      have HZ : Hid (z = 0) := Lib.hid (by rw [HE.out, if_neg hne])
      clear hne
      go_enter Tryz.func82, Tryz.ntmps82
      go_wp2
      go_quiet (fail)
      go_wp2
      go_ret
      exact ⟨by rw [HZ.out]; rfl, below_drewN HB.out _⟩
  · have t28 : (op == 28) = false := by simpa using h28
    have HZ : Hid (takeE fs na op n = 0) := Lib.hid (by unfold takeE; rw [if_neg (fun hc => h28 hc.1)])
    generalize takeE fs na op n = z at *
    obtain ⟨FA, fc, rfl⟩ := hF.len
    clear hn hF hs hb
    generalize fs.length = nf at *
    go_enter Tryz.func82, Tryz.ntmps82
    go_wp2
    go_quiet (fail)
    go_wp2
    go_ret
    exact ⟨by rw [HZ.out]; rfl, below_drewN HB.out _⟩
/-- The three questions are the document's, one behind the other. -/
theorem ask_insE (data : List Int) (fs : List FunV) (y : InsV) : insE ⟨data, fs⟩ y = if existE fs.length y.op y.n ≠ 0 then existE fs.length y.op y.n else if takeE fs y.args.length y.op y.n ≠ 0 then takeE fs y.args.length y.op y.n else fitE data.length y.op y.n := by
  unfold insE existE takeE fitE
  (repeat' split) <;> simp_all
def chkFn (sb : Nat) : Array Value := #[.func (.func 81) #[.pointer (some ⟨sb, 0, none⟩)] #[], .func (.func 82) #[.pointer (some ⟨sb, 0, none⟩)] #[], .func (.func 83) #[.pointer (some ⟨sb, 0, none⟩)] #[]]
theorem checks12_any (sb : Nat) (w : World) :
    Calls Tryz.prog 64 #[.pointer (some ⟨sb, 0, none⟩)] w fun e w' => e = .returned (.slice (some ⟨w.heap.size, 0, none⟩) 3 3) ∧ w.alloc (.cells (chkFn sb) 106) = w' := by
  go_enter Tryz.func64, Tryz.ntmps64
  go_wp2
  go_ret
  exact ⟨rfl, rfl⟩
def AtDone (w : World) (sb : Nat) (a b : Int) (e : Ending) (w' : World) : Prop := e = .returned (.tuple #[]) ∧ (w.setCell ⟨sb, 2, none⟩ (.int .i64 a)).setCell ⟨sb, 3, none⟩ (.int .i64 b) = w'
theorem at12_any (sb : Nat) (D F : Value) (a0 b0 a b : Int) (w : World) (hs : SrchAt w sb D F a0 b0) :
    Calls Tryz.prog 43 #[.pointer (some ⟨sb, 0, none⟩), .int .i64 a, .int .i64 b] w (AtDone w sb a b) := by
  obtain ⟨-, -, q2, q3⟩ := hs.cells
  have z2 := hs.free 2
  have z3 := hs.free 3
  clear hs
  go_enter Tryz.func43, Tryz.ntmps43
  go_wp2
  go_end0
  exact ⟨rfl, rfl⟩
end Go.Proofs.YtfdblmjgpoocpaaGreat

/- (Ver12B) The landed verify's search within a function. Contract; no condition but what is known of a valid module's function. -/
namespace Go.Proofs.YtfdblmjgpoocpaaGreat
open Go.RowKit Go.Shelf
set_option linter.unusedVariables false
set_option linter.unusedSimpArgs false

theorem down12v {k n : Nat} (h : k < n) : n - (intOf (.int .i64 ((k : Int) + 1))).toNat < n - (intOf (.int .i64 (k : Int))).toNat := by
  simp [intOf]
  omega
theorem fun_facts12 {m : ModV} (h : m.err = 0) {k : Nat} (hk : k < m.funcs.length) : ¬ badP (m.funcs.getD k .zero).params ∧ ∀ y ∈ (m.funcs.getD k .zero).code, y.op = 28 → 0 ≤ y.n := by
  obtain ⟨e1, e2, e3⟩ := err_funs h
  have hmem : m.funcs.getD k .zero ∈ m.funcs := by rw [List.getD, List.getElem?_eq_getElem hk]; exact List.getElem_mem hk
  obtain ⟨h1, h2⟩ := fun_ins (mem_err e3 _ hmem)
  have h3 := of_decide_eq_true h1
  refine ⟨by unfold badP; omega, fun y hy ho => ?_⟩
  obtain ⟨i, hi, rfl⟩ := List.getElem_of_mem hy
  have := h2 i hi
  rw [List.getD, List.getElem?_eq_getElem hi] at this
  exact (call_nn this ho).1
/-- Where the search stands, and what has been kept. -/
structure Wth (w W : World) (sb : Nat) (D F : Value) (a b : Int) : Prop where
  srch : SrchAt W sb D F a b
  but : But (OneBlock sb) w W
  lt : sb < w.heap.size
section
variable {w W W' : World} {sb : Nat} {D F : Value} {a b : Int}
theorem Wth.grow (h : Wth w W sb D F a b) (hb : Below W.heap.size W W') : Wth w W' sb D F a b := ⟨h.srch.grow hb, h.but.trans (But.of_below hb), h.lt⟩
theorem Wth.stand (h : Wth w W sb D F a b) (a' b' : Int) : Wth w ((W.setCell ⟨sb, 2, none⟩ (.int .i64 a')).setCell ⟨sb, 3, none⟩ (.int .i64 b')) sb D F a' b' :=
  ⟨h.srch.set a' b', (h.but.setCell (p := ⟨sb, 2, none⟩) (.inl rfl) _).setCell (p := ⟨sb, 3, none⟩) (.inl rfl) _, h.lt⟩
theorem Wth.heap (h : Wth w W sb D F a b) {k : Nat} {o : Obj} (hk : w.heap[k]? = some o) (hn : k ≠ sb) : W.heap[k]? = some o := h.but.heap hk hn
theorem Wth.bytes (h : Wth w W sb D F a b) {X : Value} {xs : List Int} (hX : IsBytes w sb X xs) : IsBytes W W.heap.size X xs := (hX.but h.but (Nat.le_of_lt h.lt) (fun k hk => by intro e; have e' : k = sb := e; omega)).more (Nat.le_trans (Nat.le_of_lt h.lt) h.but.size)
theorem Wth.funs (h : Wth w W sb D F a b) {X : Value} {xs : List FunV} (hX : IsFuns w sb X xs) : IsFuns W W.heap.size X xs := (hX.but h.but (Nat.le_of_lt h.lt) (fun k hk => by intro e; have e' : k = sb := e; omega)).more (Nat.le_trans (Nat.le_of_lt h.lt) h.but.size)
theorem Wth.code (h : Wth w W sb D F a b) {X : Value} {xs : List InsV} (hX : IsCode w sb X xs) : IsCode W W.heap.size X xs := (hX.but h.but (Nat.le_of_lt h.lt) (fun k hk => by intro e; have e' : k = sb := e; omega)).more (Nat.le_trans (Nat.le_of_lt h.lt) h.but.size)
theorem Wth.back {w0 : World} (h : Wth w W sb D F a b) (hb : Below w0.heap.size w0 w) (hl : sb < w0.heap.size) : Wth w0 W sb D F a b := ⟨h.srch, (But.of_below hb).trans h.but, hl⟩
/-- Beside it, what each instruction is asked. -/
structure Mid12 (w W : World) (sb cb : Nat) (D F : Value) (a b : Int) : Prop where
  wth : Wth w W sb D F a b
  row : W.heap[cb]? = some (.cells (chkFn sb) 106 (0, 0))
  ne : cb ≠ sb
theorem Mid12.grow {cb : Nat} (h : Mid12 w W sb cb D F a b) (hb : Below W.heap.size W W') : Mid12 w W' sb cb D F a b := ⟨h.wth.grow hb, box_below h.row hb, h.ne⟩
theorem stand_row {k : Nat} {o : Obj} (h : W.heap[k]? = some o) (hn : k ≠ sb) (a' b' : Int) : ((W.setCell ⟨sb, 2, none⟩ (.int .i64 a')).setCell ⟨sb, 3, none⟩ (.int .i64 b')).heap[k]? = some o :=
  (((But.refl (OneBlock sb) W).setCell (p := ⟨sb, 2, none⟩) (.inl rfl) _).setCell (p := ⟨sb, 3, none⟩) (.inl rfl) _).heap h hn
theorem Mid12.stand {cb : Nat} (h : Mid12 w W sb cb D F a b) (a' b' : Int) : Mid12 w ((W.setCell ⟨sb, 2, none⟩ (.int .i64 a')).setCell ⟨sb, 3, none⟩ (.int .i64 b')) sb cb D F a' b' :=
  ⟨h.wth.stand a' b', stand_row h.row h.ne a' b', h.ne⟩
theorem Mid12.fns {cb : Nat} (h : Mid12 w W sb cb D F a b) : W.cell? ⟨cb, 0, none⟩ = some (.func (.func 81) #[.pointer (some ⟨sb, 0, none⟩)] #[]) ∧ W.cell? ⟨cb, 1, none⟩ = some (.func (.func 82) #[.pointer (some ⟨sb, 0, none⟩)] #[]) ∧ W.cell? ⟨cb, 2, none⟩ = some (.func (.func 83) #[.pointer (some ⟨sb, 0, none⟩)] #[]) := by
  have := h.row
  simp [World.cell?, this, chkFn]
end
def WithinDone (w : World) (sb : Nat) (D F : Value) (number : Int) (r : Int × Int) (e : Ending) (w' : World) : Prop :=
  e = .returned (.int .i64 r.2) ∧ ∃ a b, Wth w w' sb D F a b ∧ (r.2 ≠ 0 → a = number ∧ b = r.1)
set_option maxRecDepth 100000 in
set_option maxHeartbeats 16000000 in
theorem within12_any (sb : Nat) (D F : Value) (data : List Int) (fs : List FunV) (a0 b0 number : Int) (p rg ar : Int) (A : Option Addr) (n cap : Nat) (l : List InsV) (w : World) (hs : SrchAt w sb D F a0 b0) (hD : IsBytes w sb D data) (hF : IsFuns w sb F fs) (hn : n = l.length)
    (hC : IsCode w sb (.slice A n cap) l) (hp : ¬ badP p) (hy : ∀ y ∈ l, y.op = 28 → 0 ≤ y.n) :
    Calls Tryz.prog 44 #[.pointer (some ⟨sb, 0, none⟩), .int .i64 number, .agg #[.int .i64 p, .int .i64 rg, .int .i64 ar, .slice A n cap]] w (WithinDone w sb D F number (funW ⟨data, fs⟩ ⟨p, rg, ar, l⟩)) := by
  have hsb := hs.lt
  obtain ⟨W1, hW1⟩ : ∃ W1, W1 = w.alloc (.cells #[.int .i64 p, .int .i64 rg, .int .i64 ar, .slice A n cap] 41) := ⟨_, rfl⟩
  have hb1 : Below w.heap.size w W1 := by rw [hW1]; exact (Below.refl _ w).alloc (Nat.le_refl _) _
  have K1 := Lib.hid (show W1.heap[w.heap.size]? = some (.cells #[.int .i64 p, .int .i64 rg, .int .i64 ar, .slice A n cap] 41 (0, 0)) from by rw [hW1]; exact heap_alloc_new _ _)
  have HNE : Hid (w.heap.size ≠ sb) := Lib.hid (Nat.ne_of_gt hsb)
  have H1 : Hid (Wth W1 W1 sb D F a0 b0) := Lib.hid ⟨hs.grow hb1, But.refl _ _, Nat.lt_of_lt_of_le hsb hb1.size⟩
  have HBK : Hid (∀ W a b, Wth W1 W sb D F a b → Wth w W sb D F a b) := Lib.hid (fun W a b h => h.back hb1 hsb)
  have HFW := Lib.hid (fun W a b (h : Wth W1 W sb D F a b) => h.funs (hF.below hb1 (Nat.le_of_lt hsb) (Nat.le_of_lt hsb)))
  have HCW := Lib.hid (fun W a b (h : Wth W1 W sb D F a b) => h.code (hC.below hb1 (Nat.le_of_lt hsb) (Nat.le_of_lt hsb)))
  have HCK := Lib.hid (fun W a b (h : Wth W1 W sb D F a b) => check10_any (.slice A n cap) l W (HCW.out W a b h))
  have HUN := Lib.hid (fun W a b (h : Wth W1 W sb D F a b) => unset11_any (.slice A n cap) l p W (HCW.out W a b h))
  have HN := Lib.hid hn
  have HPB := Lib.hid hp
  have HY := Lib.hid hy
  have hml := hC.1
  unfold maxLen at hml
  have hnI : (n : Int) ≤ 9223372036854775807 := by omega
  obtain ⟨DA, dc, hDe⟩ := hD.len
  obtain ⟨FA, fc, hFe⟩ := hF.len
  by_cases h0 : check10 l = 0
  · have H0 := Lib.hid h0
    rw [h0] at HCK
    have HFU := Lib.hid (fun (h1 : ∀ j, j < l.length → insE ⟨data, fs⟩ (l.getD j .zero) = 0) => funW_uns (m := ⟨data, fs⟩) (f := ⟨p, rg, ar, l⟩) h0 h1)
    have HFI := Lib.hid (fun a h1 ha h2 => funW_ins (m := ⟨data, fs⟩) (f := ⟨p, rg, ar, l⟩) (a := a) h0 h1 ha h2)
    dsimp only at HFU HFI
    have hub := unsI_bd l p.toNat
    obtain ⟨ui, hui⟩ : ∃ ui, ui = unsI l p.toNat := ⟨_, rfl⟩
    rw [← hui] at HFU hub
    have HUI := Lib.hid hui
    generalize funW ⟨data, fs⟩ ⟨p, rg, ar, l⟩ = z at *
    have HUB := Lib.hid hub
    clear hs hD hF hC hn hp hy hb1 h0 hsb hui hml hub
    go_enter Tryz.func44, Tryz.ntmps44
    go_wp2_with (first
      | (go_at_call 43; rw [← hW1]; (with_reducible refine (at12_any sb D F a0 b0 number (-1) W1 H1.out.srch).mono ?_); rintro e w2 ⟨rfl, hw⟩; have H2 := Lib.hid (show Wth W1 w2 sb D F number (-1) from by rw [← hw]; exact H1.out.stand _ _); obtain ⟨d0, d1, d2, d3⟩ := cells4 (H2.out.heap K1.out HNE.out); clear hw)
      | (go_at_call 63; (with_reducible refine (HCK.out w2 _ _ H2.out).mono ?_); rintro e w3 ⟨rfl, hb⟩; have H3 := Lib.hid (H2.out.grow hb); clear hb)
      | (go_at_call 64; (with_reducible refine (checks12_any sb w3).mono ?_); rintro e w4 ⟨rfl, hw⟩; have H4 := Lib.hid (show Mid12 W1 w4 sb w3.heap.size D F number (-1) from by rw [← hw]; exact ⟨H3.out.grow ((Below.refl _ w3).alloc (Nat.le_refl _) _), heap_alloc_new _ _, Nat.ne_of_gt H3.out.srch.lt⟩); obtain ⟨e0, e1, e2, e3⟩ := cells4 (H4.out.wth.heap K1.out HNE.out); clear hw))
    go_loopw [31] (fun v wr => ∃ k : Nat, k ≤ n ∧ v = .int .i64 k ∧ Hid ((∃ a b, Mid12 W1 wr sb w3.heap.size D F a b) ∧ ∀ j, j < k → insE ⟨data, fs⟩ (l.getD j .zero) = 0)) (fun v _ => n - (intOf v).toNat)
    case atStart => exact ⟨0, by omega, rfl, ⟨_, _, H4.out⟩, fun j hj => absurd hj (by omega)⟩
    case round =>
      obtain ⟨k, hk, rfl, HR⟩ := hrel
      obtain ⟨⟨a', b', hm⟩, hz⟩ := HR.out
      have HZ := Lib.hid hz
      have HM := Lib.hid hm
      clear HR hz
      by_cases hlt : k < n
      · have HADD : Hid (wrap64 ((k : Int) + 1) = (k : Int) + 1) := Lib.hid (by unfold wrap64; omega)
        have k0 : (0 : Int) ≤ (k : Int) := by omega
        have k1 : (k : Int) < (n : Int) := by omega
        have hkl : k < l.length := by rw [← HN.out]; exact hlt
        obtain ⟨ob, oo, op, ca, b1, c, n1, args, YA, Yc, hA, hyy, hin, hcc⟩ := code_cells (HCW.out wr _ _ hm.wth) HN.out hlt
        cases hA
        obtain ⟨hX, c0, c1, c2, c3, c4, c5⟩ := hcc wr (Below.refl _ _)
        have hmem : l.getD k .zero ∈ l := by rw [List.getD, List.getElem?_eq_getElem hkl]; exact List.getElem_mem hkl
        have hnn := HY.out _ hmem
        have hask := ask_insE data fs (l.getD k .zero)
        have HFK := HFI.out k HZ.out hkl
        have HNX : Hid (insE ⟨data, fs⟩ (l.getD k .zero) = 0 → ∀ j, j < k + 1 → insE ⟨data, fs⟩ (l.getD j .zero) = 0) := Lib.hid (fun h2 j hj => by
          by_cases e : j = k
          · subst e; exact h2
          · exact HZ.out j (by omega))
        generalize insE ⟨data, fs⟩ (l.getD k .zero) = ge at *
        rw [hyy] at hask hnn
        dsimp only at hask hnn
        obtain ⟨W3, hW3⟩ : ∃ W3, W3 = wr.alloc (.cells (insCells op ca b1 c n1 (.slice YA args.length Yc)) 37) := ⟨_, rfl⟩
        have hb3 : Below wr.heap.size wr W3 := by rw [hW3]; exact (Below.refl _ wr).alloc (Nat.le_refl _) _
        have KI := Lib.hid (show W3.heap[wr.heap.size]? = some (.cells (insCells op ca b1 c n1 (.slice YA args.length Yc)) 37 (0, 0)) from by rw [hW3]; exact heap_alloc_new _ _)
        have HM3 := Lib.hid (HM.out.grow hb3)
        have HIN : Hid (wr.heap.size ≠ sb) := Lib.hid (Nat.ne_of_gt hm.wth.srch.lt)
        have HX0 := Lib.hid (fun W (h : SrchAt W sb D (.slice FA fs.length fc) number k) => exists12_any sb fs.length fc D FA number k op ca b1 c n1 (.slice YA args.length Yc) W h)
        have HX1 : Hid (∀ W, SrchAt W sb D F number k → IsFuns W W.heap.size F fs → existE fs.length op n1 = 0 → Calls Tryz.prog 82 #[.pointer (some ⟨sb, 0, none⟩), .agg (insCells op ca b1 c n1 (.slice YA args.length Yc))] W (Makes W (.int .i64 (takeE fs args.length op n1)))) := Lib.hid (fun W h hF h0 => takes12_any sb D F fs number k op ca b1 c n1 YA args.length Yc W h hF (fun ho => ⟨hnn ho, by
          unfold existE at h0
          by_cases hc : op = 28 ∧ (fs.length : Int) ≤ n1
          · rw [if_pos hc] at h0; exact absurd h0 (by decide)
          · have := ho; omega⟩))
        have HX2 := Lib.hid (fun W (h : SrchAt W sb (.slice DA data.length dc) F number k) => fits12_any sb data.length dc DA F number k op ca b1 c n1 (.slice YA args.length Yc) W h)
        rw [← hFe] at HX0
        rw [← hDe] at HX2
        generalize existE fs.length op n1 = x0 at *
        generalize takeE fs args.length op n1 = x1 at *
        generalize fitE data.length op n1 = x2 at *
        have HE0 : Hid (x0 ≠ 0 → z = ((k : Int), x0)) := Lib.hid (fun h => by rw [if_pos h] at hask; rw [hask] at HFK; exact HFK h)
        have HE1 : Hid (x0 = 0 → x1 ≠ 0 → z = ((k : Int), x1)) := Lib.hid (fun h h1 => by rw [if_neg (not_not_intro h), if_pos h1] at hask; rw [hask] at HFK; exact HFK h1)
        have HE2 : Hid (x0 = 0 → x1 = 0 → x2 ≠ 0 → z = ((k : Int), x2)) := Lib.hid (fun h h1 h2 => by rw [if_neg (not_not_intro h), if_neg (not_not_intro h1)] at hask; rw [hask] at HFK; exact HFK h2)
        have HE3 : Hid (x0 = 0 → x1 = 0 → x2 = 0 → ge = 0) := Lib.hid (fun h h1 h2 => by rw [if_neg (not_not_intro h), if_neg (not_not_intro h1)] at hask; rw [hask]; exact h2)
        have HLT := Lib.hid hlt
        clear hmem hyy hin hcc hX hkl hlt hask HFK hnn hm hb3
        go_wp2_with (go_at_call 43; rw [← hW3]; (with_reducible refine (at12_any sb D F a' b' number k W3 HM3.out.wth.srch).mono ?_); rintro e w5 ⟨rfl, hw⟩; have HM5 := Lib.hid (show Mid12 W1 w5 sb w3.heap.size D F number k from by rw [← hw]; exact HM3.out.stand _ _); have KI5 := Lib.hid (show w5.heap[wr.heap.size]? = some (.cells (insCells op ca b1 c n1 (.slice YA args.length Yc)) 37 (0, 0)) from by rw [← hw]; exact stand_row KI.out HIN.out _ _); clear hw)
        clear hW3
        go_loopw [42] (fun v wi => ∃ q : Int, (q = 0 ∨ q = 1 ∨ q = 2 ∨ q = 3) ∧ v = .int .i64 q ∧ Hid (Below w5.heap.size w5 wi ∧ (1 ≤ q → x0 = 0) ∧ (2 ≤ q → x1 = 0) ∧ (3 ≤ q → x2 = 0))) (fun v _ => 3 - (intOf v).toNat)
        case atStart => exact ⟨0, .inl rfl, rfl, Below.refl _ _, fun h => absurd h (by decide), fun h => absurd h (by decide), fun h => absurd h (by decide)⟩
        case round =>
          obtain ⟨q, hq, rfl, HQ⟩ := hrel
          have HMI := Lib.hid (HM5.out.grow HQ.out.1)
          have hki := box_below KI5.out HQ.out.1
          obtain ⟨i0, i1, i2, i3, i4, i5⟩ := cells6 hki
          obtain ⟨f0, f1, f2⟩ := HMI.out.fns
          clear hki
          rcases hq with rfl | rfl | rfl | rfl
          · have HXC := Lib.hid (HX0.out wr HMI.out.wth.srch)
            by_cases hx : x0 = 0
            · have HX := Lib.hid hx
              rw [hx] at HXC
              clear hx
              go_wp2_with (go_at_call 81; (with_reducible refine HXC.out.mono ?_); rintro e w6 ⟨rfl, hb⟩; have HB6 := Lib.hid (HQ.out.1.trans (hb.mono HQ.out.1.size)); clear hb)
              go_roundw
              case rel => exact ⟨1, .inr (.inl rfl), by go_num, HB6.out, fun _ => HX.out, fun h => absurd h (by decide), fun h => absurd h (by decide)⟩
              case measure => simp [intOf]
            · have HZZ := Lib.hid (HE0.out hx)
              have hne : (x0 != 0) = true := by simpa using hx
              clear hx
              go_wp2_with (go_at_call 81; (with_reducible refine HXC.out.mono ?_); rintro e w6 ⟨rfl, hb⟩; have HM6 := Lib.hid (HMI.out.grow hb); clear hb)
              go_ret
              exact ⟨by rw [HZZ.out]; rfl, _, _, HBK.out _ _ _ HM6.out.wth, fun _ => ⟨rfl, by rw [HZZ.out]⟩⟩
          · have HX := Lib.hid (HQ.out.2.1 (by decide))
            have HXC := Lib.hid (HX1.out wr HMI.out.wth.srch (HFW.out wr _ _ HMI.out.wth) HX.out)
            by_cases hx : x1 = 0
            · have HXX := Lib.hid hx
              rw [hx] at HXC
              clear hx
              go_wp2_with (go_at_call 82; (with_reducible refine HXC.out.mono ?_); rintro e w6 ⟨rfl, hb⟩; have HB6 := Lib.hid (HQ.out.1.trans (hb.mono HQ.out.1.size)); clear hb)
              go_roundw
              case rel => exact ⟨2, .inr (.inr (.inl rfl)), by go_num, HB6.out, fun _ => HX.out, fun _ => HXX.out, fun h => absurd h (by decide)⟩
              case measure => simp [intOf]
            · have HZZ := Lib.hid (HE1.out HX.out hx)
              have hne : (x1 != 0) = true := by simpa using hx
              clear hx
              go_wp2_with (go_at_call 82; (with_reducible refine HXC.out.mono ?_); rintro e w6 ⟨rfl, hb⟩; have HM6 := Lib.hid (HMI.out.grow hb); clear hb)
              go_ret
              exact ⟨by rw [HZZ.out]; rfl, _, _, HBK.out _ _ _ HM6.out.wth, fun _ => ⟨rfl, by rw [HZZ.out]⟩⟩
          · have HX := Lib.hid (HQ.out.2.1 (by decide))
            have HXX := Lib.hid (HQ.out.2.2.1 (by decide))
            have HXC := Lib.hid (HX2.out wr HMI.out.wth.srch)
            by_cases hx : x2 = 0
            · have HX3 := Lib.hid hx
              rw [hx] at HXC
              clear hx
              go_wp2_with (go_at_call 83; (with_reducible refine HXC.out.mono ?_); rintro e w6 ⟨rfl, hb⟩; have HB6 := Lib.hid (HQ.out.1.trans (hb.mono HQ.out.1.size)); clear hb)
              go_roundw
              case rel => exact ⟨3, .inr (.inr (.inr rfl)), by go_num, HB6.out, fun _ => HX.out, fun _ => HXX.out, fun _ => HX3.out⟩
              case measure => simp [intOf]
            · have HZZ := Lib.hid (HE2.out HX.out HXX.out hx)
              have hne : (x2 != 0) = true := by simpa using hx
              clear hx
              go_wp2_with (go_at_call 83; (with_reducible refine HXC.out.mono ?_); rintro e w6 ⟨rfl, hb⟩; have HM6 := Lib.hid (HMI.out.grow hb); clear hb)
              go_ret
              exact ⟨by rw [HZZ.out]; rfl, _, _, HBK.out _ _ _ HM6.out.wth, fun _ => ⟨rfl, by rw [HZZ.out]⟩⟩
          · have HGE := Lib.hid (HNX.out (HE3.out (HQ.out.2.1 (by decide)) (HQ.out.2.2.1 (by decide)) (HQ.out.2.2.2 (by decide))))
            go_wp2
            go_roundw
            case rel => exact ⟨k + 1, HLT.out, by go_num, ⟨_, _, HMI.out⟩, HGE.out⟩
            case measure => first | exact down12v HLT.out | (rw [HADD.out]; exact down12v HLT.out)
      · obtain rfl : k = n := by omega
        have HZZ := Lib.hid (HFU.out (by rw [← HN.out]; exact HZ.out))
        have HMW := Lib.hid HM.out.wth
        obtain ⟨g0, g1, g2, g3⟩ := cells4 (HMW.out.heap K1.out HNE.out)
        have HUW := Lib.hid ((HUN.out wr _ _ HMW.out).mono fun e w' hh => And.intro hh.1 ((hh.2.resolve_left (fun h => HPB.out h.1)).resolve_left (fun h => h.2.1 H0.out)).2.2)
        clear hm
        by_cases hu : ui = -1
        · have HZ2 : Hid (z = (-1, 0)) := Lib.hid (by rw [HZZ.out, if_neg (by omega)])
          have HUU := Lib.hid hu
          clear hu
          go_wp2_with (go_at_call 65; (with_reducible refine HUW.out.mono ?_); rintro e w5 ⟨hb, i, r, rfl, hu⟩; have H5 := Lib.hid (HMW.out.grow hb); obtain rfl : i = -1 := (hu.fst.trans (HUI.out.symm.trans HUU.out)); clear hb hu)
          go_ret
          exact ⟨by rw [HZ2.out]; rfl, _, _, HBK.out _ _ _ H5.out, fun h => absurd (by rw [HZ2.out]) h⟩
        · have HZ2 : Hid (z = (ui, 14)) := Lib.hid (by rw [HZZ.out, if_pos (by have := HUB.out; omega)])
          have hne : (ui != -1) = true := by simpa using hu
          clear hu
          go_wp2_with (first
            | (go_at_call 65; (with_reducible refine HUW.out.mono ?_); rintro e w5 ⟨hb, i, r, rfl, hu⟩; have H5 := Lib.hid (HMW.out.grow hb); obtain rfl : i = ui := (hu.fst.trans HUI.out.symm); clear hb hu)
            | (go_at_call 43; (with_reducible refine (at12_any sb D F _ _ number _ w5 H5.out.srch).mono ?_); rintro e w6 ⟨rfl, hw⟩; have H6 := Lib.hid (show Wth W1 w6 sb D F number _ from by rw [← hw]; exact H5.out.stand _ _); clear hw))
          go_ret
          exact ⟨by rw [HZ2.out]; rfl, _, _, HBK.out _ _ _ H6.out, fun _ => ⟨rfl, by rw [HZ2.out]⟩⟩
  · have HZ := Lib.hid (funW_check (m := ⟨data, fs⟩) (f := ⟨p, rg, ar, l⟩) h0)
    have hne : (check10 l != 0) = true := by simpa using h0
    dsimp only at HZ
    generalize funW ⟨data, fs⟩ ⟨p, rg, ar, l⟩ = z at *
    generalize check10 l = q at *
    clear hs hD hF hC hn hp hy hb1 h0 hsb hml HUN HFW
    go_enter Tryz.func44, Tryz.ntmps44
    go_wp2_with (first
      | (go_at_call 43; rw [← hW1]; (with_reducible refine (at12_any sb D F a0 b0 number (-1) W1 H1.out.srch).mono ?_); rintro e w2 ⟨rfl, hw⟩; have H2 := Lib.hid (show Wth W1 w2 sb D F number (-1) from by rw [← hw]; exact H1.out.stand _ _); obtain ⟨d0, d1, d2, d3⟩ := cells4 (H2.out.heap K1.out HNE.out); clear hw)
      | (go_at_call 63; (with_reducible refine (HCK.out w2 _ _ H2.out).mono ?_); rintro e w3 ⟨rfl, hb⟩; have H3 := Lib.hid (H2.out.grow hb); clear hb))
    go_ret
    exact ⟨by rw [HZ.out]; rfl, _, _, HBK.out _ _ _ H3.out, fun _ => ⟨rfl, by rw [HZ.out]⟩⟩
end Go.Proofs.YtfdblmjgpoocpaaGreat

/- (Ver12) The landed verify.Find and verify.Check: what is found of a module. Contracts; no condition. -/
namespace Go.Proofs.YtfdblmjgpoocpaaGreat
open Go.RowKit Go.Shelf
set_option linter.unusedVariables false
set_option linter.unusedSimpArgs false

def AllDone (w : World) (sb : Nat) (D F : Value) (r : Int × Int × Int) (e : Ending) (w' : World) : Prop := e = .returned (.int .i64 r.2.2) ∧ Wth w w' sb D F r.1 r.2.1
set_option maxRecDepth 100000 in
set_option maxHeartbeats 16000000 in
theorem all12_any (sb : Nat) (D F : Value) (data : List Int) (fs : List FunV) (w : World) (hs : SrchAt w sb D F (-1) (-1)) (hD : IsBytes w sb D data) (hF : IsFuns w sb F fs) :
    Calls Tryz.prog 28 #[.pointer (some ⟨sb, 0, none⟩)] w (AllDone w sb D F (findM ⟨data, fs⟩)) := by
  have hsb := hs.lt
  have H1 : Hid (Wth w w sb D F (-1) (-1)) := Lib.hid ⟨hs, But.refl _ _, hsb⟩
  have HCK := Lib.hid (check8_any D F data fs w (H1.out.bytes hD) (H1.out.funs hF))
  have HD1 := Lib.hid (fun W a b (h : Wth w W sb D F a b) => hD.but h.but (Nat.le_of_lt hsb) (fun k hk => by intro e; have e' : k = sb := e; omega))
  have HF1 := Lib.hid (fun W a b (h : Wth w W sb D F a b) => hF.but h.but (Nat.le_of_lt hsb) (fun k hk => by intro e; have e' : k = sb := e; omega))
  have HSB := Lib.hid hsb
  obtain ⟨q0, q1, q2, q3⟩ := hs.cells
  obtain ⟨DA, dc, hDe⟩ := hD.len
  obtain ⟨FA, fc, hFe⟩ := hF.len
  by_cases h0 : (ModV.mk data fs).err = 0
  · have H0 := Lib.hid h0
    have hpos : 0 < fs.length := by
      have := (err_funs h0).2.1
      have := of_decide_eq_true this
      dsimp only at this
      omega
    have hns : fs.length ≤ 64 := by
      have := (err_funs h0).2.1
      have := of_decide_eq_true this
      dsimp only at this
      omega
    rw [h0] at HCK
    have hpp := (fun_facts12 (m := ⟨data, fs⟩) h0 (k := 0) hpos).1
    dsimp only at hpp
    have HFB := Lib.hid hF
    obtain ⟨fb, fo, cap, hFv, hcap, hfB, hfc⟩ := hF.plain hpos
    obtain ⟨C0, hC0, hc0⟩ := hfc 0 hpos
    have p0 : _ = some (Value.int .i64 (fs.getD 0 .zero).params) := hc0 0 (by omega)
    rw [Nat.zero_mul, Nat.add_zero] at p0
    have HP0 : Hid (∀ W a b, Wth w W sb D F a b → W.cell? ⟨fb, fo, none⟩ = some (Value.int .i64 (fs.getD 0 .zero).params)) := Lib.hid (fun W a b h => (h.but.cell (p := ⟨fb, fo, none⟩) (Nat.lt_trans hfB hsb) (by intro e; have e' : fb = sb := e; omega)).trans p0)
    have HPA := Lib.hid (fun h1 => findM_par (m := ⟨data, fs⟩) h0 h1)
    have HOK := Lib.hid (fun h1 h2 => findM_ok (m := ⟨data, fs⟩) h0 h1 h2)
    have HBA := Lib.hid (fun k h1 h2 hk h3 => findM_fun (m := ⟨data, fs⟩) (k := k) h0 h1 h2 hk h3)
    dsimp only at HPA HOK HBA
    generalize findM ⟨data, fs⟩ = z at *
    obtain ⟨nf, hnf⟩ : ∃ nf, nf = fs.length := ⟨_, rfl⟩
    have HNF := Lib.hid hnf
    rw [← hnf] at hFv HOK HBA hns hpos
    subst hFv
    subst hDe
    have hnI : (nf : Int) ≤ 64 := by omega
    have hnp : (0 : Int) < (nf : Int) := by omega
    clear hFe
    by_cases hpar : 0 < (fs.getD 0 .zero).params
    · have HZ := Lib.hid (HPA.out hpar)
      have hne : ((fs.getD 0 .zero).params != 0) = true := bne_iff_ne.2 (by omega)
      generalize (fs.getD 0 .zero).params = pr at *
      clear hD hF hs h0 p0 hc0 hC0 hfc hnf HPA HOK HBA hsb hfB hcap hns
      go_enter Tryz.func28, Tryz.ntmps28
      go_wp2_with (first
        | (go_at_call 18; (with_reducible refine HCK.out.mono ?_); rintro e w2 ⟨rfl, hb⟩; have H2 := Lib.hid (H1.out.grow hb); obtain ⟨a0, a1, -, -⟩ := H2.out.srch.cells; have b0 := HP0.out _ _ _ H2.out; clear hb)
        | (go_at_call 43; (with_reducible refine (at12_any sb _ _ (-1) (-1) 0 (-1) w2 H2.out.srch).mono ?_); rintro e w6 ⟨rfl, hw⟩; have H6 := Lib.hid (show Wth w w6 sb _ _ 0 (-1) from by rw [← hw]; exact H2.out.stand _ _); clear hw))
      go_ret
      exact ⟨by rw [HZ.out]; rfl, by rw [HZ.out]; exact H6.out⟩
    · have HPN := Lib.hid hpar
      have hp00 : (fs.getD 0 .zero).params = 0 := by unfold badP at hpp; omega
      rw [hp00] at HP0
      clear hD hF hs h0 p0 hc0 hC0 hfc hnf HPA hpar hsb hfB hcap hpp hp00
      go_enter Tryz.func28, Tryz.ntmps28
      go_wp2_with (go_at_call 18; (with_reducible refine HCK.out.mono ?_); rintro e w2 ⟨rfl, hb⟩; have H2 := Lib.hid (H1.out.grow hb); obtain ⟨a0, a1, -, -⟩ := H2.out.srch.cells; have b0 := HP0.out _ _ _ H2.out; clear hb)
      go_loopw [32] (fun v wr => ∃ k : Nat, k ≤ nf ∧ v = .int .i64 k ∧ Hid ((∃ a b, Wth w wr sb (.slice DA data.length dc) (.slice (some ⟨fb, fo, none⟩) nf cap) a b) ∧ ∀ j, j < k → (funW ⟨data, fs⟩ (fs.getD j .zero)).2 = 0)) (fun v _ => nf - (intOf v).toNat)
      case atStart => exact ⟨0, by omega, rfl, ⟨_, _, H2.out⟩, fun j hj => absurd hj (by omega)⟩
      case round =>
        obtain ⟨k, hk, rfl, HR⟩ := hrel
        obtain ⟨⟨a', b', hm⟩, hz⟩ := HR.out
        have HM := Lib.hid hm
        have HZJ := Lib.hid hz
        clear HR hz
        by_cases hlt : k < nf
        · have HADD : Hid (wrap64 ((k : Int) + 1) = (k : Int) + 1) := Lib.hid (by unfold wrap64; omega)
          have k0 : (0 : Int) ≤ (k : Int) := by omega
          have k1 : (k : Int) < (nf : Int) := by omega
          have hkl : k < fs.length := by rw [← HNF.out]; exact hlt
          have hfw := HF1.out wr _ _ hm
          obtain ⟨fb', fo', cap', hFv, _, hl2, hfk⟩ := hfw.plain (by omega)
          rw [← HNF.out] at hFv
          cases hFv
          obtain ⟨C, hC, hcl⟩ := hfk k hkl
          have f0 : _ = some (Value.int .i64 (fs.getD k .zero).params) := hcl 0 (by decide)
          have f1 : _ = some (Value.int .i64 (fs.getD k .zero).regs) := hcl 1 (by decide)
          have f2 : _ = some (Value.int .i64 (fs.getD k .zero).area) := hcl 2 (by decide)
          have f3 : _ = some C := hcl 3 (by decide)
          rw [Nat.add_zero] at f0
          obtain ⟨CA, cc, rfl⟩ := hC.len
          obtain ⟨g1, g2⟩ := fun_facts12 (m := ⟨data, fs⟩) H0.out hkl
          dsimp only at g1 g2
          obtain ⟨W3, hW3⟩ : ∃ W3, W3 = wr.alloc (.cells #[.int .i64 (fs.getD k .zero).params, .int .i64 (fs.getD k .zero).regs, .int .i64 (fs.getD k .zero).area, .slice CA (fs.getD k .zero).code.length cc] 41) := ⟨_, rfl⟩
          have hb3 : Below wr.heap.size wr W3 := by rw [hW3]; exact (Below.refl _ wr).alloc (Nat.le_refl _) _
          have HM3 := Lib.hid (hm.grow hb3)
          have HWI := Lib.hid (within12_any sb _ _ data fs a' b' k (fs.getD k .zero).params (fs.getD k .zero).regs (fs.getD k .zero).area CA _ cc (fs.getD k .zero).code W3 HM3.out.srch (HD1.out _ _ _ HM3.out) (HF1.out _ _ _ HM3.out) rfl (hC.below hb3 (Nat.le_of_lt hm.srch.lt) (Nat.le_of_lt hm.srch.lt)) g1 g2)
          rw [show (⟨(fs.getD k .zero).params, (fs.getD k .zero).regs, (fs.getD k .zero).area, (fs.getD k .zero).code⟩ : FunV) = fs.getD k .zero from rfl] at HWI
          have HZB : Hid ((funW ⟨data, fs⟩ (fs.getD k .zero)).2 ≠ 0 → z = ((k : Int), funW ⟨data, fs⟩ (fs.getD k .zero))) := Lib.hid (fun h3 => HBA.out k HPN.out HZJ.out hlt h3)
          have HNX : Hid ((funW ⟨data, fs⟩ (fs.getD k .zero)).2 = 0 → ∀ j, j < k + 1 → (funW ⟨data, fs⟩ (fs.getD j .zero)).2 = 0) := Lib.hid (fun h2 j hj => by
            by_cases e : j = k
            · subst e; exact h2
            · exact HZJ.out j (by omega))
          have HLT := Lib.hid hlt
          generalize funW ⟨data, fs⟩ (fs.getD k .zero) = rr at *
          generalize fs.getD k .zero = fk at *
          obtain ⟨ra, re⟩ := rr
          unfold WithinDone at HWI
          dsimp only at HWI HZB HNX
          have HBT : Hid (∀ W a b, Wth W3 W sb (.slice DA data.length dc) (.slice (some ⟨fb, fo, none⟩) nf cap) a b → Wth w W sb (.slice DA data.length dc) (.slice (some ⟨fb, fo, none⟩) nf cap) a b) := Lib.hid (fun W a b h => ⟨h.srch, HM3.out.but.trans h.but, HSB.out⟩)
          clear hfw hfk hcl hC g1 g2 hkl hlt hb3 hm
          by_cases hre : re = 0
          · have HN1 := Lib.hid (HNX.out hre)
            subst hre
            go_wp2_with (go_at_call 44; rw [← hW3]; (with_reducible refine HWI.out.mono ?_); rintro e w5 ⟨rfl, a5, b5, h5, -⟩; have H5 := Lib.hid (HBT.out _ _ _ h5); clear h5)
            go_roundw
            case rel => exact ⟨k + 1, HLT.out, by go_num, ⟨_, _, H5.out⟩, HN1.out⟩
            case measure => first | exact down12v HLT.out | (rw [HADD.out]; exact down12v HLT.out)
          · have HZ := Lib.hid (HZB.out hre)
            have hne : (re != 0) = true := by simpa using hre
            have HRE := Lib.hid hre
            clear hre
            go_wp2_with (go_at_call 44; rw [← hW3]; (with_reducible refine HWI.out.mono ?_); rintro e w5 ⟨rfl, a5, b5, h5, h6⟩; obtain ⟨rfl, rfl⟩ := h6 HRE.out; have H5 := Lib.hid (HBT.out _ _ _ h5); clear h5 h6)
            go_ret
            exact ⟨by rw [HZ.out]; rfl, by rw [HZ.out]; exact H5.out⟩
        · obtain rfl : k = nf := by omega
          have HZ := Lib.hid (HOK.out HPN.out (fun j hj => HZJ.out j hj))
          clear hm
          go_wp2_with (go_at_call 43; (with_reducible refine (at12_any sb _ _ _ _ (-1) (-1) wr HM.out.srch).mono ?_); rintro e w6 ⟨rfl, hw⟩; have H6 := Lib.hid (show Wth w w6 sb _ _ (-1) (-1) from by rw [← hw]; exact HM.out.stand _ _); clear hw)
          go_ret
          exact ⟨by rw [HZ.out]; rfl, by rw [HZ.out]; exact H6.out⟩
  · have HZ := Lib.hid (findM_bad (m := ⟨data, fs⟩) h0)
    have hne : ((ModV.mk data fs).err != 0) = true := by simpa using h0
    generalize findM ⟨data, fs⟩ = z at *
    generalize (ModV.mk data fs).err = q at *
    subst hDe hFe
    clear hD hF hs h0 HD1 HF1 hsb
    go_enter Tryz.func28, Tryz.ntmps28
    go_wp2_with (go_at_call 18; (with_reducible refine HCK.out.mono ?_); rintro e w2 ⟨rfl, hb⟩; have H2 := Lib.hid (H1.out.grow hb); clear hb)
    go_ret
    exact ⟨by rw [HZ.out]; rfl, by rw [HZ.out]; exact H2.out⟩
/-- The deferred function: the results are where the search stands. -/
theorem find1_any (sb fb ib : Nat) (D F : Value) (a b : Int) (u : FrameMode) (w : World) (hs : SrchAt w sb D F a b) (hf : ∃ x, w.heap[fb]? = some (.cells #[x] 3 (0, 0))) (hi : ∃ x, w.heap[ib]? = some (.cells #[x] 3 (0, 0))) (hne : fb ≠ ib) :
    CallsD Tryz.prog 27 #[.pointer (some ⟨sb, 0, none⟩), .pointer (some ⟨fb, 0, none⟩), .pointer (some ⟨ib, 0, none⟩)] u w fun e u' w' => u' = u ∧ (e = .returned (.tuple #[]) ∧ (w.setCell ⟨fb, 0, none⟩ (.int .i64 a)).setCell ⟨ib, 0, none⟩ (.int .i64 b) = w') := by
  obtain ⟨-, -, q2, q3⟩ := hs.cells
  obtain ⟨x, hf⟩ := hf
  obtain ⟨y, hi⟩ := hi
  have c0 : w.cell? ⟨fb, 0, none⟩ = some x := by simp [World.cell?, hf]
  have c1 : w.cell? ⟨ib, 0, none⟩ = some y := by simp [World.cell?, hi]
  have z0 : w.frozen? ⟨fb, 0, none⟩ = false := frozen_of_row w fb 0 _ _ hf
  have z1 : w.frozen? ⟨ib, 0, none⟩ = false := frozen_of_row w ib 0 _ _ hi
  have hne' : ib ≠ fb := hne.symm
  clear hs hf hi
  go_enter_d Tryz.func27, Tryz.ntmps27
  go_wp2
  go_end0
  exact ⟨rfl, rfl⟩
/-- What Find has made: boxes for its results, and the search. -/
structure FindAt (w W : World) (D F : Value) (f i a b : Int) : Prop where
  fun_ : W.heap[w.heap.size + 1]? = some (.cells #[.int .i64 f] 3 (0, 0))
  ins : W.heap[w.heap.size + 2]? = some (.cells #[.int .i64 i] 3 (0, 0))
  srch : SrchAt W (w.heap.size + 3) D F a b
  bel : Below w.heap.size w W
theorem FindAt.set {w W : World} {D F : Value} {f i a b : Int} (h : FindAt w W D F f i a b) (f' i' : Int) : FindAt w ((W.setCell ⟨w.heap.size + 1, 0, none⟩ (.int .i64 f')).setCell ⟨w.heap.size + 2, 0, none⟩ (.int .i64 i')) D F f' i' a b := by
  have h1 := heap_setCell_same W (w.heap.size + 1) 0 _ _ (.int .i64 f') h.fun_
  refine ⟨?_, ?_, ?_, (h.bel.setCell (show w.heap.size ≤ (⟨w.heap.size + 1, 0, none⟩ : Addr).block from Nat.le_succ _) _).setCell (show w.heap.size ≤ (⟨w.heap.size + 2, 0, none⟩ : Addr).block from Nat.le_add_right _ _) _⟩
  · rw [Below.heap_setCell _ _ _ _ (show w.heap.size + 1 ≠ w.heap.size + 2 by omega)]
    exact h1
  · have h2 : (W.setCell ⟨w.heap.size + 1, 0, none⟩ (.int .i64 f')).heap[w.heap.size + 2]? = some (.cells #[.int .i64 i] 3 (0, 0)) := by
      rw [Below.heap_setCell _ _ _ _ (show w.heap.size + 2 ≠ w.heap.size + 1 by omega)]
      exact h.ins
    exact heap_setCell_same _ (w.heap.size + 2) 0 _ _ (.int .i64 i') h2
  · unfold SrchAt
    rw [Below.heap_setCell _ _ _ _ (show w.heap.size + 3 ≠ w.heap.size + 2 by omega), Below.heap_setCell _ _ _ _ (show w.heap.size + 3 ≠ w.heap.size + 1 by omega)]
    exact h.srch
theorem find_made (w : World) (D F : Value) : FindAt w ((((w.alloc (.cells #[D, F] 25)).alloc (.cells #[.int .i64 0] 3)).alloc (.cells #[.int .i64 0] 3)).alloc (.cells #[D, F, .int .i64 (-1), .int .i64 (-1)] 58)) D F 0 0 (-1) (-1) := by
  refine ⟨?_, ?_, ?_, (((((Below.refl _ w).alloc (Nat.le_refl _) _).alloc (by simp) _).alloc (by simp; omega) _).alloc (by simp; omega) _)⟩
  · rw [Below.heap_alloc _ _ _ (by simp), Below.heap_alloc _ _ _ (by simp)]
    have := heap_alloc_new (w.alloc (.cells #[D, F] 25)) (.cells #[.int .i64 0] 3)
    rwa [World.size_alloc] at this
  · rw [Below.heap_alloc _ _ _ (by simp)]
    have := heap_alloc_new ((w.alloc (.cells #[D, F] 25)).alloc (.cells #[.int .i64 0] 3)) (.cells #[.int .i64 0] 3)
    simpa using this
  · unfold SrchAt
    have := heap_alloc_new (((w.alloc (.cells #[D, F] 25)).alloc (.cells #[.int .i64 0] 3)).alloc (.cells #[.int .i64 0] 3)) (.cells #[D, F, .int .i64 (-1), .int .i64 (-1)] 58)
    simpa using this
theorem FindAt.next {w W W' : World} {D F : Value} {f i a b a' b' : Int} (h : FindAt w W D F f i a b) (hw : Wth W W' (w.heap.size + 3) D F a' b') : FindAt w W' D F f i a' b' :=
  ⟨hw.heap h.fun_ (by omega), hw.heap h.ins (by omega), hw.srch, But.below h.bel hw.but h.bel.size (fun k hk => by have e : k = w.heap.size + 3 := hk; omega)⟩
set_option maxRecDepth 100000 in
set_option maxHeartbeats 16000000 in
theorem vfind12_any (D F : Value) (data : List Int) (fs : List FunV) (w : World) (hD : IsBytes w w.heap.size D data) (hF : IsFuns w w.heap.size F fs) :
    Calls Tryz.prog 11 #[.agg #[D, F]] w (FindDone w (findM ⟨data, fs⟩)) := by
  obtain ⟨W1, hW1⟩ : ∃ W1, W1 = (((w.alloc (.cells #[D, F] 25)).alloc (.cells #[.int .i64 0] 3)).alloc (.cells #[.int .i64 0] 3)).alloc (.cells #[D, F, .int .i64 (-1), .int .i64 (-1)] 58) := ⟨_, rfl⟩
  have H1 := Lib.hid (show FindAt w W1 D F 0 0 (-1) (-1) from by rw [hW1]; exact find_made w D F)
  have HAL := Lib.hid (all12_any (w.heap.size + 3) D F data fs W1 H1.out.srch ((hD.below H1.out.bel (Nat.le_refl _)).more (by omega)) ((hF.below H1.out.bel (Nat.le_refl _) (Nat.le_refl _)).more (by omega)))
  obtain ⟨DA, dc, rfl⟩ := hD.len
  obtain ⟨FA, fc, rfl⟩ := hF.len
  generalize findM ⟨data, fs⟩ = r at *
  obtain ⟨ra, rb, rc⟩ := r
  unfold AllDone at HAL
  dsimp only at HAL
  clear hD hF
  generalize data.length = nd at *
  generalize fs.length = nf at *
  go_enter_defers Tryz.func11, Tryz.ntmps11
  go_wp2_with (go_at_call 28; rw [← hW1]; (with_reducible refine HAL.out.mono ?_); rintro e w2 ⟨rfl, hw⟩; have hn := H1.out.next hw; have HA := Lib.hid (hn.set (-1) (-1)); have c1 : w2.cell? ⟨w.heap.size + 1, 0, none⟩ = some (.int .i64 0) := (by simp [World.cell?, hn.fun_]); have c2 : w2.cell? ⟨w.heap.size + 2, 0, none⟩ = some (.int .i64 0) := (by simp [World.cell?, hn.ins]); have z1 : w2.frozen? ⟨w.heap.size + 1, 0, none⟩ = false := frozen_of_row _ _ _ _ _ hn.fun_; have z2 : w2.frozen? ⟨w.heap.size + 2, 0, none⟩ = false := frozen_of_row _ _ _ _ _ hn.ins; clear hn hw)
  refine (show ∀ W, FindAt w W (.slice DA nd dc) (.slice FA nf fc) (-1) (-1) ra rb → bodyPostD _ _ _ _ _ W from fun W hW => ?_) _ HA.out
  clear HA c1 c2 z1 z2
  refine leaves_cons (f := 27) (args := #[.pointer (some ⟨w.heap.size + 3, 0, none⟩), .pointer (some ⟨w.heap.size + 1, 0, none⟩), .pointer (some ⟨w.heap.size + 2, 0, none⟩)]) (by simp) (by simp [go_sem]) ?_
  refine (find1_any (w.heap.size + 3) (w.heap.size + 1) (w.heap.size + 2) _ _ ra rb .returning _ hW.srch ⟨_, hW.fun_⟩ ⟨_, hW.ins⟩ (by omega)).mono ?_
  rintro e u' w'' ⟨rfl, rfl, hw⟩
  have hF := hW.set ra rb
  rw [hw] at hF
  have c1 : w''.cell? ⟨w.heap.size + 1, 0, none⟩ = some (.int .i64 ra) := (by simp [World.cell?, hF.fun_])
  have c2 : w''.cell? ⟨w.heap.size + 2, 0, none⟩ = some (.int .i64 rb) := (by simp [World.cell?, hF.ins])
  exact ⟨.tuple #[.int .i64 ra, .int .i64 rb, .int .i64 rc], by simp [results, Tryz.results11, go_sem, c1, c2], hF.bel, rfl⟩
set_option maxRecDepth 100000 in
set_option maxHeartbeats 16000000 in
theorem vcheck12_any (D F : Value) (data : List Int) (fs : List FunV) (w : World) (hD : IsBytes w w.heap.size D data) (hF : IsFuns w w.heap.size F fs) :
    Calls Tryz.prog 13 #[.agg #[D, F]] w (Makes w (.int .i64 (findM ⟨data, fs⟩).2.2)) := by
  obtain ⟨W1, hW1⟩ : ∃ W1, W1 = w.alloc (.cells #[D, F] 25) := ⟨_, rfl⟩
  have hb1 : Below w.heap.size w W1 := by rw [hW1]; exact (Below.refl _ w).alloc (Nat.le_refl _) _
  have HFI := Lib.hid (vfind12_any D F data fs W1 (hD.grow hb1) (hF.grow hb1))
  have HB1 := Lib.hid hb1
  obtain ⟨DA, dc, rfl⟩ := hD.len
  obtain ⟨FA, fc, rfl⟩ := hF.len
  generalize findM ⟨data, fs⟩ = r at *
  obtain ⟨ra, rb, rc⟩ := r
  clear hD hF hb1
  generalize data.length = nd at *
  generalize fs.length = nf at *
  go_enter Tryz.func13, Tryz.ntmps13
  go_wp2_with (go_at_call 11; rw [← hW1]; (with_reducible refine HFI.out.mono ?_); rintro e w2 ⟨hb, rfl⟩; have HB2 := Lib.hid (HB1.out.trans (hb.mono HB1.out.size)); clear hb)
  go_ret
  exact ⟨rfl, HB2.out⟩
/-- What layer 12's statements want of the landed code, whole. -/
theorem verify12 : Verify12 := ⟨fun D F data fs W hD hF => vfind12_any D F data fs W hD hF, fun D F data fs W hD hF => vcheck12_any D F data fs W hD hF⟩
end Go.Proofs.YtfdblmjgpoocpaaGreat
