/- The body of the statement that an instruction that may be reads and writes registers that there are alone, and may be, too, where there are more. Contract; no condition but that the argument is an instruction in memory, and numbers are the machine's. -/
import Derived.Test.YtbcfdjpnckikdaaLawsB06
import Derived.Test.YtbcfdjpnckikdaaMathC06
import Derived.Test.YtbcfdjpnckikdaaOpen06
namespace Go.Proofs.Ytbcfdjpnckikdaa
open Go.RowKit
set_option linter.unusedVariables false
set_option linter.unusedSimpArgs false

/-! What an instruction that may be has. -/
theorem check_ok {op a b c n : Int} {args : List Int} {regs area : Int} (h : checkV op a b c n args regs area = 0) :
    (0 ≤ op ∧ op < 33) ∧ (0 ≤ regs ∧ regs ≤ 64 ∧ 0 ≤ area ∧ area ≤ 4096) ∧ bareV (lettersOf (shapeI op)) a b c n args = true ∧ args.length ≤ 8 ∧ (itemsOf (shapeI op) a b c n args).all (fitB regs area) = true := by
  unfold checkV at h
  split at h
  · cases h
  split at h
  · cases h
  split at h
  · cases h
  split at h
  · cases h
  split at h
  · cases h
  rename_i h1 h2 h3 h4 h5
  exact ⟨by omega, by omega, by simpa using h3, by omega, by simpa using h5⟩
theorem fit_more {regs area regs' area' : Int} (h1 : regs ≤ regs') (h2 : area ≤ area') (p : Int × Int) (h : fitB regs area p = true) : fitB regs' area' p = true := by
  obtain ⟨q, x⟩ := p
  unfold fitB at h ⊢
  simp only [Bool.and_eq_true, decide_eq_true_eq] at h ⊢
  refine ⟨?_, h.2⟩
  have h3 := h.1
  unfold limV at h3 ⊢
  split <;> rename_i e1
  · simp only [e1, if_true] at h3; simp only at h3 ⊢; omega
  simp only [e1, if_false] at h3
  split <;> rename_i e2
  · simp only [e2, if_true] at h3; simp only at h3 ⊢; omega
  simp only [e2, if_false] at h3
  split <;> rename_i e3
  · simp only [e3, if_true] at h3; simp only at h3 ⊢; omega
  simp only [e3, if_false] at h3
  split <;> rename_i e4
  · simp only [e4, if_true] at h3; exact h3
  simp only [e4, if_false] at h3
  split <;> rename_i e5
  · simp only [e5, if_true] at h3; exact h3
  simp only [e5, if_false] at h3
  split <;> rename_i e6
  · simp only [e6, if_true] at h3; exact h3
  simp only [e6, if_false] at h3
  split <;> rename_i e7
  · simp only [e7, if_true] at h3; simp only at h3 ⊢; omega
  simp only [e7, if_false] at h3
  exact h3
theorem check_more {op a b c n : Int} {args : List Int} {regs area regs' area' : Int} (h : checkV op a b c n args regs area = 0) (h1 : regs ≤ regs') (h2 : area ≤ area') (h3 : regs' ≤ 64) (h4 : area' ≤ 4096) :
    checkV op a b c n args regs' area' = 0 := by
  obtain ⟨g1, g2, g3, g4, g5⟩ := check_ok h
  have g6 : (itemsOf (shapeI op) a b c n args).all (fitB regs' area') = true := by
    rw [List.all_eq_true] at g5 ⊢
    exact fun p hp => fit_more h1 h2 p (g5 p hp)
  unfold checkV
  rw [if_neg (by omega), if_neg (by omega), if_neg (by rw [g3]; simp), if_neg (by omega), if_neg (by rw [g6]; simp)]
theorem fit_within {regs area : Int} {p : Int × Int} (h : fitB regs area p = true) (hq : p.1 = 119 ∨ p.1 = 114 ∨ p.1 = 108) : 0 ≤ p.2 ∧ p.2 < regs := by
  have h' : okR regs p.2 = true := by
    obtain ⟨q, x⟩ := p
    rw [← fit_reg (area := area) (q := q) (x := x) (by rcases hq with h | h | h <;> simp at h <;> subst h <;> first | (left; rfl) | (right; rfl))]
    exact h
  exact of_decide_eq_true h'
theorem reads_within {regs area : Int} {l : List (Int × Int)} (h : l.all (fitB regs area) = true) : ∀ x ∈ readsV l, 0 ≤ x ∧ x < regs := by
  intro x hx
  simp only [readsV, List.mem_map, List.mem_filter] at hx
  obtain ⟨p, ⟨hp, hr⟩, rfl⟩ := hx
  have hq := of_decide_eq_true hr
  exact fit_within (List.all_eq_true.1 h p hp) (by rcases hq with h | h; exact .inr (.inl h); exact .inr (.inr h))
theorem first_within {regs area : Int} {l : List (Int × Int)} (h : l.all (fitB regs area) = true) : firstV 119 l = -1 ∨ (0 ≤ firstV 119 l ∧ firstV 119 l < regs) := by
  unfold firstV
  cases hf : l.find? (fun x => x.1 == 119) with
  | none => exact .inl rfl
  | some p =>
    right
    have h1 := List.find?_some hf
    have h2 := List.mem_of_find?_eq_some hf
    exact fit_within (List.all_eq_true.1 h p h2) (.inl (by simpa using h1))
/-- A letter t just where it jumps; and then its number is a place. -/
def jumpB (op : Int) : Bool := decide (op = 25 ∨ op = 26 ∨ op = 27)
def jumpOk (s : ByteArray) (k : Nat) : Bool := ((lettersOf s).any (fun q => q == 116)) == jumpB (k : Int)
theorem jump_ok {k : Nat} (h : k < 33) : (lettersOf (shapeB k)).any (fun q => q == 116) = jumpB k := by
  have h2 : (List.range 33).all (fun k => jumpOk (shapeB k) k) = true := by kernel_rfl
  have := List.all_eq_true.1 h2 k (List.mem_range.2 h)
  simpa [jumpOk] using this
theorem items_find (n : Int) (args : List Int) : ∀ (L rs : List Int), (itemsL n args L rs).find? (fun x => x.1 == 116) = if L.any (fun q => q == 116) then some (116, n) else none := by
  intro L
  induction L with
  | nil => intro rs; rfl
  | cons q qs ih =>
    intro rs
    simp only [itemsL, List.find?_append]
    by_cases h : q = 116
    · subst h
      have e : heldOf n args 116 rs = [n] := by simp [heldOf, isReg]
      rw [e]
      simp
    · have e : ((heldOf n args q rs).map fun x => (q, x)).find? (fun x => x.1 == 116) = none := by
        rw [List.find?_eq_none]
        intro x hx
        obtain ⟨y, _, rfl⟩ := List.mem_map.1 hx
        simpa using h
      rw [e, ih]
      simp [h]
theorem target_ok {op a b c n : Int} {args : List Int} {regs area : Int} (hop : 0 ≤ op ∧ op < 33) (h : (itemsOf (shapeI op) a b c n args).all (fitB regs area) = true) :
    decide (0 ≤ firstV 116 (itemsOf (shapeI op) a b c n args)) = jumpB op := by
  obtain ⟨k, rfl⟩ : ∃ k : Nat, op = k := ⟨op.toNat, by omega⟩
  have hk : k < 33 := by omega
  have hs : shapeI (k : Int) = shapeB k := by unfold shapeI; rw [if_pos hop]; simp
  have hj := jump_ok hk
  rw [hs] at h ⊢
  unfold itemsOf at h ⊢
  have hf := items_find n args (lettersOf (shapeB k)) [a, b, c]
  rw [hj] at hf
  cases hjb : jumpB (k : Int) with
  | false =>
    rw [hjb] at hf
    unfold firstV
    rw [hf]
    rfl
  | true =>
    rw [hjb] at hf
    have hm := List.mem_of_find?_eq_some hf
    have hfit := List.all_eq_true.1 h _ hm
    unfold firstV
    rw [hf]
    have : 0 ≤ n := by
      simp [fitB, limV] at hfit
      omega
    exact decide_eq_true this

theorem items_len (n : Int) (args : List Int) : ∀ (L rs : List Int), (itemsL n args L rs).length ≤ L.length * (args.length + 1) := by
  intro L
  induction L with
  | nil => intro rs; simp [itemsL]
  | cons q qs ih =>
    intro rs
    simp only [itemsL, List.length_append, List.length_map, List.length_cons]
    have h1 := ih (restOf q rs)
    have h2 : (heldOf n args q rs).length ≤ args.length + 1 := by
      unfold heldOf
      split
      · simp
      · split
        · omega
        · simp
    have h3 : (qs.length + 1) * (args.length + 1) = qs.length * (args.length + 1) + (args.length + 1) := by rw [Nat.add_mul]; simp
    omega
theorem items_small (op a b c n : Int) {args : List Int} (h : args.length ≤ 8) : (itemsOf (shapeI op) a b c n args).length ≤ 27 := by
  have h1 := items_len n args (lettersOf (shapeI op)) [a, b, c]
  have h2 := shapes_small op
  have h3 := letters_len (shapeI op)
  unfold itemsOf
  have h4 : (lettersOf (shapeI op)).length * (args.length + 1) ≤ 3 * 9 := Nat.mul_le_mul (by omega) (by omega)
  omega
theorem wpList_out {P : Program} {w : World} {ops : Array Oper} {rest : List Oper} {o : Oper} {a : Act} {Q : Exit → Act → World → Prop} (hgd : o.guard = none) (s x : Operand) (t : TypeId)
    (ho : o.op = .call { callee := .builtin .append, args := #[s, x], argTypes := #[t, t] }) (V X : Value) (hs : a.eval s = V) (hx : a.eval x = X) (R : Value → World → Prop)
    (hr : ∃ V' W', (Builtin.append_ #[t, t] o.type #[V, X]).run P w = .ok V' W' ∧ R V' W') (h : ∀ V' W', R V' W' → wpList P ops Q rest (a.put o.dst V') W') : wpList P ops Q (o :: rest) a w :=
  wpList_plain hgd fun _ hK => by
    obtain ⟨V', W', hrun, hR⟩ := hr
    unfold Oper.wp execOp
    simp only [ho, resolve, invoke, builtin, Sem.run_bind, Sem.run_pure, Result.andThen_ok, List.map_toArray, List.map_cons, List.map_nil, hs, hx, hrun]
    exact hK _ _ (h V' W' hR)
theorem nums_alloc {w : World} {X : Value} {xs : List Int} {o : Obj} (h : IsNums .i64 w w.heap.size X xs) : IsNums .i64 (w.alloc o) (w.alloc o).heap.size X xs :=
  (h.below ((Below.refl _ _).alloc (Nat.le_refl _) _) (Nat.le_refl _)).more (by simp)
theorem below_alloc2 {w w' : World} {o : Obj} (h : Below (w.alloc o).heap.size (w.alloc o) w') : Below w.heap.size w w' := ((Below.refl _ _).alloc (Nat.le_refl _) o).trans (h.mono (by simp))
theorem Held.old {w w' : World} {B b' : Nat} {op a b c n : Int} {X : Value} (h : Held w b' op a b c n X) (hb : Below B w w') (hB : b' < B) : Held w' b' op a b c n X := ⟨six_below h.six hb hB, Nat.lt_of_lt_of_le h.lt hb.size⟩
theorem one_nums (w : World) (x : Int) : IsNums .i64 (w.alloc (.cells #[.int .i64 x] 3)) (w.heap.size + 1) (.slice (some ⟨w.heap.size, 0, none⟩) 1 1) [x] :=
  IsNums.of_row (xs := [x]) (heap_alloc_new w _) (Nat.lt_succ_self _) (by simp [maxLen]) (Nat.le_refl 1)

set_option maxHeartbeats 8000000 in
set_option maxRecDepth 100000 in
theorem within_law (op a b c n : Int) (X : Value) (args : List Int) (regs area more wider : Int) (w : World) (hX : IsNums .i64 w w.heap.size X args) (hr : InI regs) (ha : InI area) (hmo : InI more) (hwi : InI wider) :
    Calls Try.prog 7 #[.agg (insCells op a b c n X), .int .i64 regs, .int .i64 area, .int .i64 more, .int .i64 wider] w (Makes w (.bool true)) := by
  obtain ⟨XA, Xc, rfl⟩ := hX.len
  have hm := hX.1
  unfold maxLen at hm
  have hB0 : Below w.heap.size w (w.alloc (.cells (insCells op a b c n (.slice XA args.length Xc)) 28)) := (Below.refl _ w).alloc (Nat.le_refl _) _
  have A0 := Lib.hid hB0
  have H0 := Lib.hid (Held.new w op a b c n (.slice XA args.length Xc) 28)
  have N0 := Lib.hid ((hX.below hB0 (Nat.le_refl _)).more hB0.size)
  have HA := Lib.hid (fun w => awake_any w)
  have hp1 := fun w => pick_any regs 65 w (by decide) (by decide) hr.1 hr.2
  have hp2 := fun w => pick_any area 4097 w (by decide) (by decide) ha.1 ha.2
  have b1 := pick_bd (x := regs) (n := 65) (by decide)
  have b2 := pick_bd (x := area) (n := 4097) (by decide)
  obtain ⟨r, hrv⟩ : ∃ r, r = pickV regs 65 := ⟨_, rfl⟩
  obtain ⟨s, hsv⟩ : ∃ s, s = pickV area 4097 := ⟨_, rfl⟩
  rw [← hrv] at hp1 b1
  rw [← hsv] at hp2 b2
  have HP1 := Lib.hid hp1
  have HP2 := Lib.hid hp2
  obtain ⟨r0, r1⟩ := b1
  obtain ⟨s0, s1⟩ := b2
  have hC := fun W h => check_any op a b c n (.slice XA args.length Xc) args r s W h
  clear hX hB0 hp1 hp2 hrv hsv
  by_cases h60 : 60 < args.length
  case pos =>
    clear hC
    go_enter Try.func7, Try.ntmps7
    go_wp2_with (first
      | (go_at_call 8; (with_reducible refine (HA.out _).mono ?_); rintro e w1 ⟨rfl, hb⟩; have H1 := Lib.hid (H0.out.below hb); have A1 := Lib.hid (A0.out.trans (hb.mono A0.out.size)); have N1 := Lib.hid ((N0.out.below hb (Nat.le_refl _)).more hb.size); clear hb; obtain ⟨k0, k1, k2, k3, k4, k5⟩ := H1.out.six)
      | (go_at_call 27; (with_reducible refine (HP1.out _).mono ?_); rintro e wp ⟨rfl, rfl⟩)
      | (go_at_call 27; (with_reducible refine (HP2.out _).mono ?_); rintro e wp ⟨rfl, rfl⟩))
    go_ret
    exact ⟨rfl, A1.out⟩
  by_cases hc : checkV op a b c n args r s = 0
  case neg =>
    obtain ⟨cv, hcv⟩ : ∃ cv, cv = checkV op a b c n args r s := ⟨_, rfl⟩
    rw [← hcv] at hC hc
    have HC := Lib.hid hC
    have e1 : (cv != 0) = true := by simpa using hc
    clear hC hcv hc
    go_enter Try.func7, Try.ntmps7
    go_wp2_with (first
      | (go_at_call 8; (with_reducible refine (HA.out _).mono ?_); rintro e w1 ⟨rfl, hb⟩; have H1 := Lib.hid (H0.out.below hb); have A1 := Lib.hid (A0.out.trans (hb.mono A0.out.size)); have N1 := Lib.hid ((N0.out.below hb (Nat.le_refl _)).more hb.size); clear hb; obtain ⟨k0, k1, k2, k3, k4, k5⟩ := H1.out.six)
      | (go_at_call 27; (with_reducible refine (HP1.out _).mono ?_); rintro e wp ⟨rfl, rfl⟩)
      | (go_at_call 27; (with_reducible refine (HP2.out _).mono ?_); rintro e wp ⟨rfl, rfl⟩)
      | (go_at_call 16; (with_reducible refine (HC.out _ N1.out).mono ?_); rintro e w2 ⟨rfl, hb⟩; have H2 := Lib.hid (H1.out.below hb); have A2 := Lib.hid (A1.out.trans (hb.mono A1.out.size)); have N2 := Lib.hid ((N1.out.below hb (Nat.le_refl _)).more hb.size); clear hb; obtain ⟨l0, l1, l2, l3, l4, l5⟩ := (H2.out.alloc (.cells #[] 3)).six))
    go_ret
    exact ⟨rfl, A2.out⟩
  obtain ⟨hop, hrs, _, h8, hall⟩ := check_ok hc
  rw [hc] at hC
  have hsm := items_small op a b c n h8
  have hR := fun W h => reads_any op a b c n (.slice XA args.length Xc) args W h (by omega)
  have hW := fun W h => writes_any op a b c n (.slice XA args.length Xc) args W h
  have hT := fun W h => target_any op a b c n (.slice XA args.length Xc) args W h
  have htg := target_ok hop hall
  have hrw := reads_within hall
  have hfw := first_within hall
  have hrl : (readsV (itemsOf (shapeI op) a b c n args)).length ≤ 27 := Nat.le_trans (reads_len _) hsm
  obtain ⟨rs, hrsv⟩ : ∃ rs, rs = readsV (itemsOf (shapeI op) a b c n args) := ⟨_, rfl⟩
  obtain ⟨wv, hwv⟩ : ∃ wv, wv = firstV 119 (itemsOf (shapeI op) a b c n args) := ⟨_, rfl⟩
  obtain ⟨tv, htv⟩ : ∃ tv, tv = firstV 116 (itemsOf (shapeI op) a b c n args) := ⟨_, rfl⟩
  rw [← hrsv] at hR hrw hrl
  rw [← hwv] at hW hfw
  rw [← htv] at hT htg
  have HC := Lib.hid hC
  have HR := Lib.hid hR
  have HW1 := Lib.hid hW
  have HW2 := Lib.hid hW
  have HT := Lib.hid hT
  have HTG := Lib.hid htg
  have HRW := Lib.hid hrw
  have HFW := Lib.hid hfw
  have HSM := Lib.hid (fun W h => same_any op a b c n (.slice XA args.length Xc) args op a b c n (.slice XA args.length Xc) args W h h)
  have HSV : Hid (sameV op a b c n args op a b c n args = true) := Lib.hid (decide_eq_true ⟨rfl, rfl, rfl, rfl, rfl, rfl⟩)
  rw [HSV.out] at HSM
  have hp3 := fun w => pick_any more (65 - r) w (by omega) (by omega) hmo.1 hmo.2
  have hp4 := fun w => pick_any wider (4097 - s) w (by omega) (by omega) hwi.1 hwi.2
  have b3 := pick_bd (x := more) (n := 65 - r) (by omega)
  have b4 := pick_bd (x := wider) (n := 4097 - s) (by omega)
  obtain ⟨mv, hmv⟩ : ∃ r', r' = pickV more (65 - r) := ⟨_, rfl⟩
  obtain ⟨dv, hdv⟩ : ∃ s', s' = pickV wider (4097 - s) := ⟨_, rfl⟩
  rw [← hmv] at hp3 b3
  rw [← hdv] at hp4 b4
  have HP3 := Lib.hid hp3
  have HP4 := Lib.hid hp4
  obtain ⟨m0, m1⟩ := b3
  obtain ⟨d0, d1⟩ := b4
  have HC2 := Lib.hid (fun W h => check_any op a b c n (.slice XA args.length Xc) args (r + mv) (s + dv) W h)
  have hc2 := check_more (regs' := r + mv) (area' := s + dv) hc (by omega) (by omega) (by omega) (by omega)
  rw [hc2] at HC2
  obtain ⟨i0, hi, hz0, hz1, hz2⟩ := info_parts int_info
  have HI := Lib.hid hi
  have HZ0 := Lib.hid hz0
  have HZ1 := Lib.hid hz1
  have HZ2 := Lib.hid hz2
  clear hi hz0 hz1 hz2 hC hR hW hT htg hrw hfw hrsv hwv htv hp3 hp4 hmv hdv hc hc2 hall hrs hr ha hmo hwi hsm
  by_cases hw0 : 0 ≤ wv
  · go_enter Try.func7, Try.ntmps7
    go_wp2_with (first
      | (go_at_call 8; (with_reducible refine (HA.out _).mono ?_); rintro e w1 ⟨rfl, hb⟩; have H1 := Lib.hid (H0.out.below hb); have A1 := Lib.hid (A0.out.trans (hb.mono A0.out.size)); have N1 := Lib.hid ((N0.out.below hb (Nat.le_refl _)).more hb.size); clear hb; obtain ⟨k0, k1, k2, k3, k4, k5⟩ := H1.out.six)
      | (go_at_call 27; (with_reducible refine (HP1.out _).mono ?_); rintro e wp ⟨rfl, rfl⟩)
      | (go_at_call 27; (with_reducible refine (HP2.out _).mono ?_); rintro e wp ⟨rfl, rfl⟩)
      | (go_at_call 16; (with_reducible refine (HC.out _ N1.out).mono ?_); rintro e w2 ⟨rfl, hb⟩; have H2 := Lib.hid (H1.out.below hb); have A2 := Lib.hid (A1.out.trans (hb.mono A1.out.size)); have N2 := Lib.hid ((N1.out.below hb (Nat.le_refl _)).more hb.size); clear hb; obtain ⟨l0, l1, l2, l3, l4, l5⟩ := (H2.out.alloc (.cells #[] 3)).six)
      | (go_at_call 23; (with_reducible refine (HR.out _ (nums_alloc N2.out)).mono ?_); rintro e w3 ⟨v, rfl, hv, hb⟩; have H3 := Lib.hid ((H2.out.alloc (.cells #[] 3)).below hb); have C2 := Lib.hid (below_alloc2 hb); have A3 := Lib.hid (A2.out.trans (C2.out.mono A2.out.size)); have N3 := Lib.hid ((N2.out.below C2.out (Nat.le_refl _)).more C2.out.size); have NV := Lib.hid (reads_nums (w' := w3) hv (Nat.le_refl _)); have O3 := Lib.hid ((Owns.made w2 w2.heap.size 3 1 (IsNum .i64) (Nat.le_refl _)).below hb (Nat.le_refl _)); clear hb hv; obtain ⟨p0, p1, p2, p3, p4, p5⟩ := H3.out.six)
      | (at_builtin; refine wpList_out rfl (.tmp 32) (.tmp 34) 26 rfl _ _ rfl rfl _ (append_nums w3 w2.heap.size 26 _ 3 i0 Try.underlying26 HI.out HZ0.out HZ1.out HZ2.out _ [] rs O3.out w3.heap.size v NV.out (by simp; omega) C2.out.size) ?_; intro V w4 hV; have C4 := Lib.hid ((Below.refl w2.heap.size w3).grown hV.2 C2.out.size (fun g hg => (O3.out.lt hg).1)); have O4 := Lib.hid hV.1; have H4 := Lib.hid (H3.out.old C4.out H2.out.lt); have A4 := Lib.hid (A3.out.trans (C4.out.mono A2.out.size)); have N4 := Lib.hid ((N2.out.below (C2.out.trans C4.out) (Nat.le_refl _)).more (Nat.le_trans C2.out.size C4.out.size)); clear hV; obtain ⟨q0, q1, q2, q3, q4, q5⟩ := H4.out.six)
      | (go_at_call 24; (with_reducible refine (HW1.out _ N4.out).mono ?_); clear HW1; rintro e w5 ⟨rfl, hb⟩; have H5 := Lib.hid (H4.out.below hb); have A5 := Lib.hid (A4.out.trans (hb.mono A4.out.size)); have N5 := Lib.hid ((N4.out.below hb (Nat.le_refl _)).more hb.size); have O5 := Lib.hid (O4.out.below hb (Nat.le_refl _)); have E5 := Lib.hid ((C2.out.trans C4.out).trans (hb.mono (Nat.le_trans C2.out.size C4.out.size))); have G5 := Lib.hid (Nat.le_trans (Nat.le_trans C2.out.size C4.out.size) hb.size); clear hb; obtain ⟨t0, t1, t2, t3, t4, t5⟩ := H5.out.six)
      | (go_at_call 24; (with_reducible refine (HW2.out _ N5.out).mono ?_); clear HW2; rintro e w6 ⟨rfl, hb⟩; have H6 := Lib.hid ((H5.out.below hb).alloc (.cells #[.int .i64 wv] 3)); have C6 := Lib.hid (hb.alloc hb.size (.cells #[.int .i64 wv] 3)); have A6 := Lib.hid (A5.out.trans (C6.out.mono A5.out.size)); have N6 := Lib.hid ((N5.out.below C6.out (Nat.le_refl _)).more C6.out.size); have O6 := Lib.hid (O5.out.below C6.out (Nat.le_refl _)); have G6 := Lib.hid (Nat.le_trans G5.out C6.out.size); have E6 := Lib.hid (E5.out.trans (C6.out.mono G5.out)); have Y6 := Lib.hid (one_nums w6 wv); clear hb)
      | (at_builtin; refine wpList_out rfl (.tmp 39) (.tmp 42) 26 rfl _ _ rfl rfl _ (append_nums (w6.alloc (.cells #[.int .i64 wv] 3)) w2.heap.size 26 _ 3 i0 Try.underlying26 HI.out HZ0.out HZ1.out HZ2.out V ([] ++ rs) [wv] O6.out (w6.heap.size + 1) _ Y6.out (by simp; omega) G6.out) ?_; intro V2 w7 hV; have C7 := Lib.hid ((Below.refl w2.heap.size _).grown hV.2 G6.out (fun g hg => (O6.out.lt hg).1)); have O7 := Lib.hid hV.1; have H7 := Lib.hid (H6.out.old C7.out H2.out.lt); have A7 := Lib.hid (A6.out.trans (C7.out.mono A2.out.size)); have N7 := Lib.hid ((N2.out.below (E6.out.trans C7.out) (Nat.le_refl _)).more (Nat.le_trans G6.out C7.out.size)); clear hV; obtain ⟨u0, u1, u2, u3, u4, u5⟩ := H7.out.six))
    have hY0 : IsNums .i64 w7 w7.heap.size V2 (([] ++ rs) ++ [wv]) := IsNums.of_owns O7.out (Nat.le_refl _)
    obtain ⟨ys, hys⟩ : ∃ ys, ys = ([] ++ rs) ++ [wv] := ⟨_, rfl⟩
    have hyr : ∀ x ∈ ys, 0 ≤ x ∧ x < r := by
      intro x hx
      rw [hys] at hx
      rcases List.mem_append.1 hx with h | h
      · exact HRW.out x (by simpa using h)
      · have := HFW.out
        have e : x = wv := by simpa using h
        omega
    rw [← hys] at hY0
    obtain ⟨A', Cp, hVe⟩ := hY0.len
    subst hVe
    have hym := hY0.1
    unfold maxLen at hym
    have HY := Lib.hid hY0
    have HYR := Lib.hid hyr
    obtain ⟨len, hlen⟩ : ∃ len, len = ys.length := ⟨_, rfl⟩
    have HLn := Lib.hid hlen
    rw [← hlen] at hym ⊢
    clear hY0 hlen hys hyr
    go_loop [13] (fun i => ∃ k : Nat, k ≤ len ∧ i = .int .i64 k) (fun i => len - (intOf i).toNat)
    case atStart => exact ⟨0, Nat.zero_le _, rfl⟩
    case round =>
      obtain ⟨k, hk, rfl⟩ := hrel
      by_cases hlt : k < len
      · obtain ⟨b', o', cp', he, hlc, _, hcs⟩ := HY.out.plain (by have := HLn.out; omega)
        have hcl := hcs k (by have := HLn.out; omega)
        cases he
        obtain ⟨x, hx⟩ : ∃ x, x = ys.getD k 0 := ⟨_, rfl⟩
        rw [← hx] at hcl
        have hxr : 0 ≤ x ∧ x < r := by
          refine HYR.out x ?_
          have hk' : k < ys.length := by have := HLn.out; omega
          rw [hx]
          simp only [List.getD, List.getElem?_eq_getElem hk', Option.getD_some]
          exact List.getElem_mem _
        obtain ⟨x0, x1⟩ := hxr
        have k0 : (0 : Int) ≤ (k : Int) := by omega
        rw [← HLn.out] at hlc
        clear hcs hx
        go_wp2
        go_round
        case rel => exact ⟨k + 1, by omega, by go_num⟩
        case measure => simp [intOf]; omega
      · obtain rfl : k = len := by omega
        clear hlt hk
        by_cases j25 : op = 25
        · subst j25
          have tv0 : 0 ≤ tv := of_decide_eq_true (HTG.out.trans rfl)
          clear hop
          go_wp2_with (first
            | (go_at_call 27; (with_reducible refine (HP3.out _).mono ?_); rintro e wp ⟨rfl, rfl⟩)
            | (go_at_call 27; (with_reducible refine (HP4.out _).mono ?_); rintro e wp ⟨rfl, rfl⟩)
            | (go_at_call 25; (with_reducible refine (HT.out _ N7.out).mono ?_); rintro e w8 ⟨rfl, hb⟩; have H8 := Lib.hid (H7.out.below hb); have A8 := Lib.hid (A7.out.trans (hb.mono A7.out.size)); have N8 := Lib.hid ((N7.out.below hb (Nat.le_refl _)).more hb.size); clear hb; obtain ⟨g0, g1, g2, g3, g4, g5⟩ := H8.out.six)
            | (go_at_call 16; (with_reducible refine (HC2.out _ N8.out).mono ?_); rintro e w9 ⟨rfl, hb⟩; have H9 := Lib.hid (H8.out.below hb); have A9 := Lib.hid (A8.out.trans (hb.mono A8.out.size)); have N9 := Lib.hid ((N8.out.below hb (Nat.le_refl _)).more hb.size); clear hb; obtain ⟨h0, h1, h2, h3, h4, h5⟩ := H9.out.six)
            | (go_at_call 18; (with_reducible refine (HSM.out _ N9.out).mono ?_); rintro e w10 ⟨rfl, hb⟩; have A10 := Lib.hid (A9.out.trans (hb.mono A9.out.size)); clear hb))
          go_ret
          exact ⟨rfl, A10.out⟩
        by_cases j26 : op = 26
        · subst j26
          have tv0 : 0 ≤ tv := of_decide_eq_true (HTG.out.trans rfl)
          clear hop
          go_wp2_with (first
            | (go_at_call 27; (with_reducible refine (HP3.out _).mono ?_); rintro e wp ⟨rfl, rfl⟩)
            | (go_at_call 27; (with_reducible refine (HP4.out _).mono ?_); rintro e wp ⟨rfl, rfl⟩)
            | (go_at_call 25; (with_reducible refine (HT.out _ N7.out).mono ?_); rintro e w8 ⟨rfl, hb⟩; have H8 := Lib.hid (H7.out.below hb); have A8 := Lib.hid (A7.out.trans (hb.mono A7.out.size)); have N8 := Lib.hid ((N7.out.below hb (Nat.le_refl _)).more hb.size); clear hb; obtain ⟨g0, g1, g2, g3, g4, g5⟩ := H8.out.six)
            | (go_at_call 16; (with_reducible refine (HC2.out _ N8.out).mono ?_); rintro e w9 ⟨rfl, hb⟩; have H9 := Lib.hid (H8.out.below hb); have A9 := Lib.hid (A8.out.trans (hb.mono A8.out.size)); have N9 := Lib.hid ((N8.out.below hb (Nat.le_refl _)).more hb.size); clear hb; obtain ⟨h0, h1, h2, h3, h4, h5⟩ := H9.out.six)
            | (go_at_call 18; (with_reducible refine (HSM.out _ N9.out).mono ?_); rintro e w10 ⟨rfl, hb⟩; have A10 := Lib.hid (A9.out.trans (hb.mono A9.out.size)); clear hb))
          go_ret
          exact ⟨rfl, A10.out⟩
        by_cases j27 : op = 27
        · subst j27
          have tv0 : 0 ≤ tv := of_decide_eq_true (HTG.out.trans rfl)
          clear hop
          go_wp2_with (first
            | (go_at_call 27; (with_reducible refine (HP3.out _).mono ?_); rintro e wp ⟨rfl, rfl⟩)
            | (go_at_call 27; (with_reducible refine (HP4.out _).mono ?_); rintro e wp ⟨rfl, rfl⟩)
            | (go_at_call 25; (with_reducible refine (HT.out _ N7.out).mono ?_); rintro e w8 ⟨rfl, hb⟩; have H8 := Lib.hid (H7.out.below hb); have A8 := Lib.hid (A7.out.trans (hb.mono A7.out.size)); have N8 := Lib.hid ((N7.out.below hb (Nat.le_refl _)).more hb.size); clear hb; obtain ⟨g0, g1, g2, g3, g4, g5⟩ := H8.out.six)
            | (go_at_call 16; (with_reducible refine (HC2.out _ N8.out).mono ?_); rintro e w9 ⟨rfl, hb⟩; have H9 := Lib.hid (H8.out.below hb); have A9 := Lib.hid (A8.out.trans (hb.mono A8.out.size)); have N9 := Lib.hid ((N8.out.below hb (Nat.le_refl _)).more hb.size); clear hb; obtain ⟨h0, h1, h2, h3, h4, h5⟩ := H9.out.six)
            | (go_at_call 18; (with_reducible refine (HSM.out _ N9.out).mono ?_); rintro e w10 ⟨rfl, hb⟩; have A10 := Lib.hid (A9.out.trans (hb.mono A9.out.size)); clear hb))
          go_ret
          exact ⟨rfl, A10.out⟩
        have tv1 : decide (0 ≤ tv) = false := HTG.out.trans (decide_eq_false (by omega))
        have tv0 : tv < 0 := by have := of_decide_eq_false tv1; omega
        have f25 : (op == 25) = false := by simpa using j25
        have f26 : (op == 26) = false := by simpa using j26
        have f27 : (op == 27) = false := by simpa using j27
        clear j25 j26 j27 hop
        · clear HTG
          go_wp2_with (first
            | (go_at_call 27; (with_reducible refine (HP3.out _).mono ?_); rintro e wp ⟨rfl, rfl⟩)
            | (go_at_call 27; (with_reducible refine (HP4.out _).mono ?_); rintro e wp ⟨rfl, rfl⟩)
            | (go_at_call 25; (with_reducible refine (HT.out _ N7.out).mono ?_); rintro e w8 ⟨rfl, hb⟩; have H8 := Lib.hid (H7.out.below hb); have A8 := Lib.hid (A7.out.trans (hb.mono A7.out.size)); have N8 := Lib.hid ((N7.out.below hb (Nat.le_refl _)).more hb.size); clear hb; obtain ⟨g0, g1, g2, g3, g4, g5⟩ := H8.out.six)
            | (go_at_call 16; (with_reducible refine (HC2.out _ N8.out).mono ?_); rintro e w9 ⟨rfl, hb⟩; have H9 := Lib.hid (H8.out.below hb); have A9 := Lib.hid (A8.out.trans (hb.mono A8.out.size)); have N9 := Lib.hid ((N8.out.below hb (Nat.le_refl _)).more hb.size); clear hb; obtain ⟨h0, h1, h2, h3, h4, h5⟩ := H9.out.six)
            | (go_at_call 18; (with_reducible refine (HSM.out _ N9.out).mono ?_); rintro e w10 ⟨rfl, hb⟩; have A10 := Lib.hid (A9.out.trans (hb.mono A9.out.size)); clear hb))
          go_ret
          exact ⟨rfl, A10.out⟩
  · go_enter Try.func7, Try.ntmps7
    go_wp2_with (first
      | (go_at_call 8; (with_reducible refine (HA.out _).mono ?_); rintro e w1 ⟨rfl, hb⟩; have H1 := Lib.hid (H0.out.below hb); have A1 := Lib.hid (A0.out.trans (hb.mono A0.out.size)); have N1 := Lib.hid ((N0.out.below hb (Nat.le_refl _)).more hb.size); clear hb; obtain ⟨k0, k1, k2, k3, k4, k5⟩ := H1.out.six)
      | (go_at_call 27; (with_reducible refine (HP1.out _).mono ?_); rintro e wp ⟨rfl, rfl⟩)
      | (go_at_call 27; (with_reducible refine (HP2.out _).mono ?_); rintro e wp ⟨rfl, rfl⟩)
      | (go_at_call 16; (with_reducible refine (HC.out _ N1.out).mono ?_); rintro e w2 ⟨rfl, hb⟩; have H2 := Lib.hid (H1.out.below hb); have A2 := Lib.hid (A1.out.trans (hb.mono A1.out.size)); have N2 := Lib.hid ((N1.out.below hb (Nat.le_refl _)).more hb.size); clear hb; obtain ⟨l0, l1, l2, l3, l4, l5⟩ := (H2.out.alloc (.cells #[] 3)).six)
      | (go_at_call 23; (with_reducible refine (HR.out _ (nums_alloc N2.out)).mono ?_); rintro e w3 ⟨v, rfl, hv, hb⟩; have H3 := Lib.hid ((H2.out.alloc (.cells #[] 3)).below hb); have C2 := Lib.hid (below_alloc2 hb); have A3 := Lib.hid (A2.out.trans (C2.out.mono A2.out.size)); have N3 := Lib.hid ((N2.out.below C2.out (Nat.le_refl _)).more C2.out.size); have NV := Lib.hid (reads_nums (w' := w3) hv (Nat.le_refl _)); have O3 := Lib.hid ((Owns.made w2 w2.heap.size 3 1 (IsNum .i64) (Nat.le_refl _)).below hb (Nat.le_refl _)); clear hb hv; obtain ⟨p0, p1, p2, p3, p4, p5⟩ := H3.out.six)
      | (at_builtin; refine wpList_out rfl (.tmp 32) (.tmp 34) 26 rfl _ _ rfl rfl _ (append_nums w3 w2.heap.size 26 _ 3 i0 Try.underlying26 HI.out HZ0.out HZ1.out HZ2.out _ [] rs O3.out w3.heap.size v NV.out (by simp; omega) C2.out.size) ?_; intro V w4 hV; have C4 := Lib.hid ((Below.refl w2.heap.size w3).grown hV.2 C2.out.size (fun g hg => (O3.out.lt hg).1)); have O4 := Lib.hid hV.1; have H4 := Lib.hid (H3.out.old C4.out H2.out.lt); have A4 := Lib.hid (A3.out.trans (C4.out.mono A2.out.size)); have N4 := Lib.hid ((N2.out.below (C2.out.trans C4.out) (Nat.le_refl _)).more (Nat.le_trans C2.out.size C4.out.size)); clear hV; obtain ⟨q0, q1, q2, q3, q4, q5⟩ := H4.out.six)
      | (go_at_call 24; (with_reducible refine (HW1.out _ N4.out).mono ?_); clear HW1; rintro e w5 ⟨rfl, hb⟩; have H5 := Lib.hid (H4.out.below hb); have A5 := Lib.hid (A4.out.trans (hb.mono A4.out.size)); have N5 := Lib.hid ((N4.out.below hb (Nat.le_refl _)).more hb.size); have O5 := Lib.hid (O4.out.below hb (Nat.le_refl _)); have E5 := Lib.hid ((C2.out.trans C4.out).trans (hb.mono (Nat.le_trans C2.out.size C4.out.size))); have G5 := Lib.hid (Nat.le_trans (Nat.le_trans C2.out.size C4.out.size) hb.size); clear hb; obtain ⟨t0, t1, t2, t3, t4, t5⟩ := H5.out.six))
    have hY0 : IsNums .i64 w5 w5.heap.size V ([] ++ rs) := IsNums.of_owns O5.out (Nat.le_refl _)
    obtain ⟨ys, hys⟩ : ∃ ys, ys = [] ++ rs := ⟨_, rfl⟩
    have hyr : ∀ x ∈ ys, 0 ≤ x ∧ x < r := by
      intro x hx
      rw [hys] at hx
      exact HRW.out x (by simpa using hx)
    rw [← hys] at hY0
    obtain ⟨A', Cp, hVe⟩ := hY0.len
    subst hVe
    have hym := hY0.1
    unfold maxLen at hym
    have HY := Lib.hid hY0
    have HYR := Lib.hid hyr
    obtain ⟨len, hlen⟩ : ∃ len, len = ys.length := ⟨_, rfl⟩
    have HLn := Lib.hid hlen
    rw [← hlen] at hym ⊢
    clear hY0 hlen hys hyr
    go_loop [13] (fun i => ∃ k : Nat, k ≤ len ∧ i = .int .i64 k) (fun i => len - (intOf i).toNat)
    case atStart => exact ⟨0, Nat.zero_le _, rfl⟩
    case round =>
      obtain ⟨k, hk, rfl⟩ := hrel
      by_cases hlt : k < len
      · obtain ⟨b', o', cp', he, hlc, _, hcs⟩ := HY.out.plain (by have := HLn.out; omega)
        have hcl := hcs k (by have := HLn.out; omega)
        cases he
        obtain ⟨x, hx⟩ : ∃ x, x = ys.getD k 0 := ⟨_, rfl⟩
        rw [← hx] at hcl
        have hxr : 0 ≤ x ∧ x < r := by
          refine HYR.out x ?_
          have hk' : k < ys.length := by have := HLn.out; omega
          rw [hx]
          simp only [List.getD, List.getElem?_eq_getElem hk', Option.getD_some]
          exact List.getElem_mem _
        obtain ⟨x0, x1⟩ := hxr
        have k0 : (0 : Int) ≤ (k : Int) := by omega
        rw [← HLn.out] at hlc
        clear hcs hx
        go_wp2
        go_round
        case rel => exact ⟨k + 1, by omega, by go_num⟩
        case measure => simp [intOf]; omega
      · obtain rfl : k = len := by omega
        clear hlt hk
        by_cases j25 : op = 25
        · subst j25
          have tv0 : 0 ≤ tv := of_decide_eq_true (HTG.out.trans rfl)
          clear hop
          go_wp2_with (first
            | (go_at_call 27; (with_reducible refine (HP3.out _).mono ?_); rintro e wp ⟨rfl, rfl⟩)
            | (go_at_call 27; (with_reducible refine (HP4.out _).mono ?_); rintro e wp ⟨rfl, rfl⟩)
            | (go_at_call 25; (with_reducible refine (HT.out _ N5.out).mono ?_); rintro e w8 ⟨rfl, hb⟩; have H8 := Lib.hid (H5.out.below hb); have A8 := Lib.hid (A5.out.trans (hb.mono A5.out.size)); have N8 := Lib.hid ((N5.out.below hb (Nat.le_refl _)).more hb.size); clear hb; obtain ⟨g0, g1, g2, g3, g4, g5⟩ := H8.out.six)
            | (go_at_call 16; (with_reducible refine (HC2.out _ N8.out).mono ?_); rintro e w9 ⟨rfl, hb⟩; have H9 := Lib.hid (H8.out.below hb); have A9 := Lib.hid (A8.out.trans (hb.mono A8.out.size)); have N9 := Lib.hid ((N8.out.below hb (Nat.le_refl _)).more hb.size); clear hb; obtain ⟨h0, h1, h2, h3, h4, h5⟩ := H9.out.six)
            | (go_at_call 18; (with_reducible refine (HSM.out _ N9.out).mono ?_); rintro e w10 ⟨rfl, hb⟩; have A10 := Lib.hid (A9.out.trans (hb.mono A9.out.size)); clear hb))
          go_ret
          exact ⟨rfl, A10.out⟩
        by_cases j26 : op = 26
        · subst j26
          have tv0 : 0 ≤ tv := of_decide_eq_true (HTG.out.trans rfl)
          clear hop
          go_wp2_with (first
            | (go_at_call 27; (with_reducible refine (HP3.out _).mono ?_); rintro e wp ⟨rfl, rfl⟩)
            | (go_at_call 27; (with_reducible refine (HP4.out _).mono ?_); rintro e wp ⟨rfl, rfl⟩)
            | (go_at_call 25; (with_reducible refine (HT.out _ N5.out).mono ?_); rintro e w8 ⟨rfl, hb⟩; have H8 := Lib.hid (H5.out.below hb); have A8 := Lib.hid (A5.out.trans (hb.mono A5.out.size)); have N8 := Lib.hid ((N5.out.below hb (Nat.le_refl _)).more hb.size); clear hb; obtain ⟨g0, g1, g2, g3, g4, g5⟩ := H8.out.six)
            | (go_at_call 16; (with_reducible refine (HC2.out _ N8.out).mono ?_); rintro e w9 ⟨rfl, hb⟩; have H9 := Lib.hid (H8.out.below hb); have A9 := Lib.hid (A8.out.trans (hb.mono A8.out.size)); have N9 := Lib.hid ((N8.out.below hb (Nat.le_refl _)).more hb.size); clear hb; obtain ⟨h0, h1, h2, h3, h4, h5⟩ := H9.out.six)
            | (go_at_call 18; (with_reducible refine (HSM.out _ N9.out).mono ?_); rintro e w10 ⟨rfl, hb⟩; have A10 := Lib.hid (A9.out.trans (hb.mono A9.out.size)); clear hb))
          go_ret
          exact ⟨rfl, A10.out⟩
        by_cases j27 : op = 27
        · subst j27
          have tv0 : 0 ≤ tv := of_decide_eq_true (HTG.out.trans rfl)
          clear hop
          go_wp2_with (first
            | (go_at_call 27; (with_reducible refine (HP3.out _).mono ?_); rintro e wp ⟨rfl, rfl⟩)
            | (go_at_call 27; (with_reducible refine (HP4.out _).mono ?_); rintro e wp ⟨rfl, rfl⟩)
            | (go_at_call 25; (with_reducible refine (HT.out _ N5.out).mono ?_); rintro e w8 ⟨rfl, hb⟩; have H8 := Lib.hid (H5.out.below hb); have A8 := Lib.hid (A5.out.trans (hb.mono A5.out.size)); have N8 := Lib.hid ((N5.out.below hb (Nat.le_refl _)).more hb.size); clear hb; obtain ⟨g0, g1, g2, g3, g4, g5⟩ := H8.out.six)
            | (go_at_call 16; (with_reducible refine (HC2.out _ N8.out).mono ?_); rintro e w9 ⟨rfl, hb⟩; have H9 := Lib.hid (H8.out.below hb); have A9 := Lib.hid (A8.out.trans (hb.mono A8.out.size)); have N9 := Lib.hid ((N8.out.below hb (Nat.le_refl _)).more hb.size); clear hb; obtain ⟨h0, h1, h2, h3, h4, h5⟩ := H9.out.six)
            | (go_at_call 18; (with_reducible refine (HSM.out _ N9.out).mono ?_); rintro e w10 ⟨rfl, hb⟩; have A10 := Lib.hid (A9.out.trans (hb.mono A9.out.size)); clear hb))
          go_ret
          exact ⟨rfl, A10.out⟩
        have tv1 : decide (0 ≤ tv) = false := HTG.out.trans (decide_eq_false (by omega))
        have tv0 : tv < 0 := by have := of_decide_eq_false tv1; omega
        have f25 : (op == 25) = false := by simpa using j25
        have f26 : (op == 26) = false := by simpa using j26
        have f27 : (op == 27) = false := by simpa using j27
        clear j25 j26 j27 hop
        · clear HTG
          go_wp2_with (first
            | (go_at_call 27; (with_reducible refine (HP3.out _).mono ?_); rintro e wp ⟨rfl, rfl⟩)
            | (go_at_call 27; (with_reducible refine (HP4.out _).mono ?_); rintro e wp ⟨rfl, rfl⟩)
            | (go_at_call 25; (with_reducible refine (HT.out _ N5.out).mono ?_); rintro e w8 ⟨rfl, hb⟩; have H8 := Lib.hid (H5.out.below hb); have A8 := Lib.hid (A5.out.trans (hb.mono A5.out.size)); have N8 := Lib.hid ((N5.out.below hb (Nat.le_refl _)).more hb.size); clear hb; obtain ⟨g0, g1, g2, g3, g4, g5⟩ := H8.out.six)
            | (go_at_call 16; (with_reducible refine (HC2.out _ N8.out).mono ?_); rintro e w9 ⟨rfl, hb⟩; have H9 := Lib.hid (H8.out.below hb); have A9 := Lib.hid (A8.out.trans (hb.mono A8.out.size)); have N9 := Lib.hid ((N8.out.below hb (Nat.le_refl _)).more hb.size); clear hb; obtain ⟨h0, h1, h2, h3, h4, h5⟩ := H9.out.six)
            | (go_at_call 18; (with_reducible refine (HSM.out _ N9.out).mono ?_); rintro e w10 ⟨rfl, hb⟩; have A10 := Lib.hid (A9.out.trans (hb.mono A9.out.size)); clear hb))
          go_ret
          exact ⟨rfl, A10.out⟩

end Go.Proofs.Ytbcfdjpnckikdaa
