/- What is put is read as it was, and what is read is put as it was: plain mathematics. -/
import Derived.Test.YtobbjphpngckgaaMath07
namespace Go.Proofs.Ytobbjphpngckgaa
set_option linter.unusedVariables false
set_option linter.unusedSimpArgs false

/-- Does a number go into a letter's field? -/
def FitQ (q x : Int) : Prop := if q = 105 then -9223372036854775808 ≤ x ∧ x < 9223372036854775808 else 0 ≤ x ∧ x < 256 ^ widthV q
theorem fit_of {q x : Int} (hq : q ∈ ([119, 114, 108, 107, 109, 122, 102, 100, 116, 99, 105] : List Int)) (h : fitB 64 4096 (q, x) = true) : FitQ q x := by
  unfold fitB at h
  rw [Bool.and_eq_true] at h
  have h1 := of_decide_eq_true h.1
  simp only [List.mem_cons, List.not_mem_nil, or_false] at hq
  unfold FitQ
  rcases hq with rfl | rfl | rfl | rfl | rfl | rfl | rfl | rfl | rfl | rfl | rfl <;> simp [limV] at h1 <;> simp [widthV] <;> omega
theorem drop_parts {b xs post : List Int} {p : Nat} (h : b.drop p = xs ++ post) (hx : 0 < xs.length) : p + xs.length ≤ b.length ∧ (b.drop p).take xs.length = xs ∧ b.drop (p + xs.length) = post := by
  have hl := congrArg List.length h
  simp only [List.length_drop, List.length_append] at hl
  refine ⟨by omega, by rw [h, List.take_left], ?_⟩
  rw [← List.drop_drop, h, List.drop_left]
theorem drop_first {b xs : List Int} {p : Nat} {x : Int} (h : b.drop p = x :: xs) : b.getD p 0 = x := by
  have h1 := congrArg (fun l => l[0]?) h
  simp only [List.getElem?_drop, Nat.add_zero, List.getElem?_cons_zero] at h1
  simp [List.getD, h1]
def advQ (n : Int) (args : List Int) (q : Int) (rs : List Int) (s : RdV) : RdV :=
  ⟨s.pos + (heldB n args q rs).length, if isReg q then s.rs ++ [rs.headD 0] else s.rs, if isNumQ q then n else s.n, if q = 108 then args else s.args⟩
theorem mod_fit {q x : Int} (h : FitQ q x) : wrapI (numV (bytesV x (widthV q))) = x ∧ (q ≠ 105 → numV (bytesV x (widthV q)) = x) := by
  rw [numV_bytesV]
  unfold FitQ at h
  by_cases hq : q = 105
  · subst hq
    rw [if_pos rfl] at h
    refine ⟨?_, fun h => absurd rfl h⟩
    show IntKind.i64.wrap (x % 18446744073709551616) = x
    rw [IntKind.wrap_i64]
    omega
  · rw [if_neg hq] at h
    rw [Int.emod_eq_of_lt h.1 h.2]
    refine ⟨?_, fun _ => rfl⟩
    have hw : (256 : Int) ^ widthV q ≤ 65536 := by
      unfold widthV
      rw [if_neg hq]
      (repeat' split) <;> decide
    show IntKind.i64.wrap x = x
    rw [IntKind.wrap_i64]
    omega
theorem read_putQ {n q : Int} {args rs b post : List Int} {s : RdV} (hq : q ∈ ([119, 114, 108, 107, 109, 122, 102, 100, 116, 99, 105] : List Int)) (hf : ∀ x ∈ heldOf n args q rs, FitQ q x) (h8 : args.length ≤ 8)
    (h : b.drop s.pos = heldB n args q rs ++ post) : readQ b q s = (0, advQ n args q rs s) := by
  obtain ⟨h1, h2, h3⟩ := drop_parts h (by have := (heldB_len (n := n) (args := args) (q := q) (rs := rs)).1; omega)
  unfold readQ advQ
  by_cases hc : q = 108
  · subst hc
    have e0 : isReg 108 = false := rfl
    have e1 : isNumQ 108 = false := rfl
    have eh : heldB n args 108 rs = (args.length : Int) :: args := by
      unfold heldB
      rw [if_neg (by simp [e0]), if_pos rfl, bytesV_one, args_bytes, Int.emod_eq_of_lt (by omega) (by omega)]
      have : args.map (· % 256) = args := by
        conv => rhs; rw [← List.map_id args]
        apply List.map_congr_left
        intro x hx
        have := hf x (by unfold heldOf; rw [if_neg (by simp [e0]), if_pos rfl]; exact hx)
        unfold FitQ at this
        rw [if_neg (by decide)] at this
        exact Int.emod_eq_of_lt this.1 this.2
      rw [this]
      rfl
    rw [eh] at h h1 h2 h3 ⊢
    simp only [List.length_cons] at h1
    have hg : b.getD s.pos 0 = (args.length : Int) := drop_first h
    have hd : b.drop (s.pos + 1) = args ++ post := by
      rw [← List.drop_drop, h]
      rfl
    simp only [if_true, hg, Int.toNat_natCast, e0, e1]
    rw [if_neg (by omega), if_neg (by omega), if_neg (by omega), hd, List.take_left]
    simp
    omega
  · rw [if_neg hc]
    have hw := width_le q
    by_cases hr : isReg q = true
    · have e1 : isNumQ q = false := by simp [isNumQ, hr]
      have eh : heldB n args q rs = bytesV (rs.headD 0) (widthV q) := by
        unfold heldB
        rw [if_pos hr, reg_width hr]
      rw [eh] at h h1 h2 h3 ⊢
      rw [bytesV_len] at h1 h2 h3 ⊢
      rw [if_neg (by omega), if_pos hr, h2]
      have hx := (mod_fit (hf (rs.headD 0) (by unfold heldOf; rw [if_pos hr]; simp))).2 (by rintro rfl; simp [isReg] at hr)
      rw [hx]
      simp [hr, e1, hc]
    · have e1 : isNumQ q = true := by simp [isNumQ, hr, hc]
      have eh : heldB n args q rs = bytesV n (widthV q) := by
        unfold heldB
        rw [if_neg hr, if_neg hc]
      rw [eh] at h h1 h2 h3 ⊢
      rw [bytesV_len] at h1 h2 h3 ⊢
      rw [if_neg (by omega), if_neg hr, h2]
      have hx := (mod_fit (hf n (by unfold heldOf; rw [if_neg hr, if_neg hc]; simp))).1
      simp [hx, hr, e1, hc]
theorem read_putL {n : Int} {args b post : List Int} (h8 : args.length ≤ 8) : ∀ {L rs : List Int} {s : RdV}, (∀ q ∈ L, q ∈ ([119, 114, 108, 107, 109, 122, 102, 100, 116, 99, 105] : List Int)) → (∀ p ∈ itemsL n args L rs, FitQ p.1 p.2) → regN L ≤ rs.length →
    b.drop s.pos = putL n args L rs ++ post → s.pos ≤ b.length →
    readL b L s = (0, ⟨s.pos + (putL n args L rs).length, s.rs ++ rs.take (regN L), if hasN L then n else s.n, if conL L then args else s.args⟩)
  | [], rs, s, _, _, _, _, _ => by simp [readL, putL, regN, hasN, conL]
  | q :: L, rs, s, hm, hf, hr, h, hp => by
    have hb : b.drop s.pos = heldB n args q rs ++ (putL n args L (restOf q rs) ++ post) := by rw [h]; simp [putL]
    have hQ := read_putQ (hm q (by simp)) (fun x hx => hf (q, x) (by simp only [itemsL, List.mem_append, List.mem_map]; exact .inl ⟨x, hx, rfl⟩)) h8 hb
    obtain ⟨h1, h2, h3⟩ := drop_parts hb (by have := (heldB_len (n := n) (args := args) (q := q) (rs := rs)).1; omega)
    have hrn : regN L ≤ (restOf q rs).length := by
      unfold restOf
      simp only [regN] at hr
      split
      · rename_i hq; simp only [hq, if_true] at hr; simp; omega
      · rename_i hq; simp only [hq] at hr; simpa using hr
    have hL := read_putL (n := n) (args := args) (b := b) (post := post) h8 (L := L) (rs := restOf q rs) (s := advQ n args q rs s) (fun q hq => hm q (by simp [hq])) (fun p hp => hf p (by simp only [itemsL, List.mem_append]; exact .inr hp)) hrn (by exact h3) (by exact h1)
    simp only [readL, hQ, if_true, hL]
    unfold advQ
    simp only [putL, List.length_append, Nat.add_assoc, Prod.mk.injEq, RdV.mk.injEq, true_and]
    have eN : hasN (q :: L) = (isNumQ q || hasN L) := by simp [hasN, isNumQ]
    have eC : conL (q :: L) = ((q == 108) || conL L) := by simp [conL]
    rw [eN, eC]
    refine ⟨?_, ?_, ?_⟩
    · unfold restOf
      simp only [regN] at hr ⊢
      split
      · rename_i hq
        simp only [hq, if_true] at hr
        match rs, hr with
        | [], hr => simp at hr
        | r :: rs, hr => simp [Nat.add_comm 1]
      · simp
    · cases hasN L <;> simp
    · cases conL L <;> simp
/-- What an instruction is that can be put. -/
structure OkI (y : InsV) : Prop where
  op : 0 ≤ y.op ∧ y.op < 33
  bare : bareV y.letters y.a y.b y.c y.n y.args = true
  args : y.args.length ≤ 8
  fit : ∀ p ∈ itemsL y.n y.args y.letters [y.a, y.b, y.c], FitQ p.1 p.2
theorem items_mem {n : Int} {args : List Int} : ∀ {L rs : List Int} {p : Int × Int}, p ∈ itemsL n args L rs → p.1 ∈ L
  | [], rs, p, h => by simp [itemsL] at h
  | q :: L, rs, p, h => by
    simp only [itemsL, List.mem_append, List.mem_map] at h
    rcases h with ⟨x, _, rfl⟩ | h
    · simp
    · exact List.mem_cons_of_mem _ (items_mem h)
theorem chk_ok {y : InsV} (h : y.chk = 0) : OkI y := by
  unfold InsV.chk checkV at h
  by_cases h1 : ¬ (0 ≤ y.op ∧ y.op < 33)
  · rw [if_pos h1] at h; omega
  rw [if_neg h1, if_neg (by omega)] at h
  by_cases h2 : bareV (lettersOf (shapeI y.op)) y.a y.b y.c y.n y.args = false
  · rw [if_pos h2] at h; omega
  rw [if_neg h2] at h
  by_cases h3 : 8 < y.args.length
  · rw [if_pos h3] at h; omega
  rw [if_neg h3] at h
  by_cases h4 : (itemsOf (shapeI y.op) y.a y.b y.c y.n y.args).all (fitB 64 4096) = false
  · rw [if_pos h4] at h; omega
  refine ⟨by omega, by simpa [InsV.letters] using h2, by omega, fun p hp => ?_⟩
  have h5 : (itemsOf (shapeI y.op) y.a y.b y.c y.n y.args).all (fitB 64 4096) = true := by simpa using h4
  have h6 := List.all_eq_true.1 h5 p hp
  exact fit_of ((goodL_of y.op).mem _ (items_mem hp)) h6
theorem readL_kinds (b : List Int) : ∀ (L : List Int) (s : RdV), (readL b L s).1 = 0 ∨ (readL b L s).1 = 3 ∨ (readL b L s).1 = 4
  | [], s => .inl rfl
  | q :: L, s => by
    simp only [readL]
    split
    · exact readL_kinds b L _
    · unfold readQ
      (repeat' split) <;> simp
theorem op_bytes {op : Int} (h : 0 ≤ op ∧ op < 33) : bytesV op 1 = [op] := by rw [bytesV_one, Int.emod_eq_of_lt h.1 (by omega)]
/-- What is put is got. -/
theorem get_put {y : InsV} (h : y.chk = 0) {b post : List Int} {k : Nat} (hb : b.drop k = y.bytes ++ post) : getI b k = ⟨0, 0, y, k + y.bytes.length⟩ := by
  have ho := chk_ok h
  have hbb : b.drop k = y.op :: (putL y.n y.args y.letters [y.a, y.b, y.c] ++ post) := by rw [hb]; unfold InsV.bytes; rw [op_bytes ho.op]; rfl
  obtain ⟨h1, h2, h3⟩ := drop_parts (xs := [y.op]) hbb (by simp)
  have hg := drop_first hbb
  simp only [List.length_cons, List.length_nil, Nat.zero_add] at h1 h3
  have hr3 := okShape_reg (shapes_ok y.op)
  have hL := read_putL (n := y.n) (b := b) (post := post) ho.args (L := y.letters) (rs := [y.a, y.b, y.c]) (s := startV k) (fun q hq => (goodL_of y.op).mem q hq) ho.fit (by simpa [InsV.letters] using hr3) (by exact h3) (by exact h1)
  have hi : insOf y.op ⟨(startV k).pos + (putL y.n y.args y.letters [y.a, y.b, y.c]).length, (startV k).rs ++ [y.a, y.b, y.c].take (regN y.letters), if hasN y.letters then y.n else (startV k).n, if conL y.letters then y.args else (startV k).args⟩ = y := by
    have hbare := ho.bare
    unfold bareV at hbare
    rw [Bool.and_eq_true, Bool.and_eq_true] at hbare
    obtain ⟨b1, b2, b3⟩ := hbare
    obtain ⟨op, a, b', c, n, args⟩ := y
    unfold insOf startV
    simp only [List.nil_append, InsV.mk.injEq, true_and]
    have hr3' : regN (InsV.letters ⟨op, a, b', c, n, args⟩) ≤ 3 := by simpa [InsV.letters] using hr3
    generalize InsV.letters ⟨op, a, b', c, n, args⟩ = L at *
    refine ⟨?_, ?_, ?_, ?_, ?_⟩
    · rcases (show regN L = 0 ∨ regN L = 1 ∨ regN L = 2 ∨ regN L = 3 by omega) with e | e | e | e <;> simp [e] at b1 ⊢
      exact b1.1.symm
    · rcases (show regN L = 0 ∨ regN L = 1 ∨ regN L = 2 ∨ regN L = 3 by omega) with e | e | e | e <;> simp [e] at b1 ⊢
      · exact b1.2.1.symm
      · exact b1.1.symm
    · rcases (show regN L = 0 ∨ regN L = 1 ∨ regN L = 2 ∨ regN L = 3 by omega) with e | e | e | e <;> simp [e] at b1 ⊢
      · exact b1.2.2.symm
      · exact b1.2.symm
      · exact b1.symm
    · cases hn : hasN L
      · simp [hn] at b2; simp [b2]
      · simp
    · cases hn : conL L
      · simp [hn] at b3; simp [b3]
      · simp
  have eN : (startV k).pos + (putL y.n y.args y.letters [y.a, y.b, y.c]).length = k + y.bytes.length := by
    unfold InsV.bytes startV
    rw [op_bytes ho.op]
    simp
    omega
  unfold getI
  have hop1 := ho.op.1
  have hop2 := ho.op.2
  rw [if_neg (by omega), hg, if_neg (by omega)]
  have hL' : readL b (lettersOf (shapeI y.op)) (startV k) = _ := hL
  rw [hL', if_neg (by simp), if_neg (by simp)]
  simp only [hi]
  rw [if_neg (by simp [h]), eN]
theorem take_parts {b : List Int} {p p1 p2 : Nat} (h1 : p ≤ p1) (h2 : p1 ≤ p2) : (b.drop p).take (p1 - p) ++ (b.drop p1).take (p2 - p1) = (b.drop p).take (p2 - p) := by
  have e : p2 - p = (p1 - p) + (p2 - p1) := by omega
  rw [e, List.take_add, List.drop_drop]
  congr 3
  omega
theorem part_len {b : List Int} {p k : Nat} (h : p + k ≤ b.length) : ((b.drop p).take k).length = k := by simp; omega
theorem getD_mem {b : List Int} {p : Nat} (h : p < b.length) : b.getD p 0 ∈ b := by
  simp [List.getD, List.getElem?_eq_getElem h]
theorem getD_cons {b : List Int} {p : Nat} (h : p < b.length) (k : Nat) : (b.drop p).take (k + 1) = b.getD p 0 :: (b.drop (p + 1)).take k := by
  rw [drop_cons' h]
  rfl
theorem bytesV_mod (a : Int) : bytesV (a % 18446744073709551616) 8 = bytesV a 8 := by
  have h1 : ∀ k : Nat, k < 8 → byteV (a % 18446744073709551616) k = byteV a k := by
    intro k hk
    unfold byteV
    rcases (show k = 0 ∨ k = 1 ∨ k = 2 ∨ k = 3 ∨ k = 4 ∨ k = 5 ∨ k = 6 ∨ k = 7 by omega) with rfl | rfl | rfl | rfl | rfl | rfl | rfl | rfl <;> simp only [Int.reducePow, Int.pow_zero, Int.ediv_one] <;> omega
  unfold bytesV
  apply List.map_congr_left
  intro k hk
  exact h1 k (List.mem_range.1 hk)
theorem bytesV_wrap {x : Int} (h : 0 ≤ x) (h' : x < 18446744073709551616) {k : Nat} (hk : sizedB k = true) : bytesV (wrapI x) k = bytesV x k := by
  have e : wrapI x % 18446744073709551616 = x % 18446744073709551616 := by
    show IntKind.i64.wrap x % _ = _
    rw [IntKind.wrap_i64]
    omega
  have e8 : bytesV (wrapI x) 8 = bytesV x 8 := by rw [← bytesV_mod (wrapI x), e, bytesV_mod]
  have hk8 : k ≤ 8 := by rcases sized_cases hk with h | h | h | h <;> omega
  have ht : ∀ a : Int, bytesV a k = (bytesV a 8).take k := by
    intro a
    unfold bytesV
    rw [← List.map_take, List.take_range, Nat.min_eq_left hk8]
  rw [ht, ht, e8]
theorem put_readQ {b : List Int} (hb : ∀ x ∈ b, 0 ≤ x ∧ x < 256) {q : Int} {s s' : RdV} (h : readQ b q s = (0, s')) :
    ∃ new, s'.rs = s.rs ++ new ∧ new.length = (if isReg q then 1 else 0) ∧ (∀ more, heldB s'.n s'.args q (new ++ more) = (b.drop s.pos).take (s'.pos - s.pos)) ∧ (isNumQ q = false → s'.n = s.n) ∧ (q ≠ 108 → s'.args = s.args) ∧ s.pos < s'.pos ∧ s'.pos ≤ b.length := by
  unfold readQ at h
  have hw := width_le q
  by_cases hc : q = 108
  · subst hc
    rw [if_pos rfl] at h
    by_cases g1 : b.length < s.pos + 1
    · rw [if_pos g1] at h; simp at h
    rw [if_neg g1] at h
    by_cases g2 : 8 < b.getD s.pos 0
    · rw [if_pos g2] at h; simp at h
    rw [if_neg g2] at h
    by_cases g3 : b.length < s.pos + 1 + (b.getD s.pos 0).toNat
    · rw [if_pos g3] at h; simp at h
    rw [if_neg g3] at h
    injection h with _ h
    subst h
    have hx := hb _ (getD_mem (show s.pos < b.length by omega))
    refine ⟨[], by simp, by simp [isReg], fun more => ?_, fun _ => rfl, fun h => absurd rfl h, ?_, ?_⟩
    rotate_left
    · show s.pos < s.pos + 1 + (b.getD s.pos 0).toNat
      omega
    · show s.pos + 1 + (b.getD s.pos 0).toNat ≤ b.length
      omega
    unfold heldB
    rw [if_neg (by simp [isReg]), if_pos rfl, bytesV_one, args_bytes]
    simp only
    rw [part_len (by omega)]
    have e : s.pos + 1 + (b.getD s.pos 0).toNat - s.pos = (b.getD s.pos 0).toNat + 1 := by omega
    rw [e, getD_cons (by omega)]
    have hm : ((b.drop (s.pos + 1)).take (b.getD s.pos 0).toNat).map (· % 256) = (b.drop (s.pos + 1)).take (b.getD s.pos 0).toNat := by
      conv => rhs; rw [← List.map_id ((b.drop (s.pos + 1)).take (b.getD s.pos 0).toNat)]
      apply List.map_congr_left
      intro x hx
      have := hb x (List.mem_of_mem_drop (List.mem_of_mem_take hx))
      exact Int.emod_eq_of_lt this.1 this.2
    rw [hm]
    have : ((b.getD s.pos 0).toNat : Int) % 256 = b.getD s.pos 0 := by omega
    rw [this]
    rfl
  · rw [if_neg hc] at h
    by_cases g1 : b.length < s.pos + widthV q
    · rw [if_pos g1] at h; simp at h
    rw [if_neg g1] at h
    have hpb : ∀ x ∈ (b.drop s.pos).take (widthV q), 0 ≤ x ∧ x < 256 := fun x hx => hb x (List.mem_of_mem_drop (List.mem_of_mem_take hx))
    have hpl : ((b.drop s.pos).take (widthV q)).length = widthV q := part_len (by omega)
    have hback := bytesV_numV _ hpb
    rw [hpl] at hback
    by_cases hr : isReg q = true
    · rw [if_pos hr] at h
      injection h with _ h
      subst h
      refine ⟨[numV ((b.drop s.pos).take (widthV q))], rfl, by simp [hr], fun more => ?_, fun _ => rfl, fun _ => rfl, by simp; omega, by simp; omega⟩
      unfold heldB
      rw [if_pos hr]
      rw [reg_width hr] at hback ⊢
      simpa using hback
    · rw [if_neg hr] at h
      injection h with _ h
      subst h
      have e1 : isNumQ q = true := by simp [isNumQ, hr, hc]
      refine ⟨[], by simp, by simp [hr], fun more => ?_, fun h => absurd (e1.symm.trans h) (by decide), fun _ => rfl, by simp; omega, by simp; omega⟩
      unfold heldB
      rw [if_neg hr, if_neg hc]
      have hbd := numV_bd hpb
      rw [hpl] at hbd
      have h64 := pow_le_64 hw.2
      rw [bytesV_wrap hbd.1 (by omega) (width_sized q)]
      simpa using hback
theorem put_readL {b : List Int} (hb : ∀ x ∈ b, 0 ≤ x ∧ x < 256) : ∀ {L : List Int} {s s' : RdV}, GoodL L → s.pos ≤ b.length → readL b L s = (0, s') →
    ∃ new, s'.rs = s.rs ++ new ∧ new.length = regN L ∧ (∀ more, putL s'.n s'.args L (new ++ more) = (b.drop s.pos).take (s'.pos - s.pos)) ∧ (hasN L = false → s'.n = s.n) ∧ (conL L = false → s'.args = s.args) ∧ s.pos ≤ s'.pos ∧ s'.pos ≤ b.length
  | [], s, s', _, hp, h => by
    simp only [readL] at h
    injection h with _ h
    subst h
    exact ⟨[], by simp, rfl, fun more => by simp [putL], fun _ => rfl, fun _ => rfl, Nat.le_refl _, hp⟩
  | q :: L, s, s', hg, hp, h => by
    simp only [readL] at h
    by_cases h0 : (readQ b q s).1 = 0
    · rw [if_pos h0] at h
      obtain ⟨n1, a1, a2, a3, a4, a5, a6, a7⟩ := put_readQ hb (q := q) (s := s) (s' := (readQ b q s).2) (by rw [← h0])
      obtain ⟨n2, c1, c2, c3, c4, c5, c6, c7⟩ := put_readL hb hg.tail a7 h
      refine ⟨n1 ++ n2, by rw [c1, a1, List.append_assoc], by simp [a2, c2, regN], fun more => ?_, fun hn => ?_, fun hn => ?_, by omega, c7⟩
      · have e2 : restOf q (n1 ++ n2 ++ more) = n2 ++ more := by
          unfold restOf
          split
          · rename_i hr
            simp only [hr, if_true] at a2
            match n1, a2 with
            | [x], _ => simp
          · rename_i hr
            simp only [hr] at a2
            have : n1 = [] := List.eq_nil_of_length_eq_zero (by simpa using a2)
            subst this
            simp
        have e1 : heldB s'.n s'.args q (n1 ++ n2 ++ more) = (b.drop s.pos).take ((readQ b q s).2.pos - s.pos) := by
          rw [List.append_assoc, ← a3 (n2 ++ more)]
          unfold heldB
          split
          · rfl
          · rename_i hr
            split
            · rename_i hc
              subst hc
              rw [c5 hg.con]
            · rename_i hc
              rw [c4 (hg.hasN (by simp [isNumQ, hr, hc]))]
        show heldB s'.n s'.args q (n1 ++ n2 ++ more) ++ putL s'.n s'.args L (restOf q (n1 ++ n2 ++ more)) = _
        rw [e1, e2, c3 more, take_parts (by omega) c6]
      · have e : hasN (q :: L) = (isNumQ q || hasN L) := by simp [hasN, isNumQ]
        rw [e, Bool.or_eq_false_iff] at hn
        rw [c4 hn.2, a4 hn.1]
      · have e : conL (q :: L) = ((q == 108) || conL L) := by simp [conL]
        rw [e, Bool.or_eq_false_iff] at hn
        rw [c5 hn.2, a5 (by simpa using hn.1)]
    · rw [if_neg h0] at h
      rw [h] at h0
      exact absurd rfl h0
/-- What is got is put as it was. -/
theorem put_get {b : List Int} (hb : ∀ x ∈ b, 0 ≤ x ∧ x < 256) {k : Nat} (hk : k ≤ b.length) (h : (getI b k).err = 0) :
    getI b k = ⟨0, 0, (getI b k).y, (getI b k).next⟩ ∧ (getI b k).y.chk = 0 ∧ (getI b k).y.bytes = (b.drop k).take ((getI b k).next - k) ∧ k < (getI b k).next ∧ (getI b k).next ≤ b.length := by
  have hG : getI b k = getI b k := rfl
  conv at hG => rhs; unfold getI
  by_cases g1 : k = b.length
  · rw [if_pos g1] at hG; rw [hG] at h; simp at h
  rw [if_neg g1] at hG
  by_cases g2 : 33 ≤ b.getD k 0
  · rw [if_pos g2] at hG; rw [hG] at h; simp at h
  rw [if_neg g2] at hG
  have hx := hb _ (getD_mem (show k < b.length by omega))
  obtain ⟨op, hop⟩ : ∃ op, op = b.getD k 0 := ⟨_, rfl⟩
  rw [← hop] at hG g2 hx
  rcases readL_kinds b (lettersOf (shapeI op)) (startV k) with h0 | h0 | h0
  · rw [h0, if_neg (by simp), if_neg (by simp)] at hG
    obtain ⟨s', hs'⟩ : ∃ s', s' = (readL b (lettersOf (shapeI op)) (startV k)).2 := ⟨_, rfl⟩
    have hR : readL b (lettersOf (shapeI op)) (startV k) = (0, s') := by rw [← h0, hs']
    rw [← hs'] at hG
    by_cases g5 : (insOf op s').chk ≠ 0
    · rw [if_pos g5] at hG; rw [hG] at h; simp at h
    rw [if_neg g5] at hG
    obtain ⟨new, a1, a2, a3, a4, a5, a6, a7⟩ := put_readL hb (goodL_of op) (by show k + 1 ≤ _; omega) hR
    rw [hG]
    refine ⟨rfl, by simpa using g5, ?_, ?_, a7⟩
    · unfold InsV.bytes insOf InsV.letters
      simp only
      rw [op_bytes ⟨hx.1, by omega⟩]
      have hr3 := okShape_reg (shapes_ok op)
      have en : ∃ more, [s'.rs.getD 0 0, s'.rs.getD 1 0, s'.rs.getD 2 0] = new ++ more := by
        rw [a1]
        have h3 : new.length ≤ 3 := by rw [a2]; exact hr3
        show ∃ more, [([] ++ new).getD 0 0, ([] ++ new).getD 1 0, ([] ++ new).getD 2 0] = new ++ more
        rw [List.nil_append]
        match new, h3 with
        | [], _ => exact ⟨[0, 0, 0], rfl⟩
        | [x], _ => exact ⟨[0, 0], rfl⟩
        | [x, y], _ => exact ⟨[0], rfl⟩
        | [x, y, z], _ => exact ⟨[], rfl⟩
      obtain ⟨more, hm⟩ := en
      rw [hm, a3 more]
      have e1 : (startV k).pos = k + 1 := rfl
      have a6' : k + 1 ≤ s'.pos := a6
      rw [e1]
      have e2 : s'.pos - k = (s'.pos - (k + 1)) + 1 := by omega
      rw [e2, getD_cons (by omega), ← hop]
      rfl
    · have : k + 1 ≤ s'.pos := a6
      show k < s'.pos
      omega
  · rw [h0, if_neg (by simp), if_pos rfl] at hG; rw [hG] at h; simp at h
  · rw [h0, if_pos rfl] at hG; rw [hG] at h; simp at h
end Go.Proofs.Ytobbjphpngckgaa
