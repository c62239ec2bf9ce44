/- Lemmas of Math07, Math07B, RefD06, RefF06, MathC06, Math08, RefE06, Open06, TwoG, each with its own remark. -/
import Derived.Test.YtohlifeenhaifaaGreatDoorS04
import Derived.Test.YtohlifeenhaifaaGreatDoorS01
import Derived.Deep.RegionHeld3
import Derived.Test.YtohlifeenhaifaaGreatDoorRows
import Derived.ChangeSame
import Derived.ChangeShapes
import Derived.WideShapes
/- (Math07) What bytes an instruction is, and which instruction bytes are: plain mathematics. -/
namespace Go.Proofs.YtohlifeenhaifaaGreatDoor
set_option linter.unusedVariables false
set_option linter.unusedSimpArgs false

/-- An instruction. -/
structure InsV where
  op : Int
  a : Int
  b : Int
  c : Int
  n : Int
  args : List Int
abbrev InsV.zero : InsV := ⟨0, 0, 0, 0, 0, []⟩
def InsV.chk (y : InsV) : Int := checkV y.op y.a y.b y.c y.n y.args 64 4096
/-- How many bytes a letter's field has. -/
def widthV (q : Int) : Nat := if q = 105 then 8 else if q = 102 then 2 else if q = 100 then 2 else if q = 116 then 2 else 1
/-- A letter's bytes. -/
def heldB (n : Int) (args : List Int) (q : Int) (rs : List Int) : List Int :=
  if isReg q then bytesV (rs.headD 0) 1 else if q = 108 then bytesV args.length 1 ++ args.flatMap (fun x => bytesV x 1) else bytesV n (widthV q)
def putL (n : Int) (args : List Int) : List Int → List Int → List Int
  | [], _ => []
  | q :: qs, rs => heldB n args q rs ++ putL n args qs (restOf q rs)
def InsV.letters (y : InsV) : List Int := lettersOf (shapeI y.op)
def InsV.bytes (y : InsV) : List Int := bytesV y.op 1 ++ putL y.n y.args y.letters [y.a, y.b, y.c]

/-- What has been read. -/
structure RdV where
  pos : Nat
  rs : List Int
  n : Int
  args : List Int
def wrapI (x : Int) : Int := IntKind.i64.wrap x
def readQ (b : List Int) (q : Int) (s : RdV) : Int × RdV :=
  if q = 108 then
    if b.length < s.pos + 1 then (4, s)
    else if 8 < b.getD s.pos 0 then (3, s)
    else if b.length < s.pos + 1 + (b.getD s.pos 0).toNat then (4, s)
    else (0, ⟨s.pos + 1 + (b.getD s.pos 0).toNat, s.rs, s.n, (b.drop (s.pos + 1)).take (b.getD s.pos 0).toNat⟩)
  else if b.length < s.pos + widthV q then (4, s)
  else if isReg q then (0, ⟨s.pos + widthV q, s.rs ++ [numV ((b.drop s.pos).take (widthV q))], s.n, s.args⟩)
  else (0, ⟨s.pos + widthV q, s.rs, wrapI (numV ((b.drop s.pos).take (widthV q))), s.args⟩)
def readL (b : List Int) : List Int → RdV → Int × RdV
  | [], s => (0, s)
  | q :: qs, s => if (readQ b q s).1 = 0 then readL b qs (readQ b q s).2 else readQ b q s
def insOf (op : Int) (s : RdV) : InsV := ⟨op, s.rs.getD 0 0, s.rs.getD 1 0, s.rs.getD 2 0, s.n, s.args⟩
/-- What Get tells. -/
structure GotV where
  err : Int
  at_ : Int
  y : InsV
  next : Nat
def startV (at_ : Nat) : RdV := ⟨at_ + 1, [], 0, []⟩
def getI (b : List Int) (k : Nat) : GotV :=
  if k = b.length then ⟨4, b.length, .zero, 0⟩
  else if 33 ≤ b.getD k 0 then ⟨16, k, .zero, 0⟩
  else if (readL b (lettersOf (shapeI (b.getD k 0))) (startV k)).1 = 4 then ⟨4, b.length, .zero, 0⟩
  else if (readL b (lettersOf (shapeI (b.getD k 0))) (startV k)).1 = 3 then ⟨3, k, .zero, 0⟩
  else if (insOf (b.getD k 0) (readL b (lettersOf (shapeI (b.getD k 0))) (startV k)).2).chk ≠ 0 then ⟨5, k, .zero, 0⟩
  else ⟨0, 0, insOf (b.getD k 0) (readL b (lettersOf (shapeI (b.getD k 0))) (startV k)).2, (readL b (lettersOf (shapeI (b.getD k 0))) (startV k)).2.pos⟩
def gotV (b : List Int) (at_ : Int) : GotV := if at_ < 0 ∨ b.length < at_ then ⟨2, 0, .zero, 0⟩ else getI b at_.toNat
/-- What Split tells. -/
structure SplitV where
  err : Int
  at_ : Int
  l : List InsV
  ps : List Int
def splitF (b : List Int) : Nat → Nat → List InsV → List Int → SplitV
  | 0, _, l, ps => ⟨0, 0, l, ps⟩
  | k + 1, at_, l, ps => if at_ < b.length then (if (getI b at_).err = 0 then splitF b k (getI b at_).next (l ++ [(getI b at_).y]) (ps ++ [(at_ : Int)]) else ⟨(getI b at_).err, (getI b at_).at_, [], []⟩) else ⟨0, 0, l, ps⟩
def splitV (b : List Int) : SplitV := if 4096 < b.length then ⟨3, 4096, [], []⟩ else splitF b (b.length + 1) 0 [] []
/-- What Join tells. -/
def allB (l : List InsV) : List Int := l.flatMap InsV.bytes
def firstE : List InsV → Int
  | [] => 0
  | y :: l => if y.chk = 0 then firstE l else y.chk
def joinE (l : List InsV) : Int := if firstE l = 0 then (if 4096 < (allB l).length then 3 else 0) else firstE l
def joinB (l : List InsV) : List Int := if joinE l = 0 then allB l else []

/-! ### The shapes -/
def isNumQ (q : Int) : Bool := !isReg q && !(q == 108)
def okLetters (s : ByteArray) : Bool := (lettersOf s).all (fun q => [119, 114, 108, 107, 109, 122, 102, 100, 116, 99, 105].contains q) && decide (((lettersOf s).filter (fun q => q == 108)).length ≤ 1) && decide (((lettersOf s).filter isNumQ).length ≤ 1)
theorem letters_ok (op : Int) : okLetters (shapeI op) = true := by
  unfold shapeI
  split
  · rename_i h
    have h2 : shapeL.all okLetters = true := by kernel_rfl
    have hl : shapeL.length = 33 := by kernel_rfl
    have hk : op.toNat < shapeL.length := by omega
    have e : shapeB op.toNat = shapeL[op.toNat] := by simp [shapeB, List.getD, hk]
    rw [e]
    exact List.all_eq_true.1 h2 _ (List.getElem_mem hk)
  · rfl
/-- Letters that the shapes have. -/
structure GoodL (L : List Int) : Prop where
  mem : ∀ q ∈ L, q ∈ ([119, 114, 108, 107, 109, 122, 102, 100, 116, 99, 105] : List Int)
  one : (L.filter (fun q => q == 108)).length ≤ 1
  num : (L.filter isNumQ).length ≤ 1
theorem goodL_of (op : Int) : GoodL (lettersOf (shapeI op)) := by
  have h := letters_ok op
  unfold okLetters at h
  rw [Bool.and_eq_true, Bool.and_eq_true] at h
  refine ⟨fun q hq => ?_, of_decide_eq_true h.1.2, of_decide_eq_true h.2⟩
  have := List.all_eq_true.1 h.1.1 q hq
  simpa using this
theorem GoodL.tail {q : Int} {L : List Int} (h : GoodL (q :: L)) : GoodL L := by
  refine ⟨fun x hx => h.mem x (List.mem_cons_of_mem _ hx), ?_, ?_⟩
  · have := h.one
    simp only [List.filter_cons] at this
    split at this
    · simp only [List.length_cons] at this; omega
    · exact this
  · have := h.num
    simp only [List.filter_cons] at this
    split at this
    · simp only [List.length_cons] at this; omega
    · exact this
theorem GoodL.con {L : List Int} (h : GoodL (108 :: L)) : conL L = false := by
  have h1 := h.one
  rw [List.filter_cons_of_pos (by decide), List.length_cons] at h1
  unfold conL
  rw [List.any_eq_false]
  intro q hq hq2
  have hm : q ∈ L.filter (fun q => q == 108) := List.mem_filter.2 ⟨hq, hq2⟩
  have := List.length_pos_of_mem hm
  omega
theorem GoodL.hasN {q : Int} {L : List Int} (h : GoodL (q :: L)) (hq : isNumQ q = true) : hasN L = false := by
  have := h.num
  simp only [List.filter_cons, hq, if_true, List.length_cons] at this
  unfold Go.Proofs.YtohlifeenhaifaaGreatDoor.hasN
  rw [List.any_eq_false]
  intro q' hq' hq2
  have hm : q' ∈ L.filter isNumQ := List.mem_filter.2 ⟨hq', hq2⟩
  have := List.length_pos_of_mem hm
  omega
theorem bytesV_one (a : Int) : bytesV a 1 = [a % 256] := by simp [bytesV, byteV]
theorem numV_one (x : Int) : numV [x] = x := by simp [numV]
theorem width_le (q : Int) : 1 ≤ widthV q ∧ widthV q ≤ 8 := by unfold widthV; (repeat' split) <;> omega
theorem width_sized (q : Int) : sizedB (widthV q) = true := by
  unfold widthV sizedB
  repeat' split
  all_goals simp
theorem reg_width {q : Int} (h : isReg q = true) : widthV q = 1 := by
  unfold isReg at h
  have h := of_decide_eq_true h
  rcases h with rfl | rfl <;> rfl
theorem args_bytes : ∀ (args : List Int), (args.flatMap (fun x => bytesV x 1)) = args.map (· % 256)
  | [] => rfl
  | x :: xs => by rw [List.flatMap_cons, args_bytes xs, bytesV_one]; rfl
theorem heldB_bd {n : Int} {args : List Int} {q : Int} {rs : List Int} : ∀ x ∈ heldB n args q rs, 0 ≤ x ∧ x < 256 := by
  unfold heldB
  split
  · exact bytesV_bd _ _
  · split
    · intro x hx
      rcases List.mem_append.1 hx with hx | hx
      · exact bytesV_bd _ _ x hx
      · obtain ⟨y, _, hy⟩ := List.mem_flatMap.1 hx
        exact bytesV_bd _ _ x hy
    · exact bytesV_bd _ _
theorem putL_bd {n : Int} {args : List Int} : ∀ {L rs : List Int}, ∀ x ∈ putL n args L rs, 0 ≤ x ∧ x < 256
  | [], _ => by simp [putL]
  | q :: L, rs => by
    intro x hx
    rcases List.mem_append.1 hx with hx | hx
    · exact heldB_bd x hx
    · exact putL_bd x hx
theorem InsV.bytes_bd (y : InsV) : ∀ x ∈ y.bytes, 0 ≤ x ∧ x < 256 := by
  intro x hx
  rcases List.mem_append.1 hx with hx | hx
  · exact bytesV_bd _ _ x hx
  · exact putL_bd x hx
theorem heldB_len {n : Int} {args : List Int} {q : Int} {rs : List Int} : 1 ≤ (heldB n args q rs).length ∧ (heldB n args q rs).length ≤ 8 + args.length := by
  have hw := width_le q
  unfold heldB
  split
  · rw [bytesV_len]; omega
  · split
    · rw [args_bytes, List.length_append, bytesV_len, List.length_map]; omega
    · rw [bytesV_len]; omega
theorem putL_len {n : Int} {args : List Int} : ∀ {L rs : List Int}, (putL n args L rs).length ≤ L.length * (8 + args.length)
  | [], _ => by simp [putL]
  | q :: L, rs => by
    have h1 := (heldB_len (n := n) (args := args) (q := q) (rs := rs)).2
    have h2 := putL_len (n := n) (args := args) (L := L) (rs := restOf q rs)
    simp only [putL, List.length_append, List.length_cons, Nat.add_mul, Nat.one_mul]
    omega
end Go.Proofs.YtohlifeenhaifaaGreatDoor

/- (Math07B) What is put is read as it was, and what is read is put as it was: plain mathematics. -/
namespace Go.Proofs.YtohlifeenhaifaaGreatDoor
set_option linter.unusedVariables false
set_option linter.unusedSimpArgs false

/-- Does a number go into a letter's field? -/
def FitQ (q x : Int) : Prop := if q = 105 then -9223372036854775808 ≤ x ∧ x < 9223372036854775808 else 0 ≤ x ∧ x < 256 ^ widthV q
theorem fit_of {q x : Int} (hq : q ∈ ([119, 114, 108, 107, 109, 122, 102, 100, 116, 99, 105] : List Int)) (h : fitB 64 4096 (q, x) = true) : FitQ q x := by
  unfold fitB at h
  rw [Bool.and_eq_true] at h
  have h1 := of_decide_eq_true h.1
  simp only [List.mem_cons, List.not_mem_nil, or_false] at hq
  unfold FitQ
  rcases hq with rfl | rfl | rfl | rfl | rfl | rfl | rfl | rfl | rfl | rfl | rfl <;> simp [limV] at h1 <;> simp [widthV] <;> omega
theorem drop_parts {b xs post : List Int} {p : Nat} (h : b.drop p = xs ++ post) (hx : 0 < xs.length) : p + xs.length ≤ b.length ∧ (b.drop p).take xs.length = xs ∧ b.drop (p + xs.length) = post := by
  have hl := congrArg List.length h
  simp only [List.length_drop, List.length_append] at hl
  refine ⟨by omega, by rw [h, List.take_left], ?_⟩
  rw [← List.drop_drop, h, List.drop_left]
theorem drop_first {b xs : List Int} {p : Nat} {x : Int} (h : b.drop p = x :: xs) : b.getD p 0 = x := by
  have h1 := congrArg (fun l => l[0]?) h
  simp only [List.getElem?_drop, Nat.add_zero, List.getElem?_cons_zero] at h1
  simp [List.getD, h1]
def advQ (n : Int) (args : List Int) (q : Int) (rs : List Int) (s : RdV) : RdV :=
  ⟨s.pos + (heldB n args q rs).length, if isReg q then s.rs ++ [rs.headD 0] else s.rs, if isNumQ q then n else s.n, if q = 108 then args else s.args⟩
theorem mod_fit {q x : Int} (h : FitQ q x) : wrapI (numV (bytesV x (widthV q))) = x ∧ (q ≠ 105 → numV (bytesV x (widthV q)) = x) := by
  rw [numV_bytesV]
  unfold FitQ at h
  by_cases hq : q = 105
  · subst hq
    rw [if_pos rfl] at h
    refine ⟨?_, fun h => absurd rfl h⟩
    show IntKind.i64.wrap (x % 18446744073709551616) = x
    rw [IntKind.wrap_i64]
    omega
  · rw [if_neg hq] at h
    rw [Int.emod_eq_of_lt h.1 h.2]
    refine ⟨?_, fun _ => rfl⟩
    have hw : (256 : Int) ^ widthV q ≤ 65536 := by
      unfold widthV
      rw [if_neg hq]
      (repeat' split) <;> decide
    show IntKind.i64.wrap x = x
    rw [IntKind.wrap_i64]
    omega
theorem read_putQ {n q : Int} {args rs b post : List Int} {s : RdV} (hq : q ∈ ([119, 114, 108, 107, 109, 122, 102, 100, 116, 99, 105] : List Int)) (hf : ∀ x ∈ heldOf n args q rs, FitQ q x) (h8 : args.length ≤ 8)
    (h : b.drop s.pos = heldB n args q rs ++ post) : readQ b q s = (0, advQ n args q rs s) := by
  obtain ⟨h1, h2, h3⟩ := drop_parts h (by have := (heldB_len (n := n) (args := args) (q := q) (rs := rs)).1; omega)
  unfold readQ advQ
  by_cases hc : q = 108
  · subst hc
    have e0 : isReg 108 = false := rfl
    have e1 : isNumQ 108 = false := rfl
    have eh : heldB n args 108 rs = (args.length : Int) :: args := by
      unfold heldB
      rw [if_neg (by simp [e0]), if_pos rfl, bytesV_one, args_bytes, Int.emod_eq_of_lt (by omega) (by omega)]
      have : args.map (· % 256) = args := by
        conv => rhs; rw [← List.map_id args]
        apply List.map_congr_left
        intro x hx
        have := hf x (by unfold heldOf; rw [if_neg (by simp [e0]), if_pos rfl]; exact hx)
        unfold FitQ at this
        rw [if_neg (by decide)] at this
        exact Int.emod_eq_of_lt this.1 this.2
      rw [this]
      rfl
    rw [eh] at h h1 h2 h3 ⊢
    simp only [List.length_cons] at h1
    have hg : b.getD s.pos 0 = (args.length : Int) := drop_first h
    have hd : b.drop (s.pos + 1) = args ++ post := by
      rw [← List.drop_drop, h]
      rfl
    simp only [if_true, hg, Int.toNat_natCast, e0, e1]
    rw [if_neg (by omega), if_neg (by omega), if_neg (by omega), hd, List.take_left]
    simp
    omega
  · rw [if_neg hc]
    have hw := width_le q
    by_cases hr : isReg q = true
    · have e1 : isNumQ q = false := by simp [isNumQ, hr]
      have eh : heldB n args q rs = bytesV (rs.headD 0) (widthV q) := by
        unfold heldB
        rw [if_pos hr, reg_width hr]
      rw [eh] at h h1 h2 h3 ⊢
      rw [bytesV_len] at h1 h2 h3 ⊢
      rw [if_neg (by omega), if_pos hr, h2]
      have hx := (mod_fit (hf (rs.headD 0) (by unfold heldOf; rw [if_pos hr]; simp))).2 (by rintro rfl; simp [isReg] at hr)
      rw [hx]
      simp [hr, e1, hc]
    · have e1 : isNumQ q = true := by simp [isNumQ, hr, hc]
      have eh : heldB n args q rs = bytesV n (widthV q) := by
        unfold heldB
        rw [if_neg hr, if_neg hc]
      rw [eh] at h h1 h2 h3 ⊢
      rw [bytesV_len] at h1 h2 h3 ⊢
      rw [if_neg (by omega), if_neg hr, h2]
      have hx := (mod_fit (hf n (by unfold heldOf; rw [if_neg hr, if_neg hc]; simp))).1
      simp [hx, hr, e1, hc]
theorem read_putL {n : Int} {args b post : List Int} (h8 : args.length ≤ 8) : ∀ {L rs : List Int} {s : RdV}, (∀ q ∈ L, q ∈ ([119, 114, 108, 107, 109, 122, 102, 100, 116, 99, 105] : List Int)) → (∀ p ∈ itemsL n args L rs, FitQ p.1 p.2) → regN L ≤ rs.length →
    b.drop s.pos = putL n args L rs ++ post → s.pos ≤ b.length →
    readL b L s = (0, ⟨s.pos + (putL n args L rs).length, s.rs ++ rs.take (regN L), if hasN L then n else s.n, if conL L then args else s.args⟩)
  | [], rs, s, _, _, _, _, _ => by simp [readL, putL, regN, hasN, conL]
  | q :: L, rs, s, hm, hf, hr, h, hp => by
    have hb : b.drop s.pos = heldB n args q rs ++ (putL n args L (restOf q rs) ++ post) := by rw [h]; simp [putL]
    have hQ := read_putQ (hm q (by simp)) (fun x hx => hf (q, x) (by simp only [itemsL, List.mem_append, List.mem_map]; exact .inl ⟨x, hx, rfl⟩)) h8 hb
    obtain ⟨h1, h2, h3⟩ := drop_parts hb (by have := (heldB_len (n := n) (args := args) (q := q) (rs := rs)).1; omega)
    have hrn : regN L ≤ (restOf q rs).length := by
      unfold restOf
      simp only [regN] at hr
      split
      · rename_i hq; simp only [hq, if_true] at hr; simp; omega
      · rename_i hq; simp only [hq] at hr; simpa using hr
    have hL := read_putL (n := n) (args := args) (b := b) (post := post) h8 (L := L) (rs := restOf q rs) (s := advQ n args q rs s) (fun q hq => hm q (by simp [hq])) (fun p hp => hf p (by simp only [itemsL, List.mem_append]; exact .inr hp)) hrn (by exact h3) (by exact h1)
    simp only [readL, hQ, if_true, hL]
    unfold advQ
    simp only [putL, List.length_append, Nat.add_assoc, Prod.mk.injEq, RdV.mk.injEq, true_and]
    have eN : hasN (q :: L) = (isNumQ q || hasN L) := by simp [hasN, isNumQ]
    have eC : conL (q :: L) = ((q == 108) || conL L) := by simp [conL]
    rw [eN, eC]
    refine ⟨?_, ?_, ?_⟩
    · unfold restOf
      simp only [regN] at hr ⊢
      split
      · rename_i hq
        simp only [hq, if_true] at hr
        match rs, hr with
        | [], hr => simp at hr
        | r :: rs, hr => simp [Nat.add_comm 1]
      · simp
    · cases hasN L <;> simp
    · cases conL L <;> simp
/-- What an instruction is that can be put. -/
structure OkI (y : InsV) : Prop where
  op : 0 ≤ y.op ∧ y.op < 33
  bare : bareV y.letters y.a y.b y.c y.n y.args = true
  args : y.args.length ≤ 8
  fit : ∀ p ∈ itemsL y.n y.args y.letters [y.a, y.b, y.c], FitQ p.1 p.2
theorem items_mem {n : Int} {args : List Int} : ∀ {L rs : List Int} {p : Int × Int}, p ∈ itemsL n args L rs → p.1 ∈ L
  | [], rs, p, h => by simp [itemsL] at h
  | q :: L, rs, p, h => by
    simp only [itemsL, List.mem_append, List.mem_map] at h
    rcases h with ⟨x, _, rfl⟩ | h
    · simp
    · exact List.mem_cons_of_mem _ (items_mem h)
theorem chk_ok {y : InsV} (h : y.chk = 0) : OkI y := by
  unfold InsV.chk checkV at h
  by_cases h1 : ¬ (0 ≤ y.op ∧ y.op < 33)
  · rw [if_pos h1] at h; omega
  rw [if_neg h1, if_neg (by omega)] at h
  by_cases h2 : bareV (lettersOf (shapeI y.op)) y.a y.b y.c y.n y.args = false
  · rw [if_pos h2] at h; omega
  rw [if_neg h2] at h
  by_cases h3 : 8 < y.args.length
  · rw [if_pos h3] at h; omega
  rw [if_neg h3] at h
  by_cases h4 : (itemsOf (shapeI y.op) y.a y.b y.c y.n y.args).all (fitB 64 4096) = false
  · rw [if_pos h4] at h; omega
  refine ⟨by omega, by simpa [InsV.letters] using h2, by omega, fun p hp => ?_⟩
  have h5 : (itemsOf (shapeI y.op) y.a y.b y.c y.n y.args).all (fitB 64 4096) = true := by simpa using h4
  have h6 := List.all_eq_true.1 h5 p hp
  exact fit_of ((goodL_of y.op).mem _ (items_mem hp)) h6
theorem readL_kinds (b : List Int) : ∀ (L : List Int) (s : RdV), (readL b L s).1 = 0 ∨ (readL b L s).1 = 3 ∨ (readL b L s).1 = 4
  | [], s => .inl rfl
  | q :: L, s => by
    simp only [readL]
    split
    · exact readL_kinds b L _
    · unfold readQ
      (repeat' split) <;> simp
theorem op_bytes {op : Int} (h : 0 ≤ op ∧ op < 33) : bytesV op 1 = [op] := by rw [bytesV_one, Int.emod_eq_of_lt h.1 (by omega)]
/-- What is put is got. -/
theorem get_put {y : InsV} (h : y.chk = 0) {b post : List Int} {k : Nat} (hb : b.drop k = y.bytes ++ post) : getI b k = ⟨0, 0, y, k + y.bytes.length⟩ := by
  have ho := chk_ok h
  have hbb : b.drop k = y.op :: (putL y.n y.args y.letters [y.a, y.b, y.c] ++ post) := by rw [hb]; unfold InsV.bytes; rw [op_bytes ho.op]; rfl
  obtain ⟨h1, h2, h3⟩ := drop_parts (xs := [y.op]) hbb (by simp)
  have hg := drop_first hbb
  simp only [List.length_cons, List.length_nil, Nat.zero_add] at h1 h3
  have hr3 := okShape_reg (shapes_ok y.op)
  have hL := read_putL (n := y.n) (b := b) (post := post) ho.args (L := y.letters) (rs := [y.a, y.b, y.c]) (s := startV k) (fun q hq => (goodL_of y.op).mem q hq) ho.fit (by simpa [InsV.letters] using hr3) (by exact h3) (by exact h1)
  have hi : insOf y.op ⟨(startV k).pos + (putL y.n y.args y.letters [y.a, y.b, y.c]).length, (startV k).rs ++ [y.a, y.b, y.c].take (regN y.letters), if hasN y.letters then y.n else (startV k).n, if conL y.letters then y.args else (startV k).args⟩ = y := by
    have hbare := ho.bare
    unfold bareV at hbare
    rw [Bool.and_eq_true, Bool.and_eq_true] at hbare
    obtain ⟨b1, b2, b3⟩ := hbare
    obtain ⟨op, a, b', c, n, args⟩ := y
    unfold insOf startV
    simp only [List.nil_append, InsV.mk.injEq, true_and]
    have hr3' : regN (InsV.letters ⟨op, a, b', c, n, args⟩) ≤ 3 := by simpa [InsV.letters] using hr3
    generalize InsV.letters ⟨op, a, b', c, n, args⟩ = L at *
    refine ⟨?_, ?_, ?_, ?_, ?_⟩
    · rcases (show regN L = 0 ∨ regN L = 1 ∨ regN L = 2 ∨ regN L = 3 by omega) with e | e | e | e <;> simp [e] at b1 ⊢
      exact b1.1.symm
    · rcases (show regN L = 0 ∨ regN L = 1 ∨ regN L = 2 ∨ regN L = 3 by omega) with e | e | e | e <;> simp [e] at b1 ⊢
      · exact b1.2.1.symm
      · exact b1.1.symm
    · rcases (show regN L = 0 ∨ regN L = 1 ∨ regN L = 2 ∨ regN L = 3 by omega) with e | e | e | e <;> simp [e] at b1 ⊢
      · exact b1.2.2.symm
      · exact b1.2.symm
      · exact b1.symm
    · cases hn : hasN L
      · simp [hn] at b2; simp [b2]
      · simp
    · cases hn : conL L
      · simp [hn] at b3; simp [b3]
      · simp
  have eN : (startV k).pos + (putL y.n y.args y.letters [y.a, y.b, y.c]).length = k + y.bytes.length := by
    unfold InsV.bytes startV
    rw [op_bytes ho.op]
    simp
    omega
  unfold getI
  have hop1 := ho.op.1
  have hop2 := ho.op.2
  rw [if_neg (by omega), hg, if_neg (by omega)]
  have hL' : readL b (lettersOf (shapeI y.op)) (startV k) = _ := hL
  rw [hL', if_neg (by simp), if_neg (by simp)]
  simp only [hi]
  rw [if_neg (by simp [h]), eN]
theorem take_parts {b : List Int} {p p1 p2 : Nat} (h1 : p ≤ p1) (h2 : p1 ≤ p2) : (b.drop p).take (p1 - p) ++ (b.drop p1).take (p2 - p1) = (b.drop p).take (p2 - p) := by
  have e : p2 - p = (p1 - p) + (p2 - p1) := by omega
  rw [e, List.take_add, List.drop_drop]
  congr 3
  omega
theorem part_len {b : List Int} {p k : Nat} (h : p + k ≤ b.length) : ((b.drop p).take k).length = k := by simp; omega
theorem getD_mem {b : List Int} {p : Nat} (h : p < b.length) : b.getD p 0 ∈ b := by
  simp [List.getD, List.getElem?_eq_getElem h]
theorem getD_cons {b : List Int} {p : Nat} (h : p < b.length) (k : Nat) : (b.drop p).take (k + 1) = b.getD p 0 :: (b.drop (p + 1)).take k := by
  rw [drop_cons' h]
  rfl
theorem bytesV_mod (a : Int) : bytesV (a % 18446744073709551616) 8 = bytesV a 8 := by
  have h1 : ∀ k : Nat, k < 8 → byteV (a % 18446744073709551616) k = byteV a k := by
    intro k hk
    unfold byteV
    rcases (show k = 0 ∨ k = 1 ∨ k = 2 ∨ k = 3 ∨ k = 4 ∨ k = 5 ∨ k = 6 ∨ k = 7 by omega) with rfl | rfl | rfl | rfl | rfl | rfl | rfl | rfl <;> simp only [Int.reducePow, Int.pow_zero, Int.ediv_one] <;> omega
  unfold bytesV
  apply List.map_congr_left
  intro k hk
  exact h1 k (List.mem_range.1 hk)
theorem bytesV_wrap {x : Int} (h : 0 ≤ x) (h' : x < 18446744073709551616) {k : Nat} (hk : sizedB k = true) : bytesV (wrapI x) k = bytesV x k := by
  have e : wrapI x % 18446744073709551616 = x % 18446744073709551616 := by
    show IntKind.i64.wrap x % _ = _
    rw [IntKind.wrap_i64]
    omega
  have e8 : bytesV (wrapI x) 8 = bytesV x 8 := by rw [← bytesV_mod (wrapI x), e, bytesV_mod]
  have hk8 : k ≤ 8 := by rcases sized_cases hk with h | h | h | h <;> omega
  have ht : ∀ a : Int, bytesV a k = (bytesV a 8).take k := by
    intro a
    unfold bytesV
    rw [← List.map_take, List.take_range, Nat.min_eq_left hk8]
  rw [ht, ht, e8]
theorem put_readQ {b : List Int} (hb : ∀ x ∈ b, 0 ≤ x ∧ x < 256) {q : Int} {s s' : RdV} (h : readQ b q s = (0, s')) :
    ∃ new, s'.rs = s.rs ++ new ∧ new.length = (if isReg q then 1 else 0) ∧ (∀ more, heldB s'.n s'.args q (new ++ more) = (b.drop s.pos).take (s'.pos - s.pos)) ∧ (isNumQ q = false → s'.n = s.n) ∧ (q ≠ 108 → s'.args = s.args) ∧ s.pos < s'.pos ∧ s'.pos ≤ b.length := by
  unfold readQ at h
  have hw := width_le q
  by_cases hc : q = 108
  · subst hc
    rw [if_pos rfl] at h
    by_cases g1 : b.length < s.pos + 1
    · rw [if_pos g1] at h; simp at h
    rw [if_neg g1] at h
    by_cases g2 : 8 < b.getD s.pos 0
    · rw [if_pos g2] at h; simp at h
    rw [if_neg g2] at h
    by_cases g3 : b.length < s.pos + 1 + (b.getD s.pos 0).toNat
    · rw [if_pos g3] at h; simp at h
    rw [if_neg g3] at h
    injection h with _ h
    subst h
    have hx := hb _ (getD_mem (show s.pos < b.length by omega))
    refine ⟨[], by simp, by simp [isReg], fun more => ?_, fun _ => rfl, fun h => absurd rfl h, ?_, ?_⟩
    rotate_left
    · show s.pos < s.pos + 1 + (b.getD s.pos 0).toNat
      omega
    · show s.pos + 1 + (b.getD s.pos 0).toNat ≤ b.length
      omega
    unfold heldB
    rw [if_neg (by simp [isReg]), if_pos rfl, bytesV_one, args_bytes]
    simp only
    rw [part_len (by omega)]
    have e : s.pos + 1 + (b.getD s.pos 0).toNat - s.pos = (b.getD s.pos 0).toNat + 1 := by omega
    rw [e, getD_cons (by omega)]
    have hm : ((b.drop (s.pos + 1)).take (b.getD s.pos 0).toNat).map (· % 256) = (b.drop (s.pos + 1)).take (b.getD s.pos 0).toNat := by
      conv => rhs; rw [← List.map_id ((b.drop (s.pos + 1)).take (b.getD s.pos 0).toNat)]
      apply List.map_congr_left
      intro x hx
      have := hb x (List.mem_of_mem_drop (List.mem_of_mem_take hx))
      exact Int.emod_eq_of_lt this.1 this.2
    rw [hm]
    have : ((b.getD s.pos 0).toNat : Int) % 256 = b.getD s.pos 0 := by omega
    rw [this]
    rfl
  · rw [if_neg hc] at h
    by_cases g1 : b.length < s.pos + widthV q
    · rw [if_pos g1] at h; simp at h
    rw [if_neg g1] at h
    have hpb : ∀ x ∈ (b.drop s.pos).take (widthV q), 0 ≤ x ∧ x < 256 := fun x hx => hb x (List.mem_of_mem_drop (List.mem_of_mem_take hx))
    have hpl : ((b.drop s.pos).take (widthV q)).length = widthV q := part_len (by omega)
    have hback := bytesV_numV _ hpb
    rw [hpl] at hback
    by_cases hr : isReg q = true
    · rw [if_pos hr] at h
      injection h with _ h
      subst h
      refine ⟨[numV ((b.drop s.pos).take (widthV q))], rfl, by simp [hr], fun more => ?_, fun _ => rfl, fun _ => rfl, by simp; omega, by simp; omega⟩
      unfold heldB
      rw [if_pos hr]
      rw [reg_width hr] at hback ⊢
      simpa using hback
    · rw [if_neg hr] at h
      injection h with _ h
      subst h
      have e1 : isNumQ q = true := by simp [isNumQ, hr, hc]
      refine ⟨[], by simp, by simp [hr], fun more => ?_, fun h => absurd (e1.symm.trans h) (by decide), fun _ => rfl, by simp; omega, by simp; omega⟩
      unfold heldB
      rw [if_neg hr, if_neg hc]
      have hbd := numV_bd hpb
      rw [hpl] at hbd
      have h64 := pow_le_64 hw.2
      rw [bytesV_wrap hbd.1 (by omega) (width_sized q)]
      simpa using hback
theorem put_readL {b : List Int} (hb : ∀ x ∈ b, 0 ≤ x ∧ x < 256) : ∀ {L : List Int} {s s' : RdV}, GoodL L → s.pos ≤ b.length → readL b L s = (0, s') →
    ∃ new, s'.rs = s.rs ++ new ∧ new.length = regN L ∧ (∀ more, putL s'.n s'.args L (new ++ more) = (b.drop s.pos).take (s'.pos - s.pos)) ∧ (hasN L = false → s'.n = s.n) ∧ (conL L = false → s'.args = s.args) ∧ s.pos ≤ s'.pos ∧ s'.pos ≤ b.length
  | [], s, s', _, hp, h => by
    simp only [readL] at h
    injection h with _ h
    subst h
    exact ⟨[], by simp, rfl, fun more => by simp [putL], fun _ => rfl, fun _ => rfl, Nat.le_refl _, hp⟩
  | q :: L, s, s', hg, hp, h => by
    simp only [readL] at h
    by_cases h0 : (readQ b q s).1 = 0
    · rw [if_pos h0] at h
      obtain ⟨n1, a1, a2, a3, a4, a5, a6, a7⟩ := put_readQ hb (q := q) (s := s) (s' := (readQ b q s).2) (by rw [← h0])
      obtain ⟨n2, c1, c2, c3, c4, c5, c6, c7⟩ := put_readL hb hg.tail a7 h
      refine ⟨n1 ++ n2, by rw [c1, a1, List.append_assoc], by simp [a2, c2, regN], fun more => ?_, fun hn => ?_, fun hn => ?_, by omega, c7⟩
      · have e2 : restOf q (n1 ++ n2 ++ more) = n2 ++ more := by
          unfold restOf
          split
          · rename_i hr
            simp only [hr, if_true] at a2
            match n1, a2 with
            | [x], _ => simp
          · rename_i hr
            simp only [hr] at a2
            have : n1 = [] := List.eq_nil_of_length_eq_zero (by simpa using a2)
            subst this
            simp
        have e1 : heldB s'.n s'.args q (n1 ++ n2 ++ more) = (b.drop s.pos).take ((readQ b q s).2.pos - s.pos) := by
          rw [List.append_assoc, ← a3 (n2 ++ more)]
          unfold heldB
          split
          · rfl
          · rename_i hr
            split
            · rename_i hc
              subst hc
              rw [c5 hg.con]
            · rename_i hc
              rw [c4 (hg.hasN (by simp [isNumQ, hr, hc]))]
        show heldB s'.n s'.args q (n1 ++ n2 ++ more) ++ putL s'.n s'.args L (restOf q (n1 ++ n2 ++ more)) = _
        rw [e1, e2, c3 more, take_parts (by omega) c6]
      · have e : hasN (q :: L) = (isNumQ q || hasN L) := by simp [hasN, isNumQ]
        rw [e, Bool.or_eq_false_iff] at hn
        rw [c4 hn.2, a4 hn.1]
      · have e : conL (q :: L) = ((q == 108) || conL L) := by simp [conL]
        rw [e, Bool.or_eq_false_iff] at hn
        rw [c5 hn.2, a5 (by simpa using hn.1)]
    · rw [if_neg h0] at h
      rw [h] at h0
      exact absurd rfl h0
/-- What is got is put as it was. -/
theorem put_get {b : List Int} (hb : ∀ x ∈ b, 0 ≤ x ∧ x < 256) {k : Nat} (hk : k ≤ b.length) (h : (getI b k).err = 0) :
    getI b k = ⟨0, 0, (getI b k).y, (getI b k).next⟩ ∧ (getI b k).y.chk = 0 ∧ (getI b k).y.bytes = (b.drop k).take ((getI b k).next - k) ∧ k < (getI b k).next ∧ (getI b k).next ≤ b.length := by
  have hG : getI b k = getI b k := rfl
  conv at hG => rhs; unfold getI
  by_cases g1 : k = b.length
  · rw [if_pos g1] at hG; rw [hG] at h; simp at h
  rw [if_neg g1] at hG
  by_cases g2 : 33 ≤ b.getD k 0
  · rw [if_pos g2] at hG; rw [hG] at h; simp at h
  rw [if_neg g2] at hG
  have hx := hb _ (getD_mem (show k < b.length by omega))
  obtain ⟨op, hop⟩ : ∃ op, op = b.getD k 0 := ⟨_, rfl⟩
  rw [← hop] at hG g2 hx
  rcases readL_kinds b (lettersOf (shapeI op)) (startV k) with h0 | h0 | h0
  · rw [h0, if_neg (by simp), if_neg (by simp)] at hG
    obtain ⟨s', hs'⟩ : ∃ s', s' = (readL b (lettersOf (shapeI op)) (startV k)).2 := ⟨_, rfl⟩
    have hR : readL b (lettersOf (shapeI op)) (startV k) = (0, s') := by rw [← h0, hs']
    rw [← hs'] at hG
    by_cases g5 : (insOf op s').chk ≠ 0
    · rw [if_pos g5] at hG; rw [hG] at h; simp at h
    rw [if_neg g5] at hG
    obtain ⟨new, a1, a2, a3, a4, a5, a6, a7⟩ := put_readL hb (goodL_of op) (by show k + 1 ≤ _; omega) hR
    rw [hG]
    refine ⟨rfl, by simpa using g5, ?_, ?_, a7⟩
    · unfold InsV.bytes insOf InsV.letters
      simp only
      rw [op_bytes ⟨hx.1, by omega⟩]
      have hr3 := okShape_reg (shapes_ok op)
      have en : ∃ more, [s'.rs.getD 0 0, s'.rs.getD 1 0, s'.rs.getD 2 0] = new ++ more := by
        rw [a1]
        have h3 : new.length ≤ 3 := by rw [a2]; exact hr3
        show ∃ more, [([] ++ new).getD 0 0, ([] ++ new).getD 1 0, ([] ++ new).getD 2 0] = new ++ more
        rw [List.nil_append]
        match new, h3 with
        | [], _ => exact ⟨[0, 0, 0], rfl⟩
        | [x], _ => exact ⟨[0, 0], rfl⟩
        | [x, y], _ => exact ⟨[0], rfl⟩
        | [x, y, z], _ => exact ⟨[], rfl⟩
      obtain ⟨more, hm⟩ := en
      rw [hm, a3 more]
      have e1 : (startV k).pos = k + 1 := rfl
      have a6' : k + 1 ≤ s'.pos := a6
      rw [e1]
      have e2 : s'.pos - k = (s'.pos - (k + 1)) + 1 := by omega
      rw [e2, getD_cons (by omega), ← hop]
      rfl
    · have : k + 1 ≤ s'.pos := a6
      show k < s'.pos
      omega
  · rw [h0, if_neg (by simp), if_pos rfl] at hG; rw [hG] at h; simp at h
  · rw [h0, if_pos rfl] at hG; rw [hG] at h; simp at h
end Go.Proofs.YtohlifeenhaifaaGreatDoor

/- (RefD06) The document's own way of telling whether all fields are nought that are not of the shape (twinshaftref06.bare). Contract; no condition but that the argument is an instruction in memory. -/
namespace Go.Proofs.YtohlifeenhaifaaGreatDoor
open Go.RowKit
set_option linter.unusedVariables false
set_option linter.unusedSimpArgs false

abbrev ikS : ByteArray := ⟨#[105, 107, 109, 122, 102, 100, 116, 99]⟩
abbrev lS : ByteArray := ⟨#[108]⟩
def hasOk (s : ByteArray) : Bool := decide (hasV s wrS = regN (lettersOf s)) && (decide (0 < hasV s ikS) == hasN (lettersOf s)) && (decide (0 < hasV s lS) == conL (lettersOf s))
theorem has_ok (op : Int) : hasOk (shapeI op) = true := by
  unfold shapeI
  split
  · rename_i h
    have h2 : shapeL.all hasOk = true := by kernel_rfl
    have hl : shapeL.length = 33 := by kernel_rfl
    have hk : op.toNat < shapeL.length := by omega
    have e : shapeB op.toNat = shapeL[op.toNat] := by simp [shapeB, List.getD, hk]
    rw [e]
    exact List.all_eq_true.1 h2 _ (List.getElem_mem hk)
  · kernel_rfl
theorem has_facts (op : Int) : hasV (shapeI op) wrS = regN (lettersOf (shapeI op)) ∧ decide (0 < hasV (shapeI op) ikS) = hasN (lettersOf (shapeI op)) ∧ decide (0 < hasV (shapeI op) lS) = conL (lettersOf (shapeI op)) := by
  have h := has_ok op
  unfold hasOk at h
  simp only [Bool.and_eq_true, decide_eq_true_eq, beq_iff_eq] at h
  exact ⟨h.1.1, h.1.2, h.2⟩
theorem bare_early {L : List Int} {a b c n : Int} {args : List Int} {k : Nat} (h1 : regN L ≤ k) (h2 : k < 3) (h : [a, b, c].getD k 0 ≠ 0) : bareV L a b c n args = false := by
  have hall : ([a, b, c].drop (regN L)).all (fun x => x == 0) = false := by
    rw [List.all_eq_false]
    refine ⟨[a, b, c].getD k 0, ?_, by simpa using h⟩
    have hk : k < [a, b, c].length := h2
    have e : ([a, b, c].drop (regN L))[k - regN L]'(by simp; omega) = [a, b, c].getD k 0 := by
      rw [List.getElem_drop]
      have : regN L + (k - regN L) = k := by omega
      simp only [this]
      simp [List.getD, List.getElem?_eq_getElem hk]
    rw [← e]
    exact List.getElem_mem _
  unfold bareV
  rw [hall]
  rfl
theorem bare_late {L : List Int} {a b c n : Int} {args : List Int} (h : ∀ t, regN L ≤ t → t < 3 → [a, b, c].getD t 0 = 0) : bareV L a b c n args = ((hasN L || n == 0) && (conL L || args.isEmpty)) := by
  have hall : ([a, b, c].drop (regN L)).all (fun x => x == 0) = true := by
    rw [List.all_eq_true]
    intro x hx
    obtain ⟨i, hi, rfl⟩ := List.getElem_of_mem hx
    have hi' : regN L + i < 3 := by simp at hi; omega
    have := h (regN L + i) (by omega) hi'
    rw [List.getElem_drop]
    simp [List.getD] at this
    have hl : regN L + i < [a, b, c].length := hi'
    rw [List.getElem?_eq_getElem hl] at this
    simpa using this
  unfold bareV
  rw [hall]
  rfl

set_option maxHeartbeats 4000000 in
set_option maxRecDepth 100000 in
theorem bare_any (op a b c n : Int) (X : Value) (args : List Int) (w : World) (hX : IsNums .i64 w w.heap.size X args) : Calls Tryz.prog 108 #[.agg (insCells op a b c n X)] w (Makes w (.bool (bareV (lettersOf (shapeI op)) a b c n args))) := by
  obtain ⟨XA, Xc, rfl⟩ := hX.len
  have hm := hX.1
  unfold maxLen at hm
  obtain ⟨f1, f2, f3⟩ := has_facts op
  have hsm := shapes_small op
  have hr3 := okShape_reg (shapes_ok op)
  have hh1 := fun w => has_any (shapeI op) wrS w (by omega) (by decide)
  have hh2 := fun w => has_any (shapeI op) ikS w (by omega) (by decide)
  have hh3 := fun w => has_any (shapeI op) lS w (by omega) (by decide)
  rw [f1] at hh1
  have HS := Lib.hid (fun w => rshape_any op w)
  obtain ⟨sh, hsh⟩ : ∃ sh, sh = shapeI op := ⟨_, rfl⟩
  rw [← hsh] at hh1 hh2 hh3 HS f1 f2 f3 hsm hr3 ⊢
  obtain ⟨L, hL⟩ : ∃ L, L = lettersOf sh := ⟨_, rfl⟩
  rw [← hL] at f1 f2 f3 hr3 hh1 ⊢
  obtain ⟨v2, hv2⟩ : ∃ v, v = hasV sh ikS := ⟨_, rfl⟩
  obtain ⟨v3, hv3⟩ : ∃ v, v = hasV sh lS := ⟨_, rfl⟩
  rw [← hv2] at hh2 f2
  rw [← hv3] at hh3 f3
  obtain ⟨m, hmv⟩ : ∃ m, m = regN L := ⟨_, rfl⟩
  rw [← hmv] at hh1
  have H1 := Lib.hid hh1
  have HM := Lib.hid hmv
  have hm3 : m ≤ 3 := by omega
  clear hX f1 hh1 hsh hL hv2 hv3 hmv hr3 hsm
  obtain ⟨w1, hw1⟩ : ∃ w1, w1 = (w.alloc (.cells (insCells op a b c n (.slice XA args.length Xc)) 28)) := ⟨_, rfl⟩
  have hb1 : Below w.heap.size w w1 := by rw [hw1]; exact (Below.refl _ w).alloc (Nat.le_refl _) _
  have hrow1 : w1.heap[w.heap.size]? = some (.cells (insCells op a b c n (.slice XA args.length Xc)) 28 (0, 0)) := by rw [hw1]; exact heap_alloc_new _ _
  have HW1 := Lib.hid hw1
  have HB1 := Lib.hid hb1
  have HR1 := Lib.hid hrow1
  clear hw1 hb1 hrow1
  have H2 := Lib.hid hh2
  have H3 := Lib.hid hh3
  clear hh2 hh3
  go_enter Tryz.func108, Tryz.ntmps108
  go_wp2_with (first
    | (go_at_call 35; (with_reducible refine (HS.out _).mono ?_); rintro e w2 ⟨rfl, rfl⟩)
    | (go_at_call 129; (with_reducible refine (H1.out _).mono ?_); rintro e w2 ⟨rfl, kd, rfl⟩))
  rw [← HW1.out]
  obtain ⟨w3, hw3⟩ : ∃ w3, w3 = (w1.drewN kd).alloc (.cells #[.int .i64 a, .int .i64 b, .int .i64 c] 3) := ⟨_, rfl⟩
  have hs1 : w1.heap.size = w.heap.size + 1 := by rw [HW1.out]; simp
  have hb3 : Below w.heap.size w w3 := by rw [hw3]; exact (below_drewN HB1.out kd).alloc HB1.out.size _
  have hrow3 : w3.heap[w.heap.size]? = some (.cells (insCells op a b c n (.slice XA args.length Xc)) 28 (0, 0)) := by
    rw [hw3]
    exact (Below.heap_alloc _ _ _ (show w.heap.size < w1.heap.size from heap_lt HR1.out)).trans HR1.out
  have hreg3 : w3.heap[w.heap.size + 1]? = some (.cells #[.int .i64 a, .int .i64 b, .int .i64 c] 3 (0, 0)) := by rw [hw3, ← hs1]; exact heap_alloc_new (w1.drewN kd) _
  rw [← hw3]
  obtain ⟨c0, c1, c2, c3, c4, c5⟩ := cells6 hrow3
  have HB3 := Lib.hid hb3
  have HRg := Lib.hid hreg3
  obtain ⟨len, hlen⟩ : ∃ len, len = args.length := ⟨_, rfl⟩
  have HLn := Lib.hid hlen
  rw [← hlen] at c5 hm
  clear hb3 hrow3 hreg3 hw3 hs1 hlen c0 c1 c2 c3 HW1 HB1 HR1
  go_loop [6] (fun i => ∃ k : Nat, m ≤ k ∧ k ≤ 3 ∧ i = .int .i64 k ∧ ∀ t, m ≤ t → t < k → [a, b, c].getD t 0 = 0) (fun i => 3 - (intOf i).toNat)
  case atStart => exact ⟨m, Nat.le_refl _, hm3, rfl, fun t h1 h2 => by omega⟩
  case round =>
    obtain ⟨k, hmk, hk3, rfl, hz⟩ := hrel
    have HZ := Lib.hid hz
    clear hz
    by_cases hlt : k < 3
    · obtain ⟨x, hx⟩ : ∃ x, x = [a, b, c].getD k 0 := ⟨_, rfl⟩
      have hcell : w3.cell? ⟨w.heap.size + 1, k, none⟩ = some (.int .i64 x) := by
        rw [hx]
        rcases (show k = 0 ∨ k = 1 ∨ k = 2 by omega) with h | h | h <;> simp [World.cell?, HRg.out, h]
      have HX := Lib.hid hx
      have k0 : (0 : Int) ≤ (k : Int) := by omega
      clear hx
      by_cases hx0 : x = 0
      · have HX0 := Lib.hid hx0
        have e1 : (x != 0) = false := by simpa using hx0
        clear hx0
        go_wp2
        go_round
        case rel => exact ⟨k + 1, by omega, by omega, by go_num, fun t h1 h2 => by
          by_cases e : t = k
          · subst e; rw [← HX.out]; exact HX0.out
          · exact HZ.out t h1 (by omega)⟩
        case measure => simp [intOf]; omega
      · have e1 : (x != 0) = true := by simpa using hx0
        have HE : Hid (bareV L a b c n args = false) := Lib.hid (bare_early (k := k) (by rw [← HM.out]; exact hmk) hlt (by rw [← HX.out]; exact hx0))
        clear hx0
        go_wp2
        go_ret
        rw [HE.out]
        exact ⟨rfl, HB3.out⟩
    · obtain rfl : k = 3 := by omega
      have HBL := Lib.hid (bare_late (L := L) (a := a) (b := b) (c := c) (n := n) (args := args) (fun t h1 h2 => HZ.out t (by rw [HM.out]; exact h1) h2))
      clear HZ hlt hk3 hmk
      by_cases h2 : 0 < v2
      · have HFN : Hid ((hasN L || n == 0) = true) := Lib.hid (by rw [f2.symm.trans (decide_eq_true h2)]; rfl)
        clear f2
        by_cases h3 : 0 < v3
        · have hc : conL L = true := f3.symm.trans (decide_eq_true h3)
          have HE : Hid (bareV L a b c n args = true) := Lib.hid (by rw [HBL.out, hc, HFN.out]; rfl)
          clear hc f3 HFN
          go_wp2_with (first | (go_at_call 129; (with_reducible refine (H2.out _).mono ?_); rintro e w4 ⟨rfl, k2, rfl⟩) | (go_at_call 129; (with_reducible refine (H3.out _).mono ?_); rintro e w4 ⟨rfl, k3, rfl⟩))
          go_ret
          rw [HE.out]
          exact ⟨rfl, by first | exact below_drewN (below_drewN HB3.out _) _ | exact below_drewN HB3.out _ | exact HB3.out⟩
        · have hc : conL L = false := f3.symm.trans (decide_eq_false h3)
          have h30 : v3 = 0 := by omega
          subst h30
          have H3' : Hid (∀ w, Calls Tryz.prog 129 #[.string sh, .string lS] w (Drawn3 w (.int .i64 0))) := Lib.hid (fun w => H3.out w)
          clear H3
          have H3 := H3'
          clear H3' h3 f3
          by_cases hz : len = 0
          · have ha : args.isEmpty = true := by
              have := HLn.out
              rw [hz] at this
              rw [List.eq_nil_of_length_eq_zero this.symm]; rfl
            have HE : Hid (bareV L a b c n args = true) := Lib.hid (by rw [HBL.out, hc, HFN.out, ha]; rfl)
            have e5 : ((len : Int) == 0) = true := by rw [hz]; rfl
            clear hc ha hz HFN
            go_wp2_with (first | (go_at_call 129; (with_reducible refine (H2.out _).mono ?_); rintro e w4 ⟨rfl, k2, rfl⟩) | (go_at_call 129; (with_reducible refine (H3.out _).mono ?_); rintro e w4 ⟨rfl, k3, rfl⟩))
            go_ret
            rw [HE.out]
            exact ⟨rfl, by first | exact below_drewN (below_drewN HB3.out _) _ | exact below_drewN HB3.out _ | exact HB3.out⟩
          · have ha : args.isEmpty = false := by
              cases hh : args with
              | nil => rw [hh] at HLn; exact absurd HLn.out hz
              | cons x xs => rfl
            have HE : Hid (bareV L a b c n args = false) := Lib.hid (by rw [HBL.out, hc, HFN.out, ha]; rfl)
            have e5 : ((len : Int) == 0) = false := by simpa using hz
            clear hc ha hz HFN
            go_wp2_with (first | (go_at_call 129; (with_reducible refine (H2.out _).mono ?_); rintro e w4 ⟨rfl, k2, rfl⟩) | (go_at_call 129; (with_reducible refine (H3.out _).mono ?_); rintro e w4 ⟨rfl, k3, rfl⟩))
            go_ret
            rw [HE.out]
            exact ⟨rfl, by first | exact below_drewN (below_drewN HB3.out _) _ | exact below_drewN HB3.out _ | exact HB3.out⟩
      · have hN : hasN L = false := f2.symm.trans (decide_eq_false h2)
        have h20 : v2 = 0 := by omega
        subst h20
        have H2' : Hid (∀ w, Calls Tryz.prog 129 #[.string sh, .string ikS] w (Drawn3 w (.int .i64 0))) := Lib.hid (fun w => H2.out w)
        clear H2
        have H2 := H2'
        clear H2' h2 f2
        by_cases hn0 : n = 0
        · have HFN : Hid ((hasN L || n == 0) = true) := Lib.hid (by rw [hN, hn0]; rfl)
          have e4 : (n == 0) = true := by simpa using hn0
          clear hN hn0
          by_cases h3 : 0 < v3
          · have hc : conL L = true := f3.symm.trans (decide_eq_true h3)
            have HE : Hid (bareV L a b c n args = true) := Lib.hid (by rw [HBL.out, hc, HFN.out]; rfl)
            clear hc f3 HFN
            go_wp2_with (first | (go_at_call 129; (with_reducible refine (H2.out _).mono ?_); rintro e w4 ⟨rfl, k2, rfl⟩) | (go_at_call 129; (with_reducible refine (H3.out _).mono ?_); rintro e w4 ⟨rfl, k3, rfl⟩))
            go_ret
            rw [HE.out]
            exact ⟨rfl, by first | exact below_drewN (below_drewN HB3.out _) _ | exact below_drewN HB3.out _ | exact HB3.out⟩
          · have hc : conL L = false := f3.symm.trans (decide_eq_false h3)
            have h30 : v3 = 0 := by omega
            subst h30
            have H3' : Hid (∀ w, Calls Tryz.prog 129 #[.string sh, .string lS] w (Drawn3 w (.int .i64 0))) := Lib.hid (fun w => H3.out w)
            clear H3
            have H3 := H3'
            clear H3' h3 f3
            by_cases hz : len = 0
            · have ha : args.isEmpty = true := by
                have := HLn.out
                rw [hz] at this
                rw [List.eq_nil_of_length_eq_zero this.symm]; rfl
              have HE : Hid (bareV L a b c n args = true) := Lib.hid (by rw [HBL.out, hc, HFN.out, ha]; rfl)
              have e5 : ((len : Int) == 0) = true := by rw [hz]; rfl
              clear hc ha hz HFN
              go_wp2_with (first | (go_at_call 129; (with_reducible refine (H2.out _).mono ?_); rintro e w4 ⟨rfl, k2, rfl⟩) | (go_at_call 129; (with_reducible refine (H3.out _).mono ?_); rintro e w4 ⟨rfl, k3, rfl⟩))
              go_ret
              rw [HE.out]
              exact ⟨rfl, by first | exact below_drewN (below_drewN HB3.out _) _ | exact below_drewN HB3.out _ | exact HB3.out⟩
            · have ha : args.isEmpty = false := by
                cases hh : args with
                | nil => rw [hh] at HLn; exact absurd HLn.out hz
                | cons x xs => rfl
              have HE : Hid (bareV L a b c n args = false) := Lib.hid (by rw [HBL.out, hc, HFN.out, ha]; rfl)
              have e5 : ((len : Int) == 0) = false := by simpa using hz
              clear hc ha hz HFN
              go_wp2_with (first | (go_at_call 129; (with_reducible refine (H2.out _).mono ?_); rintro e w4 ⟨rfl, k2, rfl⟩) | (go_at_call 129; (with_reducible refine (H3.out _).mono ?_); rintro e w4 ⟨rfl, k3, rfl⟩))
              go_ret
              rw [HE.out]
              exact ⟨rfl, by first | exact below_drewN (below_drewN HB3.out _) _ | exact below_drewN HB3.out _ | exact HB3.out⟩
        · have e4 : (n == 0) = false := by simpa using hn0
          have HE : Hid (bareV L a b c n args = false) := Lib.hid (by rw [HBL.out, hN, e4]; rfl)
          clear hN hn0 f3 H3
          go_wp2_with (go_at_call 129; (with_reducible refine (H2.out _).mono ?_); rintro e w4 ⟨rfl, k2, rfl⟩)
          go_ret
          rw [HE.out]
          exact ⟨rfl, below_drewN HB3.out _⟩

end Go.Proofs.YtohlifeenhaifaaGreatDoor

/- (RefF06) The document's own way of telling why an instruction may not be (twinshaftref06.Check). Contract; no condition but that the argument is an instruction in memory with at most a thousand million arguments. -/
namespace Go.Proofs.YtohlifeenhaifaaGreatDoor
open Go.RowKit
set_option linter.unusedVariables false
set_option linter.unusedSimpArgs false

theorem step_out {P : Program} {w : World} {ops : Array Oper} {o : Oper} {a : Act} {K : Act → World → Prop} {Q : Exit → Act → World → Prop} {E : Prop} (hgd : o.guard = none) (s x : Operand) (t : TypeId)
    (ho : o.op = .call { callee := .builtin .append, args := #[s, x], argTypes := #[t, t] }) (V X : Value) (hs : a.eval s = V) (hx : a.eval x = X) (R : Value → World → Prop)
    (hr : ∃ V' W', (Builtin.append_ #[t, t] o.type #[V, X]).run P w = .ok V' W' ∧ R V' W') (h : ∀ V' W', R V' W' → K (a.put o.dst V') W') :
    if Region.wanted o (yielded ops a.tmps) = true then Oper.wp P o a w K Q else E := by
  rw [if_pos (by simp [Region.wanted, hgd])]
  obtain ⟨V', W', hrun, hR⟩ := hr
  unfold Oper.wp execOp
  simp only [ho, resolve, invoke, builtin, Sem.run_bind, Sem.run_pure, Result.andThen_ok, List.map_toArray, List.map_cons, List.map_nil, hs, hx, hrun]
  exact h V' W' hR

section
variable {P : Program}
/-- Append of numbers to numbers of one's own. -/
theorem append_nums (w : World) (base : Nat) (t ty e : TypeId) (i : TypeInfo) (ht : P.underlying t = some (.slice e)) (hi : P.info? e = some i) (hz : i.zero = some (.int .i64 0)) (hsize : i.size = 1) (hby : i.bytes = 8)
    (v : Value) (xs ys : List Int) (hown : Owns w base e 1 (IsNum .i64) v xs.length (xs.map (Value.int .i64))) (B : Nat) (X : Value) (hX : IsNums .i64 w B X ys) (h63 : xs.length + ys.length ≤ 2000000000) (hbase : base ≤ w.heap.size) :
    ∃ v' w', (Builtin.append_ #[t, t] ty #[v, X]).run P w = .ok v' w' ∧ (Owns w' base e 1 (IsNum .i64) v' (xs ++ ys).length ((xs ++ ys).map (Value.int .i64)) ∧ w.grownBy w' v.ownBlock) := by
  rcases hX.2 with ⟨rfl, rfl⟩ | ⟨ad, cap, rfl, h1, h2, h3⟩
  · refine ⟨v, w, ?_, by simpa using hown, ⟨rfl, rfl, rfl, Nat.le_refl _, fun _ _ _ => rfl⟩⟩
    rcases hown.1.2 with ⟨rfl, h0⟩ | ⟨g, cap, cur, rfl, _, _, hnc, _⟩
    · simp [Builtin.append_, run_underlying ht, sizeOf, typeInfo, hi, Builtin.lenOf, Builtin.firstCells]
    · simp [Builtin.append_, run_underlying ht, sizeOf, typeInfo, hi, Builtin.lenOf, Builtin.firstCells, hnc, storeCells]
  · obtain ⟨v', w', hr, hO, hg⟩ := run_append_q (P := P) w base t ty e i (.int .i64 0) 1 8 ht hi hz hsize hby rfl (by decide) (IsNum .i64) (zero_num .i64) v xs.length (xs.map (Value.int .i64)) hown ad ys.length cap (ys.map (Value.int .i64)) (by simp) (news_of_nums h3 (fun _ _ => rfl)) (ints_one .i64 ys) (num_cells .i64 ys) (by simp only [maxLen]; omega) (by omega) hbase
    exact ⟨v', w', hr, by simpa using hO, hg⟩
end
theorem quiet_same {P : Program} {f : FuncId} {args : Array Value} {w : World} {n : Nat} {v : Value} (h : Calls P f args (w.drewN n) fun e w' => e = .returned v ∧ w.drewN n = w') :
    Calls P f args (w.drewN n) fun e w'' => e = .returned v ∧ ∃ m, w'' = w.drewN m := h.mono fun _ _ ⟨he, hm⟩ => ⟨he, n, hm.symm⟩
def okR (regs : Int) (x : Int) : Bool := decide (0 ≤ x ∧ x < regs)
/-- Why an instruction may not be, by the document's own way. -/
def rcheckV (op a b c n : Int) (args : List Int) (regs area : Int) : Int :=
  if ¬ (0 ≤ op ∧ op < 33) then 16 else if regs < 0 ∨ 64 < regs ∨ area < 0 ∨ 4096 < area then 2 else if bareV (lettersOf (shapeI op)) a b c n args = false then 2
  else if 8 < args.length then 3 else if ([a, b, c].take (regN (lettersOf (shapeI op))) ++ args).all (okR regs) = false then 5 else if (lettersOf (shapeI op)).all (fun q => numB q n area) = false then 5 else 0
theorem all_not {xs : List Int} {f : Int → Bool} {k : Nat} (h : k < xs.length) (hf : f (xs.getD k 0) = false) : xs.all f = false := by
  rw [List.all_eq_false]
  refine ⟨xs.getD k 0, ?_, by rw [hf]; simp⟩
  simp [List.getD, List.getElem?_eq_getElem h]
theorem all_yes {xs : List Int} {f : Int → Bool} (h : ∀ k, k < xs.length → f (xs.getD k 0) = true) : xs.all f = true := by
  rw [List.all_eq_true]
  intro x hx
  obtain ⟨k, hk, rfl⟩ := List.getElem_of_mem hx
  have := h k hk
  simpa [List.getD, List.getElem?_eq_getElem hk] using this

set_option maxHeartbeats 4000000 in
set_option maxRecDepth 100000 in
theorem rcheck_early (op a b c n : Int) (X : Value) (args : List Int) (regs area : Int) (w : World) (h : ¬ (0 ≤ op ∧ op < 33) ∨ regs < 0 ∨ 64 < regs ∨ area < 0 ∨ 4096 < area) :
    Calls Tryz.prog 86 #[.agg (insCells op a b c n X), .int .i64 regs, .int .i64 area] w (Makes w (.int .i64 (rcheckV op a b c n args regs area))) := by
  have hB0 : Below w.heap.size w (w.alloc (.cells (insCells op a b c n X) 28)) := (Below.refl _ w).alloc (Nat.le_refl _) _
  have HB0 := Lib.hid hB0
  have HE := Lib.hid (fun w => ris_any op w)
  by_cases ho : 0 ≤ op ∧ op < 33
  case neg =>
    have hc : rcheckV op a b c n args regs area = 16 := by unfold rcheckV; rw [if_pos ho]
    have HC := Lib.hid hc
    rw [opB_no ho] at HE
    clear hc ho h hB0
    go_enter Tryz.func86, Tryz.ntmps86
    go_wp2_with (go_at_call 60; (with_reducible refine (HE.out _).mono ?_); rintro e w1 ⟨rfl, rfl⟩)
    go_ret
    rw [HC.out]
    exact ⟨rfl, HB0.out⟩
  rw [opB_yes ho] at HE
  have h2 : regs < 0 ∨ 64 < regs ∨ area < 0 ∨ 4096 < area := h.resolve_left (fun h => h ho)
  have hc : rcheckV op a b c n args regs area = 2 := by unfold rcheckV; rw [if_neg (fun h => h ho), if_pos h2]
  have HC := Lib.hid hc
  clear hc ho h hB0
  by_cases g0 : regs < 0
  · go_enter Tryz.func86, Tryz.ntmps86
    go_wp2_with (go_at_call 60; (with_reducible refine (HE.out _).mono ?_); rintro e w1 ⟨rfl, rfl⟩)
    go_ret
    rw [HC.out]
    exact ⟨rfl, HB0.out⟩
  by_cases g1 : 64 < regs
  · go_enter Tryz.func86, Tryz.ntmps86
    go_wp2_with (go_at_call 60; (with_reducible refine (HE.out _).mono ?_); rintro e w1 ⟨rfl, rfl⟩)
    go_ret
    rw [HC.out]
    exact ⟨rfl, HB0.out⟩
  by_cases g2 : area < 0
  · go_enter Tryz.func86, Tryz.ntmps86
    go_wp2_with (go_at_call 60; (with_reducible refine (HE.out _).mono ?_); rintro e w1 ⟨rfl, rfl⟩)
    go_ret
    rw [HC.out]
    exact ⟨rfl, HB0.out⟩
  by_cases g3 : 4096 < area
  · go_enter Tryz.func86, Tryz.ntmps86
    go_wp2_with (go_at_call 60; (with_reducible refine (HE.out _).mono ?_); rintro e w1 ⟨rfl, rfl⟩)
    go_ret
    rw [HC.out]
    exact ⟨rfl, HB0.out⟩
  omega
set_option maxHeartbeats 4000000 in
set_option maxRecDepth 100000 in
theorem rcheck_late (op a b c n : Int) (X : Value) (args : List Int) (regs area : Int) (w : World) (hX : IsNums .i64 w w.heap.size X args) (ho : 0 ≤ op ∧ op < 33) (h0 : 0 ≤ regs) (h1 : regs ≤ 64) (h2 : 0 ≤ area) (h3 : area ≤ 4096) :
    Calls Tryz.prog 86 #[.agg (insCells op a b c n X), .int .i64 regs, .int .i64 area] w (Makes w (.int .i64 (rcheckV op a b c n args regs area))) := by
  have hB0 : Below w.heap.size w (w.alloc (.cells (insCells op a b c n X) 28)) := (Below.refl _ w).alloc (Nat.le_refl _) _
  have HB0 := Lib.hid hB0
  have HE := Lib.hid (fun w => ris_any op w)
  rw [opB_yes ho] at HE
  obtain ⟨XA, Xc, rfl⟩ := hX.len
  have HX0 := Lib.hid ((hX.below hB0 (Nat.le_refl _)).more hB0.size)
  have HK0 : Hid (SixC (w.alloc (.cells (insCells op a b c n (.slice XA args.length Xc)) 28)) w.heap.size op a b c n (.slice XA args.length Xc)) := Lib.hid (cells6 (heap_alloc_new _ _))
  have HL0 : Hid (w.heap.size < (w.alloc (.cells (insCells op a b c n (.slice XA args.length Xc)) 28)).heap.size) := Lib.hid (by simp)
  have hBr := fun W (h : IsNums .i64 W W.heap.size (.slice XA args.length Xc) args) => bare_any op a b c n (.slice XA args.length Xc) args W h
  have HRg := Lib.hid (fun W => registers_any op a b c n (.slice XA args.length Xc) W)
  have HS := Lib.hid (fun W => rshape_any op W)
  have hsm := shapes_small op
  have hr3 := okShape_reg (shapes_ok op)
  have hc0 : rcheckV op a b c n args regs area = if bareV (lettersOf (shapeI op)) a b c n args = false then 2 else if 8 < args.length then 3 else if ([a, b, c].take (regN (lettersOf (shapeI op))) ++ args).all (okR regs) = false then 5 else if (lettersOf (shapeI op)).all (fun q => numB q n area) = false then 5 else 0 := by
    unfold rcheckV
    rw [if_neg (fun h => h ho), if_neg (by omega)]
  obtain ⟨sh, hsh⟩ : ∃ x, x = shapeI op := ⟨_, rfl⟩
  rw [← hsh] at hc0 hBr HRg HS hsm hr3
  obtain ⟨rs, hrs⟩ : ∃ x, x = [a, b, c].take (regN (lettersOf sh)) := ⟨_, rfl⟩
  have hrl : rs.length ≤ 3 := by rw [hrs]; simp; omega
  rw [← hrs] at hc0 HRg
  obtain ⟨bv, hbv⟩ : ∃ x, x = bareV (lettersOf sh) a b c n args := ⟨_, rfl⟩
  rw [← hbv] at hc0 hBr
  have hm := hX.1
  unfold maxLen at hm
  clear hX hB0 hsh hrs hbv hr3 ho
  cases bv
  · have HBr := Lib.hid hBr
    have HC : Hid (rcheckV op a b c n args regs area = 2) := Lib.hid (by rw [hc0]; rfl)
    clear hBr hc0
    go_enter Tryz.func86, Tryz.ntmps86
    go_wp2_with (first
      | (go_at_call 60; (with_reducible refine (HE.out _).mono ?_); rintro e w1 ⟨rfl, rfl⟩)
      | (go_at_call 108; (with_reducible refine (HBr.out _ HX0.out).mono ?_); rintro e w1 ⟨rfl, hb⟩; have B1 := Lib.hid hb; have HK1 := Lib.hid (six_below HK0.out hb HL0.out); have HX1 := Lib.hid ((HX0.out.below hb (Nat.le_refl _)).more hb.size); have hk1 := HK1.out; obtain ⟨k0, k1, k2, k3, k4, k5⟩ := hk1; clear hb))
    go_ret
    rw [HC.out]
    exact ⟨rfl, HB0.out.trans (B1.out.mono HB0.out.size)⟩
  have HBr := Lib.hid hBr
  clear hBr
  by_cases h8 : 8 < args.length
  · have HC : Hid (rcheckV op a b c n args regs area = 3) := Lib.hid (by rw [hc0]; simp [h8])
    clear hc0
    go_enter Tryz.func86, Tryz.ntmps86
    go_wp2_with (first
      | (go_at_call 60; (with_reducible refine (HE.out _).mono ?_); rintro e w1 ⟨rfl, rfl⟩)
      | (go_at_call 108; (with_reducible refine (HBr.out _ HX0.out).mono ?_); rintro e w1 ⟨rfl, hb⟩; have B1 := Lib.hid hb; have HK1 := Lib.hid (six_below HK0.out hb HL0.out); have HX1 := Lib.hid ((HX0.out.below hb (Nat.le_refl _)).more hb.size); have hk1 := HK1.out; obtain ⟨k0, k1, k2, k3, k4, k5⟩ := hk1; clear hb))
    go_ret
    rw [HC.out]
    exact ⟨rfl, HB0.out.trans (B1.out.mono HB0.out.size)⟩
  rw [if_neg (by simp), if_neg h8] at hc0
  have HC := Lib.hid hc0
  clear hc0
  obtain ⟨i0, hi, hz0, hz1, hz2⟩ := info_parts int_info
  have HI := Lib.hid hi
  have HZ0 := Lib.hid hz0
  have HZ1 := Lib.hid hz1
  have HZ2 := Lib.hid hz2
  clear hi hz0 hz1 hz2
  go_enter Tryz.func86, Tryz.ntmps86
  go_wp2_with (first
    | (go_at_call 60; (with_reducible refine (HE.out _).mono ?_); rintro e w1 ⟨rfl, rfl⟩)
    | (go_at_call 108; (with_reducible refine (HBr.out _ HX0.out).mono ?_); rintro e w1 ⟨rfl, hb⟩; have B1 := Lib.hid hb; have HK1 := Lib.hid (six_below HK0.out hb HL0.out); have HX1 := Lib.hid ((HX0.out.below hb (Nat.le_refl _)).more hb.size); have hk1 := HK1.out; obtain ⟨k0, k1, k2, k3, k4, k5⟩ := hk1; clear hb))
  have W1 := Lib.hid (HB0.out.trans (B1.out.mono HB0.out.size))
  have hL1 : w.heap.size < w1.heap.size := Nat.lt_of_lt_of_le HL0.out B1.out.size
  go_region_held3 (fun w' => w'.cell? ⟨w.heap.size, 0, none⟩ = some (.int .i64 op) ∧ w'.cell? ⟨w.heap.size, 1, none⟩ = some (.int .i64 a) ∧ w'.cell? ⟨w.heap.size, 2, none⟩ = some (.int .i64 b) ∧ w'.cell? ⟨w.heap.size, 3, none⟩ = some (.int .i64 c) ∧ w'.cell? ⟨w.heap.size, 4, none⟩ = some (.int .i64 n) ∧ w'.cell? ⟨w.heap.size, 5, none⟩ = some (.slice XA args.length Xc)) (first | with_reducible exact HK3.out | with_reducible exact HK2.out | go_keep)
    (first
      | (go_at_call 109; (with_reducible refine (HRg.out _).mono ?_); rintro e w2 ⟨v, rfl, hO, hb⟩; have B2 := Lib.hid (below_drewB hb); have HO2 := Lib.hid (show Owns w2 w1.heap.size 3 1 (IsNum .i64) v rs.length (rs.map (Value.int .i64)) from hO); have HK2 := Lib.hid (six_below HK1.out B2.out hL1); have HX2 := Lib.hid ((HX1.out.below B2.out (Nat.le_refl _)).more B2.out.size); clear hb hO)
      | (refine step_out rfl (.tmp 39) (.tmp 41) 26 rfl _ _ rfl rfl _ (append_nums w2 w1.heap.size 26 _ 3 i0 Tryz.underlying26 HI.out HZ0.out HZ1.out HZ2.out v rs args HO2.out w2.heap.size (.slice XA args.length Xc) HX2.out (by omega) B2.out.size) ?_; intro V w3 hV; have HO3 := Lib.hid hV.1; have hG := hV.2; have B3 := Lib.hid (B2.out.grown hG B2.out.size (fun g hg => (HO2.out.lt hg).1)); have HK3 := Lib.hid (six_below HK1.out B3.out hL1); have hk3 := HK3.out; obtain ⟨m0, m1, m2, m3, m4, m5⟩ := hk3; clear hV hG))
  have W3 := Lib.hid (W1.out.trans (B3.out.mono W1.out.size))
  have hY0 : IsNums .i64 w3 w3.heap.size V (rs ++ args) := IsNums.of_owns HO3.out (Nat.le_refl _)
  obtain ⟨ys, hys⟩ : ∃ ys, ys = rs ++ args := ⟨_, rfl⟩
  rw [← hys] at hY0 HC
  clear hys HO3 HK3 B3 HK2 HX2 HO2 B2 W1 HK1 HX1 B1 HK0 HX0 HL0 hL1 hrl
  obtain ⟨A, Cp, rfl⟩ := hY0.len
  have hym := hY0.1
  unfold maxLen at hym
  have HY := Lib.hid hY0
  obtain ⟨len, hlen⟩ : ∃ len, len = ys.length := ⟨_, rfl⟩
  have HLn := Lib.hid hlen
  rw [← hlen] at hym ⊢
  clear hY0 hlen
  go_wp2
  go_loop [8] (fun i => ∃ k : Nat, k ≤ len ∧ i = .int .i64 k ∧ ∀ t, t < k → okR regs (ys.getD t 0) = true) (fun i => len - (intOf i).toNat)
  case atStart => exact ⟨0, Nat.zero_le _, rfl, fun t ht => by omega⟩
  case round =>
    obtain ⟨k, hk, rfl, hs⟩ := hrel
    have HSs := Lib.hid hs
    clear hs
    by_cases hlt : k < len
    · obtain ⟨b', o', cp', he, hlc, _, hcs⟩ := HY.out.plain (by have := HLn.out; omega)
      have hc := hcs k (by have := HLn.out; omega)
      cases he
      obtain ⟨x, hx⟩ : ∃ x, x = ys.getD k 0 := ⟨_, rfl⟩
      rw [← hx] at hc
      have HX := Lib.hid hx
      have k0 : (0 : Int) ≤ (k : Int) := by omega
      rw [← HLn.out] at hlc
      clear hcs hx
      by_cases hx0 : x < 0
      · have HE2 : Hid (rcheckV op a b c n args regs area = 5) := Lib.hid (by rw [HC.out, if_pos (all_not (k := k) (by have := HLn.out; omega) (by rw [← HX.out]; exact decide_eq_false (by omega)))])
        go_wp2
        go_ret
        rw [HE2.out]
        exact ⟨rfl, W3.out⟩
      · by_cases hx1 : regs ≤ x
        · have HE2 : Hid (rcheckV op a b c n args regs area = 5) := Lib.hid (by rw [HC.out, if_pos (all_not (k := k) (by have := HLn.out; omega) (by rw [← HX.out]; exact decide_eq_false (by omega)))])
          go_wp2
          go_ret
          rw [HE2.out]
          exact ⟨rfl, W3.out⟩
        · have HE2 : Hid (okR regs (ys.getD k 0) = true) := Lib.hid (by rw [← HX.out]; exact decide_eq_true (by omega))
          go_wp2
          go_round
          case rel => exact ⟨k + 1, by omega, by go_num, fun t ht => by
            by_cases e : t = k
            · subst e; exact HE2.out
            · exact HSs.out t (by omega)⟩
          case measure => simp [intOf]; omega
    · obtain rfl : k = len := by omega
      have HC2 : Hid (rcheckV op a b c n args regs area = if ((lettersOf sh).all fun q => numB q n area) = false then 5 else 0) := Lib.hid (by rw [HC.out, all_yes (fun t ht => HSs.out t (by have := HLn.out; omega))]; rfl)
      clear HSs HC hlt hk
      go_wp2_with (go_at_call 35; (with_reducible refine (HS.out _).mono ?_); rintro e w4 ⟨rfl, rfl⟩)
      obtain ⟨L, hL⟩ : ∃ L, L = lettersOf sh := ⟨_, rfl⟩
      rw [← hL] at HC2
      have HL := Lib.hid hL
      clear hL
      go_loopw [10] (fun i wr => ∃ k q : Nat, k ≤ sh.size ∧ i = .int .i64 k ∧ wr = w3.drewN q ∧ ∀ t, t < k → numB (L.getD t 0) n area = true) (fun i _ => sh.size - (intOf i).toNat)
      case atStart => exact ⟨0, 0, Nat.zero_le _, rfl, rfl, fun t ht => by omega⟩
      case round =>
        obtain ⟨k, q, hk, rfl, hwr, hs⟩ := hrel
        have HSs := Lib.hid hs
        have n4 : wr.cell? ⟨w.heap.size, 4, none⟩ = some (.int .i64 n) := by rw [hwr]; exact m4
        have WR := Lib.hid (show Below w.heap.size w wr by rw [hwr]; exact below_drewN W3.out _)
        have HWr := Lib.hid hwr
        clear hs hwr
        by_cases hlt : k < sh.size
        · have hLk : L.getD k 0 = (sh[k].toNat : Int) := by
            have h2 : L = lettersOf sh := HL.out
            subst h2
            have hk' : k < (lettersOf sh).length := by rw [letters_len]; exact hlt
            simp only [List.getD, List.getElem?_eq_getElem hk', Option.getD_some]
            exact letters_at sh hlt
          have hnum := fun W => number_any (sh[k].toNat : Int) n area W
          have k0 : (0 : Int) ≤ (k : Int) := by omega
          have HLk := Lib.hid hLk
          obtain ⟨nb, hnb⟩ : ∃ nb, nb = numB (sh[k].toNat : Int) n area := ⟨_, rfl⟩
          have HNb := Lib.hid hnb
          rw [← hnb] at hnum
          clear hLk hnb
          cases nb
          · have HNm := Lib.hid hnum
            have HE2 : Hid (rcheckV op a b c n args regs area = 5) := Lib.hid (by rw [HC2.out, if_pos (all_not (k := k) (by rw [HL.out, letters_len]; exact hlt) (by rw [HLk.out]; exact HNb.out.symm))])
            clear hnum
            go_wp2
            go_quiet ((go_at_call 110; with_reducible exact quiet_same (HNm.out _)))
            go_wp2
            go_ret
            rw [HE2.out]
            exact ⟨rfl, below_drewN WR.out _⟩
          · have HNm := Lib.hid hnum
            clear hnum
            go_wp2
            go_quiet ((go_at_call 110; with_reducible exact quiet_same (HNm.out _)))
            go_wp2
            go_roundw
            case rel => exact ⟨k + 1, q + nq, by omega, by go_num, by rw [HWr.out, World.drewN_drewN], fun t ht => by
              by_cases e : t = k
              · subst e; rw [HLk.out]; exact HNb.out.symm
              · exact HSs.out t (by omega)⟩
            case measure => simp [intOf]; omega
        · obtain rfl : k = sh.size := by omega
          have HE2 : Hid (rcheckV op a b c n args regs area = 0) := Lib.hid (by rw [HC2.out, all_yes (fun t ht => HSs.out t (by rw [HL.out, letters_len] at ht; exact ht))]; rfl)
          go_wp2
          go_ret
          rw [HE2.out]
          exact ⟨rfl, WR.out⟩
theorem rcheck_any (op a b c n : Int) (X : Value) (args : List Int) (regs area : Int) (w : World) (hX : IsNums .i64 w w.heap.size X args) :
    Calls Tryz.prog 86 #[.agg (insCells op a b c n X), .int .i64 regs, .int .i64 area] w (Makes w (.int .i64 (rcheckV op a b c n args regs area))) := by
  by_cases h : ¬ (0 ≤ op ∧ op < 33) ∨ regs < 0 ∨ 64 < regs ∨ area < 0 ∨ 4096 < area
  · exact rcheck_early op a b c n X args regs area w h
  · exact rcheck_late op a b c n X args regs area w hX (by omega) (by omega) (by omega) (by omega) (by omega)

end Go.Proofs.YtohlifeenhaifaaGreatDoor

/- (MathC06) The landed way and the document's own way of telling why an instruction may not be are the same: plain mathematics over both. -/
namespace Go.Proofs.YtohlifeenhaifaaGreatDoor
set_option linter.unusedVariables false
set_option linter.unusedSimpArgs false

def InI (x : Int) : Prop := -9223372036854775808 ≤ x ∧ x < 9223372036854775808
theorem fit_reg {regs area q x : Int} (h : isReg q = true ∨ q = 108) : fitB regs area (q, x) = okR regs x := by
  have hq : q = 119 ∨ q = 114 ∨ q = 108 := by
    rcases h with h | h
    · have := of_decide_eq_true h
      rcases this with h | h
      · exact .inl h
      · exact .inr (.inl h)
    · exact .inr (.inr h)
  rw [Bool.eq_iff_iff]
  rcases hq with rfl | rfl | rfl <;> simp [fitB, limV, okR] <;> omega
theorem fit_num {regs area q n : Int} (hr : isReg q = false) (h8 : q ≠ 108) (hn : InI n) : fitB regs area (q, n) = numB q n area := by
  have hq : q ≠ 119 ∧ q ≠ 114 := not_or.1 (of_decide_eq_false hr)
  unfold InI at hn
  rw [Bool.eq_iff_iff]
  by_cases h107 : q = 107
  · subst h107; simp [fitB, limV, numB]
  by_cases h109 : q = 109
  · subst h109; simp [fitB, limV, numB]
  by_cases h122 : q = 122
  · subst h122; simp [fitB, limV, numB]; omega
  by_cases h102 : q = 102
  · subst h102; simp [fitB, limV, numB]
  by_cases h100 : q = 100
  · subst h100; simp [fitB, limV, numB]
  by_cases h116 : q = 116
  · subst h116; simp [fitB, limV, numB]; omega
  by_cases h99 : q = 99
  · subst h99; simp [fitB, limV, numB]; omega
  simp [fitB, limV, numB, hq, h8, h107, h109, h122, h102, h100, h116, h99]
  omega
theorem num_reg {area q n : Int} (h : isReg q = true ∨ q = 108) : numB q n area = true := by
  have hq : q = 119 ∨ q = 114 ∨ q = 108 := by
    rcases h with h | h
    · have := of_decide_eq_true h
      rcases this with h | h
      · exact .inl h
      · exact .inr (.inl h)
    · exact .inr (.inr h)
  rcases hq with rfl | rfl | rfl <;> rfl
theorem items_all (regs area n : Int) (args : List Int) (hn : InI n) : ∀ (L rs : List Int), regN L ≤ rs.length →
    (itemsL n args L rs).all (fitB regs area) = ((rs.take (regN L)).all (okR regs) && ((!conL L || args.all (okR regs)) && L.all (fun q => numB q n area))) := by
  intro L
  induction L with
  | nil => intro rs _; simp [itemsL, regN, conL]
  | cons q qs ih =>
    intro rs hl
    simp only [itemsL, List.all_append]
    by_cases hr : isReg q = true
    · simp only [regN, hr, if_true] at hl
      cases rs with
      | nil => simp at hl
      | cons r rs =>
        have h1 := ih rs (by simp at hl; omega)
        have e1 : heldOf n args q (r :: rs) = [r] := by simp [heldOf, hr]
        have e2 : restOf q (r :: rs) = rs := by simp [restOf, hr]
        have e3 : regN (q :: qs) = regN qs + 1 := by simp [regN, hr]; omega
        have e4 : conL (q :: qs) = conL qs := by
          rcases of_decide_eq_true hr with h | h <;> simp [conL, h]
        rw [e1, e2, h1, e3, e4]
        simp only [List.map_cons, List.map_nil, List.all_cons, List.all_nil, Bool.and_true, List.take_succ_cons, fit_reg (area := area) (.inl hr), num_reg (n := n) (area := area) (.inl hr), Bool.true_and]
        cases okR regs r <;> simp
    · have hrf : isReg q = false := Bool.eq_false_iff.2 hr
      have e3 : regN (q :: qs) = regN qs := by simp [regN, hrf]
      rw [e3] at hl ⊢
      have e2 : restOf q rs = rs := by simp [restOf, hrf]
      have h1 := ih rs hl
      rw [e2, h1]
      by_cases h8 : q = 108
      · subst h8
        have e1 : heldOf n args 108 rs = args := by simp [heldOf, hrf]
        have e4 : conL (108 :: qs) = true := by simp [conL]
        rw [e1, e4]
        have e5 : (args.map fun x => ((108 : Int), x)).all (fitB regs area) = args.all (okR regs) := by
          rw [List.all_map]
          congr 1
          funext x
          exact fit_reg (.inr rfl)
        rw [e5]
        simp only [List.all_cons, num_reg (n := n) (area := area) (q := 108) (.inr rfl), Bool.true_and, Bool.not_true, Bool.false_or]
        cases args.all (okR regs) <;> cases conL qs <;> simp
      · have e1 : heldOf n args q rs = [n] := by simp [heldOf, hrf, h8]
        have e4 : conL (q :: qs) = conL qs := by simp [conL, h8]
        rw [e1, e4]
        simp only [List.map_cons, List.map_nil, List.all_cons, List.all_nil, Bool.and_true, fit_num hrf h8 hn]
        cases numB q n area <;> simp
theorem check_same (op a b c n : Int) (args : List Int) (regs area : Int) (hn : InI n) : checkV op a b c n args regs area = rcheckV op a b c n args regs area := by
  unfold checkV rcheckV
  by_cases hb : bareV (lettersOf (shapeI op)) a b c n args = false
  · simp only [hb, if_true]
  · have hr3 := okShape_reg (shapes_ok op)
    have h := items_all regs area n args hn (lettersOf (shapeI op)) [a, b, c] (by simpa using hr3)
    have hz : (!conL (lettersOf (shapeI op)) || args.all (okR regs)) = args.all (okR regs) := by
      have hb' : bareV (lettersOf (shapeI op)) a b c n args = true := by simpa using hb
      unfold bareV at hb'
      simp only [Bool.and_eq_true] at hb'
      cases hc : conL (lettersOf (shapeI op)) with
      | true => rfl
      | false =>
        have := hb'.2.2
        rw [hc] at this
        simp at this
        rw [this]; rfl
    rw [hz] at h
    unfold itemsOf
    rw [h, List.all_append]
    generalize ([a, b, c].take (regN (lettersOf (shapeI op)))).all (okR regs) = u
    generalize args.all (okR regs) = v
    generalize (lettersOf (shapeI op)).all (fun q => numB q n area) = t
    cases u <;> cases v <;> cases t <;> simp
end Go.Proofs.YtohlifeenhaifaaGreatDoor

/- (Math08) Modules: which may be, which bytes they are, and what is read of bytes: plain mathematics. -/
namespace Go.Proofs.YtohlifeenhaifaaGreatDoor
set_option linter.unusedVariables false
set_option linter.unusedSimpArgs false

/-- A function, a module. -/
structure FunV where
  params : Int
  regs : Int
  area : Int
  code : List InsV
abbrev FunV.zero : FunV := ⟨0, 0, 0, []⟩
structure ModV where
  data : List Int
  funcs : List FunV
def framedV (p r a : Int) : Bool := decide (0 ≤ r ∧ r ≤ 64 ∧ 0 ≤ p ∧ p ≤ r ∧ p ≤ 8 ∧ 0 ≤ a ∧ a ≤ 4096)
def InsV.err (y : InsV) (r a : Int) : Int := checkV y.op y.a y.b y.c y.n y.args r a
/-- The first error of instructions in a function's frame. -/
def firstC (r a : Int) : List InsV → Int
  | [] => 0
  | y :: l => if y.err r a = 0 then firstC r a l else y.err r a
def FunV.err (f : FunV) : Int := if framedV f.params f.regs f.area then (if joinE f.code = 0 then firstC f.regs f.area f.code else joinE f.code) else 2
def firstF : List FunV → Int
  | [] => 0
  | f :: l => if f.err = 0 then firstF l else f.err
def someV (n : Int) : Bool := decide (1 ≤ n ∧ n ≤ 64)
def ModV.err (m : ModV) : Int := if 8192 < m.data.length then 3 else if someV m.funcs.length then firstF m.funcs else 2
def FunV.bytes (f : FunV) : List Int := bytesV f.params 1 ++ (bytesV f.regs 1 ++ (bytesV f.area 2 ++ (bytesV (allB f.code).length 2 ++ allB f.code)))
def allF (l : List FunV) : List Int := l.flatMap FunV.bytes
def markL : List Int := [84, 87, 1]
def ModV.bytes (m : ModV) : List Int := markL ++ (bytesV m.data.length 2 ++ (m.data ++ (bytesV m.funcs.length 1 ++ allF m.funcs)))

/-! ### What is read -/
/-- A reader: a fault, a place. -/
structure Rd where
  err : Int
  at_ : Int
  pos : Nat
abbrev Rd.zero : Rd := ⟨0, 0, 0⟩
def Rd.need (s : Rd) (h : Bool) (e k : Int) : Rd := if s.err = 0 ∧ h = false then ⟨e, k, s.pos⟩ else s
def takeR (b : List Int) (s : Rd) (n : Nat) : Rd × List Int :=
  if s.err = 0 then (if s.pos + n ≤ b.length then (⟨s.err, s.at_, s.pos + n⟩, (b.drop s.pos).take n) else (⟨4, b.length, s.pos⟩, [])) else (s, [])
def numR (b : List Int) (s : Rd) (n : Nat) : Rd × Int := ((takeR b s n).1, numV (takeR b s n).2)
def cntR (b : List Int) (s : Rd) (most : Int) : Rd := (numR b s 2).1.need (decide ((numR b s 2).2 ≤ most)) 3 s.pos
def blockR (b : List Int) (s : Rd) (most : Int) : Rd × List Int := takeR b (cntR b s most) (numR b s 2).2.toNat
def fun1 (b : List Int) (s : Rd) : Rd × Int := numR b s 1
def fun2 (b : List Int) (s : Rd) : Rd × Int := numR b (fun1 b s).1 1
def fun3 (b : List Int) (s : Rd) : Rd × Int := numR b (fun2 b s).1 2
def fun4 (b : List Int) (s : Rd) : Rd × List Int := blockR b (fun3 b s).1 4096
def funF (b : List Int) (s : Rd) : FunV := ⟨(fun1 b s).2, (fun2 b s).2, (fun3 b s).2, (splitV (fun4 b s).2).l⟩
def funS (b : List Int) (s : Rd) : Rd := (fun4 b s).1.need (decide ((splitV (fun4 b s).2).err = 0)) 10 ((fun4 b s).1.pos - (fun4 b s).2.length)
def funsR (b : List Int) : Nat → Rd → List FunV → Rd × List FunV
  | 0, s, l => (s, l)
  | k + 1, s, l => if s.err = 0 then funsR b k (funS b s) (l ++ [funF b s]) else (s, l)
def headR (b : List Int) : Rd := (takeR b (Rd.zero.need (b.take 3 == markL.take (b.take 3).length) 10 0) 3).1
def dataR (b : List Int) : Rd × List Int := blockR b (headR b) 8192
def manyR (b : List Int) : Rd × Int := numR b (dataR b).1 1
def begR (b : List Int) : Rd := (manyR b).1.need (someV (manyR b).2) 2 (dataR b).1.pos
def allR (b : List Int) : Rd × List FunV := funsR b (manyR b).2.toNat (begR b) []
def endR (b : List Int) : Rd := (allR b).1.need (decide ((allR b).1.pos = b.length)) 4 (allR b).1.pos
def readM (b : List Int) : ModV := ⟨(dataR b).2, (allR b).2⟩
def lastR (b : List Int) : Rd := (endR b).need (decide ((readM b).err = 0)) 2 0
/-- What Get tells: a fault and the module. -/
structure MGot where
  err : Int
  at_ : Int
  m : ModV
def getM (b : List Int) : MGot := if (lastR b).err = 0 then ⟨0, 0, readM b⟩ else ⟨(lastR b).err, (lastR b).at_, ⟨[], []⟩⟩

/-! ### What holds of it -/
section
variable {b : List Int} {s : Rd}
theorem Rd.need_pos (s : Rd) (h : Bool) (e k : Int) : (s.need h e k).pos = s.pos := by unfold Rd.need; split <;> rfl
theorem Rd.need_yes (s : Rd) (e k : Int) : s.need true e k = s := by unfold Rd.need; rw [if_neg (by simp)]
theorem Rd.need_bad {s : Rd} (hs : s.err ≠ 0) (h : Bool) (e k : Int) : s.need h e k = s := by unfold Rd.need; rw [if_neg (fun x => hs x.1)]
theorem Rd.need_no {s : Rd} (hs : s.err = 0) (e k : Int) : s.need false e k = ⟨e, k, s.pos⟩ := by unfold Rd.need; rw [if_pos ⟨hs, rfl⟩]
theorem take_bad {n : Nat} (hs : s.err ≠ 0) : takeR b s n = (s, []) := by unfold takeR; rw [if_neg hs]
theorem take_yes {n : Nat} (hs : s.err = 0) (h : s.pos + n ≤ b.length) : takeR b s n = (⟨s.err, s.at_, s.pos + n⟩, (b.drop s.pos).take n) := by unfold takeR; rw [if_pos hs, if_pos h]
theorem take_no {n : Nat} (hs : s.err = 0) (h : ¬ s.pos + n ≤ b.length) : takeR b s n = (⟨4, b.length, s.pos⟩, []) := by unfold takeR; rw [if_pos hs, if_neg h]
theorem take_pos {n : Nat} (h : s.pos ≤ b.length) : (takeR b s n).1.pos ≤ b.length ∧ s.pos ≤ (takeR b s n).1.pos := by
  unfold takeR
  split
  · split
    · exact ⟨by assumption, Nat.le_add_right _ _⟩
    · exact ⟨h, Nat.le_refl _⟩
  · exact ⟨h, Nat.le_refl _⟩
theorem take_bd {n : Nat} (hb : ∀ x ∈ b, 0 ≤ x ∧ x < 256) : ∀ x ∈ (takeR b s n).2, 0 ≤ x ∧ x < 256 := by
  unfold takeR
  split
  · split
    · exact fun x hx => hb x (List.mem_of_mem_drop (List.mem_of_mem_take hx))
    · simp
  · simp
theorem take_len {n : Nat} : (takeR b s n).2.length ≤ n ∧ (takeR b s n).2.length ≤ b.length := by
  unfold takeR
  split
  · split
    · simp only [List.length_take, List.length_drop]; omega
    · simp
  · simp
theorem num_bd {n : Nat} (hb : ∀ x ∈ b, 0 ≤ x ∧ x < 256) (hn : n ≤ 2) : 0 ≤ (numR b s n).2 ∧ (numR b s n).2 < 65536 := by
  have h := numV_bd (take_bd (s := s) (n := n) hb)
  have hl := (take_len (b := b) (s := s) (n := n)).1
  unfold numR
  refine ⟨h.1, Int.lt_of_lt_of_le h.2 ?_⟩
  have : (256 : Int) ^ (takeR b s n).2.length ≤ 256 ^ 2 := by
    have : (takeR b s n).2.length = 0 ∨ (takeR b s n).2.length = 1 ∨ (takeR b s n).2.length = 2 := by omega
    rcases this with h | h | h <;> rw [h] <;> decide
  simpa using this
theorem num_bad {n : Nat} (hs : s.err ≠ 0) : numR b s n = (s, 0) := by unfold numR; rw [take_bad hs]; rfl
theorem num_pos {n : Nat} (h : s.pos ≤ b.length) : (numR b s n).1.pos ≤ b.length ∧ s.pos ≤ (numR b s n).1.pos := take_pos h
theorem num_ok {n : Nat} (h : (numR b s n).1.err = 0) : s.err = 0 ∧ s.pos + n ≤ b.length ∧ numR b s n = (⟨s.err, s.at_, s.pos + n⟩, numV ((b.drop s.pos).take n)) := by
  by_cases hs : s.err = 0
  · by_cases hl : s.pos + n ≤ b.length
    · exact ⟨hs, hl, by unfold numR; rw [take_yes hs hl]⟩
    · unfold numR at h; rw [take_no hs hl] at h; exact absurd h (by show ¬ (4 : Int) = 0; decide)
  · rw [num_bad hs] at h; exact absurd h hs
theorem need_ok {h : Bool} {e k : Int} (he : e ≠ 0) (h0 : (s.need h e k).err = 0) : s.err = 0 ∧ h = true ∧ s.need h e k = s := by
  by_cases hs : s.err = 0
  · cases h
    · rw [Rd.need_no hs] at h0; exact absurd h0 he
    · exact ⟨hs, rfl, Rd.need_yes _ _ _⟩
  · rw [Rd.need_bad hs] at h0; exact absurd h0 hs
theorem cnt_pos {most : Int} (h : s.pos ≤ b.length) : (cntR b s most).pos ≤ b.length ∧ s.pos ≤ (cntR b s most).pos := by
  unfold cntR; rw [Rd.need_pos]; exact num_pos h
theorem block_pos {most : Int} (h : s.pos ≤ b.length) : (blockR b s most).1.pos ≤ b.length ∧ s.pos ≤ (blockR b s most).1.pos := by
  have h1 := cnt_pos (most := most) h
  have h2 := take_pos (n := (numR b s 2).2.toNat) h1.1
  exact ⟨h2.1, Nat.le_trans h1.2 h2.2⟩
theorem block_bd {most : Int} (hb : ∀ x ∈ b, 0 ≤ x ∧ x < 256) : ∀ x ∈ (blockR b s most).2, 0 ≤ x ∧ x < 256 := take_bd hb
theorem block_len {most : Int} : (blockR b s most).2.length ≤ b.length := take_len.2
theorem block_bad {most : Int} (hs : s.err ≠ 0) : blockR b s most = (s, []) := by
  unfold blockR cntR
  rw [num_bad hs, Rd.need_bad hs, take_bad hs]
/-- Where a block is read, its number stands ahead of it. -/
theorem cnt_two {most : Int} (h : (cntR b s most).err = 0) : 2 ≤ (cntR b s most).pos := by
  unfold cntR at h ⊢
  obtain ⟨h1, h2, h3⟩ := need_ok (by decide) h
  obtain ⟨_, _, h6⟩ := num_ok h1
  rw [h3, h6]
  exact Nat.le_add_left _ _
theorem take_err {n : Nat} (h : (takeR b s n).1.err = 0) : s.err = 0 ∧ s.pos + n ≤ b.length ∧ takeR b s n = (⟨s.err, s.at_, s.pos + n⟩, (b.drop s.pos).take n) := by
  by_cases hs : s.err = 0
  · by_cases hl : s.pos + n ≤ b.length
    · exact ⟨hs, hl, take_yes hs hl⟩
    · rw [take_no hs hl] at h; exact absurd h (by show ¬ (4 : Int) = 0; decide)
  · rw [take_bad hs] at h; exact absurd h hs
theorem block_place {most : Int} (h : s.pos ≤ b.length) : (blockR b s most).2.length ≤ (blockR b s most).1.pos := by
  by_cases h0 : (blockR b s most).1.err = 0
  · obtain ⟨_, _, h3⟩ := take_err h0
    show (takeR b _ _).2.length ≤ (takeR b _ _).1.pos
    rw [h3]
    simp only [List.length_take]
    omega
  · have : (blockR b s most).2 = [] := by
      unfold blockR takeR at h0 ⊢
      split at h0
      · rename_i h1
        rw [if_pos h1]
        split at h0
        · exact absurd h1 h0
        · rename_i h2; rw [if_neg h2]
      · rename_i h1; rw [if_neg h1]
    rw [this]
    exact Nat.zero_le _
theorem fun1_pos (h : s.pos ≤ b.length) : (fun1 b s).1.pos ≤ b.length := (num_pos h).1
theorem fun2_pos (h : s.pos ≤ b.length) : (fun2 b s).1.pos ≤ b.length := (num_pos (fun1_pos h)).1
theorem fun3_pos (h : s.pos ≤ b.length) : (fun3 b s).1.pos ≤ b.length := (num_pos (fun2_pos h)).1
theorem fun4_pos (h : s.pos ≤ b.length) : (fun4 b s).1.pos ≤ b.length := (block_pos (fun3_pos h)).1
theorem fun4_place (h : s.pos ≤ b.length) : (fun4 b s).2.length ≤ (fun4 b s).1.pos := block_place (fun3_pos h)
theorem fun4_bd (hb : ∀ x ∈ b, 0 ≤ x ∧ x < 256) : ∀ x ∈ (fun4 b s).2, 0 ≤ x ∧ x < 256 := block_bd hb
theorem fun4_len : (fun4 b s).2.length ≤ b.length := block_len
theorem fun4_bad (hs : s.err ≠ 0) : fun1 b s = (s, 0) ∧ fun2 b s = (s, 0) ∧ fun3 b s = (s, 0) ∧ fun4 b s = (s, []) := by
  have h1 : fun1 b s = (s, 0) := num_bad hs
  have h2 : fun2 b s = (s, 0) := by unfold fun2; rw [h1]; exact num_bad hs
  have h3 : fun3 b s = (s, 0) := by unfold fun3; rw [h2]; exact num_bad hs
  exact ⟨h1, h2, h3, by unfold fun4; rw [h3]; exact block_bad hs⟩
theorem funS_bad (hs : s.err ≠ 0) : funS b s = s := by
  unfold funS
  rw [(fun4_bad hs).2.2.2]
  exact Rd.need_bad hs _ _ _
theorem funS_pos (h : s.pos ≤ b.length) : (funS b s).pos ≤ b.length := by unfold funS; rw [Rd.need_pos]; exact fun4_pos h
theorem funs_bad (hs : s.err ≠ 0) (l : List FunV) : ∀ k, funsR b k s l = (s, l)
  | 0 => rfl
  | k + 1 => by simp only [funsR, if_neg hs]
theorem funs_go (hs : s.err = 0) (l : List FunV) (k : Nat) : funsR b (k + 1) s l = funsR b k (funS b s) (l ++ [funF b s]) := by simp only [funsR, if_pos hs]
theorem head_pos : (headR b).pos ≤ b.length := (take_pos (by rw [Rd.need_pos]; exact Nat.zero_le _)).1
theorem data_pos : (dataR b).1.pos ≤ b.length := (block_pos head_pos).1
theorem many_pos : (manyR b).1.pos ≤ b.length := (num_pos data_pos).1
theorem beg_pos : (begR b).pos ≤ b.length := by unfold begR; rw [Rd.need_pos]; exact many_pos
theorem funs_pos : ∀ (k : Nat) {s : Rd} (l : List FunV), s.pos ≤ b.length → (funsR b k s l).1.pos ≤ b.length
  | 0, s, l, h => h
  | k + 1, s, l, h => by
    by_cases hs : s.err = 0
    · rw [funs_go hs]; exact funs_pos k _ (funS_pos h)
    · rw [funs_bad hs]; exact h
theorem all_pos : (allR b).1.pos ≤ b.length := funs_pos _ _ beg_pos
theorem end_pos : (endR b).pos ≤ b.length := by unfold endR; rw [Rd.need_pos]; exact all_pos
end
end Go.Proofs.YtohlifeenhaifaaGreatDoor

/- (RefE06) The document's own way of telling whether two instructions are the same (twinshaftref06.Same). Contract; no condition but that the arguments are instructions in memory. -/
namespace Go.Proofs.YtohlifeenhaifaaGreatDoor
open Go.RowKit
set_option linter.unusedVariables false
set_option linter.unusedSimpArgs false

set_option maxHeartbeats 4000000 in
set_option maxRecDepth 100000 in
theorem rsame_any (op a b c n : Int) (X : Value) (args : List Int) (op' a' b' c' n' : Int) (X' : Value) (args' : List Int) (w : World) (hX : IsNums .i64 w w.heap.size X args) (hX' : IsNums .i64 w w.heap.size X' args') :
    Calls Tryz.prog 78 #[.agg (insCells op a b c n X), .agg (insCells op' a' b' c' n' X')] w (Makes w (.bool (sameV op a b c n args op' a' b' c' n' args'))) := by
  obtain ⟨A1, C1, rfl⟩ := hX.len
  obtain ⟨A2, C2, rfl⟩ := hX'.len
  have hm := hX.1
  have hm' := hX'.1
  unfold maxLen at hm hm'
  have hB0 : Below w.heap.size w ((w.alloc (.cells (insCells op a b c n (.slice A1 args.length C1)) 28)).alloc (.cells (insCells op' a' b' c' n' (.slice A2 args'.length C2)) 28)) := ((Below.refl _ w).alloc (Nat.le_refl _) _).alloc (by simp) _
  have HX := Lib.hid (hX.below hB0 (Nat.le_refl _))
  have HX' := Lib.hid (hX'.below hB0 (Nat.le_refl _))
  have HB := Lib.hid hB0
  clear hX hX' hB0
  by_cases h0 : op = op'
  case neg =>
    have hf : sameV op a b c n args op' a' b' c' n' args' = false := decide_eq_false (fun h => h0 (by exact h.1))
    have e1 : (op != op') = true := by simpa using h0
    have HF := Lib.hid hf
    clear hf h0
    go_enter Tryz.func78, Tryz.ntmps78
    go_wp2
    go_ret
    rw [HF.out]
    exact ⟨rfl, HB.out⟩
  subst h0
  by_cases h1 : a = a'
  case neg =>
    have hf : sameV op a b c n args op a' b' c' n' args' = false := decide_eq_false (fun h => h1 (by exact h.2.1))
    have e1 : (a != a') = true := by simpa using h1
    have HF := Lib.hid hf
    clear hf h1
    go_enter Tryz.func78, Tryz.ntmps78
    go_wp2
    go_ret
    rw [HF.out]
    exact ⟨rfl, HB.out⟩
  subst h1
  by_cases h2 : b = b'
  case neg =>
    have hf : sameV op a b c n args op a b' c' n' args' = false := decide_eq_false (fun h => h2 (by exact h.2.2.1))
    have e1 : (b != b') = true := by simpa using h2
    have HF := Lib.hid hf
    clear hf h2
    go_enter Tryz.func78, Tryz.ntmps78
    go_wp2
    go_ret
    rw [HF.out]
    exact ⟨rfl, HB.out⟩
  subst h2
  by_cases h3 : c = c'
  case neg =>
    have hf : sameV op a b c n args op a b c' n' args' = false := decide_eq_false (fun h => h3 (by exact h.2.2.2.1))
    have e1 : (c != c') = true := by simpa using h3
    have HF := Lib.hid hf
    clear hf h3
    go_enter Tryz.func78, Tryz.ntmps78
    go_wp2
    go_ret
    rw [HF.out]
    exact ⟨rfl, HB.out⟩
  subst h3
  by_cases h4 : n = n'
  case neg =>
    have hf : sameV op a b c n args op a b c n' args' = false := decide_eq_false (fun h => h4 (by exact h.2.2.2.2.1))
    have e1 : (n != n') = true := by simpa using h4
    have HF := Lib.hid hf
    clear hf h4
    go_enter Tryz.func78, Tryz.ntmps78
    go_wp2
    go_ret
    rw [HF.out]
    exact ⟨rfl, HB.out⟩
  subst h4
  have hf : sameV op a b c n args op a b c n args' = sameL args args' := by simp [sameV, sameL]
  have HF := Lib.hid hf
  clear hf
  by_cases hl : args.length = args'.length
  case neg =>
    have HL := Lib.hid (sameL_len hl)
    obtain ⟨p, hp⟩ : ∃ p, p = args.length := ⟨_, rfl⟩
    obtain ⟨q, hq⟩ : ∃ q, q = args'.length := ⟨_, rfl⟩
    rw [← hp, ← hq] at HB
    rw [← hp, ← hq]
    have e3 : decide (p = q) = false := decide_eq_false (by omega)
    have e1 : ((p : Int) != (q : Int)) = true := by simp; omega
    rw [← hp] at hm
    rw [← hq] at hm'
    clear hp hq hl HX HX'
    go_enter Tryz.func78, Tryz.ntmps78
    go_wp2
    go_ret
    rw [HF.out, HL.out]
    exact ⟨rfl, HB.out⟩
  obtain ⟨w2, hw2⟩ : ∃ w2, w2 = ((w.alloc (.cells (insCells op a b c n (.slice A1 args.length C1)) 28)).alloc (.cells (insCells op a b c n (.slice A2 args'.length C2)) 28)) := ⟨_, rfl⟩
  have hr1 : w2.heap[w.heap.size]? = some (.cells (insCells op a b c n (.slice A1 args.length C1)) 28 (0, 0)) := by
    rw [hw2, Below.heap_alloc _ _ _ (by simp)]; exact heap_alloc_new _ _
  have hr2 : w2.heap[w.heap.size + 1]? = some (.cells (insCells op a b c n (.slice A2 args'.length C2)) 28 (0, 0)) := by
    have := heap_alloc_new (w.alloc (.cells (insCells op a b c n (.slice A1 args.length C1)) 28)) (.cells (insCells op a b c n (.slice A2 args'.length C2)) 28)
    rw [World.size_alloc] at this
    rw [hw2]; exact this
  rw [← hw2] at HB HX HX'
  have c5 := (cells6 hr1).2.2.2.2.2
  have d5 := (cells6 hr2).2.2.2.2.2
  have HW := Lib.hid hw2
  clear hr1 hr2 hw2
  by_cases hp : 0 < args.length
  · obtain ⟨b1, o1, c1', e1, r1, _, g1⟩ := HX.out.plain hp
    obtain ⟨b2, o2, c2', e2, r2, _, g2⟩ := HX'.out.plain (by omega)
    cases e1
    cases e2
    have H1 := Lib.hid g1
    rw [← hl] at g2 d5
    have H2 := Lib.hid g2
    rw [← hl] at HW
    rw [← hl]
    obtain ⟨N, hn⟩ : ∃ N, N = args.length := ⟨_, rfl⟩
    have HN1 := Lib.hid hn.symm
    have HN2 := Lib.hid (hl.symm.trans hn.symm)
    rw [← hn] at H1 H2 hm HW c5 d5 ⊢
    clear g1 g2 HX HX' hp hl hn r1 r2 hm'
    go_enter Tryz.func78, Tryz.ntmps78
    go_wp2
    rw [← HW.out]
    go_loopw [5] (fun i wr => ∃ k q : Nat, k ≤ N ∧ i = .int .i64 k ∧ wr = w2.drewN q ∧ ∀ t, t < k → args.getD t 0 = args'.getD t 0) (fun i _ => N - (intOf i).toNat)
    case atStart => exact ⟨0, 0, by omega, rfl, rfl, fun t ht => by omega⟩
    case round =>
      obtain ⟨k, q, hk, rfl, rfl, hs⟩ := hrel
      have HS := Lib.hid hs
      clear hs
      by_cases hlt : k < N
      · have g1 := H1.out k hlt
        have g2 := H2.out k hlt
        obtain ⟨x, hx⟩ : ∃ x, x = args.getD k 0 := ⟨_, rfl⟩
        obtain ⟨y, hy⟩ : ∃ y, y = args'.getD k 0 := ⟨_, rfl⟩
        rw [← hx] at g1
        rw [← hy] at g2
        have HXY := Lib.hid (And.intro hx hy)
        clear hx hy
        have k0 : (0 : Int) ≤ (k : Int) := by omega
        have k1 : (k : Int) < (N : Int) := by omega
        by_cases hxy : x = y
        · have e1 : (x == y) = true := by simpa using hxy
          have e2 : (x != y) = false := by simpa using hxy
          have HE := Lib.hid hxy
          clear hxy
          go_wp2
          go_quiet (fail)
          go_wp2
          go_roundw
          case rel => exact ⟨k + 1, _, by omega, by go_num, rfl, fun t ht => by
            by_cases e : t = k
            · subst e
              exact HXY.out.1.symm.trans (HE.out.trans HXY.out.2)
            · exact HS.out t (by omega)⟩
          case measure => simp [intOf]; omega
        · have e1 : (x == y) = false := by simpa using hxy
          have e2 : (x != y) = true := by simpa using hxy
          have HE : Hid (sameL args args' = false) := Lib.hid (sameL_at (k := k) (by rw [← HXY.out.1, ← HXY.out.2]; exact hxy))
          clear hxy
          go_wp2
          go_quiet (fail)
          go_wp2
          go_ret
          rw [HF.out, HE.out]
          exact ⟨rfl, below_drewN (below_drewN HB.out _) _⟩
      · obtain rfl : k = N := by omega
        have HE := Lib.hid (sameL_all HN1.out HN2.out HS.out)
        go_wp2
        go_ret
        rw [HF.out, HE.out]
        exact ⟨rfl, below_drewN HB.out _⟩
  · have h0 : args.length = 0 := by omega
    have h1 : args'.length = 0 := by omega
    have HE := Lib.hid (sameL_all h0 h1 (fun k hk => by omega))
    rw [h0] at c5 HW
    rw [h1] at d5 HW
    rw [h0, h1]
    clear HX HX' hp h0 h1 hl hm hm'
    go_enter Tryz.func78, Tryz.ntmps78
    go_wp2
    rw [← HW.out]
    go_loopw [5] (fun i wr => i = .int .i64 0 ∧ wr = w2) (fun i _ => 0)
    case atStart => exact ⟨rfl, rfl⟩
    case round =>
      obtain ⟨rfl, rfl⟩ := hrel
      go_wp2
      go_ret
      rw [HF.out, HE.out]
      exact ⟨rfl, HB.out⟩

end Go.Proofs.YtohlifeenhaifaaGreatDoor

/- (Open06) How an instruction that is handed to a statement is opened: a struct of five numbers and a slice of numbers. Plain lemmas; no condition but what each names. -/
namespace Go.Proofs.YtohlifeenhaifaaGreatDoor
open Go.RowKit Go.ChangeShapes Go.WideShapes
set_option linter.unusedVariables false

theorem IsNums.of_cells {K : IntKind} {w : World} {x : Addr} {len cap : Nat} {zs : List Int} (hl : len ≤ cap) (hm : cap ≤ maxLen) (hz : zs.length = cap) (hc : ∀ i, i < zs.length → w.cell? (x.add i) = some (.int K (zs.getD i 0))) :
    IsNums K w w.heap.size (.slice (some x) len cap) (zs.take len) := by
  have hlen : (zs.take len).length = len := by simp; omega
  refine ⟨by omega, .inr ⟨x, cap, by rw [hlen], by omega, fun hn => ?_, fun i hi => ?_⟩⟩
  · have h := block_lt_of_cell (hc 0 (by omega))
    have e : (x.add 0).block = x.block := by unfold Addr.add; split <;> rfl
    omega
  · rw [hlen] at hi
    rw [hc i (by omega)]
    simp [List.getD, hi]
structure InsIn (op a b c n : Int) : Prop where
  op : InI op
  a : InI a
  b : InI b
  c : InI c
  n : InI n
theorem open_nums {H : Type} {enc : TypeId × Value → H} {w : World} {fuel : Nat} {c : Value} {x : DataW H × List MemPlace} (h : DataW.trod enc Tryz.prog w 0 (fun _ => true) true fuel 26 [c] = some x) : ∃ zs, IsNums .i64 w w.heap.size c zs := by
  rcases open_ints Tryz.underlying26 Tryz.underlying3 (by kernel_rfl) h with ⟨hcs, _⟩ | ⟨a, l, cap, zs, hcs, _, hl, hm, hz, _, hcell, hwz⟩
  · injection hcs with hcs _
    subst hcs
    exact ⟨[], by simp, .inl ⟨rfl, rfl⟩⟩
  · injection hcs with hcs _
    subst hcs
    exact ⟨_, IsNums.of_cells hl hm (by simpa using hz) hcell⟩
set_option maxRecDepth 100000 in
theorem open_ins {H : Type} {enc : TypeId × Value → H} {w : World} {fuel : Nat} {cs : List Value} {x : DataW H × List MemPlace} (h : DataW.trod enc Tryz.prog w 0 (fun _ => true) true fuel 28 cs = some x) :
    ∃ op a b c n X args, cs = [.int .i64 op, .int .i64 a, .int .i64 b, .int .i64 c, .int .i64 n, X] ∧ IsNums .i64 w w.heap.size X args ∧ InsIn op a b c n := by
  obtain ⟨xs, n, _, _, hl, hx, hf⟩ := DataW.trod_struct Tryz.underlying28 h
  have hC : Tryz.prog.cellsOf 28 = 6 := by kernel_rfl
  have c1 : Tryz.prog.cellsOf 3 = 1 := by kernel_rfl
  have c2 : Tryz.prog.cellsOf 26 = 1 := by kernel_rfl
  rw [hC] at hl
  match cs, hl with
  | [v0, v1, v2, v3, v4, v5], _ =>
    match xs, hx with
    | [y0, y1, y2, y3, y4, y5], _ =>
      have h0 := hf 0 _ rfl
      have h1 := hf 1 _ rfl
      have h2 := hf 2 _ rfl
      have h3 := hf 3 _ rfl
      have h4 := hf 4 _ rfl
      have h5 := hf 5 _ rfl
      simp [c1] at h0
      simp [c1] at h1
      simp [c1] at h2
      simp [c1] at h3
      simp [c1] at h4
      simp [c2] at h5
      obtain ⟨a, e0, _, w0⟩ := DataW.trod_int Tryz.underlying3 h0
      obtain ⟨b, e1, _, w1⟩ := DataW.trod_int Tryz.underlying3 h1
      obtain ⟨c, e2, _, w2⟩ := DataW.trod_int Tryz.underlying3 h2
      obtain ⟨d, e3, _, w3⟩ := DataW.trod_int Tryz.underlying3 h3
      obtain ⟨f, e4, _, w4⟩ := DataW.trod_int Tryz.underlying3 h4
      obtain ⟨zs, hz⟩ := open_nums (c := v5) h5
      injection e0 with e0 _
      injection e1 with e1 _
      injection e2 with e2 _
      injection e3 with e3 _
      injection e4 with e4 _
      subst e0 e1 e2 e3 e4
      exact ⟨a, b, c, d, f, v5, zs, rfl, hz, ⟨wf_i64 w0, wf_i64 w1, wf_i64 w2, wf_i64 w3, wf_i64 w4⟩⟩
set_option maxRecDepth 100000 in
theorem open_ins_value {H : Type} {enc : TypeId × Value → H} {w : World} {r : Reach} {b0 : Nat} {v : Value} {d : DataW H} {p : List MemPlace} (hv : Value.okWide Tryz.prog w r b0 28 v)
    (h : DataW.Trod enc Tryz.prog w 0 (fun _ => true) true 28 v d p) : ∃ op a b c n X args, v = .agg (insCells op a b c n X) ∧ IsNums .i64 w w.heap.size X args ∧ InsIn op a b c n := by
  obtain ⟨cs, rfl, hsz⟩ := okWide_struct Tryz.underlying28 hv
  obtain ⟨fuel, hf⟩ := h
  obtain ⟨op, a, b, c, n, X, args, hA, hok, hin⟩ := open_ins hf
  refine ⟨op, a, b, c, n, X, args, ?_, hok, hin⟩
  obtain ⟨l⟩ := cs
  simp [Value.cells] at hA
  subst hA
  rfl
theorem trod_places {H : Type} {enc : TypeId × Value → H} {w : World} {t : TypeId} {v : Value} {d : DataW H} {p : List MemPlace} (h : DataW.Trod enc Tryz.prog w 0 (fun _ => true) true t v d p) : ∀ x ∈ p, x.block < w.heap.size := by
  obtain ⟨m, hm⟩ := h
  exact DataW.trod_lt m _ _ _ hm
end Go.Proofs.YtohlifeenhaifaaGreatDoor

/- (TwoG) Two copies and the boxes for them, made in whatever order: of any kind. Plain lemmas; no condition but what each names. -/
namespace Go.Proofs.YtohlifeenhaifaaGreatDoor
open Go.RowKit
set_option linter.unusedVariables false
set_option linter.unusedSimpArgs false
/-- What stays true where memory grows, and where blocks of a kind are written. -/
def Stab (T : TypeId) (q : World → Prop) : Prop :=
  (∀ W W', Below W.heap.size W W' → q W → q W') ∧ ∀ (R : Nat → Prop) W W', But R W W' → (∀ k, R k → ∃ c, W.heap[k]? = some (.cells c T (0, 0))) → q W → q W'
/-- Above B0: empty boxes stand at A, copies C. -/
structure PkG (T : TypeId) (z : Array Value) (B0 W : World) (A : List Nat) (C : List (World → Prop)) : Prop where
  bel : Below B0.heap.size B0 W
  al : ∀ p ∈ A, B0.heap.size ≤ p ∧ p < W.heap.size ∧ W.heap[p]? = some (.cells z T (0, 0))
  cp : ∀ q ∈ C, Stab T q ∧ q W
section
variable {T : TypeId} {z : Array Value} {B0 W W' : World} {A : List Nat} {C : List (World → Prop)} {q : World → Prop}
theorem PkG.start (T : TypeId) (z : Array Value) (w : World) : PkG T z w w [] [] := ⟨Below.refl _ w, by simp, by simp⟩
theorem PkG.grow (h : PkG T z B0 W A C) (hb : Below W.heap.size W W') : PkG T z B0 W' A C :=
  ⟨h.bel.trans (hb.mono h.bel.size), fun p hp => by
    obtain ⟨h1, h2, h3⟩ := h.al p hp
    exact ⟨h1, Nat.lt_of_lt_of_le h2 hb.size, (hb.block p h2).trans h3⟩, fun q hq => ⟨(h.cp q hq).1, (h.cp q hq).1.1 _ _ hb (h.cp q hq).2⟩⟩
theorem PkG.drew (h : PkG T z B0 W A C) : PkG T z B0 W.drew A C := h.grow (Below.refl W.heap.size W).drew
theorem PkG.alloc (h : PkG T z B0 W A C) : PkG T z B0 (W.alloc (.cells z T)) (W.heap.size :: A) C := by
  have hb : Below W.heap.size W (W.alloc (.cells z T)) := (Below.refl _ W).alloc (Nat.le_refl _) _
  have hg := h.grow hb
  refine ⟨hg.bel, fun p hp => ?_, hg.cp⟩
  rcases List.mem_cons.1 hp with rfl | hp
  · exact ⟨h.bel.size, by simp, heap_alloc_new _ _⟩
  · exact hg.al p hp
theorem PkG.call (h : PkG T z B0 W A C) (hb : Below W.heap.size W W') (hs : Stab T q) (hq : q W') : PkG T z B0 W' A (q :: C) := by
  have hg := h.grow hb
  refine ⟨hg.bel, hg.al, fun q' hq' => ?_⟩
  rcases List.mem_cons.1 hq' with rfl | hq'
  · exact ⟨hs, hq⟩
  · exact hg.cp q' hq'
theorem PkG.bel_but (h : PkG T z B0 W A C) (hb : But (fun k => k ∈ A) W W') : Below B0.heap.size B0 W' :=
  But.below h.bel hb h.bel.size (fun k hk => (h.al k hk).1)
theorem PkG.cp_but (h : PkG T z B0 W A C) (hb : But (fun k => k ∈ A) W W') (hq : q ∈ C) : q W' :=
  (h.cp q hq).1.2 _ _ _ hb (fun k hk => ⟨_, (h.al k hk).2.2⟩) (h.cp q hq).2
theorem PkG.lt (h : PkG T z B0 W A C) {p : Nat} (hp : p ∈ A) : p < W.heap.size := (h.al p hp).2.1
theorem PkG.blk (h : PkG T z B0 W A C) {p : Nat} (hp : p ∈ A) : W.heap[p]? = some (.cells z T (0, 0)) := (h.al p hp).2.2
theorem PkG.free (h : PkG T z B0 W A C) {p : Nat} (hp : p ∈ A) (k : Nat) : W.frozen? ⟨p, k, none⟩ = false := by
  simp [World.frozen?, h.blk hp]
theorem PkG.cell (h : PkG T z B0 W A C) {p k : Nat} {v : Value} (hp : p ∈ A) (hv : z[k]? = some v) : W.cell? ⟨p, k, none⟩ = some v := by
  simp [World.cell?, h.blk hp, hv]
end
theorem by_fun' {P : Program} {md : Region.Mode} {ops : Array Oper} {Q : Exit → Act → World → Prop} {S : World → Prop} {fuel : Nat} {listed : Array Bool} {a : Act} {w : World} (h : ∀ G : Nat → Array Bool → Act → World → Prop, G = wpAnyH P md ops Q S → G fuel listed a w) : wpAnyH P md ops Q S fuel listed a w := h _ rfl
end Go.Proofs.YtohlifeenhaifaaGreatDoor
