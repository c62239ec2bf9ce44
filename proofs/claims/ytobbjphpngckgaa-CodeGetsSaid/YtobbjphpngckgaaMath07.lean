/- What bytes an instruction is, and which instruction bytes are: plain mathematics. -/
import Derived.Test.YtobbjphpngckgaaCheck06
import Derived.Test.YtobbjphpngckgaaNumB07
namespace Go.Proofs.Ytobbjphpngckgaa
set_option linter.unusedVariables false
set_option linter.unusedSimpArgs false

/-- An instruction. -/
structure InsV where
  op : Int
  a : Int
  b : Int
  c : Int
  n : Int
  args : List Int
abbrev InsV.zero : InsV := ⟨0, 0, 0, 0, 0, []⟩
def InsV.chk (y : InsV) : Int := checkV y.op y.a y.b y.c y.n y.args 64 4096
/-- How many bytes a letter's field has. -/
def widthV (q : Int) : Nat := if q = 105 then 8 else if q = 102 then 2 else if q = 100 then 2 else if q = 116 then 2 else 1
/-- A letter's bytes. -/
def heldB (n : Int) (args : List Int) (q : Int) (rs : List Int) : List Int :=
  if isReg q then bytesV (rs.headD 0) 1 else if q = 108 then bytesV args.length 1 ++ args.flatMap (fun x => bytesV x 1) else bytesV n (widthV q)
def putL (n : Int) (args : List Int) : List Int → List Int → List Int
  | [], _ => []
  | q :: qs, rs => heldB n args q rs ++ putL n args qs (restOf q rs)
def InsV.letters (y : InsV) : List Int := lettersOf (shapeI y.op)
def InsV.bytes (y : InsV) : List Int := bytesV y.op 1 ++ putL y.n y.args y.letters [y.a, y.b, y.c]

/-- What has been read. -/
structure RdV where
  pos : Nat
  rs : List Int
  n : Int
  args : List Int
def wrapI (x : Int) : Int := IntKind.i64.wrap x
def readQ (b : List Int) (q : Int) (s : RdV) : Int × RdV :=
  if q = 108 then
    if b.length < s.pos + 1 then (4, s)
    else if 8 < b.getD s.pos 0 then (3, s)
    else if b.length < s.pos + 1 + (b.getD s.pos 0).toNat then (4, s)
    else (0, ⟨s.pos + 1 + (b.getD s.pos 0).toNat, s.rs, s.n, (b.drop (s.pos + 1)).take (b.getD s.pos 0).toNat⟩)
  else if b.length < s.pos + widthV q then (4, s)
  else if isReg q then (0, ⟨s.pos + widthV q, s.rs ++ [numV ((b.drop s.pos).take (widthV q))], s.n, s.args⟩)
  else (0, ⟨s.pos + widthV q, s.rs, wrapI (numV ((b.drop s.pos).take (widthV q))), s.args⟩)
def readL (b : List Int) : List Int → RdV → Int × RdV
  | [], s => (0, s)
  | q :: qs, s => if (readQ b q s).1 = 0 then readL b qs (readQ b q s).2 else readQ b q s
def insOf (op : Int) (s : RdV) : InsV := ⟨op, s.rs.getD 0 0, s.rs.getD 1 0, s.rs.getD 2 0, s.n, s.args⟩
/-- What Get tells. -/
structure GotV where
  err : Int
  at_ : Int
  y : InsV
  next : Nat
def startV (at_ : Nat) : RdV := ⟨at_ + 1, [], 0, []⟩
def getI (b : List Int) (k : Nat) : GotV :=
  if k = b.length then ⟨4, b.length, .zero, 0⟩
  else if 33 ≤ b.getD k 0 then ⟨16, k, .zero, 0⟩
  else if (readL b (lettersOf (shapeI (b.getD k 0))) (startV k)).1 = 4 then ⟨4, b.length, .zero, 0⟩
  else if (readL b (lettersOf (shapeI (b.getD k 0))) (startV k)).1 = 3 then ⟨3, k, .zero, 0⟩
  else if (insOf (b.getD k 0) (readL b (lettersOf (shapeI (b.getD k 0))) (startV k)).2).chk ≠ 0 then ⟨5, k, .zero, 0⟩
  else ⟨0, 0, insOf (b.getD k 0) (readL b (lettersOf (shapeI (b.getD k 0))) (startV k)).2, (readL b (lettersOf (shapeI (b.getD k 0))) (startV k)).2.pos⟩
def gotV (b : List Int) (at_ : Int) : GotV := if at_ < 0 ∨ b.length < at_ then ⟨2, 0, .zero, 0⟩ else getI b at_.toNat
/-- What Split tells. -/
structure SplitV where
  err : Int
  at_ : Int
  l : List InsV
  ps : List Int
def splitF (b : List Int) : Nat → Nat → List InsV → List Int → SplitV
  | 0, _, l, ps => ⟨0, 0, l, ps⟩
  | k + 1, at_, l, ps => if at_ < b.length then (if (getI b at_).err = 0 then splitF b k (getI b at_).next (l ++ [(getI b at_).y]) (ps ++ [(at_ : Int)]) else ⟨(getI b at_).err, (getI b at_).at_, [], []⟩) else ⟨0, 0, l, ps⟩
def splitV (b : List Int) : SplitV := if 4096 < b.length then ⟨3, 4096, [], []⟩ else splitF b (b.length + 1) 0 [] []
/-- What Join tells. -/
def allB (l : List InsV) : List Int := l.flatMap InsV.bytes
def firstE : List InsV → Int
  | [] => 0
  | y :: l => if y.chk = 0 then firstE l else y.chk
def joinE (l : List InsV) : Int := if firstE l = 0 then (if 4096 < (allB l).length then 3 else 0) else firstE l
def joinB (l : List InsV) : List Int := if joinE l = 0 then allB l else []

/-! ### The shapes -/
def isNumQ (q : Int) : Bool := !isReg q && !(q == 108)
def okLetters (s : ByteArray) : Bool := (lettersOf s).all (fun q => [119, 114, 108, 107, 109, 122, 102, 100, 116, 99, 105].contains q) && decide (((lettersOf s).filter (fun q => q == 108)).length ≤ 1) && decide (((lettersOf s).filter isNumQ).length ≤ 1)
theorem letters_ok (op : Int) : okLetters (shapeI op) = true := by
  unfold shapeI
  split
  · rename_i h
    have h2 : shapeL.all okLetters = true := by kernel_rfl
    have hl : shapeL.length = 33 := by kernel_rfl
    have hk : op.toNat < shapeL.length := by omega
    have e : shapeB op.toNat = shapeL[op.toNat] := by simp [shapeB, List.getD, hk]
    rw [e]
    exact List.all_eq_true.1 h2 _ (List.getElem_mem hk)
  · rfl
/-- Letters that the shapes have. -/
structure GoodL (L : List Int) : Prop where
  mem : ∀ q ∈ L, q ∈ ([119, 114, 108, 107, 109, 122, 102, 100, 116, 99, 105] : List Int)
  one : (L.filter (fun q => q == 108)).length ≤ 1
  num : (L.filter isNumQ).length ≤ 1
theorem goodL_of (op : Int) : GoodL (lettersOf (shapeI op)) := by
  have h := letters_ok op
  unfold okLetters at h
  rw [Bool.and_eq_true, Bool.and_eq_true] at h
  refine ⟨fun q hq => ?_, of_decide_eq_true h.1.2, of_decide_eq_true h.2⟩
  have := List.all_eq_true.1 h.1.1 q hq
  simpa using this
theorem GoodL.tail {q : Int} {L : List Int} (h : GoodL (q :: L)) : GoodL L := by
  refine ⟨fun x hx => h.mem x (List.mem_cons_of_mem _ hx), ?_, ?_⟩
  · have := h.one
    simp only [List.filter_cons] at this
    split at this
    · simp only [List.length_cons] at this; omega
    · exact this
  · have := h.num
    simp only [List.filter_cons] at this
    split at this
    · simp only [List.length_cons] at this; omega
    · exact this
theorem GoodL.con {L : List Int} (h : GoodL (108 :: L)) : conL L = false := by
  have h1 := h.one
  rw [List.filter_cons_of_pos (by decide), List.length_cons] at h1
  unfold conL
  rw [List.any_eq_false]
  intro q hq hq2
  have hm : q ∈ L.filter (fun q => q == 108) := List.mem_filter.2 ⟨hq, hq2⟩
  have := List.length_pos_of_mem hm
  omega
theorem GoodL.hasN {q : Int} {L : List Int} (h : GoodL (q :: L)) (hq : isNumQ q = true) : hasN L = false := by
  have := h.num
  simp only [List.filter_cons, hq, if_true, List.length_cons] at this
  unfold Go.Proofs.Ytobbjphpngckgaa.hasN
  rw [List.any_eq_false]
  intro q' hq' hq2
  have hm : q' ∈ L.filter isNumQ := List.mem_filter.2 ⟨hq', hq2⟩
  have := List.length_pos_of_mem hm
  omega
theorem bytesV_one (a : Int) : bytesV a 1 = [a % 256] := by simp [bytesV, byteV]
theorem numV_one (x : Int) : numV [x] = x := by simp [numV]
theorem width_le (q : Int) : 1 ≤ widthV q ∧ widthV q ≤ 8 := by unfold widthV; (repeat' split) <;> omega
theorem width_sized (q : Int) : sizedB (widthV q) = true := by
  unfold widthV sizedB
  repeat' split
  all_goals simp
theorem reg_width {q : Int} (h : isReg q = true) : widthV q = 1 := by
  unfold isReg at h
  have h := of_decide_eq_true h
  rcases h with rfl | rfl <;> rfl
theorem args_bytes : ∀ (args : List Int), (args.flatMap (fun x => bytesV x 1)) = args.map (· % 256)
  | [] => rfl
  | x :: xs => by rw [List.flatMap_cons, args_bytes xs, bytesV_one]; rfl
theorem heldB_bd {n : Int} {args : List Int} {q : Int} {rs : List Int} : ∀ x ∈ heldB n args q rs, 0 ≤ x ∧ x < 256 := by
  unfold heldB
  split
  · exact bytesV_bd _ _
  · split
    · intro x hx
      rcases List.mem_append.1 hx with hx | hx
      · exact bytesV_bd _ _ x hx
      · obtain ⟨y, _, hy⟩ := List.mem_flatMap.1 hx
        exact bytesV_bd _ _ x hy
    · exact bytesV_bd _ _
theorem putL_bd {n : Int} {args : List Int} : ∀ {L rs : List Int}, ∀ x ∈ putL n args L rs, 0 ≤ x ∧ x < 256
  | [], _ => by simp [putL]
  | q :: L, rs => by
    intro x hx
    rcases List.mem_append.1 hx with hx | hx
    · exact heldB_bd x hx
    · exact putL_bd x hx
theorem InsV.bytes_bd (y : InsV) : ∀ x ∈ y.bytes, 0 ≤ x ∧ x < 256 := by
  intro x hx
  rcases List.mem_append.1 hx with hx | hx
  · exact bytesV_bd _ _ x hx
  · exact putL_bd x hx
theorem heldB_len {n : Int} {args : List Int} {q : Int} {rs : List Int} : 1 ≤ (heldB n args q rs).length ∧ (heldB n args q rs).length ≤ 8 + args.length := by
  have hw := width_le q
  unfold heldB
  split
  · rw [bytesV_len]; omega
  · split
    · rw [args_bytes, List.length_append, bytesV_len, List.length_map]; omega
    · rw [bytesV_len]; omega
theorem putL_len {n : Int} {args : List Int} : ∀ {L rs : List Int}, (putL n args L rs).length ≤ L.length * (8 + args.length)
  | [], _ => by simp [putL]
  | q :: L, rs => by
    have h1 := (heldB_len (n := n) (args := args) (q := q) (rs := rs)).2
    have h2 := putL_len (n := n) (args := args) (L := L) (rs := restOf q rs)
    simp only [putL, List.length_append, List.length_cons, Nat.add_mul, Nat.one_mul]
    omega
end Go.Proofs.Ytobbjphpngckgaa
