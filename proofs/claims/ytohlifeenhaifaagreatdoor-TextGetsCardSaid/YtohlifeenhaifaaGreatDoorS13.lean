/- Lemmas of Mod08L, Mod08M, Mod08N, Mod08O, Math08B, each with its own remark. -/
import Derived.Test.YtohlifeenhaifaaGreatDoorS12
import Derived.Test.YtohlifeenhaifaaGreatDoorS09
import Derived.Test.YtohlifeenhaifaaGreatDoorS08
import Derived.Test.YtohlifeenhaifaaGreatDoorS05
import Derived.Test.YtohlifeenhaifaaGreatDoorS10
/- (Mod08L) The landed reader: function. Contract; no condition but that the reader lies in memory, its place within its bytes, and that what it has read so far was made by append. -/
namespace Go.Proofs.YtohlifeenhaifaaGreatDoor
open Go.RowKit Go.Shelf
set_option linter.unusedVariables false
set_option linter.unusedSimpArgs false

theorem other_type {W : World} {g : Nat} {c c' : Array Value} {t t' : TypeId} (h : W.heap[g]? = some (.cells c t (0, 0))) (h' : W.heap[g]? = some (.cells c' t' (0, 0))) : t = t' := by
  rw [h] at h'
  injection h' with h'
  injection h' with _ h' _
section
variable {base : Nat} {W W' : World} {rb B : Nat} {X D F : Value} {b : List Int} {s s' : Rd} {data : List Int} {fs : List FunV} {Cs : List Value}
end
theorem splitF_bad {b : List Int} : ∀ (f k : Nat) (l : List InsV) (ps : List Int), (splitF b f k l ps).err ≠ 0 → (splitF b f k l ps).l = []
  | 0, k, l, ps, h => absurd rfl h
  | f + 1, k, l, ps, h => by
    unfold splitF at h ⊢
    split at h
    · rename_i h1
      rw [if_pos h1]
      split at h
      · rename_i h2
        rw [if_pos h2]
        exact splitF_bad f _ _ _ h
      · rename_i h2
        rw [if_neg h2]
    · exact absurd rfl h
theorem splitV_bad {b : List Int} (h : (splitV b).err ≠ 0) : (splitV b).l = [] := by
  unfold splitV at h ⊢
  split
  · rfl
  · rename_i h1
    rw [if_neg h1] at h
    exact splitF_bad _ _ _ _ h
theorem splitV_len {b : List Int} (hb : ∀ x ∈ b, 0 ≤ x ∧ x < 256) : (splitV b).l.length ≤ b.length := by
  by_cases h : (splitV b).err = 0
  · obtain ⟨_, _, h3⟩ := splitV_ok hb h
    have := all_length (splitV b).l
    rw [h3] at this
    exact this
  · rw [splitV_bad h]
    exact Nat.zero_le _
theorem split_one {w : World} {b : List Int} {e : Ending} {w' : World} (h : SplitDone w (splitV b) e w') : ∃ V P k Xs, e = .returned (.tuple #[V, P, .agg #[.int .i64 (splitV b).err, .int .i64 k]]) ∧ OwnC w.heap.size w' V (splitV b).l Xs ∧ Below w.heap.size w w' := by
  obtain ⟨hb, ⟨h1, rfl⟩ | ⟨h1, V, P, Xs, rfl, ho, hp⟩⟩ := h
  · exact ⟨_, _, _, [], rfl, by rw [splitV_bad h1]; exact OwnC.nil _ _, hb⟩
  · exact ⟨V, P, 0, Xs, by rw [h1], ho, hb⟩
theorem fun_bd {b : List Int} {s : Rd} (hb : ∀ x ∈ b, 0 ≤ x ∧ x < 256) : FunB (funF b s) := by
  have h1 := num_bd (b := b) (s := s) (n := 1) hb (by omega)
  have h2 := num_bd (b := b) (s := (fun1 b s).1) (n := 1) hb (by omega)
  have h3 := num_bd (b := b) (s := (fun2 b s).1) (n := 2) hb (by omega)
  exact ⟨by unfold InI; show _ ∧ _; exact ⟨by have := h1.1; show _ ≤ (numR b s 1).2; omega, by have := h1.2; show (numR b s 1).2 < _; omega⟩, by unfold InI; exact ⟨by have := h2.1; show _ ≤ (numR b (fun1 b s).1 1).2; omega, by have := h2.2; show (numR b (fun1 b s).1 1).2 < _; omega⟩, by unfold InI; exact ⟨by have := h3.1; show _ ≤ (numR b (fun2 b s).1 2).2; omega, by have := h3.2; show (numR b (fun2 b s).1 2).2 < _; omega⟩⟩
/-- An append of one function at a step of a region that draws. -/
theorem step_outF {W : World} {ops : Array Oper} {o : Oper} {a : Act} {K : Act → World → Prop} {Q : Exit → Act → World → Prop} {E : Prop} (hgd : o.guard = none) (s x : Operand)
    (ho : o.op = .call { callee := .builtin .append, args := #[s, x], argTypes := #[23, 23] }) {V C : Value} {l : List FunV} {Cs : List Value} {f : FunV} {base g : Nat} (hs : a.eval s = V) (hx : a.eval x = .slice (some ⟨g, 0, none⟩) 1 1) (hgs : g = W.heap.size)
    (h : OwnF 53 base W V l Cs) (hC : CodeAt base W C f.code) (hf : FunB f) (hb : base ≤ W.heap.size) (hl : l.length ≤ 1000000)
    (hK : ∀ V' W', MoreF 53 base W W' V V' l Cs f C ∧ (V'.ownBlock = V.ownBlock ∨ V'.ownBlock = some (W.heap.size + 1)) → K (a.put o.dst V') W') :
    if Region.wanted o (yielded ops a.tmps) = true then Oper.wp Tryz.prog o a (W.alloc (.cells #[.int .i64 f.params, .int .i64 f.regs, .int .i64 f.area, C] 53)) K Q else E := by
  subst hgs
  refine step_out hgd s x _ ho V _ hs hx (fun V' W' => MoreF 53 base W W' V V' l Cs f C ∧ (V'.ownBlock = V.ownBlock ∨ V'.ownBlock = some (W.heap.size + 1))) ?_ fun V' W' hh => hK V' W' hh
  obtain ⟨V', W', hr, hm⟩ := run_outF (ty := o.type) Tryz.underlying23 func_info rfl (by decide) (by decide) h hC hf hb hl
  refine ⟨V', W', hr, hm, ?_⟩
  obtain ⟨i, hi, h1, h2, h3⟩ := info_parts func_info
  have ha : Below W.heap.size W (W.alloc (.cells #[.int .i64 f.params, .int .i64 f.regs, .int .i64 f.area, C] 53)) := (Below.refl W.heap.size W).alloc (Nat.le_refl _) _
  obtain ⟨V2, W2, hr2, _, _, hw2⟩ := run_append_where (P := Tryz.prog) _ base 23 o.type 53 i _ 4 48 Tryz.underlying23 hi h1 h2 h3 rfl (by decide) V l.length (cellsF l Cs) (Owns.below h.own ha (Nat.le_refl _)).1 ⟨W.heap.size, 0, none⟩ 1 1 (by decide) (funList f C) rfl (one_fun W f C 53) (by intro u hu; simp [funList] at hu; rcases hu with rfl | rfl | rfl | rfl <;> first | rfl | exact hC.one) (by unfold maxLen; omega) (by omega) (by simp; omega)
  rw [hr] at hr2
  injection hr2 with e1 e2
  subst e1
  simpa using hw2
end Go.Proofs.YtohlifeenhaifaaGreatDoor

/- (Mod08M) The landed reader: function. Contract; no condition but that the reader lies in memory, its place within its bytes, and that what it has read so far was made by append. -/
namespace Go.Proofs.YtohlifeenhaifaaGreatDoor
open Go.RowKit Go.Shelf
set_option linter.unusedVariables false
set_option linter.unusedSimpArgs false

end Go.Proofs.YtohlifeenhaifaaGreatDoor

/- (Mod08N) The landed reader: functions. Contract; no condition but that the reader lies in memory, its place within its bytes, and that it has read no function yet. -/
namespace Go.Proofs.YtohlifeenhaifaaGreatDoor
open Go.RowKit Go.Shelf
set_option linter.unusedVariables false
set_option linter.unusedSimpArgs false

/-- What holds of the functions that have been read so far. -/
def RunF (b : List Int) (q k : Nat) (sb sr : Rd) (fs : List FunV) : Prop := (sr.err = 0 → funsR b q sb [] = funsR b (q - k) sr fs) ∧ (sr.err ≠ 0 → (funsR b q sb []).1 = sr)
theorem run_start (b : List Int) (q : Nat) (sb : Rd) : RunF b q 0 sb sb [] := ⟨fun _ => rfl, fun h => by rw [funs_bad h]⟩
theorem run_step {b : List Int} {q k : Nat} {sb sr : Rd} {fs fs' : List FunV} (h : RunF b q k sb sr fs) (hk : k < q) (hf : (funS b sr).err = 0 → fs' = fs ++ [funF b sr]) : RunF b q (k + 1) sb (funS b sr) fs' := by
  by_cases h0 : sr.err = 0
  · have h1 := h.1 h0
    rw [show q - k = (q - (k + 1)) + 1 by omega, funs_go h0] at h1
    refine ⟨fun he => by rw [hf he]; exact h1, fun he => ?_⟩
    rw [h1, funs_bad he]
  · rw [funS_bad h0]
    exact ⟨fun he => absurd he h0, fun _ => h.2 h0⟩
theorem run_end {b : List Int} {q : Nat} {sb sr : Rd} {fs : List FunV} (h : RunF b q q sb sr fs) : (funsR b q sb []).1 = sr ∧ (sr.err = 0 → fs = (funsR b q sb []).2) := by
  by_cases h0 : sr.err = 0
  · have h1 := h.1 h0
    rw [Nat.sub_self] at h1
    rw [h1]
    exact ⟨rfl, fun _ => rfl⟩
  · exact ⟨h.2 h0, fun he => absurd he h0⟩
theorem but_own8 {w wr w2 : World} {rb : Nat} {F : Value} (h : But (OneBlock rb) w wr) (hb : But (fun k => k = rb ∨ some k = F.ownBlock) wr w2) (hF : ∀ g, F.ownBlock = some g → w.heap.size ≤ g) : But (OneBlock rb) w w2 :=
  ⟨hb.os.trans h.os, hb.tape.trans h.tape, hb.output.trans h.output, Nat.le_trans h.size hb.size, fun k hk hn => (hb.block k (Nat.lt_of_lt_of_le hk h.size) (fun e => by
    rcases e with e | e
    · exact hn e
    · have := hF k e.symm
      omega)).trans (h.block k hk hn)⟩
end Go.Proofs.YtohlifeenhaifaaGreatDoor

/- (Mod08O) The landed module.Get: which module bytes are, or what is wrong with them. Contract; no condition but that the bytes are at most a million. -/
namespace Go.Proofs.YtohlifeenhaifaaGreatDoor
open Go.RowKit Go.Shelf
set_option linter.unusedVariables false
set_option linter.unusedSimpArgs false

/-- What Get leaves. -/
def MGotDone (w : World) (g : MGot) (e : Ending) (w' : World) : Prop :=
  ∃ D F Cs, e = .returned (.tuple #[.agg #[D, F], .agg #[.int .i64 g.err, .int .i64 g.at_]]) ∧ OutB w w' D g.m.data ∧ OwnF 53 0 w' F g.m.funcs Cs
abbrev set22 (W : World) (m g : Nat) (v0 v1 u0 u1 : Value) : World := (((W.setCell ⟨m, 0, none⟩ v0).setCell ⟨m, 1, none⟩ v1).setCell ⟨g, 0, none⟩ u0).setCell ⟨g, 1, none⟩ u1
theorem only22 (W : World) (m g : Nat) (v0 v1 u0 u1 : Value) : But (TwoBlocks m g) W (set22 W m g v0 v1 u0 u1) :=
  ((((but_one W m 0 v0).trans (but_one _ m 1 v1)).mono fun k hk => .inl hk).trans ((but_one _ g 0 u0).mono fun k hk => .inr hk)).trans ((but_one _ g 1 u1).mono fun k hk => .inr hk)
theorem mget_bad {b : List Int} (h : (lastR b).err ≠ 0) : getM b = ⟨(lastR b).err, (lastR b).at_, ⟨[], []⟩⟩ := by unfold getM; rw [if_neg h]
theorem mget_ok {b : List Int} (h : (lastR b).err = 0) : getM b = ⟨0, 0, readM b⟩ := by unfold getM; rw [if_pos h]
theorem mlast_ok {b : List Int} (h : (lastR b).err = 0) : (endR b).err = 0 ∧ (allR b).1.err = 0 ∧ (readM b).err = 0 ∧ (allR b).1.pos = b.length := by
  obtain ⟨h1, h2, _⟩ := need_ok (by decide) h
  obtain ⟨h3, h4, _⟩ := need_ok (by decide) h1
  exact ⟨h1, h3, of_decide_eq_true h2, of_decide_eq_true h4⟩
theorem mget_zero {w W : World} {D F : Value} {data : List Int} {fs : List FunV} {Cs : List Value} {m g : Obj} (h : Below w.heap.size w W ∧ Owns W w.heap.size 5 1 IsU8 D data.length (data.map (Value.int .u8)) ∧ OwnF 53 0 W F fs Cs ∧ W.heap[w.heap.size]? = some m ∧ W.heap[w.heap.size + 1]? = some g) :
    Below w.heap.size w W.drew ∧ Owns W.drew w.heap.size 5 1 IsU8 (.slice none 0 0) 0 [] ∧ OwnF 53 0 W.drew (.slice none 0 0) [] [] ∧ W.drew.heap[w.heap.size]? = some m ∧ W.drew.heap[w.heap.size + 1]? = some g := ⟨h.1.drew, Owns.nil _ _ _ _ _, OwnF.nil _ _ _, h.2.2.2.1, h.2.2.2.2⟩
end Go.Proofs.YtohlifeenhaifaaGreatDoor

/- (Math08B) A module's bytes are read as it; what is read is put as these bytes: plain mathematics. -/
namespace Go.Proofs.YtohlifeenhaifaaGreatDoor
set_option linter.unusedVariables false
set_option linter.unusedSimpArgs false

theorem drop_next {b x r : List Int} {p : Nat} (h : b.drop p = x ++ r) : b.drop (p + x.length) = r := by
  rw [← List.drop_drop, h, List.drop_left]
theorem drop_len {b x r : List Int} {p : Nat} (hp : p ≤ b.length) (h : b.drop p = x ++ r) : p + x.length ≤ b.length := by
  have := congrArg List.length h
  simp only [List.length_drop, List.length_append] at this
  omega
theorem take_at {b x r : List Int} {s : Rd} (hs : s.err = 0) (hp : s.pos ≤ b.length) (h : b.drop s.pos = x ++ r) : takeR b s x.length = (⟨s.err, s.at_, s.pos + x.length⟩, x) := by
  rw [take_yes hs (drop_len hp h), h, List.take_left]
theorem num_at {b r : List Int} {s : Rd} {a : Int} {n : Nat} (hs : s.err = 0) (hp : s.pos ≤ b.length) (h : b.drop s.pos = bytesV a n ++ r) (h0 : 0 ≤ a) (ha : a < 256 ^ n) : numR b s n = (⟨s.err, s.at_, s.pos + n⟩, a) := by
  have h1 := take_at hs hp h
  rw [bytesV_len] at h1
  unfold numR
  rw [h1]
  show (_, numV (bytesV a n)) = _
  rw [numV_bytesV, Int.emod_eq_of_lt h0 ha]
theorem block_at {b x r : List Int} {s : Rd} {most : Int} (hs : s.err = 0) (hp : s.pos ≤ b.length) (h : b.drop s.pos = bytesV x.length 2 ++ (x ++ r)) (hm : (x.length : Int) ≤ most) (hx : x.length < 65536) : blockR b s most = (⟨s.err, s.at_, s.pos + 2 + x.length⟩, x) := by
  have h1 : numR b s 2 = (⟨s.err, s.at_, s.pos + 2⟩, (x.length : Int)) := num_at hs hp h (by omega) (by
    have : (256 : Int) ^ 2 = 65536 := rfl
    omega)
  have h2 := drop_next h
  have h3 := drop_len hp h
  rw [bytesV_len] at h2 h3
  unfold blockR cntR
  rw [h1]
  simp only [decide_eq_true hm, Rd.need_yes, Int.toNat_natCast]
  exact take_at (s := ⟨s.err, s.at_, s.pos + 2⟩) hs h3 h2
theorem frame_ok {f : FunV} (h : f.err = 0) : 0 ≤ f.params ∧ f.params < 256 ∧ 0 ≤ f.regs ∧ f.regs < 256 ∧ 0 ≤ f.area ∧ f.area < 65536 ∧ joinE f.code = 0 := by
  unfold FunV.err at h
  by_cases h1 : framedV f.params f.regs f.area = true
  · rw [if_pos h1] at h
    have h2 := of_decide_eq_true h1
    by_cases h3 : joinE f.code = 0
    · omega
    · rw [if_neg h3] at h; exact absurd h h3
  · rw [if_neg h1] at h; exact absurd h (by decide)
theorem fun_at {b r : List Int} {s : Rd} {f : FunV} (hs : s.err = 0) (hp : s.pos ≤ b.length) (hf : f.err = 0) (h : b.drop s.pos = f.bytes ++ r) : funS b s = ⟨s.err, s.at_, s.pos + f.bytes.length⟩ ∧ funF b s = f := by
  obtain ⟨p0, p1, r0, r1, a0, a1, hj⟩ := frame_ok hf
  have hl := (first_all hj).2
  unfold FunV.bytes at h
  simp only [List.append_assoc] at h
  have e256 : (256 : Int) ^ 1 = 256 := rfl
  have e2 : (256 : Int) ^ 2 = 65536 := rfl
  have h1 : fun1 b s = (⟨s.err, s.at_, s.pos + 1⟩, f.params) := num_at hs hp h p0 (by omega)
  have d1 := drop_next h
  have l1 := drop_len hp h
  rw [bytesV_len] at d1 l1
  have h2 : fun2 b s = (⟨s.err, s.at_, s.pos + 1 + 1⟩, f.regs) := by
    unfold fun2
    rw [h1]
    exact num_at (s := ⟨s.err, s.at_, s.pos + 1⟩) hs l1 d1 r0 (by omega)
  have d2 := drop_next d1
  have l2 := drop_len l1 d1
  rw [bytesV_len] at d2 l2
  have h3 : fun3 b s = (⟨s.err, s.at_, s.pos + 1 + 1 + 2⟩, f.area) := by
    unfold fun3
    rw [h2]
    exact num_at (s := ⟨s.err, s.at_, s.pos + 1 + 1⟩) hs l2 d2 a0 (by omega)
  have d3 := drop_next d2
  have l3 := drop_len l2 d2
  rw [bytesV_len] at d3 l3
  have h4 : fun4 b s = (⟨s.err, s.at_, s.pos + 1 + 1 + 2 + 2 + (allB f.code).length⟩, allB f.code) := by
    unfold fun4
    rw [h3]
    exact block_at (s := ⟨s.err, s.at_, s.pos + 1 + 1 + 2⟩) hs l3 d3 (by omega) (by omega)
  have hsp := split_join hj
  have hlen : f.bytes.length = 6 + (allB f.code).length := by
    unfold FunV.bytes
    simp only [List.length_append, bytesV_len]
    omega
  constructor
  · unfold funS
    rw [h4, hsp]
    simp only [decide_true, Rd.need_yes]
    congr 1
    omega
  · unfold funF
    rw [h1, h2, h3, h4, hsp]
theorem funs_at {b r : List Int} : ∀ (fs : List FunV) (s : Rd) (l : List FunV), s.err = 0 → s.pos ≤ b.length → (∀ f ∈ fs, f.err = 0) → b.drop s.pos = allF fs ++ r → funsR b fs.length s l = (⟨s.err, s.at_, s.pos + (allF fs).length⟩, l ++ fs)
  | [], s, l, hs, hp, hf, h => by simp [funsR, allF]
  | f :: fs, s, l, hs, hp, hf, h => by
    have e : allF (f :: fs) = f.bytes ++ allF fs := by simp [allF]
    rw [e, List.append_assoc] at h
    obtain ⟨h1, h2⟩ := fun_at hs hp (hf f (by simp)) h
    have d1 := drop_next h
    have l1 := drop_len hp h
    rw [List.length_cons, funs_go hs, h1, h2]
    have := funs_at fs ⟨s.err, s.at_, s.pos + f.bytes.length⟩ (l ++ [f]) hs l1 (fun g hg => hf g (List.mem_cons_of_mem _ hg)) d1
    rw [this, e, List.length_append]
    simp only [List.append_assoc, List.cons_append, List.nil_append, Nat.add_assoc]
theorem merr_parts {m : ModV} (h : m.err = 0) : m.data.length ≤ 8192 ∧ 1 ≤ m.funcs.length ∧ m.funcs.length ≤ 64 ∧ ∀ f ∈ m.funcs, f.err = 0 := by
  unfold ModV.err at h
  by_cases hd : 8192 < m.data.length
  · rw [if_pos hd] at h; exact absurd h (by decide)
  · rw [if_neg hd] at h
    by_cases hs : someV m.funcs.length = true
    · rw [if_pos hs] at h
      have := of_decide_eq_true hs
      refine ⟨by omega, by omega, by omega, ?_⟩
      intro f hf
      have : ∀ {l : List FunV}, firstF l = 0 → ∀ f ∈ l, f.err = 0 := by
        intro l
        induction l with
        | nil => simp
        | cons g l ih =>
          intro h f hf
          simp only [firstF] at h
          by_cases hg : g.err = 0
          · rw [if_pos hg] at h
            rcases List.mem_cons.1 hf with rfl | hf
            · exact hg
            · exact ih h f hf
          · rw [if_neg hg] at h; exact absurd h hg
      exact this h f hf
    · rw [if_neg hs] at h; exact absurd h (by decide)
/-- A module's bytes, and more behind them. -/
theorem get_of {m : ModV} (h : m.err = 0) (rest : List Int) : getM (m.bytes ++ rest) = if rest = [] then ⟨0, 0, m⟩ else ⟨4, m.bytes.length, ⟨[], []⟩⟩ := by
  obtain ⟨hd, h1, h64, hf⟩ := merr_parts h
  obtain ⟨b, hb⟩ : ∃ b, b = m.bytes ++ rest := ⟨_, rfl⟩
  rw [← hb]
  have hb' := hb
  unfold ModV.bytes at hb'
  simp only [List.append_assoc] at hb'
  have d0 : b.drop (Rd.zero).pos = markL ++ (bytesV m.data.length 2 ++ (m.data ++ (bytesV m.funcs.length 1 ++ (allF m.funcs ++ rest)))) := by rw [hb']; rfl
  have e3 : b.take 3 = markL := by rw [hb']; rfl
  have hh : headR b = ⟨0, 0, 3⟩ := by
    unfold headR
    rw [e3]
    have e : (markL == markL.take markL.length) = true := rfl
    rw [e, Rd.need_yes]
    have := take_at (b := b) (s := Rd.zero) rfl (Nat.zero_le _) d0
    rw [show markL.length = 3 from rfl] at this
    rw [this]
  have d1 := drop_next d0
  have l1 := drop_len (Nat.zero_le _) d0
  have hD : dataR b = (⟨0, 0, 3 + 2 + m.data.length⟩, m.data) := by
    unfold dataR
    rw [hh]
    exact block_at (s := ⟨0, 0, 3⟩) rfl l1 d1 (by omega) (by omega)
  have d2 := drop_next d1
  have l2 := drop_len l1 d1
  rw [bytesV_len] at d2 l2
  have d3 := drop_next d2
  have l3 := drop_len l2 d2
  have p3 : (Rd.zero).pos + markL.length + 2 + m.data.length = 3 + 2 + m.data.length := rfl
  rw [p3] at d3 l3
  have hM : manyR b = (⟨0, 0, 3 + 2 + m.data.length + 1⟩, (m.funcs.length : Int)) := by
    unfold manyR
    rw [hD]
    exact num_at (s := ⟨0, 0, 3 + 2 + m.data.length⟩) rfl l3 d3 (by omega) (by
      have : (256 : Int) ^ 1 = 256 := rfl
      omega)
  have d4 := drop_next d3
  have l4 := drop_len l3 d3
  rw [bytesV_len] at d4 l4
  have hS : someV (m.funcs.length : Int) = true := decide_eq_true (by omega)
  have hB : begR b = ⟨0, 0, 3 + 2 + m.data.length + 1⟩ := by
    unfold begR
    rw [hM]
    simp only [hS, Rd.need_yes]
  have hA : allR b = (⟨0, 0, 3 + 2 + m.data.length + 1 + (allF m.funcs).length⟩, m.funcs) := by
    unfold allR
    rw [hB, hM]
    have := funs_at m.funcs ⟨0, 0, 3 + 2 + m.data.length + 1⟩ [] rfl l4 hf d4
    simp only [Int.toNat_natCast]
    rw [this]
    rfl
  have hlen : m.bytes.length = 3 + 2 + m.data.length + 1 + (allF m.funcs).length := by
    unfold ModV.bytes
    simp only [List.length_append, bytesV_len, show markL.length = 3 from rfl]
    omega
  have hbl : b.length = m.bytes.length + rest.length := by rw [hb, List.length_append]
  have hrd : readM b = m := by unfold readM; rw [hD, hA]
  by_cases hr : rest = []
  · rw [if_pos hr]
    have hE : endR b = ⟨0, 0, 3 + 2 + m.data.length + 1 + (allF m.funcs).length⟩ := by
      unfold endR
      rw [hA]
      simp only
      rw [decide_eq_true (by rw [hbl, hlen, hr]; rfl), Rd.need_yes]
    have hL : lastR b = ⟨0, 0, 3 + 2 + m.data.length + 1 + (allF m.funcs).length⟩ := by
      unfold lastR
      rw [hE, hrd, h]
      simp only [decide_true, Rd.need_yes]
    unfold getM
    rw [hL, hrd]
    rfl
  · rw [if_neg hr]
    have hrl : 0 < rest.length := List.length_pos_iff.2 hr
    have hE : endR b = ⟨4, m.bytes.length, 3 + 2 + m.data.length + 1 + (allF m.funcs).length⟩ := by
      unfold endR
      rw [hA]
      simp only
      rw [decide_eq_false (by omega), Rd.need_no rfl, hlen]
    have hL : lastR b = ⟨4, m.bytes.length, 3 + 2 + m.data.length + 1 + (allF m.funcs).length⟩ := by
      unfold lastR
      rw [hE, Rd.need_bad (by show ¬ (4 : Int) = 0; decide)]
    unfold getM
    rw [hL]
    rfl

/-! ### What is read is put as it was -/
theorem take_seg {b : List Int} {s : Rd} {n : Nat} (h : (takeR b s n).1.err = 0) : s.err = 0 ∧ b.drop s.pos = (takeR b s n).2 ++ b.drop (takeR b s n).1.pos ∧ (takeR b s n).2.length = n := by
  obtain ⟨h1, h2, h3⟩ := take_err h
  rw [h3]
  refine ⟨h1, ?_, part_len h2⟩
  show b.drop s.pos = (b.drop s.pos).take n ++ b.drop (s.pos + n)
  rw [← List.drop_drop, List.take_append_drop]
theorem num_seg {b : List Int} (hb : ∀ x ∈ b, 0 ≤ x ∧ x < 256) {s : Rd} {n : Nat} (h : (numR b s n).1.err = 0) : s.err = 0 ∧ b.drop s.pos = bytesV (numR b s n).2 n ++ b.drop (numR b s n).1.pos := by
  obtain ⟨h1, h2, h3⟩ := take_seg (s := s) (n := n) h
  refine ⟨h1, ?_⟩
  show b.drop s.pos = bytesV (numV (takeR b s n).2) n ++ b.drop (takeR b s n).1.pos
  have h4 := bytesV_numV (takeR b s n).2 (take_bd hb)
  rw [h3] at h4
  rw [h4]
  exact h2
theorem block_seg {b : List Int} (hb : ∀ x ∈ b, 0 ≤ x ∧ x < 256) {s : Rd} {most : Int} (h : (blockR b s most).1.err = 0) : s.err = 0 ∧ b.drop s.pos = bytesV (blockR b s most).2.length 2 ++ ((blockR b s most).2 ++ b.drop (blockR b s most).1.pos) ∧ ((blockR b s most).2.length : Int) ≤ most := by
  obtain ⟨h1, h2, h3⟩ := take_seg h
  unfold cntR at h1
  obtain ⟨h4, h5, h6⟩ := need_ok (by decide) h1
  obtain ⟨h7, h8⟩ := num_seg hb h4
  have hn := (num_bd (s := s) (n := 2) hb (by omega)).1
  have h9 : ((blockR b s most).2.length : Int) = (numR b s 2).2 := by
    show (((takeR b (cntR b s most) (numR b s 2).2.toNat).2.length : Nat) : Int) = _
    rw [h3]
    omega
  refine ⟨h7, ?_, by rw [h9]; exact of_decide_eq_true h5⟩
  rw [h9, h8]
  congr 1
  have h10 : (cntR b s most).pos = (numR b s 2).1.pos := Rd.need_pos _ _ _ _
  rw [← h10]
  exact h2
theorem fun_seg {b : List Int} (hb : ∀ x ∈ b, 0 ≤ x ∧ x < 256) {s : Rd} (h : (funS b s).err = 0) : s.err = 0 ∧ b.drop s.pos = (funF b s).bytes ++ b.drop (funS b s).pos := by
  unfold funS at h
  obtain ⟨h1, h2, _⟩ := need_ok (by decide) h
  have hsp := of_decide_eq_true h2
  obtain ⟨_, _, hall⟩ := splitV_ok (fun4_bd (s := s) hb) hsp
  have e4 : fun4 b s = blockR b (fun3 b s).1 4096 := rfl
  rw [e4] at h1
  obtain ⟨a1, a2, _⟩ := block_seg hb h1
  have e3 : fun3 b s = numR b (fun2 b s).1 2 := rfl
  rw [e3] at a1
  obtain ⟨b1, b2⟩ := num_seg hb a1
  have e2 : fun2 b s = numR b (fun1 b s).1 1 := rfl
  rw [e2] at b1
  obtain ⟨c1, c2⟩ := num_seg hb b1
  have e1 : fun1 b s = numR b s 1 := rfl
  rw [e1] at c1
  obtain ⟨d1, d2⟩ := num_seg hb c1
  refine ⟨d1, ?_⟩
  have hpos : (funS b s).pos = (fun4 b s).1.pos := Rd.need_pos _ _ _ _
  rw [hpos]
  unfold FunV.bytes funF
  simp only
  rw [hall]
  rw [← e4] at a2
  rw [← e3] at b2
  rw [← e2] at c2
  rw [← e1] at d2
  simp only [List.append_assoc]
  rw [d2, c2, b2, a2]
theorem funs_seg {b : List Int} (hb : ∀ x ∈ b, 0 ≤ x ∧ x < 256) : ∀ (k : Nat) (s : Rd) (l : List FunV), (funsR b k s l).1.err = 0 → s.err = 0 ∧ ∃ m, (funsR b k s l).2 = l ++ m ∧ m.length = k ∧ b.drop s.pos = allF m ++ b.drop (funsR b k s l).1.pos
  | 0, s, l, h => ⟨h, [], by simp [funsR], rfl, by simp [funsR, allF]⟩
  | k + 1, s, l, h => by
    by_cases hs : s.err = 0
    · rw [funs_go hs] at h ⊢
      obtain ⟨h1, m, h2, h3, h4⟩ := funs_seg hb k _ _ h
      obtain ⟨h5, h6⟩ := fun_seg hb h1
      refine ⟨h5, funF b s :: m, by rw [h2]; simp, by simp [h3], ?_⟩
      have e : allF (funF b s :: m) = (funF b s).bytes ++ allF m := by simp [allF]
      rw [e, List.append_assoc, ← h4]
      exact h6
    · rw [funs_bad hs] at h
      exact absurd h hs
theorem put_of {b : List Int} (hb : ∀ x ∈ b, 0 ≤ x ∧ x < 256) (h : (getM b).err = 0) : (getM b).at_ = 0 ∧ (getM b).m.err = 0 ∧ (getM b).m.bytes = b := by
  have hl : (lastR b).err = 0 := by
    by_cases hl : (lastR b).err = 0
    · exact hl
    · unfold getM at h; rw [if_neg hl] at h; exact h
  have hg : getM b = ⟨0, 0, readM b⟩ := by unfold getM; rw [if_pos hl]
  rw [hg]
  unfold lastR at hl
  obtain ⟨l1, l2, _⟩ := need_ok (by decide) hl
  have hv := of_decide_eq_true l2
  refine ⟨rfl, hv, ?_⟩
  unfold endR at l1
  obtain ⟨e1, e2, _⟩ := need_ok (by decide) l1
  have hend := of_decide_eq_true e2
  unfold allR at e1 hend
  obtain ⟨a1, m, a2, a3, a4⟩ := funs_seg hb _ _ _ e1
  unfold begR at a1
  obtain ⟨b1, b2, b3⟩ := need_ok (by decide) a1
  have hbp : (begR b).pos = (manyR b).1.pos := Rd.need_pos _ _ _ _
  have em : manyR b = numR b (dataR b).1 1 := rfl
  rw [em] at b1
  obtain ⟨c1, c2⟩ := num_seg hb b1
  rw [← em] at c2
  have ed : dataR b = blockR b (headR b) 8192 := rfl
  rw [ed] at c1
  obtain ⟨d1, d2, _⟩ := block_seg hb c1
  rw [← ed] at d2
  unfold headR at d1
  obtain ⟨t1, t2, t3⟩ := take_seg d1
  obtain ⟨n1, n2, n3⟩ := need_ok (by decide) t1
  rw [n3] at t2 t3 d1
  have hh : headR b = (takeR b Rd.zero 3).1 := by unfold headR; rw [n3]
  have h3 : b.take 3 = (takeR b Rd.zero 3).2 := by
    obtain ⟨_, _, h⟩ := take_err d1
    rw [h]
    rfl
  have hmk : (takeR b Rd.zero 3).2 = markL := by
    have := beq_iff_eq.1 n2
    rw [h3, t3] at this
    rw [this]
    rfl
  have hall : (allR b).2 = m := by unfold allR; rw [a2]; rfl
  have hmn : ((readM b).funcs.length : Int) = (manyR b).2 := by
    show (((allR b).2.length : Nat) : Int) = _
    rw [hall, a3]
    have := (num_bd (s := (dataR b).1) (n := 1) hb (by omega)).1
    rw [← em] at this
    omega
  have hz : b.drop b.length = [] := List.drop_of_length_le (Nat.le_refl _)
  have s0 : b = markL ++ b.drop (headR b).pos := by
    rw [hh, ← hmk]
    exact t2
  have s1 : b.drop (begR b).pos = allF m := by
    rw [a4, hend, hz, List.append_nil]
  unfold ModV.bytes
  show markL ++ (bytesV (dataR b).2.length 2 ++ ((dataR b).2 ++ (bytesV (readM b).funcs.length 1 ++ allF (allR b).2))) = b
  rw [hmn, hall, ← s1, hbp, ← c2, ← d2, ← s0]

/-! ### A fault is within the bytes -/
def Rd.fit (b : List Int) (s : Rd) : Prop := s.pos ≤ b.length ∧ 0 ≤ s.at_ ∧ s.at_ ≤ b.length
section
variable {b : List Int} {s : Rd}
theorem fit_need (h : s.fit b) (t : Bool) {e k : Int} (hk : 0 ≤ k ∧ k ≤ b.length) : (s.need t e k).fit b := by
  unfold Rd.need
  split
  · exact ⟨h.1, hk.1, hk.2⟩
  · exact h
theorem fit_take (h : s.fit b) (n : Nat) : (takeR b s n).1.fit b := by
  refine ⟨(take_pos h.1).1, ?_⟩
  unfold takeR
  split
  · split
    · exact h.2
    · exact ⟨by show (0 : Int) ≤ (b.length : Int); omega, Int.le_refl _⟩
  · exact h.2
theorem fit_block (h : s.fit b) (most : Int) : (blockR b s most).1.fit b :=
  fit_take (fit_need (fit_take h 2) _ ⟨by omega, by have := h.1; omega⟩) _
theorem fit_fun (h : s.fit b) : (funS b s).fit b := by
  have h4 : (fun4 b s).1.fit b := fit_block (fit_take (fit_take (fit_take h 1) 1) 2) 4096
  have hp := fun4_place (b := b) (s := s) h.1
  refine fit_need h4 _ ⟨by omega, ?_⟩
  have := h4.1
  omega
theorem fit_funs : ∀ (k : Nat) {s : Rd} (l : List FunV), s.fit b → (funsR b k s l).1.fit b
  | 0, s, l, h => h
  | k + 1, s, l, h => by
    by_cases hs : s.err = 0
    · rw [funs_go hs]; exact fit_funs k _ (fit_fun h)
    · rw [funs_bad hs]; exact h
end
theorem mget_fit (b : List Int) : 0 ≤ (getM b).at_ ∧ (getM b).at_ ≤ b.length := by
  have h0 : (Rd.zero).fit b := ⟨Nat.zero_le _, Int.le_refl _, by show (0 : Int) ≤ b.length; omega⟩
  have h1 : (headR b).fit b := fit_take (fit_need h0 _ ⟨Int.le_refl _, by omega⟩) 3
  have h2 : (dataR b).1.fit b := fit_block h1 8192
  have h3 : (begR b).fit b := fit_need (fit_take h2 1) _ ⟨by omega, by have := h2.1; omega⟩
  have h4 : (allR b).1.fit b := fit_funs _ _ h3
  have h5 : (endR b).fit b := fit_need h4 _ ⟨by omega, by have := h4.1; omega⟩
  have h6 : (lastR b).fit b := fit_need h5 _ ⟨Int.le_refl _, by omega⟩
  unfold getM
  split
  · exact ⟨Int.le_refl _, by show (0 : Int) ≤ b.length; omega⟩
  · exact h6.2
end Go.Proofs.YtohlifeenhaifaaGreatDoor
