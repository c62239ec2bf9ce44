/- Lemmas of Mod08L, Mod08M, Mod08N, Mod08O, Math08B, each with its own remark. -/
import Derived.Test.YtimhlbejjbnofaaS12
import Derived.Test.YtimhlbejjbnofaaS09
import Derived.Test.YtimhlbejjbnofaaS08
import Derived.Test.YtimhlbejjbnofaaS05
import Derived.Test.YtimhlbejjbnofaaS10
/- (Mod08L) The landed reader: function. Contract; no condition but that the reader lies in memory, its place within its bytes, and that what it has read so far was made by append. -/
namespace Go.Proofs.Ytimhlbejjbnofaa
open Go.RowKit Go.Shelf
set_option linter.unusedVariables false
set_option linter.unusedSimpArgs false

/-- A reader, and the module that it has read so far. -/
structure FulAt (base : Nat) (W : World) (rb B : Nat) (X : Value) (b : List Int) (s : Rd) (D F : Value) (data : List Int) (fs : List FunV) (Cs : List Value) : Prop where
  rd : RdAt W rb B X b s D F
  dat : Owns W base 5 1 IsU8 D data.length (data.map (Value.int .u8))
  funs : OwnF 47 0 W F fs Cs
theorem other_type {W : World} {g : Nat} {c c' : Array Value} {t t' : TypeId} (h : W.heap[g]? = some (.cells c t (0, 0))) (h' : W.heap[g]? = some (.cells c' t' (0, 0))) : t = t' := by
  rw [h] at h'
  injection h' with h'
  injection h' with _ h' _
section
variable {base : Nat} {W W' : World} {rb B : Nat} {X D F : Value} {b : List Int} {s s' : Rd} {data : List Int} {fs : List FunV} {Cs : List Value}
theorem FulAt.step (h : FulAt base W rb B X b s D F data fs Cs) (hb : But (OneBlock rb) W W') (hr : RdAt W' rb B X b s' D F) : FulAt base W' rb B X b s' D F data fs Cs := by
  refine ⟨hr, Owns.but h.dat hb (fun g hg e => ?_), h.funs.but hb (fun g hg e => ?_) (fun k hk => absurd hk (Nat.not_lt_zero _)) (fun k c hc e => ?_) (fun k c hc e => ?_)⟩
  · have e' : g = rb := e
    subst e'
    obtain ⟨c, hc⟩ := h.dat.typed hg
    exact absurd (other_type hc h.rd.blk) (by decide)
  · have e' : g = rb := e
    subst e'
    obtain ⟨c, hc⟩ := h.funs.own.typed hg
    exact absurd (other_type hc h.rd.blk) (by decide)
  · have e' : k = rb := e
    subst e'
    exact absurd (other_type hc h.rd.blk) (by decide)
  · have e' : k = rb := e
    subst e'
    exact absurd (other_type hc h.rd.blk) (by decide)
theorem FulAt.grow (h : FulAt base W rb B X b s D F data fs Cs) (hb : Below W.heap.size W W') : FulAt base W' rb B X b s D F data fs Cs :=
  ⟨h.rd.grow hb, Owns.below h.dat hb (Nat.le_refl _), h.funs.below hb (Nat.le_refl _)⟩
theorem FulAt.far {tb : Nat} (h : FulAt base W rb B X b s D F data fs Cs) {W0 : World} (h0 : Below W.heap.size W W0) (ht : W.heap.size ≤ tb) (hb : But (TwoBlocks rb tb) W0 W') (hr : RdAt W' rb B X b s' D F) : FulAt base W' rb B X b s' D F data fs Cs :=
  h.step (but_box h0 ht hb) hr
end
theorem splitF_bad {b : List Int} : ∀ (f k : Nat) (l : List InsV) (ps : List Int), (splitF b f k l ps).err ≠ 0 → (splitF b f k l ps).l = []
  | 0, k, l, ps, h => absurd rfl h
  | f + 1, k, l, ps, h => by
    unfold splitF at h ⊢
    split at h
    · rename_i h1
      rw [if_pos h1]
      split at h
      · rename_i h2
        rw [if_pos h2]
        exact splitF_bad f _ _ _ h
      · rename_i h2
        rw [if_neg h2]
    · exact absurd rfl h
theorem splitV_bad {b : List Int} (h : (splitV b).err ≠ 0) : (splitV b).l = [] := by
  unfold splitV at h ⊢
  split
  · rfl
  · rename_i h1
    rw [if_neg h1] at h
    exact splitF_bad _ _ _ _ h
theorem splitV_len {b : List Int} (hb : ∀ x ∈ b, 0 ≤ x ∧ x < 256) : (splitV b).l.length ≤ b.length := by
  by_cases h : (splitV b).err = 0
  · obtain ⟨_, _, h3⟩ := splitV_ok hb h
    have := all_length (splitV b).l
    rw [h3] at this
    exact this
  · rw [splitV_bad h]
    exact Nat.zero_le _
theorem split_one {w : World} {b : List Int} {e : Ending} {w' : World} (h : SplitDone w (splitV b) e w') : ∃ V P k Xs, e = .returned (.tuple #[V, P, .agg #[.int .i64 (splitV b).err, .int .i64 k]]) ∧ OwnC w.heap.size w' V (splitV b).l Xs ∧ Below w.heap.size w w' := by
  obtain ⟨hb, ⟨h1, rfl⟩ | ⟨h1, V, P, Xs, rfl, ho, hp⟩⟩ := h
  · exact ⟨_, _, _, [], rfl, by rw [splitV_bad h1]; exact OwnC.nil _ _, hb⟩
  · exact ⟨V, P, 0, Xs, by rw [h1], ho, hb⟩
/-- What reading a function leaves. -/
structure FunDone (base : Nat) (w : World) (rb B : Nat) (X : Value) (b : List Int) (s : Rd) (F : Value) (D : Value) (data : List Int) (fs : List FunV) (e : Ending) (w' : World) : Prop where
  ret : e = .returned (.pointer (some ⟨rb, 0, none⟩))
  ful : ∃ F' fs' Cs', FulAt base w' rb B X b (funS b s) D F' data fs' Cs' ∧ ((funS b s).err = 0 → fs' = fs ++ [funF b s]) ∧ (∀ g, F'.ownBlock = some g → F.ownBlock = some g ∨ w.heap.size ≤ g) ∧ fs'.length ≤ fs.length + 1
  but : But (fun k => k = rb ∨ some k = F.ownBlock) w w'
theorem fun_bd {b : List Int} {s : Rd} (hb : ∀ x ∈ b, 0 ≤ x ∧ x < 256) : FunB (funF b s) := by
  have h1 := num_bd (b := b) (s := s) (n := 1) hb (by omega)
  have h2 := num_bd (b := b) (s := (fun1 b s).1) (n := 1) hb (by omega)
  have h3 := num_bd (b := b) (s := (fun2 b s).1) (n := 2) hb (by omega)
  exact ⟨by unfold InI; show _ ∧ _; exact ⟨by have := h1.1; show _ ≤ (numR b s 1).2; omega, by have := h1.2; show (numR b s 1).2 < _; omega⟩, by unfold InI; exact ⟨by have := h2.1; show _ ≤ (numR b (fun1 b s).1 1).2; omega, by have := h2.2; show (numR b (fun1 b s).1 1).2 < _; omega⟩, by unfold InI; exact ⟨by have := h3.1; show _ ≤ (numR b (fun2 b s).1 2).2; omega, by have := h3.2; show (numR b (fun2 b s).1 2).2 < _; omega⟩⟩
/-- An append of one function at a step of a region that draws. -/
theorem step_outF {W : World} {ops : Array Oper} {o : Oper} {a : Act} {K : Act → World → Prop} {Q : Exit → Act → World → Prop} {E : Prop} (hgd : o.guard = none) (s x : Operand)
    (ho : o.op = .call { callee := .builtin .append, args := #[s, x], argTypes := #[23, 23] }) {V C : Value} {l : List FunV} {Cs : List Value} {f : FunV} {base g : Nat} (hs : a.eval s = V) (hx : a.eval x = .slice (some ⟨g, 0, none⟩) 1 1) (hgs : g = W.heap.size)
    (h : OwnF 47 base W V l Cs) (hC : CodeAt base W C f.code) (hf : FunB f) (hb : base ≤ W.heap.size) (hl : l.length ≤ 1000000)
    (hK : ∀ V' W', MoreF 47 base W W' V V' l Cs f C ∧ (V'.ownBlock = V.ownBlock ∨ V'.ownBlock = some (W.heap.size + 1)) → K (a.put o.dst V') W') :
    if Region.wanted o (yielded ops a.tmps) = true then Oper.wp Try.prog o a (W.alloc (.cells #[.int .i64 f.params, .int .i64 f.regs, .int .i64 f.area, C] 47)) K Q else E := by
  subst hgs
  refine step_out hgd s x _ ho V _ hs hx (fun V' W' => MoreF 47 base W W' V V' l Cs f C ∧ (V'.ownBlock = V.ownBlock ∨ V'.ownBlock = some (W.heap.size + 1))) ?_ fun V' W' hh => hK V' W' hh
  obtain ⟨V', W', hr, hm⟩ := run_outF (ty := o.type) Try.underlying23 func_info rfl (by decide) (by decide) h hC hf hb hl
  refine ⟨V', W', hr, hm, ?_⟩
  obtain ⟨i, hi, h1, h2, h3⟩ := info_parts func_info
  have ha : Below W.heap.size W (W.alloc (.cells #[.int .i64 f.params, .int .i64 f.regs, .int .i64 f.area, C] 47)) := (Below.refl W.heap.size W).alloc (Nat.le_refl _) _
  obtain ⟨V2, W2, hr2, _, _, hw2⟩ := run_append_where (P := Try.prog) _ base 23 o.type 47 i _ 4 48 Try.underlying23 hi h1 h2 h3 rfl (by decide) V l.length (cellsF l Cs) (Owns.below h.own ha (Nat.le_refl _)).1 ⟨W.heap.size, 0, none⟩ 1 1 (by decide) (funList f C) rfl (one_fun W f C 47) (by intro u hu; simp [funList] at hu; rcases hu with rfl | rfl | rfl | rfl <;> first | rfl | exact hC.one) (by unfold maxLen; omega) (by omega) (by simp; omega)
  rw [hr] at hr2
  injection hr2 with e1 e2
  subst e1
  simpa using hw2
/-- Between the read of a function's code and its append. -/
structure MidAt (base : Nat) (w W : World) (rb B fb tb fl : Nat) (X : Value) (b : List Int) (s : Rd) (D F : Value) (data : List Int) (fs : List FunV) (Cs : List Value) (f : FunV) (C V : Value) (z k : Int) : Prop where
  ful : FulAt base W rb B X b s D F data fs Cs
  fun_ : W.heap[fb]? = some (.cells #[.int .i64 f.params, .int .i64 f.regs, .int .i64 f.area, C] 47 (0, 0))
  code : CodeAt 0 W C f.code
  fau : W.heap[fl]? = some (.cells #[.int .i64 z, .int .i64 k] 38 (0, 0))
  byt : W.heap[tb]? = some (.cells #[V] 22 (0, 0))
  but : But (OneBlock rb) w W
theorem MidAt.drew {base : Nat} {w W : World} {rb B fb tb fl : Nat} {X D F C V : Value} {b data : List Int} {s : Rd} {fs : List FunV} {Cs : List Value} {f : FunV} {z k : Int} (h : MidAt base w W rb B fb tb fl X b s D F data fs Cs f C V z k) : MidAt base w W.drew rb B fb tb fl X b s D F data fs Cs f C V z k :=
  have hb : Below W.heap.size W W.drew := (Below.refl _ W).drew
  ⟨h.ful.grow hb, h.fun_, h.code.below hb (Nat.le_refl _), h.fau, h.byt, h.but.drew⟩
theorem mid_new {base : Nat} {w w4 w5 : World} {rb B fb tb : Nat} {X D F C V : Value} {b data : List Int} {s : Rd} {fs : List FunV} {Cs Xs : List Value} {f : FunV} {z k : Int} (hf : FulAt base w4 rb B X b s D F data fs Cs) (hb4 : But (OneBlock rb) w w4) (hfb : w4.heap[fb]? = some (.cells #[.int .i64 f.params, .int .i64 f.regs, .int .i64 f.area, .slice none 0 0] 47 (0, 0))) (hw : w.heap.size ≤ fb) (htb : w4.heap[tb]? = some (.cells #[V] 22 (0, 0)))
    (hc : OwnC w4.heap.size w5 C f.code Xs) (hl : f.code.length ≤ 1000000) (hb : Below w4.heap.size w4 w5) (hrf : rb < w.heap.size) (hBf : B ≤ rb) (hFF : ∀ g, F.ownBlock = some g → g < w.heap.size) :
    MidAt base w ((w5.alloc (.cells #[.int .i64 z, .int .i64 k] 38)).setCell ⟨fb, 3, none⟩ C) rb B fb tb w5.heap.size X b s D F data fs Cs f C V z k := by
  have ha : Below w4.heap.size w4 (w5.alloc (.cells #[.int .i64 z, .int .i64 k] 38)) := hb.alloc hb.size _
  have ha5 : Below w5.heap.size w5 (w5.alloc (.cells #[.int .i64 z, .int .i64 k] 38)) := (Below.refl _ _).alloc (Nat.le_refl _) _
  have hk := box_below hfb ha
  have hfl := heap_lt hfb
  have hne : tb ≠ fb := by
    rintro rfl
    exact absurd (other_type hfb htb) (by decide)
  have hbo := but_one (w5.alloc (.cells #[.int .i64 z, .int .i64 k] 38)) fb 3 C
  have h1 := hf.grow ha
  have typ : ∀ (u : TypeId), u ≠ 47 → ∀ g c, (w5.alloc (.cells #[.int .i64 z, .int .i64 k] 38)).heap[g]? = some (.cells c u (0, 0)) → ¬ OneBlock fb g := fun u hu g c hc e => by
    have e' : g = fb := e
    subst e'
    exact hu (other_type hc hk)
  refine ⟨⟨h1.rd.but hbo (fun e => ?_) (fun k hk e => ?_), Owns.but h1.dat hbo (fun g hg e => ?_), h1.funs.but hbo (fun g hg e => ?_) (fun k hk => absurd hk (Nat.not_lt_zero _)) (fun g c hc => typ _ (by decide) g c hc) (fun g c hc => typ _ (by decide) g c hc)⟩, ?_, ?_, ?_, ?_, ?_⟩
  · have e' : rb = fb := e
    omega
  · have e' : k = fb := e
    omega
  · obtain ⟨c, hc⟩ := h1.dat.typed hg
    exact typ _ (by decide) g c hc e
  · have e' : g = fb := e
    have := hFF g hg
    omega
  · exact heap_setCell_same _ fb 3 _ _ C hk
  · exact (CodeAt.below (.inr ⟨_, Xs, hc, hl⟩ : CodeAt 0 w5 C f.code) ha5 (Nat.le_refl _)).but hbo (fun k hk => absurd hk (Nat.not_lt_zero _)) (fun g c hc => typ _ (by decide) g c hc) (fun g c hc => typ _ (by decide) g c hc)
  · exact hbo.heap (heap_alloc_new _ _) (fun e => by have e' : w5.heap.size = fb := e; have := hb.size; omega)
  · exact hbo.heap (box_below htb ha) (fun e => hne e)
  · exact ⟨hbo.os.trans ((ha.os).trans hb4.os), hbo.tape.trans (ha.tape.trans hb4.tape), hbo.output.trans (ha.output.trans hb4.output), Nat.le_trans hb4.size (Nat.le_trans ha.size hbo.size), fun g hg hn => (hbo.block g (Nat.lt_of_lt_of_le hg (Nat.le_trans hb4.size ha.size)) (fun e => by have e' : g = fb := e; omega)).trans ((ha.block g (Nat.lt_of_lt_of_le hg hb4.size)).trans (hb4.block g hg hn))⟩
end Go.Proofs.Ytimhlbejjbnofaa

/- (Mod08M) The landed reader: function. Contract; no condition but that the reader lies in memory, its place within its bytes, and that what it has read so far was made by append. -/
namespace Go.Proofs.Ytimhlbejjbnofaa
open Go.RowKit Go.Shelf
set_option linter.unusedVariables false
set_option linter.unusedSimpArgs false

theorem FunDone.of {base : Nat} {w w' : World} {rb B : Nat} {X D F F' : Value} {b data : List Int} {s : Rd} {fs fs' : List FunV} {Cs' : List Value} (h : FulAt base w' rb B X b (funS b s) D F' data fs' Cs') (he : (funS b s).err = 0 → fs' = fs ++ [funF b s]) (hF : ∀ g, F'.ownBlock = some g → F.ownBlock = some g ∨ w.heap.size ≤ g) (hl : fs'.length ≤ fs.length + 1) (hb : But (fun k => k = rb ∨ some k = F.ownBlock) w w') :
    FunDone base w rb B X b s F D data fs (.returned (.pointer (some ⟨rb, 0, none⟩))) w' := ⟨rfl, ⟨F', fs', Cs', h, he, hF, hl⟩, hb⟩
/-- Behind the append, ahead of the store. -/
theorem mid_more {base : Nat} {w W W' : World} {rb B fb tb fl : Nat} {X D F F' C V : Value} {b data : List Int} {s : Rd} {fs : List FunV} {Cs : List Value} {f : FunV} {z k : Int} (h : MidAt base w W rb B fb tb fl X b s D F data fs Cs f C V z k) (hm : MoreF 47 0 W W' F F' fs Cs f C) (hfw : w.heap.size ≤ fb) (hbase : base ≤ W.heap.size)
    (hw : F'.ownBlock = F.ownBlock ∨ F'.ownBlock = some (W.heap.size + 1)) (hB : B ≤ rb) (hFB : ∀ g, F.ownBlock = some g → B ≤ g) (hws : w.heap.size ≤ W.heap.size) :
    RdAt W' rb B X b s D F ∧ W'.heap[rb]? = W.heap[rb]? ∧ MidAt base w W rb B fb tb fl X b s D F data fs Cs f C V z k ∧
    W'.heap[fl]? = some (.cells #[.int .i64 z, .int .i64 k] 38 (0, 0)) ∧ W'.heap[tb]? = some (.cells #[V] 22 (0, 0)) ∧ (∀ g, F'.ownBlock = some g → F.ownBlock = some g ∨ w.heap.size ≤ g) ∧ But (fun k => k = rb ∨ some k = F.ownBlock) w W' := by
  have keep : ∀ {g : Nat} {c : Array Value} {u : TypeId}, u ≠ 47 → W.heap[g]? = some (.cells c u (0, 0)) → W'.heap[g]? = some (.cells c u (0, 0)) := fun {g c u} hu hg =>
    (hm.blk g (heap_lt hg) (h.ful.funs.own.not_own hg (fun cur e => by injection e with _ e _; exact hu e))).trans hg
  have hbut : But (fun k => some k = F.ownBlock) W W' := ⟨hm.bel.os, hm.bel.tape, hm.bel.output, hm.size, fun g hg hn => hm.blk g hg hn⟩
  have hrb := keep (by decide) h.ful.rd.blk
  refine ⟨⟨hrb, h.ful.rd.byt.but hbut (by have := h.ful.rd.lt; have := h.ful.rd.low; omega) (fun g hg e => by have := hFB g e.symm; omega), h.ful.rd.low, h.ful.rd.small, h.ful.rd.pos⟩, hrb.trans h.ful.rd.blk.symm, h, keep (by decide) h.fau, keep (by decide) h.byt, fun g hg => ?_, ?_⟩
  · rcases hw with hw | hw
    · exact .inl (by rw [← hw]; exact hg)
    · rw [hw] at hg
      injection hg with hg
      exact .inr (by omega)
  · exact (h.but.mono fun k hk => .inl hk).trans (hbut.mono fun k hk => .inr hk)
/-- Behind the store. -/
theorem mid_end {base : Nat} {w W W' : World} {rb B fb tb fl : Nat} {X D F F' C V : Value} {b data : List Int} {s : Rd} {fs : List FunV} {Cs : List Value} {f : FunV} {z k : Int} (h : MidAt base w W rb B fb tb fl X b s D F data fs Cs f C V z k) (hm : MoreF 47 0 W W' F F' fs Cs f C) (hr : RdAt W' rb B X b s D F) :
    FulAt base (W'.setCell ⟨rb, 5, none⟩ F') rb B X b s D F' data (fs ++ [f]) (Cs ++ [C]) := by
  have hbo := but_one W' rb 5 F'
  have typ : ∀ (u : TypeId), u ≠ 70 → ∀ g c, W'.heap[g]? = some (.cells c u (0, 0)) → ¬ OneBlock rb g := fun u hu g c hc e => by
    have e' : g = rb := e
    subst e'
    exact hu (other_type hc hr.blk)
  have hD : Owns W' base 5 1 IsU8 D data.length (data.map (Value.int .u8)) := Owns.of_blocks h.ful.dat (fun g hg => hm.blk g (h.ful.dat.lt hg).2 (fun e => by
    obtain ⟨c1, e1⟩ := h.ful.dat.typed hg
    obtain ⟨c2, e2⟩ := h.ful.funs.own.typed e.symm
    exact absurd (other_type e1 e2) (by decide))) hm.size
  refine ⟨hr.set (s' := s) (o := 5) rfl hr.pos, Owns.but hD hbo (fun g hg => ?_), hm.own.but hbo (fun g hg => ?_) (fun k hk => absurd hk (Nat.not_lt_zero _)) (typ _ (by decide)) (typ _ (by decide))⟩
  · obtain ⟨c, hc⟩ := hD.typed hg
    exact typ _ (by decide) g c hc
  · obtain ⟨c, hc⟩ := hm.own.own.typed hg
    exact typ _ (by decide) g c hc
theorem mid_last {base : Nat} {w W W' : World} {rb B fb tb fl : Nat} {X D F F' C V : Value} {b data : List Int} {s : Rd} {fs : List FunV} {Cs : List Value} {f : FunV} {z k : Int} (h : MidAt base w W rb B fb tb fl X b s D F data fs Cs f C V z k) (hm : MoreF 47 0 W W' F F' fs Cs f C) (hr : RdAt W' rb B X b s D F)
    (hfl : W'.heap[fl]? = some (.cells #[.int .i64 z, .int .i64 k] 38 (0, 0))) (htb : W'.heap[tb]? = some (.cells #[V] 22 (0, 0))) (hb : But (fun k => k = rb ∨ some k = F.ownBlock) w W') :
    FulAt base (W'.setCell ⟨rb, 5, none⟩ F') rb B X b s D F' data (fs ++ [f]) (Cs ++ [C]) ∧ (W'.setCell ⟨rb, 5, none⟩ F').heap[fl]? = some (.cells #[.int .i64 z, .int .i64 k] 38 (0, 0)) ∧ (W'.setCell ⟨rb, 5, none⟩ F').heap[tb]? = some (.cells #[V] 22 (0, 0)) ∧ But (fun k => k = rb ∨ some k = F.ownBlock) w (W'.setCell ⟨rb, 5, none⟩ F') := by
  have hbo := but_one W' rb 5 F'
  refine ⟨mid_end h hm hr, hbo.heap hfl (fun e => ?_), hbo.heap htb (fun e => ?_), hb.trans (hbo.mono fun k hk => .inl hk)⟩
  · have e' : fl = rb := e
    subst e'
    exact absurd (other_type hfl hr.blk) (by decide)
  · have e' : tb = rb := e
    subst e'
    exact absurd (other_type htb hr.blk) (by decide)
set_option maxRecDepth 100000 in
set_option maxHeartbeats 16000000 in
theorem function8_any (base : Nat) (w : World) (rb B : Nat) (X : Value) (b : List Int) (s : Rd) (D F : Value) (data : List Int) (fs : List FunV) (Cs : List Value) (h : FulAt base w rb B X b s D F data fs Cs) (hl : fs.length ≤ 100000) (hFB : ∀ g, F.ownBlock = some g → B ≤ g) (hbase : base ≤ w.heap.size) :
    Calls Try.prog 68 #[.pointer (some ⟨rb, 0, none⟩)] w (FunDone base w rb B X b s F D data fs) := by
  have hlow := h.rd.low
  have hlt := h.rd.lt
  have hbd := h.rd.byt.1
  have hb0 : Below w.heap.size w ((w.alloc (.cells #[.int .i64 0, .int .i64 0, .int .i64 0, .slice none 0 0] 47)).alloc (.cells #[.slice none 0 0] 22)) := ((Below.refl _ w).alloc (Nat.le_refl _) _).alloc (by simp) _
  have hF0 : ((w.alloc (.cells #[.int .i64 0, .int .i64 0, .int .i64 0, .slice none 0 0] 47)).alloc (.cells #[.slice none 0 0] 22)).heap[w.heap.size]? = some (.cells #[.int .i64 0, .int .i64 0, .int .i64 0, .slice none 0 0] 47 (0, 0)) := by
    rw [Below.heap_alloc _ _ _ (by simp)]
    exact heap_alloc_new _ _
  have hT0 : ((w.alloc (.cells #[.int .i64 0, .int .i64 0, .int .i64 0, .slice none 0 0] 47)).alloc (.cells #[.slice none 0 0] 22)).heap[w.heap.size + 1]? = some (.cells #[.slice none 0 0] 22 (0, 0)) := by
    have := heap_alloc_new (w.alloc (.cells #[.int .i64 0, .int .i64 0, .int .i64 0, .slice none 0 0] 47)) (.cells #[.slice none 0 0] 22)
    rw [World.size_alloc] at this
    exact this
  obtain ⟨w0, hw0⟩ : ∃ w0, w0 = (w.alloc (.cells #[.int .i64 0, .int .i64 0, .int .i64 0, .slice none 0 0] 47)).alloc (.cells #[.slice none 0 0] 22) := ⟨_, rfl⟩
  rw [← hw0] at hb0 hF0 hT0
  have HW0 := Lib.hid hw0
  have HB0 := Lib.hid (But.of_below (R := OneBlock rb) hb0)
  have HF0 := Lib.hid hF0
  have HT0 := Lib.hid hT0
  have H := Lib.hid h
  have HN1 := Lib.hid (numb_one w0 rb B w.heap.size 0 X b s D F _ _ (h.rd.grow hb0) hF0 rfl (by omega) (by omega))
  have HF := Lib.hid (fun_bd (s := s) hbd)
  have HBD := Lib.hid (fun4_bd (s := s) hbd)
  have HL4 := Lib.hid (Nat.le_trans (fun4_len (b := b) (s := s)) h.rd.small)
  have HP4 := Lib.hid (fun4_place h.rd.pos)
  have HPS := Lib.hid (And.intro (fun4_pos h.rd.pos) h.rd.small)
  have HFS : Hid (funS b s = (fun4 b s).1.need (decide ((splitV (fun4 b s).2).err = 0)) 10 ((fun4 b s).1.pos - (fun4 b s).2.length)) := Lib.hid rfl
  have hf0 : funF b s = ⟨(fun1 b s).2, (fun2 b s).2, (fun3 b s).2, (splitV (fun4 b s).2).l⟩ := rfl
  have h4 : fun4 b s = blockR b (fun3 b s).1 4096 := rfl
  have h3 : fun3 b s = numR b (fun2 b s).1 2 := rfl
  have h2 : fun2 b s = numR b (fun1 b s).1 1 := rfl
  have h1 : fun1 b s = numR b s 1 := rfl
  rw [← h1] at HN1
  rw [hf0] at HF
  have HE1 := Lib.hid h2
  have HE2 := Lib.hid h3
  have HE3 := Lib.hid h4
  have HE4 := Lib.hid hf0
  clear h1 h2 h3 h4 hf0 h hw0 hb0 hF0 hT0
  generalize fun4 b s = r4 at *
  generalize fun3 b s = r3 at *
  generalize fun2 b s = r2 at *
  generalize fun1 b s = r1 at *
  obtain ⟨s1, p⟩ := r1
  obtain ⟨s2, r⟩ := r2
  obtain ⟨s3, a⟩ := r3
  obtain ⟨s4, c⟩ := r4
  dsimp only at HFS HF HE1 HE2 HE3 HE4 HBD HL4 HP4 HPS
  have HWk : Hid (∀ W, RdAt W rb B X b s1 D F → W.heap[w.heap.size]? = some (.cells #[.int .i64 p, .int .i64 0, .int .i64 0, .slice none 0 0] 47 (0, 0)) → Calls Try.prog 67 #[.pointer (some ⟨rb, 0, none⟩), .pointer (some ⟨w.heap.size, 1, none⟩), .int .i64 1] W (NumbDone W rb B X b (s2, r) D F w.heap.size 1 #[.int .i64 p, .int .i64 0, .int .i64 0, .slice none 0 0] 47)) := Lib.hid fun W hr hf => by
    have := numb_one W rb B w.heap.size 1 X b s1 D F _ _ hr hf rfl (by omega) (by omega)
    rw [← HE1.out] at this
    exact this
  have HWl : Hid (∀ W, RdAt W rb B X b s2 D F → W.heap[w.heap.size]? = some (.cells #[.int .i64 p, .int .i64 r, .int .i64 0, .slice none 0 0] 47 (0, 0)) → Calls Try.prog 67 #[.pointer (some ⟨rb, 0, none⟩), .pointer (some ⟨w.heap.size, 2, none⟩), .int .i64 2] W (NumbDone W rb B X b (s3, a) D F w.heap.size 2 #[.int .i64 p, .int .i64 r, .int .i64 0, .slice none 0 0] 47)) := Lib.hid fun W hr hf => by
    have := numb_two W rb B w.heap.size 2 X b s2 D F _ _ hr hf rfl (by omega) (by omega)
    rw [← HE2.out] at this
    exact this
  have HWc : Hid (∀ W, RdAt W rb B X b s3 D F → W.heap[w.heap.size + 1]? = some (.cells #[.slice none 0 0] 22 (0, 0)) → Calls Try.prog 65 #[.pointer (some ⟨rb, 0, none⟩), .pointer (some ⟨w.heap.size + 1, 0, none⟩), .int .i64 4096] W (PieceDone W rb B X b (s4, c) D F (w.heap.size + 1))) := Lib.hid fun W hr hf => by
    have := counted_any W rb B (w.heap.size + 1) X b s3 D F 4096 hr hf (by omega) (by omega)
    rw [← HE3.out] at this
    exact this
  have hne1 : ¬ (w.heap.size + 1 = rb ∨ w.heap.size + 1 = w.heap.size) := by omega
  have hne2 : ¬ (w.heap.size = rb ∨ w.heap.size = w.heap.size + 1) := by omega
  by_cases he : s4.err = 0
  case neg =>
    have hb1 : (s4.err != 0) = true := by simpa using he
    have HFE := Lib.hid (HFS.out.trans (Rd.need_bad he _ _ _))
    have HEr := Lib.hid he
    clear he
    go_enter Try.func68, Try.ntmps68
    go_wp2_with (first
      | (go_at_call 67; rw [← HW0.out]; (with_reducible refine HN1.out.mono ?_); rintro e w1 ⟨rfl, hr, hb, ho⟩; have HR1 := Lib.hid hr; have ho' : w1.heap[w.heap.size]? = some (.cells #[.int .i64 p, .int .i64 0, .int .i64 0, .slice none 0 0] 47 (0, 0)) := ho; have HO1 := Lib.hid ho'; have HT1 := Lib.hid (hb.heap HT0.out hne1); have HB1 := Lib.hid (but_far HB0.out (Nat.le_refl _) hb); clear hr hb ho ho')
      | (go_at_call 67; (with_reducible refine (HWk.out w1 HR1.out HO1.out).mono ?_); rintro e w2 ⟨rfl, hr, hb, ho⟩; have HR2 := Lib.hid hr; have ho' : w2.heap[w.heap.size]? = some (.cells #[.int .i64 p, .int .i64 r, .int .i64 0, .slice none 0 0] 47 (0, 0)) := ho; have HO2 := Lib.hid ho'; have HT2 := Lib.hid (hb.heap HT1.out hne1); have HB2 := Lib.hid (but_far HB1.out (Nat.le_refl _) hb); clear hr hb ho ho')
      | (go_at_call 67; (with_reducible refine (HWl.out w2 HR2.out HO2.out).mono ?_); rintro e w3 ⟨rfl, hr, hb, ho⟩; have HR3 := Lib.hid hr; have ho' : w3.heap[w.heap.size]? = some (.cells #[.int .i64 p, .int .i64 r, .int .i64 a, .slice none 0 0] 47 (0, 0)) := ho; have HO3 := Lib.hid ho'; have HT3 := Lib.hid (hb.heap HT2.out hne1); have HB3 := Lib.hid (but_far HB2.out (Nat.le_refl _) hb); clear hr hb ho ho')
      | (go_at_call 65; (with_reducible refine (HWc.out w3 HR3.out HT3.out).mono ?_); rintro e w4 ⟨rfl, hr, hb, V, hV, hVb⟩; have HR4 := Lib.hid hr; have HB4 := Lib.hid (but_far HB3.out (Nat.le_succ _) hb); obtain ⟨d0, d1, d2, d3, d4, d5⟩ := hr.cells; clear hr hb hV hVb))
    go_ret
    refine FunDone.of (F' := F) (fs' := fs) (Cs' := Cs) ?_ (fun hh => absurd (by rw [HFE.out] at hh; exact hh) HEr.out) (fun g hg => .inl hg) (Nat.le_succ _) (HB4.out.mono fun k hk => .inl hk)
    rw [HFE.out]
    exact H.out.step HB4.out HR4.out
  · have hb1 : (s4.err != 0) = false := by simpa using he
    have HSl := Lib.hid (splitV_len HBD.out)
    have HSp := Lib.hid (fun V W hV => (split7_any V c W hV).mono fun e w' hh => split_one hh)
    generalize splitV c = sp at *
    obtain ⟨z, k0, l, ps⟩ := sp
    dsimp only at HSl HSp HFS HF HE4
    obtain ⟨dec, hdec⟩ : ∃ dec, dec = decide (z = 0) := ⟨_, rfl⟩
    have hzd : (z == 0) = dec := by rw [hdec, Bool.eq_iff_iff, beq_iff_eq, decide_eq_true_iff]
    rw [← hdec] at HFS
    have HDc := Lib.hid hdec
    obtain ⟨FA, fc, hFe⟩ := owns_len H.out.funs.own
    subst hFe
    have hsub : IntKind.i64.wrap ((s4.pos : Int) - (c.length : Int)) = (s4.pos : Int) - (c.length : Int) := by
      have h4 := HP4.out
      have h5 := HPS.out
      rw [IntKind.wrap_i64]
      omega
    clear he hdec
    go_enter Try.func68, Try.ntmps68
    go_wp2_with (first
      | (go_at_call 67; rw [← HW0.out]; (with_reducible refine HN1.out.mono ?_); rintro e w1 ⟨rfl, hr, hb, ho⟩; have HR1 := Lib.hid hr; have ho' : w1.heap[w.heap.size]? = some (.cells #[.int .i64 p, .int .i64 0, .int .i64 0, .slice none 0 0] 47 (0, 0)) := ho; have HO1 := Lib.hid ho'; have HT1 := Lib.hid (hb.heap HT0.out hne1); have HB1 := Lib.hid (but_far HB0.out (Nat.le_refl _) hb); clear hr hb ho ho')
      | (go_at_call 67; (with_reducible refine (HWk.out w1 HR1.out HO1.out).mono ?_); rintro e w2 ⟨rfl, hr, hb, ho⟩; have HR2 := Lib.hid hr; have ho' : w2.heap[w.heap.size]? = some (.cells #[.int .i64 p, .int .i64 r, .int .i64 0, .slice none 0 0] 47 (0, 0)) := ho; have HO2 := Lib.hid ho'; have HT2 := Lib.hid (hb.heap HT1.out hne1); have HB2 := Lib.hid (but_far HB1.out (Nat.le_refl _) hb); clear hr hb ho ho')
      | (go_at_call 67; (with_reducible refine (HWl.out w2 HR2.out HO2.out).mono ?_); rintro e w3 ⟨rfl, hr, hb, ho⟩; have HR3 := Lib.hid hr; have ho' : w3.heap[w.heap.size]? = some (.cells #[.int .i64 p, .int .i64 r, .int .i64 a, .slice none 0 0] 47 (0, 0)) := ho; have HO3 := Lib.hid ho'; have HT3 := Lib.hid (hb.heap HT2.out hne1); have HB3 := Lib.hid (but_far HB2.out (Nat.le_refl _) hb); clear hr hb ho ho')
      | (go_at_call 65; (with_reducible refine (HWc.out w3 HR3.out HT3.out).mono ?_); rintro e w4 ⟨rfl, hr, hb, V, hV, hVb⟩; have HR4 := Lib.hid hr; have HB4 := Lib.hid (but_far HB3.out (Nat.le_succ _) hb); have HV4 := Lib.hid hV; obtain ⟨vA, vc, hve⟩ := hVb.len; subst hve; have HVb := Lib.hid (hVb.more (Nat.le_trans hr.low (Nat.le_of_lt hr.lt))); have HO4 := Lib.hid (hb.heap HO3.out hne2); obtain ⟨d0, d1, d2, d3, d4, d5⟩ := hr.cells; have v0 := cell1 hV; clear hr hb hV hVb)
      | (go_at_call 87; (with_reducible refine (HSp.out _ w4 HVb.out).mono ?_); rintro e w5 ⟨V5, P5, k5, Xs5, rfl, hc, hb⟩; have HC5 := Lib.hid hc; have HB5 := Lib.hid hb; have HM := Lib.hid (mid_new (f := ⟨p, r, a, l⟩) (z := z) (k := k5) (H.out.step HB4.out HR4.out) HB4.out HO4.out (Nat.le_refl _) HV4.out hc (by have := HSl.out; have := HL4.out; show l.length ≤ _; omega) hb hlt hlow (fun g hg => (H.out.funs.own.lt hg).2)); obtain ⟨cA, cc, hce⟩ := owns_len hc.own; subst hce; have ho5 := box_below (box_below HO4.out hb) ((Below.refl w5.heap.size w5).alloc (Nat.le_refl _) (.cells #[.int .i64 z, .int .i64 k5] 38)); have o5 := frozen_of_row _ w.heap.size 3 _ _ ho5; obtain ⟨u0, u1, u2, u3⟩ := cells4 ho5; clear hc hb ho5))
    refine (show ∀ W, MidAt base w W rb B w.heap.size (w.heap.size + 1) w5.heap.size X b s4 D (.slice FA fs.length fc) data fs Cs ⟨p, r, a, l⟩ (.slice cA l.length cc) (.slice vA c.length vc) z k5 → Code.wp _ _ _ _ W from fun W7 hM7 => ?_) _ HM.out
    have HM7 := Lib.hid hM7.drew
    have hs7 := hM7.but.size
    obtain ⟨e0, e1, e2, e3, e4, e5⟩ := hM7.ful.rd.cells
    obtain ⟨f0, f1, f2, f3⟩ := cells4 hM7.fun_
    have e5a : (W7.alloc (.cells #[.int .i64 p, .int .i64 r, .int .i64 a, .slice cA l.length cc] 47)).cell? ⟨rb, 5, none⟩ = some (.slice FA fs.length fc) := (((Below.refl W7.heap.size W7).alloc (Nat.le_refl _) (.cells #[.int .i64 p, .int .i64 r, .int .i64 a, .slice cA l.length cc] 47)).cell (p := ⟨rb, 5, none⟩) hM7.ful.rd.lt).trans e5
    clear hM7 u0 u1 u2 u3 o5 d0 d1 d2 d3 d4 d5 v0
    go_region_law (first | (refine step_outF (W := W7.drew) (f := ⟨p, r, a, l⟩) (base := 0) rfl (.tmp 37) (.tmp 39) rfl rfl rfl rfl HM7.out.ful.funs HM7.out.code HF.out (Nat.zero_le _) (by omega) ?_; intro V8 w8 hm; obtain ⟨hm, hwh⟩ := hm; obtain ⟨nA, nc, hn8⟩ := owns_len hm.own.own; obtain ⟨n8, hn9⟩ : ∃ n8, n8 = (fs ++ [(⟨p, r, a, l⟩ : FunV)]).length := ⟨_, rfl⟩; rw [← hn9] at hn8; subst hn8; clear hn9; have HMo := Lib.hid hm; have hmm := mid_more HM7.out hm (Nat.le_refl _) (Nat.le_trans hbase hs7) hwh hlow hFB hs7; obtain ⟨hr8, _, _, hfl8, htb8, hF8, hb8⟩ := hmm; have HR8 := Lib.hid hr8; have HFl := Lib.hid hfl8; have HTb := Lib.hid htb8; have HF8 := Lib.hid hF8; have HB8 := Lib.hid hb8; have g5 := hr8.free 5; obtain ⟨h0, h1, h2, h3, h4, h5⟩ := hr8.cells; clear hm hwh hr8 hfl8 htb8 hF8 hb8))
    all_goals
      refine (show ∀ W, FulAt base W rb B X b s4 D (.slice nA n8 nc) data (fs ++ [⟨p, r, a, l⟩]) (Cs ++ [.slice cA l.length cc]) ∧ W.heap[w5.heap.size]? = some (.cells #[.int .i64 z, .int .i64 k5] 38 (0, 0)) ∧ W.heap[w.heap.size + 1]? = some (.cells #[.slice vA c.length vc] 22 (0, 0)) ∧ But (fun k => k = rb ∨ some k = (Value.slice FA fs.length fc).ownBlock) w W → Exit.then _ _ _ _ W from fun W9 h9 => ?_) _ (mid_last HM7.out HMo.out HR8.out HFl.out HTb.out HB8.out)
      obtain ⟨hf9, hfl9, htb9, hb9⟩ := h9
      have HF9 := Lib.hid hf9
      have HB9 := Lib.hid hb9
      have HN := Lib.hid (need_any W9.drew rb B X b s4 D (.slice nA n8 nc) dec 10 (s4.pos - c.length) hf9.rd.drew)
      obtain ⟨i0, i1, i2, i3, i4, i5⟩ := hf9.rd.cells
      have j0 := cell1 htb9
      have j1 : W9.cell? ⟨w5.heap.size, 0, none⟩ = some (.int .i64 z) := (cells2 hfl9).1
      clear hf9 hfl9 htb9 hb9
      go_wp2
      go_still_tail 12, (by kernel_rfl)
      go_wp2_with (go_at_call 62; (with_reducible refine HN.out.mono ?_); rintro e w10 ⟨rfl, hr, hb⟩; have HR10 := Lib.hid hr; have HB10 := Lib.hid hb; clear hr hb)
      go_ret
      refine FunDone.of (F' := .slice nA n8 nc) (fs' := fs ++ [⟨p, r, a, l⟩]) (Cs' := Cs ++ [.slice cA l.length cc]) ?_ (fun _ => by rw [HE4.out]) HF8.out (by simp) ?_
      · rw [HFS.out]
        exact (HF9.out.grow (Below.refl _ W9).drew).step HB10.out HR10.out
      · exact HB9.out.drew.trans (HB10.out.mono fun k hk => .inl hk)
end Go.Proofs.Ytimhlbejjbnofaa

/- (Mod08N) The landed reader: functions. Contract; no condition but that the reader lies in memory, its place within its bytes, and that it has read no function yet. -/
namespace Go.Proofs.Ytimhlbejjbnofaa
open Go.RowKit Go.Shelf
set_option linter.unusedVariables false
set_option linter.unusedSimpArgs false

/-- What holds of the functions that have been read so far. -/
def RunF (b : List Int) (q k : Nat) (sb sr : Rd) (fs : List FunV) : Prop := (sr.err = 0 → funsR b q sb [] = funsR b (q - k) sr fs) ∧ (sr.err ≠ 0 → (funsR b q sb []).1 = sr)
theorem run_start (b : List Int) (q : Nat) (sb : Rd) : RunF b q 0 sb sb [] := ⟨fun _ => rfl, fun h => by rw [funs_bad h]⟩
theorem run_step {b : List Int} {q k : Nat} {sb sr : Rd} {fs fs' : List FunV} (h : RunF b q k sb sr fs) (hk : k < q) (hf : (funS b sr).err = 0 → fs' = fs ++ [funF b sr]) : RunF b q (k + 1) sb (funS b sr) fs' := by
  by_cases h0 : sr.err = 0
  · have h1 := h.1 h0
    rw [show q - k = (q - (k + 1)) + 1 by omega, funs_go h0] at h1
    refine ⟨fun he => by rw [hf he]; exact h1, fun he => ?_⟩
    rw [h1, funs_bad he]
  · rw [funS_bad h0]
    exact ⟨fun he => absurd he h0, fun _ => h.2 h0⟩
theorem run_end {b : List Int} {q : Nat} {sb sr : Rd} {fs : List FunV} (h : RunF b q q sb sr fs) : (funsR b q sb []).1 = sr ∧ (sr.err = 0 → fs = (funsR b q sb []).2) := by
  by_cases h0 : sr.err = 0
  · have h1 := h.1 h0
    rw [Nat.sub_self] at h1
    rw [h1]
    exact ⟨rfl, fun _ => rfl⟩
  · exact ⟨h.2 h0, fun he => absurd he h0⟩
/-- What reading the functions leaves. -/
structure FunsDone (base : Nat) (w : World) (rb B : Nat) (X : Value) (b : List Int) (r : Rd × List FunV) (D : Value) (data : List Int) (e : Ending) (w' : World) : Prop where
  ret : e = .returned (.pointer (some ⟨rb, 0, none⟩))
  ful : ∃ F fs Cs, FulAt base w' rb B X b r.1 D F data fs Cs ∧ (r.1.err = 0 → fs = r.2) ∧ fs.length ≤ 255
  but : But (OneBlock rb) w w'
theorem but_own {w wr w2 : World} {rb : Nat} {F : Value} (h : But (OneBlock rb) w wr) (hb : But (fun k => k = rb ∨ some k = F.ownBlock) wr w2) (hF : ∀ g, F.ownBlock = some g → w.heap.size ≤ g) : But (OneBlock rb) w w2 :=
  ⟨hb.os.trans h.os, hb.tape.trans h.tape, hb.output.trans h.output, Nat.le_trans h.size hb.size, fun k hk hn => (hb.block k (Nat.lt_of_lt_of_le hk h.size) (fun e => by
    rcases e with e | e
    · exact hn e
    · have := hF k e.symm
      omega)).trans (h.block k hk hn)⟩
set_option maxRecDepth 100000 in
set_option maxHeartbeats 8000000 in
theorem functions8_any (base : Nat) (w : World) (rb B : Nat) (X : Value) (b : List Int) (s : Rd) (D : Value) (data : List Int) (h : FulAt base w rb B X b s D (.slice none 0 0) data [] []) (hbase : base ≤ w.heap.size) :
    Calls Try.prog 43 #[.pointer (some ⟨rb, 0, none⟩)] w (FunsDone base w rb B X b (funsR b (numR b s 1).2.toNat ((numR b s 1).1.need (someV (numR b s 1).2) 2 s.pos) []) D data) := by
  have hlow := h.rd.low
  have hlt := h.rd.lt
  have hb0 : Below w.heap.size w (w.alloc (.cells #[.int .i64 0] 3)) := (Below.refl _ w).alloc (Nat.le_refl _) _
  have HB0 := Lib.hid (But.of_below (R := OneBlock rb) hb0)
  have H := Lib.hid h
  obtain ⟨c0, c1, c2, c3, c4, c5⟩ := h.rd.cells
  have HN := Lib.hid (numb_one _ rb B w.heap.size 0 X b s D (.slice none 0 0) #[.int .i64 0] 3 (h.rd.grow hb0) (heap_alloc_new w _) rfl (by omega) (by omega))
  have hbd := num_bd (b := b) (s := s) (n := 1) h.rd.byt.1 (by omega)
  have hbl : (numR b s 1).2 < 256 := by
    have h1 := numV_bd (take_bd (s := s) (n := 1) h.rd.byt.1)
    have h2 := (take_len (b := b) (s := s) (n := 1)).1
    have h3 : (takeR b s 1).2.length = 0 ∨ (takeR b s 1).2.length = 1 := by omega
    have h4 : numV (takeR b s 1).2 < 256 ^ (takeR b s 1).2.length := h1.2
    show numV (takeR b s 1).2 < 256
    rcases h3 with h3 | h3 <;> rw [h3] at h4
    · have : (256 : Int) ^ 0 = 1 := rfl
      omega
    · have : (256 : Int) ^ 1 = 256 := rfl
      omega
  obtain ⟨q, hq⟩ : ∃ q : Nat, (numR b s 1).2 = (q : Int) := ⟨(numR b s 1).2.toNat, by omega⟩
  have hq0 : q ≤ 255 := by omega
  have hqt : (numR b s 1).2.toNat = q := by omega
  rw [hqt]
  generalize numR b s 1 = r1 at *
  obtain ⟨s1, m⟩ := r1
  dsimp only at hq ⊢
  subst hq
  have HSm := Lib.hid (fun W => some_any q W)
  obtain ⟨dec, hdec⟩ : ∃ dec, dec = someV q := ⟨_, rfl⟩
  rw [← hdec] at HSm ⊢
  generalize hsb : s1.need dec 2 s.pos = sb
  have HSB := Lib.hid hsb
  have hq1 : (0 : Int) ≤ (q : Int) := by omega
  clear h hb0 hbd hbl hqt hdec hsb
  go_enter Try.func43, Try.ntmps43
  go_wp2_with (first
    | (go_at_call 67; (with_reducible refine HN.out.mono ?_); rintro e w1 ⟨rfl, hr, hb, ho⟩; have HR1 := Lib.hid hr; have ho' : w1.heap[w.heap.size]? = some (.cells #[.int .i64 q] 3 (0, 0)) := ho; have HO1 := Lib.hid ho'; have HB1 := Lib.hid (but_far HB0.out (Nat.le_refl _) hb); have m0 := cell1 ho'; clear hr hb ho ho')
    | (go_at_call 52; (with_reducible refine (HSm.out _).mono ?_); rintro e w2 ⟨rfl, hw2⟩; subst hw2)
    | (go_at_call 62; (with_reducible refine (need_any w1 rb B X b s1 D (.slice none 0 0) dec 2 s.pos HR1.out).mono ?_); rintro e w3 ⟨rfl, hr, hb⟩; have HR3 := Lib.hid (show RdAt w3 rb B X b sb D (.slice none 0 0) by rw [← HSB.out]; exact hr); have ho3 := hb.heap HO1.out (show ¬ w.heap.size = rb by omega); have n0 := cell1 ho3; have HB3 := Lib.hid (HB1.out.trans hb); clear hr hb ho3))
  go_loopw [18] (fun i wr => ∃ (k : Nat) (sr : Rd) (F : Value) (fs : List FunV) (Cs : List Value), k ≤ q ∧ i = .int .i64 k ∧ Hid (FulAt base wr rb B X b sr D F data fs Cs ∧ fs.length ≤ k ∧ (∀ g, F.ownBlock = some g → w.heap.size ≤ g) ∧ But (OneBlock rb) w wr ∧ RunF b q k sb sr fs)) (fun i _ => q - (intOf i).toNat)
  case atStart => exact ⟨0, sb, _, [], [], by omega, rfl, ⟨H.out.step HB3.out HR3.out, by simp, by simp [Value.ownBlock], HB3.out, run_start _ _ _⟩⟩
  case round =>
    obtain ⟨k, sr, F, fs, Cs, hk, rfl, HR⟩ := hrel
    have hbr := HR.out.2.2.2.1.size
    clear n0 m0
    by_cases hlt2 : k < q
    · have hk1 : (k : Int) < (q : Int) := by omega
      have HF := Lib.hid (function8_any base wr rb B X b sr D F data fs Cs HR.out.1 (by have := HR.out.2.1; omega) (fun g hg => by have := HR.out.2.2.1 g hg; omega) (by omega))
      have HK := Lib.hid hlt2
      clear hlt2
      go_wp2_with (go_at_call 68; (with_reducible refine HF.out.mono ?_); rintro e w4 ⟨rfl, ⟨F', fs', Cs', hf, he, hF, hl⟩, hb⟩; have HF4 := Lib.hid hf; have HE4 := Lib.hid (And.intro he (And.intro hF hl)); have HB4 := Lib.hid hb; clear hf he hF hl hb)
      go_roundw
      case rel => exact ⟨k + 1, _, F', fs', Cs', by omega, by go_num, ⟨HF4.out, by have := HE4.out.2.2; have := HR.out.2.1; omega, fun g hg => by
        rcases HE4.out.2.1 g hg with h | h
        · exact HR.out.2.2.1 g h
        · omega, but_own HR.out.2.2.2.1 HB4.out HR.out.2.2.1, run_step HR.out.2.2.2.2 HK.out HE4.out.1⟩⟩
      case measure => simp [intOf]; omega
    · obtain rfl : k = q := by omega
      clear hlt2
      go_wp2
      go_ret
      obtain ⟨hf, hl, hF, hb, hrun⟩ := HR.out
      obtain ⟨h1, h2⟩ := run_end hrun
      rw [← h1] at hf h2
      exact ⟨rfl, ⟨F, fs, Cs, hf, h2, by omega⟩, hb⟩
end Go.Proofs.Ytimhlbejjbnofaa

/- (Mod08O) The landed module.Get: which module bytes are, or what is wrong with them. Contract; no condition but that the bytes are at most a million. -/
namespace Go.Proofs.Ytimhlbejjbnofaa
open Go.RowKit Go.Shelf
set_option linter.unusedVariables false
set_option linter.unusedSimpArgs false

/-- What Get leaves. -/
def MGotDone (w : World) (g : MGot) (e : Ending) (w' : World) : Prop :=
  ∃ D F Cs, e = .returned (.tuple #[.agg #[D, F], .agg #[.int .i64 g.err, .int .i64 g.at_]]) ∧ OutB w w' D g.m.data ∧ OwnF 47 0 w' F g.m.funcs Cs
abbrev set22 (W : World) (m g : Nat) (v0 v1 u0 u1 : Value) : World := (((W.setCell ⟨m, 0, none⟩ v0).setCell ⟨m, 1, none⟩ v1).setCell ⟨g, 0, none⟩ u0).setCell ⟨g, 1, none⟩ u1
theorem only22 (W : World) (m g : Nat) (v0 v1 u0 u1 : Value) : But (TwoBlocks m g) W (set22 W m g v0 v1 u0 u1) :=
  ((((but_one W m 0 v0).trans (but_one _ m 1 v1)).mono fun k hk => .inl hk).trans ((but_one _ g 0 u0).mono fun k hk => .inr hk)).trans ((but_one _ g 1 u1).mono fun k hk => .inr hk)
/-- What stands in memory where Get ends. -/
structure MGetAt (w W : World) (X : Value) (b : List Int) (s : Rd) (D F : Value) (data : List Int) (fs : List FunV) (Cs : List Value) : Prop where
  ful : FulAt w.heap.size W (w.heap.size + 2) w.heap.size X b s D F data fs Cs
  mod : W.heap[w.heap.size]? = some (.cells #[.slice none 0 0, .slice none 0 0] 25 (0, 0))
  fau : W.heap[w.heap.size + 1]? = some (.cells #[.int .i64 0, .int .i64 0] 38 (0, 0))
  bel : Below w.heap.size w W
theorem MGetAt.step {w W W' : World} {X D F : Value} {b data : List Int} {s s' : Rd} {fs : List FunV} {Cs : List Value} (h : MGetAt w W X b s D F data fs Cs) (hb : But (OneBlock (w.heap.size + 2)) W W') (hr : RdAt W' (w.heap.size + 2) w.heap.size X b s' D F) : MGetAt w W' X b s' D F data fs Cs :=
  ⟨h.ful.step hb hr, hb.heap h.mod (show ¬ w.heap.size = w.heap.size + 2 by omega), hb.heap h.fau (show ¬ w.heap.size + 1 = w.heap.size + 2 by omega), But.below h.bel hb h.bel.size (fun k hk => by have : k = w.heap.size + 2 := hk; omega)⟩
theorem mget_end {w W : World} {X D F : Value} {b data : List Int} {s : Rd} {fs : List FunV} {Cs : List Value} (h : MGetAt w W X b s D F data fs Cs) (v0 v1 u0 u1 : Value) :
    Below w.heap.size w (set22 W w.heap.size (w.heap.size + 1) v0 v1 u0 u1) ∧ Owns (set22 W w.heap.size (w.heap.size + 1) v0 v1 u0 u1) w.heap.size 5 1 IsU8 D data.length (data.map (Value.int .u8)) ∧ OwnF 47 0 (set22 W w.heap.size (w.heap.size + 1) v0 v1 u0 u1) F fs Cs ∧ (set22 W w.heap.size (w.heap.size + 1) v0 v1 u0 u1).heap[w.heap.size]? = some (.cells #[v0, v1] 25 (0, 0)) ∧ (set22 W w.heap.size (w.heap.size + 1) v0 v1 u0 u1).heap[w.heap.size + 1]? = some (.cells #[u0, u1] 38 (0, 0)) := by
  have hb := only22 W w.heap.size (w.heap.size + 1) v0 v1 u0 u1
  have typ : ∀ (u : TypeId), u ≠ 25 → u ≠ 38 → ∀ g c, W.heap[g]? = some (.cells c u (0, 0)) → ¬ TwoBlocks w.heap.size (w.heap.size + 1) g := fun u hu hv g c hc e => by
    rcases e with e | e
    · subst e
      exact hu (other_type hc h.mod)
    · subst e
      exact hv (other_type hc h.fau)
  refine ⟨But.below h.bel hb h.bel.size (fun k hk => by rcases hk with e | e <;> omega), Owns.but h.ful.dat hb (fun g hg => ?_), h.ful.funs.but hb (fun g hg => ?_) (fun k hk => absurd hk (Nat.not_lt_zero _)) (typ _ (by decide) (by decide)) (typ _ (by decide) (by decide)), ?_, ?_⟩
  · obtain ⟨c, hc⟩ := h.ful.dat.typed hg
    exact typ _ (by decide) (by decide) g c hc
  · obtain ⟨c, hc⟩ := h.ful.funs.own.typed hg
    exact typ _ (by decide) (by decide) g c hc
  · have h1 := heap_setCell_same W w.heap.size 0 _ _ v0 h.mod
    have h2 := heap_setCell_same _ w.heap.size 1 _ _ v1 h1
    have h3 := (but_one _ (w.heap.size + 1) 0 u0).heap h2 (show ¬ w.heap.size = w.heap.size + 1 by omega)
    exact (but_one _ (w.heap.size + 1) 1 u1).heap h3 (show ¬ w.heap.size = w.heap.size + 1 by omega)
  · have h1 := (but_one _ w.heap.size 0 v0).heap h.fau (show ¬ w.heap.size + 1 = w.heap.size by omega)
    have h2 := (but_one _ w.heap.size 1 v1).heap h1 (show ¬ w.heap.size + 1 = w.heap.size by omega)
    have h3 := heap_setCell_same _ (w.heap.size + 1) 0 _ _ u0 h2
    exact heap_setCell_same _ (w.heap.size + 1) 1 _ _ u1 h3
theorem mget_start (w : World) (X : Value) (b : List Int) (hX : IsBytes w w.heap.size X b) (hl : b.length ≤ 1000000) :
    MGetAt w (((w.alloc (.cells #[.slice none 0 0, .slice none 0 0] 25)).alloc (.cells #[.int .i64 0, .int .i64 0] 38)).alloc (.cells #[.int .i64 0, .int .i64 0, X, .int .i64 0, .slice none 0 0, .slice none 0 0] 70)) X b Rd.zero (.slice none 0 0) (.slice none 0 0) [] [] [] := by
  have hb : Below w.heap.size w (((w.alloc (.cells #[.slice none 0 0, .slice none 0 0] 25)).alloc (.cells #[.int .i64 0, .int .i64 0] 38)).alloc (.cells #[.int .i64 0, .int .i64 0, X, .int .i64 0, .slice none 0 0, .slice none 0 0] 70)) := (((Below.refl _ w).alloc (Nat.le_refl _) _).alloc (by simp) _).alloc (by simp only [World.size_alloc]; omega) _
  refine ⟨⟨⟨?_, hX.below hb (Nat.le_refl _), by omega, hl, Nat.zero_le _⟩, Owns.nil _ _ _ _ _, OwnF.nil _ _ _⟩, ?_, ?_, hb⟩
  · have := heap_alloc_new ((w.alloc (.cells #[.slice none 0 0, .slice none 0 0] 25)).alloc (.cells #[.int .i64 0, .int .i64 0] 38)) (.cells #[.int .i64 0, .int .i64 0, X, .int .i64 0, .slice none 0 0, .slice none 0 0] 70)
    rw [World.size_alloc, World.size_alloc] at this
    exact this
  · rw [Below.heap_alloc _ _ _ (by simp only [World.size_alloc]; omega), Below.heap_alloc _ _ _ (by simp)]
    exact heap_alloc_new _ _
  · rw [Below.heap_alloc _ _ _ (by simp)]
    have := heap_alloc_new (w.alloc (.cells #[.slice none 0 0, .slice none 0 0] 25)) (.cells #[.int .i64 0, .int .i64 0] 38)
    rw [World.size_alloc] at this
    exact this
theorem mget_bad {b : List Int} (h : (lastR b).err ≠ 0) : getM b = ⟨(lastR b).err, (lastR b).at_, ⟨[], []⟩⟩ := by unfold getM; rw [if_neg h]
theorem mget_ok {b : List Int} (h : (lastR b).err = 0) : getM b = ⟨0, 0, readM b⟩ := by unfold getM; rw [if_pos h]
theorem mlast_ok {b : List Int} (h : (lastR b).err = 0) : (endR b).err = 0 ∧ (allR b).1.err = 0 ∧ (readM b).err = 0 ∧ (allR b).1.pos = b.length := by
  obtain ⟨h1, h2, _⟩ := need_ok (by decide) h
  obtain ⟨h3, h4, _⟩ := need_ok (by decide) h1
  exact ⟨h1, h3, of_decide_eq_true h2, of_decide_eq_true h4⟩
theorem mget_data {w W W' : World} {X D : Value} {b data : List Int} {s s' : Rd} (h : MGetAt w W X b s (.slice none 0 0) (.slice none 0 0) [] [] []) (hb : But (OneBlock (w.heap.size + 2)) W W') (hr : RdAt W' (w.heap.size + 2) w.heap.size X b s' D (.slice none 0 0)) (ho : Owns W' W.heap.size 5 1 IsU8 D data.length (data.map (Value.int .u8))) : MGetAt w W' X b s' D (.slice none 0 0) data [] [] :=
  ⟨⟨hr, Owns.base ho h.bel.size, OwnF.nil _ _ _⟩, hb.heap h.mod (show ¬ w.heap.size = w.heap.size + 2 by omega), hb.heap h.fau (show ¬ w.heap.size + 1 = w.heap.size + 2 by omega), But.below h.bel hb h.bel.size (fun k hk => by have : k = w.heap.size + 2 := hk; omega)⟩
theorem mget_funs {w W W' : World} {X D F : Value} {b data : List Int} {s s' : Rd} {fs : List FunV} {Cs : List Value} (h : MGetAt w W X b s D (.slice none 0 0) data [] []) (hb : But (OneBlock (w.heap.size + 2)) W W') (hf : FulAt w.heap.size W' (w.heap.size + 2) w.heap.size X b s' D F data fs Cs) : MGetAt w W' X b s' D F data fs Cs :=
  ⟨hf, hb.heap h.mod (show ¬ w.heap.size = w.heap.size + 2 by omega), hb.heap h.fau (show ¬ w.heap.size + 1 = w.heap.size + 2 by omega), But.below h.bel hb h.bel.size (fun k hk => by have : k = w.heap.size + 2 := hk; omega)⟩
theorem mget_zero {w W : World} {D F : Value} {data : List Int} {fs : List FunV} {Cs : List Value} {m g : Obj} (h : Below w.heap.size w W ∧ Owns W w.heap.size 5 1 IsU8 D data.length (data.map (Value.int .u8)) ∧ OwnF 47 0 W F fs Cs ∧ W.heap[w.heap.size]? = some m ∧ W.heap[w.heap.size + 1]? = some g) :
    Below w.heap.size w W.drew ∧ Owns W.drew w.heap.size 5 1 IsU8 (.slice none 0 0) 0 [] ∧ OwnF 47 0 W.drew (.slice none 0 0) [] [] ∧ W.drew.heap[w.heap.size]? = some m ∧ W.drew.heap[w.heap.size + 1]? = some g := ⟨h.1.drew, Owns.nil _ _ _ _ _, OwnF.nil _ _ _, h.2.2.2.1, h.2.2.2.2⟩
set_option maxRecDepth 100000 in
set_option maxHeartbeats 16000000 in
theorem get8_any (X : Value) (b : List Int) (w : World) (hX : IsBytes w w.heap.size X b) (hl : b.length ≤ 1000000) : Calls Try.prog 22 #[X] w (MGotDone w (getM b)) := by
  obtain ⟨XA, xc, hXe⟩ := hX.len
  subst hXe
  have HS := Lib.hid (mget_start w _ b hX hl)
  obtain ⟨n, hn⟩ : ∃ n, n = b.length := ⟨_, rfl⟩
  have HNn := Lib.hid hn
  have HbD := Lib.hid (fun (s : Rd) => block_bd (b := b) (s := s) (most := 8192) hX.1)
  rw [← hn] at HS ⊢
  have hM : Hid (∀ W, RdAt W (w.heap.size + 2) w.heap.size (.slice XA n xc) b Rd.zero (.slice none 0 0) (.slice none 0 0) → Calls Try.prog 41 #[.pointer (some ⟨w.heap.size + 2, 0, none⟩)] W (StepR W (w.heap.size + 2) w.heap.size (.slice XA n xc) b (headR b) (.slice none 0 0) (.slice none 0 0))) := Lib.hid fun W hr => mark8_any W _ _ _ b Rd.zero _ _ hr
  have hD : Hid (∀ W, RdAt W (w.heap.size + 2) w.heap.size (.slice XA n xc) b (headR b) (.slice none 0 0) (.slice none 0 0) → Calls Try.prog 42 #[.pointer (some ⟨w.heap.size + 2, 0, none⟩)] W fun e w' => ∃ D', StepR W (w.heap.size + 2) w.heap.size (.slice XA n xc) b (dataR b).1 D' (.slice none 0 0) e w' ∧ Owns w' W.heap.size 5 1 IsU8 D' (dataR b).2.length ((dataR b).2.map (Value.int .u8))) := Lib.hid fun W hr => data8_any W _ _ _ b (headR b) _ _ hr
  have hF : Hid (∀ W D, FulAt w.heap.size W (w.heap.size + 2) w.heap.size (.slice XA n xc) b (dataR b).1 D (.slice none 0 0) (dataR b).2 [] [] → w.heap.size ≤ W.heap.size → Calls Try.prog 43 #[.pointer (some ⟨w.heap.size + 2, 0, none⟩)] W (FunsDone w.heap.size W (w.heap.size + 2) w.heap.size (.slice XA n xc) b (allR b) D (dataR b).2)) := Lib.hid fun W D hr hs => functions8_any _ W _ _ _ b (dataR b).1 D _ hr hs
  have hE : Hid (∀ W D F, RdAt W (w.heap.size + 2) w.heap.size (.slice XA n xc) b (allR b).1 D F → Calls Try.prog 44 #[.pointer (some ⟨w.heap.size + 2, 0, none⟩)] W (StepR W (w.heap.size + 2) w.heap.size (.slice XA n xc) b (endR b) D F)) := Lib.hid fun W D F hr => end8_any W _ _ _ b (allR b).1 D F hr
  have hV : Hid (∀ W D F, RdAt W (w.heap.size + 2) w.heap.size (.slice XA n xc) b (endR b) D F → ((endR b).err = 0 → IsBytes W W.heap.size D (dataR b).2 ∧ IsFuns W W.heap.size F (allR b).2) → Calls Try.prog 45 #[.pointer (some ⟨w.heap.size + 2, 0, none⟩)] W (StepR W (w.heap.size + 2) w.heap.size (.slice XA n xc) b (lastR b) D F)) := Lib.hid fun W D F hr hm => valid8_any W _ _ _ b (endR b) D F (dataR b).2 (allR b).2 hr hm
  have hEA : Hid ((endR b).err = 0 → (allR b).1.err = 0) := Lib.hid fun h => (need_ok (by decide) h).1
  have hok := fun h => mlast_ok (b := b) h
  have hgb := fun h => mget_bad (b := b) h
  have hgo := fun h => mget_ok (b := b) h
  have hrm : readM b = ⟨(dataR b).2, (allR b).2⟩ := rfl
  have hlD : Hid (∀ x ∈ (dataR b).2, 0 ≤ x ∧ x < 256) := Lib.hid (HbD.out (headR b))
  clear hX HbD hn hl
  by_cases hz : (lastR b).err = 0
  · have HG := Lib.hid (hgo hz)
    rw [hrm] at HG
    have HOK := Lib.hid (hok hz)
    rw [HG.out]
    have hb0 : ((lastR b).err != 0) = false := by simpa using hz
    clear hok hgb hgo hrm HG
    generalize lastR b = sl at *
    generalize endR b = se at *
    generalize allR b = ra at *
    generalize dataR b = rd at *
    generalize headR b = sh at *
    obtain ⟨sd, data⟩ := rd
    obtain ⟨sa, fsa⟩ := ra
    dsimp only at hD hF hE hV hEA hlD ⊢
    go_enter Try.func22, Try.ntmps22
    go_wp2_with (first
      | (go_at_call 41; (with_reducible refine (hM.out _ HS.out.ful.rd).mono ?_); rintro e w1 ⟨rfl, hr, hb⟩; have H1 := Lib.hid (HS.out.step hb hr); clear hr hb)
      | (go_at_call 42; (with_reducible refine (hD.out _ H1.out.ful.rd).mono ?_); rintro e w2 ⟨D2, ⟨rfl, hr, hb⟩, ho⟩; obtain ⟨dA, dc, hde⟩ := owns_len ho; subst hde; have H2 := Lib.hid (mget_data H1.out hb hr ho); clear hr hb ho)
      | (go_at_call 43; (with_reducible refine (hF.out _ _ H2.out.ful H2.out.bel.size).mono ?_); rintro e w3 ⟨rfl, ⟨F3, fs3, Cs3, hf, he, hl⟩, hb⟩; obtain ⟨fA, fc, hfe⟩ := owns_len hf.funs.own; subst hfe; have H3 := Lib.hid (mget_funs H2.out hb hf); have HE3 := Lib.hid (And.intro he hl); clear hf he hl hb)
      | (go_at_call 44; (with_reducible refine (hE.out _ _ _ H3.out.ful.rd).mono ?_); rintro e w4 ⟨rfl, hr, hb⟩; have H4 := Lib.hid (H3.out.step hb hr); clear hr hb)
      | (go_at_call 45; (with_reducible refine (hV.out _ _ _ H4.out.ful.rd (fun h0 => ⟨IsBytes.of_owns H4.out.ful.dat hlD.out (Nat.le_refl _), by rw [← HE3.out.1 (hEA.out h0)]; exact H4.out.ful.funs.funs (by have := HE3.out.2; omega)⟩)).mono ?_); rintro e w5 ⟨rfl, hr, hb⟩; have H5 := Lib.hid (H4.out.step hb hr); obtain ⟨c0, c1, c2, c3, c4, c5⟩ := hr.cells; obtain ⟨m0, m1⟩ := cells2 H5.out.mod; obtain ⟨f0, f1⟩ := cells2 H5.out.fau; have n0 := frozen_of_row w5 w.heap.size 0 _ _ H5.out.mod; have n1 := frozen_of_row w5 w.heap.size 1 _ _ H5.out.mod; have g0 := frozen_of_row w5 (w.heap.size + 1) 0 _ _ H5.out.fau; have g1 := frozen_of_row w5 (w.heap.size + 1) 1 _ _ H5.out.fau; clear hr hb))
    refine (show ∀ W, (Below w.heap.size w W ∧ Owns W w.heap.size 5 1 IsU8 (.slice dA data.length dc) data.length (data.map (Value.int .u8)) ∧ OwnF 47 0 W (.slice fA fs3.length fc) fs3 Cs3 ∧ W.heap[w.heap.size]? = some (.cells #[Value.slice dA data.length dc, .slice fA fs3.length fc] 25 (0, 0)) ∧ W.heap[w.heap.size + 1]? = some (.cells #[.int .i64 0, .int .i64 0] 38 (0, 0))) → bodyPost _ _ _ _ _ W from fun W h => ?_) _ (mget_end H5.out (.slice dA data.length dc) (.slice fA fs3.length fc) (.int .i64 0) (.int .i64 0))
    obtain ⟨hb, hd, hf, hm, hu⟩ := h
    obtain ⟨r0, r1⟩ := cells2 hm
    obtain ⟨r2, r3⟩ := cells2 hu
    refine bodyPost_ret (v := .tuple #[.agg #[.slice dA data.length dc, .slice fA fs3.length fc], .agg #[.int .i64 0, .int .i64 0]]) (by simp [results, Try.results22, go_sem, r0, r1, r2, r3]) rfl ?_
    have hfs : fs3 = fsa := HE3.out.1 HOK.out.2.1
    rw [hfs] at hf
    refine ⟨.slice dA data.length dc, .slice fA fs3.length fc, Cs3, rfl, ⟨hd, hb⟩, ?_⟩
    rw [hfs]
    exact hf
  · have HG := Lib.hid (hgb hz)
    rw [HG.out]
    have hb0 : ((lastR b).err != 0) = true := by simpa using hz
    clear hok hgb hgo hrm HG
    generalize lastR b = sl at *
    generalize endR b = se at *
    generalize allR b = ra at *
    generalize dataR b = rd at *
    generalize headR b = sh at *
    obtain ⟨sd, data⟩ := rd
    obtain ⟨sa, fsa⟩ := ra
    dsimp only at hD hF hE hV hEA hlD ⊢
    go_enter Try.func22, Try.ntmps22
    go_wp2_with (first
      | (go_at_call 41; (with_reducible refine (hM.out _ HS.out.ful.rd).mono ?_); rintro e w1 ⟨rfl, hr, hb⟩; have H1 := Lib.hid (HS.out.step hb hr); clear hr hb)
      | (go_at_call 42; (with_reducible refine (hD.out _ H1.out.ful.rd).mono ?_); rintro e w2 ⟨D2, ⟨rfl, hr, hb⟩, ho⟩; obtain ⟨dA, dc, hde⟩ := owns_len ho; subst hde; have H2 := Lib.hid (mget_data H1.out hb hr ho); clear hr hb ho)
      | (go_at_call 43; (with_reducible refine (hF.out _ _ H2.out.ful H2.out.bel.size).mono ?_); rintro e w3 ⟨rfl, ⟨F3, fs3, Cs3, hf, he, hl⟩, hb⟩; obtain ⟨fA, fc, hfe⟩ := owns_len hf.funs.own; subst hfe; have H3 := Lib.hid (mget_funs H2.out hb hf); have HE3 := Lib.hid (And.intro he hl); clear hf he hl hb)
      | (go_at_call 44; (with_reducible refine (hE.out _ _ _ H3.out.ful.rd).mono ?_); rintro e w4 ⟨rfl, hr, hb⟩; have H4 := Lib.hid (H3.out.step hb hr); clear hr hb)
      | (go_at_call 45; (with_reducible refine (hV.out _ _ _ H4.out.ful.rd (fun h0 => ⟨IsBytes.of_owns H4.out.ful.dat hlD.out (Nat.le_refl _), by rw [← HE3.out.1 (hEA.out h0)]; exact H4.out.ful.funs.funs (by have := HE3.out.2; omega)⟩)).mono ?_); rintro e w5 ⟨rfl, hr, hb⟩; have H5 := Lib.hid (H4.out.step hb hr); obtain ⟨c0, c1, c2, c3, c4, c5⟩ := hr.cells; obtain ⟨m0, m1⟩ := cells2 H5.out.mod; obtain ⟨f0, f1⟩ := cells2 H5.out.fau; have n0 := frozen_of_row w5 w.heap.size 0 _ _ H5.out.mod; have n1 := frozen_of_row w5 w.heap.size 1 _ _ H5.out.mod; have g0 := frozen_of_row w5 (w.heap.size + 1) 0 _ _ H5.out.fau; have g1 := frozen_of_row w5 (w.heap.size + 1) 1 _ _ H5.out.fau; clear hr hb))
    go_region
    go_wp2
    refine (show ∀ W, (Below w.heap.size w W ∧ Owns W w.heap.size 5 1 IsU8 (.slice none 0 0) 0 [] ∧ OwnF 47 0 W (.slice none 0 0) [] [] ∧ W.heap[w.heap.size]? = some (.cells #[Value.slice none 0 0, Value.slice none 0 0] 25 (0, 0)) ∧ W.heap[w.heap.size + 1]? = some (.cells #[.int .i64 sl.err, .int .i64 sl.at_] 38 (0, 0))) → bodyPost _ _ _ _ _ W from fun W h => ?_) _ (mget_zero (mget_end H5.out (.slice none 0 0) (.slice none 0 0) (.int .i64 sl.err) (.int .i64 sl.at_)))
    obtain ⟨hb, hd, hf, hm, hu⟩ := h
    obtain ⟨r0, r1⟩ := cells2 hm
    obtain ⟨r2, r3⟩ := cells2 hu
    refine bodyPost_ret (v := .tuple #[.agg #[Value.slice none 0 0, Value.slice none 0 0], .agg #[.int .i64 sl.err, .int .i64 sl.at_]]) (by simp [results, Try.results22, go_sem, r0, r1, r2, r3]) rfl ?_
    exact ⟨.slice none 0 0, .slice none 0 0, [], rfl, ⟨Owns.nil _ _ _ _ _, hb⟩, OwnF.nil _ _ _⟩
end Go.Proofs.Ytimhlbejjbnofaa

/- (Math08B) A module's bytes are read as it; what is read is put as these bytes: plain mathematics. -/
namespace Go.Proofs.Ytimhlbejjbnofaa
set_option linter.unusedVariables false
set_option linter.unusedSimpArgs false

theorem drop_next {b x r : List Int} {p : Nat} (h : b.drop p = x ++ r) : b.drop (p + x.length) = r := by
  rw [← List.drop_drop, h, List.drop_left]
theorem drop_len {b x r : List Int} {p : Nat} (hp : p ≤ b.length) (h : b.drop p = x ++ r) : p + x.length ≤ b.length := by
  have := congrArg List.length h
  simp only [List.length_drop, List.length_append] at this
  omega
theorem take_at {b x r : List Int} {s : Rd} (hs : s.err = 0) (hp : s.pos ≤ b.length) (h : b.drop s.pos = x ++ r) : takeR b s x.length = (⟨s.err, s.at_, s.pos + x.length⟩, x) := by
  rw [take_yes hs (drop_len hp h), h, List.take_left]
theorem num_at {b r : List Int} {s : Rd} {a : Int} {n : Nat} (hs : s.err = 0) (hp : s.pos ≤ b.length) (h : b.drop s.pos = bytesV a n ++ r) (h0 : 0 ≤ a) (ha : a < 256 ^ n) : numR b s n = (⟨s.err, s.at_, s.pos + n⟩, a) := by
  have h1 := take_at hs hp h
  rw [bytesV_len] at h1
  unfold numR
  rw [h1]
  show (_, numV (bytesV a n)) = _
  rw [numV_bytesV, Int.emod_eq_of_lt h0 ha]
theorem block_at {b x r : List Int} {s : Rd} {most : Int} (hs : s.err = 0) (hp : s.pos ≤ b.length) (h : b.drop s.pos = bytesV x.length 2 ++ (x ++ r)) (hm : (x.length : Int) ≤ most) (hx : x.length < 65536) : blockR b s most = (⟨s.err, s.at_, s.pos + 2 + x.length⟩, x) := by
  have h1 : numR b s 2 = (⟨s.err, s.at_, s.pos + 2⟩, (x.length : Int)) := num_at hs hp h (by omega) (by
    have : (256 : Int) ^ 2 = 65536 := rfl
    omega)
  have h2 := drop_next h
  have h3 := drop_len hp h
  rw [bytesV_len] at h2 h3
  unfold blockR cntR
  rw [h1]
  simp only [decide_eq_true hm, Rd.need_yes, Int.toNat_natCast]
  exact take_at (s := ⟨s.err, s.at_, s.pos + 2⟩) hs h3 h2
theorem frame_ok {f : FunV} (h : f.err = 0) : 0 ≤ f.params ∧ f.params < 256 ∧ 0 ≤ f.regs ∧ f.regs < 256 ∧ 0 ≤ f.area ∧ f.area < 65536 ∧ joinE f.code = 0 := by
  unfold FunV.err at h
  by_cases h1 : framedV f.params f.regs f.area = true
  · rw [if_pos h1] at h
    have h2 := of_decide_eq_true h1
    by_cases h3 : joinE f.code = 0
    · omega
    · rw [if_neg h3] at h; exact absurd h h3
  · rw [if_neg h1] at h; exact absurd h (by decide)
theorem fun_at {b r : List Int} {s : Rd} {f : FunV} (hs : s.err = 0) (hp : s.pos ≤ b.length) (hf : f.err = 0) (h : b.drop s.pos = f.bytes ++ r) : funS b s = ⟨s.err, s.at_, s.pos + f.bytes.length⟩ ∧ funF b s = f := by
  obtain ⟨p0, p1, r0, r1, a0, a1, hj⟩ := frame_ok hf
  have hl := (first_all hj).2
  unfold FunV.bytes at h
  simp only [List.append_assoc] at h
  have e256 : (256 : Int) ^ 1 = 256 := rfl
  have e2 : (256 : Int) ^ 2 = 65536 := rfl
  have h1 : fun1 b s = (⟨s.err, s.at_, s.pos + 1⟩, f.params) := num_at hs hp h p0 (by omega)
  have d1 := drop_next h
  have l1 := drop_len hp h
  rw [bytesV_len] at d1 l1
  have h2 : fun2 b s = (⟨s.err, s.at_, s.pos + 1 + 1⟩, f.regs) := by
    unfold fun2
    rw [h1]
    exact num_at (s := ⟨s.err, s.at_, s.pos + 1⟩) hs l1 d1 r0 (by omega)
  have d2 := drop_next d1
  have l2 := drop_len l1 d1
  rw [bytesV_len] at d2 l2
  have h3 : fun3 b s = (⟨s.err, s.at_, s.pos + 1 + 1 + 2⟩, f.area) := by
    unfold fun3
    rw [h2]
    exact num_at (s := ⟨s.err, s.at_, s.pos + 1 + 1⟩) hs l2 d2 a0 (by omega)
  have d3 := drop_next d2
  have l3 := drop_len l2 d2
  rw [bytesV_len] at d3 l3
  have h4 : fun4 b s = (⟨s.err, s.at_, s.pos + 1 + 1 + 2 + 2 + (allB f.code).length⟩, allB f.code) := by
    unfold fun4
    rw [h3]
    exact block_at (s := ⟨s.err, s.at_, s.pos + 1 + 1 + 2⟩) hs l3 d3 (by omega) (by omega)
  have hsp := split_join hj
  have hlen : f.bytes.length = 6 + (allB f.code).length := by
    unfold FunV.bytes
    simp only [List.length_append, bytesV_len]
    omega
  constructor
  · unfold funS
    rw [h4, hsp]
    simp only [decide_true, Rd.need_yes]
    congr 1
    omega
  · unfold funF
    rw [h1, h2, h3, h4, hsp]
theorem funs_at {b r : List Int} : ∀ (fs : List FunV) (s : Rd) (l : List FunV), s.err = 0 → s.pos ≤ b.length → (∀ f ∈ fs, f.err = 0) → b.drop s.pos = allF fs ++ r → funsR b fs.length s l = (⟨s.err, s.at_, s.pos + (allF fs).length⟩, l ++ fs)
  | [], s, l, hs, hp, hf, h => by simp [funsR, allF]
  | f :: fs, s, l, hs, hp, hf, h => by
    have e : allF (f :: fs) = f.bytes ++ allF fs := by simp [allF]
    rw [e, List.append_assoc] at h
    obtain ⟨h1, h2⟩ := fun_at hs hp (hf f (by simp)) h
    have d1 := drop_next h
    have l1 := drop_len hp h
    rw [List.length_cons, funs_go hs, h1, h2]
    have := funs_at fs ⟨s.err, s.at_, s.pos + f.bytes.length⟩ (l ++ [f]) hs l1 (fun g hg => hf g (List.mem_cons_of_mem _ hg)) d1
    rw [this, e, List.length_append]
    simp only [List.append_assoc, List.cons_append, List.nil_append, Nat.add_assoc]
theorem merr_parts {m : ModV} (h : m.err = 0) : m.data.length ≤ 8192 ∧ 1 ≤ m.funcs.length ∧ m.funcs.length ≤ 64 ∧ ∀ f ∈ m.funcs, f.err = 0 := by
  unfold ModV.err at h
  by_cases hd : 8192 < m.data.length
  · rw [if_pos hd] at h; exact absurd h (by decide)
  · rw [if_neg hd] at h
    by_cases hs : someV m.funcs.length = true
    · rw [if_pos hs] at h
      have := of_decide_eq_true hs
      refine ⟨by omega, by omega, by omega, ?_⟩
      intro f hf
      have : ∀ {l : List FunV}, firstF l = 0 → ∀ f ∈ l, f.err = 0 := by
        intro l
        induction l with
        | nil => simp
        | cons g l ih =>
          intro h f hf
          simp only [firstF] at h
          by_cases hg : g.err = 0
          · rw [if_pos hg] at h
            rcases List.mem_cons.1 hf with rfl | hf
            · exact hg
            · exact ih h f hf
          · rw [if_neg hg] at h; exact absurd h hg
      exact this h f hf
    · rw [if_neg hs] at h; exact absurd h (by decide)
/-- A module's bytes, and more behind them. -/
theorem get_of {m : ModV} (h : m.err = 0) (rest : List Int) : getM (m.bytes ++ rest) = if rest = [] then ⟨0, 0, m⟩ else ⟨4, m.bytes.length, ⟨[], []⟩⟩ := by
  obtain ⟨hd, h1, h64, hf⟩ := merr_parts h
  obtain ⟨b, hb⟩ : ∃ b, b = m.bytes ++ rest := ⟨_, rfl⟩
  rw [← hb]
  have hb' := hb
  unfold ModV.bytes at hb'
  simp only [List.append_assoc] at hb'
  have d0 : b.drop (Rd.zero).pos = markL ++ (bytesV m.data.length 2 ++ (m.data ++ (bytesV m.funcs.length 1 ++ (allF m.funcs ++ rest)))) := by rw [hb']; rfl
  have e3 : b.take 3 = markL := by rw [hb']; rfl
  have hh : headR b = ⟨0, 0, 3⟩ := by
    unfold headR
    rw [e3]
    have e : (markL == markL.take markL.length) = true := rfl
    rw [e, Rd.need_yes]
    have := take_at (b := b) (s := Rd.zero) rfl (Nat.zero_le _) d0
    rw [show markL.length = 3 from rfl] at this
    rw [this]
  have d1 := drop_next d0
  have l1 := drop_len (Nat.zero_le _) d0
  have hD : dataR b = (⟨0, 0, 3 + 2 + m.data.length⟩, m.data) := by
    unfold dataR
    rw [hh]
    exact block_at (s := ⟨0, 0, 3⟩) rfl l1 d1 (by omega) (by omega)
  have d2 := drop_next d1
  have l2 := drop_len l1 d1
  rw [bytesV_len] at d2 l2
  have d3 := drop_next d2
  have l3 := drop_len l2 d2
  have p3 : (Rd.zero).pos + markL.length + 2 + m.data.length = 3 + 2 + m.data.length := rfl
  rw [p3] at d3 l3
  have hM : manyR b = (⟨0, 0, 3 + 2 + m.data.length + 1⟩, (m.funcs.length : Int)) := by
    unfold manyR
    rw [hD]
    exact num_at (s := ⟨0, 0, 3 + 2 + m.data.length⟩) rfl l3 d3 (by omega) (by
      have : (256 : Int) ^ 1 = 256 := rfl
      omega)
  have d4 := drop_next d3
  have l4 := drop_len l3 d3
  rw [bytesV_len] at d4 l4
  have hS : someV (m.funcs.length : Int) = true := decide_eq_true (by omega)
  have hB : begR b = ⟨0, 0, 3 + 2 + m.data.length + 1⟩ := by
    unfold begR
    rw [hM]
    simp only [hS, Rd.need_yes]
  have hA : allR b = (⟨0, 0, 3 + 2 + m.data.length + 1 + (allF m.funcs).length⟩, m.funcs) := by
    unfold allR
    rw [hB, hM]
    have := funs_at m.funcs ⟨0, 0, 3 + 2 + m.data.length + 1⟩ [] rfl l4 hf d4
    simp only [Int.toNat_natCast]
    rw [this]
    rfl
  have hlen : m.bytes.length = 3 + 2 + m.data.length + 1 + (allF m.funcs).length := by
    unfold ModV.bytes
    simp only [List.length_append, bytesV_len, show markL.length = 3 from rfl]
    omega
  have hbl : b.length = m.bytes.length + rest.length := by rw [hb, List.length_append]
  have hrd : readM b = m := by unfold readM; rw [hD, hA]
  by_cases hr : rest = []
  · rw [if_pos hr]
    have hE : endR b = ⟨0, 0, 3 + 2 + m.data.length + 1 + (allF m.funcs).length⟩ := by
      unfold endR
      rw [hA]
      simp only
      rw [decide_eq_true (by rw [hbl, hlen, hr]; rfl), Rd.need_yes]
    have hL : lastR b = ⟨0, 0, 3 + 2 + m.data.length + 1 + (allF m.funcs).length⟩ := by
      unfold lastR
      rw [hE, hrd, h]
      simp only [decide_true, Rd.need_yes]
    unfold getM
    rw [hL, hrd]
    rfl
  · rw [if_neg hr]
    have hrl : 0 < rest.length := List.length_pos_iff.2 hr
    have hE : endR b = ⟨4, m.bytes.length, 3 + 2 + m.data.length + 1 + (allF m.funcs).length⟩ := by
      unfold endR
      rw [hA]
      simp only
      rw [decide_eq_false (by omega), Rd.need_no rfl, hlen]
    have hL : lastR b = ⟨4, m.bytes.length, 3 + 2 + m.data.length + 1 + (allF m.funcs).length⟩ := by
      unfold lastR
      rw [hE, Rd.need_bad (by show ¬ (4 : Int) = 0; decide)]
    unfold getM
    rw [hL]
    rfl

/-! ### What is read is put as it was -/
theorem take_seg {b : List Int} {s : Rd} {n : Nat} (h : (takeR b s n).1.err = 0) : s.err = 0 ∧ b.drop s.pos = (takeR b s n).2 ++ b.drop (takeR b s n).1.pos ∧ (takeR b s n).2.length = n := by
  obtain ⟨h1, h2, h3⟩ := take_err h
  rw [h3]
  refine ⟨h1, ?_, part_len h2⟩
  show b.drop s.pos = (b.drop s.pos).take n ++ b.drop (s.pos + n)
  rw [← List.drop_drop, List.take_append_drop]
theorem num_seg {b : List Int} (hb : ∀ x ∈ b, 0 ≤ x ∧ x < 256) {s : Rd} {n : Nat} (h : (numR b s n).1.err = 0) : s.err = 0 ∧ b.drop s.pos = bytesV (numR b s n).2 n ++ b.drop (numR b s n).1.pos := by
  obtain ⟨h1, h2, h3⟩ := take_seg (s := s) (n := n) h
  refine ⟨h1, ?_⟩
  show b.drop s.pos = bytesV (numV (takeR b s n).2) n ++ b.drop (takeR b s n).1.pos
  have h4 := bytesV_numV (takeR b s n).2 (take_bd hb)
  rw [h3] at h4
  rw [h4]
  exact h2
theorem block_seg {b : List Int} (hb : ∀ x ∈ b, 0 ≤ x ∧ x < 256) {s : Rd} {most : Int} (h : (blockR b s most).1.err = 0) : s.err = 0 ∧ b.drop s.pos = bytesV (blockR b s most).2.length 2 ++ ((blockR b s most).2 ++ b.drop (blockR b s most).1.pos) ∧ ((blockR b s most).2.length : Int) ≤ most := by
  obtain ⟨h1, h2, h3⟩ := take_seg h
  unfold cntR at h1
  obtain ⟨h4, h5, h6⟩ := need_ok (by decide) h1
  obtain ⟨h7, h8⟩ := num_seg hb h4
  have hn := (num_bd (s := s) (n := 2) hb (by omega)).1
  have h9 : ((blockR b s most).2.length : Int) = (numR b s 2).2 := by
    show (((takeR b (cntR b s most) (numR b s 2).2.toNat).2.length : Nat) : Int) = _
    rw [h3]
    omega
  refine ⟨h7, ?_, by rw [h9]; exact of_decide_eq_true h5⟩
  rw [h9, h8]
  congr 1
  have h10 : (cntR b s most).pos = (numR b s 2).1.pos := Rd.need_pos _ _ _ _
  rw [← h10]
  exact h2
theorem fun_seg {b : List Int} (hb : ∀ x ∈ b, 0 ≤ x ∧ x < 256) {s : Rd} (h : (funS b s).err = 0) : s.err = 0 ∧ b.drop s.pos = (funF b s).bytes ++ b.drop (funS b s).pos := by
  unfold funS at h
  obtain ⟨h1, h2, _⟩ := need_ok (by decide) h
  have hsp := of_decide_eq_true h2
  obtain ⟨_, _, hall⟩ := splitV_ok (fun4_bd (s := s) hb) hsp
  have e4 : fun4 b s = blockR b (fun3 b s).1 4096 := rfl
  rw [e4] at h1
  obtain ⟨a1, a2, _⟩ := block_seg hb h1
  have e3 : fun3 b s = numR b (fun2 b s).1 2 := rfl
  rw [e3] at a1
  obtain ⟨b1, b2⟩ := num_seg hb a1
  have e2 : fun2 b s = numR b (fun1 b s).1 1 := rfl
  rw [e2] at b1
  obtain ⟨c1, c2⟩ := num_seg hb b1
  have e1 : fun1 b s = numR b s 1 := rfl
  rw [e1] at c1
  obtain ⟨d1, d2⟩ := num_seg hb c1
  refine ⟨d1, ?_⟩
  have hpos : (funS b s).pos = (fun4 b s).1.pos := Rd.need_pos _ _ _ _
  rw [hpos]
  unfold FunV.bytes funF
  simp only
  rw [hall]
  rw [← e4] at a2
  rw [← e3] at b2
  rw [← e2] at c2
  rw [← e1] at d2
  simp only [List.append_assoc]
  rw [d2, c2, b2, a2]
theorem funs_seg {b : List Int} (hb : ∀ x ∈ b, 0 ≤ x ∧ x < 256) : ∀ (k : Nat) (s : Rd) (l : List FunV), (funsR b k s l).1.err = 0 → s.err = 0 ∧ ∃ m, (funsR b k s l).2 = l ++ m ∧ m.length = k ∧ b.drop s.pos = allF m ++ b.drop (funsR b k s l).1.pos
  | 0, s, l, h => ⟨h, [], by simp [funsR], rfl, by simp [funsR, allF]⟩
  | k + 1, s, l, h => by
    by_cases hs : s.err = 0
    · rw [funs_go hs] at h ⊢
      obtain ⟨h1, m, h2, h3, h4⟩ := funs_seg hb k _ _ h
      obtain ⟨h5, h6⟩ := fun_seg hb h1
      refine ⟨h5, funF b s :: m, by rw [h2]; simp, by simp [h3], ?_⟩
      have e : allF (funF b s :: m) = (funF b s).bytes ++ allF m := by simp [allF]
      rw [e, List.append_assoc, ← h4]
      exact h6
    · rw [funs_bad hs] at h
      exact absurd h hs
theorem put_of {b : List Int} (hb : ∀ x ∈ b, 0 ≤ x ∧ x < 256) (h : (getM b).err = 0) : (getM b).at_ = 0 ∧ (getM b).m.err = 0 ∧ (getM b).m.bytes = b := by
  have hl : (lastR b).err = 0 := by
    by_cases hl : (lastR b).err = 0
    · exact hl
    · unfold getM at h; rw [if_neg hl] at h; exact h
  have hg : getM b = ⟨0, 0, readM b⟩ := by unfold getM; rw [if_pos hl]
  rw [hg]
  unfold lastR at hl
  obtain ⟨l1, l2, _⟩ := need_ok (by decide) hl
  have hv := of_decide_eq_true l2
  refine ⟨rfl, hv, ?_⟩
  unfold endR at l1
  obtain ⟨e1, e2, _⟩ := need_ok (by decide) l1
  have hend := of_decide_eq_true e2
  unfold allR at e1 hend
  obtain ⟨a1, m, a2, a3, a4⟩ := funs_seg hb _ _ _ e1
  unfold begR at a1
  obtain ⟨b1, b2, b3⟩ := need_ok (by decide) a1
  have hbp : (begR b).pos = (manyR b).1.pos := Rd.need_pos _ _ _ _
  have em : manyR b = numR b (dataR b).1 1 := rfl
  rw [em] at b1
  obtain ⟨c1, c2⟩ := num_seg hb b1
  rw [← em] at c2
  have ed : dataR b = blockR b (headR b) 8192 := rfl
  rw [ed] at c1
  obtain ⟨d1, d2, _⟩ := block_seg hb c1
  rw [← ed] at d2
  unfold headR at d1
  obtain ⟨t1, t2, t3⟩ := take_seg d1
  obtain ⟨n1, n2, n3⟩ := need_ok (by decide) t1
  rw [n3] at t2 t3 d1
  have hh : headR b = (takeR b Rd.zero 3).1 := by unfold headR; rw [n3]
  have h3 : b.take 3 = (takeR b Rd.zero 3).2 := by
    obtain ⟨_, _, h⟩ := take_err d1
    rw [h]
    rfl
  have hmk : (takeR b Rd.zero 3).2 = markL := by
    have := beq_iff_eq.1 n2
    rw [h3, t3] at this
    rw [this]
    rfl
  have hall : (allR b).2 = m := by unfold allR; rw [a2]; rfl
  have hmn : ((readM b).funcs.length : Int) = (manyR b).2 := by
    show (((allR b).2.length : Nat) : Int) = _
    rw [hall, a3]
    have := (num_bd (s := (dataR b).1) (n := 1) hb (by omega)).1
    rw [← em] at this
    omega
  have hz : b.drop b.length = [] := List.drop_of_length_le (Nat.le_refl _)
  have s0 : b = markL ++ b.drop (headR b).pos := by
    rw [hh, ← hmk]
    exact t2
  have s1 : b.drop (begR b).pos = allF m := by
    rw [a4, hend, hz, List.append_nil]
  unfold ModV.bytes
  show markL ++ (bytesV (dataR b).2.length 2 ++ ((dataR b).2 ++ (bytesV (readM b).funcs.length 1 ++ allF (allR b).2))) = b
  rw [hmn, hall, ← s1, hbp, ← c2, ← d2, ← s0]

/-! ### A fault is within the bytes -/
def Rd.fit (b : List Int) (s : Rd) : Prop := s.pos ≤ b.length ∧ 0 ≤ s.at_ ∧ s.at_ ≤ b.length
section
variable {b : List Int} {s : Rd}
theorem fit_need (h : s.fit b) (t : Bool) {e k : Int} (hk : 0 ≤ k ∧ k ≤ b.length) : (s.need t e k).fit b := by
  unfold Rd.need
  split
  · exact ⟨h.1, hk.1, hk.2⟩
  · exact h
theorem fit_take (h : s.fit b) (n : Nat) : (takeR b s n).1.fit b := by
  refine ⟨(take_pos h.1).1, ?_⟩
  unfold takeR
  split
  · split
    · exact h.2
    · exact ⟨by show (0 : Int) ≤ (b.length : Int); omega, Int.le_refl _⟩
  · exact h.2
theorem fit_block (h : s.fit b) (most : Int) : (blockR b s most).1.fit b :=
  fit_take (fit_need (fit_take h 2) _ ⟨by omega, by have := h.1; omega⟩) _
theorem fit_fun (h : s.fit b) : (funS b s).fit b := by
  have h4 : (fun4 b s).1.fit b := fit_block (fit_take (fit_take (fit_take h 1) 1) 2) 4096
  have hp := fun4_place (b := b) (s := s) h.1
  refine fit_need h4 _ ⟨by omega, ?_⟩
  have := h4.1
  omega
theorem fit_funs : ∀ (k : Nat) {s : Rd} (l : List FunV), s.fit b → (funsR b k s l).1.fit b
  | 0, s, l, h => h
  | k + 1, s, l, h => by
    by_cases hs : s.err = 0
    · rw [funs_go hs]; exact fit_funs k _ (fit_fun h)
    · rw [funs_bad hs]; exact h
end
theorem mget_fit (b : List Int) : 0 ≤ (getM b).at_ ∧ (getM b).at_ ≤ b.length := by
  have h0 : (Rd.zero).fit b := ⟨Nat.zero_le _, Int.le_refl _, by show (0 : Int) ≤ b.length; omega⟩
  have h1 : (headR b).fit b := fit_take (fit_need h0 _ ⟨Int.le_refl _, by omega⟩) 3
  have h2 : (dataR b).1.fit b := fit_block h1 8192
  have h3 : (begR b).fit b := fit_need (fit_take h2 1) _ ⟨by omega, by have := h2.1; omega⟩
  have h4 : (allR b).1.fit b := fit_funs _ _ h3
  have h5 : (endR b).fit b := fit_need h4 _ ⟨by omega, by have := h4.1; omega⟩
  have h6 : (lastR b).fit b := fit_need h5 _ ⟨Int.le_refl _, by omega⟩
  unfold getM
  split
  · exact ⟨Int.le_refl _, by show (0 : Int) ≤ b.length; omega⟩
  · exact h6.2
end Go.Proofs.Ytimhlbejjbnofaa
