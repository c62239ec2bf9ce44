/- The document's own Get of layer 8. Contract; no condition but that the bytes lie in a row, at most a thousand. -/
import Derived.Test.YtimhlbejjbnofaaRef08D
import Derived.Test.YtimhlbejjbnofaaRef08A
import Derived.Test.YtimhlbejjbnofaaS13
namespace Go.Proofs.Ytimhlbejjbnofaa
open Go.RowKit Go.Shelf
set_option linter.unusedVariables false
set_option linter.unusedSimpArgs false

/-! ### Where there is no fault, its place is none -/
def Rd.zed (s : Rd) : Prop := s.err = 0 → s.at_ = 0
section
variable {b : List Int} {s : Rd}
theorem zed_need (h : s.zed) (t : Bool) {e : Int} (he : e ≠ 0) (k : Int) : (s.need t e k).zed := by
  unfold Rd.need
  split
  · exact fun h0 => absurd h0 he
  · exact h
theorem zed_take (h : s.zed) (n : Nat) : (takeR b s n).1.zed := by
  unfold takeR
  split
  · split
    · exact h
    · exact fun h0 => absurd h0 (by show ¬ (4 : Int) = 0; decide)
  · exact h
theorem zed_block (h : s.zed) (most : Int) : (blockR b s most).1.zed := zed_take (zed_need (zed_take h 2) _ (by decide) _) _
theorem zed_fun (h : s.zed) : (funS b s).zed := zed_need (zed_block (zed_take (zed_take (zed_take h 1) 1) 2) 4096) _ (by decide) _
theorem zed_funs : ∀ (k : Nat) {s : Rd} (l : List FunV), s.zed → (funsR b k s l).1.zed
  | 0, s, l, h => h
  | k + 1, s, l, h => by
    by_cases hs : s.err = 0
    · rw [funs_go hs]; exact zed_funs k _ (zed_fun h)
    · rw [funs_bad hs]; exact h
theorem zed_last (b : List Int) : (lastR b).zed := by
  have h0 : Rd.zero.zed := fun _ => rfl
  have h1 : (headR b).zed := zed_take (zed_need h0 _ (by decide) _) _
  have h2 : (dataR b).1.zed := zed_block h1 _
  have h3 : (begR b).zed := zed_need (zed_take h2 1) _ (by decide) _
  have h4 : (allR b).1.zed := zed_funs _ _ h3
  exact zed_need (zed_need h4 _ (by decide) _) _ (by decide) _
end
theorem rget_of {b : List Int} (h : (lastR b).err = 0) : (lastR b).at_ = 0 := zed_last b h

/-- While the document's Get reads, up to its module's box. -/
structure RG0 (w W : World) (X : Value) (b : List Int) (s : Rd) : Prop where
  rd : RrAt W (w.heap.size + 2) w.heap.size X b s
  res : W.heap[w.heap.size]? = some (.cells #[.slice none 0 0, .slice none 0 0] 25 (0, 0))
  fau : W.heap[w.heap.size + 1]? = some (.cells #[.int .i64 0, .int .i64 0] 38 (0, 0))
  bel : Below w.heap.size w W
/-- While the document's Get reads. -/
structure RGet (w W : World) (X : Value) (b : List Int) (s : Rd) (mb : Nat) (D F : Value) (data : List Int) (fs : List FunV) (Cs : List Value) : Prop where
  beg : RG0 w W X b s
  mod : W.heap[mb]? = some (.cells #[D, F] 25 (0, 0))
  mlo : w.heap.size + 2 < mb
  dat : Owns W w.heap.size 5 1 IsU8 D data.length (data.map (Value.int .u8))
  fns : OwnF 47 w.heap.size W F fs Cs
/-- The same, between an append to the functions and its store. -/
structure RG1 (w W : World) (X : Value) (b : List Int) (s : Rd) (mb : Nat) (D F : Value) (data : List Int) : Prop where
  beg : RG0 w W X b s
  mod : W.heap[mb]? = some (.cells #[D, F] 25 (0, 0))
  mlo : w.heap.size + 2 < mb
  dat : Owns W w.heap.size 5 1 IsU8 D data.length (data.map (Value.int .u8))
section
variable {w W W' : World} {X D F : Value} {b data : List Int} {s s' : Rd} {mb : Nat} {fs : List FunV} {Cs : List Value}
theorem RG0.step (h : RG0 w W X b s) (hb : But (OneBlock (w.heap.size + 2)) W W') (hr : RrAt W' (w.heap.size + 2) w.heap.size X b s') : RG0 w W' X b s' :=
  ⟨hr, hb.heap h.res (show ¬ w.heap.size = w.heap.size + 2 by omega), hb.heap h.fau (show ¬ w.heap.size + 1 = w.heap.size + 2 by omega), But.below h.bel hb h.bel.size (fun k hk => by have : k = w.heap.size + 2 := hk; omega)⟩
theorem RG0.grow (h : RG0 w W X b s) (hb : Below W.heap.size W W') : RG0 w W' X b s := h.step (But.of_below hb) (h.rd.grow hb)
theorem RGet.step (h : RGet w W X b s mb D F data fs Cs) (hb : But (OneBlock (w.heap.size + 2)) W W') (hr : RrAt W' (w.heap.size + 2) w.heap.size X b s') : RGet w W' X b s' mb D F data fs Cs := by
  have typ : ∀ (u : TypeId), u ≠ 75 → ∀ g c, W.heap[g]? = some (.cells c u (0, 0)) → ¬ OneBlock (w.heap.size + 2) g := fun u hu g c hc e => by
    have e' : g = w.heap.size + 2 := e
    subst e'
    exact hu (other_type hc h.beg.rd.blk)
  refine ⟨h.beg.step hb hr, hb.heap h.mod (show ¬ mb = w.heap.size + 2 by have := h.mlo; omega), h.mlo, Owns.but h.dat hb (fun g hg => ?_), h.fns.but hb (fun g hg => ?_) (fun k hk e => by have e' : k = w.heap.size + 2 := e; omega) (typ _ (by decide)) (typ _ (by decide))⟩
  · obtain ⟨c, hc⟩ := h.dat.typed hg
    exact typ _ (by decide) g c hc
  · obtain ⟨c, hc⟩ := h.fns.own.typed hg
    exact typ _ (by decide) g c hc
theorem RGet.grow (h : RGet w W X b s mb D F data fs Cs) (hb : Below W.heap.size W W') : RGet w W' X b s mb D F data fs Cs := h.step (But.of_below hb) (h.beg.rd.grow hb)
/-- The module's box is made. -/
theorem RG0.made (h : RG0 w W X b s) (ho : Owns W w.heap.size 5 1 IsU8 D data.length (data.map (Value.int .u8))) : RGet w (W.alloc (.cells #[D, .slice none 0 0] 25)) X b s W.heap.size D (.slice none 0 0) data [] [] := by
  have hb : Below W.heap.size W (W.alloc (.cells #[D, .slice none 0 0] 25)) := (Below.refl _ W).alloc (Nat.le_refl _) _
  exact ⟨h.grow hb, heap_alloc_new _ _, h.rd.lt, ho.below hb (Nat.le_refl _), OwnF.nil _ _ _⟩
/-- A function more: behind the append. -/
theorem RGet.more {F' : Value} {f : FunV} {C : Value} (h : RGet w W X b s mb D F data fs Cs) (hm : MoreF 47 w.heap.size W W' F F' fs Cs f C) : RG1 w W' X b s mb D F data ∧ W'.heap[mb]? = some (.cells #[D, F] 25 (0, 0)) := by
  have hb : But (fun k => some k = F.ownBlock) W W' := ⟨hm.bel.os, hm.bel.tape, hm.bel.output, hm.size, fun k hk hn => hm.blk k hk hn⟩
  have typ : ∀ (u : TypeId), u ≠ 47 → ∀ g c, W.heap[g]? = some (.cells c u (0, 0)) → ¬ some g = F.ownBlock := fun u hu g c hc e => by
    obtain ⟨c2, hc2⟩ := h.fns.own.typed e.symm
    exact hu (other_type hc hc2)
  have hmod := hb.heap h.mod (typ _ (by decide) _ _ h.mod)
  refine ⟨⟨⟨h.beg.rd.but hb (typ _ (by decide) _ _ h.beg.rd.blk) (fun k hk e => by have := (h.fns.own.lt e.symm).1; omega), hb.heap h.beg.res (typ _ (by decide) _ _ h.beg.res), hb.heap h.beg.fau (typ _ (by decide) _ _ h.beg.fau), h.beg.bel.trans hm.bel⟩, hmod, h.mlo, Owns.but h.dat hb (fun g hg => ?_)⟩, hmod⟩
  · obtain ⟨c, hc⟩ := h.dat.typed hg
    exact typ _ (by decide) g c hc
/-- A function more: behind the store. -/
theorem RG1.put {F' : Value} (h : RG1 w W X b s mb D F data) (hf : OwnF 47 w.heap.size W F' fs Cs) : RGet w (W.setCell ⟨mb, 1, none⟩ F') X b s mb D F' data fs Cs := by
  have h1 := heap_setCell_same W mb 1 _ _ F' h.mod
  have hb := but_one W mb 1 F'
  have hlo := h.mlo
  have typ : ∀ (u : TypeId), u ≠ 25 → ∀ g c, W.heap[g]? = some (.cells c u (0, 0)) → ¬ OneBlock mb g := fun u hu g c hc e => by
    have e' : g = mb := e
    subst e'
    exact hu (other_type hc h.mod)
  refine ⟨⟨h.beg.rd.but hb (fun e => by have e' : w.heap.size + 2 = mb := e; omega) (fun k hk e => by have e' : k = mb := e; omega), hb.heap h.beg.res (show ¬ w.heap.size = mb by omega), hb.heap h.beg.fau (show ¬ w.heap.size + 1 = mb by omega), But.below h.beg.bel hb h.beg.bel.size (fun k hk => by have : k = mb := hk; omega)⟩, h1, h.mlo, Owns.but h.dat hb (fun g hg => ?_), hf.but hb (fun g hg => ?_) (fun k hk e => by have e' : k = mb := e; omega) (typ _ (by decide)) (typ _ (by decide))⟩
  · obtain ⟨c, hc⟩ := h.dat.typed hg
    exact typ _ (by decide) g c hc
  · obtain ⟨c, hc⟩ := hf.own.typed hg
    exact typ _ (by decide) g c hc
theorem rg0_start (w : World) (X : Value) (b : List Int) (hX : IsBytes w w.heap.size X b) (hl : b.length ≤ 1000000) :
    RG0 w (((w.alloc (.cells #[.slice none 0 0, .slice none 0 0] 25)).alloc (.cells #[.int .i64 0, .int .i64 0] 38)).alloc (.cells #[X, .int .i64 0, .int .i64 0, .int .i64 0] 75)) X b Rd.zero := by
  have hb : Below w.heap.size w (((w.alloc (.cells #[.slice none 0 0, .slice none 0 0] 25)).alloc (.cells #[.int .i64 0, .int .i64 0] 38)).alloc (.cells #[X, .int .i64 0, .int .i64 0, .int .i64 0] 75)) := (((Below.refl _ w).alloc (Nat.le_refl _) _).alloc (by simp) _).alloc (by simp only [World.size_alloc]; omega) _
  refine ⟨⟨?_, hX.below hb (Nat.le_refl _), by omega, hl, Nat.zero_le _⟩, ?_, ?_, hb⟩
  · have := heap_alloc_new ((w.alloc (.cells #[.slice none 0 0, .slice none 0 0] 25)).alloc (.cells #[.int .i64 0, .int .i64 0] 38)) (.cells #[X, .int .i64 0, .int .i64 0, .int .i64 0] 75)
    rw [World.size_alloc, World.size_alloc] at this
    exact this
  · rw [Below.heap_alloc _ _ _ (by simp only [World.size_alloc]; omega), Below.heap_alloc _ _ _ (by simp)]
    exact heap_alloc_new _ _
  · rw [Below.heap_alloc _ _ _ (by simp)]
    have := heap_alloc_new (w.alloc (.cells #[.slice none 0 0, .slice none 0 0] 25)) (.cells #[.int .i64 0, .int .i64 0] 38)
    rw [World.size_alloc] at this
    exact this
theorem rget_end (h : RGet w W X b s mb D F data fs Cs) (v0 v1 u0 u1 : Value) :
    Below w.heap.size w (set22 W w.heap.size (w.heap.size + 1) v0 v1 u0 u1) ∧ Owns (set22 W w.heap.size (w.heap.size + 1) v0 v1 u0 u1) w.heap.size 5 1 IsU8 D data.length (data.map (Value.int .u8)) ∧ OwnF 47 w.heap.size (set22 W w.heap.size (w.heap.size + 1) v0 v1 u0 u1) F fs Cs ∧ (set22 W w.heap.size (w.heap.size + 1) v0 v1 u0 u1).heap[w.heap.size]? = some (.cells #[v0, v1] 25 (0, 0)) ∧ (set22 W w.heap.size (w.heap.size + 1) v0 v1 u0 u1).heap[w.heap.size + 1]? = some (.cells #[u0, u1] 38 (0, 0)) := by
  have hb := only22 W w.heap.size (w.heap.size + 1) v0 v1 u0 u1
  have typ : ∀ (u : TypeId), u ≠ 25 → u ≠ 38 → ∀ g c, W.heap[g]? = some (.cells c u (0, 0)) → ¬ TwoBlocks w.heap.size (w.heap.size + 1) g := fun u hu hv g c hc e => by
    rcases e with e | e
    · subst e
      exact hu (other_type hc h.beg.res)
    · subst e
      exact hv (other_type hc h.beg.fau)
  refine ⟨But.below h.beg.bel hb h.beg.bel.size (fun k hk => by rcases hk with e | e <;> omega), Owns.but h.dat hb (fun g hg => ?_), h.fns.but hb (fun g hg => ?_) (fun k hk e => by rcases e with e | e <;> omega) (typ _ (by decide) (by decide)) (typ _ (by decide) (by decide)), ?_, ?_⟩
  · obtain ⟨c, hc⟩ := h.dat.typed hg
    exact typ _ (by decide) (by decide) g c hc
  · obtain ⟨c, hc⟩ := h.fns.own.typed hg
    exact typ _ (by decide) (by decide) g c hc
  · have h1 := heap_setCell_same W w.heap.size 0 _ _ v0 h.beg.res
    have h2 := heap_setCell_same _ w.heap.size 1 _ _ v1 h1
    have h3 := (but_one _ (w.heap.size + 1) 0 u0).heap h2 (show ¬ w.heap.size = w.heap.size + 1 by omega)
    exact (but_one _ (w.heap.size + 1) 1 u1).heap h3 (show ¬ w.heap.size = w.heap.size + 1 by omega)
  · have h1 := (but_one _ w.heap.size 0 v0).heap h.beg.fau (show ¬ w.heap.size + 1 = w.heap.size by omega)
    have h2 := (but_one _ w.heap.size 1 v1).heap h1 (show ¬ w.heap.size + 1 = w.heap.size by omega)
    have h3 := heap_setCell_same _ (w.heap.size + 1) 0 _ _ u0 h2
    exact heap_setCell_same _ (w.heap.size + 1) 1 _ _ u1 h3
end
theorem rget_none {w W : World} {D F : Value} {data : List Int} {fs : List FunV} {Cs : List Value} {m g : Obj} (h : Below w.heap.size w W ∧ Owns W w.heap.size 5 1 IsU8 D data.length (data.map (Value.int .u8)) ∧ OwnF 47 w.heap.size W F fs Cs ∧ W.heap[w.heap.size]? = some m ∧ W.heap[w.heap.size + 1]? = some g) :
    Below w.heap.size w W.drew ∧ Owns W.drew w.heap.size 5 1 IsU8 (.slice none 0 0) 0 [] ∧ OwnF 47 w.heap.size W.drew (.slice none 0 0) [] [] ∧ W.drew.heap[w.heap.size]? = some m ∧ W.drew.heap[w.heap.size + 1]? = some g := ⟨h.1.drew, Owns.nil _ _ _ _ _, OwnF.nil _ _ _, h.2.2.2.1, h.2.2.2.2⟩
theorem rget_some {w W : World} {D F : Value} {data : List Int} {fs : List FunV} {Cs : List Value} {m g : Obj} (h : Below w.heap.size w W ∧ Owns W w.heap.size 5 1 IsU8 D data.length (data.map (Value.int .u8)) ∧ OwnF 47 w.heap.size W F fs Cs ∧ W.heap[w.heap.size]? = some m ∧ W.heap[w.heap.size + 1]? = some g) :
    Below w.heap.size w W.drew ∧ Owns W.drew w.heap.size 5 1 IsU8 D data.length (data.map (Value.int .u8)) ∧ OwnF 47 w.heap.size W.drew F fs Cs ∧ W.drew.heap[w.heap.size]? = some m ∧ W.drew.heap[w.heap.size + 1]? = some g := by
  have hb : Below W.heap.size W W.drew := (Below.refl _ W).drew
  exact ⟨h.1.drew, h.2.1.below hb (Nat.le_refl _), h.2.2.1.below hb (Nat.le_refl _), h.2.2.2.1, h.2.2.2.2⟩
/-- What the document's Get leaves. -/
def RGotDone (w : World) (g : MGot) (e : Ending) (w' : World) : Prop :=
  ∃ D F Cs, e = .returned (.tuple #[.agg #[D, F], .agg #[.int .i64 g.err, .int .i64 g.at_]]) ∧ OutB w w' D g.m.data ∧ OwnF 47 w.heap.size w' F g.m.funcs Cs
set_option maxRecDepth 100000 in
set_option maxHeartbeats 16000000 in
theorem rget8_any (X : Value) (b : List Int) (w : World) (hX : IsBytes w w.heap.size X b) (hl : b.length ≤ 1000) : Calls Try.prog 23 #[X] w (RGotDone w (getM b)) := by
  obtain ⟨XA, xc, hXe⟩ := hX.len
  subst hXe
  have HS := Lib.hid (rg0_start w _ b hX (by omega))
  obtain ⟨L, hL⟩ : ∃ L, L = b.length := ⟨_, rfl⟩
  have HL := Lib.hid hL
  rw [← hL] at HS hl ⊢
  have hbd := hX.1
  have HH : Hid (∀ W, RrAt W (w.heap.size + 2) w.heap.size (.slice XA L xc) b Rd.zero → Calls Try.prog 46 #[.pointer (some ⟨w.heap.size + 2, 0, none⟩)] W (RStep W (w.heap.size + 2) w.heap.size (.slice XA L xc) b (headR b))) := Lib.hid fun W hr => rhead_any W _ _ _ b hr
  have HBl : Hid (∀ W, RrAt W (w.heap.size + 2) w.heap.size (.slice XA L xc) b (headR b) → Calls Try.prog 47 #[.pointer (some ⟨w.heap.size + 2, 0, none⟩), .int .i64 8192] W (RBlock W (w.heap.size + 2) w.heap.size (.slice XA L xc) b (dataR b))) := Lib.hid fun W hr => rblock_any W _ _ _ b (headR b) 8192 hr
  have HNu : Hid (∀ W, RrAt W (w.heap.size + 2) w.heap.size (.slice XA L xc) b (dataR b).1 → Calls Try.prog 48 #[.pointer (some ⟨w.heap.size + 2, 0, none⟩), .int .i64 1] W (RNum W (w.heap.size + 2) w.heap.size (.slice XA L xc) b (manyR b))) := Lib.hid fun W hr => rnumber_one W _ _ _ b (dataR b).1 hr
  have hbeg : begR b = (manyR b).1.need (someV (manyR b).2) 2 (dataR b).1.pos := rfl
  have hall : allR b = funsR b (manyR b).2.toNat (begR b) [] := rfl
  have hend : endR b = (allR b).1.need (decide ((allR b).1.pos = b.length)) 4 (allR b).1.pos := rfl
  have hlast : lastR b = (endR b).need (decide ((readM b).err = 0)) 2 0 := rfl
  have hrm : readM b = ⟨(dataR b).2, (allR b).2⟩ := rfl
  have HPA := Lib.hid (all_pos (b := b))
  have HGf := Lib.hid (fun h => mget_bad (b := b) h)
  have HGo := Lib.hid (fun h => mget_ok (b := b) h)
  have HLa := Lib.hid (fun h => rget_of (b := b) h)
  have HDB : Hid (∀ x ∈ (dataR b).2, 0 ≤ x ∧ x < 256) := Lib.hid (block_bd (s := headR b) (most := 8192) hbd)
  have HFl := Lib.hid (fun s => Nat.le_trans (splitV_len (fun4_bd (s := s) hbd)) (fun4_len (b := b) (s := s)))
  have HFB := Lib.hid (fun s => fun_bd (b := b) (s := s) hbd)
  have hm0 := num_bd (b := b) (s := (dataR b).1) (n := 1) hbd (by omega)
  have hm1 : (manyR b).2 < 256 := by
    have h1 := numV_bd (take_bd (b := b) (s := (dataR b).1) (n := 1) hbd)
    have h2 := (take_len (b := b) (s := (dataR b).1) (n := 1)).1
    have h3 : (takeR b (dataR b).1 1).2.length = 0 ∨ (takeR b (dataR b).1 1).2.length = 1 := by omega
    have h4 : numV (takeR b (dataR b).1 1).2 < 256 ^ (takeR b (dataR b).1 1).2.length := h1.2
    show numV (takeR b (dataR b).1 1).2 < 256
    rcases h3 with h3 | h3 <;> rw [h3] at h4
    · have : (256 : Int) ^ 0 = 1 := rfl
      omega
    · have : (256 : Int) ^ 1 = 256 := rfl
      omega
  have hm0 : 0 ≤ (manyR b).2 := hm0.1
  obtain ⟨q, hq⟩ : ∃ q : Nat, (manyR b).2 = (q : Int) := ⟨(manyR b).2.toNat, by omega⟩
  have hqt : (manyR b).2.toNat = q := by omega
  rw [hqt] at hall
  rw [hrm] at hlast HGo
  generalize lastR b = sl at *
  generalize endR b = se at *
  generalize hallg : allR b = ra at *
  generalize begR b = sb at *
  generalize manyR b = r1 at *
  generalize dataR b = rd at *
  generalize headR b = sh at *
  obtain ⟨s1, m⟩ := r1
  obtain ⟨sd, data⟩ := rd
  dsimp only at hq hbeg hlast HNu HDB HGo hm0 hm1
  subst hq
  have HSB := Lib.hid hbeg
  have HEnd := Lib.hid hend
  have HLast := Lib.hid hlast
  have HAll := Lib.hid hall
  have hq8 : q < 256 := by omega
  have pre : (someV q = true ∧ ¬ (q : Int) < 1 ∧ ¬ (64 : Int) < (q : Int)) ∨ (someV q = false ∧ (q : Int) < 1) ∨ (someV q = false ∧ ¬ (q : Int) < 1 ∧ (64 : Int) < (q : Int)) := by
    unfold someV
    by_cases h : 1 ≤ (q : Int) ∧ (q : Int) ≤ 64
    · exact .inl ⟨decide_eq_true h, by omega, by omega⟩
    · by_cases h1 : (q : Int) < 1
      · exact .inr (.inl ⟨decide_eq_false h, h1⟩)
      · exact .inr (.inr ⟨decide_eq_false h, h1, by omega⟩)
  have hq0 : (0 : Int) ≤ (q : Int) := by omega
  clear hbeg hend hlast hall hX hm0 hm1 hqt hrm hL hallg hbd
  rcases pre with pre | pre | pre
  case' inl =>
    obtain ⟨hso, p1, p2⟩ := pre
    have HSo := Lib.hid hso
    clear hso
    go_enter Try.func23, Try.ntmps23
    go_wp2_with (first
      | (go_at_call 46; (with_reducible refine (HH.out _ HS.out.rd).mono ?_); rintro e w1 ⟨rfl, hr, hb⟩; have K1 := Lib.hid (HS.out.step hb hr); clear hr hb)
      | (go_at_call 47; (with_reducible refine (HBl.out _ K1.out.rd).mono ?_); rintro e w2 ⟨⟨D2, rfl, ho⟩, hr, hb⟩; obtain ⟨dA, dc, hde⟩ := owns_len ho; subst hde; have K2 := Lib.hid ((K1.out.step hb hr).made (Owns.base ho K1.out.bel.size)); obtain ⟨c0, c1, c2, c3⟩ := K2.out.beg.rd.cells; clear ho hr hb)
      | (go_at_call 48; (with_reducible refine (HNu.out _ K2.out.beg.rd).mono ?_); rintro e w3 ⟨rfl, hr, hb⟩; have K3 := Lib.hid (K2.out.step hb hr); clear hr hb))
    have K5 := Lib.hid (show RGet w w3 _ b sb _ _ _ _ _ _ by rw [HSB.out, HSo.out, Rd.need_yes]; exact K3.out)
  case' inr.inl =>
    obtain ⟨hso, p1⟩ := pre
    have HSo := Lib.hid hso
    clear hso
    go_enter Try.func23, Try.ntmps23
    go_wp2_with (first
      | (go_at_call 46; (with_reducible refine (HH.out _ HS.out.rd).mono ?_); rintro e w1 ⟨rfl, hr, hb⟩; have K1 := Lib.hid (HS.out.step hb hr); clear hr hb)
      | (go_at_call 47; (with_reducible refine (HBl.out _ K1.out.rd).mono ?_); rintro e w2 ⟨⟨D2, rfl, ho⟩, hr, hb⟩; obtain ⟨dA, dc, hde⟩ := owns_len ho; subst hde; have K2 := Lib.hid ((K1.out.step hb hr).made (Owns.base ho K1.out.bel.size)); obtain ⟨c0, c1, c2, c3⟩ := K2.out.beg.rd.cells; clear ho hr hb)
      | (go_at_call 48; (with_reducible refine (HNu.out _ K2.out.beg.rd).mono ?_); rintro e w3 ⟨rfl, hr, hb⟩; have K3 := Lib.hid (K2.out.step hb hr); clear hr hb)
      | (go_at_call 49; (with_reducible refine (rfails_any w3 _ _ _ b s1 2 sd.pos K3.out.beg.rd).mono ?_); rintro e w4 ⟨rfl, hr, hb⟩; have K5 := Lib.hid (show RGet w w4 _ b sb _ _ _ _ _ _ by rw [HSB.out, HSo.out]; exact K3.out.step hb hr); clear hr hb))
  case' inr.inr =>
    obtain ⟨hso, p1, p2⟩ := pre
    have HSo := Lib.hid hso
    clear hso
    go_enter Try.func23, Try.ntmps23
    go_wp2_with (first
      | (go_at_call 46; (with_reducible refine (HH.out _ HS.out.rd).mono ?_); rintro e w1 ⟨rfl, hr, hb⟩; have K1 := Lib.hid (HS.out.step hb hr); clear hr hb)
      | (go_at_call 47; (with_reducible refine (HBl.out _ K1.out.rd).mono ?_); rintro e w2 ⟨⟨D2, rfl, ho⟩, hr, hb⟩; obtain ⟨dA, dc, hde⟩ := owns_len ho; subst hde; have K2 := Lib.hid ((K1.out.step hb hr).made (Owns.base ho K1.out.bel.size)); obtain ⟨c0, c1, c2, c3⟩ := K2.out.beg.rd.cells; clear ho hr hb)
      | (go_at_call 48; (with_reducible refine (HNu.out _ K2.out.beg.rd).mono ?_); rintro e w3 ⟨rfl, hr, hb⟩; have K3 := Lib.hid (K2.out.step hb hr); clear hr hb)
      | (go_at_call 49; (with_reducible refine (rfails_any w3 _ _ _ b s1 2 sd.pos K3.out.beg.rd).mono ?_); rintro e w4 ⟨rfl, hr, hb⟩; have K5 := Lib.hid (show RGet w w4 _ b sb _ _ _ _ _ _ by rw [HSB.out, HSo.out]; exact K3.out.step hb hr); clear hr hb))
  all_goals
    clear c0 c1 c2 c3 p1
    try clear p2
    go_loopw [8] (fun i wr => ∃ (k : Nat) (sr : Rd) (F : Value) (fs : List FunV) (Cs : List Value), k ≤ q ∧ i = .int .i64 k ∧ Hid (RGet w wr (.slice XA L xc) b sr w2.heap.size (.slice dA data.length dc) F data fs Cs ∧ fs.length ≤ k ∧ funsR b q sb [] = funsR b (q - k) sr fs ∧ ∀ f ∈ fs, f.code.length ≤ 1000)) (fun i _ => q - (intOf i).toNat)
    case atStart => exact ⟨0, sb, _, [], [], by omega, rfl, K5.out, by simp, rfl, by simp⟩
    case round =>
      obtain ⟨k, sr, F, fs, Cs, hk, rfl, HR⟩ := hrel
      have KR := Lib.hid HR.out.1
      have HR2 := Lib.hid HR.out.2
      clear HR
      obtain ⟨c0, c1, c2, c3⟩ := KR.out.beg.rd.cells
      obtain ⟨fA, fc, hFe⟩ := owns_len KR.out.fns.own
      subst hFe
      by_cases hgo : k < q ∧ sr.err = 0
      · have hk1 : (k : Int) < (q : Int) := by omega
        have he0 : (sr.err == 0) = true := by simpa using hgo.2
        have HG := Lib.hid hgo
        have HFu := Lib.hid (rfunction_any wr _ _ _ b sr KR.out.beg.rd)
        obtain ⟨⟨p, r, a, l⟩, hf⟩ : ∃ f, f = funF b sr := ⟨_, rfl⟩
        have HFn := Lib.hid hf
        have hcl := HFl.out sr
        have hfb := HFB.out sr
        rw [← hf] at HFu hfb
        have hcl2 : l.length ≤ 1000 := by
          have : (funF b sr).code.length ≤ b.length := hcl
          rw [← hf, ← HL.out] at this
          have h2 : l.length ≤ L := this
          omega
        have HCl := Lib.hid hcl2
        have HFb := Lib.hid hfb
        clear hgo hf hcl hfb hcl2
        go_wp2_with (first
          | (go_at_call 50; (with_reducible refine HFu.out.mono ?_); rintro e w6 ⟨⟨C6, Xs6, bs6, rfl, hc⟩, hr, hb⟩; have ha := (Below.refl w6.heap.size w6).alloc (Nat.le_refl _) (.cells #[.int .i64 p, .int .i64 r, .int .i64 a, C6] 47); have K7 := Lib.hid ((KR.out.step hb hr).grow ha); have HC7 : Hid (CodeAt w.heap.size (w6.alloc (.cells #[.int .i64 p, .int .i64 r, .int .i64 a, C6] 47)) C6 l) := Lib.hid (.inr ⟨bs6, Xs6, hc.below ha (Nat.le_refl _), Nat.le_trans HCl.out (by decide)⟩); obtain ⟨cA, cc, hce⟩ := owns_len hc.own; subst hce; obtain ⟨m0, m1⟩ := cells2 K7.out.mod; obtain ⟨n0, n1, n2, n3⟩ := cells4 (heap_alloc_new w6 (.cells #[.int .i64 p, .int .i64 r, .int .i64 a, .slice cA l.length cc] 47)); clear hc hr hb ha)
          | (at_builtin; refine wpList_outF (f := ⟨p, r, a, l⟩) rfl (.tmp 49) (.tmp 51) rfl rfl rfl (by simp) K7.out.fns HC7.out HFb.out K7.out.beg.bel.size (by have := HR2.out.1; omega) ?_; intro V8 w8 hm; obtain ⟨nA, nc, hn8⟩ := owns_len hm.own.own; obtain ⟨n8, hn9⟩ : ∃ n8, n8 = (fs ++ [(⟨p, r, a, l⟩ : FunV)]).length := ⟨_, rfl⟩; rw [← hn9] at hn8; subst hn8; clear hn9; have HM8 := Lib.hid hm; obtain ⟨hk8, hmod8⟩ := K7.out.more hm; have K8 := Lib.hid (hk8.put hm.own); obtain ⟨o0, o1⟩ := cells2 hmod8; have o2 := frozen_of_row _ w2.heap.size 1 _ _ hmod8; clear hm hk8 hmod8))
        go_roundw
        case rel => exact ⟨k + 1, funS b sr, _, fs ++ [⟨p, r, a, l⟩], Cs ++ [.slice cA l.length cc], by have := HG.out.1; omega, by go_num, K8.out, by have := HR2.out.1; simp; omega, by
          have h1 := HR2.out.2.1
          have h2 := HG.out.1
          rw [show q - k = (q - (k + 1)) + 1 by omega, funs_go HG.out.2, ← HFn.out] at h1
          exact h1, fun f hf => by
          rcases List.mem_append.1 hf with h | h
          · exact HR2.out.2.2 f h
          · simp at h; subst h; exact HCl.out⟩
        case measure => simp [intOf]; omega
      · have hfin : funsR b q sb [] = (sr, fs) := by
          rw [HR2.out.2.1]
          by_cases h : k < q
          · exact funs_bad (fun e => hgo ⟨h, e⟩) _ _
          · rw [show q - k = 0 by omega]; rfl
        have ha0 := HAll.out.trans hfin
        have HE2 : Hid (se = sr.need (decide (sr.pos = L)) 4 sr.pos) := Lib.hid (by rw [HEnd.out, ha0, ← HL.out])
        have HL2 : Hid (sl = se.need (decide ((ModV.mk data fs).err = 0)) 2 0) := Lib.hid (by rw [HLast.out, ha0])
        have hps : sr.pos ≤ L := by have := HPA.out; rw [ha0, ← HL.out] at this; exact this
        have HGo := Lib.hid (fun h => (HGo.out h).trans (by rw [ha0]))
        have HCk := Lib.hid (fun W (hd : Owns W w.heap.size 5 1 IsU8 (.slice dA data.length dc) data.length (data.map (Value.int .u8))) (hf : OwnF 47 w.heap.size W (.slice fA fs.length fc) fs Cs) => rcheck8_any _ _ data fs W (IsBytes.of_owns hd HDB.out (Nat.le_refl _)) (hf.funs (by have := HR2.out.1; omega)) HR2.out.2.2)
        generalize (ModV.mk data fs).err = z at *
        have hway : (¬ (k : Int) < (q : Int)) ∨ ((k : Int) < (q : Int) ∧ (sr.err == 0) = false) := by
          by_cases h : k < q
          · exact .inr ⟨by omega, by simpa using fun e => hgo ⟨h, e⟩⟩
          · exact .inl (by omega)
        clear hgo hfin ha0
        by_cases hs0 : sl.err = 0
        · have hs1 := hs0
          rw [HL2.out] at hs1
          obtain ⟨h1, h2, h3⟩ := need_ok (by decide) hs1
          have h4 := h1
          rw [HE2.out] at h4
          obtain ⟨h5, h6, h7⟩ := need_ok (by decide) h4
          have hz0 := of_decide_eq_true h2
          have hp0 := of_decide_eq_true h6
          subst hz0
          have HLs : Hid (sl = sr) := Lib.hid (by rw [HL2.out, h3, HE2.out, h7])
          have HLz := Lib.hid hs0
          have HLt := Lib.hid (HLa.out hs0)
          have hless : ¬ (sr.pos : Int) < (L : Int) := by omega
          have hs9 : sl.err = 0 := hs0
          have hs8 : sl.at_ = 0 := HLt.out
          have hb0 : (sl.err != 0) = false := by simpa using hs0
          clear h1 h2 h3 h4 h5 h6 h7 hp0 hs1 hs0 hps
          rcases hway with hw1 | ⟨hw1, hw2⟩
          all_goals try (exfalso; omega)
          all_goals
            have KA := KR
            obtain ⟨m0, m1⟩ := cells2 KR.out.mod
            go_wp2_with (first
              | (go_at_call 16; (with_reducible refine (HCk.out _ (KA.out.dat) (KA.out.fns)).mono ?_); rintro e wB ⟨rfl, hb⟩; have KB := Lib.hid (KA.out.grow hb); have KZ := Lib.hid (show RGet w wB _ b sl _ _ _ _ _ _ by rw [HLs.out]; exact KB.out); obtain ⟨x0, x1, x2, x3⟩ := KZ.out.beg.rd.cells; obtain ⟨y0, y1⟩ := cells2 KZ.out.mod; obtain ⟨g0, g1⟩ := cells2 KZ.out.beg.res; obtain ⟨h0, h1⟩ := cells2 KZ.out.beg.fau; have i0 := frozen_of_row _ w.heap.size 0 _ _ KZ.out.beg.res; have i1 := frozen_of_row _ w.heap.size 1 _ _ KZ.out.beg.res; have i2 := frozen_of_row _ (w.heap.size + 1) 0 _ _ KZ.out.beg.fau; have i3 := frozen_of_row _ (w.heap.size + 1) 1 _ _ KZ.out.beg.fau; clear hb))
            go_region
            go_wp2
            refine (show ∀ W, (Below w.heap.size w W ∧ Owns W w.heap.size 5 1 IsU8 (.slice dA data.length dc) data.length (data.map (Value.int .u8)) ∧ OwnF 47 w.heap.size W (.slice fA fs.length fc) fs Cs ∧ W.heap[w.heap.size]? = some (.cells #[Value.slice dA data.length dc, .slice fA fs.length fc] 25 (0, 0)) ∧ W.heap[w.heap.size + 1]? = some (.cells #[.int .i64 0, .int .i64 0] 38 (0, 0))) → bodyPost _ _ _ _ _ W from fun W h => ?_) _ (rget_some (rget_end KZ.out (.slice dA data.length dc) (.slice fA fs.length fc) (.int .i64 0) (.int .i64 0)))
            obtain ⟨hb, hd, hf, hm, hu⟩ := h
            obtain ⟨r0, r1⟩ := cells2 hm
            obtain ⟨r2, r3⟩ := cells2 hu
            refine bodyPost_ret (v := .tuple #[.agg #[.slice dA data.length dc, .slice fA fs.length fc], .agg #[.int .i64 0, .int .i64 0]]) (by simp [results, Try.results23, go_sem, r0, r1, r2, r3]) rfl ?_
            rw [HGo.out HLz.out]
            exact ⟨.slice dA data.length dc, .slice fA fs.length fc, Cs, rfl, ⟨hd, hb⟩, hf⟩
        · have HLz := Lib.hid hs0
          have hb0 : (sl.err != 0) = true := by simpa using hs0
          clear hs0
          by_cases hp : sr.pos = L
          · have HEs : Hid (se = sr) := Lib.hid (by rw [HE2.out, decide_eq_true hp, Rd.need_yes])
            have hless : ¬ (sr.pos : Int) < (L : Int) := by omega
            clear hp hps
            by_cases hz : z = 0
            · subst hz
              have HLs : Hid (sl = sr) := Lib.hid (by rw [HL2.out, HEs.out, decide_eq_true rfl, Rd.need_yes])
              rcases hway with hw1 | ⟨hw1, hw2⟩
              all_goals try (exfalso; omega)
              all_goals
                have KA := KR
                obtain ⟨m0, m1⟩ := cells2 KR.out.mod
                go_wp2_with (first
                  | (go_at_call 16; (with_reducible refine (HCk.out _ (KA.out.dat) (KA.out.fns)).mono ?_); rintro e wB ⟨rfl, hb⟩; have KB := Lib.hid (KA.out.grow hb); have KZ := Lib.hid (show RGet w wB _ b sl _ _ _ _ _ _ by rw [HLs.out]; exact KB.out); obtain ⟨x0, x1, x2, x3⟩ := KZ.out.beg.rd.cells; obtain ⟨y0, y1⟩ := cells2 KZ.out.mod; obtain ⟨g0, g1⟩ := cells2 KZ.out.beg.res; obtain ⟨h0, h1⟩ := cells2 KZ.out.beg.fau; have i0 := frozen_of_row _ w.heap.size 0 _ _ KZ.out.beg.res; have i1 := frozen_of_row _ w.heap.size 1 _ _ KZ.out.beg.res; have i2 := frozen_of_row _ (w.heap.size + 1) 0 _ _ KZ.out.beg.fau; have i3 := frozen_of_row _ (w.heap.size + 1) 1 _ _ KZ.out.beg.fau; clear hb))
                go_region
                go_wp2
                refine (show ∀ W, (Below w.heap.size w W ∧ Owns W w.heap.size 5 1 IsU8 (.slice none 0 0) 0 [] ∧ OwnF 47 w.heap.size W (.slice none 0 0) [] [] ∧ W.heap[w.heap.size]? = some (.cells #[Value.slice none 0 0, Value.slice none 0 0] 25 (0, 0)) ∧ W.heap[w.heap.size + 1]? = some (.cells #[.int .i64 sl.err, .int .i64 sl.at_] 38 (0, 0))) → bodyPost _ _ _ _ _ W from fun W h => ?_) _ (rget_none (rget_end KZ.out (.slice none 0 0) (.slice none 0 0) (.int .i64 sl.err) (.int .i64 sl.at_)))
                obtain ⟨hb, hd, hf, hm, hu⟩ := h
                obtain ⟨r0, r1⟩ := cells2 hm
                obtain ⟨r2, r3⟩ := cells2 hu
                refine bodyPost_ret (v := .tuple #[.agg #[Value.slice none 0 0, Value.slice none 0 0], .agg #[.int .i64 sl.err, .int .i64 sl.at_]]) (by simp [results, Try.results23, go_sem, r0, r1, r2, r3]) rfl ?_
                rw [HGf.out HLz.out]
                exact ⟨.slice none 0 0, .slice none 0 0, [], rfl, ⟨Owns.nil _ _ _ _ _, hb⟩, OwnF.nil _ _ _⟩
            · have HLs : Hid (sl = sr.need false 2 0) := Lib.hid (by rw [HL2.out, HEs.out, decide_eq_false hz])
              have hzb : (z != 0) = true := by simpa using hz
              clear hz
              rcases hway with hw1 | ⟨hw1, hw2⟩
              all_goals try (exfalso; omega)
              all_goals
                have KA := KR
                obtain ⟨m0, m1⟩ := cells2 KR.out.mod
                go_wp2_with (first
                  | (go_at_call 16; (with_reducible refine (HCk.out _ (KA.out.dat) (KA.out.fns)).mono ?_); rintro e wB ⟨rfl, hb⟩; have KB := Lib.hid (KA.out.grow hb); clear hb)
                  | (go_at_call 49; (with_reducible refine (rfails_any wB _ _ _ b sr 2 0 KB.out.beg.rd).mono ?_); rintro e wC ⟨rfl, hr, hb⟩; have KC := Lib.hid (KB.out.step hb hr); have KZ := Lib.hid (show RGet w wC _ b sl _ _ _ _ _ _ by rw [HLs.out]; exact KC.out); obtain ⟨x0, x1, x2, x3⟩ := KZ.out.beg.rd.cells; obtain ⟨y0, y1⟩ := cells2 KZ.out.mod; obtain ⟨g0, g1⟩ := cells2 KZ.out.beg.res; obtain ⟨h0, h1⟩ := cells2 KZ.out.beg.fau; have i0 := frozen_of_row _ w.heap.size 0 _ _ KZ.out.beg.res; have i1 := frozen_of_row _ w.heap.size 1 _ _ KZ.out.beg.res; have i2 := frozen_of_row _ (w.heap.size + 1) 0 _ _ KZ.out.beg.fau; have i3 := frozen_of_row _ (w.heap.size + 1) 1 _ _ KZ.out.beg.fau; clear hr hb))
                go_region
                go_wp2
                refine (show ∀ W, (Below w.heap.size w W ∧ Owns W w.heap.size 5 1 IsU8 (.slice none 0 0) 0 [] ∧ OwnF 47 w.heap.size W (.slice none 0 0) [] [] ∧ W.heap[w.heap.size]? = some (.cells #[Value.slice none 0 0, Value.slice none 0 0] 25 (0, 0)) ∧ W.heap[w.heap.size + 1]? = some (.cells #[.int .i64 sl.err, .int .i64 sl.at_] 38 (0, 0))) → bodyPost _ _ _ _ _ W from fun W h => ?_) _ (rget_none (rget_end KZ.out (.slice none 0 0) (.slice none 0 0) (.int .i64 sl.err) (.int .i64 sl.at_)))
                obtain ⟨hb, hd, hf, hm, hu⟩ := h
                obtain ⟨r0, r1⟩ := cells2 hm
                obtain ⟨r2, r3⟩ := cells2 hu
                refine bodyPost_ret (v := .tuple #[.agg #[Value.slice none 0 0, Value.slice none 0 0], .agg #[.int .i64 sl.err, .int .i64 sl.at_]]) (by simp [results, Try.results23, go_sem, r0, r1, r2, r3]) rfl ?_
                rw [HGf.out HLz.out]
                exact ⟨.slice none 0 0, .slice none 0 0, [], rfl, ⟨Owns.nil _ _ _ _ _, hb⟩, OwnF.nil _ _ _⟩
          · have HEs : Hid (se = sr.need false 4 sr.pos) := Lib.hid (by rw [HE2.out, decide_eq_false hp])
            have hless : (sr.pos : Int) < (L : Int) := by omega
            clear hp hps
            by_cases hz : z = 0
            · subst hz
              have HLs : Hid (sl = sr.need false 4 sr.pos) := Lib.hid (by rw [HL2.out, HEs.out, decide_eq_true rfl, Rd.need_yes])
              rcases hway with hw1 | ⟨hw1, hw2⟩
              all_goals try (exfalso; omega)
              all_goals
                go_wp2_with (first
                  | (go_at_call 49; (with_reducible refine (rfails_any wr _ _ _ b sr 4 sr.pos KR.out.beg.rd).mono ?_); rintro e wA ⟨rfl, hr, hb⟩; have KA := Lib.hid (KR.out.step hb hr); obtain ⟨m0, m1⟩ := cells2 KA.out.mod; clear hr hb)
                  | (go_at_call 16; (with_reducible refine (HCk.out _ (KA.out.dat) (KA.out.fns)).mono ?_); rintro e wB ⟨rfl, hb⟩; have KB := Lib.hid (KA.out.grow hb); have KZ := Lib.hid (show RGet w wB _ b sl _ _ _ _ _ _ by rw [HLs.out]; exact KB.out); obtain ⟨x0, x1, x2, x3⟩ := KZ.out.beg.rd.cells; obtain ⟨y0, y1⟩ := cells2 KZ.out.mod; obtain ⟨g0, g1⟩ := cells2 KZ.out.beg.res; obtain ⟨h0, h1⟩ := cells2 KZ.out.beg.fau; have i0 := frozen_of_row _ w.heap.size 0 _ _ KZ.out.beg.res; have i1 := frozen_of_row _ w.heap.size 1 _ _ KZ.out.beg.res; have i2 := frozen_of_row _ (w.heap.size + 1) 0 _ _ KZ.out.beg.fau; have i3 := frozen_of_row _ (w.heap.size + 1) 1 _ _ KZ.out.beg.fau; clear hb))
                go_region
                go_wp2
                refine (show ∀ W, (Below w.heap.size w W ∧ Owns W w.heap.size 5 1 IsU8 (.slice none 0 0) 0 [] ∧ OwnF 47 w.heap.size W (.slice none 0 0) [] [] ∧ W.heap[w.heap.size]? = some (.cells #[Value.slice none 0 0, Value.slice none 0 0] 25 (0, 0)) ∧ W.heap[w.heap.size + 1]? = some (.cells #[.int .i64 sl.err, .int .i64 sl.at_] 38 (0, 0))) → bodyPost _ _ _ _ _ W from fun W h => ?_) _ (rget_none (rget_end KZ.out (.slice none 0 0) (.slice none 0 0) (.int .i64 sl.err) (.int .i64 sl.at_)))
                obtain ⟨hb, hd, hf, hm, hu⟩ := h
                obtain ⟨r0, r1⟩ := cells2 hm
                obtain ⟨r2, r3⟩ := cells2 hu
                refine bodyPost_ret (v := .tuple #[.agg #[Value.slice none 0 0, Value.slice none 0 0], .agg #[.int .i64 sl.err, .int .i64 sl.at_]]) (by simp [results, Try.results23, go_sem, r0, r1, r2, r3]) rfl ?_
                rw [HGf.out HLz.out]
                exact ⟨.slice none 0 0, .slice none 0 0, [], rfl, ⟨Owns.nil _ _ _ _ _, hb⟩, OwnF.nil _ _ _⟩
            · have HLs : Hid (sl = (sr.need false 4 sr.pos).need false 2 0) := Lib.hid (by rw [HL2.out, HEs.out, decide_eq_false hz])
              have hzb : (z != 0) = true := by simpa using hz
              clear hz
              rcases hway with hw1 | ⟨hw1, hw2⟩
              all_goals try (exfalso; omega)
              all_goals
                go_wp2_with (first
                  | (go_at_call 49; (with_reducible refine (rfails_any wr _ _ _ b sr 4 sr.pos KR.out.beg.rd).mono ?_); rintro e wA ⟨rfl, hr, hb⟩; have KA := Lib.hid (KR.out.step hb hr); obtain ⟨m0, m1⟩ := cells2 KA.out.mod; clear hr hb)
                  | (go_at_call 16; (with_reducible refine (HCk.out _ (KA.out.dat) (KA.out.fns)).mono ?_); rintro e wB ⟨rfl, hb⟩; have KB := Lib.hid (KA.out.grow hb); clear hb)
                  | (go_at_call 49; (with_reducible refine (rfails_any wB _ _ _ b (sr.need false 4 sr.pos) 2 0 KB.out.beg.rd).mono ?_); rintro e wC ⟨rfl, hr, hb⟩; have KC := Lib.hid (KB.out.step hb hr); have KZ := Lib.hid (show RGet w wC _ b sl _ _ _ _ _ _ by rw [HLs.out]; exact KC.out); obtain ⟨x0, x1, x2, x3⟩ := KZ.out.beg.rd.cells; obtain ⟨y0, y1⟩ := cells2 KZ.out.mod; obtain ⟨g0, g1⟩ := cells2 KZ.out.beg.res; obtain ⟨h0, h1⟩ := cells2 KZ.out.beg.fau; have i0 := frozen_of_row _ w.heap.size 0 _ _ KZ.out.beg.res; have i1 := frozen_of_row _ w.heap.size 1 _ _ KZ.out.beg.res; have i2 := frozen_of_row _ (w.heap.size + 1) 0 _ _ KZ.out.beg.fau; have i3 := frozen_of_row _ (w.heap.size + 1) 1 _ _ KZ.out.beg.fau; clear hr hb))
                go_region
                go_wp2
                refine (show ∀ W, (Below w.heap.size w W ∧ Owns W w.heap.size 5 1 IsU8 (.slice none 0 0) 0 [] ∧ OwnF 47 w.heap.size W (.slice none 0 0) [] [] ∧ W.heap[w.heap.size]? = some (.cells #[Value.slice none 0 0, Value.slice none 0 0] 25 (0, 0)) ∧ W.heap[w.heap.size + 1]? = some (.cells #[.int .i64 sl.err, .int .i64 sl.at_] 38 (0, 0))) → bodyPost _ _ _ _ _ W from fun W h => ?_) _ (rget_none (rget_end KZ.out (.slice none 0 0) (.slice none 0 0) (.int .i64 sl.err) (.int .i64 sl.at_)))
                obtain ⟨hb, hd, hf, hm, hu⟩ := h
                obtain ⟨r0, r1⟩ := cells2 hm
                obtain ⟨r2, r3⟩ := cells2 hu
                refine bodyPost_ret (v := .tuple #[.agg #[Value.slice none 0 0, Value.slice none 0 0], .agg #[.int .i64 sl.err, .int .i64 sl.at_]]) (by simp [results, Try.results23, go_sem, r0, r1, r2, r3]) rfl ?_
                rw [HGf.out HLz.out]
                exact ⟨.slice none 0 0, .slice none 0 0, [], rfl, ⟨Owns.nil _ _ _ _ _, hb⟩, OwnF.nil _ _ _⟩
end Go.Proofs.Ytimhlbejjbnofaa
