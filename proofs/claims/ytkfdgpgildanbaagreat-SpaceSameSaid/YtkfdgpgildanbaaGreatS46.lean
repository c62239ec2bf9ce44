import Derived.Test.YtkfdgpgildanbaaGreatS45
import Derived.Test.YtkfdgpgildanbaaGreatS42
import Derived.Test.YtkfdgpgildanbaaGreatS10
import Derived.Tactics
import Derived.Tactics2
import Derived.Defers
import Derived.Laws.Pointers
import Derived.Laws.LoneSync
import Derived.RegionTactic
import Derived.RegionCalls
import Derived.ChangeAlike
import Derived.Deep.QuietTactic
import Derived.BigQuiet
import Derived.StillTailTactics
import Derived.Deep.CutRange
import Derived.Deep.DeepCutAuto
import Derived.Deep.RegionHeld3
namespace Go.Proofs.YtkfdgpgildanbaaGreat
open Go.RowKit Go.Shelf
set_option linter.unusedVariables false
set_option linter.unusedSimpArgs false
structure Loc where
  mb : Nat
  bb : Nat
  c : Nat
  tb : Nat
  b : Nat
  k : Nat
  X : Value
  V : Value
  LV : Value
  D : Value
  FV : Value
  IN : Value
  Cs : List Value
def linkC (K : IntKind) (l : LinkV) : List Value := [.int .i64 l.f, .int K l.at_, .int .i64 l.back, .int .i64 l.res]
def cellsL (K : IntKind) (l : List LinkV) : List Value := l.flatMap (linkC K)
def box15 (sb : Nat) (p : Loc) (S : SpV) : Array Value :=
  #[.pointer (some ⟨sb, 0, none⟩), .int .u32 1, .int .i32 0, .int .u32 0, p.D, p.FV, .int .i64 S.size, p.IN, .int .u64 (floV S.m), .pointer (some ⟨p.mb, 0, none⟩), .pointer (some ⟨p.tb, 0, none⟩), .int .i64 S.fuel, .int .i64 S.f, .int .u64 S.at_, .int .i64 S.pc, p.LV, .int .i64 S.ek, .int .i64 S.ec]
def foot15 (sb : Nat) (p : Loc) (k : Nat) : Prop := k = sb ∨ k = p.mb ∨ k = p.bb ∨ k = p.tb ∨ p.V.ownBlock = some k ∨ p.LV.ownBlock = some k
def ro15 (p : Loc) (k : Nat) : Prop := p.X.ownBlock = some k ∨ p.D.ownBlock = some k ∨ p.FV.ownBlock = some k ∨ p.IN.ownBlock = some k
structure LaidAt (W : World) (sb : Nat) (p : Loc) (S : SpV) : Prop where
  box : W.heap[sb]? = some (.cells (box15 sb p S) 80 (0, 0))
  mem : MemAt W p.mb p.bb p.c S.mem
  tape : Tape14 0 W p.tb p.X p.V S.left S.done
  links : Owns W 0 136 4 AnyCell p.LV S.links.length (cellsL .i64 S.links)
  dat : OwnB 0 W p.D S.m.data
  inp : OwnB 0 W p.IN S.inp
  funs : OwnF 112 0 W p.FV S.m.funcs p.Cs
  pre : ∃ q, S.inp = q ++ S.left
  ok : S.ok
  sep : ∀ k, foot15 sb p k → ¬ ro15 p k
def fresh15 (sb : Nat) (p : Loc) (S : SpV) : Array Value :=
  #[.pointer (some ⟨sb, 0, none⟩), .int .u32 0, .int .i32 0, .int .u32 0, p.D, p.FV, .int .i64 S.size, p.IN, .int .u64 (floV S.m), .pointer none, .pointer none, .int .i64 S.fuel, .int .i64 0, .int .u64 0, .int .i64 0, .slice none 0 0, .int .i64 0, .int .i64 0]
structure FreshAt (W : World) (sb : Nat) (p : Loc) (S : SpV) : Prop where
  box : W.heap[sb]? = some (.cells (fresh15 sb p S) 80 (0, 0))
  dat : OwnB 0 W p.D S.m.data
  inp : OwnB 0 W p.IN S.inp
  funs : OwnF 112 0 W p.FV S.m.funcs p.Cs
  new : S = newS S.m S.size S.inp S.fuel
  e0 : newE15 S.m S.size S.fuel = 0
  ok : S.ok
  sep : ∀ k, foot15 sb p k → ¬ ro15 p k
  one : p.mb = sb ∧ p.bb = sb ∧ p.tb = sb ∧ p.V = .slice none 0 0 ∧ p.LV = .slice none 0 0 ∧ p.X = .slice none 0 0
def SpAt (W : World) (sb : Nat) (p : Loc) (S : SpV) : Prop := LaidAt W sb p S ∨ FreshAt W sb p S
def rbox15 (p : Loc) (S : SpV) : Array Value :=
  #[p.D, p.FV, .pointer (some ⟨p.mb, 0, none⟩), .pointer (some ⟨p.tb, 0, none⟩), .int .i64 S.fuel, .int .i64 S.f, .int .u64 S.at_, .int .i64 S.pc, p.LV, .int .i64 S.ek, .int .i64 S.ec]
structure RsAt (B : Nat) (W : World) (rb : Nat) (p : Loc) (S : SpV) : Prop where
  box : W.heap[rb]? = some (.cells (rbox15 p S) 130 (0, 0))
  mem : RefAt W p.mb p.bb p.c S.mem
  tape : RT15 W p.b p.tb p.X p.V S.inp p.k S.done
  left : S.inp.drop p.k = S.left
  links : Owns W 0 149 4 AnyCell p.LV S.links.length (cellsL .u64 S.links)
  dat : IsBytes W B p.D S.m.data
  funs : IsFuns W B p.FV S.m.funcs
  ok : S.ok
  sep : ∀ k, foot15 rb p k → ¬ p.X.ownBlock = some k
inductive It where
  | sp (sb : Nat) (S : SpV)
  | rs (rb : Nat) (S : SpV)
  | box (b : Nat) (c : Array Value) (t : TypeId)
  | cell (b : Nat) (c : Array Value) (t : TypeId)
def It.at' (B : Nat) (W : World) (p : Loc) : It → Prop
  | .sp sb S => SpAt W sb p S
  | .rs rb S => RsAt B W rb p S
  | .box b c t => W.heap[b]? = some (.cells c t (0, 0))
  | .cell b c t => W.heap[b]? = some (.cells c t (0, 0)) ∧ t ≠ 115 ∧ t ≠ 3
def It.foot (p : Loc) : It → Nat → Prop
  | .sp sb _ => foot15 sb p
  | .rs rb _ => foot15 rb p
  | .box _ _ _ => fun _ => False
  | .cell b _ _ => fun k => k = b
def It.ro (p : Loc) : It → Nat → Prop
  | .sp _ _ => ro15 p
  | .rs _ _ => fun k => p.X.ownBlock = some k
  | .box b _ _ => fun k => k = b
  | .cell _ _ _ => fun _ => False
def Typ15 (W : World) (k : Nat) : Prop := ∃ c t, W.heap[k]? = some (.cells c t (0, 0)) ∧ t ≠ 115 ∧ t ≠ 3
theorem Typ15.not {W : World} {k : Nat} (h : Typ15 W k) {c : Array Value} {t : TypeId} (ht : t = 115 ∨ t = 3) : W.heap[k]? ≠ some (.cells c t (0, 0)) := fun e => by
  obtain ⟨c', t', h1, h2, h3⟩ := h
  rw [h1] at e
  injection e with e
  injection e with _ e _
  rcases ht with rfl | rfl
  · exact h2 e
  · exact h3 e
theorem Typ15.lt {W : World} {k : Nat} (h : Typ15 W k) : k < W.heap.size := by
  obtain ⟨c', t', h1, _⟩ := h
  exact heap_lt h1
theorem Row.typ {W : World} {t : TypeId} {b c : Nat} {xs : List Int} (h : Row t W b c xs) (h1 : t ≠ 115) (h2 : t ≠ 3) : Typ15 W b := by
  obtain ⟨cur, hc, _⟩ := h
  exact ⟨cur, t, hc, h1, h2⟩
theorem own_typ15 {W : World} {base : Nat} {e : TypeId} {size : Nat} {K : Value → Prop} {v : Value} {n : Nat} {xs : List Value} (h : Owns W base e size K v n xs) (h1 : e ≠ 115) (h2 : e ≠ 3) {g : Nat} (hg : v.ownBlock = some g) : Typ15 W g := by
  obtain ⟨_, c, hc⟩ := typed14 h hg
  exact ⟨c, e, hc, h1, h2⟩
section
variable {B : Nat} {W W' : World} {sb : Nat} {p : Loc} {S : SpV} {R : Nat → Prop}
theorem LaidAt.typ (h : LaidAt W sb p S) {k : Nat} (hk : foot15 sb p k) : Typ15 W k := by
  rcases hk with rfl | rfl | rfl | rfl | e | e
  · exact ⟨_, _, h.box, by decide, by decide⟩
  · exact ⟨_, _, h.mem.head, by decide, by decide⟩
  · exact h.mem.row.typ (by decide) (by decide)
  · exact ⟨_, _, h.tape.box, by decide, by decide⟩
  · exact own_typ15 h.tape.done (by decide) (by decide) e
  · exact own_typ15 h.links (by decide) (by decide) e
theorem FreshAt.isSb (h : FreshAt W sb p S) {k : Nat} (hk : foot15 sb p k) : k = sb := by
  obtain ⟨h1, h2, h3, h4, h5, h6⟩ := h.one
  rcases hk with rfl | rfl | rfl | rfl | e | e
  · rfl
  · exact h1
  · exact h2
  · exact h3
  · rw [h4] at e; simp [Value.ownBlock] at e
  · rw [h5] at e; simp [Value.ownBlock] at e
theorem FreshAt.typ (h : FreshAt W sb p S) {k : Nat} (hk : foot15 sb p k) : Typ15 W k := by
  rw [h.isSb hk]
  exact ⟨_, _, h.box, by decide, by decide⟩
theorem RsAt.typ (h : RsAt B W sb p S) {k : Nat} (hk : foot15 sb p k) : Typ15 W k := by
  rcases hk with rfl | rfl | rfl | rfl | e | e
  · exact ⟨_, _, h.box, by decide, by decide⟩
  · exact ⟨_, _, h.mem.head, by decide, by decide⟩
  · exact h.mem.row.typ (by decide) (by decide)
  · exact ⟨_, _, h.tape.box, by decide, by decide⟩
  · exact own_typ15 h.tape.done (by decide) (by decide) e
  · exact own_typ15 h.links (by decide) (by decide) e
theorem ownB_lt {base : Nat} {X : Value} {xs : List Int} (h : OwnB base W X xs) {g : Nat} (hg : X.ownBlock = some g) : g < W.heap.size := by
  obtain ⟨c, hc⟩ := h.blk hg
  exact heap_lt hc
theorem ro_lt15 {fs : List FunV} {Cs : List Value} {xs ys zs : List Int} (h1 : OwnB 0 W p.X xs) (h2 : OwnB 0 W p.D ys) (h3 : OwnF 112 0 W p.FV fs Cs) (h4 : OwnB 0 W p.IN zs) {k : Nat} (hk : ro15 p k) : k < W.heap.size := by
  rcases hk with e | e | e | e
  · exact ownB_lt h1 e
  · exact ownB_lt h2 e
  · exact (h3.own.lt e).2
  · exact ownB_lt h4 e
theorem nil_own15 : OwnB 0 W (.slice none 0 0) [] := ⟨by simp, by simp, .inl ⟨rfl, rfl⟩⟩
theorem LaidAt.ro_lt (h : LaidAt W sb p S) {k : Nat} (hk : ro15 p k) : k < W.heap.size := ro_lt15 h.tape.left h.dat h.funs h.inp hk
theorem FreshAt.ro_lt (h : FreshAt W sb p S) {k : Nat} (hk : ro15 p k) : k < W.heap.size := ro_lt15 (xs := []) (by rw [h.one.2.2.2.2.2]; exact nil_own15) h.dat h.funs h.inp hk
theorem RsAt.ro_lt (h : RsAt B W sb p S) {k : Nat} (hk : p.X.ownBlock = some k) : k < W.heap.size := ownB_lt h.tape.own hk
theorem Tape14.but' {base tb : Nat} {X V : Value} {xs : List Int} {L : List (Int × Int)} (h : Tape14 base W tb X V xs L) (hb : But R W W') (h1 : ¬ R tb) (h2 : ∀ g, X.ownBlock = some g → ¬ R g) (h3 : ∀ g, V.ownBlock = some g → ¬ R g) : Tape14 base W' tb X V xs L :=
  ⟨hb.heap h.box h1, h.left.but' hb h2, h.done.but hb h3, h.few⟩
theorem LaidAt.but (h : LaidAt W sb p S) (hb : But R W W') (h1 : ∀ k, foot15 sb p k ∨ ro15 p k → ¬ R k) (h2 : ∀ k, R k → k < W.heap.size → Typ15 W k) : LaidAt W' sb p S := by
  refine ⟨hb.heap h.box (h1 _ (.inl (.inl rfl))), h.mem.but hb (h1 _ (.inl (.inr (.inl rfl)))) (h1 _ (.inl (.inr (.inr (.inl rfl))))), h.tape.but' hb (h1 _ (.inl (.inr (.inr (.inr (.inl rfl)))))) (fun g hg => h1 _ (.inr (.inl hg))) (fun g hg => h1 _ (.inl (.inr (.inr (.inr (.inr (.inl hg))))))), h.links.but hb (fun g hg => h1 _ (.inl (.inr (.inr (.inr (.inr (.inr hg))))))), h.dat.but' hb (fun g hg => h1 _ (.inr (.inr (.inl hg)))), h.inp.but' hb (fun g hg => h1 _ (.inr (.inr (.inr (.inr hg))))), ?_, h.pre, h.ok, h.sep⟩
  exact h.funs.but hb (fun g hg => h1 _ (.inr (.inr (.inr (.inl hg))))) (fun k hk => by omega) (fun k c hc hr => (h2 k hr (heap_lt hc)).not (.inl rfl) hc) (fun k c hc hr => (h2 k hr (heap_lt hc)).not (.inr rfl) hc)
theorem FreshAt.but (h : FreshAt W sb p S) (hb : But R W W') (h1 : ∀ k, foot15 sb p k ∨ ro15 p k → ¬ R k) (h2 : ∀ k, R k → k < W.heap.size → Typ15 W k) : FreshAt W' sb p S := by
  refine ⟨hb.heap h.box (h1 _ (.inl (.inl rfl))), h.dat.but' hb (fun g hg => h1 _ (.inr (.inr (.inl hg)))), h.inp.but' hb (fun g hg => h1 _ (.inr (.inr (.inr (.inr hg))))), ?_, h.new, h.e0, h.ok, h.sep, h.one⟩
  exact h.funs.but hb (fun g hg => h1 _ (.inr (.inr (.inr (.inl hg))))) (fun k hk => by omega) (fun k c hc hr => (h2 k hr (heap_lt hc)).not (.inl rfl) hc) (fun k c hc hr => (h2 k hr (heap_lt hc)).not (.inr rfl) hc)
theorem RsAt.but (h : RsAt B W sb p S) (hb : But R W W') (h1 : ∀ k, foot15 sb p k ∨ p.X.ownBlock = some k → ¬ R k) (hB : B ≤ W.heap.size) (h3 : ∀ k, k < B → ¬ R k) : RsAt B W' sb p S :=
  ⟨hb.heap h.box (h1 _ (.inl (.inl rfl))), h.mem.but hb (h1 _ (.inl (.inr (.inl rfl)))) (h1 _ (.inl (.inr (.inr (.inl rfl))))), h.tape.but hb (h1 _ (.inl (.inr (.inr (.inr (.inl rfl)))))) (fun g hg => h1 _ (.inr hg)) (fun g hg => h1 _ (.inl (.inr (.inr (.inr (.inr (.inl hg))))))), h.left, h.links.but hb (fun g hg => h1 _ (.inl (.inr (.inr (.inr (.inr (.inr hg))))))), h.dat.but hb hB h3, h.funs.but hb hB h3, h.ok, h.sep⟩
end
section
variable {B : Nat} {W W' : World} {a a' a2 : It} {p p' p2 : Loc} {R : Nat → Prop}
theorem It.typ (h : a.at' B W p) {k : Nat} (hk : a.foot p k) : Typ15 W k := by
  cases a with
  | sp sb S => exact h.elim (fun h => h.typ hk) (fun h => h.typ hk)
  | rs rb S => exact RsAt.typ h hk
  | box b c t => exact hk.elim
  | cell b c t => obtain rfl : k = b := hk; exact ⟨c, t, h.1, h.2.1, h.2.2⟩
theorem It.lt (h : a.at' B W p) {k : Nat} (hk : a.foot p k ∨ a.ro p k) : k < W.heap.size := by
  rcases hk with hk | hk
  · exact (It.typ h hk).lt
  · cases a with
    | sp sb S => exact h.elim (fun h => h.ro_lt hk) (fun h => h.ro_lt hk)
    | rs rb S => exact RsAt.ro_lt h hk
    | box b c t => obtain rfl : k = b := hk; exact heap_lt h
    | cell b c t => exact hk.elim
theorem It.own (h : a.at' B W p) {k : Nat} (hk : a.foot p k) : ¬ a.ro p k := by
  cases a with
  | sp sb S => exact h.elim (fun h => h.sep k hk) (fun h => h.sep k hk)
  | rs rb S => exact RsAt.sep h k hk
  | box b c t => exact hk.elim
  | cell b c t => exact fun h => h
theorem It.but (h : a.at' B W p) (hb : But R W W') (h1 : ∀ k, a.foot p k ∨ a.ro p k → ¬ R k) (h2 : ∀ k, R k → k < W.heap.size → Typ15 W k) (hB : B ≤ W.heap.size) (h3 : ∀ k, k < B → ¬ R k) : a.at' B W' p := by
  cases a with
  | sp sb S => exact h.imp (fun h => h.but hb h1 h2) (fun h => h.but hb h1 h2)
  | rs rb S => exact RsAt.but h hb h1 hB h3
  | box b c t => exact hb.heap h (h1 _ (.inr rfl))
  | cell b c t => exact ⟨hb.heap h.1 (h1 _ (.inl rfl)), h.2⟩
theorem It.grow (h : a.at' B W p) (hb : Below W.heap.size W W') (hB : B ≤ W.heap.size) : a.at' B W' p :=
  It.but h (But.of_below (R := NoBlock) hb) (fun _ _ h => h) (fun _ h => h.elim) hB (fun _ _ h => h)
structure Mv (B : Nat) (a a' : It) (p p' : Loc) (W W' : World) : Prop where
  at' : a'.at' B W' p'
  but : But (a.foot p) W W'
  foot : ∀ k, a'.foot p' k → a.foot p k ∨ W.heap.size ≤ k
  ro : ∀ k, a'.ro p' k → a.ro p k ∨ W.heap.size ≤ k
theorem Mv.read (h : a.at' B W p) (hb : Below W.heap.size W W') (hB : B ≤ W.heap.size) : Mv B a a p p W W' :=
  ⟨It.grow h hb hB, But.of_below hb, fun _ h => .inl h, fun _ h => .inl h⟩
theorem Mv.refl (h : a.at' B W p) : Mv B a a p p W W := ⟨h, But.refl _ _, fun _ h => .inl h, fun _ h => .inl h⟩
theorem But.more15 {A C : Nat → Prop} {w1 w2 w3 : World} (h : But A w1 w2) (h2 : But C w2 w3) (hc : ∀ k, C k → A k ∨ w1.heap.size ≤ k) : But A w1 w3 :=
  ⟨h2.os.trans h.os, h2.tape.trans h.tape, h2.output.trans h.output, Nat.le_trans h.size h2.size, fun k hk hn => by
    rw [h2.block k (Nat.lt_of_lt_of_le hk h.size) (fun c => (hc k c).elim hn (by omega))]
    exact h.block k hk hn⟩
theorem Mv.trans {W2 : World} (h : Mv B a a' p p' W W') (h2 : Mv B a' a2 p' p2 W' W2) : Mv B a a2 p p2 W W2 :=
  ⟨h2.at', h.but.more15 h2.but h.foot, fun k hk => (h2.foot k hk).elim (h.foot k) (fun e => .inr (Nat.le_trans h.but.size e)), fun k hk => (h2.ro k hk).elim (h.ro k) (fun e => .inr (Nat.le_trans h.but.size e))⟩
end
structure Spaces (w : World) (lo : Nat) (W : World) (l : List It) : Prop where
  ex : ∃ P : Nat → Loc, (∀ (i : Nat) (a : It), l[i]? = some a → a.at' w.heap.size W (P i)) ∧ (∀ (i : Nat) (a : It) (k : Nat), l[i]? = some a → (a.foot (P i) k ∨ a.ro (P i) k) → lo ≤ k) ∧
    (∀ (i j : Nat) (a b : It) (k : Nat), i ≠ j → l[i]? = some a → l[j]? = some b → a.foot (P i) k → ¬ (b.foot (P j) k ∨ b.ro (P j) k))
  low : w.heap.size ≤ lo
  top : lo ≤ W.heap.size
  bel : Below w.heap.size w W
section
variable {w W W' : World} {lo : Nat} {l : List It} {a a' : It}
theorem Spaces.nil (hb : Below w.heap.size w W) (hl : w.heap.size ≤ lo) (hh : lo ≤ W.heap.size) : Spaces w lo W [] :=
  ⟨⟨fun _ => ⟨0, 0, 0, 0, 0, 0, .slice none 0 0, .slice none 0 0, .slice none 0 0, .slice none 0 0, .slice none 0 0, .slice none 0 0, []⟩, by simp, by simp, by simp⟩, hl, hh, hb⟩
theorem Spaces.other {R : Nat → Prop} (h : Spaces w lo W l) (hb : But R W W') (h1 : ∀ k, R k → w.heap.size ≤ k) (h2 : ∀ k, R k → k < W.heap.size → k < lo ∧ Typ15 W k) : Spaces w lo W' l := by
  obtain ⟨P, e1, e2, e3⟩ := h.ex
  have hw := Nat.le_trans h.low h.top
  refine ⟨⟨P, fun i a ha => It.but (e1 i a ha) hb (fun k hk hr => ?_) (fun k hr hk => (h2 k hr hk).2) hw (fun k hk hr => ?_), e2, e3⟩, h.low, Nat.le_trans h.top hb.size, ?_⟩
  · have := e2 i a k ha hk
    have := (h2 k hr (It.lt (e1 i a ha) hk)).1
    omega
  · have := h1 k hr; omega
  · exact hb.below h.bel hw h1
theorem Spaces.grow (h : Spaces w lo W l) (hb : Below W.heap.size W W') : Spaces w lo W' l := h.other (R := NoBlock) (But.of_below hb) (fun _ h => h.elim) (fun _ h => h.elim)
theorem Spaces.move (h : Spaces w lo W l) {i : Nat} (hi : l[i]? = some a) : ∃ p, a.at' w.heap.size W p ∧ ∀ (a' : It) (p' : Loc) (W' : World), Mv w.heap.size a a' p p' W W' → Spaces w lo W' (l.set i a') := by
  obtain ⟨P, e1, e2, e3⟩ := h.ex
  have hw := Nat.le_trans h.low h.top
  have hil : i < l.length := (List.getElem?_eq_some_iff.1 hi).1
  refine ⟨P i, e1 i a hi, fun a' p' W' m => ?_⟩
  have hset : ∀ j b, (l.set i a')[j]? = some b → (j = i ∧ b = a') ∨ (j ≠ i ∧ l[j]? = some b) := by
    intro j b hj
    rw [List.getElem?_set] at hj
    by_cases hji : i = j
    · subst hji
      rw [if_pos rfl, if_pos hil] at hj
      exact .inl ⟨rfl, (Option.some.inj hj).symm⟩
    · rw [if_neg hji] at hj
      exact .inr ⟨fun e => hji e.symm, hj⟩
  have hfar : ∀ j b, j ≠ i → l[j]? = some b → ∀ k, b.foot (P j) k ∨ b.ro (P j) k → ¬ a.foot (P i) k := fun j b hj hb k hk hf => e3 i j a b k (fun e => hj e.symm) hi hb hf hk
  refine ⟨⟨fun j => if j = i then p' else P j, ?_, ?_, ?_⟩, h.low, Nat.le_trans h.top m.but.size, ?_⟩
  · intro j b hj
    rcases hset j b hj with ⟨rfl, rfl⟩ | ⟨hji, hj⟩
    · simpa using m.at'
    · simp only [if_neg hji]
      exact It.but (e1 j b hj) m.but (hfar j b hji hj) (fun k hk _ => It.typ (e1 i a hi) hk) hw (fun k hk hf => by have := e2 i a k hi (.inl hf); have := h.low; omega)
  · intro j b k hj hk
    rcases hset j b hj with ⟨rfl, rfl⟩ | ⟨hji, hj⟩
    · simp only [if_true] at hk
      rcases hk with hk | hk
      · rcases m.foot k hk with hk | hk
        · exact e2 _ a k hi (.inl hk)
        · exact Nat.le_trans h.top hk
      · rcases m.ro k hk with hk | hk
        · exact e2 _ a k hi (.inr hk)
        · exact Nat.le_trans h.top hk
    · simp only [if_neg hji] at hk
      exact e2 j b k hj hk
  · intro j1 j2 b1 b2 k hne h1 h2 hk
    rcases hset j1 b1 h1 with ⟨rfl, rfl⟩ | ⟨hj1, g1⟩
    · rcases hset j2 b2 h2 with ⟨rfl, rfl⟩ | ⟨hj2, h2⟩
      · exact absurd rfl hne
      · simp only [if_true] at hk
        simp only [if_neg hj2]
        rcases m.foot k hk with hk | hk
        · exact e3 _ j2 a b2 k (fun e => hj2 e.symm) hi h2 hk
        · intro hc
          have := It.lt (e1 j2 b2 h2) hc
          omega
    · simp only [if_neg hj1] at hk
      rcases hset j2 b2 h2 with ⟨rfl, rfl⟩ | ⟨hj2, h2⟩
      · simp only [if_true]
        have hlt := It.lt (e1 j1 b1 g1) (.inl hk)
        rintro (hc | hc)
        · rcases m.foot k hc with hc | hc
          · exact e3 j1 _ b1 a k hj1 g1 hi hk (.inl hc)
          · omega
        · rcases m.ro k hc with hc | hc
          · exact e3 j1 _ b1 a k hj1 g1 hi hk (.inr hc)
          · omega
      · simp only [if_neg hj2]
        exact e3 j1 j2 b1 b2 k hne g1 h2 hk
  · exact m.but.below h.bel hw (fun k hk => Nat.le_trans h.low (e2 i a k hi (.inl hk)))
theorem Spaces.add (h : Spaces w lo W l) {p : Loc} (hb : Below W.heap.size W W') (ha : a.at' w.heap.size W' p) (hn : ∀ k, a.foot p k → W.heap.size ≤ k)
    (hr : ∀ k, a.ro p k → W.heap.size ≤ k ∨ (lo ≤ k ∧ ∀ (P : Nat → Loc) (i : Nat) (b : It), l[i]? = some b → (∀ (i : Nat) (a : It), l[i]? = some a → a.at' w.heap.size W (P i)) → (∀ (i j : Nat) (a b : It) (k : Nat), i ≠ j → l[i]? = some a → l[j]? = some b → a.foot (P i) k → ¬ (b.foot (P j) k ∨ b.ro (P j) k)) → ¬ b.foot (P i) k)) : Spaces w lo W' (l ++ [a]) := by
  obtain ⟨P, e1, e2, e3⟩ := h.ex
  have hw := Nat.le_trans h.low h.top
  have hg := h.grow hb
  have hset : ∀ j b, (l ++ [a])[j]? = some b → (j = l.length ∧ b = a) ∨ (j ≠ l.length ∧ l[j]? = some b) := by
    intro j b hj
    rw [List.getElem?_append] at hj
    split at hj
    · rename_i hlt
      exact .inr ⟨by omega, hj⟩
    · rename_i hlt
      by_cases hjl : j = l.length
      · subst hjl
        simp at hj
        exact .inl ⟨rfl, hj.symm⟩
      · rw [List.getElem?_eq_none (by simp; omega)] at hj
        cases hj
  refine ⟨⟨fun j => if j = l.length then p else P j, ?_, ?_, ?_⟩, h.low, hg.top, hg.bel⟩
  · intro j b hj
    rcases hset j b hj with ⟨rfl, rfl⟩ | ⟨hji, hj⟩
    · simpa using ha
    · simp only [if_neg hji]
      exact It.grow (e1 j b hj) hb hw
  · intro j b k hj hk
    rcases hset j b hj with ⟨rfl, rfl⟩ | ⟨hji, hj⟩
    · simp only [if_true] at hk
      rcases hk with hk | hk
      · exact Nat.le_trans h.top (hn k hk)
      · rcases hr k hk with hk | hk
        · exact Nat.le_trans h.top hk
        · exact hk.1
    · simp only [if_neg hji] at hk
      exact e2 j b k hj hk
  · intro j1 j2 b1 b2 k hne h1 h2 hk
    rcases hset j1 b1 h1 with ⟨rfl, rfl⟩ | ⟨hj1, g1⟩
    · rcases hset j2 b2 h2 with ⟨rfl, rfl⟩ | ⟨hj2, h2⟩
      · exact absurd rfl hne
      · simp only [if_true] at hk
        simp only [if_neg hj2]
        intro hc
        have := It.lt (e1 j2 b2 h2) hc
        have := hn k hk
        omega
    · simp only [if_neg hj1] at hk
      have hlt := It.lt (e1 j1 b1 g1) (.inl hk)
      rcases hset j2 b2 h2 with ⟨rfl, rfl⟩ | ⟨hj2, h2⟩
      · simp only [if_true]
        rintro (hc | hc)
        · have := hn k hc; omega
        · rcases hr k hc with hc | hc
          · omega
          · exact hc.2 P j1 b1 g1 e1 e3 hk
      · simp only [if_neg hj2]
        exact e3 j1 j2 b1 b2 k hne g1 h2 hk
theorem Spaces.pick {l' : List It} (h : Spaces w lo W l) (s : Nat → Nat) (hs : ∀ (i : Nat) (a : It), l'[i]? = some a → l[s i]? = some a) (hi : ∀ (i j : Nat), i < l'.length → j < l'.length → s i = s j → i = j) : Spaces w lo W l' := by
  obtain ⟨P, e1, e2, e3⟩ := h.ex
  have hl : ∀ {i a}, l'[i]? = some a → i < l'.length := fun h => (List.getElem?_eq_some_iff.1 h).1
  exact ⟨⟨fun i => P (s i), fun i a ha => e1 _ a (hs i a ha), fun i a k ha => e2 _ a k (hs i a ha), fun i j a b k hne ha hb => e3 _ _ a b k (fun e => hne (hi i j (hl ha) (hl hb) e)) (hs i a ha) (hs j b hb)⟩, h.low, h.top, h.bel⟩
end
end Go.Proofs.YtkfdgpgildanbaaGreat
namespace Go.Proofs.YtkfdgpgildanbaaGreat
open Go.RowKit Go.Shelf
set_option linter.unusedVariables false
set_option linter.unusedSimpArgs false
theorem disable15 (w : World) : (callFunc 212 #[]).run Tryz.prog w = .ok (.value (.tuple #[])) w := run_call_mark0 Tryz.func212 (by kernel_rfl) (by kernel_rfl) (by kernel_rfl) .disable (by kernel_rfl) w
theorem enable15 (w : World) : (callFunc 214 #[]).run Tryz.prog w = .ok (.value (.tuple #[])) w := run_call_mark0 Tryz.func214 (by kernel_rfl) (by kernel_rfl) (by kernel_rfl) .enable (by kernel_rfl) w
theorem acquire15 (a : Addr) (w : World) : (callFunc 215 #[.pointer (some a)]).run Tryz.prog w = .ok (.value (.tuple #[])) w := run_call_marked Tryz.func215 (by kernel_rfl) (by kernel_rfl) (by kernel_rfl) .acquire (by kernel_rfl) a w
theorem releaseMerge15 (a : Addr) (w : World) : (callFunc 217 #[.pointer (some a)]).run Tryz.prog w = .ok (.value (.tuple #[])) w := run_call_marked Tryz.func217 (by kernel_rfl) (by kernel_rfl) (by kernel_rfl) .releaseMerge (by kernel_rfl) a w
theorem not15 : ∀ (x : Bool) (w : World), (Op.unary .not (.bool x)).run Tryz.prog w = .ok (.bool (!x)) w := fun _ _ => rfl
theorem done15 (a : Addr) (x : Int) (w : World) (hc : w.cell? a = some (.int .u32 x)) : Calls Tryz.prog 138 #[.pointer (some a)] w fun e w' => e = .returned (.bool (x != 0)) ∧ w = w' := by
  have hl := run_call_load (P := Tryz.prog) Tryz.func171 (by kernel_rfl) (by kernel_rfl) (by kernel_rfl) .u32 (by kernel_rfl) hc
  go_enter Tryz.func138, Tryz.ntmps138
  go_wp2
  go_ret
  exact ⟨rfl, rfl⟩
theorem storeDone15 (a : Addr) (x : Value) (u : FrameMode) (w : World) (hc : w.cell? a = some x) (hz : w.frozen? a = false) :
    CallsD Tryz.prog 174 #[.pointer (some a), .bool true] u w fun e u' w' => u' = u ∧ (e = .returned (.tuple #[]) ∧ w' = w.drew.setCell a (.int .u32 1)) := by
  have hc' : w.drew.cell? a = some x := by go_simp
  have hz' : w.drew.frozen? a = false := by go_simp
  have hst := run_call_store (P := Tryz.prog) Tryz.func197 (by kernel_rfl) (by kernel_rfl) (by kernel_rfl) (by kernel_rfl) (k := .u32) (y := 1) hc' hz'
  go_enter_d Tryz.func174, Tryz.ntmps174
  go_wp2
  go_region_calls
  all_goals (go_end0; exact ⟨rfl, rfl⟩)
set_option maxRecDepth 100000 in
set_option maxHeartbeats 1600000 in
theorem unlock15 (a : Addr) (u : FrameMode) (w : World) (hc : w.cell? a = some (.int .i32 1)) (hz : w.frozen? a = false) :
    CallsD Tryz.prog 173 #[.pointer (some a)] u w fun e u' w' => u' = u ∧ (e = .returned (.tuple #[]) ∧ w' = w.setCell a (.int .i32 0)) := by
  have hd := disable15
  have he := enable15
  have hr := releaseMerge15
  have hadd := run_call_add (P := Tryz.prog) Tryz.func218 (by kernel_rfl) (by kernel_rfl) (by kernel_rfl) .i32 (by kernel_rfl) (y := -1) (s := 0) hc hz (by simp [go_sem]; rfl)
  have hcv := run_convert_to_unsafe (P := Tryz.prog) (src := 229) (dst := 233) Tryz.underlying229 Tryz.underlying233 (by kernel_rfl) hc
  go_enter_d Tryz.func173, Tryz.ntmps173
  go_wp2
  go_end0
  go_wp2
  go_end0
  exact ⟨rfl, rfl⟩
set_option maxRecDepth 100000 in
set_option maxHeartbeats 1600000 in
theorem lock15 (a : Addr) (w : World) (hc : w.cell? a = some (.int .i32 0)) (hz : w.frozen? a = false) :
    Calls Tryz.prog 172 #[.pointer (some a)] w fun e w' => e = .returned (.tuple #[]) ∧ w' = w.setCell a (.int .i32 1) := by
  have hd := disable15
  have he := enable15
  have ha := acquire15
  have hcas := run_call_cas_hit (P := Tryz.prog) Tryz.func213 (by kernel_rfl) (by kernel_rfl) (by kernel_rfl) .i32 (by kernel_rfl) (y := 1) hc hz
  have hc' : (w.setCell a (.int .i32 1)).cell? a = some (.int .i32 1) := World.cell?_setCell_same w a _ hc
  have hcv := run_convert_to_unsafe (P := Tryz.prog) (src := 229) (dst := 233) Tryz.underlying229 Tryz.underlying233 (by kernel_rfl) hc'
  go_enter Tryz.func172, Tryz.ntmps172
  go_wp2
  first | go_end0 | (simp only [Exit.inBlock, Exit.then]; refine bodyPost_ret (results_none rfl _ _ _) rfl ?_) | refine bodyPost_ret (results_none rfl _ _ _) rfl ?_
  go_wp2
  go_end0
  exact ⟨rfl, rfl⟩
structure Locked15 (sb : Nat) (W : World) : Prop where
  d : W.cell? ⟨sb, 1, none⟩ = some (.int .u32 0)
  m : W.cell? ⟨sb, 2, none⟩ = some (.int .i32 1)
  fd : W.frozen? ⟨sb, 1, none⟩ = false
  fm : W.frozen? ⟨sb, 2, none⟩ = false
def After15 (sb : Nat) (W : World) : World := (W.drew.setCell ⟨sb, 1, none⟩ (.int .u32 1)).setCell ⟨sb, 2, none⟩ (.int .i32 0)
set_option maxRecDepth 100000 in
set_option maxHeartbeats 1600000 in
theorem slowLay15 (sb : Nat) (w : World) (Q : World → Prop) (h0 : w.cell? ⟨sb, 1, none⟩ = some (.int .u32 0)) (h1 : w.cell? ⟨sb, 2, none⟩ = some (.int .i32 0))
    (f0 : w.frozen? ⟨sb, 1, none⟩ = false) (f1 : w.frozen? ⟨sb, 2, none⟩ = false)
    (hf : Calls Tryz.prog 131 #[.pointer (some ⟨sb, 0, none⟩)] (w.setCell ⟨sb, 2, none⟩ (.int .i32 1)) fun e W => e = .returned (.tuple #[]) ∧ Q W) (hQ : ∀ W, Q W → Locked15 sb W) :
    Calls Tryz.prog 139 #[.pointer (some ⟨sb, 1, none⟩), .func (.func 131) #[.pointer (some ⟨sb, 0, none⟩)] #[]] w fun e w' => e = .returned (.tuple #[]) ∧ ∃ W, Q W ∧ w' = After15 sb W := by
  have HL := Lib.hid (lock15 ⟨sb, 2, none⟩ w h1 f1)
  have HD := Lib.hid (done15 ⟨sb, 1, none⟩ 0 (w.setCell ⟨sb, 2, none⟩ (.int .i32 1)) ((World.cell?_setCell_other _ ⟨sb, 2, none⟩ ⟨sb, 1, none⟩ _ (by simp)).trans h0))
  have HF := Lib.hid hf
  have HQ := Lib.hid hQ
  have hnot := not15
  clear hf hQ
  go_enter_defers Tryz.func139, Tryz.ntmps139
  go_wp2_with (first
    | (go_at_call 172; (with_reducible refine HL.out.mono ?_); rintro e w1 ⟨rfl, rfl⟩)
    | (go_at_call 138; (with_reducible refine HD.out.mono ?_); rintro e w2 ⟨rfl, rfl⟩)
    | (go_at_call 131; (with_reducible refine HF.out.mono ?_); rintro e w3 ⟨rfl, hq⟩; have HK := Lib.hid hq; clear hq))
  have lk := HQ.out _ HK.out
  refine leaves_cons (f := 174) (args := #[.pointer (some ⟨sb, 1, none⟩), .bool true]) (by simp) (by simp [go_sem]) ?_
  refine (storeDone15 ⟨sb, 1, none⟩ (.int .u32 0) .returning _ lk.d lk.fd).mono ?_
  rintro e u' w'' ⟨rfl, rfl, rfl⟩
  refine leaves_cons (f := 173) (args := #[.pointer (some ⟨sb, 2, none⟩)]) (by simp [settle]) (by simp [go_sem]) ?_
  refine (unlock15 ⟨sb, 2, none⟩ _ _ ?_ (by simp [lk.fm])).mono ?_
  · refine (World.cell?_setCell_other _ ⟨sb, 1, none⟩ ⟨sb, 2, none⟩ _ (by simp)).trans ?_
    rw [World.cell?_drew]
    exact lk.m
  rintro e u' w'' ⟨rfl, rfl, rfl⟩
  simp [Leaves, settle, results, Tryz.results139]
  exact ⟨_, HK.out, rfl⟩
theorem onceLay15 (sb : Nat) (w : World) (Q : World → Prop) (h0 : w.cell? ⟨sb, 1, none⟩ = some (.int .u32 0)) (h1 : w.cell? ⟨sb, 2, none⟩ = some (.int .i32 0))
    (f0 : w.frozen? ⟨sb, 1, none⟩ = false) (f1 : w.frozen? ⟨sb, 2, none⟩ = false)
    (hf : Calls Tryz.prog 131 #[.pointer (some ⟨sb, 0, none⟩)] (w.setCell ⟨sb, 2, none⟩ (.int .i32 1)) fun e W => e = .returned (.tuple #[]) ∧ Q W) (hQ : ∀ W, Q W → Locked15 sb W) :
    Calls Tryz.prog 73 #[.pointer (some ⟨sb, 1, none⟩), .func (.func 131) #[.pointer (some ⟨sb, 0, none⟩)] #[]] w fun e w' => e = .returned (.tuple #[]) ∧ ∃ W, Q W ∧ w' = After15 sb W := by
  have HD := Lib.hid (done15 ⟨sb, 1, none⟩ 0 w h0)
  have HS := Lib.hid (slowLay15 sb w Q h0 h1 f0 f1 hf hQ)
  have hnot := not15
  clear hf hQ
  go_enter Tryz.func73, Tryz.ntmps73
  go_wp2_with (first
    | (go_at_call 138; (with_reducible refine HD.out.mono ?_); rintro e w2 ⟨rfl, rfl⟩)
    | (go_at_call 139; (with_reducible refine HS.out.mono ?_); rintro e w3 ⟨rfl, hq⟩; have HK := Lib.hid hq; clear hq))
  go_end0
  exact ⟨rfl, HK.out⟩
theorem onceNo15 (sb : Nat) (fv : Value) (w : World) (h0 : w.cell? ⟨sb, 1, none⟩ = some (.int .u32 1)) :
    Calls Tryz.prog 73 #[.pointer (some ⟨sb, 1, none⟩), fv] w fun e w' => e = .returned (.tuple #[]) ∧ w = w' := by
  have HD := Lib.hid (done15 ⟨sb, 1, none⟩ 1 w h0)
  have hnot := not15
  go_enter Tryz.func73, Tryz.ntmps73
  go_wp2_with (go_at_call 138; (with_reducible refine HD.out.mono ?_); rintro e w2 ⟨rfl, rfl⟩)
  go_end0
  exact ⟨rfl, rfl⟩
theorem fuel15 (a : Addr) (x : Int) (w : World) (hc : w.cell? a = some (.int .i64 x)) : Calls Tryz.prog 72 #[.pointer (some a)] w fun e w' => e = .returned (.int .i64 x) ∧ w = w' := by
  have hl := run_call_load (P := Tryz.prog) Tryz.func137 (by kernel_rfl) (by kernel_rfl) (by kernel_rfl) .i64 (by kernel_rfl) hc
  go_enter Tryz.func72, Tryz.ntmps72
  go_wp2
  go_ret
  exact ⟨rfl, rfl⟩
theorem setFuel15 (a : Addr) (x : Value) (y : Int) (w : World) (hc : w.cell? a = some x) (hz : w.frozen? a = false) : Calls Tryz.prog 59 #[.pointer (some a), .int .i64 y] w fun e w' => e = .returned (.tuple #[]) ∧ w' = w.setCell a (.int .i64 y) := by
  have hst := run_call_store (P := Tryz.prog) Tryz.func122 (by kernel_rfl) (by kernel_rfl) (by kernel_rfl) (by kernel_rfl) (k := .i64) (y := y) hc hz
  go_enter Tryz.func59, Tryz.ntmps59
  go_wp2
  go_end0
  exact ⟨rfl, rfl⟩
theorem swap15 (a : Addr) (x y : Int) (w : World) (hc : w.cell? a = some (.int .i64 x)) (hz : w.frozen? a = false) : Calls Tryz.prog 104 #[.pointer (some a), .int .i64 x, .int .i64 y] w fun e w' => e = .returned (.bool true) ∧ w' = w.setCell a (.int .i64 y) := by
  have hcas := run_call_cas_hit (P := Tryz.prog) Tryz.func159 (by kernel_rfl) (by kernel_rfl) (by kernel_rfl) .i64 (by kernel_rfl) (y := y) hc hz
  go_enter Tryz.func104, Tryz.ntmps104
  go_wp2
  go_ret
  exact ⟨rfl, rfl⟩
end Go.Proofs.YtkfdgpgildanbaaGreat
namespace Go.Proofs.YtkfdgpgildanbaaGreat
open Go.RowKit Go.Shelf
set_option linter.unusedVariables false
set_option linter.unusedSimpArgs false
theorem cells18 {w : World} {b' : Nat} {v0 v1 v2 v3 v4 v5 v6 v7 v8 v9 v10 v11 v12 v13 v14 v15 v16 v17 : Value} {T : TypeId} (h : w.heap[b']? = some (.cells #[v0, v1, v2, v3, v4, v5, v6, v7, v8, v9, v10, v11, v12, v13, v14, v15, v16, v17] T (0, 0))) :
    (w.cell? ⟨b', 0, none⟩ = some v0 ∧ w.cell? ⟨b', 1, none⟩ = some v1 ∧ w.cell? ⟨b', 2, none⟩ = some v2 ∧ w.cell? ⟨b', 3, none⟩ = some v3 ∧ w.cell? ⟨b', 4, none⟩ = some v4 ∧ w.cell? ⟨b', 5, none⟩ = some v5) ∧
    (w.cell? ⟨b', 6, none⟩ = some v6 ∧ w.cell? ⟨b', 7, none⟩ = some v7 ∧ w.cell? ⟨b', 8, none⟩ = some v8 ∧ w.cell? ⟨b', 9, none⟩ = some v9 ∧ w.cell? ⟨b', 10, none⟩ = some v10 ∧ w.cell? ⟨b', 11, none⟩ = some v11) ∧
    (w.cell? ⟨b', 12, none⟩ = some v12 ∧ w.cell? ⟨b', 13, none⟩ = some v13 ∧ w.cell? ⟨b', 14, none⟩ = some v14 ∧ w.cell? ⟨b', 15, none⟩ = some v15 ∧ w.cell? ⟨b', 16, none⟩ = some v16 ∧ w.cell? ⟨b', 17, none⟩ = some v17) := by
  simp [World.cell?, h]
theorem one_but15 (w : World) (b o : Nat) (v : Value) : But (OneBlock b) w (w.setCell ⟨b, o, none⟩ v) := (But.refl (OneBlock b) w).setCell (p := ⟨b, o, none⟩) (.inl rfl) _
theorem but_box15 {sb : Nat} {w w' : World} (h : But (OneBlock sb) w w') (o : Nat) (v : Value) : But (OneBlock sb) w (w'.setCell ⟨sb, o, none⟩ v) := h.setCell (p := ⟨sb, o, none⟩) (.inl (show OneBlock sb sb from rfl)) v
def EntDone (w : World) (sb : Nat) (f : Nat) (x r a fl : Int) (v0 v1 v2 v3 v4 v5 v6 v7 v8 v9 v10 v11 v12 v13 v14 v15 v16 v17 : Value) (e : Ending) (w' : World) : Prop :=
  e = .returned (.bool (decide (pushE x r a fl = 0))) ∧ But (OneBlock sb) w w' ∧
    w'.heap[sb]? = some (.cells (if pushE x r a fl = 0 then #[v0, v1, v2, v3, v4, v5, v6, v7, v8, v9, v10, v11, .int .i64 f, .int .u64 (pushV x r a fl), .int .i64 0, v15, v16, v17] else #[v0, v1, v2, v3, v4, v5, v6, v7, v8, v9, v10, v11, v12, v13, v14, v15, v16, v17]) 80 (0, 0))
theorem funs_at15 {w : World} {V : Value} {fs : List FunV} (h : IsFuns w w.heap.size V fs) {f : Nat} (hf : f < fs.length) : ∃ b off cap CA cl cc, V = .slice (some ⟨b, off, none⟩) fs.length cap ∧ fs.length ≤ cap ∧ b < w.heap.size ∧
    w.cell? ⟨b, off + f * 4, none⟩ = some (.int .i64 (fs.getD f .zero).params) ∧ w.cell? ⟨b, off + f * 4 + 1, none⟩ = some (.int .i64 (fs.getD f .zero).regs) ∧ w.cell? ⟨b, off + f * 4 + 2, none⟩ = some (.int .i64 (fs.getD f .zero).area) ∧ w.cell? ⟨b, off + f * 4 + 3, none⟩ = some (.slice CA cl cc) := by
  obtain ⟨b, off, cap, h1, h2, h3, h4⟩ := h.plain (by omega)
  obtain ⟨C, hC, hc⟩ := h4 f hf
  obtain ⟨CA, cc, rfl⟩ := hC.len
  exact ⟨b, off, cap, CA, _, cc, h1, h2, h3, hc 0 (by omega), hc 1 (by omega), hc 2 (by omega), hc 3 (by omega)⟩
set_option maxRecDepth 100000 in
set_option maxHeartbeats 4000000 in
theorem enter15 {w : World} {sb : Nat} {f : Nat} {x fl : Int} {v0 v1 v2 v3 v4 v5 v6 v7 v9 v10 v11 v12 v14 v15 v16 v17 : Value} {fs : List FunV}
    (hbox : w.heap[sb]? = some (.cells #[v0, v1, v2, v3, v4, v5, v6, v7, .int .u64 fl, v9, v10, v11, v12, .int .u64 x, v14, v15, v16, v17] 80 (0, 0)))
    (hF : IsFuns w w.heap.size v5 fs) (hf : f < fs.length) (hx : 0 ≤ x ∧ x < 18446744073709551616) (hl : 0 ≤ fl ∧ fl < 18446744073709551616) :
    Calls Tryz.prog 106 #[.pointer (some ⟨sb, 0, none⟩), .int .i64 f] w (EntDone w sb f x (fs.getD f .zero).regs (fs.getD f .zero).area fl v0 v1 v2 v3 v4 v5 v6 v7 (.int .u64 fl) v9 v10 v11 v12 (.int .u64 x) v14 v15 v16 v17) := by
  obtain ⟨⟨c0, c1, c2, c3, c4, c5⟩, ⟨c6, c7, c8, c9, c10, c11⟩, c12, c13, c14, c15, c16, c17⟩ := cells18 hbox
  obtain ⟨b, off, cap, CA, cl, cc, hV, hcp, hbb, k0, k1, k2, k3⟩ := funs_at15 hF hf
  have hB := funs_getD hF hf
  have r1 := hB.regs
  have a1 := hB.area
  generalize (fs.getD f .zero).regs = r at *
  generalize (fs.getD f .zero).area = ar at *
  generalize (fs.getD f .zero).params = pp at *
  have hsb := heap_lt hbox
  subst hV
  have f0 : (0 : Int) ≤ (f : Int) := by omega
  have f1 : (f : Int) < (fs.length : Int) := by omega
  obtain ⟨W, hW⟩ : ∃ W, W = w.alloc (.cells #[.int .i64 pp, .int .i64 r, .int .i64 ar, .slice CA cl cc] 112) := ⟨_, rfl⟩
  have BW : Below w.heap.size w W := by rw [hW]; exact below_one14 w _
  have hbox' : W.heap[sb]? = some (.cells #[v0, v1, v2, v3, v4, .slice (some ⟨b, off, none⟩) fs.length cap, v6, v7, .int .u64 fl, v9, v10, v11, v12, .int .u64 x, v14, v15, v16, v17] 80 (0, 0)) := (BW.block _ hsb).trans hbox
  have HP := Lib.hid (fun n => push_any x r ar fl (W.drewN n) hx.1 hx.2 hl.1 hl.2 r1.1 r1.2 a1.1 a1.2)
  have HW := Lib.hid hW
  have HBW := Lib.hid BW
  have HBX := Lib.hid hbox'
  obtain ⟨⟨d0, d1, d2, d3, d4, d5⟩, ⟨d6, d7, d8, d9, d10, d11⟩, d12, d13, d14, d15, d16, d17⟩ := cells18 hbox'
  obtain ⟨n0, n1, n2, n3⟩ := cells4 (show W.heap[w.heap.size]? = some (.cells #[.int .i64 pp, .int .i64 r, .int .i64 ar, .slice CA cl cc] 112 (0, 0)) by rw [hW]; exact heap_alloc_new _ _)
  have g12 := frozen_of_row W sb 12 _ _ hbox'
  have g13 := frozen_of_row W sb 13 _ _ hbox'
  have g14 := frozen_of_row W sb 14 _ _ hbox'
  obtain ⟨E, hE⟩ : ∃ E, E = pushE x r ar fl := ⟨_, rfl⟩
  obtain ⟨Y, hY⟩ : ∃ Y, Y = pushV x r ar fl := ⟨_, rfl⟩
  unfold EntDone
  rw [← hE, ← hY]
  rw [← hE, ← hY] at HP
  clear hF hB hbox hbox' hE hY BW hW
  by_cases hz : E = 0
  · subst hz
    have hne : ((0 : Int) != 0) = false := by decide
    go_enter Tryz.func106, Tryz.ntmps106
    go_wp2_with fail
    rw [← HW.out]
    go_quiet ((go_at_call 160; with_reducible exact quiet_left (HP.out _)))
    go_wp2
    go_ret
    refine ⟨rfl, but_box15 (but_box15 (but_box15 ((But.of_below HBW.out).drewN nq) 12 _) 13 _) 14 _, ?_⟩
    have h0 : (W.drewN nq).heap[sb]? = _ := HBX.out
    have h1 := heap_setCell_same _ sb 12 _ _ (.int .i64 f) h0
    have h2 := heap_setCell_same _ sb 13 _ _ (.int .u64 Y) h1
    exact heap_setCell_same _ sb 14 _ _ (.int .i64 0) h2
  · have hne : (E != 0) = true := by simpa using hz
    go_enter Tryz.func106, Tryz.ntmps106
    go_wp2_with fail
    rw [← HW.out]
    go_quiet ((go_at_call 160; with_reducible exact quiet_left (HP.out _)))
    go_wp2
    go_ret
    exact ⟨rfl, (But.of_below HBW.out).drewN nq, HBX.out⟩
end Go.Proofs.YtkfdgpgildanbaaGreat
namespace Go.Proofs.YtkfdgpgildanbaaGreat
open Go.RowKit Go.Shelf
set_option linter.unusedVariables false
set_option linter.unusedSimpArgs false
structure LayDone (w W : World) (sb : Nat) (D FV IN : Value) (Cs : List Value) (S : SpV) (p : Loc) : Prop where
  box : W.heap[sb]? = some (.cells #[.pointer (some ⟨sb, 0, none⟩), .int .u32 0, .int .i32 1, .int .u32 0, D, FV, .int .i64 S.size, IN, .int .u64 (floV S.m), .pointer (some ⟨p.mb, 0, none⟩), .pointer (some ⟨p.tb, 0, none⟩), .int .i64 S.fuel, .int .i64 S.f, .int .u64 S.at_, .int .i64 S.pc, .slice none 0 0, .int .i64 S.ek, .int .i64 S.ec] 80 (0, 0))
  mem : MemAt W p.mb p.bb p.c S.mem
  tape : Tape14 0 W p.tb p.X p.V S.left S.done
  lv : p.LV = .slice none 0 0 ∧ p.D = D ∧ p.FV = FV ∧ p.IN = IN ∧ p.Cs = Cs
  far : w.heap.size ≤ p.mb ∧ w.heap.size ≤ p.bb ∧ w.heap.size ≤ p.tb ∧ (∀ g, p.X.ownBlock = some g → w.heap.size ≤ g) ∧ (∀ g, p.V.ownBlock = some g → w.heap.size ≤ g)
  apart : ∀ g, p.X.ownBlock = some g → g ≠ p.bb
  but : But (OneBlock sb) w W
theorem tape_low15 {base base' tb : Nat} {W : World} {X V : Value} {xs : List Int} {L : List (Int × Int)} (h : Tape14 base W tb X V xs L) (hb : base' ≤ base) : Tape14 base' W tb X V xs L := ⟨h.box, h.left.base' hb, h.done.base hb, h.few⟩
theorem ownF_box15 {w W : World} {sb : Nat} {c : Array Value} {V : Value} {l : List FunV} {Cs : List Value} (h : OwnF 112 0 w V l Cs) (hb : But (OneBlock sb) w W) (hx : w.heap[sb]? = some (.cells c 80 (0, 0))) : OwnF 112 0 W V l Cs := by
  refine h.but hb (fun g hg e => ?_) (fun k hk => by omega) (fun k c hc e => ?_) (fun k c hc e => ?_)
  · have e' : g = sb := e
    subst e'
    obtain ⟨_, c', hc'⟩ := typed14 h.own hg
    exact types14 hc' hx (by decide)
  · have e' : k = sb := e
    subst e'
    exact types14 hc hx (by decide)
  · have e' : k = sb := e
    subst e'
    exact types14 hc hx (by decide)
theorem top_n {n : Nat} (h0 : 16 ≤ n) (h1 : n ≤ 65536) (h2 : n % 16 = 0) : topV n = n ∧ topE n = 0 := by
  unfold topV topE dnV
  rw [if_pos (by omega), if_pos (by omega)]
  omega
set_option maxRecDepth 100000 in
set_option maxHeartbeats 8000000 in
theorem lay15 {w : World} {sb n : Nat} {m : ModV} {inp : List Int} {fuel : Int} {D FV IN : Value} {Cs : List Value}
    (hbox : w.heap[sb]? = some (.cells #[.pointer (some ⟨sb, 0, none⟩), .int .u32 0, .int .i32 1, .int .u32 0, D, FV, .int .i64 n, IN, .int .u64 (floV m), .pointer none, .pointer none, .int .i64 fuel, .int .i64 0, .int .u64 0, .int .i64 0, .slice none 0 0, .int .i64 0, .int .i64 0] 80 (0, 0)))
    (hD : OwnB 0 w D m.data) (hI : OwnB 0 w IN inp) (hF : OwnF 112 0 w FV m.funcs Cs) (hn : newE15 m n fuel = 0) :
    Calls Tryz.prog 131 #[.pointer (some ⟨sb, 0, none⟩)] w fun e W => e = .returned (.tuple #[]) ∧ ∃ p, LayDone w W sb D FV IN Cs (newS m n inp fuel) p := by
  obtain ⟨z1, z2, z3, z4, z5, z6, z7⟩ := newE15_zero hn
  have hfl := err_funs z6
  have hsb := heap_lt hbox
  have HN := Lib.hid (new_yes n w (by omega) (by omega))
  have HBX := Lib.hid hbox
  have HD := Lib.hid hD
  have HI := Lib.hid hI
  have HF := Lib.hid hF
  obtain ⟨⟨c0, c1, c2, c3, c4, c5⟩, ⟨c6, c7, c8, c9, c10, c11⟩, c12, c13, c14, c15, c16, c17⟩ := cells18 hbox
  have HSB := Lib.hid hsb
  have Z3 : Hid (16 ≤ n) := Lib.hid (by omega)
  have Z4 : Hid (n ≤ 65536) := Lib.hid (by omega)
  have Z5 : Hid (n % 16 = 0) := Lib.hid (by omega)
  have ZM := Lib.hid z6
  have ZF := Lib.hid hfl
  have hDl : D.oneCell' = true ∧ IN.oneCell' = true := by
    obtain ⟨a, b, rfl⟩ := hD.len
    obtain ⟨a', b', rfl⟩ := hI.len
    exact ⟨rfl, rfl⟩
  clear hbox hD hI hF hn z1 z2 z3 z4 z5 z6 z7 hfl
  go_enter Tryz.func131, Tryz.ntmps131
  go_upto_region 1 with (go_at_call 168; (with_reducible refine HN.out.mono ?_); rintro e w1 ⟨mb, bb, c, rfl, hm, h1, h2, hb⟩; have M1 := Lib.hid hm; have L1 := Lib.hid (And.intro h1 h2); have B1 := Lib.hid hb; have X1 := Lib.hid ((hb.block _ HSB.out).trans HBX.out); obtain ⟨⟨d0, d1, d2, d3, d4, d5⟩, ⟨d6, d7, d8, d9, d10, d11⟩, d12, d13, d14, d15, d16, d17⟩ := cells18 X1.out; have g9 := frozen_of_row w1 sb 9 _ _ X1.out; clear hm h1 h2 hb)
  have M2 := Lib.hid (M1.out.but (one_but15 w1 sb 9 (.pointer (some ⟨mb, 0, none⟩))) (fun e => by have h : mb = sb := e; have := L1.out.1; have := HSB.out; omega) (fun e => by have h : bb = sb := e; have := L1.out.2; have := HSB.out; omega))
  have X2 := Lib.hid (heap_setCell_same w1 sb 9 _ _ (.pointer (some ⟨mb, 0, none⟩)) X1.out)
  have U2 := Lib.hid (but_box15 (But.of_below (R := OneBlock sb) B1.out) 9 (.pointer (some ⟨mb, 0, none⟩)))
  have D2 := Lib.hid ((HD.out.but' U2.out (fun g hg e => by have h : g = sb := e; obtain ⟨c', hc'⟩ := HD.out.blk hg; rw [h] at hc'; exact types14 hc' HBX.out (by decide))))
  obtain ⟨W2, hW2⟩ : ∃ W2, W2 = w1.setCell ⟨sb, 9, none⟩ (.pointer (some ⟨mb, 0, none⟩)) := ⟨_, rfl⟩
  rw [← hW2] at M2 X2 U2 D2 ⊢
  clear hW2 g9 d0 d1 d2 d3 d4 d5 d6 d7 d8 d9 d10 d11 d12 d13 d14 d15 d16 d17
  obtain ⟨⟨d0, d1, d2, d3, d4, d5⟩, ⟨d6, d7, d8, d9, d10, d11⟩, d12, d13, d14, d15, d16, d17⟩ := cells18 X2.out
  have HL := Lib.hid (lay_any (M2.out.but (R := NoBlock) ((But.refl _ W2).drew) (fun h => h) (fun h => h)) 16 (Y := D) (ys := m.data) (B := W2.heap.size) D2.out.bytes (by decide) (by decide))
  have e16 : layB (List.replicate n (0 : Int)) 16 m.data = (newS m n inp fuel).mem := by unfold newS new0; split <;> rfl
  rw [e16] at HL
  clear e16
  go_still_tail 10, (by kernel_rfl)
  have HIw := Lib.hid (fun (w3 : World) (h : But (OneBlock bb) W2 w3) => (OwnB.but' (HI.out.but' U2.out (fun g hg e => by have h : g = sb := e; obtain ⟨c', hc'⟩ := HI.out.blk hg; rw [h] at hc'; exact types14 hc' HBX.out (by decide))) h (fun g hg e => by have h : g = bb := e; obtain ⟨c', hc'⟩ := HI.out.blk hg; have := heap_lt hc'; have := L1.out.2; omega)))
  go_upto_region 3 with (first
    | (go_at_call 169; (with_reducible refine HL.out.mono ?_); rintro e w3 ⟨rfl, hm, hb⟩; have M3 := Lib.hid hm; have B3 := Lib.hid (show But (OneBlock bb) W2 w3 from ((But.refl _ W2).drew).trans hb); have X3 := Lib.hid (B3.out.heap X2.out (fun e => by have h : sb = bb := e; have := L1.out.2; have := HSB.out; omega)); have I3 := Lib.hid (HIw.out _ B3.out); clear hm hb; obtain ⟨⟨e0, e1, e2, e3, e4, e5⟩, ⟨e6, e7, e8, e9, e10, e11⟩, e12, e13, e14, e15, e16, e17⟩ := cells18 X3.out; have HTN := Lib.hid (new14 IN inp w3 I3.out.bytes I3.out.1))
    | (go_at_call 170; (with_reducible refine HTN.out.mono ?_); rintro e w4 ⟨tb, TX, TV, rfl, h1, hT, hb⟩; have T4 := Lib.hid hT; have L4 := Lib.hid h1; have B4 := Lib.hid hb; have X4 := Lib.hid ((hb.block _ (heap_lt X3.out)).trans X3.out); clear h1 hT hb; obtain ⟨⟨q0, q1, q2, q3, q4, q5⟩, ⟨q6, q7, q8, q9, q10, q11⟩, q12, q13, q14, q15, q16, q17⟩ := cells18 X4.out; have g10 := frozen_of_row w4 sb 10 _ _ X4.out))
  have M5 := Lib.hid ((M3.out.below B4.out).but (one_but15 w4 sb 10 (.pointer (some ⟨tb, 0, none⟩))) (fun e => by have h : mb = sb := e; have := L1.out.1; have := HSB.out; omega) (fun e => by have h : bb = sb := e; have := L1.out.2; have := HSB.out; omega))
  have X5 := Lib.hid (heap_setCell_same w4 sb 10 _ _ (.pointer (some ⟨tb, 0, none⟩)) X4.out)
  have U5 := Lib.hid (but_box15 ((U2.out.more15 B3.out (fun k hk => .inr (by have h : k = bb := hk; have := L1.out.2; omega))).more15 (C := NoBlock) (But.of_below B4.out) (fun _ h => h.elim)) 10 (.pointer (some ⟨tb, 0, none⟩)))
  have S3 := Lib.hid (show w.heap.size ≤ w3.heap.size from Nat.le_trans U2.out.size B3.out.size)
  have T5 := Lib.hid ((tape_low15 T4.out (Nat.zero_le _)).but' (one_but15 w4 sb 10 (.pointer (some ⟨tb, 0, none⟩))) (fun e => by have h : tb = sb := e; have := L4.out; have := S3.out; have := HSB.out; omega) (fun g hg e => by have h : g = sb := e; have := T4.out.left.low hg; have := S3.out; have := HSB.out; omega) (fun g hg e => by have h : g = sb := e; have := (typed14 T4.out.done hg).1; have := S3.out; have := HSB.out; omega))
  have TX5 := Lib.hid (show ∀ g, TX.ownBlock = some g → w.heap.size ≤ g from fun g hg => Nat.le_trans S3.out (T4.out.left.low hg))
  have TB5 := Lib.hid (show ∀ g, TX.ownBlock = some g → g ≠ bb from fun g hg e => by have := T4.out.left.low hg; have := M3.out.lt.2; omega)
  have TV5 := Lib.hid (show ∀ g, TV.ownBlock = some g → w.heap.size ≤ g from fun g hg => Nat.le_trans S3.out (typed14 T4.out.done hg).1)
  obtain ⟨W5, hW5⟩ : ∃ W5, W5 = w4.setCell ⟨sb, 10, none⟩ (.pointer (some ⟨tb, 0, none⟩)) := ⟨_, rfl⟩
  rw [← hW5] at M5 X5 U5 T5 ⊢
  clear hW5 g10 d0 d1 d2 d3 d4 d5 d6 d7 d8 d9 d10 d11 d12 d13 d14 d15 d16 d17 e0 e1 e2 e3 e4 e5 e6 e7 e8 e9 e10 e11 e12 e13 e14 e15 e16 e17 q0 q1 q2 q3 q4 q5 q6 q7 q8 q9 q10 q11 q12 q13 q14 q15 q16 q17
  obtain ⟨⟨d0, d1, d2, d3, d4, d5⟩, ⟨d6, d7, d8, d9, d10, d11⟩, d12, d13, d14, d15, d16, d17⟩ := cells18 X5.out
  have g13 := frozen_of_row W5 sb 13 _ _ X5.out
  have HT := Lib.hid (top_any n W5 (by have := Z3.out; omega) (by have := Z4.out; omega))
  rw [(top_n Z3.out Z4.out Z5.out).1, (top_n Z3.out Z4.out Z5.out).2] at HT
  have X6 := Lib.hid (heap_setCell_same W5 sb 13 _ _ (.int .u64 n) X5.out)
  have U6 := Lib.hid (but_box15 U5.out 13 (.int .u64 n))
  go_upto_region 4 with (go_at_call 117; (with_reducible refine HT.out.mono ?_); rintro e w6 ⟨rfl, rfl⟩)
  have F6 := Lib.hid (ownF_box15 HF.out U6.out HBX.out)
  have M6 := Lib.hid (M5.out.but (one_but15 W5 sb 13 (.int .u64 n)) (fun e => by have h : mb = sb := e; have := L1.out.1; have := HSB.out; omega) (fun e => by have h : bb = sb := e; have := L1.out.2; have := HSB.out; omega))
  have T6 := Lib.hid (T5.out.but' (one_but15 W5 sb 13 (.int .u64 n)) (fun e => by have h : tb = sb := e; have := L4.out; have := S3.out; have := HSB.out; omega) (fun g hg e => by have h : g = sb := e; have := TX5.out g hg; have := HSB.out; omega) (fun g hg e => by have h : g = sb := e; have := TV5.out g hg; have := HSB.out; omega))
  obtain ⟨W6, hW6⟩ : ∃ W6, W6 = W5.setCell ⟨sb, 13, none⟩ (.int .u64 n) := ⟨_, rfl⟩
  rw [← hW6] at X6 U6 F6 M6 T6 ⊢
  clear hW6 g13 d0 d1 d2 d3 d4 d5 d6 d7 d8 d9 d10 d11 d12 d13 d14 d15 d16 d17
  have HFS := Lib.hid (F6.out.funs (by have := ZF.out.2.2.1; omega))
  have hflo := flo_bd ZM.out
  have HE := Lib.hid (show Calls Tryz.prog 106 #[.pointer (some ⟨sb, 0, none⟩), .int .i64 0] W6 _ from enter15 (f := 0) X6.out HFS.out (by have := ZF.out.2.1; omega) ⟨by omega, by have := Z4.out; omega⟩ ⟨by omega, by omega⟩)
  clear hflo
  have FIN : Hid (∀ W, But (OneBlock sb) W6 W → (∀ arr, W.heap[sb]? = some (.cells arr 80 (0, 0)) → arr = #[.pointer (some ⟨sb, 0, none⟩), .int .u32 0, .int .i32 1, .int .u32 0, D, FV, .int .i64 (newS m n inp fuel).size, IN, .int .u64 (floV (newS m n inp fuel).m), .pointer (some ⟨mb, 0, none⟩), .pointer (some ⟨tb, 0, none⟩), .int .i64 (newS m n inp fuel).fuel, .int .i64 (newS m n inp fuel).f, .int .u64 (newS m n inp fuel).at_, .int .i64 (newS m n inp fuel).pc, .slice none 0 0, .int .i64 (newS m n inp fuel).ek, .int .i64 (newS m n inp fuel).ec] → ∃ p, LayDone w W sb D FV IN Cs (newS m n inp fuel) p)) := Lib.hid (fun W hb arr ha he => by
    subst he
    have e1 : (newS m n inp fuel).left = inp ∧ (newS m n inp fuel).done = [] := by unfold newS new0; split <;> exact ⟨rfl, rfl⟩
    refine ⟨⟨mb, bb, c, tb, 0, 0, TX, TV, .slice none 0 0, D, FV, IN, Cs⟩, ha, ?_, ?_, ⟨rfl, rfl, rfl, rfl, rfl⟩, ⟨L1.out.1, L1.out.2, Nat.le_trans S3.out L4.out, TX5.out, TV5.out⟩, TB5.out, U6.out.trans hb⟩
    · exact M6.out.but hb (fun e => by have h : mb = sb := e; have := L1.out.1; have := HSB.out; omega) (fun e => by have h : bb = sb := e; have := L1.out.2; have := HSB.out; omega)
    · rw [e1.1, e1.2]
      exact T6.out.but' hb (fun e => by have h : tb = sb := e; have := L4.out; have := S3.out; have := HSB.out; omega) (fun g hg e => by have h : g = sb := e; have := TX5.out g hg; have := HSB.out; omega) (fun g hg e => by have h : g = sb := e; have := TV5.out g hg; have := HSB.out; omega))
  clear M6 T6 M5 T5 X5 U5 B4 T4 X4 TX5 TV5
  have hnot := not15
  by_cases hE : pushE (n : Int) (m.funcs.getD 0 .zero).regs (m.funcs.getD 0 .zero).area (floV m) = 0
  · have HEQ := Lib.hid hE
    clear hE
    go_wp2_with (go_at_call 106; (with_reducible refine HE.out.mono ?_); rintro e w7 ⟨he, hb, hx⟩; rw [if_pos HEQ.out] at hx; rw [decide_eq_true HEQ.out] at he; subst he; have X7 := Lib.hid hx; have B7 := Lib.hid hb; clear hb hx)
    go_end0
    refine ⟨rfl, FIN.out _ B7.out _ X7.out ?_⟩
    unfold newS
    rw [if_pos (show (new0 m n inp fuel).newE 0 = 0 from HEQ.out)]
    rfl
  · have HEQ := Lib.hid hE
    clear hE
    go_wp2_with (go_at_call 106; (with_reducible refine HE.out.mono ?_); rintro e w7 ⟨he, hb, hx⟩; rw [if_neg HEQ.out] at hx; rw [decide_eq_false HEQ.out] at he; subst he; have X7 := Lib.hid hx; have B7 := Lib.hid hb; clear hb hx; obtain ⟨⟨d0, d1, d2, d3, d4, d5⟩, ⟨d6, d7, d8, d9, d10, d11⟩, d12, d13, d14, d15, d16, d17⟩ := cells18 X7.out; have g16 := frozen_of_row w7 sb 16 _ _ X7.out)
    go_end0
    refine ⟨rfl, FIN.out _ (but_box15 B7.out 16 _) _ (heap_setCell_same w7 sb 16 _ _ _ X7.out) ?_⟩
    unfold newS
    rw [if_neg (show ¬ (new0 m n inp fuel).newE 0 = 0 from HEQ.out)]
    rfl
theorem space_info : ∃ j, Tryz.prog.info? 80 = some j := Option.isSome_iff_exists.1 (by kernel_rfl)
theorem neq_self15 (a : Addr) (w : World) : (binOp .neq 32 (.pointer (some a)) (.pointer (some a))).run Tryz.prog w = .ok (.bool false) w := by
  obtain ⟨j, hj⟩ := space_info
  have h : ∀ d : Nat, (Op.equalIn (d + 1) 32 (.pointer (some a)) (.pointer (some a))).run Tryz.prog w = .ok true w := fun d => by
    simp [Op.equalIn, run_underlying Tryz.underlying32, sizeOf, typeInfo, hj, run_sameAddr_same]
  simp only [binOp]
  simp [Op.equal, Op.maxDepth, h 9999]
theorem eql_nil15 (a : Addr) (w : World) : (binOp .eql 32 (.pointer (some a)) (.pointer none)).run Tryz.prog w = .ok (.bool false) w := by
  have h : ∀ d : Nat, (Op.equalIn (d + 1) 32 (.pointer (some a)) (.pointer none)).run Tryz.prog w = .ok false w := fun d => by
    simp [Op.equalIn, run_underlying Tryz.underlying32]
  simp only [binOp]
  simp [Op.equal, Op.maxDepth, h 9999]
structure Vd15 (W W' : World) (sb : Nat) (p p' : Loc) (S S' : SpV) : Prop where
  laid : LaidAt W' sb p' S'
  but : But (foot15 sb p) W W'
  foot : ∀ k, foot15 sb p' k → foot15 sb p k ∨ W.heap.size ≤ k
  ro : ∀ k, ro15 p' k → ro15 p k ∨ W.heap.size ≤ k
theorem Vd15.mv {B : Nat} {W W' : World} {sb : Nat} {p p' : Loc} {S S' : SpV} (h : Vd15 W W' sb p p' S S') : Mv B (.sp sb S) (.sp sb S') p p' W W' := ⟨.inl h.laid, h.but, h.foot, h.ro⟩
theorem Vd15.refl {W : World} {sb : Nat} {p : Loc} {S : SpV} (h : LaidAt W sb p S) : Vd15 W W sb p p S S := ⟨h, But.refl _ _, fun _ h => .inl h, fun _ h => .inl h⟩
theorem Vd15.trans {W W1 W2 : World} {sb : Nat} {p p1 p2 : Loc} {S S1 S2 : SpV} (h : Vd15 W W1 sb p p1 S S1) (h2 : Vd15 W1 W2 sb p1 p2 S1 S2) : Vd15 W W2 sb p p2 S S2 :=
  ⟨h2.laid, h.but.more15 h2.but h.foot, fun k hk => (h2.foot k hk).elim (h.foot k) (fun e => .inr (Nat.le_trans h.but.size e)), fun k hk => (h2.ro k hk).elim (h.ro k) (fun e => .inr (Nat.le_trans h.but.size e))⟩
theorem Vd15.read {W W1 W2 : World} {sb : Nat} {p p1 : Loc} {S S1 : SpV} (h : Vd15 W W1 sb p p1 S S1) (hb : Below W1.heap.size W1 W2) : Vd15 W W2 sb p p1 S S1 :=
  h.trans ⟨h.laid.but (But.of_below (R := NoBlock) hb) (fun _ _ h => h) (fun _ h => h.elim), But.of_below hb, fun _ h => .inl h, fun _ h => .inl h⟩
theorem FreshAt.laid {w W1 : World} {sb : Nat} {p p' : Loc} {S : SpV} (h : FreshAt w sb p S) (hl : LayDone (w.setCell ⟨sb, 2, none⟩ (.int .i32 1)) W1 sb p.D p.FV p.IN p.Cs S p') : Vd15 w (After15 sb W1) sb p p' S S := by
  have hsz : (w.setCell ⟨sb, 2, none⟩ (.int .i32 1)).heap.size = w.heap.size := by simp [World.setCell]
  have hsb := heap_lt h.box
  obtain ⟨f1, f2, f3, f4, f5⟩ := hl.far
  rw [hsz] at f1 f2 f3 f4 f5
  obtain ⟨l1, l2, l3, l4, l5⟩ := hl.lv
  have b1 : But (OneBlock sb) w W1 := (one_but15 w sb 2 (.int .i32 1)).trans hl.but
  have b2 : But (OneBlock sb) W1 (After15 sb W1) := but_box15 (but_box15 (But.refl (OneBlock sb) W1).drew 1 _) 2 _
  have b3 := b1.trans b2
  have nD : ∀ g, p.D.ownBlock = some g → g ≠ sb ∧ g < w.heap.size := fun g hg => ⟨fun e => h.sep sb (.inl rfl) (.inr (.inl (e ▸ hg))), ownB_lt h.dat hg⟩
  have nI : ∀ g, p.IN.ownBlock = some g → g ≠ sb ∧ g < w.heap.size := fun g hg => ⟨fun e => h.sep sb (.inl rfl) (.inr (.inr (.inr (e ▸ hg)))), ownB_lt h.inp hg⟩
  have nF : ∀ g, p.FV.ownBlock = some g → g ≠ sb ∧ g < w.heap.size := fun g hg => ⟨fun e => h.sep sb (.inl rfl) (.inr (.inr (.inl (e ▸ hg)))), (h.funs.own.lt hg).2⟩
  have hm : MemAt (After15 sb W1) p'.mb p'.bb p'.c S.mem := hl.mem.but b2 (fun e => by have e' : p'.mb = sb := e; omega) (fun e => by have e' : p'.bb = sb := e; omega)
  have ht : Tape14 0 (After15 sb W1) p'.tb p'.X p'.V S.left S.done := hl.tape.but' b2 (fun e => by have e' : p'.tb = sb := e; omega) (fun g hg e => by have e' : g = sb := e; have := f4 g hg; omega) (fun g hg e => by have e' : g = sb := e; have := f5 g hg; omega)
  have hlinks : S.links = [] ∧ S.left = S.inp := by
    rw [h.new]; unfold newS new0; split <;> exact ⟨rfl, rfl⟩
  have hbx : (After15 sb W1).heap[sb]? = some (.cells (box15 sb p' S) 80 (0, 0)) := by
    have h1 := heap_setCell_same W1.drew sb 1 _ _ (.int .u32 1) hl.box
    have h2 := heap_setCell_same _ sb 2 _ _ (.int .i32 0) h1
    unfold box15
    rw [l1, l2, l3, l4]
    exact h2
  have hfoot : ∀ k, foot15 sb p' k → k = sb ∨ (w.heap.size ≤ k ∧ ∀ c, (After15 sb W1).heap[k]? ≠ some (.cells c 5 (0, 0)) ∨ k = p'.bb) := by
    rintro k (rfl | rfl | rfl | rfl | e | e)
    · exact .inl rfl
    · exact .inr ⟨f1, fun c => .inl (fun hc => types14 hc hm.head (by decide))⟩
    · exact .inr ⟨f2, fun c => .inr rfl⟩
    · exact .inr ⟨f3, fun c => .inl (fun hc => types14 hc ht.box (by decide))⟩
    · obtain ⟨_, c', hc'⟩ := typed14 ht.done e
      exact .inr ⟨f5 k e, fun c => .inl (fun hc => types14 hc hc' (by decide))⟩
    · rw [l1] at e; simp [Value.ownBlock] at e
  refine ⟨⟨hbx, hm, ht, ?_, ?_, ?_, ?_, ⟨[], hlinks.2.symm⟩, h.ok, ?_⟩, b3.mono (fun k e => .inl e), fun k hk => (hfoot k hk).elim (fun e => .inl (.inl e)) (fun e => .inr e.1), ?_⟩
  · rw [l1, hlinks.1]; exact Owns.nil _ _ _ _ _
  · rw [l2]; exact h.dat.but' b3 (fun g hg e => (nD g hg).1 e)
  · rw [l4]; exact h.inp.but' b3 (fun g hg e => (nI g hg).1 e)
  · rw [l3, l5]; exact ownF_box15 h.funs b3 h.box
  · intro k hk hr
    rcases hfoot k hk with rfl | ⟨e1, e2⟩
    · rcases hr with e | e | e | e
      · have := f4 _ e; omega
      · rw [l2] at e; exact (nD _ e).1 rfl
      · rw [l3] at e; exact (nF _ e).1 rfl
      · rw [l4] at e; exact (nI _ e).1 rfl
    · rcases hr with e | e | e | e
      · obtain ⟨c, hc⟩ := ht.left.blk e
        rcases e2 c with h2 | h2
        · exact h2 hc
        · exact hl.apart _ e h2
      · rw [l2] at e; have := (nD _ e).2; omega
      · rw [l3] at e; have := (nF _ e).2; omega
      · rw [l4] at e; have := (nI _ e).2; omega
  · rintro k (e | e | e | e)
    · exact .inr (f4 k e)
    · rw [l2] at e; exact .inl (.inr (.inl e))
    · rw [l3] at e; exact .inl (.inr (.inr (.inl e)))
    · rw [l4] at e; exact .inl (.inr (.inr (.inr e)))
theorem newS_same {m : ModV} {n : Nat} {inp : List Int} {fuel : Int} : (newS m n inp fuel).m = m ∧ (newS m n inp fuel).size = n ∧ (newS m n inp fuel).inp = inp ∧ (newS m n inp fuel).fuel = fuel := by
  unfold newS new0; split <;> exact ⟨rfl, rfl, rfl, rfl⟩
set_option maxRecDepth 100000 in
set_option maxHeartbeats 4000000 in
theorem valid15 {W : World} {sb : Nat} {p : Loc} {S : SpV} (h : SpAt W sb p S) :
    Calls Tryz.prog 68 #[.pointer (some ⟨sb, 0, none⟩)] W fun e W' => e = .returned (.bool true) ∧ ∃ p', Vd15 W W' sb p p' S S := by
  have hmf : ∀ (fn : Fn) (first cap : Array Value) (w : World), (Instr.makeFunc fn first cap).run Tryz.prog w = .ok (.func fn first cap) w := fun _ _ _ _ => rfl
  have h1 := eql_nil15
  have h2 := neq_self15
  rcases h with h | h
  · obtain ⟨⟨c0, c1, c2, c3, c4, c5⟩, _⟩ := cells18 (show W.heap[sb]? = some (.cells #[_, _, _, _, _, _, _, _, _, _, _, _, _, _, _, _, _, _] 80 (0, 0)) from h.box)
    have HO := Lib.hid (fun fv => onceNo15 sb fv W c1)
    have HV := Lib.hid (Vd15.refl h)
    clear h
    go_enter Tryz.func68, Tryz.ntmps68
    go_wp2_with (go_at_call 73; (with_reducible refine (HO.out _).mono ?_); rintro e w' ⟨rfl, rfl⟩)
    go_ret
    exact ⟨rfl, p, HV.out⟩
  · obtain ⟨⟨c0, c1, c2, c3, c4, c5⟩, _⟩ := cells18 (show W.heap[sb]? = some (.cells #[_, _, _, _, _, _, _, _, _, _, _, _, _, _, _, _, _, _] 80 (0, 0)) from h.box)
    have hb1 := one_but15 W sb 2 (.int .i32 1)
    have hx1 := heap_setCell_same W sb 2 _ _ (.int .i32 1) h.box
    have hne : ∀ g, p.D.ownBlock = some g ∨ p.IN.ownBlock = some g → ¬ OneBlock sb g := fun g hg e => by
      have e' : g = sb := e
      subst e'
      exact h.sep _ (.inl rfl) (hg.elim (fun h => .inr (.inl h)) (fun h => .inr (.inr (.inr h))))
    have hl := lay15 (m := S.m) (n := S.size) (inp := S.inp) (fuel := S.fuel) hx1 (h.dat.but' hb1 (fun g hg => hne g (.inl hg))) (h.inp.but' hb1 (fun g hg => hne g (.inr hg))) (ownF_box15 h.funs hb1 h.box) h.e0
    rw [← h.new] at hl
    have HO := Lib.hid (onceLay15 sb W _ c1 c2 (frozen_of_row W sb 1 _ _ h.box) (frozen_of_row W sb 2 _ _ h.box) hl (fun W1 ⟨p', hd⟩ => by
      obtain ⟨⟨d0, d1, d2, d3, d4, d5⟩, _⟩ := cells18 hd.box
      exact ⟨d1, d2, frozen_of_row W1 sb 1 _ _ hd.box, frozen_of_row W1 sb 2 _ _ hd.box⟩))
    have HV := Lib.hid (fun (W1 : World) (p' : Loc) hd => h.laid (W1 := W1) (p' := p') hd)
    clear h hl hx1 hb1 hne
    go_enter Tryz.func68, Tryz.ntmps68
    go_wp2_with (go_at_call 73; (with_reducible refine HO.out.mono ?_); rintro e w' ⟨rfl, W1, ⟨p', hd⟩, rfl⟩; have HD := Lib.hid hd; clear hd)
    go_ret
    exact ⟨rfl, _, HV.out _ _ HD.out⟩
end Go.Proofs.YtkfdgpgildanbaaGreat
namespace Go.Proofs.YtkfdgpgildanbaaGreat
open Go.RowKit Go.Shelf
set_option linter.unusedVariables false
set_option linter.unusedSimpArgs false
theorem LaidAt.cells {W : World} {sb : Nat} {p : Loc} {S : SpV} (h : LaidAt W sb p S) :
    (W.cell? ⟨sb, 5, none⟩ = some p.FV ∧ W.cell? ⟨sb, 9, none⟩ = some (.pointer (some ⟨p.mb, 0, none⟩)) ∧ W.cell? ⟨sb, 10, none⟩ = some (.pointer (some ⟨p.tb, 0, none⟩)) ∧ W.cell? ⟨sb, 11, none⟩ = some (.int .i64 S.fuel)) ∧
    (W.cell? ⟨sb, 12, none⟩ = some (.int .i64 S.f) ∧ W.cell? ⟨sb, 13, none⟩ = some (.int .u64 S.at_) ∧ W.cell? ⟨sb, 14, none⟩ = some (.int .i64 S.pc) ∧ W.cell? ⟨sb, 15, none⟩ = some p.LV) ∧
    W.cell? ⟨sb, 16, none⟩ = some (.int .i64 S.ek) ∧ W.cell? ⟨sb, 17, none⟩ = some (.int .i64 S.ec) := by
  obtain ⟨⟨d0, d1, d2, d3, d4, d5⟩, ⟨d6, d7, d8, d9, d10, d11⟩, d12, d13, d14, d15, d16, d17⟩ := cells18 (show W.heap[sb]? = some (.cells #[_, _, _, _, _, _, _, _, _, _, _, _, _, _, _, _, _, _] 80 (0, 0)) from h.box)
  exact ⟨⟨d5, d9, d10, d11⟩, ⟨d12, d13, d14, d15⟩, d16, d17⟩
theorem LaidAt.free {W : World} {sb : Nat} {p : Loc} {S : SpV} (h : LaidAt W sb p S) (o : Nat) : W.frozen? ⟨sb, o, none⟩ = false := frozen_of_row W sb o _ _ h.box
def SpDone (W : World) (sb : Nat) (p : Loc) (S S' : SpV) (v : Value) (e : Ending) (W' : World) : Prop := e = .returned v ∧ ∃ p', Vd15 W W' sb p p' S S'
theorem place15 (n : Int) (w : World) (hn : InI n) : Calls Tryz.prog 103 #[.int .i64 n] w fun e w' => e = .returned (.bool (placeB n)) ∧ w = w' := by
  have h1 := hn.1
  have h2 := hn.2
  clear hn
  unfold placeB
  by_cases h3 : 0 ≤ n
  · by_cases h4 : n < 4096
    · rw [decide_eq_true h3, decide_eq_true h4]
      go_enter Tryz.func103, Tryz.ntmps103
      go_wp2
      go_ret
      exact ⟨rfl, rfl⟩
    · rw [decide_eq_true h3, decide_eq_false h4]
      go_enter Tryz.func103, Tryz.ntmps103
      go_wp2
      go_ret
      exact ⟨rfl, rfl⟩
  · rw [decide_eq_false h3]
    have h5 : (decide (0 ≤ n)) = false := decide_eq_false h3
    go_enter Tryz.func103, Tryz.ntmps103
    go_wp2
    go_ret
    exact ⟨rfl, rfl⟩
set_option maxRecDepth 100000 in
set_option maxHeartbeats 4000000 in
theorem isReg15 {W : World} {sb : Nat} {p : Loc} {S : SpV} (h : LaidAt W sb p S) (r : Int) (hr : InI r) :
    Calls Tryz.prog 100 #[.pointer (some ⟨sb, 0, none⟩), .int .i64 r] W (Drew W (.bool (S.regB r))) := by
  obtain ⟨⟨c5, c9, c10, c11⟩, ⟨c12, c13, c14, c15⟩, c16, c17⟩ := h.cells
  obtain ⟨b, off, cap, CA, cl, cc, hV, hcp, hbb, k0, k1, k2, k3⟩ := funs_at15 (h.funs.funs (by have := (err_funs h.ok.mod).2.2.1; omega)) h.ok.fn
  have r1 := hr.1
  have r2 := hr.2
  have f0 : (0 : Int) ≤ (S.f : Int) := by omega
  have f1 : (S.f : Int) < (S.m.funcs.length : Int) := by have := h.ok.fn; omega
  rw [hV] at c5
  unfold SpV.regB fnV
  clear h hr hV
  generalize (S.m.funcs.getD S.f .zero).regs = q at *
  by_cases h3 : 0 ≤ r
  · have h5 : decide (0 ≤ r) = true := decide_eq_true h3
    by_cases h4 : r < q
    · have h6 : decide (r < q) = true := decide_eq_true h4
      rw [h5, h6]
      go_enter Tryz.func100, Tryz.ntmps100
      go_wp2
      go_quiet (fail)
      go_wp2
      go_ret
      exact ⟨rfl, _, rfl⟩
    · have h6 : decide (r < q) = false := decide_eq_false h4
      rw [h5, h6]
      go_enter Tryz.func100, Tryz.ntmps100
      go_wp2
      go_quiet (fail)
      go_wp2
      go_ret
      exact ⟨rfl, _, rfl⟩
  · have h5 : decide (0 ≤ r) = false := decide_eq_false h3
    rw [h5]
    go_enter Tryz.func100, Tryz.ntmps100
    go_wp2
    go_quiet (fail)
    go_wp2
    go_ret
    exact ⟨rfl, _, rfl⟩
set_option maxRecDepth 100000 in
set_option maxHeartbeats 4000000 in
theorem refuse15 {W : World} {sb : Nat} {p : Loc} {S : SpV} (h : SpAt W sb p S) :
    Calls Tryz.prog 82 #[.pointer (some ⟨sb, 0, none⟩)] W (SpDone W sb p S S (.int .i64 S.refE)) := by
  have HV := Lib.hid (valid15 h)
  have hnot := not15
  unfold SpV.refE
  clear h
  by_cases he : S.ek = 0
  · have h0 : (S.ek != 0) = false := by simpa using he
    rw [if_pos he]
    clear he
    go_enter Tryz.func82, Tryz.ntmps82
    go_wp2_with (go_at_call 68; (with_reducible refine HV.out.mono ?_); rintro e w' ⟨rfl, p', hv⟩; have HD := Lib.hid hv; obtain ⟨⟨c5, c9, c10, c11⟩, ⟨c12, c13, c14, c15⟩, c16, c17⟩ := hv.laid.cells; clear hv)
    go_ret
    exact ⟨rfl, _, HD.out⟩
  · have h0 : (S.ek != 0) = true := by simpa using he
    rw [if_neg he]
    clear he
    go_enter Tryz.func82, Tryz.ntmps82
    go_wp2_with (go_at_call 68; (with_reducible refine HV.out.mono ?_); rintro e w' ⟨rfl, p', hv⟩; have HD := Lib.hid hv; obtain ⟨⟨c5, c9, c10, c11⟩, ⟨c12, c13, c14, c15⟩, c16, c17⟩ := hv.laid.cells; clear hv)
    go_ret
    exact ⟨rfl, _, HD.out⟩
set_option maxRecDepth 100000 in
set_option maxHeartbeats 4000000 in
theorem tellF15 {W : World} {sb : Nat} {p : Loc} {S : SpV} (h : SpAt W sb p S) :
    Calls Tryz.prog 31 #[.pointer (some ⟨sb, 0, none⟩)] W (SpDone W sb p S S (.int .i64 S.f)) := by
  have HV := Lib.hid (valid15 h)
  have hnot := not15
  clear h
  go_enter Tryz.func31, Tryz.ntmps31
  go_wp2_with (first
    | (go_at_call 68; (with_reducible refine HV.out.mono ?_); rintro e w' ⟨rfl, p', hv⟩; have HD := Lib.hid hv; obtain ⟨⟨c5, c9, c10, c11⟩, ⟨c12, c13, c14, c15⟩, c16, c17⟩ := hv.laid.cells; obtain ⟨LA, lc, hle⟩ := owns_len14 hv.laid.links; rw [hle] at c15; clear hv hle)
    | (go_at_call 72; (with_reducible refine (fuel15 ⟨sb, 11, none⟩ S.fuel _ c11).mono ?_); rintro e w' ⟨rfl, rfl⟩))
  go_ret
  exact ⟨rfl, _, HD.out⟩
set_option maxRecDepth 100000 in
set_option maxHeartbeats 4000000 in
theorem tellP15 {W : World} {sb : Nat} {p : Loc} {S : SpV} (h : SpAt W sb p S) :
    Calls Tryz.prog 32 #[.pointer (some ⟨sb, 0, none⟩)] W (SpDone W sb p S S (.int .i64 S.pc)) := by
  have HV := Lib.hid (valid15 h)
  have hnot := not15
  clear h
  go_enter Tryz.func32, Tryz.ntmps32
  go_wp2_with (first
    | (go_at_call 68; (with_reducible refine HV.out.mono ?_); rintro e w' ⟨rfl, p', hv⟩; have HD := Lib.hid hv; obtain ⟨⟨c5, c9, c10, c11⟩, ⟨c12, c13, c14, c15⟩, c16, c17⟩ := hv.laid.cells; obtain ⟨LA, lc, hle⟩ := owns_len14 hv.laid.links; rw [hle] at c15; clear hv hle)
    | (go_at_call 72; (with_reducible refine (fuel15 ⟨sb, 11, none⟩ S.fuel _ c11).mono ?_); rintro e w' ⟨rfl, rfl⟩))
  go_ret
  exact ⟨rfl, _, HD.out⟩
set_option maxRecDepth 100000 in
set_option maxHeartbeats 4000000 in
theorem tellA15 {W : World} {sb : Nat} {p : Loc} {S : SpV} (h : SpAt W sb p S) :
    Calls Tryz.prog 35 #[.pointer (some ⟨sb, 0, none⟩)] W (SpDone W sb p S S (.int .u64 S.at_)) := by
  have HV := Lib.hid (valid15 h)
  have hnot := not15
  clear h
  go_enter Tryz.func35, Tryz.ntmps35
  go_wp2_with (first
    | (go_at_call 68; (with_reducible refine HV.out.mono ?_); rintro e w' ⟨rfl, p', hv⟩; have HD := Lib.hid hv; obtain ⟨⟨c5, c9, c10, c11⟩, ⟨c12, c13, c14, c15⟩, c16, c17⟩ := hv.laid.cells; obtain ⟨LA, lc, hle⟩ := owns_len14 hv.laid.links; rw [hle] at c15; clear hv hle)
    | (go_at_call 72; (with_reducible refine (fuel15 ⟨sb, 11, none⟩ S.fuel _ c11).mono ?_); rintro e w' ⟨rfl, rfl⟩))
  go_ret
  exact ⟨rfl, _, HD.out⟩
set_option maxRecDepth 100000 in
set_option maxHeartbeats 4000000 in
theorem tellD15 {W : World} {sb : Nat} {p : Loc} {S : SpV} (h : SpAt W sb p S) :
    Calls Tryz.prog 34 #[.pointer (some ⟨sb, 0, none⟩)] W (SpDone W sb p S S (.int .i64 S.links.length)) := by
  have HV := Lib.hid (valid15 h)
  have hnot := not15
  clear h
  go_enter Tryz.func34, Tryz.ntmps34
  go_wp2_with (first
    | (go_at_call 68; (with_reducible refine HV.out.mono ?_); rintro e w' ⟨rfl, p', hv⟩; have HD := Lib.hid hv; obtain ⟨⟨c5, c9, c10, c11⟩, ⟨c12, c13, c14, c15⟩, c16, c17⟩ := hv.laid.cells; obtain ⟨LA, lc, hle⟩ := owns_len14 hv.laid.links; rw [hle] at c15; clear hv hle)
    | (go_at_call 72; (with_reducible refine (fuel15 ⟨sb, 11, none⟩ S.fuel _ c11).mono ?_); rintro e w' ⟨rfl, rfl⟩))
  go_ret
  exact ⟨rfl, _, HD.out⟩
set_option maxRecDepth 100000 in
set_option maxHeartbeats 4000000 in
theorem tellM15 {W : World} {sb : Nat} {p : Loc} {S : SpV} (h : SpAt W sb p S) :
    Calls Tryz.prog 30 #[.pointer (some ⟨sb, 0, none⟩)] W fun e W' => ∃ p', e = .returned (.pointer (some ⟨p'.mb, 0, none⟩)) ∧ Vd15 W W' sb p p' S S := by
  have HV := Lib.hid (valid15 h)
  have hnot := not15
  clear h
  go_enter Tryz.func30, Tryz.ntmps30
  go_wp2_with (go_at_call 68; (with_reducible refine HV.out.mono ?_); rintro e w' ⟨rfl, p', hv⟩; have HD := Lib.hid hv; obtain ⟨⟨c5, c9, c10, c11⟩, ⟨c12, c13, c14, c15⟩, c16, c17⟩ := hv.laid.cells; clear hv)
  go_ret
  exact ⟨_, rfl, HD.out⟩
theorem LaidAt.put {W : World} {sb : Nat} {p p' : Loc} {S S' : SpV} (h : LaidAt W sb p S) (o : Nat) (v : Value) (hb : (box15 sb p S).setIfInBounds o v = box15 sb p S') (hS : S' = { S with fuel := S'.fuel, f := S'.f, at_ := S'.at_, pc := S'.pc, ek := S'.ek, ec := S'.ec }) (ho : S'.ok) : Vd15 W (W.setCell ⟨sb, o, none⟩ v) sb p p S S' := by
  have hb1 := one_but15 W sb o v
  have hx := heap_setCell_same W sb o _ _ v h.box
  rw [hb] at hx
  have hn : ∀ k, foot15 sb p k → k ≠ sb → ¬ OneBlock sb k := fun k _ hk e => hk e
  have ht : ∀ (k : Nat) (c : Array Value) (t : TypeId), W.heap[k]? = some (.cells c t (0, 0)) → t ≠ 80 → ¬ OneBlock sb k := fun k c t hc hk e => by
    have e' : k = sb := e
    subst e'
    exact types14 hc h.box hk
  refine ⟨⟨hx, ?_, ?_, ?_, ?_, ?_, ?_, ?_, ho, h.sep⟩, hb1.mono (fun k e => .inl e), fun _ h => .inl h, fun _ h => .inl h⟩
  · rw [hS]
    refine h.mem.but hb1 (ht _ _ _ h.mem.head (by decide)) ?_
    obtain ⟨cur, hc, _⟩ := h.mem.row
    exact ht _ _ _ hc (by decide)
  · rw [hS]
    exact h.tape.but' hb1 (ht _ _ _ h.tape.box (by decide)) (fun g hg => by obtain ⟨c, hc⟩ := h.tape.left.blk hg; exact ht _ _ _ hc (by decide)) (fun g hg => by obtain ⟨_, c, hc⟩ := typed14 h.tape.done hg; exact ht _ _ _ hc (by decide))
  · rw [hS]
    exact h.links.but hb1 (fun g hg => by obtain ⟨_, c, hc⟩ := typed14 h.links hg; exact ht _ _ _ hc (by decide))
  · rw [hS]
    exact h.dat.but' hb1 (fun g hg => by obtain ⟨c, hc⟩ := h.dat.blk hg; exact ht _ _ _ hc (by decide))
  · rw [hS]
    exact h.inp.but' hb1 (fun g hg => by obtain ⟨c, hc⟩ := h.inp.blk hg; exact ht _ _ _ hc (by decide))
  · rw [hS]
    exact ownF_box15 h.funs hb1 h.box
  · rw [hS]
    exact h.pre
set_option maxRecDepth 100000 in
set_option maxHeartbeats 4000000 in
theorem go15 {W : World} {sb : Nat} {p : Loc} {S : SpV} (h : SpAt W sb p S) (n : Int) (hn : InI n) :
    Calls Tryz.prog 38 #[.pointer (some ⟨sb, 0, none⟩), .int .i64 n] W (SpDone W sb p S (S.goS n) (.int .i64 (S.goE n))) := by
  have HR := Lib.hid (refuse15 h)
  have HP := Lib.hid (fun w => place15 n w hn)
  have hnot := not15
  obtain ⟨ok, hok⟩ : ∃ T, T = S.goS n := ⟨_, rfl⟩
  have hoo : (S.goS n).ok := (h.elim (fun h => h.ok) (fun h => h.ok)).goS n
  unfold SpV.goS SpV.goE at *
  unfold SpV.refE at HR
  clear h
  by_cases he : S.ek = 0
  · simp only [if_pos he] at HR hoo hok ⊢
    by_cases hp : placeB n = true
    · simp only [if_pos hp, if_true] at hoo hok ⊢
      rw [hp] at HP
      have HO := Lib.hid hoo
      clear he hp hoo hok
      go_enter Tryz.func38, Tryz.ntmps38
      go_wp2_with (first
        | (go_at_call 82; (with_reducible refine HR.out.mono ?_); rintro e w' ⟨rfl, p', hv⟩; have HD := Lib.hid hv; obtain ⟨⟨c5, c9, c10, c11⟩, ⟨c12, c13, c14, c15⟩, c16, c17⟩ := hv.laid.cells; have g14 := hv.laid.free 14; clear hv)
        | (go_at_call 103; (with_reducible refine (HP.out _).mono ?_); rintro e w' ⟨rfl, rfl⟩))
      go_ret
      exact ⟨rfl, _, HD.out.trans (HD.out.laid.put (p' := p') 14 _ rfl rfl HO.out)⟩
    · simp only [if_neg hp] at hoo hok ⊢
      rw [Bool.not_eq_true] at hp
      rw [hp] at HP
      simp only [show ¬ ((5 : Int) = 0) by decide, if_false]
      clear he hp hoo hok
      go_enter Tryz.func38, Tryz.ntmps38
      go_wp2_with (first
        | (go_at_call 82; (with_reducible refine HR.out.mono ?_); rintro e w' ⟨rfl, p', hv⟩; have HD := Lib.hid hv; clear hv)
        | (go_at_call 103; (with_reducible refine (HP.out _).mono ?_); rintro e w' ⟨rfl, rfl⟩))
      go_ret
      exact ⟨rfl, _, HD.out⟩
  · simp only [if_neg he, show ¬ ((9 : Int) = 0) by decide, if_false] at HR hoo hok ⊢
    clear he hoo hok
    go_enter Tryz.func38, Tryz.ntmps38
    go_wp2_with (go_at_call 82; (with_reducible refine HR.out.mono ?_); rintro e w' ⟨rfl, p', hv⟩; have HD := Lib.hid hv; clear hv)
    go_ret
    exact ⟨rfl, _, HD.out⟩
end Go.Proofs.YtkfdgpgildanbaaGreat
