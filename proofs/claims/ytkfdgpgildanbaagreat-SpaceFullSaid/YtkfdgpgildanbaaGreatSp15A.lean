/- Where a space lies in memory, the landed one and the document's own; what changes it, and what does not; several ones beside each other. -/
import Derived.Test.YtkfdgpgildanbaaGreatMath15
import Derived.Test.YtkfdgpgildanbaaGreatDeed15
import Derived.Test.YtkfdgpgildanbaaGreatS42
import Derived.Test.YtkfdgpgildanbaaGreatS10
namespace Go.Proofs.YtkfdgpgildanbaaGreat
open Go.RowKit Go.Shelf
set_option linter.unusedVariables false
set_option linter.unusedSimpArgs false

/-- Where the parts of a space lie. -/
structure Loc where
  mb : Nat
  bb : Nat
  c : Nat
  tb : Nat
  b : Nat
  k : Nat
  X : Value
  V : Value
  LV : Value
  D : Value
  FV : Value
  IN : Value
  Cs : List Value
def linkC (K : IntKind) (l : LinkV) : List Value := [.int .i64 l.f, .int K l.at_, .int .i64 l.back, .int .i64 l.res]
def cellsL (K : IntKind) (l : List LinkV) : List Value := l.flatMap (linkC K)
def box15 (sb : Nat) (p : Loc) (S : SpV) : Array Value :=
  #[.pointer (some ⟨sb, 0, none⟩), .int .u32 1, .int .i32 0, .int .u32 0, p.D, p.FV, .int .i64 S.size, p.IN, .int .u64 (floV S.m), .pointer (some ⟨p.mb, 0, none⟩), .pointer (some ⟨p.tb, 0, none⟩), .int .i64 S.fuel, .int .i64 S.f, .int .u64 S.at_, .int .i64 S.pc, p.LV, .int .i64 S.ek, .int .i64 S.ec]
def foot15 (sb : Nat) (p : Loc) (k : Nat) : Prop := k = sb ∨ k = p.mb ∨ k = p.bb ∨ k = p.tb ∨ p.V.ownBlock = some k ∨ p.LV.ownBlock = some k
def ro15 (p : Loc) (k : Nat) : Prop := p.X.ownBlock = some k ∨ p.D.ownBlock = some k ∨ p.FV.ownBlock = some k ∨ p.IN.ownBlock = some k
/-- A space that has been laid out. -/
structure LaidAt (W : World) (sb : Nat) (p : Loc) (S : SpV) : Prop where
  box : W.heap[sb]? = some (.cells (box15 sb p S) 80 (0, 0))
  mem : MemAt W p.mb p.bb p.c S.mem
  tape : Tape14 0 W p.tb p.X p.V S.left S.done
  links : Owns W 0 136 4 AnyCell p.LV S.links.length (cellsL .i64 S.links)
  dat : OwnB 0 W p.D S.m.data
  inp : OwnB 0 W p.IN S.inp
  funs : OwnF 112 0 W p.FV S.m.funcs p.Cs
  pre : ∃ q, S.inp = q ++ S.left
  ok : S.ok
  sep : ∀ k, foot15 sb p k → ¬ ro15 p k
def fresh15 (sb : Nat) (p : Loc) (S : SpV) : Array Value :=
  #[.pointer (some ⟨sb, 0, none⟩), .int .u32 0, .int .i32 0, .int .u32 0, p.D, p.FV, .int .i64 S.size, p.IN, .int .u64 (floV S.m), .pointer none, .pointer none, .int .i64 S.fuel, .int .i64 0, .int .u64 0, .int .i64 0, .slice none 0 0, .int .i64 0, .int .i64 0]
/-- A space that is planned. -/
structure FreshAt (W : World) (sb : Nat) (p : Loc) (S : SpV) : Prop where
  box : W.heap[sb]? = some (.cells (fresh15 sb p S) 80 (0, 0))
  dat : OwnB 0 W p.D S.m.data
  inp : OwnB 0 W p.IN S.inp
  funs : OwnF 112 0 W p.FV S.m.funcs p.Cs
  new : S = newS S.m S.size S.inp S.fuel
  e0 : newE15 S.m S.size S.fuel = 0
  ok : S.ok
  sep : ∀ k, foot15 sb p k → ¬ ro15 p k
  one : p.mb = sb ∧ p.bb = sb ∧ p.tb = sb ∧ p.V = .slice none 0 0 ∧ p.LV = .slice none 0 0 ∧ p.X = .slice none 0 0
def SpAt (W : World) (sb : Nat) (p : Loc) (S : SpV) : Prop := LaidAt W sb p S ∨ FreshAt W sb p S
def rbox15 (p : Loc) (S : SpV) : Array Value :=
  #[p.D, p.FV, .pointer (some ⟨p.mb, 0, none⟩), .pointer (some ⟨p.tb, 0, none⟩), .int .i64 S.fuel, .int .i64 S.f, .int .u64 S.at_, .int .i64 S.pc, p.LV, .int .i64 S.ek, .int .i64 S.ec]
/-- The document's own space. Its module lies in older memory. -/
structure RsAt (B : Nat) (W : World) (rb : Nat) (p : Loc) (S : SpV) : Prop where
  box : W.heap[rb]? = some (.cells (rbox15 p S) 130 (0, 0))
  mem : RefAt W p.mb p.bb p.c S.mem
  tape : RT15 W p.b p.tb p.X p.V S.inp p.k S.done
  left : S.inp.drop p.k = S.left
  links : Owns W 0 149 4 AnyCell p.LV S.links.length (cellsL .u64 S.links)
  dat : IsBytes W B p.D S.m.data
  funs : IsFuns W B p.FV S.m.funcs
  ok : S.ok
  sep : ∀ k, foot15 rb p k → ¬ p.X.ownBlock = some k
inductive It where
  | sp (sb : Nat) (S : SpV)
  | rs (rb : Nat) (S : SpV)
  | box (b : Nat) (c : Array Value) (t : TypeId)
  | cell (b : Nat) (c : Array Value) (t : TypeId)
def It.at' (B : Nat) (W : World) (p : Loc) : It → Prop
  | .sp sb S => SpAt W sb p S
  | .rs rb S => RsAt B W rb p S
  | .box b c t => W.heap[b]? = some (.cells c t (0, 0))
  | .cell b c t => W.heap[b]? = some (.cells c t (0, 0)) ∧ t ≠ 115 ∧ t ≠ 3
def It.foot (p : Loc) : It → Nat → Prop
  | .sp sb _ => foot15 sb p
  | .rs rb _ => foot15 rb p
  | .box _ _ _ => fun _ => False
  | .cell b _ _ => fun k => k = b
def It.ro (p : Loc) : It → Nat → Prop
  | .sp _ _ => ro15 p
  | .rs _ _ => fun k => p.X.ownBlock = some k
  | .box b _ _ => fun k => k = b
  | .cell _ _ _ => fun _ => False
/-- A block of a type that is none of instructions, none of numbers. -/
def Typ15 (W : World) (k : Nat) : Prop := ∃ c t, W.heap[k]? = some (.cells c t (0, 0)) ∧ t ≠ 115 ∧ t ≠ 3
theorem Typ15.not {W : World} {k : Nat} (h : Typ15 W k) {c : Array Value} {t : TypeId} (ht : t = 115 ∨ t = 3) : W.heap[k]? ≠ some (.cells c t (0, 0)) := fun e => by
  obtain ⟨c', t', h1, h2, h3⟩ := h
  rw [h1] at e
  injection e with e
  injection e with _ e _
  rcases ht with rfl | rfl
  · exact h2 e
  · exact h3 e
theorem Typ15.lt {W : World} {k : Nat} (h : Typ15 W k) : k < W.heap.size := by
  obtain ⟨c', t', h1, _⟩ := h
  exact heap_lt h1
theorem Row.typ {W : World} {t : TypeId} {b c : Nat} {xs : List Int} (h : Row t W b c xs) (h1 : t ≠ 115) (h2 : t ≠ 3) : Typ15 W b := by
  obtain ⟨cur, hc, _⟩ := h
  exact ⟨cur, t, hc, h1, h2⟩
theorem own_typ15 {W : World} {base : Nat} {e : TypeId} {size : Nat} {K : Value → Prop} {v : Value} {n : Nat} {xs : List Value} (h : Owns W base e size K v n xs) (h1 : e ≠ 115) (h2 : e ≠ 3) {g : Nat} (hg : v.ownBlock = some g) : Typ15 W g := by
  obtain ⟨_, c, hc⟩ := typed14 h hg
  exact ⟨c, e, hc, h1, h2⟩
section
variable {B : Nat} {W W' : World} {sb : Nat} {p : Loc} {S : SpV} {R : Nat → Prop}
theorem LaidAt.typ (h : LaidAt W sb p S) {k : Nat} (hk : foot15 sb p k) : Typ15 W k := by
  rcases hk with rfl | rfl | rfl | rfl | e | e
  · exact ⟨_, _, h.box, by decide, by decide⟩
  · exact ⟨_, _, h.mem.head, by decide, by decide⟩
  · exact h.mem.row.typ (by decide) (by decide)
  · exact ⟨_, _, h.tape.box, by decide, by decide⟩
  · exact own_typ15 h.tape.done (by decide) (by decide) e
  · exact own_typ15 h.links (by decide) (by decide) e
theorem FreshAt.isSb (h : FreshAt W sb p S) {k : Nat} (hk : foot15 sb p k) : k = sb := by
  obtain ⟨h1, h2, h3, h4, h5, h6⟩ := h.one
  rcases hk with rfl | rfl | rfl | rfl | e | e
  · rfl
  · exact h1
  · exact h2
  · exact h3
  · rw [h4] at e; simp [Value.ownBlock] at e
  · rw [h5] at e; simp [Value.ownBlock] at e
theorem FreshAt.typ (h : FreshAt W sb p S) {k : Nat} (hk : foot15 sb p k) : Typ15 W k := by
  rw [h.isSb hk]
  exact ⟨_, _, h.box, by decide, by decide⟩
theorem RsAt.typ (h : RsAt B W sb p S) {k : Nat} (hk : foot15 sb p k) : Typ15 W k := by
  rcases hk with rfl | rfl | rfl | rfl | e | e
  · exact ⟨_, _, h.box, by decide, by decide⟩
  · exact ⟨_, _, h.mem.head, by decide, by decide⟩
  · exact h.mem.row.typ (by decide) (by decide)
  · exact ⟨_, _, h.tape.box, by decide, by decide⟩
  · exact own_typ15 h.tape.done (by decide) (by decide) e
  · exact own_typ15 h.links (by decide) (by decide) e
theorem ownB_lt {base : Nat} {X : Value} {xs : List Int} (h : OwnB base W X xs) {g : Nat} (hg : X.ownBlock = some g) : g < W.heap.size := by
  obtain ⟨c, hc⟩ := h.blk hg
  exact heap_lt hc
theorem ro_lt15 {fs : List FunV} {Cs : List Value} {xs ys zs : List Int} (h1 : OwnB 0 W p.X xs) (h2 : OwnB 0 W p.D ys) (h3 : OwnF 112 0 W p.FV fs Cs) (h4 : OwnB 0 W p.IN zs) {k : Nat} (hk : ro15 p k) : k < W.heap.size := by
  rcases hk with e | e | e | e
  · exact ownB_lt h1 e
  · exact ownB_lt h2 e
  · exact (h3.own.lt e).2
  · exact ownB_lt h4 e
theorem nil_own15 : OwnB 0 W (.slice none 0 0) [] := ⟨by simp, by simp, .inl ⟨rfl, rfl⟩⟩
theorem LaidAt.ro_lt (h : LaidAt W sb p S) {k : Nat} (hk : ro15 p k) : k < W.heap.size := ro_lt15 h.tape.left h.dat h.funs h.inp hk
theorem FreshAt.ro_lt (h : FreshAt W sb p S) {k : Nat} (hk : ro15 p k) : k < W.heap.size := ro_lt15 (xs := []) (by rw [h.one.2.2.2.2.2]; exact nil_own15) h.dat h.funs h.inp hk
theorem RsAt.ro_lt (h : RsAt B W sb p S) {k : Nat} (hk : p.X.ownBlock = some k) : k < W.heap.size := ownB_lt h.tape.own hk
theorem Tape14.but' {base tb : Nat} {X V : Value} {xs : List Int} {L : List (Int × Int)} (h : Tape14 base W tb X V xs L) (hb : But R W W') (h1 : ¬ R tb) (h2 : ∀ g, X.ownBlock = some g → ¬ R g) (h3 : ∀ g, V.ownBlock = some g → ¬ R g) : Tape14 base W' tb X V xs L :=
  ⟨hb.heap h.box h1, h.left.but' hb h2, h.done.but hb h3, h.few⟩
theorem LaidAt.but (h : LaidAt W sb p S) (hb : But R W W') (h1 : ∀ k, foot15 sb p k ∨ ro15 p k → ¬ R k) (h2 : ∀ k, R k → k < W.heap.size → Typ15 W k) : LaidAt W' sb p S := by
  refine ⟨hb.heap h.box (h1 _ (.inl (.inl rfl))), h.mem.but hb (h1 _ (.inl (.inr (.inl rfl)))) (h1 _ (.inl (.inr (.inr (.inl rfl))))), h.tape.but' hb (h1 _ (.inl (.inr (.inr (.inr (.inl rfl)))))) (fun g hg => h1 _ (.inr (.inl hg))) (fun g hg => h1 _ (.inl (.inr (.inr (.inr (.inr (.inl hg))))))), h.links.but hb (fun g hg => h1 _ (.inl (.inr (.inr (.inr (.inr (.inr hg))))))), h.dat.but' hb (fun g hg => h1 _ (.inr (.inr (.inl hg)))), h.inp.but' hb (fun g hg => h1 _ (.inr (.inr (.inr (.inr hg))))), ?_, h.pre, h.ok, h.sep⟩
  exact h.funs.but hb (fun g hg => h1 _ (.inr (.inr (.inr (.inl hg))))) (fun k hk => by omega) (fun k c hc hr => (h2 k hr (heap_lt hc)).not (.inl rfl) hc) (fun k c hc hr => (h2 k hr (heap_lt hc)).not (.inr rfl) hc)
theorem FreshAt.but (h : FreshAt W sb p S) (hb : But R W W') (h1 : ∀ k, foot15 sb p k ∨ ro15 p k → ¬ R k) (h2 : ∀ k, R k → k < W.heap.size → Typ15 W k) : FreshAt W' sb p S := by
  refine ⟨hb.heap h.box (h1 _ (.inl (.inl rfl))), h.dat.but' hb (fun g hg => h1 _ (.inr (.inr (.inl hg)))), h.inp.but' hb (fun g hg => h1 _ (.inr (.inr (.inr (.inr hg))))), ?_, h.new, h.e0, h.ok, h.sep, h.one⟩
  exact h.funs.but hb (fun g hg => h1 _ (.inr (.inr (.inr (.inl hg))))) (fun k hk => by omega) (fun k c hc hr => (h2 k hr (heap_lt hc)).not (.inl rfl) hc) (fun k c hc hr => (h2 k hr (heap_lt hc)).not (.inr rfl) hc)
theorem RsAt.but (h : RsAt B W sb p S) (hb : But R W W') (h1 : ∀ k, foot15 sb p k ∨ p.X.ownBlock = some k → ¬ R k) (hB : B ≤ W.heap.size) (h3 : ∀ k, k < B → ¬ R k) : RsAt B W' sb p S :=
  ⟨hb.heap h.box (h1 _ (.inl (.inl rfl))), h.mem.but hb (h1 _ (.inl (.inr (.inl rfl)))) (h1 _ (.inl (.inr (.inr (.inl rfl))))), h.tape.but hb (h1 _ (.inl (.inr (.inr (.inr (.inl rfl)))))) (fun g hg => h1 _ (.inr hg)) (fun g hg => h1 _ (.inl (.inr (.inr (.inr (.inr (.inl hg))))))), h.left, h.links.but hb (fun g hg => h1 _ (.inl (.inr (.inr (.inr (.inr (.inr hg))))))), h.dat.but hb hB h3, h.funs.but hb hB h3, h.ok, h.sep⟩
end
section
variable {B : Nat} {W W' : World} {a a' a2 : It} {p p' p2 : Loc} {R : Nat → Prop}
theorem It.typ (h : a.at' B W p) {k : Nat} (hk : a.foot p k) : Typ15 W k := by
  cases a with
  | sp sb S => exact h.elim (fun h => h.typ hk) (fun h => h.typ hk)
  | rs rb S => exact RsAt.typ h hk
  | box b c t => exact hk.elim
  | cell b c t => obtain rfl : k = b := hk; exact ⟨c, t, h.1, h.2.1, h.2.2⟩
theorem It.lt (h : a.at' B W p) {k : Nat} (hk : a.foot p k ∨ a.ro p k) : k < W.heap.size := by
  rcases hk with hk | hk
  · exact (It.typ h hk).lt
  · cases a with
    | sp sb S => exact h.elim (fun h => h.ro_lt hk) (fun h => h.ro_lt hk)
    | rs rb S => exact RsAt.ro_lt h hk
    | box b c t => obtain rfl : k = b := hk; exact heap_lt h
    | cell b c t => exact hk.elim
theorem It.own (h : a.at' B W p) {k : Nat} (hk : a.foot p k) : ¬ a.ro p k := by
  cases a with
  | sp sb S => exact h.elim (fun h => h.sep k hk) (fun h => h.sep k hk)
  | rs rb S => exact RsAt.sep h k hk
  | box b c t => exact hk.elim
  | cell b c t => exact fun h => h
theorem It.but (h : a.at' B W p) (hb : But R W W') (h1 : ∀ k, a.foot p k ∨ a.ro p k → ¬ R k) (h2 : ∀ k, R k → k < W.heap.size → Typ15 W k) (hB : B ≤ W.heap.size) (h3 : ∀ k, k < B → ¬ R k) : a.at' B W' p := by
  cases a with
  | sp sb S => exact h.imp (fun h => h.but hb h1 h2) (fun h => h.but hb h1 h2)
  | rs rb S => exact RsAt.but h hb h1 hB h3
  | box b c t => exact hb.heap h (h1 _ (.inr rfl))
  | cell b c t => exact ⟨hb.heap h.1 (h1 _ (.inl rfl)), h.2⟩
theorem It.grow (h : a.at' B W p) (hb : Below W.heap.size W W') (hB : B ≤ W.heap.size) : a.at' B W' p :=
  It.but h (But.of_below (R := NoBlock) hb) (fun _ _ h => h) (fun _ h => h.elim) hB (fun _ _ h => h)
/-- What a call makes of one space. -/
structure Mv (B : Nat) (a a' : It) (p p' : Loc) (W W' : World) : Prop where
  at' : a'.at' B W' p'
  but : But (a.foot p) W W'
  foot : ∀ k, a'.foot p' k → a.foot p k ∨ W.heap.size ≤ k
  ro : ∀ k, a'.ro p' k → a.ro p k ∨ W.heap.size ≤ k
theorem Mv.read (h : a.at' B W p) (hb : Below W.heap.size W W') (hB : B ≤ W.heap.size) : Mv B a a p p W W' :=
  ⟨It.grow h hb hB, But.of_below hb, fun _ h => .inl h, fun _ h => .inl h⟩
theorem Mv.refl (h : a.at' B W p) : Mv B a a p p W W := ⟨h, But.refl _ _, fun _ h => .inl h, fun _ h => .inl h⟩
theorem But.more15 {A C : Nat → Prop} {w1 w2 w3 : World} (h : But A w1 w2) (h2 : But C w2 w3) (hc : ∀ k, C k → A k ∨ w1.heap.size ≤ k) : But A w1 w3 :=
  ⟨h2.os.trans h.os, h2.tape.trans h.tape, h2.output.trans h.output, Nat.le_trans h.size h2.size, fun k hk hn => by
    rw [h2.block k (Nat.lt_of_lt_of_le hk h.size) (fun c => (hc k c).elim hn (by omega))]
    exact h.block k hk hn⟩
theorem Mv.trans {W2 : World} (h : Mv B a a' p p' W W') (h2 : Mv B a' a2 p' p2 W' W2) : Mv B a a2 p p2 W W2 :=
  ⟨h2.at', h.but.more15 h2.but h.foot, fun k hk => (h2.foot k hk).elim (h.foot k) (fun e => .inr (Nat.le_trans h.but.size e)), fun k hk => (h2.ro k hk).elim (h.ro k) (fun e => .inr (Nat.le_trans h.but.size e))⟩
end
/-- Spaces beside each other, in memory that a call has made since lo. -/
structure Spaces (w : World) (lo : Nat) (W : World) (l : List It) : Prop where
  ex : ∃ P : Nat → Loc, (∀ (i : Nat) (a : It), l[i]? = some a → a.at' w.heap.size W (P i)) ∧ (∀ (i : Nat) (a : It) (k : Nat), l[i]? = some a → (a.foot (P i) k ∨ a.ro (P i) k) → lo ≤ k) ∧
    (∀ (i j : Nat) (a b : It) (k : Nat), i ≠ j → l[i]? = some a → l[j]? = some b → a.foot (P i) k → ¬ (b.foot (P j) k ∨ b.ro (P j) k))
  low : w.heap.size ≤ lo
  top : lo ≤ W.heap.size
  bel : Below w.heap.size w W
section
variable {w W W' : World} {lo : Nat} {l : List It} {a a' : It}
theorem Spaces.nil (hb : Below w.heap.size w W) (hl : w.heap.size ≤ lo) (hh : lo ≤ W.heap.size) : Spaces w lo W [] :=
  ⟨⟨fun _ => ⟨0, 0, 0, 0, 0, 0, .slice none 0 0, .slice none 0 0, .slice none 0 0, .slice none 0 0, .slice none 0 0, .slice none 0 0, []⟩, by simp, by simp, by simp⟩, hl, hh, hb⟩
theorem Spaces.other {R : Nat → Prop} (h : Spaces w lo W l) (hb : But R W W') (h1 : ∀ k, R k → w.heap.size ≤ k) (h2 : ∀ k, R k → k < W.heap.size → k < lo ∧ Typ15 W k) : Spaces w lo W' l := by
  obtain ⟨P, e1, e2, e3⟩ := h.ex
  have hw := Nat.le_trans h.low h.top
  refine ⟨⟨P, fun i a ha => It.but (e1 i a ha) hb (fun k hk hr => ?_) (fun k hr hk => (h2 k hr hk).2) hw (fun k hk hr => ?_), e2, e3⟩, h.low, Nat.le_trans h.top hb.size, ?_⟩
  · have := e2 i a k ha hk
    have := (h2 k hr (It.lt (e1 i a ha) hk)).1
    omega
  · have := h1 k hr; omega
  · exact hb.below h.bel hw h1
theorem Spaces.grow (h : Spaces w lo W l) (hb : Below W.heap.size W W') : Spaces w lo W' l := h.other (R := NoBlock) (But.of_below hb) (fun _ h => h.elim) (fun _ h => h.elim)
theorem Spaces.move (h : Spaces w lo W l) {i : Nat} (hi : l[i]? = some a) : ∃ p, a.at' w.heap.size W p ∧ ∀ (a' : It) (p' : Loc) (W' : World), Mv w.heap.size a a' p p' W W' → Spaces w lo W' (l.set i a') := by
  obtain ⟨P, e1, e2, e3⟩ := h.ex
  have hw := Nat.le_trans h.low h.top
  have hil : i < l.length := (List.getElem?_eq_some_iff.1 hi).1
  refine ⟨P i, e1 i a hi, fun a' p' W' m => ?_⟩
  have hset : ∀ j b, (l.set i a')[j]? = some b → (j = i ∧ b = a') ∨ (j ≠ i ∧ l[j]? = some b) := by
    intro j b hj
    rw [List.getElem?_set] at hj
    by_cases hji : i = j
    · subst hji
      rw [if_pos rfl, if_pos hil] at hj
      exact .inl ⟨rfl, (Option.some.inj hj).symm⟩
    · rw [if_neg hji] at hj
      exact .inr ⟨fun e => hji e.symm, hj⟩
  have hfar : ∀ j b, j ≠ i → l[j]? = some b → ∀ k, b.foot (P j) k ∨ b.ro (P j) k → ¬ a.foot (P i) k := fun j b hj hb k hk hf => e3 i j a b k (fun e => hj e.symm) hi hb hf hk
  refine ⟨⟨fun j => if j = i then p' else P j, ?_, ?_, ?_⟩, h.low, Nat.le_trans h.top m.but.size, ?_⟩
  · intro j b hj
    rcases hset j b hj with ⟨rfl, rfl⟩ | ⟨hji, hj⟩
    · simpa using m.at'
    · simp only [if_neg hji]
      exact It.but (e1 j b hj) m.but (hfar j b hji hj) (fun k hk _ => It.typ (e1 i a hi) hk) hw (fun k hk hf => by have := e2 i a k hi (.inl hf); have := h.low; omega)
  · intro j b k hj hk
    rcases hset j b hj with ⟨rfl, rfl⟩ | ⟨hji, hj⟩
    · simp only [if_true] at hk
      rcases hk with hk | hk
      · rcases m.foot k hk with hk | hk
        · exact e2 _ a k hi (.inl hk)
        · exact Nat.le_trans h.top hk
      · rcases m.ro k hk with hk | hk
        · exact e2 _ a k hi (.inr hk)
        · exact Nat.le_trans h.top hk
    · simp only [if_neg hji] at hk
      exact e2 j b k hj hk
  · intro j1 j2 b1 b2 k hne h1 h2 hk
    rcases hset j1 b1 h1 with ⟨rfl, rfl⟩ | ⟨hj1, g1⟩
    · rcases hset j2 b2 h2 with ⟨rfl, rfl⟩ | ⟨hj2, h2⟩
      · exact absurd rfl hne
      · simp only [if_true] at hk
        simp only [if_neg hj2]
        rcases m.foot k hk with hk | hk
        · exact e3 _ j2 a b2 k (fun e => hj2 e.symm) hi h2 hk
        · intro hc
          have := It.lt (e1 j2 b2 h2) hc
          omega
    · simp only [if_neg hj1] at hk
      rcases hset j2 b2 h2 with ⟨rfl, rfl⟩ | ⟨hj2, h2⟩
      · simp only [if_true]
        have hlt := It.lt (e1 j1 b1 g1) (.inl hk)
        rintro (hc | hc)
        · rcases m.foot k hc with hc | hc
          · exact e3 j1 _ b1 a k hj1 g1 hi hk (.inl hc)
          · omega
        · rcases m.ro k hc with hc | hc
          · exact e3 j1 _ b1 a k hj1 g1 hi hk (.inr hc)
          · omega
      · simp only [if_neg hj2]
        exact e3 j1 j2 b1 b2 k hne g1 h2 hk
  · exact m.but.below h.bel hw (fun k hk => Nat.le_trans h.low (e2 i a k hi (.inl hk)))
/-- One more. -/
theorem Spaces.add (h : Spaces w lo W l) {p : Loc} (hb : Below W.heap.size W W') (ha : a.at' w.heap.size W' p) (hn : ∀ k, a.foot p k → W.heap.size ≤ k)
    (hr : ∀ k, a.ro p k → W.heap.size ≤ k ∨ (lo ≤ k ∧ ∀ (P : Nat → Loc) (i : Nat) (b : It), l[i]? = some b → (∀ (i : Nat) (a : It), l[i]? = some a → a.at' w.heap.size W (P i)) → (∀ (i j : Nat) (a b : It) (k : Nat), i ≠ j → l[i]? = some a → l[j]? = some b → a.foot (P i) k → ¬ (b.foot (P j) k ∨ b.ro (P j) k)) → ¬ b.foot (P i) k)) : Spaces w lo W' (l ++ [a]) := by
  obtain ⟨P, e1, e2, e3⟩ := h.ex
  have hw := Nat.le_trans h.low h.top
  have hg := h.grow hb
  have hset : ∀ j b, (l ++ [a])[j]? = some b → (j = l.length ∧ b = a) ∨ (j ≠ l.length ∧ l[j]? = some b) := by
    intro j b hj
    rw [List.getElem?_append] at hj
    split at hj
    · rename_i hlt
      exact .inr ⟨by omega, hj⟩
    · rename_i hlt
      by_cases hjl : j = l.length
      · subst hjl
        simp at hj
        exact .inl ⟨rfl, hj.symm⟩
      · rw [List.getElem?_eq_none (by simp; omega)] at hj
        cases hj
  refine ⟨⟨fun j => if j = l.length then p else P j, ?_, ?_, ?_⟩, h.low, hg.top, hg.bel⟩
  · intro j b hj
    rcases hset j b hj with ⟨rfl, rfl⟩ | ⟨hji, hj⟩
    · simpa using ha
    · simp only [if_neg hji]
      exact It.grow (e1 j b hj) hb hw
  · intro j b k hj hk
    rcases hset j b hj with ⟨rfl, rfl⟩ | ⟨hji, hj⟩
    · simp only [if_true] at hk
      rcases hk with hk | hk
      · exact Nat.le_trans h.top (hn k hk)
      · rcases hr k hk with hk | hk
        · exact Nat.le_trans h.top hk
        · exact hk.1
    · simp only [if_neg hji] at hk
      exact e2 j b k hj hk
  · intro j1 j2 b1 b2 k hne h1 h2 hk
    rcases hset j1 b1 h1 with ⟨rfl, rfl⟩ | ⟨hj1, g1⟩
    · rcases hset j2 b2 h2 with ⟨rfl, rfl⟩ | ⟨hj2, h2⟩
      · exact absurd rfl hne
      · simp only [if_true] at hk
        simp only [if_neg hj2]
        intro hc
        have := It.lt (e1 j2 b2 h2) hc
        have := hn k hk
        omega
    · simp only [if_neg hj1] at hk
      have hlt := It.lt (e1 j1 b1 g1) (.inl hk)
      rcases hset j2 b2 h2 with ⟨rfl, rfl⟩ | ⟨hj2, h2⟩
      · simp only [if_true]
        rintro (hc | hc)
        · have := hn k hc; omega
        · rcases hr k hc with hc | hc
          · omega
          · exact hc.2 P j1 b1 g1 e1 e3 hk
      · simp only [if_neg hj2]
        exact e3 j1 j2 b1 b2 k hne g1 h2 hk
/-- Some of them, in another order. -/
theorem Spaces.pick {l' : List It} (h : Spaces w lo W l) (s : Nat → Nat) (hs : ∀ (i : Nat) (a : It), l'[i]? = some a → l[s i]? = some a) (hi : ∀ (i j : Nat), i < l'.length → j < l'.length → s i = s j → i = j) : Spaces w lo W l' := by
  obtain ⟨P, e1, e2, e3⟩ := h.ex
  have hl : ∀ {i a}, l'[i]? = some a → i < l'.length := fun h => (List.getElem?_eq_some_iff.1 h).1
  exact ⟨⟨fun i => P (s i), fun i a ha => e1 _ a (hs i a ha), fun i a k ha => e2 _ a k (hs i a ha), fun i j a b k hne ha hb => e3 _ _ a b k (fun e => hne (hi i j (hl ha) (hl hb) e)) (hs i a ha) (hs j b hb)⟩, h.low, h.top, h.bel⟩
end
end Go.Proofs.YtkfdgpgildanbaaGreat
