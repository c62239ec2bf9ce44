/- Calls of a space among others. Contracts; no condition but that they lie beside each other. -/
import Derived.Test.YtkfdgpgildanbaaGreatSp15O
namespace Go.Proofs.YtkfdgpgildanbaaGreat
open Go.RowKit Go.Shelf
set_option linter.unusedVariables false
set_option linter.unusedSimpArgs false

section
variable {w W W' : World} {lo : Nat} {l : List It} {a a' : It}
theorem Spaces.move2 (h : Spaces w lo W l) {i : Nat} (hi : l[i]? = some a) : ∃ p, a.at' w.heap.size W p ∧ (∀ k, a.foot p k → lo ≤ k) ∧ ∀ (a' : It) (p' : Loc) (W' : World), Mv w.heap.size a a' p p' W W' → Spaces w lo W' (l.set i a') := by
  obtain ⟨P, e1, e2, e3⟩ := h.ex
  have hw := Nat.le_trans h.low h.top
  have hil : i < l.length := (List.getElem?_eq_some_iff.1 hi).1
  refine ⟨P i, e1 i a hi, fun k hk => e2 i a k hi (.inl hk), fun a' p' W' m => ?_⟩
  have hset : ∀ j b, (l.set i a')[j]? = some b → (j = i ∧ b = a') ∨ (j ≠ i ∧ l[j]? = some b) := by
    intro j b hj
    rw [List.getElem?_set] at hj
    by_cases hji : i = j
    · subst hji
      rw [if_pos rfl, if_pos hil] at hj
      exact .inl ⟨rfl, (Option.some.inj hj).symm⟩
    · rw [if_neg hji] at hj
      exact .inr ⟨fun e => hji e.symm, hj⟩
  have hfar : ∀ j b, j ≠ i → l[j]? = some b → ∀ k, b.foot (P j) k ∨ b.ro (P j) k → ¬ a.foot (P i) k := fun j b hj hb k hk hf => e3 i j a b k (fun e => hj e.symm) hi hb hf hk
  refine ⟨⟨fun j => if j = i then p' else P j, ?_, ?_, ?_⟩, h.low, Nat.le_trans h.top m.but.size, ?_⟩
  · intro j b hj
    rcases hset j b hj with ⟨rfl, rfl⟩ | ⟨hji, hj⟩
    · simpa using m.at'
    · simp only [if_neg hji]
      exact It.but (e1 j b hj) m.but (hfar j b hji hj) (fun k hk _ => It.typ (e1 i a hi) hk) hw (fun k hk hf => by have := e2 i a k hi (.inl hf); have := h.low; omega)
  · intro j b k hj hk
    rcases hset j b hj with ⟨rfl, rfl⟩ | ⟨hji, hj⟩
    · simp only [if_true] at hk
      rcases hk with hk | hk
      · rcases m.foot k hk with hk | hk
        · exact e2 _ a k hi (.inl hk)
        · exact Nat.le_trans h.top hk
      · rcases m.ro k hk with hk | hk
        · exact e2 _ a k hi (.inr hk)
        · exact Nat.le_trans h.top hk
    · simp only [if_neg hji] at hk
      exact e2 j b k hj hk
  · intro j1 j2 b1 b2 k hne h1 h2 hk
    rcases hset j1 b1 h1 with ⟨rfl, rfl⟩ | ⟨hj1, g1⟩
    · rcases hset j2 b2 h2 with ⟨rfl, rfl⟩ | ⟨hj2, h2⟩
      · exact absurd rfl hne
      · simp only [if_true] at hk
        simp only [if_neg hj2]
        rcases m.foot k hk with hk | hk
        · exact e3 _ j2 a b2 k (fun e => hj2 e.symm) hi h2 hk
        · intro hc
          have := It.lt (e1 j2 b2 h2) hc
          omega
    · simp only [if_neg hj1] at hk
      rcases hset j2 b2 h2 with ⟨rfl, rfl⟩ | ⟨hj2, h2⟩
      · simp only [if_true]
        have hlt := It.lt (e1 j1 b1 g1) (.inl hk)
        rintro (hc | hc)
        · rcases m.foot k hc with hc | hc
          · exact e3 j1 _ b1 a k hj1 g1 hi hk (.inl hc)
          · omega
        · rcases m.ro k hc with hc | hc
          · exact e3 j1 _ b1 a k hj1 g1 hi hk (.inr hc)
          · omega
      · simp only [if_neg hj2]
        exact e3 j1 j2 b1 b2 k hne g1 h2 hk
  · exact m.but.below h.bel hw (fun k hk => Nat.le_trans h.low (e2 i a k hi (.inl hk)))
end
/-- What a call of one space among others leaves. -/
def SpsDone (w : World) (lo : Nat) (l : List It) (v : Value) (e : Ending) (W' : World) : Prop := e = .returned v ∧ Spaces w lo W' l
section
variable {w W W' : World} {lo i sb : Nat} {l : List It} {S : SpV}
theorem Spaces.lift (h : Spaces w lo W l) (hi : l[i]? = some (.sp sb S)) {S' : SpV} {v : Value} {f : FuncId} {args : Array Value} (hc : ∀ p, SpAt W sb p S → (∀ k, foot15 sb p k → lo ≤ k) → Calls Tryz.prog f args W (SpDone W sb p S S' v)) : Calls Tryz.prog f args W (SpsDone w lo (l.set i (.sp sb S')) v) := by
  obtain ⟨p, hp, hl, hm⟩ := h.move2 hi
  refine (hc p hp hl).mono ?_
  rintro e W' ⟨he, p', hv⟩
  exact ⟨he, hm _ _ _ hv.mv⟩
theorem Spaces.sok (h : Spaces w lo W l) (hi : l[i]? = some (.sp sb S)) : S.ok := by
  obtain ⟨p, hp, _⟩ := h.move2 hi
  exact SpAt.ok hp
theorem sp_get (h : Spaces w lo W l) (hi : l[i]? = some (.sp sb S)) (r : Int) (hr : InI r) : Calls Tryz.prog 27 #[.pointer (some ⟨sb, 0, none⟩), .int .i64 r] W (SpsDone w lo (l.set i (.sp sb S)) (.tuple #[.int .u64 (S.getV r), .int .i64 (S.getE r)])) := h.lift hi (fun p hp _ => get15 hp r hr)
theorem sp_set (h : Spaces w lo W l) (hi : l[i]? = some (.sp sb S)) (r v : Int) (hr : InI r) (hv0 : 0 ≤ v) (hv1 : v < 18446744073709551616) : Calls Tryz.prog 37 #[.pointer (some ⟨sb, 0, none⟩), .int .i64 r, .int .u64 v] W (SpsDone w lo (l.set i (.sp sb (S.setS r v))) (.int .i64 (S.getE r))) := h.lift hi (fun p hp _ => set15 hp r v hr hv0 hv1)
theorem sp_go (h : Spaces w lo W l) (hi : l[i]? = some (.sp sb S)) (n : Int) (hn : InI n) : Calls Tryz.prog 38 #[.pointer (some ⟨sb, 0, none⟩), .int .i64 n] W (SpsDone w lo (l.set i (.sp sb (S.goS n))) (.int .i64 (S.goE n))) := h.lift hi (fun p hp _ => go15 hp n hn)
theorem sp_burn (h : Spaces w lo W l) (hi : l[i]? = some (.sp sb S)) (n : Int) (hn : InI n) : Calls Tryz.prog 39 #[.pointer (some ⟨sb, 0, none⟩), .int .i64 n] W (SpsDone w lo (l.set i (.sp sb (S.burnS n))) (.int .i64 (S.burnE n))) := h.lift hi (fun p hp _ => burn15 hp n hn)
theorem sp_ret (h : Spaces w lo W l) (hi : l[i]? = some (.sp sb S)) (v : Int) (hv0 : 0 ≤ v) (hv1 : v < 18446744073709551616) : Calls Tryz.prog 41 #[.pointer (some ⟨sb, 0, none⟩), .int .u64 v] W (SpsDone w lo (l.set i (.sp sb (S.retS v))) (.int .i64 S.refE)) := h.lift hi (fun p hp _ => ret15 hp v hv0 hv1)
theorem sp_stop (h : Spaces w lo W l) (hi : l[i]? = some (.sp sb S)) (k c : Int) : Calls Tryz.prog 22 #[.pointer (some ⟨sb, 0, none⟩), .agg #[.int .i64 k, .int .i64 c]] W (SpsDone w lo (l.set i (.sp sb (S.stopS k c))) (.int .i64 (S.stopE k c))) := h.lift hi (fun p hp _ => stop15 hp k c)
theorem sp_getb (h : Spaces w lo W l) (hi : l[i]? = some (.sp sb S)) (hf : S.done.length < 100000) : Calls Tryz.prog 28 #[.pointer (some ⟨sb, 0, none⟩)] W (SpsDone w lo (l.set i (.sp sb S.getbS)) (.tuple #[.int .i64 S.getbV, .int .i64 S.refE])) := h.lift hi (fun p hp _ => getb15 hp hf)
theorem sp_putb (h : Spaces w lo W l) (hi : l[i]? = some (.sp sb S)) (hf : S.done.length < 100000) (b : Int) : Calls Tryz.prog 42 #[.pointer (some ⟨sb, 0, none⟩), .int .i64 b] W (SpsDone w lo (l.set i (.sp sb (S.putbS b))) (.int .i64 S.refE)) := h.lift hi (fun p hp _ => putb15 hp hf b)
theorem sp_end (h : Spaces w lo W l) (hi : l[i]? = some (.sp sb S)) : Calls Tryz.prog 29 #[.pointer (some ⟨sb, 0, none⟩)] W (SpsDone w lo (l.set i (.sp sb S)) (.tuple #[.agg #[.int .i64 S.ek, .int .i64 S.ec], .bool (S.ek != 0)])) := h.lift hi (fun p hp _ => end15 hp)
theorem sp_func (h : Spaces w lo W l) (hi : l[i]? = some (.sp sb S)) : Calls Tryz.prog 31 #[.pointer (some ⟨sb, 0, none⟩)] W (SpsDone w lo (l.set i (.sp sb S)) (.int .i64 S.f)) := h.lift hi (fun p hp _ => tellF15 hp)
theorem sp_place (h : Spaces w lo W l) (hi : l[i]? = some (.sp sb S)) : Calls Tryz.prog 32 #[.pointer (some ⟨sb, 0, none⟩)] W (SpsDone w lo (l.set i (.sp sb S)) (.int .i64 S.pc)) := h.lift hi (fun p hp _ => tellP15 hp)
theorem sp_at (h : Spaces w lo W l) (hi : l[i]? = some (.sp sb S)) : Calls Tryz.prog 35 #[.pointer (some ⟨sb, 0, none⟩)] W (SpsDone w lo (l.set i (.sp sb S)) (.int .u64 S.at_)) := h.lift hi (fun p hp _ => tellA15 hp)
theorem sp_depth (h : Spaces w lo W l) (hi : l[i]? = some (.sp sb S)) : Calls Tryz.prog 34 #[.pointer (some ⟨sb, 0, none⟩)] W (SpsDone w lo (l.set i (.sp sb S)) (.int .i64 S.links.length)) := h.lift hi (fun p hp _ => tellD15 hp)
/-- A block that is only read; one that is written. -/
def loc0 : Loc := ⟨0, 0, 0, 0, 0, 0, .slice none 0 0, .slice none 0 0, .slice none 0 0, .slice none 0 0, .slice none 0 0, .slice none 0 0, []⟩
theorem Spaces.addBox (h : Spaces w lo W l) (c : Array Value) (t : TypeId) : Spaces w lo (W.alloc (.cells c t)) (l ++ [.box W.heap.size c t]) :=
  h.add (p := loc0) (below_one14 W _) (show (W.alloc (.cells c t)).heap[W.heap.size]? = some (.cells c t (0, 0)) from heap_alloc_new W _) (fun k hk => hk.elim) (fun k hk => .inl (by obtain rfl : k = W.heap.size := hk; exact Nat.le_refl _))
theorem Spaces.addBoxAt (h : Spaces w lo W l) (hb : Below W.heap.size W W') {b : Nat} {c : Array Value} {t : TypeId} (hx : W'.heap[b]? = some (.cells c t (0, 0))) (hn : W.heap.size ≤ b) : Spaces w lo W' (l ++ [.box b c t]) :=
  h.add (p := loc0) hb (show W'.heap[b]? = some (.cells c t (0, 0)) from hx) (fun k hk => hk.elim) (fun k hk => .inl (by obtain rfl : k = b := hk; exact hn))
theorem Spaces.addCell (h : Spaces w lo W l) (c : Array Value) (t : TypeId) (h1 : t ≠ 115) (h2 : t ≠ 3) : Spaces w lo (W.alloc (.cells c t)) (l ++ [.cell W.heap.size c t]) :=
  h.add (p := loc0) (below_one14 W _) (show _ ∧ _ from ⟨heap_alloc_new W _, h1, h2⟩) (fun k hk => by obtain rfl : k = W.heap.size := hk; exact Nat.le_refl _) (fun k hk => hk.elim)
theorem Spaces.boxAt (h : Spaces w lo W l) {b : Nat} {c : Array Value} {t : TypeId} (hi : l[i]? = some (.box b c t)) : W.heap[b]? = some (.cells c t (0, 0)) := by
  obtain ⟨P, e1, e2, e3⟩ := h.ex
  exact e1 i _ hi
theorem Spaces.cellAt (h : Spaces w lo W l) {b : Nat} {c : Array Value} {t : TypeId} (hi : l[i]? = some (.cell b c t)) : W.heap[b]? = some (.cells c t (0, 0)) := by
  obtain ⟨P, e1, e2, e3⟩ := h.ex
  exact (e1 i _ hi).1
theorem Spaces.cellMove (h : Spaces w lo W l) {b : Nat} {c c' : Array Value} {t : TypeId} (hi : l[i]? = some (.cell b c t)) (hb : But (fun k => k = b) W W') (hx : W'.heap[b]? = some (.cells c' t (0, 0))) : Spaces w lo W' (l.set i (.cell b c' t)) := by
  obtain ⟨p, hp, hm⟩ := h.move hi
  exact hm (.cell b c' t) p W' ⟨⟨hx, hp.2⟩, hb, fun k hk => .inl hk, fun k hk => hk.elim⟩
/-- A list of the call's own, or an older one. -/
structure ArgsIn (lo : Nat) (W : World) (A : Value) (args : List Int) : Prop where
  inn : ∀ x ∈ args, InI x
  lies : IsNums .i64 W lo A args ∨ ∃ base n, Owns W base 3 1 (IsNum .i64) A n (args.map (Value.int .i64))
theorem ArgsIn.grow {A : Value} {args : List Int} (h : ArgsIn lo W A args) (hl : lo ≤ W.heap.size) (hb : Below W.heap.size W W') : ArgsIn lo W' A args :=
  ⟨h.inn, h.lies.imp (fun h => h.below hb hl) (fun ⟨b, n, h⟩ => ⟨b, n, h.below hb (Nat.le_refl _)⟩)⟩
theorem ArgsIn.args {A : Value} {args : List Int} {p : Loc} (h : ArgsIn lo W A args) (hl : lo ≤ W.heap.size) (hp : SpAt W sb p S) (hf : ∀ k, foot15 sb p k → lo ≤ k) : Args15 W (foot15 sb p) A args := by
  refine ⟨h.inn, fun W' hb => ?_⟩
  rcases h.lies with h | ⟨b, n, h⟩
  · exact (h.but hb hl (fun k hk e => by have := hf k e; omega)).more (Nat.le_trans hl hb.size)
  · exact IsNums.of_owns (h.but hb (fun g hg e => by
      obtain ⟨_, c, hc⟩ := typed14 h hg
      exact (It.typ (B := 0) (a := .sp sb S) hp e).not (.inr rfl) hc)) (Nat.le_refl _)
theorem sp_call (h : Spaces w lo W l) (hi : l[i]? = some (.sp sb S)) (f res back : Int) (A : Value) (args : List Int) (hf : InI f) (hr : InI res) (hbk : InI back) (hA : ArgsIn lo W A args) : Calls Tryz.prog 40 #[.pointer (some ⟨sb, 0, none⟩), .int .i64 f, A, .int .i64 res, .int .i64 back] W (SpsDone w lo (l.set i (.sp sb (S.callS f args res back))) (.int .i64 (S.callE f args res back))) := h.lift hi (fun p hp hl => call15 hp f res back A args hf hr hbk (hA.args h.top hp hl))
/-- What Memory tells: a memory of the space's own. -/
theorem sp_memory (h : Spaces w lo W l) (hi : l[i]? = some (.sp sb S)) : Calls Tryz.prog 30 #[.pointer (some ⟨sb, 0, none⟩)] W fun e W' => ∃ mb, e = .returned (.pointer (some ⟨mb, 0, none⟩)) ∧ Spaces w lo W' (l.set i (.sp sb S)) ∧ W'.cell? ⟨sb, 9, none⟩ = some (.pointer (some ⟨mb, 0, none⟩)) := by
  obtain ⟨p, hp, hl, hm⟩ := h.move2 hi
  refine (tellM15 hp).mono ?_
  rintro e W' ⟨p', he, hv⟩
  exact ⟨p'.mb, he, hm _ _ _ hv.mv, hv.laid.cells.1.2.1⟩
theorem laid_of15 {p : Loc} {mb : Nat} (h : SpAt W sb p S) (hc : W.cell? ⟨sb, 9, none⟩ = some (.pointer (some ⟨mb, 0, none⟩))) : LaidAt W sb p S ∧ p.mb = mb := by
  rcases h with h | h
  · have h9 := h.cells.1.2.1
    rw [hc] at h9
    injection h9 with h9
    injection h9 with h9
    injection h9 with h9
    injection h9 with h9
    exact ⟨h, h9.symm⟩
  · have h9 := (cells18 (show W.heap[sb]? = some (.cells #[_, _, _, _, _, _, _, _, _, _, _, _, _, _, _, _, _, _] 80 (0, 0)) from h.box)).2.1.2.2.2.1
    rw [hc] at h9
    injection h9 with h9
    injection h9 with h9
    cases h9
theorem sp_load {mb : Nat} (h : Spaces w lo W l) (hi : l[i]? = some (.sp sb S)) (hc : W.cell? ⟨sb, 9, none⟩ = some (.pointer (some ⟨mb, 0, none⟩))) (a n : Int) (ha : 0 ≤ a) (ha' : a < 18446744073709551616) (hn' : n < 9223372036854775808) :
    Calls Tryz.prog 52 #[.pointer (some ⟨mb, 0, none⟩), .int .u64 a, .int .i64 n] W fun e W' => e = .returned (.tuple #[.int .u64 (loadV S.mem a n), .int .i64 (numE S.mem.length a n)]) ∧ W = W' := by
  obtain ⟨p, hp, hl, hm⟩ := h.move2 hi
  obtain ⟨h1, rfl⟩ := laid_of15 hp hc
  exact load_any h1.mem a n ha ha' hn'
theorem sp_bytes {mb : Nat} (h : Spaces w lo W l) (hi : l[i]? = some (.sp sb S)) (hc : W.cell? ⟨sb, 9, none⟩ = some (.pointer (some ⟨mb, 0, none⟩))) (a n : Int) (ha : 0 ≤ a) (ha' : a < 18446744073709551616) (hn' : n < 9223372036854775808) :
    Calls Tryz.prog 47 #[.pointer (some ⟨mb, 0, none⟩), .int .u64 a, .int .i64 n] W (BytesDone W (bytesL S.mem a n) (accE S.mem.length a n)) := by
  obtain ⟨p, hp, hl, hm⟩ := h.move2 hi
  obtain ⟨h1, rfl⟩ := laid_of15 hp hc
  exact bytes_any h1.mem a n ha ha' hn'
theorem sp_store {mb : Nat} (h : Spaces w lo W l) (hi : l[i]? = some (.sp sb S)) (hc : W.cell? ⟨sb, 9, none⟩ = some (.pointer (some ⟨mb, 0, none⟩))) (a n v : Int) (ha : 0 ≤ a) (ha' : a < 18446744073709551616) (hn' : n < 9223372036854775808) (hv : 0 ≤ v) (hv' : v < 18446744073709551616) :
    Calls Tryz.prog 48 #[.pointer (some ⟨mb, 0, none⟩), .int .u64 a, .int .i64 n, .int .u64 v] W (SpsDone w lo (l.set i (.sp sb (S.memS a n v))) (.int .i64 (numE S.mem.length a n))) := by
  obtain ⟨p, hp, hl, hm⟩ := h.move2 hi
  obtain ⟨h1, rfl⟩ := laid_of15 hp hc
  refine (store_any h1.mem a n v ha ha' hn' hv hv').mono ?_
  rintro e W' ⟨he, hM, hb⟩
  exact ⟨he, hm _ _ _ (h1.stored hM hb storeL_len).mv⟩
/-- What New leaves beside others. -/
def NewSps (w : World) (lo : Nat) (W : World) (l : List It) (m : ModV) (n : Int) (inp : List Int) (fuel : Int) (e : Ending) (W' : World) : Prop :=
  Below W.heap.size W W' ∧ ((newE15 m n fuel ≠ 0 ∧ e = .returned (.tuple #[.pointer none, .int .i64 (newE15 m n fuel)]) ∧ Spaces w lo W' l) ∨
    (newE15 m n fuel = 0 ∧ ∃ sb, e = .returned (.tuple #[.pointer (some ⟨sb, 0, none⟩), .int .i64 0]) ∧ Spaces w lo W' (l ++ [.sp sb (newS m n.toNat inp fuel)])))
theorem sp_new (h : Spaces w lo W l) (D F IN : Value) (data inp : List Int) (fs : List FunV) (n fuel : Int) (hD : IsBytes W W.heap.size D data) (hF : IsFuns W W.heap.size F fs) (hI : IsBytes W W.heap.size IN inp) (hn : InI n) (hfu : InI fuel) (hil : inp.length ≤ 140737488355328) (hcl : ∀ f ∈ fs, f.code.length ≤ 1000000 ∧ ∀ y ∈ f.code, y.args.length ≤ 1000000) :
    Calls Tryz.prog 15 #[.agg #[D, F], .int .i64 n, IN, .int .i64 fuel] W (NewSps w lo W l ⟨data, fs⟩ n inp fuel) := by
  refine (new15 D F IN data inp fs W n fuel hD hF hI hn hfu hil hcl).mono ?_
  rintro e W' ⟨hb, ⟨h1, he⟩ | ⟨h1, sb, p, he, hf, hs, hr⟩⟩
  · exact ⟨hb, .inl ⟨h1, he, h.grow hb⟩⟩
  · refine ⟨hb, .inr ⟨h1, sb, he, h.add hb (show SpAt W' sb p _ from .inr hf) (fun k hk => ?_) (fun k hk => .inl (hr k hk))⟩⟩
    have : k = sb := hf.isSb hk
    omega
end
end Go.Proofs.YtkfdgpgildanbaaGreat
