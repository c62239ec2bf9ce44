import Derived.Test.YtkfdgpgildanbaaGreatRSp15H
namespace Go.Proofs.YtkfdgpgildanbaaGreat
open Go.RowKit Go.Shelf
set_option linter.unusedVariables false
set_option linter.unusedSimpArgs false
theorem Owns.same15 {w w' : World} {base : Nat} {e : TypeId} {size : Nat} {K : Value → Prop} {v : Value} {n : Nat} {xs : List Value} (h : Owns w base e size K v n xs)
    (hb : ∀ g, v.ownBlock = some g → w'.heap[g]? = w.heap[g]?) : Owns w' base e size K v n xs := by
  refine ⟨⟨h.1.1, ?_⟩, fun g cur t fr hg hc => h.2 g cur t fr hg (by rw [← hb g hg]; exact hc)⟩
  rcases h.1.2 with ⟨rfl, hn⟩ | ⟨g, cap, cur, rfl, h1, h2, h3⟩
  · exact .inl ⟨rfl, hn⟩
  · exact .inr ⟨g, cap, cur, rfl, h1, by rw [hb g (by simp [Value.ownBlock])]; exact h2, h3⟩
theorem Spaces.twice {w W : World} {lo k b : Nat} {l : List It} {c : Array Value} {t : TypeId} (h : Spaces w lo W l) (hk : l[k]? = some (.box b c t)) : Spaces w lo W (l ++ [.box b c t]) := by
  obtain ⟨P, e1, e2, e3⟩ := h.ex
  have hkl := (List.getElem?_eq_some_iff.1 hk).1
  have hset : ∀ j x, (l ++ [It.box b c t])[j]? = some x → (j = l.length ∧ x = .box b c t) ∨ (j < l.length ∧ l[j]? = some x) := by
    intro j x hj
    rcases Nat.lt_trichotomy j l.length with e | e | e
    · rw [List.getElem?_append_left e] at hj; exact .inr ⟨e, hj⟩
    · subst e; simp at hj; exact .inl ⟨rfl, hj.symm⟩
    · rw [List.getElem?_eq_none (by simp; omega)] at hj; cases hj
  refine ⟨⟨fun j => if j = l.length then P k else P j, ?_, ?_, ?_⟩, h.low, h.top, h.bel⟩
  · intro j x hj
    rcases hset j x hj with ⟨rfl, rfl⟩ | ⟨e, hj⟩
    · exact h.boxAt hk
    · simp only [if_neg (Nat.ne_of_lt e)]; exact e1 j x hj
  · intro j x q hj hq
    rcases hset j x hj with ⟨rfl, rfl⟩ | ⟨e, hj⟩
    · exact e2 k _ q hk (by simpa using hq)
    · simp only [if_neg (Nat.ne_of_lt e)] at hq; exact e2 j x q hj hq
  · intro i j x y q hij hi hj hx
    rcases hset i x hi with ⟨rfl, rfl⟩ | ⟨ei, hi⟩
    · exact hx.elim
    · simp only [if_neg (Nat.ne_of_lt ei)] at hx
      rcases hset j y hj with ⟨rfl, rfl⟩ | ⟨ej, hj⟩
      · have hik : i ≠ k := fun e => by subst e; rw [hk] at hi; injection hi with hi; subst hi; exact hx
        simpa using e3 i k x _ q hik hi hk hx
      · simp only [if_neg (Nat.ne_of_lt ej)]; exact e3 i j x y q hij hi hj hx
theorem own_box15 {w W0 w1 : World} {lo k b : Nat} {l : List It} {c : Array Value} {t : TypeId} {V : Value} {xs : List Int} (h : Spaces w lo W0 l) (hk : l[k]? = some (.box b c t)) (hb : Below W0.heap.size W0 w1) (ho : OutN W0.heap.size w1 V xs) :
    ∃ eb ec et, Spaces w lo w1 (l ++ [.box eb ec et]) ∧ ∀ W', W'.heap[eb]? = some (.cells ec et (0, 0)) → OutN W0.heap.size W' V xs := by
  rcases hg : V.ownBlock with _ | g
  · have hx := (hb.block _ (heap_lt (h.boxAt hk))).trans (h.boxAt hk)
    refine ⟨b, c, t, ?_, fun W' _ => ho.same15 (fun g e => by rw [hg] at e; cases e)⟩
    exact (h.grow hb).twice hk
  · obtain ⟨h1, cur, h2⟩ := typed14 ho hg
    exact ⟨g, cur, 3, h.addBoxAt hb h2 h1, fun W' hw => ho.same15 (fun g' e => by rw [hg] at e; injection e with e; subst e; rw [hw, h2])⟩
theorem wpList_outS15 {W : World} {ops : Array Oper} {rest : List Oper} {o : Oper} {a : Act} {Q : Exit → Act → World → Prop} (hgd : o.guard = none) (s x : Operand)
    (ho : o.op = .call { callee := .builtin .append, args := #[s, x], argTypes := #[43, 43] }) {V X : Value} {xs ys : List Int} {base B : Nat} (hs : a.eval s = V) (hx : a.eval x = X) (h : OutN base W V xs) (hX : IsNums .i64 W B X ys)
    (hb : base ≤ W.heap.size) (hl : xs.length + ys.length ≤ 1000000)
    (hK : ∀ V' W', OutN base W' V' (xs ++ ys) → Below base W W' → wpList Tryz.prog ops Q rest (a.put o.dst V') W') :
    wpList Tryz.prog ops Q (o :: rest) a W :=
  wpList_plain hgd fun _ hk => by
    obtain ⟨i0, hi, hz0, hz1, hz2⟩ := info_parts int_info
    obtain ⟨V', W', hr, ho', hg'⟩ := append_nums W base 43 o.type 3 i0 Tryz.underlying43 hi hz0 hz1 hz2 V xs ys h B X hX (by omega) hb
    unfold Oper.wp execOp
    simp only [ho, resolve, invoke, builtin, Sem.run_bind, Sem.run_pure, Result.andThen_ok, List.map_toArray, List.map_cons, List.map_nil, hs, hx, hr]
    exact hk _ _ (hK V' W' ho' ((Below.refl base W).grown hg' hb (fun g hg => (h.lt hg).1)))
theorem ne_typR {W : World} {k : Nat} {c c' : Array Value} {t : TypeId} (h : W.heap[k]? = some (.cells c t (0, 0))) (ht : t ≠ 130) : W.heap[k]? ≠ some (.cells c' 130 (0, 0)) := fun e => types14 h e ht
theorem own_typR {W : World} {base : Nat} {e : TypeId} {size : Nat} {K : Value → Prop} {v : Value} {n : Nat} {xs : List Value} (h : Owns W base e size K v n xs) (h1 : e ≠ 130) {g : Nat} (hg : v.ownBlock = some g) {c : Array Value} : W.heap[g]? ≠ some (.cells c 130 (0, 0)) := by
  obtain ⟨_, c, hc⟩ := typed14 h hg
  exact ne_typR hc h1
theorem LaidAt.typR {W : World} {sb : Nat} {p : Loc} {S : SpV} (h : LaidAt W sb p S) {k : Nat} (hk : foot15 sb p k) {c : Array Value} : W.heap[k]? ≠ some (.cells c 130 (0, 0)) := by
  rcases hk with rfl | rfl | rfl | rfl | e | e
  · exact ne_typR h.box (by decide)
  · exact ne_typR h.mem.head (by decide)
  · obtain ⟨cur, hc, _⟩ := h.mem.row; exact ne_typR hc (by decide)
  · exact ne_typR h.tape.box (by decide)
  · exact own_typR h.tape.done (by decide) e
  · exact own_typR h.links (by decide) e
theorem SpAt.typR {W : World} {sb : Nat} {p : Loc} {S : SpV} (h : SpAt W sb p S) {k : Nat} (hk : foot15 sb p k) {c : Array Value} : W.heap[k]? ≠ some (.cells c 130 (0, 0)) := by
  rcases h with h | h
  · exact h.typR hk
  · rw [h.isSb hk]; exact ne_typR h.box (by decide)
def KeepR (W W' : World) : Prop := ∀ (k : Nat) (c : Array Value), W.heap[k]? = some (.cells c 130 (0, 0)) → W'.heap[k]? = W.heap[k]?
section
variable {w W : World} {lo i j sb rb : Nat} {l : List It} {S : SpV}
set_option maxRecDepth 100000
set_option maxHeartbeats 16000000
theorem does15_4 (h : Spaces w lo W l) (hi : l[i]? = some (.sp sb S)) (hj : l[j]? = some (.rs rb S)) (hij : i ≠ j) (hf : S.done.length < 100000) (hin : S.inp.length ≤ 1000000) (A : ActS) (hA : A.ok w w.heap.size) (hal : A.args.length ≤ 20) (hk : A.kind = 4) :
    Calls Tryz.prog 23 #[.pointer (some ⟨sb, 0, none⟩), .pointer (some ⟨rb, 0, none⟩), .agg A.arr] W (SpsDone w lo ((l.set i (.sp sb (S.callS A.n A.args A.r A.back))).set j (.rs rb (S.callS A.n A.args A.r A.back))) (.bool true)) := by
  have hA1 := hA.below h.bel (Nat.le_refl _)
  obtain ⟨AK, AR, AN, AB, AV, AX, AA, AE, AC⟩ := A
  obtain ⟨XA, xc, hxe⟩ := hA.b.len
  simp only at hxe
  subst hxe
  have hil : i < l.length := (List.getElem?_eq_some_iff.1 hi).1
  have hjl : j < l.length := (List.getElem?_eq_some_iff.1 hj).1
  obtain ⟨ak, ar, an, abk, av, ax, aa, ae⟩ := hA1
  obtain ⟨_, _, _, _, _, ax0, _, _⟩ := hA
  simp only at ak ar an abk av ax ax0 aa ae hk
  have HAX := Lib.hid ax0
  have HAA := Lib.hid aa
  have HIN := Lib.hid hin
  obtain ⟨n, hn⟩ : ∃ n, n = AA.length := ⟨_, rfl⟩
  rw [← hn] at HAX
  have HNN := Lib.hid hn
  have harr : ActS.arr ⟨AK, AR, AN, AB, AV, .slice XA AA.length xc, AA, AE, AC⟩ = #[.int .i64 AK, .int .i64 AR, .int .i64 AN, .int .i64 AB, .int .u64 AV, .slice XA n xc, .int .i64 AE, .int .i64 AC] := by rw [hn]; rfl
  rw [harr]
  have hb := h.addBox #[.int .i64 AK, .int .i64 AR, .int .i64 AN, .int .i64 AB, .int .u64 AV, .slice XA n xc, .int .i64 AE, .int .i64 AC] 47
  have hx0 := heap_alloc_new W (.cells #[.int .i64 AK, .int .i64 AR, .int .i64 AN, .int .i64 AB, .int .u64 AV, .slice XA n xc, .int .i64 AE, .int .i64 AC] 47)
  obtain ⟨W0, hW0⟩ : ∃ W0, W0 = W.alloc (.cells #[.int .i64 AK, .int .i64 AR, .int .i64 AN, .int .i64 AB, .int .u64 AV, .slice XA n xc, .int .i64 AE, .int .i64 AC] 47) := ⟨_, rfl⟩
  rw [← hW0] at hb hx0
  have HW := Lib.hid hW0
  clear hW0
  have hab0 : W.heap.size = W.heap.size := rfl
  obtain ⟨ab, hab⟩ : ∃ ab, ab = W.heap.size := ⟨_, rfl⟩
  have HAB := Lib.hid hab
  rw [← hab] at hb hx0
  have HI0 : Hid ((l ++ [(It.box ab #[.int .i64 AK, .int .i64 AR, .int .i64 AN, .int .i64 AB, .int .u64 AV, .slice XA n xc, .int .i64 AE, .int .i64 AC] 47)])[i]? = some (.sp sb S)) := Lib.hid (by rw [List.getElem?_append_left hil]; exact hi)
  have HJ0 : Hid ((l ++ [(It.box ab #[.int .i64 AK, .int .i64 AR, .int .i64 AN, .int .i64 AB, .int .u64 AV, .slice XA n xc, .int .i64 AE, .int .i64 AC] 47)])[j]? = some (.rs rb S)) := Lib.hid (by rw [List.getElem?_append_left hjl]; exact hj)
  have HJ1 : Hid (∀ x, ((l ++ [(It.box ab #[.int .i64 AK, .int .i64 AR, .int .i64 AN, .int .i64 AB, .int .u64 AV, .slice XA n xc, .int .i64 AE, .int .i64 AC] 47)]).set i x)[j]? = some (.rs rb S)) := Lib.hid (fun x => by rw [List.getElem?_set_ne hij]; exact HJ0.out)
  have HI1 : Hid (∀ x, ((l ++ [(It.box ab #[.int .i64 AK, .int .i64 AR, .int .i64 AN, .int .i64 AB, .int .u64 AV, .slice XA n xc, .int .i64 AE, .int .i64 AC] 47)]).set i x)[i]? = some x) := Lib.hid (fun x => by rw [List.getElem?_set_self (by simp; omega)])
  have HB0 : Hid ((l ++ [(It.box ab #[.int .i64 AK, .int .i64 AR, .int .i64 AN, .int .i64 AB, .int .u64 AV, .slice XA n xc, .int .i64 AE, .int .i64 AC] 47)])[l.length]? = some (It.box ab #[.int .i64 AK, .int .i64 AR, .int .i64 AN, .int .i64 AB, .int .u64 AV, .slice XA n xc, .int .i64 AE, .int .i64 AC] 47)) := Lib.hid (by simp)
  have HB1 : Hid (∀ x, ((l ++ [(It.box ab #[.int .i64 AK, .int .i64 AR, .int .i64 AN, .int .i64 AB, .int .u64 AV, .slice XA n xc, .int .i64 AE, .int .i64 AC] 47)]).set i x)[l.length]? = some (It.box ab #[.int .i64 AK, .int .i64 AR, .int .i64 AN, .int .i64 AB, .int .u64 AV, .slice XA n xc, .int .i64 AE, .int .i64 AC] 47)) := Lib.hid (fun x => by rw [List.getElem?_set_ne (by omega)]; simp)
  have HB2 : Hid (∀ x y, (((l ++ [(It.box ab #[.int .i64 AK, .int .i64 AR, .int .i64 AN, .int .i64 AB, .int .u64 AV, .slice XA n xc, .int .i64 AE, .int .i64 AC] 47)]).set i x).set j y)[l.length]? = some (It.box ab #[.int .i64 AK, .int .i64 AR, .int .i64 AN, .int .i64 AB, .int .u64 AV, .slice XA n xc, .int .i64 AE, .int .i64 AC] 47)) := Lib.hid (fun x y => by rw [List.getElem?_set_ne (by omega), List.getElem?_set_ne (by omega)]; simp)
  have HBD := Lib.hid (hb.grow (Below.refl W0.heap.size W0).drew)
  have HB := Lib.hid hb
  have HL := Lib.hid (And.intro hil hjl)
  obtain ⟨c0, c1, c2, c3, c4, c5, c6, c7⟩ := cells8 hx0
  have K0 : Hid ((fun V => V.cell? ⟨ab, 0, none⟩ = some (.int .i64 AK) ∧ V.cell? ⟨ab, 1, none⟩ = some (.int .i64 AR) ∧ V.cell? ⟨ab, 2, none⟩ = some (.int .i64 AN) ∧ V.cell? ⟨ab, 3, none⟩ = some (.int .i64 AB) ∧ V.cell? ⟨ab, 4, none⟩ = some (.int .u64 AV) ∧ V.cell? ⟨ab, 5, none⟩ = some (.slice XA n xc) ∧ V.cell? ⟨ab, 6, none⟩ = some (.int .i64 AE) ∧ V.cell? ⟨ab, 7, none⟩ = some (.int .i64 AC)) W0.drew) := Lib.hid (cells8 (HBD.out.boxAt HB0.out))
  have HAR := Lib.hid (And.intro ar (And.intro an abk))
  have hq : (S.callE AN AA AR AB == S.callE AN AA AR AB) = true := by simp
  simp only at hal
  have HAL := Lib.hid hal
  have HIJ := Lib.hid hij
  have hsm : sameL AA AA = true := decide_eq_true rfl
  have HM := Lib.hid (show OutN W0.heap.size (W0.alloc (.cells #[] 3)) (.slice (some ⟨W0.heap.size, 0, none⟩) 0 0) [] from Owns.made W0 W0.heap.size 3 1 (IsNum .i64) (Nat.le_refl _))
  have HBE := Lib.hid (below_one14 W0 (.cells #[] 3))
  have HXA := Lib.hid (HAX.out.below (hb.bel.trans ((below_one14 W0 (.cells #[] 3)).mono hb.bel.size)) (Nat.le_refl _))
  obtain ⟨a0, a1, a2, a3, a4, a5, a6, a7⟩ := cells8 (((below_one14 W0 (.cells #[] 3)).block _ (heap_lt hx0)).trans hx0)
  subst hk
  clear h hi hj hij hil hjl hx0 ak ar an abk av ax ax0 aa ae harr hn hf hin hab0 hab hal hb
  go_enter Tryz.func23, Tryz.ntmps23
  go_upto_region 15 with (first
    | (rw [← HW.out, ← HAB.out])
    | (at_builtin; refine wpList_outS15 rfl (.tmp 82) (.tmp 84) rfl rfl rfl HM.out HXA.out HBE.out.size (by have := HAL.out; simp; omega) ?_; intro V1 w1 ho hb1; rw [List.nil_append] at ho; obtain ⟨vA, vc, hve⟩ := owns_len14 ho; rw [← HNN.out] at hve; subst hve; have HO1 := Lib.hid ho; have HB1w := Lib.hid (HBE.out.trans (hb1.mono (Nat.le_refl _))); clear ho hb1))
  obtain ⟨eb, ec, et, hs1, hE⟩ := own_box15 HB.out HB0.out HB1w.out HO1.out
  have HE := Lib.hid hE
  have HS1 := Lib.hid hs1
  have HD1 := Lib.hid (hs1.grow (Below.refl w1.heap.size w1).drew)
  have HI2 : Hid (((l ++ [(It.box ab #[.int .i64 4, .int .i64 AR, .int .i64 AN, .int .i64 AB, .int .u64 AV, .slice XA n xc, .int .i64 AE, .int .i64 AC] 47)]) ++ [It.box eb ec et])[i]? = some (.sp sb S)) := Lib.hid (by rw [List.getElem?_append_left (by simp; have := HL.out.1; omega)]; exact HI0.out)
  have HI3 : Hid (∀ x, (((l ++ [(It.box ab #[.int .i64 4, .int .i64 AR, .int .i64 AN, .int .i64 AB, .int .u64 AV, .slice XA n xc, .int .i64 AE, .int .i64 AC] 47)]) ++ [It.box eb ec et]).set i x)[j]? = some (.rs rb S)) := Lib.hid (fun x => by rw [List.getElem?_set_ne HIJ.out, List.getElem?_append_left (by simp; have := HL.out.2; omega)]; exact HJ0.out)
  have HA1 : Hid (∀ x, (((l ++ [(It.box ab #[.int .i64 4, .int .i64 AR, .int .i64 AN, .int .i64 AB, .int .u64 AV, .slice XA n xc, .int .i64 AE, .int .i64 AC] 47)]) ++ [It.box eb ec et]).set i x)[l.length]? = some (It.box ab #[.int .i64 4, .int .i64 AR, .int .i64 AN, .int .i64 AB, .int .u64 AV, .slice XA n xc, .int .i64 AE, .int .i64 AC] 47)) := Lib.hid (fun x => by rw [List.getElem?_set_ne (by have := HL.out.1; omega), List.getElem?_append_left (by simp)]; simp)
  have HA2 : Hid (∀ x y, ((((l ++ [(It.box ab #[.int .i64 4, .int .i64 AR, .int .i64 AN, .int .i64 AB, .int .u64 AV, .slice XA n xc, .int .i64 AE, .int .i64 AC] 47)]) ++ [It.box eb ec et]).set i x).set j y)[l.length]? = some (It.box ab #[.int .i64 4, .int .i64 AR, .int .i64 AN, .int .i64 AB, .int .u64 AV, .slice XA n xc, .int .i64 AE, .int .i64 AC] 47)) := Lib.hid (fun x y => by rw [List.getElem?_set_ne (by have := HL.out.2; omega)]; exact HA1.out x)
  have HE2 : Hid (∀ x y, ((((l ++ [(It.box ab #[.int .i64 4, .int .i64 AR, .int .i64 AN, .int .i64 AB, .int .u64 AV, .slice XA n xc, .int .i64 AE, .int .i64 AC] 47)]) ++ [It.box eb ec et]).set i x).set j y)[l.length + 1]? = some (It.box eb ec et)) := Lib.hid (fun x y => by rw [List.getElem?_set_ne (by have := HL.out.2; omega), List.getElem?_set_ne (by have := HL.out.1; omega), List.getElem?_append_right (by simp)]; simp)
  have HC := Lib.hid (sp_call HD1.out HI2.out AN AR AB _ AA HAR.out.2.1 HAR.out.1 HAR.out.2.2 ⟨HAA.out, .inr ⟨_, _, HO1.out.drew⟩⟩)
  have HA0 : Hid (((l ++ [(It.box ab #[.int .i64 4, .int .i64 AR, .int .i64 AN, .int .i64 AB, .int .u64 AV, .slice XA n xc, .int .i64 AE, .int .i64 AC] 47)]) ++ [It.box eb ec et])[l.length]? = some (It.box ab #[.int .i64 4, .int .i64 AR, .int .i64 AN, .int .i64 AB, .int .u64 AV, .slice XA n xc, .int .i64 AE, .int .i64 AC] 47)) := Lib.hid (by rw [List.getElem?_append_left (by simp)]; simp)
  have K1 : Hid ((fun V => V.cell? ⟨ab, 0, none⟩ = some (.int .i64 4) ∧ V.cell? ⟨ab, 1, none⟩ = some (.int .i64 AR) ∧ V.cell? ⟨ab, 2, none⟩ = some (.int .i64 AN) ∧ V.cell? ⟨ab, 3, none⟩ = some (.int .i64 AB) ∧ V.cell? ⟨ab, 4, none⟩ = some (.int .u64 AV) ∧ V.cell? ⟨ab, 5, none⟩ = some (.slice XA n xc) ∧ V.cell? ⟨ab, 6, none⟩ = some (.int .i64 AE) ∧ V.cell? ⟨ab, 7, none⟩ = some (.int .i64 AC)) w1.drew) := Lib.hid (cells8 (HD1.out.boxAt HA0.out))
  obtain ⟨b0, b1, b2, b3, b4, b5, b6, b7⟩ := cells8 (HS1.out.boxAt HA0.out)
  clear hs1 hE c0 c1 c2 c3 c4 c5 c6 c7 a0 a1 a2 a3 a4 a5 a6 a7
  go_region_held3 (fun V => V.cell? ⟨ab, 0, none⟩ = some (.int .i64 4) ∧ V.cell? ⟨ab, 1, none⟩ = some (.int .i64 AR) ∧ V.cell? ⟨ab, 2, none⟩ = some (.int .i64 AN) ∧ V.cell? ⟨ab, 3, none⟩ = some (.int .i64 AB) ∧ V.cell? ⟨ab, 4, none⟩ = some (.int .u64 AV) ∧ V.cell? ⟨ab, 5, none⟩ = some (.slice XA n xc) ∧ V.cell? ⟨ab, 6, none⟩ = some (.int .i64 AE) ∧ V.cell? ⟨ab, 7, none⟩ = some (.int .i64 AC))
    (first | with_reducible exact K4.out | with_reducible exact K3.out | with_reducible exact K2.out | with_reducible exact K1.out | go_keep)
    (first
      | (go_at_call 40; (with_reducible refine HC.out.mono ?_); rintro e w2 ⟨rfl, hs⟩; have HS2 := Lib.hid hs; have HC2 := Lib.hid (rs_call hs (HI3.out _) AN AR AB (.slice XA n xc) AA HAR.out.2.1 HAR.out.1 HAR.out.2.2 ⟨HAA.out, .inl ((HAX.out.below hs.bel (Nat.le_refl _)).more hs.low)⟩); have K2 : Hid ((fun V => V.cell? ⟨ab, 0, none⟩ = some (.int .i64 4) ∧ V.cell? ⟨ab, 1, none⟩ = some (.int .i64 AR) ∧ V.cell? ⟨ab, 2, none⟩ = some (.int .i64 AN) ∧ V.cell? ⟨ab, 3, none⟩ = some (.int .i64 AB) ∧ V.cell? ⟨ab, 4, none⟩ = some (.int .u64 AV) ∧ V.cell? ⟨ab, 5, none⟩ = some (.slice XA n xc) ∧ V.cell? ⟨ab, 6, none⟩ = some (.int .i64 AE) ∧ V.cell? ⟨ab, 7, none⟩ = some (.int .i64 AC)) w2) := Lib.hid (cells8 (hs.boxAt (HA1.out _))); clear hs)
      | (go_at_call 87; (with_reducible refine HC2.out.mono ?_); rintro e w3 ⟨rfl, hs⟩; have HS3 := Lib.hid hs; have HC3 := Lib.hid (sameInts_any _ _ AA AA w3 _ _ (IsNums.of_owns (HE.out w3 (hs.boxAt (HE2.out _ _))) (Nat.le_refl _)) (HAX.out.below hs.bel (Nat.le_refl _))); rw [hsm] at HC3; have K3 : Hid ((fun V => V.cell? ⟨ab, 0, none⟩ = some (.int .i64 4) ∧ V.cell? ⟨ab, 1, none⟩ = some (.int .i64 AR) ∧ V.cell? ⟨ab, 2, none⟩ = some (.int .i64 AN) ∧ V.cell? ⟨ab, 3, none⟩ = some (.int .i64 AB) ∧ V.cell? ⟨ab, 4, none⟩ = some (.int .u64 AV) ∧ V.cell? ⟨ab, 5, none⟩ = some (.slice XA n xc) ∧ V.cell? ⟨ab, 6, none⟩ = some (.int .i64 AE) ∧ V.cell? ⟨ab, 7, none⟩ = some (.int .i64 AC)) w3) := Lib.hid (cells8 (hs.boxAt (HA2.out _ _))); clear hs)
      | (go_at_call 88; (with_reducible refine HC3.out.mono ?_); rintro e w4 ⟨rfl, q, hw⟩; have HS4 := Lib.hid (HS3.out.grow (below_drewN14 hw)); have K4 : Hid ((fun V => V.cell? ⟨ab, 0, none⟩ = some (.int .i64 4) ∧ V.cell? ⟨ab, 1, none⟩ = some (.int .i64 AR) ∧ V.cell? ⟨ab, 2, none⟩ = some (.int .i64 AN) ∧ V.cell? ⟨ab, 3, none⟩ = some (.int .i64 AB) ∧ V.cell? ⟨ab, 4, none⟩ = some (.int .u64 AV) ∧ V.cell? ⟨ab, 5, none⟩ = some (.slice XA n xc) ∧ V.cell? ⟨ab, 6, none⟩ = some (.int .i64 AE) ∧ V.cell? ⟨ab, 7, none⟩ = some (.int .i64 AC)) w4) := Lib.hid (cells8 (HS4.out.boxAt (HA2.out _ _))); clear hw))
  all_goals
    go_wp2
    go_ret
    exact ⟨rfl, (HS4.out.drop2 (by simp; have := HL.out.1; omega) (by simp; have := HL.out.2; omega) _ _).drop2 HL.out.1 HL.out.2 _ _⟩
theorem does15_5 (h : Spaces w lo W l) (hi : l[i]? = some (.sp sb S)) (hj : l[j]? = some (.rs rb S)) (hij : i ≠ j) (hf : S.done.length < 100000) (hin : S.inp.length ≤ 1000000) (A : ActS) (hA : A.ok w w.heap.size) (hal : A.args.length ≤ 20) (hk : A.kind = 5) :
    Calls Tryz.prog 23 #[.pointer (some ⟨sb, 0, none⟩), .pointer (some ⟨rb, 0, none⟩), .agg A.arr] W (SpsDone w lo ((l.set i (.sp sb (S.callS A.n A.args A.r A.back))).set j (.rs rb (S.callS A.n A.args A.r A.back))) (.bool true)) := by
  have hA1 := hA.below h.bel (Nat.le_refl _)
  obtain ⟨AK, AR, AN, AB, AV, AX, AA, AE, AC⟩ := A
  obtain ⟨XA, xc, hxe⟩ := hA.b.len
  simp only at hxe
  subst hxe
  have hil : i < l.length := (List.getElem?_eq_some_iff.1 hi).1
  have hjl : j < l.length := (List.getElem?_eq_some_iff.1 hj).1
  obtain ⟨ak, ar, an, abk, av, ax, aa, ae⟩ := hA1
  obtain ⟨_, _, _, _, _, ax0, _, _⟩ := hA
  simp only at ak ar an abk av ax ax0 aa ae hk
  have HAX := Lib.hid ax0
  have HAA := Lib.hid aa
  have HIN := Lib.hid hin
  obtain ⟨n, hn⟩ : ∃ n, n = AA.length := ⟨_, rfl⟩
  rw [← hn] at HAX
  have HNN := Lib.hid hn
  have harr : ActS.arr ⟨AK, AR, AN, AB, AV, .slice XA AA.length xc, AA, AE, AC⟩ = #[.int .i64 AK, .int .i64 AR, .int .i64 AN, .int .i64 AB, .int .u64 AV, .slice XA n xc, .int .i64 AE, .int .i64 AC] := by rw [hn]; rfl
  rw [harr]
  have hb := h.addBox #[.int .i64 AK, .int .i64 AR, .int .i64 AN, .int .i64 AB, .int .u64 AV, .slice XA n xc, .int .i64 AE, .int .i64 AC] 47
  have hx0 := heap_alloc_new W (.cells #[.int .i64 AK, .int .i64 AR, .int .i64 AN, .int .i64 AB, .int .u64 AV, .slice XA n xc, .int .i64 AE, .int .i64 AC] 47)
  obtain ⟨W0, hW0⟩ : ∃ W0, W0 = W.alloc (.cells #[.int .i64 AK, .int .i64 AR, .int .i64 AN, .int .i64 AB, .int .u64 AV, .slice XA n xc, .int .i64 AE, .int .i64 AC] 47) := ⟨_, rfl⟩
  rw [← hW0] at hb hx0
  have HW := Lib.hid hW0
  clear hW0
  have hab0 : W.heap.size = W.heap.size := rfl
  obtain ⟨ab, hab⟩ : ∃ ab, ab = W.heap.size := ⟨_, rfl⟩
  have HAB := Lib.hid hab
  rw [← hab] at hb hx0
  have HI0 : Hid ((l ++ [(It.box ab #[.int .i64 AK, .int .i64 AR, .int .i64 AN, .int .i64 AB, .int .u64 AV, .slice XA n xc, .int .i64 AE, .int .i64 AC] 47)])[i]? = some (.sp sb S)) := Lib.hid (by rw [List.getElem?_append_left hil]; exact hi)
  have HJ0 : Hid ((l ++ [(It.box ab #[.int .i64 AK, .int .i64 AR, .int .i64 AN, .int .i64 AB, .int .u64 AV, .slice XA n xc, .int .i64 AE, .int .i64 AC] 47)])[j]? = some (.rs rb S)) := Lib.hid (by rw [List.getElem?_append_left hjl]; exact hj)
  have HJ1 : Hid (∀ x, ((l ++ [(It.box ab #[.int .i64 AK, .int .i64 AR, .int .i64 AN, .int .i64 AB, .int .u64 AV, .slice XA n xc, .int .i64 AE, .int .i64 AC] 47)]).set i x)[j]? = some (.rs rb S)) := Lib.hid (fun x => by rw [List.getElem?_set_ne hij]; exact HJ0.out)
  have HI1 : Hid (∀ x, ((l ++ [(It.box ab #[.int .i64 AK, .int .i64 AR, .int .i64 AN, .int .i64 AB, .int .u64 AV, .slice XA n xc, .int .i64 AE, .int .i64 AC] 47)]).set i x)[i]? = some x) := Lib.hid (fun x => by rw [List.getElem?_set_self (by simp; omega)])
  have HB0 : Hid ((l ++ [(It.box ab #[.int .i64 AK, .int .i64 AR, .int .i64 AN, .int .i64 AB, .int .u64 AV, .slice XA n xc, .int .i64 AE, .int .i64 AC] 47)])[l.length]? = some (It.box ab #[.int .i64 AK, .int .i64 AR, .int .i64 AN, .int .i64 AB, .int .u64 AV, .slice XA n xc, .int .i64 AE, .int .i64 AC] 47)) := Lib.hid (by simp)
  have HB1 : Hid (∀ x, ((l ++ [(It.box ab #[.int .i64 AK, .int .i64 AR, .int .i64 AN, .int .i64 AB, .int .u64 AV, .slice XA n xc, .int .i64 AE, .int .i64 AC] 47)]).set i x)[l.length]? = some (It.box ab #[.int .i64 AK, .int .i64 AR, .int .i64 AN, .int .i64 AB, .int .u64 AV, .slice XA n xc, .int .i64 AE, .int .i64 AC] 47)) := Lib.hid (fun x => by rw [List.getElem?_set_ne (by omega)]; simp)
  have HB2 : Hid (∀ x y, (((l ++ [(It.box ab #[.int .i64 AK, .int .i64 AR, .int .i64 AN, .int .i64 AB, .int .u64 AV, .slice XA n xc, .int .i64 AE, .int .i64 AC] 47)]).set i x).set j y)[l.length]? = some (It.box ab #[.int .i64 AK, .int .i64 AR, .int .i64 AN, .int .i64 AB, .int .u64 AV, .slice XA n xc, .int .i64 AE, .int .i64 AC] 47)) := Lib.hid (fun x y => by rw [List.getElem?_set_ne (by omega), List.getElem?_set_ne (by omega)]; simp)
  have HBD := Lib.hid (hb.grow (Below.refl W0.heap.size W0).drew)
  have HB := Lib.hid hb
  have HL := Lib.hid (And.intro hil hjl)
  obtain ⟨c0, c1, c2, c3, c4, c5, c6, c7⟩ := cells8 hx0
  have K0 : Hid ((fun V => V.cell? ⟨ab, 0, none⟩ = some (.int .i64 AK) ∧ V.cell? ⟨ab, 1, none⟩ = some (.int .i64 AR) ∧ V.cell? ⟨ab, 2, none⟩ = some (.int .i64 AN) ∧ V.cell? ⟨ab, 3, none⟩ = some (.int .i64 AB) ∧ V.cell? ⟨ab, 4, none⟩ = some (.int .u64 AV) ∧ V.cell? ⟨ab, 5, none⟩ = some (.slice XA n xc) ∧ V.cell? ⟨ab, 6, none⟩ = some (.int .i64 AE) ∧ V.cell? ⟨ab, 7, none⟩ = some (.int .i64 AC)) W0.drew) := Lib.hid (cells8 (HBD.out.boxAt HB0.out))
  have HAR := Lib.hid (And.intro ar (And.intro an abk))
  have hq : (S.callE AN AA AR AB == S.callE AN AA AR AB) = true := by simp
  simp only at hal
  have HAL := Lib.hid hal
  have HIJ := Lib.hid hij
  have hsm : sameL AA AA = true := decide_eq_true rfl
  have HM := Lib.hid (show OutN W0.heap.size (W0.alloc (.cells #[] 3)) (.slice (some ⟨W0.heap.size, 0, none⟩) 0 0) [] from Owns.made W0 W0.heap.size 3 1 (IsNum .i64) (Nat.le_refl _))
  have HBE := Lib.hid (below_one14 W0 (.cells #[] 3))
  have HXA := Lib.hid (HAX.out.below (hb.bel.trans ((below_one14 W0 (.cells #[] 3)).mono hb.bel.size)) (Nat.le_refl _))
  obtain ⟨a0, a1, a2, a3, a4, a5, a6, a7⟩ := cells8 (((below_one14 W0 (.cells #[] 3)).block _ (heap_lt hx0)).trans hx0)
  subst hk
  clear h hi hj hij hil hjl hx0 ak ar an abk av ax ax0 aa ae harr hn hf hin hab0 hab hal hb
  go_enter Tryz.func23, Tryz.ntmps23
  go_upto_region 15 with (first
    | (rw [← HW.out, ← HAB.out])
    | (at_builtin; refine wpList_outS15 rfl (.tmp 82) (.tmp 84) rfl rfl rfl HM.out HXA.out HBE.out.size (by have := HAL.out; simp; omega) ?_; intro V1 w1 ho hb1; rw [List.nil_append] at ho; obtain ⟨vA, vc, hve⟩ := owns_len14 ho; rw [← HNN.out] at hve; subst hve; have HO1 := Lib.hid ho; have HB1w := Lib.hid (HBE.out.trans (hb1.mono (Nat.le_refl _))); clear ho hb1))
  obtain ⟨eb, ec, et, hs1, hE⟩ := own_box15 HB.out HB0.out HB1w.out HO1.out
  have HE := Lib.hid hE
  have HS1 := Lib.hid hs1
  have HD1 := Lib.hid (hs1.grow (Below.refl w1.heap.size w1).drew)
  have HI2 : Hid (((l ++ [(It.box ab #[.int .i64 5, .int .i64 AR, .int .i64 AN, .int .i64 AB, .int .u64 AV, .slice XA n xc, .int .i64 AE, .int .i64 AC] 47)]) ++ [It.box eb ec et])[i]? = some (.sp sb S)) := Lib.hid (by rw [List.getElem?_append_left (by simp; have := HL.out.1; omega)]; exact HI0.out)
  have HI3 : Hid (∀ x, (((l ++ [(It.box ab #[.int .i64 5, .int .i64 AR, .int .i64 AN, .int .i64 AB, .int .u64 AV, .slice XA n xc, .int .i64 AE, .int .i64 AC] 47)]) ++ [It.box eb ec et]).set i x)[j]? = some (.rs rb S)) := Lib.hid (fun x => by rw [List.getElem?_set_ne HIJ.out, List.getElem?_append_left (by simp; have := HL.out.2; omega)]; exact HJ0.out)
  have HA1 : Hid (∀ x, (((l ++ [(It.box ab #[.int .i64 5, .int .i64 AR, .int .i64 AN, .int .i64 AB, .int .u64 AV, .slice XA n xc, .int .i64 AE, .int .i64 AC] 47)]) ++ [It.box eb ec et]).set i x)[l.length]? = some (It.box ab #[.int .i64 5, .int .i64 AR, .int .i64 AN, .int .i64 AB, .int .u64 AV, .slice XA n xc, .int .i64 AE, .int .i64 AC] 47)) := Lib.hid (fun x => by rw [List.getElem?_set_ne (by have := HL.out.1; omega), List.getElem?_append_left (by simp)]; simp)
  have HA2 : Hid (∀ x y, ((((l ++ [(It.box ab #[.int .i64 5, .int .i64 AR, .int .i64 AN, .int .i64 AB, .int .u64 AV, .slice XA n xc, .int .i64 AE, .int .i64 AC] 47)]) ++ [It.box eb ec et]).set i x).set j y)[l.length]? = some (It.box ab #[.int .i64 5, .int .i64 AR, .int .i64 AN, .int .i64 AB, .int .u64 AV, .slice XA n xc, .int .i64 AE, .int .i64 AC] 47)) := Lib.hid (fun x y => by rw [List.getElem?_set_ne (by have := HL.out.2; omega)]; exact HA1.out x)
  have HE2 : Hid (∀ x y, ((((l ++ [(It.box ab #[.int .i64 5, .int .i64 AR, .int .i64 AN, .int .i64 AB, .int .u64 AV, .slice XA n xc, .int .i64 AE, .int .i64 AC] 47)]) ++ [It.box eb ec et]).set i x).set j y)[l.length + 1]? = some (It.box eb ec et)) := Lib.hid (fun x y => by rw [List.getElem?_set_ne (by have := HL.out.2; omega), List.getElem?_set_ne (by have := HL.out.1; omega), List.getElem?_append_right (by simp)]; simp)
  have HC := Lib.hid (sp_call HD1.out HI2.out AN AR AB _ AA HAR.out.2.1 HAR.out.1 HAR.out.2.2 ⟨HAA.out, .inr ⟨_, _, HO1.out.drew⟩⟩)
  have HA0 : Hid (((l ++ [(It.box ab #[.int .i64 5, .int .i64 AR, .int .i64 AN, .int .i64 AB, .int .u64 AV, .slice XA n xc, .int .i64 AE, .int .i64 AC] 47)]) ++ [It.box eb ec et])[l.length]? = some (It.box ab #[.int .i64 5, .int .i64 AR, .int .i64 AN, .int .i64 AB, .int .u64 AV, .slice XA n xc, .int .i64 AE, .int .i64 AC] 47)) := Lib.hid (by rw [List.getElem?_append_left (by simp)]; simp)
  have K1 : Hid ((fun V => V.cell? ⟨ab, 0, none⟩ = some (.int .i64 5) ∧ V.cell? ⟨ab, 1, none⟩ = some (.int .i64 AR) ∧ V.cell? ⟨ab, 2, none⟩ = some (.int .i64 AN) ∧ V.cell? ⟨ab, 3, none⟩ = some (.int .i64 AB) ∧ V.cell? ⟨ab, 4, none⟩ = some (.int .u64 AV) ∧ V.cell? ⟨ab, 5, none⟩ = some (.slice XA n xc) ∧ V.cell? ⟨ab, 6, none⟩ = some (.int .i64 AE) ∧ V.cell? ⟨ab, 7, none⟩ = some (.int .i64 AC)) w1.drew) := Lib.hid (cells8 (HD1.out.boxAt HA0.out))
  obtain ⟨b0, b1, b2, b3, b4, b5, b6, b7⟩ := cells8 (HS1.out.boxAt HA0.out)
  clear hs1 hE c0 c1 c2 c3 c4 c5 c6 c7 a0 a1 a2 a3 a4 a5 a6 a7
  go_region_held3 (fun V => V.cell? ⟨ab, 0, none⟩ = some (.int .i64 5) ∧ V.cell? ⟨ab, 1, none⟩ = some (.int .i64 AR) ∧ V.cell? ⟨ab, 2, none⟩ = some (.int .i64 AN) ∧ V.cell? ⟨ab, 3, none⟩ = some (.int .i64 AB) ∧ V.cell? ⟨ab, 4, none⟩ = some (.int .u64 AV) ∧ V.cell? ⟨ab, 5, none⟩ = some (.slice XA n xc) ∧ V.cell? ⟨ab, 6, none⟩ = some (.int .i64 AE) ∧ V.cell? ⟨ab, 7, none⟩ = some (.int .i64 AC))
    (first | with_reducible exact K4.out | with_reducible exact K3.out | with_reducible exact K2.out | with_reducible exact K1.out | go_keep)
    (first
      | (go_at_call 40; (with_reducible refine HC.out.mono ?_); rintro e w2 ⟨rfl, hs⟩; have HS2 := Lib.hid hs; have HC2 := Lib.hid (rs_call hs (HI3.out _) AN AR AB (.slice XA n xc) AA HAR.out.2.1 HAR.out.1 HAR.out.2.2 ⟨HAA.out, .inl ((HAX.out.below hs.bel (Nat.le_refl _)).more hs.low)⟩); have K2 : Hid ((fun V => V.cell? ⟨ab, 0, none⟩ = some (.int .i64 5) ∧ V.cell? ⟨ab, 1, none⟩ = some (.int .i64 AR) ∧ V.cell? ⟨ab, 2, none⟩ = some (.int .i64 AN) ∧ V.cell? ⟨ab, 3, none⟩ = some (.int .i64 AB) ∧ V.cell? ⟨ab, 4, none⟩ = some (.int .u64 AV) ∧ V.cell? ⟨ab, 5, none⟩ = some (.slice XA n xc) ∧ V.cell? ⟨ab, 6, none⟩ = some (.int .i64 AE) ∧ V.cell? ⟨ab, 7, none⟩ = some (.int .i64 AC)) w2) := Lib.hid (cells8 (hs.boxAt (HA1.out _))); clear hs)
      | (go_at_call 87; (with_reducible refine HC2.out.mono ?_); rintro e w3 ⟨rfl, hs⟩; have HS3 := Lib.hid hs; have HC3 := Lib.hid (sameInts_any _ _ AA AA w3 _ _ (IsNums.of_owns (HE.out w3 (hs.boxAt (HE2.out _ _))) (Nat.le_refl _)) (HAX.out.below hs.bel (Nat.le_refl _))); rw [hsm] at HC3; have K3 : Hid ((fun V => V.cell? ⟨ab, 0, none⟩ = some (.int .i64 5) ∧ V.cell? ⟨ab, 1, none⟩ = some (.int .i64 AR) ∧ V.cell? ⟨ab, 2, none⟩ = some (.int .i64 AN) ∧ V.cell? ⟨ab, 3, none⟩ = some (.int .i64 AB) ∧ V.cell? ⟨ab, 4, none⟩ = some (.int .u64 AV) ∧ V.cell? ⟨ab, 5, none⟩ = some (.slice XA n xc) ∧ V.cell? ⟨ab, 6, none⟩ = some (.int .i64 AE) ∧ V.cell? ⟨ab, 7, none⟩ = some (.int .i64 AC)) w3) := Lib.hid (cells8 (hs.boxAt (HA2.out _ _))); clear hs)
      | (go_at_call 88; (with_reducible refine HC3.out.mono ?_); rintro e w4 ⟨rfl, q, hw⟩; have HS4 := Lib.hid (HS3.out.grow (below_drewN14 hw)); have K4 : Hid ((fun V => V.cell? ⟨ab, 0, none⟩ = some (.int .i64 5) ∧ V.cell? ⟨ab, 1, none⟩ = some (.int .i64 AR) ∧ V.cell? ⟨ab, 2, none⟩ = some (.int .i64 AN) ∧ V.cell? ⟨ab, 3, none⟩ = some (.int .i64 AB) ∧ V.cell? ⟨ab, 4, none⟩ = some (.int .u64 AV) ∧ V.cell? ⟨ab, 5, none⟩ = some (.slice XA n xc) ∧ V.cell? ⟨ab, 6, none⟩ = some (.int .i64 AE) ∧ V.cell? ⟨ab, 7, none⟩ = some (.int .i64 AC)) w4) := Lib.hid (cells8 (HS4.out.boxAt (HA2.out _ _))); clear hw))
  all_goals
    go_wp2
    go_ret
    exact ⟨rfl, (HS4.out.drop2 (by simp; have := HL.out.1; omega) (by simp; have := HL.out.2; omega) _ _).drop2 HL.out.1 HL.out.2 _ _⟩
theorem sp_memoryR (h : Spaces w lo W l) (hi : l[i]? = some (.sp sb S)) : Calls Tryz.prog 30 #[.pointer (some ⟨sb, 0, none⟩)] W fun e W' => ∃ mb, e = .returned (.pointer (some ⟨mb, 0, none⟩)) ∧ Spaces w lo W' (l.set i (.sp sb S)) ∧ W'.cell? ⟨sb, 9, none⟩ = some (.pointer (some ⟨mb, 0, none⟩)) ∧ KeepR W W' := by
  obtain ⟨p, hp, hl, hm⟩ := h.move2 hi
  refine (tellM15 hp).mono ?_
  rintro e W' ⟨p', he, hv⟩
  exact ⟨p'.mb, he, hm _ _ _ hv.mv, hv.laid.cells.1.2.1, fun k c hk => hv.but.block k (heap_lt hk) (fun hf => SpAt.typR hp hf hk)⟩
theorem sp_storeR {mb : Nat} (h : Spaces w lo W l) (hi : l[i]? = some (.sp sb S)) (hc : W.cell? ⟨sb, 9, none⟩ = some (.pointer (some ⟨mb, 0, none⟩))) (a n v : Int) (ha : 0 ≤ a) (ha' : a < 18446744073709551616) (hn' : n < 9223372036854775808) (hv : 0 ≤ v) (hv' : v < 18446744073709551616) :
    Calls Tryz.prog 48 #[.pointer (some ⟨mb, 0, none⟩), .int .u64 a, .int .i64 n, .int .u64 v] W (fun e W' => SpsDone w lo (l.set i (.sp sb (S.memS a n v))) (.int .i64 (numE S.mem.length a n)) e W' ∧ KeepR W W') := by
  obtain ⟨p, hp, hl, hm⟩ := h.move2 hi
  obtain ⟨h1, rfl⟩ := laid_of15 hp hc
  refine (store_any h1.mem a n v ha ha' hn' hv hv').mono ?_
  rintro e W' ⟨he, hM, hb⟩
  exact ⟨⟨he, hm _ _ _ (h1.stored hM hb storeL_len).mv⟩, fun k c hk => hb.block k (heap_lt hk) (fun hf => SpAt.typR hp (.inr (.inr (.inl hf))) hk)⟩
theorem rs_storeR {mb : Nat} (h : Spaces w lo W l) (hi : l[i]? = some (.rs rb S)) (hc : W.cell? ⟨rb, 2, none⟩ = some (.pointer (some ⟨mb, 0, none⟩))) (a n v : Int) (ha : 0 ≤ a) (ha' : a < 18446744073709551616) (hn' : n < 9223372036854775808) (hv : 0 ≤ v) (hv' : v < 18446744073709551616) :
    Calls Tryz.prog 93 #[.pointer (some ⟨mb, 0, none⟩), .int .u64 a, .int .i64 n, .int .u64 v] W (fun e W' => SpsDone w lo (l.set i (.rs rb (S.memS a n v))) (.int .i64 (numE S.mem.length a n)) e W' ∧ W'.heap[rb]? = W.heap[rb]?) := by
  obtain ⟨p, hp, hl, hm⟩ := h.move2 hi
  have hp' : RsAt w.heap.size W rb p S := hp
  have hmb : p.mb = mb := by
    have h2 := hp'.cells.1.2.2.1
    rw [hc] at h2
    injection h2 with h2
    injection h2 with h2
    injection h2 with h2
    injection h2 with h2
    exact h2.symm
  subst hmb
  refine (rstore_any hp'.mem a n v ha ha' hn' hv hv').mono ?_
  rintro e W' ⟨he, hM, hb⟩
  have hB := Nat.le_trans h.low h.top
  refine ⟨⟨he, hm _ _ _ (Mv.rsOf (hp'.stored hB (fun k hk => Nat.le_trans h.low (hl k hk)) hM hb storeL_len) (hb.mono (fun k e => .inr (.inr (.inl e)))))⟩, hb.block rb (heap_lt hp'.box) (fun e => ?_)⟩
  have e' : rb = p.bb := e
  obtain ⟨cur, hc2, _⟩ := hp'.mem.row
  rw [← e'] at hc2
  exact types14 hc2 hp'.box (by decide)
theorem does15_10 (h : Spaces w lo W l) (hi : l[i]? = some (.sp sb S)) (hj : l[j]? = some (.rs rb S)) (hij : i ≠ j) (hf : S.done.length < 100000) (hin : S.inp.length ≤ 1000000) (A : ActS) (hA : A.ok w w.heap.size) (hk : A.kind = 10) :
    Calls Tryz.prog 23 #[.pointer (some ⟨sb, 0, none⟩), .pointer (some ⟨rb, 0, none⟩), .agg A.arr] W (SpsDone w lo ((l.set i (.sp sb (S.memS A.v 8 (wrapU A.n)))).set j (.rs rb (S.memS A.v 8 (wrapU A.n)))) (.bool true)) := by
  have hA1 := hA.below h.bel (Nat.le_refl _)
  obtain ⟨AK, AR, AN, AB, AV, AX, AA, AE, AC⟩ := A
  obtain ⟨XA, xc, hxe⟩ := hA.b.len
  simp only at hxe
  subst hxe
  have hil : i < l.length := (List.getElem?_eq_some_iff.1 hi).1
  have hjl : j < l.length := (List.getElem?_eq_some_iff.1 hj).1
  obtain ⟨ak, ar, an, abk, av, ax, aa, ae⟩ := hA1
  obtain ⟨_, _, _, _, _, ax0, _, _⟩ := hA
  simp only at ak ar an abk av ax ax0 aa ae hk
  have HAX := Lib.hid ax0
  have HAA := Lib.hid aa
  have HIN := Lib.hid hin
  obtain ⟨n, hn⟩ : ∃ n, n = AA.length := ⟨_, rfl⟩
  rw [← hn] at HAX
  have HNN := Lib.hid hn
  have harr : ActS.arr ⟨AK, AR, AN, AB, AV, .slice XA AA.length xc, AA, AE, AC⟩ = #[.int .i64 AK, .int .i64 AR, .int .i64 AN, .int .i64 AB, .int .u64 AV, .slice XA n xc, .int .i64 AE, .int .i64 AC] := by rw [hn]; rfl
  rw [harr]
  have hb := h.addBox #[.int .i64 AK, .int .i64 AR, .int .i64 AN, .int .i64 AB, .int .u64 AV, .slice XA n xc, .int .i64 AE, .int .i64 AC] 47
  have hx0 := heap_alloc_new W (.cells #[.int .i64 AK, .int .i64 AR, .int .i64 AN, .int .i64 AB, .int .u64 AV, .slice XA n xc, .int .i64 AE, .int .i64 AC] 47)
  obtain ⟨W0, hW0⟩ : ∃ W0, W0 = W.alloc (.cells #[.int .i64 AK, .int .i64 AR, .int .i64 AN, .int .i64 AB, .int .u64 AV, .slice XA n xc, .int .i64 AE, .int .i64 AC] 47) := ⟨_, rfl⟩
  rw [← hW0] at hb hx0
  have HW := Lib.hid hW0
  clear hW0
  have hab0 : W.heap.size = W.heap.size := rfl
  obtain ⟨ab, hab⟩ : ∃ ab, ab = W.heap.size := ⟨_, rfl⟩
  have HAB := Lib.hid hab
  rw [← hab] at hb hx0
  have HI0 : Hid ((l ++ [(It.box ab #[.int .i64 AK, .int .i64 AR, .int .i64 AN, .int .i64 AB, .int .u64 AV, .slice XA n xc, .int .i64 AE, .int .i64 AC] 47)])[i]? = some (.sp sb S)) := Lib.hid (by rw [List.getElem?_append_left hil]; exact hi)
  have HJ0 : Hid ((l ++ [(It.box ab #[.int .i64 AK, .int .i64 AR, .int .i64 AN, .int .i64 AB, .int .u64 AV, .slice XA n xc, .int .i64 AE, .int .i64 AC] 47)])[j]? = some (.rs rb S)) := Lib.hid (by rw [List.getElem?_append_left hjl]; exact hj)
  have HJ1 : Hid (∀ x, ((l ++ [(It.box ab #[.int .i64 AK, .int .i64 AR, .int .i64 AN, .int .i64 AB, .int .u64 AV, .slice XA n xc, .int .i64 AE, .int .i64 AC] 47)]).set i x)[j]? = some (.rs rb S)) := Lib.hid (fun x => by rw [List.getElem?_set_ne hij]; exact HJ0.out)
  have HI1 : Hid (∀ x, ((l ++ [(It.box ab #[.int .i64 AK, .int .i64 AR, .int .i64 AN, .int .i64 AB, .int .u64 AV, .slice XA n xc, .int .i64 AE, .int .i64 AC] 47)]).set i x)[i]? = some x) := Lib.hid (fun x => by rw [List.getElem?_set_self (by simp; omega)])
  have HB0 : Hid ((l ++ [(It.box ab #[.int .i64 AK, .int .i64 AR, .int .i64 AN, .int .i64 AB, .int .u64 AV, .slice XA n xc, .int .i64 AE, .int .i64 AC] 47)])[l.length]? = some (It.box ab #[.int .i64 AK, .int .i64 AR, .int .i64 AN, .int .i64 AB, .int .u64 AV, .slice XA n xc, .int .i64 AE, .int .i64 AC] 47)) := Lib.hid (by simp)
  have HB1 : Hid (∀ x, ((l ++ [(It.box ab #[.int .i64 AK, .int .i64 AR, .int .i64 AN, .int .i64 AB, .int .u64 AV, .slice XA n xc, .int .i64 AE, .int .i64 AC] 47)]).set i x)[l.length]? = some (It.box ab #[.int .i64 AK, .int .i64 AR, .int .i64 AN, .int .i64 AB, .int .u64 AV, .slice XA n xc, .int .i64 AE, .int .i64 AC] 47)) := Lib.hid (fun x => by rw [List.getElem?_set_ne (by omega)]; simp)
  have HB2 : Hid (∀ x y, (((l ++ [(It.box ab #[.int .i64 AK, .int .i64 AR, .int .i64 AN, .int .i64 AB, .int .u64 AV, .slice XA n xc, .int .i64 AE, .int .i64 AC] 47)]).set i x).set j y)[l.length]? = some (It.box ab #[.int .i64 AK, .int .i64 AR, .int .i64 AN, .int .i64 AB, .int .u64 AV, .slice XA n xc, .int .i64 AE, .int .i64 AC] 47)) := Lib.hid (fun x y => by rw [List.getElem?_set_ne (by omega), List.getElem?_set_ne (by omega)]; simp)
  have HBD := Lib.hid (hb.grow (Below.refl W0.heap.size W0).drew)
  have HB := Lib.hid hb
  have HL := Lib.hid (And.intro hil hjl)
  obtain ⟨c0, c1, c2, c3, c4, c5, c6, c7⟩ := cells8 hx0
  have K0 : Hid ((fun V => V.cell? ⟨ab, 0, none⟩ = some (.int .i64 AK) ∧ V.cell? ⟨ab, 1, none⟩ = some (.int .i64 AR) ∧ V.cell? ⟨ab, 2, none⟩ = some (.int .i64 AN) ∧ V.cell? ⟨ab, 3, none⟩ = some (.int .i64 AB) ∧ V.cell? ⟨ab, 4, none⟩ = some (.int .u64 AV) ∧ V.cell? ⟨ab, 5, none⟩ = some (.slice XA n xc) ∧ V.cell? ⟨ab, 6, none⟩ = some (.int .i64 AE) ∧ V.cell? ⟨ab, 7, none⟩ = some (.int .i64 AC)) W0.drew) := Lib.hid (cells8 (HBD.out.boxAt HB0.out))
  have HAV := Lib.hid av
  have hq : (numE S.mem.length AV 8 == numE S.mem.length AV 8) = true := by simp
  obtain ⟨pr, hpr⟩ := HBD.out.rsAt HJ0.out
  obtain ⟨mr, hmr⟩ : ∃ mr, mr = pr.mb := ⟨_, rfl⟩
  have hx1 : W0.drew.heap[rb]? = some (.cells (rbox15 pr S) 130 (0, 0)) := hpr.box
  have HRX := Lib.hid hx1
  have HRC : Hid (∀ V : World, V.heap[rb]? = some (.cells (rbox15 pr S) 130 (0, 0)) → V.cell? ⟨rb, 2, none⟩ = some (.pointer (some ⟨mr, 0, none⟩))) := Lib.hid (fun V hv => by rw [hmr]; exact (cells11r (show V.heap[rb]? = some (.cells #[_, _, _, _, _, _, _, _, _, _, _] 130 (0, 0)) from hv)).1.2.2.1)
  have HM := Lib.hid (sp_memoryR HBD.out HI0.out)
  have K1 : Hid ((fun V => V.cell? ⟨ab, 0, none⟩ = some (.int .i64 AK) ∧ V.cell? ⟨ab, 1, none⟩ = some (.int .i64 AR) ∧ V.cell? ⟨ab, 2, none⟩ = some (.int .i64 AN) ∧ V.cell? ⟨ab, 3, none⟩ = some (.int .i64 AB) ∧ V.cell? ⟨ab, 4, none⟩ = some (.int .u64 AV) ∧ V.cell? ⟨ab, 5, none⟩ = some (.slice XA n xc) ∧ V.cell? ⟨ab, 6, none⟩ = some (.int .i64 AE) ∧ V.cell? ⟨ab, 7, none⟩ = some (.int .i64 AC) ∧ V.cell? ⟨rb, 2, none⟩ = some (.pointer (some ⟨mr, 0, none⟩))) W0.drew) := Lib.hid (by obtain ⟨z0, z1, z2, z3, z4, z5, z6, z7⟩ := cells8 (HBD.out.boxAt HB0.out); exact ⟨z0, z1, z2, z3, z4, z5, z6, z7, HRC.out _ hx1⟩)
  obtain ⟨y0, y1, y2, y3, y4, y5, y6, y7, y8⟩ := K1.out
  have y8' : W0.cell? ⟨rb, 2, none⟩ = some (.pointer (some ⟨mr, 0, none⟩)) := y8
  subst hk
  clear h hi hj hij hb hil hjl hx0 ak ar an abk av ax ax0 aa ae harr hn hf hin hab0 hab hpr hx1 hmr y0 y1 y2 y3 y4 y5 y6 y7 y8 K0
  go_enter Tryz.func23, Tryz.ntmps23
  go_upto_region 27 with (rw [← HW.out, ← HAB.out])
  go_region_held3 (fun V => V.cell? ⟨ab, 0, none⟩ = some (.int .i64 10) ∧ V.cell? ⟨ab, 1, none⟩ = some (.int .i64 AR) ∧ V.cell? ⟨ab, 2, none⟩ = some (.int .i64 AN) ∧ V.cell? ⟨ab, 3, none⟩ = some (.int .i64 AB) ∧ V.cell? ⟨ab, 4, none⟩ = some (.int .u64 AV) ∧ V.cell? ⟨ab, 5, none⟩ = some (.slice XA n xc) ∧ V.cell? ⟨ab, 6, none⟩ = some (.int .i64 AE) ∧ V.cell? ⟨ab, 7, none⟩ = some (.int .i64 AC) ∧ V.cell? ⟨rb, 2, none⟩ = some (.pointer (some ⟨mr, 0, none⟩)))
    (first | with_reducible exact K4.out | with_reducible exact K3.out | with_reducible exact K2.out | with_reducible exact K1.out | go_keep)
    (first
      | (go_at_call 30; (with_reducible refine HM.out.mono ?_); rintro e w1 ⟨mb, rfl, hs, hc, hkr⟩; have HX1 := Lib.hid ((hkr _ _ HRX.out).trans HRX.out); have K2 : Hid ((fun V => V.cell? ⟨ab, 0, none⟩ = some (.int .i64 10) ∧ V.cell? ⟨ab, 1, none⟩ = some (.int .i64 AR) ∧ V.cell? ⟨ab, 2, none⟩ = some (.int .i64 AN) ∧ V.cell? ⟨ab, 3, none⟩ = some (.int .i64 AB) ∧ V.cell? ⟨ab, 4, none⟩ = some (.int .u64 AV) ∧ V.cell? ⟨ab, 5, none⟩ = some (.slice XA n xc) ∧ V.cell? ⟨ab, 6, none⟩ = some (.int .i64 AE) ∧ V.cell? ⟨ab, 7, none⟩ = some (.int .i64 AC) ∧ V.cell? ⟨rb, 2, none⟩ = some (.pointer (some ⟨mr, 0, none⟩))) w1) := Lib.hid (by obtain ⟨z0, z1, z2, z3, z4, z5, z6, z7⟩ := cells8 (hs.boxAt (HB1.out _)); exact ⟨z0, z1, z2, z3, z4, z5, z6, z7, HRC.out _ HX1.out⟩); have HT := Lib.hid (sp_storeR hs (HI1.out _) hc AV 8 (IntKind.u64.wrap AN) HAV.out.1 HAV.out.2 (by decide) (by rw [wrapU_eq]; exact (wrapU_in _).1) (by rw [wrapU_eq]; exact (wrapU_in _).2)); clear hs hc hkr)
      | (go_at_call 48; (with_reducible refine HT.out.mono ?_); rintro e w2 ⟨⟨rfl, hs⟩, hkr⟩; rw [List.set_set] at hs; have HX2 := Lib.hid ((hkr _ _ HX1.out).trans HX1.out); have K3 : Hid ((fun V => V.cell? ⟨ab, 0, none⟩ = some (.int .i64 10) ∧ V.cell? ⟨ab, 1, none⟩ = some (.int .i64 AR) ∧ V.cell? ⟨ab, 2, none⟩ = some (.int .i64 AN) ∧ V.cell? ⟨ab, 3, none⟩ = some (.int .i64 AB) ∧ V.cell? ⟨ab, 4, none⟩ = some (.int .u64 AV) ∧ V.cell? ⟨ab, 5, none⟩ = some (.slice XA n xc) ∧ V.cell? ⟨ab, 6, none⟩ = some (.int .i64 AE) ∧ V.cell? ⟨ab, 7, none⟩ = some (.int .i64 AC) ∧ V.cell? ⟨rb, 2, none⟩ = some (.pointer (some ⟨mr, 0, none⟩))) w2) := Lib.hid (by obtain ⟨z0, z1, z2, z3, z4, z5, z6, z7⟩ := cells8 (hs.boxAt (HB1.out _)); exact ⟨z0, z1, z2, z3, z4, z5, z6, z7, HRC.out _ HX2.out⟩); have HT2 := Lib.hid (rs_storeR hs (HJ1.out _) (HRC.out _ HX2.out) AV 8 (IntKind.u64.wrap AN) HAV.out.1 HAV.out.2 (by decide) (by rw [wrapU_eq]; exact (wrapU_in _).1) (by rw [wrapU_eq]; exact (wrapU_in _).2)); clear hs hkr)
      | (go_at_call 93; (with_reducible refine HT2.out.mono ?_); rintro e w3 ⟨⟨rfl, hs⟩, hkr⟩; have HS3 := Lib.hid hs; have K4 : Hid ((fun V => V.cell? ⟨ab, 0, none⟩ = some (.int .i64 10) ∧ V.cell? ⟨ab, 1, none⟩ = some (.int .i64 AR) ∧ V.cell? ⟨ab, 2, none⟩ = some (.int .i64 AN) ∧ V.cell? ⟨ab, 3, none⟩ = some (.int .i64 AB) ∧ V.cell? ⟨ab, 4, none⟩ = some (.int .u64 AV) ∧ V.cell? ⟨ab, 5, none⟩ = some (.slice XA n xc) ∧ V.cell? ⟨ab, 6, none⟩ = some (.int .i64 AE) ∧ V.cell? ⟨ab, 7, none⟩ = some (.int .i64 AC) ∧ V.cell? ⟨rb, 2, none⟩ = some (.pointer (some ⟨mr, 0, none⟩))) w3) := Lib.hid (by obtain ⟨z0, z1, z2, z3, z4, z5, z6, z7⟩ := cells8 (hs.boxAt (HB2.out _ _)); exact ⟨z0, z1, z2, z3, z4, z5, z6, z7, HRC.out _ (hkr.trans HX2.out)⟩); clear hs hkr))
  all_goals
    go_wp2
    go_ret
    exact ⟨rfl, by have hz := HS3.out; rw [wrapU_eq] at hz; exact hz.drop2 HL.out.1 HL.out.2 _ _⟩
theorem does15_x (h : Spaces w lo W l) (hi : l[i]? = some (.sp sb S)) (hj : l[j]? = some (.rs rb S)) (hij : i ≠ j) (hf : S.done.length < 100000) (hin : S.inp.length ≤ 1000000) (A : ActS) (hA : A.ok w w.heap.size) (hk : ¬ (0 ≤ A.kind ∧ A.kind ≤ 10)) :
    Calls Tryz.prog 23 #[.pointer (some ⟨sb, 0, none⟩), .pointer (some ⟨rb, 0, none⟩), .agg A.arr] W (SpsDone w lo ((l.set i (.sp sb S)).set j (.rs rb S)) (.bool true)) := by
  have hA1 := hA.below h.bel (Nat.le_refl _)
  obtain ⟨AK, AR, AN, AB, AV, AX, AA, AE, AC⟩ := A
  obtain ⟨XA, xc, hxe⟩ := hA.b.len
  simp only at hxe
  subst hxe
  have hil : i < l.length := (List.getElem?_eq_some_iff.1 hi).1
  have hjl : j < l.length := (List.getElem?_eq_some_iff.1 hj).1
  obtain ⟨ak, ar, an, abk, av, ax, aa, ae⟩ := hA1
  obtain ⟨_, _, _, _, _, ax0, _, _⟩ := hA
  simp only at ak ar an abk av ax ax0 aa ae hk
  have HAX := Lib.hid ax0
  have HAA := Lib.hid aa
  have HIN := Lib.hid hin
  obtain ⟨n, hn⟩ : ∃ n, n = AA.length := ⟨_, rfl⟩
  rw [← hn] at HAX
  have HNN := Lib.hid hn
  have harr : ActS.arr ⟨AK, AR, AN, AB, AV, .slice XA AA.length xc, AA, AE, AC⟩ = #[.int .i64 AK, .int .i64 AR, .int .i64 AN, .int .i64 AB, .int .u64 AV, .slice XA n xc, .int .i64 AE, .int .i64 AC] := by rw [hn]; rfl
  rw [harr]
  have hb := h.addBox #[.int .i64 AK, .int .i64 AR, .int .i64 AN, .int .i64 AB, .int .u64 AV, .slice XA n xc, .int .i64 AE, .int .i64 AC] 47
  have hx0 := heap_alloc_new W (.cells #[.int .i64 AK, .int .i64 AR, .int .i64 AN, .int .i64 AB, .int .u64 AV, .slice XA n xc, .int .i64 AE, .int .i64 AC] 47)
  obtain ⟨W0, hW0⟩ : ∃ W0, W0 = W.alloc (.cells #[.int .i64 AK, .int .i64 AR, .int .i64 AN, .int .i64 AB, .int .u64 AV, .slice XA n xc, .int .i64 AE, .int .i64 AC] 47) := ⟨_, rfl⟩
  rw [← hW0] at hb hx0
  have HW := Lib.hid hW0
  clear hW0
  have hab0 : W.heap.size = W.heap.size := rfl
  obtain ⟨ab, hab⟩ : ∃ ab, ab = W.heap.size := ⟨_, rfl⟩
  have HAB := Lib.hid hab
  rw [← hab] at hb hx0
  have HI0 : Hid ((l ++ [(It.box ab #[.int .i64 AK, .int .i64 AR, .int .i64 AN, .int .i64 AB, .int .u64 AV, .slice XA n xc, .int .i64 AE, .int .i64 AC] 47)])[i]? = some (.sp sb S)) := Lib.hid (by rw [List.getElem?_append_left hil]; exact hi)
  have HJ0 : Hid ((l ++ [(It.box ab #[.int .i64 AK, .int .i64 AR, .int .i64 AN, .int .i64 AB, .int .u64 AV, .slice XA n xc, .int .i64 AE, .int .i64 AC] 47)])[j]? = some (.rs rb S)) := Lib.hid (by rw [List.getElem?_append_left hjl]; exact hj)
  have HJ1 : Hid (∀ x, ((l ++ [(It.box ab #[.int .i64 AK, .int .i64 AR, .int .i64 AN, .int .i64 AB, .int .u64 AV, .slice XA n xc, .int .i64 AE, .int .i64 AC] 47)]).set i x)[j]? = some (.rs rb S)) := Lib.hid (fun x => by rw [List.getElem?_set_ne hij]; exact HJ0.out)
  have HI1 : Hid (∀ x, ((l ++ [(It.box ab #[.int .i64 AK, .int .i64 AR, .int .i64 AN, .int .i64 AB, .int .u64 AV, .slice XA n xc, .int .i64 AE, .int .i64 AC] 47)]).set i x)[i]? = some x) := Lib.hid (fun x => by rw [List.getElem?_set_self (by simp; omega)])
  have HB0 : Hid ((l ++ [(It.box ab #[.int .i64 AK, .int .i64 AR, .int .i64 AN, .int .i64 AB, .int .u64 AV, .slice XA n xc, .int .i64 AE, .int .i64 AC] 47)])[l.length]? = some (It.box ab #[.int .i64 AK, .int .i64 AR, .int .i64 AN, .int .i64 AB, .int .u64 AV, .slice XA n xc, .int .i64 AE, .int .i64 AC] 47)) := Lib.hid (by simp)
  have HB1 : Hid (∀ x, ((l ++ [(It.box ab #[.int .i64 AK, .int .i64 AR, .int .i64 AN, .int .i64 AB, .int .u64 AV, .slice XA n xc, .int .i64 AE, .int .i64 AC] 47)]).set i x)[l.length]? = some (It.box ab #[.int .i64 AK, .int .i64 AR, .int .i64 AN, .int .i64 AB, .int .u64 AV, .slice XA n xc, .int .i64 AE, .int .i64 AC] 47)) := Lib.hid (fun x => by rw [List.getElem?_set_ne (by omega)]; simp)
  have HB2 : Hid (∀ x y, (((l ++ [(It.box ab #[.int .i64 AK, .int .i64 AR, .int .i64 AN, .int .i64 AB, .int .u64 AV, .slice XA n xc, .int .i64 AE, .int .i64 AC] 47)]).set i x).set j y)[l.length]? = some (It.box ab #[.int .i64 AK, .int .i64 AR, .int .i64 AN, .int .i64 AB, .int .u64 AV, .slice XA n xc, .int .i64 AE, .int .i64 AC] 47)) := Lib.hid (fun x y => by rw [List.getElem?_set_ne (by omega), List.getElem?_set_ne (by omega)]; simp)
  have HBD := Lib.hid (hb.grow (Below.refl W0.heap.size W0).drew)
  have HB := Lib.hid hb
  have HL := Lib.hid (And.intro hil hjl)
  obtain ⟨c0, c1, c2, c3, c4, c5, c6, c7⟩ := cells8 hx0
  have K0 : Hid ((fun V => V.cell? ⟨ab, 0, none⟩ = some (.int .i64 AK) ∧ V.cell? ⟨ab, 1, none⟩ = some (.int .i64 AR) ∧ V.cell? ⟨ab, 2, none⟩ = some (.int .i64 AN) ∧ V.cell? ⟨ab, 3, none⟩ = some (.int .i64 AB) ∧ V.cell? ⟨ab, 4, none⟩ = some (.int .u64 AV) ∧ V.cell? ⟨ab, 5, none⟩ = some (.slice XA n xc) ∧ V.cell? ⟨ab, 6, none⟩ = some (.int .i64 AE) ∧ V.cell? ⟨ab, 7, none⟩ = some (.int .i64 AC)) W0.drew) := Lib.hid (cells8 (HBD.out.boxAt HB0.out))
  have HS := Lib.hid hb
  have HSI := Lib.hid (show (l.set i (.sp sb S)).set j (.rs rb S) = l by rw [set_same15 hi, set_same15 hj])
  have e0 : (AK == 0) = false := by simp; omega
  have e1 : (AK == 1) = false := by simp; omega
  have e2 : (AK == 2) = false := by simp; omega
  have e3 : (AK == 3) = false := by simp; omega
  have e4 : (AK == 4) = false := by simp; omega
  have e5 : (AK == 5) = false := by simp; omega
  have e6 : (AK == 6) = false := by simp; omega
  have e7 : (AK == 7) = false := by simp; omega
  have e8 : (AK == 8) = false := by simp; omega
  have e9 : (AK == 9) = false := by simp; omega
  have e10 : (AK == 10) = false := by simp; omega
  have HDR : Hid (Spaces w lo W0 l) := Lib.hid (by
    have hz := hb
    rw [← set_same15 HI0.out, ← set_same15 (HJ1.out (.sp sb S))] at hz
    have hy := hz.drop2 hil hjl _ _
    rw [HSI.out] at hy
    exact hy)
  clear h hi hj hij hb hil hjl hx0 hk ak ar an abk av ax ax0 aa ae harr hn hf hin hab0 hab
  go_enter Tryz.func23, Tryz.ntmps23
  go_wp2_with (rw [← HW.out, ← HAB.out])
  go_ret
  exact ⟨rfl, by rw [HSI.out]; exact HDR.out⟩
theorem does15 (h : Spaces w lo W l) (hi : l[i]? = some (.sp sb S)) (hj : l[j]? = some (.rs rb S)) (hij : i ≠ j) (hf : S.done.length < 100000) (hin : S.inp.length ≤ 1000000) (A : ActS) (hA : A.ok w w.heap.size) (hal : A.args.length ≤ 20) :
    Calls Tryz.prog 23 #[.pointer (some ⟨sb, 0, none⟩), .pointer (some ⟨rb, 0, none⟩), .agg A.arr] W (SpsDone w lo ((l.set i (.sp sb (S.actS A))).set j (.rs rb (S.actS A))) (.bool true)) := by
  by_cases hk : 0 ≤ A.kind ∧ A.kind ≤ 10
  · have : A.kind = 0 ∨ A.kind = 1 ∨ A.kind = 2 ∨ A.kind = 3 ∨ A.kind = 4 ∨ A.kind = 5 ∨ A.kind = 6 ∨ A.kind = 7 ∨ A.kind = 8 ∨ A.kind = 9 ∨ A.kind = 10 := by omega
    rcases this with e | e | e | e | e | e | e | e | e | e | e
    · have := does15_0 h hi hj hij hf hin A hA e; unfold SpV.actS; simpa [e] using this
    · have := does15_1 h hi hj hij hf hin A hA e; unfold SpV.actS; simpa [e] using this
    · have := does15_2 h hi hj hij hf hin A hA e; unfold SpV.actS; simpa [e] using this
    · have := does15_3 h hi hj hij hf hin A hA e; unfold SpV.actS; simpa [e] using this
    · have := does15_4 h hi hj hij hf hin A hA hal e; unfold SpV.actS; simpa [e] using this
    · have := does15_5 h hi hj hij hf hin A hA hal e; unfold SpV.actS; simpa [e] using this
    · have := does15_6 h hi hj hij hf hin A hA e; unfold SpV.actS; simpa [e] using this
    · have := does15_7 h hi hj hij hf hin A hA e; unfold SpV.actS; simpa [e] using this
    · have := does15_8 h hi hj hij hf hin A hA e; unfold SpV.actS; simpa [e] using this
    · have := does15_9 h hi hj hij hf hin A hA e; unfold SpV.actS; simpa [e] using this
    · have := does15_10 h hi hj hij hf hin A hA e; unfold SpV.actS; simpa [e] using this
  · have := does15_x h hi hj hij hf hin A hA hk
    have e : S.actS A = S := by
      unfold SpV.actS
      repeat (rw [if_neg (by omega)])
    rw [e]
    exact this
end
end Go.Proofs.YtkfdgpgildanbaaGreat
