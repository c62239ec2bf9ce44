/- The document's own fields of an instruction. Contract; no condition but that the numbers are few. -/
import Derived.Test.YtohlifeenhaifaaGreatDoorRef13H
import Derived.Test.YtohlifeenhaifaaGreatDoorS03
import Derived.LoopTactic
namespace Go.Proofs.YtohlifeenhaifaaGreatDoor
open Go.RowKit Go.Shelf
set_option linter.unusedVariables false
set_option linter.unusedSimpArgs false
/-- What fields leaves. -/
def FldsDn13 (w : World) (o : Option InsV) (e : Ending) (w' : World) : Prop :=
  ∃ y A nx c, e = .returned (.tuple #[.agg (insCells y.op y.a y.b y.c y.n (.slice A nx c)), .bool o.isSome]) ∧ (∀ z, o = some z → z = y ∧ Owns w' w.heap.size 3 1 (IsNum .i64) (.slice A nx c) y.args.length (y.args.map (Value.int .i64))) ∧ Below w.heap.size w w'
theorem nums_tail13 {w : World} {B : Nat} {A : Option Addr} {cap : Nat} {x : Int} {l : List Int} {n : Nat} (hn : n = l.length) (h : IsNums .i64 w B (.slice A (n + 1) cap) (x :: l)) :
    ∃ b off, A = some ⟨b, off, none⟩ ∧ n + 1 ≤ cap ∧ b < B ∧ w.cell? ⟨b, off, none⟩ = some (.int .i64 x) ∧ ∃ o' c', (∀ W, (Instr.slice 26 (.slice (some ⟨b, off, none⟩) (n + 1) cap) (some (.int .i64 1)) none none).run Tryz.prog W = .ok (.slice (some ⟨b, o', none⟩) n c') W) ∧ IsNums .i64 w B (.slice (some ⟨b, o', none⟩) n c') l := by
  subst hn
  obtain ⟨b, off, cap', hV, hcap, hb, hc⟩ := h.plain (by simp)
  simp only [Value.slice.injEq, List.length_cons, true_and] at hV
  obtain ⟨rfl, rfl⟩ := hV
  have hm := h.1
  simp only [List.length_cons] at hcap hm hc
  have c0 := hc 0 (by omega)
  simp only [Nat.add_zero, List.getD_cons_zero] at c0
  refine ⟨b, off, rfl, hcap, hb, c0, if cap = 1 then off else off + 1, cap - 1, fun W => ?_, by omega, .inr ⟨_, cap - 1, rfl, by omega, fun _ => hb, fun i hi => ?_⟩⟩
  · have h1 : (1 : Int) ≤ (cap : Int) := by omega
    by_cases h2 : cap = 1
    · subst h2
      have h3 : l.length = 0 := by omega
      simp [go_sem, Tryz.underlying26, Tryz.sizeOf3, h3]
    · have h4 : ¬ cap - 1 = 0 := by omega
      have h5 : ¬ (cap : Int) = 1 := by omega
      have h7 : ((l.length : Int) + 1) ≤ (cap : Int) := by omega
      have h8 : (1 : Int) ≤ (l.length : Int) + 1 := by omega
      simp [go_sem, Tryz.underlying26, Tryz.sizeOf3, h1, h2, h4, h5, h7, h8]
  · rw [if_neg (by omega : ¬ cap = 1)]
    have := hc (i + 1) (by omega)
    simp only [List.getD_cons_succ] at this
    have e : (⟨b, off + 1, none⟩ : Addr).add i = ⟨b, off + (i + 1), none⟩ := by unfold Addr.add; simp [Nat.add_assoc, Nat.add_comm 1]
    rw [e]
    exact this
theorem ins_put1 (op a b c n x : Int) (X : Value) : (insCells op a b c n X).setIfInBounds 1 (.int .i64 x) = insCells op x b c n X := rfl
theorem ins_put2 (op a b c n x : Int) (X : Value) : (insCells op a b c n X).setIfInBounds 2 (.int .i64 x) = insCells op a x c n X := rfl
theorem ins_put3 (op a b c n x : Int) (X : Value) : (insCells op a b c n X).setIfInBounds 3 (.int .i64 x) = insCells op a b x n X := rfl
theorem ins_put4 (op a b c n x : Int) (X : Value) : (insCells op a b c n X).setIfInBounds 4 (.int .i64 x) = insCells op a b c x X := rfl
theorem ins_put5 (op a b c n : Int) (X Y : Value) : (insCells op a b c n X).setIfInBounds 5 Y = insCells op a b c n Y := rfl
/-- The two boxes of fields. -/
structure Fb13 (w W : World) (op a b c n : Int) (X : Value) : Prop where
  res : W.heap[w.heap.size]? = some (.cells (insCells 0 0 0 0 0 (.slice none 0 0)) 28 (0, 0))
  box : W.heap[w.heap.size + 1]? = some (.cells (insCells op a b c n X) 28 (0, 0))
  bel : Below w.heap.size w W
theorem Fb13.put {w W : World} {op a b c n : Int} {X : Value} (h : Fb13 w W op a b c n X) (j : Nat) (v : Value) {a' b' c' n' : Int} {X' : Value} (e : (insCells op a b c n X).setIfInBounds j v = insCells op a' b' c' n' X') : Fb13 w (W.setCell ⟨w.heap.size + 1, j, none⟩ v) op a' b' c' n' X' := by
  have hx := heap_setCell_same W (w.heap.size + 1) j _ _ v h.box
  rw [e] at hx
  have hb : But (OneBlock (w.heap.size + 1)) W (W.setCell ⟨w.heap.size + 1, j, none⟩ v) := (But.refl (OneBlock (w.heap.size + 1)) W).setCell (p := ⟨w.heap.size + 1, j, none⟩) (.inl rfl) v
  exact ⟨hb.heap h.res (fun e => by have e' : w.heap.size = w.heap.size + 1 := e; omega), hx, But.below h.bel hb (Nat.le_of_lt (heap_lt h.res)) (fun k hk => by have e' : k = w.heap.size + 1 := hk; omega)⟩
theorem Fb13.drew {w W : World} {op a b c n : Int} {X : Value} (h : Fb13 w W op a b c n X) : Fb13 w W.drew op a b c n X := ⟨h.res, h.box, h.bel.drew⟩
theorem Fb13.grow {w W W' : World} {op a b c n : Int} {X : Value} (h : Fb13 w W op a b c n X) (hb : Below W.heap.size W W') : Fb13 w W' op a b c n X :=
  ⟨(hb.block _ (heap_lt h.res)).trans h.res, (hb.block _ (heap_lt h.box)).trans h.box, h.bel.trans (hb.mono h.bel.size)⟩
/-- What fields tells in the end. -/
def setRes13 (W : World) (b : Nat) (op a b' c n : Int) (X : Value) : World := (((((W.setCell ⟨b, 0, none⟩ (.int .i64 op)).setCell ⟨b, 1, none⟩ (.int .i64 a)).setCell ⟨b, 2, none⟩ (.int .i64 b')).setCell ⟨b, 3, none⟩ (.int .i64 c)).setCell ⟨b, 4, none⟩ (.int .i64 n)).setCell ⟨b, 5, none⟩ X
theorem setRes_but (W : World) (b : Nat) (op a b' c n : Int) (X : Value) : But (OneBlock b) W (setRes13 W b op a b' c n X) :=
  ((((((But.refl (OneBlock b) W).setCell (p := ⟨b, 0, none⟩) (.inl rfl) _).setCell (p := ⟨b, 1, none⟩) (.inl rfl) _).setCell (p := ⟨b, 2, none⟩) (.inl rfl) _).setCell (p := ⟨b, 3, none⟩) (.inl rfl) _).setCell (p := ⟨b, 4, none⟩) (.inl rfl) _).setCell (p := ⟨b, 5, none⟩) (.inl rfl) _
theorem setRes_out {w W : World} {op a b c n : Int} {X : Value} (h : Fb13 w W op a b c n X) : Below w.heap.size w (setRes13 W w.heap.size op a b c n X) :=
  But.below h.bel (setRes_but W w.heap.size op a b c n X) (Nat.le_of_lt (heap_lt h.res)) (fun k hk => by have e' : k = w.heap.size := hk; omega)
/-- What stands in the result's box. -/
theorem Fb13.out {w W W' : World} {op a b c n : Int} {X : Value} (h : Fb13 w W op a b c n X) (hb : But (OneBlock w.heap.size) W W') : Below w.heap.size w W' :=
  But.below h.bel hb (Nat.le_of_lt (heap_lt h.res)) (fun k hk => by have e' : k = w.heap.size := hk; omega)
theorem fld_end13 {w W : World} {O : Option InsV} {op x0 x1 x2 n : Int} {A : Option Addr} {nx c : Nat} {b : Bool} {args : List Int} (h : Fb13 w W op x0 x1 x2 n (.slice A nx c)) (hb : O.isSome = b) (hO : ∀ z, O = some z → z = ⟨op, x0, x1, x2, n, args⟩) (hX : O.isSome = true → Owns W w.heap.size 3 1 (IsNum .i64) (.slice A nx c) args.length (args.map (Value.int .i64))) :
    FldsDn13 w O (.returned (.tuple #[.agg (insCells op x0 x1 x2 n (.slice A nx c)), .bool b])) (setRes13 W w.heap.size op x0 x1 x2 n (.slice A nx c)) := by
  refine ⟨⟨op, x0, x1, x2, n, args⟩, A, nx, c, by rw [hb], fun z hz => ⟨hO z hz, ?_⟩, setRes_out h⟩
  have h1 := hX (by rw [hz]; rfl)
  exact h1.but (setRes_but W w.heap.size op x0 x1 x2 n (.slice A nx c)) (fun g hg e => by
    have e' : g = w.heap.size := e
    subst e'
    obtain ⟨c, hc⟩ := h1.typed hg
    have h2 := h.res
    rw [hc] at h2
    injection h2 with h2
    injection h2 with _ h2 _
    exact absurd h2 (by decide))
theorem grown13 {W W' : World} {o : Obj} {g : Nat} (hg : g = W.heap.size) (h : World.grownBy (W.alloc o) W' (some g)) : Below W.heap.size W W' := by
  subst hg
  exact ((Below.refl W.heap.size W).alloc (Nat.le_refl _) o).grown h (by simp) (fun j hj => by injection hj with hj; omega)
set_option maxRecDepth 100000 in
theorem run_nums13 {ty : TypeId} {W : World} {V : Value} {B : Nat} {xs : List Int} (h : IsNums .i64 W B V xs) (hB : B ≤ W.heap.size) (hl : xs.length ≤ 1000000) :
    ∃ V' W', (Builtin.append_ #[26, 26] ty #[.slice (some ⟨W.heap.size, 0, none⟩) 0 0, V]).run Tryz.prog (W.alloc (.cells #[] 3)) = .ok V' W' ∧ Owns W' W.heap.size 3 1 (IsNum .i64) V' xs.length (xs.map (Value.int .i64)) ∧ Below W.heap.size W W' := by
  obtain ⟨i, hi, h1, h2, h3⟩ := info_parts int_info
  have hM := Owns.made W W.heap.size 3 1 (IsNum .i64) (Nat.le_refl _)
  rcases h.2 with ⟨rfl, rfl⟩ | ⟨ad, cap, rfl, g1, g2, g3⟩
  · refine ⟨.slice (some ⟨W.heap.size, 0, none⟩) 0 0, W.alloc (.cells #[] 3), ?_, hM, (Below.refl _ _).alloc (Nat.le_refl _) _⟩
    simp [go_sem, Tryz.underlying26]
  · have hcell : ∀ j u, (xs.map (Value.int .i64))[j]? = some u → (W.alloc (.cells #[] 3)).cell? (ad.add j) = some u := by
      intro j u hj
      rw [List.getElem?_map] at hj
      obtain ⟨x, hx, rfl⟩ := Option.map_eq_some_iff.1 hj
      have hjl := (List.getElem?_eq_some_iff.1 hx).1
      have hlt : (ad.add j).block < W.heap.size := by
        have := g2 (by omega)
        rw [add_block]
        omega
      rw [World.cell?_alloc_lt W _ _ hlt, g3 j hjl]
      simp [List.getD, hx]
    obtain ⟨V', W', hr, ho, hg⟩ := run_append_q (P := Tryz.prog) _ W.heap.size 26 ty 3 i _ 1 8 Tryz.underlying26 hi h1 h2 h3 rfl (by decide) (IsNum .i64) (zero_num .i64) _ 0 [] hM ad xs.length cap (xs.map (Value.int .i64)) (by simp) hcell (ints_oneCell _ _) (num_cells .i64 xs) (by unfold maxLen; omega) (by omega) (by simp)
    exact ⟨V', W', hr, by simpa using ho, grown13 rfl hg⟩
theorem wpList_nums13 {W : World} {ops : Array Oper} {rest : List Oper} {o : Oper} {a : Act} {Q : Exit → Act → World → Prop} (hgd : o.guard = none) (s x : Operand)
    (ho : o.op = .call { callee := .builtin .append, args := #[s, x], argTypes := #[26, 26] }) {V : Value} {g B : Nat} {xs : List Int} (hs : a.eval s = .slice (some ⟨g, 0, none⟩) 0 0) (hx : a.eval x = V) (hgs : g = W.heap.size) (h : IsNums .i64 W B V xs) (hB : B ≤ W.heap.size) (hl : xs.length ≤ 1000000)
    (hK : ∀ V' W', Owns W' W.heap.size 3 1 (IsNum .i64) V' xs.length (xs.map (Value.int .i64)) → Below W.heap.size W W' → wpList Tryz.prog ops Q rest (a.put o.dst V') W') :
    wpList Tryz.prog ops Q (o :: rest) a (W.alloc (.cells #[] 3)) := by
  subst hgs
  refine wpList_plain hgd fun _ hK' => ?_
  obtain ⟨V', W', hr, hm⟩ := run_nums13 (ty := o.type) h hB hl
  unfold Oper.wp execOp
  simp only [ho, resolve, invoke, builtin, Sem.run_bind, Sem.run_pure, Result.andThen_ok, List.map_toArray, List.map_cons, List.map_nil, hs, hx, hr]
  exact hK' _ _ (hK V' W' hm.1 hm.2)
theorem fb_reg0 {w W : World} {op x n : Int} {X : Value} {rs : List Int} (h0 : rs.length = 0) (h : Fb13 w W op x (rs.getD 1 0) (rs.getD 2 0) n X) : Fb13 w W op ((rs ++ [x]).getD 0 0) ((rs ++ [x]).getD 1 0) ((rs ++ [x]).getD 2 0) n X := by
  match rs, h0 with
  | [], _ => exact h
theorem fb_reg1 {w W : World} {op x n : Int} {X : Value} {rs : List Int} (h0 : rs.length = 1) (h : Fb13 w W op (rs.getD 0 0) x (rs.getD 2 0) n X) : Fb13 w W op ((rs ++ [x]).getD 0 0) ((rs ++ [x]).getD 1 0) ((rs ++ [x]).getD 2 0) n X := by
  match rs, h0 with
  | [a], _ => exact h
theorem fb_reg2 {w W : World} {op x n : Int} {X : Value} {rs : List Int} (h0 : rs.length = 2) (h : Fb13 w W op (rs.getD 0 0) (rs.getD 1 0) x n X) : Fb13 w W op ((rs ++ [x]).getD 0 0) ((rs ++ [x]).getD 1 0) ((rs ++ [x]).getD 2 0) n X := by
  match rs, h0 with
  | [a, b], _ => exact h
set_option maxRecDepth 100000 in
set_option maxHeartbeats 8000000 in
theorem rfields13_any (op : Int) (V : Value) (l : List Int) (w : World) (hV : IsNums .i64 w w.heap.size V l) (hl : l.length ≤ 1000000) :
    Calls Tryz.prog 77 #[.int .i64 op, V] w (FldsDn13 w (fieldsP op l)) := by
  have HV := Lib.hid hV
  have HL := Lib.hid hl
  have HSH := Lib.hid (fun W => rshape_any op W)
  have HSR := Lib.hid (okShape_reg (shapes_ok op))
  have HO : Hid ((fldG (lettersOf (shapeI op)) l ⟨0, [], 0, []⟩).map (insOf op) = fieldsP op l) := Lib.hid rfl
  generalize fieldsP op l = O at *
  obtain ⟨sh, hsh⟩ : ∃ sh, sh = shapeI op := ⟨_, rfl⟩
  rw [← hsh] at HSH HSR HO
  have HZ : Hid (sh.size ≤ 3) := Lib.hid (by
    have h := (shape_len13 op).1
    rw [← hsh, letters_len] at h
    exact h)
  have h9 : Fb13 w ((w.alloc (.cells (insCells 0 0 0 0 0 (.slice none 0 0)) 28)).alloc (.cells (insCells op 0 0 0 0 (.slice none 0 0)) 28)) op 0 0 0 0 (.slice none 0 0) := by
    have h1 := heap_alloc_new (w.alloc (.cells (insCells 0 0 0 0 0 (.slice none 0 0)) 28)) (.cells (insCells op 0 0 0 0 (.slice none 0 0)) 28)
    rw [World.size_alloc] at h1
    refine ⟨?_, h1, ((Below.refl _ w).alloc (Nat.le_refl _) _).alloc (by simp) _⟩
    rw [Below.heap_alloc _ _ _ (by simp)]
    exact heap_alloc_new _ _
  obtain ⟨w0, hw0⟩ : ∃ w0, w0 = (w.alloc (.cells #[.int .i64 0, .int .i64 0, .int .i64 0, .int .i64 0, .int .i64 0, .slice none 0 0] 28)).alloc (.cells #[.int .i64 op, .int .i64 0, .int .i64 0, .int .i64 0, .int .i64 0, .slice none 0 0] 28) := ⟨_, rfl⟩
  have h0 : Fb13 w w0 op 0 0 0 0 (.slice none 0 0) := by rw [hw0]; exact h9
  have H0 := Lib.hid h0
  have HW0 := Lib.hid hw0
  clear hV hl hsh h0 h9 hw0
  go_enter Tryz.func77, Tryz.ntmps77
  go_wp2_with (go_at_call 35; (with_reducible refine (HSH.out _).mono ?_); rintro e w2 ⟨rfl, hw⟩; subst hw)
  rw [← HW0.out]
  clear HW0 HSH
  go_loopw [1, 8, 9, 40, 55, 62] (fun v1 v8 v9 _ _ _ wr => ∃ (k : Nat) (s : RdV) (l' : List Int), v9 = .int .i64 k ∧ v8 = .int .i64 s.rs.length ∧ k ≤ sh.size ∧ IsNums .i64 w w.heap.size v1 l' ∧ Hid (Fb13 w wr op (s.rs.getD 0 0) (s.rs.getD 1 0) (s.rs.getD 2 0) s.n (.slice none 0 0) ∧ (fldG ((lettersOf sh).drop k) l' s).map (insOf op) = O ∧ s.args = [] ∧ s.rs.length + regN ((lettersOf sh).drop k) ≤ 3 ∧ l'.length ≤ 1000000)) (fun _ _ v9 _ _ _ _ => sh.size - (intOf v9).toNat)
  case atStart => exact ⟨0, ⟨0, [], 0, []⟩, l, rfl, rfl, Nat.zero_le _, HV.out, Lib.hid ⟨H0.out, by rw [List.drop_zero]; exact HO.out, rfl, by rw [List.drop_zero]; simpa using HSR.out, HL.out⟩⟩
  case round =>
    obtain ⟨k, s, l', rfl, rfl, hk, hv, HG⟩ := hrel
    obtain ⟨A1, c1, rfl⟩ := hv.len
    obtain ⟨n1, hn1⟩ : ∃ n, n = l'.length := ⟨_, rfl⟩
    have HN1 := Lib.hid hn1
    rw [← hn1] at hv ⊢
    have HV1 := Lib.hid hv
    obtain ⟨x0, hx0⟩ : ∃ x, x = s.rs.getD 0 0 := ⟨_, rfl⟩
    obtain ⟨x1, hx1⟩ : ∃ x, x = s.rs.getD 1 0 := ⟨_, rfl⟩
    obtain ⟨x2, hx2⟩ : ∃ x, x = s.rs.getD 2 0 := ⟨_, rfl⟩
    obtain ⟨sn, hsn⟩ : ∃ x, x = s.n := ⟨_, rfl⟩
    have HXS := Lib.hid (And.intro hx0 (And.intro hx1 (And.intro hx2 hsn)))
    have HF : Hid (Fb13 w wr op x0 x1 x2 sn (.slice none 0 0)) := Lib.hid (by rw [hx0, hx1, hx2, hsn]; exact HG.out.1)
    have k0 : (0 : Int) ≤ (k : Int) := by omega
    have hn2 : n1 ≤ 1000000 := by rw [hn1]; exact HG.out.2.2.2.2
    obtain ⟨rn, hrn⟩ : ∃ rn, rn = s.rs.length := ⟨_, rfl⟩
    have HRN := Lib.hid hrn
    rw [← hrn]
    clear hv hn1 hrn hx0 hx1 hx2 hsn
    by_cases hlt : k < sh.size
    · have hdr := letters_drop sh hlt
      have hi := HG.out.2.1
      have hj := HG.out.2.2.2.1
      rw [hdr] at hi hj
      obtain ⟨q, hq⟩ : ∃ q : Int, q = (sh[k].toNat : Int) := ⟨_, rfl⟩
      rw [← hq] at hi hj
      have HI := Lib.hid hi
      have HJ := Lib.hid hj
      have HA := Lib.hid HG.out.2.2.1
      have HKS := Lib.hid hlt
      have HQ := Lib.hid hq
      have hk3 : (k : Int) < 3 := by have := HZ.out; omega
      clear hi hj hdr HG
      by_cases h108 : q = 108
      · subst h108
        have HI2 : Hid ((if l'.length ≤ 8 then some (⟨s.pos, s.rs, s.n, l'⟩ : RdV) else none).map (insOf op) = O) := Lib.hid (by
          have := HI.out
          simpa only [fldG, if_true] using this)
        have e3 := hq.symm
        obtain ⟨d0, d1, d2, d3, d4, d5⟩ := cells6 HF.out.box
        clear hq
        go_upto_region 9 with (at_builtin; refine wpList_nums13 rfl (.tmp 24) (.tmp 25) rfl rfl rfl rfl (HV1.out.below HF.out.bel (Nat.le_refl _)) HF.out.bel.size (by rw [← HN1.out]; omega) ?_; intro V8 w8 ho8 hb8; obtain ⟨A8, c8, he8⟩ := owns_len ho8; subst he8; rw [← HN1.out] at ho8; rw [← HN1.out]; have HO8 := Lib.hid ho8; have HB8 := Lib.hid hb8; have HF8 := Lib.hid (HF.out.grow hb8); clear ho8 hb8 d0 d1 d2 d3 d4 d5; obtain ⟨d0, d1, d2, d3, d4, d5⟩ := cells6 HF8.out.box; have f5 := free6 HF8.out.box 5)
        have HE := Lib.hid (HF8.out.put 5 (.slice A8 n1 c8) (ins_put5 _ _ _ _ _ _ _))
        have HB9 := Lib.hid (show But (OneBlock (w.heap.size + 1)) w8 (w8.setCell ⟨w.heap.size + 1, 5, none⟩ (.slice A8 n1 c8)) from (But.refl (OneBlock (w.heap.size + 1)) w8).setCell (p := ⟨w.heap.size + 1, 5, none⟩) (.inl rfl) _)
        obtain ⟨w9, hw9⟩ : ∃ w9, w9 = w8.setCell ⟨w.heap.size + 1, 5, none⟩ (.slice A8 n1 c8) := ⟨_, rfl⟩
        rw [← hw9] at HE HB9 ⊢
        have HX : Hid (Owns w9 w.heap.size 3 1 (IsNum .i64) (.slice A8 n1 c8) l'.length (l'.map (Value.int .i64))) := Lib.hid (by
          have h1 := HO8.out
          rw [HN1.out] at h1 ⊢
          exact (h1.but HB9.out (fun g hg e => by have e' : g = w.heap.size + 1 := e; have h2 := (h1.lt hg).1; have h3 := heap_lt HF.out.box; omega)).base HF.out.bel.size)
        have HB : Hid (O.isSome = decide ((n1 : Int) ≤ 8)) := Lib.hid (by
          rw [← HI2.out]
          by_cases h : l'.length ≤ 8
          · have h2 : (n1 : Int) ≤ 8 := by rw [HN1.out]; omega
            rw [if_pos h, decide_eq_true h2]; rfl
          · have h2 : ¬ (n1 : Int) ≤ 8 := by rw [HN1.out]; omega
            rw [if_neg h, decide_eq_false h2]; rfl)
        have HZO : Hid (∀ z, O = some z → z = ⟨op, x0, x1, x2, sn, l'⟩) := Lib.hid (fun z hz => by
          have h1 := HI2.out
          rw [hz] at h1
          split at h1
          · simp only [Option.map_some, Option.some.injEq] at h1
            rw [← h1, HXS.out.1, HXS.out.2.1, HXS.out.2.2.1, HXS.out.2.2.2]
            rfl
          · cases h1)
        clear hw9 d0 d1 d2 d3 d4 d5 f5 HB9 HO8 HB8 HF8
        obtain ⟨r0, r1, r2, r3, r4, r5⟩ := cells6 HE.out.res
        obtain ⟨d0, d1, d2, d3, d4, d5⟩ := cells6 HE.out.box
        have f0 := free6 HE.out.res 0
        have f1 := free6 HE.out.res 1
        have f2 := free6 HE.out.res 2
        have f3 := free6 HE.out.res 3
        have f4 := free6 HE.out.res 4
        have f5 := free6 HE.out.res 5
        go_wp2
        exact bodyPost_ret (v := .tuple #[.agg (insCells op x0 x1 x2 sn (.slice A8 n1 c8)), .bool (decide ((n1 : Int) ≤ 8))]) (by simp [results, Tryz.results77, go_sem, insCells, r0, r1, r2, r3, r4, r5]) rfl (fld_end13 HE.out HB.out HZO.out (fun _ => HX.out))
      · have HD : Hid (∀ x l'', l' = x :: l'' → fldG (q :: (lettersOf sh).drop (k + 1)) l' s = fldG ((lettersOf sh).drop (k + 1)) l'' (if isReg q = true then ⟨s.pos, s.rs ++ [x], s.n, s.args⟩ else ⟨s.pos, s.rs, x, s.args⟩)) := Lib.hid (fun x l'' e => by
          subst e
          simp only [fldG, if_neg h108])
        have HDN : Hid (l' = [] → O = none) := Lib.hid (fun e => by
          have := HI.out
          rw [e] at this
          simp only [fldG, if_neg h108, Option.map_none] at this
          exact this.symm)
        have e3b : (((sh[k]'hlt).toNat : Int) == 108) = false := by
          have : ¬ ((sh[k]'hlt).toNat : Int) = 108 := by rw [← HQ.out]; exact h108
          simpa using this
        clear hq h108
        cases hl' : l' with
        | nil =>
          have hn0 : n1 = 0 := by rw [HN1.out, hl']; rfl
          subst hn0
          have HO0 := Lib.hid (HDN.out hl')
          clear hl'
          obtain ⟨r0, r1, r2, r3, r4, r5⟩ := cells6 HF.out.res
          obtain ⟨d0, d1, d2, d3, d4, d5⟩ := cells6 HF.out.box
          have f0 := free6 HF.out.res 0
          have f1 := free6 HF.out.res 1
          have f2 := free6 HF.out.res 2
          have f3 := free6 HF.out.res 3
          have f4 := free6 HF.out.res 4
          have f5 := free6 HF.out.res 5
          go_wp2
          exact bodyPost_ret (v := .tuple #[.agg (insCells op x0 x1 x2 sn (.slice none 0 0)), .bool (false)]) (by simp [results, Tryz.results77, go_sem, insCells, r0, r1, r2, r3, r4, r5]) rfl (fld_end13 (args := []) HF.out (by rw [HO0.out]; rfl) (fun z hz => by rw [HO0.out] at hz; cases hz) (fun h => by rw [HO0.out] at h; cases h))
        | cons x l'' =>
          have HL2 := Lib.hid hl'
          obtain ⟨n2, hn2'⟩ : ∃ n, n = l''.length := ⟨_, rfl⟩
          have hne : n1 = n2 + 1 := by rw [HN1.out, hl', hn2']; rfl
          have hv2 := HV1.out
          rw [hl', hne] at hv2
          obtain ⟨nb, no, hA1, hcap, hnb, hc0, o', c', hsl, hv3⟩ := nums_tail13 hn2' hv2
          have HN2 := Lib.hid hn2'
          have HV3 := Lib.hid hv3
          have z0 := (HF.out.bel.cell (p := ⟨nb, no, none⟩) hnb).trans hc0
          have HT := Lib.hid (HD.out x l'' hl')
          have HLE := Lib.hid (show l''.length ≤ 1000000 by omega)
          subst hne hA1
          have i1 : (0 : Int) < ((n2 : Int) + 1) := by omega
          clear hl' hn2' hv2 hv3 hc0 hnb
          by_cases hreg : isReg q = true
          · have hregq : q = 119 ∨ q = 114 := of_decide_eq_true hreg
            have HI3 : Hid ((fldG ((lettersOf sh).drop (k + 1)) l'' ⟨s.pos, s.rs ++ [x], s.n, s.args⟩).map (insOf op) = O) := Lib.hid (by
              have := HI.out
              rw [HT.out, if_pos hreg] at this
              exact this)
            have HJ3 : Hid ((s.rs ++ [x]).length + regN ((lettersOf sh).drop (k + 1)) ≤ 3) := Lib.hid (by
              have := HJ.out
              simp only [regN, hreg, if_true] at this
              simp only [List.length_append, List.length_singleton]
              omega)
            have hr3 : rn < 3 := by have := HJ3.out; rw [HRN.out]; simp only [List.length_append, List.length_singleton] at this; omega
            have HRA : Hid ((s.rs ++ [x]).length = rn + 1) := Lib.hid (by rw [HRN.out]; simp)
            clear hreg
            rcases hregq with rfl | rfl
            · have e1 : ((sh[k]'hlt).toNat : Int) = 119 := HQ.out.symm
              rcases (show rn = 0 ∨ rn = 1 ∨ rn = 2 by omega) with rfl | rfl | rfl
              · obtain ⟨d0, d1, d2, d3, d4, d5⟩ := cells6 HF.out.box
                have fj := free6 HF.out.box 1
                have HP := Lib.hid (HF.out.put 1 (.int .i64 x) (ins_put1 _ _ _ _ _ _ _))
                go_wp2
                go_roundw
                case rel => exact ⟨k + 1, ⟨s.pos, s.rs ++ [x], s.n, s.args⟩, l'', by go_num, by rw [HRA.out]; rfl, HKS.out, HV3.out, Lib.hid ⟨by obtain ⟨q0, q1, q2, q3⟩ := HXS.out; subst q0 q1 q2 q3; exact fb_reg0 HRN.out.symm HP.out, HI3.out, HA.out, HJ3.out, HLE.out⟩⟩
                case measure => have := HKS.out; simp [intOf]; omega
              · obtain ⟨d0, d1, d2, d3, d4, d5⟩ := cells6 HF.out.box
                have fj := free6 HF.out.box 2
                have HP := Lib.hid (HF.out.put 2 (.int .i64 x) (ins_put2 _ _ _ _ _ _ _))
                go_wp2
                go_roundw
                case rel => exact ⟨k + 1, ⟨s.pos, s.rs ++ [x], s.n, s.args⟩, l'', by go_num, by rw [HRA.out]; rfl, HKS.out, HV3.out, Lib.hid ⟨by obtain ⟨q0, q1, q2, q3⟩ := HXS.out; subst q0 q1 q2 q3; exact fb_reg1 HRN.out.symm HP.out, HI3.out, HA.out, HJ3.out, HLE.out⟩⟩
                case measure => have := HKS.out; simp [intOf]; omega
              · obtain ⟨d0, d1, d2, d3, d4, d5⟩ := cells6 HF.out.box
                have fj := free6 HF.out.box 3
                have HP := Lib.hid (HF.out.put 3 (.int .i64 x) (ins_put3 _ _ _ _ _ _ _))
                go_wp2
                go_roundw
                case rel => exact ⟨k + 1, ⟨s.pos, s.rs ++ [x], s.n, s.args⟩, l'', by go_num, by rw [HRA.out]; rfl, HKS.out, HV3.out, Lib.hid ⟨by obtain ⟨q0, q1, q2, q3⟩ := HXS.out; subst q0 q1 q2 q3; exact fb_reg2 HRN.out.symm HP.out, HI3.out, HA.out, HJ3.out, HLE.out⟩⟩
                case measure => have := HKS.out; simp [intOf]; omega
            · have e1 : ((sh[k]'hlt).toNat : Int) = 114 := HQ.out.symm
              rcases (show rn = 0 ∨ rn = 1 ∨ rn = 2 by omega) with rfl | rfl | rfl
              · obtain ⟨d0, d1, d2, d3, d4, d5⟩ := cells6 HF.out.box
                have fj := free6 HF.out.box 1
                have HP := Lib.hid (HF.out.put 1 (.int .i64 x) (ins_put1 _ _ _ _ _ _ _))
                go_wp2
                go_roundw
                case rel => exact ⟨k + 1, ⟨s.pos, s.rs ++ [x], s.n, s.args⟩, l'', by go_num, by rw [HRA.out]; rfl, HKS.out, HV3.out, Lib.hid ⟨by obtain ⟨q0, q1, q2, q3⟩ := HXS.out; subst q0 q1 q2 q3; exact fb_reg0 HRN.out.symm HP.out, HI3.out, HA.out, HJ3.out, HLE.out⟩⟩
                case measure => have := HKS.out; simp [intOf]; omega
              · obtain ⟨d0, d1, d2, d3, d4, d5⟩ := cells6 HF.out.box
                have fj := free6 HF.out.box 2
                have HP := Lib.hid (HF.out.put 2 (.int .i64 x) (ins_put2 _ _ _ _ _ _ _))
                go_wp2
                go_roundw
                case rel => exact ⟨k + 1, ⟨s.pos, s.rs ++ [x], s.n, s.args⟩, l'', by go_num, by rw [HRA.out]; rfl, HKS.out, HV3.out, Lib.hid ⟨by obtain ⟨q0, q1, q2, q3⟩ := HXS.out; subst q0 q1 q2 q3; exact fb_reg1 HRN.out.symm HP.out, HI3.out, HA.out, HJ3.out, HLE.out⟩⟩
                case measure => have := HKS.out; simp [intOf]; omega
              · obtain ⟨d0, d1, d2, d3, d4, d5⟩ := cells6 HF.out.box
                have fj := free6 HF.out.box 3
                have HP := Lib.hid (HF.out.put 3 (.int .i64 x) (ins_put3 _ _ _ _ _ _ _))
                go_wp2
                go_roundw
                case rel => exact ⟨k + 1, ⟨s.pos, s.rs ++ [x], s.n, s.args⟩, l'', by go_num, by rw [HRA.out]; rfl, HKS.out, HV3.out, Lib.hid ⟨by obtain ⟨q0, q1, q2, q3⟩ := HXS.out; subst q0 q1 q2 q3; exact fb_reg2 HRN.out.symm HP.out, HI3.out, HA.out, HJ3.out, HLE.out⟩⟩
                case measure => have := HKS.out; simp [intOf]; omega
          · have hrb : isReg q = false := by simpa using hreg
            have hn1' : ¬ (q = 119 ∨ q = 114) := fun h => hreg (decide_eq_true h)
            have HI3 : Hid ((fldG ((lettersOf sh).drop (k + 1)) l'' ⟨s.pos, s.rs, x, s.args⟩).map (insOf op) = O) := Lib.hid (by
              have := HI.out
              rw [HT.out, if_neg hreg] at this
              exact this)
            have HJ3 : Hid (s.rs.length + regN ((lettersOf sh).drop (k + 1)) ≤ 3) := Lib.hid (by
              have := HJ.out
              simp only [regN, hrb] at this
              simpa using this)
            have e1b : (((sh[k]'hlt).toNat : Int) == 119) = false := by
              have : ¬ ((sh[k]'hlt).toNat : Int) = 119 := by rw [← HQ.out]; exact fun h => hn1' (.inl h)
              simpa using this
            have e2b : (((sh[k]'hlt).toNat : Int) == 114) = false := by
              have : ¬ ((sh[k]'hlt).toNat : Int) = 114 := by rw [← HQ.out]; exact fun h => hn1' (.inr h)
              simpa using this
            have e1c : (((sh[k]'hlt).toNat : Int) != 119) = true := by rw [bne, e1b]; rfl
            have e2c : (((sh[k]'hlt).toNat : Int) != 114) = true := by rw [bne, e2b]; rfl
            obtain ⟨d0, d1, d2, d3, d4, d5⟩ := cells6 HF.out.box
            have fj := free6 HF.out.box 4
            have HP := Lib.hid (HF.out.put 4 (.int .i64 x) (ins_put4 _ _ _ _ _ _ _))
            clear hreg hrb hn1'
            go_wp2
            go_roundw
            case rel => exact ⟨k + 1, ⟨s.pos, s.rs, x, s.args⟩, l'', by go_num, by rw [HRN.out], HKS.out, HV3.out, Lib.hid ⟨by obtain ⟨q0, q1, q2, q3⟩ := HXS.out; subst q0 q1 q2 q3; exact HP.out, HI3.out, HA.out, HJ3.out, HLE.out⟩⟩
            case measure => have := HKS.out; simp [intOf]; omega
    · obtain rfl : k = sh.size := by omega
      have HI2 : Hid ((if l' = [] then some s else none).map (insOf op) = O) := Lib.hid (by
        have h1 := HG.out.2.1
        rw [List.drop_eq_nil_of_le (by rw [letters_len]; exact Nat.le_refl _)] at h1
        simpa only [fldG] using h1)
      have hI1 : ¬ (sh.size : Int) < (sh.size : Int) := by omega
      have HB : Hid (O.isSome = ((n1 : Int) == 0)) := Lib.hid (by
        rw [← HI2.out]
        by_cases h : l' = []
        · have h2 : ((n1 : Int) == 0) = true := by rw [HN1.out, h]; rfl
          rw [if_pos h, h2]; rfl
        · have h2 : ((n1 : Int) == 0) = false := by
            have : l'.length ≠ 0 := fun e => h (List.eq_nil_of_length_eq_zero e)
            rw [HN1.out]
            simpa using h
          rw [if_neg h, h2]; rfl)
      have HZO : Hid (∀ z, O = some z → z = ⟨op, x0, x1, x2, sn, []⟩) := Lib.hid (fun z hz => by
        have h1 := HI2.out
        rw [hz] at h1
        split at h1
        · simp only [Option.map_some, Option.some.injEq] at h1
          rw [← h1, HXS.out.1, HXS.out.2.1, HXS.out.2.2.1, HXS.out.2.2.2, ← HG.out.2.2.1]
          rfl
        · cases h1)
      clear hlt hk HG
      obtain ⟨r0, r1, r2, r3, r4, r5⟩ := cells6 HF.out.res
      obtain ⟨d0, d1, d2, d3, d4, d5⟩ := cells6 HF.out.box
      have f0 := free6 HF.out.res 0
      have f1 := free6 HF.out.res 1
      have f2 := free6 HF.out.res 2
      have f3 := free6 HF.out.res 3
      have f4 := free6 HF.out.res 4
      have f5 := free6 HF.out.res 5
      go_wp2
      exact bodyPost_ret (v := .tuple #[.agg (insCells op x0 x1 x2 sn (.slice none 0 0)), .bool ((n1 : Int) == 0)]) (by simp [results, Tryz.results77, go_sem, insCells, r0, r1, r2, r3, r4, r5]) rfl (fld_end13 HF.out HB.out HZO.out (fun _ => Owns.nil _ _ _ _ _))
end Go.Proofs.YtohlifeenhaifaaGreatDoor
