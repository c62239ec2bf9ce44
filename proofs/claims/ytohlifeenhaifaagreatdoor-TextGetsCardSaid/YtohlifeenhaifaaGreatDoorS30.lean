/- Lemmas of Text13H, Text13I, Text13J, Text13K, Text13L, each with its own remark. -/
import Derived.Test.YtohlifeenhaifaaGreatDoorS29
import Derived.Test.YtohlifeenhaifaaGreatDoorS13
import Derived.StillTailTactics
/- (Text13H) The landed reader: where it lies; bytes of data. Contract; no condition but what it names. -/
namespace Go.Proofs.YtohlifeenhaifaaGreatDoor
open Go.RowKit Go.Shelf
set_option linter.unusedVariables false
set_option linter.unusedSimpArgs false

abbrev nilS : Value := .slice none 0 0
/-- Whatever these lead to lies from a place on. -/
def HighX (b : Nat) (Xs : List Value) : Prop := ∀ X ∈ Xs, ∀ g, X.ownBlock = some g → b ≤ g
theorem HighX.nil (b : Nat) : HighX b [] := fun X h => by cases h
theorem HighX.snoc {b : Nat} {Xs : List Value} {X : Value} (h : HighX b Xs) (hX : ∀ g, X.ownBlock = some g → b ≤ g) : HighX b (Xs ++ [X]) := fun Y hY => by
  rcases List.mem_append.1 hY with hY | hY
  · exact h Y hY
  · simp at hY; subst hY; exact hX
theorem HighX.at {b : Nat} {Xs : List Value} (h : HighX b Xs) {i : Nat} (hi : i < Xs.length) (d : Value) : ∀ g, (Xs.getD i d).ownBlock = some g → b ≤ g := by
  rw [List.getD_eq_getElem?_getD, List.getElem?_eq_getElem hi]
  exact h _ (List.getElem_mem hi)
/-- Functions that have been read, each code in a block of its own; the last one's code still grows. -/
structure Fns13 (base b0 : Nat) (W : World) (F : Value) (fs : List FunV) (Cs : List Value) : Prop where
  fown : Owns W base 53 4 AnyCell F fs.length (cellsF fs Cs)
  flen : Cs.length = fs.length
  finn : ∀ f ∈ fs, FunB f
  cods : ∀ i, i < fs.length → ∃ bs Xs, OwnC bs W (Cs.getD i (.slice none 0 0)) (fs.getD i .zero).code Xs ∧ (fs.getD i .zero).code.length ≤ 1000000 ∧ base ≤ bs ∧ HighX base Xs
  old : ∀ i, i + 1 < fs.length → ∀ g, (Cs.getD i (.slice none 0 0)).ownBlock = some g → g < b0
  last : fs ≠ [] → ∃ Xs, OwnC b0 W (Cs.getD (fs.length - 1) (.slice none 0 0)) (fs.getD (fs.length - 1) .zero).code Xs ∧ HighX base Xs
  b0l : base ≤ b0
  b0w : b0 ≤ W.heap.size
/-- A reader, and what it has read. -/
structure Rdr13 (base b0 : Nat) (W : World) (rb : Nat) (D F : Value) (m : ModV) (Cs : List Value) : Prop where
  box : W.heap[rb]? = some (.cells #[D, F] 69 (0, 0))
  dat : Owns W base 5 1 IsU8 D m.data.length (m.data.map (Value.int .u8))
  bd : ∀ x ∈ m.data, 0 ≤ x ∧ x < 256
  fns : Fns13 base b0 W F m.funcs Cs
section
variable {base b0 : Nat} {W W' : World} {rb : Nat} {D F : Value} {m : ModV} {fs : List FunV} {Cs : List Value}
theorem Fns13.fn (h : Fns13 base b0 W F fs Cs) : OwnF 53 base W F fs Cs := ⟨h.fown, h.flen, h.finn, fun i hi => by obtain ⟨bs, Xs, h1, h2, _⟩ := h.cods i hi; exact .inr ⟨bs, Xs, h1, h2⟩⟩
theorem ownC_but13 {R : Nat → Prop} {bs : Nat} {C : Value} {l : List InsV} {Xs : List Value} (ho : OwnC bs W C l Xs) (hb : But R W W') (h2 : ∀ k c, W.heap[k]? = some (.cells c 28 (0, 0)) → ¬ R k) (h3 : ∀ k c, W.heap[k]? = some (.cells c 3 (0, 0)) → ¬ R k) : OwnC bs W' C l Xs :=
  ho.but hb (fun g hg => by obtain ⟨c, e⟩ := ho.own.typed hg; exact h2 _ _ e) (fun i hi g hg => by obtain ⟨c, e⟩ := (ho.nums i hi).typed hg; exact h3 _ _ e)
theorem Fns13.but {R : Nat → Prop} (h : Fns13 base b0 W F fs Cs) (hb : But R W W') (h1 : ∀ k c, W.heap[k]? = some (.cells c 53 (0, 0)) → ¬ R k) (h2 : ∀ k c, W.heap[k]? = some (.cells c 28 (0, 0)) → ¬ R k) (h3 : ∀ k c, W.heap[k]? = some (.cells c 3 (0, 0)) → ¬ R k) : Fns13 base b0 W' F fs Cs :=
  ⟨h.fown.but hb (fun g hg => by obtain ⟨c, e⟩ := h.fown.typed hg; exact h1 _ _ e), h.flen, h.finn, fun i hi => by
    obtain ⟨bs, Xs, ho, hl⟩ := h.cods i hi
    exact ⟨bs, Xs, ownC_but13 ho hb h2 h3, hl⟩, h.old, fun hn => by
    obtain ⟨Xs, ho, hx⟩ := h.last hn
    exact ⟨Xs, ownC_but13 ho hb h2 h3, hx⟩, h.b0l, Nat.le_trans h.b0w hb.size⟩
theorem Fns13.but2 {R : Nat → Prop} (h : Fns13 base b0 W F fs Cs) (hb : But R W W') (hR : ∀ k, R k → k < base) : Fns13 base b0 W' F fs Cs := by
  have hc : ∀ {bs : Nat} {C : Value} {l : List InsV} {Xs : List Value}, OwnC bs W C l Xs → base ≤ bs → HighX base Xs → OwnC bs W' C l Xs := fun {bs C l Xs} ho hbs hx =>
    ho.but hb (fun g hg e => by have h1 := (ho.own.lt hg).1; have h2 := hR _ e; omega) (fun i hi g hg e => by have h1 := hx.at (by rw [ho.len]; exact hi) _ g hg; have h2 := hR _ e; omega)
  exact ⟨h.fown.but hb (fun g hg e => by have h1 := (h.fown.lt hg).1; have h2 := hR _ e; omega), h.flen, h.finn, fun i hi => by
    obtain ⟨bs, Xs, ho, hl, hbs, hx⟩ := h.cods i hi
    exact ⟨bs, Xs, hc ho hbs hx, hl, hbs, hx⟩, h.old, fun hn => by
    obtain ⟨Xs, ho, hx⟩ := h.last hn
    exact ⟨Xs, hc ho h.b0l hx, hx⟩, h.b0l, Nat.le_trans h.b0w hb.size⟩
theorem Fns13.grow (h : Fns13 base b0 W F fs Cs) (hb : Below W.heap.size W W') : Fns13 base b0 W' F fs Cs :=
  h.but (But.of_below (R := NoBlock) hb) (fun _ _ _ h => h) (fun _ _ _ h => h) (fun _ _ _ h => h)
theorem Rdr13.grow (h : Rdr13 base b0 W rb D F m Cs) (hb : Below W.heap.size W W') : Rdr13 base b0 W' rb D F m Cs :=
  ⟨box_below h.box hb, h.dat.below hb (Nat.le_refl _), h.bd, h.fns.grow hb⟩
theorem Rdr13.cells (h : Rdr13 base b0 W rb D F m Cs) : W.cell? ⟨rb, 0, none⟩ = some D ∧ W.cell? ⟨rb, 1, none⟩ = some F := cells2 h.box
theorem Rdr13.free (h : Rdr13 base b0 W rb D F m Cs) (o : Nat) : W.frozen? ⟨rb, o, none⟩ = false := frozen_of_row W rb o _ _ h.box
theorem Rdr13.lt (h : Rdr13 base b0 W rb D F m Cs) : rb < W.heap.size := heap_lt h.box
/-- Nothing but the reader's box, and blocks of cells from a place on. -/
def Wr13 (rb bb : Nat) (w w' : World) : Prop := But (fun k => k = rb ∨ (bb ≤ k ∧ ∃ c t f, w.heap[k]? = some (.cells c t f))) w w'
theorem Wr13.of_but {R : Nat → Prop} {rb bb : Nat} {w w' : World} (h : But R w w') (hr : ∀ k, R k → k = rb ∨ (bb ≤ k ∧ ∃ c t f, w.heap[k]? = some (.cells c t f))) : Wr13 rb bb w w' := h.mono hr
theorem Wr13.of_below {rb bb : Nat} {w w' : World} (h : Below w.heap.size w w') : Wr13 rb bb w w' := But.of_below h
theorem Wr13.refl (rb bb : Nat) (w : World) : Wr13 rb bb w w := But.refl _ w
theorem Wr13.trans {rb bb : Nat} {a b c : World} (h : Wr13 rb bb a b) (k : Wr13 rb bb b c) : Wr13 rb bb a c :=
  ⟨k.os.trans h.os, k.tape.trans h.tape, k.output.trans h.output, Nat.le_trans h.size k.size, fun i hi hr => by
    have e := h.block i hi hr
    exact (k.block i (Nat.lt_of_lt_of_le hi h.size) (fun hb => hr (by rw [e] at hb; exact hb))).trans e⟩
theorem Wr13.drew {rb bb : Nat} {w w' : World} (h : Wr13 rb bb w w') : Wr13 rb bb w w'.drew := But.drew h
theorem Wr13.below {B rb bb : Nat} {w w' : World} (h : Wr13 rb bb w w') (h1 : B ≤ rb) (h2 : B ≤ bb) (hw : B ≤ w.heap.size) : Below B w w' :=
  ⟨h.os, h.tape, h.output, h.size, fun k hk => h.block k (by omega) (by rintro (e | ⟨e, _⟩) <;> omega)⟩
theorem typed_ne {k : Nat} {c c' : Array Value} {t t' : TypeId} (h : W.heap[k]? = some (.cells c t (0, 0))) (ht : t ≠ t') (h' : W.heap[k]? = some (.cells c' t' (0, 0))) : False := ht (other_type h h')
theorem Rdr13.rb_ne (h : Rdr13 base b0 W rb D F m Cs) : some rb ≠ D.ownBlock := fun e => by
  obtain ⟨c, hc⟩ := h.dat.typed e.symm
  exact typed_ne hc (by decide) h.box
/-- A byte more. -/
theorem Rdr13.data {D' : Value} {x : Int} (h : Rdr13 base b0 W rb D F m Cs) (hM : More1 5 base IsU8 W W' D D' (m.data.map (Value.int .u8)) (.int .u8 x)) (hx : 0 ≤ x ∧ x < 256) (hbw : base ≤ W.heap.size) :
    Rdr13 base b0 (W'.setCell ⟨rb, 0, none⟩ D') rb D' F ⟨m.data ++ [x], m.funcs⟩ Cs ∧ Wr13 rb base W (W'.setCell ⟨rb, 0, none⟩ D') ∧ ∀ V l, Strs13 W V l → Strs13 (W'.setCell ⟨rb, 0, none⟩ D') V l := by
  have hne : some rb ≠ D.ownBlock := fun e => by
    obtain ⟨c, hc⟩ := h.dat.typed e.symm
    exact typed_ne hc (by decide) h.box
  have hbx := (hM.blk rb h.lt hne).trans h.box
  have hset := heap_setCell_same W' rb 0 _ _ D' hbx
  have hbut : But (fun k => k = rb ∨ some k = D.ownBlock) W (W'.setCell ⟨rb, 0, none⟩ D') := by
    refine But.setCell ⟨hM.bel.os, hM.bel.tape, hM.bel.output, hM.size, fun k hk hn => hM.blk k hk (fun e => hn (.inr e))⟩ (p := ⟨rb, 0, none⟩) (.inl (.inl rfl)) _
  have hbut2 : But (OneBlock rb) W' (W'.setCell ⟨rb, 0, none⟩ D') := (But.refl (OneBlock rb) W').setCell (p := ⟨rb, 0, none⟩) (.inl rfl) _
  have hn : ∀ (t : TypeId), t ≠ 69 → t ≠ 5 → ∀ k c, W.heap[k]? = some (.cells c t (0, 0)) → ¬ (k = rb ∨ some k = D.ownBlock) := fun t h1 h2 k c hc e => by
    rcases e with rfl | e
    · exact typed_ne hc h1 h.box
    · obtain ⟨c', hc'⟩ := h.dat.typed e.symm
      exact typed_ne hc h2 hc'
  refine ⟨⟨hset, ?_, fun z hz => ?_, h.fns.but hbut (hn _ (by decide) (by decide)) (hn _ (by decide) (by decide)) (hn _ (by decide) (by decide))⟩, Wr13.of_but hbut (fun k hk => ?_), fun V l hs => hs.but hbut (hn _ (by decide) (by decide))⟩
  · have ho := hM.own
    rw [show m.data.map (Value.int .u8) ++ [.int .u8 x] = (m.data ++ [x]).map (Value.int .u8) by simp, List.length_map] at ho
    refine ho.but hbut2 (fun g hg e => ?_)
    have e' : g = rb := e
    subst e'
    obtain ⟨c, hc⟩ := ho.typed hg
    exact typed_ne hc (by decide) hbx
  · rcases List.mem_append.1 hz with hz | hz
    · exact h.bd z hz
    · simp at hz; subst hz; exact hx
  · rcases hk with rfl | e
    · exact .inl rfl
    · obtain ⟨c, hc⟩ := h.dat.typed e.symm
      exact .inr ⟨(h.dat.lt e.symm).1, _, _, _, hc⟩
end
def byteB (x : Int) : Bool := decide (0 ≤ x ∧ x ≤ 255)
def dataE (ws : List (List Int)) : Int := match numsP ws with
  | none => 5
  | some n => if n.all byteB = true then 0 else 5
def DataDone13 (base b0 rb : Nat) (F : Value) (m : ModV) (Cs : List Value) (w : World) (ws : List (List Int)) (e : Ending) (w' : World) : Prop :=
  ∃ D' ns, e = .returned (.int .i64 (dataE ws)) ∧ Rdr13 base b0 w' rb D' F ⟨m.data ++ ns, m.funcs⟩ Cs ∧ Wr13 rb base w w' ∧ (dataE ws = 0 → numsP ws = some ns)
theorem dataE_yes {ws : List (List Int)} {n : List Int} (h : numsP ws = some n) (h2 : n.all byteB = true) : dataE ws = 0 := by unfold dataE; rw [h]; simp [h2]
theorem dataE_none {ws : List (List Int)} {w : List Int} (hm : w ∈ ws) (h : numP w = none) : dataE ws = 5 := by unfold dataE; rw [nums_none ws w hm h]
theorem nums_mem : ∀ (ws : List (List Int)) (n : List Int) (w : List Int) (x : Int), numsP ws = some n → w ∈ ws → numP w = some x → x ∈ n
  | v :: ws, n, w, x, h, hm, hx => by
    simp only [numsP] at h
    split at h
    · rename_i a ms h1 h2
      injection h with h
      subst h
      rcases List.mem_cons.1 hm with rfl | hm
      · rw [h1] at hx; injection hx with hx; subst hx; simp
      · exact List.mem_cons_of_mem _ (nums_mem ws ms w x h2 hm hx)
    · cases h
theorem dataE_out {ws : List (List Int)} {w : List Int} {x : Int} (hm : w ∈ ws) (h : numP w = some x) (hx : byteB x = false) : dataE ws = 5 := by
  unfold dataE
  split
  · rfl
  · rename_i n hn
    rw [if_neg]
    intro hall
    have := List.all_eq_true.1 hall x (nums_mem ws n w x hn hm h)
    rw [this] at hx
    cases hx
theorem Strs13.at {w : World} {V : Value} {l : List ByteArray} (h : Strs13 w V l) : ∃ A off cap, V = .slice (some ⟨A, off, none⟩) l.length cap ∧ ∀ i, i < l.length → w.cell? ⟨A, off + i, none⟩ = some (.string (l.getD i ⟨#[]⟩)) := by
  obtain ⟨-, A, off, cap, -, h1, -, -, h4⟩ := h
  exact ⟨A, off, cap, h1, h4⟩
set_option maxRecDepth 100000 in
set_option maxHeartbeats 8000000 in
theorem data13_any (V : Value) (l : List ByteArray) (base b0 rb : Nat) (D F : Value) (m : ModV) (Cs : List Value) (w0 w : World) (hE : Env13 w0) (h0 : Below w0.heap.size w0 w) (hB : w0.heap.size ≤ base ∧ w0.heap.size ≤ rb) (hbw : base ≤ w.heap.size) (hR : Rdr13 base b0 w rb D F m Cs)
    (hV : Strs13 w V l) (hsz : ∀ x ∈ l, x.size ≤ 4294967295) (hm : m.data.length + l.length ≤ 1000000000) :
    Calls Tryz.prog 64 #[.pointer (some ⟨rb, 0, none⟩), V] w (DataDone13 base b0 rb F m Cs w (l.map lettersOf)) := by
  obtain ⟨VA, vo, vc, hVe, -⟩ := hV.at
  obtain ⟨n, hne⟩ : ∃ n, n = l.length := ⟨_, rfl⟩
  have HN := Lib.hid hne
  have HV := Lib.hid hV
  have HR0 := Lib.hid hR
  have HE := Lib.hid hE
  have H0 := Lib.hid h0
  have HB := Lib.hid (And.intro hB hbw)
  have HSZ := Lib.hid hsz
  have HM := Lib.hid hm
  have HNum : Hid (∀ (s : ByteArray) (v : Int) (W : World), s.size ≤ 4294967295 → numP (lettersOf s) = some v → Env13 W → Calls Tryz.prog 13 #[.string s] W (Makes W (.tuple #[.int .i64 v, .bool true]))) := Lib.hid (fun s v W h1 h2 h3 => number13_some s (by omega) v h2 W h3)
  have HNon : Hid (∀ (s : ByteArray) (W : World), s.size ≤ 4294967295 → numP (lettersOf s) = none → Env13 W → Calls Tryz.prog 13 #[.string s] W (Makes W (.tuple #[.int .i64 0, .bool false]))) := Lib.hid (fun s W h1 h2 h3 => number13_none s (by omega) h2 W h3)
  have hn2 : n ≤ 1000000000 := by omega
  rw [hVe, ← hne] at HV ⊢
  clear hV hR hE h0 hB hbw hsz hne hm hVe
  go_enter Tryz.func64, Tryz.ntmps64
  go_wp2
  go_loopw [11] (fun v11 wr => ∃ (k : Nat) (D1 : Value) (ns : List Int), v11 = .int .i64 k ∧ k ≤ n ∧ Hid (ns.length = k ∧ numsP ((l.map lettersOf).take k) = some ns ∧ ns.all byteB = true ∧ Rdr13 base b0 wr rb D1 F ⟨m.data ++ ns, m.funcs⟩ Cs ∧ Wr13 rb base w wr ∧ Strs13 wr (.slice (some ⟨VA, vo, none⟩) n vc) l)) (fun v11 _ => n - (intOf v11).toNat)
  case atStart => exact ⟨0, D, [], rfl, Nat.zero_le _, Lib.hid ⟨rfl, rfl, rfl, by rw [List.append_nil]; exact HR0.out, Wr13.refl _ _ _, HV.out⟩⟩
  case round =>
    obtain ⟨k, D1, ns, rfl, hk, HR⟩ := hrel
    have HEr : Hid (Env13 wr) := Lib.hid (HE.out.grow (H0.out.trans (HR.out.2.2.2.2.1.below HB.out.1.2 HB.out.1.1 H0.out.size)))
    by_cases hlt : k < n
    · obtain ⟨VA', vo', vc', hVe, hvc⟩ := HR.out.2.2.2.2.2.at
      rw [← HN.out] at hVe
      injection hVe with e1 _ e3
      injection e1 with e1
      injection e1 with e1 e2 _
      subst e1 e2 e3
      have hkl : k < l.length := by have := HN.out; omega
      have hcv := hvc k hkl
      have HS := Lib.hid (HSZ.out (l.getD k ⟨#[]⟩) (by rw [List.getD_eq_getElem?_getD, List.getElem?_eq_getElem hkl]; exact List.getElem_mem hkl))
      have HG := Lib.hid (getD_map hkl)
      generalize l.getD k ⟨#[]⟩ = s at *
      have hlt2 : (k : Int) < (n : Int) := by omega
      obtain ⟨DA, dc, hDe⟩ := owns_len HR.out.2.2.2.1.dat
      subst hDe
      have hln : (m.data ++ ns).length = m.data.length + k := by rw [List.length_append, HR.out.1]
      rw [hln] at HR
      clear hvc hkl
      have HFail : dataE (l.map lettersOf) = 5 → Hid (∀ W, Below wr.heap.size wr W → DataDone13 base b0 rb F m Cs w (l.map lettersOf) (.returned (.int .i64 5)) W) := fun h5 => Lib.hid (fun W hb => ⟨_, ns, by rw [h5], HR.out.2.2.2.1.grow hb, HR.out.2.2.2.2.1.trans (Wr13.of_below hb), fun h => by rw [h5] at h; cases h⟩)
      cases hnum : numP (lettersOf s) with
      | none =>
        have HF := HFail (dataE_none HG.out.2 hnum)
        have HC := Lib.hid (HNon.out s wr HS.out hnum HEr.out)
        clear hnum HFail
        go_wp2_with (go_at_call 13; (with_reducible refine HC.out.mono ?_); rintro e w1 ⟨rfl, hb1⟩; have HB1 := Lib.hid hb1; clear hb1)
        go_ret
        exact HF.out _ HB1.out
      | some x =>
        have HC := Lib.hid (HNum.out s x wr HS.out hnum HEr.out)
        by_cases hx : byteB x = true
        · have hx2 := of_decide_eq_true hx
          have HNX : Hid (numsP ((l.map lettersOf).take (k + 1)) = some (ns ++ [x]) ∧ (ns ++ [x]).all byteB = true) := Lib.hid ⟨by rw [HG.out.1]; exact nums_snoc _ _ _ _ HR.out.2.1 hnum, by rw [List.all_append, HR.out.2.2.1]; simp [hx]⟩
          have hx0 : ¬ x < 0 := by omega
          have hx1 : ¬ 255 < x := by omega
          have hx3 : 0 ≤ x := by omega
          have hx4 : x < 256 := by omega
          have HX := Lib.hid (And.intro hx3 hx4)
          have HRS : Hid (base ≤ wr.heap.size) := Lib.hid (Nat.le_trans HB.out.2 HR.out.2.2.2.2.1.size)
          clear hnum HFail hx hx2
          go_wp2_with (first
            | (go_at_call 13; (with_reducible refine HC.out.mono ?_); rintro e w1 ⟨rfl, hb1⟩; have HB1 := Lib.hid hb1; have HR1 := Lib.hid (HR.out.2.2.2.1.grow hb1); have hc1 := HR1.out.cells.1; have HO1 : Hid (Owns w1 base 5 1 IsU8 (.slice DA (m.data.length + k) dc) ((m.data ++ ns).map (Value.int .u8)).length ((m.data ++ ns).map (Value.int .u8))) := (by rw [List.length_map]; exact Lib.hid HR1.out.dat); have HZ1 := Lib.hid (Nat.le_trans HB.out.2 (Nat.le_trans HR.out.2.2.2.2.1.size hb1.size)); clear hb1)
            | (at_builtin; refine wpList_one1 rfl (.tmp 35) (.tmp 38) rfl Tryz.underlying22 u8_info rfl zero_u8 rfl rfl rfl HO1.out ⟨x, HX.out.1, HX.out.2, rfl⟩ rfl HZ1.out (by rw [List.length_map, hln]; have := HM.out; have := HN.out; omega) (by decide) ?_; intro V' W' hM; have HD := Lib.hid (HR1.out.data hM HX.out HZ1.out); have hbx := (hM.blk rb HR1.out.lt HR1.out.rb_ne).trans HR1.out.box; have g0 := (cells2 hbx).1; have g1 := frozen_of_row W' rb 0 _ _ hbx; have ho := hM.own; rw [List.length_append, List.length_map, hln, List.length_singleton] at ho; obtain ⟨A', c', he'⟩ := owns_len ho; subst he'; clear hM hbx ho))
          go_roundw
          case rel => exact ⟨k + 1, _, ns ++ [x], by go_num, by omega, Lib.hid ⟨by simp [HR.out.1], HNX.out.1, HNX.out.2, by have := HD.out.1; rw [List.append_assoc] at this; exact this, HR.out.2.2.2.2.1.trans ((Wr13.of_below HB1.out).trans HD.out.2.1), HD.out.2.2 _ _ (HR.out.2.2.2.2.2.grow HB1.out)⟩⟩
          case measure => simp [intOf]; omega
        · have hxf : byteB x = false := by simpa using hx
          have hx2 : x < 0 ∨ 255 < x := by
            have := of_decide_eq_false hxf
            omega
          have HF := HFail (dataE_out HG.out.2 hnum hxf)
          clear hnum HFail hx hxf
          rcases hx2 with hx2 | hx2
          · go_wp2_with (go_at_call 13; (with_reducible refine HC.out.mono ?_); rintro e w1 ⟨rfl, hb1⟩; have HB1 := Lib.hid hb1; clear hb1)
            go_ret
            exact HF.out _ HB1.out
          · have hx3 : ¬ x < 0 := by omega
            go_wp2_with (go_at_call 13; (with_reducible refine HC.out.mono ?_); rintro e w1 ⟨rfl, hb1⟩; have HB1 := Lib.hid hb1; clear hb1)
            go_ret
            exact HF.out _ HB1.out
    · have hkn : k = n := by omega
      subst hkn
      have HF : Hid (DataDone13 base b0 rb F m Cs w (l.map lettersOf) (.returned (.int .i64 0)) wr) := by
        have h1 := HR.out.2.1
        rw [List.take_of_length_le (by rw [List.length_map, HN.out]; exact Nat.le_refl _)] at h1
        exact Lib.hid ⟨D1, ns, by rw [dataE_yes h1 HR.out.2.2.1], HR.out.2.2.2.1, HR.out.2.2.2.2.1, fun _ => h1⟩
      go_wp2
      go_ret
      exact HF.out
end Go.Proofs.YtohlifeenhaifaaGreatDoor

/- (Text13I) The landed reader: a function's line. Contract; no condition but what it names. -/
namespace Go.Proofs.YtohlifeenhaifaaGreatDoor
open Go.RowKit Go.Shelf
set_option linter.unusedVariables false
set_option linter.unusedSimpArgs false

def funOf (ns : List Int) : FunV := ⟨ns.getD 0 0, ns.getD 1 0, ns.getD 2 0, []⟩
theorem funOf_ok {ns : List Int} (h : ∀ x ∈ ns, InI x) : FunB (funOf ns) := ⟨getD_in h 0, getD_in h 1, getD_in h 2⟩
def ptr3 (fb : Nat) : List Addr := [⟨fb, 0, none⟩, ⟨fb, 1, none⟩, ⟨fb, 2, none⟩]
theorem sets_fun (fb k : Nat) (ns : List Int) (hk : k ≤ 3) (hn : ns.length = k) : setsB fb ((ptr3 fb).take k) ns #[.int .i64 0, .int .i64 0, .int .i64 0, .slice none 0 0] = #[.int .i64 (funOf ns).params, .int .i64 (funOf ns).regs, .int .i64 (funOf ns).area, .slice none 0 0] := by
  subst hn
  match ns, hk with
  | [], _ => rfl
  | [x], _ => simp [setsB, ptr3, funOf]
  | [x, y], _ => simp [setsB, ptr3, funOf]
  | [x, y, z], _ => simp [setsB, ptr3, funOf]
  | x :: y :: z :: t :: r, hk => simp at hk
section
variable {base b0 : Nat} {W W' : World} {rb : Nat} {D F : Value} {m : ModV} {fs : List FunV} {Cs : List Value}
theorem Rdr13.rb_nf (h : Rdr13 base b0 W rb D F m Cs) : some rb ≠ F.ownBlock := fun e => by
  obtain ⟨c, hc⟩ := h.fns.fn.own.typed e.symm
  exact typed_ne hc (by decide) h.box
theorem Fns13.low (h : Fns13 base b0 W F fs Cs) : ∀ i, i < fs.length → ∀ g, (Cs.getD i (.slice none 0 0)).ownBlock = some g → g < W.heap.size := fun i hi g hg => by
  by_cases hl : i + 1 < fs.length
  · exact Nat.lt_of_lt_of_le (h.old i hl g hg) h.b0w
  · obtain ⟨Xs, ho, -⟩ := h.last (fun e => by rw [e] at hi; simp at hi)
    have e : fs.length - 1 = i := by omega
    rw [e] at ho
    exact (ho.own.lt hg).2
/-- A function more. -/
theorem Rdr13.func {F' : Value} {f : FunV} {B : Nat} (h : Rdr13 base b0 W rb D F m Cs) (hM : MoreF 53 base W W' F F' m.funcs Cs f (.slice none 0 0)) (hf : f.code = []) (hB : base ≤ B) (hBW : B ≤ W.heap.size) (hCs : ∀ i, i < m.funcs.length → ∀ g, (Cs.getD i (.slice none 0 0)).ownBlock = some g → g < B) :
    Rdr13 base B (W'.setCell ⟨rb, 1, none⟩ F') rb D F' ⟨m.data, m.funcs ++ [f]⟩ (Cs ++ [.slice none 0 0]) ∧ Wr13 rb base W (W'.setCell ⟨rb, 1, none⟩ F') := by
  have hbx := (hM.blk rb h.lt h.rb_nf).trans h.box
  have hset := heap_setCell_same W' rb 1 _ _ F' hbx
  have hbut2 : But (OneBlock rb) W' (W'.setCell ⟨rb, 1, none⟩ F') := (But.refl (OneBlock rb) W').setCell (p := ⟨rb, 1, none⟩) (.inl rfl) _
  have hn2 : ∀ (t : TypeId), t ≠ 69 → ∀ k c, W'.heap[k]? = some (.cells c t (0, 0)) → ¬ OneBlock rb k := fun t h1 k c hc e => by
    have e' : k = rb := e
    subst e'
    exact typed_ne hc h1 hbx
  have hbut : But (fun k => some k = F.ownBlock) W W' := ⟨hM.bel.os, hM.bel.tape, hM.bel.output, hM.size, fun k hk hn => hM.blk k hk hn⟩
  have hn1 : ∀ (t : TypeId), t ≠ 53 → ∀ k c, W.heap[k]? = some (.cells c t (0, 0)) → ¬ some k = F.ownBlock := fun t h1 k c hc e => by
    obtain ⟨c', hc'⟩ := h.fns.fn.own.typed e.symm
    exact typed_ne hc h1 hc'
  refine ⟨⟨hset, ?_, h.bd, ⟨hM.own.own.but hbut2 (fun g hg => by obtain ⟨c, e⟩ := hM.own.own.typed hg; exact hn2 _ (by decide) _ _ e), hM.own.len, hM.own.inn, fun i hi => ?_, fun i hi g hg => ?_, fun _ => ⟨[], ?_, HighX.nil _⟩, hB, ?_⟩⟩, (Wr13.of_but hbut (fun k e => ?_)).trans (Wr13.of_but hbut2 (fun k e => .inl e))⟩
  · have hd : Owns W' base 5 1 IsU8 D m.data.length (m.data.map (Value.int .u8)) := h.dat.but hbut (fun g hg e => by
      obtain ⟨c, hc⟩ := h.dat.typed hg
      obtain ⟨c', hc'⟩ := h.fns.fn.own.typed e.symm
      exact typed_ne hc (by decide) hc')
    exact hd.but hbut2 (fun g hg => by obtain ⟨c, e⟩ := hd.typed hg; exact hn2 _ (by decide) _ _ e)
  · rw [List.length_append, List.length_singleton] at hi
    by_cases hl : i < m.funcs.length
    · obtain ⟨bs, Xs, ho, hlen, hbs, hx⟩ := h.fns.cods i hl
      rw [getD_left _ _ trivial (by rw [h.fns.flen]; exact hl), getD_left _ _ trivial hl]
      exact ⟨bs, Xs, ownC_but13 (ownC_but13 ho hbut (hn1 _ (by decide)) (hn1 _ (by decide))) hbut2 (hn2 _ (by decide)) (hn2 _ (by decide)), hlen, hbs, hx⟩
    · have e0 : i = m.funcs.length := by omega
      subst e0
      rw [getD_right _ _ trivial (by rw [h.fns.flen]; exact Nat.le_refl _), getD_right _ _ trivial (Nat.le_refl _), h.fns.flen]
      simp only [Nat.sub_self, List.getD_cons_zero, hf]
      exact ⟨base, [], OwnC.nil _ _, by simp, Nat.le_refl _, HighX.nil _⟩
  · rw [List.length_append, List.length_singleton] at hi
    have hi2 : i < Cs.length := by rw [h.fns.fn.len]; omega
    rw [getD_left _ _ trivial hi2] at hg
    exact hCs i (by omega) g hg
  · have e1 : (m.funcs ++ [f]).length - 1 = m.funcs.length := by simp
    show OwnC B _ ((Cs ++ [Value.slice none 0 0]).getD ((m.funcs ++ [f]).length - 1) _) ((m.funcs ++ [f]).getD ((m.funcs ++ [f]).length - 1) .zero).code []
    rw [e1, getD_right _ _ trivial (by rw [h.fns.fn.len]; exact Nat.le_refl _), getD_right _ _ trivial (Nat.le_refl _), h.fns.fn.len]
    simp only [Nat.sub_self, List.getD_cons_zero, hf]
    exact OwnC.nil _ _
  · exact Nat.le_trans hBW (Nat.le_trans hM.size hbut2.size)
  · obtain ⟨c, hc⟩ := h.fns.fn.own.typed e.symm
    exact .inr ⟨(h.fns.fn.own.lt e.symm).1, _, _, _, hc⟩
end
def FunDone13 (base rb : Nat) (D : Value) (m : ModV) (Cs : List Value) (w : World) (ws : List (List Int)) (e : Ending) (w' : World) : Prop :=
  ∃ F' ns, e = .returned (.int .i64 (fillE ws 3)) ∧ Rdr13 base w.heap.size w' rb D F' ⟨m.data, m.funcs ++ [funOf ns]⟩ (Cs ++ [.slice none 0 0]) ∧ Wr13 rb base w w' ∧ (fillE ws 3 = 0 → numsP ws = some ns)
set_option maxRecDepth 100000 in
set_option maxHeartbeats 8000000 in
theorem function13_any (V : Value) (l : List ByteArray) (base b0 rb : Nat) (D F : Value) (m : ModV) (Cs : List Value) (w0 w : World) (hE : Env13 w0) (h0 : Below w0.heap.size w0 w) (hB : w0.heap.size ≤ base ∧ w0.heap.size ≤ rb) (hbw : base ≤ w.heap.size) (hR : Rdr13 base b0 w rb D F m Cs)
    (hV : Strs13 w V l) (hsz : ∀ x ∈ l, x.size ≤ 4294967295) (hm : m.funcs.length ≤ 1000000) :
    Calls Tryz.prog 65 #[.pointer (some ⟨rb, 0, none⟩), V] w (FunDone13 base rb D m Cs w (l.map lettersOf)) := by
  obtain ⟨w1, hw1⟩ : ∃ w1, w1 = (w.alloc (.cells #[.int .i64 0, .int .i64 0, .int .i64 0, .slice none 0 0] 53)).alloc (.cells #[.pointer (some ⟨w.heap.size, 0, none⟩), .pointer (some ⟨w.heap.size, 1, none⟩), .pointer (some ⟨w.heap.size, 2, none⟩)] 65) := ⟨_, rfl⟩
  have hb1 : Below w.heap.size w w1 := by rw [hw1]; exact ((Below.refl _ _).alloc (Nat.le_refl _) _).alloc (by simp) _
  have hbox : w1.heap[w.heap.size]? = some (.cells #[.int .i64 0, .int .i64 0, .int .i64 0, .slice none 0 0] 53 (0, 0)) := by
    rw [hw1]
    exact (Below.heap_alloc _ _ _ (by simp)).trans (heap_alloc_new w _)
  have hrow : w1.heap[w.heap.size + 1]? = some (.cells #[.pointer (some ⟨w.heap.size, 0, none⟩), .pointer (some ⟨w.heap.size, 1, none⟩), .pointer (some ⟨w.heap.size, 2, none⟩)] 65 (0, 0)) := by
    rw [hw1]
    have := heap_alloc_new (w.alloc (.cells #[.int .i64 0, .int .i64 0, .int .i64 0, .slice none 0 0] 53)) (.cells #[.pointer (some ⟨w.heap.size, 0, none⟩), .pointer (some ⟨w.heap.size, 1, none⟩), .pointer (some ⟨w.heap.size, 2, none⟩)] 65)
    rwa [World.size_alloc] at this
  have hPt : IsPtrs w1 (w.heap.size + 1) (.slice (some ⟨w.heap.size + 1, 0, none⟩) 3 3) (ptr3 w.heap.size) := ⟨⟨_, _, rfl⟩, fun _ => ⟨_, 0, 3, rfl, Nat.le_refl _, Nat.le_refl _, heap_lt hrow, fun i hi => by
    have hi3 : i < 3 := hi
    rcases (show i = 0 ∨ i = 1 ∨ i = 2 by omega) with rfl | rfl | rfl <;> simp [World.cell?, hrow, ptr3]⟩⟩
  have HF := Lib.hid (fill13_any V (.slice (some ⟨w.heap.size + 1, 0, none⟩) 3 3) l (ptr3 w.heap.size) w.heap.size (w.heap.size + 1) w0 w1 hE (h0.trans (hb1.mono h0.size)) h0.size hb1.size ((hV.strs.below hb1 (Nat.le_refl _) (Nat.le_refl _))) hsz hPt (fun p hp => by
    simp [ptr3] at hp
    rcases hp with rfl | rfl | rfl <;> exact ⟨rfl, Nat.le_refl _, Nat.lt_succ_self _, _, _, hbox, by simp⟩) (by simp [ptr3]))
  have HB1 := Lib.hid hb1
  have HBX := Lib.hid hbox
  have Hw1 := Lib.hid hw1
  have HR := Lib.hid hR
  have HB := Lib.hid (And.intro hB hbw)
  have HM := Lib.hid hm
  obtain ⟨VA, vo, vc, hVe, -⟩ := hV.at
  obtain ⟨FA, fc, hFe⟩ := owns_len hR.fns.fn.own
  subst hFe
  rw [hVe] at HF ⊢
  clear hb1 hbox hrow hPt hE h0 hB hbw hR hV hsz hm hVe hw1
  generalize l.length = n at *
  go_enter Tryz.func65, Tryz.ntmps65
  go_wp2_with (go_at_call 99; rw [← Hw1.out]; (with_reducible refine HF.out.mono ?_); rintro e w2 ⟨k, ns, rfl, hk, hns, hin, hfl, hok⟩; have HK := Lib.hid (And.intro hk (And.intro hns (And.intro hin hok))); have HFl := Lib.hid hfl; clear hk hns hin hok hfl)
  have hb2 : Below w.heap.size w w2 := But.below HB1.out HFl.out.but HB1.out.size (fun b hb => by
    obtain ⟨p, hp, e⟩ := hb
    have := List.mem_of_mem_take hp
    simp [ptr3] at this
    rcases this with rfl | rfl | rfl <;> exact Nat.le_of_eq e)
  have hbx := HFl.out.blk _ _ _ HBX.out
  rw [sets_fun w.heap.size k ns (by have := HK.out.1; exact this) HK.out.2.1] at hbx
  have HBx2 := Lib.hid hbx
  have HR2 := Lib.hid (HR.out.grow hb2)
  have HB2 := Lib.hid hb2
  obtain ⟨f, hf⟩ : ∃ f, f = funOf ns := ⟨_, rfl⟩
  have HFO := Lib.hid (And.intro (show f.code = [] by rw [hf]; rfl) (And.intro (show FunB f by rw [hf]; exact funOf_ok HK.out.2.2.1) hf))
  rw [← hf] at HBx2 hbx
  clear hf
  obtain ⟨f0, f1, f2, f3⟩ := cells4 hbx
  obtain ⟨-, e1⟩ := HR2.out.cells
  have e1a : (w2.alloc (.cells #[.int .i64 f.params, .int .i64 f.regs, .int .i64 f.area, .slice none 0 0] 53)).cell? ⟨rb, 1, none⟩ = some (.slice FA m.funcs.length fc) := (((Below.refl w2.heap.size w2).alloc (Nat.le_refl _) (.cells #[.int .i64 f.params, .int .i64 f.regs, .int .i64 f.area, .slice none 0 0] 53)).cell (p := ⟨rb, 1, none⟩) HR2.out.lt).trans e1
  have HRd := Lib.hid (HR2.out.grow (Below.refl _ w2).drew)
  have HLow : Hid (∀ i, i < m.funcs.length → ∀ g, (Cs.getD i (.slice none 0 0)).ownBlock = some g → g < w.heap.size) := Lib.hid HR.out.fns.low
  have HCA : Hid (CodeAt base w2.drew (.slice none 0 0) f.code) := by
    rw [HFO.out.1]
    exact Lib.hid (.inr ⟨0, [], OwnC.nil _ _, by simp⟩)
  have HZ : Hid (base ≤ w2.drew.heap.size) := Lib.hid (Nat.le_trans HB.out.2 hb2.size)
  clear hbx hb2
  go_region_law (first | (refine step_outF (W := w2.drew) (f := f) (base := base) rfl (.tmp 18) (.tmp 20) rfl rfl rfl rfl HRd.out.fns.fn HCA.out HFO.out.2.1 HZ.out (by have := HM.out; omega) ?_; intro V8 w8 hm; obtain ⟨hm, -⟩ := hm; have HMo := Lib.hid (HRd.out.func hm HFO.out.1 HB.out.2 (by show w.heap.size ≤ w2.drew.heap.size; exact HB2.out.size) HLow.out); have hbx8 := (hm.blk rb HRd.out.lt HRd.out.rb_nf).trans HRd.out.box; have g0 := (cells2 hbx8).2; have g1 := frozen_of_row w8 rb 1 _ _ hbx8; obtain ⟨nA, nc, hn8⟩ := owns_len hm.own.own; obtain ⟨n8, hn9⟩ : ∃ n8, n8 = (m.funcs ++ [f]).length := ⟨_, rfl⟩; rw [← hn9] at hn8; subst hn8; clear hn9 hm hbx8))
  all_goals
    go_wp2
    go_ret
    exact ⟨_, ns, rfl, by rw [← HFO.out.2.2]; exact HMo.out.1, (Wr13.of_below HB2.out).drew.trans HMo.out.2, fun h => (HK.out.2.2.2 h).2⟩
end Go.Proofs.YtohlifeenhaifaaGreatDoor

/- (Text13J) Numbers put into an instruction's places, one behind the other: what comes of it. Plain mathematics of memory's cells. -/
namespace Go.Proofs.YtohlifeenhaifaaGreatDoor
open Go.RowKit Go.Shelf
set_option linter.unusedVariables false
set_option linter.unusedSimpArgs false

def cntL (m : Nat) : List Int → Nat
  | [] => 0
  | q :: L => (if q = 108 then m else 1) + cntL m L
theorem ptrL_cnt (bI : Nat) (A : Option Addr) (m : Nat) : ∀ (L : List Int) (j : Nat), (ptrL bI A m L j).length = cntL m L
  | [], j => rfl
  | q :: L, j => by
    have h1 := ptrL_cnt bI A m L (j + 1)
    have h2 := ptrL_cnt bI A m L j
    unfold ptrL cntL
    by_cases hq : isReg q = true
    · have hc : q ≠ 108 := by rintro rfl; cases hq
      rw [if_pos hq, if_neg hc, List.length_cons, h1]; omega
    · rw [if_neg hq]
      split
      · rw [List.length_append, List.length_map, List.length_range, h2]
      · rw [List.length_cons, h2]; omega
theorem ptrL_off (bI : Nat) (A : Option Addr) (m : Nat) : ∀ (L : List Int) (j : Nat), j + regN L ≤ 3 → ∀ p ∈ ptrL bI A m L j, p.spot = none ∧ ((p.block = bI ∧ 1 ≤ p.off ∧ p.off ≤ 4) ∨ ∃ i, i < m ∧ p = argP A i)
  | [], j, _, p, h => by simp [ptrL] at h
  | q :: L, j, hj, p, h => by
    unfold ptrL at h
    by_cases hq : isReg q = true
    · simp only [regN, hq, if_true] at hj
      rw [if_pos hq] at h
      rcases List.mem_cons.1 h with rfl | h
      · exact ⟨rfl, .inl ⟨rfl, by show 1 ≤ 1 + j; omega, by show 1 + j ≤ 4; omega⟩⟩
      · exact ptrL_off bI A m L (j + 1) (by omega) p h
    · have hqf : isReg q = false := by simpa using hq
      simp only [regN, hqf] at hj
      rw [if_neg hq] at h
      split at h
      · rcases List.mem_append.1 h with h | h
        · obtain ⟨i, hi, rfl⟩ := List.mem_map.1 h
          exact ⟨rfl, .inr ⟨i, by simpa using hi, rfl⟩⟩
        · exact ptrL_off bI A m L j (by simpa using hj) p h
      · rcases List.mem_cons.1 h with rfl | h
        · exact ⟨rfl, .inl ⟨rfl, by show 1 ≤ 4; omega, by show 4 ≤ 4; omega⟩⟩
        · exact ptrL_off bI A m L j (by simpa using hj) p h
theorem setsB_inv {P : Array Value → Prop} (b : Nat) : ∀ (ps : List Addr) (ns : List Int) (cs : Array Value), (∀ p ∈ ps, p.block = b → ∀ cs x, InI x → P cs → P (cs.setIfInBounds p.off (.int .i64 x))) → (∀ x ∈ ns, InI x) → P cs → P (setsB b ps ns cs)
  | [], _, cs, _, _, h => by unfold setsB; exact h
  | _ :: _, [], cs, _, _, h => by unfold setsB; exact h
  | p :: ps, n :: ns, cs, h1, h2, h => by
    unfold setsB
    refine setsB_inv b ps ns _ (fun q hq => h1 q (List.mem_cons_of_mem _ hq)) (fun x hx => h2 x (List.mem_cons_of_mem _ hx)) ?_
    split
    · rename_i e
      exact h1 p (List.mem_cons_self ..) e cs n (h2 n (List.mem_cons_self ..)) h
    · exact h
theorem setsB_other (b : Nat) : ∀ (ps : List Addr) (ns : List Int) (cs : Array Value), (∀ p ∈ ps, p.block ≠ b) → setsB b ps ns cs = cs
  | [], _, cs, _ => by unfold setsB; rfl
  | _ :: _, [], cs, _ => by unfold setsB; rfl
  | p :: ps, n :: ns, cs, h => by
    unfold setsB
    rw [if_neg (h p (List.mem_cons_self ..))]
    exact setsB_other b ps ns cs (fun q hq => h q (List.mem_cons_of_mem _ hq))
/-- A row of numbers, of which the first ones are told. -/
structure RowN (m size : Nat) (args : List Int) (cs : Array Value) : Prop where
  size : cs.size = size
  num : ∀ u ∈ cs.toList, IsNum .i64 u
  take : cs.toList.take m = args.map (Value.int .i64)
theorem RowN.set {m size : Nat} {args : List Int} {cs : Array Value} (h : RowN m size args cs) (o : Nat) (x : Int) : RowN m size (args.set o x) (cs.setIfInBounds o (.int .i64 x)) := by
  refine ⟨by rw [Array.size_setIfInBounds]; exact h.size, fun u hu => ?_, ?_⟩
  · rw [Array.toList_setIfInBounds] at hu
    rcases List.mem_or_eq_of_mem_set hu with hu | rfl
    · exact h.num u hu
    · exact ⟨x, rfl⟩
  · rw [Array.toList_setIfInBounds, List.take_set, h.take, List.map_set]
theorem sets_range (ab m size : Nat) (z : List Int) (cur : Array Value) (hz : RowN m size z cur) (hzl : z.length = m) (ns : List Int) (hn : ns.length = m) : ∀ t, t ≤ m → ∃ r, r.length = m ∧ RowN m size r (setsB ab ((List.range t).map (argP (some ⟨ab, 0, none⟩))) (ns.take t) cur) ∧ ∀ i, i < t → r.getD i 0 = ns.getD i 0
  | 0, _ => ⟨z, hzl, by simpa [setsB] using hz, fun i hi => absurd hi (by omega)⟩
  | t + 1, ht => by
    obtain ⟨r, h1, h2, h3⟩ := sets_range ab m size z cur hz hzl ns hn t (by omega)
    rw [List.range_succ, List.map_append, take_snoc' (show t < ns.length by omega)]
    have e : [t].map (argP (some ⟨ab, 0, none⟩)) = [⟨ab, 0 + t, none⟩] := rfl
    rw [e, setsB_snoc ab _ _ _ _ _ (by simp; omega), if_pos rfl]
    refine ⟨r.set t (ns.getD t 0), by rw [List.length_set]; exact h1, by have := h2.set t (ns.getD t 0); simpa using this, fun i hi => ?_⟩
    by_cases hit : i = t
    · subst hit
      simp [List.getD, List.getElem?_set, show i < r.length by omega]
    · have := h3 i (by omega)
      simp only [List.getD, List.getElem?_set] at this ⊢
      rw [if_neg (by omega)]
      exact this
theorem ins_set (op a b c n : Int) (X : Value) (j : Nat) (x : Int) (rs : List Int) (hj : rs.length = j) (h3 : j < 3) :
    (insCells op (rs.getD 0 0) (rs.getD 1 0) (rs.getD 2 0) n X).setIfInBounds (1 + j) (.int .i64 x) = insCells op ((rs ++ [x]).getD 0 0) ((rs ++ [x]).getD 1 0) ((rs ++ [x]).getD 2 0) n X := by
  match rs, hj with
  | [], h => subst h; simp [insCells]
  | [a], h => subst h; simp [insCells]
  | [a, b], h => subst h; simp [insCells]
  | a :: b :: c :: r, h => simp at h; omega
theorem sets_fld (op : Int) (X : Value) (bI ab m size : Nat) (A : Option Addr) (cur : Array Value) (z : List Int) (hne : 0 < m → A = some ⟨ab, 0, none⟩ ∧ bI ≠ ab) (h8 : m ≤ 8) (hz : 0 < m → RowN m size z cur ∧ z.length = m) :
    ∀ (L : List Int) (j : Nat) (ns rs : List Int) (n0 : Int) (args0 : List Int), lastQ13 L = true → rs.length = j → j + regN L ≤ 3 → ns.length = cntL m L →
      ∃ s, fldG L ns ⟨0, rs, n0, args0⟩ = some s ∧
        setsB bI (ptrL bI A m L j) ns (insCells op (rs.getD 0 0) (rs.getD 1 0) (rs.getD 2 0) n0 X) = insCells op (s.rs.getD 0 0) (s.rs.getD 1 0) (s.rs.getD 2 0) s.n X ∧
        (conL L = true → s.args.length = m ∧ (0 < m → RowN m size s.args (setsB ab (ptrL bI A m L j) ns cur))) ∧ (conL L = false → s.args = args0)
  | [], j, ns, rs, n0, args0, _, hr, _, hn => by
    have : ns = [] := List.eq_nil_of_length_eq_zero (by simpa [cntL] using hn)
    subst this
    exact ⟨⟨0, rs, n0, args0⟩, by simp [fldG], by simp [ptrL, setsB], by simp [conL], fun _ => rfl⟩
  | q :: L, j, ns, rs, n0, args0, hl, hr, hj, hn => by
    by_cases hc : q = 108
    · subst hc
      simp only [lastQ13, if_true] at hl
      have hL : L = [] := by simpa using hl
      subst hL
      have hm : ns.length = m := by simpa [cntL] using hn
      have e0 : isReg 108 = false := rfl
      have ep : ptrL bI A m [108] j = (List.range m).map (argP A) := by simp [ptrL, e0]
      refine ⟨⟨0, rs, n0, ns⟩, by simp only [fldG, if_true]; rw [if_pos (by omega)], ?_, fun _ => ⟨hm, fun hm0 => ?_⟩, fun h => by simp [conL] at h⟩
      · rw [ep]
        refine setsB_other bI _ _ _ (fun p hp => ?_)
        obtain ⟨i, hi, rfl⟩ := List.mem_map.1 hp
        have hi' : i < m := by simpa using hi
        obtain ⟨h1, h2⟩ := hne (by omega)
        rw [h1]
        exact fun e => h2 e.symm
      · obtain ⟨h1, h2⟩ := hne hm0
        obtain ⟨hz1, hz2⟩ := hz hm0
        rw [ep, h1]
        obtain ⟨r, hr1, hr2, hr3⟩ := sets_range ab m size z cur hz1 hz2 ns hm m (Nat.le_refl _)
        rw [List.take_of_length_le (by omega)] at hr2
        have : r = ns := by
          apply List.ext_getElem (by omega)
          intro i h1 h2
          have := hr3 i (by omega)
          simpa [List.getD, List.getElem?_eq_getElem h1, List.getElem?_eq_getElem h2] using this
        rw [this] at hr2
        exact hr2
    · simp only [lastQ13, if_neg hc] at hl
      simp only [cntL, if_neg hc] at hn
      match ns, hn with
      | [], hn => simp at hn; omega
      | x :: ns, hn =>
        have hn' : ns.length = cntL m L := by simp at hn; omega
        have eC : conL (q :: L) = conL L := by simp [conL, hc]
        have hab : 0 < m → bI ≠ ab := fun h => (hne h).2
        by_cases hq : isReg q = true
        · simp only [regN, hq, if_true] at hj
          obtain ⟨s, h1, h2, h3, h4⟩ := sets_fld op X bI ab m size A cur z hne h8 hz L (j + 1) ns (rs ++ [x]) n0 args0 hl (by simp [hr]) (by omega) hn'
          refine ⟨s, by simp only [fldG, if_neg hc, hq, if_true]; exact h1, ?_, fun h => ?_, fun h => h4 (by rw [← eC]; exact h)⟩
          · simp only [ptrL, hq, if_true, setsB]
            rw [ins_set op 0 0 0 n0 X j x rs hr (by omega)]
            exact h2
          · obtain ⟨h5, h6⟩ := h3 (by rw [← eC]; exact h)
            refine ⟨h5, fun hm0 => ?_⟩
            simp only [ptrL, hq, if_true, setsB]
            rw [if_neg (hab hm0)]
            exact h6 hm0
        · have hqf : isReg q = false := by simpa using hq
          simp only [regN, hqf] at hj
          obtain ⟨s, h1, h2, h3, h4⟩ := sets_fld op X bI ab m size A cur z hne h8 hz L j ns rs x args0 hl hr (by simpa using hj) hn'
          refine ⟨s, by simp only [fldG, if_neg hc, hqf]; exact h1, ?_, fun h => ?_, fun h => h4 (by rw [← eC]; exact h)⟩
          · simp only [ptrL, hqf, if_neg hc, Bool.false_eq_true, if_false, setsB, if_true]
            exact h2
          · obtain ⟨h5, h6⟩ := h3 (by rw [← eC]; exact h)
            refine ⟨h5, fun hm0 => ?_⟩
            simp only [ptrL, hqf, if_neg hc, setsB]
            have := hab hm0
            simp only [Bool.false_eq_true, if_false, setsB, if_neg this]
            exact h6 hm0
/-- What comes of as many stores as there have been numbers. -/
theorem sets_ins (op : Int) (X : Value) (bI ab m size k : Nat) (A : Option Addr) (cur : Array Value) (z ns : List Int) (hne : 0 < m → A = some ⟨ab, 0, none⟩ ∧ bI ≠ ab) (h8 : m ≤ 8) (hz : 0 < m → RowN m size z cur) (hzl : z.length = m) (hzi : ∀ x ∈ z, InI x)
    (hcon : 0 < m → conL (lettersOf (shapeI op)) = true) (hk : k ≤ cntL m (lettersOf (shapeI op))) (hn : ns.length = k) (hin : ∀ x ∈ ns, InI x) :
    ∃ y : InsV, y.op = op ∧ (InI y.a ∧ InI y.b ∧ InI y.c ∧ InI y.n) ∧ (∀ x ∈ y.args, InI x) ∧ y.args.length = m ∧
      setsB bI ((ptrL bI A m (lettersOf (shapeI op)) 0).take k) ns (insCells op 0 0 0 0 X) = insCells op y.a y.b y.c y.n X ∧
      (0 < m → RowN m size y.args (setsB ab ((ptrL bI A m (lettersOf (shapeI op)) 0).take k) ns cur)) ∧ (k = cntL m (lettersOf (shapeI op)) → fieldsP op ns = some y) := by
  have hreg : 0 + regN (lettersOf (shapeI op)) ≤ 3 := by simpa using okShape_reg (shapes_ok op)
  have hlast := last_shape op
  have hzero : InI 0 := by unfold InI; decide
  by_cases hke : k = cntL m (lettersOf (shapeI op))
  · obtain ⟨s, h1, h2, h3, h4⟩ := sets_fld op X bI ab m size A cur z hne h8 (fun h => ⟨hz h, hzl⟩) (lettersOf (shapeI op)) 0 ns [] 0 [] hlast rfl hreg (by omega)
    have hb := fld_bd h1 hin (by simp) hzero (by simp)
    have hcnt := ptrL_cnt bI A m (lettersOf (shapeI op)) 0
    refine ⟨insOf op s, rfl, ⟨getD_in hb.1 0, getD_in hb.1 1, getD_in hb.1 2, hb.2.1⟩, hb.2.2, ?_, ?_, fun hm0 => ?_, fun _ => by unfold fieldsP; rw [h1]; rfl⟩
    · show s.args.length = m
      cases hC : conL (lettersOf (shapeI op)) with
      | true => exact (h3 hC).1
      | false =>
        rw [h4 hC]
        have : ¬ 0 < m := fun h => by rw [hcon h] at hC; cases hC
        simp; omega
    · rw [List.take_of_length_le (by omega)]
      exact h2
    · rw [List.take_of_length_le (by omega)]
      exact (h3 (hcon hm0)).2 hm0
  · have hp : ∀ p ∈ (ptrL bI A m (lettersOf (shapeI op)) 0).take k, (p.block = bI ∧ 1 ≤ p.off ∧ p.off ≤ 4) ∨ ∃ i, i < m ∧ p = argP A i := fun p h => (ptrL_off bI A m _ 0 hreg p (List.mem_of_mem_take h)).2
    have hP1 : ∃ a b c n, (InI a ∧ InI b ∧ InI c ∧ InI n) ∧ setsB bI ((ptrL bI A m (lettersOf (shapeI op)) 0).take k) ns (insCells op 0 0 0 0 X) = insCells op a b c n X := by
      refine setsB_inv (P := fun cs => ∃ a b c n, (InI a ∧ InI b ∧ InI c ∧ InI n) ∧ cs = insCells op a b c n X) bI _ ns _ (fun p h e cs x hx ⟨a, b, c, n, ⟨ha, hb, hc, hn⟩, he⟩ => ?_) hin ⟨0, 0, 0, 0, ⟨hzero, hzero, hzero, hzero⟩, rfl⟩
      subst he
      rcases hp p h with ⟨_, h1, h4⟩ | ⟨i, hi, rfl⟩
      · rcases (show p.off = 1 ∨ p.off = 2 ∨ p.off = 3 ∨ p.off = 4 by omega) with e | e | e | e <;> rw [e]
        · exact ⟨x, b, c, n, ⟨hx, hb, hc, hn⟩, rfl⟩
        · exact ⟨a, x, c, n, ⟨ha, hx, hc, hn⟩, rfl⟩
        · exact ⟨a, b, x, n, ⟨ha, hb, hx, hn⟩, rfl⟩
        · exact ⟨a, b, c, x, ⟨ha, hb, hc, hx⟩, rfl⟩
      · obtain ⟨h1, h2⟩ := hne (by omega)
        rw [h1] at e
        exact absurd e (fun e => h2 e.symm)
    have hP2 : ∃ r : List Int, r.length = m ∧ (∀ x ∈ r, InI x) ∧ (0 < m → RowN m size r (setsB ab ((ptrL bI A m (lettersOf (shapeI op)) 0).take k) ns cur)) := by
      refine setsB_inv (P := fun cs => ∃ r : List Int, r.length = m ∧ (∀ x ∈ r, InI x) ∧ (0 < m → RowN m size r cs)) ab _ ns _ (fun p h e cs x hx ⟨r, h1, h2, h3⟩ => ?_) hin ⟨z, hzl, hzi, hz⟩
      refine ⟨r.set p.off x, by rw [List.length_set]; exact h1, fun v hv => ?_, fun hm0 => (h3 hm0).set _ _⟩
      rcases List.mem_or_eq_of_mem_set hv with hv | rfl
      · exact h2 v hv
      · exact hx
    obtain ⟨a, b, c, n, hI, hc⟩ := hP1
    obtain ⟨r, hr1, hr2, hr3⟩ := hP2
    exact ⟨⟨op, a, b, c, n, r⟩, rfl, hI, hr2, hr1, hc, hr3, fun h => absurd h hke⟩
end Go.Proofs.YtohlifeenhaifaaGreatDoor

/- (Text13K) The landed reader: an instruction appended to the last function's code, in memory. Plain lemmas; no condition but what each names. -/
namespace Go.Proofs.YtohlifeenhaifaaGreatDoor
open Go.RowKit Go.Shelf
set_option linter.unusedVariables false
set_option linter.unusedSimpArgs false

/-- What an append of one instruction leaves. -/
structure MoreC13 (base : Nat) (W W' : World) (V V' : Value) (l : List InsV) (Xs : List Value) (y : InsV) (X : Value) : Prop where
  own : OwnC base W' V' (l ++ [y]) (Xs ++ [X])
  bel : Below base W W'
  blk : ∀ i, i < W.heap.size → some i ≠ V.ownBlock → W'.heap[i]? = W.heap[i]?
  size : W.heap.size ≤ W'.heap.size
theorem run_outC13 {W : World} {ty : TypeId} {V X : Value} {l : List InsV} {Xs : List Value} {y : InsV} {base : Nat} (h : OwnC base W V l Xs) (hX : OutN 0 W X y.args) (hX1 : X.oneCell' = true) (hy : InsB y) (hb : base ≤ W.heap.size) (hl : l.length ≤ 1000000) :
    ∃ V' W', (Builtin.append_ #[51, 51] ty #[V, .slice (some ⟨W.heap.size, 0, none⟩) 1 1]).run Tryz.prog (W.alloc (.cells (insCells y.op y.a y.b y.c y.n X) 28)) = .ok V' W' ∧ MoreC13 base W W' V V' l Xs y X := by
  obtain ⟨i, hi, h1, h2, h3⟩ := info_parts ins_info
  have ha : Below W.heap.size W (W.alloc (.cells (insCells y.op y.a y.b y.c y.n X) 28)) := (Below.refl W.heap.size W).alloc (Nat.le_refl _) _
  have hg := Owns.below h.own ha (Nat.le_refl _)
  obtain ⟨V', W', hr, ho', hg'⟩ := run_append_q (P := Tryz.prog) _ base 51 ty 28 i _ 6 64 Tryz.underlying51 hi h1 h2 h3 rfl (by decide) AnyCell (fun _ _ => trivial) V l.length (cellsC l Xs) hg ⟨W.heap.size, 0, none⟩ 1 1 (insList y X) rfl (one_ins W y X) (by intro u hu; simp [insList] at hu; rcases hu with rfl | rfl | rfl | rfl | rfl | rfl <;> first | rfl | exact hX1) (fun _ _ => trivial) (by unfold maxLen; omega) (by omega) (by simp; omega)
  refine ⟨V', W', hr, ?_⟩
  have e : World.grownBy (W.alloc (.cells (insCells y.op y.a y.b y.c y.n X) 28)) W' V.ownBlock := hg'
  have hblk : ∀ i, i < W.heap.size → some i ≠ V.ownBlock → W'.heap[i]? = W.heap[i]? := fun i hi hn => (e.block i (by simp; omega) hn).trans (ha.block i hi)
  have hsz : W.heap.size ≤ W'.heap.size := Nat.le_trans (by simp) e.size
  have hkeep : ∀ (bs : Nat) (e : TypeId) (s : Nat) (K : Value → Prop) (v : Value) (n : Nat) (xs : List Value), e ≠ 28 → Owns W bs e s K v n xs → Owns W' bs e s K v n xs := fun bs e s K v n xs he hv => by
    refine hv.of_blocks (fun g hg => hblk g (hv.lt hg).2 (fun e' => ?_)) hsz
    obtain ⟨c1, h1⟩ := hv.typed hg
    obtain ⟨c2, h2⟩ := h.own.typed e'.symm
    rw [h1] at h2
    injection h2 with h2
    injection h2 with _ h2 _
    exact he h2
  refine ⟨⟨?_, by simp [h.len], fun z hz => ?_, fun i hi => ?_⟩, (ha.mono hb).grown e (by simp; omega) fun j hj => (h.own.lt hj).1, hblk, hsz⟩
  · rw [List.length_append, cellsC_append l Xs y X h.len]; exact ho'
  · rcases List.mem_append.1 hz with hz | hz
    · exact h.inn z hz
    · simp at hz; subst hz; exact hy
  · rw [List.length_append] at hi
    simp only [List.length_cons, List.length_nil, Nat.zero_add] at hi
    rw [getD_snoc l y .zero hi, getD_snoc Xs X _ (by rw [h.len]; exact hi), h.len]
    by_cases hlt : i < l.length
    · rw [if_pos hlt, if_pos hlt]
      exact hkeep 0 _ _ _ _ _ _ (by decide) (h.nums i hlt)
    · rw [if_neg hlt, if_neg hlt]
      exact hkeep 0 _ _ _ _ _ _ (by decide) hX
theorem step_outC13 {W : World} {ops : Array Oper} {o : Oper} {a : Act} {K : Act → World → Prop} {Q : Exit → Act → World → Prop} {E : Prop} (hgd : o.guard = none) (s x : Operand)
    (ho : o.op = .call { callee := .builtin .append, args := #[s, x], argTypes := #[51, 51] }) {V X : Value} {l : List InsV} {Xs : List Value} {y : InsV} {base g : Nat} (hs : a.eval s = V) (hx : a.eval x = .slice (some ⟨g, 0, none⟩) 1 1) (hgs : g = W.heap.size)
    (h : OwnC base W V l Xs) (hX : OutN 0 W X y.args) (hX1 : X.oneCell' = true) (hy : InsB y) (hb : base ≤ W.heap.size) (hl : l.length ≤ 1000000)
    (hK : ∀ V' W', MoreC13 base W W' V V' l Xs y X → K (a.put o.dst V') W') :
    if Region.wanted o (yielded ops a.tmps) = true then Oper.wp Tryz.prog o a (W.alloc (.cells (insCells y.op y.a y.b y.c y.n X) 28)) K Q else E := by
  subst hgs
  exact step_out hgd s x _ ho V _ hs hx (fun V' W' => MoreC13 base W W' V V' l Xs y X) (run_outC13 h hX hX1 hy hb hl) fun V' W' hh => hK V' W' hh
theorem owns_set13 {w : World} {base : Nat} {e : TypeId} {size : Nat} {n cap g p : Nat} {xs : List Value} (h : Owns w base e size AnyCell (.slice (some ⟨g, 0, none⟩) n cap) n xs) (u : Value) :
    Owns (w.setCell ⟨g, p, none⟩ u) base e size AnyCell (.slice (some ⟨g, 0, none⟩) n cap) n (xs.set p u) := by
  refine ⟨⟨by rw [List.length_set]; exact h.1.1, ?_⟩, fun _ _ _ _ _ _ _ _ => trivial⟩
  rcases h.1.2 with ⟨h0, _⟩ | ⟨g', cap', cur, he, h1, h2, h3, h4, h5, h6⟩
  · cases h0
  · simp only [Value.slice.injEq, Option.some.injEq, Addr.mk.injEq, and_true, true_and] at he
    obtain ⟨rfl, rfl⟩ := he
    refine .inr ⟨g, cap, cur.setIfInBounds p u, rfl, h1, heap_setCell_same w g p cur _ u h2, h3, h4, by simpa using h5, ?_⟩
    rw [Array.toList_setIfInBounds, List.take_set, h6]
theorem addC_set : ∀ (fs : List FunV) (p : Nat) (y : InsV), fs.length = p + 1 → addC fs y = fs.set p ⟨(fs.getD p .zero).params, (fs.getD p .zero).regs, (fs.getD p .zero).area, (fs.getD p .zero).code ++ [y]⟩
  | [], p, y, h => by simp at h
  | [f], p, y, h => by
    have : p = 0 := by simpa using h.symm
    subst this
    rfl
  | f :: g :: fs, 0, y, h => by simp at h
  | f :: g :: fs, p + 1, y, h => by
    have := addC_set (g :: fs) p y (by simpa using h)
    simp only [addC, List.set_cons_succ, List.getD_cons_succ]
    rw [this]
theorem cellsF_set : ∀ (fs : List FunV) (Cs : List Value) (p : Nat) (f' : FunV) (C' : Value), Cs.length = fs.length → p < fs.length → f'.params = (fs.getD p .zero).params → f'.regs = (fs.getD p .zero).regs → f'.area = (fs.getD p .zero).area →
    cellsF (fs.set p f') (Cs.set p C') = (cellsF fs Cs).set (p * 4 + 3) C'
  | [], _, p, _, _, _, hp, _, _, _ => absurd hp (by simp)
  | f :: fs, [], _, _, _, h, _, _, _, _ => absurd h (by simp)
  | f :: fs, C :: Cs, 0, f', C', h, _, h1, h2, h3 => by
    simp only [List.getD_cons_zero] at h1 h2 h3
    simp [cellsF, funList, h1, h2, h3]
  | f :: fs, C :: Cs, p + 1, f', C', h, hp, h1, h2, h3 => by
    have ih := cellsF_set fs Cs p f' C' (by simpa using h) (by simpa using hp) (by simpa using h1) (by simpa using h2) (by simpa using h3)
    simp only [List.set_cons_succ, cellsF, ih]
    rw [List.set_append_right _ _ (by simp [funList]; omega)]
    congr 2
    simp [funList]
    omega
section
variable {base b0 : Nat} {W W' : World} {rb : Nat} {D : Value} {m : ModV} {Cs : List Value}
/-- An instruction more. -/
theorem Rdr13.ins {gF nf fc p : Nat} {C' X : Value} {Xs : List Value} {y : InsV} (h : Rdr13 base b0 W rb D (.slice (some ⟨gF, 0, none⟩) nf fc) m Cs) (hnf : m.funcs.length = p + 1)
    (hM : MoreC13 b0 W W' (Cs.getD p (.slice none 0 0)) C' (m.funcs.getD p .zero).code Xs y X) (hl : OwnC b0 W (Cs.getD p (.slice none 0 0)) (m.funcs.getD p .zero).code Xs) (hhx : HighX base Xs) (hXg : ∀ g, X.ownBlock = some g → base ≤ g) (hcl : (m.funcs.getD p .zero).code.length ≤ 900000) :
    Rdr13 base b0 (W'.setCell ⟨gF, p * 4 + 3, none⟩ C') rb D (.slice (some ⟨gF, 0, none⟩) nf fc) ⟨m.data, addC m.funcs y⟩ (Cs.set p C') ∧ Wr13 rb base W (W'.setCell ⟨gF, p * 4 + 3, none⟩ C') := by
  have hgF : base ≤ gF := (h.fns.fn.own.lt rfl).1
  obtain ⟨cF, hcF⟩ := h.fns.fn.own.typed (g := gF) rfl
  have hnfl : nf = m.funcs.length := by
    obtain ⟨A, c, e⟩ := owns_len h.fns.fn.own
    injection e
  have hlen := h.fns.fn.len
  have hCb : ∀ g, (Cs.getD p (.slice none 0 0)).ownBlock = some g → b0 ≤ g := fun g hg => (hl.own.lt hg).1
  have hbut1 : But (fun k => some k = (Cs.getD p (.slice none 0 0)).ownBlock) W W' := ⟨hM.bel.os, hM.bel.tape, hM.bel.output, hM.size, fun k hk hn => hM.blk k hk hn⟩
  have hne : ∀ (t : TypeId), t ≠ 28 → ∀ k c, W.heap[k]? = some (.cells c t (0, 0)) → ¬ some k = (Cs.getD p (.slice none 0 0)).ownBlock := fun t h1 k c hc e => by
    obtain ⟨c', hc'⟩ := hl.own.typed e.symm
    exact typed_ne hc h1 hc'
  have hcF' : W'.heap[gF]? = some (.cells cF 53 (0, 0)) := hbut1.heap hcF (hne _ (by decide) _ _ hcF)
  have hbut2 : But (OneBlock gF) W' (W'.setCell ⟨gF, p * 4 + 3, none⟩ C') := (But.refl (OneBlock gF) W').setCell (p := ⟨gF, p * 4 + 3, none⟩) (.inl rfl) _
  have hn2 : ∀ (t : TypeId), t ≠ 53 → ∀ k c, W'.heap[k]? = some (.cells c t (0, 0)) → ¬ OneBlock gF k := fun t h1 k c hc e => by
    have e' : k = gF := e
    subst e'
    exact typed_ne hc h1 hcF'
  have hbel : Wr13 rb base W (W'.setCell ⟨gF, p * 4 + 3, none⟩ C') := (Wr13.of_but hbut1 (fun k e => by
    obtain ⟨c, hc⟩ := hl.own.typed e.symm
    exact .inr ⟨Nat.le_trans h.fns.b0l (hCb k e.symm), _, _, _, hc⟩)).trans (Wr13.of_but hbut2 (fun k e => by
    have e' : k = gF := e
    subst e'
    exact .inr ⟨hgF, _, _, _, hcF'⟩))
  have hbx' : W'.heap[rb]? = some (.cells #[D, .slice (some ⟨gF, 0, none⟩) nf fc] 69 (0, 0)) := hbut1.heap h.box (hne _ (by decide) _ _ h.box)
  have hd1 : Owns W' base 5 1 IsU8 D m.data.length (m.data.map (Value.int .u8)) := h.dat.but hbut1 (fun g hg e => by obtain ⟨c, hc⟩ := h.dat.typed hg; exact hne _ (by decide) _ _ hc e)
  have hf1 : Owns W' base 53 4 AnyCell (.slice (some ⟨gF, 0, none⟩) nf fc) m.funcs.length (cellsF m.funcs Cs) := h.fns.fn.own.but hbut1 (fun g hg e => by obtain ⟨c, hc⟩ := h.fns.fn.own.typed hg; exact hne _ (by decide) _ _ hc e)
  have hC2 : OwnC b0 (W'.setCell ⟨gF, p * 4 + 3, none⟩ C') C' ((m.funcs.getD p .zero).code ++ [y]) (Xs ++ [X]) := hM.own.but hbut2 (fun g hg => by obtain ⟨c, hc⟩ := hM.own.own.typed hg; exact hn2 _ (by decide) _ _ hc) (fun i hi g hg => by obtain ⟨c, hc⟩ := (hM.own.nums i hi).typed hg; exact hn2 _ (by decide) _ _ hc)
  refine ⟨⟨hbut2.heap hbx' (hn2 _ (by decide) _ _ hbx'), hd1.but hbut2 (fun g hg => by obtain ⟨c, hc⟩ := hd1.typed hg; exact hn2 _ (by decide) _ _ hc), h.bd, ?_⟩, hbel⟩
  rw [addC_set m.funcs p y hnf]
  obtain ⟨f', hf'⟩ : ∃ f' : FunV, f' = ⟨(m.funcs.getD p .zero).params, (m.funcs.getD p .zero).regs, (m.funcs.getD p .zero).area, (m.funcs.getD p .zero).code ++ [y]⟩ := ⟨_, rfl⟩
  rw [← hf']
  have e1 : f'.params = (m.funcs.getD p .zero).params := by rw [hf']
  have e2 : f'.regs = (m.funcs.getD p .zero).regs := by rw [hf']
  have e3 : f'.area = (m.funcs.getD p .zero).area := by rw [hf']
  have e4 : f'.code = (m.funcs.getD p .zero).code ++ [y] := by rw [hf']
  clear hf'
  have hgs : ∀ i, i ≠ p → (Cs.set p C').getD i (.slice none 0 0) = Cs.getD i (.slice none 0 0) := fun i hi => by simp [List.getD, List.getElem?_set, Ne.symm hi]
  have hgp : (Cs.set p C').getD p (.slice none 0 0) = C' := by simp [List.getD, List.getElem?_set, show p < Cs.length by omega]
  have hfs : ∀ (f' : FunV) i, i ≠ p → (m.funcs.set p f').getD i .zero = m.funcs.getD i .zero := fun f' i hi => by simp [List.getD, List.getElem?_set, Ne.symm hi]
  have hfp : ∀ (f' : FunV), (m.funcs.set p f').getD p .zero = f' := fun f' => by simp [List.getD, List.getElem?_set, show p < m.funcs.length by omega]
  refine ⟨?_, by rw [List.length_set, List.length_set]; exact hlen, fun f hf => ?_, fun i hi => ?_, fun i hi g hg => ?_, fun _ => ⟨Xs ++ [X], ?_, hhx.snoc hXg⟩, h.fns.b0l, Nat.le_trans h.fns.b0w (Nat.le_trans hM.size hbut2.size)⟩
  · show Owns _ _ _ _ _ _ (m.funcs.set p f').length (cellsF (m.funcs.set p f') (Cs.set p C'))
    rw [cellsF_set m.funcs Cs p f' C' hlen (by omega) e1 e2 e3, List.length_set]
    have := owns_set13 (p := p * 4 + 3) (by rw [← hnfl] at hf1; exact hf1) C'
    rw [← hnfl]
    exact this
  · rcases List.mem_or_eq_of_mem_set hf with hf | rfl
    · exact h.fns.fn.inn f hf
    · have := h.fns.fn.inn (m.funcs.getD p .zero) (by rw [List.getD_eq_getElem?_getD, List.getElem?_eq_getElem (show p < m.funcs.length by omega)]; exact List.getElem_mem _)
      exact ⟨by rw [e1]; exact this.params, by rw [e2]; exact this.regs, by rw [e3]; exact this.area⟩
  · rw [List.length_set] at hi
    by_cases hip : i = p
    · subst hip
      rw [hgp, hfp, e4]
      exact ⟨b0, _, hC2, by rw [List.length_append, List.length_singleton]; omega, h.fns.b0l, hhx.snoc hXg⟩
    · rw [hgs i hip, hfs _ i hip]
      have hold := h.fns.old i (by omega)
      obtain ⟨bs, Ys, ho, hlo, hbs, hx⟩ := h.fns.cods i hi
      refine ⟨bs, Ys, ?_, hlo, hbs, hx⟩
      have h1 := ho.but hbut1 (fun g hg e => by have := hold g hg; have := hCb g e.symm; omega) (fun j hj g hg e => by obtain ⟨c, hc⟩ := (ho.nums j hj).typed hg; exact hne _ (by decide) _ _ hc e)
      exact h1.but hbut2 (fun g hg => by obtain ⟨c, hc⟩ := h1.own.typed hg; exact hn2 _ (by decide) _ _ hc) (fun j hj g hg => by obtain ⟨c, hc⟩ := (h1.nums j hj).typed hg; exact hn2 _ (by decide) _ _ hc)
  · rw [List.length_set] at hi
    rw [hgs i (by omega)] at hg
    exact h.fns.old i hi g hg
  · show OwnC b0 _ ((Cs.set p C').getD ((m.funcs.set p f').length - 1) _) ((m.funcs.set p f').getD ((m.funcs.set p f').length - 1) .zero).code _
    rw [List.length_set, show m.funcs.length - 1 = p by omega, hgp, hfp, e4]
    exact hC2
end
end Go.Proofs.YtohlifeenhaifaaGreatDoor

/- (Text13L) The landed reader: an instruction's line. Contract; no condition but what it names. -/
namespace Go.Proofs.YtohlifeenhaifaaGreatDoor
open Go.RowKit Go.Shelf
set_option linter.unusedVariables false
set_option linter.unusedSimpArgs false

def InsDone13 (base b0 rb : Nat) (D : Value) (m : ModV) (wL : World) (op : Int) (mm : Nat) (ws : List (List Int)) (e : Ending) (w' : World) : Prop :=
  ∃ F' Cs' y, e = .returned (.int .i64 (fillE ws (cntL mm (lettersOf (shapeI op))))) ∧ Rdr13 base b0 w' rb D F' ⟨m.data, addC m.funcs y⟩ Cs' ∧ Wr13 rb base wL w' ∧ (fillE ws (cntL mm (lettersOf (shapeI op))) = 0 → ∃ ns, numsP ws = some ns ∧ fieldsP op ns = some y)
/-- What a row of numbers is in memory. -/
theorem row_of13 {w : World} {base : Nat} {X : Value} {mm : Nat} {z : List Int} (h : Owns w base 3 1 (IsNum .i64) X mm (z.map (Value.int .i64))) (hp : 0 < mm) : ∃ ab cap cur, X = .slice (some ⟨ab, 0, none⟩) mm cap ∧ base ≤ ab ∧ mm ≤ cap ∧ cap ≤ maxLen ∧ w.heap[ab]? = some (.cells cur 3 (0, 0)) ∧ cur.size = cap ∧ RowN mm cap z cur := by
  have hk := h.2
  rcases h.1.2 with ⟨rfl, h0⟩ | ⟨g, cap, cur, rfl, h1, h2, h3, h4, h5, h6⟩
  · omega
  · refine ⟨g, cap, cur, rfl, h1, h3, h4, h2, by omega, ⟨by omega, fun u hu => hk g cur _ _ rfl h2 u hu, by simpa using h6⟩⟩
theorem row_back13 {w : World} {ab mm cap : Nat} {r : List Int} {cur : Array Value} (hw : w.heap[ab]? = some (.cells cur 3 (0, 0))) (hR : RowN mm cap r cur) (hl : r.length = mm) (h1 : mm ≤ cap) (h2 : cap ≤ maxLen) : OutN 0 w (.slice (some ⟨ab, 0, none⟩) mm cap) r := by
  refine ⟨⟨by simp, .inr ⟨ab, cap, cur, by rw [hl], Nat.zero_le _, hw, by omega, h2, by rw [hR.size, Nat.mul_one], by rw [hl, Nat.mul_one]; exact hR.take⟩⟩, fun g c t fr hg hc u hu => ?_⟩
  simp [Value.ownBlock] at hg
  subst hg
  rw [hw] at hc
  injection hc with hc
  injection hc with hc _ _
  subst hc
  exact hR.num u hu
set_option maxRecDepth 100000 in
set_option maxHeartbeats 16000000 in
theorem instruction13_any (V : Value) (l : List ByteArray) (op : Int) (X : Value) (mm : Nat) (base b0 rb : Nat) (D F : Value) (m : ModV) (Cs : List Value) (w0 wL w : World) (hE : Env13 w0) (h0 : Below w0.heap.size w0 wL) (hB : w0.heap.size ≤ base ∧ w0.heap.size ≤ rb) (hbL : base ≤ wL.heap.size)
    (hR : Rdr13 base b0 wL rb D F m Cs) (hLw : Below wL.heap.size wL w) (hV : Strs13 wL V l) (hsz : ∀ x ∈ l, x.size ≤ 4294967295) (hX : Owns w wL.heap.size 3 1 (IsNum .i64) X mm ((List.replicate mm 0).map (Value.int .i64))) (h8 : mm ≤ 8)
    (hcon : 0 < mm → conL (lettersOf (shapeI op)) = true) (hop : InI op) (hf : m.funcs ≠ []) (hfl : m.funcs.length ≤ 900000) (hcl : ∀ f ∈ m.funcs, f.code.length ≤ 900000) :
    Calls Tryz.prog 68 #[.pointer (some ⟨rb, 0, none⟩), .agg (insCells op 0 0 0 0 X), V] w (InsDone13 base b0 rb D m wL op mm (l.map lettersOf)) := by
  obtain ⟨XA, xc, hXe⟩ := owns_len hX
  subst hXe
  have hreg : 0 + regN (lettersOf (shapeI op)) ≤ 3 := by simpa using okShape_reg (shapes_ok op)
  have hA : 0 < mm → ∃ ab cur, XA = some ⟨ab, 0, none⟩ ∧ wL.heap.size ≤ ab ∧ mm ≤ xc ∧ xc ≤ maxLen ∧ w.heap[ab]? = some (.cells cur 3 (0, 0)) ∧ RowN mm xc (List.replicate mm 0) cur := fun hp => by
    obtain ⟨ab, cap, cur, e, h1, h2, h3, h4, h5, h6⟩ := row_of13 hX hp
    injection e with e1 e2 e3
    subst e1 e3
    exact ⟨ab, cur, rfl, h1, h2, h3, h4, h6⟩
  have hxc : mm ≤ xc := by
    by_cases hp : 0 < mm
    · obtain ⟨_, _, _, _, h, _⟩ := hA hp; exact h
    · omega
  obtain ⟨w1, hw1⟩ : ∃ w1, w1 = w.alloc (.cells (insCells op 0 0 0 0 (.slice XA mm xc)) 28) := ⟨_, rfl⟩
  have hb1 : Below w.heap.size w w1 := by rw [hw1]; exact (Below.refl _ _).alloc (Nat.le_refl _) _
  have hbox : w1.heap[w.heap.size]? = some (.cells (insCells op 0 0 0 0 (.slice XA mm xc)) 28 (0, 0)) := by rw [hw1]; exact heap_alloc_new w _
  have hs1 : w1.heap.size = w.heap.size + 1 := by rw [hw1]; simp
  have hL1 : Below wL.heap.size wL w1 := hLw.trans (hb1.mono hLw.size)
  have HF := Lib.hid (fields13_ptr w.heap.size op 0 0 0 0 XA mm xc w1 hbox (by omega) hxc (fun h => by obtain ⟨ab, cur, e, _⟩ := hA h; exact ⟨ab, 0, e⟩))
  have hps : ∀ p ∈ ptrL w.heap.size XA mm (lettersOf (shapeI op)) 0, p.spot = none ∧ wL.heap.size ≤ p.block ∧ p.block < w1.heap.size ∧ ∃ cs t, w1.heap[p.block]? = some (.cells cs t (0, 0)) ∧ p.off < cs.size := fun p hp => by
    obtain ⟨h1, ⟨h2, h3, h4⟩ | ⟨i, hi, rfl⟩⟩ := ptrL_off w.heap.size XA mm _ 0 hreg p hp
    · rw [h2]
      exact ⟨h1, hLw.size, by omega, _, _, hbox, by simp [insCells]; omega⟩
    · obtain ⟨ab, cur, e, h2, h3, h4, h5, h6⟩ := hA (by omega)
      rw [e] at h1 ⊢
      refine ⟨h1, h2, Nat.lt_of_lt_of_le (heap_lt h5) hb1.size, cur, _, (hb1.block ab (heap_lt h5)).trans h5, ?_⟩
      show 0 + i < cur.size
      rw [h6.size]; omega
  have hcnt := ptrL_cnt w.heap.size XA mm (lettersOf (shapeI op)) 0
  have hlen : cntL mm (lettersOf (shapeI op)) ≤ 1000000 := by
    have h1 := ptrL_len w.heap.size XA mm (lettersOf (shapeI op)) 0
    have h2 := (shape_len13 op).1
    have h3 : (lettersOf (shapeI op)).length * (mm + 1) ≤ 3 * 9 := Nat.mul_le_mul h2 (by omega)
    omega
  have HFill : Hid (∀ (P : Value) (w2 : World), Below w1.heap.size w1 w2 → IsPtrs w2 w1.heap.size P (ptrL w.heap.size XA mm (lettersOf (shapeI op)) 0) → Calls Tryz.prog 99 #[V, P] w2 (FillDone w2 (ptrL w.heap.size XA mm (lettersOf (shapeI op)) 0) (l.map lettersOf))) := Lib.hid (fun P w2 hb hP =>
    fill13_any V P l (ptrL w.heap.size XA mm (lettersOf (shapeI op)) 0) wL.heap.size w1.heap.size w0 w2 hE (h0.trans ((hL1.trans (hb.mono hL1.size)).mono h0.size)) h0.size (Nat.le_trans hL1.size hb.size) (hV.strs.below (hL1.trans (hb.mono hL1.size)) (Nat.le_refl _) (Nat.le_refl _)) hsz hP (fun p hp => by
      obtain ⟨h1, h2, h3, cs, t, h4, h5⟩ := hps p hp
      exact ⟨h1, h2, h3, cs, t, (hb.block _ h3).trans h4, h5⟩) (by omega))
  have HSet : Hid (∀ (w2 w3 : World) (k : Nat) (ns : List Int), Below w1.heap.size w1 w2 → k ≤ cntL mm (lettersOf (shapeI op)) → ns.length = k → (∀ x ∈ ns, InI x) → FillAt w2 w3 ((ptrL w.heap.size XA mm (lettersOf (shapeI op)) 0).take k) ns →
      ∃ y : InsV, y.op = op ∧ InsB y ∧ y.args.length = mm ∧ w3.heap[w.heap.size]? = some (.cells (insCells y.op y.a y.b y.c y.n (.slice XA mm xc)) 28 (0, 0)) ∧ OutN 0 w3 (.slice XA mm xc) y.args ∧ Below wL.heap.size wL w3 ∧ (k = cntL mm (lettersOf (shapeI op)) → fieldsP op ns = some y)) := Lib.hid (fun w2 w3 k ns hb hk hn hin hfl => by
    obtain ⟨ab, cur, hab⟩ : ∃ ab cur, 0 < mm → XA = some ⟨ab, 0, none⟩ ∧ wL.heap.size ≤ ab ∧ mm ≤ xc ∧ xc ≤ maxLen ∧ w.heap[ab]? = some (.cells cur 3 (0, 0)) ∧ RowN mm xc (List.replicate mm 0) cur := by
      by_cases hp : 0 < mm
      · obtain ⟨ab, cur, h⟩ := hA hp; exact ⟨ab, cur, fun _ => h⟩
      · exact ⟨0, #[], fun h => absurd h hp⟩
    obtain ⟨y, hy1, hy2, hy3, hy4, hy5, hy6, hy7⟩ := sets_ins op (.slice XA mm xc) w.heap.size ab mm xc k XA cur (List.replicate mm 0) ns (fun h => ⟨(hab h).1, by have := heap_lt (hab h).2.2.2.2.1; omega⟩) h8 (fun h => (hab h).2.2.2.2.2) (by simp) (fun x hx => by rw [List.eq_of_mem_replicate hx]; unfold InI; decide) hcon hk hn hin
    have hbox3 := hfl.blk _ _ _ ((hb.block _ (by omega)).trans hbox)
    rw [hy5] at hbox3
    refine ⟨y, hy1, ⟨by rw [hy1]; exact hop, hy2.1, hy2.2.1, hy2.2.2.1, hy2.2.2.2⟩, hy4, by rw [hy1]; exact hbox3, ?_, ?_, hy7⟩
    · by_cases hp : 0 < mm
      · obtain ⟨e, _, h3, h4, h5, _⟩ := hab hp
        have hr3 := hfl.blk _ _ _ ((hb.block _ (by have := heap_lt h5; omega)).trans ((hb1.block _ (heap_lt h5)).trans h5))
        rw [e]
        exact row_back13 hr3 (hy6 hp) hy4 h3 h4
      · have hm0 : mm = 0 := by omega
        have hz := hX
        subst hm0
        rw [List.eq_nil_of_length_eq_zero hy4]
        have h1 : Owns w1 wL.heap.size 3 1 (IsNum .i64) (.slice XA 0 xc) 0 [] := Owns.below hX hb1 (Nat.le_refl _)
        have h2 : Owns w2 wL.heap.size 3 1 (IsNum .i64) (.slice XA 0 xc) 0 [] := Owns.below h1 hb (Nat.le_refl _)
        have h3 : Owns w3 wL.heap.size 3 1 (IsNum .i64) (.slice XA 0 xc) 0 [] := h2.but hfl.but (fun g hg e => by
          obtain ⟨p, hp, e⟩ := e
          obtain ⟨_, ⟨h2', _, _⟩ | ⟨i, hi, _⟩⟩ := ptrL_off w.heap.size XA 0 _ 0 hreg p (List.mem_of_mem_take hp)
          · have := (hX.lt hg).2; omega
          · omega)
        exact h3.base (Nat.zero_le _)
    · exact But.below (hL1.trans (hb.mono hL1.size)) hfl.but (Nat.le_trans hL1.size hb.size) (fun b hb => by
        obtain ⟨p, hp, e⟩ := hb
        have := (hps p (List.mem_of_mem_take hp)).2.1
        omega))
  obtain ⟨p, hp⟩ : ∃ p, m.funcs.length = p + 1 := ⟨m.funcs.length - 1, by have := List.length_pos_iff.2 hf; omega⟩
  obtain ⟨gF, fc, hFe⟩ : ∃ gF fc, F = .slice (some ⟨gF, 0, none⟩) (p + 1) fc := by
    rcases hR.fns.fn.own.1.2 with ⟨_, h00⟩ | ⟨g, c, _, h00, _⟩
    · omega
    · exact ⟨g, c, by rw [h00, hp]⟩
  subst hFe
  have hpc : p + 1 ≤ fc := by
    rcases hR.fns.fn.own.1.2 with ⟨h00, _⟩ | ⟨g, c, _, h00, _, _, h01, _⟩
    · cases h00
    · injection h00 with _ _ h02
      omega
  have HP := Lib.hid hp
  have HXG : Hid (∀ g, (Value.slice XA mm xc).ownBlock = some g → base ≤ g) := Lib.hid (fun g hg => Nat.le_trans hbL (hX.lt hg).1)
  have HR := Lib.hid hR
  have HB := Lib.hid (And.intro hB hbL)
  have HLw := Lib.hid hLw
  have HL1 := Lib.hid hL1
  have Hw1 := Lib.hid hw1
  have HCn := Lib.hid hcnt
  have HCl : Hid ((m.funcs.getD p .zero).code.length ≤ 900000) := Lib.hid (hcl _ (by rw [List.getD_eq_getElem?_getD, List.getElem?_eq_getElem (show p < m.funcs.length by omega)]; exact List.getElem_mem _))
  obtain ⟨VA, vo, vc, hVe, -⟩ := hV.at
  have hp2 : p ≤ 900000 := by omega
  clear hE h0 hB hbL hR hLw hV hsz hX h8 hcon hop hf hfl hcl hreg hA hxc hb1 hbox hs1 hL1 hps hlen hp hw1 hcnt
  generalize hce : cntL mm (lettersOf (shapeI op)) = cn at *
  have HCE := Lib.hid hce
  clear hce
  generalize ptrL w.heap.size XA mm (lettersOf (shapeI op)) 0 = ps at *
  subst hVe
  generalize l.length = n at *
  go_enter Tryz.func68, Tryz.ntmps68
  go_wp2_with (first
    | (go_at_call 31; rw [← Hw1.out]; (with_reducible refine HF.out.mono ?_); rintro e w2 ⟨P, rfl, hP, hb2⟩; have HPp := Lib.hid (IsPtrs.of_owns hP); have HB2 := Lib.hid hb2; obtain ⟨PA, pc, hPe⟩ := owns_len hP; subst hPe; rw [HCn.out] at HPp ⊢; clear hP hb2)
    | (go_at_call 99; (with_reducible refine (HFill.out _ w2 HB2.out HPp.out).mono ?_); rintro e w3 ⟨k, ns, rfl, hk, hns, hin, hfl, hok⟩; rw [HCn.out] at hk hok ⊢; have HY := Lib.hid (HSet.out w2 w3 k ns HB2.out hk hns hin hfl); have HOK := Lib.hid hok; clear hk hns hin hok hfl))
  obtain ⟨y, hyo, hyb, hyl, hyx, hyn, hyL, hyf⟩ := HY.out
  have HR3 := Lib.hid (HR.out.grow hyL)
  have HYn := Lib.hid hyx
  have HYx := Lib.hid hyn
  have HYb := Lib.hid hyb
  have HYL := Lib.hid hyL
  have HYf : Hid (fillE (l.map lettersOf) cn = 0 → ∃ ns, numsP (l.map lettersOf) = some ns ∧ fieldsP op ns = some y) := Lib.hid (fun h => ⟨ns, (HOK.out h).2, hyf (HOK.out h).1⟩)
  obtain ⟨-, q1⟩ := HR3.out.cells
  have hw1 : IntKind.i64.wrap ((p : Int) + 1 - 1) = (p : Int) := by rw [IntKind.wrap_i64]; omega
  have hp0 : (0 : Int) ≤ (p : Int) := by omega
  have hplt : (p : Int) < (p : Int) + 1 := by omega
  clear hyo hyb hyl hyx hyn hyL hyf HY HOK HSet HFill HF
  go_quiet (fail)
  go_wp2
  obtain ⟨W4, hW4⟩ : ∃ W4, W4 = w3.drewN nq := ⟨_, rfl⟩
  rw [← hW4]
  have hb4 : Below w3.heap.size w3 W4 := by rw [hW4]; exact below_drewN (Below.refl _ _) _
  have HR4 := Lib.hid (HR3.out.grow hb4)
  have hn4 := (hb4.block _ (heap_lt HYn.out)).trans HYn.out
  have HX4 : Hid (OutN 0 W4 (.slice XA mm xc) y.args) := Lib.hid (Owns.below HYx.out hb4 (Nat.le_refl _))
  have HB4 := Lib.hid (Nat.le_trans HR3.out.fns.b0w hb4.size)
  have HL4 := Lib.hid (HYL.out.trans (hb4.mono HYL.out.size))
  clear hW4 hb4 q1
  obtain ⟨Xs, hl0, hhx⟩ := HR4.out.fns.last (fun e => by have := HP.out; rw [e] at this; simp at this)
  rw [show m.funcs.length - 1 = p by have := HP.out; omega] at hl0
  obtain ⟨CA, cc, hCe⟩ := owns_len hl0.own
  have hcF : W4.cell? ⟨gF, p * 4 + 3, none⟩ = some (Cs.getD p (.slice none 0 0)) := by
    have h := HR4.out.fns.fn.own.1.cells (g := gF) rfl (p * 4 + 3) _ (cellsF_at m.funcs Cs HR4.out.fns.fn.len (show p < m.funcs.length by have := HP.out; omega) (show 3 < 4 by omega))
    rw [show (⟨gF, 0, none⟩ : Addr).add (p * 4 + 3) = ⟨gF, p * 4 + 3, none⟩ from by unfold Addr.add; split <;> simp_all] at h
    exact h
  have HHX := Lib.hid hhx
  have HL0 := Lib.hid (show OwnC b0 W4.drew (Cs.getD p (.slice none 0 0)) (m.funcs.getD p .zero).code Xs from hl0.below (Below.refl _ W4).drew (Nat.le_refl _))
  have HL1 := HL0
  rw [hCe] at hcF HL1
  have HCe := Lib.hid hCe
  obtain ⟨n0, n1, n2, n3, n4, n5⟩ := cells6 hn4
  obtain ⟨cF, hF4⟩ := HR4.out.fns.fn.own.typed (g := gF) rfl
  have HF4 := Lib.hid hF4
  have hcFa : (W4.alloc (.cells (insCells y.op y.a y.b y.c y.n (.slice XA mm xc)) 28)).cell? ⟨gF, p * 4 + 3, none⟩ = some (.slice CA (m.funcs.getD p .zero).code.length cc) := (((Below.refl W4.heap.size W4).alloc (Nat.le_refl _) (.cells (insCells y.op y.a y.b y.c y.n (.slice XA mm xc)) 28)).cell (p := ⟨gF, p * 4 + 3, none⟩) (heap_lt hF4)).trans hcF
  have HRd := Lib.hid (HR4.out.grow (Below.refl _ W4).drew)
  have HXd : Hid (OutN 0 W4.drew (.slice XA mm xc) y.args) := Lib.hid (Owns.below HX4.out (Below.refl _ W4).drew (Nat.le_refl _))
  generalize hcn : (m.funcs.getD p .zero).code.length = cl at *
  have HCn2 := Lib.hid hcn
  clear hl0 hhx hCe hn4 hF4 hcn
  go_region_law (first | (refine step_outC13 (W := W4.drew) (y := y) (base := b0) rfl (.tmp 29) (.tmp 31) rfl rfl rfl rfl HL1.out HXd.out rfl HYb.out HB4.out (by have h1 := HCl.out; have h2 := HCn2.out; omega) ?_; intro V8 w8 hm; have hm2 : MoreC13 b0 W4.drew w8 (Cs.getD p (.slice none 0 0)) V8 (m.funcs.getD p .zero).code Xs y (.slice XA mm xc) := (by rw [HCe.out]; exact hm); have HMo := Lib.hid (HRd.out.ins HP.out hm2 HL0.out HHX.out HXG.out (by have h1 := HCl.out; have h2 := HCn2.out; omega)); have hbk : w8.heap[gF]? = W4.heap[gF]? := hm.blk gF (heap_lt HF4.out) (fun e => by obtain ⟨c, hc⟩ := HL1.out.own.typed e.symm; exact typed_ne hc (by decide) HF4.out); have hF8 := hbk.trans HF4.out; have g0 : w8.cell? ⟨gF, p * 4 + 3, none⟩ = W4.cell? ⟨gF, p * 4 + 3, none⟩ := (by simp only [World.cell?, hbk]); replace g0 := g0.trans hcF; have g1 := frozen_of_row w8 gF (p * 4 + 3) _ _ hF8; obtain ⟨nA, nc, hn8⟩ := owns_len hm.own.own; obtain ⟨n8, hn9⟩ : ∃ n8, n8 = ((m.funcs.getD p .zero).code ++ [y]).length := ⟨_, rfl⟩; rw [← hn9] at hn8; subst hn8; clear hn9 hm hm2 hF8 hbk))
  all_goals
    go_wp2
    go_ret
    unfold InsDone13
    rw [HCE.out]
    exact ⟨_, _, y, rfl, HMo.out.1, (Wr13.of_below HL4.out).drew.trans HMo.out.2, HYf.out⟩
end Go.Proofs.YtohlifeenhaifaaGreatDoor
