/- act: what one call of a statement's list does to a space. No condition but what each names. -/
import Derived.Test.YtkfdgpgildanbaaGreatSp15T
namespace Go.Proofs.YtkfdgpgildanbaaGreat
open Go.RowKit Go.Shelf
set_option linter.unusedVariables false
set_option linter.unusedSimpArgs false
def wrapU (n : Int) : Int := n % 18446744073709551616
theorem wrapU_eq (n : Int) : IntKind.u64.wrap n = wrapU n := by rw [IntKind.wrap_u64]; rfl
theorem wrapU_in (n : Int) : 0 ≤ wrapU n ∧ wrapU n < 18446744073709551616 := by unfold wrapU; omega
def SpV.actS (S : SpV) (A : ActS) : SpV :=
  if A.kind = 1 then S.setS A.r A.v else if A.kind = 2 then S.goS A.n else if A.kind = 3 then S.burnS A.n else
  if A.kind = 4 ∨ A.kind = 5 then S.callS A.n A.args A.r A.back else if A.kind = 6 then S.retS A.v else
  if A.kind = 7 then S.stopS A.ek A.ec else if A.kind = 8 then S.getbS else if A.kind = 9 then S.putbS A.n else
  if A.kind = 10 then S.memS A.v 8 (wrapU A.n) else S
/-- One object of some is made other beside a block that is taken away again. -/
theorem Spaces.drop {w W : World} {lo i b : Nat} {l : List It} {c : Array Value} {t : TypeId} (hil : i < l.length) (x : It) (hs : Spaces w lo W ((l ++ [It.box b c t]).set i x)) : Spaces w lo W (l.set i x) :=
  hs.pick id (fun k a ha => by
    have hk : k < l.length := by have := (List.getElem?_eq_some_iff.1 ha).1; simpa using this
    rw [List.set_append_left _ _ hil, id, List.getElem?_append_left (by simpa using hk)]; exact ha) (fun _ _ _ _ h => h)
theorem set_same15 {α : Type} {l : List α} {i : Nat} {x : α} (h : l[i]? = some x) : l.set i x = l := by
  apply List.ext_getElem?
  intro j
  by_cases e : i = j
  · subst e; rw [List.getElem?_set_self (List.getElem?_eq_some_iff.1 h).1, h]
  · rw [List.getElem?_set_ne e]
section
variable {w W : World} {lo i sb : Nat} {l : List It} {S : SpV}
set_option maxRecDepth 100000
set_option maxHeartbeats 16000000
theorem act15_0 (h : Spaces w lo W l) (hi : l[i]? = some (.sp sb S)) (hf : S.done.length < 100000) (A : ActS) (hA : A.ok W lo) (hk : A.kind = 0) :
    Calls Tryz.prog 46 #[.pointer (some ⟨sb, 0, none⟩), .agg A.arr] W (SpsDone w lo (l.set i (.sp sb (S))) (.tuple #[])) := by
  obtain ⟨AK, AR, AN, AB, AV, AX, AA, AE, AC⟩ := A
  obtain ⟨XA, xc, hxe⟩ := hA.b.len
  simp only at hxe
  subst hxe
  have hil : i < l.length := (List.getElem?_eq_some_iff.1 hi).1
  obtain ⟨ak, ar, an, ab, av, ax, aa, ae⟩ := hA
  simp only at ak ar an ab av ax aa ae hk
  have hAI := (ArgsIn.mk aa (.inl ax) : ArgsIn lo W _ AA).grow h.top (below_one14 W (.cells #[.int .i64 AK, .int .i64 AR, .int .i64 AN, .int .i64 AB, .int .u64 AV, .slice XA AA.length xc, .int .i64 AE, .int .i64 AC] 47))
  obtain ⟨n, hn⟩ : ∃ n, n = AA.length := ⟨_, rfl⟩
  rw [← hn] at hAI
  have harr : ActS.arr ⟨AK, AR, AN, AB, AV, .slice XA AA.length xc, AA, AE, AC⟩ = #[.int .i64 AK, .int .i64 AR, .int .i64 AN, .int .i64 AB, .int .u64 AV, .slice XA n xc, .int .i64 AE, .int .i64 AC] := by rw [hn]; rfl
  rw [harr]
  have hb := h.addBox #[.int .i64 AK, .int .i64 AR, .int .i64 AN, .int .i64 AB, .int .u64 AV, .slice XA n xc, .int .i64 AE, .int .i64 AC] 47
  have hi0 : (l ++ [It.box W.heap.size #[.int .i64 AK, .int .i64 AR, .int .i64 AN, .int .i64 AB, .int .u64 AV, .slice XA n xc, .int .i64 AE, .int .i64 AC] 47])[i]? = some (.sp sb S) := by rw [List.getElem?_append_left hil]; exact hi
  have hx0 := heap_alloc_new W (.cells #[.int .i64 AK, .int .i64 AR, .int .i64 AN, .int .i64 AB, .int .u64 AV, .slice XA n xc, .int .i64 AE, .int .i64 AC] 47)
  obtain ⟨W0, hW0⟩ : ∃ W0, W0 = W.alloc (.cells #[.int .i64 AK, .int .i64 AR, .int .i64 AN, .int .i64 AB, .int .u64 AV, .slice XA n xc, .int .i64 AE, .int .i64 AC] 47) := ⟨_, rfl⟩
  rw [← hW0] at hb hx0 hAI
  have HW := Lib.hid hW0
  obtain ⟨c0, c1, c2, c3, c4, c5, c6, c7⟩ := cells8 hx0
  have HX := Lib.hid hx0
  have HIL := Lib.hid hil
  have HC := Lib.hid (sp_get hb hi0 AR ar)
  subst hk
  clear h hi hb hi0 hil hx0 hW0 hAI ak ar an ab av ax aa ae harr hn hf
  go_enter Tryz.func46, Tryz.ntmps46
  go_wp2_with (first
    | (rw [← HW.out])
    | (go_at_call 27; (with_reducible refine HC.out.mono ?_); rintro e w' ⟨rfl, hs⟩; have HS := Lib.hid hs; clear hs))
  first | go_end0 | (simp only [Exit.inBlock, Exit.then]; refine bodyPost_ret (results_none rfl _ _ _) rfl ?_) | refine bodyPost_ret (results_none rfl _ _ _) rfl ?_
  exact ⟨rfl, HS.out.drop HIL.out _⟩
theorem act15_1 (h : Spaces w lo W l) (hi : l[i]? = some (.sp sb S)) (hf : S.done.length < 100000) (A : ActS) (hA : A.ok W lo) (hk : A.kind = 1) :
    Calls Tryz.prog 46 #[.pointer (some ⟨sb, 0, none⟩), .agg A.arr] W (SpsDone w lo (l.set i (.sp sb (S.setS A.r A.v))) (.tuple #[])) := by
  obtain ⟨AK, AR, AN, AB, AV, AX, AA, AE, AC⟩ := A
  obtain ⟨XA, xc, hxe⟩ := hA.b.len
  simp only at hxe
  subst hxe
  have hil : i < l.length := (List.getElem?_eq_some_iff.1 hi).1
  obtain ⟨ak, ar, an, ab, av, ax, aa, ae⟩ := hA
  simp only at ak ar an ab av ax aa ae hk
  have hAI := (ArgsIn.mk aa (.inl ax) : ArgsIn lo W _ AA).grow h.top (below_one14 W (.cells #[.int .i64 AK, .int .i64 AR, .int .i64 AN, .int .i64 AB, .int .u64 AV, .slice XA AA.length xc, .int .i64 AE, .int .i64 AC] 47))
  obtain ⟨n, hn⟩ : ∃ n, n = AA.length := ⟨_, rfl⟩
  rw [← hn] at hAI
  have harr : ActS.arr ⟨AK, AR, AN, AB, AV, .slice XA AA.length xc, AA, AE, AC⟩ = #[.int .i64 AK, .int .i64 AR, .int .i64 AN, .int .i64 AB, .int .u64 AV, .slice XA n xc, .int .i64 AE, .int .i64 AC] := by rw [hn]; rfl
  rw [harr]
  have hb := h.addBox #[.int .i64 AK, .int .i64 AR, .int .i64 AN, .int .i64 AB, .int .u64 AV, .slice XA n xc, .int .i64 AE, .int .i64 AC] 47
  have hi0 : (l ++ [It.box W.heap.size #[.int .i64 AK, .int .i64 AR, .int .i64 AN, .int .i64 AB, .int .u64 AV, .slice XA n xc, .int .i64 AE, .int .i64 AC] 47])[i]? = some (.sp sb S) := by rw [List.getElem?_append_left hil]; exact hi
  have hx0 := heap_alloc_new W (.cells #[.int .i64 AK, .int .i64 AR, .int .i64 AN, .int .i64 AB, .int .u64 AV, .slice XA n xc, .int .i64 AE, .int .i64 AC] 47)
  obtain ⟨W0, hW0⟩ : ∃ W0, W0 = W.alloc (.cells #[.int .i64 AK, .int .i64 AR, .int .i64 AN, .int .i64 AB, .int .u64 AV, .slice XA n xc, .int .i64 AE, .int .i64 AC] 47) := ⟨_, rfl⟩
  rw [← hW0] at hb hx0 hAI
  have HW := Lib.hid hW0
  obtain ⟨c0, c1, c2, c3, c4, c5, c6, c7⟩ := cells8 hx0
  have HX := Lib.hid hx0
  have HIL := Lib.hid hil
  have HC := Lib.hid (sp_set hb hi0 AR AV ar av.1 av.2)
  subst hk
  clear h hi hb hi0 hil hx0 hW0 hAI ak ar an ab av ax aa ae harr hn hf
  go_enter Tryz.func46, Tryz.ntmps46
  go_wp2_with (first
    | (rw [← HW.out])
    | (go_at_call 37; (with_reducible refine HC.out.mono ?_); rintro e w' ⟨rfl, hs⟩; have HS := Lib.hid hs; clear hs))
  first | go_end0 | (simp only [Exit.inBlock, Exit.then]; refine bodyPost_ret (results_none rfl _ _ _) rfl ?_) | refine bodyPost_ret (results_none rfl _ _ _) rfl ?_
  exact ⟨rfl, HS.out.drop HIL.out _⟩
theorem act15_2 (h : Spaces w lo W l) (hi : l[i]? = some (.sp sb S)) (hf : S.done.length < 100000) (A : ActS) (hA : A.ok W lo) (hk : A.kind = 2) :
    Calls Tryz.prog 46 #[.pointer (some ⟨sb, 0, none⟩), .agg A.arr] W (SpsDone w lo (l.set i (.sp sb (S.goS A.n))) (.tuple #[])) := by
  obtain ⟨AK, AR, AN, AB, AV, AX, AA, AE, AC⟩ := A
  obtain ⟨XA, xc, hxe⟩ := hA.b.len
  simp only at hxe
  subst hxe
  have hil : i < l.length := (List.getElem?_eq_some_iff.1 hi).1
  obtain ⟨ak, ar, an, ab, av, ax, aa, ae⟩ := hA
  simp only at ak ar an ab av ax aa ae hk
  have hAI := (ArgsIn.mk aa (.inl ax) : ArgsIn lo W _ AA).grow h.top (below_one14 W (.cells #[.int .i64 AK, .int .i64 AR, .int .i64 AN, .int .i64 AB, .int .u64 AV, .slice XA AA.length xc, .int .i64 AE, .int .i64 AC] 47))
  obtain ⟨n, hn⟩ : ∃ n, n = AA.length := ⟨_, rfl⟩
  rw [← hn] at hAI
  have harr : ActS.arr ⟨AK, AR, AN, AB, AV, .slice XA AA.length xc, AA, AE, AC⟩ = #[.int .i64 AK, .int .i64 AR, .int .i64 AN, .int .i64 AB, .int .u64 AV, .slice XA n xc, .int .i64 AE, .int .i64 AC] := by rw [hn]; rfl
  rw [harr]
  have hb := h.addBox #[.int .i64 AK, .int .i64 AR, .int .i64 AN, .int .i64 AB, .int .u64 AV, .slice XA n xc, .int .i64 AE, .int .i64 AC] 47
  have hi0 : (l ++ [It.box W.heap.size #[.int .i64 AK, .int .i64 AR, .int .i64 AN, .int .i64 AB, .int .u64 AV, .slice XA n xc, .int .i64 AE, .int .i64 AC] 47])[i]? = some (.sp sb S) := by rw [List.getElem?_append_left hil]; exact hi
  have hx0 := heap_alloc_new W (.cells #[.int .i64 AK, .int .i64 AR, .int .i64 AN, .int .i64 AB, .int .u64 AV, .slice XA n xc, .int .i64 AE, .int .i64 AC] 47)
  obtain ⟨W0, hW0⟩ : ∃ W0, W0 = W.alloc (.cells #[.int .i64 AK, .int .i64 AR, .int .i64 AN, .int .i64 AB, .int .u64 AV, .slice XA n xc, .int .i64 AE, .int .i64 AC] 47) := ⟨_, rfl⟩
  rw [← hW0] at hb hx0 hAI
  have HW := Lib.hid hW0
  obtain ⟨c0, c1, c2, c3, c4, c5, c6, c7⟩ := cells8 hx0
  have HX := Lib.hid hx0
  have HIL := Lib.hid hil
  have HC := Lib.hid (sp_go hb hi0 AN an)
  subst hk
  clear h hi hb hi0 hil hx0 hW0 hAI ak ar an ab av ax aa ae harr hn hf
  go_enter Tryz.func46, Tryz.ntmps46
  go_wp2_with (first
    | (rw [← HW.out])
    | (go_at_call 38; (with_reducible refine HC.out.mono ?_); rintro e w' ⟨rfl, hs⟩; have HS := Lib.hid hs; clear hs))
  first | go_end0 | (simp only [Exit.inBlock, Exit.then]; refine bodyPost_ret (results_none rfl _ _ _) rfl ?_) | refine bodyPost_ret (results_none rfl _ _ _) rfl ?_
  exact ⟨rfl, HS.out.drop HIL.out _⟩
theorem act15_3 (h : Spaces w lo W l) (hi : l[i]? = some (.sp sb S)) (hf : S.done.length < 100000) (A : ActS) (hA : A.ok W lo) (hk : A.kind = 3) :
    Calls Tryz.prog 46 #[.pointer (some ⟨sb, 0, none⟩), .agg A.arr] W (SpsDone w lo (l.set i (.sp sb (S.burnS A.n))) (.tuple #[])) := by
  obtain ⟨AK, AR, AN, AB, AV, AX, AA, AE, AC⟩ := A
  obtain ⟨XA, xc, hxe⟩ := hA.b.len
  simp only at hxe
  subst hxe
  have hil : i < l.length := (List.getElem?_eq_some_iff.1 hi).1
  obtain ⟨ak, ar, an, ab, av, ax, aa, ae⟩ := hA
  simp only at ak ar an ab av ax aa ae hk
  have hAI := (ArgsIn.mk aa (.inl ax) : ArgsIn lo W _ AA).grow h.top (below_one14 W (.cells #[.int .i64 AK, .int .i64 AR, .int .i64 AN, .int .i64 AB, .int .u64 AV, .slice XA AA.length xc, .int .i64 AE, .int .i64 AC] 47))
  obtain ⟨n, hn⟩ : ∃ n, n = AA.length := ⟨_, rfl⟩
  rw [← hn] at hAI
  have harr : ActS.arr ⟨AK, AR, AN, AB, AV, .slice XA AA.length xc, AA, AE, AC⟩ = #[.int .i64 AK, .int .i64 AR, .int .i64 AN, .int .i64 AB, .int .u64 AV, .slice XA n xc, .int .i64 AE, .int .i64 AC] := by rw [hn]; rfl
  rw [harr]
  have hb := h.addBox #[.int .i64 AK, .int .i64 AR, .int .i64 AN, .int .i64 AB, .int .u64 AV, .slice XA n xc, .int .i64 AE, .int .i64 AC] 47
  have hi0 : (l ++ [It.box W.heap.size #[.int .i64 AK, .int .i64 AR, .int .i64 AN, .int .i64 AB, .int .u64 AV, .slice XA n xc, .int .i64 AE, .int .i64 AC] 47])[i]? = some (.sp sb S) := by rw [List.getElem?_append_left hil]; exact hi
  have hx0 := heap_alloc_new W (.cells #[.int .i64 AK, .int .i64 AR, .int .i64 AN, .int .i64 AB, .int .u64 AV, .slice XA n xc, .int .i64 AE, .int .i64 AC] 47)
  obtain ⟨W0, hW0⟩ : ∃ W0, W0 = W.alloc (.cells #[.int .i64 AK, .int .i64 AR, .int .i64 AN, .int .i64 AB, .int .u64 AV, .slice XA n xc, .int .i64 AE, .int .i64 AC] 47) := ⟨_, rfl⟩
  rw [← hW0] at hb hx0 hAI
  have HW := Lib.hid hW0
  obtain ⟨c0, c1, c2, c3, c4, c5, c6, c7⟩ := cells8 hx0
  have HX := Lib.hid hx0
  have HIL := Lib.hid hil
  have HC := Lib.hid (sp_burn hb hi0 AN an)
  subst hk
  clear h hi hb hi0 hil hx0 hW0 hAI ak ar an ab av ax aa ae harr hn hf
  go_enter Tryz.func46, Tryz.ntmps46
  go_wp2_with (first
    | (rw [← HW.out])
    | (go_at_call 39; (with_reducible refine HC.out.mono ?_); rintro e w' ⟨rfl, hs⟩; have HS := Lib.hid hs; clear hs))
  first | go_end0 | (simp only [Exit.inBlock, Exit.then]; refine bodyPost_ret (results_none rfl _ _ _) rfl ?_) | refine bodyPost_ret (results_none rfl _ _ _) rfl ?_
  exact ⟨rfl, HS.out.drop HIL.out _⟩
theorem act15_4 (h : Spaces w lo W l) (hi : l[i]? = some (.sp sb S)) (hf : S.done.length < 100000) (A : ActS) (hA : A.ok W lo) (hk : A.kind = 4) :
    Calls Tryz.prog 46 #[.pointer (some ⟨sb, 0, none⟩), .agg A.arr] W (SpsDone w lo (l.set i (.sp sb (S.callS A.n A.args A.r A.back))) (.tuple #[])) := by
  obtain ⟨AK, AR, AN, AB, AV, AX, AA, AE, AC⟩ := A
  obtain ⟨XA, xc, hxe⟩ := hA.b.len
  simp only at hxe
  subst hxe
  have hil : i < l.length := (List.getElem?_eq_some_iff.1 hi).1
  obtain ⟨ak, ar, an, ab, av, ax, aa, ae⟩ := hA
  simp only at ak ar an ab av ax aa ae hk
  have hAI := (ArgsIn.mk aa (.inl ax) : ArgsIn lo W _ AA).grow h.top (below_one14 W (.cells #[.int .i64 AK, .int .i64 AR, .int .i64 AN, .int .i64 AB, .int .u64 AV, .slice XA AA.length xc, .int .i64 AE, .int .i64 AC] 47))
  obtain ⟨n, hn⟩ : ∃ n, n = AA.length := ⟨_, rfl⟩
  rw [← hn] at hAI
  have harr : ActS.arr ⟨AK, AR, AN, AB, AV, .slice XA AA.length xc, AA, AE, AC⟩ = #[.int .i64 AK, .int .i64 AR, .int .i64 AN, .int .i64 AB, .int .u64 AV, .slice XA n xc, .int .i64 AE, .int .i64 AC] := by rw [hn]; rfl
  rw [harr]
  have hb := h.addBox #[.int .i64 AK, .int .i64 AR, .int .i64 AN, .int .i64 AB, .int .u64 AV, .slice XA n xc, .int .i64 AE, .int .i64 AC] 47
  have hi0 : (l ++ [It.box W.heap.size #[.int .i64 AK, .int .i64 AR, .int .i64 AN, .int .i64 AB, .int .u64 AV, .slice XA n xc, .int .i64 AE, .int .i64 AC] 47])[i]? = some (.sp sb S) := by rw [List.getElem?_append_left hil]; exact hi
  have hx0 := heap_alloc_new W (.cells #[.int .i64 AK, .int .i64 AR, .int .i64 AN, .int .i64 AB, .int .u64 AV, .slice XA n xc, .int .i64 AE, .int .i64 AC] 47)
  obtain ⟨W0, hW0⟩ : ∃ W0, W0 = W.alloc (.cells #[.int .i64 AK, .int .i64 AR, .int .i64 AN, .int .i64 AB, .int .u64 AV, .slice XA n xc, .int .i64 AE, .int .i64 AC] 47) := ⟨_, rfl⟩
  rw [← hW0] at hb hx0 hAI
  have HW := Lib.hid hW0
  obtain ⟨c0, c1, c2, c3, c4, c5, c6, c7⟩ := cells8 hx0
  have HX := Lib.hid hx0
  have HIL := Lib.hid hil
  have HC := Lib.hid (sp_call hb hi0 AN AR AB _ AA an ar ab hAI)
  subst hk
  clear h hi hb hi0 hil hx0 hW0 hAI ak ar an ab av ax aa ae harr hn hf
  go_enter Tryz.func46, Tryz.ntmps46
  go_wp2_with (first
    | (rw [← HW.out])
    | (go_at_call 40; (with_reducible refine HC.out.mono ?_); rintro e w' ⟨rfl, hs⟩; have HS := Lib.hid hs; clear hs))
  first | go_end0 | (simp only [Exit.inBlock, Exit.then]; refine bodyPost_ret (results_none rfl _ _ _) rfl ?_) | refine bodyPost_ret (results_none rfl _ _ _) rfl ?_
  exact ⟨rfl, HS.out.drop HIL.out _⟩
theorem act15_5 (h : Spaces w lo W l) (hi : l[i]? = some (.sp sb S)) (hf : S.done.length < 100000) (A : ActS) (hA : A.ok W lo) (hk : A.kind = 5) :
    Calls Tryz.prog 46 #[.pointer (some ⟨sb, 0, none⟩), .agg A.arr] W (SpsDone w lo (l.set i (.sp sb (S.callS A.n A.args A.r A.back))) (.tuple #[])) := by
  obtain ⟨AK, AR, AN, AB, AV, AX, AA, AE, AC⟩ := A
  obtain ⟨XA, xc, hxe⟩ := hA.b.len
  simp only at hxe
  subst hxe
  have hil : i < l.length := (List.getElem?_eq_some_iff.1 hi).1
  obtain ⟨ak, ar, an, ab, av, ax, aa, ae⟩ := hA
  simp only at ak ar an ab av ax aa ae hk
  have hAI := (ArgsIn.mk aa (.inl ax) : ArgsIn lo W _ AA).grow h.top (below_one14 W (.cells #[.int .i64 AK, .int .i64 AR, .int .i64 AN, .int .i64 AB, .int .u64 AV, .slice XA AA.length xc, .int .i64 AE, .int .i64 AC] 47))
  obtain ⟨n, hn⟩ : ∃ n, n = AA.length := ⟨_, rfl⟩
  rw [← hn] at hAI
  have harr : ActS.arr ⟨AK, AR, AN, AB, AV, .slice XA AA.length xc, AA, AE, AC⟩ = #[.int .i64 AK, .int .i64 AR, .int .i64 AN, .int .i64 AB, .int .u64 AV, .slice XA n xc, .int .i64 AE, .int .i64 AC] := by rw [hn]; rfl
  rw [harr]
  have hb := h.addBox #[.int .i64 AK, .int .i64 AR, .int .i64 AN, .int .i64 AB, .int .u64 AV, .slice XA n xc, .int .i64 AE, .int .i64 AC] 47
  have hi0 : (l ++ [It.box W.heap.size #[.int .i64 AK, .int .i64 AR, .int .i64 AN, .int .i64 AB, .int .u64 AV, .slice XA n xc, .int .i64 AE, .int .i64 AC] 47])[i]? = some (.sp sb S) := by rw [List.getElem?_append_left hil]; exact hi
  have hx0 := heap_alloc_new W (.cells #[.int .i64 AK, .int .i64 AR, .int .i64 AN, .int .i64 AB, .int .u64 AV, .slice XA n xc, .int .i64 AE, .int .i64 AC] 47)
  obtain ⟨W0, hW0⟩ : ∃ W0, W0 = W.alloc (.cells #[.int .i64 AK, .int .i64 AR, .int .i64 AN, .int .i64 AB, .int .u64 AV, .slice XA n xc, .int .i64 AE, .int .i64 AC] 47) := ⟨_, rfl⟩
  rw [← hW0] at hb hx0 hAI
  have HW := Lib.hid hW0
  obtain ⟨c0, c1, c2, c3, c4, c5, c6, c7⟩ := cells8 hx0
  have HX := Lib.hid hx0
  have HIL := Lib.hid hil
  have HC := Lib.hid (sp_call hb hi0 AN AR AB _ AA an ar ab hAI)
  subst hk
  clear h hi hb hi0 hil hx0 hW0 hAI ak ar an ab av ax aa ae harr hn hf
  go_enter Tryz.func46, Tryz.ntmps46
  go_wp2_with (first
    | (rw [← HW.out])
    | (go_at_call 40; (with_reducible refine HC.out.mono ?_); rintro e w' ⟨rfl, hs⟩; have HS := Lib.hid hs; clear hs))
  first | go_end0 | (simp only [Exit.inBlock, Exit.then]; refine bodyPost_ret (results_none rfl _ _ _) rfl ?_) | refine bodyPost_ret (results_none rfl _ _ _) rfl ?_
  exact ⟨rfl, HS.out.drop HIL.out _⟩
theorem act15_6 (h : Spaces w lo W l) (hi : l[i]? = some (.sp sb S)) (hf : S.done.length < 100000) (A : ActS) (hA : A.ok W lo) (hk : A.kind = 6) :
    Calls Tryz.prog 46 #[.pointer (some ⟨sb, 0, none⟩), .agg A.arr] W (SpsDone w lo (l.set i (.sp sb (S.retS A.v))) (.tuple #[])) := by
  obtain ⟨AK, AR, AN, AB, AV, AX, AA, AE, AC⟩ := A
  obtain ⟨XA, xc, hxe⟩ := hA.b.len
  simp only at hxe
  subst hxe
  have hil : i < l.length := (List.getElem?_eq_some_iff.1 hi).1
  obtain ⟨ak, ar, an, ab, av, ax, aa, ae⟩ := hA
  simp only at ak ar an ab av ax aa ae hk
  have hAI := (ArgsIn.mk aa (.inl ax) : ArgsIn lo W _ AA).grow h.top (below_one14 W (.cells #[.int .i64 AK, .int .i64 AR, .int .i64 AN, .int .i64 AB, .int .u64 AV, .slice XA AA.length xc, .int .i64 AE, .int .i64 AC] 47))
  obtain ⟨n, hn⟩ : ∃ n, n = AA.length := ⟨_, rfl⟩
  rw [← hn] at hAI
  have harr : ActS.arr ⟨AK, AR, AN, AB, AV, .slice XA AA.length xc, AA, AE, AC⟩ = #[.int .i64 AK, .int .i64 AR, .int .i64 AN, .int .i64 AB, .int .u64 AV, .slice XA n xc, .int .i64 AE, .int .i64 AC] := by rw [hn]; rfl
  rw [harr]
  have hb := h.addBox #[.int .i64 AK, .int .i64 AR, .int .i64 AN, .int .i64 AB, .int .u64 AV, .slice XA n xc, .int .i64 AE, .int .i64 AC] 47
  have hi0 : (l ++ [It.box W.heap.size #[.int .i64 AK, .int .i64 AR, .int .i64 AN, .int .i64 AB, .int .u64 AV, .slice XA n xc, .int .i64 AE, .int .i64 AC] 47])[i]? = some (.sp sb S) := by rw [List.getElem?_append_left hil]; exact hi
  have hx0 := heap_alloc_new W (.cells #[.int .i64 AK, .int .i64 AR, .int .i64 AN, .int .i64 AB, .int .u64 AV, .slice XA n xc, .int .i64 AE, .int .i64 AC] 47)
  obtain ⟨W0, hW0⟩ : ∃ W0, W0 = W.alloc (.cells #[.int .i64 AK, .int .i64 AR, .int .i64 AN, .int .i64 AB, .int .u64 AV, .slice XA n xc, .int .i64 AE, .int .i64 AC] 47) := ⟨_, rfl⟩
  rw [← hW0] at hb hx0 hAI
  have HW := Lib.hid hW0
  obtain ⟨c0, c1, c2, c3, c4, c5, c6, c7⟩ := cells8 hx0
  have HX := Lib.hid hx0
  have HIL := Lib.hid hil
  have HC := Lib.hid (sp_ret hb hi0 AV av.1 av.2)
  subst hk
  clear h hi hb hi0 hil hx0 hW0 hAI ak ar an ab av ax aa ae harr hn hf
  go_enter Tryz.func46, Tryz.ntmps46
  go_wp2_with (first
    | (rw [← HW.out])
    | (go_at_call 41; (with_reducible refine HC.out.mono ?_); rintro e w' ⟨rfl, hs⟩; have HS := Lib.hid hs; clear hs))
  first | go_end0 | (simp only [Exit.inBlock, Exit.then]; refine bodyPost_ret (results_none rfl _ _ _) rfl ?_) | refine bodyPost_ret (results_none rfl _ _ _) rfl ?_
  exact ⟨rfl, HS.out.drop HIL.out _⟩
theorem act15_7 (h : Spaces w lo W l) (hi : l[i]? = some (.sp sb S)) (hf : S.done.length < 100000) (A : ActS) (hA : A.ok W lo) (hk : A.kind = 7) :
    Calls Tryz.prog 46 #[.pointer (some ⟨sb, 0, none⟩), .agg A.arr] W (SpsDone w lo (l.set i (.sp sb (S.stopS A.ek A.ec))) (.tuple #[])) := by
  obtain ⟨AK, AR, AN, AB, AV, AX, AA, AE, AC⟩ := A
  obtain ⟨XA, xc, hxe⟩ := hA.b.len
  simp only at hxe
  subst hxe
  have hil : i < l.length := (List.getElem?_eq_some_iff.1 hi).1
  obtain ⟨ak, ar, an, ab, av, ax, aa, ae⟩ := hA
  simp only at ak ar an ab av ax aa ae hk
  have hAI := (ArgsIn.mk aa (.inl ax) : ArgsIn lo W _ AA).grow h.top (below_one14 W (.cells #[.int .i64 AK, .int .i64 AR, .int .i64 AN, .int .i64 AB, .int .u64 AV, .slice XA AA.length xc, .int .i64 AE, .int .i64 AC] 47))
  obtain ⟨n, hn⟩ : ∃ n, n = AA.length := ⟨_, rfl⟩
  rw [← hn] at hAI
  have harr : ActS.arr ⟨AK, AR, AN, AB, AV, .slice XA AA.length xc, AA, AE, AC⟩ = #[.int .i64 AK, .int .i64 AR, .int .i64 AN, .int .i64 AB, .int .u64 AV, .slice XA n xc, .int .i64 AE, .int .i64 AC] := by rw [hn]; rfl
  rw [harr]
  have hb := h.addBox #[.int .i64 AK, .int .i64 AR, .int .i64 AN, .int .i64 AB, .int .u64 AV, .slice XA n xc, .int .i64 AE, .int .i64 AC] 47
  have hi0 : (l ++ [It.box W.heap.size #[.int .i64 AK, .int .i64 AR, .int .i64 AN, .int .i64 AB, .int .u64 AV, .slice XA n xc, .int .i64 AE, .int .i64 AC] 47])[i]? = some (.sp sb S) := by rw [List.getElem?_append_left hil]; exact hi
  have hx0 := heap_alloc_new W (.cells #[.int .i64 AK, .int .i64 AR, .int .i64 AN, .int .i64 AB, .int .u64 AV, .slice XA n xc, .int .i64 AE, .int .i64 AC] 47)
  obtain ⟨W0, hW0⟩ : ∃ W0, W0 = W.alloc (.cells #[.int .i64 AK, .int .i64 AR, .int .i64 AN, .int .i64 AB, .int .u64 AV, .slice XA n xc, .int .i64 AE, .int .i64 AC] 47) := ⟨_, rfl⟩
  rw [← hW0] at hb hx0 hAI
  have HW := Lib.hid hW0
  obtain ⟨c0, c1, c2, c3, c4, c5, c6, c7⟩ := cells8 hx0
  have HX := Lib.hid hx0
  have HIL := Lib.hid hil
  have HC := Lib.hid (sp_stop hb hi0 AE AC)
  subst hk
  clear h hi hb hi0 hil hx0 hW0 hAI ak ar an ab av ax aa ae harr hn hf
  go_enter Tryz.func46, Tryz.ntmps46
  go_wp2_with (first
    | (rw [← HW.out])
    | (go_at_call 22; (with_reducible refine HC.out.mono ?_); rintro e w' ⟨rfl, hs⟩; have HS := Lib.hid hs; clear hs))
  first | go_end0 | (simp only [Exit.inBlock, Exit.then]; refine bodyPost_ret (results_none rfl _ _ _) rfl ?_) | refine bodyPost_ret (results_none rfl _ _ _) rfl ?_
  exact ⟨rfl, HS.out.drop HIL.out _⟩
theorem act15_8 (h : Spaces w lo W l) (hi : l[i]? = some (.sp sb S)) (hf : S.done.length < 100000) (A : ActS) (hA : A.ok W lo) (hk : A.kind = 8) :
    Calls Tryz.prog 46 #[.pointer (some ⟨sb, 0, none⟩), .agg A.arr] W (SpsDone w lo (l.set i (.sp sb (S.getbS))) (.tuple #[])) := by
  obtain ⟨AK, AR, AN, AB, AV, AX, AA, AE, AC⟩ := A
  obtain ⟨XA, xc, hxe⟩ := hA.b.len
  simp only at hxe
  subst hxe
  have hil : i < l.length := (List.getElem?_eq_some_iff.1 hi).1
  obtain ⟨ak, ar, an, ab, av, ax, aa, ae⟩ := hA
  simp only at ak ar an ab av ax aa ae hk
  have hAI := (ArgsIn.mk aa (.inl ax) : ArgsIn lo W _ AA).grow h.top (below_one14 W (.cells #[.int .i64 AK, .int .i64 AR, .int .i64 AN, .int .i64 AB, .int .u64 AV, .slice XA AA.length xc, .int .i64 AE, .int .i64 AC] 47))
  obtain ⟨n, hn⟩ : ∃ n, n = AA.length := ⟨_, rfl⟩
  rw [← hn] at hAI
  have harr : ActS.arr ⟨AK, AR, AN, AB, AV, .slice XA AA.length xc, AA, AE, AC⟩ = #[.int .i64 AK, .int .i64 AR, .int .i64 AN, .int .i64 AB, .int .u64 AV, .slice XA n xc, .int .i64 AE, .int .i64 AC] := by rw [hn]; rfl
  rw [harr]
  have hb := h.addBox #[.int .i64 AK, .int .i64 AR, .int .i64 AN, .int .i64 AB, .int .u64 AV, .slice XA n xc, .int .i64 AE, .int .i64 AC] 47
  have hi0 : (l ++ [It.box W.heap.size #[.int .i64 AK, .int .i64 AR, .int .i64 AN, .int .i64 AB, .int .u64 AV, .slice XA n xc, .int .i64 AE, .int .i64 AC] 47])[i]? = some (.sp sb S) := by rw [List.getElem?_append_left hil]; exact hi
  have hx0 := heap_alloc_new W (.cells #[.int .i64 AK, .int .i64 AR, .int .i64 AN, .int .i64 AB, .int .u64 AV, .slice XA n xc, .int .i64 AE, .int .i64 AC] 47)
  obtain ⟨W0, hW0⟩ : ∃ W0, W0 = W.alloc (.cells #[.int .i64 AK, .int .i64 AR, .int .i64 AN, .int .i64 AB, .int .u64 AV, .slice XA n xc, .int .i64 AE, .int .i64 AC] 47) := ⟨_, rfl⟩
  rw [← hW0] at hb hx0 hAI
  have HW := Lib.hid hW0
  obtain ⟨c0, c1, c2, c3, c4, c5, c6, c7⟩ := cells8 hx0
  have HX := Lib.hid hx0
  have HIL := Lib.hid hil
  have HC := Lib.hid (sp_getb hb hi0 hf)
  subst hk
  clear h hi hb hi0 hil hx0 hW0 hAI ak ar an ab av ax aa ae harr hn hf
  go_enter Tryz.func46, Tryz.ntmps46
  go_wp2_with (first
    | (rw [← HW.out])
    | (go_at_call 28; (with_reducible refine HC.out.mono ?_); rintro e w' ⟨rfl, hs⟩; have HS := Lib.hid hs; clear hs))
  first | go_end0 | (simp only [Exit.inBlock, Exit.then]; refine bodyPost_ret (results_none rfl _ _ _) rfl ?_) | refine bodyPost_ret (results_none rfl _ _ _) rfl ?_
  exact ⟨rfl, HS.out.drop HIL.out _⟩
theorem act15_9 (h : Spaces w lo W l) (hi : l[i]? = some (.sp sb S)) (hf : S.done.length < 100000) (A : ActS) (hA : A.ok W lo) (hk : A.kind = 9) :
    Calls Tryz.prog 46 #[.pointer (some ⟨sb, 0, none⟩), .agg A.arr] W (SpsDone w lo (l.set i (.sp sb (S.putbS A.n))) (.tuple #[])) := by
  obtain ⟨AK, AR, AN, AB, AV, AX, AA, AE, AC⟩ := A
  obtain ⟨XA, xc, hxe⟩ := hA.b.len
  simp only at hxe
  subst hxe
  have hil : i < l.length := (List.getElem?_eq_some_iff.1 hi).1
  obtain ⟨ak, ar, an, ab, av, ax, aa, ae⟩ := hA
  simp only at ak ar an ab av ax aa ae hk
  have hAI := (ArgsIn.mk aa (.inl ax) : ArgsIn lo W _ AA).grow h.top (below_one14 W (.cells #[.int .i64 AK, .int .i64 AR, .int .i64 AN, .int .i64 AB, .int .u64 AV, .slice XA AA.length xc, .int .i64 AE, .int .i64 AC] 47))
  obtain ⟨n, hn⟩ : ∃ n, n = AA.length := ⟨_, rfl⟩
  rw [← hn] at hAI
  have harr : ActS.arr ⟨AK, AR, AN, AB, AV, .slice XA AA.length xc, AA, AE, AC⟩ = #[.int .i64 AK, .int .i64 AR, .int .i64 AN, .int .i64 AB, .int .u64 AV, .slice XA n xc, .int .i64 AE, .int .i64 AC] := by rw [hn]; rfl
  rw [harr]
  have hb := h.addBox #[.int .i64 AK, .int .i64 AR, .int .i64 AN, .int .i64 AB, .int .u64 AV, .slice XA n xc, .int .i64 AE, .int .i64 AC] 47
  have hi0 : (l ++ [It.box W.heap.size #[.int .i64 AK, .int .i64 AR, .int .i64 AN, .int .i64 AB, .int .u64 AV, .slice XA n xc, .int .i64 AE, .int .i64 AC] 47])[i]? = some (.sp sb S) := by rw [List.getElem?_append_left hil]; exact hi
  have hx0 := heap_alloc_new W (.cells #[.int .i64 AK, .int .i64 AR, .int .i64 AN, .int .i64 AB, .int .u64 AV, .slice XA n xc, .int .i64 AE, .int .i64 AC] 47)
  obtain ⟨W0, hW0⟩ : ∃ W0, W0 = W.alloc (.cells #[.int .i64 AK, .int .i64 AR, .int .i64 AN, .int .i64 AB, .int .u64 AV, .slice XA n xc, .int .i64 AE, .int .i64 AC] 47) := ⟨_, rfl⟩
  rw [← hW0] at hb hx0 hAI
  have HW := Lib.hid hW0
  obtain ⟨c0, c1, c2, c3, c4, c5, c6, c7⟩ := cells8 hx0
  have HX := Lib.hid hx0
  have HIL := Lib.hid hil
  have HC := Lib.hid (sp_putb hb hi0 hf AN)
  subst hk
  clear h hi hb hi0 hil hx0 hW0 hAI ak ar an ab av ax aa ae harr hn hf
  go_enter Tryz.func46, Tryz.ntmps46
  go_wp2_with (first
    | (rw [← HW.out])
    | (go_at_call 42; (with_reducible refine HC.out.mono ?_); rintro e w' ⟨rfl, hs⟩; have HS := Lib.hid hs; clear hs))
  first | go_end0 | (simp only [Exit.inBlock, Exit.then]; refine bodyPost_ret (results_none rfl _ _ _) rfl ?_) | refine bodyPost_ret (results_none rfl _ _ _) rfl ?_
  exact ⟨rfl, HS.out.drop HIL.out _⟩
theorem act15_10 (h : Spaces w lo W l) (hi : l[i]? = some (.sp sb S)) (A : ActS) (hA : A.ok W lo) (hk : A.kind = 10) :
    Calls Tryz.prog 46 #[.pointer (some ⟨sb, 0, none⟩), .agg A.arr] W (SpsDone w lo (l.set i (.sp sb (S.memS A.v 8 (wrapU A.n)))) (.tuple #[])) := by
  obtain ⟨AK, AR, AN, AB, AV, AX, AA, AE, AC⟩ := A
  obtain ⟨XA, xc, hxe⟩ := hA.b.len
  simp only at hxe
  subst hxe
  have hil : i < l.length := (List.getElem?_eq_some_iff.1 hi).1
  obtain ⟨ak, ar, an, ab, av, ax, aa, ae⟩ := hA
  simp only at ak ar an ab av ax aa ae hk
  have hAI := (ArgsIn.mk aa (.inl ax) : ArgsIn lo W _ AA).grow h.top (below_one14 W (.cells #[.int .i64 AK, .int .i64 AR, .int .i64 AN, .int .i64 AB, .int .u64 AV, .slice XA AA.length xc, .int .i64 AE, .int .i64 AC] 47))
  obtain ⟨n, hn⟩ : ∃ n, n = AA.length := ⟨_, rfl⟩
  rw [← hn] at hAI
  have harr : ActS.arr ⟨AK, AR, AN, AB, AV, .slice XA AA.length xc, AA, AE, AC⟩ = #[.int .i64 AK, .int .i64 AR, .int .i64 AN, .int .i64 AB, .int .u64 AV, .slice XA n xc, .int .i64 AE, .int .i64 AC] := by rw [hn]; rfl
  rw [harr]
  have hb := h.addBox #[.int .i64 AK, .int .i64 AR, .int .i64 AN, .int .i64 AB, .int .u64 AV, .slice XA n xc, .int .i64 AE, .int .i64 AC] 47
  have hi0 : (l ++ [It.box W.heap.size #[.int .i64 AK, .int .i64 AR, .int .i64 AN, .int .i64 AB, .int .u64 AV, .slice XA n xc, .int .i64 AE, .int .i64 AC] 47])[i]? = some (.sp sb S) := by rw [List.getElem?_append_left hil]; exact hi
  have hx0 := heap_alloc_new W (.cells #[.int .i64 AK, .int .i64 AR, .int .i64 AN, .int .i64 AB, .int .u64 AV, .slice XA n xc, .int .i64 AE, .int .i64 AC] 47)
  obtain ⟨W0, hW0⟩ : ∃ W0, W0 = W.alloc (.cells #[.int .i64 AK, .int .i64 AR, .int .i64 AN, .int .i64 AB, .int .u64 AV, .slice XA n xc, .int .i64 AE, .int .i64 AC] 47) := ⟨_, rfl⟩
  rw [← hW0] at hb hx0 hAI
  have HW := Lib.hid hW0
  obtain ⟨c0, c1, c2, c3, c4, c5, c6, c7⟩ := cells8 hx0
  have HX := Lib.hid hx0
  have HIL := Lib.hid hil
  have HM := Lib.hid (sp_memory (hb.grow (Below.refl W0.heap.size W0).drew) hi0)
  have HV := Lib.hid av
  have HJ : Hid (∀ x, ((l ++ [It.box W.heap.size #[.int .i64 AK, .int .i64 AR, .int .i64 AN, .int .i64 AB, .int .u64 AV, .slice XA n xc, .int .i64 AE, .int .i64 AC] 47]).set i x)[l.length]? = some (It.box W.heap.size #[.int .i64 AK, .int .i64 AR, .int .i64 AN, .int .i64 AB, .int .u64 AV, .slice XA n xc, .int .i64 AE, .int .i64 AC] 47)) := Lib.hid (fun x => by
    rw [List.getElem?_set_ne (by omega)]; simp)
  have HI : Hid (∀ x, ((l ++ [It.box W.heap.size #[.int .i64 AK, .int .i64 AR, .int .i64 AN, .int .i64 AB, .int .u64 AV, .slice XA n xc, .int .i64 AE, .int .i64 AC] 47]).set i x)[i]? = some x) := Lib.hid (fun x => by
    rw [List.getElem?_set_self (by simp; omega)])
  subst hk
  clear h hi hb hi0 hil hx0 hW0 hAI ak ar an ab av ax aa ae harr hn
  go_enter Tryz.func46, Tryz.ntmps46
  go_upto_region 22 with (rw [← HW.out])
  go_region_with (first
    | (go_at_call 30; (with_reducible refine HM.out.mono ?_); rintro e w1 ⟨mb, rfl, hs, hc⟩; have HS1 := Lib.hid hs; obtain ⟨d0, d1, d2, d3, d4, d5, d6, d7⟩ := cells8 (hs.boxAt (HJ.out _)); have HT := Lib.hid (sp_store hs (HI.out _) hc AV 8 (IntKind.u64.wrap AN) HV.out.1 HV.out.2 (by decide) (by rw [wrapU_eq]; exact (wrapU_in _).1) (by rw [wrapU_eq]; exact (wrapU_in _).2)); clear hs hc)
    | (go_at_call 48; (with_reducible refine HT.out.mono ?_); rintro e w2 ⟨rfl, hs⟩; have HS2 := Lib.hid hs; clear hs))
  all_goals (
    (first | go_end0 | (simp only [Exit.inBlock, Exit.then]; refine bodyPost_ret (results_none rfl _ _ _) rfl ?_) | refine bodyPost_ret (results_none rfl _ _ _) rfl ?_)
    exact ⟨rfl, by have hz := HS2.out; rw [List.set_set, wrapU_eq] at hz; exact hz.drop HIL.out _⟩)
theorem act15_x (h : Spaces w lo W l) (hi : l[i]? = some (.sp sb S)) (A : ActS) (hA : A.ok W lo) (hk : ¬ (0 ≤ A.kind ∧ A.kind ≤ 10)) :
    Calls Tryz.prog 46 #[.pointer (some ⟨sb, 0, none⟩), .agg A.arr] W (SpsDone w lo (l.set i (.sp sb S)) (.tuple #[])) := by
  obtain ⟨AK, AR, AN, AB, AV, AX, AA, AE, AC⟩ := A
  obtain ⟨XA, xc, hxe⟩ := hA.b.len
  simp only at hxe
  subst hxe
  have hil : i < l.length := (List.getElem?_eq_some_iff.1 hi).1
  obtain ⟨ak, ar, an, ab, av, ax, aa, ae⟩ := hA
  simp only at ak ar an ab av ax aa ae hk
  have hAI := (ArgsIn.mk aa (.inl ax) : ArgsIn lo W _ AA).grow h.top (below_one14 W (.cells #[.int .i64 AK, .int .i64 AR, .int .i64 AN, .int .i64 AB, .int .u64 AV, .slice XA AA.length xc, .int .i64 AE, .int .i64 AC] 47))
  obtain ⟨n, hn⟩ : ∃ n, n = AA.length := ⟨_, rfl⟩
  rw [← hn] at hAI
  have harr : ActS.arr ⟨AK, AR, AN, AB, AV, .slice XA AA.length xc, AA, AE, AC⟩ = #[.int .i64 AK, .int .i64 AR, .int .i64 AN, .int .i64 AB, .int .u64 AV, .slice XA n xc, .int .i64 AE, .int .i64 AC] := by rw [hn]; rfl
  rw [harr]
  have hb := h.addBox #[.int .i64 AK, .int .i64 AR, .int .i64 AN, .int .i64 AB, .int .u64 AV, .slice XA n xc, .int .i64 AE, .int .i64 AC] 47
  have hi0 : (l ++ [It.box W.heap.size #[.int .i64 AK, .int .i64 AR, .int .i64 AN, .int .i64 AB, .int .u64 AV, .slice XA n xc, .int .i64 AE, .int .i64 AC] 47])[i]? = some (.sp sb S) := by rw [List.getElem?_append_left hil]; exact hi
  have hx0 := heap_alloc_new W (.cells #[.int .i64 AK, .int .i64 AR, .int .i64 AN, .int .i64 AB, .int .u64 AV, .slice XA n xc, .int .i64 AE, .int .i64 AC] 47)
  obtain ⟨W0, hW0⟩ : ∃ W0, W0 = W.alloc (.cells #[.int .i64 AK, .int .i64 AR, .int .i64 AN, .int .i64 AB, .int .u64 AV, .slice XA n xc, .int .i64 AE, .int .i64 AC] 47) := ⟨_, rfl⟩
  rw [← hW0] at hb hx0 hAI
  have HW := Lib.hid hW0
  obtain ⟨c0, c1, c2, c3, c4, c5, c6, c7⟩ := cells8 hx0
  have HX := Lib.hid hx0
  have HIL := Lib.hid hil
  have HS := Lib.hid hb
  have e0 : (AK == 0) = false := by simp; omega
  have e1 : (AK == 1) = false := by simp; omega
  have e2 : (AK == 2) = false := by simp; omega
  have e3 : (AK == 3) = false := by simp; omega
  have e4 : (AK == 4) = false := by simp; omega
  have e5 : (AK == 5) = false := by simp; omega
  have e6 : (AK == 6) = false := by simp; omega
  have e7 : (AK == 7) = false := by simp; omega
  have e8 : (AK == 8) = false := by simp; omega
  have e9 : (AK == 9) = false := by simp; omega
  have e10 : (AK == 10) = false := by simp; omega
  have HSI : Hid ((l ++ [It.box W.heap.size #[.int .i64 AK, .int .i64 AR, .int .i64 AN, .int .i64 AB, .int .u64 AV, .slice XA n xc, .int .i64 AE, .int .i64 AC] 47]).set i (.sp sb S) = l ++ [It.box W.heap.size #[.int .i64 AK, .int .i64 AR, .int .i64 AN, .int .i64 AB, .int .u64 AV, .slice XA n xc, .int .i64 AE, .int .i64 AC] 47]) := Lib.hid (set_same15 hi0)
  clear h hi hb hi0 hil hx0 hW0 hAI hk ak ar an ab av ax aa ae harr hn
  go_enter Tryz.func46, Tryz.ntmps46
  go_wp2_with (rw [← HW.out])
  first | go_end0 | (simp only [Exit.inBlock, Exit.then]; refine bodyPost_ret (results_none rfl _ _ _) rfl ?_) | refine bodyPost_ret (results_none rfl _ _ _) rfl ?_
  exact ⟨rfl, by have hz := HS.out; rw [← HSI.out] at hz; exact hz.drop HIL.out _⟩
theorem act15 (h : Spaces w lo W l) (hi : l[i]? = some (.sp sb S)) (hf : S.done.length < 100000) (A : ActS) (hA : A.ok W lo) :
    Calls Tryz.prog 46 #[.pointer (some ⟨sb, 0, none⟩), .agg A.arr] W (SpsDone w lo (l.set i (.sp sb (S.actS A))) (.tuple #[])) := by
  by_cases hk : 0 ≤ A.kind ∧ A.kind ≤ 10
  · have : A.kind = 0 ∨ A.kind = 1 ∨ A.kind = 2 ∨ A.kind = 3 ∨ A.kind = 4 ∨ A.kind = 5 ∨ A.kind = 6 ∨ A.kind = 7 ∨ A.kind = 8 ∨ A.kind = 9 ∨ A.kind = 10 := by omega
    rcases this with e | e | e | e | e | e | e | e | e | e | e
    · have := act15_0 h hi hf A hA e; unfold SpV.actS; simpa [e] using this
    · have := act15_1 h hi hf A hA e; unfold SpV.actS; simpa [e] using this
    · have := act15_2 h hi hf A hA e; unfold SpV.actS; simpa [e] using this
    · have := act15_3 h hi hf A hA e; unfold SpV.actS; simpa [e] using this
    · have := act15_4 h hi hf A hA e; unfold SpV.actS; simpa [e] using this
    · have := act15_5 h hi hf A hA e; unfold SpV.actS; simpa [e] using this
    · have := act15_6 h hi hf A hA e; unfold SpV.actS; simpa [e] using this
    · have := act15_7 h hi hf A hA e; unfold SpV.actS; simpa [e] using this
    · have := act15_8 h hi hf A hA e; unfold SpV.actS; simpa [e] using this
    · have := act15_9 h hi hf A hA e; unfold SpV.actS; simpa [e] using this
    · have := act15_10 h hi A hA e; unfold SpV.actS; simpa [e] using this
  · have := act15_x h hi A hA hk
    have e : S.actS A = S := by
      unfold SpV.actS
      repeat (rw [if_neg (by omega)])
    rw [e]
    exact this
end
end Go.Proofs.YtkfdgpgildanbaaGreat
