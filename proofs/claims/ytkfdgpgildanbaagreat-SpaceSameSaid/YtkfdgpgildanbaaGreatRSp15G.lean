import Derived.Test.YtkfdgpgildanbaaGreatRSp15F
namespace Go.Proofs.YtkfdgpgildanbaaGreat
open Go.RowKit Go.Shelf
set_option linter.unusedVariables false
set_option linter.unusedSimpArgs false
section
variable {w W W' : World} {lo i rb : Nat} {l : List It} {S : SpV}
theorem Spaces.liftR (h : Spaces w lo W l) (hi : l[i]? = some (.rs rb S)) {S' : SpV} {v : Value} {f : FuncId} {args : Array Value} (hc : ∀ p, RsAt w.heap.size W rb p S → w.heap.size ≤ W.heap.size → (∀ k, foot15 rb p k → lo ≤ k) → Calls Tryz.prog f args W (RsDone w.heap.size W rb p S S' v)) : Calls Tryz.prog f args W (SpsDone w lo (l.set i (.rs rb S')) v) := by
  obtain ⟨p, hp, hl, hm⟩ := h.move2 hi
  refine (hc p hp (Nat.le_trans h.low h.top) hl).mono ?_
  rintro e W' ⟨he, p', hv⟩
  exact ⟨he, hm _ _ _ hv⟩
theorem Spaces.rsAt (h : Spaces w lo W l) (hi : l[i]? = some (.rs rb S)) : ∃ p, RsAt w.heap.size W rb p S := by
  obtain ⟨p, hp, _⟩ := h.move2 hi
  exact ⟨p, hp⟩
theorem ArgsIn.argsR {A : Value} {args : List Int} {p : Loc} (h : ArgsIn lo W A args) (hl : lo ≤ W.heap.size) (hp : RsAt w.heap.size W rb p S) (hf : ∀ k, foot15 rb p k → lo ≤ k) : Args15 W (foot15 rb p) A args := by
  refine ⟨h.inn, fun W' hb => ?_⟩
  rcases h.lies with h | ⟨b, n, h⟩
  · exact (h.but hb hl (fun k hk e => by have := hf k e; omega)).more (Nat.le_trans hl hb.size)
  · exact IsNums.of_owns (h.but hb (fun g hg e => by
      obtain ⟨_, c, hc⟩ := typed14 h hg
      exact (It.typ (B := w.heap.size) (a := .rs rb S) hp e).not (.inr rfl) hc)) (Nat.le_refl _)
theorem rs_get (h : Spaces w lo W l) (hi : l[i]? = some (.rs rb S)) (r : Int) (hr : InI r) : Calls Tryz.prog 84 #[.pointer (some ⟨rb, 0, none⟩), .int .i64 r] W (SpsDone w lo (l.set i (.rs rb (S))) (.tuple #[.int .u64 (S.getV r), .int .i64 (S.getE r)])) := h.liftR hi (fun p hp hB hl => rGet15 hp hB r hr)
theorem rs_set (h : Spaces w lo W l) (hi : l[i]? = some (.rs rb S)) (r v : Int) (hr : InI r) (hv0 : 0 ≤ v) (hv1 : v < 18446744073709551616) : Calls Tryz.prog 65 #[.pointer (some ⟨rb, 0, none⟩), .int .i64 r, .int .u64 v] W (SpsDone w lo (l.set i (.rs rb (S.setS r v))) (.int .i64 (S.getE r))) := h.liftR hi (fun p hp hB hl => rSet15 hp hB (fun k hk => Nat.le_trans h.low (hl k hk)) r v hr hv0 hv1)
theorem rs_go (h : Spaces w lo W l) (hi : l[i]? = some (.rs rb S)) (n : Int) (hn : InI n) : Calls Tryz.prog 85 #[.pointer (some ⟨rb, 0, none⟩), .int .i64 n] W (SpsDone w lo (l.set i (.rs rb (S.goS n))) (.int .i64 (S.goE n))) := h.liftR hi (fun p hp hB hl => rGo15 hp hB (fun k hk => Nat.le_trans h.low (hl k hk)) n hn)
theorem rs_burn (h : Spaces w lo W l) (hi : l[i]? = some (.rs rb S)) (n : Int) (hn : InI n) : Calls Tryz.prog 86 #[.pointer (some ⟨rb, 0, none⟩), .int .i64 n] W (SpsDone w lo (l.set i (.rs rb (S.burnS n))) (.int .i64 (S.burnE n))) := h.liftR hi (fun p hp hB hl => rBurn15 hp hB (fun k hk => Nat.le_trans h.low (hl k hk)) n hn)
theorem rs_ret (h : Spaces w lo W l) (hi : l[i]? = some (.rs rb S)) (v : Int) (hv0 : 0 ≤ v) (hv1 : v < 18446744073709551616) : Calls Tryz.prog 89 #[.pointer (some ⟨rb, 0, none⟩), .int .u64 v] W (SpsDone w lo (l.set i (.rs rb (S.retS v))) (.int .i64 S.refE)) := h.liftR hi (fun p hp hB hl => rRet15 hp hB (fun k hk => Nat.le_trans h.low (hl k hk)) v hv0 hv1)
theorem rs_stop (h : Spaces w lo W l) (hi : l[i]? = some (.rs rb S)) (k c : Int) : Calls Tryz.prog 90 #[.pointer (some ⟨rb, 0, none⟩), .agg #[.int .i64 k, .int .i64 c]] W (SpsDone w lo (l.set i (.rs rb (S.stopS k c))) (.int .i64 (S.stopE k c))) := h.liftR hi (fun p hp hB hl => rStop15 hp hB (fun k hk => Nat.le_trans h.low (hl k hk)) k c)
theorem rs_getb (h : Spaces w lo W l) (hi : l[i]? = some (.rs rb S)) (hf : S.done.length < 100000) (hil : S.inp.length ≤ 1000000) : Calls Tryz.prog 91 #[.pointer (some ⟨rb, 0, none⟩)] W (SpsDone w lo (l.set i (.rs rb (S.getbS))) (.tuple #[.int .i64 S.getbV, .int .i64 S.refE])) := h.liftR hi (fun p hp hB hl => rGetb15 hp hB (fun k hk => Nat.le_trans h.low (hl k hk)) hf hil)
theorem rs_putb (h : Spaces w lo W l) (hi : l[i]? = some (.rs rb S)) (hf : S.done.length < 100000) (b : Int) : Calls Tryz.prog 92 #[.pointer (some ⟨rb, 0, none⟩), .int .i64 b] W (SpsDone w lo (l.set i (.rs rb (S.putbS b))) (.int .i64 S.refE)) := h.liftR hi (fun p hp hB hl => rPutb15 hp hB (fun k hk => Nat.le_trans h.low (hl k hk)) hf b)
theorem rs_call (h : Spaces w lo W l) (hi : l[i]? = some (.rs rb S)) (f res back : Int) (A : Value) (args : List Int) (hf : InI f) (hr : InI res) (hbk : InI back) (hA : ArgsIn lo W A args) : Calls Tryz.prog 87 #[.pointer (some ⟨rb, 0, none⟩), .int .i64 f, A, .int .i64 res, .int .i64 back] W (SpsDone w lo (l.set i (.rs rb (S.callS f args res back))) (.int .i64 (S.callE f args res back))) := h.liftR hi (fun p hp hB hl => rCall15 hp hB (fun k hk => Nat.le_trans h.low (hl k hk)) f res back A args hf hr hbk (hA.argsR h.top hp hl))
def RNewSps (w : World) (lo : Nat) (W : World) (l : List It) (m : ModV) (n : Int) (inp : List Int) (fuel : Int) (e : Ending) (W' : World) : Prop :=
  Below W.heap.size W W' ∧ ((newE15 m n fuel ≠ 0 ∧ e = .returned (.tuple #[.pointer none, .int .i64 (newE15 m n fuel)]) ∧ Spaces w lo W' l) ∨
    (newE15 m n fuel = 0 ∧ ∃ rb, e = .returned (.tuple #[.pointer (some ⟨rb, 0, none⟩), .int .i64 0]) ∧ Spaces w lo W' (l ++ [.rs rb (newS m n.toNat inp fuel)])))
theorem rs_new (h : Spaces w lo W l) (D F IN : Value) (data inp : List Int) (fs : List FunV) (n fuel : Int) (hD : IsBytes W w.heap.size D data) (hF : IsFuns W w.heap.size F fs) (hI : IsBytes W W.heap.size IN inp) (hil : inp.length ≤ 1000000) (hcl : ∀ f ∈ fs, f.code.length ≤ 1000) (hn : InI n) :
    Calls Tryz.prog 16 #[.agg #[D, F], .int .i64 n, IN, .int .i64 fuel] W (RNewSps w lo W l ⟨data, fs⟩ n inp fuel) := by
  obtain ⟨DA, dc, rfl⟩ := hD.len
  obtain ⟨FA, fc, rfl⟩ := hF.len
  obtain ⟨IA, ic, rfl⟩ := hI.len
  refine (rNew15 (B := w.heap.size) DA FA IA dc fc ic data inp fs W n fuel (Nat.le_trans h.low h.top) hD hF hI hil hcl hn).mono ?_
  rintro e W' ⟨hb, ⟨h1, he⟩ | ⟨h1, rb, p, he, hr, hk⟩⟩
  · exact ⟨hb, .inl ⟨h1, he, h.grow hb⟩⟩
  · exact ⟨hb, .inr ⟨h1, rb, he, h.add (a := .rs rb _) hb hr (fun k hf => hk k (.inl hf)) (fun k hf => .inl (hk k (.inr hf)))⟩⟩
end
end Go.Proofs.YtkfdgpgildanbaaGreat
