import Derived.Test.YtkfdgpgildanbaaGreatRSp15E
import Derived.Test.YtkfdgpgildanbaaGreatRef08A
namespace Go.Proofs.YtkfdgpgildanbaaGreat
open Go.RowKit Go.Shelf
set_option linter.unusedVariables false
set_option linter.unusedSimpArgs false
theorem zero_store15 {n : Nat} {data : List Int} {a : Int} (hd : 16 + data.length ≤ n) (h : 16 + (data.length : Int) ≤ a) (h2 : a + 8 ≤ n) : storeL (layB (List.replicate n 0) 16 data) a 8 0 = layB (List.replicate n 0) 16 data := by
  have hl : (layB (List.replicate n (0 : Int)) 16 data).length = n := by rw [layB_len (by decide)]; simp
  have he : numE (layB (List.replicate n (0 : Int)) 16 data).length a 8 = 0 := by rw [hl]; exact numE_in (by omega) (by omega)
  unfold storeL
  rw [if_pos he]
  have hlay : layB (List.replicate n (0 : Int)) 16 data = layL (List.replicate n (0 : Int)) 16 data := by
    unfold layB
    rw [if_pos (by
      unfold accE
      simp only [List.length_replicate]
      rw [if_neg (by omega), if_neg (by omega)])]
    rfl
  have hb : bytesV (0 : Int) (8 : Int).toNat = List.replicate 8 0 := by decide
  rw [hb]
  have hz : (List.replicate 8 (0 : Int)).length = 8 := by simp
  have hll : (layL (layB (List.replicate n (0 : Int)) 16 data) a.toNat (List.replicate 8 0)).length = n := by
    rw [layL_len (by rw [hl, hz]; omega), hl]
  have hrz : ∀ k j : Nat, (List.replicate k (0 : Int)).getD j 0 = 0 := by
    intro k j
    rw [List.getD_eq_getElem?_getD, List.getElem?_replicate]
    split <;> rfl
  refine List.ext_getElem (by rw [hll, hl]) (fun i h1 h3 => ?_)
  have key : (layL (layB (List.replicate n (0 : Int)) 16 data) a.toNat (List.replicate 8 0)).getD i 0 = (layB (List.replicate n (0 : Int)) 16 data).getD i 0 := by
    rw [getD_lay (by rw [hl, hz]; omega)]
    split
    · rfl
    · split
      · rw [hlay, getD_lay (by simp; omega)]
        rename_i g1 g2
        rw [hz] at g2
        rw [if_neg (by omega), if_neg (by omega)]
        rw [hrz, hrz]
      · rfl
  rw [List.getD_eq_getElem?_getD, List.getElem?_eq_getElem h1, List.getD_eq_getElem?_getD, List.getElem?_eq_getElem h3] at key
  exact key
theorem new_set15 {m : ModV} {N : Nat} {inp : List Int} {fuel : Int} (hE : newE15 m N fuel = 0) (he : (new0 m N inp fuel).newE 0 = 0) (i : Nat) (hi : (i : Int) < (fnV m 0).params) : (newS m N inp fuel).setS i 0 = newS m N inp fuel := by
  have hS : newS m N inp fuel = { new0 m N inp fuel with at_ := (new0 m N inp fuel).newAt 0 } := by unfold newS; rw [if_pos he]
  rw [hS]
  obtain ⟨h1, h2, h3, h4, h5, h6, h7⟩ := newE15_zero hE
  have hf0 := (err_funs h6).2.1
  have hfl : 16 + (m.data.length : Int) ≤ floV m := by
    have hd := (err_funs h6).1
    unfold floV floorV upV
    rw [if_pos (by omega)]
    omega
  have hf := err_fn h6 (f := 0) (by omega)
  obtain ⟨p1, p2⟩ := push_fr (f := 0) (x := N) (size := N) h6 (by omega) (by omega) (by omega) he
  have hlo := p1.lo
  obtain ⟨s1, s2, s3⟩ := slot_in (r := (i : Int)) h6 (by omega) p1 (by omega) (by omega)
  have hge : ({ new0 m N inp fuel with at_ := (new0 m N inp fuel).newAt 0 } : SpV).getE i = 0 := by
    show (if (0 : Int) = 0 then (if (decide ((0 : Int) ≤ (i : Int)) && decide ((i : Int) < (fnV m 0).regs)) = true then (0 : Int) else 5) else 9) = 0
    rw [if_pos rfl, if_pos (by simp; omega)]
  unfold SpV.setS
  rw [if_pos hge]
  have hn : (new0 m N inp fuel).newAt 0 = pushV (N : Int) (fnV m 0).regs (fnV m 0).area (floV m) := rfl
  have hz := zero_store15 (n := N) (data := m.data) (a := slotV ((new0 m N inp fuel).newAt 0) i) (by omega) (by rw [hn, s1]; omega) (by rw [hn, s1]; omega)
  exact congrArg (fun mm => ({ new0 m N inp fuel with at_ := (new0 m N inp fuel).newAt 0, mem := mm } : SpV)) hz
section
variable {B : Nat} {W W' : World} {rb : Nat} {S : SpV}
theorem RsAt.mk15 {mb bb c tb : Nat} {D F X : Value} (hx : W.heap[rb]? = some (.cells #[D, F, .pointer (some ⟨mb, 0, none⟩), .pointer (some ⟨tb, 0, none⟩), .int .i64 S.fuel, .int .i64 S.f, .int .u64 S.at_, .int .i64 S.pc, .slice none 0 0, .int .i64 S.ek, .int .i64 S.ec] 130 (0, 0)))
    (hm : RefAt W mb bb c S.mem) (ht : W.heap[tb]? = some (.cells #[X, .int .i64 0, .slice none 0 0] 127 (0, 0))) (hX : OwnB 0 W X S.inp) (h1 : ∀ g, X.ownBlock = some g → g ≠ bb ∧ g < tb)
    (hD : IsBytes W B D S.m.data) (hF : IsFuns W B F S.m.funcs) (e : S.left = S.inp ∧ S.done = [] ∧ S.links = []) (ok : S.ok) : RsAt B W rb ⟨mb, bb, c, tb, tb, 0, X, .slice none 0 0, .slice none 0 0, D, F, .slice none 0 0, []⟩ S := by
  obtain ⟨e1, e2, e3⟩ := e
  refine ⟨hx, hm, ⟨ht, hX, fun g hg => (h1 g hg).2, ?_, by rw [e2]; simp, Nat.zero_le _, Nat.le_refl _⟩, by rw [e1]; rfl, ?_, hD, hF, ok, ?_⟩
  · rw [e2]; exact Owns.nil _ _ _ _ _
  · rw [e3]; exact Owns.nil _ _ _ _ _
  · rintro k (rfl | rfl | rfl | rfl | e | e) hk
    · obtain ⟨c', h2⟩ := hX.blk hk
      exact types14 h2 hx (by decide)
    · obtain ⟨c', h2⟩ := hX.blk hk
      exact types14 h2 hm.head (by decide)
    · exact (h1 _ hk).1 rfl
    · obtain ⟨c', h2⟩ := hX.blk hk
      exact types14 h2 ht (by decide)
    · simp [Value.ownBlock] at e
    · simp [Value.ownBlock] at e
theorem rs_new15 {w8 W9 : World} {lo mb bb c : Nat} {D F X : Value} {cs : Array Value} (hm : RefAt w8 mb bb c S.mem) (hX : OwnB lo w8 X S.inp) (hml : mb < lo ∧ bb < lo) (h1 : lo ≤ w8.heap.size) (hBm : B ≤ mb ∧ B ≤ bb) (hD : IsBytes w8 B D S.m.data) (hF : IsFuns w8 B F S.m.funcs)
    (hW9 : W9 = (w8.alloc (.cells #[X, .int .i64 0, .slice none 0 0] 127)).alloc (.cells cs 130)) (hb : But (OneBlock (w8.heap.size + 1)) W9 W')
    (hx : W'.heap[w8.heap.size + 1]? = some (.cells #[D, F, .pointer (some ⟨mb, 0, none⟩), .pointer (some ⟨w8.heap.size, 0, none⟩), .int .i64 S.fuel, .int .i64 S.f, .int .u64 S.at_, .int .i64 S.pc, .slice none 0 0, .int .i64 S.ek, .int .i64 S.ec] 130 (0, 0)))
    (e : S.left = S.inp ∧ S.done = [] ∧ S.links = []) (ok : S.ok) :
    RsAt B W' (w8.heap.size + 1) ⟨mb, bb, c, w8.heap.size, w8.heap.size, 0, X, .slice none 0 0, .slice none 0 0, D, F, .slice none 0 0, []⟩ S ∧ ∀ k, foot15 (w8.heap.size + 1) ⟨mb, bb, c, w8.heap.size, w8.heap.size, 0, X, .slice none 0 0, .slice none 0 0, D, F, .slice none 0 0, []⟩ k ∨ X.ownBlock = some k → k = mb ∨ k = bb ∨ lo ≤ k := by
  have hT := below_one14 w8 (.cells #[X, .int .i64 0, .slice none 0 0] 127)
  have hS := below_one14 (w8.alloc (.cells #[X, .int .i64 0, .slice none 0 0] 127)) (.cells cs 130)
  have hz : (w8.alloc (.cells #[X, .int .i64 0, .slice none 0 0] 127)).heap.size = w8.heap.size + 1 := by simp
  have hB9 : Below w8.heap.size w8 W9 := by rw [hW9]; exact hT.trans (hS.mono hT.size)
  have hbb : But (OneBlock (w8.heap.size + 1)) w8 W' := (But.of_below hB9).trans hb
  have ht9 : W9.heap[w8.heap.size]? = some (.cells #[X, .int .i64 0, .slice none 0 0] 127 (0, 0)) := by
    rw [hW9]
    exact (hS.block _ (by rw [hz]; omega)).trans (heap_alloc_new w8 _)
  have hno : ∀ k, k ≤ w8.heap.size → ¬ OneBlock (w8.heap.size + 1) k := fun k hk e => by have e' : k = w8.heap.size + 1 := e; omega
  have hBw : B ≤ w8.heap.size := by omega
  have hlt : ∀ g, X.ownBlock = some g → g < w8.heap.size := fun g hg => by
    obtain ⟨c', h2⟩ := hX.blk hg
    exact heap_lt h2
  refine ⟨RsAt.mk15 hx (hm.but hbb (hno _ (by omega)) (hno _ (by omega))) (hb.heap ht9 (hno _ (Nat.le_refl _))) ((hX.but' hbb (fun g hg => hno _ (Nat.le_of_lt (hlt g hg)))).base' (Nat.zero_le _)) (fun g hg => ?_) (hD.but hbb hBw (fun k hk => hno _ (by omega))) (hF.but hbb hBw (fun k hk => hno _ (by omega))) e ok, ?_⟩
  · have h2 := hX.low hg
    exact ⟨by omega, hlt g hg⟩
  · rintro k ((rfl | rfl | rfl | rfl | e | e) | e)
    · exact .inr (.inr (by omega))
    · exact .inl rfl
    · exact .inr (.inl rfl)
    · exact .inr (.inr h1)
    · simp [Value.ownBlock] at e
    · simp [Value.ownBlock] at e
    · exact .inr (.inr (hX.low e))
end
def RNewSp (B : Nat) (w : World) (m : ModV) (n : Int) (inp : List Int) (fuel : Int) (e : Ending) (W' : World) : Prop :=
  Below w.heap.size w W' ∧ ((newE15 m n fuel ≠ 0 ∧ e = .returned (.tuple #[.pointer none, .int .i64 (newE15 m n fuel)])) ∨
    (newE15 m n fuel = 0 ∧ ∃ rb p, e = .returned (.tuple #[.pointer (some ⟨rb, 0, none⟩), .int .i64 0]) ∧ RsAt B W' rb p (newS m n.toNat inp fuel) ∧ (∀ k, foot15 rb p k ∨ p.X.ownBlock = some k → w.heap.size ≤ k)))
set_option maxRecDepth 100000
set_option maxHeartbeats 16000000
theorem rNew15 {B : Nat} (DA FA IA : Option Addr) (dc fc ic : Nat) (data inp : List Int) (fs : List FunV) (w : World) (n fuel : Int) (hB : B ≤ w.heap.size) (hD : IsBytes w B (.slice DA data.length dc) data) (hF : IsFuns w B (.slice FA fs.length fc) fs) (hI : IsBytes w w.heap.size (.slice IA inp.length ic) inp) (hil : inp.length ≤ 1000000) (hcl : ∀ f ∈ fs, f.code.length ≤ 1000) (hn : InI n) :
    Calls Tryz.prog 16 #[.agg #[.slice DA data.length dc, .slice FA fs.length fc], .int .i64 n, .slice IA inp.length ic, .int .i64 fuel] w (RNewSp B w ⟨data, fs⟩ n inp fuel) := by
  have hdl := hD.2.1
  have hfl := hF.1
  have hinl := hI.2.1
  unfold maxLen at hdl hfl hinl
  obtain ⟨dn, hdn⟩ : ∃ dn, dn = data.length := ⟨_, rfl⟩
  obtain ⟨fn, hfn⟩ : ∃ fn, fn = fs.length := ⟨_, rfl⟩
  obtain ⟨jn, hjn⟩ : ∃ jn, jn = inp.length := ⟨_, rfl⟩
  rw [← hdn] at hD hdl ⊢
  rw [← hfn] at hF hfl ⊢
  rw [← hjn] at hI hinl hil ⊢
  have hA := below_one14 w (.cells #[.slice DA dn dc, .slice FA fn fc] 25)
  obtain ⟨W0, hW0⟩ : ∃ W0, W0 = w.alloc (.cells #[.slice DA dn dc, .slice FA fn fc] 25) := ⟨_, rfl⟩
  have hx0 : W0.heap[w.heap.size]? = some (.cells #[.slice DA dn dc, .slice FA fn fc] 25 (0, 0)) := by rw [hW0]; exact heap_alloc_new _ _
  rw [← hW0] at hA
  have HW := Lib.hid hW0
  have HA := Lib.hid hA
  have HX := Lib.hid hx0
  obtain ⟨x0, x1⟩ := cells2_14 hx0
  obtain ⟨m, hm⟩ : ∃ m : ModV, m = ⟨data, fs⟩ := ⟨_, rfl⟩
  have HC := Lib.hid (fun (W2 : World) (hb : Below w.heap.size w W2) => rcheck8_any _ _ data fs W2 ((hD.more hB).grow hb) ((hF.more hB).grow hb) hcl)
  rw [← hm] at HC ⊢
  have HDB := Lib.hid (fun (W2 : World) (hb : Below w.heap.size w W2) => hD.below hb hB)
  have HFB := Lib.hid (fun (W2 : World) (hb : Below w.heap.size w W2) => hF.below hb hB hB)
  have HIB := Lib.hid (fun (W2 : World) (hb : Below w.heap.size w W2) => hI.below hb (Nat.le_refl _))
  have HMM : Hid (m.data = data ∧ m.funcs = fs ∧ m.data.length = dn ∧ m.funcs.length = fn) := Lib.hid (by rw [hm]; exact ⟨rfl, rfl, hdn.symm, hfn.symm⟩)
  have HNI := Lib.hid hn
  have HB := Lib.hid hB
  obtain ⟨me, hme⟩ : ∃ me, me = m.err := ⟨_, rfl⟩
  rw [← hme] at HC
  have HME := Lib.hid hme
  have HJN := Lib.hid hjn
  clear hD hF hI hcl hA hx0 hW0 hm hdn hfn hn hB hme hjn
  by_cases h1 : me = 0
  · have hb1 : (me != 0) = false := by simpa using h1
    by_cases h2 : fuel < 0
    · have hb2 : decide (fuel < 0) = true := decide_eq_true h2
      have hE : newE15 m n fuel = 2 := by
        unfold newE15
        rw [if_pos]
        exact .inl h2
      have HE := Lib.hid hE
      clear hE
      go_enter Tryz.func16, Tryz.ntmps16
      go_wp2_with (first
        | (rw [← HW.out])
        | (go_at_call 60; (with_reducible refine (HC.out _ HA.out).mono ?_); rintro e w1 ⟨rfl, hb⟩; have HB1 := Lib.hid (HA.out.trans (hb.mono HA.out.size)); have HX1 := Lib.hid ((hb.block _ (heap_lt HX.out)).trans HX.out); obtain ⟨b0, b1⟩ := cells2_14 HX1.out; clear hb))
      go_ret2
      exact ⟨HB1.out, .inl ⟨by rw [HE.out]; decide, by rw [HE.out]; rfl⟩⟩
    · have hb2 : decide (fuel < 0) = false := decide_eq_false h2
      by_cases h3 : 10000000 < fuel
      · have hb3 : decide (10000000 < fuel) = true := decide_eq_true h3
        have hE : newE15 m n fuel = 2 := by
          unfold newE15
          rw [if_pos]
          exact .inr (.inl h3)
        have HE := Lib.hid hE
        clear hE
        go_enter Tryz.func16, Tryz.ntmps16
        go_wp2_with (first
          | (rw [← HW.out])
          | (go_at_call 60; (with_reducible refine (HC.out _ HA.out).mono ?_); rintro e w1 ⟨rfl, hb⟩; have HB1 := Lib.hid (HA.out.trans (hb.mono HA.out.size)); have HX1 := Lib.hid ((hb.block _ (heap_lt HX.out)).trans HX.out); obtain ⟨b0, b1⟩ := cells2_14 HX1.out; clear hb))
        go_ret2
        exact ⟨HB1.out, .inl ⟨by rw [HE.out]; decide, by rw [HE.out]; rfl⟩⟩
      · have hb3 : decide (10000000 < fuel) = false := decide_eq_false h3
        by_cases h4 : n < 16
        · have hb4 : decide (n < 16) = true := decide_eq_true h4
          have hE : newE15 m n fuel = 2 := by
            unfold newE15
            rw [if_pos]
            exact .inr (.inr (.inl (by unfold sizeB; rw [decide_eq_false (by omega)]; rfl)))
          have HE := Lib.hid hE
          clear hE
          go_enter Tryz.func16, Tryz.ntmps16
          go_wp2_with (first
            | (rw [← HW.out])
            | (go_at_call 60; (with_reducible refine (HC.out _ HA.out).mono ?_); rintro e w1 ⟨rfl, hb⟩; have HB1 := Lib.hid (HA.out.trans (hb.mono HA.out.size)); have HX1 := Lib.hid ((hb.block _ (heap_lt HX.out)).trans HX.out); obtain ⟨b0, b1⟩ := cells2_14 HX1.out; clear hb))
          go_ret2
          exact ⟨HB1.out, .inl ⟨by rw [HE.out]; decide, by rw [HE.out]; rfl⟩⟩
        · have hb4 : decide (n < 16) = false := decide_eq_false h4
          by_cases h5 : 65536 < n
          · have hb5 : decide (65536 < n) = true := decide_eq_true h5
            have hE : newE15 m n fuel = 2 := by
              unfold newE15
              rw [if_pos]
              exact .inr (.inr (.inl (by unfold sizeB; rw [decide_eq_false (show ¬ n ≤ 65536 by omega)]; simp)))
            have HE := Lib.hid hE
            clear hE
            go_enter Tryz.func16, Tryz.ntmps16
            go_wp2_with (first
              | (rw [← HW.out])
              | (go_at_call 60; (with_reducible refine (HC.out _ HA.out).mono ?_); rintro e w1 ⟨rfl, hb⟩; have HB1 := Lib.hid (HA.out.trans (hb.mono HA.out.size)); have HX1 := Lib.hid ((hb.block _ (heap_lt HX.out)).trans HX.out); obtain ⟨b0, b1⟩ := cells2_14 HX1.out; clear hb))
            go_ret2
            exact ⟨HB1.out, .inl ⟨by rw [HE.out]; decide, by rw [HE.out]; rfl⟩⟩
          · have hb5 : decide (65536 < n) = false := decide_eq_false h5
            have hrem : n.tmod 16 = n % 16 := Int.tmod_eq_emod_of_nonneg (by omega)
            obtain ⟨q, hq⟩ : ∃ q, q = n % 16 := ⟨_, rfl⟩
            rw [← hq] at hrem
            by_cases h6 : q = 0
            · have hb6 : (q != 0) = false := by simpa using h6
              obtain ⟨N, rfl⟩ : ∃ N : Nat, n = N := ⟨n.toNat, by omega⟩
              have hm0 : m.err = 0 := by rw [← HME.out]; exact h1
              have hdl8 : dn ≤ 8192 := by have hz := (err_funs hm0).1; rw [HMM.out.2.2.1] at hz; exact hz
              have hfn0 : 0 < fn := by have hz := (err_funs hm0).2.1; rw [HMM.out.2.2.2] at hz; omega
              have hflo := flo_bd hm0
              have HFL := Lib.hid (fun w => rfloor_any (dn : Int) w (by omega) (by omega))
              have e1 : floorV (dn : Int) = floV m := by unfold floV; rw [HMM.out.2.2.1]
              have e2 : floorE (dn : Int) = 0 := by unfold floorE; rw [if_pos (by omega)]
              rw [e1, e2] at HFL
              have hcv : IntKind.u64.wrap (N : Int) = (N : Int) := IntWalk.u64_in _ (by omega)
              obtain ⟨fl, hfl⟩ : ∃ fl, fl = floV m := ⟨_, rfl⟩
              have HFV := Lib.hid hfl
              rw [← hfl] at HFL hflo
              have HFE := Lib.hid e1
              clear e1 e2
              have hnn : ¬ (fuel < 0 ∨ 10000000 < fuel ∨ sizeB (N : Int) = false ∨ m.err ≠ 0) := by
                simp only [not_or]
                exact ⟨h2, h3, by unfold sizeB; simp; omega, by simpa using hm0⟩
              by_cases h7 : (N : Int) < fl
              · have hb7 : decide ((N : Int) < fl) = true := decide_eq_true h7
                have hE : newE15 m N fuel = 8 := by
                  unfold newE15
                  rw [if_neg hnn, if_pos (by rw [← hfl]; exact h7)]
                have HE := Lib.hid hE
                clear hE hnn hfl hm0
                go_enter Tryz.func16, Tryz.ntmps16
                go_wp2_with (first
                  | (go_at_call 61; (with_reducible refine (HFL.out _).mono ?_); rintro e w' ⟨rfl, rfl⟩)
                  | (rw [← HW.out])
                  | (go_at_call 60; (with_reducible refine (HC.out _ HA.out).mono ?_); rintro e w1 ⟨rfl, hb⟩; have HB1 := Lib.hid (HA.out.trans (hb.mono HA.out.size)); have HX1 := Lib.hid ((hb.block _ (heap_lt HX.out)).trans HX.out); obtain ⟨b0, b1⟩ := cells2_14 HX1.out; clear hb))
                go_ret2
                exact ⟨HB1.out, .inl ⟨by rw [HE.out]; decide, by rw [HE.out]; rfl⟩⟩
              · have hb7 : decide ((N : Int) < fl) = false := decide_eq_false h7
                have hE : newE15 m N fuel = 0 := by
                  unfold newE15
                  rw [if_neg hnn, if_neg (by rw [← hfl]; exact h7)]
                have HE := Lib.hid hE
                have hok : (newS m N inp fuel).ok := newS_ok hE (HIB.out w (Below.refl _ _)).1
                have HOK := Lib.hid hok
                obtain ⟨fb, fo, fc', hfe, hfc, hfb, hrow⟩ := (HFB.out w (Below.refl _ _)).plain (show 0 < fs.length by rw [← HMM.out.2.1, HMM.out.2.2.2]; exact hfn0)
                injection hfe with hfe1 hfe2 hfe3
                subst hfe1 hfe3
                have HR : Hid (∀ W, Below w.heap.size w W → W.cell? ⟨fb, fo, none⟩ = some (.int .i64 (fnV m 0).params) ∧ W.cell? ⟨fb, fo + 1, none⟩ = some (.int .i64 (fnV m 0).regs) ∧ W.cell? ⟨fb, fo + 2, none⟩ = some (.int .i64 (fnV m 0).area)) := Lib.hid (fun W hb => by
                  obtain ⟨C, _, hc⟩ := hrow 0 (by rw [← HMM.out.2.1, HMM.out.2.2.2]; exact hfn0)
                  have hfw : fb < w.heap.size := Nat.lt_of_lt_of_le hfb HB.out
                  have hff : fnV m 0 = fs.getD 0 .zero := by unfold fnV; rw [HMM.out.2.1]
                  rw [hff]
                  exact ⟨by rw [hb.cell (p := ⟨fb, fo, none⟩) hfw]; exact hc 0 (by decide), by rw [hb.cell (p := ⟨fb, fo + 1, none⟩) hfw]; exact hc 1 (by decide), by rw [hb.cell (p := ⟨fb, fo + 2, none⟩) hfw]; exact hc 2 (by decide)⟩)
                have hfin := err_fn hm0 (f := 0) (by rw [HMM.out.2.2.2]; exact hfn0)
                have HFI := Lib.hid hfin
                have HPU := Lib.hid (fun w => rpush_any (N : Int) (fnV m 0).regs (fnV m 0).area fl w (by omega) (by omega) (by omega) (by omega) (by omega) (by omega) (by omega) (by omega))
                have HNW := Lib.hid (fun W => rnew_yes N W (by omega) (by omega))
                have HNB := Lib.hid (show 16 ≤ N ∧ N ≤ 65536 by omega)
                have hfnI : (0 : Int) < (fn : Int) := by omega
                obtain ⟨pa, hpa⟩ : ∃ pa, pa = (fnV m 0).params := ⟨_, rfl⟩
                obtain ⟨rg, hrg⟩ : ∃ rg, rg = (fnV m 0).regs := ⟨_, rfl⟩
                obtain ⟨ar, har⟩ : ∃ ar, ar = (fnV m 0).area := ⟨_, rfl⟩
                rw [← hpa, ← hrg, ← har] at HR
                rw [← hrg, ← har] at HPU
                have HPA := Lib.hid hpa
                have HPRG := Lib.hid (And.intro hrg har)
                clear hE hnn hfl hm0 hok hfe2 hfc hfb hrow hfin hpa hrg har
                go_enter Tryz.func16, Tryz.ntmps16
                go_upto_region 8 with (first
                  | (go_at_call 61; (with_reducible refine (HFL.out _).mono ?_); rintro e w' ⟨rfl, rfl⟩)
                  | (go_at_call 62; (with_reducible refine (HNW.out _).mono ?_); rintro e w3 ⟨mb, bb, mc, rfl, hr, hmb, hbb, hb⟩; have HR3 := Lib.hid hr; have HX3 := Lib.hid ((hb.block _ (heap_lt HX1.out)).trans HX1.out); have HB3 := Lib.hid (HB1.out.trans (hb.mono HB1.out.size)); have HMB := Lib.hid (And.intro (Nat.le_trans HB1.out.size hmb) (Nat.le_trans HB1.out.size hbb)); have HMB2 := Lib.hid (And.intro (Nat.lt_of_lt_of_le (heap_lt HX1.out) hmb) (Nat.lt_of_lt_of_le (heap_lt HX1.out) hbb)); obtain ⟨d0, d1⟩ := cells2_14 HX3.out; clear hr hmb hbb hb)
                  | (go_at_call 63; (with_reducible refine (rlay_any HR3.out 16 (HDB.out _ HB3.out) (Nat.le_trans HB.out HB3.out.size) (Nat.le_trans HB.out HMB.out.2) (by decide) (by decide)).mono ?_); rintro e w4 ⟨rfl, hm, hb⟩; have HM4 := Lib.hid hm; have HX4 := Lib.hid (hb.heap HX3.out (fun e => by have e' : w.heap.size = bb := e; subst e'; obtain ⟨cur, hc, _⟩ := HR3.out.row; exact types14 hc HX3.out (by decide))); have HB4 := Lib.hid (hb.below HB3.out HB3.out.size (fun k hk => by have e' : k = bb := hk; rw [e']; exact HMB.out.2)); obtain ⟨f0, f1⟩ := cells2_14 HX4.out; clear hm hb)
                  | (rw [← HW.out])
                  | (go_at_call 60; (with_reducible refine (HC.out _ HA.out).mono ?_); rintro e w1 ⟨rfl, hb⟩; have HB1 := Lib.hid (HA.out.trans (hb.mono HA.out.size)); have HX1 := Lib.hid ((hb.block _ (heap_lt HX.out)).trans HX.out); obtain ⟨b0, b1⟩ := cells2_14 HX1.out; clear hb))
                have HI4 := Lib.hid (show IsBytes w4.drew w4.drew.heap.size (.slice IA jn ic) inp from (HIB.out _ (HB4.out.trans ((Below.refl _ _).drew))).more HB4.out.size)
                obtain ⟨a0, a1⟩ := cells2_14 (((below_one14 w4 (.cells #[] 5)).block _ (heap_lt HX4.out)).trans HX4.out)
                go_cut [14] from 62 to 74 (fun v14 wx => ∃ (w8 : World) (vA : Option Addr) (vc : Nat), v14 = .pointer (some ⟨w8.heap.size + 1, 0, none⟩) ∧ Hid (wx = (w8.alloc (.cells #[.slice vA jn vc, .int .i64 0, .slice none 0 0] 127)).alloc (.cells #[.slice DA dn dc, .slice (some ⟨fb, fo, none⟩) fn fc, .pointer (some ⟨mb, 0, none⟩), .pointer (some ⟨w8.heap.size, 0, none⟩), .int .i64 fuel, .int .i64 0, .int .u64 N, .int .i64 0, .slice none 0 0, .int .i64 0, .int .i64 0] 130)) ∧ Hid (OwnB w4.heap.size w8 (.slice vA jn vc) inp) ∧ Hid (Below w4.heap.size w4 w8))
                case first =>
                  go_region_law ((refine step_rbytes15 (W := w4.drew) (X := .slice IA jn ic) (xs := inp) rfl (.tmp 64) (.tmp 65) rfl rfl rfl rfl HI4.out (Nat.le_refl _) (by rw [← HJN.out]; exact hil) ?_; intro V8 w8 ho8 hb8; obtain ⟨vA, vc, hve⟩ := ho8.len; rw [← HJN.out] at hve; subst hve; have O8 := Lib.hid ho8; have B8 := Lib.hid (show Below w4.heap.size w4 w8 from (Below.refl w4.heap.size w4).drew.trans hb8); have hx8 := (B8.out.block _ (heap_lt HX4.out)).trans HX4.out; obtain ⟨m0, m1⟩ := cells2_14 hx8; obtain ⟨m2, m3⟩ := cells2_14 (((below_one14 w8 (.cells #[.slice vA jn vc, .int .i64 0, .slice none 0 0] 127)).block _ (heap_lt hx8)).trans hx8); clear ho8 hb8 hx8))
                  all_goals
                    go_wp2
                    go_meet
                    case rel => exact ⟨w8, vA, vc, by simp, Lib.hid rfl, O8, B8⟩
                case rest =>
                  obtain ⟨w8, vA, vc, hv, HWC, O8, B8⟩ := hcut
                  have hz8 : (w8.alloc (.cells #[.slice vA jn vc, .int .i64 0, .slice none 0 0] 127)).heap.size = w8.heap.size + 1 := by simp
                  have hxc : wc.heap[w8.heap.size + 1]? = some (.cells #[.slice DA dn dc, .slice (some ⟨fb, fo, none⟩) fn fc, .pointer (some ⟨mb, 0, none⟩), .pointer (some ⟨w8.heap.size, 0, none⟩), .int .i64 fuel, .int .i64 0, .int .u64 N, .int .i64 0, .slice none 0 0, .int .i64 0, .int .i64 0] 130 (0, 0)) := by
                    rw [HWC.out, ← hz8]
                    exact heap_alloc_new _ _
                  have hbc : Below w8.heap.size w8 wc := by
                    rw [HWC.out]
                    have hT := below_one14 w8 (.cells #[.slice vA jn vc, .int .i64 0, .slice none 0 0] 127)
                    exact hT.trans ((below_one14 _ _).mono hT.size)
                  subst hv
                  have HXC := Lib.hid hxc
                  have HBC := Lib.hid hbc
                  have HB8 := Lib.hid (HB4.out.trans (B8.out.mono HB4.out.size))
                  have HBW := Lib.hid (HB8.out.trans (hbc.mono HB8.out.size))
                  have HR8 := Lib.hid (HM4.out.below B8.out)
                  have HLO := Lib.hid (show mb < w4.heap.size ∧ bb < w4.heap.size from ⟨heap_lt HM4.out.head, by obtain ⟨cur, hc, _⟩ := HM4.out.row; exact heap_lt hc⟩)
                  obtain ⟨⟨g0, g1, g2, g3, g4, g5⟩, g6, g7, g8, g9, g10⟩ := cells11r hxc
                  have hyc := ((B8.out.trans (hbc.mono B8.out.size)).block _ (heap_lt HX4.out)).trans HX4.out
                  have HYC := Lib.hid hyc
                  obtain ⟨y0, y1⟩ := cells2_14 hyc
                  obtain ⟨p0, p1, p2⟩ := HR.out wc HBW.out
                  obtain ⟨rb, hrb⟩ : ∃ rb, rb = w8.heap.size + 1 := ⟨_, rfl⟩
                  rw [← hrb] at HXC g0 g1 g2 g3 g4 g5 g6 g7 g8 g9 g10 ⊢
                  have HRB := Lib.hid hrb
                  clear hbc hxc hyc hz8 a0 a1 f0 f1 hrb d0 d1 b0 b1 x0 x1
                  go_upto_region 9 with fail
                  go_quiet ((go_at_call 64; with_reducible exact quiet_left (HPU.out _)))
                  obtain ⟨W5, hW5⟩ : ∃ W5, W5 = wc.drewN nq := ⟨_, rfl⟩
                  have HX5 := Lib.hid (((below_drewN14 hW5).block _ (heap_lt HXC.out)).trans HXC.out)
                  have HY5 := Lib.hid (((below_drewN14 hW5).block _ (heap_lt HYC.out)).trans HYC.out)
                  have HB5 := Lib.hid (HBW.out.trans ((below_drewN14 hW5).mono HBW.out.size))
                  have HU5 := Lib.hid (But.of_below (R := OneBlock (w8.heap.size + 1)) (below_drewN14 hW5))
                  rw [← hW5]
                  clear hW5 g0 g1 g2 g3 g4 g5 g6 g7 g8 g9 g10 y0 y1 p0 p1 p2
                  obtain ⟨pe, hpe⟩ : ∃ pe, pe = pushE N rg ar fl := ⟨_, rfl⟩
                  obtain ⟨y, hy⟩ : ∃ y, y = pushV N rg ar fl := ⟨_, rfl⟩
                  rw [← hpe, ← hy]
                  have hne : (new0 m N inp fuel).newE 0 = pe := by
                    rw [hpe, HFV.out, HPRG.out.1, HPRG.out.2]
                    rfl
                  have hna : (new0 m N inp fuel).newAt 0 = y := by
                    rw [hy, HFV.out, HPRG.out.1, HPRG.out.2]
                    rfl
                  have HPE := Lib.hid (And.intro hne hna)
                  have HRW : Hid (B ≤ mb ∧ B ≤ bb) := Lib.hid ⟨Nat.le_trans HB.out HMB.out.1, Nat.le_trans HB.out HMB.out.2⟩
                  have HD8 := Lib.hid (HDB.out _ HB8.out)
                  have HF8 := Lib.hid (HFB.out _ HB8.out)
                  obtain ⟨⟨g0, g1, g2, g3, g4, g5⟩, g6, g7, g8, g9, g10⟩ := cells11r HX5.out
                  have z6 := frozen_of_row W5 rb 6 _ _ HX5.out
                  have z9 := frozen_of_row W5 rb 9 _ _ HX5.out
                  clear hpe hy hne hna
                  have HMK := Lib.hid (fun (S : SpV) (W' : World) (hm : RefAt w8 mb bb mc S.mem) (hX : OwnB w4.heap.size w8 (.slice vA jn vc) S.inp) (hD : IsBytes w8 B (.slice DA dn dc) S.m.data) (hF : IsFuns w8 B (.slice (some ⟨fb, fo, none⟩) fn fc) S.m.funcs) => rs_new15 (lo := w4.heap.size) (mb := mb) (W' := W') (S := S) hm hX HLO.out B8.out.size HRW.out hD hF HWC.out)
                  by_cases hp0 : pe = 0
                  · have hpb : (pe != 0) = false := by simpa using hp0
                    subst hp0
                    obtain ⟨P, rfl⟩ : ∃ P : Nat, pa = P := ⟨pa.toNat, by have h1 := HFI.out; have h2 := HPA.out; omega⟩
                    have hP8 : P ≤ 8 := by have h1 := HFI.out; have h2 := HPA.out; omega
                    have hS : newS m N inp fuel = { new0 m N inp fuel with at_ := y } := by unfold newS; rw [if_pos HPE.out.1, HPE.out.2]
                    have hok := HOK.out
                    have hset : ∀ i : Nat, i < P → (newS m N inp fuel).setS i 0 = newS m N inp fuel := fun i hi => new_set15 HE.out HPE.out.1 i (by rw [← HPA.out]; omega)
                    have hq : ∃ p, RsAt B (W5.setCell ⟨rb, 6, none⟩ (.int .u64 y)) rb p (newS m N inp fuel) ∧ ∀ k, foot15 rb p k ∨ p.X.ownBlock = some k → w.heap.size < k := by
                      rw [hS] at hok ⊢
                      rw [← HMM.out.1] at HM4 HR8 HD8
                      rw [← HMM.out.2.1] at HF8
                      have hk := HMK.out { new0 m N inp fuel with at_ := y } _ HR8.out O8.out HD8.out HF8.out (HU5.out.setCell (p := ⟨rb, 6, none⟩) (.inl HRB.out) (.int .u64 y)) (by rw [← HRB.out]; exact heap_setCell_same _ rb 6 _ _ _ HX5.out) ⟨rfl, rfl, rfl⟩ hok
                      rw [← HRB.out] at hk
                      refine ⟨_, hk.1, fun k hkk => ?_⟩
                      have h1 := HMB2.out
                      have h2 := heap_lt HX4.out
                      rcases hk.2 k hkk with e | e | e <;> omega
                    obtain ⟨T, hT⟩ : ∃ T, T = newS m N inp fuel := ⟨_, rfl⟩
                    have HT := Lib.hid hT
                    rw [← hT] at hq hset
                    have HQ := Lib.hid hq
                    have HSET := Lib.hid hset
                    have hrw : w.heap.size < rb := by rw [HRB.out]; have h1 := HB8.out.size; omega
                    have HB6 := Lib.hid (HB5.out.setCell (p := ⟨rb, 6, none⟩) (Nat.le_of_lt hrw) (.int .u64 y))
                    have HY6 := Lib.hid ((one_but15 W5 rb 6 (.int .u64 y)).heap HY5.out (fun e => by have e' : w.heap.size = rb := e; omega))
                    clear hS hok hset hq hT hrw
                    go_wp2
                    go_loopw [17] (fun v17 wr => ∃ (i : Nat) (p : Loc), v17 = .int .i64 i ∧ i ≤ P ∧ Hid (RsAt B wr rb p T) ∧ Hid (∀ k, foot15 rb p k ∨ p.X.ownBlock = some k → w.heap.size < k) ∧ Hid (Below w.heap.size w wr) ∧ Hid (wr.heap[w.heap.size]? = some (.cells #[.slice DA dn dc, .slice (some ⟨fb, fo, none⟩) fn fc] 25 (0, 0)))) (fun v17 _ => P - (intOf v17).toNat)
                    case atStart =>
                      obtain ⟨p, h1, h2⟩ := HQ.out
                      exact ⟨0, p, rfl, by omega, Lib.hid h1, Lib.hid h2, HB6, HY6⟩
                    case round =>
                      obtain ⟨i, p, rfl, hi, HRS, HFT, HBR, HYR⟩ := hrel
                      clear g0 g1 g2 g3 g4 g5 g6 g7 g8 g9 g10 z6 z9 HB6 HY6 HQ
                      obtain ⟨y0, y1⟩ := cells2_14 HYR.out
                      obtain ⟨p0, p1, p2⟩ := HR.out wr HBR.out
                      by_cases hlt : i < P
                      · have hb4 : B ≤ wr.heap.size := Nat.le_trans HB.out HBR.out.size
                        have hst := rSet15 HRS.out hb4 (fun k hk => Nat.le_trans HB.out (Nat.le_of_lt (HFT.out k (.inl hk)))) (i : Int) 0 (by unfold InI; have h1 := HFI.out; have h2 := HPA.out; omega) (by decide) (by decide)
                        rw [HSET.out i hlt] at hst
                        have HST := Lib.hid hst
                        have i1 : (i : Int) < (P : Int) := by omega
                        clear hb4 hst
                        go_wp2_with (go_at_call 65; (with_reducible refine HST.out.mono ?_); rintro e w6 ⟨rfl, p5, hm⟩; have HM6 := Lib.hid hm; clear hm)
                        go_roundw
                        case rel => exact ⟨i + 1, p5, by go_num, by omega, Lib.hid HM6.out.at', Lib.hid (fun k hk => by
                          have h1 := heap_lt HYR.out
                          rcases hk with hk | hk
                          · rcases HM6.out.foot k hk with e | e
                            · exact HFT.out k (.inl e)
                            · omega
                          · rcases HM6.out.ro k hk with e | e
                            · exact HFT.out k (.inr e)
                            · omega), Lib.hid (HM6.out.but.below HBR.out HBR.out.size (fun k hk => Nat.le_of_lt (HFT.out k (.inl hk)))), Lib.hid (HM6.out.but.heap HYR.out (fun e => by have h1 := HFT.out _ (.inl e); omega))⟩
                        case measure => simp [intOf]; omega
                      · obtain rfl : P = i := by omega
                        have i1 : ¬ (P : Int) < (P : Int) := by omega
                        go_wp2
                        go_ret2
                        exact ⟨HBR.out, .inr ⟨HE.out, rb, p, rfl, by rw [Int.toNat_natCast, ← HT.out]; exact HRS.out, fun k hk => Nat.le_of_lt (HFT.out k hk)⟩⟩
                  · have hpb : (pe != 0) = true := by simpa using hp0
                    have hS : newS m N inp fuel = { new0 m N inp fuel with ek := 3 } := by unfold newS; rw [if_neg (by rw [HPE.out.1]; exact hp0)]
                    have HS := Lib.hid hS
                    clear hp0 hS
                    go_wp2
                    go_ret2
                    refine ⟨(HB5.out.setCell (p := ⟨rb, 9, none⟩) (by show w.heap.size ≤ rb; rw [HRB.out]; have := HB8.out.size; omega) _), .inr ⟨HE.out, rb, ?_⟩⟩
                    have hok := HOK.out
                    rw [Int.toNat_natCast]
                    rw [HS.out] at hok ⊢
                    rw [← HMM.out.1] at HM4 HR8 HD8
                    rw [← HMM.out.2.1] at HF8
                    have hk := HMK.out { new0 m N inp fuel with ek := 3 } _ HR8.out O8.out HD8.out HF8.out (HU5.out.setCell (p := ⟨rb, 9, none⟩) (.inl HRB.out) (.int .i64 3)) (by rw [← HRB.out]; exact heap_setCell_same _ rb 9 _ _ _ HX5.out) ⟨rfl, rfl, rfl⟩ hok
                    rw [← HRB.out] at hk
                    refine ⟨_, rfl, hk.1, fun k hkk => ?_⟩
                    have h1 := HMB.out
                    have h2 := HB4.out.size
                    rcases hk.2 k hkk with e | e | e <;> omega
            · have hb6 : (q != 0) = true := by simpa using h6
              have hE : newE15 m n fuel = 2 := by
                unfold newE15
                rw [if_pos]
                exact .inr (.inr (.inl (by unfold sizeB; rw [decide_eq_false (show ¬ n % 16 = 0 by omega)]; simp)))
              have HE := Lib.hid hE
              clear hE
              go_enter Tryz.func16, Tryz.ntmps16
              go_wp2_with (first
                | (rw [← HW.out])
                | (go_at_call 60; (with_reducible refine (HC.out _ HA.out).mono ?_); rintro e w1 ⟨rfl, hb⟩; have HB1 := Lib.hid (HA.out.trans (hb.mono HA.out.size)); have HX1 := Lib.hid ((hb.block _ (heap_lt HX.out)).trans HX.out); obtain ⟨b0, b1⟩ := cells2_14 HX1.out; clear hb))
              go_ret2
              exact ⟨HB1.out, .inl ⟨by rw [HE.out]; decide, by rw [HE.out]; rfl⟩⟩
  · have hb1 : (me != 0) = true := by simpa using h1
    have hE : newE15 m n fuel = 2 := by
      unfold newE15
      rw [if_pos]
      exact .inr (.inr (.inr (by rw [← HME.out]; exact h1)))
    have HE := Lib.hid hE
    clear hE
    go_enter Tryz.func16, Tryz.ntmps16
    go_wp2_with (first
      | (rw [← HW.out])
      | (go_at_call 60; (with_reducible refine (HC.out _ HA.out).mono ?_); rintro e w1 ⟨rfl, hb⟩; have HB1 := Lib.hid (HA.out.trans (hb.mono HA.out.size)); have HX1 := Lib.hid ((hb.block _ (heap_lt HX.out)).trans HX.out); obtain ⟨b0, b1⟩ := cells2_14 HX1.out; clear hb))
    go_ret2
    exact ⟨HB1.out, .inl ⟨by rw [HE.out]; decide, by rw [HE.out]; rfl⟩⟩
end Go.Proofs.YtkfdgpgildanbaaGreat
