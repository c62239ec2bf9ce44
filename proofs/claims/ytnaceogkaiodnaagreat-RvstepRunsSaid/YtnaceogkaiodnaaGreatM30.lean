/- How a landed machine and the document's begin side by side: begun of the statements of layer 4: contracts in whatever memory of the program. -/
import Derived.Test.YtnaceogkaiodnaaGreatM14
import Derived.Test.YtnaceogkaiodnaaGreatM28
import Derived.Test.YtnaceogkaiodnaaGreatM29
import Derived.Deep.RegionHeld3
namespace Go.Proofs.YtnaceogkaiodnaaGreat
open Go.RowKit
set_option linter.unusedVariables false

set_option maxHeartbeats 2000000 in
set_option maxRecDepth 100000 in
theorem overWords_but (v : Value) (n base : Nat) (xs : List Value) (w : World) (h : Owns w base 74 1 (IsNum .u32) v n xs) :
    Calls Tryz.prog 33 #[v] w fun e w' => e = .returned (.tuple #[]) ∧ But (CodeIn v) w w' := by
  rcases h.1.2 with ⟨rfl, _⟩ | ⟨g, cap, cur, rfl, h1, h2, h3, h4, h5, _⟩
  · clear h
    go_enter Tryz.func33, Tryz.ntmps33
    go_wp2
    go_loopw [3] (fun i wr => i = .int .i64 0 ∧ wr = w) (fun _ _ => 0)
    case atStart => exact ⟨rfl, rfl⟩
    case round =>
      obtain ⟨rfl, rfl⟩ := hrel
      go_wp2
      go_end0
      exact ⟨rfl, But.refl _ _⟩
  · have hF : FullW w g cap := ⟨cur, h2, by simpa using h5, h.2 g cur _ _ (by simp [Value.ownBlock]) h2⟩
    have HF := Lib.hid hF
    have HC := Lib.hid (show CodeIn (.slice (some ⟨g, 0, none⟩) n cap) g from ⟨_, _, _, rfl⟩)
    unfold maxLen at h4
    clear h h2 h5 hF
    go_enter Tryz.func33, Tryz.ntmps33
    go_wp2
    go_loopw [3] (fun i wr => ∃ k : Nat, k ≤ cap ∧ i = .int .i64 k ∧ FullW wr g cap ∧ Hid (But (CodeIn (.slice (some ⟨g, 0, none⟩) n cap)) w wr)) (fun i _ => cap - (intOf i).toNat)
    case atStart => exact ⟨0, by omega, rfl, HF.out, But.refl _ _⟩
    case round =>
      obtain ⟨k, hk, rfl, hf, HB⟩ := hrel
      have HF2 := Lib.hid hf
      clear hf
      by_cases hlt : k < cap
      · obtain ⟨y, hcell, hfro⟩ := HF2.out.cell hlt
        go_wp2
        go_roundw
        case rel => exact ⟨k + 1, by omega, by go_num, HF2.out.set k ⟨_, rfl⟩, HB.out.setCell (p := ⟨g, _, none⟩) (.inl HC.out) _⟩
        case measure => simp [intOf]; omega
      · go_wp2
        go_end0
        exact ⟨rfl, HB.out⟩
/-- Five cells. -/
structure BoxV (w : World) (b : Nat) (v0 v1 v2 v3 v4 : Value) : Prop where
  c0 : w.cell? ⟨b, 0, none⟩ = some v0
  c1 : w.cell? ⟨b, 1, none⟩ = some v1
  c2 : w.cell? ⟨b, 2, none⟩ = some v2
  c3 : w.cell? ⟨b, 3, none⟩ = some v3
  c4 : w.cell? ⟨b, 4, none⟩ = some v4
theorem BoxV.new (w : World) (t : TypeId) (v0 v1 v2 v3 v4 : Value) : BoxV (w.alloc (.cells #[v0, v1, v2, v3, v4] t)) w.heap.size v0 v1 v2 v3 v4 :=
  ⟨new_cell w #[v0, v1, v2, v3, v4] t w.heap.size 0 _ rfl rfl, new_cell w #[v0, v1, v2, v3, v4] t w.heap.size 1 _ rfl rfl, new_cell w #[v0, v1, v2, v3, v4] t w.heap.size 2 _ rfl rfl, new_cell w #[v0, v1, v2, v3, v4] t w.heap.size 3 _ rfl rfl, new_cell w #[v0, v1, v2, v3, v4] t w.heap.size 4 _ rfl rfl⟩
theorem BoxV.but {w w' : World} {b : Nat} {v0 v1 v2 v3 v4 : Value} {R : Nat → Prop} (h : BoxV w b v0 v1 v2 v3 v4) (hl : b < w.heap.size) (hb : But R w w') (hr : ¬ R b) : BoxV w' b v0 v1 v2 v3 v4 :=
  ⟨(hb.cell (p := ⟨b, 0, none⟩) hl hr).trans h.c0, (hb.cell (p := ⟨b, 1, none⟩) hl hr).trans h.c1, (hb.cell (p := ⟨b, 2, none⟩) hl hr).trans h.c2, (hb.cell (p := ⟨b, 3, none⟩) hl hr).trans h.c3, (hb.cell (p := ⟨b, 4, none⟩) hl hr).trans h.c4⟩
theorem BoxV.below {w w' : World} {b : Nat} {v0 v1 v2 v3 v4 : Value} (h : BoxV w b v0 v1 v2 v3 v4) (hl : b < w.heap.size) (hb : Below w.heap.size w w') : BoxV w' b v0 v1 v2 v3 v4 := h.but hl (But.of_below (R := NoBlock) hb) (noBlock_not _)
def BegunDone (w : World) (S : StartV) (e : Ending) (w' : World) : Prop :=
  ∃ pb xb mb bb c eb V rx rm rb rc U, e = .returned (.tuple #[.pointer (some ⟨pb, 0, none⟩), .bool true]) ∧ PairAt w w' pb xb mb bb c eb V rx rm rb rc U S.code (beginV S) (beginV S)
theorem begun_end {w w2 w3 wx w9 : World} {S : StartV} {xb mb bb c eb rx rm rb rc m : Nat} {V U v : Value} (hn : NewMach w2 w3 xb mb bb c eb V S.code (beginV S)) (he : w2.heap.size ≤ eb) (hc : ∀ k, CodeIn V k → k < w3.heap.size) (hr : RMach wx rx rm rb rc U S.code (beginV S)) (hx : Below w3.heap.size w3 wx) (h2 : Below w.heap.size w w2) (hs2 : w.heap.size < w2.heap.size)
    (hv : ∀ k, CodeIn v k → w.heap.size ≤ k ∧ k < w2.heap.size) (q1 : w3.heap.size ≤ rm) (q2 : w3.heap.size ≤ rb) (q3 : w3.heap.size ≤ rx) (hU : ∀ k, CodeIn U k → w3.heap.size ≤ k) (hb9 : But (CodeIn v) (wx.drewN m) w9) :
    BegunDone w S (.returned (.tuple #[.pointer (some ⟨w9.heap.size, 0, none⟩), .bool true])) (w9.alloc (.cells #[.pointer (some ⟨xb, 0, none⟩), .pointer (some ⟨rx, 0, none⟩), .pointer (some ⟨mb, 0, none⟩), .pointer (some ⟨rm, 0, none⟩)] 39)) := by
  have lx := hn.1.lt
  have lr := hr.lt
  have s3 := hn.2.2.2.2.2.size
  have sx := hx.size
  have s9 : wx.heap.size ≤ w9.heap.size := hb9.size
  have g1 := hn.2.1
  have g2 := hn.2.2.1
  have g3 := hn.2.2.2.1
  have nv : ∀ k, w2.heap.size ≤ k → ¬ CodeIn v k := fun k hk h => by have := (hv k h).2; omega
  have hX : ∀ k, XBlk xb bb V k → w2.heap.size ≤ k ∧ k < w3.heap.size := fun k hk => by
    rcases hk with rfl | rfl | hk
    · exact ⟨g1, lx.1⟩
    · exact ⟨g3, lx.2.2.1⟩
    · exact ⟨hn.2.2.2.2.1 k hk, hc k hk⟩
  have hM : Mach w9 xb mb bb c eb V S.code (beginV S) := ((hn.1.below hx).drewN m).but hb9 (nv _ g1) (nv _ g2) (nv _ g3) (nv _ he) fun _ k hk => nv k (hn.2.2.2.2.1 k hk)
  have hR : RMach w9 rx rm rb rc U S.code (beginV S) := (hr.drewN m).but hb9 (nv _ (by omega)) (nv _ (by omega)) (nv _ (by omega)) fun _ k hk => nv k (by have := hU k hk; omega)
  have hB : Below w.heap.size w w9 := But.below (below_drewN ((h2.trans (hn.2.2.2.2.2.mono h2.size)).trans (hx.mono (by omega))) m) hb9 (by show w.heap.size ≤ wx.heap.size; omega) fun k hk => (hv k hk).1
  refine ⟨w9.heap.size, xb, mb, bb, c, eb, V, rx, rm, rb, rc, U, rfl, ⟨by simp, new_cell w9 #[.pointer (some ⟨xb, 0, none⟩), .pointer (some ⟨rx, 0, none⟩), .pointer (some ⟨mb, 0, none⟩), .pointer (some ⟨rm, 0, none⟩)] 39 w9.heap.size 0 _ rfl rfl, new_cell w9 #[.pointer (some ⟨xb, 0, none⟩), .pointer (some ⟨rx, 0, none⟩), .pointer (some ⟨mb, 0, none⟩), .pointer (some ⟨rm, 0, none⟩)] 39 w9.heap.size 1 _ rfl rfl, new_cell w9 #[.pointer (some ⟨xb, 0, none⟩), .pointer (some ⟨rx, 0, none⟩), .pointer (some ⟨mb, 0, none⟩), .pointer (some ⟨rm, 0, none⟩)] 39 w9.heap.size 2 _ rfl rfl, new_cell w9 #[.pointer (some ⟨xb, 0, none⟩), .pointer (some ⟨rx, 0, none⟩), .pointer (some ⟨mb, 0, none⟩), .pointer (some ⟨rm, 0, none⟩)] 39 w9.heap.size 3 _ rfl rfl, hM.alloc _, hR.alloc _, ?_, ?_, fun k hk => by have := (hX k hk).1; omega, fun k hk => by rcases hk with rfl | rfl <;> omega, hB.alloc (by omega) _⟩⟩
  · intro k hk hq
    have := hX k hk
    rcases hq with rfl | rfl | rfl | rfl | hq
    · omega
    · omega
    · omega
    · omega
    · have := hU k hq
      omega
  · intro k hk hq
    have hk2 : w3.heap.size ≤ k ∧ k < wx.heap.size := by rcases hk with rfl | rfl <;> omega
    rcases hq with rfl | rfl | rfl | rfl | rfl | hq
    · omega
    · omega
    · omega
    · omega
    · omega
    · have := hc k hq
      omega
set_option maxRecDepth 100000 in
set_option maxHeartbeats 8000000 in
theorem begun_some {w : World} {S : StartV} (hS : S.ok w w.heap.size) (hlc : S.code.length ≤ 60) (hlr : S.regs.length ≤ 40) (hlb : S.bs.length ≤ 200) {ad : Addr} {Ar Ab : Option Addr} {cl cap nr kr nb kb : Nat} {FR : Bool} {AT : Int} (hnr : nr = S.regs.length) (hvr : S.vr = .slice Ar nr kr) (hvb : S.vb = .slice Ab nb kb) (hfr : S.far = FR) (hat : S.at' = AT) (hvc : S.vc = .slice (some ad) cl cap) (hcl : cl = S.code.length) (hbl : 0 < cl → ad.block < w.heap.size) (hcell : ∀ i, i < cl → w.cell? (ad.add i) = some (.int .u32 (S.code.getD i 0))) :
    Calls Tryz.prog 10 #[.agg #[(.slice (some ad) cl cap), (.slice Ar nr kr), .bool FR, .int .u64 AT, (.slice Ab nb kb)]] w (BegunDone w S) := by
  obtain ⟨i0, hi, hz0, hz1, hz2⟩ := info_parts u32_info
  have HI := Lib.hid hi
  have HZ0 := Lib.hid hz0
  have HZ1 := Lib.hid hz1
  have HZ2 := Lib.hid hz2
  have hbW := (Below.refl w.heap.size w).alloc (Nat.le_refl _) (.cells #[(.slice (some ad) cl cap), (.slice Ar nr kr), .bool FR, .int .u64 AT, (.slice Ab nb kb)] 27)
  have hsz : w.heap.size < (w.alloc (.cells #[(.slice (some ad) cl cap), (.slice Ar nr kr), .bool FR, .int .u64 AT, (.slice Ab nb kb)] 27)).heap.size := by simp
  have hm := eqlM_nil
  have HBX := Lib.hid (BoxV.new w 27 (.slice (some ad) cl cap) (.slice Ar nr kr) (.bool FR) (.int .u64 AT) (.slice Ab nb kb))
  have HS := Lib.hid hS
  have HLC := Lib.hid hlc
  have HLR := Lib.hid hlr
  have HLB := Lib.hid hlb
  have HCL := Lib.hid hcl
  have HVC := Lib.hid hvc
  have HVR := Lib.hid hvr
  have HVB := Lib.hid hvb
  have HFR := Lib.hid hfr
  have HAT := Lib.hid hat
  have HNR := Lib.hid hnr
  have hlen : cl ≤ 60 := by omega
  have hmade : Owns ((w.alloc (.cells #[(.slice (some ad) cl cap), (.slice Ar nr kr), .bool FR, .int .u64 AT, (.slice Ab nb kb)] 27)).alloc (.cells #[] 74)) (w.heap.size + 1) 74 1 (IsNum .u32) (.slice (some ⟨w.heap.size + 1, 0, none⟩) 0 0) 0 [] := by
    have h := Owns.made (w.alloc (.cells #[(.slice (some ad) cl cap), (.slice Ar nr kr), .bool FR, .int .u64 AT, (.slice Ab nb kb)] 27)) (w.heap.size + 1) 74 1 (IsNum .u32) (by simp)
    simpa using h
  have news : ∀ j u, (S.code.map (Value.int .u32))[j]? = some u → ((w.alloc (.cells #[(.slice (some ad) cl cap), (.slice Ar nr kr), .bool FR, .int .u64 AT, (.slice Ab nb kb)] 27)).alloc (.cells #[] 74)).cell? (ad.add j) = some u := by
    intro j u hj
    have hlj : j < S.code.length := by
      rcases Nat.lt_or_ge j S.code.length with h | h
      · exact h
      · rw [List.getElem?_eq_none (by simpa using h)] at hj
        cases hj
    have hbl2 : (ad.add j).block = ad.block := by unfold Addr.add; split <;> rfl
    have hlb := hbl (by omega)
    rw [World.cell?_alloc_lt _ _ _ (by rw [hbl2]; simp; omega), World.cell?_alloc_lt w _ _ (by rw [hbl2]; exact hlb), hcell j (by omega)]
    simp [List.getElem?_eq_getElem hlj] at hj
    subst hj
    simp [List.getD, List.getElem?_eq_getElem hlj]
  have HN := Lib.hid news
  have HM := Lib.hid hmade
  clear news hmade hnr hvr hvb hfr hat hvc hcell hbl hi hz0 hz1 hz2 hS hlc hlr hlb hcl
  go_enter Tryz.func10, Tryz.ntmps10
  go_wp2_with (at_builtin; refine wpList_append_q _ rfl (.tmp 13) (.tmp 15) 22 rfl (w.heap.size + 1) 74 i0 _ 1 4 Tryz.underlying22 HI.out HZ0.out HZ1.out HZ2.out rfl (by decide) (IsNum .u32) (zero_num .u32) _ 0 [] rfl HM.out ad cl cap (S.code.map (Value.int .u32)) rfl (by rw [HCL.out]; simp) HN.out (ints_oneCell _ _) (num_cells _ _) (by simp only [maxLen]; omega) (by omega) (by simp) ?_; intro v' w1 hown' hgrow; have hbel := ((Below.refl (w.heap.size + 1) (w.alloc (.cells #[(.slice (some ad) cl cap), (.slice Ar nr kr), .bool FR, .int .u64 AT, (.slice Ab nb kb)] 27))).alloc (by simp) (.cells #[] 74)).grown hgrow (by simp) (fun g hg => (HM.out.lt hg).1); obtain ⟨A', n', c', hv'⟩ : ∃ A' n' c', v' = .slice A' n' c' := (by rcases hown'.1.2 with ⟨e, _⟩ | ⟨_, _, _, e, _⟩ <;> exact ⟨_, _, _, e⟩); subst hv'; have B1 := Lib.hid hbel; have R0 := Lib.hid hown'; have X1 := Lib.hid (HBX.out.below hsz (show Below (w.alloc (.cells #[(.slice (some ad) cl cap), (.slice Ar nr kr), .bool FR, .int .u64 AT, (.slice Ab nb kb)] 27)).heap.size (w.alloc (.cells #[(.slice (some ad) cl cap), (.slice Ar nr kr), .bool FR, .int .u64 AT, (.slice Ab nb kb)] 27)) w1 by simpa using hbel)); clear hown' hgrow hbel; obtain ⟨k0, k1, k2, k3, k4⟩ := X1.out)
  have hs1 : w.heap.size < w1.heap.size := Nat.lt_of_lt_of_le hsz B1.out.size
  have B2 := Lib.hid ((hbW.trans (B1.out.mono (Nat.le_succ _))).alloc (Nat.le_of_lt hs1) (.cells #[.slice A' n' c', (.slice Ar nr kr), .bool FR, .int .u64 AT, (.slice Ab nb kb)] 27))
  have X2 := Lib.hid (X1.out.below hs1 ((Below.refl w1.heap.size w1).alloc (Nat.le_refl _) (.cells #[.slice A' n' c', (.slice Ar nr kr), .bool FR, .int .u64 AT, (.slice Ab nb kb)] 27)))
  have ho : Owns w1 (w.heap.size + 1) 74 1 (IsNum .u32) (.slice A' n' c') S.code.length (S.code.map (Value.int .u32)) := by have h := R0.out; rw [HCL.out] at h; simpa using h
  have O2 := Lib.hid (ho.alloc (.cells #[.slice A' n' c', (.slice Ar nr kr), .bool FR, .int .u64 AT, (.slice Ab nb kb)] 27))
  have hs2 : w.heap.size < (w1.alloc (.cells #[.slice A' n' c', (.slice Ar nr kr), .bool FR, .int .u64 AT, (.slice Ab nb kb)] 27)).heap.size := by simp; omega
  clear ho R0 X1 k0 k1 k2 k3 k4 HM HN HBX B1
  generalize w1.alloc (.cells #[.slice A' n' c', (.slice Ar nr kr), .bool FR, .int .u64 AT, (.slice Ab nb kb)] 27) = w2 at *
  have hok : (StartV.mk (.slice A' n' c') S.code (.slice Ar nr kr) S.regs FR AT (.slice Ab nb kb) S.bs).ok w2 w2.heap.size := by
    have h := HS.out
    exact ⟨IsNums.of_owns O2.out (Nat.le_refl _), h.words, (by have := (h.regs.below B2.out (Nat.le_refl _)).more (Nat.le_of_lt hs2); rwa [HVR.out] at this), h.nums, (by have := h.at'; rwa [HAT.out] at this), (by have := (h.bytes.below B2.out (Nat.le_refl _)).more (Nat.le_of_lt hs2); rwa [HVB.out] at this)⟩
  have hg := begin_any hok HLC.out HLR.out HLB.out
  have hbv : beginV (StartV.mk (.slice A' n' c') S.code (.slice Ar nr kr) S.regs FR AT (.slice Ab nb kb) S.bs) = beginV S := by
    unfold beginV begin0
    rw [HFR.out, HAT.out]
  unfold BeginDone at hg
  rw [hbv] at hg
  dsimp only at hg
  refine hg.mono ?_
  rintro e w3 ⟨xb, mb, bb, c, eb, V, rfl, hn, he, hc⟩
  have N3 := Lib.hid hn
  have HE := Lib.hid he
  have HC := Lib.hid hc
  have b3 := hn.2.2.2.2.2
  have hs3 := b3.size
  have X3 := Lib.hid (X2.out.below hs2 b3)
  obtain ⟨k0, k1, k2, k3, k4⟩ := X3.out
  have hlay : ∀ u, Below w3.heap.size w3 u → IsBytes u w.heap.size (.slice Ab nb kb) S.bs := fun u hu => by
    have := ((HS.out.bytes.below B2.out (Nat.le_refl _)).below b3 (Nat.le_of_lt hs2)).below hu (by omega)
    rwa [HVB.out] at this
  have hcode : ∀ u, Below w3.heap.size w3 u → IsNums .u32 u w.heap.size (.slice (some ad) cl cap) S.code := fun u hu => by
    have := ((HS.out.code.below B2.out (Nat.le_refl _)).below b3 (Nat.le_of_lt hs2)).below hu (by omega)
    rwa [HVC.out] at this
  have hregs : ∀ u, Below w3.heap.size w3 u → IsNums .u64 u w.heap.size (.slice Ar nr kr) S.regs := fun u hu => by
    have := ((HS.out.regs.below B2.out (Nat.le_refl _)).below b3 (Nat.le_of_lt hs2)).below hu (by omega)
    rwa [HVR.out] at this
  have hbox : ∀ u, Below w3.heap.size w3 u → BoxV u w.heap.size (.slice (some ad) cl cap) (.slice Ar nr kr) (.bool FR) (.int .u64 AT) (.slice Ab nb kb) := fun u hu => X3.out.below (by omega) hu
  have HLAY := Lib.hid hlay
  have HCODE := Lib.hid hcode
  have HREGS := Lib.hid hregs
  have HBOX := Lib.hid hbox
  have HNW := Lib.hid (show ∀ u, Calls Tryz.prog 28 #[.int .i64 128] u (RNewDone2 u (List.replicate 128 0)) from fun u => rnew_yes 128 u (by decide) (by decide))
  clear hg hbv hok hn he hc hlay hcode hregs hbox b3
  go_wp2_with (first
    | (go_at_call 28; (with_reducible refine (HNW.out _).mono ?_); rintro e w4 ⟨rm, rb, rc, rfl, hr4, q1, q2, hb4⟩; have R4 := Lib.hid hr4; have B4 := Lib.hid hb4; have s4 := hb4.size; have HLY := Lib.hid (rlay_any hr4 16 (HLAY.out _ hb4) (by omega) (by omega) (by decide) (by decide)); clear k0 k1 k2 k3 k4; obtain ⟨k0, k1, k2, k3, k4⟩ := HBOX.out _ hb4; clear hr4 hb4)
    | (go_at_call 29; (with_reducible refine HLY.out.mono ?_); rintro e w5 ⟨rfl, hr5, hb5⟩; have B5 := Lib.hid (But.below B4.out hb5 B4.out.size (fun k hk => by rw [show k = rb from hk]; exact q2)); have s5 := hb5.size; have HNM := Lib.hid (rnewMach_any hr5); clear k0 k1 k2 k3 k4; obtain ⟨k0, k1, k2, k3, k4⟩ := HBOX.out _ B5.out; clear hr5 hb5)
    | (go_at_call 30; (with_reducible refine HNM.out.mono ?_); rintro e w6 ⟨rx, rfl, hr6, q3, hb6⟩; have B6 := Lib.hid (B5.out.trans (hb6.mono B5.out.size)); have s6 := hb6.size; have HLD := Lib.hid (rLoad_any hr6 (HCODE.out _ B6.out) (by omega) (by have := HLC.out; omega) HS.out.words); clear k0 k1 k2 k3 k4; obtain ⟨k0, k1, k2, k3, k4⟩ := HBOX.out _ B6.out; clear hr6 hb6)
    | (go_at_call 31; (with_reducible refine HLD.out.mono ?_); rintro e w7 ⟨rfl, U, hr7, hu7, hb7⟩; have R7 := Lib.hid hr7; have HU7 := Lib.hid hu7; have B7 := Lib.hid (But.below B6.out hb7 B6.out.size (fun k hk => by rw [show k = rx from hk]; omega)); have s7 := hb7.size; clear k0 k1 k2 k3 k4; clear hr7 hu7 hb7))
  have hnx : nr = S.regs.length := HNR.out
  have HNX0 := Lib.hid hnx
  have hnl : nr ≤ 40 := by rw [hnx]; exact HLR.out
  clear hnx
  go_loopw [11] (fun i wr => ∃ k : Nat, k ≤ nr ∧ i = .int .i64 k ∧ Hid (RMach wr rx rm rb rc U S.code (setsV (begin0 S) S.regs k) ∧ Below w3.heap.size w3 wr)) (fun i _ => nr - (intOf i).toNat)
  case atStart => exact ⟨0, by omega, rfl, ⟨R7.out, B7.out⟩⟩
  case round =>
    obtain ⟨k, hk, rfl, hq⟩ := hrel
    obtain ⟨k0, k1, k2, k3, k4⟩ := HBOX.out _ hq.out.2
    by_cases hlt : k < nr
    · obtain ⟨b, off, cp, hv, t1, t2, t3⟩ := (HREGS.out _ hq.out.2).plain (by have := HNR.out; omega)
      injection hv with hv1 hv2 hv3
      subst hv1
      have d1 := t3 k (by have := HNR.out; omega)
      have hset : Calls Tryz.prog 18 #[.pointer (some ⟨rx, 0, none⟩), .int .i64 k, .int .u64 (S.regs.getD k 0)] wr (RSetDone rx rm rb rc U S.code wr (setV (setsV (begin0 S) S.regs k) k (S.regs.getD k 0))) := rSet_any hq.out.1 k (S.regs.getD k 0) (getD_inW HS.out.nums k)
      have hnx2 : setsV (begin0 S) S.regs (k + 1) = (setV (setsV (begin0 S) S.regs k) k (S.regs.getD k 0)).2 := rfl
      generalize setV (setsV (begin0 S) S.regs k) k (S.regs.getD k 0) = R at hset hnx2
      obtain ⟨E, s2⟩ := R
      generalize S.regs.getD k 0 = x at d1 hset
      have HST := Lib.hid hset
      have HNX := Lib.hid hnx2
      have kk : (k : Int) < (nr : Int) := by omega
      have kz : (0 : Int) ≤ (k : Int) := by omega
      clear hset hnx2 t3 hv2 hv3
      go_wp2_with (go_at_call 18; (with_reducible refine HST.out.mono ?_); rintro e w5' ⟨rfl, hm5, hb5⟩; have N5 := Lib.hid hm5; have BB5 := Lib.hid (But.below hq.out.2 hb5 hq.out.2.size (fun k hk => by rw [show k = rx from hk]; omega)); clear hm5 hb5)
      go_roundw
      case rel => exact ⟨k + 1, by omega, by go_num, by rw [HNX.out]; exact ⟨N5.out, BB5.out⟩⟩
      case measure => simp [intOf]; omega
    · obtain rfl : k = nr := by omega
      have hfin := hq.out.1
      rw [HNR.out] at hfin
      have hend : beginV S = if FR = true then (setsV (begin0 S) S.regs S.regs.length).at' AT else setsV (begin0 S) S.regs S.regs.length := by
        rw [← HFR.out, ← HAT.out]; rfl
      have d1 := hfin.pc
      have d2 := hfin.free 32
      have hAT : InW AT := by rw [← HAT.out]; exact HS.out.at'
      have HFIN := Lib.hid hfin
      have HEND := Lib.hid hend
      have BQ := Lib.hid hq.out.2
      clear hfin hend
      cases FR
      · have hz : beginV S = setsV (begin0 S) S.regs S.regs.length := HEND.out
        clear k0 k1 k2 k3 k4
        have hin := ((IsNums.of_owns O2.out (Nat.le_refl _)).below N3.out.2.2.2.2.2 (Nat.le_refl _)).below BQ.out hs3
        have HSM := Lib.hid (sameWords_yes _ _ S.code wr _ _ hin (HCODE.out wr BQ.out))
        have hown := fun n => ((O2.out.below N3.out.2.2.2.2.2 (Nat.le_refl _)).below BQ.out (Nat.le_refl _)).below (below_drewN (Below.refl (wr).heap.size wr) n) (Nat.le_refl _)
        have HOV := Lib.hid (fun n => overWords_but _ _ _ _ _ (hown n))
        have HRM := Lib.hid (show RMach wr rx rm rb rc U S.code (beginV S) by rw [hz]; exact HFIN.out)
        have HBX := Lib.hid BQ.out
        obtain ⟨k0, k1, k2, k3, k4⟩ := HBOX.out wr HBX.out
        clear hin hown
        go_wp2_with (first
          | (go_at_call 32; (with_reducible refine HSM.out.mono ?_); rintro e w8 ⟨rfl, m8, rfl⟩)
          | (go_at_call 33; (with_reducible refine (HOV.out _).mono ?_); rintro e w9 ⟨rfl, hb9⟩; have B9 := Lib.hid hb9; clear hb9))
        go_ret2
        exact begun_end N3.out HE.out HC.out HRM.out HBX.out B2.out hs2 (fun k hk => by obtain ⟨o, n, c, e⟩ := hk; have h := O2.out; rw [e] at h; have := h.lt (g := k) (by simp [Value.ownBlock]); omega) q1 q2 (by omega) (fun k hk => by have := HU7.out k hk; omega) B9.out
      · have hz : beginV S = (setsV (begin0 S) S.regs S.regs.length).at' AT := HEND.out
        have BS := Lib.hid (show Below w3.heap.size w3 (wr.setCell ⟨rx, 32, none⟩ (.int .u64 AT)) from BQ.out.setCell (p := ⟨rx, 32, none⟩) (show w3.heap.size ≤ rx by omega) _)
        have HZ9 := Lib.hid (show RMach (wr.setCell ⟨rx, 32, none⟩ (.int .u64 AT)) rx rm rb rc U S.code (beginV S) by rw [hz]; exact HFIN.out.setPc hAT)
        have hin := ((IsNums.of_owns O2.out (Nat.le_refl _)).below N3.out.2.2.2.2.2 (Nat.le_refl _)).below BS.out hs3
        have HSM := Lib.hid (sameWords_yes _ _ S.code (wr.setCell ⟨rx, 32, none⟩ (.int .u64 AT)) _ _ hin (HCODE.out (wr.setCell ⟨rx, 32, none⟩ (.int .u64 AT)) BS.out))
        have hown := fun n => ((O2.out.below N3.out.2.2.2.2.2 (Nat.le_refl _)).below BS.out (Nat.le_refl _)).below (below_drewN (Below.refl ((wr.setCell ⟨rx, 32, none⟩ (.int .u64 AT))).heap.size (wr.setCell ⟨rx, 32, none⟩ (.int .u64 AT))) n) (Nat.le_refl _)
        have HOV := Lib.hid (fun n => overWords_but _ _ _ _ _ (hown n))
        have HRM := Lib.hid HZ9.out
        have HBX := Lib.hid BS.out
        obtain ⟨l0, l1, l2, l3, l4⟩ := HBOX.out (wr.setCell ⟨rx, 32, none⟩ (.int .u64 AT)) HBX.out
        clear hin hown
        go_wp2_with (first
          | (go_at_call 32; (with_reducible refine HSM.out.mono ?_); rintro e w8 ⟨rfl, m8, rfl⟩)
          | (go_at_call 33; (with_reducible refine (HOV.out _).mono ?_); rintro e w9 ⟨rfl, hb9⟩; have B9 := Lib.hid hb9; clear hb9))
        go_ret2
        exact begun_end N3.out HE.out HC.out HRM.out HBX.out B2.out hs2 (fun k hk => by obtain ⟨o, n, c, e⟩ := hk; have h := O2.out; rw [e] at h; have := h.lt (g := k) (by simp [Value.ownBlock]); omega) q1 q2 (by omega) (fun k hk => by have := HU7.out k hk; omega) B9.out
set_option maxRecDepth 100000 in
set_option maxHeartbeats 8000000 in
theorem begun_none {w : World} {S : StartV} (hS : S.ok w w.heap.size) (hlc : S.code.length ≤ 60) (hlr : S.regs.length ≤ 40) (hlb : S.bs.length ≤ 200) {Ar Ab : Option Addr} {nr kr nb kb : Nat} {FR : Bool} {AT : Int} (hnr : nr = S.regs.length) (hvr : S.vr = .slice Ar nr kr) (hvb : S.vb = .slice Ab nb kb) (hfr : S.far = FR) (hat : S.at' = AT) (hvc : S.vc = .slice none 0 0) (hce : S.code = []) :
    Calls Tryz.prog 10 #[.agg #[(.slice none 0 0), (.slice Ar nr kr), .bool FR, .int .u64 AT, (.slice Ab nb kb)]] w (BegunDone w S) := by
  obtain ⟨i0, hi, hz0, hz1, hz2⟩ := info_parts u32_info
  have HI := Lib.hid hi
  have HZ0 := Lib.hid hz0
  have HZ1 := Lib.hid hz1
  have HZ2 := Lib.hid hz2
  have hbW := (Below.refl w.heap.size w).alloc (Nat.le_refl _) (.cells #[(.slice none 0 0), (.slice Ar nr kr), .bool FR, .int .u64 AT, (.slice Ab nb kb)] 27)
  have hsz : w.heap.size < (w.alloc (.cells #[(.slice none 0 0), (.slice Ar nr kr), .bool FR, .int .u64 AT, (.slice Ab nb kb)] 27)).heap.size := by simp
  have hm := eqlM_nil
  have HBX := Lib.hid (BoxV.new w 27 (.slice none 0 0) (.slice Ar nr kr) (.bool FR) (.int .u64 AT) (.slice Ab nb kb))
  have HS := Lib.hid hS
  have HLC := Lib.hid hlc
  have HLR := Lib.hid hlr
  have HLB := Lib.hid hlb
  have HCE := Lib.hid hce
  have HVC := Lib.hid hvc
  have HVR := Lib.hid hvr
  have HVB := Lib.hid hvb
  have HFR := Lib.hid hfr
  have HAT := Lib.hid hat
  have HNR := Lib.hid hnr
  have hmade : Owns ((w.alloc (.cells #[(.slice none 0 0), (.slice Ar nr kr), .bool FR, .int .u64 AT, (.slice Ab nb kb)] 27)).alloc (.cells #[] 74)) (w.heap.size + 1) 74 1 (IsNum .u32) (.slice (some ⟨w.heap.size + 1, 0, none⟩) 0 0) 0 [] := by
    have h := Owns.made (w.alloc (.cells #[(.slice none 0 0), (.slice Ar nr kr), .bool FR, .int .u64 AT, (.slice Ab nb kb)] 27)) (w.heap.size + 1) 74 1 (IsNum .u32) (by simp)
    simpa using h
  have HM := Lib.hid hmade
  have hB1 : Below (w.heap.size + 1) (w.alloc (.cells #[(.slice none 0 0), (.slice Ar nr kr), .bool FR, .int .u64 AT, (.slice Ab nb kb)] 27)) ((w.alloc (.cells #[(.slice none 0 0), (.slice Ar nr kr), .bool FR, .int .u64 AT, (.slice Ab nb kb)] 27)).alloc (.cells #[] 74)) := (Below.refl (w.heap.size + 1) (w.alloc (.cells #[(.slice none 0 0), (.slice Ar nr kr), .bool FR, .int .u64 AT, (.slice Ab nb kb)] 27))).alloc (by simp) (.cells #[] 74)
  have B1 := Lib.hid hB1
  have X1 := Lib.hid (HBX.out.below hsz (show Below (w.alloc (.cells #[(.slice none 0 0), (.slice Ar nr kr), .bool FR, .int .u64 AT, (.slice Ab nb kb)] 27)).heap.size (w.alloc (.cells #[(.slice none 0 0), (.slice Ar nr kr), .bool FR, .int .u64 AT, (.slice Ab nb kb)] 27)) ((w.alloc (.cells #[(.slice none 0 0), (.slice Ar nr kr), .bool FR, .int .u64 AT, (.slice Ab nb kb)] 27)).alloc (.cells #[] 74)) by simpa using hB1))
  obtain ⟨k0, k1, k2, k3, k4⟩ := X1.out
  clear hB1 hmade hnr hvr hvb hfr hat hvc hi hz0 hz1 hz2 hS hlc hlr hlb hce
  go_enter Tryz.func10, Tryz.ntmps10
  go_wp2_with fail
  have hs1 : w.heap.size < ((w.alloc (.cells #[(.slice none 0 0), (.slice Ar nr kr), .bool FR, .int .u64 AT, (.slice Ab nb kb)] 27)).alloc (.cells #[] 74)).heap.size := Nat.lt_of_lt_of_le hsz B1.out.size
  have B2 := Lib.hid ((hbW.trans (B1.out.mono (Nat.le_succ _))).alloc (Nat.le_of_lt hs1) (.cells #[.slice (some ⟨w.heap.size + 1, 0, none⟩) 0 0, (.slice Ar nr kr), .bool FR, .int .u64 AT, (.slice Ab nb kb)] 27))
  have X2 := Lib.hid (X1.out.below hs1 ((Below.refl ((w.alloc (.cells #[(.slice none 0 0), (.slice Ar nr kr), .bool FR, .int .u64 AT, (.slice Ab nb kb)] 27)).alloc (.cells #[] 74)).heap.size ((w.alloc (.cells #[(.slice none 0 0), (.slice Ar nr kr), .bool FR, .int .u64 AT, (.slice Ab nb kb)] 27)).alloc (.cells #[] 74))).alloc (Nat.le_refl _) (.cells #[.slice (some ⟨w.heap.size + 1, 0, none⟩) 0 0, (.slice Ar nr kr), .bool FR, .int .u64 AT, (.slice Ab nb kb)] 27)))
  have ho : Owns ((w.alloc (.cells #[(.slice none 0 0), (.slice Ar nr kr), .bool FR, .int .u64 AT, (.slice Ab nb kb)] 27)).alloc (.cells #[] 74)) (w.heap.size + 1) 74 1 (IsNum .u32) (.slice (some ⟨w.heap.size + 1, 0, none⟩) 0 0) S.code.length (S.code.map (Value.int .u32)) := by rw [HCE.out]; simpa using HM.out
  have O2 := Lib.hid (ho.alloc (.cells #[.slice (some ⟨w.heap.size + 1, 0, none⟩) 0 0, (.slice Ar nr kr), .bool FR, .int .u64 AT, (.slice Ab nb kb)] 27))
  have hs2 : w.heap.size < (((w.alloc (.cells #[(.slice none 0 0), (.slice Ar nr kr), .bool FR, .int .u64 AT, (.slice Ab nb kb)] 27)).alloc (.cells #[] 74)).alloc (.cells #[.slice (some ⟨w.heap.size + 1, 0, none⟩) 0 0, (.slice Ar nr kr), .bool FR, .int .u64 AT, (.slice Ab nb kb)] 27)).heap.size := by simp; omega
  clear ho X1 k0 k1 k2 k3 k4 HM HBX B1
  generalize ((w.alloc (.cells #[(.slice none 0 0), (.slice Ar nr kr), .bool FR, .int .u64 AT, (.slice Ab nb kb)] 27)).alloc (.cells #[] 74)).alloc (.cells #[.slice (some ⟨w.heap.size + 1, 0, none⟩) 0 0, (.slice Ar nr kr), .bool FR, .int .u64 AT, (.slice Ab nb kb)] 27) = w2 at *
  have hok : (StartV.mk (.slice (some ⟨w.heap.size + 1, 0, none⟩) 0 0) S.code (.slice Ar nr kr) S.regs FR AT (.slice Ab nb kb) S.bs).ok w2 w2.heap.size := by
    have h := HS.out
    exact ⟨IsNums.of_owns O2.out (Nat.le_refl _), h.words, (by have := (h.regs.below B2.out (Nat.le_refl _)).more (Nat.le_of_lt hs2); rwa [HVR.out] at this), h.nums, (by have := h.at'; rwa [HAT.out] at this), (by have := (h.bytes.below B2.out (Nat.le_refl _)).more (Nat.le_of_lt hs2); rwa [HVB.out] at this)⟩
  have hg := begin_any hok HLC.out HLR.out HLB.out
  have hbv : beginV (StartV.mk (.slice (some ⟨w.heap.size + 1, 0, none⟩) 0 0) S.code (.slice Ar nr kr) S.regs FR AT (.slice Ab nb kb) S.bs) = beginV S := by
    unfold beginV begin0
    rw [HFR.out, HAT.out]
  unfold BeginDone at hg
  rw [hbv] at hg
  dsimp only at hg
  refine hg.mono ?_
  rintro e w3 ⟨xb, mb, bb, c, eb, V, rfl, hn, he, hc⟩
  have N3 := Lib.hid hn
  have HE := Lib.hid he
  have HC := Lib.hid hc
  have b3 := hn.2.2.2.2.2
  have hs3 := b3.size
  have X3 := Lib.hid (X2.out.below hs2 b3)
  obtain ⟨k0, k1, k2, k3, k4⟩ := X3.out
  have hlay : ∀ u, Below w3.heap.size w3 u → IsBytes u w.heap.size (.slice Ab nb kb) S.bs := fun u hu => by
    have := ((HS.out.bytes.below B2.out (Nat.le_refl _)).below b3 (Nat.le_of_lt hs2)).below hu (by omega)
    rwa [HVB.out] at this
  have hcode : ∀ u, Below w3.heap.size w3 u → IsNums .u32 u w.heap.size (.slice none 0 0) S.code := fun u hu => by
    have := ((HS.out.code.below B2.out (Nat.le_refl _)).below b3 (Nat.le_of_lt hs2)).below hu (by omega)
    rwa [HVC.out] at this
  have hregs : ∀ u, Below w3.heap.size w3 u → IsNums .u64 u w.heap.size (.slice Ar nr kr) S.regs := fun u hu => by
    have := ((HS.out.regs.below B2.out (Nat.le_refl _)).below b3 (Nat.le_of_lt hs2)).below hu (by omega)
    rwa [HVR.out] at this
  have hbox : ∀ u, Below w3.heap.size w3 u → BoxV u w.heap.size (.slice none 0 0) (.slice Ar nr kr) (.bool FR) (.int .u64 AT) (.slice Ab nb kb) := fun u hu => X3.out.below (by omega) hu
  have HLAY := Lib.hid hlay
  have HCODE := Lib.hid hcode
  have HREGS := Lib.hid hregs
  have HBOX := Lib.hid hbox
  have HNW := Lib.hid (show ∀ u, Calls Tryz.prog 28 #[.int .i64 128] u (RNewDone2 u (List.replicate 128 0)) from fun u => rnew_yes 128 u (by decide) (by decide))
  clear hg hbv hok hn he hc hlay hcode hregs hbox b3
  go_wp2_with (first
    | (go_at_call 28; (with_reducible refine (HNW.out _).mono ?_); rintro e w4 ⟨rm, rb, rc, rfl, hr4, q1, q2, hb4⟩; have R4 := Lib.hid hr4; have B4 := Lib.hid hb4; have s4 := hb4.size; have HLY := Lib.hid (rlay_any hr4 16 (HLAY.out _ hb4) (by omega) (by omega) (by decide) (by decide)); clear k0 k1 k2 k3 k4; obtain ⟨k0, k1, k2, k3, k4⟩ := HBOX.out _ hb4; clear hr4 hb4)
    | (go_at_call 29; (with_reducible refine HLY.out.mono ?_); rintro e w5 ⟨rfl, hr5, hb5⟩; have B5 := Lib.hid (But.below B4.out hb5 B4.out.size (fun k hk => by rw [show k = rb from hk]; exact q2)); have s5 := hb5.size; have HNM := Lib.hid (rnewMach_any hr5); clear k0 k1 k2 k3 k4; obtain ⟨k0, k1, k2, k3, k4⟩ := HBOX.out _ B5.out; clear hr5 hb5)
    | (go_at_call 30; (with_reducible refine HNM.out.mono ?_); rintro e w6 ⟨rx, rfl, hr6, q3, hb6⟩; have B6 := Lib.hid (B5.out.trans (hb6.mono B5.out.size)); have s6 := hb6.size; have HLD := Lib.hid (rLoad_any hr6 (HCODE.out _ B6.out) (by omega) (by have := HLC.out; omega) HS.out.words); clear k0 k1 k2 k3 k4; obtain ⟨k0, k1, k2, k3, k4⟩ := HBOX.out _ B6.out; clear hr6 hb6)
    | (go_at_call 31; (with_reducible refine HLD.out.mono ?_); rintro e w7 ⟨rfl, U, hr7, hu7, hb7⟩; have R7 := Lib.hid hr7; have HU7 := Lib.hid hu7; have B7 := Lib.hid (But.below B6.out hb7 B6.out.size (fun k hk => by rw [show k = rx from hk]; omega)); have s7 := hb7.size; clear k0 k1 k2 k3 k4; clear hr7 hu7 hb7))
  have hnx : nr = S.regs.length := HNR.out
  have HNX0 := Lib.hid hnx
  have hnl : nr ≤ 40 := by rw [hnx]; exact HLR.out
  clear hnx
  go_loopw [11] (fun i wr => ∃ k : Nat, k ≤ nr ∧ i = .int .i64 k ∧ Hid (RMach wr rx rm rb rc U S.code (setsV (begin0 S) S.regs k) ∧ Below w3.heap.size w3 wr)) (fun i _ => nr - (intOf i).toNat)
  case atStart => exact ⟨0, by omega, rfl, ⟨R7.out, B7.out⟩⟩
  case round =>
    obtain ⟨k, hk, rfl, hq⟩ := hrel
    obtain ⟨k0, k1, k2, k3, k4⟩ := HBOX.out _ hq.out.2
    by_cases hlt : k < nr
    · obtain ⟨b, off, cp, hv, t1, t2, t3⟩ := (HREGS.out _ hq.out.2).plain (by have := HNR.out; omega)
      injection hv with hv1 hv2 hv3
      subst hv1
      have d1 := t3 k (by have := HNR.out; omega)
      have hset : Calls Tryz.prog 18 #[.pointer (some ⟨rx, 0, none⟩), .int .i64 k, .int .u64 (S.regs.getD k 0)] wr (RSetDone rx rm rb rc U S.code wr (setV (setsV (begin0 S) S.regs k) k (S.regs.getD k 0))) := rSet_any hq.out.1 k (S.regs.getD k 0) (getD_inW HS.out.nums k)
      have hnx2 : setsV (begin0 S) S.regs (k + 1) = (setV (setsV (begin0 S) S.regs k) k (S.regs.getD k 0)).2 := rfl
      generalize setV (setsV (begin0 S) S.regs k) k (S.regs.getD k 0) = R at hset hnx2
      obtain ⟨E, s2⟩ := R
      generalize S.regs.getD k 0 = x at d1 hset
      have HST := Lib.hid hset
      have HNX := Lib.hid hnx2
      have kk : (k : Int) < (nr : Int) := by omega
      have kz : (0 : Int) ≤ (k : Int) := by omega
      clear hset hnx2 t3 hv2 hv3
      go_wp2_with (go_at_call 18; (with_reducible refine HST.out.mono ?_); rintro e w5' ⟨rfl, hm5, hb5⟩; have N5 := Lib.hid hm5; have BB5 := Lib.hid (But.below hq.out.2 hb5 hq.out.2.size (fun k hk => by rw [show k = rx from hk]; omega)); clear hm5 hb5)
      go_roundw
      case rel => exact ⟨k + 1, by omega, by go_num, by rw [HNX.out]; exact ⟨N5.out, BB5.out⟩⟩
      case measure => simp [intOf]; omega
    · obtain rfl : k = nr := by omega
      have hfin := hq.out.1
      rw [HNR.out] at hfin
      have hend : beginV S = if FR = true then (setsV (begin0 S) S.regs S.regs.length).at' AT else setsV (begin0 S) S.regs S.regs.length := by
        rw [← HFR.out, ← HAT.out]; rfl
      have d1 := hfin.pc
      have d2 := hfin.free 32
      have hAT : InW AT := by rw [← HAT.out]; exact HS.out.at'
      have HFIN := Lib.hid hfin
      have HEND := Lib.hid hend
      have BQ := Lib.hid hq.out.2
      clear hfin hend
      cases FR
      · have hz : beginV S = setsV (begin0 S) S.regs S.regs.length := HEND.out
        clear k0 k1 k2 k3 k4
        have hin := ((IsNums.of_owns O2.out (Nat.le_refl _)).below N3.out.2.2.2.2.2 (Nat.le_refl _)).below BQ.out hs3
        have HSM := Lib.hid (sameWords_yes _ _ S.code wr _ _ hin (HCODE.out wr BQ.out))
        have hown := fun n => ((O2.out.below N3.out.2.2.2.2.2 (Nat.le_refl _)).below BQ.out (Nat.le_refl _)).below (below_drewN (Below.refl (wr).heap.size wr) n) (Nat.le_refl _)
        have HOV := Lib.hid (fun n => overWords_but _ _ _ _ _ (hown n))
        have HRM := Lib.hid (show RMach wr rx rm rb rc U S.code (beginV S) by rw [hz]; exact HFIN.out)
        have HBX := Lib.hid BQ.out
        obtain ⟨k0, k1, k2, k3, k4⟩ := HBOX.out wr HBX.out
        clear hin hown
        go_wp2_with (first
          | (go_at_call 32; (with_reducible refine HSM.out.mono ?_); rintro e w8 ⟨rfl, m8, rfl⟩)
          | (go_at_call 33; (with_reducible refine (HOV.out _).mono ?_); rintro e w9 ⟨rfl, hb9⟩; have B9 := Lib.hid hb9; clear hb9))
        go_ret2
        exact begun_end N3.out HE.out HC.out HRM.out HBX.out B2.out hs2 (fun k hk => by obtain ⟨o, n, c, e⟩ := hk; have h := O2.out; rw [e] at h; have := h.lt (g := k) (by simp [Value.ownBlock]); omega) q1 q2 (by omega) (fun k hk => by have := HU7.out k hk; omega) B9.out
      · have hz : beginV S = (setsV (begin0 S) S.regs S.regs.length).at' AT := HEND.out
        have BS := Lib.hid (show Below w3.heap.size w3 (wr.setCell ⟨rx, 32, none⟩ (.int .u64 AT)) from BQ.out.setCell (p := ⟨rx, 32, none⟩) (show w3.heap.size ≤ rx by omega) _)
        have HZ9 := Lib.hid (show RMach (wr.setCell ⟨rx, 32, none⟩ (.int .u64 AT)) rx rm rb rc U S.code (beginV S) by rw [hz]; exact HFIN.out.setPc hAT)
        have hin := ((IsNums.of_owns O2.out (Nat.le_refl _)).below N3.out.2.2.2.2.2 (Nat.le_refl _)).below BS.out hs3
        have HSM := Lib.hid (sameWords_yes _ _ S.code (wr.setCell ⟨rx, 32, none⟩ (.int .u64 AT)) _ _ hin (HCODE.out (wr.setCell ⟨rx, 32, none⟩ (.int .u64 AT)) BS.out))
        have hown := fun n => ((O2.out.below N3.out.2.2.2.2.2 (Nat.le_refl _)).below BS.out (Nat.le_refl _)).below (below_drewN (Below.refl ((wr.setCell ⟨rx, 32, none⟩ (.int .u64 AT))).heap.size (wr.setCell ⟨rx, 32, none⟩ (.int .u64 AT))) n) (Nat.le_refl _)
        have HOV := Lib.hid (fun n => overWords_but _ _ _ _ _ (hown n))
        have HRM := Lib.hid HZ9.out
        have HBX := Lib.hid BS.out
        obtain ⟨l0, l1, l2, l3, l4⟩ := HBOX.out (wr.setCell ⟨rx, 32, none⟩ (.int .u64 AT)) HBX.out
        clear hin hown
        go_wp2_with (first
          | (go_at_call 32; (with_reducible refine HSM.out.mono ?_); rintro e w8 ⟨rfl, m8, rfl⟩)
          | (go_at_call 33; (with_reducible refine (HOV.out _).mono ?_); rintro e w9 ⟨rfl, hb9⟩; have B9 := Lib.hid hb9; clear hb9))
        go_ret2
        exact begun_end N3.out HE.out HC.out HRM.out HBX.out B2.out hs2 (fun k hk => by obtain ⟨o, n, c, e⟩ := hk; have h := O2.out; rw [e] at h; have := h.lt (g := k) (by simp [Value.ownBlock]); omega) q1 q2 (by omega) (fun k hk => by have := HU7.out k hk; omega) B9.out
theorem begun_any {w : World} {S : StartV} (hS : S.ok w w.heap.size) (hlc : S.code.length ≤ 60) (hlr : S.regs.length ≤ 40) (hlb : S.bs.length ≤ 200) :
    Calls Tryz.prog 10 #[.agg #[S.vc, S.vr, .bool S.far, .int .u64 S.at', S.vb]] w (BegunDone w S) := by
  obtain ⟨Ar, kr, hvr⟩ := hS.regs.len
  obtain ⟨Ab, kb, hvb⟩ := hS.bytes.len
  rcases hS.code.2 with ⟨hvc, hce⟩ | ⟨ad, cap, hvc, h1, h2, h3⟩
  · have := begun_none hS hlc hlr hlb rfl hvr hvb rfl rfl hvc hce
    rwa [← hvc, ← hvr, ← hvb] at this
  · have := begun_some hS hlc hlr hlb rfl hvr hvb rfl rfl hvc rfl h2 h3
    rwa [← hvc, ← hvr, ← hvb] at this
end Go.Proofs.YtnaceogkaiodnaaGreat

namespace Go.Proofs.YtnaceogkaiodnaaGreat
open Go.RowKit
set_option linter.unusedVariables false

set_option maxRecDepth 100000 in
set_option maxHeartbeats 8000000 in
theorem steps_any {w : World} {S : StartV} (hS : S.ok w w.heap.size) (n1 : Int) (hn1 : -9223372036854775808 ≤ n1) (hn1' : n1 < 9223372036854775808) :
    Calls Tryz.prog 3 #[.agg #[S.vc, S.vr, .bool S.far, .int .u64 S.at', S.vb], .int .i64 n1] w fun e w' => e = .returned (.bool true) ∧ Below w.heap.size w w' := by
  have hbx := BoxAt.new w S
  have hbW := (Below.refl w.heap.size w).alloc (Nat.le_refl _) (.cells #[S.vc, S.vr, .bool S.far, .int .u64 S.at', S.vb] 27)
  have hsz : w.heap.size < (w.alloc (.cells #[S.vc, S.vr, .bool S.far, .int .u64 S.at', S.vb] 27)).heap.size := by simp
  have HP1 := Lib.hid (fun u => pick_any n1 61 u (by decide) (by decide) hn1 hn1')
  have p1 := pick_bd (x := n1) (n := 61) (by decide)
  obtain ⟨k0, k1, k2, k3, k4⟩ := hbx
  go_enter Tryz.func3, Tryz.ntmps3
  go_wp2_with (go_at_call 8; fail)
  have hS1 := (hS.below hbW (Nat.le_refl _)).more hbW.size
  generalize w.alloc (.cells #[S.vc, S.vr, .bool S.far, .int .u64 S.at', S.vb] 27) = W at *
  have hl := long4_any hS1
  have B1 := Lib.hid hbW
  have X1 := Lib.hid (show BoxAt W w.heap.size S from ⟨k0, k1, k2, k3, k4⟩)
  have S1 := Lib.hid hS1
  clear hS hbW hS1
  refine hl.mono ?_
  rintro e w2 ⟨rfl, hb2⟩
  have B2 := Lib.hid (B1.out.trans (hb2.mono B1.out.size))
  have X2 := Lib.hid (X1.out.below hsz hb2)
  have S2 := Lib.hid ((S1.out.below hb2 (Nat.le_refl _)).more hb2.size)
  clear hl hb2 k0 k1 k2 k3 k4
  cases hlg : longV S
  · have hlim := longV_false hlg
    have HG := Lib.hid (begun_any S2.out hlim.1 hlim.2.1 hlim.2.2)
    obtain ⟨k0, k1, k2, k3, k4⟩ := X2.out
    obtain ⟨q1, hq1⟩ := nat_of p1.1
    have lq1 : q1 ≤ 60 := by omega
    rw [hq1] at HP1
    clear p1 hq1 hlg
    go_wp2_with (first
      | (go_at_call 10; (with_reducible refine HG.out.mono ?_); rintro e w3 ⟨pb, xb, mb, bb, c, eb, V, rx, rm, rb, rc, U, rfl, hp⟩; have P3 := Lib.hid hp; have HA3 := Lib.hid (pairAlike_any hp); clear hp k0 k1 k2 k3 k4)
      | (go_at_call 11; (with_reducible refine HA3.out.mono ?_); rintro e w4 ⟨rfl, hb4⟩; have P4 := Lib.hid (P3.out.below hb4); clear hb4)
      | (go_at_call 12; (with_reducible refine (HP1.out _).mono ?_); rintro e w' ⟨rfl, rfl⟩))
    go_loopw [7] (fun i wr => ∃ (k : Nat) (s : MSt), k ≤ 60 ∧ i = .int .i64 k ∧ Hid (PairAt w2 wr pb xb mb bb c eb V rx rm rb rc U S.code s s)) (fun i _ => (intOf i).toNat)
    case atStart => exact ⟨q1, _, lq1, rfl, P4⟩
    case round =>
      obtain ⟨k, s, hk, rfl, hq⟩ := hrel
      by_cases hlt : 0 < k
      · obtain ⟨k', rfl⟩ : ∃ k', k = k' + 1 := ⟨k - 1, by omega⟩
        have kk : (0 : Int) < ((k' + 1 : Nat) : Int) := by omega
        have hst := fun u (hu : PairAt w2 u pb xb mb bb c eb V rx rm rb rc U S.code s s) => step_any hu.m
        have hsr := fun u (t : MSt) (hu : PairAt w2 u pb xb mb bb c eb V rx rm rb rc U S.code t s) => rstep_any hu.r
        unfold StepDone at hst
        unfold REffDone at hsr
        generalize stepV S.code s = R at hst hsr
        obtain ⟨E, t⟩ := R
        dsimp only at hst hsr
        have HST := Lib.hid hst
        have HSR := Lib.hid hsr
        clear hst hsr
        have PD := Lib.hid (show PairAt w2 wr.drew pb xb mb bb c eb V rx rm rb rc U S.code s s from hq.out.drewN 1)
        have HK0 := Lib.hid (show wr.cell? ⟨pb, 0, none⟩ = some (.pointer (some ⟨xb, 0, none⟩)) ∧ wr.cell? ⟨pb, 1, none⟩ = some (.pointer (some ⟨rx, 0, none⟩)) from ⟨hq.out.p0, hq.out.p1⟩)
        have HKd := Lib.hid (show wr.drew.cell? ⟨pb, 0, none⟩ = some (.pointer (some ⟨xb, 0, none⟩)) ∧ wr.drew.cell? ⟨pb, 1, none⟩ = some (.pointer (some ⟨rx, 0, none⟩)) from HK0.out)
        go_wp2_with fail
        go_region_held3 (fun w' => w'.cell? ⟨pb, 0, none⟩ = some (.pointer (some ⟨xb, 0, none⟩)) ∧ w'.cell? ⟨pb, 1, none⟩ = some (.pointer (some ⟨rx, 0, none⟩))) (first | with_reducible exact HK0.out | with_reducible exact HKd.out | with_reducible exact HK1.out | with_reducible exact HK2.out | with_reducible exact HK3.out | go_keep)
          (first
            | (go_at_call 13; (with_reducible refine (HST.out _ PD.out).mono ?_); rintro e w5 ⟨rfl, hm5, hb5⟩; have Q5 := Lib.hid (PD.out.fst' hm5 hb5); have HK1 := Lib.hid (show w5.cell? ⟨pb, 0, none⟩ = some (.pointer (some ⟨xb, 0, none⟩)) ∧ w5.cell? ⟨pb, 1, none⟩ = some (.pointer (some ⟨rx, 0, none⟩)) from ⟨Q5.out.p0, Q5.out.p1⟩); clear hm5 hb5)
            | (go_at_call 14; (with_reducible refine (HSR.out _ _ Q5.out).mono ?_); rintro e w6 ⟨rfl, hm6, hb6⟩; have Q6 := Lib.hid (Q5.out.snd' hm6 hb6); have HA6 := Lib.hid (pairAlike_any Q6.out); have HK2 := Lib.hid (show w6.cell? ⟨pb, 0, none⟩ = some (.pointer (some ⟨xb, 0, none⟩)) ∧ w6.cell? ⟨pb, 1, none⟩ = some (.pointer (some ⟨rx, 0, none⟩)) from ⟨Q6.out.p0, Q6.out.p1⟩); clear hm6 hb6)
            | (go_at_call 11; (with_reducible refine HA6.out.mono ?_); rintro e w7 ⟨rfl, hb7⟩; have Q7 := Lib.hid (Q6.out.below hb7); have HK3 := Lib.hid (show w7.cell? ⟨pb, 0, none⟩ = some (.pointer (some ⟨xb, 0, none⟩)) ∧ w7.cell? ⟨pb, 1, none⟩ = some (.pointer (some ⟨rx, 0, none⟩)) from ⟨Q7.out.p0, Q7.out.p1⟩); clear hb7))
        all_goals
          go_wp2_with fail
          go_roundw
          case rel => exact ⟨k', t, by omega, by go_num, Q7⟩
          case measure => first | (simp [intOf]; omega) | simp [intOf]
      · obtain rfl : k = 0 := by omega
        go_wp2_with (go_at_call 9; (with_reducible refine (awake4_any _).mono ?_); rintro e w9 ⟨rfl, hb9⟩; have B9 := Lib.hid hb9)
        go_ret
        exact ⟨rfl, (B2.out.trans (hq.out.bel.mono B2.out.size)).trans (B9.out.mono (Nat.le_trans B2.out.size hq.out.bel.size))⟩
  · obtain ⟨k0, k1, k2, k3, k4⟩ := X2.out
    go_wp2_with (go_at_call 9; (with_reducible refine (awake4_any _).mono ?_); rintro e w9 ⟨rfl, hb9⟩; have B9 := Lib.hid hb9)
    go_ret
    exact ⟨rfl, B2.out.trans (B9.out.mono B2.out.size)⟩
end Go.Proofs.YtnaceogkaiodnaaGreat

namespace Go.Proofs.YtnaceogkaiodnaaGreat
open Go.RowKit
set_option linter.unusedVariables false

set_option maxRecDepth 100000 in
set_option maxHeartbeats 8000000 in
theorem runs_any {w : World} {S : StartV} (hS : S.ok w w.heap.size) (n1 n2 n v at' : Int) (hn1 : -9223372036854775808 ≤ n1) (hn1' : n1 < 9223372036854775808) (hn2 : -9223372036854775808 ≤ n2) (hn2' : n2 < 9223372036854775808) (hv : InW v) (hat : InW at') :
    Calls Tryz.prog 4 #[.agg #[S.vc, S.vr, .bool S.far, .int .u64 S.at', S.vb], .int .i64 n1, .int .i64 n2, .int .i64 n, .int .u64 v, .int .u64 at'] w fun e w' => e = .returned (.bool true) ∧ Below w.heap.size w w' := by
  have hbx := BoxAt.new w S
  have hbW := (Below.refl w.heap.size w).alloc (Nat.le_refl _) (.cells #[S.vc, S.vr, .bool S.far, .int .u64 S.at', S.vb] 27)
  have hsz : w.heap.size < (w.alloc (.cells #[S.vc, S.vr, .bool S.far, .int .u64 S.at', S.vb] 27)).heap.size := by simp
  have hp1 := fun u => pick_any n1 102 u (by decide) (by decide) hn1 hn1'
  have hp2 := fun u => pick_any n2 102 u (by decide) (by decide) hn2 hn2'
  have p1 := pick_bd (x := n1) (n := 102) (by decide)
  have p2 := pick_bd (x := n2) (n := 102) (by decide)
  generalize pickV n1 102 = f1 at *
  generalize pickV n2 102 = f2 at *
  have HP1 := Lib.hid hp1
  have HP2 := Lib.hid hp2
  have HV := Lib.hid hv
  have HAT := Lib.hid hat
  obtain ⟨p10, p11⟩ := p1
  obtain ⟨p20, p21⟩ := p2
  obtain ⟨k0, k1, k2, k3, k4⟩ := hbx
  clear hp1 hp2 hv hat hn1 hn1' hn2 hn2'
  go_enter Tryz.func4, Tryz.ntmps4
  go_wp2_with (go_at_call 8; fail)
  have hS1 := (hS.below hbW (Nat.le_refl _)).more hbW.size
  generalize w.alloc (.cells #[S.vc, S.vr, .bool S.far, .int .u64 S.at', S.vb] 27) = W at *
  have hl := long4_any hS1
  have B1 := Lib.hid hbW
  have X1 := Lib.hid (show BoxAt W w.heap.size S from ⟨k0, k1, k2, k3, k4⟩)
  have S1 := Lib.hid hS1
  clear hS hbW hS1
  refine hl.mono ?_
  rintro e w2 ⟨rfl, hb2⟩
  have B2 := Lib.hid (B1.out.trans (hb2.mono B1.out.size))
  have X2 := Lib.hid (X1.out.below hsz hb2)
  have S2 := Lib.hid ((S1.out.below hb2 (Nat.le_refl _)).more hb2.size)
  clear hl hb2 k0 k1 k2 k3 k4
  cases hlg : longV S
  · have hlim := longV_false hlg
    have HG := Lib.hid (begun_any S2.out hlim.1 hlim.2.1 hlim.2.2)
    obtain ⟨k0, k1, k2, k3, k4⟩ := X2.out
    obtain ⟨r1, hr1⟩ : ∃ r1, r1 = runV S.code (f1 - 1).toNat (beginV S) := ⟨_, rfl⟩
    obtain ⟨a1, d1, s1⟩ := r1
    have HR1 := Lib.hid hr1
    obtain ⟨r2, hr2⟩ : ∃ r2, r2 = setV s1 n v := ⟨_, rfl⟩
    obtain ⟨E, s2⟩ := r2
    have HR2 := Lib.hid hr2
    obtain ⟨r3, hr3⟩ : ∃ r3, r3 = runV S.code (f2 - 1).toNat (s2.at' at') := ⟨_, rfl⟩
    obtain ⟨a3, d3, s3⟩ := r3
    have HR3 := Lib.hid hr3
    clear hlg hr1 hr2 hr3
    go_wp2_with (first
      | (go_at_call 10; (with_reducible refine HG.out.mono ?_); rintro e w3 ⟨pb, xb, mb, bb, c, eb, V, rx, rm, rb, rc, U, rfl, hp⟩; have P3 := Lib.hid hp; have hu := run_any hp.m (f1 - 1) (f1 - 1).toNat (by omega) (by omega) (by omega); unfold RunDone at hu; rw [← HR1.out] at hu; dsimp only at hu; have HU1 := Lib.hid hu; have y0 := hp.p0; have y1 := hp.p1; clear hp hu k0 k1 k2 k3 k4)
      | (go_at_call 12; (with_reducible refine (HP1.out _).mono ?_); rintro e w' ⟨rfl, rfl⟩)
      | (go_at_call 12; (with_reducible refine (HP2.out _).mono ?_); rintro e w' ⟨rfl, rfl⟩)
      | (go_at_call 15; (with_reducible refine HU1.out.mono ?_); rintro e w4 ⟨rfl, hm4, hb4⟩; have P4 := Lib.hid (P3.out.fst' hm4 hb4); have hu := rrun_any P4.out.r (f1 - 1) (f1 - 1).toNat (by omega) (by omega) (by omega); unfold RRunDone at hu; rw [← HR1.out] at hu; dsimp only at hu; have HU2 := Lib.hid hu; clear y0 y1; have y0 := P4.out.p0; have y1 := P4.out.p1; clear hu hm4 hb4)
      | (go_at_call 16; (with_reducible refine HU2.out.mono ?_); rintro e w5 ⟨rfl, hm5, hb5⟩; have P5 := Lib.hid (P4.out.snd' hm5 hb5); clear y0 y1 hm5 hb5))
    have PD := Lib.hid (show PairAt w2 w5.drew pb xb mb bb c eb V rx rm rb rc U S.code s1 s1 from P5.out.drewN 1)
    have HK0 := Lib.hid (show w5.cell? ⟨pb, 0, none⟩ = some (.pointer (some ⟨xb, 0, none⟩)) ∧ w5.cell? ⟨pb, 1, none⟩ = some (.pointer (some ⟨rx, 0, none⟩)) from ⟨P5.out.p0, P5.out.p1⟩)
    have HKd := Lib.hid (show w5.drew.cell? ⟨pb, 0, none⟩ = some (.pointer (some ⟨xb, 0, none⟩)) ∧ w5.drew.cell? ⟨pb, 1, none⟩ = some (.pointer (some ⟨rx, 0, none⟩)) from HK0.out)
    have HA5 := Lib.hid (pairAlike_any PD.out)
    go_region_held3 (fun w' => w'.cell? ⟨pb, 0, none⟩ = some (.pointer (some ⟨xb, 0, none⟩)) ∧ w'.cell? ⟨pb, 1, none⟩ = some (.pointer (some ⟨rx, 0, none⟩))) (first | with_reducible exact HK0.out | with_reducible exact HKd.out | with_reducible exact HK1.out | with_reducible exact HK2.out | with_reducible exact HK3.out | with_reducible exact HK4.out | go_keep)
      (first
        | (go_at_call 11; (with_reducible refine HA5.out.mono ?_); rintro e w6 ⟨rfl, hb6⟩; have Q6 := Lib.hid (PD.out.below hb6); have HK1 := Lib.hid (show w6.cell? ⟨pb, 0, none⟩ = some (.pointer (some ⟨xb, 0, none⟩)) ∧ w6.cell? ⟨pb, 1, none⟩ = some (.pointer (some ⟨rx, 0, none⟩)) from ⟨Q6.out.p0, Q6.out.p1⟩); have hx := set_any Q6.out.m n v HV.out; unfold StepDone at hx; rw [← HR2.out] at hx; dsimp only at hx; have HX := Lib.hid hx; clear hx hb6)
        | (go_at_call 17; (with_reducible refine HX.out.mono ?_); rintro e w7 ⟨rfl, hm7, hb7⟩; have Q7 := Lib.hid (Q6.out.fst' hm7 hb7); have HK2 := Lib.hid (show w7.cell? ⟨pb, 0, none⟩ = some (.pointer (some ⟨xb, 0, none⟩)) ∧ w7.cell? ⟨pb, 1, none⟩ = some (.pointer (some ⟨rx, 0, none⟩)) from ⟨Q7.out.p0, Q7.out.p1⟩); have hy : Calls Tryz.prog 18 #[.pointer (some ⟨rx, 0, none⟩), .int .i64 n, .int .u64 v] w7 (RSetDone rx rm rb rc U S.code w7 (setV s1 n v)) := rSet_any Q7.out.r n v HV.out; unfold RSetDone at hy; rw [← HR2.out] at hy; dsimp only at hy; have HY := Lib.hid hy; clear hy hm7 hb7)
        | (go_at_call 18; (with_reducible refine HY.out.mono ?_); rintro e w8 ⟨rfl, hm8, hb8⟩; have Q8 := Lib.hid (Q7.out.snd' hm8 hb8.two1); have HK3 := Lib.hid (show w8.cell? ⟨pb, 0, none⟩ = some (.pointer (some ⟨xb, 0, none⟩)) ∧ w8.cell? ⟨pb, 1, none⟩ = some (.pointer (some ⟨rx, 0, none⟩)) from ⟨Q8.out.p0, Q8.out.p1⟩); have HJ := Lib.hid (jump_any Q8.out.m at' HAT.out); clear hm8 hb8)
        | (go_at_call 19; (with_reducible refine HJ.out.mono ?_); rintro e w9 ⟨rfl, hm9, hb9⟩; have Q9 := Lib.hid (Q8.out.fst' hm9 hb9); have HK4 := Lib.hid (show w9.cell? ⟨pb, 0, none⟩ = some (.pointer (some ⟨xb, 0, none⟩)) ∧ w9.cell? ⟨pb, 1, none⟩ = some (.pointer (some ⟨rx, 0, none⟩)) from ⟨Q9.out.p0, Q9.out.p1⟩); clear hm9 hb9))
    all_goals
      have z0 := Q9.out.p0
      have z1 := Q9.out.p1
      have d1' := Q9.out.r.pc
      have d2' := Q9.out.r.free 32
      have QA := Lib.hid (Q9.out.snd' (Q9.out.r.setPc HAT.out) ((But.refl (TwoBlocks rx rb) w9).setCell (p := ⟨rx, 32, none⟩) (.inl (.inl rfl)) (.int .u64 at')))
      have hu := run_any QA.out.m (f2 - 1) (f2 - 1).toNat (by omega) (by omega) (by omega)
      unfold RunDone at hu
      have hs9 : (0, s2.at' at').2 = s2.at' at' := rfl
      rw [← HR3.out] at hu
      dsimp only at hu
      have HU3 := Lib.hid hu
      have y0 := QA.out.p0
      have y1 := QA.out.p1
      clear hu hs9
      go_wp2_with (first
        | (go_at_call 15; (with_reducible refine HU3.out.mono ?_); rintro e w10 ⟨rfl, hm10, hb10⟩; have P10 := Lib.hid (QA.out.fst' hm10 hb10); have hu := rrun_any P10.out.r (f2 - 1) (f2 - 1).toNat (by omega) (by omega) (by omega); unfold RRunDone at hu; rw [← HR3.out] at hu; dsimp only at hu; have HU4 := Lib.hid hu; clear y0 y1; have y0 := P10.out.p0; have y1 := P10.out.p1; clear hu hm10 hb10)
        | (go_at_call 16; (with_reducible refine HU4.out.mono ?_); rintro e w11 ⟨rfl, hm11, hb11⟩; have P11 := Lib.hid (P10.out.snd' hm11 hb11); have HA11 := Lib.hid (pairAlike_any P11.out); clear y0 y1 hm11 hb11)
        | (go_at_call 11; (with_reducible refine HA11.out.mono ?_); rintro e w12 ⟨rfl, hb12⟩; have P12 := Lib.hid (P11.out.below hb12); clear hb12)
        | (go_at_call 9; (with_reducible refine (awake4_any _).mono ?_); rintro e w13 ⟨rfl, hb13⟩; have B13 := Lib.hid hb13; clear hb13))
      go_ret
      exact ⟨rfl, (B2.out.trans (P12.out.bel.mono B2.out.size)).trans (B13.out.mono (Nat.le_trans B2.out.size P12.out.bel.size))⟩
  · obtain ⟨k0, k1, k2, k3, k4⟩ := X2.out
    go_wp2_with (go_at_call 9; (with_reducible refine (awake4_any _).mono ?_); rintro e w9 ⟨rfl, hb9⟩; have B9 := Lib.hid hb9)
    go_ret
    exact ⟨rfl, B2.out.trans (B9.out.mono B2.out.size)⟩
end Go.Proofs.YtnaceogkaiodnaaGreat

