/- A step of the way in DeedsTexts: one region that draws its order and holds calls, some of whose operations are not wanted. Lemma; no condition but what it names. -/
import Derived.Test.YtecbpbkehdmmcaaDoorTwo14
import Derived.Deep.RegionHeld
namespace Go.Proofs.YtecbpbkehdmmcaaDoor
open Go.RowKit Go.Shelf
set_option linter.unusedVariables false
set_option linter.unusedSimpArgs false
/-- The region's operations. -/
def ops10 : Array Oper := #[{ dst := some 52, op := Op.move (Operand.tmp 5), type := 4, pos := "outright.go:104", after := #[], guard := none },
  { dst := some 53, op := Op.move (Operand.tmp 52), type := 4, pos := "outright.go:104", after := #[{ on := 0, ground := Ground.data }], guard := none },
  { dst := some 54, op := Op.load 47 (Operand.tmp 2), type := 47, pos := "outright.go:104", after := #[{ on := 1, ground := Ground.guard }], guard := some (1, true) },
  { dst := some 55, op := Op.load 47 (Operand.tmp 2), type := 47, pos := "outright.go:104", after := #[{ on := 1, ground := Ground.guard }], guard := some (1, true) },
  { dst := some 56, op := Op.call { callee := Callee.value (Operand.func 27), args := #[Operand.tmp 54, Operand.tmp 55], argTypes := #[47, 47] }, type := 4, pos := "outright.go:104", after := #[{ on := 2, ground := Ground.data }, { on := 3, ground := Ground.data }, { on := 1, ground := Ground.chain }, { on := 1, ground := Ground.guard }], guard := some (1, true) },
  { dst := some 57, op := Op.pick (Operand.tmp 53) (Operand.tmp 56) (Operand.const (Value.bool false)), type := 4, pos := "outright.go:104", after := #[{ on := 1, ground := Ground.data }, { on := 4, ground := Ground.data }], guard := none },
  { dst := some 58, op := Op.move (Operand.tmp 57), type := 4, pos := "outright.go:104", after := #[{ on := 5, ground := Ground.data }, { on := 4, ground := Ground.chain }], guard := none },
  { dst := some 59, op := Op.load 47 (Operand.tmp 2), type := 47, pos := "outright.go:104", after := #[{ on := 6, ground := Ground.guard }], guard := some (6, true) },
  { dst := some 60, op := Op.load 47 (Operand.tmp 3), type := 47, pos := "outright.go:104", after := #[{ on := 6, ground := Ground.guard }], guard := some (6, true) },
  { dst := some 61, op := Op.call { callee := Callee.value (Operand.func 27), args := #[Operand.tmp 59, Operand.tmp 60], argTypes := #[47, 47] }, type := 4, pos := "outright.go:104", after := #[{ on := 7, ground := Ground.data }, { on := 8, ground := Ground.data }, { on := 6, ground := Ground.chain }, { on := 6, ground := Ground.guard }], guard := some (6, true) },
  { dst := some 62, op := Op.load 47 (Operand.tmp 2), type := 47, pos := "outright.go:104", after := #[{ on := 6, ground := Ground.guard }], guard := some (6, true) },
  { dst := some 63, op := Op.load 47 (Operand.tmp 3), type := 47, pos := "outright.go:104", after := #[{ on := 6, ground := Ground.guard }], guard := some (6, true) },
  { dst := some 64, op := Op.call { callee := Callee.value (Operand.func 29), args := #[Operand.tmp 62, Operand.tmp 63], argTypes := #[47, 47] }, type := 4, pos := "outright.go:104", after := #[{ on := 10, ground := Ground.data }, { on := 11, ground := Ground.data }, { on := 9, ground := Ground.chain }, { on := 6, ground := Ground.guard }], guard := some (6, true) },
  { dst := some 65, op := Op.move (Operand.tmp 64), type := 4, pos := "outright.go:104", after := #[{ on := 12, ground := Ground.data }, { on := 12, ground := Ground.chain }, { on := 6, ground := Ground.guard }], guard := some (6, true) },
  { dst := some 66, op := Op.load 47 (Operand.tmp 3), type := 47, pos := "outright.go:104", after := #[{ on := 13, ground := Ground.guard }], guard := some (13, true) },
  { dst := some 67, op := Op.load 47 (Operand.tmp 2), type := 47, pos := "outright.go:104", after := #[{ on := 13, ground := Ground.guard }], guard := some (13, true) },
  { dst := some 68, op := Op.call { callee := Callee.value (Operand.func 29), args := #[Operand.tmp 66, Operand.tmp 67], argTypes := #[47, 47] }, type := 4, pos := "outright.go:104", after := #[{ on := 14, ground := Ground.data }, { on := 15, ground := Ground.data }, { on := 13, ground := Ground.chain }, { on := 13, ground := Ground.guard }], guard := some (13, true) },
  { dst := some 69, op := Op.pick (Operand.tmp 65) (Operand.tmp 68) (Operand.const (Value.bool false)), type := 4, pos := "outright.go:104", after := #[{ on := 13, ground := Ground.data }, { on := 16, ground := Ground.data }, { on := 6, ground := Ground.guard }], guard := some (6, true) },
  { dst := some 70, op := Op.binOp BinOp.eql 4 (Operand.tmp 61) (Operand.tmp 69) 4, type := 4, pos := "outright.go:104", after := #[{ on := 9, ground := Ground.data }, { on := 17, ground := Ground.data }, { on := 6, ground := Ground.guard }], guard := some (6, true) },
  { dst := some 71, op := Op.pick (Operand.tmp 58) (Operand.tmp 70) (Operand.const (Value.bool false)), type := 4, pos := "outright.go:104", after := #[{ on := 6, ground := Ground.data }, { on := 18, ground := Ground.data }], guard := none },
  { dst := some 4, op := Op.assign (Operand.tmp 71), type := 4, pos := "outright.go:104", after := #[{ on := 19, ground := Ground.data }, { on := 16, ground := Ground.chain }, { on := 0, ground := Ground.phase }, { on := 1, ground := Ground.phase }, { on := 2, ground := Ground.phase }, { on := 3, ground := Ground.phase }, { on := 4, ground := Ground.phase }, { on := 5, ground := Ground.phase }, { on := 6, ground := Ground.phase }, { on := 7, ground := Ground.phase }, { on := 8, ground := Ground.phase }, { on := 9, ground := Ground.phase }, { on := 10, ground := Ground.phase }, { on := 11, ground := Ground.phase }, { on := 12, ground := Ground.phase }, { on := 13, ground := Ground.phase }, { on := 14, ground := Ground.phase }, { on := 15, ground := Ground.phase }, { on := 16, ground := Ground.phase }, { on := 17, ground := Ground.phase }, { on := 18, ground := Ground.phase }, { on := 19, ground := Ground.phase }], guard := none }]
/-- What the region reads. -/
def S10 (w : World) (A : Option Addr) (n cap : Nat) (A' : Option Addr) (m cap' : Nat) (k c : Int) (W : World) : Prop :=
  W.cell? ⟨w.heap.size, 0, none⟩ = some (.slice A n cap) ∧ W.cell? ⟨w.heap.size, 1, none⟩ = some (.int .i64 k) ∧ W.cell? ⟨w.heap.size, 2, none⟩ = some (.int .i64 c) ∧ W.cell? ⟨w.heap.size + 1, 0, none⟩ = some (.slice A' m cap') ∧ W.cell? ⟨w.heap.size + 1, 1, none⟩ = some (.int .i64 k) ∧ W.cell? ⟨w.heap.size + 1, 2, none⟩ = some (.int .i64 c)
theorem s10_of {w W : World} {A A' : Option Addr} {n cap m cap' : Nat} {k c : Int} (h : Two14 w W #[.slice A n cap, .int .i64 k, .int .i64 c] #[.slice A' m cap', .int .i64 k, .int .i64 c]) : S10 w A n cap A' m cap' k c W := h.cells
set_option maxRecDepth 100000 in
set_option maxHeartbeats 32000000 in
theorem region10_no {Q : Exit → Act → World → Prop} (hQ : ∀ c a (d : Tmp) v w, Q (.panic c) (Act.put a (some d) v) w → Q (.panic c) a w) {w W5 : World} {n m cap cap' : Nat} {A A' : Option Addr} {k c : Int} {u0 u1 u4 u6 u7 u8 u9 u10 u11 u12 u13 u14 u15 u16 u17 u18 u19 u20 u21 u22 u23 u24 u25 u26 u27 u28 u29 u30 u31 u32 u33 u34 u35 u36 u37 u38 u39 u40 u41 u42 u43 u44 u45 u46 u47 u48 u49 u50 u51 u52 u53 u54 u55 u56 u57 u58 u59 u60 u61 u62 u63 u64 u65 u66 u67 u68 u69 u70 u71 : Value}
    (h5 : Two14 w W5 #[.slice A n cap, .int .i64 k, .int .i64 c] #[.slice A' m cap', .int .i64 k, .int .i64 c])
    (hSS : ∀ W, Below w.heap.size w W → Calls Tryd.prog 27 #[.agg #[.slice A n cap, .int .i64 k, .int .i64 c], .agg #[.slice A n cap, .int .i64 k, .int .i64 c]] W (Makes W (.bool true)))
    (hSE : ∀ W, Below w.heap.size w W → Calls Tryd.prog 27 #[.agg #[.slice A n cap, .int .i64 k, .int .i64 c], .agg #[.slice A' m cap', .int .i64 k, .int .i64 c]] W (Makes W (.bool false)))
    (hBA : ∀ W, Below w.heap.size w W → Calls Tryd.prog 29 #[.agg #[.slice A n cap, .int .i64 k, .int .i64 c], .agg #[.slice A' m cap', .int .i64 k, .int .i64 c]] W (Makes W (.bool false)))
    (H : ∀ (w8 : World) (v52 v53 v54 v55 v56 v57 v58 v59 v60 v61 v62 v63 v64 v65 v66 v67 v68 v69 v70 v71 : Value), Below w.heap.size w w8 → Q .normal { tmps := #[u0, u1, .pointer (some ⟨w.heap.size, 0, none⟩), .pointer (some ⟨w.heap.size + 1, 0, none⟩), .bool true, .bool true, u6, u7, u8, u9, u10, u11, u12, u13, u14, u15, u16, u17, u18, u19, u20, u21, u22, u23, u24, u25, u26, u27, u28, u29, u30, u31, u32, u33, u34, u35, u36, u37, u38, u39, u40, u41, u42, u43, u44, u45, u46, u47, u48, u49, u50, u51, v52, v53, v54, v55, v56, v57, v58, v59, v60, v61, v62, v63, v64, v65, v66, v67, v68, v69, v70, v71], defers := [] } w8) :
    Code.wp Tryd.prog (Code.region 10 ops10 true) Q { tmps := #[u0, u1, .pointer (some ⟨w.heap.size, 0, none⟩), .pointer (some ⟨w.heap.size + 1, 0, none⟩), u4, .bool true, u6, u7, u8, u9, u10, u11, u12, u13, u14, u15, u16, u17, u18, u19, u20, u21, u22, u23, u24, u25, u26, u27, u28, u29, u30, u31, u32, u33, u34, u35, u36, u37, u38, u39, u40, u41, u42, u43, u44, u45, u46, u47, u48, u49, u50, u51, u52, u53, u54, u55, u56, u57, u58, u59, u60, u61, u62, u63, u64, u65, u66, u67, u68, u69, u70, u71], defers := [] } W5 := by
  have HH := Lib.hid H
  have HQ := Lib.hid hQ
  have H5 := Lib.hid h5
  have HSS := Lib.hid hSS
  have HSE := Lib.hid hSE
  have HBA := Lib.hid hBA
  clear H hQ h5 hSS hSE hBA
  refine wp_region_held_drew (S := S10 w A n cap A' m cap' k c) (by kernel_rfl) (s10_of (H5.out.grow (Below.refl _ _).drew)) (fun hHeld => ?_)
  show wpAnyH _ _ ops10 _ _ 21 (Array.replicate 21 false) _ _
  refine wpAnyH_take (i := 0) (oi := { dst := some 52, op := Op.move (Operand.tmp 5), type := 4, pos := "outright.go:104", after := #[], guard := none }) (v := (.bool true)) rfl (by kernel_rfl) (by kernel_rfl) (by kernel_rfl) (fun c a w h => HQ.out c a _ _ w h) (Or.inl ⟨by rfl, ?_⟩) hHeld ?_
  · intro W hSw
    obtain ⟨z0, z1, z2, z3, z4, z5⟩ := hSw
    clear hHeld
    go_simp
  try simp only [Act.put, List.setIfInBounds_toArray, List.set_cons_zero, List.set_cons_succ]
  refine wpAnyH_take (i := 1) (oi := { dst := some 53, op := Op.move (Operand.tmp 52), type := 4, pos := "outright.go:104", after := #[{ on := 0, ground := Ground.data }], guard := none }) (v := (.bool true)) rfl (by kernel_rfl) (by kernel_rfl) (by kernel_rfl) (fun c a w h => HQ.out c a _ _ w h) (Or.inl ⟨by rfl, ?_⟩) hHeld ?_
  · intro W hSw
    obtain ⟨z0, z1, z2, z3, z4, z5⟩ := hSw
    clear hHeld
    go_simp
  try simp only [Act.put, List.setIfInBounds_toArray, List.set_cons_zero, List.set_cons_succ]
  refine wpAnyH_take (i := 2) (oi := { dst := some 54, op := Op.load 47 (Operand.tmp 2), type := 47, pos := "outright.go:104", after := #[{ on := 1, ground := Ground.guard }], guard := some (1, true) }) (v := (.agg #[.slice A n cap, .int .i64 k, .int .i64 c])) rfl (by kernel_rfl) (by kernel_rfl) (by kernel_rfl) (fun c a w h => HQ.out c a _ _ w h) (Or.inl ⟨by rfl, ?_⟩) hHeld ?_
  · intro W hSw
    obtain ⟨z0, z1, z2, z3, z4, z5⟩ := hSw
    clear hHeld
    go_simp
  try simp only [Act.put, List.setIfInBounds_toArray, List.set_cons_zero, List.set_cons_succ]
  refine wpAnyH_take (i := 3) (oi := { dst := some 55, op := Op.load 47 (Operand.tmp 2), type := 47, pos := "outright.go:104", after := #[{ on := 1, ground := Ground.guard }], guard := some (1, true) }) (v := (.agg #[.slice A n cap, .int .i64 k, .int .i64 c])) rfl (by kernel_rfl) (by kernel_rfl) (by kernel_rfl) (fun c a w h => HQ.out c a _ _ w h) (Or.inl ⟨by rfl, ?_⟩) hHeld ?_
  · intro W hSw
    obtain ⟨z0, z1, z2, z3, z4, z5⟩ := hSw
    clear hHeld
    go_simp
  try simp only [Act.put, List.setIfInBounds_toArray, List.set_cons_zero, List.set_cons_succ]
  refine wpAnyH_ready (rs := [4]) (by kernel_rfl) (by simp) ?_
  refine AllReadyH.cons (o := { dst := some 56, op := Op.call { callee := Callee.value (Operand.func 27), args := #[Operand.tmp 54, Operand.tmp 55], argTypes := #[47, 47] }, type := 4, pos := "outright.go:104", after := #[{ on := 2, ground := Ground.data }, { on := 3, ground := Ground.data }, { on := 1, ground := Ground.chain }, { on := 1, ground := Ground.guard }], guard := some (1, true) }) rfl (fun K hK => ?_) AllReadyH.nil
  rw [if_pos]
  rotate_left
  · kernel_rfl
  go_wp2_with (go_at_call 27; (with_reducible refine (HSS.out _ (H5.out.bel.drew)).mono ?_); rintro e w6 ⟨rfl, hb⟩; have H6 := Lib.hid ((H5.out.grow (Below.refl _ _).drew).grow hb); clear hb)
  clear hHeld
  refine hK.out _ _ (s10_of H6.out) (fun hHeld => ?_)
  clear hK K
  try simp only [Act.put, List.setIfInBounds_toArray, List.set_cons_zero, List.set_cons_succ]
  refine wpAnyH_take (i := 5) (oi := { dst := some 57, op := Op.pick (Operand.tmp 53) (Operand.tmp 56) (Operand.const (Value.bool false)), type := 4, pos := "outright.go:104", after := #[{ on := 1, ground := Ground.data }, { on := 4, ground := Ground.data }], guard := none }) (v := (.bool true)) rfl (by kernel_rfl) (by kernel_rfl) (by kernel_rfl) (fun c a w h => HQ.out c a _ _ w h) (Or.inl ⟨by rfl, ?_⟩) hHeld ?_
  · intro W hSw
    obtain ⟨z0, z1, z2, z3, z4, z5⟩ := hSw
    clear hHeld
    go_simp
  try simp only [Act.put, List.setIfInBounds_toArray, List.set_cons_zero, List.set_cons_succ]
  refine wpAnyH_take (i := 6) (oi := { dst := some 58, op := Op.move (Operand.tmp 57), type := 4, pos := "outright.go:104", after := #[{ on := 5, ground := Ground.data }, { on := 4, ground := Ground.chain }], guard := none }) (v := (.bool true)) rfl (by kernel_rfl) (by kernel_rfl) (by kernel_rfl) (fun c a w h => HQ.out c a _ _ w h) (Or.inl ⟨by rfl, ?_⟩) hHeld ?_
  · intro W hSw
    obtain ⟨z0, z1, z2, z3, z4, z5⟩ := hSw
    clear hHeld
    go_simp
  try simp only [Act.put, List.setIfInBounds_toArray, List.set_cons_zero, List.set_cons_succ]
  refine wpAnyH_take (i := 7) (oi := { dst := some 59, op := Op.load 47 (Operand.tmp 2), type := 47, pos := "outright.go:104", after := #[{ on := 6, ground := Ground.guard }], guard := some (6, true) }) (v := (.agg #[.slice A n cap, .int .i64 k, .int .i64 c])) rfl (by kernel_rfl) (by kernel_rfl) (by kernel_rfl) (fun c a w h => HQ.out c a _ _ w h) (Or.inl ⟨by rfl, ?_⟩) hHeld ?_
  · intro W hSw
    obtain ⟨z0, z1, z2, z3, z4, z5⟩ := hSw
    clear hHeld
    go_simp
  try simp only [Act.put, List.setIfInBounds_toArray, List.set_cons_zero, List.set_cons_succ]
  refine wpAnyH_take (i := 8) (oi := { dst := some 60, op := Op.load 47 (Operand.tmp 3), type := 47, pos := "outright.go:104", after := #[{ on := 6, ground := Ground.guard }], guard := some (6, true) }) (v := (.agg #[.slice A' m cap', .int .i64 k, .int .i64 c])) rfl (by kernel_rfl) (by kernel_rfl) (by kernel_rfl) (fun c a w h => HQ.out c a _ _ w h) (Or.inl ⟨by rfl, ?_⟩) hHeld ?_
  · intro W hSw
    obtain ⟨z0, z1, z2, z3, z4, z5⟩ := hSw
    clear hHeld
    go_simp
  try simp only [Act.put, List.setIfInBounds_toArray, List.set_cons_zero, List.set_cons_succ]
  refine wpAnyH_take (i := 10) (oi := { dst := some 62, op := Op.load 47 (Operand.tmp 2), type := 47, pos := "outright.go:104", after := #[{ on := 6, ground := Ground.guard }], guard := some (6, true) }) (v := (.agg #[.slice A n cap, .int .i64 k, .int .i64 c])) rfl (by kernel_rfl) (by kernel_rfl) (by kernel_rfl) (fun c a w h => HQ.out c a _ _ w h) (Or.inl ⟨by rfl, ?_⟩) hHeld ?_
  · intro W hSw
    obtain ⟨z0, z1, z2, z3, z4, z5⟩ := hSw
    clear hHeld
    go_simp
  try simp only [Act.put, List.setIfInBounds_toArray, List.set_cons_zero, List.set_cons_succ]
  refine wpAnyH_take (i := 11) (oi := { dst := some 63, op := Op.load 47 (Operand.tmp 3), type := 47, pos := "outright.go:104", after := #[{ on := 6, ground := Ground.guard }], guard := some (6, true) }) (v := (.agg #[.slice A' m cap', .int .i64 k, .int .i64 c])) rfl (by kernel_rfl) (by kernel_rfl) (by kernel_rfl) (fun c a w h => HQ.out c a _ _ w h) (Or.inl ⟨by rfl, ?_⟩) hHeld ?_
  · intro W hSw
    obtain ⟨z0, z1, z2, z3, z4, z5⟩ := hSw
    clear hHeld
    go_simp
  try simp only [Act.put, List.setIfInBounds_toArray, List.set_cons_zero, List.set_cons_succ]
  refine wpAnyH_ready (rs := [9]) (by kernel_rfl) (by simp) ?_
  refine AllReadyH.cons (o := { dst := some 61, op := Op.call { callee := Callee.value (Operand.func 27), args := #[Operand.tmp 59, Operand.tmp 60], argTypes := #[47, 47] }, type := 4, pos := "outright.go:104", after := #[{ on := 7, ground := Ground.data }, { on := 8, ground := Ground.data }, { on := 6, ground := Ground.chain }, { on := 6, ground := Ground.guard }], guard := some (6, true) }) rfl (fun K hK => ?_) AllReadyH.nil
  rw [if_pos]
  rotate_left
  · kernel_rfl
  go_wp2_with (go_at_call 27; (with_reducible refine (HSE.out _ (H6.out.bel)).mono ?_); rintro e w7 ⟨rfl, hb⟩; have H7 := Lib.hid (H6.out.grow hb); clear hb)
  clear hHeld
  refine hK.out _ _ (s10_of H7.out) (fun hHeld => ?_)
  clear hK K
  try simp only [Act.put, List.setIfInBounds_toArray, List.set_cons_zero, List.set_cons_succ]
  refine wpAnyH_ready (rs := [12]) (by kernel_rfl) (by simp) ?_
  refine AllReadyH.cons (o := { dst := some 64, op := Op.call { callee := Callee.value (Operand.func 29), args := #[Operand.tmp 62, Operand.tmp 63], argTypes := #[47, 47] }, type := 4, pos := "outright.go:104", after := #[{ on := 10, ground := Ground.data }, { on := 11, ground := Ground.data }, { on := 9, ground := Ground.chain }, { on := 6, ground := Ground.guard }], guard := some (6, true) }) rfl (fun K hK => ?_) AllReadyH.nil
  rw [if_pos]
  rotate_left
  · kernel_rfl
  go_wp2_with (go_at_call 29; (with_reducible refine (HBA.out _ (H7.out.bel)).mono ?_); rintro e w8 ⟨rfl, hb⟩; have H8 := Lib.hid (H7.out.grow hb); clear hb)
  clear hHeld
  refine hK.out _ _ (s10_of H8.out) (fun hHeld => ?_)
  clear hK K
  try simp only [Act.put, List.setIfInBounds_toArray, List.set_cons_zero, List.set_cons_succ]
  refine wpAnyH_take (i := 13) (oi := { dst := some 65, op := Op.move (Operand.tmp 64), type := 4, pos := "outright.go:104", after := #[{ on := 12, ground := Ground.data }, { on := 12, ground := Ground.chain }, { on := 6, ground := Ground.guard }], guard := some (6, true) }) (v := (.bool false)) rfl (by kernel_rfl) (by kernel_rfl) (by kernel_rfl) (fun c a w h => HQ.out c a _ _ w h) (Or.inl ⟨by rfl, ?_⟩) hHeld ?_
  · intro W hSw
    obtain ⟨z0, z1, z2, z3, z4, z5⟩ := hSw
    clear hHeld
    go_simp
  try simp only [Act.put, List.setIfInBounds_toArray, List.set_cons_zero, List.set_cons_succ]
  refine wpAnyH_take (i := 14) (oi := { dst := some 66, op := Op.load 47 (Operand.tmp 3), type := 47, pos := "outright.go:104", after := #[{ on := 13, ground := Ground.guard }], guard := some (13, true) }) (v := undef) rfl (by kernel_rfl) (by kernel_rfl) (by kernel_rfl) (fun c a w h => HQ.out c a _ _ w h) (Or.inr ⟨by rfl, rfl⟩) hHeld ?_
  try simp only [Act.put, List.setIfInBounds_toArray, List.set_cons_zero, List.set_cons_succ]
  refine wpAnyH_take (i := 15) (oi := { dst := some 67, op := Op.load 47 (Operand.tmp 2), type := 47, pos := "outright.go:104", after := #[{ on := 13, ground := Ground.guard }], guard := some (13, true) }) (v := undef) rfl (by kernel_rfl) (by kernel_rfl) (by kernel_rfl) (fun c a w h => HQ.out c a _ _ w h) (Or.inr ⟨by rfl, rfl⟩) hHeld ?_
  try simp only [Act.put, List.setIfInBounds_toArray, List.set_cons_zero, List.set_cons_succ]
  refine wpAnyH_take (i := 16) (oi := { dst := some 68, op := Op.call { callee := Callee.value (Operand.func 29), args := #[Operand.tmp 66, Operand.tmp 67], argTypes := #[47, 47] }, type := 4, pos := "outright.go:104", after := #[{ on := 14, ground := Ground.data }, { on := 15, ground := Ground.data }, { on := 13, ground := Ground.chain }, { on := 13, ground := Ground.guard }], guard := some (13, true) }) (v := undef) rfl (by kernel_rfl) (by kernel_rfl) (by kernel_rfl) (fun c a w h => HQ.out c a _ _ w h) (Or.inr ⟨by rfl, rfl⟩) hHeld ?_
  try simp only [Act.put, List.setIfInBounds_toArray, List.set_cons_zero, List.set_cons_succ]
  refine wpAnyH_take (i := 17) (oi := { dst := some 69, op := Op.pick (Operand.tmp 65) (Operand.tmp 68) (Operand.const (Value.bool false)), type := 4, pos := "outright.go:104", after := #[{ on := 13, ground := Ground.data }, { on := 16, ground := Ground.data }, { on := 6, ground := Ground.guard }], guard := some (6, true) }) (v := (.bool false)) rfl (by kernel_rfl) (by kernel_rfl) (by kernel_rfl) (fun c a w h => HQ.out c a _ _ w h) (Or.inl ⟨by rfl, ?_⟩) hHeld ?_
  · intro W hSw
    obtain ⟨z0, z1, z2, z3, z4, z5⟩ := hSw
    clear hHeld
    go_simp
  try simp only [Act.put, List.setIfInBounds_toArray, List.set_cons_zero, List.set_cons_succ]
  refine wpAnyH_take (i := 18) (oi := { dst := some 70, op := Op.binOp BinOp.eql 4 (Operand.tmp 61) (Operand.tmp 69) 4, type := 4, pos := "outright.go:104", after := #[{ on := 9, ground := Ground.data }, { on := 17, ground := Ground.data }, { on := 6, ground := Ground.guard }], guard := some (6, true) }) (v := (.bool true)) rfl (by kernel_rfl) (by kernel_rfl) (by kernel_rfl) (fun c a w h => HQ.out c a _ _ w h) (Or.inl ⟨by rfl, ?_⟩) hHeld ?_
  · intro W hSw
    obtain ⟨z0, z1, z2, z3, z4, z5⟩ := hSw
    clear hHeld
    go_simp
  try simp only [Act.put, List.setIfInBounds_toArray, List.set_cons_zero, List.set_cons_succ]
  refine wpAnyH_take (i := 19) (oi := { dst := some 71, op := Op.pick (Operand.tmp 58) (Operand.tmp 70) (Operand.const (Value.bool false)), type := 4, pos := "outright.go:104", after := #[{ on := 6, ground := Ground.data }, { on := 18, ground := Ground.data }], guard := none }) (v := (.bool true)) rfl (by kernel_rfl) (by kernel_rfl) (by kernel_rfl) (fun c a w h => HQ.out c a _ _ w h) (Or.inl ⟨by rfl, ?_⟩) hHeld ?_
  · intro W hSw
    obtain ⟨z0, z1, z2, z3, z4, z5⟩ := hSw
    clear hHeld
    go_simp
  try simp only [Act.put, List.setIfInBounds_toArray, List.set_cons_zero, List.set_cons_succ]
  refine wpAnyH_take (i := 20) (oi := { dst := some 4, op := Op.assign (Operand.tmp 71), type := 4, pos := "outright.go:104", after := #[{ on := 19, ground := Ground.data }, { on := 16, ground := Ground.chain }, { on := 0, ground := Ground.phase }, { on := 1, ground := Ground.phase }, { on := 2, ground := Ground.phase }, { on := 3, ground := Ground.phase }, { on := 4, ground := Ground.phase }, { on := 5, ground := Ground.phase }, { on := 6, ground := Ground.phase }, { on := 7, ground := Ground.phase }, { on := 8, ground := Ground.phase }, { on := 9, ground := Ground.phase }, { on := 10, ground := Ground.phase }, { on := 11, ground := Ground.phase }, { on := 12, ground := Ground.phase }, { on := 13, ground := Ground.phase }, { on := 14, ground := Ground.phase }, { on := 15, ground := Ground.phase }, { on := 16, ground := Ground.phase }, { on := 17, ground := Ground.phase }, { on := 18, ground := Ground.phase }, { on := 19, ground := Ground.phase }], guard := none }) (v := (.bool true)) rfl (by kernel_rfl) (by kernel_rfl) (by kernel_rfl) (fun c a w h => HQ.out c a _ _ w h) (Or.inl ⟨by rfl, ?_⟩) hHeld ?_
  · intro W hSw
    obtain ⟨z0, z1, z2, z3, z4, z5⟩ := hSw
    clear hHeld
    go_simp
  try simp only [Act.put, List.setIfInBounds_toArray, List.set_cons_zero, List.set_cons_succ]
  refine wpAnyH_done (by kernel_rfl) ?_ _
  exact HH.out _ _ _ _ _ _ _ _ _ _ _ _ _ _ _ _ _ _ _ _ _ H8.out.bel
end Go.Proofs.YtecbpbkehdmmcaaDoor
