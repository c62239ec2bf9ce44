/- A step of the way in VerifyHolds: one region that draws its order and holds a call, for each of three kinds of instruction. Lemmas; no condition but what each names. -/
import Derived.Test.YtfdblmjgpoocpaaGreatS05
import Derived.Deep.RegionHeld
namespace Go.Proofs.YtfdblmjgpoocpaaGreat
open Go.RowKit Go.Shelf
set_option linter.unusedVariables false
set_option linter.unusedSimpArgs false
/-- The region's operations. -/
def ops20 : Array Oper := #[{ dst := some 101, op := Op.load 37 (Operand.tmp 15), type := 37, pos := "outright.go:63", after := #[], guard := none },
  { dst := some 102, op := Op.fieldAddr 41 (Operand.tmp 8) 1, type := 0, pos := "outright.go:63", after := #[], guard := none },
  { dst := some 103, op := Op.load 3 (Operand.tmp 102), type := 3, pos := "outright.go:63", after := #[{ on := 1, ground := Ground.data }], guard := none },
  { dst := some 104, op := Op.fieldAddr 41 (Operand.tmp 8) 2, type := 0, pos := "outright.go:63", after := #[], guard := none },
  { dst := some 105, op := Op.load 3 (Operand.tmp 104), type := 3, pos := "outright.go:63", after := #[{ on := 3, ground := Ground.data }], guard := none },
  { dst := some 106, op := Op.call { callee := Callee.value (Operand.func 21), args := #[Operand.tmp 101, Operand.tmp 103, Operand.tmp 105], argTypes := #[37, 3, 3] }, type := 29, pos := "outright.go:63", after := #[{ on := 0, ground := Ground.data }, { on := 2, ground := Ground.data }, { on := 4, ground := Ground.data }], guard := none },
  { dst := some 107, op := Op.binOp BinOp.neq 29 (Operand.tmp 106) (Operand.const (Value.int IntKind.i64 0)) 29, type := 4, pos := "outright.go:63", after := #[{ on := 5, ground := Ground.data }], guard := none },
  { dst := some 108, op := Op.move (Operand.tmp 107), type := 4, pos := "outright.go:63", after := #[{ on := 6, ground := Ground.data }, { on := 5, ground := Ground.chain }], guard := none },
  { dst := some 109, op := Op.fieldAddr 37 (Operand.tmp 15) 0, type := 0, pos := "outright.go:63", after := #[{ on := 7, ground := Ground.guard }], guard := some (7, false) },
  { dst := some 110, op := Op.load 3 (Operand.tmp 109), type := 3, pos := "outright.go:63", after := #[{ on := 8, ground := Ground.data }, { on := 7, ground := Ground.guard }], guard := some (7, false) },
  { dst := some 111, op := Op.binOp BinOp.eql 3 (Operand.tmp 110) (Operand.const (Value.int IntKind.i64 28)) 3, type := 4, pos := "outright.go:63", after := #[{ on := 9, ground := Ground.data }, { on := 7, ground := Ground.guard }], guard := some (7, false) },
  { dst := some 112, op := Op.move (Operand.tmp 111), type := 4, pos := "outright.go:63", after := #[{ on := 10, ground := Ground.data }, { on := 7, ground := Ground.chain }, { on := 7, ground := Ground.guard }], guard := some (7, false) },
  { dst := some 113, op := Op.fieldAddr 37 (Operand.tmp 15) 4, type := 0, pos := "outright.go:63", after := #[{ on := 11, ground := Ground.guard }], guard := some (11, true) },
  { dst := some 114, op := Op.load 3 (Operand.tmp 113), type := 3, pos := "outright.go:63", after := #[{ on := 12, ground := Ground.data }, { on := 11, ground := Ground.guard }], guard := some (11, true) },
  { dst := some 115, op := Op.fieldAddr 25 (Operand.tmp 3) 1, type := 0, pos := "outright.go:63", after := #[{ on := 11, ground := Ground.guard }], guard := some (11, true) },
  { dst := some 116, op := Op.load 23 (Operand.tmp 115), type := 23, pos := "outright.go:63", after := #[{ on := 14, ground := Ground.data }, { on := 11, ground := Ground.guard }], guard := some (11, true) },
  { dst := some 117, op := Op.call { callee := Callee.builtin Builtin.len, args := #[Operand.tmp 116], argTypes := #[23] }, type := 3, pos := "outright.go:63", after := #[{ on := 15, ground := Ground.data }, { on := 11, ground := Ground.guard }], guard := some (11, true) },
  { dst := some 118, op := Op.binOp BinOp.geq 3 (Operand.tmp 114) (Operand.tmp 117) 3, type := 4, pos := "outright.go:63", after := #[{ on := 13, ground := Ground.data }, { on := 16, ground := Ground.data }, { on := 11, ground := Ground.guard }], guard := some (11, true) },
  { dst := some 119, op := Op.move (Operand.tmp 118), type := 4, pos := "outright.go:63", after := #[{ on := 17, ground := Ground.data }, { on := 11, ground := Ground.chain }, { on := 11, ground := Ground.guard }], guard := some (11, true) },
  { dst := some 120, op := Op.fieldAddr 37 (Operand.tmp 15) 5, type := 0, pos := "outright.go:63", after := #[{ on := 18, ground := Ground.guard }], guard := some (18, false) },
  { dst := some 121, op := Op.load 35 (Operand.tmp 120), type := 35, pos := "outright.go:63", after := #[{ on := 19, ground := Ground.data }, { on := 18, ground := Ground.guard }], guard := some (18, false) },
  { dst := some 122, op := Op.call { callee := Callee.builtin Builtin.len, args := #[Operand.tmp 121], argTypes := #[35] }, type := 3, pos := "outright.go:63", after := #[{ on := 20, ground := Ground.data }, { on := 18, ground := Ground.guard }], guard := some (18, false) },
  { dst := some 123, op := Op.fieldAddr 25 (Operand.tmp 3) 1, type := 0, pos := "outright.go:63", after := #[{ on := 18, ground := Ground.guard }], guard := some (18, false) },
  { dst := some 124, op := Op.load 23 (Operand.tmp 123), type := 23, pos := "outright.go:63", after := #[{ on := 22, ground := Ground.data }, { on := 18, ground := Ground.guard }], guard := some (18, false) },
  { dst := some 125, op := Op.fieldAddr 37 (Operand.tmp 15) 4, type := 0, pos := "outright.go:63", after := #[{ on := 18, ground := Ground.guard }], guard := some (18, false) },
  { dst := some 126, op := Op.load 3 (Operand.tmp 125), type := 3, pos := "outright.go:63", after := #[{ on := 24, ground := Ground.data }, { on := 18, ground := Ground.guard }], guard := some (18, false) },
  { dst := some 127, op := Op.indexAddr 23 (Operand.tmp 124) (Operand.tmp 126), type := 0, pos := "outright.go:63", after := #[{ on := 23, ground := Ground.data }, { on := 25, ground := Ground.data }, { on := 18, ground := Ground.guard }], guard := some (18, false) },
  { dst := some 128, op := Op.fieldAddr 41 (Operand.tmp 127) 0, type := 0, pos := "outright.go:63", after := #[{ on := 26, ground := Ground.data }, { on := 18, ground := Ground.guard }], guard := some (18, false) },
  { dst := some 129, op := Op.load 3 (Operand.tmp 128), type := 3, pos := "outright.go:63", after := #[{ on := 27, ground := Ground.data }, { on := 18, ground := Ground.guard }], guard := some (18, false) },
  { dst := some 130, op := Op.binOp BinOp.neq 3 (Operand.tmp 122) (Operand.tmp 129) 3, type := 4, pos := "outright.go:63", after := #[{ on := 21, ground := Ground.data }, { on := 28, ground := Ground.data }, { on := 18, ground := Ground.guard }], guard := some (18, false) },
  { dst := some 131, op := Op.pick (Operand.tmp 119) (Operand.const (Value.bool true)) (Operand.tmp 130), type := 4, pos := "outright.go:63", after := #[{ on := 18, ground := Ground.data }, { on := 29, ground := Ground.data }, { on := 11, ground := Ground.guard }], guard := some (11, true) },
  { dst := some 132, op := Op.pick (Operand.tmp 112) (Operand.tmp 131) (Operand.const (Value.bool false)), type := 4, pos := "outright.go:63", after := #[{ on := 11, ground := Ground.data }, { on := 30, ground := Ground.data }, { on := 7, ground := Ground.guard }], guard := some (7, false) },
  { dst := some 133, op := Op.pick (Operand.tmp 108) (Operand.const (Value.bool true)) (Operand.tmp 132), type := 4, pos := "outright.go:63", after := #[{ on := 7, ground := Ground.data }, { on := 31, ground := Ground.data }], guard := none },
  { dst := some 134, op := Op.move (Operand.tmp 133), type := 4, pos := "outright.go:63", after := #[{ on := 32, ground := Ground.data }, { on := 18, ground := Ground.chain }], guard := none },
  { dst := some 135, op := Op.fieldAddr 37 (Operand.tmp 15) 0, type := 0, pos := "outright.go:63", after := #[{ on := 33, ground := Ground.guard }], guard := some (33, false) },
  { dst := some 136, op := Op.load 3 (Operand.tmp 135), type := 3, pos := "outright.go:63", after := #[{ on := 34, ground := Ground.data }, { on := 33, ground := Ground.guard }], guard := some (33, false) },
  { dst := some 137, op := Op.binOp BinOp.eql 3 (Operand.tmp 136) (Operand.const (Value.int IntKind.i64 24)) 3, type := 4, pos := "outright.go:63", after := #[{ on := 35, ground := Ground.data }, { on := 33, ground := Ground.guard }], guard := some (33, false) },
  { dst := some 138, op := Op.move (Operand.tmp 137), type := 4, pos := "outright.go:63", after := #[{ on := 36, ground := Ground.data }, { on := 33, ground := Ground.chain }, { on := 33, ground := Ground.guard }], guard := some (33, false) },
  { dst := some 139, op := Op.fieldAddr 37 (Operand.tmp 15) 4, type := 0, pos := "outright.go:63", after := #[{ on := 37, ground := Ground.guard }], guard := some (37, true) },
  { dst := some 140, op := Op.load 3 (Operand.tmp 139), type := 3, pos := "outright.go:63", after := #[{ on := 38, ground := Ground.data }, { on := 37, ground := Ground.guard }], guard := some (37, true) },
  { dst := some 141, op := Op.fieldAddr 25 (Operand.tmp 3) 0, type := 0, pos := "outright.go:63", after := #[{ on := 37, ground := Ground.guard }], guard := some (37, true) },
  { dst := some 142, op := Op.load 22 (Operand.tmp 141), type := 22, pos := "outright.go:63", after := #[{ on := 40, ground := Ground.data }, { on := 37, ground := Ground.guard }], guard := some (37, true) },
  { dst := some 143, op := Op.call { callee := Callee.builtin Builtin.len, args := #[Operand.tmp 142], argTypes := #[22] }, type := 3, pos := "outright.go:63", after := #[{ on := 41, ground := Ground.data }, { on := 37, ground := Ground.guard }], guard := some (37, true) },
  { dst := some 144, op := Op.binOp BinOp.gtr 3 (Operand.tmp 140) (Operand.tmp 143) 3, type := 4, pos := "outright.go:63", after := #[{ on := 39, ground := Ground.data }, { on := 42, ground := Ground.data }, { on := 37, ground := Ground.guard }], guard := some (37, true) },
  { dst := some 145, op := Op.pick (Operand.tmp 138) (Operand.tmp 144) (Operand.const (Value.bool false)), type := 4, pos := "outright.go:63", after := #[{ on := 37, ground := Ground.data }, { on := 43, ground := Ground.data }, { on := 33, ground := Ground.guard }], guard := some (33, false) },
  { dst := some 146, op := Op.pick (Operand.tmp 134) (Operand.const (Value.bool true)) (Operand.tmp 145), type := 4, pos := "outright.go:63", after := #[{ on := 33, ground := Ground.data }, { on := 44, ground := Ground.data }], guard := none }]
/-- What the region reads. -/
def S20 (ib fx mb : Nat) (op ca b1 c n1 : Int) (X DV FV : Value) (rg ar : Int) (W : World) : Prop :=
  W.cell? ⟨ib, 0, none⟩ = some (.int .i64 op) ∧ W.cell? ⟨ib, 1, none⟩ = some (.int .i64 ca) ∧ W.cell? ⟨ib, 2, none⟩ = some (.int .i64 b1) ∧ W.cell? ⟨ib, 3, none⟩ = some (.int .i64 c) ∧ W.cell? ⟨ib, 4, none⟩ = some (.int .i64 n1) ∧ W.cell? ⟨ib, 5, none⟩ = some X ∧
  W.cell? ⟨fx, 1, none⟩ = some (.int .i64 rg) ∧ W.cell? ⟨fx, 2, none⟩ = some (.int .i64 ar) ∧ W.cell? ⟨mb, 0, none⟩ = some DV ∧ W.cell? ⟨mb, 1, none⟩ = some FV
def S20c (ib fx mb : Nat) (op ca b1 c n1 : Int) (X DV FV : Value) (rg ar : Int) (fb o : Nat) (na : Nat) (W : World) : Prop :=
  S20 ib fx mb op ca b1 c n1 X DV FV rg ar W ∧ W.cell? ⟨fb, o, none⟩ = some (.int .i64 na)
set_option maxRecDepth 100000 in
set_option maxHeartbeats 32000000 in
theorem region20_call {Q : Exit → Act → World → Prop} (hQ : ∀ c a (d : Tmp) v w, Q (.panic c) (Act.put a (some d) v) w → Q (.panic c) a w) {W3 : World} {ib fx mb na Yc nd dc nf fcap : Nat} {fb fo kk : Nat} {ca b1 c rg ar : Int} {YA DA : Option Addr} {u0 u1 u2 u4 u5 u6 u7 u9 u10 u11 u12 u13 u14 u16 u17 u18 u19 u20 u21 u22 u23 u24 u25 u26 u27 u28 u29 u30 u31 u32 u33 u34 u35 u36 u37 u38 u39 u40 u41 u42 u43 u44 u45 u46 u47 u48 u49 u50 u51 u52 u53 u54 u55 u56 u57 u58 u59 u60 u61 u62 u63 u64 u65 u66 u67 u68 u69 u70 u71 u72 u73 u74 u75 u76 u77 u78 u79 u80 u81 u82 u83 u84 u85 u86 u87 u88 u89 u90 u91 u92 u93 u94 u95 u96 u97 u98 u99 u100 u101 u102 u103 u104 u105 u106 u107 u108 u109 u110 u111 u112 u113 u114 u115 u116 u117 u118 u119 u120 u121 u122 u123 u124 u125 u126 u127 u128 u129 u130 u131 u132 u133 u134 u135 u136 u137 u138 u139 u140 u141 u142 u143 u144 u145 u146 u147 u148 u149 u150 u151 u152 u153 u154 u155 u156 u157 u158 u159 u160 u161 u162 u163 u164 u165 u166 u167 u168 u169 u170 u171 u172 u173 u174 u175 u176 u177 u178 u179 u180 u181 u182 u183 u184 u185 u186 u187 u188 u189 u190 u191 u192 u193 u194 u195 u196 u197 u198 u199 u200 u201 u202 u203 u204 u205 u206 u207 u208 u209 u210 u211 u212 u213 u214 u215 u216 u217 u218 u219 u220 u221 u222 u223 u224 u225 u226 u227 u228 : Value} (h1 : kk < nf) 
    (HCI : ∀ W, Below W3.heap.size W3 W → Calls Tryz.prog 21 #[.agg (insCells 28 ca b1 c (kk : Int) (.slice YA na Yc)), .int .i64 rg, .int .i64 ar] W (Makes W (.int .i64 0)))
    (HS : ∀ W, Below W3.heap.size W3 W → S20c ib fx mb 28 ca b1 c (kk : Int) (.slice YA na Yc) (.slice DA nd dc) (.slice (some ⟨fb, fo, none⟩) nf fcap) rg ar fb (fo + kk * 4) na W)
    (H : ∀ (w6 : World) (v101 v102 v103 v104 v105 v106 v107 v108 v109 v110 v111 v112 v113 v114 v115 v116 v117 v118 v119 v120 v121 v122 v123 v124 v125 v126 v127 v128 v129 v130 v131 v132 v133 v134 v135 v136 v137 v138 v139 v140 v141 v142 v143 v144 v145 : Value), Below W3.heap.size W3 w6 → Q .normal { tmps := #[u0, u1, u2, .pointer (some ⟨mb, 0, none⟩), u4, u5, u6, u7, .pointer (some ⟨fx, 0, none⟩), u9, u10, u11, u12, u13, u14, .pointer (some ⟨ib, 0, none⟩), u16, u17, u18, u19, u20, u21, u22, u23, u24, u25, u26, u27, u28, u29, u30, u31, u32, u33, u34, u35, u36, u37, u38, u39, u40, u41, u42, u43, u44, u45, u46, u47, u48, u49, u50, u51, u52, u53, u54, u55, u56, u57, u58, u59, u60, u61, u62, u63, u64, u65, u66, u67, u68, u69, u70, u71, u72, u73, u74, u75, u76, u77, u78, u79, u80, u81, u82, u83, u84, u85, u86, u87, u88, u89, u90, u91, u92, u93, u94, u95, u96, u97, u98, u99, u100, v101, v102, v103, v104, v105, v106, v107, v108, v109, v110, v111, v112, v113, v114, v115, v116, v117, v118, v119, v120, v121, v122, v123, v124, v125, v126, v127, v128, v129, v130, v131, v132, v133, v134, v135, v136, v137, v138, v139, v140, v141, v142, v143, v144, v145, .bool false, u147, u148, u149, u150, u151, u152, u153, u154, u155, u156, u157, u158, u159, u160, u161, u162, u163, u164, u165, u166, u167, u168, u169, u170, u171, u172, u173, u174, u175, u176, u177, u178, u179, u180, u181, u182, u183, u184, u185, u186, u187, u188, u189, u190, u191, u192, u193, u194, u195, u196, u197, u198, u199, u200, u201, u202, u203, u204, u205, u206, u207, u208, u209, u210, u211, u212, u213, u214, u215, u216, u217, u218, u219, u220, u221, u222, u223, u224, u225, u226, u227, u228], defers := [] } w6) :
    Code.wp Tryz.prog (Code.region 20 ops20 true) Q { tmps := #[u0, u1, u2, .pointer (some ⟨mb, 0, none⟩), u4, u5, u6, u7, .pointer (some ⟨fx, 0, none⟩), u9, u10, u11, u12, u13, u14, .pointer (some ⟨ib, 0, none⟩), u16, u17, u18, u19, u20, u21, u22, u23, u24, u25, u26, u27, u28, u29, u30, u31, u32, u33, u34, u35, u36, u37, u38, u39, u40, u41, u42, u43, u44, u45, u46, u47, u48, u49, u50, u51, u52, u53, u54, u55, u56, u57, u58, u59, u60, u61, u62, u63, u64, u65, u66, u67, u68, u69, u70, u71, u72, u73, u74, u75, u76, u77, u78, u79, u80, u81, u82, u83, u84, u85, u86, u87, u88, u89, u90, u91, u92, u93, u94, u95, u96, u97, u98, u99, u100, u101, u102, u103, u104, u105, u106, u107, u108, u109, u110, u111, u112, u113, u114, u115, u116, u117, u118, u119, u120, u121, u122, u123, u124, u125, u126, u127, u128, u129, u130, u131, u132, u133, u134, u135, u136, u137, u138, u139, u140, u141, u142, u143, u144, u145, u146, u147, u148, u149, u150, u151, u152, u153, u154, u155, u156, u157, u158, u159, u160, u161, u162, u163, u164, u165, u166, u167, u168, u169, u170, u171, u172, u173, u174, u175, u176, u177, u178, u179, u180, u181, u182, u183, u184, u185, u186, u187, u188, u189, u190, u191, u192, u193, u194, u195, u196, u197, u198, u199, u200, u201, u202, u203, u204, u205, u206, u207, u208, u209, u210, u211, u212, u213, u214, u215, u216, u217, u218, u219, u220, u221, u222, u223, u224, u225, u226, u227, u228], defers := [] } W3 := by
  have HH := Lib.hid H
  have HC := Lib.hid HCI
  have HSS := Lib.hid HS
  have HQ := Lib.hid hQ
  have gge : decide ((nf : Int) ≤ (kk : Int)) = false := by simp; omega
  have gna : (((na : Nat) : Int) != ((na : Nat) : Int)) = false := by simp
  have k0 : (0 : Int) ≤ (kk : Int) := by omega
  have k1 : (kk : Int) < (nf : Int) := by omega
  clear H HCI HS hQ
  refine wp_region_held_drew (S := S20c ib fx mb 28 ca b1 c (kk : Int) (.slice YA na Yc) (.slice DA nd dc) (.slice (some ⟨fb, fo, none⟩) nf fcap) rg ar fb (fo + kk * 4) na) (by kernel_rfl) (HSS.out _ (Below.refl _ W3).drew) (fun hHeld => ?_)
  show wpAnyH _ _ ops20 _ _ 46 (Array.replicate 46 false) _ _
  refine wpAnyH_take (i := 0) (oi := { dst := some 101, op := Op.load 37 (Operand.tmp 15), type := 37, pos := "outright.go:63", after := #[], guard := none }) (v := (.agg (insCells 28 ca b1 c (kk : Int) (.slice YA na Yc)))) rfl (by kernel_rfl) (by kernel_rfl) (by kernel_rfl) (fun c a w h => HQ.out c a _ _ w h) (Or.inl ⟨by rfl, ?_⟩) hHeld ?_
  · intro W hSw
    obtain ⟨⟨z0, z1, z2, z3, z4, z5, z6, z7, z8, z9⟩, z10⟩ := hSw
    clear hHeld
    go_simp
  try simp only [Act.put, List.setIfInBounds_toArray, List.set_cons_zero, List.set_cons_succ]
  refine wpAnyH_take (i := 1) (oi := { dst := some 102, op := Op.fieldAddr 41 (Operand.tmp 8) 1, type := 0, pos := "outright.go:63", after := #[], guard := none }) (v := (.pointer (some ⟨fx, 1, none⟩))) rfl (by kernel_rfl) (by kernel_rfl) (by kernel_rfl) (fun c a w h => HQ.out c a _ _ w h) (Or.inl ⟨by rfl, ?_⟩) hHeld ?_
  · intro W hSw
    obtain ⟨⟨z0, z1, z2, z3, z4, z5, z6, z7, z8, z9⟩, z10⟩ := hSw
    clear hHeld
    go_simp
  try simp only [Act.put, List.setIfInBounds_toArray, List.set_cons_zero, List.set_cons_succ]
  refine wpAnyH_take (i := 2) (oi := { dst := some 103, op := Op.load 3 (Operand.tmp 102), type := 3, pos := "outright.go:63", after := #[{ on := 1, ground := Ground.data }], guard := none }) (v := (.int .i64 rg)) rfl (by kernel_rfl) (by kernel_rfl) (by kernel_rfl) (fun c a w h => HQ.out c a _ _ w h) (Or.inl ⟨by rfl, ?_⟩) hHeld ?_
  · intro W hSw
    obtain ⟨⟨z0, z1, z2, z3, z4, z5, z6, z7, z8, z9⟩, z10⟩ := hSw
    clear hHeld
    go_simp
  try simp only [Act.put, List.setIfInBounds_toArray, List.set_cons_zero, List.set_cons_succ]
  refine wpAnyH_take (i := 3) (oi := { dst := some 104, op := Op.fieldAddr 41 (Operand.tmp 8) 2, type := 0, pos := "outright.go:63", after := #[], guard := none }) (v := (.pointer (some ⟨fx, 2, none⟩))) rfl (by kernel_rfl) (by kernel_rfl) (by kernel_rfl) (fun c a w h => HQ.out c a _ _ w h) (Or.inl ⟨by rfl, ?_⟩) hHeld ?_
  · intro W hSw
    obtain ⟨⟨z0, z1, z2, z3, z4, z5, z6, z7, z8, z9⟩, z10⟩ := hSw
    clear hHeld
    go_simp
  try simp only [Act.put, List.setIfInBounds_toArray, List.set_cons_zero, List.set_cons_succ]
  refine wpAnyH_take (i := 4) (oi := { dst := some 105, op := Op.load 3 (Operand.tmp 104), type := 3, pos := "outright.go:63", after := #[{ on := 3, ground := Ground.data }], guard := none }) (v := (.int .i64 ar)) rfl (by kernel_rfl) (by kernel_rfl) (by kernel_rfl) (fun c a w h => HQ.out c a _ _ w h) (Or.inl ⟨by rfl, ?_⟩) hHeld ?_
  · intro W hSw
    obtain ⟨⟨z0, z1, z2, z3, z4, z5, z6, z7, z8, z9⟩, z10⟩ := hSw
    clear hHeld
    go_simp
  try simp only [Act.put, List.setIfInBounds_toArray, List.set_cons_zero, List.set_cons_succ]
  refine wpAnyH_ready (rs := [5]) (by kernel_rfl) (by simp) ?_
  refine AllReadyH.cons (o := { dst := some 106, op := Op.call { callee := Callee.value (Operand.func 21), args := #[Operand.tmp 101, Operand.tmp 103, Operand.tmp 105], argTypes := #[37, 3, 3] }, type := 29, pos := "outright.go:63", after := #[{ on := 0, ground := Ground.data }, { on := 2, ground := Ground.data }, { on := 4, ground := Ground.data }], guard := none }) rfl (fun K hK => ?_) AllReadyH.nil
  go_wp2_with (go_at_call 21; (with_reducible refine (HC.out W3.drew (Below.refl _ W3).drew).mono ?_); rintro e w6 ⟨rfl, hb⟩; have H6C := Lib.hid (Below.trans (Below.refl W3.heap.size W3).drew hb); clear hb)
  clear hHeld
  refine hK.out _ _ (HSS.out w6 H6C.out) (fun hHeld => ?_)
  clear hK K
  try simp only [Act.put, List.setIfInBounds_toArray, List.set_cons_zero, List.set_cons_succ]
  refine wpAnyH_take (i := 6) (oi := { dst := some 107, op := Op.binOp BinOp.neq 29 (Operand.tmp 106) (Operand.const (Value.int IntKind.i64 0)) 29, type := 4, pos := "outright.go:63", after := #[{ on := 5, ground := Ground.data }], guard := none }) (v := (.bool false)) rfl (by kernel_rfl) (by kernel_rfl) (by kernel_rfl) (fun c a w h => HQ.out c a _ _ w h) (Or.inl ⟨by rfl, ?_⟩) hHeld ?_
  · intro W hSw
    obtain ⟨⟨z0, z1, z2, z3, z4, z5, z6, z7, z8, z9⟩, z10⟩ := hSw
    clear hHeld
    go_simp
  try simp only [Act.put, List.setIfInBounds_toArray, List.set_cons_zero, List.set_cons_succ]
  refine wpAnyH_take (i := 7) (oi := { dst := some 108, op := Op.move (Operand.tmp 107), type := 4, pos := "outright.go:63", after := #[{ on := 6, ground := Ground.data }, { on := 5, ground := Ground.chain }], guard := none }) (v := (.bool false)) rfl (by kernel_rfl) (by kernel_rfl) (by kernel_rfl) (fun c a w h => HQ.out c a _ _ w h) (Or.inl ⟨by rfl, ?_⟩) hHeld ?_
  · intro W hSw
    obtain ⟨⟨z0, z1, z2, z3, z4, z5, z6, z7, z8, z9⟩, z10⟩ := hSw
    clear hHeld
    go_simp
  try simp only [Act.put, List.setIfInBounds_toArray, List.set_cons_zero, List.set_cons_succ]
  refine wpAnyH_take (i := 8) (oi := { dst := some 109, op := Op.fieldAddr 37 (Operand.tmp 15) 0, type := 0, pos := "outright.go:63", after := #[{ on := 7, ground := Ground.guard }], guard := some (7, false) }) (v := (.pointer (some ⟨ib, 0, none⟩))) rfl (by kernel_rfl) (by kernel_rfl) (by kernel_rfl) (fun c a w h => HQ.out c a _ _ w h) (Or.inl ⟨by rfl, ?_⟩) hHeld ?_
  · intro W hSw
    obtain ⟨⟨z0, z1, z2, z3, z4, z5, z6, z7, z8, z9⟩, z10⟩ := hSw
    clear hHeld
    go_simp
  try simp only [Act.put, List.setIfInBounds_toArray, List.set_cons_zero, List.set_cons_succ]
  refine wpAnyH_take (i := 9) (oi := { dst := some 110, op := Op.load 3 (Operand.tmp 109), type := 3, pos := "outright.go:63", after := #[{ on := 8, ground := Ground.data }, { on := 7, ground := Ground.guard }], guard := some (7, false) }) (v := (.int .i64 28)) rfl (by kernel_rfl) (by kernel_rfl) (by kernel_rfl) (fun c a w h => HQ.out c a _ _ w h) (Or.inl ⟨by rfl, ?_⟩) hHeld ?_
  · intro W hSw
    obtain ⟨⟨z0, z1, z2, z3, z4, z5, z6, z7, z8, z9⟩, z10⟩ := hSw
    clear hHeld
    go_simp
  try simp only [Act.put, List.setIfInBounds_toArray, List.set_cons_zero, List.set_cons_succ]
  refine wpAnyH_take (i := 10) (oi := { dst := some 111, op := Op.binOp BinOp.eql 3 (Operand.tmp 110) (Operand.const (Value.int IntKind.i64 28)) 3, type := 4, pos := "outright.go:63", after := #[{ on := 9, ground := Ground.data }, { on := 7, ground := Ground.guard }], guard := some (7, false) }) (v := (.bool true)) rfl (by kernel_rfl) (by kernel_rfl) (by kernel_rfl) (fun c a w h => HQ.out c a _ _ w h) (Or.inl ⟨by rfl, ?_⟩) hHeld ?_
  · intro W hSw
    obtain ⟨⟨z0, z1, z2, z3, z4, z5, z6, z7, z8, z9⟩, z10⟩ := hSw
    clear hHeld
    go_simp
  try simp only [Act.put, List.setIfInBounds_toArray, List.set_cons_zero, List.set_cons_succ]
  refine wpAnyH_take (i := 11) (oi := { dst := some 112, op := Op.move (Operand.tmp 111), type := 4, pos := "outright.go:63", after := #[{ on := 10, ground := Ground.data }, { on := 7, ground := Ground.chain }, { on := 7, ground := Ground.guard }], guard := some (7, false) }) (v := (.bool true)) rfl (by kernel_rfl) (by kernel_rfl) (by kernel_rfl) (fun c a w h => HQ.out c a _ _ w h) (Or.inl ⟨by rfl, ?_⟩) hHeld ?_
  · intro W hSw
    obtain ⟨⟨z0, z1, z2, z3, z4, z5, z6, z7, z8, z9⟩, z10⟩ := hSw
    clear hHeld
    go_simp
  try simp only [Act.put, List.setIfInBounds_toArray, List.set_cons_zero, List.set_cons_succ]
  refine wpAnyH_take (i := 12) (oi := { dst := some 113, op := Op.fieldAddr 37 (Operand.tmp 15) 4, type := 0, pos := "outright.go:63", after := #[{ on := 11, ground := Ground.guard }], guard := some (11, true) }) (v := (.pointer (some ⟨ib, 4, none⟩))) rfl (by kernel_rfl) (by kernel_rfl) (by kernel_rfl) (fun c a w h => HQ.out c a _ _ w h) (Or.inl ⟨by rfl, ?_⟩) hHeld ?_
  · intro W hSw
    obtain ⟨⟨z0, z1, z2, z3, z4, z5, z6, z7, z8, z9⟩, z10⟩ := hSw
    clear hHeld
    go_simp
  try simp only [Act.put, List.setIfInBounds_toArray, List.set_cons_zero, List.set_cons_succ]
  refine wpAnyH_take (i := 13) (oi := { dst := some 114, op := Op.load 3 (Operand.tmp 113), type := 3, pos := "outright.go:63", after := #[{ on := 12, ground := Ground.data }, { on := 11, ground := Ground.guard }], guard := some (11, true) }) (v := (.int .i64 (kk : Int))) rfl (by kernel_rfl) (by kernel_rfl) (by kernel_rfl) (fun c a w h => HQ.out c a _ _ w h) (Or.inl ⟨by rfl, ?_⟩) hHeld ?_
  · intro W hSw
    obtain ⟨⟨z0, z1, z2, z3, z4, z5, z6, z7, z8, z9⟩, z10⟩ := hSw
    clear hHeld
    go_simp
  try simp only [Act.put, List.setIfInBounds_toArray, List.set_cons_zero, List.set_cons_succ]
  refine wpAnyH_take (i := 14) (oi := { dst := some 115, op := Op.fieldAddr 25 (Operand.tmp 3) 1, type := 0, pos := "outright.go:63", after := #[{ on := 11, ground := Ground.guard }], guard := some (11, true) }) (v := (.pointer (some ⟨mb, 1, none⟩))) rfl (by kernel_rfl) (by kernel_rfl) (by kernel_rfl) (fun c a w h => HQ.out c a _ _ w h) (Or.inl ⟨by rfl, ?_⟩) hHeld ?_
  · intro W hSw
    obtain ⟨⟨z0, z1, z2, z3, z4, z5, z6, z7, z8, z9⟩, z10⟩ := hSw
    clear hHeld
    go_simp
  try simp only [Act.put, List.setIfInBounds_toArray, List.set_cons_zero, List.set_cons_succ]
  refine wpAnyH_take (i := 15) (oi := { dst := some 116, op := Op.load 23 (Operand.tmp 115), type := 23, pos := "outright.go:63", after := #[{ on := 14, ground := Ground.data }, { on := 11, ground := Ground.guard }], guard := some (11, true) }) (v := (.slice (some ⟨fb, fo, none⟩) nf fcap)) rfl (by kernel_rfl) (by kernel_rfl) (by kernel_rfl) (fun c a w h => HQ.out c a _ _ w h) (Or.inl ⟨by rfl, ?_⟩) hHeld ?_
  · intro W hSw
    obtain ⟨⟨z0, z1, z2, z3, z4, z5, z6, z7, z8, z9⟩, z10⟩ := hSw
    clear hHeld
    go_simp
  try simp only [Act.put, List.setIfInBounds_toArray, List.set_cons_zero, List.set_cons_succ]
  refine wpAnyH_take (i := 16) (oi := { dst := some 117, op := Op.call { callee := Callee.builtin Builtin.len, args := #[Operand.tmp 116], argTypes := #[23] }, type := 3, pos := "outright.go:63", after := #[{ on := 15, ground := Ground.data }, { on := 11, ground := Ground.guard }], guard := some (11, true) }) (v := (.int .i64 nf)) rfl (by kernel_rfl) (by kernel_rfl) (by kernel_rfl) (fun c a w h => HQ.out c a _ _ w h) (Or.inl ⟨by rfl, ?_⟩) hHeld ?_
  · intro W hSw
    obtain ⟨⟨z0, z1, z2, z3, z4, z5, z6, z7, z8, z9⟩, z10⟩ := hSw
    clear hHeld
    go_simp
  try simp only [Act.put, List.setIfInBounds_toArray, List.set_cons_zero, List.set_cons_succ]
  refine wpAnyH_take (i := 17) (oi := { dst := some 118, op := Op.binOp BinOp.geq 3 (Operand.tmp 114) (Operand.tmp 117) 3, type := 4, pos := "outright.go:63", after := #[{ on := 13, ground := Ground.data }, { on := 16, ground := Ground.data }, { on := 11, ground := Ground.guard }], guard := some (11, true) }) (v := (.bool false)) rfl (by kernel_rfl) (by kernel_rfl) (by kernel_rfl) (fun c a w h => HQ.out c a _ _ w h) (Or.inl ⟨by rfl, ?_⟩) hHeld ?_
  · intro W hSw
    obtain ⟨⟨z0, z1, z2, z3, z4, z5, z6, z7, z8, z9⟩, z10⟩ := hSw
    clear hHeld
    go_simp
  try simp only [Act.put, List.setIfInBounds_toArray, List.set_cons_zero, List.set_cons_succ]
  refine wpAnyH_take (i := 18) (oi := { dst := some 119, op := Op.move (Operand.tmp 118), type := 4, pos := "outright.go:63", after := #[{ on := 17, ground := Ground.data }, { on := 11, ground := Ground.chain }, { on := 11, ground := Ground.guard }], guard := some (11, true) }) (v := (.bool false)) rfl (by kernel_rfl) (by kernel_rfl) (by kernel_rfl) (fun c a w h => HQ.out c a _ _ w h) (Or.inl ⟨by rfl, ?_⟩) hHeld ?_
  · intro W hSw
    obtain ⟨⟨z0, z1, z2, z3, z4, z5, z6, z7, z8, z9⟩, z10⟩ := hSw
    clear hHeld
    go_simp
  try simp only [Act.put, List.setIfInBounds_toArray, List.set_cons_zero, List.set_cons_succ]
  refine wpAnyH_take (i := 19) (oi := { dst := some 120, op := Op.fieldAddr 37 (Operand.tmp 15) 5, type := 0, pos := "outright.go:63", after := #[{ on := 18, ground := Ground.guard }], guard := some (18, false) }) (v := (.pointer (some ⟨ib, 5, none⟩))) rfl (by kernel_rfl) (by kernel_rfl) (by kernel_rfl) (fun c a w h => HQ.out c a _ _ w h) (Or.inl ⟨by rfl, ?_⟩) hHeld ?_
  · intro W hSw
    obtain ⟨⟨z0, z1, z2, z3, z4, z5, z6, z7, z8, z9⟩, z10⟩ := hSw
    clear hHeld
    go_simp
  try simp only [Act.put, List.setIfInBounds_toArray, List.set_cons_zero, List.set_cons_succ]
  refine wpAnyH_take (i := 20) (oi := { dst := some 121, op := Op.load 35 (Operand.tmp 120), type := 35, pos := "outright.go:63", after := #[{ on := 19, ground := Ground.data }, { on := 18, ground := Ground.guard }], guard := some (18, false) }) (v := (.slice YA na Yc)) rfl (by kernel_rfl) (by kernel_rfl) (by kernel_rfl) (fun c a w h => HQ.out c a _ _ w h) (Or.inl ⟨by rfl, ?_⟩) hHeld ?_
  · intro W hSw
    obtain ⟨⟨z0, z1, z2, z3, z4, z5, z6, z7, z8, z9⟩, z10⟩ := hSw
    clear hHeld
    go_simp
  try simp only [Act.put, List.setIfInBounds_toArray, List.set_cons_zero, List.set_cons_succ]
  refine wpAnyH_take (i := 21) (oi := { dst := some 122, op := Op.call { callee := Callee.builtin Builtin.len, args := #[Operand.tmp 121], argTypes := #[35] }, type := 3, pos := "outright.go:63", after := #[{ on := 20, ground := Ground.data }, { on := 18, ground := Ground.guard }], guard := some (18, false) }) (v := (.int .i64 na)) rfl (by kernel_rfl) (by kernel_rfl) (by kernel_rfl) (fun c a w h => HQ.out c a _ _ w h) (Or.inl ⟨by rfl, ?_⟩) hHeld ?_
  · intro W hSw
    obtain ⟨⟨z0, z1, z2, z3, z4, z5, z6, z7, z8, z9⟩, z10⟩ := hSw
    clear hHeld
    go_simp
  try simp only [Act.put, List.setIfInBounds_toArray, List.set_cons_zero, List.set_cons_succ]
  refine wpAnyH_take (i := 22) (oi := { dst := some 123, op := Op.fieldAddr 25 (Operand.tmp 3) 1, type := 0, pos := "outright.go:63", after := #[{ on := 18, ground := Ground.guard }], guard := some (18, false) }) (v := (.pointer (some ⟨mb, 1, none⟩))) rfl (by kernel_rfl) (by kernel_rfl) (by kernel_rfl) (fun c a w h => HQ.out c a _ _ w h) (Or.inl ⟨by rfl, ?_⟩) hHeld ?_
  · intro W hSw
    obtain ⟨⟨z0, z1, z2, z3, z4, z5, z6, z7, z8, z9⟩, z10⟩ := hSw
    clear hHeld
    go_simp
  try simp only [Act.put, List.setIfInBounds_toArray, List.set_cons_zero, List.set_cons_succ]
  refine wpAnyH_take (i := 23) (oi := { dst := some 124, op := Op.load 23 (Operand.tmp 123), type := 23, pos := "outright.go:63", after := #[{ on := 22, ground := Ground.data }, { on := 18, ground := Ground.guard }], guard := some (18, false) }) (v := (.slice (some ⟨fb, fo, none⟩) nf fcap)) rfl (by kernel_rfl) (by kernel_rfl) (by kernel_rfl) (fun c a w h => HQ.out c a _ _ w h) (Or.inl ⟨by rfl, ?_⟩) hHeld ?_
  · intro W hSw
    obtain ⟨⟨z0, z1, z2, z3, z4, z5, z6, z7, z8, z9⟩, z10⟩ := hSw
    clear hHeld
    go_simp
  try simp only [Act.put, List.setIfInBounds_toArray, List.set_cons_zero, List.set_cons_succ]
  refine wpAnyH_take (i := 24) (oi := { dst := some 125, op := Op.fieldAddr 37 (Operand.tmp 15) 4, type := 0, pos := "outright.go:63", after := #[{ on := 18, ground := Ground.guard }], guard := some (18, false) }) (v := (.pointer (some ⟨ib, 4, none⟩))) rfl (by kernel_rfl) (by kernel_rfl) (by kernel_rfl) (fun c a w h => HQ.out c a _ _ w h) (Or.inl ⟨by rfl, ?_⟩) hHeld ?_
  · intro W hSw
    obtain ⟨⟨z0, z1, z2, z3, z4, z5, z6, z7, z8, z9⟩, z10⟩ := hSw
    clear hHeld
    go_simp
  try simp only [Act.put, List.setIfInBounds_toArray, List.set_cons_zero, List.set_cons_succ]
  refine wpAnyH_take (i := 25) (oi := { dst := some 126, op := Op.load 3 (Operand.tmp 125), type := 3, pos := "outright.go:63", after := #[{ on := 24, ground := Ground.data }, { on := 18, ground := Ground.guard }], guard := some (18, false) }) (v := (.int .i64 (kk : Int))) rfl (by kernel_rfl) (by kernel_rfl) (by kernel_rfl) (fun c a w h => HQ.out c a _ _ w h) (Or.inl ⟨by rfl, ?_⟩) hHeld ?_
  · intro W hSw
    obtain ⟨⟨z0, z1, z2, z3, z4, z5, z6, z7, z8, z9⟩, z10⟩ := hSw
    clear hHeld
    go_simp
  try simp only [Act.put, List.setIfInBounds_toArray, List.set_cons_zero, List.set_cons_succ]
  refine wpAnyH_take (i := 26) (oi := { dst := some 127, op := Op.indexAddr 23 (Operand.tmp 124) (Operand.tmp 126), type := 0, pos := "outright.go:63", after := #[{ on := 23, ground := Ground.data }, { on := 25, ground := Ground.data }, { on := 18, ground := Ground.guard }], guard := some (18, false) }) (v := (.pointer (some ⟨fb, fo + kk * 4, none⟩))) rfl (by kernel_rfl) (by kernel_rfl) (by kernel_rfl) (fun c a w h => HQ.out c a _ _ w h) (Or.inl ⟨by rfl, ?_⟩) hHeld ?_
  · intro W hSw
    obtain ⟨⟨z0, z1, z2, z3, z4, z5, z6, z7, z8, z9⟩, z10⟩ := hSw
    clear hHeld
    go_simp
  try simp only [Act.put, List.setIfInBounds_toArray, List.set_cons_zero, List.set_cons_succ]
  refine wpAnyH_take (i := 27) (oi := { dst := some 128, op := Op.fieldAddr 41 (Operand.tmp 127) 0, type := 0, pos := "outright.go:63", after := #[{ on := 26, ground := Ground.data }, { on := 18, ground := Ground.guard }], guard := some (18, false) }) (v := (.pointer (some ⟨fb, fo + kk * 4, none⟩))) rfl (by kernel_rfl) (by kernel_rfl) (by kernel_rfl) (fun c a w h => HQ.out c a _ _ w h) (Or.inl ⟨by rfl, ?_⟩) hHeld ?_
  · intro W hSw
    obtain ⟨⟨z0, z1, z2, z3, z4, z5, z6, z7, z8, z9⟩, z10⟩ := hSw
    clear hHeld
    go_simp
  try simp only [Act.put, List.setIfInBounds_toArray, List.set_cons_zero, List.set_cons_succ]
  refine wpAnyH_take (i := 28) (oi := { dst := some 129, op := Op.load 3 (Operand.tmp 128), type := 3, pos := "outright.go:63", after := #[{ on := 27, ground := Ground.data }, { on := 18, ground := Ground.guard }], guard := some (18, false) }) (v := (.int .i64 na)) rfl (by kernel_rfl) (by kernel_rfl) (by kernel_rfl) (fun c a w h => HQ.out c a _ _ w h) (Or.inl ⟨by rfl, ?_⟩) hHeld ?_
  · intro W hSw
    obtain ⟨⟨z0, z1, z2, z3, z4, z5, z6, z7, z8, z9⟩, z10⟩ := hSw
    clear hHeld
    go_simp
  try simp only [Act.put, List.setIfInBounds_toArray, List.set_cons_zero, List.set_cons_succ]
  refine wpAnyH_take (i := 29) (oi := { dst := some 130, op := Op.binOp BinOp.neq 3 (Operand.tmp 122) (Operand.tmp 129) 3, type := 4, pos := "outright.go:63", after := #[{ on := 21, ground := Ground.data }, { on := 28, ground := Ground.data }, { on := 18, ground := Ground.guard }], guard := some (18, false) }) (v := (.bool false)) rfl (by kernel_rfl) (by kernel_rfl) (by kernel_rfl) (fun c a w h => HQ.out c a _ _ w h) (Or.inl ⟨by rfl, ?_⟩) hHeld ?_
  · intro W hSw
    obtain ⟨⟨z0, z1, z2, z3, z4, z5, z6, z7, z8, z9⟩, z10⟩ := hSw
    clear hHeld
    go_simp
  try simp only [Act.put, List.setIfInBounds_toArray, List.set_cons_zero, List.set_cons_succ]
  refine wpAnyH_take (i := 30) (oi := { dst := some 131, op := Op.pick (Operand.tmp 119) (Operand.const (Value.bool true)) (Operand.tmp 130), type := 4, pos := "outright.go:63", after := #[{ on := 18, ground := Ground.data }, { on := 29, ground := Ground.data }, { on := 11, ground := Ground.guard }], guard := some (11, true) }) (v := (.bool false)) rfl (by kernel_rfl) (by kernel_rfl) (by kernel_rfl) (fun c a w h => HQ.out c a _ _ w h) (Or.inl ⟨by rfl, ?_⟩) hHeld ?_
  · intro W hSw
    obtain ⟨⟨z0, z1, z2, z3, z4, z5, z6, z7, z8, z9⟩, z10⟩ := hSw
    clear hHeld
    go_simp
  try simp only [Act.put, List.setIfInBounds_toArray, List.set_cons_zero, List.set_cons_succ]
  refine wpAnyH_take (i := 31) (oi := { dst := some 132, op := Op.pick (Operand.tmp 112) (Operand.tmp 131) (Operand.const (Value.bool false)), type := 4, pos := "outright.go:63", after := #[{ on := 11, ground := Ground.data }, { on := 30, ground := Ground.data }, { on := 7, ground := Ground.guard }], guard := some (7, false) }) (v := (.bool false)) rfl (by kernel_rfl) (by kernel_rfl) (by kernel_rfl) (fun c a w h => HQ.out c a _ _ w h) (Or.inl ⟨by rfl, ?_⟩) hHeld ?_
  · intro W hSw
    obtain ⟨⟨z0, z1, z2, z3, z4, z5, z6, z7, z8, z9⟩, z10⟩ := hSw
    clear hHeld
    go_simp
  try simp only [Act.put, List.setIfInBounds_toArray, List.set_cons_zero, List.set_cons_succ]
  refine wpAnyH_take (i := 32) (oi := { dst := some 133, op := Op.pick (Operand.tmp 108) (Operand.const (Value.bool true)) (Operand.tmp 132), type := 4, pos := "outright.go:63", after := #[{ on := 7, ground := Ground.data }, { on := 31, ground := Ground.data }], guard := none }) (v := (.bool false)) rfl (by kernel_rfl) (by kernel_rfl) (by kernel_rfl) (fun c a w h => HQ.out c a _ _ w h) (Or.inl ⟨by rfl, ?_⟩) hHeld ?_
  · intro W hSw
    obtain ⟨⟨z0, z1, z2, z3, z4, z5, z6, z7, z8, z9⟩, z10⟩ := hSw
    clear hHeld
    go_simp
  try simp only [Act.put, List.setIfInBounds_toArray, List.set_cons_zero, List.set_cons_succ]
  refine wpAnyH_take (i := 33) (oi := { dst := some 134, op := Op.move (Operand.tmp 133), type := 4, pos := "outright.go:63", after := #[{ on := 32, ground := Ground.data }, { on := 18, ground := Ground.chain }], guard := none }) (v := (.bool false)) rfl (by kernel_rfl) (by kernel_rfl) (by kernel_rfl) (fun c a w h => HQ.out c a _ _ w h) (Or.inl ⟨by rfl, ?_⟩) hHeld ?_
  · intro W hSw
    obtain ⟨⟨z0, z1, z2, z3, z4, z5, z6, z7, z8, z9⟩, z10⟩ := hSw
    clear hHeld
    go_simp
  try simp only [Act.put, List.setIfInBounds_toArray, List.set_cons_zero, List.set_cons_succ]
  refine wpAnyH_take (i := 34) (oi := { dst := some 135, op := Op.fieldAddr 37 (Operand.tmp 15) 0, type := 0, pos := "outright.go:63", after := #[{ on := 33, ground := Ground.guard }], guard := some (33, false) }) (v := (.pointer (some ⟨ib, 0, none⟩))) rfl (by kernel_rfl) (by kernel_rfl) (by kernel_rfl) (fun c a w h => HQ.out c a _ _ w h) (Or.inl ⟨by rfl, ?_⟩) hHeld ?_
  · intro W hSw
    obtain ⟨⟨z0, z1, z2, z3, z4, z5, z6, z7, z8, z9⟩, z10⟩ := hSw
    clear hHeld
    go_simp
  try simp only [Act.put, List.setIfInBounds_toArray, List.set_cons_zero, List.set_cons_succ]
  refine wpAnyH_take (i := 35) (oi := { dst := some 136, op := Op.load 3 (Operand.tmp 135), type := 3, pos := "outright.go:63", after := #[{ on := 34, ground := Ground.data }, { on := 33, ground := Ground.guard }], guard := some (33, false) }) (v := (.int .i64 28)) rfl (by kernel_rfl) (by kernel_rfl) (by kernel_rfl) (fun c a w h => HQ.out c a _ _ w h) (Or.inl ⟨by rfl, ?_⟩) hHeld ?_
  · intro W hSw
    obtain ⟨⟨z0, z1, z2, z3, z4, z5, z6, z7, z8, z9⟩, z10⟩ := hSw
    clear hHeld
    go_simp
  try simp only [Act.put, List.setIfInBounds_toArray, List.set_cons_zero, List.set_cons_succ]
  refine wpAnyH_take (i := 36) (oi := { dst := some 137, op := Op.binOp BinOp.eql 3 (Operand.tmp 136) (Operand.const (Value.int IntKind.i64 24)) 3, type := 4, pos := "outright.go:63", after := #[{ on := 35, ground := Ground.data }, { on := 33, ground := Ground.guard }], guard := some (33, false) }) (v := (.bool false)) rfl (by kernel_rfl) (by kernel_rfl) (by kernel_rfl) (fun c a w h => HQ.out c a _ _ w h) (Or.inl ⟨by rfl, ?_⟩) hHeld ?_
  · intro W hSw
    obtain ⟨⟨z0, z1, z2, z3, z4, z5, z6, z7, z8, z9⟩, z10⟩ := hSw
    clear hHeld
    go_simp
  try simp only [Act.put, List.setIfInBounds_toArray, List.set_cons_zero, List.set_cons_succ]
  refine wpAnyH_take (i := 37) (oi := { dst := some 138, op := Op.move (Operand.tmp 137), type := 4, pos := "outright.go:63", after := #[{ on := 36, ground := Ground.data }, { on := 33, ground := Ground.chain }, { on := 33, ground := Ground.guard }], guard := some (33, false) }) (v := (.bool false)) rfl (by kernel_rfl) (by kernel_rfl) (by kernel_rfl) (fun c a w h => HQ.out c a _ _ w h) (Or.inl ⟨by rfl, ?_⟩) hHeld ?_
  · intro W hSw
    obtain ⟨⟨z0, z1, z2, z3, z4, z5, z6, z7, z8, z9⟩, z10⟩ := hSw
    clear hHeld
    go_simp
  try simp only [Act.put, List.setIfInBounds_toArray, List.set_cons_zero, List.set_cons_succ]
  refine wpAnyH_take (i := 38) (oi := { dst := some 139, op := Op.fieldAddr 37 (Operand.tmp 15) 4, type := 0, pos := "outright.go:63", after := #[{ on := 37, ground := Ground.guard }], guard := some (37, true) }) (v := undef) rfl (by kernel_rfl) (by kernel_rfl) (by kernel_rfl) (fun c a w h => HQ.out c a _ _ w h) (Or.inr ⟨by rfl, rfl⟩) hHeld ?_
  try simp only [Act.put, List.setIfInBounds_toArray, List.set_cons_zero, List.set_cons_succ]
  refine wpAnyH_take (i := 39) (oi := { dst := some 140, op := Op.load 3 (Operand.tmp 139), type := 3, pos := "outright.go:63", after := #[{ on := 38, ground := Ground.data }, { on := 37, ground := Ground.guard }], guard := some (37, true) }) (v := undef) rfl (by kernel_rfl) (by kernel_rfl) (by kernel_rfl) (fun c a w h => HQ.out c a _ _ w h) (Or.inr ⟨by rfl, rfl⟩) hHeld ?_
  try simp only [Act.put, List.setIfInBounds_toArray, List.set_cons_zero, List.set_cons_succ]
  refine wpAnyH_take (i := 40) (oi := { dst := some 141, op := Op.fieldAddr 25 (Operand.tmp 3) 0, type := 0, pos := "outright.go:63", after := #[{ on := 37, ground := Ground.guard }], guard := some (37, true) }) (v := undef) rfl (by kernel_rfl) (by kernel_rfl) (by kernel_rfl) (fun c a w h => HQ.out c a _ _ w h) (Or.inr ⟨by rfl, rfl⟩) hHeld ?_
  try simp only [Act.put, List.setIfInBounds_toArray, List.set_cons_zero, List.set_cons_succ]
  refine wpAnyH_take (i := 41) (oi := { dst := some 142, op := Op.load 22 (Operand.tmp 141), type := 22, pos := "outright.go:63", after := #[{ on := 40, ground := Ground.data }, { on := 37, ground := Ground.guard }], guard := some (37, true) }) (v := undef) rfl (by kernel_rfl) (by kernel_rfl) (by kernel_rfl) (fun c a w h => HQ.out c a _ _ w h) (Or.inr ⟨by rfl, rfl⟩) hHeld ?_
  try simp only [Act.put, List.setIfInBounds_toArray, List.set_cons_zero, List.set_cons_succ]
  refine wpAnyH_take (i := 42) (oi := { dst := some 143, op := Op.call { callee := Callee.builtin Builtin.len, args := #[Operand.tmp 142], argTypes := #[22] }, type := 3, pos := "outright.go:63", after := #[{ on := 41, ground := Ground.data }, { on := 37, ground := Ground.guard }], guard := some (37, true) }) (v := undef) rfl (by kernel_rfl) (by kernel_rfl) (by kernel_rfl) (fun c a w h => HQ.out c a _ _ w h) (Or.inr ⟨by rfl, rfl⟩) hHeld ?_
  try simp only [Act.put, List.setIfInBounds_toArray, List.set_cons_zero, List.set_cons_succ]
  refine wpAnyH_take (i := 43) (oi := { dst := some 144, op := Op.binOp BinOp.gtr 3 (Operand.tmp 140) (Operand.tmp 143) 3, type := 4, pos := "outright.go:63", after := #[{ on := 39, ground := Ground.data }, { on := 42, ground := Ground.data }, { on := 37, ground := Ground.guard }], guard := some (37, true) }) (v := undef) rfl (by kernel_rfl) (by kernel_rfl) (by kernel_rfl) (fun c a w h => HQ.out c a _ _ w h) (Or.inr ⟨by rfl, rfl⟩) hHeld ?_
  try simp only [Act.put, List.setIfInBounds_toArray, List.set_cons_zero, List.set_cons_succ]
  refine wpAnyH_take (i := 44) (oi := { dst := some 145, op := Op.pick (Operand.tmp 138) (Operand.tmp 144) (Operand.const (Value.bool false)), type := 4, pos := "outright.go:63", after := #[{ on := 37, ground := Ground.data }, { on := 43, ground := Ground.data }, { on := 33, ground := Ground.guard }], guard := some (33, false) }) (v := (.bool false)) rfl (by kernel_rfl) (by kernel_rfl) (by kernel_rfl) (fun c a w h => HQ.out c a _ _ w h) (Or.inl ⟨by rfl, ?_⟩) hHeld ?_
  · intro W hSw
    obtain ⟨⟨z0, z1, z2, z3, z4, z5, z6, z7, z8, z9⟩, z10⟩ := hSw
    clear hHeld
    go_simp
  try simp only [Act.put, List.setIfInBounds_toArray, List.set_cons_zero, List.set_cons_succ]
  refine wpAnyH_take (i := 45) (oi := { dst := some 146, op := Op.pick (Operand.tmp 134) (Operand.const (Value.bool true)) (Operand.tmp 145), type := 4, pos := "outright.go:63", after := #[{ on := 33, ground := Ground.data }, { on := 44, ground := Ground.data }], guard := none }) (v := (.bool false)) rfl (by kernel_rfl) (by kernel_rfl) (by kernel_rfl) (fun c a w h => HQ.out c a _ _ w h) (Or.inl ⟨by rfl, ?_⟩) hHeld ?_
  · intro W hSw
    obtain ⟨⟨z0, z1, z2, z3, z4, z5, z6, z7, z8, z9⟩, z10⟩ := hSw
    clear hHeld
    go_simp
  try simp only [Act.put, List.setIfInBounds_toArray, List.set_cons_zero, List.set_cons_succ]
  refine wpAnyH_done (by kernel_rfl) ?_ _
  exact HH.out w6 _ _ _ _ _ _ _ _ _ _ _ _ _ _ _ _ _ _ _ _ _ _ _ _ _ _ _ _ _ _ _ _ _ _ _ _ _ _ _ _ _ _ _ _ _ H6C.out
set_option maxRecDepth 100000 in
set_option maxHeartbeats 32000000 in
theorem region20_data {Q : Exit → Act → World → Prop} (hQ : ∀ c a (d : Tmp) v w, Q (.panic c) (Act.put a (some d) v) w → Q (.panic c) a w) {W3 : World} {ib fx mb na Yc nd dc nf fcap : Nat} {n1 : Int} {FA : Option Addr} {ca b1 c rg ar : Int} {YA DA : Option Addr} {u0 u1 u2 u4 u5 u6 u7 u9 u10 u11 u12 u13 u14 u16 u17 u18 u19 u20 u21 u22 u23 u24 u25 u26 u27 u28 u29 u30 u31 u32 u33 u34 u35 u36 u37 u38 u39 u40 u41 u42 u43 u44 u45 u46 u47 u48 u49 u50 u51 u52 u53 u54 u55 u56 u57 u58 u59 u60 u61 u62 u63 u64 u65 u66 u67 u68 u69 u70 u71 u72 u73 u74 u75 u76 u77 u78 u79 u80 u81 u82 u83 u84 u85 u86 u87 u88 u89 u90 u91 u92 u93 u94 u95 u96 u97 u98 u99 u100 u101 u102 u103 u104 u105 u106 u107 u108 u109 u110 u111 u112 u113 u114 u115 u116 u117 u118 u119 u120 u121 u122 u123 u124 u125 u126 u127 u128 u129 u130 u131 u132 u133 u134 u135 u136 u137 u138 u139 u140 u141 u142 u143 u144 u145 u146 u147 u148 u149 u150 u151 u152 u153 u154 u155 u156 u157 u158 u159 u160 u161 u162 u163 u164 u165 u166 u167 u168 u169 u170 u171 u172 u173 u174 u175 u176 u177 u178 u179 u180 u181 u182 u183 u184 u185 u186 u187 u188 u189 u190 u191 u192 u193 u194 u195 u196 u197 u198 u199 u200 u201 u202 u203 u204 u205 u206 u207 u208 u209 u210 u211 u212 u213 u214 u215 u216 u217 u218 u219 u220 u221 u222 u223 u224 u225 u226 u227 u228 : Value} (h1 : n1 ≤ (nd : Int)) 
    (HCI : ∀ W, Below W3.heap.size W3 W → Calls Tryz.prog 21 #[.agg (insCells 24 ca b1 c n1 (.slice YA na Yc)), .int .i64 rg, .int .i64 ar] W (Makes W (.int .i64 0)))
    (HS : ∀ W, Below W3.heap.size W3 W → S20 ib fx mb 24 ca b1 c n1 (.slice YA na Yc) (.slice DA nd dc) (.slice FA nf fcap) rg ar W)
    (H : ∀ (w6 : World) (v101 v102 v103 v104 v105 v106 v107 v108 v109 v110 v111 v112 v113 v114 v115 v116 v117 v118 v119 v120 v121 v122 v123 v124 v125 v126 v127 v128 v129 v130 v131 v132 v133 v134 v135 v136 v137 v138 v139 v140 v141 v142 v143 v144 v145 : Value), Below W3.heap.size W3 w6 → Q .normal { tmps := #[u0, u1, u2, .pointer (some ⟨mb, 0, none⟩), u4, u5, u6, u7, .pointer (some ⟨fx, 0, none⟩), u9, u10, u11, u12, u13, u14, .pointer (some ⟨ib, 0, none⟩), u16, u17, u18, u19, u20, u21, u22, u23, u24, u25, u26, u27, u28, u29, u30, u31, u32, u33, u34, u35, u36, u37, u38, u39, u40, u41, u42, u43, u44, u45, u46, u47, u48, u49, u50, u51, u52, u53, u54, u55, u56, u57, u58, u59, u60, u61, u62, u63, u64, u65, u66, u67, u68, u69, u70, u71, u72, u73, u74, u75, u76, u77, u78, u79, u80, u81, u82, u83, u84, u85, u86, u87, u88, u89, u90, u91, u92, u93, u94, u95, u96, u97, u98, u99, u100, v101, v102, v103, v104, v105, v106, v107, v108, v109, v110, v111, v112, v113, v114, v115, v116, v117, v118, v119, v120, v121, v122, v123, v124, v125, v126, v127, v128, v129, v130, v131, v132, v133, v134, v135, v136, v137, v138, v139, v140, v141, v142, v143, v144, v145, .bool false, u147, u148, u149, u150, u151, u152, u153, u154, u155, u156, u157, u158, u159, u160, u161, u162, u163, u164, u165, u166, u167, u168, u169, u170, u171, u172, u173, u174, u175, u176, u177, u178, u179, u180, u181, u182, u183, u184, u185, u186, u187, u188, u189, u190, u191, u192, u193, u194, u195, u196, u197, u198, u199, u200, u201, u202, u203, u204, u205, u206, u207, u208, u209, u210, u211, u212, u213, u214, u215, u216, u217, u218, u219, u220, u221, u222, u223, u224, u225, u226, u227, u228], defers := [] } w6) :
    Code.wp Tryz.prog (Code.region 20 ops20 true) Q { tmps := #[u0, u1, u2, .pointer (some ⟨mb, 0, none⟩), u4, u5, u6, u7, .pointer (some ⟨fx, 0, none⟩), u9, u10, u11, u12, u13, u14, .pointer (some ⟨ib, 0, none⟩), u16, u17, u18, u19, u20, u21, u22, u23, u24, u25, u26, u27, u28, u29, u30, u31, u32, u33, u34, u35, u36, u37, u38, u39, u40, u41, u42, u43, u44, u45, u46, u47, u48, u49, u50, u51, u52, u53, u54, u55, u56, u57, u58, u59, u60, u61, u62, u63, u64, u65, u66, u67, u68, u69, u70, u71, u72, u73, u74, u75, u76, u77, u78, u79, u80, u81, u82, u83, u84, u85, u86, u87, u88, u89, u90, u91, u92, u93, u94, u95, u96, u97, u98, u99, u100, u101, u102, u103, u104, u105, u106, u107, u108, u109, u110, u111, u112, u113, u114, u115, u116, u117, u118, u119, u120, u121, u122, u123, u124, u125, u126, u127, u128, u129, u130, u131, u132, u133, u134, u135, u136, u137, u138, u139, u140, u141, u142, u143, u144, u145, u146, u147, u148, u149, u150, u151, u152, u153, u154, u155, u156, u157, u158, u159, u160, u161, u162, u163, u164, u165, u166, u167, u168, u169, u170, u171, u172, u173, u174, u175, u176, u177, u178, u179, u180, u181, u182, u183, u184, u185, u186, u187, u188, u189, u190, u191, u192, u193, u194, u195, u196, u197, u198, u199, u200, u201, u202, u203, u204, u205, u206, u207, u208, u209, u210, u211, u212, u213, u214, u215, u216, u217, u218, u219, u220, u221, u222, u223, u224, u225, u226, u227, u228], defers := [] } W3 := by
  have HH := Lib.hid H
  have HC := Lib.hid HCI
  have HSS := Lib.hid HS
  have HQ := Lib.hid hQ
  have ggt : decide ((nd : Int) < n1) = false := by simp; omega
  clear H HCI HS hQ
  refine wp_region_held_drew (S := S20 ib fx mb 24 ca b1 c n1 (.slice YA na Yc) (.slice DA nd dc) (.slice FA nf fcap) rg ar) (by kernel_rfl) (HSS.out _ (Below.refl _ W3).drew) (fun hHeld => ?_)
  show wpAnyH _ _ ops20 _ _ 46 (Array.replicate 46 false) _ _
  refine wpAnyH_take (i := 0) (oi := { dst := some 101, op := Op.load 37 (Operand.tmp 15), type := 37, pos := "outright.go:63", after := #[], guard := none }) (v := (.agg (insCells 24 ca b1 c n1 (.slice YA na Yc)))) rfl (by kernel_rfl) (by kernel_rfl) (by kernel_rfl) (fun c a w h => HQ.out c a _ _ w h) (Or.inl ⟨by rfl, ?_⟩) hHeld ?_
  · intro W hSw
    obtain ⟨z0, z1, z2, z3, z4, z5, z6, z7, z8, z9⟩ := hSw
    clear hHeld
    go_simp
  try simp only [Act.put, List.setIfInBounds_toArray, List.set_cons_zero, List.set_cons_succ]
  refine wpAnyH_take (i := 1) (oi := { dst := some 102, op := Op.fieldAddr 41 (Operand.tmp 8) 1, type := 0, pos := "outright.go:63", after := #[], guard := none }) (v := (.pointer (some ⟨fx, 1, none⟩))) rfl (by kernel_rfl) (by kernel_rfl) (by kernel_rfl) (fun c a w h => HQ.out c a _ _ w h) (Or.inl ⟨by rfl, ?_⟩) hHeld ?_
  · intro W hSw
    obtain ⟨z0, z1, z2, z3, z4, z5, z6, z7, z8, z9⟩ := hSw
    clear hHeld
    go_simp
  try simp only [Act.put, List.setIfInBounds_toArray, List.set_cons_zero, List.set_cons_succ]
  refine wpAnyH_take (i := 2) (oi := { dst := some 103, op := Op.load 3 (Operand.tmp 102), type := 3, pos := "outright.go:63", after := #[{ on := 1, ground := Ground.data }], guard := none }) (v := (.int .i64 rg)) rfl (by kernel_rfl) (by kernel_rfl) (by kernel_rfl) (fun c a w h => HQ.out c a _ _ w h) (Or.inl ⟨by rfl, ?_⟩) hHeld ?_
  · intro W hSw
    obtain ⟨z0, z1, z2, z3, z4, z5, z6, z7, z8, z9⟩ := hSw
    clear hHeld
    go_simp
  try simp only [Act.put, List.setIfInBounds_toArray, List.set_cons_zero, List.set_cons_succ]
  refine wpAnyH_take (i := 3) (oi := { dst := some 104, op := Op.fieldAddr 41 (Operand.tmp 8) 2, type := 0, pos := "outright.go:63", after := #[], guard := none }) (v := (.pointer (some ⟨fx, 2, none⟩))) rfl (by kernel_rfl) (by kernel_rfl) (by kernel_rfl) (fun c a w h => HQ.out c a _ _ w h) (Or.inl ⟨by rfl, ?_⟩) hHeld ?_
  · intro W hSw
    obtain ⟨z0, z1, z2, z3, z4, z5, z6, z7, z8, z9⟩ := hSw
    clear hHeld
    go_simp
  try simp only [Act.put, List.setIfInBounds_toArray, List.set_cons_zero, List.set_cons_succ]
  refine wpAnyH_take (i := 4) (oi := { dst := some 105, op := Op.load 3 (Operand.tmp 104), type := 3, pos := "outright.go:63", after := #[{ on := 3, ground := Ground.data }], guard := none }) (v := (.int .i64 ar)) rfl (by kernel_rfl) (by kernel_rfl) (by kernel_rfl) (fun c a w h => HQ.out c a _ _ w h) (Or.inl ⟨by rfl, ?_⟩) hHeld ?_
  · intro W hSw
    obtain ⟨z0, z1, z2, z3, z4, z5, z6, z7, z8, z9⟩ := hSw
    clear hHeld
    go_simp
  try simp only [Act.put, List.setIfInBounds_toArray, List.set_cons_zero, List.set_cons_succ]
  refine wpAnyH_ready (rs := [5]) (by kernel_rfl) (by simp) ?_
  refine AllReadyH.cons (o := { dst := some 106, op := Op.call { callee := Callee.value (Operand.func 21), args := #[Operand.tmp 101, Operand.tmp 103, Operand.tmp 105], argTypes := #[37, 3, 3] }, type := 29, pos := "outright.go:63", after := #[{ on := 0, ground := Ground.data }, { on := 2, ground := Ground.data }, { on := 4, ground := Ground.data }], guard := none }) rfl (fun K hK => ?_) AllReadyH.nil
  go_wp2_with (go_at_call 21; (with_reducible refine (HC.out W3.drew (Below.refl _ W3).drew).mono ?_); rintro e w6 ⟨rfl, hb⟩; have H6C := Lib.hid (Below.trans (Below.refl W3.heap.size W3).drew hb); clear hb)
  clear hHeld
  refine hK.out _ _ (HSS.out w6 H6C.out) (fun hHeld => ?_)
  clear hK K
  try simp only [Act.put, List.setIfInBounds_toArray, List.set_cons_zero, List.set_cons_succ]
  refine wpAnyH_take (i := 6) (oi := { dst := some 107, op := Op.binOp BinOp.neq 29 (Operand.tmp 106) (Operand.const (Value.int IntKind.i64 0)) 29, type := 4, pos := "outright.go:63", after := #[{ on := 5, ground := Ground.data }], guard := none }) (v := (.bool false)) rfl (by kernel_rfl) (by kernel_rfl) (by kernel_rfl) (fun c a w h => HQ.out c a _ _ w h) (Or.inl ⟨by rfl, ?_⟩) hHeld ?_
  · intro W hSw
    obtain ⟨z0, z1, z2, z3, z4, z5, z6, z7, z8, z9⟩ := hSw
    clear hHeld
    go_simp
  try simp only [Act.put, List.setIfInBounds_toArray, List.set_cons_zero, List.set_cons_succ]
  refine wpAnyH_take (i := 7) (oi := { dst := some 108, op := Op.move (Operand.tmp 107), type := 4, pos := "outright.go:63", after := #[{ on := 6, ground := Ground.data }, { on := 5, ground := Ground.chain }], guard := none }) (v := (.bool false)) rfl (by kernel_rfl) (by kernel_rfl) (by kernel_rfl) (fun c a w h => HQ.out c a _ _ w h) (Or.inl ⟨by rfl, ?_⟩) hHeld ?_
  · intro W hSw
    obtain ⟨z0, z1, z2, z3, z4, z5, z6, z7, z8, z9⟩ := hSw
    clear hHeld
    go_simp
  try simp only [Act.put, List.setIfInBounds_toArray, List.set_cons_zero, List.set_cons_succ]
  refine wpAnyH_take (i := 8) (oi := { dst := some 109, op := Op.fieldAddr 37 (Operand.tmp 15) 0, type := 0, pos := "outright.go:63", after := #[{ on := 7, ground := Ground.guard }], guard := some (7, false) }) (v := (.pointer (some ⟨ib, 0, none⟩))) rfl (by kernel_rfl) (by kernel_rfl) (by kernel_rfl) (fun c a w h => HQ.out c a _ _ w h) (Or.inl ⟨by rfl, ?_⟩) hHeld ?_
  · intro W hSw
    obtain ⟨z0, z1, z2, z3, z4, z5, z6, z7, z8, z9⟩ := hSw
    clear hHeld
    go_simp
  try simp only [Act.put, List.setIfInBounds_toArray, List.set_cons_zero, List.set_cons_succ]
  refine wpAnyH_take (i := 9) (oi := { dst := some 110, op := Op.load 3 (Operand.tmp 109), type := 3, pos := "outright.go:63", after := #[{ on := 8, ground := Ground.data }, { on := 7, ground := Ground.guard }], guard := some (7, false) }) (v := (.int .i64 24)) rfl (by kernel_rfl) (by kernel_rfl) (by kernel_rfl) (fun c a w h => HQ.out c a _ _ w h) (Or.inl ⟨by rfl, ?_⟩) hHeld ?_
  · intro W hSw
    obtain ⟨z0, z1, z2, z3, z4, z5, z6, z7, z8, z9⟩ := hSw
    clear hHeld
    go_simp
  try simp only [Act.put, List.setIfInBounds_toArray, List.set_cons_zero, List.set_cons_succ]
  refine wpAnyH_take (i := 10) (oi := { dst := some 111, op := Op.binOp BinOp.eql 3 (Operand.tmp 110) (Operand.const (Value.int IntKind.i64 28)) 3, type := 4, pos := "outright.go:63", after := #[{ on := 9, ground := Ground.data }, { on := 7, ground := Ground.guard }], guard := some (7, false) }) (v := (.bool false)) rfl (by kernel_rfl) (by kernel_rfl) (by kernel_rfl) (fun c a w h => HQ.out c a _ _ w h) (Or.inl ⟨by rfl, ?_⟩) hHeld ?_
  · intro W hSw
    obtain ⟨z0, z1, z2, z3, z4, z5, z6, z7, z8, z9⟩ := hSw
    clear hHeld
    go_simp
  try simp only [Act.put, List.setIfInBounds_toArray, List.set_cons_zero, List.set_cons_succ]
  refine wpAnyH_take (i := 11) (oi := { dst := some 112, op := Op.move (Operand.tmp 111), type := 4, pos := "outright.go:63", after := #[{ on := 10, ground := Ground.data }, { on := 7, ground := Ground.chain }, { on := 7, ground := Ground.guard }], guard := some (7, false) }) (v := (.bool false)) rfl (by kernel_rfl) (by kernel_rfl) (by kernel_rfl) (fun c a w h => HQ.out c a _ _ w h) (Or.inl ⟨by rfl, ?_⟩) hHeld ?_
  · intro W hSw
    obtain ⟨z0, z1, z2, z3, z4, z5, z6, z7, z8, z9⟩ := hSw
    clear hHeld
    go_simp
  try simp only [Act.put, List.setIfInBounds_toArray, List.set_cons_zero, List.set_cons_succ]
  refine wpAnyH_take (i := 12) (oi := { dst := some 113, op := Op.fieldAddr 37 (Operand.tmp 15) 4, type := 0, pos := "outright.go:63", after := #[{ on := 11, ground := Ground.guard }], guard := some (11, true) }) (v := undef) rfl (by kernel_rfl) (by kernel_rfl) (by kernel_rfl) (fun c a w h => HQ.out c a _ _ w h) (Or.inr ⟨by rfl, rfl⟩) hHeld ?_
  try simp only [Act.put, List.setIfInBounds_toArray, List.set_cons_zero, List.set_cons_succ]
  refine wpAnyH_take (i := 13) (oi := { dst := some 114, op := Op.load 3 (Operand.tmp 113), type := 3, pos := "outright.go:63", after := #[{ on := 12, ground := Ground.data }, { on := 11, ground := Ground.guard }], guard := some (11, true) }) (v := undef) rfl (by kernel_rfl) (by kernel_rfl) (by kernel_rfl) (fun c a w h => HQ.out c a _ _ w h) (Or.inr ⟨by rfl, rfl⟩) hHeld ?_
  try simp only [Act.put, List.setIfInBounds_toArray, List.set_cons_zero, List.set_cons_succ]
  refine wpAnyH_take (i := 14) (oi := { dst := some 115, op := Op.fieldAddr 25 (Operand.tmp 3) 1, type := 0, pos := "outright.go:63", after := #[{ on := 11, ground := Ground.guard }], guard := some (11, true) }) (v := undef) rfl (by kernel_rfl) (by kernel_rfl) (by kernel_rfl) (fun c a w h => HQ.out c a _ _ w h) (Or.inr ⟨by rfl, rfl⟩) hHeld ?_
  try simp only [Act.put, List.setIfInBounds_toArray, List.set_cons_zero, List.set_cons_succ]
  refine wpAnyH_take (i := 15) (oi := { dst := some 116, op := Op.load 23 (Operand.tmp 115), type := 23, pos := "outright.go:63", after := #[{ on := 14, ground := Ground.data }, { on := 11, ground := Ground.guard }], guard := some (11, true) }) (v := undef) rfl (by kernel_rfl) (by kernel_rfl) (by kernel_rfl) (fun c a w h => HQ.out c a _ _ w h) (Or.inr ⟨by rfl, rfl⟩) hHeld ?_
  try simp only [Act.put, List.setIfInBounds_toArray, List.set_cons_zero, List.set_cons_succ]
  refine wpAnyH_take (i := 16) (oi := { dst := some 117, op := Op.call { callee := Callee.builtin Builtin.len, args := #[Operand.tmp 116], argTypes := #[23] }, type := 3, pos := "outright.go:63", after := #[{ on := 15, ground := Ground.data }, { on := 11, ground := Ground.guard }], guard := some (11, true) }) (v := undef) rfl (by kernel_rfl) (by kernel_rfl) (by kernel_rfl) (fun c a w h => HQ.out c a _ _ w h) (Or.inr ⟨by rfl, rfl⟩) hHeld ?_
  try simp only [Act.put, List.setIfInBounds_toArray, List.set_cons_zero, List.set_cons_succ]
  refine wpAnyH_take (i := 17) (oi := { dst := some 118, op := Op.binOp BinOp.geq 3 (Operand.tmp 114) (Operand.tmp 117) 3, type := 4, pos := "outright.go:63", after := #[{ on := 13, ground := Ground.data }, { on := 16, ground := Ground.data }, { on := 11, ground := Ground.guard }], guard := some (11, true) }) (v := undef) rfl (by kernel_rfl) (by kernel_rfl) (by kernel_rfl) (fun c a w h => HQ.out c a _ _ w h) (Or.inr ⟨by rfl, rfl⟩) hHeld ?_
  try simp only [Act.put, List.setIfInBounds_toArray, List.set_cons_zero, List.set_cons_succ]
  refine wpAnyH_take (i := 18) (oi := { dst := some 119, op := Op.move (Operand.tmp 118), type := 4, pos := "outright.go:63", after := #[{ on := 17, ground := Ground.data }, { on := 11, ground := Ground.chain }, { on := 11, ground := Ground.guard }], guard := some (11, true) }) (v := undef) rfl (by kernel_rfl) (by kernel_rfl) (by kernel_rfl) (fun c a w h => HQ.out c a _ _ w h) (Or.inr ⟨by rfl, rfl⟩) hHeld ?_
  try simp only [Act.put, List.setIfInBounds_toArray, List.set_cons_zero, List.set_cons_succ]
  refine wpAnyH_take (i := 19) (oi := { dst := some 120, op := Op.fieldAddr 37 (Operand.tmp 15) 5, type := 0, pos := "outright.go:63", after := #[{ on := 18, ground := Ground.guard }], guard := some (18, false) }) (v := undef) rfl (by kernel_rfl) (by kernel_rfl) (by kernel_rfl) (fun c a w h => HQ.out c a _ _ w h) (Or.inr ⟨by rfl, rfl⟩) hHeld ?_
  try simp only [Act.put, List.setIfInBounds_toArray, List.set_cons_zero, List.set_cons_succ]
  refine wpAnyH_take (i := 20) (oi := { dst := some 121, op := Op.load 35 (Operand.tmp 120), type := 35, pos := "outright.go:63", after := #[{ on := 19, ground := Ground.data }, { on := 18, ground := Ground.guard }], guard := some (18, false) }) (v := undef) rfl (by kernel_rfl) (by kernel_rfl) (by kernel_rfl) (fun c a w h => HQ.out c a _ _ w h) (Or.inr ⟨by rfl, rfl⟩) hHeld ?_
  try simp only [Act.put, List.setIfInBounds_toArray, List.set_cons_zero, List.set_cons_succ]
  refine wpAnyH_take (i := 21) (oi := { dst := some 122, op := Op.call { callee := Callee.builtin Builtin.len, args := #[Operand.tmp 121], argTypes := #[35] }, type := 3, pos := "outright.go:63", after := #[{ on := 20, ground := Ground.data }, { on := 18, ground := Ground.guard }], guard := some (18, false) }) (v := undef) rfl (by kernel_rfl) (by kernel_rfl) (by kernel_rfl) (fun c a w h => HQ.out c a _ _ w h) (Or.inr ⟨by rfl, rfl⟩) hHeld ?_
  try simp only [Act.put, List.setIfInBounds_toArray, List.set_cons_zero, List.set_cons_succ]
  refine wpAnyH_take (i := 22) (oi := { dst := some 123, op := Op.fieldAddr 25 (Operand.tmp 3) 1, type := 0, pos := "outright.go:63", after := #[{ on := 18, ground := Ground.guard }], guard := some (18, false) }) (v := undef) rfl (by kernel_rfl) (by kernel_rfl) (by kernel_rfl) (fun c a w h => HQ.out c a _ _ w h) (Or.inr ⟨by rfl, rfl⟩) hHeld ?_
  try simp only [Act.put, List.setIfInBounds_toArray, List.set_cons_zero, List.set_cons_succ]
  refine wpAnyH_take (i := 23) (oi := { dst := some 124, op := Op.load 23 (Operand.tmp 123), type := 23, pos := "outright.go:63", after := #[{ on := 22, ground := Ground.data }, { on := 18, ground := Ground.guard }], guard := some (18, false) }) (v := undef) rfl (by kernel_rfl) (by kernel_rfl) (by kernel_rfl) (fun c a w h => HQ.out c a _ _ w h) (Or.inr ⟨by rfl, rfl⟩) hHeld ?_
  try simp only [Act.put, List.setIfInBounds_toArray, List.set_cons_zero, List.set_cons_succ]
  refine wpAnyH_take (i := 24) (oi := { dst := some 125, op := Op.fieldAddr 37 (Operand.tmp 15) 4, type := 0, pos := "outright.go:63", after := #[{ on := 18, ground := Ground.guard }], guard := some (18, false) }) (v := undef) rfl (by kernel_rfl) (by kernel_rfl) (by kernel_rfl) (fun c a w h => HQ.out c a _ _ w h) (Or.inr ⟨by rfl, rfl⟩) hHeld ?_
  try simp only [Act.put, List.setIfInBounds_toArray, List.set_cons_zero, List.set_cons_succ]
  refine wpAnyH_take (i := 25) (oi := { dst := some 126, op := Op.load 3 (Operand.tmp 125), type := 3, pos := "outright.go:63", after := #[{ on := 24, ground := Ground.data }, { on := 18, ground := Ground.guard }], guard := some (18, false) }) (v := undef) rfl (by kernel_rfl) (by kernel_rfl) (by kernel_rfl) (fun c a w h => HQ.out c a _ _ w h) (Or.inr ⟨by rfl, rfl⟩) hHeld ?_
  try simp only [Act.put, List.setIfInBounds_toArray, List.set_cons_zero, List.set_cons_succ]
  refine wpAnyH_take (i := 26) (oi := { dst := some 127, op := Op.indexAddr 23 (Operand.tmp 124) (Operand.tmp 126), type := 0, pos := "outright.go:63", after := #[{ on := 23, ground := Ground.data }, { on := 25, ground := Ground.data }, { on := 18, ground := Ground.guard }], guard := some (18, false) }) (v := undef) rfl (by kernel_rfl) (by kernel_rfl) (by kernel_rfl) (fun c a w h => HQ.out c a _ _ w h) (Or.inr ⟨by rfl, rfl⟩) hHeld ?_
  try simp only [Act.put, List.setIfInBounds_toArray, List.set_cons_zero, List.set_cons_succ]
  refine wpAnyH_take (i := 27) (oi := { dst := some 128, op := Op.fieldAddr 41 (Operand.tmp 127) 0, type := 0, pos := "outright.go:63", after := #[{ on := 26, ground := Ground.data }, { on := 18, ground := Ground.guard }], guard := some (18, false) }) (v := undef) rfl (by kernel_rfl) (by kernel_rfl) (by kernel_rfl) (fun c a w h => HQ.out c a _ _ w h) (Or.inr ⟨by rfl, rfl⟩) hHeld ?_
  try simp only [Act.put, List.setIfInBounds_toArray, List.set_cons_zero, List.set_cons_succ]
  refine wpAnyH_take (i := 28) (oi := { dst := some 129, op := Op.load 3 (Operand.tmp 128), type := 3, pos := "outright.go:63", after := #[{ on := 27, ground := Ground.data }, { on := 18, ground := Ground.guard }], guard := some (18, false) }) (v := undef) rfl (by kernel_rfl) (by kernel_rfl) (by kernel_rfl) (fun c a w h => HQ.out c a _ _ w h) (Or.inr ⟨by rfl, rfl⟩) hHeld ?_
  try simp only [Act.put, List.setIfInBounds_toArray, List.set_cons_zero, List.set_cons_succ]
  refine wpAnyH_take (i := 29) (oi := { dst := some 130, op := Op.binOp BinOp.neq 3 (Operand.tmp 122) (Operand.tmp 129) 3, type := 4, pos := "outright.go:63", after := #[{ on := 21, ground := Ground.data }, { on := 28, ground := Ground.data }, { on := 18, ground := Ground.guard }], guard := some (18, false) }) (v := undef) rfl (by kernel_rfl) (by kernel_rfl) (by kernel_rfl) (fun c a w h => HQ.out c a _ _ w h) (Or.inr ⟨by rfl, rfl⟩) hHeld ?_
  try simp only [Act.put, List.setIfInBounds_toArray, List.set_cons_zero, List.set_cons_succ]
  refine wpAnyH_take (i := 30) (oi := { dst := some 131, op := Op.pick (Operand.tmp 119) (Operand.const (Value.bool true)) (Operand.tmp 130), type := 4, pos := "outright.go:63", after := #[{ on := 18, ground := Ground.data }, { on := 29, ground := Ground.data }, { on := 11, ground := Ground.guard }], guard := some (11, true) }) (v := undef) rfl (by kernel_rfl) (by kernel_rfl) (by kernel_rfl) (fun c a w h => HQ.out c a _ _ w h) (Or.inr ⟨by rfl, rfl⟩) hHeld ?_
  try simp only [Act.put, List.setIfInBounds_toArray, List.set_cons_zero, List.set_cons_succ]
  refine wpAnyH_take (i := 31) (oi := { dst := some 132, op := Op.pick (Operand.tmp 112) (Operand.tmp 131) (Operand.const (Value.bool false)), type := 4, pos := "outright.go:63", after := #[{ on := 11, ground := Ground.data }, { on := 30, ground := Ground.data }, { on := 7, ground := Ground.guard }], guard := some (7, false) }) (v := (.bool false)) rfl (by kernel_rfl) (by kernel_rfl) (by kernel_rfl) (fun c a w h => HQ.out c a _ _ w h) (Or.inl ⟨by rfl, ?_⟩) hHeld ?_
  · intro W hSw
    obtain ⟨z0, z1, z2, z3, z4, z5, z6, z7, z8, z9⟩ := hSw
    clear hHeld
    go_simp
  try simp only [Act.put, List.setIfInBounds_toArray, List.set_cons_zero, List.set_cons_succ]
  refine wpAnyH_take (i := 32) (oi := { dst := some 133, op := Op.pick (Operand.tmp 108) (Operand.const (Value.bool true)) (Operand.tmp 132), type := 4, pos := "outright.go:63", after := #[{ on := 7, ground := Ground.data }, { on := 31, ground := Ground.data }], guard := none }) (v := (.bool false)) rfl (by kernel_rfl) (by kernel_rfl) (by kernel_rfl) (fun c a w h => HQ.out c a _ _ w h) (Or.inl ⟨by rfl, ?_⟩) hHeld ?_
  · intro W hSw
    obtain ⟨z0, z1, z2, z3, z4, z5, z6, z7, z8, z9⟩ := hSw
    clear hHeld
    go_simp
  try simp only [Act.put, List.setIfInBounds_toArray, List.set_cons_zero, List.set_cons_succ]
  refine wpAnyH_take (i := 33) (oi := { dst := some 134, op := Op.move (Operand.tmp 133), type := 4, pos := "outright.go:63", after := #[{ on := 32, ground := Ground.data }, { on := 18, ground := Ground.chain }], guard := none }) (v := (.bool false)) rfl (by kernel_rfl) (by kernel_rfl) (by kernel_rfl) (fun c a w h => HQ.out c a _ _ w h) (Or.inl ⟨by rfl, ?_⟩) hHeld ?_
  · intro W hSw
    obtain ⟨z0, z1, z2, z3, z4, z5, z6, z7, z8, z9⟩ := hSw
    clear hHeld
    go_simp
  try simp only [Act.put, List.setIfInBounds_toArray, List.set_cons_zero, List.set_cons_succ]
  refine wpAnyH_take (i := 34) (oi := { dst := some 135, op := Op.fieldAddr 37 (Operand.tmp 15) 0, type := 0, pos := "outright.go:63", after := #[{ on := 33, ground := Ground.guard }], guard := some (33, false) }) (v := (.pointer (some ⟨ib, 0, none⟩))) rfl (by kernel_rfl) (by kernel_rfl) (by kernel_rfl) (fun c a w h => HQ.out c a _ _ w h) (Or.inl ⟨by rfl, ?_⟩) hHeld ?_
  · intro W hSw
    obtain ⟨z0, z1, z2, z3, z4, z5, z6, z7, z8, z9⟩ := hSw
    clear hHeld
    go_simp
  try simp only [Act.put, List.setIfInBounds_toArray, List.set_cons_zero, List.set_cons_succ]
  refine wpAnyH_take (i := 35) (oi := { dst := some 136, op := Op.load 3 (Operand.tmp 135), type := 3, pos := "outright.go:63", after := #[{ on := 34, ground := Ground.data }, { on := 33, ground := Ground.guard }], guard := some (33, false) }) (v := (.int .i64 24)) rfl (by kernel_rfl) (by kernel_rfl) (by kernel_rfl) (fun c a w h => HQ.out c a _ _ w h) (Or.inl ⟨by rfl, ?_⟩) hHeld ?_
  · intro W hSw
    obtain ⟨z0, z1, z2, z3, z4, z5, z6, z7, z8, z9⟩ := hSw
    clear hHeld
    go_simp
  try simp only [Act.put, List.setIfInBounds_toArray, List.set_cons_zero, List.set_cons_succ]
  refine wpAnyH_take (i := 36) (oi := { dst := some 137, op := Op.binOp BinOp.eql 3 (Operand.tmp 136) (Operand.const (Value.int IntKind.i64 24)) 3, type := 4, pos := "outright.go:63", after := #[{ on := 35, ground := Ground.data }, { on := 33, ground := Ground.guard }], guard := some (33, false) }) (v := (.bool true)) rfl (by kernel_rfl) (by kernel_rfl) (by kernel_rfl) (fun c a w h => HQ.out c a _ _ w h) (Or.inl ⟨by rfl, ?_⟩) hHeld ?_
  · intro W hSw
    obtain ⟨z0, z1, z2, z3, z4, z5, z6, z7, z8, z9⟩ := hSw
    clear hHeld
    go_simp
  try simp only [Act.put, List.setIfInBounds_toArray, List.set_cons_zero, List.set_cons_succ]
  refine wpAnyH_take (i := 37) (oi := { dst := some 138, op := Op.move (Operand.tmp 137), type := 4, pos := "outright.go:63", after := #[{ on := 36, ground := Ground.data }, { on := 33, ground := Ground.chain }, { on := 33, ground := Ground.guard }], guard := some (33, false) }) (v := (.bool true)) rfl (by kernel_rfl) (by kernel_rfl) (by kernel_rfl) (fun c a w h => HQ.out c a _ _ w h) (Or.inl ⟨by rfl, ?_⟩) hHeld ?_
  · intro W hSw
    obtain ⟨z0, z1, z2, z3, z4, z5, z6, z7, z8, z9⟩ := hSw
    clear hHeld
    go_simp
  try simp only [Act.put, List.setIfInBounds_toArray, List.set_cons_zero, List.set_cons_succ]
  refine wpAnyH_take (i := 38) (oi := { dst := some 139, op := Op.fieldAddr 37 (Operand.tmp 15) 4, type := 0, pos := "outright.go:63", after := #[{ on := 37, ground := Ground.guard }], guard := some (37, true) }) (v := (.pointer (some ⟨ib, 4, none⟩))) rfl (by kernel_rfl) (by kernel_rfl) (by kernel_rfl) (fun c a w h => HQ.out c a _ _ w h) (Or.inl ⟨by rfl, ?_⟩) hHeld ?_
  · intro W hSw
    obtain ⟨z0, z1, z2, z3, z4, z5, z6, z7, z8, z9⟩ := hSw
    clear hHeld
    go_simp
  try simp only [Act.put, List.setIfInBounds_toArray, List.set_cons_zero, List.set_cons_succ]
  refine wpAnyH_take (i := 39) (oi := { dst := some 140, op := Op.load 3 (Operand.tmp 139), type := 3, pos := "outright.go:63", after := #[{ on := 38, ground := Ground.data }, { on := 37, ground := Ground.guard }], guard := some (37, true) }) (v := (.int .i64 n1)) rfl (by kernel_rfl) (by kernel_rfl) (by kernel_rfl) (fun c a w h => HQ.out c a _ _ w h) (Or.inl ⟨by rfl, ?_⟩) hHeld ?_
  · intro W hSw
    obtain ⟨z0, z1, z2, z3, z4, z5, z6, z7, z8, z9⟩ := hSw
    clear hHeld
    go_simp
  try simp only [Act.put, List.setIfInBounds_toArray, List.set_cons_zero, List.set_cons_succ]
  refine wpAnyH_take (i := 40) (oi := { dst := some 141, op := Op.fieldAddr 25 (Operand.tmp 3) 0, type := 0, pos := "outright.go:63", after := #[{ on := 37, ground := Ground.guard }], guard := some (37, true) }) (v := (.pointer (some ⟨mb, 0, none⟩))) rfl (by kernel_rfl) (by kernel_rfl) (by kernel_rfl) (fun c a w h => HQ.out c a _ _ w h) (Or.inl ⟨by rfl, ?_⟩) hHeld ?_
  · intro W hSw
    obtain ⟨z0, z1, z2, z3, z4, z5, z6, z7, z8, z9⟩ := hSw
    clear hHeld
    go_simp
  try simp only [Act.put, List.setIfInBounds_toArray, List.set_cons_zero, List.set_cons_succ]
  refine wpAnyH_take (i := 41) (oi := { dst := some 142, op := Op.load 22 (Operand.tmp 141), type := 22, pos := "outright.go:63", after := #[{ on := 40, ground := Ground.data }, { on := 37, ground := Ground.guard }], guard := some (37, true) }) (v := (.slice DA nd dc)) rfl (by kernel_rfl) (by kernel_rfl) (by kernel_rfl) (fun c a w h => HQ.out c a _ _ w h) (Or.inl ⟨by rfl, ?_⟩) hHeld ?_
  · intro W hSw
    obtain ⟨z0, z1, z2, z3, z4, z5, z6, z7, z8, z9⟩ := hSw
    clear hHeld
    go_simp
  try simp only [Act.put, List.setIfInBounds_toArray, List.set_cons_zero, List.set_cons_succ]
  refine wpAnyH_take (i := 42) (oi := { dst := some 143, op := Op.call { callee := Callee.builtin Builtin.len, args := #[Operand.tmp 142], argTypes := #[22] }, type := 3, pos := "outright.go:63", after := #[{ on := 41, ground := Ground.data }, { on := 37, ground := Ground.guard }], guard := some (37, true) }) (v := (.int .i64 nd)) rfl (by kernel_rfl) (by kernel_rfl) (by kernel_rfl) (fun c a w h => HQ.out c a _ _ w h) (Or.inl ⟨by rfl, ?_⟩) hHeld ?_
  · intro W hSw
    obtain ⟨z0, z1, z2, z3, z4, z5, z6, z7, z8, z9⟩ := hSw
    clear hHeld
    go_simp
  try simp only [Act.put, List.setIfInBounds_toArray, List.set_cons_zero, List.set_cons_succ]
  refine wpAnyH_take (i := 43) (oi := { dst := some 144, op := Op.binOp BinOp.gtr 3 (Operand.tmp 140) (Operand.tmp 143) 3, type := 4, pos := "outright.go:63", after := #[{ on := 39, ground := Ground.data }, { on := 42, ground := Ground.data }, { on := 37, ground := Ground.guard }], guard := some (37, true) }) (v := (.bool false)) rfl (by kernel_rfl) (by kernel_rfl) (by kernel_rfl) (fun c a w h => HQ.out c a _ _ w h) (Or.inl ⟨by rfl, ?_⟩) hHeld ?_
  · intro W hSw
    obtain ⟨z0, z1, z2, z3, z4, z5, z6, z7, z8, z9⟩ := hSw
    clear hHeld
    go_simp
  try simp only [Act.put, List.setIfInBounds_toArray, List.set_cons_zero, List.set_cons_succ]
  refine wpAnyH_take (i := 44) (oi := { dst := some 145, op := Op.pick (Operand.tmp 138) (Operand.tmp 144) (Operand.const (Value.bool false)), type := 4, pos := "outright.go:63", after := #[{ on := 37, ground := Ground.data }, { on := 43, ground := Ground.data }, { on := 33, ground := Ground.guard }], guard := some (33, false) }) (v := (.bool false)) rfl (by kernel_rfl) (by kernel_rfl) (by kernel_rfl) (fun c a w h => HQ.out c a _ _ w h) (Or.inl ⟨by rfl, ?_⟩) hHeld ?_
  · intro W hSw
    obtain ⟨z0, z1, z2, z3, z4, z5, z6, z7, z8, z9⟩ := hSw
    clear hHeld
    go_simp
  try simp only [Act.put, List.setIfInBounds_toArray, List.set_cons_zero, List.set_cons_succ]
  refine wpAnyH_take (i := 45) (oi := { dst := some 146, op := Op.pick (Operand.tmp 134) (Operand.const (Value.bool true)) (Operand.tmp 145), type := 4, pos := "outright.go:63", after := #[{ on := 33, ground := Ground.data }, { on := 44, ground := Ground.data }], guard := none }) (v := (.bool false)) rfl (by kernel_rfl) (by kernel_rfl) (by kernel_rfl) (fun c a w h => HQ.out c a _ _ w h) (Or.inl ⟨by rfl, ?_⟩) hHeld ?_
  · intro W hSw
    obtain ⟨z0, z1, z2, z3, z4, z5, z6, z7, z8, z9⟩ := hSw
    clear hHeld
    go_simp
  try simp only [Act.put, List.setIfInBounds_toArray, List.set_cons_zero, List.set_cons_succ]
  refine wpAnyH_done (by kernel_rfl) ?_ _
  exact HH.out w6 _ _ _ _ _ _ _ _ _ _ _ _ _ _ _ _ _ _ _ _ _ _ _ _ _ _ _ _ _ _ _ _ _ _ _ _ _ _ _ _ _ _ _ _ _ H6C.out
set_option maxRecDepth 100000 in
set_option maxHeartbeats 32000000 in
theorem region20_other {Q : Exit → Act → World → Prop} (hQ : ∀ c a (d : Tmp) v w, Q (.panic c) (Act.put a (some d) v) w → Q (.panic c) a w) {W3 : World} {ib fx mb na Yc nd dc nf fcap : Nat} {op n1 : Int} {FA : Option Addr} {ca b1 c rg ar : Int} {YA DA : Option Addr} {u0 u1 u2 u4 u5 u6 u7 u9 u10 u11 u12 u13 u14 u16 u17 u18 u19 u20 u21 u22 u23 u24 u25 u26 u27 u28 u29 u30 u31 u32 u33 u34 u35 u36 u37 u38 u39 u40 u41 u42 u43 u44 u45 u46 u47 u48 u49 u50 u51 u52 u53 u54 u55 u56 u57 u58 u59 u60 u61 u62 u63 u64 u65 u66 u67 u68 u69 u70 u71 u72 u73 u74 u75 u76 u77 u78 u79 u80 u81 u82 u83 u84 u85 u86 u87 u88 u89 u90 u91 u92 u93 u94 u95 u96 u97 u98 u99 u100 u101 u102 u103 u104 u105 u106 u107 u108 u109 u110 u111 u112 u113 u114 u115 u116 u117 u118 u119 u120 u121 u122 u123 u124 u125 u126 u127 u128 u129 u130 u131 u132 u133 u134 u135 u136 u137 u138 u139 u140 u141 u142 u143 u144 u145 u146 u147 u148 u149 u150 u151 u152 u153 u154 u155 u156 u157 u158 u159 u160 u161 u162 u163 u164 u165 u166 u167 u168 u169 u170 u171 u172 u173 u174 u175 u176 u177 u178 u179 u180 u181 u182 u183 u184 u185 u186 u187 u188 u189 u190 u191 u192 u193 u194 u195 u196 u197 u198 u199 u200 u201 u202 u203 u204 u205 u206 u207 u208 u209 u210 u211 u212 u213 u214 u215 u216 u217 u218 u219 u220 u221 u222 u223 u224 u225 u226 u227 u228 : Value} (h1 : op ≠ 28) (h2 : op ≠ 24) 
    (HCI : ∀ W, Below W3.heap.size W3 W → Calls Tryz.prog 21 #[.agg (insCells op ca b1 c n1 (.slice YA na Yc)), .int .i64 rg, .int .i64 ar] W (Makes W (.int .i64 0)))
    (HS : ∀ W, Below W3.heap.size W3 W → S20 ib fx mb op ca b1 c n1 (.slice YA na Yc) (.slice DA nd dc) (.slice FA nf fcap) rg ar W)
    (H : ∀ (w6 : World) (v101 v102 v103 v104 v105 v106 v107 v108 v109 v110 v111 v112 v113 v114 v115 v116 v117 v118 v119 v120 v121 v122 v123 v124 v125 v126 v127 v128 v129 v130 v131 v132 v133 v134 v135 v136 v137 v138 v139 v140 v141 v142 v143 v144 v145 : Value), Below W3.heap.size W3 w6 → Q .normal { tmps := #[u0, u1, u2, .pointer (some ⟨mb, 0, none⟩), u4, u5, u6, u7, .pointer (some ⟨fx, 0, none⟩), u9, u10, u11, u12, u13, u14, .pointer (some ⟨ib, 0, none⟩), u16, u17, u18, u19, u20, u21, u22, u23, u24, u25, u26, u27, u28, u29, u30, u31, u32, u33, u34, u35, u36, u37, u38, u39, u40, u41, u42, u43, u44, u45, u46, u47, u48, u49, u50, u51, u52, u53, u54, u55, u56, u57, u58, u59, u60, u61, u62, u63, u64, u65, u66, u67, u68, u69, u70, u71, u72, u73, u74, u75, u76, u77, u78, u79, u80, u81, u82, u83, u84, u85, u86, u87, u88, u89, u90, u91, u92, u93, u94, u95, u96, u97, u98, u99, u100, v101, v102, v103, v104, v105, v106, v107, v108, v109, v110, v111, v112, v113, v114, v115, v116, v117, v118, v119, v120, v121, v122, v123, v124, v125, v126, v127, v128, v129, v130, v131, v132, v133, v134, v135, v136, v137, v138, v139, v140, v141, v142, v143, v144, v145, .bool false, u147, u148, u149, u150, u151, u152, u153, u154, u155, u156, u157, u158, u159, u160, u161, u162, u163, u164, u165, u166, u167, u168, u169, u170, u171, u172, u173, u174, u175, u176, u177, u178, u179, u180, u181, u182, u183, u184, u185, u186, u187, u188, u189, u190, u191, u192, u193, u194, u195, u196, u197, u198, u199, u200, u201, u202, u203, u204, u205, u206, u207, u208, u209, u210, u211, u212, u213, u214, u215, u216, u217, u218, u219, u220, u221, u222, u223, u224, u225, u226, u227, u228], defers := [] } w6) :
    Code.wp Tryz.prog (Code.region 20 ops20 true) Q { tmps := #[u0, u1, u2, .pointer (some ⟨mb, 0, none⟩), u4, u5, u6, u7, .pointer (some ⟨fx, 0, none⟩), u9, u10, u11, u12, u13, u14, .pointer (some ⟨ib, 0, none⟩), u16, u17, u18, u19, u20, u21, u22, u23, u24, u25, u26, u27, u28, u29, u30, u31, u32, u33, u34, u35, u36, u37, u38, u39, u40, u41, u42, u43, u44, u45, u46, u47, u48, u49, u50, u51, u52, u53, u54, u55, u56, u57, u58, u59, u60, u61, u62, u63, u64, u65, u66, u67, u68, u69, u70, u71, u72, u73, u74, u75, u76, u77, u78, u79, u80, u81, u82, u83, u84, u85, u86, u87, u88, u89, u90, u91, u92, u93, u94, u95, u96, u97, u98, u99, u100, u101, u102, u103, u104, u105, u106, u107, u108, u109, u110, u111, u112, u113, u114, u115, u116, u117, u118, u119, u120, u121, u122, u123, u124, u125, u126, u127, u128, u129, u130, u131, u132, u133, u134, u135, u136, u137, u138, u139, u140, u141, u142, u143, u144, u145, u146, u147, u148, u149, u150, u151, u152, u153, u154, u155, u156, u157, u158, u159, u160, u161, u162, u163, u164, u165, u166, u167, u168, u169, u170, u171, u172, u173, u174, u175, u176, u177, u178, u179, u180, u181, u182, u183, u184, u185, u186, u187, u188, u189, u190, u191, u192, u193, u194, u195, u196, u197, u198, u199, u200, u201, u202, u203, u204, u205, u206, u207, u208, u209, u210, u211, u212, u213, u214, u215, u216, u217, u218, u219, u220, u221, u222, u223, u224, u225, u226, u227, u228], defers := [] } W3 := by
  have HH := Lib.hid H
  have HC := Lib.hid HCI
  have HSS := Lib.hid HS
  have HQ := Lib.hid hQ
  have t28 : (op == 28) = false := by simpa using h1
  have t24 : (op == 24) = false := by simpa using h2
  clear H HCI HS hQ
  refine wp_region_held_drew (S := S20 ib fx mb op ca b1 c n1 (.slice YA na Yc) (.slice DA nd dc) (.slice FA nf fcap) rg ar) (by kernel_rfl) (HSS.out _ (Below.refl _ W3).drew) (fun hHeld => ?_)
  show wpAnyH _ _ ops20 _ _ 46 (Array.replicate 46 false) _ _
  refine wpAnyH_take (i := 0) (oi := { dst := some 101, op := Op.load 37 (Operand.tmp 15), type := 37, pos := "outright.go:63", after := #[], guard := none }) (v := (.agg (insCells op ca b1 c n1 (.slice YA na Yc)))) rfl (by kernel_rfl) (by kernel_rfl) (by kernel_rfl) (fun c a w h => HQ.out c a _ _ w h) (Or.inl ⟨by rfl, ?_⟩) hHeld ?_
  · intro W hSw
    obtain ⟨z0, z1, z2, z3, z4, z5, z6, z7, z8, z9⟩ := hSw
    clear hHeld
    go_simp
  try simp only [Act.put, List.setIfInBounds_toArray, List.set_cons_zero, List.set_cons_succ]
  refine wpAnyH_take (i := 1) (oi := { dst := some 102, op := Op.fieldAddr 41 (Operand.tmp 8) 1, type := 0, pos := "outright.go:63", after := #[], guard := none }) (v := (.pointer (some ⟨fx, 1, none⟩))) rfl (by kernel_rfl) (by kernel_rfl) (by kernel_rfl) (fun c a w h => HQ.out c a _ _ w h) (Or.inl ⟨by rfl, ?_⟩) hHeld ?_
  · intro W hSw
    obtain ⟨z0, z1, z2, z3, z4, z5, z6, z7, z8, z9⟩ := hSw
    clear hHeld
    go_simp
  try simp only [Act.put, List.setIfInBounds_toArray, List.set_cons_zero, List.set_cons_succ]
  refine wpAnyH_take (i := 2) (oi := { dst := some 103, op := Op.load 3 (Operand.tmp 102), type := 3, pos := "outright.go:63", after := #[{ on := 1, ground := Ground.data }], guard := none }) (v := (.int .i64 rg)) rfl (by kernel_rfl) (by kernel_rfl) (by kernel_rfl) (fun c a w h => HQ.out c a _ _ w h) (Or.inl ⟨by rfl, ?_⟩) hHeld ?_
  · intro W hSw
    obtain ⟨z0, z1, z2, z3, z4, z5, z6, z7, z8, z9⟩ := hSw
    clear hHeld
    go_simp
  try simp only [Act.put, List.setIfInBounds_toArray, List.set_cons_zero, List.set_cons_succ]
  refine wpAnyH_take (i := 3) (oi := { dst := some 104, op := Op.fieldAddr 41 (Operand.tmp 8) 2, type := 0, pos := "outright.go:63", after := #[], guard := none }) (v := (.pointer (some ⟨fx, 2, none⟩))) rfl (by kernel_rfl) (by kernel_rfl) (by kernel_rfl) (fun c a w h => HQ.out c a _ _ w h) (Or.inl ⟨by rfl, ?_⟩) hHeld ?_
  · intro W hSw
    obtain ⟨z0, z1, z2, z3, z4, z5, z6, z7, z8, z9⟩ := hSw
    clear hHeld
    go_simp
  try simp only [Act.put, List.setIfInBounds_toArray, List.set_cons_zero, List.set_cons_succ]
  refine wpAnyH_take (i := 4) (oi := { dst := some 105, op := Op.load 3 (Operand.tmp 104), type := 3, pos := "outright.go:63", after := #[{ on := 3, ground := Ground.data }], guard := none }) (v := (.int .i64 ar)) rfl (by kernel_rfl) (by kernel_rfl) (by kernel_rfl) (fun c a w h => HQ.out c a _ _ w h) (Or.inl ⟨by rfl, ?_⟩) hHeld ?_
  · intro W hSw
    obtain ⟨z0, z1, z2, z3, z4, z5, z6, z7, z8, z9⟩ := hSw
    clear hHeld
    go_simp
  try simp only [Act.put, List.setIfInBounds_toArray, List.set_cons_zero, List.set_cons_succ]
  refine wpAnyH_ready (rs := [5]) (by kernel_rfl) (by simp) ?_
  refine AllReadyH.cons (o := { dst := some 106, op := Op.call { callee := Callee.value (Operand.func 21), args := #[Operand.tmp 101, Operand.tmp 103, Operand.tmp 105], argTypes := #[37, 3, 3] }, type := 29, pos := "outright.go:63", after := #[{ on := 0, ground := Ground.data }, { on := 2, ground := Ground.data }, { on := 4, ground := Ground.data }], guard := none }) rfl (fun K hK => ?_) AllReadyH.nil
  go_wp2_with (go_at_call 21; (with_reducible refine (HC.out W3.drew (Below.refl _ W3).drew).mono ?_); rintro e w6 ⟨rfl, hb⟩; have H6C := Lib.hid (Below.trans (Below.refl W3.heap.size W3).drew hb); clear hb)
  clear hHeld
  refine hK.out _ _ (HSS.out w6 H6C.out) (fun hHeld => ?_)
  clear hK K
  try simp only [Act.put, List.setIfInBounds_toArray, List.set_cons_zero, List.set_cons_succ]
  refine wpAnyH_take (i := 6) (oi := { dst := some 107, op := Op.binOp BinOp.neq 29 (Operand.tmp 106) (Operand.const (Value.int IntKind.i64 0)) 29, type := 4, pos := "outright.go:63", after := #[{ on := 5, ground := Ground.data }], guard := none }) (v := (.bool false)) rfl (by kernel_rfl) (by kernel_rfl) (by kernel_rfl) (fun c a w h => HQ.out c a _ _ w h) (Or.inl ⟨by rfl, ?_⟩) hHeld ?_
  · intro W hSw
    obtain ⟨z0, z1, z2, z3, z4, z5, z6, z7, z8, z9⟩ := hSw
    clear hHeld
    go_simp
  try simp only [Act.put, List.setIfInBounds_toArray, List.set_cons_zero, List.set_cons_succ]
  refine wpAnyH_take (i := 7) (oi := { dst := some 108, op := Op.move (Operand.tmp 107), type := 4, pos := "outright.go:63", after := #[{ on := 6, ground := Ground.data }, { on := 5, ground := Ground.chain }], guard := none }) (v := (.bool false)) rfl (by kernel_rfl) (by kernel_rfl) (by kernel_rfl) (fun c a w h => HQ.out c a _ _ w h) (Or.inl ⟨by rfl, ?_⟩) hHeld ?_
  · intro W hSw
    obtain ⟨z0, z1, z2, z3, z4, z5, z6, z7, z8, z9⟩ := hSw
    clear hHeld
    go_simp
  try simp only [Act.put, List.setIfInBounds_toArray, List.set_cons_zero, List.set_cons_succ]
  refine wpAnyH_take (i := 8) (oi := { dst := some 109, op := Op.fieldAddr 37 (Operand.tmp 15) 0, type := 0, pos := "outright.go:63", after := #[{ on := 7, ground := Ground.guard }], guard := some (7, false) }) (v := (.pointer (some ⟨ib, 0, none⟩))) rfl (by kernel_rfl) (by kernel_rfl) (by kernel_rfl) (fun c a w h => HQ.out c a _ _ w h) (Or.inl ⟨by rfl, ?_⟩) hHeld ?_
  · intro W hSw
    obtain ⟨z0, z1, z2, z3, z4, z5, z6, z7, z8, z9⟩ := hSw
    clear hHeld
    go_simp
  try simp only [Act.put, List.setIfInBounds_toArray, List.set_cons_zero, List.set_cons_succ]
  refine wpAnyH_take (i := 9) (oi := { dst := some 110, op := Op.load 3 (Operand.tmp 109), type := 3, pos := "outright.go:63", after := #[{ on := 8, ground := Ground.data }, { on := 7, ground := Ground.guard }], guard := some (7, false) }) (v := (.int .i64 op)) rfl (by kernel_rfl) (by kernel_rfl) (by kernel_rfl) (fun c a w h => HQ.out c a _ _ w h) (Or.inl ⟨by rfl, ?_⟩) hHeld ?_
  · intro W hSw
    obtain ⟨z0, z1, z2, z3, z4, z5, z6, z7, z8, z9⟩ := hSw
    clear hHeld
    go_simp
  try simp only [Act.put, List.setIfInBounds_toArray, List.set_cons_zero, List.set_cons_succ]
  refine wpAnyH_take (i := 10) (oi := { dst := some 111, op := Op.binOp BinOp.eql 3 (Operand.tmp 110) (Operand.const (Value.int IntKind.i64 28)) 3, type := 4, pos := "outright.go:63", after := #[{ on := 9, ground := Ground.data }, { on := 7, ground := Ground.guard }], guard := some (7, false) }) (v := (.bool false)) rfl (by kernel_rfl) (by kernel_rfl) (by kernel_rfl) (fun c a w h => HQ.out c a _ _ w h) (Or.inl ⟨by rfl, ?_⟩) hHeld ?_
  · intro W hSw
    obtain ⟨z0, z1, z2, z3, z4, z5, z6, z7, z8, z9⟩ := hSw
    clear hHeld
    go_simp
  try simp only [Act.put, List.setIfInBounds_toArray, List.set_cons_zero, List.set_cons_succ]
  refine wpAnyH_take (i := 11) (oi := { dst := some 112, op := Op.move (Operand.tmp 111), type := 4, pos := "outright.go:63", after := #[{ on := 10, ground := Ground.data }, { on := 7, ground := Ground.chain }, { on := 7, ground := Ground.guard }], guard := some (7, false) }) (v := (.bool false)) rfl (by kernel_rfl) (by kernel_rfl) (by kernel_rfl) (fun c a w h => HQ.out c a _ _ w h) (Or.inl ⟨by rfl, ?_⟩) hHeld ?_
  · intro W hSw
    obtain ⟨z0, z1, z2, z3, z4, z5, z6, z7, z8, z9⟩ := hSw
    clear hHeld
    go_simp
  try simp only [Act.put, List.setIfInBounds_toArray, List.set_cons_zero, List.set_cons_succ]
  refine wpAnyH_take (i := 12) (oi := { dst := some 113, op := Op.fieldAddr 37 (Operand.tmp 15) 4, type := 0, pos := "outright.go:63", after := #[{ on := 11, ground := Ground.guard }], guard := some (11, true) }) (v := undef) rfl (by kernel_rfl) (by kernel_rfl) (by kernel_rfl) (fun c a w h => HQ.out c a _ _ w h) (Or.inr ⟨by rfl, rfl⟩) hHeld ?_
  try simp only [Act.put, List.setIfInBounds_toArray, List.set_cons_zero, List.set_cons_succ]
  refine wpAnyH_take (i := 13) (oi := { dst := some 114, op := Op.load 3 (Operand.tmp 113), type := 3, pos := "outright.go:63", after := #[{ on := 12, ground := Ground.data }, { on := 11, ground := Ground.guard }], guard := some (11, true) }) (v := undef) rfl (by kernel_rfl) (by kernel_rfl) (by kernel_rfl) (fun c a w h => HQ.out c a _ _ w h) (Or.inr ⟨by rfl, rfl⟩) hHeld ?_
  try simp only [Act.put, List.setIfInBounds_toArray, List.set_cons_zero, List.set_cons_succ]
  refine wpAnyH_take (i := 14) (oi := { dst := some 115, op := Op.fieldAddr 25 (Operand.tmp 3) 1, type := 0, pos := "outright.go:63", after := #[{ on := 11, ground := Ground.guard }], guard := some (11, true) }) (v := undef) rfl (by kernel_rfl) (by kernel_rfl) (by kernel_rfl) (fun c a w h => HQ.out c a _ _ w h) (Or.inr ⟨by rfl, rfl⟩) hHeld ?_
  try simp only [Act.put, List.setIfInBounds_toArray, List.set_cons_zero, List.set_cons_succ]
  refine wpAnyH_take (i := 15) (oi := { dst := some 116, op := Op.load 23 (Operand.tmp 115), type := 23, pos := "outright.go:63", after := #[{ on := 14, ground := Ground.data }, { on := 11, ground := Ground.guard }], guard := some (11, true) }) (v := undef) rfl (by kernel_rfl) (by kernel_rfl) (by kernel_rfl) (fun c a w h => HQ.out c a _ _ w h) (Or.inr ⟨by rfl, rfl⟩) hHeld ?_
  try simp only [Act.put, List.setIfInBounds_toArray, List.set_cons_zero, List.set_cons_succ]
  refine wpAnyH_take (i := 16) (oi := { dst := some 117, op := Op.call { callee := Callee.builtin Builtin.len, args := #[Operand.tmp 116], argTypes := #[23] }, type := 3, pos := "outright.go:63", after := #[{ on := 15, ground := Ground.data }, { on := 11, ground := Ground.guard }], guard := some (11, true) }) (v := undef) rfl (by kernel_rfl) (by kernel_rfl) (by kernel_rfl) (fun c a w h => HQ.out c a _ _ w h) (Or.inr ⟨by rfl, rfl⟩) hHeld ?_
  try simp only [Act.put, List.setIfInBounds_toArray, List.set_cons_zero, List.set_cons_succ]
  refine wpAnyH_take (i := 17) (oi := { dst := some 118, op := Op.binOp BinOp.geq 3 (Operand.tmp 114) (Operand.tmp 117) 3, type := 4, pos := "outright.go:63", after := #[{ on := 13, ground := Ground.data }, { on := 16, ground := Ground.data }, { on := 11, ground := Ground.guard }], guard := some (11, true) }) (v := undef) rfl (by kernel_rfl) (by kernel_rfl) (by kernel_rfl) (fun c a w h => HQ.out c a _ _ w h) (Or.inr ⟨by rfl, rfl⟩) hHeld ?_
  try simp only [Act.put, List.setIfInBounds_toArray, List.set_cons_zero, List.set_cons_succ]
  refine wpAnyH_take (i := 18) (oi := { dst := some 119, op := Op.move (Operand.tmp 118), type := 4, pos := "outright.go:63", after := #[{ on := 17, ground := Ground.data }, { on := 11, ground := Ground.chain }, { on := 11, ground := Ground.guard }], guard := some (11, true) }) (v := undef) rfl (by kernel_rfl) (by kernel_rfl) (by kernel_rfl) (fun c a w h => HQ.out c a _ _ w h) (Or.inr ⟨by rfl, rfl⟩) hHeld ?_
  try simp only [Act.put, List.setIfInBounds_toArray, List.set_cons_zero, List.set_cons_succ]
  refine wpAnyH_take (i := 19) (oi := { dst := some 120, op := Op.fieldAddr 37 (Operand.tmp 15) 5, type := 0, pos := "outright.go:63", after := #[{ on := 18, ground := Ground.guard }], guard := some (18, false) }) (v := undef) rfl (by kernel_rfl) (by kernel_rfl) (by kernel_rfl) (fun c a w h => HQ.out c a _ _ w h) (Or.inr ⟨by rfl, rfl⟩) hHeld ?_
  try simp only [Act.put, List.setIfInBounds_toArray, List.set_cons_zero, List.set_cons_succ]
  refine wpAnyH_take (i := 20) (oi := { dst := some 121, op := Op.load 35 (Operand.tmp 120), type := 35, pos := "outright.go:63", after := #[{ on := 19, ground := Ground.data }, { on := 18, ground := Ground.guard }], guard := some (18, false) }) (v := undef) rfl (by kernel_rfl) (by kernel_rfl) (by kernel_rfl) (fun c a w h => HQ.out c a _ _ w h) (Or.inr ⟨by rfl, rfl⟩) hHeld ?_
  try simp only [Act.put, List.setIfInBounds_toArray, List.set_cons_zero, List.set_cons_succ]
  refine wpAnyH_take (i := 21) (oi := { dst := some 122, op := Op.call { callee := Callee.builtin Builtin.len, args := #[Operand.tmp 121], argTypes := #[35] }, type := 3, pos := "outright.go:63", after := #[{ on := 20, ground := Ground.data }, { on := 18, ground := Ground.guard }], guard := some (18, false) }) (v := undef) rfl (by kernel_rfl) (by kernel_rfl) (by kernel_rfl) (fun c a w h => HQ.out c a _ _ w h) (Or.inr ⟨by rfl, rfl⟩) hHeld ?_
  try simp only [Act.put, List.setIfInBounds_toArray, List.set_cons_zero, List.set_cons_succ]
  refine wpAnyH_take (i := 22) (oi := { dst := some 123, op := Op.fieldAddr 25 (Operand.tmp 3) 1, type := 0, pos := "outright.go:63", after := #[{ on := 18, ground := Ground.guard }], guard := some (18, false) }) (v := undef) rfl (by kernel_rfl) (by kernel_rfl) (by kernel_rfl) (fun c a w h => HQ.out c a _ _ w h) (Or.inr ⟨by rfl, rfl⟩) hHeld ?_
  try simp only [Act.put, List.setIfInBounds_toArray, List.set_cons_zero, List.set_cons_succ]
  refine wpAnyH_take (i := 23) (oi := { dst := some 124, op := Op.load 23 (Operand.tmp 123), type := 23, pos := "outright.go:63", after := #[{ on := 22, ground := Ground.data }, { on := 18, ground := Ground.guard }], guard := some (18, false) }) (v := undef) rfl (by kernel_rfl) (by kernel_rfl) (by kernel_rfl) (fun c a w h => HQ.out c a _ _ w h) (Or.inr ⟨by rfl, rfl⟩) hHeld ?_
  try simp only [Act.put, List.setIfInBounds_toArray, List.set_cons_zero, List.set_cons_succ]
  refine wpAnyH_take (i := 24) (oi := { dst := some 125, op := Op.fieldAddr 37 (Operand.tmp 15) 4, type := 0, pos := "outright.go:63", after := #[{ on := 18, ground := Ground.guard }], guard := some (18, false) }) (v := undef) rfl (by kernel_rfl) (by kernel_rfl) (by kernel_rfl) (fun c a w h => HQ.out c a _ _ w h) (Or.inr ⟨by rfl, rfl⟩) hHeld ?_
  try simp only [Act.put, List.setIfInBounds_toArray, List.set_cons_zero, List.set_cons_succ]
  refine wpAnyH_take (i := 25) (oi := { dst := some 126, op := Op.load 3 (Operand.tmp 125), type := 3, pos := "outright.go:63", after := #[{ on := 24, ground := Ground.data }, { on := 18, ground := Ground.guard }], guard := some (18, false) }) (v := undef) rfl (by kernel_rfl) (by kernel_rfl) (by kernel_rfl) (fun c a w h => HQ.out c a _ _ w h) (Or.inr ⟨by rfl, rfl⟩) hHeld ?_
  try simp only [Act.put, List.setIfInBounds_toArray, List.set_cons_zero, List.set_cons_succ]
  refine wpAnyH_take (i := 26) (oi := { dst := some 127, op := Op.indexAddr 23 (Operand.tmp 124) (Operand.tmp 126), type := 0, pos := "outright.go:63", after := #[{ on := 23, ground := Ground.data }, { on := 25, ground := Ground.data }, { on := 18, ground := Ground.guard }], guard := some (18, false) }) (v := undef) rfl (by kernel_rfl) (by kernel_rfl) (by kernel_rfl) (fun c a w h => HQ.out c a _ _ w h) (Or.inr ⟨by rfl, rfl⟩) hHeld ?_
  try simp only [Act.put, List.setIfInBounds_toArray, List.set_cons_zero, List.set_cons_succ]
  refine wpAnyH_take (i := 27) (oi := { dst := some 128, op := Op.fieldAddr 41 (Operand.tmp 127) 0, type := 0, pos := "outright.go:63", after := #[{ on := 26, ground := Ground.data }, { on := 18, ground := Ground.guard }], guard := some (18, false) }) (v := undef) rfl (by kernel_rfl) (by kernel_rfl) (by kernel_rfl) (fun c a w h => HQ.out c a _ _ w h) (Or.inr ⟨by rfl, rfl⟩) hHeld ?_
  try simp only [Act.put, List.setIfInBounds_toArray, List.set_cons_zero, List.set_cons_succ]
  refine wpAnyH_take (i := 28) (oi := { dst := some 129, op := Op.load 3 (Operand.tmp 128), type := 3, pos := "outright.go:63", after := #[{ on := 27, ground := Ground.data }, { on := 18, ground := Ground.guard }], guard := some (18, false) }) (v := undef) rfl (by kernel_rfl) (by kernel_rfl) (by kernel_rfl) (fun c a w h => HQ.out c a _ _ w h) (Or.inr ⟨by rfl, rfl⟩) hHeld ?_
  try simp only [Act.put, List.setIfInBounds_toArray, List.set_cons_zero, List.set_cons_succ]
  refine wpAnyH_take (i := 29) (oi := { dst := some 130, op := Op.binOp BinOp.neq 3 (Operand.tmp 122) (Operand.tmp 129) 3, type := 4, pos := "outright.go:63", after := #[{ on := 21, ground := Ground.data }, { on := 28, ground := Ground.data }, { on := 18, ground := Ground.guard }], guard := some (18, false) }) (v := undef) rfl (by kernel_rfl) (by kernel_rfl) (by kernel_rfl) (fun c a w h => HQ.out c a _ _ w h) (Or.inr ⟨by rfl, rfl⟩) hHeld ?_
  try simp only [Act.put, List.setIfInBounds_toArray, List.set_cons_zero, List.set_cons_succ]
  refine wpAnyH_take (i := 30) (oi := { dst := some 131, op := Op.pick (Operand.tmp 119) (Operand.const (Value.bool true)) (Operand.tmp 130), type := 4, pos := "outright.go:63", after := #[{ on := 18, ground := Ground.data }, { on := 29, ground := Ground.data }, { on := 11, ground := Ground.guard }], guard := some (11, true) }) (v := undef) rfl (by kernel_rfl) (by kernel_rfl) (by kernel_rfl) (fun c a w h => HQ.out c a _ _ w h) (Or.inr ⟨by rfl, rfl⟩) hHeld ?_
  try simp only [Act.put, List.setIfInBounds_toArray, List.set_cons_zero, List.set_cons_succ]
  refine wpAnyH_take (i := 31) (oi := { dst := some 132, op := Op.pick (Operand.tmp 112) (Operand.tmp 131) (Operand.const (Value.bool false)), type := 4, pos := "outright.go:63", after := #[{ on := 11, ground := Ground.data }, { on := 30, ground := Ground.data }, { on := 7, ground := Ground.guard }], guard := some (7, false) }) (v := (.bool false)) rfl (by kernel_rfl) (by kernel_rfl) (by kernel_rfl) (fun c a w h => HQ.out c a _ _ w h) (Or.inl ⟨by rfl, ?_⟩) hHeld ?_
  · intro W hSw
    obtain ⟨z0, z1, z2, z3, z4, z5, z6, z7, z8, z9⟩ := hSw
    clear hHeld
    go_simp
  try simp only [Act.put, List.setIfInBounds_toArray, List.set_cons_zero, List.set_cons_succ]
  refine wpAnyH_take (i := 32) (oi := { dst := some 133, op := Op.pick (Operand.tmp 108) (Operand.const (Value.bool true)) (Operand.tmp 132), type := 4, pos := "outright.go:63", after := #[{ on := 7, ground := Ground.data }, { on := 31, ground := Ground.data }], guard := none }) (v := (.bool false)) rfl (by kernel_rfl) (by kernel_rfl) (by kernel_rfl) (fun c a w h => HQ.out c a _ _ w h) (Or.inl ⟨by rfl, ?_⟩) hHeld ?_
  · intro W hSw
    obtain ⟨z0, z1, z2, z3, z4, z5, z6, z7, z8, z9⟩ := hSw
    clear hHeld
    go_simp
  try simp only [Act.put, List.setIfInBounds_toArray, List.set_cons_zero, List.set_cons_succ]
  refine wpAnyH_take (i := 33) (oi := { dst := some 134, op := Op.move (Operand.tmp 133), type := 4, pos := "outright.go:63", after := #[{ on := 32, ground := Ground.data }, { on := 18, ground := Ground.chain }], guard := none }) (v := (.bool false)) rfl (by kernel_rfl) (by kernel_rfl) (by kernel_rfl) (fun c a w h => HQ.out c a _ _ w h) (Or.inl ⟨by rfl, ?_⟩) hHeld ?_
  · intro W hSw
    obtain ⟨z0, z1, z2, z3, z4, z5, z6, z7, z8, z9⟩ := hSw
    clear hHeld
    go_simp
  try simp only [Act.put, List.setIfInBounds_toArray, List.set_cons_zero, List.set_cons_succ]
  refine wpAnyH_take (i := 34) (oi := { dst := some 135, op := Op.fieldAddr 37 (Operand.tmp 15) 0, type := 0, pos := "outright.go:63", after := #[{ on := 33, ground := Ground.guard }], guard := some (33, false) }) (v := (.pointer (some ⟨ib, 0, none⟩))) rfl (by kernel_rfl) (by kernel_rfl) (by kernel_rfl) (fun c a w h => HQ.out c a _ _ w h) (Or.inl ⟨by rfl, ?_⟩) hHeld ?_
  · intro W hSw
    obtain ⟨z0, z1, z2, z3, z4, z5, z6, z7, z8, z9⟩ := hSw
    clear hHeld
    go_simp
  try simp only [Act.put, List.setIfInBounds_toArray, List.set_cons_zero, List.set_cons_succ]
  refine wpAnyH_take (i := 35) (oi := { dst := some 136, op := Op.load 3 (Operand.tmp 135), type := 3, pos := "outright.go:63", after := #[{ on := 34, ground := Ground.data }, { on := 33, ground := Ground.guard }], guard := some (33, false) }) (v := (.int .i64 op)) rfl (by kernel_rfl) (by kernel_rfl) (by kernel_rfl) (fun c a w h => HQ.out c a _ _ w h) (Or.inl ⟨by rfl, ?_⟩) hHeld ?_
  · intro W hSw
    obtain ⟨z0, z1, z2, z3, z4, z5, z6, z7, z8, z9⟩ := hSw
    clear hHeld
    go_simp
  try simp only [Act.put, List.setIfInBounds_toArray, List.set_cons_zero, List.set_cons_succ]
  refine wpAnyH_take (i := 36) (oi := { dst := some 137, op := Op.binOp BinOp.eql 3 (Operand.tmp 136) (Operand.const (Value.int IntKind.i64 24)) 3, type := 4, pos := "outright.go:63", after := #[{ on := 35, ground := Ground.data }, { on := 33, ground := Ground.guard }], guard := some (33, false) }) (v := (.bool false)) rfl (by kernel_rfl) (by kernel_rfl) (by kernel_rfl) (fun c a w h => HQ.out c a _ _ w h) (Or.inl ⟨by rfl, ?_⟩) hHeld ?_
  · intro W hSw
    obtain ⟨z0, z1, z2, z3, z4, z5, z6, z7, z8, z9⟩ := hSw
    clear hHeld
    go_simp
  try simp only [Act.put, List.setIfInBounds_toArray, List.set_cons_zero, List.set_cons_succ]
  refine wpAnyH_take (i := 37) (oi := { dst := some 138, op := Op.move (Operand.tmp 137), type := 4, pos := "outright.go:63", after := #[{ on := 36, ground := Ground.data }, { on := 33, ground := Ground.chain }, { on := 33, ground := Ground.guard }], guard := some (33, false) }) (v := (.bool false)) rfl (by kernel_rfl) (by kernel_rfl) (by kernel_rfl) (fun c a w h => HQ.out c a _ _ w h) (Or.inl ⟨by rfl, ?_⟩) hHeld ?_
  · intro W hSw
    obtain ⟨z0, z1, z2, z3, z4, z5, z6, z7, z8, z9⟩ := hSw
    clear hHeld
    go_simp
  try simp only [Act.put, List.setIfInBounds_toArray, List.set_cons_zero, List.set_cons_succ]
  refine wpAnyH_take (i := 38) (oi := { dst := some 139, op := Op.fieldAddr 37 (Operand.tmp 15) 4, type := 0, pos := "outright.go:63", after := #[{ on := 37, ground := Ground.guard }], guard := some (37, true) }) (v := undef) rfl (by kernel_rfl) (by kernel_rfl) (by kernel_rfl) (fun c a w h => HQ.out c a _ _ w h) (Or.inr ⟨by rfl, rfl⟩) hHeld ?_
  try simp only [Act.put, List.setIfInBounds_toArray, List.set_cons_zero, List.set_cons_succ]
  refine wpAnyH_take (i := 39) (oi := { dst := some 140, op := Op.load 3 (Operand.tmp 139), type := 3, pos := "outright.go:63", after := #[{ on := 38, ground := Ground.data }, { on := 37, ground := Ground.guard }], guard := some (37, true) }) (v := undef) rfl (by kernel_rfl) (by kernel_rfl) (by kernel_rfl) (fun c a w h => HQ.out c a _ _ w h) (Or.inr ⟨by rfl, rfl⟩) hHeld ?_
  try simp only [Act.put, List.setIfInBounds_toArray, List.set_cons_zero, List.set_cons_succ]
  refine wpAnyH_take (i := 40) (oi := { dst := some 141, op := Op.fieldAddr 25 (Operand.tmp 3) 0, type := 0, pos := "outright.go:63", after := #[{ on := 37, ground := Ground.guard }], guard := some (37, true) }) (v := undef) rfl (by kernel_rfl) (by kernel_rfl) (by kernel_rfl) (fun c a w h => HQ.out c a _ _ w h) (Or.inr ⟨by rfl, rfl⟩) hHeld ?_
  try simp only [Act.put, List.setIfInBounds_toArray, List.set_cons_zero, List.set_cons_succ]
  refine wpAnyH_take (i := 41) (oi := { dst := some 142, op := Op.load 22 (Operand.tmp 141), type := 22, pos := "outright.go:63", after := #[{ on := 40, ground := Ground.data }, { on := 37, ground := Ground.guard }], guard := some (37, true) }) (v := undef) rfl (by kernel_rfl) (by kernel_rfl) (by kernel_rfl) (fun c a w h => HQ.out c a _ _ w h) (Or.inr ⟨by rfl, rfl⟩) hHeld ?_
  try simp only [Act.put, List.setIfInBounds_toArray, List.set_cons_zero, List.set_cons_succ]
  refine wpAnyH_take (i := 42) (oi := { dst := some 143, op := Op.call { callee := Callee.builtin Builtin.len, args := #[Operand.tmp 142], argTypes := #[22] }, type := 3, pos := "outright.go:63", after := #[{ on := 41, ground := Ground.data }, { on := 37, ground := Ground.guard }], guard := some (37, true) }) (v := undef) rfl (by kernel_rfl) (by kernel_rfl) (by kernel_rfl) (fun c a w h => HQ.out c a _ _ w h) (Or.inr ⟨by rfl, rfl⟩) hHeld ?_
  try simp only [Act.put, List.setIfInBounds_toArray, List.set_cons_zero, List.set_cons_succ]
  refine wpAnyH_take (i := 43) (oi := { dst := some 144, op := Op.binOp BinOp.gtr 3 (Operand.tmp 140) (Operand.tmp 143) 3, type := 4, pos := "outright.go:63", after := #[{ on := 39, ground := Ground.data }, { on := 42, ground := Ground.data }, { on := 37, ground := Ground.guard }], guard := some (37, true) }) (v := undef) rfl (by kernel_rfl) (by kernel_rfl) (by kernel_rfl) (fun c a w h => HQ.out c a _ _ w h) (Or.inr ⟨by rfl, rfl⟩) hHeld ?_
  try simp only [Act.put, List.setIfInBounds_toArray, List.set_cons_zero, List.set_cons_succ]
  refine wpAnyH_take (i := 44) (oi := { dst := some 145, op := Op.pick (Operand.tmp 138) (Operand.tmp 144) (Operand.const (Value.bool false)), type := 4, pos := "outright.go:63", after := #[{ on := 37, ground := Ground.data }, { on := 43, ground := Ground.data }, { on := 33, ground := Ground.guard }], guard := some (33, false) }) (v := (.bool false)) rfl (by kernel_rfl) (by kernel_rfl) (by kernel_rfl) (fun c a w h => HQ.out c a _ _ w h) (Or.inl ⟨by rfl, ?_⟩) hHeld ?_
  · intro W hSw
    obtain ⟨z0, z1, z2, z3, z4, z5, z6, z7, z8, z9⟩ := hSw
    clear hHeld
    go_simp
  try simp only [Act.put, List.setIfInBounds_toArray, List.set_cons_zero, List.set_cons_succ]
  refine wpAnyH_take (i := 45) (oi := { dst := some 146, op := Op.pick (Operand.tmp 134) (Operand.const (Value.bool true)) (Operand.tmp 145), type := 4, pos := "outright.go:63", after := #[{ on := 33, ground := Ground.data }, { on := 44, ground := Ground.data }], guard := none }) (v := (.bool false)) rfl (by kernel_rfl) (by kernel_rfl) (by kernel_rfl) (fun c a w h => HQ.out c a _ _ w h) (Or.inl ⟨by rfl, ?_⟩) hHeld ?_
  · intro W hSw
    obtain ⟨z0, z1, z2, z3, z4, z5, z6, z7, z8, z9⟩ := hSw
    clear hHeld
    go_simp
  try simp only [Act.put, List.setIfInBounds_toArray, List.set_cons_zero, List.set_cons_succ]
  refine wpAnyH_done (by kernel_rfl) ?_ _
  exact HH.out w6 _ _ _ _ _ _ _ _ _ _ _ _ _ _ _ _ _ _ _ _ _ _ _ _ _ _ _ _ _ _ _ _ _ _ _ _ _ _ _ _ _ _ _ _ _ H6C.out
end Go.Proofs.YtfdblmjgpoocpaaGreat
