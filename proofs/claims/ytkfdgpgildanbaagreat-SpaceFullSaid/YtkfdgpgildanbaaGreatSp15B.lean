/- What a sync.Once and an atomic number do, called by one goroutine. Contracts; no condition but what each names. -/
import Derived.Test.YtkfdgpgildanbaaGreatSp15A
import Derived.Tactics
import Derived.Tactics2
import Derived.Defers
import Derived.Laws.Pointers
import Derived.Laws.LoneSync
import Derived.RegionTactic
import Derived.RegionCalls
import Derived.ChangeAlike
namespace Go.Proofs.YtkfdgpgildanbaaGreat
open Go.RowKit Go.Shelf
set_option linter.unusedVariables false
set_option linter.unusedSimpArgs false

theorem disable15 (w : World) : (callFunc 212 #[]).run Tryz.prog w = .ok (.value (.tuple #[])) w := run_call_mark0 Tryz.func212 (by kernel_rfl) (by kernel_rfl) (by kernel_rfl) .disable (by kernel_rfl) w
theorem enable15 (w : World) : (callFunc 214 #[]).run Tryz.prog w = .ok (.value (.tuple #[])) w := run_call_mark0 Tryz.func214 (by kernel_rfl) (by kernel_rfl) (by kernel_rfl) .enable (by kernel_rfl) w
theorem acquire15 (a : Addr) (w : World) : (callFunc 215 #[.pointer (some a)]).run Tryz.prog w = .ok (.value (.tuple #[])) w := run_call_marked Tryz.func215 (by kernel_rfl) (by kernel_rfl) (by kernel_rfl) .acquire (by kernel_rfl) a w
theorem releaseMerge15 (a : Addr) (w : World) : (callFunc 217 #[.pointer (some a)]).run Tryz.prog w = .ok (.value (.tuple #[])) w := run_call_marked Tryz.func217 (by kernel_rfl) (by kernel_rfl) (by kernel_rfl) .releaseMerge (by kernel_rfl) a w
theorem not15 : ∀ (x : Bool) (w : World), (Op.unary .not (.bool x)).run Tryz.prog w = .ok (.bool (!x)) w := fun _ _ => rfl
theorem done15 (a : Addr) (x : Int) (w : World) (hc : w.cell? a = some (.int .u32 x)) : Calls Tryz.prog 138 #[.pointer (some a)] w fun e w' => e = .returned (.bool (x != 0)) ∧ w = w' := by
  have hl := run_call_load (P := Tryz.prog) Tryz.func171 (by kernel_rfl) (by kernel_rfl) (by kernel_rfl) .u32 (by kernel_rfl) hc
  go_enter Tryz.func138, Tryz.ntmps138
  go_wp2
  go_ret
  exact ⟨rfl, rfl⟩
theorem storeDone15 (a : Addr) (x : Value) (u : FrameMode) (w : World) (hc : w.cell? a = some x) (hz : w.frozen? a = false) :
    CallsD Tryz.prog 174 #[.pointer (some a), .bool true] u w fun e u' w' => u' = u ∧ (e = .returned (.tuple #[]) ∧ w' = w.drew.setCell a (.int .u32 1)) := by
  have hc' : w.drew.cell? a = some x := by go_simp
  have hz' : w.drew.frozen? a = false := by go_simp
  have hst := run_call_store (P := Tryz.prog) Tryz.func197 (by kernel_rfl) (by kernel_rfl) (by kernel_rfl) (by kernel_rfl) (k := .u32) (y := 1) hc' hz'
  go_enter_d Tryz.func174, Tryz.ntmps174
  go_wp2
  go_region_calls
  all_goals (go_end0; exact ⟨rfl, rfl⟩)
set_option maxRecDepth 100000 in
set_option maxHeartbeats 1600000 in
theorem unlock15 (a : Addr) (u : FrameMode) (w : World) (hc : w.cell? a = some (.int .i32 1)) (hz : w.frozen? a = false) :
    CallsD Tryz.prog 173 #[.pointer (some a)] u w fun e u' w' => u' = u ∧ (e = .returned (.tuple #[]) ∧ w' = w.setCell a (.int .i32 0)) := by
  have hd := disable15
  have he := enable15
  have hr := releaseMerge15
  have hadd := run_call_add (P := Tryz.prog) Tryz.func218 (by kernel_rfl) (by kernel_rfl) (by kernel_rfl) .i32 (by kernel_rfl) (y := -1) (s := 0) hc hz (by simp [go_sem]; rfl)
  have hcv := run_convert_to_unsafe (P := Tryz.prog) (src := 229) (dst := 233) Tryz.underlying229 Tryz.underlying233 (by kernel_rfl) hc
  go_enter_d Tryz.func173, Tryz.ntmps173
  go_wp2
  go_end0
  go_wp2
  go_end0
  exact ⟨rfl, rfl⟩
set_option maxRecDepth 100000 in
set_option maxHeartbeats 1600000 in
theorem lock15 (a : Addr) (w : World) (hc : w.cell? a = some (.int .i32 0)) (hz : w.frozen? a = false) :
    Calls Tryz.prog 172 #[.pointer (some a)] w fun e w' => e = .returned (.tuple #[]) ∧ w' = w.setCell a (.int .i32 1) := by
  have hd := disable15
  have he := enable15
  have ha := acquire15
  have hcas := run_call_cas_hit (P := Tryz.prog) Tryz.func213 (by kernel_rfl) (by kernel_rfl) (by kernel_rfl) .i32 (by kernel_rfl) (y := 1) hc hz
  have hc' : (w.setCell a (.int .i32 1)).cell? a = some (.int .i32 1) := World.cell?_setCell_same w a _ hc
  have hcv := run_convert_to_unsafe (P := Tryz.prog) (src := 229) (dst := 233) Tryz.underlying229 Tryz.underlying233 (by kernel_rfl) hc'
  go_enter Tryz.func172, Tryz.ntmps172
  go_wp2
  first | go_end0 | (simp only [Exit.inBlock, Exit.then]; refine bodyPost_ret (results_none rfl _ _ _) rfl ?_) | refine bodyPost_ret (results_none rfl _ _ _) rfl ?_
  go_wp2
  go_end0
  exact ⟨rfl, rfl⟩
/-- What is to be seen of a Once at ⟨sb, 1⟩ while its function runs. -/
structure Locked15 (sb : Nat) (W : World) : Prop where
  d : W.cell? ⟨sb, 1, none⟩ = some (.int .u32 0)
  m : W.cell? ⟨sb, 2, none⟩ = some (.int .i32 1)
  fd : W.frozen? ⟨sb, 1, none⟩ = false
  fm : W.frozen? ⟨sb, 2, none⟩ = false
def After15 (sb : Nat) (W : World) : World := (W.drew.setCell ⟨sb, 1, none⟩ (.int .u32 1)).setCell ⟨sb, 2, none⟩ (.int .i32 0)
set_option maxRecDepth 100000 in
set_option maxHeartbeats 1600000 in
theorem slowLay15 (sb : Nat) (w : World) (Q : World → Prop) (h0 : w.cell? ⟨sb, 1, none⟩ = some (.int .u32 0)) (h1 : w.cell? ⟨sb, 2, none⟩ = some (.int .i32 0))
    (f0 : w.frozen? ⟨sb, 1, none⟩ = false) (f1 : w.frozen? ⟨sb, 2, none⟩ = false)
    (hf : Calls Tryz.prog 131 #[.pointer (some ⟨sb, 0, none⟩)] (w.setCell ⟨sb, 2, none⟩ (.int .i32 1)) fun e W => e = .returned (.tuple #[]) ∧ Q W) (hQ : ∀ W, Q W → Locked15 sb W) :
    Calls Tryz.prog 139 #[.pointer (some ⟨sb, 1, none⟩), .func (.func 131) #[.pointer (some ⟨sb, 0, none⟩)] #[]] w fun e w' => e = .returned (.tuple #[]) ∧ ∃ W, Q W ∧ w' = After15 sb W := by
  have HL := Lib.hid (lock15 ⟨sb, 2, none⟩ w h1 f1)
  have HD := Lib.hid (done15 ⟨sb, 1, none⟩ 0 (w.setCell ⟨sb, 2, none⟩ (.int .i32 1)) ((World.cell?_setCell_other _ ⟨sb, 2, none⟩ ⟨sb, 1, none⟩ _ (by simp)).trans h0))
  have HF := Lib.hid hf
  have HQ := Lib.hid hQ
  have hnot := not15
  clear hf hQ
  go_enter_defers Tryz.func139, Tryz.ntmps139
  go_wp2_with (first
    | (go_at_call 172; (with_reducible refine HL.out.mono ?_); rintro e w1 ⟨rfl, rfl⟩)
    | (go_at_call 138; (with_reducible refine HD.out.mono ?_); rintro e w2 ⟨rfl, rfl⟩)
    | (go_at_call 131; (with_reducible refine HF.out.mono ?_); rintro e w3 ⟨rfl, hq⟩; have HK := Lib.hid hq; clear hq))
  have lk := HQ.out _ HK.out
  refine leaves_cons (f := 174) (args := #[.pointer (some ⟨sb, 1, none⟩), .bool true]) (by simp) (by simp [go_sem]) ?_
  refine (storeDone15 ⟨sb, 1, none⟩ (.int .u32 0) .returning _ lk.d lk.fd).mono ?_
  rintro e u' w'' ⟨rfl, rfl, rfl⟩
  refine leaves_cons (f := 173) (args := #[.pointer (some ⟨sb, 2, none⟩)]) (by simp [settle]) (by simp [go_sem]) ?_
  refine (unlock15 ⟨sb, 2, none⟩ _ _ ?_ (by simp [lk.fm])).mono ?_
  · refine (World.cell?_setCell_other _ ⟨sb, 1, none⟩ ⟨sb, 2, none⟩ _ (by simp)).trans ?_
    rw [World.cell?_drew]
    exact lk.m
  rintro e u' w'' ⟨rfl, rfl, rfl⟩
  simp [Leaves, settle, results, Tryz.results139]
  exact ⟨_, HK.out, rfl⟩
theorem onceLay15 (sb : Nat) (w : World) (Q : World → Prop) (h0 : w.cell? ⟨sb, 1, none⟩ = some (.int .u32 0)) (h1 : w.cell? ⟨sb, 2, none⟩ = some (.int .i32 0))
    (f0 : w.frozen? ⟨sb, 1, none⟩ = false) (f1 : w.frozen? ⟨sb, 2, none⟩ = false)
    (hf : Calls Tryz.prog 131 #[.pointer (some ⟨sb, 0, none⟩)] (w.setCell ⟨sb, 2, none⟩ (.int .i32 1)) fun e W => e = .returned (.tuple #[]) ∧ Q W) (hQ : ∀ W, Q W → Locked15 sb W) :
    Calls Tryz.prog 73 #[.pointer (some ⟨sb, 1, none⟩), .func (.func 131) #[.pointer (some ⟨sb, 0, none⟩)] #[]] w fun e w' => e = .returned (.tuple #[]) ∧ ∃ W, Q W ∧ w' = After15 sb W := by
  have HD := Lib.hid (done15 ⟨sb, 1, none⟩ 0 w h0)
  have HS := Lib.hid (slowLay15 sb w Q h0 h1 f0 f1 hf hQ)
  have hnot := not15
  clear hf hQ
  go_enter Tryz.func73, Tryz.ntmps73
  go_wp2_with (first
    | (go_at_call 138; (with_reducible refine HD.out.mono ?_); rintro e w2 ⟨rfl, rfl⟩)
    | (go_at_call 139; (with_reducible refine HS.out.mono ?_); rintro e w3 ⟨rfl, hq⟩; have HK := Lib.hid hq; clear hq))
  go_end0
  exact ⟨rfl, HK.out⟩
set_option maxRecDepth 100000 in
set_option maxHeartbeats 1600000 in
theorem slowNop15 (sb : Nat) (w : World) (Q : World → Prop) (h0 : w.cell? ⟨sb, 1, none⟩ = some (.int .u32 0)) (h1 : w.cell? ⟨sb, 2, none⟩ = some (.int .i32 0))
    (f0 : w.frozen? ⟨sb, 1, none⟩ = false) (f1 : w.frozen? ⟨sb, 2, none⟩ = false)
    (hf : Calls Tryz.prog 74 #[] (w.setCell ⟨sb, 2, none⟩ (.int .i32 1)) fun e W => e = .returned (.tuple #[]) ∧ Q W) (hQ : ∀ W, Q W → Locked15 sb W) :
    Calls Tryz.prog 139 #[.pointer (some ⟨sb, 1, none⟩), .func (.func 74) #[] #[]] w fun e w' => e = .returned (.tuple #[]) ∧ ∃ W, Q W ∧ w' = After15 sb W := by
  have HL := Lib.hid (lock15 ⟨sb, 2, none⟩ w h1 f1)
  have HD := Lib.hid (done15 ⟨sb, 1, none⟩ 0 (w.setCell ⟨sb, 2, none⟩ (.int .i32 1)) ((World.cell?_setCell_other _ ⟨sb, 2, none⟩ ⟨sb, 1, none⟩ _ (by simp)).trans h0))
  have HF := Lib.hid hf
  have HQ := Lib.hid hQ
  have hnot := not15
  clear hf hQ
  go_enter_defers Tryz.func139, Tryz.ntmps139
  go_wp2_with (first
    | (go_at_call 172; (with_reducible refine HL.out.mono ?_); rintro e w1 ⟨rfl, rfl⟩)
    | (go_at_call 138; (with_reducible refine HD.out.mono ?_); rintro e w2 ⟨rfl, rfl⟩)
    | (go_at_call 74; (with_reducible refine HF.out.mono ?_); rintro e w3 ⟨rfl, hq⟩; have HK := Lib.hid hq; clear hq))
  have lk := HQ.out _ HK.out
  refine leaves_cons (f := 174) (args := #[.pointer (some ⟨sb, 1, none⟩), .bool true]) (by simp) (by simp [go_sem]) ?_
  refine (storeDone15 ⟨sb, 1, none⟩ (.int .u32 0) .returning _ lk.d lk.fd).mono ?_
  rintro e u' w'' ⟨rfl, rfl, rfl⟩
  refine leaves_cons (f := 173) (args := #[.pointer (some ⟨sb, 2, none⟩)]) (by simp [settle]) (by simp [go_sem]) ?_
  refine (unlock15 ⟨sb, 2, none⟩ _ _ ?_ (by simp [lk.fm])).mono ?_
  · refine (World.cell?_setCell_other _ ⟨sb, 1, none⟩ ⟨sb, 2, none⟩ _ (by simp)).trans ?_
    rw [World.cell?_drew]
    exact lk.m
  rintro e u' w'' ⟨rfl, rfl, rfl⟩
  simp [Leaves, settle, results, Tryz.results139]
  exact ⟨_, HK.out, rfl⟩
theorem onceNop15 (sb : Nat) (w : World) (Q : World → Prop) (h0 : w.cell? ⟨sb, 1, none⟩ = some (.int .u32 0)) (h1 : w.cell? ⟨sb, 2, none⟩ = some (.int .i32 0))
    (f0 : w.frozen? ⟨sb, 1, none⟩ = false) (f1 : w.frozen? ⟨sb, 2, none⟩ = false)
    (hf : Calls Tryz.prog 74 #[] (w.setCell ⟨sb, 2, none⟩ (.int .i32 1)) fun e W => e = .returned (.tuple #[]) ∧ Q W) (hQ : ∀ W, Q W → Locked15 sb W) :
    Calls Tryz.prog 73 #[.pointer (some ⟨sb, 1, none⟩), .func (.func 74) #[] #[]] w fun e w' => e = .returned (.tuple #[]) ∧ ∃ W, Q W ∧ w' = After15 sb W := by
  have HD := Lib.hid (done15 ⟨sb, 1, none⟩ 0 w h0)
  have HS := Lib.hid (slowNop15 sb w Q h0 h1 f0 f1 hf hQ)
  have hnot := not15
  clear hf hQ
  go_enter Tryz.func73, Tryz.ntmps73
  go_wp2_with (first
    | (go_at_call 138; (with_reducible refine HD.out.mono ?_); rintro e w2 ⟨rfl, rfl⟩)
    | (go_at_call 139; (with_reducible refine HS.out.mono ?_); rintro e w3 ⟨rfl, hq⟩; have HK := Lib.hid hq; clear hq))
  go_end0
  exact ⟨rfl, HK.out⟩
theorem onceNo15 (sb : Nat) (fv : Value) (w : World) (h0 : w.cell? ⟨sb, 1, none⟩ = some (.int .u32 1)) :
    Calls Tryz.prog 73 #[.pointer (some ⟨sb, 1, none⟩), fv] w fun e w' => e = .returned (.tuple #[]) ∧ w = w' := by
  have HD := Lib.hid (done15 ⟨sb, 1, none⟩ 1 w h0)
  have hnot := not15
  go_enter Tryz.func73, Tryz.ntmps73
  go_wp2_with (go_at_call 138; (with_reducible refine HD.out.mono ?_); rintro e w2 ⟨rfl, rfl⟩)
  go_end0
  exact ⟨rfl, rfl⟩
theorem fuel15 (a : Addr) (x : Int) (w : World) (hc : w.cell? a = some (.int .i64 x)) : Calls Tryz.prog 72 #[.pointer (some a)] w fun e w' => e = .returned (.int .i64 x) ∧ w = w' := by
  have hl := run_call_load (P := Tryz.prog) Tryz.func137 (by kernel_rfl) (by kernel_rfl) (by kernel_rfl) .i64 (by kernel_rfl) hc
  go_enter Tryz.func72, Tryz.ntmps72
  go_wp2
  go_ret
  exact ⟨rfl, rfl⟩
theorem setFuel15 (a : Addr) (x : Value) (y : Int) (w : World) (hc : w.cell? a = some x) (hz : w.frozen? a = false) : Calls Tryz.prog 59 #[.pointer (some a), .int .i64 y] w fun e w' => e = .returned (.tuple #[]) ∧ w' = w.setCell a (.int .i64 y) := by
  have hst := run_call_store (P := Tryz.prog) Tryz.func122 (by kernel_rfl) (by kernel_rfl) (by kernel_rfl) (by kernel_rfl) (k := .i64) (y := y) hc hz
  go_enter Tryz.func59, Tryz.ntmps59
  go_wp2
  go_end0
  exact ⟨rfl, rfl⟩
theorem swap15 (a : Addr) (x y : Int) (w : World) (hc : w.cell? a = some (.int .i64 x)) (hz : w.frozen? a = false) : Calls Tryz.prog 104 #[.pointer (some a), .int .i64 x, .int .i64 y] w fun e w' => e = .returned (.bool true) ∧ w' = w.setCell a (.int .i64 y) := by
  have hcas := run_call_cas_hit (P := Tryz.prog) Tryz.func159 (by kernel_rfl) (by kernel_rfl) (by kernel_rfl) .i64 (by kernel_rfl) (y := y) hc hz
  go_enter Tryz.func104, Tryz.ntmps104
  go_wp2
  go_ret
  exact ⟨rfl, rfl⟩
end Go.Proofs.YtkfdgpgildanbaaGreat
