/- A space as a plain value, and what each call makes of it. Plain mathematics. -/
import Derived.Test.YtkfdgpgildanbaaGreatS41
import Derived.Test.YtkfdgpgildanbaaGreatS43
import Derived.Test.YtkfdgpgildanbaaGreatS05
import Derived.Test.YtkfdgpgildanbaaGreatMath14
namespace Go.Proofs.YtkfdgpgildanbaaGreat
set_option linter.unusedVariables false
set_option linter.unusedSimpArgs false

/-- A link. -/
structure LinkV where
  f : Nat
  at_ : Int
  back : Int
  res : Int
/-- A space. -/
structure SpV where
  m : ModV
  size : Nat
  inp : List Int
  mem : List Int
  left : List Int
  done : List (Int × Int)
  fuel : Int
  f : Nat
  at_ : Int
  pc : Int
  links : List LinkV
  ek : Int
  ec : Int
def fnV (m : ModV) (f : Nat) : FunV := m.funcs.getD f .zero
def floV (m : ModV) : Int := floorV m.data.length
def SpV.regB (S : SpV) (r : Int) : Bool := decide (0 ≤ r) && decide (r < (fnV S.m S.f).regs)
def placeB (n : Int) : Bool := decide (0 ≤ n) && decide (n < 4096)
def SpV.refE (S : SpV) : Int := if S.ek = 0 then 0 else 9
def SpV.getE (S : SpV) (r : Int) : Int := if S.ek = 0 then (if S.regB r then 0 else 5) else 9
def SpV.getV (S : SpV) (r : Int) : Int := if S.getE r = 0 then loadV S.mem (slotV S.at_ r) 8 else 0
def SpV.setS (S : SpV) (r v : Int) : SpV := if S.getE r = 0 then { S with mem := storeL S.mem (slotV S.at_ r) 8 v } else S
def SpV.goE (S : SpV) (n : Int) : Int := if S.ek = 0 then (if placeB n then 0 else 5) else 9
def SpV.goS (S : SpV) (n : Int) : SpV := if S.goE n = 0 then { S with pc := n } else S
def SpV.burnE (S : SpV) (n : Int) : Int := if S.ek = 0 then (if n < 0 ∨ S.fuel < n then 2 else 0) else 9
def SpV.burnS (S : SpV) (n : Int) : SpV := if S.burnE n = 0 then { S with fuel := S.fuel - n } else S
/-- Is there such a function, with so many params? -/
def SpV.fitB (S : SpV) (f : Int) (n : Nat) : Bool := decide (0 ≤ f) && decide (f < S.m.funcs.length) && decide ((n : Int) = (fnV S.m f.toNat).params)
def SpV.callE (S : SpV) (f : Int) (args : List Int) (res back : Int) : Int :=
  if S.ek = 0 then (if S.fitB f args.length then (if args.all S.regB && (S.regB res && placeB back) then 0 else 5) else 2) else 9
/-- What registers contain is copied, one behind the other. -/
def passL (mem : List Int) (src dst : Int) : Nat → List Int → List Int
  | _, [] => mem
  | i, a :: l => passL (storeL mem (slotV dst i) 8 (loadV mem (slotV src a) 8)) src dst (i + 1) l
/-- Numbers are laid into registers, one behind the other. -/
def setsL (mem : List Int) (dst : Int) : Nat → List Int → List Int
  | _, [] => mem
  | i, v :: l => setsL (storeL mem (slotV dst i) 8 v) dst (i + 1) l
def SpV.newAt (S : SpV) (f : Nat) : Int := pushV S.at_ (fnV S.m f).regs (fnV S.m f).area (floV S.m)
def SpV.newE (S : SpV) (f : Nat) : Int := pushE S.at_ (fnV S.m f).regs (fnV S.m f).area (floV S.m)
/-- The stack is out. -/
def SpV.outB (S : SpV) (f : Nat) : Bool := decide (S.links.length = 256) || decide (S.newE f ≠ 0)
def SpV.callS (S : SpV) (f : Int) (args : List Int) (res back : Int) : SpV :=
  if S.callE f args res back = 0 then
    (if S.outB f.toNat then { S with ek := 3 } else
      { S with links := S.links ++ [⟨S.f, S.at_, back, res⟩], f := f.toNat, at_ := S.newAt f.toNat, pc := 0, mem := passL S.mem S.at_ (S.newAt f.toNat) 0 args })
  else S
def SpV.backS (S : SpV) (l : LinkV) (v : Int) : SpV :=
  { S with links := S.links.dropLast, f := l.f, at_ := l.at_, pc := l.back, mem := storeL S.mem (slotV l.at_ l.res) 8 v }
def SpV.retS (S : SpV) (v : Int) : SpV :=
  if S.ek = 0 then (match S.links.getLast? with | none => { S with ek := 1, ec := v % 256 } | some l => S.backS l v) else S
def SpV.stopE (S : SpV) (k c : Int) : Int := if S.ek = 0 then (if okO [] k c then 0 else 2) else 9
def SpV.stopS (S : SpV) (k c : Int) : SpV := if S.stopE k c = 0 then { S with ek := k, ec := c } else S
/-- What is got of what is left. -/
def hd15 : List Int → Int
  | [] => -1
  | x :: _ => x
def SpV.getbV (S : SpV) : Int := if S.ek = 0 then hd15 S.left else 0
def SpV.getbS (S : SpV) : SpV := if S.ek = 0 then { S with left := S.left.tail, done := S.done ++ [(1, hd15 S.left)] } else S
def SpV.putbS (S : SpV) (b : Int) : SpV := if S.ek = 0 then { S with done := S.done ++ [(2, b % 256)] } else S
def SpV.memS (S : SpV) (a n v : Int) : SpV := { S with mem := storeL S.mem a n v }
/-- A memory of a space. -/
def sizeB (n : Int) : Bool := decide (16 ≤ n) && decide (n ≤ 65536) && decide (n % 16 = 0)
def newE15 (m : ModV) (n fuel : Int) : Int :=
  if fuel < 0 ∨ 10000000 < fuel ∨ sizeB n = false ∨ m.err ≠ 0 then 2 else (if n < floV m then 8 else 0)
def new0 (m : ModV) (n : Nat) (inp : List Int) (fuel : Int) : SpV :=
  ⟨m, n, inp, layB (List.replicate n 0) 16 m.data, inp, [], fuel, 0, n, 0, [], 0, 0⟩
def newS (m : ModV) (n : Nat) (inp : List Int) (fuel : Int) : SpV :=
  if (new0 m n inp fuel).newE 0 = 0 then { new0 m n inp fuel with at_ := (new0 m n inp fuel).newAt 0 } else { new0 m n inp fuel with ek := 3 }
/-- A frame that lies in memory. -/
structure FrOk (m : ModV) (size : Nat) (f : Nat) (x : Int) : Prop where
  fn : f < m.funcs.length
  lo : floV m ≤ x
  hi : x + fsV (fnV m f).regs (fnV m f).area ≤ size
  al : x % 16 = 0
structure SpV.ok (S : SpV) : Prop where
  mod : S.m.err = 0
  lo : 16 ≤ S.size
  hi : S.size ≤ 65536
  al : S.size % 16 = 0
  flo : floV S.m ≤ S.size
  len : S.mem.length = S.size
  bd : ∀ x ∈ S.inp, 0 ≤ x ∧ x < 256
  fuel0 : 0 ≤ S.fuel
  fuel1 : S.fuel ≤ 10000000
  fn : S.f < S.m.funcs.length
  at0 : 16 ≤ S.at_
  at1 : S.at_ ≤ 65536
  run : S.ek = 0 → S.ec = 0 ∧ FrOk S.m S.size S.f S.at_
  pc0 : 0 ≤ S.pc
  pc1 : S.pc < 4096
  deep : S.links.length ≤ 256
  link : ∀ l ∈ S.links, FrOk S.m S.size l.f l.at_ ∧ placeB l.back = true ∧ 0 ≤ l.res ∧ l.res < (fnV S.m l.f).regs
  few : S.done.length ≤ 100000
  ends : InI S.ek ∧ InI S.ec
theorem firstF_zero : ∀ {l : List FunV}, firstF l = 0 → ∀ f ∈ l, f.err = 0
  | [], _, f, hf => by cases hf
  | g :: l, h, f, hf => by
    simp only [firstF] at h
    split at h
    · rename_i h0
      rcases List.mem_cons.1 hf with rfl | hf
      · exact h0
      · exact firstF_zero h f hf
    · rename_i h0; exact absurd h h0
theorem err_funs {m : ModV} (h : m.err = 0) : m.data.length ≤ 8192 ∧ 1 ≤ m.funcs.length ∧ m.funcs.length ≤ 64 ∧ ∀ f ∈ m.funcs, f.err = 0 := by
  unfold ModV.err at h
  split at h
  · omega
  · split at h
    · rename_i h1 h2
      simp [someV] at h2
      exact ⟨by omega, by omega, by omega, firstF_zero h⟩
    · omega
/-- A function of a module that may be. -/
theorem err_fn {m : ModV} (h : m.err = 0) {f : Nat} (hf : f < m.funcs.length) : 0 ≤ (fnV m f).regs ∧ (fnV m f).regs ≤ 64 ∧ 0 ≤ (fnV m f).params ∧ (fnV m f).params ≤ (fnV m f).regs ∧ (fnV m f).params ≤ 8 ∧ 0 ≤ (fnV m f).area ∧ (fnV m f).area ≤ 4096 := by
  have h1 := (err_funs h).2.2.2 (fnV m f) (by unfold fnV; rw [List.getD_eq_getElem?_getD, List.getElem?_eq_getElem hf]; exact List.getElem_mem hf)
  unfold FunV.err at h1
  split at h1
  · rename_i h2
    simp [framedV] at h2
    omega
  · omega
theorem flo_bd {m : ModV} (h : m.err = 0) : 16 ≤ floV m ∧ floV m % 16 = 0 ∧ floV m ≤ 8208 := by
  have := (err_funs h).1
  unfold floV floorV upV
  rw [if_pos ⟨by omega, by omega⟩]
  omega
theorem fs_fn {m : ModV} (h : m.err = 0) {f : Nat} (hf : f < m.funcs.length) : 8 * (fnV m f).regs ≤ fsV (fnV m f).regs (fnV m f).area ∧ fsV (fnV m f).regs (fnV m f).area % 16 = 0 ∧ fsV (fnV m f).regs (fnV m f).area ≤ 4608 ∧ fsE (fnV m f).regs (fnV m f).area = 0 := by
  obtain ⟨h1, h2, h3, h4, h5, h6, h7⟩ := err_fn h hf
  obtain ⟨e1, e2⟩ := fs_ok h1 h2 h6 h7
  have := fs_bd (fnV m f).regs (fnV m f).area
  refine ⟨?_, this.2.2, this.2.1, e2⟩
  rw [e1]; unfold upV; omega
/-- A register's slot lies in memory. -/
theorem slot_in {m : ModV} {size f : Nat} {x r : Int} (hm : m.err = 0) (hs : size ≤ 65536) (h : FrOk m size f x) (h0 : 0 ≤ r) (h1 : r < (fnV m f).regs) : slotV x r = x + 8 * r ∧ 16 ≤ x + 8 * r ∧ x + 8 * r + 8 ≤ size := by
  have hf := flo_bd hm
  have h2 := fs_fn hm h.fn
  have h3 := h.lo
  have h4 := h.hi
  refine ⟨?_, by omega, by omega⟩
  unfold slotV
  rw [show x + r * 8 = x + 8 * r by omega]
  omega
theorem numE_in {size x : Int} (h0 : 16 ≤ x) (h1 : x + 8 ≤ size) : numE size x 8 = 0 := by
  unfold numE accE
  rw [if_pos (by decide), if_neg (by omega), if_neg (by omega)]
section
variable {S : SpV}
theorem SpV.ok.slot (h : S.ok) (hr : S.ek = 0) {r : Int} (hb : S.regB r = true) : slotV S.at_ r = S.at_ + 8 * r ∧ 16 ≤ S.at_ + 8 * r ∧ S.at_ + 8 * r + 8 ≤ S.size := by
  simp [SpV.regB] at hb
  exact slot_in h.mod h.hi (h.run hr).2 hb.1 hb.2
theorem SpV.ok.slotE (h : S.ok) (hr : S.ek = 0) {r : Int} (hb : S.regB r = true) : numE S.mem.length (slotV S.at_ r) 8 = 0 := by
  obtain ⟨h1, h2, h3⟩ := h.slot hr hb
  rw [h1, h.len]
  exact numE_in h2 h3
theorem storeL_len {xs : List Int} {a n v : Int} : (storeL xs a n v).length = xs.length := by
  unfold storeL
  split
  · rename_i h
    obtain ⟨hs, h0, h1, h2, h3⟩ := numE_zero h
    have : (bytesV v n.toNat).length = n.toNat := bytesV_len v _
    exact layL_len (by rw [this]; omega)
  · rfl
theorem SpV.ok.memS (h : S.ok) (a n v : Int) : (S.memS a n v).ok :=
  ⟨h.mod, h.lo, h.hi, h.al, h.flo, storeL_len.trans h.len, h.bd, h.fuel0, h.fuel1, h.fn, h.at0, h.at1, h.run, h.pc0, h.pc1, h.deep, h.link, h.few, h.ends⟩
theorem SpV.ok.mem' (h : S.ok) {l : List Int} (hl : l.length = S.mem.length) : ({ S with mem := l } : SpV).ok :=
  ⟨h.mod, h.lo, h.hi, h.al, h.flo, hl.trans h.len, h.bd, h.fuel0, h.fuel1, h.fn, h.at0, h.at1, h.run, h.pc0, h.pc1, h.deep, h.link, h.few, h.ends⟩
theorem SpV.ok.setS (h : S.ok) (r v : Int) : (S.setS r v).ok := by
  unfold SpV.setS
  split
  · exact h.mem' storeL_len
  · exact h
theorem SpV.ok.goS (h : S.ok) (n : Int) : (S.goS n).ok := by
  unfold SpV.goS SpV.goE
  by_cases h1 : S.ek = 0
  · rw [if_pos h1]
    by_cases h2 : placeB n = true
    · rw [if_pos h2, if_pos rfl]
      simp [placeB] at h2
      exact ⟨h.mod, h.lo, h.hi, h.al, h.flo, h.len, h.bd, h.fuel0, h.fuel1, h.fn, h.at0, h.at1, h.run, h2.1, h2.2, h.deep, h.link, h.few, h.ends⟩
    · rw [if_neg h2, if_neg (by decide)]; exact h
  · rw [if_neg h1, if_neg (by decide)]; exact h
theorem SpV.ok.burnS (h : S.ok) (n : Int) : (S.burnS n).ok := by
  unfold SpV.burnS SpV.burnE
  by_cases h1 : S.ek = 0
  · rw [if_pos h1]
    by_cases h2 : n < 0 ∨ S.fuel < n
    · rw [if_pos h2, if_neg (by decide)]; exact h
    · rw [if_neg h2, if_pos rfl]
      have := h.fuel1
      exact ⟨h.mod, h.lo, h.hi, h.al, h.flo, h.len, h.bd, by show 0 ≤ S.fuel - n; omega, by show S.fuel - n ≤ 10000000; omega, h.fn, h.at0, h.at1, h.run, h.pc0, h.pc1, h.deep, h.link, h.few, h.ends⟩
  · rw [if_neg h1, if_neg (by decide)]; exact h
theorem SpV.ok.stopS (h : S.ok) (k c : Int) : (S.stopS k c).ok := by
  unfold SpV.stopS SpV.stopE
  by_cases h1 : S.ek = 0
  · rw [if_pos h1]
    by_cases h2 : okO [] k c = true
    · rw [if_pos h2, if_pos rfl]
      have h3 := h2
      unfold okO at h3
      simp only [Bool.and_eq_true] at h3
      have h4 : k ≠ 0 ∧ InI k ∧ InI c := by
        unfold InI
        rcases okE_cases h3.1.2 with ⟨rfl, _, _⟩ | ⟨rfl, rfl | rfl⟩ | ⟨rfl | rfl, rfl⟩ <;> omega
      exact ⟨h.mod, h.lo, h.hi, h.al, h.flo, h.len, h.bd, h.fuel0, h.fuel1, h.fn, h.at0, h.at1, fun e => absurd e h4.1, h.pc0, h.pc1, h.deep, h.link, h.few, h4.2⟩
    · rw [if_neg h2, if_neg (by decide)]; exact h
  · rw [if_neg h1, if_neg (by decide)]; exact h
theorem SpV.ok.getbS (h : S.ok) (hf : S.done.length < 100000) : S.getbS.ok := by
  unfold SpV.getbS
  split
  · exact ⟨h.mod, h.lo, h.hi, h.al, h.flo, h.len, h.bd, h.fuel0, h.fuel1, h.fn, h.at0, h.at1, h.run, h.pc0, h.pc1, h.deep, h.link, by simp; omega, h.ends⟩
  · exact h
theorem SpV.ok.putbS (h : S.ok) (hf : S.done.length < 100000) (b : Int) : (S.putbS b).ok := by
  unfold SpV.putbS
  split
  · exact ⟨h.mod, h.lo, h.hi, h.al, h.flo, h.len, h.bd, h.fuel0, h.fuel1, h.fn, h.at0, h.at1, h.run, h.pc0, h.pc1, h.deep, h.link, by simp; omega, h.ends⟩
  · exact h
theorem SpV.ok.retS (h : S.ok) (v : Int) : (S.retS v).ok := by
  unfold SpV.retS
  split
  · rename_i hr
    split
    · exact ⟨h.mod, h.lo, h.hi, h.al, h.flo, h.len, h.bd, h.fuel0, h.fuel1, h.fn, h.at0, h.at1, fun e => absurd e (show ¬ (1 : Int) = 0 by decide), h.pc0, h.pc1, h.deep, h.link, h.few, by unfold InI; have := Int.emod_nonneg v (show (256 : Int) ≠ 0 by decide); have := Int.emod_lt_of_pos v (show (0 : Int) < 256 by decide); show _ ∧ _ ∧ _; constructor <;> simp only [] <;> omega⟩
    · rename_i l hl
      obtain ⟨h1, h2, h3, h4⟩ := h.link l (List.mem_of_getLast? hl)
      simp [placeB] at h2
      have h5 := flo_bd h.mod
      have h6 := h1.lo
      have h7 := h1.hi
      have h8 := (fs_bd (fnV S.m l.f).regs (fnV S.m l.f).area).1
      have h9 := h.hi
      exact ⟨h.mod, h.lo, h.hi, h.al, h.flo, storeL_len.trans h.len, h.bd, h.fuel0, h.fuel1, h1.fn, by show 16 ≤ l.at_; omega, by show l.at_ ≤ 65536; omega, fun e => ⟨(h.run e).1, h1⟩, h2.1, h2.2, by show S.links.dropLast.length ≤ 256; have := h.deep; simp; omega, fun k hk => h.link k (List.dropLast_subset _ hk), h.few, h.ends⟩
  · exact h
theorem passL_len : ∀ (l : List Int) (i : Nat) (mem : List Int) (a b : Int), (passL mem a b i l).length = mem.length
  | [], _, _, _, _ => rfl
  | x :: l, i, mem, a, b => by simp only [passL]; rw [passL_len l, storeL_len]
theorem setsL_len : ∀ (l : List Int) (i : Nat) (mem : List Int) (b : Int), (setsL mem b i l).length = mem.length
  | [], _, _, _ => rfl
  | x :: l, i, mem, b => by simp only [setsL]; rw [setsL_len l, storeL_len]
/-- A frame that is pushed lies below the one that it is pushed from. -/
theorem push_fr {m : ModV} {size f : Nat} {x : Int} (hm : m.err = 0) (hf : f < m.funcs.length) (hs : size ≤ 65536) (hx : x ≤ size) (he : pushE x (fnV m f).regs (fnV m f).area (floV m) = 0) :
    FrOk m size f (pushV x (fnV m f).regs (fnV m f).area (floV m)) ∧ pushV x (fnV m f).regs (fnV m f).area (floV m) + fsV (fnV m f).regs (fnV m f).area = x := by
  have h1 := fs_fn hm hf
  have h2 := flo_bd hm
  have e : pushV x (fnV m f).regs (fnV m f).area (floV m) = x - fsV (fnV m f).regs (fnV m f).area := by unfold pushV; rw [if_pos he]
  unfold pushE at he
  rw [if_pos h1.2.2.2] at he
  split at he
  · rename_i hed
    simp only [Bool.and_eq_true] at hed
    have h3 := edge_iff.1 hed.1
    split at he
    · omega
    · rw [e]
      exact ⟨⟨hf, by omega, by omega, by omega⟩, by omega⟩
  · omega
theorem SpV.ok.at_le (h : S.ok) (hr : S.ek = 0) : S.at_ ≤ S.size := by
  have h1 := (h.run hr).2.hi
  have h2 := (fs_bd (fnV S.m S.f).regs (fnV S.m S.f).area).1
  omega
theorem fit_iff {f : Int} {n : Nat} : S.fitB f n = true ↔ 0 ≤ f ∧ f < S.m.funcs.length ∧ (n : Int) = (fnV S.m f.toNat).params := by
  simp [SpV.fitB, and_assoc]
theorem callE_zero {f : Int} {args : List Int} {res back : Int} (h : S.callE f args res back = 0) : S.ek = 0 ∧ S.fitB f args.length = true ∧ (∀ a ∈ args, S.regB a = true) ∧ S.regB res = true ∧ placeB back = true := by
  unfold SpV.callE at h
  split at h
  · split at h
    · split at h
      · rename_i h1 h2 h3
        simp only [Bool.and_eq_true, List.all_eq_true] at h3
        exact ⟨h1, h2, h3.1, h3.2.1, h3.2.2⟩
      · omega
    · omega
  · omega
theorem SpV.ok.callS (h : S.ok) (f : Int) (args : List Int) (res back : Int) : (S.callS f args res back).ok := by
  unfold SpV.callS
  split
  · rename_i he
    obtain ⟨h1, h2, h3, h4, h5⟩ := callE_zero he
    split
    · exact ⟨h.mod, h.lo, h.hi, h.al, h.flo, h.len, h.bd, h.fuel0, h.fuel1, h.fn, h.at0, h.at1, fun e => absurd e (show ¬ (3 : Int) = 0 by decide), h.pc0, h.pc1, h.deep, h.link, h.few, by unfold InI; show _ ∧ _; exact ⟨by simp, h.ends.2⟩⟩
    · rename_i ho
      simp [SpV.outB] at ho
      obtain ⟨f1, f2, f3⟩ := fit_iff.1 h2
      have hfl : f.toNat < S.m.funcs.length := by omega
      obtain ⟨p1, p2⟩ := push_fr (f := f.toNat) (x := S.at_) h.mod hfl h.hi (h.at_le h1) ho.2
      have h6 := flo_bd h.mod
      have h7 := p1.lo
      have h8 := (fs_bd (fnV S.m f.toNat).regs (fnV S.m f.toNat).area).1
      have h9 := h.at1
      have hd := h.deep
      refine ⟨h.mod, h.lo, h.hi, h.al, h.flo, (passL_len _ _ _ _ _).trans h.len, h.bd, h.fuel0, h.fuel1, hfl, ?_, ?_, fun e => ⟨(h.run e).1, p1⟩, by simp, by simp, ?_, ?_, h.few, h.ends⟩
      · show 16 ≤ S.newAt f.toNat; unfold SpV.newAt; omega
      · show S.newAt f.toNat ≤ 65536; unfold SpV.newAt; omega
      · show (S.links ++ [_]).length ≤ 256; simp; have := ho.1; omega
      · intro l hl
        rcases List.mem_append.1 hl with hl | hl
        · exact h.link l hl
        · simp at hl
          subst hl
          simp [SpV.regB] at h4
          exact ⟨(h.run h1).2, h5, h4.1, h4.2⟩
  · exact h
end
theorem layB_len {xs ys : List Int} {a : Int} (h : 0 ≤ a) : (layB xs a ys).length = xs.length := by
  unfold layB
  split
  · rename_i h1
    obtain ⟨h2, h3, h4, h5⟩ := accE_zero h1
    exact layL_len (by omega)
  · rfl
theorem newE15_zero {m : ModV} {n fuel : Int} (h : newE15 m n fuel = 0) : 0 ≤ fuel ∧ fuel ≤ 10000000 ∧ 16 ≤ n ∧ n ≤ 65536 ∧ n % 16 = 0 ∧ m.err = 0 ∧ floV m ≤ n := by
  unfold newE15 at h
  split at h
  · omega
  · rename_i h1
    split at h
    · omega
    · simp only [not_or] at h1
      obtain ⟨a, b, c, d⟩ := h1
      simp [sizeB] at c
      exact ⟨by omega, by omega, by omega, by omega, by omega, by omega, by omega⟩
theorem newS_ok {m : ModV} {n : Nat} {inp : List Int} {fuel : Int} (h : newE15 m n fuel = 0) (hb : ∀ x ∈ inp, 0 ≤ x ∧ x < 256) : (newS m n inp fuel).ok := by
  obtain ⟨h1, h2, h3, h4, h5, h6, h7⟩ := newE15_zero h
  have hf := (err_funs h6).2.1
  have hl : (layB (List.replicate n (0 : Int)) 16 m.data).length = n := by rw [layB_len (by decide)]; simp
  have hn : n ≤ 65536 := by omega
  unfold newS
  split
  · rename_i he
    obtain ⟨p1, p2⟩ := push_fr (f := 0) (x := n) (size := n) h6 (by omega) hn (by omega) he
    have h8 := flo_bd h6
    have h9 := p1.lo
    have h10 := (fs_bd (fnV m 0).regs (fnV m 0).area).1
    have en : (new0 m n inp fuel).newAt 0 = pushV (n : Int) (fnV m 0).regs (fnV m 0).area (floV m) := rfl
    exact ⟨h6, by show 16 ≤ n; omega, hn, by show n % 16 = 0; omega, h7, hl, hb, h1, h2, by show 0 < m.funcs.length; omega, by show 16 ≤ (new0 m n inp fuel).newAt 0; rw [en]; omega, by show (new0 m n inp fuel).newAt 0 ≤ 65536; rw [en]; omega, fun _ => ⟨rfl, p1⟩, by show (0 : Int) ≤ 0; omega, by show (0 : Int) < 4096; omega, by show 0 ≤ 256; omega, fun l hl => (by cases hl), by show 0 ≤ 100000; omega, by unfold InI new0; simp⟩
  · exact ⟨h6, by show 16 ≤ n; omega, hn, by show n % 16 = 0; omega, h7, hl, hb, h1, h2, by show 0 < m.funcs.length; omega, by show (16 : Int) ≤ n; omega, by show (n : Int) ≤ 65536; omega, fun e => absurd e (show ¬ (3 : Int) = 0 by decide), by show (0 : Int) ≤ 0; omega, by show (0 : Int) < 4096; omega, by show 0 ≤ 256; omega, fun l hl => (by cases hl), by show 0 ≤ 100000; omega, by unfold InI new0; simp⟩
end Go.Proofs.YtkfdgpgildanbaaGreat
