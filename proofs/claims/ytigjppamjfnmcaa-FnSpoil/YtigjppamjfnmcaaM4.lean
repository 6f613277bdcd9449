/-
  Contracts of the functions that read a header's fields, of must, and of the making of the struct that holds them.
  strings.Clone gives the same bytes: the library's contract of internal/stringslite.Clone, laid at this program's own numbers.
  Regions that leave their order open, whatever their operations make: each operation is shown once, against what those that it waits for have left; every order is then served. (Own law over the library's 'wpAny'.)
  Regions that leave the order of their first operations open and whose last ones come one behind the other: the first m are shown one by one, against what those that they wait for have left; then the rest is walked in the order of the text.
  A segment in a variable of its own: its eight cells, read and written; the segment that a text's fields tell.
  An address as a value, and in a variable of its own: its two cells, read and written.
-/
import Derived.Test.YtigjppamjfnmcaaM3
import Derived.Deep.QuietTactic
import Derived.BigQuiet
import Derived.Laws.EntriesVeiled
import Derived.Laws.NewDeep
import Derived.Test.YtigjppamjfnmcaaM2
import Derived.Shelf.Pu.Clone
import Derived.Still
import Derived.WalkKit
import Derived.Tactics
import Derived.Test.YtigjppamjfnmcaaSegOk
namespace Go.Proofs.Ytigjppamjfnmcaa
open Go.ChangeShapes Go.WideShapes Go.ChangeAt Go.RowKit
set_option linter.unusedVariables false

/-- The half of a text at i. -/
def halfAt (s : ByteArray) (i : Nat) : Int := byteAt s i * 256 + byteAt s (i + 1)

/-- The word of a text at i. -/
def wordAt (s : ByteArray) (i : Nat) : Int := byteAt s i * 16777216 + byteAt s (i + 1) * 65536 + byteAt s (i + 2) * 256 + byteAt s (i + 3)

theorem must_true (w : World) : Calls Try.prog 71 #[.bool true] w fun e w' => e = .returned (.tuple #[]) ∧ w = w' := by
  go_enter Try.func71, Try.ntmps71
  go_wp2
  go_end0
  exact ⟨rfl, rfl⟩

theorem must_false (w : World) : Calls Try.prog 71 #[.bool false] w fun e w' => (∃ v, e = .panicked [{ v := .iface 9 v, recovered := false }]) ∧ w = w' := by
  go_enter Try.func71, Try.ntmps71
  go_wp2
  exact ⟨rfl, ⟨_, rfl⟩, rfl⟩

theorem half_spell (a b : Int) (ha : 0 ≤ a ∧ a < 256) (hb : 0 ≤ b ∧ b < 256) : bits .or .i64 (wrap64 (wrap64 a * 256)) (wrap64 b) = a * 256 + b := by
  have ea : wrap64 a = a := IntWalk.wrap64_in _ ⟨by omega, by omega⟩
  have eb : wrap64 b = b := IntWalk.wrap64_in _ ⟨by omega, by omega⟩
  rw [ea, eb]
  have ec : wrap64 (a * 256) = a * 256 := IntWalk.wrap64_in _ ⟨by omega, by omega⟩
  rw [ec]
  exact or_half a b ha hb

theorem Since.drewN {a b : World} (h : Since a b) (n : Nat) : Since a (b.drewN n) := ⟨h.os, h.tape, h.output, h.size, h.block⟩

theorem halfIn (s : ByteArray) (i : Nat) (hs : s.size ≤ 1048576) (hi : i + 1 < s.size) (w : World) :
    Calls Try.prog 73 #[.string s, .int .i64 (i : Int)] w fun e w' => e = .returned (.int .i64 (halfAt s i)) ∧ Since w w' := by
  have a0 : (i : Int) < (s.size : Int) := by omega
  have a1 : (i : Int) + 1 < (s.size : Int) := by omega
  have p1 : 0 ≤ (i : Int) + 1 := by omega
  have b1 : IntKind.i64.wrap ((i : Int) + 1) = (i : Int) + 1 := by rw [IntWalk.i64_left]; exact IntWalk.wrap64_in _ ⟨by omega, by omega⟩
  go_enter Try.func73, Try.ntmps73
  go_wp2
  go_quiet (fail)
  go_wp2
  go_ret
  refine ⟨?_, (Since.refl _).drewN _⟩
  have e := half_spell (byteAt s i) (byteAt s (i + 1)) (byteAt_range s i) (byteAt_range s (i + 1))
  rw [byteAt_in s i (by omega), byteAt_in s (i + 1) (by omega)] at e
  rw [halfAt, byteAt_in s i (by omega), byteAt_in s (i + 1) (by omega), ← e]
  rfl

theorem halfFrom1 (s : ByteArray) (b i : Nat) (hs : s.size ≤ 1048576) (hi : i + 1 < s.size) (w : World) (hc : w.cell? ⟨b, 0, none⟩ = some (.int .i64 (i : Int))) :
    Calls Try.prog 82 #[.string s, .pointer (some ⟨b, 0, none⟩)] w fun e w' => e = .returned (.int .i64 (halfAt s i)) ∧ Since w w' := by
  have hh := fun wx => halfIn s i hs hi wx
  go_enter Try.func82, Try.ntmps82
  go_wp2_with (go_at_call 73; refine (hh _).mono ?_; rintro _ w1 ⟨rfl, g1⟩)
  go_ret
  exact ⟨rfl, g1⟩

theorem byteFrom1 (s : ByteArray) (b i : Nat) (hs : s.size ≤ 1048576) (hi : i < s.size) (w : World) (hc : w.cell? ⟨b, 0, none⟩ = some (.int .i64 (i : Int))) :
    Calls Try.prog 83 #[.string s, .pointer (some ⟨b, 0, none⟩)] w fun e w' => e = .returned (.int .i64 (byteAt s i)) ∧ Since w w' := by
  have a0 : (i : Int) < (s.size : Int) := by omega
  go_enter Try.func83, Try.ntmps83
  go_wp2
  go_ret
  refine ⟨?_, Since.refl _⟩
  have e := byteAt_range s i
  rw [byteAt_in s i hi] at e
  have ec : wrap64 (s[i].toNat : Int) = (s[i].toNat : Int) := IntWalk.wrap64_in _ ⟨by omega, by omega⟩
  rw [byteAt_in s i hi]
  exact congrArg (fun z => Ending.returned (.int .i64 z)) ec

theorem wordFrom1 (s : ByteArray) (b i : Nat) (hs : s.size ≤ 1048576) (hi : i + 4 ≤ s.size) (w : World) (hc : w.cell? ⟨b, 0, none⟩ = some (.int .i64 (i : Int))) :
    Calls Try.prog 84 #[.string s, .pointer (some ⟨b, 0, none⟩)] w fun e w' => e = .returned (.int .u32 (wordAt s i)) ∧ Since w w' := by
  have hg := fun wx => implGetIn s i hi hs wx
  rw [← byteAt_in s i (by omega), ← byteAt_in s (i + 1) (by omega), ← byteAt_in s (i + 2) (by omega), ← byteAt_in s (i + 3) (by omega)] at hg
  go_enter Try.func84, Try.ntmps84
  go_wp2_with (go_at_call 74; refine (hg _).mono ?_; rintro _ w1 ⟨rfl, g1⟩)
  go_ret
  exact ⟨rfl, Since.of g1⟩

/-- A function that holds a number in a variable of its own. -/
def fnVal (f : FuncId) (b : Nat) : Value := .func (.func f) #[] #[.pointer (some ⟨b, 0, none⟩)]

theorem halfFrom (i : Int) (w : World) : Calls Try.prog 77 #[.int .i64 i] w fun e w' => e = .returned (fnVal 82 w.heap.size) ∧ w' = w.alloc (.cells #[.int .i64 i] 3) := by
  have hmf : ∀ (fn : Fn) (first cap : Array Value) (w : World), (Instr.makeFunc fn first cap).run Try.prog w = .ok (.func fn first cap) w := fun _ _ _ _ => rfl
  go_enter Try.func77, Try.ntmps77
  go_wp2
  go_ret
  exact ⟨rfl, rfl⟩

theorem byteFrom (i : Int) (w : World) : Calls Try.prog 78 #[.int .i64 i] w fun e w' => e = .returned (fnVal 83 w.heap.size) ∧ w' = w.alloc (.cells #[.int .i64 i] 3) := by
  have hmf : ∀ (fn : Fn) (first cap : Array Value) (w : World), (Instr.makeFunc fn first cap).run Try.prog w = .ok (.func fn first cap) w := fun _ _ _ _ => rfl
  go_enter Try.func78, Try.ntmps78
  go_wp2
  go_ret
  exact ⟨rfl, rfl⟩

theorem wordFrom (i : Int) (w : World) : Calls Try.prog 79 #[.int .i64 i] w fun e w' => e = .returned (fnVal 84 w.heap.size) ∧ w' = w.alloc (.cells #[.int .i64 i] 3) := by
  have hmf : ∀ (fn : Fn) (first cap : Array Value) (w : World), (Instr.makeFunc fn first cap).run Try.prog w = .ok (.func fn first cap) w := fun _ _ _ _ => rfl
  go_enter Try.func79, Try.ntmps79
  go_wp2
  go_ret
  exact ⟨rfl, rfl⟩

/-- A variable in block b holds the number i. -/
def Holds1 (w : World) (b : Nat) (i : Nat) : Prop := b < w.heap.size ∧ w.cell? ⟨b, 0, none⟩ = some (.int .i64 (i : Int))

theorem Holds1.since {w w' : World} {b i : Nat} (h : Holds1 w b i) (k : Since w w') : Holds1 w' b i := ⟨Nat.lt_of_lt_of_le h.1 k.le, (Below.cell k (p := ⟨b, 0, none⟩) h.1).trans h.2⟩

theorem Holds1.alloc {w : World} {b i : Nat} (h : Holds1 w b i) (o : Obj) : Holds1 (w.alloc o) b i := h.since ((Since.refl _).alloc _)

theorem holds1_new {w : World} {b i : Nat} {n : Int} {t : TypeId} (hb : w.heap.size = b) (hn : n = (i : Int)) : Holds1 (w.alloc (.cells #[.int .i64 n] t)) b i := by
  subst hb hn
  exact ⟨by simp, by simp⟩

set_option maxHeartbeats 1000000 in
theorem fieldsOfPacket (w : World) : Calls Try.prog 72 #[] w fun e w' => ∃ b0 b1 b2 b3 b4 b5 b6 b7 b8,
    e = .returned (.agg #[fnVal 82 b0, fnVal 82 b1, fnVal 82 b2, fnVal 82 b3, fnVal 83 b4, fnVal 83 b5, fnVal 82 b6, fnVal 84 b7, fnVal 84 b8]) ∧ Since w w' ∧ Holds1 w' b0 0 ∧ Holds1 w' b1 2 ∧ Holds1 w' b2 4 ∧ Holds1 w' b3 6 ∧ Holds1 w' b4 8 ∧ Holds1 w' b5 9 ∧ Holds1 w' b6 10 ∧ Holds1 w' b7 12 ∧ Holds1 w' b8 16 := by
  have h1 := halfFrom
  have h2 := byteFrom
  have h3 := wordFrom
  unfold fnVal at h1 h2 h3
  go_enter Try.func72, Try.ntmps72
  go_wp2_with (first | (go_at_call 77; refine (h1 _ _).mono ?_; rintro _ _ ⟨rfl, rfl⟩) | (go_at_call 78; refine (h2 _ _).mono ?_; rintro _ _ ⟨rfl, rfl⟩) | (go_at_call 79; refine (h3 _ _).mono ?_; rintro _ _ ⟨rfl, rfl⟩))
  clear h1 h2 h3
  refine bodyPost_ret (v := .agg #[fnVal 82 (w.heap.size + 1), fnVal 82 (w.heap.size + 1 + 1), fnVal 82 (w.heap.size + 1 + 1 + 1), fnVal 82 (w.heap.size + 1 + 1 + 1 + 1), fnVal 83 (w.heap.size + 1 + 1 + 1 + 1 + 1), fnVal 83 (w.heap.size + 1 + 1 + 1 + 1 + 1 + 1), fnVal 82 (w.heap.size + 1 + 1 + 1 + 1 + 1 + 1 + 1), fnVal 84 (w.heap.size + 1 + 1 + 1 + 1 + 1 + 1 + 1 + 1), fnVal 84 (w.heap.size + 1 + 1 + 1 + 1 + 1 + 1 + 1 + 1 + 1)]) ?_ rfl ⟨_, _, _, _, _, _, _, _, _, rfl, ?_, ?_, ?_, ?_, ?_, ?_, ?_, ?_, ?_, ?_⟩
  · simp [results, go_sem, fnVal]
  · repeat (first | exact Since.refl _ | apply Since.alloc)
  all_goals repeat (first | exact holds1_new (by simp) rfl | apply Holds1.alloc)
end Go.Proofs.Ytigjppamjfnmcaa

namespace Go.Proofs.Ytigjppamjfnmcaa
open Go.ChangeShapes Go.WideShapes Go.ChangeAt Go.RowKit Go.Shelf
set_option linter.unusedVariables false

/-- The library's numbers and this program's. -/
def cloneRen : Ren := ⟨fun _ => 49, fun x => if x = 3 then 3 else if x = 4 then 4 else if x = 5 then 5 else if x = 9 then 9 else if x = 37 then 22 else if x = 47 then 97 else 0, fun x => x⟩

theorem cloneLays : LaysPu.n25 Try.prog cloneRen :=
  { mixed := by kernel_rfl, f25 := by kernel_rfl,
    t0 := by kernel_rfl,
    a0 := fun _ => by kernel_rfl,
    z0 := fun _ => by kernel_rfl,
    v0 := fun _ => by kernel_rfl,
    i0 := by kernel_rfl,
    t3 := by kernel_rfl,
    a3 := fun _ => by kernel_rfl,
    z3 := fun _ => by kernel_rfl,
    v3 := fun _ => by kernel_rfl,
    i3 := by kernel_rfl,
    t4 := by kernel_rfl,
    a4 := fun _ => by kernel_rfl,
    z4 := fun _ => by kernel_rfl,
    v4 := fun _ => by kernel_rfl,
    i4 := by kernel_rfl,
    t5 := by kernel_rfl,
    a5 := fun _ => by kernel_rfl,
    z5 := fun _ => by kernel_rfl,
    v5 := fun _ => by kernel_rfl,
    i5 := by kernel_rfl,
    t9 := by kernel_rfl,
    a9 := fun _ => by kernel_rfl,
    z9 := fun _ => by kernel_rfl,
    v9 := fun _ => by kernel_rfl,
    i9 := by kernel_rfl,
    t37 := by kernel_rfl,
    a37 := fun _ => by kernel_rfl,
    z37 := fun _ => by kernel_rfl,
    v37 := fun _ => by kernel_rfl,
    i37 := by kernel_rfl,
    t47 := by kernel_rfl,
    a47 := fun _ => by kernel_rfl,
    z47 := fun _ => by kernel_rfl,
    v47 := fun _ => by kernel_rfl,
    i47 := by kernel_rfl }

theorem clone (s : ByteArray) (h : s.size ≤ 1048576) (w : World) :
    Calls Try.prog 23 #[.string s] w fun e w' => e = .returned (.string s) ∧ Since w w' := by
  have hc : ∀ wx, Calls Try.prog 49 #[.string s] wx fun e w' => e = .returned (.string s) ∧ Below wx.heap.size wx w' := fun wx => AnyPu.stringslite_Clone cloneLays s wx (by omega)
  go_enter Try.func23, Try.ntmps23
  go_wp2_with (go_at_call 49; refine (hc _).mono ?_; rintro _ w1 ⟨rfl, g1⟩)
  go_ret
  exact ⟨rfl, g1⟩
end Go.Proofs.Ytigjppamjfnmcaa

namespace Go.Proofs.Ytigjppamjfnmcaa
open Go.ChangeShapes Go.WideShapes Go.ChangeAt Go.RowKit
set_option linter.unusedVariables false

/-- Which operation leaves its value in slot t. -/
def maker (ops : Array Oper) (t : Nat) : Option Nat := (List.range ops.size).find? fun j => (ops[j]?).bind (·.dst) == some t

/-- The frame behind the region, when operation j has left vals j. -/
def filled (ops : Array Oper) (a : Act) (vals : Nat → Value) : Act := { tmps := a.tmps.mapIdx fun t x => match maker ops t with | some j => vals j | none => x, defers := a.defers }

/-- No guards; edges lead back; each operation has a slot of its own; what it looks at is made by those that it waits for, or by none of the region. -/
def settled (ops : Array Oper) (n : Nat) : Bool := Region.noSelect ops && (List.range ops.size).all fun j => match ops[j]? with
  | none => true
  | some o => o.guard.isNone && o.after.all (fun e => !Region.binds .any e || decide (e.on < j)) &&
      (match o.dst with | some d => maker ops d == some j && decide (d < n) | none => true) &&
      o.op.operands.all fun x => match x with
        | .tmp t => (match maker ops t with | none => true | some k => o.after.any fun e => Region.binds .any e && e.on == k)
        | _ => true

/-- What operation o does in frame a and world w: the value that it leaves, and the world. -/
def doesUpon (P : Program) (R : Value → World → Prop) : Result Next → Prop
  | .ok (.value u) w' => R u w'
  | .ok .skip w' => R undef w'
  | .ok (.enter f args) w' => Calls P f args w' fun e w'' => ∃ v, e = .returned v ∧ R v w''
  | _ => False

def does (P : Program) (o : Oper) (a : Act) (w : World) (R : Value → World → Prop) : Prop := doesUpon P R ((execOp a.eval o).run P w)

section
variable {P : Program} {ops : Array Oper} {Q : Exit → Act → World → Prop} {a0 : Act} {wb : World} {V : Nat → World → Value → Prop}

structure Kept (ops : Array Oper) (a0 : Act) (wb : World) (V : Nat → World → Value → Prop) (listed : Array Bool) (vals : Nat → Value) (a : Act) (w : World) : Prop where
  since : Since wb w
  defers : a.defers = a0.defers
  size : a.tmps.size = a0.tmps.size
  base : ∀ t : Nat, maker ops t = none → a.tmps[t]? = a0.tmps[t]?
  made : ∀ t j : Nat, maker ops t = some j → listed.getD j false = true → t < a0.tmps.size → a.tmps[t]? = some (vals j)
  has : ∀ j : Nat, listed.getD j false = true → V j w (vals j)

theorem getD_set_or {listed : Array Bool} {i j : Nat} (h : (listed.setIfInBounds i true).getD j false = true) : j = i ∨ listed.getD j false = true := by
  by_cases hij : i = j
  · exact .inl hij.symm
  · rw [getD_set_ne false hij] at h
    exact .inr h

theorem filled_at (a : Act) (vals : Nat → Value) (t : Nat) (ht : t < a.tmps.size) : (filled ops a vals).tmps[t]? = some (match maker ops t with | some j => vals j | none => a.tmps[t]) := by
  simp [filled, ht]

theorem settled_at {n : Nat} (h : settled ops n = true) {j : Nat} {o : Oper} (ho : ops[j]? = some o) :
    o.guard = none ∧ (∀ e ∈ o.after, Region.binds .any e = true → e.on < j) ∧ (∀ d, o.dst = some d → maker ops d = some j ∧ d < n) ∧
      ∀ t, Operand.tmp t ∈ o.op.operands → ∀ k, maker ops t = some k → ∃ e ∈ o.after, Region.binds .any e = true ∧ e.on = k := by
  simp only [settled, Bool.and_eq_true, List.all_eq_true, List.mem_range] at h
  have h1 := h.2 j (Array.getElem?_eq_some_iff.1 ho).1
  simp only [ho, Bool.and_eq_true] at h1
  obtain ⟨⟨⟨g, e⟩, d⟩, x⟩ := h1
  refine ⟨by simpa using g, ?_, ?_, ?_⟩
  · intro e1 he hb
    have := Array.all_eq_true_iff_forall_mem.1 e e1 he
    simpa [hb] using this
  · intro d1 hd
    simp only [hd, Bool.and_eq_true, beq_iff_eq, decide_eq_true_eq] at d
    exact d
  · intro t ht k hk
    have := Array.all_eq_true_iff_forall_mem.1 x _ ht
    simp only [hk] at this
    obtain ⟨e1, he, hb⟩ := Array.any_eq_true'.1 this
    simp only [Bool.and_eq_true, beq_iff_eq] at hb
    exact ⟨e1, he, hb.1, hb.2⟩

theorem Kept.put {listed : Array Bool} {vals : Nat → Value} {a : Act} {w w' : World} (h : Kept ops a0 wb V listed vals a w) (hst : ∀ j w w' v, Since w w' → V j w v → V j w' v)
    (hs : settled ops a0.tmps.size = true) {i : Nat} {o : Oper} (ho : ops[i]? = some o) {u : Value} (hw : Since w w') (hu : V i w' u) :
    Kept ops a0 wb V (listed.setIfInBounds i true) (fun j => if j = i then u else vals j) (a.put o.dst u) w' := by
  obtain ⟨_, _, hd, _⟩ := settled_at hs ho
  refine ⟨h.since.trans hw, ?_, ?_, ?_, ?_, ?_⟩
  · cases hdst : o.dst <;> simp [Act.put, h.defers]
  · cases hdst : o.dst <;> simp [Act.put, h.size]
  · intro t ht
    cases hdst : o.dst with
    | none => exact h.base t ht
    | some d =>
      have hne : d ≠ t := fun e => by
        subst e
        rw [(hd d hdst).1] at ht
        cases ht
      simp only [Act.put, Array.getElem?_setIfInBounds_ne hne]
      exact h.base t ht
  · intro t j hj hl hlt
    by_cases hji : j = i
    · subst hji
      simp only [if_true]
      have hdst : o.dst = some t := by
        have := List.find?_some hj
        simpa [ho] using this
      have hta : t < a.tmps.size := by rw [h.size]; exact hlt
      simp only [Act.put, hdst]
      simp [hta]
    · have hl' : listed.getD j false = true := (getD_set_or hl).resolve_left hji
      simp only [hji, if_false]
      cases hdst : o.dst with
      | none => exact h.made t j hj hl' hlt
      | some d =>
        have hne : d ≠ t := fun e => by
          subst e
          rw [(hd d hdst).1] at hj
          exact hji (by simpa using hj.symm)
        simp only [Act.put, Array.getElem?_setIfInBounds_ne hne]
        exact h.made t j hj hl' hlt
  · intro j hl
    by_cases hji : j = i
    · subst hji
      simpa using hu
    · simp only [hji, if_false]
      exact hst j _ _ _ hw (h.has j ((getD_set_or hl).resolve_left hji))

theorem Kept.exec {listed : Array Bool} {vals : Nat → Value} {a : Act} {w : World} (h : Kept ops a0 wb V listed vals a w) (hs : settled ops a0.tmps.size = true)
    {i : Nat} {o : Oper} (ho : ops[i]? = some o) (hr : ∀ e ∈ o.after, Region.binds .any e = true → listed.getD e.on false = true) :
    execOp a.eval o = execOp (filled ops a0 vals).eval o := by
  obtain ⟨_, _, _, hx⟩ := settled_at hs ho
  refine execOp_congr o (fun cs b => Region.noSelect_spec (by simp only [settled, Bool.and_eq_true] at hs; exact hs.1) i o cs b ho) ?_
  intro x hxm
  cases x with
  | tmp t =>
    by_cases hlt : t < a0.tmps.size
    · have e1 : a.tmps[t]? = (filled ops a0 vals).tmps[t]? := by
        rw [filled_at _ _ _ hlt]
        cases hm : maker ops t with
        | none => rw [h.base t hm]; simp [hlt]
        | some k =>
          obtain ⟨e, he, hb, hk⟩ := hx t hxm k hm
          subst hk
          exact h.made t _ hm (hr e he hb) hlt
      simp [Act.eval, Array.getD_eq_getD_getElem?, e1]
    · have e1 : a.tmps[t]? = none := Array.getElem?_eq_none (by rw [h.size]; exact Nat.le_of_not_lt hlt)
      have e2 : (filled ops a0 vals).tmps[t]? = none := Array.getElem?_eq_none (by simp only [filled, Array.size_mapIdx]; exact Nat.le_of_not_lt hlt)
      simp [Act.eval, Array.getD_eq_getD_getElem?, e1, e2]
  | _ => rfl

theorem wpAny_drawn (hs : settled ops a0.tmps.size = true) (hst : ∀ j w w' v, Since w w' → V j w v → V j w' v)
    (hop : ∀ i o, ops[i]? = some o → ∀ vals w, Since wb w → (∀ e ∈ o.after, Region.binds .any e = true → V e.on w (vals e.on)) → does P o (filled ops a0 vals) w fun v w' => Since w w' ∧ V i w' v)
    (hfin : ∀ vals w, Since wb w → (∀ i, i < ops.size → V i w (vals i)) → Q .normal (filled ops a0 vals) w) :
    ∀ (fuel : Nat) (U : List Nat) (listed : Array Bool) (vals : Nat → Value) (a : Act) (w : World), listed.size = ops.size → (∀ j, j < ops.size → listed.getD j true = false → j ∈ U) → U.length ≤ fuel →
      Kept ops a0 wb V listed vals a w → wpAny P .any ops Q fuel listed a w := by
  have fin : ∀ (listed : Array Bool) (vals : Nat → Value) (a : Act) (w : World), listed.size = ops.size → Region.ready .any ops listed = [] → Kept ops a0 wb V listed vals a w → Q .normal a w := by
    intro listed vals a w hsz hr hk
    have hall : ∀ n j, j ≤ n → j < ops.size → listed.getD j false = true := by
      intro n
      induction n with
      | zero =>
        intro j hj hlt
        obtain rfl : j = 0 := by omega
        refine Classical.byContradiction fun hno => ?_
        have : 0 ∈ Region.ready .any ops listed := mem_ready.2 ⟨by simp [hsz, hlt] at hno ⊢; exact hno, ops[0], by simp [hlt], fun e he hb => by
          have := (settled_at hs (j := 0) (o := ops[0]) (by simp [hlt])).2.1 e he hb
          omega⟩
        rw [hr] at this
        cases this
      | succ n ih =>
        intro j hj hlt
        by_cases hjn : j ≤ n
        · exact ih j hjn hlt
        · refine Classical.byContradiction fun hno => ?_
          have : j ∈ Region.ready .any ops listed := mem_ready.2 ⟨by simp [hsz, hlt] at hno ⊢; exact hno, ops[j], by simp [hlt], fun e he hb => by
            have := (settled_at hs (j := j) (o := ops[j]) (by simp [hlt])).2.1 e he hb
            exact ih e.on (by omega) (by omega)⟩
          rw [hr] at this
          cases this
    have hV : ∀ i, i < ops.size → V i w (vals i) := fun i hi => hk.has i (hall i i (Nat.le_refl _) hi)
    have ha : a = filled ops a0 vals := by
      have ht : a.tmps = (filled ops a0 vals).tmps := by
        apply Array.ext_getElem?
        intro t
        by_cases hlt : t < a0.tmps.size
        · rw [filled_at _ _ _ hlt]
          cases hm : maker ops t with
          | none => rw [hk.base t hm]; simp [hlt]
          | some k =>
            have hk2 : k < ops.size := by
              have := List.mem_of_find?_eq_some hm
              simpa using this
            exact hk.made t k hm (hall k k (Nat.le_refl _) hk2) hlt
        · rw [Array.getElem?_eq_none (by rw [hk.size]; omega), Array.getElem?_eq_none (by simp [filled]; omega)]
      cases a
      simp only [filled] at ht ⊢
      have := hk.defers
      simp_all
    rw [ha]
    exact hfin vals w hk.since hV
  intro fuel
  induction fuel with
  | zero =>
    intro U listed vals a w hsz hU hl hk
    have hr : Region.ready .any ops listed = [] := by
      refine List.eq_nil_iff_forall_not_mem.2 fun j hj => ?_
      obtain ⟨h0, o, ho, _⟩ := mem_ready.1 hj
      have := hU j (Array.getElem?_eq_some_iff.1 ho).1 h0
      have hnil : U = [] := List.length_eq_zero_iff.1 (by omega)
      rw [hnil] at this
      cases this
    exact ⟨hr, fin listed vals a w hsz hr hk⟩
  | succ fuel ih =>
    intro U listed vals a w hsz hU hl hk
    refine ⟨fun hr => fin listed vals a w hsz hr hk, fun i hi => ?_⟩
    obtain ⟨h0, o, ho, hr⟩ := mem_ready.1 hi
    have hlt : i < ops.size := (Array.getElem?_eq_some_iff.1 ho).1
    have hd := hop i o ho vals w hk.since (fun e he hb => hk.has _ (hr e he hb))
    have hnext : ∀ u w', Since w w' → V i w' u → wpAny P .any ops Q fuel (listed.setIfInBounds i true) (a.put o.dst u) w' := fun u w' h1 h2 =>
      ih (U.erase i) _ _ _ _ (by simp [hsz]) (fun j hj hun => by
        have hji : j ≠ i := fun e => by
          subst e
          simp [hsz, hj] at hun
        rw [getD_set_ne true (Ne.symm hji)] at hun
        exact (List.mem_erase_of_ne hji).2 (hU j hj hun)) (by
        rw [List.length_erase_of_mem (hU i hlt h0)]
        omega) (hk.put hst hs ho h1 h2)
    unfold wpOp
    simp only [ho]
    have hg := (settled_at hs ho).1
    have hwant : Region.wanted o (yielded ops a.tmps) = true := by simp [Region.wanted, hg]
    rw [if_pos hwant]
    refine .inl ?_
    unfold does at hd
    rw [← hk.exec hs ho hr] at hd
    unfold Oper.wp
    generalize (execOp a.eval o).run P w = r at hd
    cases r with
    | ok n w' =>
      cases n <;> simp only [doesUpon] at hd <;> simp only [Oper.upon]
      case value u => exact hnext u w' hd.1 hd.2
      case skip => exact hnext undef w' hd.1 hd.2
      case enter f args => exact hd.mono fun e w'' ⟨v, he, h1, h2⟩ => by subst he; exact hnext v w'' h1 h2
    | halt x w' => simp only [doesUpon] at hd
end

theorem none_listed (n j : Nat) : (Array.replicate n false).getD j false = false := by
  rw [Array.getD_eq_getD_getElem?, Array.getElem?_replicate]
  split <;> rfl

/-- EVERY ORDER, BY ONE LOOK AT EACH OPERATION. -/
theorem wp_region_drawn {P : Program} {id : Nat} {Q : Exit → Act → World → Prop} {a : Act} {w wb : World} {l : List Oper} (V : Nat → World → Value → Prop) (hm : P.follows .mixedOrders = true) (hs : settled l.toArray a.tmps.size = true) (h0 : Since wb w)
    (hst : ∀ j w w' v, Since w w' → V j w v → V j w' v) (F : (Nat → Value) → Act) (hF : ∀ vals, F vals = filled l.toArray a vals)
    (hop : ∀ i o, l[i]? = some o → ∀ vals w, Since wb w → (∀ e ∈ o.after, Region.binds .any e = true → V e.on w (vals e.on)) → does P o (F vals) w fun v w' => Since w w' ∧ V i w' v)
    (hfin : ∀ vals w, Since wb w → (∀ i, i < l.length → V i w (vals i)) → Q .normal (F vals) w) : (Code.region id l.toArray true).wp P Q a w := by
  refine wp_region_any hm (wpAny_drawn (V := V) (a0 := a) (wb := wb) hs hst ?_ ?_ _ (List.range l.length) _ (fun _ => undef) _ _ (by simp) (fun j hj _ => by simpa using hj) (by simp) ⟨h0.drew, rfl, rfl, fun _ _ => rfl, ?_, ?_⟩)
  · intro i o ho vals w hw hv
    have := hop i o (by simpa using ho) vals w hw hv
    rw [hF] at this
    exact this
  · intro vals w hw hv
    have := hfin vals w hw (fun i hi => hv i (by simpa using hi))
    rw [hF] at this
    exact this
  · intro t j _ hl
    rw [none_listed] at hl
    cases hl
  · intro j hl
    rw [none_listed] at hl
    cases hl

/-- Each operation of the region, one behind the other. -/
def eachDoes (P : Program) (V : Nat → World → Value → Prop) (F : (Nat → Value) → Act) (wb : World) : Nat → List Oper → Prop
  | _, [] => True
  | k, o :: rest => (∀ vals x, Since wb x → (∀ e ∈ o.after, Region.binds .any e = true → V e.on x (vals e.on)) → does P o (F vals) x fun v w' => Since x w' ∧ V k w' v) ∧ eachDoes P V F wb (k + 1) rest

theorem eachDoes_nil {P : Program} {V : Nat → World → Value → Prop} {F : (Nat → Value) → Act} {wb : World} {k : Nat} : eachDoes P V F wb k [] := trivial

theorem eachDoes_cons {P : Program} {V : Nat → World → Value → Prop} {F : (Nat → Value) → Act} {wb : World} {k : Nat} {o : Oper} {rest : List Oper} (h : eachDoes P V F wb (k + 1) rest)
    (h1 : ∀ vals x, Since wb x → (∀ e ∈ o.after, Region.binds .any e = true → V e.on x (vals e.on)) → does P o (F vals) x fun v w' => Since x w' ∧ V k w' v) : eachDoes P V F wb k (o :: rest) := ⟨h1, h⟩

theorem eachDoes_at {P : Program} {V : Nat → World → Value → Prop} {F : (Nat → Value) → Act} {wb : World} : ∀ (l : List Oper) (k : Nat), eachDoes P V F wb k l → ∀ i o, l[i]? = some o → ∀ vals x, Since wb x →
    (∀ e ∈ o.after, Region.binds .any e = true → V e.on x (vals e.on)) → does P o (F vals) x fun v w' => Since x w' ∧ V (k + i) w' v
  | [], _, _, i, o, h => by cases h
  | o :: rest, k, h, 0, o', hi => by
    obtain rfl : o = o' := by simpa using hi
    exact h.1
  | o :: rest, k, h, i + 1, o', hi => by
    have := eachDoes_at rest (k + 1) h.2 i o' (by simpa using hi)
    rw [show k + (i + 1) = k + 1 + i by omega]
    exact this

theorem wp_region_each {P : Program} {id : Nat} {Q : Exit → Act → World → Prop} {a : Act} {w wb : World} {l : List Oper} (V : Nat → World → Value → Prop) (F : (Nat → Value) → Act) (hm : P.follows .mixedOrders = true) (hs : settled l.toArray a.tmps.size = true) (h0 : Since wb w)
    (hst : ∀ j w w' v, Since w w' → V j w v → V j w' v) (hF : ∀ vals, F vals = filled l.toArray a vals) (hop : eachDoes P V F wb 0 l)
    (hfin : ∀ vals w, Since wb w → (∀ i, i < l.length → V i w (vals i)) → Q .normal (F vals) w) : (Code.region id l.toArray true).wp P Q a w :=
  wp_region_drawn V hm hs h0 hst F hF (fun i o hi vals x hx hv => by
    have := eachDoes_at l 0 hop i o hi vals x hx hv
    rw [Nat.zero_add] at this
    exact this) hfin
end Go.Proofs.Ytigjppamjfnmcaa

namespace Go.Proofs.Ytigjppamjfnmcaa
open Go.ChangeShapes Go.WideShapes Go.ChangeAt Go.RowKit
set_option linter.unusedVariables false

/-- The frame behind the first m operations. -/
def filledTo (ops : Array Oper) (m : Nat) (a : Act) (vals : Nat → Value) : Act := { tmps := a.tmps.mapIdx fun t x => match maker ops t with | some j => if m ≤ j then x else vals j | none => x, defers := a.defers }

/-- Operation k waits for all ahead of it, straight or by way of others. -/
def waitsAll (ops : Array Oper) (m : Nat) : Bool := (List.range m).all fun j => (List.range (m + 1)).any fun k => decide (j < k) && match ops[k]? with
  | none => false
  | some o => o.after.any fun e => Region.binds .any e && e.on == j

/-- So do all from m on. -/
def tailed (ops : Array Oper) (m : Nat) : Bool := decide (m ≤ ops.size) && (List.range ops.size).all fun k => decide (k < m) || waitsAll ops k

theorem waitsAll_at {ops : Array Oper} {m : Nat} (h : waitsAll ops m = true) (j : Nat) (hj : j < m) : ∃ k o, j < k ∧ k ≤ m ∧ ops[k]? = some o ∧ ∃ e ∈ o.after, Region.binds .any e = true ∧ e.on = j := by
  simp only [waitsAll, List.all_eq_true, List.mem_range] at h
  obtain ⟨k, hk, hb⟩ := List.any_eq_true.1 (h j hj)
  simp only [Bool.and_eq_true, decide_eq_true_eq] at hb
  obtain ⟨hjk, hb⟩ := hb
  have hkm : k < m + 1 := by simpa using hk
  cases ho : ops[k]? with
  | none => simp [ho] at hb
  | some o =>
    simp only [ho] at hb
    obtain ⟨e, he, hb⟩ := Array.any_eq_true'.1 hb
    simp only [Bool.and_eq_true, beq_iff_eq] at hb
    exact ⟨k, o, hjk, by omega, ho, e, he, hb.1, hb.2⟩

theorem tailed_at {ops : Array Oper} {m : Nat} (h : tailed ops m = true) : m ≤ ops.size ∧ ∀ k, m ≤ k → k < ops.size → waitsAll ops k = true := by
  simp only [tailed, Bool.and_eq_true, decide_eq_true_eq, List.all_eq_true, List.mem_range, Bool.or_eq_true] at h
  exact ⟨h.1, fun k h1 h2 => (h.2 k h2).resolve_left (by omega)⟩

/-- No guards; edges lead back; each operation has a slot of its own; what one of the first m looks at is made by those that it waits for, by one from m on (then it is as it was), or by none of the region. -/
def settledTo (ops : Array Oper) (n m : Nat) : Bool := Region.noSelect ops && (List.range ops.size).all fun j => match ops[j]? with
  | none => true
  | some o => o.guard.isNone && o.after.all (fun e => !Region.binds .any e || decide (e.on < j)) &&
      (match o.dst with | some d => maker ops d == some j && decide (d < n) | none => true) &&
      (decide (m ≤ j) || o.op.operands.all fun x => match x with
        | .tmp t => (match maker ops t with | none => true | some k => decide (m ≤ k) || o.after.any fun e => Region.binds .any e && e.on == k)
        | _ => true)

theorem settledTo_at {ops : Array Oper} {n m : Nat} (h : settledTo ops n m = true) {j : Nat} {o : Oper} (ho : ops[j]? = some o) :
    o.guard = none ∧ (∀ e ∈ o.after, Region.binds .any e = true → e.on < j) ∧ (∀ d, o.dst = some d → maker ops d = some j ∧ d < n) ∧
      (j < m → ∀ t, Operand.tmp t ∈ o.op.operands → ∀ k, maker ops t = some k → m ≤ k ∨ ∃ e ∈ o.after, Region.binds .any e = true ∧ e.on = k) := by
  simp only [settledTo, Bool.and_eq_true, List.all_eq_true, List.mem_range] at h
  have h1 := h.2 j (Array.getElem?_eq_some_iff.1 ho).1
  simp only [ho, Bool.and_eq_true] at h1
  obtain ⟨⟨⟨g, e⟩, d⟩, x⟩ := h1
  refine ⟨by simpa using g, ?_, ?_, ?_⟩
  · intro e1 he hb
    have := Array.all_eq_true_iff_forall_mem.1 e e1 he
    simpa [hb] using this
  · intro d1 hd
    simp only [hd, Bool.and_eq_true, beq_iff_eq, decide_eq_true_eq] at d
    exact d
  · intro hjm t ht k hk
    simp only [Bool.or_eq_true, decide_eq_true_eq] at x
    have x := x.resolve_left (by omega)
    have := Array.all_eq_true_iff_forall_mem.1 x _ ht
    simp only [hk, Bool.or_eq_true, decide_eq_true_eq] at this
    rcases this with this | this
    · exact .inl this
    · obtain ⟨e1, he, hb⟩ := Array.any_eq_true'.1 this
      simp only [Bool.and_eq_true, beq_iff_eq] at hb
      exact .inr ⟨e1, he, hb.1, hb.2⟩

section
variable {P : Program} {ops : Array Oper} {Q : Exit → Act → World → Prop} {a0 : Act} {wb : World} {V : Nat → World → Value → Prop} {m : Nat}

theorem Kept.put_slot {listed : Array Bool} {vals : Nat → Value} {a : Act} {w w' : World} (h : Kept ops a0 wb V listed vals a w) (hst : ∀ j w w' v, Since w w' → V j w v → V j w' v)
    {i : Nat} {o : Oper} (ho : ops[i]? = some o) (hd : ∀ d, o.dst = some d → maker ops d = some i ∧ d < a0.tmps.size) {u : Value} (hw : Since w w') (hu : V i w' u) :
    Kept ops a0 wb V (listed.setIfInBounds i true) (fun j => if j = i then u else vals j) (a.put o.dst u) w' := by
  refine ⟨h.since.trans hw, ?_, ?_, ?_, ?_, ?_⟩
  · cases hdst : o.dst <;> simp [Act.put, h.defers]
  · cases hdst : o.dst <;> simp [Act.put, h.size]
  · intro t ht
    cases hdst : o.dst with
    | none => exact h.base t ht
    | some d =>
      have hne : d ≠ t := fun e => by
        subst e
        rw [(hd d hdst).1] at ht
        cases ht
      simp only [Act.put, Array.getElem?_setIfInBounds_ne hne]
      exact h.base t ht
  · intro t j hj hl hlt
    by_cases hji : j = i
    · subst hji
      simp only [if_true]
      have hdst : o.dst = some t := by
        have := List.find?_some hj
        simpa [ho] using this
      have hta : t < a.tmps.size := by rw [h.size]; exact hlt
      simp only [Act.put, hdst]
      simp [hta]
    · have hl' : listed.getD j false = true := (getD_set_or hl).resolve_left hji
      simp only [hji, if_false]
      cases hdst : o.dst with
      | none => exact h.made t j hj hl' hlt
      | some d =>
        have hne : d ≠ t := fun e => by
          subst e
          rw [(hd d hdst).1] at hj
          exact hji (by simpa using hj.symm)
        simp only [Act.put, Array.getElem?_setIfInBounds_ne hne]
        exact h.made t j hj hl' hlt
  · intro j hl
    by_cases hji : j = i
    · subst hji
      simpa using hu
    · simp only [hji, if_false]
      exact hst j _ _ _ hw (h.has j ((getD_set_or hl).resolve_left hji))

/-- Listed with an operation is all that it waits for. -/
def Shut (ops : Array Oper) (listed : Array Bool) : Prop := ∀ (j : Nat) (o : Oper), listed.getD j false = true → ops[j]? = some o → ∀ e ∈ o.after, Region.binds .any e = true → listed.getD e.on false = true

theorem Shut.put {listed : Array Bool} (h : Shut ops listed) {i : Nat} {o : Oper} (ho : ops[i]? = some o) (hr : ∀ e ∈ o.after, Region.binds .any e = true → listed.getD e.on false = true) : Shut ops (listed.setIfInBounds i true) := by
  intro j oj hj hoj e he hb
  rcases getD_set_or hj with hji | hj'
  · subst hji
    obtain rfl : o = oj := by simpa [ho] using hoj
    exact getD_set_true (hr e he hb)
  · exact getD_set_true (h j oj hj' hoj e he hb)

theorem Shut.below {listed : Array Bool} (h : Shut ops listed) {i : Nat} {o : Oper} (ho : ops[i]? = some o) (hw : waitsAll ops i = true) (hr : ∀ e ∈ o.after, Region.binds .any e = true → listed.getD e.on false = true) : ∀ j, j < i → listed.getD j false = true := by
  have key : ∀ n j, i - j ≤ n → j < i → listed.getD j false = true := by
    intro n
    induction n with
    | zero =>
      intro j h1 h2
      omega
    | succ n ihn =>
      intro j h1 h2
      obtain ⟨k, ok, hjk, hki, hok, e, he, hb, hej⟩ := waitsAll_at hw j h2
      rw [← hej]
      by_cases hk : k = i
      · subst hk
        obtain rfl : o = ok := by simpa [ho] using hok
        exact hr e he hb
      · exact h k ok (ihn k (by omega) (by omega)) hok e he hb
  exact fun j hj => key (i - j) j (Nat.le_refl _) hj

theorem all_listed (hs : settledTo ops a0.tmps.size m = true) {listed : Array Bool} (hsz : listed.size = ops.size) (hr : Region.ready .any ops listed = []) : ∀ n j, j ≤ n → j < ops.size → listed.getD j false = true := by
  have un : ∀ j, j < ops.size → listed.getD j false = false → listed.getD j true = false := fun j hj h => by
    simp [hsz, hj] at h ⊢
    exact h
  intro n
  induction n with
  | zero =>
    intro j hj hlt
    obtain rfl : j = 0 := by omega
    refine Classical.byContradiction fun hno => ?_
    have : 0 ∈ Region.ready .any ops listed := mem_ready.2 ⟨un 0 hlt (by simpa using hno), ops[0], by simp [hlt], fun e he hb => by
      have := (settledTo_at hs (j := 0) (o := ops[0]) (by simp [hlt])).2.1 e he hb
      omega⟩
    rw [hr] at this
    cases this
  | succ n ih =>
    intro j hj hlt
    by_cases hjn : j ≤ n
    · exact ih j hjn hlt
    · refine Classical.byContradiction fun hno => ?_
      have : j ∈ Region.ready .any ops listed := mem_ready.2 ⟨un j hlt (by simpa using hno), ops[j], by simp [hlt], fun e he hb => by
        have := (settledTo_at hs (j := j) (o := ops[j]) (by simp [hlt])).2.1 e he hb
        exact ih e.on (by omega) (by omega)⟩
      rw [hr] at this
      cases this

theorem wpAny_rest (hs : settledTo ops a0.tmps.size m = true) (ht : tailed ops m = true) : ∀ (fuel : Nat) (rest : List Oper) (k : Nat) (listed : Array Bool) (a : Act) (w : World), (∀ j, rest[j]? = ops[k + j]?) → m ≤ k → k ≤ ops.size → listed.size = ops.size → (∀ j, j < k → listed.getD j false = true) → (∀ j, k ≤ j → listed.getD j false = false) → Shut ops listed → ops.size - k ≤ fuel →
    wpList P ops Q rest a w → wpAny P .any ops Q fuel listed a w := by
  intro fuel
  induction fuel with
  | zero =>
    intro rest k listed a w hrest hmk hkn hsz hlo hhi hsh hf h
    obtain rfl : k = ops.size := by omega
    have hr : Region.ready .any ops listed = [] := by
      refine List.eq_nil_iff_forall_not_mem.2 fun j hj => ?_
      obtain ⟨hj0, oj, hoj, _⟩ := mem_ready.1 hj
      have hjlt : j < ops.size := (Array.getElem?_eq_some_iff.1 hoj).1
      have := hlo j hjlt
      simp [hsz, hjlt] at this hj0
      rw [this] at hj0
      cases hj0
    have hnil : rest = [] := by
      cases rest with
      | nil => rfl
      | cons o r =>
        have := hrest 0
        simp at this
    subst hnil
    exact ⟨hr, h⟩
  | succ fuel ih =>
    intro rest k listed a w hrest hmk hkn hsz hlo hhi hsh hf h
    by_cases hke : k = ops.size
    · have hr : Region.ready .any ops listed = [] := by
        refine List.eq_nil_iff_forall_not_mem.2 fun j hj => ?_
        obtain ⟨hj0, oj, hoj, _⟩ := mem_ready.1 hj
        have hjlt : j < ops.size := (Array.getElem?_eq_some_iff.1 hoj).1
        have := hlo j (by omega)
        simp [hsz, hjlt] at this hj0
        rw [this] at hj0
        cases hj0
      have hnil : rest = [] := by
        cases rest with
        | nil => rfl
        | cons o r =>
          have := hrest 0
          simp [hke] at this
      subst hnil
      exact ⟨fun _ => h, fun i hi => by rw [hr] at hi; cases hi⟩
    · have hklt : k < ops.size := by omega
      refine ⟨fun hr => ?_, fun i hi => ?_⟩
      · have h1 := all_listed hs hsz hr k k (Nat.le_refl _) hklt
        rw [hhi k (Nat.le_refl _)] at h1
        cases h1
      obtain ⟨h0, o, ho, hr⟩ := mem_ready.1 hi
      have hlt : i < ops.size := (Array.getElem?_eq_some_iff.1 ho).1
      have hik : i = k := by
        by_cases h1 : i < k
        · have := hlo i h1
          simp [hsz, hlt] at this h0
          rw [this] at h0
          cases h0
        · by_cases h2 : k < i
          · have h3 := hsh.below ho ((tailed_at ht).2 i (by omega) hlt) hr k h2
            rw [hhi k (Nat.le_refl _)] at h3
            cases h3
          · omega
      subst hik
      cases rest with
      | nil =>
        have h1 := hrest 0
        rw [Nat.add_zero, ho] at h1
        cases h1
      | cons o' r =>
        obtain rfl : o = o' := by
          have h1 := hrest 0
          rw [Nat.add_zero, ho] at h1
          simpa using h1.symm
        have hg := (settledTo_at hs ho).1
        have hwant : Region.wanted o (yielded ops a.tmps) = true := by simp [Region.wanted, hg]
        have hnext : ∀ a' w', wpList P ops Q r a' w' → wpAny P .any ops Q fuel (listed.setIfInBounds i true) a' w' := fun a' w' h1 =>
          ih r (i + 1) _ _ _ (fun j => by have := hrest (j + 1); simpa [Nat.add_assoc, Nat.add_comm 1 j] using this) (by omega) (by omega) (by simp [hsz]) (fun j hj => by
            by_cases hji : j = i
            · subst hji
              simp [hsz, hlt]
            · exact getD_set_true (hlo j (by omega))) (fun j hj => by
            rw [getD_set_ne false (by omega)]
            exact hhi j (by omega)) (hsh.put ho hr) (by omega) h1
        unfold wpOp
        simp only [ho]
        rw [if_pos hwant]
        simp only [wpList] at h
        rw [if_pos hwant] at h
        rcases h with h | h
        · exact .inl (Oper.wp_mono hnext h)
        · exact .inr h

structure Kept3 (ops : Array Oper) (a0 : Act) (wb : World) (V : Nat → World → Value → Prop) (m : Nat) (listed : Array Bool) (vals : Nat → Value) (a : Act) (w : World) : Prop where
  kept : Kept ops a0 wb V listed vals a w
  rest : ∀ t j : Nat, maker ops t = some j → m ≤ j → a.tmps[t]? = a0.tmps[t]?
  shut : Shut ops listed
  none_yet : ∀ j, m ≤ j → listed.getD j false = false

theorem filledTo_at (a : Act) (vals : Nat → Value) (t : Nat) (ht : t < a.tmps.size) : (filledTo ops m a vals).tmps[t]? = some (match maker ops t with | some j => if m ≤ j then a.tmps[t] else vals j | none => a.tmps[t]) := by
  simp [filledTo, ht]

theorem Kept3.put {listed : Array Bool} {vals : Nat → Value} {a : Act} {w w' : World} (h : Kept3 ops a0 wb V m listed vals a w) (hst : ∀ j w w' v, Since w w' → V j w v → V j w' v)
    (hs : settledTo ops a0.tmps.size m = true) {i : Nat} {o : Oper} (ho : ops[i]? = some o) (him : i < m) (hr : ∀ e ∈ o.after, Region.binds .any e = true → listed.getD e.on false = true) {u : Value} (hw : Since w w') (hu : V i w' u) :
    Kept3 ops a0 wb V m (listed.setIfInBounds i true) (fun j => if j = i then u else vals j) (a.put o.dst u) w' := by
  refine ⟨h.kept.put_slot hst ho (settledTo_at hs ho).2.2.1 hw hu, fun t j ht hj => ?_, h.shut.put ho hr, fun j hj => ?_⟩
  case refine_2 =>
    rw [getD_set_ne false (by omega)]
    exact h.none_yet j hj
  obtain ⟨_, _, hd, _⟩ := settledTo_at hs ho
  cases hdst : o.dst with
  | none => exact h.rest t j ht hj
  | some d =>
    have hne : d ≠ t := fun e => by
      subst e
      rw [(hd d hdst).1] at ht
      have : i = j := by simpa using ht
      omega
    simp only [Act.put, Array.getElem?_setIfInBounds_ne hne]
    exact h.rest t j ht hj

theorem Kept3.exec {listed : Array Bool} {vals : Nat → Value} {a : Act} {w : World} (h : Kept3 ops a0 wb V m listed vals a w) (hs : settledTo ops a0.tmps.size m = true)
    {i : Nat} {o : Oper} (ho : ops[i]? = some o) (him : i < m) (hr : ∀ e ∈ o.after, Region.binds .any e = true → listed.getD e.on false = true) :
    execOp a.eval o = execOp (filledTo ops m a0 vals).eval o := by
  obtain ⟨_, hlt', _, hx⟩ := settledTo_at hs ho
  refine execOp_congr o (fun cs b => Region.noSelect_spec (by simp only [settledTo, Bool.and_eq_true] at hs; exact hs.1) i o cs b ho) ?_
  intro x hxm
  cases x with
  | tmp t =>
    by_cases hlt : t < a0.tmps.size
    · have e1 : a.tmps[t]? = (filledTo ops m a0 vals).tmps[t]? := by
        rw [filledTo_at _ _ _ hlt]
        cases hmk : maker ops t with
        | none => rw [h.kept.base t hmk]; simp [hlt]
        | some k =>
          rcases hx him t hxm k hmk with hmk2 | ⟨e, he, hb, hk⟩
          · simp only [hmk2, if_true]
            rw [h.rest t k hmk hmk2]
            simp [hlt]
          subst hk
          have := hlt' e he hb
          simp only [show ¬ m ≤ e.on by omega, if_false]
          exact h.kept.made t _ hmk (hr e he hb) hlt
      simp [Act.eval, Array.getD_eq_getD_getElem?, e1]
    · have e1 : a.tmps[t]? = none := Array.getElem?_eq_none (by rw [h.kept.size]; exact Nat.le_of_not_lt hlt)
      have e2 : (filledTo ops m a0 vals).tmps[t]? = none := Array.getElem?_eq_none (by simp only [filledTo, Array.size_mapIdx]; exact Nat.le_of_not_lt hlt)
      simp [Act.eval, Array.getD_eq_getD_getElem?, e1, e2]
  | _ => rfl

theorem Kept3.frame {listed : Array Bool} {vals : Nat → Value} {a : Act} {w : World} (h : Kept3 ops a0 wb V m listed vals a w) (hall : ∀ j, j < m → listed.getD j false = true) : a = filledTo ops m a0 vals := by
  have ht : a.tmps = (filledTo ops m a0 vals).tmps := by
    apply Array.ext_getElem?
    intro t
    by_cases hlt2 : t < a0.tmps.size
    · rw [filledTo_at _ _ _ hlt2]
      cases hmk : maker ops t with
      | none => rw [h.kept.base t hmk]; simp [hlt2]
      | some k =>
        by_cases hki : m ≤ k
        · simp only [hki, if_true]
          rw [h.rest t k hmk hki]
          simp [hlt2]
        · simp only [hki, if_false]
          exact h.kept.made t k hmk (hall k (by omega)) hlt2
    · rw [Array.getElem?_eq_none (by rw [h.kept.size]; omega), Array.getElem?_eq_none (by simp [filledTo]; omega)]
  cases a
  simp only [filledTo] at ht ⊢
  have := h.kept.defers
  simp_all

theorem wpAny_head (hs : settledTo ops a0.tmps.size m = true) (htl : tailed ops m = true) (hst : ∀ j w w' v, Since w w' → V j w v → V j w' v)
    (hop : ∀ i o, ops[i]? = some o → i < m → ∀ vals w, Since wb w → (∀ e ∈ o.after, Region.binds .any e = true → V e.on w (vals e.on)) → does P o (filledTo ops m a0 vals) w fun v w' => Since w w' ∧ V i w' v)
    (rest : List Oper) (hrest : ∀ j, rest[j]? = ops[m + j]?) (hfin : ∀ vals w, Since wb w → (∀ i, i < m → V i w (vals i)) → wpList P ops Q rest (filledTo ops m a0 vals) w) :
    ∀ (fuel : Nat) (U : List Nat) (listed : Array Bool) (vals : Nat → Value) (a : Act) (w : World), listed.size = ops.size → (∀ j, j < m → listed.getD j true = false → j ∈ U) → U.length + (ops.size - m) ≤ fuel →
      Kept3 ops a0 wb V m listed vals a w → wpAny P .any ops Q fuel listed a w := by
  obtain ⟨hmn, hwt⟩ := tailed_at htl
  have un : ∀ (listed : Array Bool), listed.size = ops.size → ∀ j, j < ops.size → listed.getD j false = false → listed.getD j true = false := fun listed hsz j hj h => by
    simp [hsz, hj] at h ⊢
    exact h
  have done : ∀ (fuel : Nat) (listed : Array Bool) (vals : Nat → Value) (a : Act) (w : World), listed.size = ops.size → ops.size - m ≤ fuel → (∀ j, j < m → listed.getD j false = true) → Kept3 ops a0 wb V m listed vals a w → wpAny P .any ops Q fuel listed a w := by
    intro fuel listed vals a w hsz hf hall hk
    refine wpAny_rest hs htl fuel rest m listed a w hrest (Nat.le_refl _) hmn hsz hall hk.none_yet hk.shut hf ?_
    rw [hk.frame hall]
    exact hfin vals w hk.kept.since (fun i hi => hk.kept.has i (hall i hi))
  intro fuel
  induction fuel with
  | zero =>
    intro U listed vals a w hsz hU hl hk
    have hnil : U = [] := List.length_eq_zero_iff.1 (by omega)
    refine done 0 listed vals a w hsz (by omega) (fun j hj => ?_) hk
    refine Classical.byContradiction fun hno => ?_
    have := hU j hj (un listed hsz j (by omega) (by simpa using hno))
    rw [hnil] at this
    cases this
  | succ fuel ih =>
    intro U listed vals a w hsz hU hl hk
    by_cases hall : ∀ j, j < m → listed.getD j false = true
    · exact done (fuel + 1) listed vals a w hsz (by omega) hall hk
    refine ⟨fun hr => absurd (fun j hj => all_listed hs hsz hr j j (Nat.le_refl _) (by omega)) hall, fun i hi => ?_⟩
    obtain ⟨h0, o, ho, hr⟩ := mem_ready.1 hi
    have hlt : i < ops.size := (Array.getElem?_eq_some_iff.1 ho).1
    have him : i < m := Classical.byContradiction fun hno => hall fun j hj => hk.shut.below ho (hwt i (by omega) hlt) hr j (by omega)
    unfold wpOp
    simp only [ho]
    have hg := (settledTo_at hs ho).1
    have hwant : Region.wanted o (yielded ops a.tmps) = true := by simp [Region.wanted, hg]
    rw [if_pos hwant]
    refine .inl ?_
    have hd := hop i o ho him vals w hk.kept.since (fun e he hb => hk.kept.has _ (hr e he hb))
    have hnext : ∀ u w', Since w w' → V i w' u → wpAny P .any ops Q fuel (listed.setIfInBounds i true) (a.put o.dst u) w' := fun u w' h1 h2 =>
      ih (U.erase i) _ _ _ _ (by simp [hsz]) (fun j hj hun => by
        have hji : j ≠ i := fun e => by
          subst e
          simp [hsz, hlt] at hun
        rw [getD_set_ne true (Ne.symm hji)] at hun
        exact (List.mem_erase_of_ne hji).2 (hU j hj hun)) (by
        have hmem := hU i him h0
        have hpos : 0 < U.length := List.length_pos_of_mem hmem
        rw [List.length_erase_of_mem hmem]
        omega) (hk.put hst hs ho him hr h1 h2)
    unfold does at hd
    rw [← hk.exec hs ho him hr] at hd
    unfold Oper.wp
    generalize (execOp a.eval o).run P w = r at hd
    cases r with
    | ok n w' =>
      cases n <;> simp only [doesUpon] at hd <;> simp only [Oper.upon]
      case value u => exact hnext u w' hd.1 hd.2
      case skip => exact hnext undef w' hd.1 hd.2
      case enter f args => exact hd.mono fun e w'' ⟨v, he, h1, h2⟩ => by subst he; exact hnext v w'' h1 h2
    | halt x w' => simp only [doesUpon] at hd
end

/-- THE FIRST m IN EVERY ORDER, THE REST BY A WALK. -/
theorem wp_region_tail {P : Program} {id : Nat} {Q : Exit → Act → World → Prop} {a : Act} {w wb : World} {l : List Oper} (m : Nat) (V : Nat → World → Value → Prop) (F : (Nat → Value) → Act) (hm : P.follows .mixedOrders = true) (hs : settledTo l.toArray a.tmps.size m = true) (htl : tailed l.toArray m = true) (h0 : Since wb w)
    (hst : ∀ j w w' v, Since w w' → V j w v → V j w' v) (hF : ∀ vals, F vals = filledTo l.toArray m a vals) (hop : eachDoes P V F wb 0 (l.take m))
    (hfin : ∀ vals w, Since wb w → (∀ i, i < m → V i w (vals i)) → wpList P l.toArray Q (l.drop m) (F vals) w) : (Code.region id l.toArray true).wp P Q a w := by
  have hmn : m ≤ l.length := by simpa using (tailed_at htl).1
  refine wp_region_any hm (wpAny_head (V := V) (a0 := a) (wb := wb) hs htl hst ?_ (l.drop m) (fun j => by simp) ?_ _ (List.range m) _ (fun _ => undef) _ _ (by simp) (fun j hj _ => by simpa using hj) (by simp; omega) ⟨⟨h0.drew, rfl, rfl, fun _ _ => rfl, ?_, ?_⟩, fun _ _ _ _ => rfl, ?_, fun j _ => none_listed _ _⟩)
  · intro i o ho him vals w hw hv
    have := eachDoes_at (l.take m) 0 hop i o (by simpa [him] using ho) vals w hw hv
    rw [Nat.zero_add, hF] at this
    exact this
  · intro vals w hw hv
    have := hfin vals w hw hv
    rw [hF] at this
    exact this
  · intro t j _ hl
    rw [none_listed] at hl
    cases hl
  · intro j hl
    rw [none_listed] at hl
    cases hl
  · intro j o hl
    rw [none_listed] at hl
    cases hl
end Go.Proofs.Ytigjppamjfnmcaa

namespace Go.Proofs.Ytigjppamjfnmcaa
open Go.ChangeShapes Go.WideShapes Go.ChangeAt Go.RowKit
set_option linter.unusedVariables false

/-- Block b holds these eight cells, and may be written. -/
structure Rec8 (b : Nat) (x : World) (c0 c1 c2 c3 c4 c5 c6 c7 : Value) : Prop where
  lt : b < x.heap.size
  fz : ∀ i, x.frozen? ⟨b, i, none⟩ = false
  c0 : x.cell? ⟨b, 0, none⟩ = some c0
  c1 : x.cell? ⟨b, 1, none⟩ = some c1
  c2 : x.cell? ⟨b, 2, none⟩ = some c2
  c3 : x.cell? ⟨b, 3, none⟩ = some c3
  c4 : x.cell? ⟨b, 4, none⟩ = some c4
  c5 : x.cell? ⟨b, 5, none⟩ = some c5
  c6 : x.cell? ⟨b, 6, none⟩ = some c6
  c7 : x.cell? ⟨b, 7, none⟩ = some c7

theorem Rec8.since {b : Nat} {x x' : World} {c0 c1 c2 c3 c4 c5 c6 c7 : Value} (k : Rec8 b x c0 c1 c2 c3 c4 c5 c6 c7) (h : Since x x') : Rec8 b x' c0 c1 c2 c3 c4 c5 c6 c7 := by
  have hc : ∀ i, x'.cell? ⟨b, i, none⟩ = x.cell? ⟨b, i, none⟩ := fun i => Below.cell h (p := ⟨b, i, none⟩) k.lt
  exact ⟨Nat.lt_of_lt_of_le k.lt h.le, fun i => (Below.frozen h (p := ⟨b, i, none⟩) k.lt).trans (k.fz i), (hc 0).trans k.c0, (hc 1).trans k.c1, (hc 2).trans k.c2, (hc 3).trans k.c3, (hc 4).trans k.c4, (hc 5).trans k.c5, (hc 6).trans k.c6, (hc 7).trans k.c7⟩

theorem Rec8.new (x : World) (c0 c1 c2 c3 c4 c5 c6 c7 : Value) (t : TypeId) : Rec8 x.heap.size (x.alloc (.cells #[c0, c1, c2, c3, c4, c5, c6, c7] t)) c0 c1 c2 c3 c4 c5 c6 c7 :=
  ⟨by simp, fun i => by simp, by simp, by simp, by simp, by simp, by simp, by simp, by simp, by simp⟩

theorem Rec8.other {a b : Nat} {x : World} {c0 c1 c2 c3 c4 c5 c6 c7 : Value} (k : Rec8 b x c0 c1 c2 c3 c4 c5 c6 c7) (hne : b ≠ a) (i : Nat) (v : Value) : Rec8 b (x.setCell ⟨a, i, none⟩ v) c0 c1 c2 c3 c4 c5 c6 c7 := by
  have hc : ∀ j, (x.setCell ⟨a, i, none⟩ v).cell? ⟨b, j, none⟩ = x.cell? ⟨b, j, none⟩ := fun j => World.cell?_setCell_other x _ _ v (fun h => hne (congrArg Addr.block h).symm)
  exact ⟨by have := k.lt; simpa [World.setCell] using this, fun j => (World.frozen?_setCell _ _ _ _).trans (k.fz j), (hc 0).trans k.c0, (hc 1).trans k.c1, (hc 2).trans k.c2, (hc 3).trans k.c3, (hc 4).trans k.c4, (hc 5).trans k.c5, (hc 6).trans k.c6, (hc 7).trans k.c7⟩

theorem Rec8.put {b : Nat} {x : World} {c0 c1 c2 c3 c4 c5 c6 c7 : Value} (k : Rec8 b x c0 c1 c2 c3 c4 c5 c6 c7) (v : Value) :
    Rec8 b (x.setCell ⟨b, 6, none⟩ v) c0 c1 c2 c3 c4 c5 v c7 ∧ Rec8 b (x.setCell ⟨b, 7, none⟩ v) c0 c1 c2 c3 c4 c5 c6 v := by
  refine ⟨⟨by have := k.lt; simpa [World.setCell] using this, fun j => (World.frozen?_setCell _ _ _ _).trans (k.fz j), ?_, ?_, ?_, ?_, ?_, ?_, ?_, ?_⟩, ⟨by have := k.lt; simpa [World.setCell] using this, fun j => (World.frozen?_setCell _ _ _ _).trans (k.fz j), ?_, ?_, ?_, ?_, ?_, ?_, ?_, ?_⟩⟩
  all_goals simp [World.cell?_setCell_same', World.cell?_setCell_other, k.c0, k.c1, k.c2, k.c3, k.c4, k.c5, k.c6, k.c7]

/-- A world in which a segment has been stored into block b. -/
def stored8 (b : Nat) (x : World) (c0 c1 c2 c3 c4 c5 c6 c7 : Value) : World := ((((((((x.setCell ⟨b, 0, none⟩ c0).setCell ⟨b, 1, none⟩ c1).setCell ⟨b, 2, none⟩ c2).setCell ⟨b, 3, none⟩ c3).setCell ⟨b, 4, none⟩ c4).setCell ⟨b, 5, none⟩ c5).setCell ⟨b, 6, none⟩ c6).setCell ⟨b, 7, none⟩ c7)

theorem Rec8.stored {b : Nat} {x : World} {d0 d1 d2 d3 d4 d5 d6 d7 : Value} (k : Rec8 b x d0 d1 d2 d3 d4 d5 d6 d7) (c0 c1 c2 c3 c4 c5 c6 c7 : Value) : Rec8 b (stored8 b x c0 c1 c2 c3 c4 c5 c6 c7) c0 c1 c2 c3 c4 c5 c6 c7 := by
  unfold stored8
  refine ⟨by have := k.lt; simpa [World.setCell] using this, fun j => by simp [World.frozen?_setCell, k.fz j], ?_, ?_, ?_, ?_, ?_, ?_, ?_, ?_⟩
  all_goals simp [World.cell?_setCell_same', World.cell?_setCell_other, k.c0, k.c1, k.c2, k.c3, k.c4, k.c5, k.c6, k.c7]

theorem Rec8.other8 {a b : Nat} {x : World} {d0 d1 d2 d3 d4 d5 d6 d7 : Value} (k : Rec8 b x d0 d1 d2 d3 d4 d5 d6 d7) (hne : b ≠ a) (c0 c1 c2 c3 c4 c5 c6 c7 : Value) : Rec8 b (stored8 a x c0 c1 c2 c3 c4 c5 c6 c7) d0 d1 d2 d3 d4 d5 d6 d7 :=
  ((((((((k.other hne 0 _).other hne 1 _).other hne 2 _).other hne 3 _).other hne 4 _).other hne 5 _).other hne 6 _).other hne 7 _)

theorem since_put {w x : World} {b : Nat} (h : Since w x) (hb : w.heap.size ≤ b) (i : Nat) (v : Value) : Since w (x.setCell ⟨b, i, none⟩ v) := Below.setCell h (p := ⟨b, i, none⟩) hb v

theorem since_stored {w x : World} {b : Nat} (h : Since w x) (hb : w.heap.size ≤ b) (c0 c1 c2 c3 c4 c5 c6 c7 : Value) : Since w (stored8 b x c0 c1 c2 c3 c4 c5 c6 c7) :=
  since_put (since_put (since_put (since_put (since_put (since_put (since_put (since_put (h) hb 0 _) hb 1 _) hb 2 _) hb 3 _) hb 4 _) hb 5 _) hb 6 _) hb 7 _

/-- A pointer to a zero segment in a block from B on. -/
def newSeg (B : Nat) (x : World) (v : Value) : Prop := ∃ b, v = .pointer (some ⟨b, 0, none⟩) ∧ B ≤ b ∧ Rec8 b x (.int .i64 0) (.int .i64 0) (.int .u32 0) (.int .u32 0) (.int .i64 0) (.int .i64 0) (.int .i64 0) (.string ⟨#[]⟩)

theorem newSeg_since {B : Nat} {x x' : World} {v : Value} (h : Since x x') (k : newSeg B x v) : newSeg B x' v := by
  obtain ⟨b, e, hB, hr⟩ := k
  exact ⟨b, e, hB, hr.since h⟩

theorem newSeg_new {B : Nat} (x : World) (hB : B ≤ x.heap.size) (t : TypeId) : newSeg B (x.alloc (.cells #[.int .i64 0, .int .i64 0, .int .u32 0, .int .u32 0, .int .i64 0, .int .i64 0, .int .i64 0, .string ⟨#[]⟩] t)) (.pointer (some ⟨x.heap.size, 0, none⟩)) :=
  ⟨x.heap.size, rfl, hB, Rec8.new x _ _ _ _ _ _ _ _ t⟩

/-- The Mss that a text's fields tell. -/
def segMs (s : ByteArray) : Int := if byteAt s 12 = 96 then halfAt s 22 else 0

/-- Where its Data begins. -/
def segAt (s : ByteArray) : Nat := if byteAt s 12 = 96 then 24 else 20

/-- The segment that they tell. -/
def segRead (s : ByteArray) : Value := segVal (halfAt s 0) (halfAt s 2) (wordAt s 4) (wordAt s 8) (byteAt s 13) (halfAt s 14) (segMs s) (s.extract (segAt s) s.size)

/-- The zero segment. -/
def segZero : Value := segVal 0 0 0 0 0 0 0 ⟨#[]⟩

theorem readSegShort (s : ByteArray) (hs : s.size < 20) (w : World) :
    Calls Try.prog 55 #[.string s] w fun e w' => e = .returned (.tuple #[segZero, .bool false]) ∧ Since w w' := by
  have h1 : (s.size : Int) < 20 := by omega
  go_enter Try.func55, Try.ntmps55
  go_wp2
  refine bodyPost_ret (v := .tuple #[segZero, .bool false]) ?_ rfl ⟨rfl, by repeat (first | exact Since.refl _ | apply Since.drew | apply Since.alloc)⟩
  simp [results, go_sem, segZero, segVal]

end Go.Proofs.Ytigjppamjfnmcaa

namespace Go.Proofs.Ytigjppamjfnmcaa
open Go.ChangeShapes Go.WideShapes Go.ChangeAt Go.RowKit
set_option linter.unusedVariables false

/-- An address as a value. -/
def addrVal (h p : Int) : Value := .agg #[.int .u32 h, .int .i64 p]

/-- Block b holds these two cells, and may be written. -/
structure Rec2 (b : Nat) (x : World) (c0 c1 : Value) : Prop where
  lt : b < x.heap.size
  fz : ∀ i, x.frozen? ⟨b, i, none⟩ = false
  c0 : x.cell? ⟨b, 0, none⟩ = some c0
  c1 : x.cell? ⟨b, 1, none⟩ = some c1

theorem Rec2.since {b : Nat} {x x' : World} {c0 c1 : Value} (k : Rec2 b x c0 c1) (h : Since x x') : Rec2 b x' c0 c1 := by
  have hc : ∀ i, x'.cell? ⟨b, i, none⟩ = x.cell? ⟨b, i, none⟩ := fun i => Below.cell h (p := ⟨b, i, none⟩) k.lt
  exact ⟨Nat.lt_of_lt_of_le k.lt h.le, fun i => (Below.frozen h (p := ⟨b, i, none⟩) k.lt).trans (k.fz i), (hc 0).trans k.c0, (hc 1).trans k.c1⟩

theorem Rec2.new (x : World) (c0 c1 : Value) (t : TypeId) : Rec2 x.heap.size (x.alloc (.cells #[c0, c1] t)) c0 c1 := ⟨by simp, fun i => by simp, by simp, by simp⟩

theorem Rec2.other {a b : Nat} {x : World} {c0 c1 : Value} (k : Rec2 b x c0 c1) (hne : b ≠ a) (i : Nat) (v : Value) : Rec2 b (x.setCell ⟨a, i, none⟩ v) c0 c1 := by
  have hc : ∀ j, (x.setCell ⟨a, i, none⟩ v).cell? ⟨b, j, none⟩ = x.cell? ⟨b, j, none⟩ := fun j => World.cell?_setCell_other x _ _ v (fun h => hne (congrArg Addr.block h).symm)
  exact ⟨by have := k.lt; simpa [World.setCell] using this, fun j => (World.frozen?_setCell _ _ _ _).trans (k.fz j), (hc 0).trans k.c0, (hc 1).trans k.c1⟩

/-- A world in which an address has been stored into block b. -/
def stored2 (b : Nat) (x : World) (c0 c1 : Value) : World := (x.setCell ⟨b, 0, none⟩ c0).setCell ⟨b, 1, none⟩ c1

theorem Rec2.stored {b : Nat} {x : World} {d0 d1 : Value} (k : Rec2 b x d0 d1) (c0 c1 : Value) : Rec2 b (stored2 b x c0 c1) c0 c1 := by
  unfold stored2
  refine ⟨by have := k.lt; simpa [World.setCell] using this, fun j => by simp [World.frozen?_setCell, k.fz j], ?_, ?_⟩
  all_goals simp [World.cell?_setCell_same', World.cell?_setCell_other, k.c0, k.c1]

theorem Rec2.other2 {a b : Nat} {x : World} {d0 d1 : Value} (k : Rec2 b x d0 d1) (hne : b ≠ a) (c0 c1 : Value) : Rec2 b (stored2 a x c0 c1) d0 d1 := (k.other hne 0 _).other hne 1 _

theorem Rec2.other8 {a b : Nat} {x : World} {d0 d1 : Value} (k : Rec2 b x d0 d1) (hne : b ≠ a) (c0 c1 c2 c3 c4 c5 c6 c7 : Value) : Rec2 b (stored8 a x c0 c1 c2 c3 c4 c5 c6 c7) d0 d1 :=
  ((((((((k.other hne 0 _).other hne 1 _).other hne 2 _).other hne 3 _).other hne 4 _).other hne 5 _).other hne 6 _).other hne 7 _)

theorem Rec8.other2 {a b : Nat} {x : World} {d0 d1 d2 d3 d4 d5 d6 d7 : Value} (k : Rec8 b x d0 d1 d2 d3 d4 d5 d6 d7) (hne : b ≠ a) (c0 c1 : Value) : Rec8 b (stored2 a x c0 c1) d0 d1 d2 d3 d4 d5 d6 d7 := (k.other hne 0 _).other hne 1 _

theorem since_stored2 {w x : World} {b : Nat} (h : Since w x) (hb : w.heap.size ≤ b) (c0 c1 : Value) : Since w (stored2 b x c0 c1) := since_put (since_put h hb 0 _) hb 1 _

/-- A world in which the three answers have been stored. -/
def answered (A B S : Nat) (x : World) (a0 a1 b0 b1 c0 c1 c2 c3 c4 c5 c6 c7 : Value) : World := stored8 S (stored2 B (stored2 A x a0 a1) b0 b1) c0 c1 c2 c3 c4 c5 c6 c7

theorem answered_ok {A B S : Nat} {x : World} {x0 x1 y0 y1 d0 d1 d2 d3 d4 d5 d6 d7 : Value} (kA : Rec2 A x x0 x1) (kB : Rec2 B x y0 y1) (kS : Rec8 S x d0 d1 d2 d3 d4 d5 d6 d7) (hAB : A ≠ B) (hAS : A ≠ S) (hBS : B ≠ S) (a0 a1 b0 b1 c0 c1 c2 c3 c4 c5 c6 c7 : Value) :
    Rec2 A (answered A B S x a0 a1 b0 b1 c0 c1 c2 c3 c4 c5 c6 c7) a0 a1 ∧ Rec2 B (answered A B S x a0 a1 b0 b1 c0 c1 c2 c3 c4 c5 c6 c7) b0 b1 ∧ Rec8 S (answered A B S x a0 a1 b0 b1 c0 c1 c2 c3 c4 c5 c6 c7) c0 c1 c2 c3 c4 c5 c6 c7 :=
  ⟨((kA.stored a0 a1).other2 hAB b0 b1).other8 hAS c0 c1 c2 c3 c4 c5 c6 c7, ((kB.other2 (Ne.symm hAB) a0 a1).stored b0 b1).other8 hBS c0 c1 c2 c3 c4 c5 c6 c7, ((kS.other2 (Ne.symm hAS) a0 a1).other2 (Ne.symm hBS) b0 b1).stored c0 c1 c2 c3 c4 c5 c6 c7⟩

theorem since_answered {w x : World} {A B S : Nat} (h : Since w x) (hA : w.heap.size ≤ A) (hB : w.heap.size ≤ B) (hS : w.heap.size ≤ S) (a0 a1 b0 b1 c0 c1 c2 c3 c4 c5 c6 c7 : Value) : Since w (answered A B S x a0 a1 b0 b1 c0 c1 c2 c3 c4 c5 c6 c7) :=
  since_stored (since_stored2 (since_stored2 h hA a0 a1) hB b0 b1) hS c0 c1 c2 c3 c4 c5 c6 c7
end Go.Proofs.Ytigjppamjfnmcaa
