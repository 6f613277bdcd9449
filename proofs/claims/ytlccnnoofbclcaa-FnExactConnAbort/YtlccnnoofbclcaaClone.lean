/-
  strings.Clone gives the same bytes: the library's contract of internal/stringslite.Clone, laid at this program's own numbers.
-/
import Derived.Test.YtlccnnoofbclcaaPkt
import Derived.Shelf.Pu.Clone
namespace Go.Proofs.Ytlccnnoofbclcaa
open Go.ChangeShapes Go.WideShapes Go.ChangeAt Go.RowKit Go.Shelf
set_option linter.unusedVariables false
set_option maxRecDepth 10000

/-- The library's numbers and this program's. -/
def cloneRen : Ren := ⟨fun _ => 96, fun x => if x = 3 then 3 else if x = 4 then 4 else if x = 5 then 5 else if x = 9 then 9 else if x = 37 then 102 else if x = 47 then 127 else 0, fun x => x⟩

theorem cloneLays : LaysPu.n25 Try.prog cloneRen :=
  { mixed := by kernel_rfl, f25 := by kernel_rfl,
    t0 := by kernel_rfl,
    a0 := fun _ => by kernel_rfl,
    z0 := fun _ => by kernel_rfl,
    v0 := fun _ => by kernel_rfl,
    i0 := by kernel_rfl,
    t3 := by kernel_rfl,
    a3 := fun _ => by kernel_rfl,
    z3 := fun _ => by kernel_rfl,
    v3 := fun _ => by kernel_rfl,
    i3 := by kernel_rfl,
    t4 := by kernel_rfl,
    a4 := fun _ => by kernel_rfl,
    z4 := fun _ => by kernel_rfl,
    v4 := fun _ => by kernel_rfl,
    i4 := by kernel_rfl,
    t5 := by kernel_rfl,
    a5 := fun _ => by kernel_rfl,
    z5 := fun _ => by kernel_rfl,
    v5 := fun _ => by kernel_rfl,
    i5 := by kernel_rfl,
    t9 := by kernel_rfl,
    a9 := fun _ => by kernel_rfl,
    z9 := fun _ => by kernel_rfl,
    v9 := fun _ => by kernel_rfl,
    i9 := by kernel_rfl,
    t37 := by kernel_rfl,
    a37 := fun _ => by kernel_rfl,
    z37 := fun _ => by kernel_rfl,
    v37 := fun _ => by kernel_rfl,
    i37 := by kernel_rfl,
    t47 := by kernel_rfl,
    a47 := fun _ => by kernel_rfl,
    z47 := fun _ => by kernel_rfl,
    v47 := fun _ => by kernel_rfl,
    i47 := by kernel_rfl }

theorem clone (s : ByteArray) (h : s.size ≤ 1048576) (w : World) :
    Calls Try.prog 79 #[.string s] w fun e w' => e = .returned (.string s) ∧ Since w w' := by
  have hc : ∀ wx, Calls Try.prog 96 #[.string s] wx fun e w' => e = .returned (.string s) ∧ Below wx.heap.size wx w' := fun wx => AnyPu.stringslite_Clone cloneLays s wx (by omega)
  go_enter Try.func79, Try.ntmps79
  go_wp2_with (go_at_call 96; refine (hc _).mono ?_; rintro _ w1 ⟨rfl, g1⟩)
  go_ret
  exact ⟨rfl, g1⟩
end Go.Proofs.Ytlccnnoofbclcaa
