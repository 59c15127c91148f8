/- IsStill: the program's and the model's. (The program's: the table of math/bits is laid.) No condition. -/
import Derived.Test.YtaghnminpfgdcaaGreatDoorSwRel
import Derived.Test.YtaghnminpfgdcaaGreatDoorPl
namespace Go.Proofs.YtaghnminpfgdcaaGreatDoor
open Go.RowKit Go.Shelf
attribute [local go_sem] Oper.semAt_some run_store_float
set_option linter.unusedSimpArgs false
set_option linter.unusedVariables false

/-- Is a number at most another one? -/
def leX (m x : Nat) : Bool := (FloatKind.f32.format.order m x == some Ordering.lt || FloatKind.f32.format.order m x == some Ordering.eq)
def nxS (G : Gd) : Gd → Nat → Option Nat := fun _ k => headO G k
def stillV (G : Gd) (x : Nat) : Bool × Int := if validB G = true then (if amtB x = true then (if (swF (nxS G) G).2.1 = true then (leX (swF (nxS G) G).2.2 x, 0) else (false, 4)) else (false, 2)) else (false, 1)
theorem step_no {G : Gd} (hv : validB G = false) : stepV G = .tuple #[.agg (Grd zG), .float .f32 0, .int .i64 1] := by simp [stepV, hv]
theorem step_yes {G : Gd} (hv : validB G = true) : stepV G = sweptV (nxS G) G := by simp [stepV, hv]; rfl

end Go.Proofs.YtaghnminpfgdcaaGreatDoor
