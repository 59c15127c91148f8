/- RelaxedSweep: the program's and the model's. (The program's: the table of math/bits is laid.) No condition. -/
import Derived.Test.YtaghnminpfgdcaaGreatDoorSwBoth
namespace Go.Proofs.YtaghnminpfgdcaaGreatDoor
open Go.RowKit Go.Shelf
attribute [local go_sem] Oper.semAt_some run_store_float
set_option linter.unusedSimpArgs false
set_option linter.unusedVariables false

/-- The next head in a sweep that moves heads by a share. -/
def nxR (s : Nat) (H : Gd) (k : Nat) : Option Nat := if H.x.toNat.testBit k = true then num .f32 (H.h k) else fop .f32 .add (num .f32 (H.h k)) (fop .f32 .mul (num .f32 s) (fop .f32 .sub (headO H k) (num .f32 (H.h k))))
theorem nxR_fix {s : Nat} {H : Gd} {k : Nat} (h : H.x.toNat.testBit k = true) : nxR s H k = num .f32 (H.h k) := by simp [nxR, h]
theorem nxR_free {s : Nat} {H : Gd} {k : Nat} (h : H.x.toNat.testBit k = false) : nxR s H k = fop .f32 .add (num .f32 (H.h k)) (fop .f32 .mul (num .f32 s) (fop .f32 .sub (headO H k) (num .f32 (H.h k)))) := by simp [nxR, h]
def shB (s : Nat) : Bool := (FloatKind.f32.format.order s 0 == some Ordering.gt || FloatKind.f32.format.order s 0 == some Ordering.eq) && (FloatKind.f32.format.order s 1073741824 == some Ordering.lt || FloatKind.f32.format.order s 1073741824 == some Ordering.eq)

def relV (G : Gd) (s : Nat) : Value := if validB G = true then (if shB s = true then sweptV (nxR s) G else .tuple #[.agg (Grd zG), .float .f32 0, .int .i64 2]) else .tuple #[.agg (Grd zG), .float .f32 0, .int .i64 1]
theorem relV_is (G : Gd) (s : Nat) : ∃ (A : Gd) (m : Nat) (n : Int), relV G s = .tuple #[.agg (Grd A), .float .f32 m, .int .i64 n] := by
  unfold relV
  split
  · split
    · exact sweptV_is _ _
    · exact ⟨_, _, _, rfl⟩
  · exact ⟨_, _, _, rfl⟩

end Go.Proofs.YtaghnminpfgdcaaGreatDoor
