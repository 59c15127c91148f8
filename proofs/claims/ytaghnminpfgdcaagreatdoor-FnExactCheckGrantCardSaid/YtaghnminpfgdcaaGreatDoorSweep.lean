/- A sweep: the head of a cell is set; one that is not plain makes it panic. No condition. -/
import Derived.Test.YtaghnminpfgdcaaGreatDoorRdA
import Derived.Test.YtaghnminpfgdcaaGreatDoorFlows
namespace Go.Proofs.YtaghnminpfgdcaaGreatDoor
open Go Go.RowKit
attribute [local go_sem] Oper.semAt_some run_store_float
set_option linter.unusedSimpArgs false
set_option linter.unusedVariables false

/-- What setHead panics with. -/
def noGround : Value := .iface 245 (.agg #[])

set_option maxRecDepth 100000 in
theorem setHead_yes (G : Gd) (B k b : Nat) (hk : k < 64) (w : World) (hB : GBox w B G) (hp : plainB b = true) :
    Calls Tryz.prog 156 #[.pointer (some ⟨B, 0, none⟩), .int .i64 k, .float .f32 b] w fun e w' => (∃ v, e = .returned v) ∧ w' = w.setCell ⟨B, 130 + k, none⟩ (.float .f32 b) := by
  have hk2 : (k : Int) < 64 := by omega
  have hc := hB.at'.h
  rw [Nat.zero_add] at hc
  have c1 := Grd_fld hc k hk
  have f1 := hB.free (130 + k) (by omega)
  clear hc hB
  go_enter Tryz.func156, Tryz.ntmps156
  go_wp2_with (go_at_call 124; refine (isPlain_is b true hp _).mono ?_; rintro e w' ⟨rfl, rfl⟩)
  go_end0
  exact ⟨⟨_, rfl⟩, rfl⟩

set_option maxRecDepth 100000 in
theorem setHead_no (p : Value) (k : Int) (b : Nat) (w : World) (hp : plainB b = false) :
    Calls Tryz.prog 156 #[p, .int .i64 k, .float .f32 b] w fun e w' => e = .panicked [{ v := noGround, recovered := false }] ∧ w' = w := by
  go_enter Tryz.func156, Tryz.ntmps156
  go_wp2_with (go_at_call 124; refine (isPlain_is b false hp _).mono ?_; rintro e w' ⟨rfl, rfl⟩)
  exact ⟨rfl, rfl, rfl⟩
end Go.Proofs.YtaghnminpfgdcaaGreatDoor
