/- A start that meets the condition of the rows that list the sentinels. Condition: none. -/
import Derived.Test.YtbiknpfcemfoeaaDoorSen
namespace Go.Proofs.YtbiknpfcemfoeaaDoor
open Go Go.ChangeShapes Go.WideShapes Go.ChangeAt Go.RowKit Go.Deep
set_option linter.unusedSimpArgs false
set_option linter.unusedVariables false
set_option maxRecDepth 100000
/-- The variables laid by a law: the condition is met. -/
theorem met_E (os : Os) (args : Array Value) : laidMetH Tryd.prog laidE ((World.laidAll Tryd.prog os laidE).forCall (fun _ _ => 0) ⟨#[], args, []⟩).memory := by
  rw [MakeChecks.laidMetH_plain _ _ _ (by kernel_rfl)]
  exact laidMet_laidAll _ (by kernel_rfl) (by kernel_rfl)
theorem shapedE (os : Os) (args : Array Value) : ((World.laidAll Tryd.prog os laidE).forCall (fun _ _ => 0) ⟨#[], args, []⟩).Shaped Tryd.checked.prog :=
  World.shaped_of_ZipB (by kernel_rfl) (by kernel_rfl)
theorem witnessE (f : Nat) (fn : Func) (s : ChangeSpec) (args : Array Value) (os : Os) (H : Type) (enc : TypeId × Value → H)
    (hok : Input.okWideB Tryd.checked.prog ((World.laidAll Tryd.prog os laidE).forCall (fun _ _ => 0) ⟨#[], args, []⟩) f ⟨#[], args, []⟩ = true)
    (hpre : s.preB enc Tryd.checked.prog fn [] false ((World.laidAll Tryd.prog os laidE).forCall (fun _ _ => 0) ⟨#[], args, []⟩).memory args 16 = true)
    (hsz : s.sizedB enc Tryd.checked.prog fn false ((World.laidAll Tryd.prog os laidE).forCall (fun _ _ => 0) ⟨#[], args, []⟩).memory args 16 = true) :
    ∃ (w : World) (tape : Tape) (i : Input), w.os = os ∧ (w.forCall tape i).Shaped Tryd.checked.prog ∧ i.vars = [] ∧ Input.okWide Tryd.checked.prog (w.forCall tape i) .any w.heap.size f i ∧
      ((s.pre enc Tryd.checked.prog fn [] false (w.forCall tape i).memory i.args ∧ laidMetH Tryd.prog laidE (w.forCall tape i).memory) ∧ sizedMet enc Tryd.checked.prog fn (OpenSpec.ofChange s) false (w.forCall tape i).memory i.args) ∧ ({} : Assume).holds Tryd.checked.prog (lone (Frame.enter Tryd.checked.prog f i.args .normal) [] (w.forCall tape i)) :=
  ChangeSpec.witness_shaped (enc := enc) (C := Tryd.checked) (os := os) (X := fun w _ => laidMetH Tryd.prog laidE w) false (World.laidAll Tryd.prog os laidE) args 16 (World.laidAll_os _ _ _) (shapedE os args) hok hpre hsz (met_E os _)
end Go.Proofs.YtbiknpfcemfoeaaDoor
