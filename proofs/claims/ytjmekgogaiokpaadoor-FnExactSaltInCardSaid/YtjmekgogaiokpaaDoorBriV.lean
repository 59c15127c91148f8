/- ValidBrine: the model's; both sides. Conditions: none (the program's: the table of math/bits is laid). -/
import Derived.Test.YtjmekgogaiokpaaDoorBriI
namespace Go.Proofs.YtjmekgogaiokpaaDoor
open Go.RowKit Go.Shelf
attribute [local go_sem] Oper.semAt_some run_store_float
set_option linter.unusedSimpArgs false
set_option linter.unusedVariables false

set_option maxRecDepth 100000 in
set_option maxHeartbeats 2000000 in
theorem specValidB_any (B : Brn) (w : World) (hG : BrnOk B) :
    Calls Tryd.prog 22 #[.agg (BrnA B)] w fun e w' => e = .returned (.bool (brnB B)) ∧ Below w.heap.size w w' := by
  go_enter Tryd.func22, Tryd.ntmps22
  go_upto_region 1 with (fail)
  obtain ⟨W, hW, hs, b1, hB⟩ := bbox1 B 42 w
  rw [hW]
  clear hW
  go_wp2_with (go_at_call 59; refine (l05Ok_any B w.heap.size W b1.at' hG).mono ?_; rintro e w' ⟨rfl, hq⟩; have HQ := Lib.hid (hB.trans (hq.below _)); clear hq)
  go_ret
  exact ⟨rfl, HQ.out⟩
end Go.Proofs.YtjmekgogaiokpaaDoor
