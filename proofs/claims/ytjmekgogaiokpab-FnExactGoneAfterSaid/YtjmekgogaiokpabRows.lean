/-
  No cell of these rows narrows 'for every input' (looked for: loops, veiled, ifaces, maps, wideKeys, modest, calm, conditions, laid).
  DERIVED. THE GIVEN ROWS OF THIS SEAT. 3 by the template 'for every input the law returns true; each argument reads behind the call as it read before'; 0 by the template 'total and deterministic' (their statements: YtjmekgogaiokpabTotals.lean).
  GIVEN WITH THE SEED: the statements are not yours to turn. If you find one false, say at which input.
  Laid BY PROGRAM, IN A SANDBOX (cutbox-rows.mjs): the forced cells as the released guide's own fill.sh prints them over the translation 033bdae456850495… (all of the seat's roots in one cut). By AI agents, Wed Nov 11 2026. No macro, syntax, notation, axiom, sorry.
-/
import Derived.Test.YtjmekgogaiokpabChecked
import GoSem.Claim
import GoSem.ClaimJoined
import GoSem.ClaimMapViews
import Derived.JoinedTies
import Derived.KernelRfl
namespace Go.Proofs.Ytjmekgogaiokpab
/- THE CELL 'sum', in the pinned program and in every row, IS THE sha256 OF THE DUMP (.gsa) THAT YtjmekgogaiokpabProg.lean LOADS. Nothing in Lean hashes anything: it is a label: what it is worth is what the hold of that sum in a sandbox is worth. -/
noncomputable def Try.pinned : Pinned := { name := "ytjmekgogaiokpab", sum := "033bdae45685049592aaa96f5241a79b2b33761340594923f55cd10750f97fab", checked := Try.checked }
namespace Rows
def none {H : Type} : Left H := { results := [], args := [] }

/-- 'laws.FnExactSameBrine': WHATEVER THE INPUT: true; the input reads as it did. -/
def fnExactSameBrineSpec : ChangeSpec := { name := "fnExactSameBrine", fn := fun _ => fun
  | [d1, d2] => { results := [.lit (.bool true)], args := [d1, d2] }
  | _ => none }
def fnExactSameBrineRow : OpenClaim := { program := "ytjmekgogaiokpab", sum := "033bdae45685049592aaa96f5241a79b2b33761340594923f55cd10750f97fab", func := "loop.example/g01288/laws.FnExactSameBrine", spec := "fnExactSameBrine", inPlace := ["math.Float32bits"], apart := false }
def FnExactSameBrineSaid : Prop := fnExactSameBrineRow.holds Try.pinned (OpenSpec.ofChange fnExactSameBrineSpec)

/-- ITS FALSE NEIGHBOUR: 'it returns false'. Refute it at one input. -/
def fnExactSameBrineWrong : ChangeSpec := { name := "fnExactSameBrine", fn := fun _ => fun
  | [d1, d2] => { results := [.lit (.bool false)], args := [d1, d2] }
  | _ => none }
def FnExactSameBrineWrongFalsely : Prop := fnExactSameBrineRow.holds Try.pinned (OpenSpec.ofChange fnExactSameBrineWrong)

/-- 'laws.FnExactDecayedNumber': WHATEVER THE INPUT: true; the input reads as it did. -/
def fnExactDecayedNumberSpec : ChangeSpec := { name := "fnExactDecayedNumber", fn := fun _ => fun
  | [d1, d2, d3] => { results := [.lit (.bool true)], args := [d1, d2, d3] }
  | _ => none }
def fnExactDecayedNumberRow : OpenClaim := { program := "ytjmekgogaiokpab", sum := "033bdae45685049592aaa96f5241a79b2b33761340594923f55cd10750f97fab", func := "loop.example/g01288/laws.FnExactDecayedNumber", spec := "fnExactDecayedNumber", unfollowed := true, recurses := true, apart := false }
def FnExactDecayedNumberSaid : Prop := fnExactDecayedNumberRow.holds Try.pinned (OpenSpec.ofChange fnExactDecayedNumberSpec)

/-- ITS FALSE NEIGHBOUR: 'it returns false'. Refute it at one input. -/
def fnExactDecayedNumberWrong : ChangeSpec := { name := "fnExactDecayedNumber", fn := fun _ => fun
  | [d1, d2, d3] => { results := [.lit (.bool false)], args := [d1, d2, d3] }
  | _ => none }
def FnExactDecayedNumberWrongFalsely : Prop := fnExactDecayedNumberRow.holds Try.pinned (OpenSpec.ofChange fnExactDecayedNumberWrong)

/-- 'laws.FnExactGoneAfter': WHATEVER THE INPUT: true; the input reads as it did. -/
def fnExactGoneAfterSpec : ChangeSpec := { name := "fnExactGoneAfter", fn := fun _ => fun
  | [d1, d2, d3] => { results := [.lit (.bool true)], args := [d1, d2, d3] }
  | _ => none }
def fnExactGoneAfterRow : OpenClaim := { program := "ytjmekgogaiokpab", sum := "033bdae45685049592aaa96f5241a79b2b33761340594923f55cd10750f97fab", func := "loop.example/g01288/laws.FnExactGoneAfter", spec := "fnExactGoneAfter", unfollowed := true, recurses := true, apart := false }
def FnExactGoneAfterSaid : Prop := fnExactGoneAfterRow.holds Try.pinned (OpenSpec.ofChange fnExactGoneAfterSpec)

/-- ITS FALSE NEIGHBOUR: 'it returns false'. Refute it at one input. -/
def fnExactGoneAfterWrong : ChangeSpec := { name := "fnExactGoneAfter", fn := fun _ => fun
  | [d1, d2, d3] => { results := [.lit (.bool false)], args := [d1, d2, d3] }
  | _ => none }
def FnExactGoneAfterWrongFalsely : Prop := fnExactGoneAfterRow.holds Try.pinned (OpenSpec.ofChange fnExactGoneAfterWrong)

/- THE SECOND FORM. 'bulk': how many values and letters a reading holds, each counted each time it is reached (what is shared counts as often as it is met; a slice's spare places count too). A statement '..UptoSaid' is the law's where the arguments, and the package variables that the reading takes, are together of bulk at most 1048576: NARROWER than '..Said'. Prove '..Said' where nothing that the law and all that it calls make is longer than what came in: it says more and counts as full. Else prove '..UptoSaid'. A law counts once. -/
mutual
def uptoBulk {H : Type} : DataW H → Nat
  | .lit (.string bytes) => bytes.length + 1
  | .lit _ => 1
  | .nil => 1
  | .ptr d => uptoBulk d + 1
  | .slice elems spare => uptoBulkAll elems + uptoBulkAll spare + 1
  | .agg parts => uptoBulkAll parts + 1
  | .iface _ d => uptoBulk d + 1
  | .map entries => uptoBulkEntries entries + 1
  | .held _ => 1
def uptoBulkAll {H : Type} : List (DataW H) → Nat
  | [] => 0
  | d :: r => uptoBulk d + uptoBulkAll r
def uptoBulkEntries {H : Type} : List (Lit × DataW H) → Nat
  | [] => 0
  | x :: r => uptoBulkEntry x + uptoBulkEntries r
def uptoBulkEntry {H : Type} : Lit × DataW H → Nat
  | (.string bytes, d) => bytes.length + uptoBulk d + 1
  | (_, d) => uptoBulk d + 1
 end
def uptoSmall : (H : Type) → List (DataW H) → Bool := fun _ ds => decide (uptoBulkAll ds ≤ 1048576)
def OpenSpec.upto (s : _root_.Go.ChangeSpec) : _root_.Go.OpenSpec := { _root_.Go.OpenSpec.ofChange s with cond := some uptoSmall }

/-- 'laws.FnExactSameBrine', WHERE WHAT IT READS IS OF BULK AT MOST 1048576: true; the input reads as it did. -/
def fnExactSameBrineUptoRow : OpenClaim := { program := "ytjmekgogaiokpab", sum := "033bdae45685049592aaa96f5241a79b2b33761340594923f55cd10750f97fab", func := "loop.example/g01288/laws.FnExactSameBrine", spec := "fnExactSameBrine", inPlace := ["math.Float32bits"], apart := false, narrowed := true }
def FnExactSameBrineUptoSaid : Prop := fnExactSameBrineUptoRow.holds Try.pinned (OpenSpec.upto fnExactSameBrineSpec)

/-- 'laws.FnExactDecayedNumber', WHERE WHAT IT READS IS OF BULK AT MOST 1048576: true; the input reads as it did. -/
def fnExactDecayedNumberUptoRow : OpenClaim := { program := "ytjmekgogaiokpab", sum := "033bdae45685049592aaa96f5241a79b2b33761340594923f55cd10750f97fab", func := "loop.example/g01288/laws.FnExactDecayedNumber", spec := "fnExactDecayedNumber", unfollowed := true, recurses := true, apart := false, narrowed := true }
def FnExactDecayedNumberUptoSaid : Prop := fnExactDecayedNumberUptoRow.holds Try.pinned (OpenSpec.upto fnExactDecayedNumberSpec)

/-- 'laws.FnExactGoneAfter', WHERE WHAT IT READS IS OF BULK AT MOST 1048576: true; the input reads as it did. -/
def fnExactGoneAfterUptoRow : OpenClaim := { program := "ytjmekgogaiokpab", sum := "033bdae45685049592aaa96f5241a79b2b33761340594923f55cd10750f97fab", func := "loop.example/g01288/laws.FnExactGoneAfter", spec := "fnExactGoneAfter", unfollowed := true, recurses := true, apart := false, narrowed := true }
def FnExactGoneAfterUptoSaid : Prop := fnExactGoneAfterUptoRow.holds Try.pinned (OpenSpec.upto fnExactGoneAfterSpec)

end Rows
end Go.Proofs.Ytjmekgogaiokpab
