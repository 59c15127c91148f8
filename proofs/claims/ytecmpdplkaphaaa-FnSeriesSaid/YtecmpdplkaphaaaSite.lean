/- A site that the model draws. No condition of its own. -/
import Derived.Test.YtecmpdplkaphaaaDraw
namespace Go.Proofs.Ytecmpdplkaphaaa
open Go Go.RowKit Ieee
set_option linter.unusedSimpArgs false
set_option linter.unusedVariables false
attribute [local go_sem] run_store_f32

def rtV (i : Nat) : Nat := qv (1 + (i : Nat) : Int) 1090519040
theorem rt_ok : ∀ i, i < 900 → fop .f32 .quo (num .f32 (floatOfInt .f32 (1 + (i : Nat) : Int))) (num .f32 1090519040) = some (rtV i) := by
  decide +kernel
def Si (X Y : Int) (R : Nat) (x y : Int) : Array Value := #[.int .i8 X, .int .i8 Y, .float .f32 R, .int .i8 x, .int .i8 y]
/-- What the walk knows behind a question: the source, the result's cells, how much memory there is. -/
theorem step_src {b k z : Nat} {V V' : World} {C : Obj} (h : Only b V V') (hz : V'.heap.size = V.heap.size) (hb : z ≠ b) (hc : V.heap[z]? = some C) : V'.heap[z]? = some C := (h.2 z hb).trans hc

theorem results_agg {P : Program} {fn : Func} {p : Tmp} {ty : TypeId} {D : TypeDesc} (h : fn.results = #[.cell p ty]) (tmps : Array Value) (w : World) (b : Nat) (cs : Array Value)
    (hp : tmps.getD p undef = .pointer (some ⟨b, 0, none⟩)) (hc : w.rangeAt b 0 cs.toList) (hu : P.underlying ty = some D) (hd : D.isRow = true) (hi : (P.info? ty).map (·.size) = some cs.toList.length) :
    (results fn tmps).run P w = .ok (.agg cs) w := by
  have hp' : tmps[p]?.getD undef = .pointer (some ⟨b, 0, none⟩) := by simpa using hp
  have := run_loadVar_mid (P := P) w b 0 ty cs.toList D hc hu hd hi
  simp [results, h, hp', asAddr, this]
theorem SrcAt.keep {w w' : World} {b k : Nat} (h : SrcAt w b k) (hB : Below (b + 1) w w') : SrcAt w' b k := by
  obtain ⟨p, n, c, a, s, hb, hn, ha, h0, h1, hx⟩ := h
  exact ⟨p, n, c, a, s, (hB.block b (Nat.lt_succ_self _)).trans hb, hn, ha, h0, h1, hx.below (hB.mono (Nat.le_succ _))⟩
end Go.Proofs.Ytecmpdplkaphaaa
