/- swept with the settled head itself: the program's sweep in order. Condition: the table of math/bits is laid. -/
import Derived.Test.YtaghnminpfgdcaaGreatDoorSwept
namespace Go.Proofs.YtaghnminpfgdcaaGreatDoor
open Go Go.RowKit
set_option linter.unusedSimpArgs false
set_option linter.unusedVariables false

/-- What swept hands back. -/
def sweptV (nx : Gd → Nat → Option Nat) (G : Gd) : Value := if (swp nx G (bitsL (cellsN G))).2.1 = true then .tuple #[.agg (Grd (swp nx G (bitsL (cellsN G))).1), .float .f32 (swp nx G (bitsL (cellsN G))).2.2, .int .i64 0] else .tuple #[.agg (Grd zG), .float .f32 0, .int .i64 4]
theorem swept_any (nx : Gd → Nat → Option Nat) (nf : Nat) (caps : Array Value) (hen : ∀ args w, (callFunc nf args).run Tryz.prog w = .ok (.enter nf args) w) (w : World)
    (hnx : ∀ (H : Gd) (k : Nat) (V : World), k < 64 → isB H k = true → validB H = true → GdOk H → GBox V w.heap.size H → Below w.heap.size w V →
      Calls Tryz.prog nf (#[.pointer (some ⟨w.heap.size, 0, none⟩), .int .i64 k] ++ caps) V fun e V' => ∃ b, e = .returned (.float .f32 b) ∧ num .f32 b = nx H k ∧ Below V.heap.size V V')
    (G : Gd) (hv : validB G = true) (hG : GdOk G) (hT : TabAt w) :
    Calls Tryz.prog 119 #[.agg (Grd G), .func (.func nf) #[] caps] w fun e w' => e = .returned (sweptV nx G) ∧ Below w.heap.size w w' := by
  cases ho : (swp nx G (bitsL (cellsN G))).2.1
  · rw [show sweptV nx G = .tuple #[.agg (Grd zG), .float .f32 0, .int .i64 4] by simp [sweptV, ho]]
    exact swept_no nx nf caps hen w hnx G hv hG hT ho
  · rw [show sweptV nx G = .tuple #[.agg (Grd (swp nx G (bitsL (cellsN G))).1), .float .f32 (swp nx G (bitsL (cellsN G))).2.2, .int .i64 0] by simp [sweptV, ho]]
    exact swept_yes nx nf caps hen w hnx G hv hG hT ho

theorem sweptOrder_any (G : Gd) (w : World) (hv : validB G = true) (hG : GdOk G) (hT : TabAt w) :
    Calls Tryz.prog 119 #[.agg (Grd G), .func (.func 120) #[] #[]] w fun e w' => e = .returned (sweptV headO G) ∧ Below w.heap.size w w' :=
  swept_any headO 120 #[] (enters_of Tryz.func120 (by kernel_rfl) rfl) w
    (fun H k V hk _ hvH hGH hB _ => (implHead_any H k hk hvH w.heap.size V hB.at' hB.lt hGH).mono fun e V' ⟨b, h1, h2, h3⟩ => ⟨b, h1, h2, h3⟩) G hv hG hT
theorem results_gfn {P : Program} {fn : Func} {p q r : Tmp} {ty : TypeId} {D : TypeDesc} (h : fn.results = #[.cell p ty, .tmp q, .tmp r]) (tmps : Array Value) (w : World) (b : Nat) (G : Gd) (m : Nat) (n : Int)
    (hp : tmps.getD p undef = .pointer (some ⟨b, 0, none⟩)) (hq : tmps.getD q undef = .float .f32 m) (hr : tmps.getD r undef = .int .i64 n) (hc : w.rangeAt b 0 (GrdL G))
    (hu : P.underlying ty = some D) (hd : D.isRow = true) (hi : (P.info? ty).map (·.size) = some 195) :
    (results fn tmps).run P w = .ok (.tuple #[.agg (Grd G), .float .f32 m, .int .i64 n]) w := by
  have hp' : tmps[p]?.getD undef = .pointer (some ⟨b, 0, none⟩) := by simpa using hp
  have hq' : tmps[q]?.getD undef = .float .f32 m := by simpa using hq
  have hr' : tmps[r]?.getD undef = .int .i64 n := by simpa using hr
  have := run_loadVar_mid (P := P) w b 0 ty (GrdL G) D hc hu hd (by rw [GrdL_length]; exact hi)
  simp [results, h, hp', hq', hr', asAddr, this, Grd]

/-- What the sweep in order hands back. -/
def ordV (G : Gd) : Value := if validB G = true then sweptV headO G else .tuple #[.agg (Grd zG), .float .f32 0, .int .i64 1]
theorem sweptV_is (nx : Gd → Nat → Option Nat) (G : Gd) : ∃ (A : Gd) (m : Nat) (n : Int), sweptV nx G = .tuple #[.agg (Grd A), .float .f32 m, .int .i64 n] := by
  unfold sweptV
  split
  · exact ⟨_, _, _, rfl⟩
  · exact ⟨_, _, _, rfl⟩

end Go.Proofs.YtaghnminpfgdcaaGreatDoor
