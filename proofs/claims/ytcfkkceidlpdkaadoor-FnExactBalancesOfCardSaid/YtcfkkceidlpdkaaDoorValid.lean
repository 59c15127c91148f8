/- Whether a ground is valid: the program's ValidGround says what the model's l01Ok says. Condition: the table of math/bits is laid. -/
import Derived.Test.YtcfkkceidlpdkaaDoorImplVg
import Derived.Test.YtcfkkceidlpdkaaDoorBox
namespace Go.Proofs.YtcfkkceidlpdkaaDoor
open Go.RowKit
set_option linter.unusedSimpArgs false

theorem tab_lt {w : World} (h : TabAt w) : 0 < w.heap.size := World.block_lt_of_cell? w ⟨0, 0, none⟩ (h 0 (by omega))
theorem all_congr64 {p q : Nat → Bool} (h : ∀ i, i < 64 → p i = q i) : (List.range 64).all p = (List.range 64).all q := by
  rw [Bool.eq_iff_iff]
  simp only [List.all_eq_true, List.mem_range]
  exact ⟨fun g i hi => by rw [← h i hi]; exact g i hi, fun g i hi => by rw [h i hi]; exact g i hi⟩
theorem order_zero : FloatKind.f32.format.order 0 0 = some Ordering.eq := by decide +kernel
theorem eqF_out (f : Nat → Nat) (G : Gd) : eqF (outF f (cellsN G)) zf = (List.range 64).all fun i => isB G i || zeroB (f i) := by
  unfold eqF
  refine all_congr64 fun i h64 => ?_
  unfold outF zf zeroB
  rw [cellsN_testBit]
  cases h : isB G i
  · simp
  · simp [h64, order_zero]

theorem all_and (p q : Nat → Bool) : ((List.range 64).all p && (List.range 64).all q) = (List.range 64).all fun i => p i && q i := by
  rw [Bool.eq_iff_iff]
  simp only [Bool.and_eq_true, List.all_eq_true, List.mem_range]
  exact ⟨fun h i hi => ⟨h.1 i hi, h.2 i hi⟩, fun h => ⟨fun i hi => (h i hi).1, fun i hi => (h i hi).2⟩⟩

theorem zero_not_neg {b : Nat} (h : zeroB b = true) : negB b = false := by
  unfold zeroB at h
  unfold negB
  rw [beq_iff_eq] at h
  rw [h]
  rfl

theorem fields_eq (G : Gd) : (fieldB G G.c && (fieldB G G.g && (fieldB G G.h && noNeg G))) =
    ((List.range 64).all (fun i => !isB G i || cellOk G i) && (eqF (outF G.c (cellsN G)) zf && (eqF (outF G.g (cellsN G)) zf && eqF (outF G.h (cellsN G)) zf))) := by
  rw [eqF_out, eqF_out, eqF_out]
  unfold fieldB noNeg
  simp only [all_and]
  refine all_congr64 fun i _ => ?_
  unfold okAt cellOk
  cases isB G i
  · cases hc : zeroB (G.c i)
    · simp
    · simp [zero_not_neg hc]
  · simp
    cases plainB (G.c i) <;> cases plainB (G.g i) <;> cases plainB (G.h i) <;> cases negB (G.c i) <;> rfl

theorem validB_eq (G : Gd) : validB G = (extN G.wide && (extN G.high && (((G.x != 0) && fixB G) && ((List.range 64).all (fun i => !isB G i || cellOk G i) && (eqF (outF G.c (cellsN G)) zf && (eqF (outF G.g (cellsN G)) zf && eqF (outF G.h (cellsN G)) zf)))))) := by
  rw [← fields_eq]
  unfold validB extB extN
  generalize fieldB G G.c = a
  generalize fieldB G G.g = b
  generalize fieldB G G.h = c
  generalize noNeg G = d
  generalize (G.x != 0) = e
  generalize fixB G = f
  generalize decide (2 ≤ G.wide) = g
  generalize decide (G.wide ≤ 8) = h
  generalize decide (2 ≤ G.high) = i
  generalize decide (G.high ≤ 8) = j
  cases g <;> cases h <;> cases i <;> cases j <;> cases a <;> cases b <;> cases c <;> cases d <;> cases e <;> cases f <;> rfl

theorem validGround_any (G : Gd) (w : World) (hG : GdOk G) (hT : TabAt w) (hgl : 0 < w.heap.size) :
    Calls Tryd.prog 57 #[.agg (Grd G)] w fun e w' => e = .returned (.bool (validB G)) ∧ Below w.heap.size w w' := by
  rw [validB_eq]
  cases e0 : extN G.wide
  · simpa using vg_w G w hG e0
  cases e : extN G.high
  · simpa using vg_h G w hG e0 e
  have b0 : 2 ≤ G.wide ∧ G.wide ≤ 8 := by simpa [extN] using e0
  have b1 : 2 ≤ G.high ∧ G.high ≤ 8 := by simpa [extN] using e
  have hW : G.wide = (G.wide.toNat : Int) := by omega
  have hH : G.high = (G.high.toNat : Int) := by omega
  cases ex : ((G.x != 0) && fixB G)
  · simpa using vg_x G _ _ hW hH (by omega) (by omega) w hG e0 e ex
  · simp only [Bool.and_eq_true] at ex
    exact vg_main G _ _ hW hH (by omega) (by omega) w hG e0 e ex.1 ex.2 hT hgl _ (by simp)

/-- What a valid ground's extents are. -/
theorem valid_ext {G : Gd} (h : validB G = true) : 2 ≤ G.wide ∧ G.wide ≤ 8 ∧ 2 ≤ G.high ∧ G.high ≤ 8 := by
  unfold validB extB at h
  simp only [Bool.and_eq_true, decide_eq_true_eq] at h
  exact ⟨h.1.1.1, h.1.1.2, h.1.2.1, h.1.2.2⟩

end Go.Proofs.YtcfkkceidlpdkaaDoor
