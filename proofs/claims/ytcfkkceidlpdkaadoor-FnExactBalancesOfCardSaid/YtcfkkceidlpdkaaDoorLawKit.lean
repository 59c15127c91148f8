/- What the laws over grounds share. No condition. -/
import Derived.Test.YtcfkkceidlpdkaaDoorChkI
import Derived.Test.YtcfkkceidlpdkaaDoorEq
namespace Go.Proofs.YtcfkkceidlpdkaaDoor
open Go.RowKit
set_option maxRecDepth 100000

theorem okWide_i64 {W : World} {r : Reach} {base : Nat} {v : Value} (h : Value.okWide Tryd.prog W r base 2 v) : ∃ n, v = .int .i64 n ∧ -9223372036854775808 ≤ n ∧ n ≤ 9223372036854775807 := by
  have h2 : ∃ n, v = .int .i64 n ∧ IntKind.i64.has n := by
    simp only [Value.okWide, Tryd.underlying2, Cell.okWide] at h
    cases v <;> simp_all [Cell.ok]
  obtain ⟨n, rfl, h3⟩ := h2
  exact ⟨n, rfl, h3.1, h3.2⟩
theorem okWide_f32 {W : World} {r : Reach} {base : Nat} {v : Value} (h : Value.okWide Tryd.prog W r base 23 v) : ∃ n, v = .float .f32 n ∧ FloatKind.f32.has n := by
  simp only [Value.okWide, Tryd.underlying23, Cell.okWide] at h
  cases v <;> simp_all [Cell.ok]

/-- A ground that has been stored in a block that has just been made. -/
theorem stored_box (A : Gd) (t : TypeId) (w : World) : ∃ U, (w.alloc (.cells (Grd zG) t)).setCells w.heap.size 0 (Grd A).toList = U ∧ U.heap.size = w.heap.size + 1 ∧ GBox U w.heap.size A ∧ Below w.heap.size w U := by
  obtain ⟨W, h, hs, g, hB⟩ := gbox1 zG t w
  rw [h]
  exact ⟨_, rfl, by rw [size_setCells, hs], g.store, below_setCells _ (Nat.le_refl _) _ _ _ hB⟩
theorem new_there (t : TypeId) (w : World) : (w.alloc (.cells (Grd zG) t)).there w.heap.size 0 195 := there_row (heap_alloc_last w _) (Grd_size zG)
end Go.Proofs.YtcfkkceidlpdkaaDoor
