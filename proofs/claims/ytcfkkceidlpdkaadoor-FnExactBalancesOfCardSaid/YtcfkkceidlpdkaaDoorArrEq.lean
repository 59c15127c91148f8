/- Whether two fields are equal, as Go compares arrays. No condition. -/
import Derived.Test.YtcfkkceidlpdkaaDoorCom
import Derived.ChangeKeysEq
import Derived.Laws.StructEq
namespace Go.Proofs.YtcfkkceidlpdkaaDoor
open Go.RowKit

/-- All numbers are equal, as Go compares them. -/
def eqF (f g : Nat → Nat) : Bool := (List.range 64).all fun i => FloatKind.f32.format.order (f i) (g i) == some Ordering.eq

theorem part_fld (f : Nat → Nat) (i : Nat) (hi : i < 64) (w : World) : (part 23 (Fld f) (i * 1)).run Tryd.prog w = .ok (.float .f32 (f i)) w := by
  have h := Fld_at f i hi
  simp [part, isAgg, run_underlying Tryd.underlying23, h]
theorem equal_float (d : Nat) (a b : Nat) (w : World) : (Op.equalIn (d + 1) 23 (.float .f32 a) (.float .f32 b)).run Tryd.prog w = .ok (FloatKind.f32.format.order a b == some Ordering.eq) w := by
  simp [Op.equalIn, run_underlying Tryd.underlying23, Op.floatEq]

theorem eqItems_fld (d : Nat) (f g : Nat → Nat) (w : World) : ∀ (is : List Nat), (∀ i ∈ is, i < 64) →
    (Op.eqItems (d + 1) 23 1 (Fld f) (Fld g) is).run Tryd.prog w = .ok (is.all fun i => FloatKind.f32.format.order (f i) (g i) == some Ordering.eq) w
  | [], _ => by simp [Op.eqItems]
  | i :: is, h => by
    have ih := eqItems_fld d f g w is (fun j hj => h j (by simp [hj]))
    have hi := h i (by simp)
    simp only [Op.eqItems, Sem.run_bind, part_fld f i hi w, part_fld g i hi w, equal_float, Result.andThen_ok, List.all_cons]
    cases FloatKind.f32.format.order (f i) (g i) == some Ordering.eq
    · simp
    · simpa using ih
theorem info_f32 : ∃ i, Tryd.prog.info? 23 = some i := by
  have h := Tryd.underlying23
  unfold Program.underlying at h
  cases hi : Tryd.prog.info? 23 with
  | none => simp [hi] at h
  | some i => exact ⟨i, rfl⟩
theorem cells_f32 : Tryd.prog.cellsOf 23 = 1 := by kernel_rfl
theorem guard_fld : Tryd.prog.eqGuardType Tryd.prog.depth 30 = false := by kernel_rfl

theorem eqlFld (f g : Nat → Nat) (w : World) : (Op.equalIn 10000 30 (.agg (Fld f)) (.agg (Fld g))).run Tryd.prog w = .ok (eqF f g) w := by
  obtain ⟨i, hi⟩ := info_f32
  rw [show (10000 : Nat) = 9998 + 1 + 1 from rfl, run_equalIn_array w (9998 + 1) (Fld f) (Fld g) Tryd.underlying30 hi, cells_f32]
  exact eqItems_fld 9998 f g w (List.range 64) (fun i hi => by simpa using hi)
end Go.Proofs.YtcfkkceidlpdkaaDoor
