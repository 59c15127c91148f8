/- What the laws over grounds share: conversions under a guard, fields that are stored. No condition. -/
import Derived.Test.YtcfkkceidlpdkaaDoorLawKit
namespace Go.Proofs.YtcfkkceidlpdkaaDoor
open Go.RowKit
set_option maxRecDepth 100000

theorem wpList_conv_g {P : Program} {ops : Array Oper} {rest : List Oper} {o : Oper} {a : Act} {w : World} {Q : Exit → Act → World → Prop} (hg : Region.wanted o (yielded ops a.tmps) = true) (src dst : TypeId) (x : Operand)
    (ho : o.op = .convert src dst x) (hs : P.underlying src = some (.float .f32)) (hd : P.underlying dst = some (.float .f64)) (b : Nat) (hx : a.eval x = .float .f32 b)
    (h : ∀ r n, num .f64 r = (num .f32 b).map cv → wpList P ops Q rest (a.put o.dst (.float .f64 r)) (w.drewN n)) : wpList P ops Q (o :: rest) a w :=
  wpList_step fun K hK => by
    rw [if_pos hg]
    obtain ⟨r, n, hr, hrun⟩ := run_conv P w src dst hs hd b
    unfold Oper.wp execOp
    simp only [ho, hx]
    simp only [Sem.run_bind, hrun, Result.andThen]
    exact hK _ _ (h r n hr)

theorem zeroField : (Tryd.prog.info? 30).map (fun i => (i.zero, i.size)) = some (some (.agg (Fld zf)), 64) := by kernel_rfl
/-- A field that has been stored in a block that has just been made. -/
theorem stored_fld (f : Nat → Nat) (t : TypeId) (w : World) : ∃ U, (w.alloc (.cells (Fld zf) t)).setCells w.heap.size 0 (Fld f).toList = U ∧ U.heap.size = w.heap.size + 1 ∧ U.rangeAt w.heap.size 0 (Fld f).toList ∧ Below w.heap.size w U :=
  ⟨_, rfl, by rw [size_setCells]; simp, World.rangeAt_setCells_same _ _ _ _ (by rw [show (Fld f).toList.length = 64 from Fld_length f]; exact there_row (heap_alloc_last w _) (Fld_size zf)), below_setCells _ (Nat.le_refl _) _ _ _ ((Below.refl _ _).alloc (Nat.le_refl _) _)⟩
theorem new_thereF (t : TypeId) (w : World) : (w.alloc (.cells (Fld zf) t)).there w.heap.size 0 64 := there_row (heap_alloc_last w _) (Fld_size zf)
end Go.Proofs.YtcfkkceidlpdkaaDoor
