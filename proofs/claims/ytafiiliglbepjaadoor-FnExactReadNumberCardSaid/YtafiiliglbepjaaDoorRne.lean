/- The errors of strconv. Condition: the two errors stand. -/
import Derived.Test.YtafiiliglbepjaaDoorRnc
import Derived.Test.YtafiiliglbepjaaDoorRnp
namespace Go.Proofs.YtafiiliglbepjaaDoor
open Go Go.RowKit
set_option linter.unusedSimpArgs false
set_option linter.unusedVariables false
attribute [local go_sem] Oper.semAt_some

/-- The two errors stand. -/
def ErS (w : World) : Prop := (∃ T p, w.cell? ⟨1, 0, none⟩ = some (.iface T p)) ∧ ∃ T p, w.cell? ⟨2, 0, none⟩ = some (.iface T p)
theorem load1_op {op : Oper} {a : Act} {x : Operand} {b : Nat} {v : Value} {w : World} (ho : op.op = .load 32 x) (hx : a.eval x = .pointer (some ⟨b, 0, none⟩)) (hc : w.cell? ⟨b, 0, none⟩ = some v) :
    (execOp a.eval op).run Tryd.prog w = .ok (.value v) w := by
  unfold execOp
  simp only [ho, hx]
  go_simp
set_option maxRecDepth 100000 in
set_option maxHeartbeats 4000000 in
theorem syntaxError_t (f s : ByteArray) (hlim : s.size ≤ 281474976710656) (T : TypeId) (p : Value) (w : World) (hE : w.cell? ⟨1, 0, none⟩ = some (.iface T p)) :
    Calls Tryd.prog 19 #[.string f, .string s] w fun e w' => (∃ q, e = .returned (.pointer (some q))) ∧ Below w.heap.size w w' := by
  have hg : 1 < w.heap.size := World.block_lt_of_cell? w _ hE
  have HE := Lib.hid hE
  clear hE
  go_enter Tryd.func19, Tryd.ntmps19
  go_upto_region 1 with (fail)
  refine wp_region_plan (ops' := regOf Tryd.f19 1) (.take 0 (.take 1 (.take 3 (.run 2 (.take 4 (.run 5 (.take 6 .fin))))))) (Below w.heap.size w) (by kernel_rfl) (by kernel_rfl) (by kernel_rfl) (by kernel_rfl) (by kernel_rfl) ((Below.refl _ _).drew) ?_
  refine plan_pure (some 5) (.string f) (by kernel_rfl) (by kernel_rfl) (by kernel_rfl) (fun _ => by kernel_rfl) ?_
  refine plan_pure (some 6) (.string s) (by kernel_rfl) (by kernel_rfl) (by kernel_rfl) (fun _ => by kernel_rfl) ?_
  refine plan_take (some 8) (.iface T p) (by kernel_rfl) (by kernel_rfl) (.inl ⟨by kernel_rfl, fun w' hw' => load1_op (x := .global 1) (by kernel_rfl) (by kernel_rfl) ((hw'.cell (p := ⟨1, 0, none⟩) hg).trans HE.out)⟩) ?_
  refine plan_call (some 7) 30 #[.string s] (by kernel_rfl) (by kernel_rfl) (by kernel_rfl) (by kernel_rfl) (Calls.mono (clone_t s w.drew hlim) ?_)
  rintro e V ⟨rfl, hb⟩
  have b1 : Below w.heap.size w V := ((Below.refl _ _).drew).trans hb
  refine ⟨_, rfl, b1, ?_⟩
  refine plan_pure (some 9) (.agg #[.string f, .string s, .iface T p]) (by kernel_rfl) (by kernel_rfl) (by kernel_rfl) (fun _ => by kernel_rfl) ?_
  refine plan_do (some 10) (.pointer (some ⟨V.heap.size, 0, none⟩)) (V.alloc (.cells #[.string f, .string s, .iface T p] 62)) (by kernel_rfl) (by kernel_rfl) (by kernel_rfl) (.inl (by kernel_rfl)) (b1.alloc b1.size _) ?_
  refine plan_pure (some 4) (.pointer (some ⟨V.heap.size, 0, none⟩)) (by kernel_rfl) (by kernel_rfl) (by kernel_rfl) (fun _ => by kernel_rfl) ?_
  refine plan_end (Clean.normal ?_)
  simp only [Act.put, List.setIfInBounds_toArray, List.set_cons_zero, List.set_cons_succ]
  have b2 := Lib.hid (b1.alloc b1.size (.cells #[.string f, .string s, .iface T p] 62))
  go_wp2
  go_ret
  exact ⟨⟨_, rfl⟩, b2.out⟩
set_option maxRecDepth 100000 in
set_option maxHeartbeats 4000000 in
theorem rangeError_t (f s : ByteArray) (hlim : s.size ≤ 281474976710656) (T : TypeId) (p : Value) (w : World) (hE : w.cell? ⟨2, 0, none⟩ = some (.iface T p)) :
    Calls Tryd.prog 20 #[.string f, .string s] w fun e w' => (∃ q, e = .returned (.pointer (some q))) ∧ Below w.heap.size w w' := by
  have hg : 2 < w.heap.size := World.block_lt_of_cell? w _ hE
  have HE := Lib.hid hE
  clear hE
  go_enter Tryd.func20, Tryd.ntmps20
  go_upto_region 1 with (fail)
  refine wp_region_plan (ops' := regOf Tryd.f20 1) (.take 0 (.take 1 (.take 3 (.run 2 (.take 4 (.run 5 (.take 6 .fin))))))) (Below w.heap.size w) (by kernel_rfl) (by kernel_rfl) (by kernel_rfl) (by kernel_rfl) (by kernel_rfl) ((Below.refl _ _).drew) ?_
  refine plan_pure (some 5) (.string f) (by kernel_rfl) (by kernel_rfl) (by kernel_rfl) (fun _ => by kernel_rfl) ?_
  refine plan_pure (some 6) (.string s) (by kernel_rfl) (by kernel_rfl) (by kernel_rfl) (fun _ => by kernel_rfl) ?_
  refine plan_take (some 8) (.iface T p) (by kernel_rfl) (by kernel_rfl) (.inl ⟨by kernel_rfl, fun w' hw' => load1_op (x := .global 2) (by kernel_rfl) (by kernel_rfl) ((hw'.cell (p := ⟨2, 0, none⟩) hg).trans HE.out)⟩) ?_
  refine plan_call (some 7) 30 #[.string s] (by kernel_rfl) (by kernel_rfl) (by kernel_rfl) (by kernel_rfl) (Calls.mono (clone_t s w.drew hlim) ?_)
  rintro e V ⟨rfl, hb⟩
  have b1 : Below w.heap.size w V := ((Below.refl _ _).drew).trans hb
  refine ⟨_, rfl, b1, ?_⟩
  refine plan_pure (some 9) (.agg #[.string f, .string s, .iface T p]) (by kernel_rfl) (by kernel_rfl) (by kernel_rfl) (fun _ => by kernel_rfl) ?_
  refine plan_do (some 10) (.pointer (some ⟨V.heap.size, 0, none⟩)) (V.alloc (.cells #[.string f, .string s, .iface T p] 62)) (by kernel_rfl) (by kernel_rfl) (by kernel_rfl) (.inl (by kernel_rfl)) (b1.alloc b1.size _) ?_
  refine plan_pure (some 4) (.pointer (some ⟨V.heap.size, 0, none⟩)) (by kernel_rfl) (by kernel_rfl) (by kernel_rfl) (fun _ => by kernel_rfl) ?_
  refine plan_end (Clean.normal ?_)
  simp only [Act.put, List.setIfInBounds_toArray, List.set_cons_zero, List.set_cons_succ]
  have b2 := Lib.hid (b1.alloc b1.size (.cells #[.string f, .string s, .iface T p] 62))
  go_wp2
  go_ret
  exact ⟨⟨_, rfl⟩, b2.out⟩
end Go.Proofs.YtafiiliglbepjaaDoor
