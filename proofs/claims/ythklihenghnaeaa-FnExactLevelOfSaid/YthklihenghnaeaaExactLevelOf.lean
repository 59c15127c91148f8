/- The law FnExactLevelOf of this commit: for every input the call returns true, and each argument reads afterwards as it read before. Condition: none. -/
import Derived.Test.YthklihenghnaeaaLiftB
import Derived.Test.YthklihenghnaeaaRs
import Derived.Test.YthklihenghnaeaaLogI
namespace Go.Proofs.Ythklihenghnaeaa
open Go Go.ChangeShapes Go.WideShapes Go.ChangeAt Go.RowKit
set_option linter.unusedSimpArgs false
set_option linter.unusedVariables false

set_option maxRecDepth 100000 in
set_option maxHeartbeats 2000000 in
theorem fnExactLevelOf_calls (t l : Int) (w : World) : Calls Try.prog 11 #[.agg (Rd t l)] w fun e w' => e = .returned (.bool true) ∧ Below w.heap.size w w' := by
  have B0 : Below w.heap.size w (w.alloc (.cells #[.int .i64 t, .int .i16 l] 59)) := (Below.refl _ _).alloc (Nat.le_refl _) _
  have C0 : ∀ V, Below (w.alloc (.cells #[.int .i64 t, .int .i16 l] 59)).heap.size (w.alloc (.cells #[.int .i64 t, .int .i16 l] 59)) V → V.cell? ⟨w.heap.size, 0, none⟩ = some (.int .i64 t) := fun V hV => (hV.cell (p := ⟨w.heap.size, 0, none⟩) (by simp)).trans (cell_of_row _ _ 0 _ _ _ (heap_alloc_last w _))
  have C1 : ∀ V, Below (w.alloc (.cells #[.int .i64 t, .int .i16 l] 59)).heap.size (w.alloc (.cells #[.int .i64 t, .int .i16 l] 59)) V → V.cell? ⟨w.heap.size, 1, none⟩ = some (.int .i16 l) := fun V hV => (hV.cell (p := ⟨w.heap.size, 1, none⟩) (by simp)).trans (cell_of_row _ _ 1 _ _ _ (heap_alloc_last w _))
  have T0 := fun V => toReading_any t l V
  have T1 := fun V => specLevel_any t l V
  have T2 := fun V => implLevel_any t l V
  simp only [Rd] at T0 T1 T2 ⊢
  have t1 : True := trivial
  have t2 : True := trivial
  go_enter Try.func11, Try.ntmps11
  go_wp2_with (first | (have _t := t1; go_at_call 38; refine (T0 _).mono ?_; rintro e V1 ⟨rfl, hq1⟩; have Q1 := Lib.hid hq1; clear hq1 t1) | (go_at_call 37; refine (T1 _).mono ?_; rintro e V2 ⟨r1, rfl, hr1, hq2⟩; have R1 := Lib.hid hr1; have Q2 := Lib.hid (Q1.out.trans (hq2.mono Q1.out.size)); clear hq2 hr1; have c0 := C0 V2 Q2.out; have c1 := C1 V2 Q2.out) | (go_at_call 38; refine (T0 _).mono ?_; rintro e V3 ⟨rfl, hq3⟩; have Q3 := Lib.hid (Q2.out.trans (hq3.mono Q2.out.size)); clear hq3) | (go_at_call 39; refine (T2 _).mono ?_; rintro e V4 ⟨r2, rfl, hr2, hq4⟩; have R2 := Lib.hid hr2; have Q4 := Lib.hid (Q3.out.trans (hq4.mono Q3.out.size)); clear hq4 hr2) | (have _t := t2; refine wpList_conv rfl _ _ _ rfl Try.underlying24 Try.underlying49 _ rfl ?_; intro x m hx; have X := Lib.hid hx; clear t2 hx) | (refine wpList_conv rfl _ _ _ rfl Try.underlying24 Try.underlying49 _ rfl ?_; intro y m' hy; have Y := Lib.hid hy; clear hy) | (go_at_call 31; refine (sameFloat_yes x y (by rw [X.out, Y.out, R1.out, R2.out]) _).mono ?_; rintro e w' ⟨rfl, k, rfl⟩))
  go_ret
  exact ⟨rfl, (B0.trans (Q4.out.mono B0.size)).trans (Quiet.below ⟨_, rfl⟩ _)⟩
set_option maxRecDepth 100000 in
theorem cellLv_i64 {W : World} {r : Reach} {base : Nat} {v : Value} (h : Cell.okWide Try.prog W r base 2 v) : ∃ n, v = .int .i64 n := by
  simp only [Cell.okWide, Try.underlying2] at h
  cases v <;> simp_all [Cell.ok]
set_option maxRecDepth 100000 in
theorem cellLv_i16 {W : World} {r : Reach} {base : Nat} {v : Value} (h : Cell.okWide Try.prog W r base 55 v) : ∃ n, v = .int .i16 n := by
  simp only [Cell.okWide, Try.underlying55] at h
  cases v <;> simp_all [Cell.ok]
set_option maxRecDepth 100000 in
theorem okWide_rd {W : World} {base : Nat} {v : Value} (h : Value.okWide Try.prog W .any base 59 v) : ∃ t l, v = .agg (Rd t l) := by
  simp only [Value.okWide, Try.underlying59] at h
  obtain ⟨cs, rfl, hsz, ts, hts, _, hc⟩ := h
  rw [show Try.prog.cellTypes Try.prog.depth 59 = some [2, 55] by kernel_rfl] at hts
  obtain rfl := Option.some.inj hts
  rw [show Try.prog.cellsOf 59 = 2 by kernel_rfl] at hsz
  obtain ⟨l⟩ := cs
  match l, hsz with
  | [v0, v1], _ =>
    obtain ⟨u0, hu0, o0⟩ := hc 0 v0 rfl
    obtain ⟨u1, hu1, o1⟩ := hc 1 v1 rfl
    obtain rfl := Option.some.inj hu0
    obtain rfl := Option.some.inj hu1
    obtain ⟨t, rfl⟩ := cellLv_i64 o0
    obtain ⟨l, rfl⟩ := cellLv_i16 o1
    exact ⟨t, l, rfl⟩

set_option maxRecDepth 100000 in
theorem fnExactLevelOf_walk (W : World) (base : Nat) (args : Array Value) (hn : args.size = Try.f11.params.size)
    (hv : ∀ (j : Nat) t v, Try.f11.params[j]? = some t → args[j]? = some v → Value.okWide Try.prog W .any base t v) :
    Calls Try.prog 11 args W fun e W' => e = .returned (.bool true) ∧ Below W.heap.size W W' := by
  rw [Try.params11] at hn hv
  obtain ⟨l⟩ := args
  match l, hn with
  | [v0], _ =>
    obtain ⟨t, l, rfl⟩ := okWide_rd (hv 0 _ v0 rfl rfl)
    exact fnExactLevelOf_calls t l W

set_option maxRecDepth 100000 in
theorem fnExactLevelOf_holds : Rows.FnExactLevelOfSaid :=
  OpenClaim.holds_of_wide 11 Try.f11 rfl rfl rfl rfl rfl rfl rfl ⟨rfl, rfl, rfl, rfl, rfl⟩ rfl rfl rfl rfl rfl (by kernel_rfl) Try.func11 (by kernel_rfl)
    (of_decide_eq_true (by kernel_rfl)) (by unfold Func.isWrapper; first | (rw [if_pos (by decide +kernel)]; kernel_rfl) | (rw [if_neg (by decide +kernel)]; exact ⟨rfl, rfl⟩))
    (fun os started H enc _ => lift 11 Try.f11 Rows.fnExactLevelOfSpec Try.func11 rfl rfl
      (fun H ds h => match ds, h with | [d0], _ => rfl)
      (by rw [Try.params11]; exact (by decide +kernel))
      fnExactLevelOf_walk os started H enc (by kernel_rfl)
      (ChangeSpec.witness6 (enc := enc) (C := Try.checked) false ⟨#[], #[.agg (Rd 0 0)], []⟩ 16 (by kernel_rfl) (by kernel_rfl) (by kernel_rfl) (by kernel_rfl)))
#print axioms fnExactLevelOf_holds
end Go.Proofs.Ythklihenghnaeaa
