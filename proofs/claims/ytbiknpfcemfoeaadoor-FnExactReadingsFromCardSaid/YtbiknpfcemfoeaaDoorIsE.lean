/- errors.Is, where the target is a sentinel, and the code of an error. Condition: none of its own. -/
import Derived.Test.YtbiknpfcemfoeaaDoorSen
namespace Go.Proofs.YtbiknpfcemfoeaaDoor
open Go Go.RowKit Go.Extern.Stop Go.Stop Go.Extern
set_option maxRecDepth 100000
set_option linter.unusedSimpArgs false
set_option linter.unusedVariables false

theorem isTypeOf (v : Value) (w : World) : (Extern.ReflectliteType.typeOf #[.iface 165 v]).run Tryd.prog w = .ok (.iface 138 (.agg #[.pointer (some ⟨6, 165, none⟩)])) w := by kernel_rfl
/-- What the model says of Comparable. -/
def cmpM : Array Value → Sem Value := Extern.ReflectliteType.method fun t => do Extern.Rtype.noPackHeld "Comparable" t; pure (.bool (← typeInfo t).comparable)
theorem isComparable (w : World) : (cmpM #[.agg #[.pointer (some ⟨6, 165, none⟩)]]).run Tryd.prog w = .ok (.bool true) w := by kernel_rfl
theorem isMethodComparable (v : Value) (w : World) : (Go.method 303 138 v "Comparable").run Tryd.prog w = .ok (137, v) w := by kernel_rfl
theorem isComp : (Tryd.prog.info? 165).map (·.comparable) = some true := by kernel_rfl
theorem isSize : (Tryd.prog.info? 191).map (·.size) = some 1 := by kernel_rfl
theorem noIsE (v : Value) (xT : TypeId) (w : World) : (Instr.typeAssert (.iface 165 v) xT 140 true).run Tryd.prog w = .ok (.tuple #[.nilIface, .bool false]) w := run_typeAssert_lacksB Tryd.underlying140 (by kernel_rfl) (by kernel_rfl) v xT w
theorem noUnwrapE (v : Value) (xT : TypeId) (w : World) : (Instr.typeAssert (.iface 165 v) xT 143 true).run Tryd.prog w = .ok (.tuple #[.nilIface, .bool false]) w := run_typeAssert_lacksB Tryd.underlying143 (by kernel_rfl) (by kernel_rfl) v xT w
theorem noUnwrapsE (v : Value) (xT : TypeId) (w : World) : (Instr.typeAssert (.iface 165 v) xT 145 true).run Tryd.prog w = .ok (.tuple #[.nilIface, .bool false]) w := run_typeAssert_lacksB Tryd.underlying145 (by kernel_rfl) (by kernel_rfl) v xT w

/-- errors.Is(x, x). -/
theorem is_same (a : Addr) (w : World) :
    Calls Tryd.prog 54 #[.iface 165 (.pointer (some a)), .iface 165 (.pointer (some a))] w fun e w' => e = .returned (.bool true) ∧ w' = w := by
  obtain ⟨i, hi, hcmp⟩ := Option.map_eq_some_iff.1 isComp
  obtain ⟨j, hj, hjs⟩ := Option.map_eq_some_iff.1 isSize
  have h8 := @run_callFunc_extern Tryd.prog 77 _ Extern.ReflectliteType.typeOf Tryd.func77 (by kernel_rfl) (by kernel_rfl) (by kernel_rfl) (by kernel_rfl)
  have h32 := @run_callFunc_extern Tryd.prog 137 _ cmpM Tryd.func137 (by kernel_rfl) (by kernel_rfl) (by kernel_rfl) (by kernel_rfl)
  have tT := isTypeOf
  have cT := isComparable
  have mR := isMethodComparable
  have heq := run_eql_iface_ptr_same (P := Tryd.prog) w a Tryd.underlying71 Tryd.underlying165 hi hcmp hj
  go_enter Tryd.func54, Tryd.ntmps54
  go_wp2
  refine wp_loop_rounds 1 ?_
  rw [rounds_succ]
  go_wp2
  go_ret
  exact ⟨rfl, rfl⟩
/-- errors.Is(nil, x). -/
theorem is_nil (b : Addr) (w : World) :
    Calls Tryd.prog 54 #[.nilIface, .iface 165 (.pointer (some b))] w fun e w' => e = .returned (.bool false) ∧ w' = w := by
  have hn := run_eql_iface_nil_left (P := Tryd.prog) w 165 (.pointer (some b)) Tryd.underlying71
  go_enter Tryd.func54, Tryd.ntmps54
  go_wp2
  go_ret
  exact ⟨rfl, rfl⟩
/-- errors.Is(x, y), two sentinels that differ. -/
theorem is_other (a b : Addr) (ca cb : Array Value) (ta tb : TypeId) (w : World) (hne : a ≠ b) (ha : w.heap[a.block]? = some (.cells ca ta (0, 0))) (hb : w.heap[b.block]? = some (.cells cb tb (0, 0))) :
    Calls Tryd.prog 54 #[.iface 165 (.pointer (some a)), .iface 165 (.pointer (some b))] w fun e w' => e = .returned (.bool false) ∧ w' = w := by
  obtain ⟨i, hi, hcmp⟩ := Option.map_eq_some_iff.1 isComp
  obtain ⟨j, hj, hjs⟩ := Option.map_eq_some_iff.1 isSize
  have h8 := @run_callFunc_extern Tryd.prog 77 _ Extern.ReflectliteType.typeOf Tryd.func77 (by kernel_rfl) (by kernel_rfl) (by kernel_rfl) (by kernel_rfl)
  have h32 := @run_callFunc_extern Tryd.prog 137 _ cmpM Tryd.func137 (by kernel_rfl) (by kernel_rfl) (by kernel_rfl) (by kernel_rfl)
  have tT := isTypeOf
  have cT := isComparable
  have mR := isMethodComparable
  have nE := noIsE
  have uE := noUnwrapE
  have vE := noUnwrapsE
  have heq := run_eql_iface_ptr_other (P := Tryd.prog) w Tryd.underlying71 Tryd.underlying165 hi hcmp hj (by rw [hjs]; decide) hne ha hb
  go_enter Tryd.func54, Tryd.ntmps54
  go_wp2
  refine wp_loop_rounds 1 ?_
  rw [rounds_succ]
  go_wp2
  go_ret
  exact ⟨rfl, rfl⟩

/-- An error of the program's: none, or one of the sentinels. -/
def erV (s : Nat → Addr) : Option Nat → Value
  | none => .nilIface
  | some i => .iface 165 (.pointer (some (s i)))
def codeE : Option Nat → Int
  | none => 0
  | some 0 => 1
  | some 1 => 2
  | some 2 => 4
  | some 3 => 5
  | some _ => 6
theorem is_any {s : Nat → Addr} (k : Option Nat) (j : Nat) (hk : ∀ i, k = some i → i < 5) (hj : j < 5) (w : World) (h : Sents w s) :
    Calls Tryd.prog 54 #[erV s k, .iface 165 (.pointer (some (s j)))] w fun e w' => e = .returned (.bool (decide (k = some j))) ∧ w' = w := by
  cases k with
  | none => exact is_nil _ w
  | some i =>
    have hi := hk i rfl
    by_cases hij : i = j
    · subst hij
      simp only [decide_true]
      exact is_same _ w
    · obtain ⟨c, t, hb⟩ := h.blk i hi
      obtain ⟨d, u, hb'⟩ := h.blk j hj
      have : decide (some i = some j) = false := by simp [hij]
      rw [this]
      exact is_other _ _ _ _ _ _ w (h.ne i j hi hj hij) hb hb'

set_option maxRecDepth 100000 in
set_option maxHeartbeats 1000000 in
theorem codeOf_any {s : Nat → Addr} (k : Option Nat) (hk : ∀ i, k = some i → i < 5) (w : World) (h : Sents w s) : Calls Tryd.prog 33 #[erV s k] w fun e w' => e = .returned (.int .i64 (codeE k)) ∧ w' = w := by
  have g0 : w.cell? ⟨3, 0, none⟩ = some (.iface 165 (.pointer (some (s 0)))) := h.cell 0 (by decide)
  have g1 : w.cell? ⟨0, 0, none⟩ = some (.iface 165 (.pointer (some (s 1)))) := h.cell 1 (by decide)
  have g2 : w.cell? ⟨2, 0, none⟩ = some (.iface 165 (.pointer (some (s 2)))) := h.cell 2 (by decide)
  have g3 : w.cell? ⟨4, 0, none⟩ = some (.iface 165 (.pointer (some (s 3)))) := h.cell 3 (by decide)
  have g4 : w.cell? ⟨1, 0, none⟩ = some (.iface 165 (.pointer (some (s 4)))) := h.cell 4 (by decide)
  have H := Lib.hid h
  clear h
  have I0 := fun (V : World) (h : Sents V s) => is_any (s := s) k 0 hk (by decide) V h
  have I1 := fun (V : World) (h : Sents V s) => is_any (s := s) k 1 hk (by decide) V h
  have I2 := fun (V : World) (h : Sents V s) => is_any (s := s) k 2 hk (by decide) V h
  have I3 := fun (V : World) (h : Sents V s) => is_any (s := s) k 3 hk (by decide) V h
  have I4 := fun (V : World) (h : Sents V s) => is_any (s := s) k 4 hk (by decide) V h
  have u0 : True := trivial
  have u1 : True := trivial
  have u2 : True := trivial
  have u3 : True := trivial
  have u4 : True := trivial
  cases k with
  | none =>
    simp only [erV, reduceCtorEq, decide_false] at I0 I1 I2 I3 I4 ⊢
    go_enter Tryd.func33, Tryd.ntmps33
    go_wp2_with (first | (have _t := u0; go_at_call 54; refine (I0 _ H.out).mono ?_; rintro e V ⟨rfl, hV⟩; rw [hV]; clear hV u0) | (have _t := u1; go_at_call 54; refine (I1 _ H.out).mono ?_; rintro e V ⟨rfl, hV⟩; rw [hV]; clear hV u1) | (have _t := u2; go_at_call 54; refine (I2 _ H.out).mono ?_; rintro e V ⟨rfl, hV⟩; rw [hV]; clear hV u2) | (have _t := u3; go_at_call 54; refine (I3 _ H.out).mono ?_; rintro e V ⟨rfl, hV⟩; rw [hV]; clear hV u3) | (have _t := u4; go_at_call 54; refine (I4 _ H.out).mono ?_; rintro e V ⟨rfl, hV⟩; rw [hV]; clear hV u4))
    go_ret
    exact ⟨rfl, rfl⟩
  | some i =>
    have hi := hk i rfl
    clear hk
    match i, hi with
    | 0, _ =>
      simp only [erV, Option.some.injEq, decide_true, reduceCtorEq, decide_false, show ((0 : Nat) = 0) = True from eq_self _, show ((0 : Nat) = 1) = False from by simp, show ((0 : Nat) = 2) = False from by simp, show ((0 : Nat) = 3) = False from by simp, show ((0 : Nat) = 4) = False from by simp] at I0 I1 I2 I3 I4 ⊢
      go_enter Tryd.func33, Tryd.ntmps33
      go_wp2_with (first | (have _t := u0; go_at_call 54; refine (I0 _ H.out).mono ?_; rintro e V ⟨rfl, hV⟩; rw [hV]; clear hV u0) | (have _t := u1; go_at_call 54; refine (I1 _ H.out).mono ?_; rintro e V ⟨rfl, hV⟩; rw [hV]; clear hV u1) | (have _t := u2; go_at_call 54; refine (I2 _ H.out).mono ?_; rintro e V ⟨rfl, hV⟩; rw [hV]; clear hV u2) | (have _t := u3; go_at_call 54; refine (I3 _ H.out).mono ?_; rintro e V ⟨rfl, hV⟩; rw [hV]; clear hV u3) | (have _t := u4; go_at_call 54; refine (I4 _ H.out).mono ?_; rintro e V ⟨rfl, hV⟩; rw [hV]; clear hV u4))
      go_ret
      exact ⟨rfl, rfl⟩
    | 1, _ =>
      simp only [erV, Option.some.injEq, decide_true, reduceCtorEq, decide_false, show ((1 : Nat) = 0) = False from by simp, show ((1 : Nat) = 1) = True from eq_self _, show ((1 : Nat) = 2) = False from by simp, show ((1 : Nat) = 3) = False from by simp, show ((1 : Nat) = 4) = False from by simp] at I0 I1 I2 I3 I4 ⊢
      go_enter Tryd.func33, Tryd.ntmps33
      go_wp2_with (first | (have _t := u0; go_at_call 54; refine (I0 _ H.out).mono ?_; rintro e V ⟨rfl, hV⟩; rw [hV]; clear hV u0) | (have _t := u1; go_at_call 54; refine (I1 _ H.out).mono ?_; rintro e V ⟨rfl, hV⟩; rw [hV]; clear hV u1) | (have _t := u2; go_at_call 54; refine (I2 _ H.out).mono ?_; rintro e V ⟨rfl, hV⟩; rw [hV]; clear hV u2) | (have _t := u3; go_at_call 54; refine (I3 _ H.out).mono ?_; rintro e V ⟨rfl, hV⟩; rw [hV]; clear hV u3) | (have _t := u4; go_at_call 54; refine (I4 _ H.out).mono ?_; rintro e V ⟨rfl, hV⟩; rw [hV]; clear hV u4))
      go_ret
      exact ⟨rfl, rfl⟩
    | 2, _ =>
      simp only [erV, Option.some.injEq, decide_true, reduceCtorEq, decide_false, show ((2 : Nat) = 0) = False from by simp, show ((2 : Nat) = 1) = False from by simp, show ((2 : Nat) = 2) = True from eq_self _, show ((2 : Nat) = 3) = False from by simp, show ((2 : Nat) = 4) = False from by simp] at I0 I1 I2 I3 I4 ⊢
      go_enter Tryd.func33, Tryd.ntmps33
      go_wp2_with (first | (have _t := u0; go_at_call 54; refine (I0 _ H.out).mono ?_; rintro e V ⟨rfl, hV⟩; rw [hV]; clear hV u0) | (have _t := u1; go_at_call 54; refine (I1 _ H.out).mono ?_; rintro e V ⟨rfl, hV⟩; rw [hV]; clear hV u1) | (have _t := u2; go_at_call 54; refine (I2 _ H.out).mono ?_; rintro e V ⟨rfl, hV⟩; rw [hV]; clear hV u2) | (have _t := u3; go_at_call 54; refine (I3 _ H.out).mono ?_; rintro e V ⟨rfl, hV⟩; rw [hV]; clear hV u3) | (have _t := u4; go_at_call 54; refine (I4 _ H.out).mono ?_; rintro e V ⟨rfl, hV⟩; rw [hV]; clear hV u4))
      go_ret
      exact ⟨rfl, rfl⟩
    | 3, _ =>
      simp only [erV, Option.some.injEq, decide_true, reduceCtorEq, decide_false, show ((3 : Nat) = 0) = False from by simp, show ((3 : Nat) = 1) = False from by simp, show ((3 : Nat) = 2) = False from by simp, show ((3 : Nat) = 3) = True from eq_self _, show ((3 : Nat) = 4) = False from by simp] at I0 I1 I2 I3 I4 ⊢
      go_enter Tryd.func33, Tryd.ntmps33
      go_wp2_with (first | (have _t := u0; go_at_call 54; refine (I0 _ H.out).mono ?_; rintro e V ⟨rfl, hV⟩; rw [hV]; clear hV u0) | (have _t := u1; go_at_call 54; refine (I1 _ H.out).mono ?_; rintro e V ⟨rfl, hV⟩; rw [hV]; clear hV u1) | (have _t := u2; go_at_call 54; refine (I2 _ H.out).mono ?_; rintro e V ⟨rfl, hV⟩; rw [hV]; clear hV u2) | (have _t := u3; go_at_call 54; refine (I3 _ H.out).mono ?_; rintro e V ⟨rfl, hV⟩; rw [hV]; clear hV u3) | (have _t := u4; go_at_call 54; refine (I4 _ H.out).mono ?_; rintro e V ⟨rfl, hV⟩; rw [hV]; clear hV u4))
      go_ret
      exact ⟨rfl, rfl⟩
    | 4, _ =>
      simp only [erV, Option.some.injEq, decide_true, reduceCtorEq, decide_false, show ((4 : Nat) = 0) = False from by simp, show ((4 : Nat) = 1) = False from by simp, show ((4 : Nat) = 2) = False from by simp, show ((4 : Nat) = 3) = False from by simp, show ((4 : Nat) = 4) = True from eq_self _] at I0 I1 I2 I3 I4 ⊢
      go_enter Tryd.func33, Tryd.ntmps33
      go_wp2_with (first | (have _t := u0; go_at_call 54; refine (I0 _ H.out).mono ?_; rintro e V ⟨rfl, hV⟩; rw [hV]; clear hV u0) | (have _t := u1; go_at_call 54; refine (I1 _ H.out).mono ?_; rintro e V ⟨rfl, hV⟩; rw [hV]; clear hV u1) | (have _t := u2; go_at_call 54; refine (I2 _ H.out).mono ?_; rintro e V ⟨rfl, hV⟩; rw [hV]; clear hV u2) | (have _t := u3; go_at_call 54; refine (I3 _ H.out).mono ?_; rintro e V ⟨rfl, hV⟩; rw [hV]; clear hV u3) | (have _t := u4; go_at_call 54; refine (I4 _ H.out).mono ?_; rintro e V ⟨rfl, hV⟩; rw [hV]; clear hV u4))
      go_ret
      exact ⟨rfl, rfl⟩
end Go.Proofs.YtbiknpfcemfoeaaDoor
