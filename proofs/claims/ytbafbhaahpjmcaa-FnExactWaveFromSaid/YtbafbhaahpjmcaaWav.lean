/- Waves, hours and their turns, of both sides. No condition. -/
import Derived.Test.YtbafbhaahpjmcaaPl
import Derived.Test.YtbafbhaahpjmcaaHelp
import Derived.Laws.ComplexArith
import Derived.Deep.QuietTactic
import Derived.BigQuiet
import Derived.IntWalk
namespace Go.Proofs.Ytbafbhaahpjmcaa
open Go.RowKit
attribute [local go_sem] run_store_float
set_option linter.unusedSimpArgs false
set_option linter.unusedVariables false

theorem run_store_complex (P : Program) (w : World) (a : Addr) (m : Mode) (k : FloatKind) (x y : Nat) : (store a (.complex k x y) m).run P w = stored P w a (.complex k x y) m := run_store P w a _ m rfl
attribute [local go_sem] run_store_complex

/-- The turns of the hours of a day. -/
def turnL : List (Nat × Nat) := [(1065353216, 0), (1063105495, 1056964608), (1056964608, 1063105495), (0, 1065353216), (3204448256, 1063105495), (3210589143, 1056964608), (3212836864, 0), (3210589143, 3204448256), (3204448256, 3210589143), (0, 3212836864), (1056964608, 3210589143), (1063105495, 3204448256)]
def turnA (n : Int) : Nat := (turnL.getD (n % 12).toNat (0, 0)).1
def turnB (n : Int) : Nat := (turnL.getD (n % 12).toNat (0, 0)).2
theorem turn_lists (n : Int) (h0 : 0 ≤ n) : [Value.complex FloatKind.f32 1065353216 0, Value.complex FloatKind.f32 1063105495 1056964608, Value.complex FloatKind.f32 1056964608 1063105495, Value.complex FloatKind.f32 0 1065353216, Value.complex FloatKind.f32 3204448256 1063105495, Value.complex FloatKind.f32 3210589143 1056964608, Value.complex FloatKind.f32 3212836864 0, Value.complex FloatKind.f32 3210589143 3204448256, Value.complex FloatKind.f32 3204448256 3210589143, Value.complex FloatKind.f32 0 3212836864, Value.complex FloatKind.f32 1056964608 3210589143, Value.complex FloatKind.f32 1063105495 3204448256][(n % 12).toNat]? = some (Value.complex .f32 (turnA n) (turnB n)) ∧ [Value.float FloatKind.f32 1065353216, Value.float FloatKind.f32 1063105495, Value.float FloatKind.f32 1056964608, Value.float FloatKind.f32 0, Value.float FloatKind.f32 3204448256, Value.float FloatKind.f32 3210589143, Value.float FloatKind.f32 3212836864, Value.float FloatKind.f32 3210589143, Value.float FloatKind.f32 3204448256, Value.float FloatKind.f32 0, Value.float FloatKind.f32 1056964608, Value.float FloatKind.f32 1063105495][(n % 12).toNat]? = some (Value.float .f32 (turnA n)) ∧ [Value.float FloatKind.f32 0, Value.float FloatKind.f32 1056964608, Value.float FloatKind.f32 1063105495, Value.float FloatKind.f32 1065353216, Value.float FloatKind.f32 1063105495, Value.float FloatKind.f32 1056964608, Value.float FloatKind.f32 0, Value.float FloatKind.f32 3204448256, Value.float FloatKind.f32 3210589143, Value.float FloatKind.f32 3212836864, Value.float FloatKind.f32 3210589143, Value.float FloatKind.f32 3204448256][(n % 12).toNat]? = some (Value.float .f32 (turnB n)) := by
  have h : ∀ k, k < 12 → [Value.complex FloatKind.f32 1065353216 0, Value.complex FloatKind.f32 1063105495 1056964608, Value.complex FloatKind.f32 1056964608 1063105495, Value.complex FloatKind.f32 0 1065353216, Value.complex FloatKind.f32 3204448256 1063105495, Value.complex FloatKind.f32 3210589143 1056964608, Value.complex FloatKind.f32 3212836864 0, Value.complex FloatKind.f32 3210589143 3204448256, Value.complex FloatKind.f32 3204448256 3210589143, Value.complex FloatKind.f32 0 3212836864, Value.complex FloatKind.f32 1056964608 3210589143, Value.complex FloatKind.f32 1063105495 3204448256][k]? = some (Value.complex .f32 (turnL.getD k (0, 0)).1 (turnL.getD k (0, 0)).2) ∧ [Value.float FloatKind.f32 1065353216, Value.float FloatKind.f32 1063105495, Value.float FloatKind.f32 1056964608, Value.float FloatKind.f32 0, Value.float FloatKind.f32 3204448256, Value.float FloatKind.f32 3210589143, Value.float FloatKind.f32 3212836864, Value.float FloatKind.f32 3210589143, Value.float FloatKind.f32 3204448256, Value.float FloatKind.f32 0, Value.float FloatKind.f32 1056964608, Value.float FloatKind.f32 1063105495][k]? = some (Value.float .f32 (turnL.getD k (0, 0)).1) ∧ [Value.float FloatKind.f32 0, Value.float FloatKind.f32 1056964608, Value.float FloatKind.f32 1063105495, Value.float FloatKind.f32 1065353216, Value.float FloatKind.f32 1063105495, Value.float FloatKind.f32 1056964608, Value.float FloatKind.f32 0, Value.float FloatKind.f32 3204448256, Value.float FloatKind.f32 3210589143, Value.float FloatKind.f32 3212836864, Value.float FloatKind.f32 3210589143, Value.float FloatKind.f32 3204448256][k]? = some (Value.float .f32 (turnL.getD k (0, 0)).2) := by
    intro k hk
    match k, hk with
    | 0, _ => exact ⟨rfl, rfl, rfl⟩
    | 1, _ => exact ⟨rfl, rfl, rfl⟩
    | 2, _ => exact ⟨rfl, rfl, rfl⟩
    | 3, _ => exact ⟨rfl, rfl, rfl⟩
    | 4, _ => exact ⟨rfl, rfl, rfl⟩
    | 5, _ => exact ⟨rfl, rfl, rfl⟩
    | 6, _ => exact ⟨rfl, rfl, rfl⟩
    | 7, _ => exact ⟨rfl, rfl, rfl⟩
    | 8, _ => exact ⟨rfl, rfl, rfl⟩
    | 9, _ => exact ⟨rfl, rfl, rfl⟩
    | 10, _ => exact ⟨rfl, rfl, rfl⟩
    | 11, _ => exact ⟨rfl, rfl, rfl⟩
  exact h _ (by omega)

set_option maxRecDepth 100000 in
set_option maxHeartbeats 4000000 in
theorem turn_any (n : Int) (h0 : 0 ≤ n) (h1 : n ≤ 100000) (w : World) : Calls Try.prog 15 #[.int .i64 n] w fun e w' => e = .returned (.complex .f32 (turnA n) (turnB n)) ∧ Below w.heap.size w w' := by
  obtain ⟨hL, -, -⟩ := turn_lists n h0
  go_enter Try.func15, Try.ntmps15
  go_wp2
  go_ret
  exact ⟨rfl, (Below.refl _ _).alloc (Nat.le_refl _) _⟩

set_option maxRecDepth 100000 in
set_option maxHeartbeats 4000000 in
theorem l06Wave_any (a b : Nat) (w : World) : Calls Try.prog 19 #[.float .f32 a, .float .f32 b] w fun e w' => e = .returned (.complex .f32 a b) ∧ w = w' := by
  go_enter Try.func19, Try.ntmps19
  go_wp2
  go_ret
  exact ⟨rfl, rfl⟩
set_option maxRecDepth 100000 in
set_option maxHeartbeats 4000000 in
theorem waveOf_any (a b : Nat) (w : World) : Calls Try.prog 23 #[.float .f32 a, .float .f32 b] w fun e w' => e = .returned (.complex .f32 a b) ∧ w = w' := by
  go_enter Try.func23, Try.ntmps23
  go_wp2
  go_ret
  exact ⟨rfl, rfl⟩
set_option maxRecDepth 100000 in
set_option maxHeartbeats 4000000 in
theorem l06Re_any (a b : Nat) (w : World) : Calls Try.prog 17 #[.complex .f32 a b] w fun e w' => e = .returned (.float .f32 a) ∧ w = w' := by
  go_enter Try.func17, Try.ntmps17
  go_wp2
  go_ret
  exact ⟨rfl, rfl⟩
set_option maxRecDepth 100000 in
set_option maxHeartbeats 4000000 in
theorem l06Im_any (a b : Nat) (w : World) : Calls Try.prog 18 #[.complex .f32 a b] w fun e w' => e = .returned (.float .f32 b) ∧ w = w' := by
  go_enter Try.func18, Try.ntmps18
  go_wp2
  go_ret
  exact ⟨rfl, rfl⟩
set_option maxRecDepth 100000 in
set_option maxHeartbeats 4000000 in
theorem parts_any (a b : Nat) (w : World) : Calls Try.prog 22 #[.complex .f32 a b] w fun e w' => e = .returned (.tuple #[.float .f32 a, .float .f32 b]) ∧ w = w' := by
  go_enter Try.func22, Try.ntmps22
  go_wp2
  go_ret2
  exact ⟨rfl, rfl⟩

theorem rem12 {op : Oper} {a : Act} {x : Operand} {n : Int} {k : Nat} (ho : op.op = .binOp .rem 2 x (.const (.int .i64 12)) 2) (hx : a.eval x = .int .i64 n) (h0 : 0 ≤ n) (h1 : n ≤ 100000) (hk : n % 12 = (k : Int)) (w : World) :
    (execOp a.eval op).run Try.prog w = .ok (.value (.int .i64 (k : Int))) w := by
  unfold execOp
  simp only [ho, hx]
  go_simp
  rw [← hk]
  exact Int.tmod_eq_emod_of_nonneg h0
theorem index_day {op : Oper} {a : Act} {x y : Operand} {b o k : Nat} (ho : op.op = .indexAddr 43 x y) (hx : a.eval x = .pointer (some ⟨b, o, none⟩)) (hy : a.eval y = .int .i64 k) (hk : k < 12) (w : World) :
    (execOp a.eval op).run Try.prog w = .ok (.value (.pointer (some ⟨b, o + k, none⟩))) w := by
  unfold execOp
  simp only [ho, hx, hy]
  go_simp
  intro h
  omega
set_option maxRecDepth 100000 in
set_option maxHeartbeats 4000000 in
theorem l06Turn_any (n : Int) (h0 : 0 ≤ n) (h1 : n ≤ 100000) (w : World) : Calls Try.prog 13 #[.int .i64 n] w fun e w' => e = .returned (.complex .f32 (turnA n) (turnB n)) ∧ Below w.heap.size w w' := by
  obtain ⟨-, hA, hB'⟩ := turn_lists n h0
  go_enter Try.func13, Try.ntmps13
  have g1 : ∀ w : World, Sem.run Try.prog (Op.unary UnOp.neg (Value.float FloatKind.f32 1056964608)) w = .ok (.float .f32 3204448256) w := fun _ => by kernel_rfl
  have g2 : ∀ w : World, Sem.run Try.prog (Op.unary UnOp.neg (Value.float FloatKind.f32 1063105495)) w = .ok (.float .f32 3210589143) w := fun _ => by kernel_rfl
  go_upto_region 5 with (fail)
  obtain ⟨W, hW, hs, r1, r2, hB⟩ := two_boxes #[Value.float FloatKind.f32 1065353216, Value.float FloatKind.f32 1063105495, Value.float FloatKind.f32 1056964608, Value.float FloatKind.f32 0, Value.float FloatKind.f32 3204448256, Value.float FloatKind.f32 3210589143, Value.float FloatKind.f32 3212836864, Value.float FloatKind.f32 3210589143, Value.float FloatKind.f32 3204448256, Value.float FloatKind.f32 0, Value.float FloatKind.f32 1056964608, Value.float FloatKind.f32 1063105495] #[Value.float FloatKind.f32 0, Value.float FloatKind.f32 1056964608, Value.float FloatKind.f32 1063105495, Value.float FloatKind.f32 1065353216, Value.float FloatKind.f32 1063105495, Value.float FloatKind.f32 1056964608, Value.float FloatKind.f32 0, Value.float FloatKind.f32 3204448256, Value.float FloatKind.f32 3210589143, Value.float FloatKind.f32 3212836864, Value.float FloatKind.f32 3210589143, Value.float FloatKind.f32 3204448256] 43 43 w
  rw [hW]
  clear hW
  obtain ⟨k, hk⟩ : ∃ k : Nat, (n % 12).toNat = k := ⟨_, rfl⟩
  have hm : n % 12 = (k : Int) := by omega
  have hk12 : k < 12 := by omega
  rw [hk] at hA hB'
  have c1 := fun (w' : World) (hw : Quiet W w') => (hw.cell ⟨w.heap.size, 0 + k, none⟩).trans (r1 k _ hA)
  have c2 := fun (w' : World) (hw : Quiet W w') => (hw.cell ⟨w.heap.size + 1, 0 + k, none⟩).trans (r2 k _ hB')
  refine wp_region_calm (ops' := regOf Try.f13 5) [0, 1, 2, 3, 4, 5, 6, 7, 8, 9] [] .fin (Quiet W) [(0, One (.int .i64 n)), (1, One (.int .i64 (k : Int))), (2, One (.pointer (some ⟨w.heap.size, 0 + k, none⟩))), (3, One (.float .f32 (turnA n))), (4, One (.int .i64 n)), (5, One (.int .i64 (k : Int))), (6, One (.pointer (some ⟨(w.heap.size + 1), 0 + k, none⟩))), (7, One (.float .f32 (turnB n))), (8, One (.complex .f32 (turnA n) (turnB n))), (9, One (.complex .f32 (turnA n) (turnB n)))] (by kernel_rfl) (by kernel_rfl) (by kernel_rfl) (by kernel_rfl) (by kernel_rfl) (by kernel_rfl) (by kernel_rfl) (by kernel_rfl) rfl ((Quiet.refl _).drewN 1) ?_
  refine calm_pure (some 33) (by kernel_rfl) (by kernel_rfl) (by kernel_rfl) (fun _ => by kernel_rfl) ?_
  refine calm_pure (some 34) (by kernel_rfl) (by kernel_rfl) (by kernel_rfl) (fun _ => (rem12 (x := .tmp 33) (by kernel_rfl) (by kernel_rfl) h0 h1 hm _)) ?_
  refine calm_pure (some 35) (by kernel_rfl) (by kernel_rfl) (by kernel_rfl) (fun _ => (index_day (x := .tmp 5) (y := .tmp 34) (by kernel_rfl) (by kernel_rfl) (by kernel_rfl) hk12 _)) ?_
  refine calm_read (some 36) (by kernel_rfl) (by kernel_rfl) (by kernel_rfl) (fun w' hw' => load_cell (ty := 31) (x := .tmp 35) (b := w.heap.size) (o := 0 + k) (by kernel_rfl) (by kernel_rfl) Try.underlying31 rfl (c1 w' hw')) ?_
  refine calm_pure (some 37) (by kernel_rfl) (by kernel_rfl) (by kernel_rfl) (fun _ => by kernel_rfl) ?_
  refine calm_pure (some 38) (by kernel_rfl) (by kernel_rfl) (by kernel_rfl) (fun _ => (rem12 (x := .tmp 37) (by kernel_rfl) (by kernel_rfl) h0 h1 hm _)) ?_
  refine calm_pure (some 39) (by kernel_rfl) (by kernel_rfl) (by kernel_rfl) (fun _ => (index_day (x := .tmp 6) (y := .tmp 38) (by kernel_rfl) (by kernel_rfl) (by kernel_rfl) hk12 _)) ?_
  refine calm_read (some 40) (by kernel_rfl) (by kernel_rfl) (by kernel_rfl) (fun w' hw' => load_cell (ty := 31) (x := .tmp 39) (b := (w.heap.size + 1)) (o := 0 + k) (by kernel_rfl) (by kernel_rfl) Try.underlying31 rfl (c2 w' hw')) ?_
  refine calm_call (some 41) 19 #[.float .f32 (turnA n), .float .f32 (turnB n)] ⟨_, rfl⟩ (by kernel_rfl) (by kernel_rfl) (by kernel_rfl) (fun _ => by kernel_rfl) (fun w' hw' => (l06Wave_any _ _ w').mono fun e w2 h => ⟨_, h.1, rfl, h.2 ▸ hw'⟩) ?_
  rintro _ rfl
  refine calm_pure (some 2) (by kernel_rfl) (by kernel_rfl) (by kernel_rfl) (fun _ => by kernel_rfl) ?_
  refine calm_end fun w' HQ => plan_end (Clean.normal ?_)
  simp only [Act.put, List.setIfInBounds_toArray, List.set_cons_zero, List.set_cons_succ]
  go_wp2
  go_ret
  exact ⟨rfl, hB.trans (Quiet.below HQ _)⟩

theorem run_floatConv (P : Program) (w : World) (b : Nat) :
    ∃ r n, num .f64 r = (num .f32 b).map cv ∧ (Conv.floatToFloat .f32 b .f64).run P w = .ok (.float .f64 r) (w.drewN n) := by
  cases hn : nanK .f32 b
  · refine ⟨cv b, 0, ?_, ?_⟩
    · rw [num_some hn]
      have : (Ieee.single.read b).isNaN = false := by rw [← hn, nanK_read]; rfl
      exact num_some (write_notnan .f64 _ this)
    · refine run_floatToFloat w (?_ : floatToFloatBits .f32 b .f64 = some (cv b))
      unfold floatToFloatBits
      rw [nanK_read] at hn
      have hn' : (Ieee.single.read b).isNaN = false := hn
      show (if FloatKind.f32 = FloatKind.f64 then _ else _) = _
      rw [if_neg (by decide)]
      show (match Ieee.single.read b with | .nan _ _ => _ | .infinity s => _ | .number s m e => _) = _
      unfold cv
      cases hr : Ieee.single.read b with
      | number s m i =>
        obtain ⟨h1, h2, h3⟩ := single_number hr
        have := double_fin s m i h1 h2 h3
        simp [FloatKind.encode, FloatKind.decode, this]
      | infinity s => rfl
      | nan s f => rw [hr] at hn'; simp [Ieee.Datum.isNaN] at hn'
  · have hn' : (Ieee.single.read b).isNaN = true := by rw [← hn, nanK_read]; rfl
    refine ⟨(Question.nanConv .f64 b).cut (w.tape w.drawn (.nanConv .f64 b)), 1, ?_, ?_⟩
    · rw [num_none hn]
      exact num_none (cut_nan .f64 0 0 (w.tape w.drawn (.nanConv .f64 b)))
    · cases hr : Ieee.single.read b with
      | number s m i => rw [hr] at hn'; simp [Ieee.Datum.isNaN] at hn'
      | infinity s => rw [hr] at hn'; simp [Ieee.Datum.isNaN] at hn'
      | nan s f =>
        have hd' : FloatKind.f32.decode b = .nan s f := hr
        simp [Conv.floatToFloat, hd', Question.forced, World.drew_is_drewN]
theorem run_convC (P : Program) (w : World) (src dst : TypeId) (hs : P.underlying src = some (.complex .f32)) (hd : P.underlying dst = some (.complex .f64)) (a b : Nat) :
    ∃ r s n, num .f64 r = (num .f32 a).map cv ∧ num .f64 s = (num .f32 b).map cv ∧ (convert src dst (.complex .f32 a b)).run P w = .ok (.complex .f64 r s) (w.drewN n) := by
  obtain ⟨r, n, hr, h1⟩ := run_floatConv P w a
  obtain ⟨s, m, hs', h2⟩ := run_floatConv P (w.drewN n) b
  refine ⟨r, s, n + m, hr, hs', ?_⟩
  simp [convert, run_underlying hs, run_underlying hd, Conv.complexToComplex, h1, h2, World.drewN_drewN]

theorem wpList_convC {P : Program} {ops : Array Oper} {rest : List Oper} {o : Oper} {a : Act} {w : World} {Q : Exit → Act → World → Prop} (hg : Region.wanted o (yielded ops a.tmps) = true) (src dst : TypeId) (x : Operand)
    (ho : o.op = .convert src dst x) (hs : P.underlying src = some (.complex .f32)) (hd : P.underlying dst = some (.complex .f64)) (b c : Nat) (hx : a.eval x = .complex .f32 b c)
    (h : ∀ r s n, num .f64 r = (num .f32 b).map cv → num .f64 s = (num .f32 c).map cv → wpList P ops Q rest (a.put o.dst (.complex .f64 r s)) (w.drewN n)) : wpList P ops Q (o :: rest) a w :=
  wpList_step fun K hK => by
    rw [if_pos hg]
    obtain ⟨r, s, n, hr, hs2, hrun⟩ := run_convC P w src dst hs hd b c
    unfold Oper.wp execOp
    simp only [ho, hx]
    simp only [Sem.run_bind, hrun, Result.andThen]
    exact hK _ _ (h r s n hr hs2)

set_option maxRecDepth 100000 in
set_option maxHeartbeats 4000000 in
theorem isHour_any (n : Int) (w : World) : Calls Try.prog 14 #[.int .i64 n] w fun e w' => e = .returned (.bool (decide (0 ≤ n) && decide (n ≤ 100000))) ∧ w = w' := by
  go_enter Try.func14, Try.ntmps14
  by_cases h : 0 ≤ n
  · go_wp2
    go_ret
    exact ⟨ret_bool (by simp [h]), rfl⟩
  · have h1 : decide (0 ≤ n) = false := by simpa using h
    go_wp2
    go_ret
    exact ⟨ret_bool (by simp [h]), rfl⟩
set_option maxRecDepth 100000 in
set_option maxHeartbeats 4000000 in
theorem l06Hour_any (n : Int) (w : World) : Calls Try.prog 12 #[.int .i64 n] w fun e w' => e = .returned (.bool (decide (0 ≤ n) && decide (n ≤ 100000))) ∧ w = w' := by
  go_enter Try.func12, Try.ntmps12
  go_wp2_with (go_at_call 24; refine (l00In_any n 0 100000 _).mono ?_; rintro e w' ⟨rfl, rfl⟩)
  go_ret
  exact ⟨rfl, rfl⟩
def turnV (n : Int) : Value := if 0 ≤ n ∧ n ≤ 100000 then .tuple #[.complex .f32 (turnA n) (turnB n), .int .i64 0] else .tuple #[.complex .f32 0 0, .int .i64 2]
theorem turnV_is (n : Int) : ∃ (a b : Nat) (c : Int), turnV n = .tuple #[.complex .f32 a b, .int .i64 c] := by
  unfold turnV
  split <;> exact ⟨_, _, _, rfl⟩

set_option maxRecDepth 100000 in
set_option maxHeartbeats 4000000 in
theorem specTurnOf_any (n : Int) (w : World) : Calls Try.prog 5 #[.int .i64 n] w fun e w' => e = .returned (turnV n) ∧ Below w.heap.size w w' := by
  by_cases h : 0 ≤ n ∧ n ≤ 100000
  · have R := Lib.hid (show turnV n = .tuple #[.complex .f32 (turnA n) (turnB n), .int .i64 0] by unfold turnV; rw [if_pos h])
    have Hh := Lib.hid (show (decide (0 ≤ n) && decide (n ≤ 100000)) = true by simp [h.1, h.2])
    obtain ⟨h0, h1⟩ := h
    go_enter Try.func5, Try.ntmps5
    go_wp2_with (first | (go_at_call 12; have hc := l06Hour_any n w; rw [Hh.out] at hc; refine hc.mono ?_; clear hc; rintro e w' ⟨rfl, rfl⟩) | (go_at_call 13; refine (l06Turn_any n h0 h1 _).mono ?_; rintro e V1 ⟨rfl, hb⟩; have B1 := Lib.hid hb; clear hb))
    go_ret2
    exact ⟨congrArg Ending.returned R.out.symm, B1.out⟩
  · have R := Lib.hid (show turnV n = .tuple #[.complex .f32 0 0, .int .i64 2] by unfold turnV; rw [if_neg h])
    have Hh := Lib.hid (show (decide (0 ≤ n) && decide (n ≤ 100000)) = false by simpa using h)
    clear h
    go_enter Try.func5, Try.ntmps5
    go_wp2_with (go_at_call 12; have hc := l06Hour_any n w; rw [Hh.out] at hc; refine hc.mono ?_; clear hc; rintro e w' ⟨rfl, rfl⟩)
    go_ret2
    exact ⟨congrArg Ending.returned R.out.symm, Below.refl _ _⟩

set_option maxRecDepth 100000 in
set_option maxHeartbeats 4000000 in
theorem implTurnOf_any (n : Int) (w : World) : Calls Try.prog 6 #[.int .i64 n] w fun e w' => e = .returned (turnV n) ∧ Below w.heap.size w w' := by
  by_cases h : 0 ≤ n ∧ n ≤ 100000
  · have R := Lib.hid (show turnV n = .tuple #[.complex .f32 (turnA n) (turnB n), .int .i64 0] by unfold turnV; rw [if_pos h])
    have Hh := Lib.hid (show (decide (0 ≤ n) && decide (n ≤ 100000)) = true by simp [h.1, h.2])
    obtain ⟨h0, h1⟩ := h
    go_enter Try.func6, Try.ntmps6
    go_wp2_with (first | (go_at_call 14; have hc := isHour_any n w; rw [Hh.out] at hc; refine hc.mono ?_; clear hc; rintro e w' ⟨rfl, rfl⟩) | (go_at_call 15; refine (turn_any n h0 h1 _).mono ?_; rintro e V1 ⟨rfl, hb⟩; have B1 := Lib.hid hb; clear hb))
    go_ret2
    exact ⟨congrArg Ending.returned R.out.symm, B1.out⟩
  · have R := Lib.hid (show turnV n = .tuple #[.complex .f32 0 0, .int .i64 2] by unfold turnV; rw [if_neg h])
    have Hh := Lib.hid (show (decide (0 ≤ n) && decide (n ≤ 100000)) = false by simpa using h)
    clear h
    go_enter Try.func6, Try.ntmps6
    go_wp2_with (go_at_call 14; have hc := isHour_any n w; rw [Hh.out] at hc; refine hc.mono ?_; clear hc; rintro e w' ⟨rfl, rfl⟩)
    go_ret2
    exact ⟨congrArg Ending.returned R.out.symm, Below.refl _ _⟩

set_option maxRecDepth 100000 in
set_option maxHeartbeats 4000000 in
theorem sameComplex_yes (a b c d : Nat) (h1 : num .f64 a = num .f64 c) (h2 : num .f64 b = num .f64 d) (w : World) :
    Calls Try.prog 7 #[.complex .f64 a b, .complex .f64 c d] w fun e w' => e = .returned (.bool true) ∧ Quiet w w' := by
  have G1 := Lib.hid h1
  have G2 := Lib.hid h2
  clear h1 h2
  go_enter Try.func7, Try.ntmps7
  have t1 : True := trivial
  go_wp2_with (first | (have _t := t1; go_at_call 11; refine (sameFloat_yes a c G1.out _).mono ?_; rintro e w' ⟨rfl, k, rfl⟩; clear t1) | (go_at_call 11; refine (sameFloat_yes b d G2.out _).mono ?_; rintro e w' ⟨rfl, k', rfl⟩))
  go_ret
  exact ⟨rfl, _, rfl⟩
end Go.Proofs.Ytbafbhaahpjmcaa
