/- The argument of a well and its drawdown: the program's, and the model's drawdown. Condition: what comes in is valid. -/
import Derived.Test.YtbiknpfcemfoeaaDoorDrw
import Derived.Test.YtbiknpfcemfoeaaDoorLs
namespace Go.Proofs.YtbiknpfcemfoeaaDoor
open Go Go.RowKit Ieee
set_option linter.unusedSimpArgs false
set_option linter.unusedVariables false
attribute [local go_sem] run_store_f32

/-- What is in blocks that were just laid. -/
theorem laid1 (w : World) (a : Obj) : (w.alloc a).heap.size = w.heap.size + 1 ∧ (w.alloc a).heap[w.heap.size]? = some a := by
  exact ⟨by simp, heap_alloc_last w a⟩
theorem laid_old {w : World} {i : Nat} {a b : Obj} (h : w.heap[i]? = some b) : (w.alloc a).heap[i]? = some b := by
  have hi : i < w.heap.size := by
    rcases Nat.lt_or_ge i w.heap.size with h1 | h1
    · exact h1
    · rw [Array.getElem?_eq_none h1] at h; cases h
  have := (Below.refl (i + 1) w).alloc (by omega : i + 1 ≤ w.heap.size) a
  rw [this.block i (by omega)]
  exact h
theorem laid3 (w : World) (a b c : Obj) : ((w.alloc a).alloc b |>.alloc c).heap.size = w.heap.size + 1 + 1 + 1 ∧ ((w.alloc a).alloc b |>.alloc c).heap[w.heap.size]? = some a ∧ ((w.alloc a).alloc b |>.alloc c).heap[w.heap.size + 1]? = some b ∧ ((w.alloc a).alloc b |>.alloc c).heap[w.heap.size + 1 + 1]? = some c ∧ Below w.heap.size w ((w.alloc a).alloc b |>.alloc c) := by
  obtain ⟨z1, h1⟩ := laid1 w a
  obtain ⟨z2, h2⟩ := laid1 (w.alloc a) b
  obtain ⟨z3, h3⟩ := laid1 ((w.alloc a).alloc b) c
  rw [z1] at h2 z2
  rw [z2] at h3 z3
  exact ⟨z3, laid_old (laid_old h1), laid_old h2, h3, (((Below.refl _ _).alloc (Nat.le_refl _) _).alloc (by omega) _).alloc (by omega) _⟩
theorem laid4 (w : World) (a b c d : Obj) : ((w.alloc a).alloc b |>.alloc c |>.alloc d).heap.size = w.heap.size + 1 + 1 + 1 + 1 ∧ ((w.alloc a).alloc b |>.alloc c |>.alloc d).heap[w.heap.size]? = some a ∧ ((w.alloc a).alloc b |>.alloc c |>.alloc d).heap[w.heap.size + 1]? = some b ∧ ((w.alloc a).alloc b |>.alloc c |>.alloc d).heap[w.heap.size + 1 + 1]? = some c ∧ ((w.alloc a).alloc b |>.alloc c |>.alloc d).heap[w.heap.size + 1 + 1 + 1]? = some d ∧ Below w.heap.size w ((w.alloc a).alloc b |>.alloc c |>.alloc d) := by
  obtain ⟨z, h1, h2, h3, hb⟩ := laid3 w a b c
  obtain ⟨z4, h4⟩ := laid1 ((w.alloc a).alloc b |>.alloc c) d
  rw [z] at h4 z4
  exact ⟨z4, laid_old h1, laid_old h2, laid_old h3, h4, hb.alloc (by omega) _⟩
theorem laid2 (w : World) (a b : Obj) : ((w.alloc a).alloc b).heap.size = w.heap.size + 1 + 1 ∧ ((w.alloc a).alloc b).heap[w.heap.size]? = some a ∧ ((w.alloc a).alloc b).heap[w.heap.size + 1]? = some b ∧ Below w.heap.size w ((w.alloc a).alloc b) := by
  obtain ⟨z1, h1⟩ := laid1 w a
  obtain ⟨z2, h2⟩ := laid1 (w.alloc a) b
  rw [z1] at h2 z2
  exact ⟨z2, laid_old h1, h2, ((Below.refl _ _).alloc (Nat.le_refl _) _).alloc (by omega) _⟩

/-- The greater one of two numbers. -/
theorem max_pos {P : Program} (w : World) (ts : Array TypeId) (t : TypeId) (x y : Nat) (h1 : 8388608 ≤ x) (h2 : x < 2139095040) (h3 : 8388608 ≤ y) (h4 : y < 2139095040) : (Builtin.max_ ts t #[.float .f32 x, .float .f32 y]).run P w = .ok (.float .f32 (if x < y then y else x)) w := by
  have ho : FloatKind.f32.format.order x y = some (compare x y) := ord_pos h1 h2 h3 h4
  have hneg : (FloatKind.f32.decode x).neg = false := by
    show (single.read x).neg = false
    rw [norm_read h1 h2]
    rfl
  unfold Builtin.max_
  simp only [List.foldlM, Builtin.max2, ho]
  rcases Nat.lt_trichotomy x y with h | h | h
  · have : compare x y = .lt := by simp only [compare, compareOfLessAndEq]; rw [if_pos h]
    rw [this, if_pos h]; simp [hneg, go_sem]
  · have hn : ¬ x < y := by omega
    have : compare x y = .eq := by simp only [compare, compareOfLessAndEq]; rw [if_neg hn, if_pos h]
    rw [this, if_neg hn]; simp [hneg, go_sem]
  · have hn : ¬ x < y := by omega
    have he : ¬ x = y := by omega
    have : compare x y = .gt := by simp only [compare, compareOfLessAndEq]; rw [if_neg hn, if_neg he]
    rw [this, if_neg hn]; simp [hneg, go_sem]
theorem wpList_max {P : Program} {ops : Array Oper} {rest : List Oper} {o : Oper} {a : Act} {w : World} {Q : Exit → Act → World → Prop} (hg : o.guard = none) (p q : Operand) (ts : Array TypeId)
    (ho : o.op = .call { callee := .builtin .max, args := #[p, q], argTypes := ts }) (x y : Nat) (hx : a.eval p = .float .f32 x) (hy : a.eval q = .float .f32 y) (h1 : 8388608 ≤ x) (h2 : x < 2139095040) (h3 : 8388608 ≤ y) (h4 : y < 2139095040)
    (h : wpList P ops Q rest (a.put o.dst (.float .f32 (if x < y then y else x))) w) : wpList P ops Q (o :: rest) a w :=
  wpList_plain hg fun K hK => by
    have hm := fun (tt : Array TypeId) (t : TypeId) => max_pos (P := P) w tt t x y h1 h2 h3 h4
    unfold Oper.wp execOp
    simp only [ho]
    simp only [resolve, hx, hy, Sem.run_bind, Sem.run_pure, Result.andThen, invoke, List.map_toArray, List.map_cons, List.map_nil]
    simp [hm, go_sem]
    exact hK _ _ h

/-- A positive normal number is not 0. -/
theorem ne_zero {f : Nat} (h1 : 8388608 ≤ f) (h2 : f < 2139095040) : (FloatKind.f32.format.order f 0 == some Ordering.eq) = false := by
  have : FloatKind.f32.format.order f 0 = some Ordering.gt := by
    show Format.order single f 0 = _
    unfold Format.order
    rw [norm_read h1 h2, show single.read 0 = .number false 0 (-149) by decide +kernel]
    unfold Datum.order
    simp only []
    have m1 : (-149 + ((f / 8388608 - 1 : Nat) : Int) - min (-149 + ((f / 8388608 - 1 : Nat) : Int)) (-149)).toNat = f / 8388608 - 1 := by omega
    rw [m1]
    unfold signed
    simp only [Bool.false_eq_true, if_false, Nat.shiftLeft_eq, Nat.zero_mul]
    have hp := Nat.two_pow_pos (f / 8388608 - 1)
    have : 0 < (8388608 + f % 8388608) * 2 ^ (f / 8388608 - 1) := Nat.mul_pos (by omega) hp
    generalize (8388608 + f % 8388608) * 2 ^ (f / 8388608 - 1) = B at this ⊢
    simp only [compare, compareOfLessAndEq]
    rw [if_neg (by omega), if_neg (by omega)]
  rw [this]
  rfl

set_option maxRecDepth 100000 in
set_option maxHeartbeats 2000000 in
theorem squareTo_any (a b x y : Int) (ha : -100 ≤ a ∧ a ≤ 100) (hb : -100 ≤ b ∧ b ≤ 100) (hx : -100 ≤ x ∧ x ≤ 100) (hy : -100 ≤ y ∧ y ≤ 100) (w : World) : Calls Tryd.prog 112 #[.agg (Pc a b), .agg (Pc x y)] w fun e w' => e = .returned (.int .i64 ((a - x) * (a - x) + (b - y) * (b - y))) ∧ ∃ n, w' = ((w.alloc (.cells #[.int .i64 a, .int .i64 b] 126)).alloc (.cells #[.int .i64 x, .int .i64 y] 126)).drewN n := by
  obtain ⟨sq1, sq2, -⟩ := sq_bounds (a - x) (b - y) (by omega) (by omega)
  have sx := (sq_bounds (a - x) 0 (by omega) (by omega)).1
  have sy := (sq_bounds 0 (b - y) (by omega) (by omega)).1
  have sx : 0 ≤ (a - x) * (a - x) := by simpa using sx
  have sy : 0 ≤ (b - y) * (b - y) := by simpa using sy
  simp only [Pc]
  go_enter Tryd.func112, Tryd.ntmps112
  go_upto_region 1 with (fail)
  go_quiet (fail)
  go_wp2
  go_ret
  exact ⟨rfl, _, rfl⟩

set_option maxRecDepth 100000 in
set_option maxHeartbeats 2000000 in
theorem seenFrom_any (T S : Nat) (X Y : Int) (R : Nat) (x y t : Int) (hdx : -100 ≤ X ∧ X ≤ 100) (hdy : -100 ≤ Y ∧ Y ≤ 100) (hx : -100 ≤ x ∧ x ≤ 100) (hy : -100 ≤ y ∧ y ≤ 100) (w : World) : Calls Tryd.prog 102 #[.agg (Sk X Y R), .agg (Aq T S), .agg (Pc x y), .int .i64 t] w fun e w' => e = .returned (.agg (Oc T S (dF (x - X) (y - Y)) (floatOfInt .f32 t))) ∧ Below w.heap.size w w' := by
  obtain ⟨sq1, sq2, sq3⟩ := sq_bounds (x - X) (y - Y) (by omega) (by omega)
  have hsq : (X - x) * (X - x) + (Y - y) * (Y - y) = (x - X) * (x - X) + (y - Y) * (y - Y) := by
    rw [show X - x = -(x - X) by omega, show Y - y = -(y - Y) by omega, Int.neg_mul_neg, Int.neg_mul_neg]
  have HQ := squareTo_any X Y x y hdx hdy hx hy (w.alloc (.cells #[.int .i64 X, .int .i64 Y, .float .f32 R] 128) |>.alloc (.cells #[.float .f32 T, .float .f32 S] 43) |>.alloc (.cells #[.int .i64 x, .int .i64 y] 126) |>.alloc (.cells #[.float .f32 0, .float .f32 0, .float .f32 0, .float .f32 0] 150))
  rw [hsq] at HQ
  have hfield : ∀ w, (Instr.field 128 (.agg #[.int .i64 X, .int .i64 Y, .float .f32 R]) 0).run Tryd.prog w = .ok (.agg #[.int .i64 X, .int .i64 Y]) w := fun _ => by kernel_rfl
  simp only [Sk, Aq, Pc, Oc] at HQ ⊢
  obtain ⟨N, hN⟩ : ∃ N, (x - X) * (x - X) + (y - Y) * (y - Y) = N := ⟨_, rfl⟩
  rw [hN] at HQ sq1 sq2 sq3
  by_cases hz : x - X = 0 ∧ y - Y = 0
  · have hN0 := sq3.2 hz
    subst hN0
    have HD := Lib.hid (show dF (x - X) (y - Y) = 1031798784 from if_pos hz)
    clear sq1 sq2 sq3 hsq hN
    have hord : (FloatKind.f32.format.order (floatOfInt .f32 0) 0 == some Ordering.eq) = true := by decide +kernel
    go_enter Tryd.func102, Tryd.ntmps102
    go_wp2_with (go_at_call 112; refine HQ.mono ?_; rintro e V1 ⟨rfl, n1, rfl⟩; clear HQ)
    refine bodyPost_ret (by simp [results, Tryd.results102, go_sem] <;> rfl) rfl ⟨by rw [HD.out], ?_⟩
    have q := belowN (belowMore (belowMore (belowMore (belowMore (belowMore (belowMore (Below.refl w.heap.size w) (.cells #[.int .i64 X, .int .i64 Y, .float .f32 R] 128)) (.cells #[.float .f32 T, .float .f32 S] 43)) (.cells #[.int .i64 x, .int .i64 y] 126)) (.cells #[.float .f32 0, .float .f32 0, .float .f32 0, .float .f32 0] 150)) (.cells #[.int .i64 X, .int .i64 Y] 126)) (.cells #[.int .i64 x, .int .i64 y] 126)) n1
    exact (((q.setCell (by show w.heap.size ≤ w.heap.size + 1 + 1 + 1; omega) _).setCell (by show w.heap.size ≤ w.heap.size + 1 + 1 + 1; omega) _).setCell (by show w.heap.size ≤ w.heap.size + 1 + 1 + 1; omega) _).setCell (by show w.heap.size ≤ w.heap.size + 1 + 1 + 1; omega) _
  · have HD := Lib.hid (show dF (x - X) (y - Y) = floatOfInt .f32 N from by rw [← hN]; exact if_neg hz)
    have hord : (FloatKind.f32.format.order (floatOfInt .f32 N) 0 == some Ordering.eq) = false := by
      obtain ⟨n, rfl⟩ : ∃ n : Nat, N = (n : Int) := ⟨N.toNat, by omega⟩
      have hp : 1 ≤ n := by
        rcases Nat.eq_zero_or_pos n with h | h
        · subst h
          exact absurd (sq3.1 rfl) hz
        · exact h
      obtain ⟨r1, r2⟩ := int_norm n hp (by omega)
      exact ne_zero (Nat.le_trans (by decide) r1) (Nat.lt_of_le_of_lt r2 (by decide))
    clear sq1 sq2 sq3 hsq hN
    go_enter Tryd.func102, Tryd.ntmps102
    go_wp2_with (go_at_call 112; refine HQ.mono ?_; rintro e V1 ⟨rfl, n1, rfl⟩; clear HQ)
    refine bodyPost_ret (by simp [results, Tryd.results102, go_sem] <;> rfl) rfl ⟨by rw [HD.out], ?_⟩
    have q := belowN (belowMore (belowMore (belowMore (belowMore (belowMore (belowMore (Below.refl w.heap.size w) (.cells #[.int .i64 X, .int .i64 Y, .float .f32 R] 128)) (.cells #[.float .f32 T, .float .f32 S] 43)) (.cells #[.int .i64 x, .int .i64 y] 126)) (.cells #[.float .f32 0, .float .f32 0, .float .f32 0, .float .f32 0] 150)) (.cells #[.int .i64 X, .int .i64 Y] 126)) (.cells #[.int .i64 x, .int .i64 y] 126)) n1
    exact (((q.setCell (by show w.heap.size ≤ w.heap.size + 1 + 1 + 1; omega) _).setCell (by show w.heap.size ≤ w.heap.size + 1 + 1 + 1; omega) _).setCell (by show w.heap.size ≤ w.heap.size + 1 + 1 + 1; omega) _).setCell (by show w.heap.size ≤ w.heap.size + 1 + 1 + 1; omega) _

set_option maxRecDepth 100000 in
set_option maxHeartbeats 2000000 in
theorem argI_any (T S D F c b a u v : Nat) (h4 : fop .f32 .mul (num .f32 1082130432) (num .f32 T) = some c) (hl : fop .f32 .mul (num .f32 c) (num .f32 F) = some b) (ht : fop .f32 .mul (num .f32 D) (num .f32 S) = some a) (hq : fop .f32 .quo (num .f32 a) (num .f32 b) = some u) (lo : 8388608 ≤ u) (hi : u < 2139095040) (hv : (if u < 562036736 then 562036736 else u) = v) (w : World) : Calls Tryd.prog 109 #[.agg (Oc T S D F)] w fun e w' => e = .returned (.float .f32 v) ∧ Below w.heap.size w w' := by
  have HV := Lib.hid hv
  clear hv
  simp only [Oc]
  go_enter Tryd.func109, Tryd.ntmps109
  go_wp2_with (first | refine wpList_floatD rfl _ _ _ _ _ rfl rfl .f32 _ _ c rfl rfl h4 ?_ | refine wpList_floatD rfl _ _ _ _ _ rfl rfl .f32 _ _ b rfl rfl hl ?_ | refine wpList_floatD rfl _ _ _ _ _ rfl rfl .f32 _ _ a rfl rfl ht ?_ | refine wpList_floatD rfl _ _ _ _ _ rfl rfl .f32 _ _ u rfl rfl hq ?_ | (refine wpList_max rfl _ _ _ rfl _ _ rfl rfl lo hi (by decide) (by decide) ?_; rw [HV.out]))
  go_ret
  exact ⟨rfl, belowMore (Below.refl _ _) _⟩

set_option maxRecDepth 100000 in
set_option maxHeartbeats 1000000 in
theorem overFourPi_any (R T : Nat) (w : World) : Calls Tryd.prog 110 #[.float .f32 R, .float .f32 T] w (GvB (fop .f32 .quo (num .f32 R) (fop .f32 .mul (num .f32 1095307227) (num .f32 T))) w) := by
  have t16 : True := trivial
  have t17 : True := trivial
  go_enter Tryd.func110, Tryd.ntmps110
  go_wp2_with (first | (have _t := t16; refine wpList_float rfl _ _ _ _ _ rfl rfl .f32 _ _ rfl rfl ?_; intro r16 n16 hr16; have H16 := Lib.hid hr16; clear t16 hr16) | (have _t := t17; refine wpList_float rfl _ _ _ _ _ rfl rfl .f32 _ _ rfl rfl ?_; intro r17 n17 hr17; have H17 := Lib.hid hr17; clear t17 hr17))
  go_ret
  refine ⟨r17, rfl, ?_, belowN (Below.refl _ _) _⟩
  rw [H17.out, H16.out]

set_option maxRecDepth 100000 in
set_option maxHeartbeats 2000000 in
theorem drawdownI_any (T S : Nat) (X Y : Int) (R D F c b a u v : Nat) (o : Option Nat) (h4 : fop .f32 .mul (num .f32 1082130432) (num .f32 T) = some c) (hl : fop .f32 .mul (num .f32 c) (num .f32 F) = some b) (ht : fop .f32 .mul (num .f32 D) (num .f32 S) = some a) (hq : fop .f32 .quo (num .f32 a) (num .f32 b) = some u) (lo : 8388608 ≤ u) (hi : u < 2139095040) (hv : (if u < 562036736 then 562036736 else u) = v) (v1 : 562036736 ≤ v) (v2 : v ≤ 1300234240)
    (ho : (if 1117782016 < v then num .f32 0 else fop .f32 .mul (fop .f32 .quo (num .f32 R) (fop .f32 .mul (num .f32 1095307227) (num .f32 T))) (wellV v)) = o) (w : World) : Calls Tryd.prog 101 #[.agg (Sk X Y R), .agg (Oc T S D F)] w (GvB o w) := by
  have HA := argI_any T S D F c b a u v h4 hl ht hq lo hi hv (w.alloc (.cells #[.int .i64 X, .int .i64 Y, .float .f32 R] 128) |>.alloc (.cells #[.float .f32 T, .float .f32 S, .float .f32 D, .float .f32 F] 150))
  have hgt := gtB_pos (a := v) (b := 1117782016) (by omega) (by omega) (by omega) (by omega)
  obtain ⟨z, b0, b1, B0⟩ := laid2 w (.cells #[.int .i64 X, .int .i64 Y, .float .f32 R] 128) (.cells #[.float .f32 T, .float .f32 S, .float .f32 D, .float .f32 F] 150)
  have HO := Lib.hid ho
  clear ho hv h4 hl ht hq lo hi
  simp only [Sk, Oc] at HA ⊢
  by_cases hb : 1117782016 < v
  · rw [decide_eq_true hb] at hgt
    rw [if_pos hb] at HO
    go_enter Tryd.func101, Tryd.ntmps101
    go_wp2_with (go_at_call 109; refine HA.mono ?_; rintro e V1 ⟨rfl, hq1⟩; have Q1 := Lib.hid (B0.trans (hq1.mono (by omega))); clear hq1 HA B0 b0 b1 z)
    go_ret
    exact ⟨0, rfl, HO.out, Q1.out⟩
  · rw [decide_eq_false hb] at hgt
    rw [if_neg hb] at HO
    go_enter Tryd.func101, Tryd.ntmps101
    have t21 : True := trivial
    go_wp2_with (first | (go_at_call 109; refine HA.mono ?_; rintro e V1 ⟨rfl, hq1⟩; have d0 : V1.cell? ⟨w.heap.size, 2, none⟩ = some (.float .f32 R) := cell_of_row _ _ 2 _ _ _ ((hq1.block w.heap.size (by omega)).trans b0); have d1 : V1.cell? ⟨w.heap.size + 1, 0, none⟩ = some (.float .f32 T) := cell_of_row _ _ 0 _ _ _ ((hq1.block (w.heap.size + 1) (by omega)).trans b1); have Q1 := Lib.hid (B0.trans (hq1.mono (by omega))); clear hq1 HA B0 b0 b1 z) | (go_at_call 110; refine (overFourPi_any R T _).mono ?_; rintro e V3 ⟨r17, rfl, hr17, hq3⟩; have H17 := Lib.hid hr17; have Q3 := Lib.hid (Q1.out.trans (hq3.mono Q1.out.size)); clear hr17 hq3 d0 d1) | (go_at_call 111; refine (wellFunction_any v v1 (by omega) _).mono ?_; rintro e V2 ⟨re, rfl, he, hq2⟩; have HE := Lib.hid he; have Q2 := Lib.hid hq2; clear he hq2) | (have _t := t21; refine wpList_float rfl _ _ _ _ _ rfl rfl .f32 _ _ rfl rfl ?_; intro r21 n21 hr21; have H21 := Lib.hid hr21; clear t21 hr21))
    go_ret
    refine ⟨r21, rfl, ?_, belowN (Q3.out.trans (Q2.out.mono Q3.out.size)) _⟩
    rw [H21.out, H17.out, HE.out, ← HO.out]

theorem none_ex : ∃ r, num .f32 r = none := ⟨2143289344, by decide +kernel⟩
theorem fop_any (op : BinOp) (hop : arith op = true) (x y : Option Nat) : ∃ r, num .f32 r = fop .f32 op x y := by
  cases x with
  | none => exact none_ex
  | some a =>
    cases y with
    | none => exact none_ex
    | some b =>
      rw [show fop .f32 op (some a) (some b) = floatBits op .f32 a b from rfl, ← fop_num]
      exact fop_ex .f32 op hop _ _ (num_ex _ _) (num_ex _ _)
theorem drwV_ex (T S R : Nat) (dx dy t : Int) : ∃ r, num .f32 r = drwV T S R dx dy t := by
  unfold drwV
  split
  · exact num_ex _ _
  · exact fop_any _ rfl _ _

set_option maxRecDepth 100000 in
set_option maxHeartbeats 2000000 in
/-- The program's argument, as it comes from an occasion. -/
theorem argumentI_any (T S : Nat) (X Y : Int) (x y t : Int) (hT : 981467136 ≤ T ∧ T ≤ 1233125376) (hS : 897581056 ≤ S ∧ S ≤ 1065353216) (hdx : -100 ≤ X ∧ X ≤ 100) (hdy : -100 ≤ Y ∧ Y ≤ 100) (hx : -100 ≤ x ∧ x ≤ 100) (hy : -100 ≤ y ∧ y ≤ 100) (ht : 1 ≤ t ∧ t ≤ 100000) (w : World) : Calls Tryd.prog 109 #[.agg (Oc T S (dF (x - X) (y - Y)) (floatOfInt .f32 t))] w fun e w' => e = .returned (.float .f32 (argN T S (x - X) (y - Y) t)) ∧ Below w.heap.size w w' := by
  obtain ⟨c, b, a, u, h⟩ := argOk (T := T) (S := S) (dx := x - X) (dy := y - Y) (t := t) hT hS (by omega) (by omega) ht
  exact argI_any T S _ _ c b a u _ h.four h.low h.top h.quo h.lo (Nat.lt_of_le_of_lt h.hi (by decide)) h.is.symm w
theorem drawdownI2_any (T S : Nat) (X Y : Int) (R : Nat) (x y t : Int) (hT : 981467136 ≤ T ∧ T ≤ 1233125376) (hS : 897581056 ≤ S ∧ S ≤ 1065353216) (hdx : -100 ≤ X ∧ X ≤ 100) (hdy : -100 ≤ Y ∧ Y ≤ 100) (hx : -100 ≤ x ∧ x ≤ 100) (hy : -100 ≤ y ∧ y ≤ 100) (ht : 1 ≤ t ∧ t ≤ 100000) (w : World) : Calls Tryd.prog 101 #[.agg (Sk X Y R), .agg (Oc T S (dF (x - X) (y - Y)) (floatOfInt .f32 t))] w (GvB (drwV T S R (x - X) (y - Y) t) w) := by
  obtain ⟨c, b, a, u, h⟩ := argOk (T := T) (S := S) (dx := x - X) (dy := y - Y) (t := t) hT hS (by omega) (by omega) ht
  obtain ⟨n1, n2⟩ := argN_rng h
  exact drawdownI_any T S X Y R _ _ c b a u _ _ h.four h.low h.top h.quo h.lo (Nat.lt_of_le_of_lt h.hi (by decide)) h.is.symm n1 n2 rfl w

set_option maxRecDepth 100000 in
set_option maxHeartbeats 2000000 in
theorem drawdownAt_any (T S : Nat) (X Y : Int) (R : Nat) (x y t : Int) (hT : 981467136 ≤ T ∧ T ≤ 1233125376) (hS : 897581056 ≤ S ∧ S ≤ 1065353216) (hdx : -100 ≤ X ∧ X ≤ 100) (hdy : -100 ≤ Y ∧ Y ≤ 100) (hx : -100 ≤ x ∧ x ≤ 100) (hy : -100 ≤ y ∧ y ≤ 100) (ht : 1 ≤ t ∧ t ≤ 100000) (w : World) : Calls Tryd.prog 84 #[.agg (Sk X Y R), .agg (Aq T S), .agg (Pc x y), .int .i64 t] w (GvB (drwV T S R (x - X) (y - Y) t) w) := by
  go_enter Tryd.func84, Tryd.ntmps84
  go_upto_region 1 with (fail)
  obtain ⟨z, b0, b1, b2, B0⟩ := laid3 w (.cells (Sk X Y R) 128) (.cells (Aq T S) 43) (.cells (Pc x y) 126)
  obtain ⟨W, hW⟩ : ∃ W, (w.alloc (.cells (Sk X Y R) 128) |>.alloc (.cells (Aq T S) 43) |>.alloc (.cells (Pc x y) 126)) = W := ⟨_, rfl⟩
  rw [hW] at z b0 b1 b2 B0 ⊢
  have R0 := Lib.hid (rangeAt_row b0)
  have R1 := Lib.hid (rangeAt_row b1)
  have R2 := Lib.hid (rangeAt_row b2)
  clear hW b0 b1 b2
  refine wp_region_calm (ops' := regOf Tryd.f84 1) [0, 1, 2, 3, 4, 5, 6, 7] [] .fin (Below (w.heap.size + 1 + 1 + 1) W) [(0, One (.agg (Sk X Y R))), (1, One (.agg (Sk X Y R))), (2, One (.agg (Aq T S))), (3, One (.agg (Pc x y))), (4, One (.int .i64 t)), (5, One (.agg (Oc T S (dF (x - X) (y - Y)) (floatOfInt .f32 t)))), (6, Numv .f32 (drwV T S R (x - X) (y - Y) t)), (7, Numv .f32 (drwV T S R (x - X) (y - Y) t))] (by kernel_rfl) (by kernel_rfl) (by kernel_rfl) (by kernel_rfl) (by kernel_rfl) (by kernel_rfl) (by kernel_rfl) (by kernel_rfl) rfl ((Below.refl _ _).drew) ?_
  refine calm_load (some 9) 128 (.tmp 4) (w.heap.size) 0 _ (by kernel_rfl) (by kernel_rfl) (by kernel_rfl) (by kernel_rfl) (by kernel_rfl) (fun w' hw' => range_kept (n := w.heap.size + 1 + 1 + 1) R0.out (by omega) _ hw') Tryd.underlying128 rfl (by kernel_rfl) ?_
  refine calm_load (some 10) 128 (.tmp 4) (w.heap.size) 0 _ (by kernel_rfl) (by kernel_rfl) (by kernel_rfl) (by kernel_rfl) (by kernel_rfl) (fun w' hw' => range_kept (n := w.heap.size + 1 + 1 + 1) R0.out (by omega) _ hw') Tryd.underlying128 rfl (by kernel_rfl) ?_
  refine calm_load (some 11) 43 (.tmp 5) ((w.heap.size + 1)) 0 _ (by kernel_rfl) (by kernel_rfl) (by kernel_rfl) (by kernel_rfl) (by kernel_rfl) (fun w' hw' => range_kept (n := w.heap.size + 1 + 1 + 1) R1.out (by omega) _ hw') Tryd.underlying43 rfl (by kernel_rfl) ?_
  refine calm_load (some 12) 126 (.tmp 6) ((w.heap.size + 1 + 1)) 0 _ (by kernel_rfl) (by kernel_rfl) (by kernel_rfl) (by kernel_rfl) (by kernel_rfl) (fun w' hw' => range_kept (n := w.heap.size + 1 + 1 + 1) R2.out (by omega) _ hw') Tryd.underlying126 rfl (by kernel_rfl) ?_
  refine calm_pure (some 13) (by kernel_rfl) (by kernel_rfl) (by kernel_rfl) (fun _ => by kernel_rfl) ?_
  refine calm_call (some 14) 102 #[.agg (Sk X Y R), .agg (Aq T S), .agg (Pc x y), .int .i64 t] ⟨_, rfl⟩ (by kernel_rfl) (by kernel_rfl) (by kernel_rfl) (fun _ => by kernel_rfl) (fun w' hw' => (seenFrom_any T S X Y R x y t hdx hdy hx hy w').mono fun e w2 h => ⟨_, h.1, rfl, below_step hw' h.2 (by have := hw'.size; omega)⟩) ?_
  rintro _ rfl
  refine calm_call (some 15) 101 #[.agg (Sk X Y R), .agg (Oc T S (dF (x - X) (y - Y)) (floatOfInt .f32 t))] (numv_ne (drwV_ex T S R (x - X) (y - Y) t)) (by kernel_rfl) (by kernel_rfl) (by kernel_rfl) (fun _ => by kernel_rfl) (fun w' hw' => (drawdownI2_any T S X Y R x y t hT hS hdx hdy hx hy ht w').mono fun e w2 ⟨r, he, hr, hq⟩ => ⟨_, he, ⟨r, rfl, hr⟩, below_step hw' hq (by have := hw'.size; omega)⟩) ?_
  rintro _ ⟨r15, rfl, hr15⟩
  refine calm_pureV (some 8) (.float .f32 r15) ⟨_, rfl, hr15⟩ (by kernel_rfl) (by kernel_rfl) (by kernel_rfl) (fun _ => by kernel_rfl) ?_
  rintro _ ⟨r8, rfl, hr8⟩
  refine calm_end fun w1 hw1 => plan_end (Clean.normal ?_)
  simp only [Act.put, List.setIfInBounds_toArray, List.set_cons_zero, List.set_cons_succ]
  go_wp2
  go_ret
  exact ⟨_, rfl, hr8, B0.trans (hw1.mono (by omega))⟩

set_option maxRecDepth 100000 in
set_option maxHeartbeats 2000000 in
theorem l03Drawdown_any (T S : Nat) (X Y : Int) (R : Nat) (x y t : Int) (hT : 981467136 ≤ T ∧ T ≤ 1233125376) (hS : 897581056 ≤ S ∧ S ≤ 1065353216) (hdx : -100 ≤ X ∧ X ≤ 100) (hdy : -100 ≤ Y ∧ Y ≤ 100) (hx : -100 ≤ x ∧ x ≤ 100) (hy : -100 ≤ y ∧ y ≤ 100) (ht : 1 ≤ t ∧ t ≤ 100000) (w : World) : Calls Tryd.prog 57 #[.agg (Aq T S), .agg (We X Y R), .int .i64 x, .int .i64 y, .int .i64 t] w (GvB (drwV T S R (x - X) (y - Y) t) w) := by
  have HA := l03Argument_any T S X Y R x y t hT hS hdx hdy hx hy ht (w.alloc (.cells #[.float .f32 T, .float .f32 S] 43) |>.alloc (.cells #[.int .i8 X, .int .i8 Y, .float .f32 R] 45))
  obtain ⟨c, b, a, u, h⟩ := argOk (T := T) (S := S) (dx := x - X) (dy := y - Y) (t := t) hT hS (by omega) (by omega) ht
  obtain ⟨v1, v2⟩ := argN_rng h
  obtain ⟨o, ho⟩ : ∃ o, drwV T S R (x - X) (y - Y) t = o := ⟨_, rfl⟩
  rw [ho]
  unfold drwV at ho
  clear h
  obtain ⟨v, hv⟩ : ∃ v, argN T S (x - X) (y - Y) t = v := ⟨_, rfl⟩
  rw [hv] at HA v1 v2 ho
  have hgt := gtB_pos (a := v) (b := 1117782016) (by omega) (by omega) (by omega) (by omega)
  obtain ⟨z, b0, b1, B0⟩ := laid2 w (.cells #[.float .f32 T, .float .f32 S] 43) (.cells #[.int .i8 X, .int .i8 Y, .float .f32 R] 45)
  have HO := Lib.hid ho
  clear ho hv
  simp only [Aq, We] at HA ⊢
  by_cases hb : 1117782016 < v
  · rw [decide_eq_true hb] at hgt
    rw [if_pos hb] at HO
    go_enter Tryd.func57, Tryd.ntmps57
    go_wp2_with (go_at_call 80; refine HA.mono ?_; rintro e V1 ⟨rfl, hq1⟩; have Q1 := Lib.hid (B0.trans (hq1.mono (by omega))); clear hq1 HA B0 b0 b1 z)
    go_ret
    exact ⟨0, rfl, HO.out, Q1.out⟩
  · rw [decide_eq_false hb] at hgt
    rw [if_neg hb] at HO
    go_enter Tryd.func57, Tryd.ntmps57
    have t25 : True := trivial
    have t29 : True := trivial
    have t33 : True := trivial
    go_wp2_with (first | (go_at_call 80; refine HA.mono ?_; rintro e V1 ⟨rfl, hq1⟩; have d0 : V1.cell? ⟨w.heap.size + 1, 2, none⟩ = some (.float .f32 R) := cell_of_row _ _ 2 _ _ _ ((hq1.block (w.heap.size + 1) (by omega)).trans b1); have d1 : V1.cell? ⟨w.heap.size, 0, none⟩ = some (.float .f32 T) := cell_of_row _ _ 0 _ _ _ ((hq1.block w.heap.size (by omega)).trans b0); have Q1 := Lib.hid (B0.trans (hq1.mono (by omega))); clear hq1 HA B0 b0 b1 z) | (have _t := t25; refine wpList_float rfl _ _ _ _ _ rfl rfl .f32 _ _ rfl rfl ?_; intro r25 n25 hr25; have H25 := Lib.hid hr25; clear t25 hr25) | (have _t := t29; refine wpList_float rfl _ _ _ _ _ rfl rfl .f32 _ _ rfl rfl ?_; intro r29 n29 hr29; have H29 := Lib.hid hr29; clear t29 hr29) | (go_at_call 81; refine (l03Well_any v v1 (by omega) _).mono ?_; rintro e V2 ⟨re, rfl, he, hq2⟩; have HE := Lib.hid he; have Q2 := Lib.hid hq2; clear he hq2) | (have _t := t33; refine wpList_float rfl _ _ _ _ _ rfl rfl .f32 _ _ rfl rfl ?_; intro r33 n33 hr33; have H33 := Lib.hid hr33; clear t33 hr33))
    go_ret
    refine ⟨r33, rfl, ?_, belowN ((belowN Q1.out _).trans (Q2.out.mono (belowN Q1.out _).size)) _⟩
    rw [H33.out, H29.out, H25.out, HE.out, ← HO.out]
end Go.Proofs.YtbiknpfcemfoeaaDoor
