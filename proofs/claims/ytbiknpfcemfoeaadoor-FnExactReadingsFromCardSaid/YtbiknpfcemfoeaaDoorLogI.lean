/- LoggerOf and LevelOf, the program's and the model's, as values. Condition: none. -/
import Derived.Test.YtbiknpfcemfoeaaDoorLg
namespace Go.Proofs.YtbiknpfcemfoeaaDoor
open Go Go.RowKit Ieee
set_option linter.unusedSimpArgs false
set_option linter.unusedVariables false
attribute [local go_sem] run_store_f32

theorem wpList_minD {P : Program} {ops : Array Oper} {rest : List Oper} {o : Oper} {a : Act} {w : World} {Q : Exit → Act → World → Prop} (hg : o.guard = none) (p q : Operand) (ts : Array TypeId)
    (ho : o.op = .call { callee := .builtin .min, args := #[p, q], argTypes := ts }) (x y u : Nat) (hx : a.eval p = .float .f32 x) (hy : a.eval q = .float .f32 y)
    (hm : ∀ (P : Program) (ts : Array TypeId) (t : TypeId) (w : World), (Builtin.min_ ts t #[.float .f32 x, .float .f32 y]).run P w = .ok (.float .f32 u) w)
    (h : wpList P ops Q rest (a.put o.dst (.float .f32 u)) w) : wpList P ops Q (o :: rest) a w :=
  wpList_plain hg fun K hK => by
    have hm := fun (tt : Array TypeId) (t : TypeId) => hm P tt t w
    unfold Oper.wp execOp
    simp only [ho]
    simp only [resolve, hx, hy, Sem.run_bind, Sem.run_pure, Result.andThen, invoke, List.map_toArray, List.map_cons, List.map_nil]
    simp [hm, go_sem]
    exact hK _ _ h
theorem wpList_maxD {P : Program} {ops : Array Oper} {rest : List Oper} {o : Oper} {a : Act} {w : World} {Q : Exit → Act → World → Prop} (hg : o.guard = none) (p q : Operand) (ts : Array TypeId)
    (ho : o.op = .call { callee := .builtin .max, args := #[p, q], argTypes := ts }) (x y u : Nat) (hx : a.eval p = .float .f32 x) (hy : a.eval q = .float .f32 y)
    (hm : ∀ (P : Program) (ts : Array TypeId) (t : TypeId) (w : World), (Builtin.max_ ts t #[.float .f32 x, .float .f32 y]).run P w = .ok (.float .f32 u) w)
    (h : wpList P ops Q rest (a.put o.dst (.float .f32 u)) w) : wpList P ops Q (o :: rest) a w :=
  wpList_plain hg fun K hK => by
    have hm := fun (tt : Array TypeId) (t : TypeId) => hm P tt t w
    unfold Oper.wp execOp
    simp only [ho]
    simp only [resolve, hx, hy, Sem.run_bind, Sem.run_pure, Result.andThen, invoke, List.map_toArray, List.map_cons, List.map_nil]
    simp [hm, go_sem]
    exact hK _ _ h
theorem wpList_convI {P : Program} {ops : Array Oper} {rest : List Oper} {o : Oper} {a : Act} {w : World} {Q : Exit → Act → World → Prop} (hg : o.guard = none) (src dst : TypeId) (x : Operand) (k : IntKind)
    (ho : o.op = .convert src dst x) (hs : (P.underlying src).isSome = true) (hd : P.underlying dst = some (.int k)) (b : Nat) (n : Int) (hx : a.eval x = .float .f32 b) (hf : floatToIntVal .f32 b k = some n)
    (h : wpList P ops Q rest (a.put o.dst (.int k n)) w) : wpList P ops Q (o :: rest) a w :=
  wpList_plain hg fun K hK => by
    have hrun := run_convert_float_int (P := P) (w := w) src dst .f32 k b n hs hd hf
    unfold Oper.wp execOp
    simp only [ho, hx]
    simp only [Sem.run_bind, hrun, Result.andThen]
    exact hK _ _ h
theorem order_nan {r : Nat} (c : Nat) (h : nanK .f32 r = true) : FloatKind.f32.format.order r c = none := by
  rw [nanK_read] at h
  show (FloatKind.f32.format.read r).order _ = none
  cases hr : FloatKind.f32.format.read r <;> simp [hr, Datum.isNaN, Datum.order] at h ⊢

set_option maxRecDepth 100000 in
set_option maxHeartbeats 1000000 in
theorem implLogger_any (l : Nat) (n : Int) (hl : Lgs l n) (w : World) : Calls Tryd.prog 59 #[.float .f32 l] w fun e w' => e = .returned (.int .i16 n) ∧ Below w.heap.size w w' := by
  cases hl with
  | none h hn =>
    subst hn
    unfold nanK at h
    go_enter Tryd.func59, Tryd.ntmps59
    go_wp2
    go_ret
    exact ⟨rfl, Below.refl _ _⟩
  | up z v u h hz g hv hm hu hi lo up =>
    unfold nanK at h
    unfold geB at g
    have HM := Lib.hid hm
    clear hm hi
    go_enter Tryd.func59, Tryd.ntmps59
    go_wp2_with (first | refine wpList_floatD rfl _ _ _ _ _ rfl rfl .f32 _ _ z rfl rfl hz ?_ | refine wpList_floatD rfl _ _ _ _ _ rfl rfl .f32 _ _ v rfl rfl hv ?_ | refine wpList_minD rfl _ _ _ rfl _ _ u rfl rfl HM.out ?_ | refine wpList_convI rfl _ _ _ .i16 rfl (by rw [Tryd.underlying24]; rfl) Tryd.underlying63 _ n rfl hu ?_)
    go_ret
    exact ⟨rfl, Below.refl _ _⟩
  | down z v u h hz g g2 hv hm hu hi lo up =>
    unfold nanK at h
    unfold geB at g
    have HM := Lib.hid hm
    clear hm hi
    go_enter Tryd.func59, Tryd.ntmps59
    go_wp2_with (first | refine wpList_floatD rfl _ _ _ _ _ rfl rfl .f32 _ _ z rfl rfl hz ?_ | refine wpList_floatD rfl _ _ _ _ _ rfl rfl .f32 _ _ v rfl rfl hv ?_ | refine wpList_maxD rfl _ _ _ rfl _ _ u rfl rfl HM.out ?_ | refine wpList_convI rfl _ _ _ .i16 rfl (by rw [Tryd.underlying24]; rfl) Tryd.underlying63 _ n rfl hu ?_)
    go_ret
    exact ⟨rfl, Below.refl _ _⟩
theorem wrap16_in (n : Int) (h1 : -32768 ≤ n) (h2 : n ≤ 32767) : IntKind.i16.wrap n = n := by
  have : n = IntKind.i16.wrap n := by
    rcases Int.le_total 0 n with h | h
    · simp only [IntKind.wrap, IntKind.bits, IntKind.signed]
      have : n % 65536 = n := Int.emod_eq_of_lt h (by omega)
      simp [this]
      omega
    · simp only [IntKind.wrap, IntKind.bits, IntKind.signed]
      simp
      omega
  exact this.symm

set_option maxRecDepth 100000 in
set_option maxHeartbeats 1000000 in
theorem l04Logger_any (l : Nat) (n : Int) (hl : Lgs l n) (w : World) : Calls Tryd.prog 38 #[.float .f32 l] w fun e w' => e = .returned (.int .i16 n) ∧ Below w.heap.size w w' := by
  cases hl with
  | none h hn =>
    subst hn
    have H := Lib.hid h
    clear h
    go_enter Tryd.func38, Tryd.ntmps38
    go_wp2_with (refine wpList_float rfl _ _ _ _ _ rfl rfl .f32 _ _ rfl rfl ?_; intro r m hr; have hr' := num_eq_none (hr.trans (by rw [num_none H.out]; rfl)); have o1 : (FloatKind.f32.format.order r 0 == some Ordering.gt || FloatKind.f32.format.order r 0 == some Ordering.eq) = false := (by rw [order_nan 0 hr']; rfl); have o2 : (FloatKind.f32.format.order r 0 == some Ordering.lt) = false := (by rw [order_nan 0 hr']; rfl); clear hr hr')
    go_ret
    exact ⟨rfl, belowN (Below.refl _ _) _⟩
  | up z v u h hz g hv hm hu hi lo up =>
    unfold geB at g
    have W := wrap16_in n lo up
    clear hm hu lo up h
    cases hc : ltB v 1191181824
    · rw [if_neg (by rw [hc]; decide)] at hi
      subst hi
      unfold ltB at hc
      go_enter Tryd.func38, Tryd.ntmps38
      go_wp2_with (first | refine wpList_floatD rfl _ _ _ _ _ rfl rfl .f32 _ _ z rfl rfl hz ?_ | refine wpList_floatD rfl _ _ _ _ _ rfl rfl .f32 _ _ v rfl rfl hv ?_)
      go_ret
      exact ⟨rfl, Below.refl _ _⟩
    · rw [if_pos hc] at hi
      unfold ltB at hc
      go_enter Tryd.func38, Tryd.ntmps38
      go_wp2_with (first | refine wpList_floatD rfl _ _ _ _ _ rfl rfl .f32 _ _ z rfl rfl hz ?_ | refine wpList_floatD rfl _ _ _ _ _ rfl rfl .f32 _ _ v rfl rfl hv ?_ | refine wpList_convI rfl _ _ _ .i64 rfl (by rw [Tryd.underlying24]; rfl) Tryd.underlying2 _ n rfl hi ?_)
      go_ret
      exact ⟨by first | rfl | (rw [W]; done) | (rw [W]; rfl), Below.refl _ _⟩
  | down z v u h hz g g2 hv hm hu hi lo up =>
    unfold geB at g
    unfold ltB at g2
    have W := wrap16_in n lo up
    clear hm hu lo up h
    cases hc : gtBB v 3338665984
    · rw [if_neg (by rw [hc]; decide)] at hi
      subst hi
      unfold gtBB at hc
      go_enter Tryd.func38, Tryd.ntmps38
      go_wp2_with (first | refine wpList_floatD rfl _ _ _ _ _ rfl rfl .f32 _ _ z rfl rfl hz ?_ | refine wpList_floatD rfl _ _ _ _ _ rfl rfl .f32 _ _ v rfl rfl hv ?_)
      go_ret
      exact ⟨rfl, Below.refl _ _⟩
    · rw [if_pos hc] at hi
      unfold gtBB at hc
      go_enter Tryd.func38, Tryd.ntmps38
      go_wp2_with (first | refine wpList_floatD rfl _ _ _ _ _ rfl rfl .f32 _ _ z rfl rfl hz ?_ | refine wpList_floatD rfl _ _ _ _ _ rfl rfl .f32 _ _ v rfl rfl hv ?_ | refine wpList_convI rfl _ _ _ .i64 rfl (by rw [Tryd.underlying24]; rfl) Tryd.underlying2 _ n rfl hi ?_)
      go_ret
      exact ⟨by first | rfl | (rw [W]; done) | (rw [W]; rfl), Below.refl _ _⟩
/-- The level of a reading. -/
def lvV (l : Int) : Option Nat := fop .f32 .quo (num .f32 (floatOfInt .f32 l)) (num .f32 1098907648)
set_option maxRecDepth 100000 in
theorem l04Level_any (t l : Int) (w : World) : Calls Tryd.prog 29 #[.agg #[.int .i64 t, .int .i16 l]] w (GvB (lvV l) w) := by
  go_enter Tryd.func29, Tryd.ntmps29
  go_wp2_with (refine wpList_float rfl _ _ _ _ _ rfl rfl .f32 _ _ rfl rfl ?_; intro r n hr; have H := Lib.hid hr; clear hr)
  go_ret
  exact ⟨_, rfl, H.out, belowN ((Below.refl _ _).alloc (Nat.le_refl _) _) _⟩
set_option maxRecDepth 100000 in
theorem implLevel_any (t l : Int) (w : World) : Calls Tryd.prog 87 #[.agg #[.int .i64 t, .int .i16 l]] w (GvB (lvV l) w) := by
  go_enter Tryd.func87, Tryd.ntmps87
  go_wp2_with (refine wpList_float rfl _ _ _ _ _ rfl rfl .f32 _ _ rfl rfl ?_; intro r n hr; have H := Lib.hid hr; clear hr)
  go_ret
  exact ⟨_, rfl, H.out, belowN ((Below.refl _ _).alloc (Nat.le_refl _) _) _⟩
end Go.Proofs.YtbiknpfcemfoeaaDoor
