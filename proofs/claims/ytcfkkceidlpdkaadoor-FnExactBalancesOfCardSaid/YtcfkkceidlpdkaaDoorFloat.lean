/- Numbers up to which NaN they are: what the operations give depends on that alone. No condition. -/
import Derived.Test.YtcfkkceidlpdkaaDoorRows
import Derived.Laws.FloatArith
import Derived.Laws.Cover2
import Derived.Laws.NewFold
import Derived.WalkKit
import Derived.Deep.Draws
namespace Go.Proofs.YtcfkkceidlpdkaaDoor
open Go.RowKit Ieee

/-- A number of a kind that is none, as the walk spells it. -/
def nanK (k : FloatKind) (a : Nat) : Bool := k.format.order a a != some Ordering.eq
/-- A number up to which NaN it is. -/
def num (k : FloatKind) (a : Nat) : Option Nat := if nanK k a = true then none else some a

theorem nanK_read (k : FloatKind) (a : Nat) : nanK k a = (k.format.read a).isNaN := by
  unfold nanK Format.order Datum.isNaN
  cases k.format.read a with
  | number s m i => simp [Datum.order]
  | infinity s => simp [Datum.order]
  | nan s f => simp [Datum.order]

theorem num_none {k : FloatKind} {a : Nat} (h : nanK k a = true) : num k a = none := by simp [num, h]
theorem num_some {k : FloatKind} {a : Nat} (h : nanK k a = false) : num k a = some a := by simp [num, h]
theorem num_eq_none {k : FloatKind} {a : Nat} (h : num k a = none) : nanK k a = true := by
  unfold num at h; split at h
  · assumption
  · cases h
theorem num_eq_some {k : FloatKind} {a b : Nat} (h : num k a = some b) : a = b ∧ nanK k a = false := by
  unfold num at h; split at h
  · cases h
  · rename_i hn
    exact ⟨by simpa using h, by simpa using hn⟩

theorem infRung_lt_sign (k : FloatKind) : k.format.infRung < k.format.signWeight := by cases k <;> decide +kernel

theorem read_word (k : FloatKind) (neg : Bool) (rung : Nat) (h : rung ≤ k.format.infRung) : (k.format.read (k.format.word neg rung)).isNaN = false := by
  have hs := infRung_lt_sign k
  have hm : k.format.word neg rung % k.format.signWeight = rung := by
    unfold Format.word
    cases neg
    · simp [Nat.mod_eq_of_lt (by omega : rung < k.format.signWeight)]
    · simp [Nat.mod_eq_of_lt (by omega : rung < k.format.signWeight)]
  unfold Format.read
  simp only [hm]
  split
  · rfl
  · split
    · rfl
    · split
      · rfl
      · omega

theorem nearest_le (k : FloatKind) (neg : Bool) (mag : Nat) (place : Int) : (k.format.read (k.format.nearest neg mag place)).isNaN = false := by
  unfold Format.nearest
  split
  · exact read_word k neg 0 (Nat.zero_le _)
  · exact read_word k neg _ (Nat.min_le_right _ _)

theorem write_notnan (k : FloatKind) (d : Datum) (h : d.isNaN = false) : nanK k (k.format.write d) = false := by
  rw [nanK_read]
  cases d with
  | number s m i => exact nearest_le k s m i
  | infinity s => exact read_word k s _ (Nat.le_refl _)
  | nan s f => simp [Datum.isNaN] at h

theorem sum_notnan {x y d : Datum} (h : x.sum y = some d) : d.isNaN = false := by
  cases x <;> cases y <;> simp only [Datum.sum] at h <;> first | (cases h; done) | skip
  · obtain rfl := Option.some.inj h; rfl
  · obtain rfl := Option.some.inj h; rfl
  · obtain rfl := Option.some.inj h; rfl
  · split at h
    · obtain rfl := Option.some.inj h; rfl
    · cases h
theorem product_notnan {x y d : Datum} (h : x.product y = some d) : d.isNaN = false := by
  cases x <;> cases y <;> simp only [Datum.product] at h <;> first | (cases h; done) | skip
  · obtain rfl := Option.some.inj h; rfl
  · split at h
    · cases h
    · obtain rfl := Option.some.inj h; rfl
  · split at h
    · cases h
    · obtain rfl := Option.some.inj h; rfl
  · obtain rfl := Option.some.inj h; rfl
theorem quotient_notnan {n : Nat} {x y d : Datum} (h : x.quotient n y = some d) : d.isNaN = false := by
  cases x <;> cases y <;> simp only [Datum.quotient] at h <;> first | (cases h; done) | skip
  all_goals first
    | (obtain rfl := Option.some.inj h; rfl)
    | (split at h
       · split at h
         · cases h
         · obtain rfl := Option.some.inj h; rfl
       · obtain rfl := Option.some.inj h; rfl)
theorem opposite_nan (x : Datum) : x.opposite.isNaN = x.isNaN := by cases x <;> rfl

theorem floatBits_notnan {op : BinOp} {k : FloatKind} {x y r : Nat} (h : floatBits op k x y = some r) : nanK k r = false := by
  unfold floatBits at h
  split at h
  · simp only [Format.add, Option.map_eq_some_iff] at h
    obtain ⟨d, hd, rfl⟩ := h
    exact write_notnan k d (sum_notnan hd)
  · simp only [Format.sub, Option.map_eq_some_iff] at h
    obtain ⟨d, hd, rfl⟩ := h
    exact write_notnan k d (sum_notnan hd)
  · simp only [Format.mul, Option.map_eq_some_iff] at h
    obtain ⟨d, hd, rfl⟩ := h
    exact write_notnan k d (product_notnan hd)
  · simp only [Format.div, Option.map_eq_some_iff] at h
    obtain ⟨d, hd, rfl⟩ := h
    exact write_notnan k d (quotient_notnan hd)
  · cases h

theorem floatBits_nan {op : BinOp} {k : FloatKind} {x y : Nat} (h : nanK k x = true ∨ nanK k y = true) : floatBits op k x y = none := by
  simp only [nanK_read] at h
  unfold floatBits
  cases op <;> simp only [Format.add, Format.sub, Format.mul, Format.div]
  all_goals
    cases hx : k.format.read x <;> cases hy : k.format.read y <;> simp [hx, hy, Datum.isNaN] at h <;> simp [Datum.sum, Datum.product, Datum.quotient, Datum.opposite]

/-- What an operation gives, up to which NaN it is. -/
def fop (k : FloatKind) (op : BinOp) (x y : Option Nat) : Option Nat := x.bind fun a => y.bind fun b => floatBits op k a b
theorem fop_num (k : FloatKind) (op : BinOp) (x y : Nat) : fop k op (num k x) (num k y) = floatBits op k x y := by
  cases hx : nanK k x
  · cases hy : nanK k y
    · simp [fop, num_some hx, num_some hy]
    · simp [fop, num_none hy, floatBits_nan (.inr hy)]
  · simp [fop, num_none hx, floatBits_nan (.inl hx)]

theorem order_num {k : FloatKind} {x x' y y' : Nat} (hx : num k x = num k x') (hy : num k y = num k y') : k.format.order x y = k.format.order x' y' := by
  have nl : ∀ {a b : Nat}, nanK k a = true → k.format.order a b = none := fun {a b} h => by
    rw [nanK_read] at h
    unfold Format.order
    cases ha : k.format.read a <;> simp [ha, Datum.isNaN] at h
    cases k.format.read b <;> rfl
  have nr : ∀ {a b : Nat}, nanK k b = true → k.format.order a b = none := fun {a b} h => by
    rw [nanK_read] at h
    unfold Format.order
    cases hb : k.format.read b <;> simp [hb, Datum.isNaN] at h
    cases k.format.read a <;> rfl
  cases h1 : num k x' with
  | none =>
    rw [h1] at hx
    rw [nl (num_eq_none hx), nl (num_eq_none h1)]
  | some a =>
    rw [h1] at hx
    cases h2 : num k y' with
    | none =>
      rw [h2] at hy
      rw [nr (num_eq_none hy), nr (num_eq_none h2)]
    | some b =>
      rw [h2] at hy
      rw [(num_eq_some hx).1, (num_eq_some hy).1, (num_eq_some h1).1, (num_eq_some h2).1]

theorem read_nan (k : FloatKind) (s r : Nat) (h : 0 < r) (h2 : k.format.infRung + r < k.format.signWeight) : (k.format.read (s * k.format.signWeight + (k.format.infRung + r))).isNaN = true := by
  have hb : k.format.binade ≤ k.format.infRung := by cases k <;> decide +kernel
  have hm : (s * k.format.signWeight + (k.format.infRung + r)) % k.format.signWeight = k.format.infRung + r := by
    rw [Nat.mul_comm, Nat.mul_add_mod, Nat.mod_eq_of_lt h2]
  unfold Format.read
  simp only [hm]
  rw [if_neg (by omega), if_neg (by omega), if_neg (by omega)]
  rfl

theorem rest_lt (t n : Nat) (h : 0 < n) : 1 + t % n < n + 1 := by have := Nat.mod_lt t h; omega

theorem cut_nan (k : FloatKind) (x y t : Nat) : nanK k ((Question.nanBits k x y).cut t) = true := by
  rw [nanK_read]
  cases k
  · have e : (Question.nanBits .f32 x y).cut t = (t % 2) * FloatKind.f32.format.signWeight + (FloatKind.f32.format.infRung + (1 + t / 2 % (2 ^ 23 - 1))) := by
      show t % 2 * 2 ^ 31 + 0x7f800000 + 1 + t / 2 % (2 ^ 23 - 1) = t % 2 * 2 ^ 31 + (0x7f800000 + (1 + t / 2 % (2 ^ 23 - 1)))
      rw [Nat.add_assoc, Nat.add_assoc]
    rw [e]
    refine read_nan .f32 _ _ (by omega) ?_
    have h1 := rest_lt (t / 2) (2 ^ 23 - 1) (by decide)
    have h2 : FloatKind.f32.format.infRung + (2 ^ 23 - 1 + 1) = FloatKind.f32.format.signWeight := by decide +kernel
    rw [← h2]
    exact Nat.add_lt_add_left h1 _
  · have e : (Question.nanBits .f64 x y).cut t = (t % 2) * FloatKind.f64.format.signWeight + (FloatKind.f64.format.infRung + (1 + t / 2 % (2 ^ 52 - 1))) := by
      show t % 2 * 2 ^ 63 + 0x7ff0000000000000 + 1 + t / 2 % (2 ^ 52 - 1) = t % 2 * 2 ^ 63 + (0x7ff0000000000000 + (1 + t / 2 % (2 ^ 52 - 1)))
      rw [Nat.add_assoc, Nat.add_assoc]
    rw [e]
    refine read_nan .f64 _ _ (by omega) ?_
    have h1 := rest_lt (t / 2) (2 ^ 52 - 1) (by decide)
    have h2 : FloatKind.f64.format.infRung + (2 ^ 52 - 1 + 1) = FloatKind.f64.format.signWeight := by decide +kernel
    rw [← h2]
    exact Nat.add_lt_add_left h1 _

/-- The four operations. -/
def arith : BinOp → Bool
  | .add | .sub | .mul | .quo => true
  | _ => false

theorem run_float_any (P : Program) (w : World) (op : BinOp) (hop : arith op = true) (t : TypeId) (k : FloatKind) (x y : Nat) :
    ∃ r n, num k r = fop k op (num k x) (num k y) ∧ (binOp op t (.float k x) (.float k y)).run P w = .ok (.float k r) (w.drewN n) := by
  cases h : floatBits op k x y with
  | some r =>
    refine ⟨r, 0, ?_, ?_⟩
    · rw [fop_num, h, num_some (floatBits_notnan h)]
    · exact run_float_arith w op t k x y r h
  | none =>
    refine ⟨(Question.nanBits k x y).cut (w.tape w.drawn (.nanBits k x y)), 1, ?_, ?_⟩
    · rw [fop_num, h, num_none (cut_nan _ _ _ _)]
    · unfold floatBits at h
      cases op <;> simp only [arith, Bool.false_eq_true] at hop <;> simp only at h <;>
        simp [binOp, Op.floatArith, h, Question.forced, World.drew_is_drewN]

/-- AN OPERATION ON NUMBERS, IN A WALK. -/
theorem wpList_float {P : Program} {ops : Array Oper} {rest : List Oper} {o : Oper} {a : Act} {w : World} {Q : Exit → Act → World → Prop} (hg : o.guard = none) (op : BinOp) (t t' : TypeId) (x y : Operand)
    (ho : o.op = .binOp op t x y t') (hop : arith op = true) (k : FloatKind) (u v : Nat) (hx : a.eval x = .float k u) (hy : a.eval y = .float k v)
    (h : ∀ r n, num k r = fop k op (num k u) (num k v) → wpList P ops Q rest (a.put o.dst (.float k r)) (w.drewN n)) : wpList P ops Q (o :: rest) a w :=
  wpList_plain hg fun K hK => by
    obtain ⟨r, n, hr, hrun⟩ := run_float_any P w op hop t k u v
    have hq : (eqGuard op t x y (.float k u) (.float k v)).run P w = .ok () w := by
      cases op <;> first | (simp [arith] at hop; done) | simp [eqGuard]
    unfold Oper.wp execOp
    simp only [ho, hx, hy]
    simp only [Sem.run_bind, hq, hrun, Result.andThen]
    exact hK _ _ (h r n hr)
end Go.Proofs.YtcfkkceidlpdkaaDoor
