/- WithFixed: the model's and the program's. Condition (the program's): the table of math/bits is laid. -/
import Derived.Test.YtcfkkceidlpdkaaDoorWith
import Derived.Test.YtcfkkceidlpdkaaDoorSumI
namespace Go.Proofs.YtcfkkceidlpdkaaDoor
open Go.RowKit
set_option linter.unusedSimpArgs false

/-- Another mask. -/
def fixX (x : Int) (k : Nat) (b : Bool) : Int := if b = true then bits .or .u64 x (IntKind.u64.wrap (2 ^ k)) else bits .andNot .u64 x (IntKind.u64.wrap (2 ^ k))

theorem pow_lt (k : Nat) (hk : k < 64) : 2 ^ k < 18446744073709551616 := by
  have : 2 ^ k < 2 ^ 64 := Nat.pow_lt_pow_right (by decide) hk
  simpa using this
/-- The bit is struck, and set again. -/
theorem or_andNot (x k : Nat) (hx : x < 18446744073709551616) (hk : k < 64) :
    bits .or .u64 (bits .andNot .u64 (x : Int) (IntKind.u64.wrap (2 ^ k))) (IntKind.u64.wrap (2 ^ k)) = bits .or .u64 (x : Int) (IntKind.u64.wrap (2 ^ k)) := by
  rw [wrap_pow k hk]
  obtain ⟨n, h1, h2, h3⟩ := bits_andNot x (2 ^ k) hx (pow_lt k hk)
  rw [h1, bits_or_u64_nat n _ h2 (pow_lt k hk), bits_or_u64_nat x _ hx (pow_lt k hk)]
  congr 1
  apply Nat.eq_of_testBit_eq
  intro i
  rw [Nat.testBit_or, Nat.testBit_or]
  by_cases hi : i < 64
  · rw [h3 i hi]
    cases x.testBit i <;> cases (2 ^ k).testBit i <;> rfl
  · have hb : ∀ m : Nat, m < 18446744073709551616 → m.testBit i = false := fun m hm => Nat.testBit_lt_two_pow (Nat.lt_of_lt_of_le (by simpa using hm : m < 2 ^ 64) (Nat.pow_le_pow_right (by decide) (by omega)))
    rw [hb n h2, hb x hx]
theorem fixX_has (x k : Nat) (b : Bool) (hx : x < 18446744073709551616) (hk : k < 64) : IntKind.u64.has (fixX x k b) := by
  unfold fixX
  rw [wrap_pow k hk]
  split
  · rw [bits_or_u64_nat x _ hx (pow_lt k hk)]
    have : x ||| 2 ^ k < 2 ^ 64 := Nat.or_lt_two_pow (by simpa using hx) (by simpa using pow_lt k hk)
    have h2 : x ||| 2 ^ k < 18446744073709551616 := by simpa using this
    generalize x ||| 2 ^ k = n at h2
    exact ⟨(by show (0 : Int) ≤ n; omega), (by show (n : Int) ≤ 18446744073709551615; omega)⟩
  · obtain ⟨n, h1, h2, _⟩ := bits_andNot x (2 ^ k) hx (pow_lt k hk)
    rw [h1]
    exact ⟨(by show (0 : Int) ≤ n; omega), (by show (n : Int) ≤ 18446744073709551615; omega)⟩

theorem shl_op {op : Oper} {a : Act} {x y : Operand} {k : Nat} {t : TypeId} (ho : op.op = .binOp .shl 25 x y t) (hx : a.eval x = .int .u64 1) (hy : a.eval y = .int .i64 k) (hk : k < 64) (w : World) :
    (execOp a.eval op).run Tryd.prog w = .ok (.value (.int .u64 (IntKind.u64.wrap (2 ^ k)))) w := by
  unfold execOp
  simp only [ho, hx, hy]
  go_simp
/-- A store of bits. -/
theorem store_u64 {P : Program} {op : Oper} {a : Act} {ty : TypeId} {x y : Operand} {b o : Nat} {v : Int} {w : World} (ho : op.op = .store ty x y) (hx : a.eval x = .pointer (some ⟨b, o, none⟩)) (hy : a.eval y = .int .u64 v) (hi : (P.info? ty).map (·.size) = some 1) {u : Value} (hu : w.cell? ⟨b, o, none⟩ = some u) (hf : w.frozen? ⟨b, o, none⟩ = false) :
    (execOp a.eval op).run P w = .ok .skip (w.setCell ⟨b, o, none⟩ (.int .u64 v)) := by
  have hs : (sizeOf ty).run P w = .ok 1 w := by
    cases hq : P.info? ty with
    | none => simp [hq] at hi
    | some i => simp [hq] at hi; simp [sizeOf, typeInfo, hq, hi]
  unfold execOp
  simp only [ho, hx, hy]
  go_simp
theorem infoU64 : (Tryd.prog.info? 25).map (·.size) = some 1 := by kernel_rfl

/-- The ground that WithFixed makes. -/
def fixG (G : Gd) (c : Int) (b : Bool) : Gd := { G with x := fixX G.x c.toNat b }
theorem ok_x {G : Gd} {k : Nat} {b : Bool} (hG : GdOk G) (hk : k < 64) : GdOk (fixG G k b) := by
  have h := hG.x'
  obtain ⟨x, hx⟩ : ∃ x : Nat, G.x = x := ⟨G.x.toNat, by omega⟩
  refine ⟨hG.wide, hG.high, ?_, hG.c, hG.g, hG.h⟩
  show IntKind.u64.has (fixX G.x (Int.toNat (k : Int)) b)
  rw [hx, Int.toNat_natCast]
  exact fixX_has x k b (by omega) hk

end Go.Proofs.YtcfkkceidlpdkaaDoor
