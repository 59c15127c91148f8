/- The program's cells: the mask of a ground's cells. Condition: width and height fit. -/
import Derived.Test.YtcfkkceidlpdkaaDoorSpecOk
namespace Go.Proofs.YtcfkkceidlpdkaaDoor
open Go.RowKit
set_option linter.unusedSimpArgs false

/-- The masks of the first k rows. -/
def rowsTo (W : Nat) : Nat → Nat
  | 0 => 0
  | k + 1 => rowsTo W k ||| ((2 ^ W - 1) * 2 ^ (8 * k))
theorem row_lt (W k : Nat) (hW : W ≤ 8) (hk : k < 8) : (2 ^ W - 1) * 2 ^ (8 * k) < 2 ^ 64 := by
  have h1 : 2 ^ W - 1 < 2 ^ 8 := by
    have : 2 ^ W ≤ 2 ^ 8 := Nat.pow_le_pow_right (by decide) hW
    have := Nat.two_pow_pos W
    omega
  calc (2 ^ W - 1) * 2 ^ (8 * k) < 2 ^ 8 * 2 ^ (8 * k) := Nat.mul_lt_mul_of_pos_right h1 (Nat.two_pow_pos _)
    _ = 2 ^ (8 + 8 * k) := by rw [Nat.pow_add]
    _ ≤ 2 ^ 64 := Nat.pow_le_pow_right (by decide) (by omega)
theorem rowsTo_lt (W : Nat) (hW : W ≤ 8) : ∀ k, k ≤ 8 → rowsTo W k < 2 ^ 64
  | 0, _ => by simp [rowsTo]
  | k + 1, h => Nat.or_lt_two_pow (rowsTo_lt W hW k (by omega)) (row_lt W k hW (by omega))
theorem rowsTo_testBit (W : Nat) (hW : W ≤ 8) (i : Nat) : ∀ k, (rowsTo W k).testBit i = (decide (i < 8 * k) && decide (i % 8 < W))
  | 0 => by simp [rowsTo]
  | k + 1 => by
    rw [rowsTo, Nat.testBit_or, rowsTo_testBit W hW i k, Nat.testBit_mul_two_pow, Nat.testBit_two_pow_sub_one]
    by_cases h1 : i < 8 * k
    · have h2 : ¬ 8 * k ≤ i := by omega
      have h3 : i < 8 * (k + 1) := by omega
      simp [h1, h2, h3]
    · by_cases h3 : i < 8 * (k + 1)
      · have h2 : 8 * k ≤ i := by omega
        have h4 : i - 8 * k = i % 8 := by omega
        simp [h1, h2, h3, h4]
      · have h2 : 8 * k ≤ i := by omega
        have h4 : ¬ i - 8 * k < W := by omega
        simp [h1, h3, h4]
theorem rows_cells (G : Gd) (W H : Nat) (hW : G.wide = W) (hH : G.high = H) (w8 : W ≤ 8) (h8 : H ≤ 8) : rowsTo W H = cellsN G := by
  apply Nat.eq_of_testBit_eq
  intro i
  rw [rowsTo_testBit W w8, cellsN_testBit, isB, hW, hH]
  have e1 : (((i % 8 : Nat) : Int) < (W : Int)) ↔ i % 8 < W := by omega
  have e2 : (((i / 8 : Nat) : Int) < (H : Int)) ↔ i / 8 < H := by omega
  by_cases h1 : i < 8 * H
  · have h2 : i < 64 := by omega
    have h3 : i / 8 < H := by omega
    simp only [e1, e2, h1, h2, h3, decide_true, Bool.true_and, Bool.and_true]
  · by_cases h2 : i < 64
    · have h3 : ¬ i / 8 < H := by omega
      simp only [e1, e2, h1, h2, h3, decide_false, Bool.false_and, Bool.and_false, decide_true]
    · simp only [h1, h2, decide_false, Bool.false_and]

theorem row_val (W k x : Nat) (hW : W ≤ 8) (hk : k < 8) (hx : x < 18446744073709551616) :
    bits BinOp.or IntKind.u64 (x : Int) (IntKind.u64.wrap (IntKind.u64.wrap (IntKind.u64.wrap (2 ^ W) - 1) * 2 ^ (8 * k))) = ((x ||| ((2 ^ W - 1) * 2 ^ (8 * k)) : Nat) : Int) := by
  rw [wrap_pow W (by omega)]
  have hp := Nat.two_pow_pos W
  have h1 : 2 ^ W ≤ 2 ^ 8 := Nat.pow_le_pow_right (by decide) hW
  have e1 : IntKind.u64.wrap (((2 ^ W : Nat) : Int) - 1) = ((2 ^ W - 1 : Nat) : Int) := by
    rw [IntKind.wrap_u64]
    generalize 2 ^ W = n at hp h1
    omega
  rw [e1]
  have h2 := row_lt W k hW hk
  have e2 : ((2 ^ W - 1 : Nat) : Int) * 2 ^ (8 * k) = (((2 ^ W - 1) * 2 ^ (8 * k) : Nat) : Int) := by
    rw [Int.natCast_mul, Int.natCast_pow]; rfl
  rw [e2]
  have e3 : IntKind.u64.wrap ((((2 ^ W - 1) * 2 ^ (8 * k) : Nat)) : Int) = (((2 ^ W - 1) * 2 ^ (8 * k) : Nat) : Int) := by
    rw [IntKind.wrap_u64]
    generalize (2 ^ W - 1) * 2 ^ (8 * k) = n at h2
    have : n < 18446744073709551616 := by simpa using h2
    omega
  rw [e3]
  exact bits_or_u64_nat x _ hx (by simpa using h2)

set_option maxRecDepth 100000 in
theorem cells_any (G : Gd) (W H : Nat) (hW : G.wide = W) (hH : G.high = H) (w8 : W ≤ 8) (h8 : H ≤ 8) (p : Nat) (w : World) (hp : GrdAt w p 0 G) :
    Calls Tryd.prog 59 #[.pointer (some ⟨p, 0, none⟩)] w fun e w' => e = .returned (.int .u64 (cellsN G)) ∧ w = w' := by
  have R := Lib.hid (rows_cells G W H hW hH w8 h8)
  have a0 := hp.wide; have a1 := hp.high
  rw [Nat.zero_add] at a1
  rw [hW] at a0
  rw [hH] at a1
  clear hp hW hH
  go_enter Tryd.func59, Tryd.ntmps59
  go_wp2
  go_loop [4, 16] (fun m i => ∃ k : Nat, k ≤ H ∧ i = .int .i8 k ∧ m = .int .u64 (rowsTo W k)) (fun _ i => H - (intOf i).toNat)
  case atStart => exact ⟨0, by omega, rfl, rfl⟩
  case round =>
    obtain ⟨k, hk, rfl, rfl⟩ := hrel
    by_cases hlt : k < H
    · have V := Lib.hid (row_val W k (rowsTo W k) w8 (by omega) (rowsTo_lt W w8 k (by omega)))
      go_wp2
      go_round
      case rel => exact ⟨k + 1, by omega, by go_num, by rw [V.out]; rfl⟩
      case measure => simp [intOf]; omega
    · obtain rfl : k = H := by omega
      go_wp2
      go_ret
      exact ⟨by rw [← R.out]; rfl, rfl⟩
end Go.Proofs.YtcfkkceidlpdkaaDoor
