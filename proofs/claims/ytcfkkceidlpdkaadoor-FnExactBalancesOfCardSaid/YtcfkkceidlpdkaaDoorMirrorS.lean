/- MirrorGround: the model's. No condition. -/
import Derived.Test.YtcfkkceidlpdkaaDoorMade
import Derived.Test.YtcfkkceidlpdkaaDoorSumI
import Derived.Test.YtcfkkceidlpdkaaDoorLawKit
namespace Go.Proofs.YtcfkkceidlpdkaaDoor
open Go.RowKit
attribute [local go_sem] run_store_float
set_option linter.unusedSimpArgs false

/-- The mirrored number of a cell. -/
def mir (G : Gd) (i : Nat) : Nat := i - i % 8 + (G.wide.toNat - 1 - i % 8)

/-- A bit of a mask, moved. -/
def mvX (G : Gd) (x : Nat) (i : Nat) : Nat := if G.x.toNat.testBit i = true then x ||| 2 ^ mir G i else x
/-- One cell is mirrored. -/
def mirS (G : Gd) (H : Gd) (i : Nat) : Gd := { H with c := upd H.c (mir G i) (G.c i), g := upd H.g (mir G i) (G.g i), h := upd H.h (mir G i) (G.h i), x := (mvX G H.x.toNat i : Nat) }
def mirL (G : Gd) (l : List Nat) : Gd := l.foldl (mirS G) { G with x := 0 }
theorem mirS_eq {G H : Gd} {k j : Nat} {V : Int} (hj : mir G k = j) (hV : V = ((mvX G H.x.toNat k : Nat) : Int)) : mirS G H k = { H with c := upd H.c j (G.c k), g := upd H.g j (G.g k), h := upd H.h j (G.h k), x := V } := by
  subst hj
  subst hV
  rfl
theorem mirL_snoc (G : Gd) (l : List Nat) (i : Nat) : mirL G (l ++ [i]) = mirS G (mirL G l) i := by simp [mirL]

theorem mir_lt {G : Gd} {i : Nat} (hv : validB G = true) (hi : i < 64) (hb : isB G i = true) : mir G i < 64 ∧ mir G i = i - i % 8 + (G.wide.toNat - 1 - i % 8) ∧ i % 8 < G.wide.toNat ∧ i - i % 8 + 8 ≤ 64 := by
  obtain ⟨v1, v2, v3, v4⟩ := valid_ext hv
  simp only [isB, Bool.and_eq_true, decide_eq_true_eq] at hb
  unfold mir
  omega

/-- The list of the cells, in order. -/
def cellL (G : Gd) : List Nat := (List.range 64).filter (isB G)
theorem cellL_bits (G : Gd) : bitsL (cellsN G) = cellL G := by
  unfold bitsL cellL
  refine List.filter_congr fun i hi => ?_
  rw [cellsN_testBit]
  simp at hi
  simp [hi]
/-- The first of them. -/
def cellTo (G : Gd) (k : Nat) : List Nat := (List.range k).filter (isB G)
theorem cellTo_succ (G : Gd) (k : Nat) : cellTo G (k + 1) = if isB G k = true then cellTo G k ++ [k] else cellTo G k := by
  unfold cellTo
  rw [List.range_succ, List.filter_append]
  cases h : isB G k <;> simp [h]

def mirG (G : Gd) : Gd := if validB G = true then mirL G (cellL G) else zG
def mirN (G : Gd) : Int := if validB G = true then 0 else 1

/-- Of one bit of a mask, moved, as the model computes it. -/
theorem mv_val (X x i j : Nat) (hX : X < 18446744073709551616) (hj : j < 64) :
    bits .or .u64 (X : Int) (IntKind.u64.wrap (((x : Int) / 2 ^ i).tmod 2 * 2 ^ j)) = (((if x.testBit i = true then X ||| 2 ^ j else X) : Nat) : Int) := by
  have e1 : ((x : Int) / 2 ^ i).tmod 2 = ((x / 2 ^ i % 2 : Nat) : Int) := by
    rw [Int.tmod_eq_emod_of_nonneg (Int.ediv_nonneg (by omega) (by have := Int.pow_pos (n := 2) (m := i) (by omega); omega))]
    simp
  have e2 : x / 2 ^ i % 2 = (x.testBit i).toNat := by
    rw [Nat.testBit_eq_decide_div_mod_eq]
    have : x / 2 ^ i % 2 = 0 ∨ x / 2 ^ i % 2 = 1 := by omega
    rcases this with h | h <;> simp [h]
  rw [e1, e2]
  cases x.testBit i
  · have : IntKind.u64.wrap (((false.toNat : Nat) : Int) * 2 ^ j) = ((0 : Nat) : Int) := by simp [IntKind.wrap_u64]
    rw [this, bits_or_u64_nat X 0 hX (by omega)]
    simp
  · have : IntKind.u64.wrap (((true.toNat : Nat) : Int) * 2 ^ j) = ((2 ^ j : Nat) : Int) := by
      rw [← wrap_pow j hj]; simp
    rw [this, bits_or_u64_nat X _ hX (by have : 2 ^ j < 2 ^ 64 := Nat.pow_lt_pow_right (by decide) hj; simpa using this)]
    simp

/-- Masks stay within their kind. -/
theorem mirL_x (G : Gd) (hv : validB G = true) : ∀ (l : List Nat), (∀ i ∈ l, i < 64 ∧ isB G i = true) → ∃ n : Nat, (mirL G l).x = n ∧ n < 18446744073709551616 := by
  intro l
  rw [← List.reverse_reverse l]
  induction l.reverse with
  | nil => intro _; exact ⟨0, rfl, by omega⟩
  | cons i r ih =>
    intro h
    rw [List.reverse_cons] at h ⊢
    obtain ⟨n, h1, h2⟩ := ih (fun j hj => h j (by simp at hj ⊢; exact .inl hj))
    obtain ⟨m1, _⟩ := mir_lt hv (h i (by simp)).1 (h i (by simp)).2
    rw [mirL_snoc]
    refine ⟨mvX G (mirL G r.reverse).x.toNat i, rfl, ?_⟩
    rw [h1, Int.toNat_natCast]
    unfold mvX
    split
    · have : n ||| 2 ^ mir G i < 2 ^ 64 := Nat.or_lt_two_pow (by simpa using h2) (Nat.pow_lt_pow_right (by decide) m1)
      simpa using this
    · exact h2

theorem cellTo_ok (G : Gd) (k : Nat) (hk : k ≤ 64) : ∀ i ∈ cellTo G k, i < 64 ∧ isB G i = true := fun i hi => by
  simp only [cellTo, List.mem_filter, List.mem_range] at hi
  exact ⟨by omega, hi.2⟩
/-- The mask of a round. -/
theorem mv_ground (G : Gd) (k j : Nat) (hv : validB G = true) (hk : k < 64) (hj : mir G k = j) (hj2 : j < 64) (hG : GdOk G) :
    bits .or .u64 (mirL G (cellTo G k)).x (IntKind.u64.wrap ((G.x / 2 ^ k).tmod 2 * 2 ^ j)) = ((mvX G (mirL G (cellTo G k)).x.toNat k : Nat) : Int) := by
  obtain ⟨n, h1, h2⟩ := mirL_x G hv _ (cellTo_ok G k (by omega))
  have hx := hG.x'
  obtain ⟨x, h3⟩ : ∃ x : Nat, G.x = x := ⟨G.x.toNat, by omega⟩
  rw [h1, h3, mv_val n x k j h2 hj2, Int.toNat_natCast]
  unfold mvX
  rw [h3, hj, Int.toNat_natCast]

end Go.Proofs.YtcfkkceidlpdkaaDoor
