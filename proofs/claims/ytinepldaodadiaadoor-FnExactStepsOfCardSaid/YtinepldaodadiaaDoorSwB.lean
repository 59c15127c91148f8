/- SweepColour: the program's and the model's. (The program's: the table of math/bits is laid.) No condition. · SweepBoth: the program's and the model's. (The program's: the table of math/bits is laid.) No condition. · RelaxedSweep: the program's and the model's. (The program's: the table of math/bits is laid.) No condition. · IsStill: the program's and the model's. (The program's: the table of math/bits is laid.) No condition. -/
import Derived.Test.YtinepldaodadiaaDoorMsA
import Derived.Test.YtinepldaodadiaaDoorPl
namespace Go.Proofs.YtinepldaodadiaaDoor

section
open Go.RowKit Go.Shelf
attribute [local go_sem] Oper.semAt_some run_store_float
set_option linter.unusedSimpArgs false
set_option linter.unusedVariables false

/-- What the sweep of a colour hands back. -/
def colV (G : Gd) (c : Int) : Value := if validB G = true then (if c = 0 ∨ c = 1 then sweptV (nxC c) G else .tuple #[.agg (Grd zG), .float .f32 0, .int .i64 2]) else .tuple #[.agg (Grd zG), .float .f32 0, .int .i64 1]
theorem colV_is (G : Gd) (c : Int) : ∃ (A : Gd) (m : Nat) (n : Int), colV G c = .tuple #[.agg (Grd A), .float .f32 m, .int .i64 n] := by
  unfold colV
  split
  · split
    · exact sweptV_is _ _
    · exact ⟨_, _, _, rfl⟩
  · exact ⟨_, _, _, rfl⟩

set_option maxRecDepth 100000 in
set_option maxHeartbeats 2000000 in
theorem l00InG_is (n a b : Int) (r : Bool) (h : (decide (a ≤ n) && decide (n ≤ b)) = r) (w : World) : Calls Tryd.prog 18 #[.int .i64 n, .int .i64 a, .int .i64 b] w fun e w' => e = .returned (.bool r) ∧ w = w' := by
  subst h
  by_cases h1 : a ≤ n
  · by_cases h2 : n ≤ b
    · rw [show (decide (a ≤ n) && decide (n ≤ b)) = true by simp [h1, h2]]
      go_enter Tryd.func18, Tryd.ntmps18
      go_wp2
      go_ret
      exact ⟨rfl, rfl⟩
    · rw [show (decide (a ≤ n) && decide (n ≤ b)) = false by simp [h2]]
      go_enter Tryd.func18, Tryd.ntmps18
      go_wp2
      go_ret
      exact ⟨rfl, rfl⟩
  · rw [show (decide (a ≤ n) && decide (n ≤ b)) = false by simp [h1]]
    go_enter Tryd.func18, Tryd.ntmps18
    go_wp2
    go_ret
    exact ⟨rfl, rfl⟩

end

section
open Go.RowKit Go.Shelf
attribute [local go_sem] Oper.semAt_some run_store_float
set_option linter.unusedSimpArgs false
set_option linter.unusedVariables false

/-- A sweep as it is reckoned. -/
def swF (nx : Gd → Nat → Option Nat) (G : Gd) : Gd × Bool × Nat := swp nx G (bitsL (cellsN G))
def zV (n : Int) : Value := .tuple #[.agg (Grd zG), .float .f32 0, .int .i64 n]
def bothV (G : Gd) : Value := if validB G = true then (if (swF (nxC 0) G).2.1 = true then (if (swF (nxC 1) (swF (nxC 0) G).1).2.1 = true then .tuple #[.agg (Grd (swF (nxC 1) (swF (nxC 0) G).1).1), .float .f32 (maxN (swF (nxC 0) G).2.2 (swF (nxC 1) (swF (nxC 0) G).1).2.2), .int .i64 0] else zV 4) else zV 4) else zV 1
theorem bothV_is (G : Gd) : ∃ (A : Gd) (m : Nat) (n : Int), bothV G = .tuple #[.agg (Grd A), .float .f32 m, .int .i64 n] := by
  unfold bothV zV
  split
  · split
    · split
      · exact ⟨_, _, _, rfl⟩
      · exact ⟨_, _, _, rfl⟩
    · exact ⟨_, _, _, rfl⟩
  · exact ⟨_, _, _, rfl⟩
theorem swF_valid {nx : Gd → Nat → Option Nat} {G : Gd} (hv : validB G = true) (hG : GdOk G) (h : (swF nx G).2.1 = true) : validB (swF nx G).1 = true ∧ GdOk (swF nx G).1 :=
  swp_valid nx hv hG (bitsL (cellsN G)) (by rw [cellL_bits]; exact cellTo_ok G 64 (Nat.le_refl _)) h
theorem sweptV_yes {nx : Gd → Nat → Option Nat} {G : Gd} (h : (swF nx G).2.1 = true) : sweptV nx G = .tuple #[.agg (Grd (swF nx G).1), .float .f32 (swF nx G).2.2, .int .i64 0] := by
  unfold swF at h ⊢
  simp [sweptV, h]
theorem sweptV_no {nx : Gd → Nat → Option Nat} {G : Gd} (h : (swF nx G).2.1 = false) : sweptV nx G = zV 4 := by
  unfold swF at h
  simp [sweptV, h, zV]
/-- What sweeps return as the greatest change is a size. -/
theorem swFold_size (nx : Gd → Nat → Option Nat) (G : Gd) : ∀ n, n ≤ 64 → validB G = true → GdOk G → (swp nx G (cellTo G n)).2.1 = true → nanK .f32 (swp nx G (cellTo G n)).2.2 = false ∧ (swp nx G (cellTo G n)).2.2 < 2147483648
  | 0, _, _, _, _ => ⟨by show nanK .f32 0 = false; decide +kernel, by show 0 < 2147483648; omega⟩
  | n + 1, hn, hv, hG, ho => by
    rw [cellTo_succ] at ho ⊢
    cases hi : isB G n
    · rw [hi] at ho
      simp only [Bool.false_eq_true, if_false] at ho ⊢
      exact swFold_size nx G n (by omega) hv hG ho
    · rw [hi] at ho
      simp only [if_true] at ho ⊢
      rw [swp_snoc] at ho ⊢
      have h2 : ((swp nx G (cellTo G n)).2.1 && plainO (nx (swp nx G (cellTo G n)).1 n)) = true := ho
      rw [Bool.and_eq_true] at h2
      obtain ⟨m1, m2⟩ := swFold_size nx G n (by omega) hv hG h2.1
      have hb : plainB ((nx (swp nx G (cellTo G n)).1 n).getD 0) = true := by
        have h3 := h2.2
        cases hx : nx (swp nx G (cellTo G n)).1 n with
        | none => rw [hx] at h3; cases h3
        | some b => rw [hx] at h3; exact h3
      have hh : plainB ((swp nx G (cellTo G n)).1.h n) = true := by
        rw [swp_other nx G n n (Nat.le_refl _)]
        exact valid_heads hv (by omega) hi
      obtain ⟨n1, n2⟩ := chgN_ok hb hh
      exact maxN_ok m1 m2 n1 n2
theorem swF_size {nx : Gd → Nat → Option Nat} {G : Gd} (hv : validB G = true) (hG : GdOk G) (h : (swF nx G).2.1 = true) : nanK .f32 (swF nx G).2.2 = false ∧ (swF nx G).2.2 < 2147483648 := by
  have e : bitsL (cellsN G) = cellTo G 64 := cellL_bits G
  unfold swF at h ⊢
  rw [e] at h ⊢
  exact swFold_size nx G 64 (Nat.le_refl _) hv hG h
theorem col_no {G : Gd} {c : Int} (hv : validB G = false) : colV G c = zV 1 := by simp [colV, hv, zV]
theorem col_is {G : Gd} {c : Int} (hv : validB G = true) (hc : c = 0 ∨ c = 1) : colV G c = sweptV (nxC c) G := by simp [colV, hv, hc]

end

section
open Go.RowKit Go.Shelf
attribute [local go_sem] Oper.semAt_some run_store_float
set_option linter.unusedSimpArgs false
set_option linter.unusedVariables false

/-- The next head in a sweep that moves heads by a share. -/
def nxR (s : Nat) (H : Gd) (k : Nat) : Option Nat := if H.x.toNat.testBit k = true then num .f32 (H.h k) else fop .f32 .add (num .f32 (H.h k)) (fop .f32 .mul (num .f32 s) (fop .f32 .sub (headO H k) (num .f32 (H.h k))))
theorem nxR_fix {s : Nat} {H : Gd} {k : Nat} (h : H.x.toNat.testBit k = true) : nxR s H k = num .f32 (H.h k) := by simp [nxR, h]
theorem nxR_free {s : Nat} {H : Gd} {k : Nat} (h : H.x.toNat.testBit k = false) : nxR s H k = fop .f32 .add (num .f32 (H.h k)) (fop .f32 .mul (num .f32 s) (fop .f32 .sub (headO H k) (num .f32 (H.h k)))) := by simp [nxR, h]
def shB (s : Nat) : Bool := (FloatKind.f32.format.order s 0 == some Ordering.gt || FloatKind.f32.format.order s 0 == some Ordering.eq) && (FloatKind.f32.format.order s 1073741824 == some Ordering.lt || FloatKind.f32.format.order s 1073741824 == some Ordering.eq)

def relV (G : Gd) (s : Nat) : Value := if validB G = true then (if shB s = true then sweptV (nxR s) G else .tuple #[.agg (Grd zG), .float .f32 0, .int .i64 2]) else .tuple #[.agg (Grd zG), .float .f32 0, .int .i64 1]
theorem relV_is (G : Gd) (s : Nat) : ∃ (A : Gd) (m : Nat) (n : Int), relV G s = .tuple #[.agg (Grd A), .float .f32 m, .int .i64 n] := by
  unfold relV
  split
  · split
    · exact sweptV_is _ _
    · exact ⟨_, _, _, rfl⟩
  · exact ⟨_, _, _, rfl⟩

end

section
open Go.RowKit Go.Shelf
attribute [local go_sem] Oper.semAt_some run_store_float
set_option linter.unusedSimpArgs false
set_option linter.unusedVariables false

/-- Is a number at most another one? -/
def leX (m x : Nat) : Bool := (FloatKind.f32.format.order m x == some Ordering.lt || FloatKind.f32.format.order m x == some Ordering.eq)
def nxS (G : Gd) : Gd → Nat → Option Nat := fun _ k => headO G k
def stillV (G : Gd) (x : Nat) : Bool × Int := if validB G = true then (if amtB x = true then (if (swF (nxS G) G).2.1 = true then (leX (swF (nxS G) G).2.2 x, 0) else (false, 4)) else (false, 2)) else (false, 1)
theorem step_no {G : Gd} (hv : validB G = false) : stepV G = .tuple #[.agg (Grd zG), .float .f32 0, .int .i64 1] := by simp [stepV, hv]
theorem step_yes {G : Gd} (hv : validB G = true) : stepV G = sweptV (nxS G) G := by simp [stepV, hv]; rfl

end
end Go.Proofs.YtinepldaodadiaaDoor
