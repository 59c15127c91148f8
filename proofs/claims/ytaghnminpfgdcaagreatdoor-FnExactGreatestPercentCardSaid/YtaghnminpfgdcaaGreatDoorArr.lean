/- Arrays of 64 whole numbers. Condition: none. -/
import Derived.Test.YtaghnminpfgdcaaGreatDoorBase
import Derived.Test.YtaghnminpfgdcaaGreatDoorPl
import Derived.Test.YtaghnminpfgdcaaGreatDoorHelp
namespace Go.Proofs.YtaghnminpfgdcaaGreatDoor
open Go Go.RowKit
set_option linter.unusedSimpArgs false
set_option linter.unusedVariables false
set_option linter.constructorNameAsVariable false

/-- The first k are those of f, the others those of g. -/
def mixI (f g : Nat → Int) (k i : Nat) : Int := if i < k then f i else g i
def zI : Nat → Int := fun _ => 0
/-- An array of 64 whole numbers. -/
def Hf (f : Nat → Int) : Array Value := ((List.range 64).map fun i => Value.int .i16 (f i)).toArray
theorem Hf_size (f : Nat → Int) : (Hf f).size = 64 := by simp [Hf]
theorem Hf_at (f : Nat → Int) (i : Nat) (h : i < 64) : (Hf f)[i]? = some (.int .i16 (f i)) := by
  simp [Hf, h]
theorem Hf_congr {f g : Nat → Int} (h : ∀ i, i < 64 → f i = g i) : Hf f = Hf g := by
  have : (List.range 64).map (fun i => Value.int .i16 (f i)) = (List.range 64).map (fun i => Value.int .i16 (g i)) :=
    List.map_congr_left fun i hi => by rw [h i (by simpa using hi)]
  unfold Hf
  rw [this]
theorem Hf_put (f : Nat → Int) (k : Nat) (b : Int) : (Hf f).setIfInBounds k (.int .i16 b) = Hf (fun i => if i = k then b else f i) := by
  apply Array.ext
  · simp [Hf]
  · intro i h1 h2
    rw [Array.getElem_setIfInBounds]
    · simp only [Hf, List.getElem_toArray, List.getElem_map, List.getElem_range]
      by_cases e : k = i
      · subst e; simp
      · rw [if_neg e, if_neg (fun h => e h.symm)]
    · simpa [Hf] using h2
theorem Hf_set (f g : Nat → Int) (k : Nat) : (Hf (mixI f g k)).setIfInBounds k (.int .i16 (f k)) = Hf (mixI f g (k + 1)) := by
  rw [Hf_put]
  refine Hf_congr fun i _ => ?_
  simp only [mixI]
  by_cases e : i = k
  · subst e; simp
  · have : (i < k + 1) ↔ (i < k) := by omega
    simp [e, this]
theorem Hf_full (f g : Nat → Int) : Hf (mixI f g 64) = Hf f := Hf_congr fun i h => by simp [mixI, h]
theorem Hf_length (f : Nat → Int) : (Hf f).toList.length = 64 := by simp [Hf]
theorem Hf_one (f : Nat → Int) : (Hf f).all (·.oneCell') = true := by
  refine all_oneCell_toArray fun v hv => ?_
  simp only [List.mem_map] at hv
  obtain ⟨i, _, rfl⟩ := hv
  rfl
/-- An array of 64 whole numbers. -/
def Jf (f : Nat → Int) : Array Value := ((List.range 64).map fun i => Value.int .i64 (f i)).toArray
theorem Jf_size (f : Nat → Int) : (Jf f).size = 64 := by simp [Jf]
theorem Jf_at (f : Nat → Int) (i : Nat) (h : i < 64) : (Jf f)[i]? = some (.int .i64 (f i)) := by
  simp [Jf, h]
theorem Jf_congr {f g : Nat → Int} (h : ∀ i, i < 64 → f i = g i) : Jf f = Jf g := by
  have : (List.range 64).map (fun i => Value.int .i64 (f i)) = (List.range 64).map (fun i => Value.int .i64 (g i)) :=
    List.map_congr_left fun i hi => by rw [h i (by simpa using hi)]
  unfold Jf
  rw [this]
theorem Jf_put (f : Nat → Int) (k : Nat) (b : Int) : (Jf f).setIfInBounds k (.int .i64 b) = Jf (fun i => if i = k then b else f i) := by
  apply Array.ext
  · simp [Jf]
  · intro i h1 h2
    rw [Array.getElem_setIfInBounds]
    · simp only [Jf, List.getElem_toArray, List.getElem_map, List.getElem_range]
      by_cases e : k = i
      · subst e; simp
      · rw [if_neg e, if_neg (fun h => e h.symm)]
    · simpa [Jf] using h2
theorem Jf_set (f g : Nat → Int) (k : Nat) : (Jf (mixI f g k)).setIfInBounds k (.int .i64 (f k)) = Jf (mixI f g (k + 1)) := by
  rw [Jf_put]
  refine Jf_congr fun i _ => ?_
  simp only [mixI]
  by_cases e : i = k
  · subst e; simp
  · have : (i < k + 1) ↔ (i < k) := by omega
    simp [e, this]
theorem Jf_full (f g : Nat → Int) : Jf (mixI f g 64) = Jf f := Jf_congr fun i h => by simp [mixI, h]
theorem Jf_length (f : Nat → Int) : (Jf f).toList.length = 64 := by simp [Jf]
theorem Jf_one (f : Nat → Int) : (Jf f).all (·.oneCell') = true := by
  refine all_oneCell_toArray fun v hv => ?_
  simp only [List.mem_map] at hv
  obtain ⟨i, _, rfl⟩ := hv
  rfl

/-- A value that fits the type [64]int16 is an array of 64 numbers. -/
theorem cell_i16 {W : World} {r : Reach} {base : Nat} {v : Value} (h : Cell.okWide Tryz.prog W r base 80 v) : ∃ b : Int, v = .int .i16 b ∧ -32768 ≤ b ∧ b ≤ 32767 := by
  have h2 : ∃ n, v = .int .i16 n ∧ IntKind.i16.has n := by
    simp only [Cell.okWide, Tryz.underlying80] at h
    cases v <;> simp_all [Cell.ok]
  obtain ⟨n, rfl, h3⟩ := h2
  exact ⟨n, rfl, h3.1, h3.2⟩
theorem Hf_cell {w : World} {b o : Nat} {f : Nat → Int} (h : w.rangeAt b o (Hf f).toList) (k : Nat) (hk : k < 64) : w.cell? ⟨b, o + k, none⟩ = some (.int .i16 (f k)) := h k _ (by simpa using Hf_at f k hk)
theorem Jf_cell {w : World} {b o : Nat} {f : Nat → Int} (h : w.rangeAt b o (Jf f).toList) (k : Nat) (hk : k < 64) : w.cell? ⟨b, o + k, none⟩ = some (.int .i64 (f k)) := h k _ (by simpa using Jf_at f k hk)

/-- The first one of the greatest. -/
def mxd (d : Nat → Int) : Nat → Nat
  | 0 => 0
  | k + 1 => if d (mxd d k) < d (k + 1) then k + 1 else mxd d k
theorem mxd_le (d : Nat → Int) : ∀ k, mxd d k ≤ k
  | 0 => Nat.le_refl _
  | k + 1 => by
    have := mxd_le d k
    unfold mxd
    split <;> omega
theorem mxd_same {d : Nat → Int} (h : ∀ i, i < 64 → d i = 0) : ∀ k, k < 64 → mxd d k = 0
  | 0, _ => rfl
  | k + 1, hk => by
    have e := mxd_same h k (by omega)
    unfold mxd
    rw [e, h 0 (by omega), h (k + 1) hk]
    simp
end Go.Proofs.YtaghnminpfgdcaaGreatDoor
