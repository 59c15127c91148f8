/- Arrays of 64 whole numbers. Condition: none. -/
import Derived.Test.YtjhaonfdapldcaaDoorBase
import Derived.Test.YtjhaonfdapldcaaDoorPl
import Derived.Test.YtjhaonfdapldcaaDoorHelp
namespace Go.Proofs.YtjhaonfdapldcaaDoor
open Go Go.RowKit
set_option linter.unusedSimpArgs false
set_option linter.unusedVariables false
set_option linter.constructorNameAsVariable false

/-- The first k are those of f, the others those of g. -/
def mixI (f g : Nat → Int) (k i : Nat) : Int := if i < k then f i else g i
def zI : Nat → Int := fun _ => 0
/-- An array of 64 whole numbers. -/
def Hf (f : Nat → Int) : Array Value := ((List.range 64).map fun i => Value.int .i16 (f i)).toArray
theorem Hf_size (f : Nat → Int) : (Hf f).size = 64 := by simp [Hf]
theorem Hf_at (f : Nat → Int) (i : Nat) (h : i < 64) : (Hf f)[i]? = some (.int .i16 (f i)) := by
  simp [Hf, h]
theorem Hf_congr {f g : Nat → Int} (h : ∀ i, i < 64 → f i = g i) : Hf f = Hf g := by
  have : (List.range 64).map (fun i => Value.int .i16 (f i)) = (List.range 64).map (fun i => Value.int .i16 (g i)) :=
    List.map_congr_left fun i hi => by rw [h i (by simpa using hi)]
  unfold Hf
  rw [this]
theorem Hf_put (f : Nat → Int) (k : Nat) (b : Int) : (Hf f).setIfInBounds k (.int .i16 b) = Hf (fun i => if i = k then b else f i) := by
  apply Array.ext
  · simp [Hf]
  · intro i h1 h2
    rw [Array.getElem_setIfInBounds]
    · simp only [Hf, List.getElem_toArray, List.getElem_map, List.getElem_range]
      by_cases e : k = i
      · subst e; simp
      · rw [if_neg e, if_neg (fun h => e h.symm)]
    · simpa [Hf] using h2
theorem Hf_set (f g : Nat → Int) (k : Nat) : (Hf (mixI f g k)).setIfInBounds k (.int .i16 (f k)) = Hf (mixI f g (k + 1)) := by
  rw [Hf_put]
  refine Hf_congr fun i _ => ?_
  simp only [mixI]
  by_cases e : i = k
  · subst e; simp
  · have : (i < k + 1) ↔ (i < k) := by omega
    simp [e, this]
theorem Hf_full (f g : Nat → Int) : Hf (mixI f g 64) = Hf f := Hf_congr fun i h => by simp [mixI, h]
theorem Hf_length (f : Nat → Int) : (Hf f).toList.length = 64 := by simp [Hf]
theorem Hf_one (f : Nat → Int) : (Hf f).all (·.oneCell') = true := by
  refine all_oneCell_toArray fun v hv => ?_
  simp only [List.mem_map] at hv
  obtain ⟨i, _, rfl⟩ := hv
  rfl
/-- An array of 64 whole numbers. -/
def Jf (f : Nat → Int) : Array Value := ((List.range 64).map fun i => Value.int .i64 (f i)).toArray
theorem Jf_size (f : Nat → Int) : (Jf f).size = 64 := by simp [Jf]
theorem Jf_at (f : Nat → Int) (i : Nat) (h : i < 64) : (Jf f)[i]? = some (.int .i64 (f i)) := by
  simp [Jf, h]
theorem Jf_congr {f g : Nat → Int} (h : ∀ i, i < 64 → f i = g i) : Jf f = Jf g := by
  have : (List.range 64).map (fun i => Value.int .i64 (f i)) = (List.range 64).map (fun i => Value.int .i64 (g i)) :=
    List.map_congr_left fun i hi => by rw [h i (by simpa using hi)]
  unfold Jf
  rw [this]
theorem Jf_put (f : Nat → Int) (k : Nat) (b : Int) : (Jf f).setIfInBounds k (.int .i64 b) = Jf (fun i => if i = k then b else f i) := by
  apply Array.ext
  · simp [Jf]
  · intro i h1 h2
    rw [Array.getElem_setIfInBounds]
    · simp only [Jf, List.getElem_toArray, List.getElem_map, List.getElem_range]
      by_cases e : k = i
      · subst e; simp
      · rw [if_neg e, if_neg (fun h => e h.symm)]
    · simpa [Jf] using h2
theorem Jf_set (f g : Nat → Int) (k : Nat) : (Jf (mixI f g k)).setIfInBounds k (.int .i64 (f k)) = Jf (mixI f g (k + 1)) := by
  rw [Jf_put]
  refine Jf_congr fun i _ => ?_
  simp only [mixI]
  by_cases e : i = k
  · subst e; simp
  · have : (i < k + 1) ↔ (i < k) := by omega
    simp [e, this]
theorem Jf_full (f g : Nat → Int) : Jf (mixI f g 64) = Jf f := Jf_congr fun i h => by simp [mixI, h]
theorem Jf_length (f : Nat → Int) : (Jf f).toList.length = 64 := by simp [Jf]
theorem Jf_one (f : Nat → Int) : (Jf f).all (·.oneCell') = true := by
  refine all_oneCell_toArray fun v hv => ?_
  simp only [List.mem_map] at hv
  obtain ⟨i, _, rfl⟩ := hv
  rfl

theorem infoH : (Tryd.prog.info? 36).map (·.size) = some 64 := by kernel_rfl
theorem infoLG : (Tryd.prog.info? 70).map (·.size) = some 64 := by kernel_rfl
theorem infoJ : (Tryd.prog.info? 106).map (·.size) = some 64 := by kernel_rfl
theorem index_H {op : Oper} {a : Act} {x y : Operand} {b o k : Nat} (ho : op.op = .indexAddr 36 x y) (hx : a.eval x = .pointer (some ⟨b, o, none⟩)) (hy : a.eval y = .int .i64 k) (hk : k < 64) (w : World) :
    (execOp a.eval op).run Tryd.prog w = .ok (.value (.pointer (some ⟨b, o + k, none⟩))) w := by
  unfold execOp
  simp only [ho, hx, hy]
  go_simp
  intro h
  omega
theorem index_LG {op : Oper} {a : Act} {x y : Operand} {b o k : Nat} (ho : op.op = .indexAddr 70 x y) (hx : a.eval x = .pointer (some ⟨b, o, none⟩)) (hy : a.eval y = .int .i64 k) (hk : k < 64) (w : World) :
    (execOp a.eval op).run Tryd.prog w = .ok (.value (.pointer (some ⟨b, o + k, none⟩))) w := by
  unfold execOp
  simp only [ho, hx, hy]
  go_simp
  intro h
  omega
theorem index_J {op : Oper} {a : Act} {x y : Operand} {b o k : Nat} (ho : op.op = .indexAddr 106 x y) (hx : a.eval x = .pointer (some ⟨b, o, none⟩)) (hy : a.eval y = .int .i64 k) (hk : k < 64) (w : World) :
    (execOp a.eval op).run Tryd.prog w = .ok (.value (.pointer (some ⟨b, o + k, none⟩))) w := by
  unfold execOp
  simp only [ho, hx, hy]
  go_simp
  intro h
  omega
/-- A value that fits the type [64]int16 is an array of 64 numbers. -/
theorem cell_i16 {W : World} {r : Reach} {base : Nat} {v : Value} (h : Cell.okWide Tryd.prog W r base 35 v) : ∃ b : Int, v = .int .i16 b ∧ -32768 ≤ b ∧ b ≤ 32767 := by
  have h2 : ∃ n, v = .int .i16 n ∧ IntKind.i16.has n := by
    simp only [Cell.okWide, Tryd.underlying35] at h
    cases v <;> simp_all [Cell.ok]
  obtain ⟨n, rfl, h3⟩ := h2
  exact ⟨n, rfl, h3.1, h3.2⟩
theorem typesH : Tryd.prog.cellTypes Tryd.prog.depth 36 = some (List.replicate 64 35) := by kernel_rfl
theorem cellsH : Tryd.prog.cellsOf 36 = 64 := by kernel_rfl
set_option maxRecDepth 100000 in
theorem okWide_hf {W : World} {base : Nat} {v : Value} (h : Value.okWide Tryd.prog W .any base 36 v) : ∃ f : Nat → Int, v = .agg (Hf f) ∧ ∀ i, i < 64 → -32768 ≤ f i ∧ f i ≤ 32767 := by
  simp only [Value.okWide, Tryd.underlying36] at h
  obtain ⟨cs, rfl, hsz, ts, hts, _, hc⟩ := h
  rw [typesH] at hts
  obtain rfl := Option.some.inj hts
  rw [cellsH] at hsz
  have hf : ∀ i, ∃ b : Int, i < 64 → cs[i]? = some (.int .i16 b) ∧ -32768 ≤ b ∧ b ≤ 32767 := fun i => by
    by_cases hi : i < 64
    · have hv : cs[i]? = some cs[i] := Array.getElem?_eq_getElem (by omega)
      obtain ⟨u, hu, ho⟩ := hc i _ hv
      have : i % (List.replicate 64 (35 : Nat)).length < 64 := by simp; omega
      simp only [List.getElem?_replicate, this, if_true, Option.some.injEq] at hu
      subst hu
      obtain ⟨b, hb, h1⟩ := cell_i16 ho
      exact ⟨b, fun _ => ⟨by rw [hv, hb], h1⟩⟩
    · exact ⟨0, fun h => absurd h hi⟩
  refine ⟨fun i => Classical.choose (hf i), ?_, fun i hi => (Classical.choose_spec (hf i) hi).2⟩
  congr 1
  apply Array.ext_getElem?
  intro i
  by_cases hi : i < 64
  · rw [Hf_at _ i hi]
    exact (Classical.choose_spec (hf i) hi).1
  · rw [Array.getElem?_eq_none (by omega), Array.getElem?_eq_none (by rw [Hf_size]; omega)]
theorem Hf_cell {w : World} {b o : Nat} {f : Nat → Int} (h : w.rangeAt b o (Hf f).toList) (k : Nat) (hk : k < 64) : w.cell? ⟨b, o + k, none⟩ = some (.int .i16 (f k)) := h k _ (by simpa using Hf_at f k hk)
theorem Jf_cell {w : World} {b o : Nat} {f : Nat → Int} (h : w.rangeAt b o (Jf f).toList) (k : Nat) (hk : k < 64) : w.cell? ⟨b, o + k, none⟩ = some (.int .i64 (f k)) := h k _ (by simpa using Jf_at f k hk)

/-- The first one of the greatest. -/
def mxd (d : Nat → Int) : Nat → Nat
  | 0 => 0
  | k + 1 => if d (mxd d k) < d (k + 1) then k + 1 else mxd d k
theorem mxd_le (d : Nat → Int) : ∀ k, mxd d k ≤ k
  | 0 => Nat.le_refl _
  | k + 1 => by
    have := mxd_le d k
    unfold mxd
    split <;> omega
theorem mxd_same {d : Nat → Int} (h : ∀ i, i < 64 → d i = 0) : ∀ k, k < 64 → mxd d k = 0
  | 0, _ => rfl
  | k + 1, hk => by
    have e := mxd_same h k (by omega)
    unfold mxd
    rw [e, h 0 (by omega), h (k + 1) hk]
    simp
end Go.Proofs.YtjhaonfdapldcaaDoor
