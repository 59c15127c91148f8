/- SharesOfOwners, on both sides. Condition: the list is short, and its numbers fit. -/
import Derived.Test.YtaghnminpfgdcaaGreatDoorAre
import Derived.Test.YtaghnminpfgdcaaGreatDoorArr
namespace Go.Proofs.YtaghnminpfgdcaaGreatDoor
open Go Go.RowKit
set_option linter.unusedSimpArgs false
set_option linter.unusedVariables false
/-- An array of 8 whole numbers. -/
def Ef (f : Nat → Int) : Array Value := ((List.range 8).map fun i => Value.int .i64 (f i)).toArray
theorem Ef_size (f : Nat → Int) : (Ef f).size = 8 := by simp [Ef]
theorem Ef_at (f : Nat → Int) (i : Nat) (h : i < 8) : (Ef f)[i]? = some (.int .i64 (f i)) := by
  simp [Ef, h]
theorem Ef_congr {f g : Nat → Int} (h : ∀ i, i < 8 → f i = g i) : Ef f = Ef g := by
  have : (List.range 8).map (fun i => Value.int .i64 (f i)) = (List.range 8).map (fun i => Value.int .i64 (g i)) :=
    List.map_congr_left fun i hi => by rw [h i (by simpa using hi)]
  unfold Ef
  rw [this]
theorem Ef_put (f : Nat → Int) (k : Nat) (b : Int) : (Ef f).setIfInBounds k (.int .i64 b) = Ef (fun i => if i = k then b else f i) := by
  apply Array.ext
  · simp [Ef]
  · intro i h1 h2
    rw [Array.getElem_setIfInBounds]
    · simp only [Ef, List.getElem_toArray, List.getElem_map, List.getElem_range]
      by_cases e : k = i
      · subst e; simp
      · rw [if_neg e, if_neg (fun h => e h.symm)]
    · simpa [Ef] using h2
theorem Ef_length (f : Nat → Int) : (Ef f).toList.length = 8 := by simp [Ef]
theorem Ef_one (f : Nat → Int) : (Ef f).all (·.oneCell') = true := by
  refine all_oneCell_toArray fun v hv => ?_
  simp only [List.mem_map] at hv
  obtain ⟨i, _, rfl⟩ := hv
  rfl
theorem Ef_cell {w : World} {b o : Nat} {f : Nat → Int} (h : w.rangeAt b o (Ef f).toList) (k : Nat) (hk : k < 8) : w.cell? ⟨b, o + k, none⟩ = some (.int .i64 (f k)) := h k _ (by simpa using Ef_at f k hk)
theorem new_thereE (t : TypeId) (w : World) : (w.alloc (.cells (Ef zI) t)).there w.heap.size 0 8 := there_row (heap_alloc_last w _) (Ef_size zI)
theorem stored_E (t : TypeId) (W : World) : ∃ X, (W.alloc (.cells (Ef zI) t)).setCells W.heap.size 0 (Ef zI).toList = X ∧ X.heap.size = W.heap.size + 1 ∧ X.rangeAt W.heap.size 0 (Ef zI).toList ∧ X.there W.heap.size 0 8 ∧ Below W.heap.size W X := by
  have hth := new_thereE t W
  exact ⟨_, rfl, by rw [sizeS]; simp, World.rangeAt_setCells_same _ _ _ _ (by rw [Ef_length]; exact hth), World.there_setCells hth _ _ _, below_setCells _ (Nat.le_refl _) _ _ _ ((Below.refl _ _).alloc (Nat.le_refl _) _)⟩
theorem Ef_upd {W : World} {b k : Nat} {x : Int} {f : Nat → Int} (h : W.rangeAt b 0 (Ef f).toList) (hk : k < 8) (ht : (W.cell? ⟨b, k, none⟩).isSome = true) :
    (W.setCell ⟨b, k, none⟩ (.int .i64 x)).rangeAt b 0 (Ef (fun i => if i = k then x else f i)).toList := fun j v hv => by
  have hj : j < 8 := by have := (List.getElem?_eq_some_iff.1 hv).1; rwa [Ef_length] at this
  rw [Nat.zero_add]
  have hv2 : v = .int .i64 (if j = k then x else f j) := by
    have := Ef_at (fun i => if i = k then x else f i) j hj
    rw [Array.getElem?_toList, this] at hv
    exact (Option.some.inj hv).symm
  subst hv2
  by_cases e : j = k
  · subst e
    rw [if_pos rfl]
    exact World.cell?_setCell_same' _ _ _ ht
  · rw [if_neg e, cell_other (fun h => e (by injection h with _ h2; exact h2.symm))]
    have := h j (.int .i64 (f j)) (by rw [Array.getElem?_toList]; exact Ef_at f j hj)
    rwa [Nat.zero_add] at this
theorem there1 {w : World} {b n k : Nat} (h : w.there b 0 n) (hk : k < n) : w.there b (0 + k) 1 := fun j hj => by
  have := h k hk
  have e : 0 + k + j = 0 + k := by omega
  rw [e]; exact this
theorem thereQ {w w' : World} {b n : Nat} (h : w.there b 0 n) (hq : Quiet w w') : w'.there b 0 n := by
  obtain ⟨m, rfl⟩ := hq
  exact h
theorem thereSet {W : World} {b b' k n : Nat} {v : Value} (h : W.there b 0 n) : (W.setCell ⟨b', k, none⟩ v).there b 0 n := World.there_setCells h b' k [v]

/-- The sums of rates. -/
def shStep (f : Nat → Int) (e : P3) : Nat → Int := fun i => if i = e.1.toNat then f i + e.2.2 else f i
def shF (L : List P3) : Nat → Int := L.foldl shStep zI
theorem shF_snoc (L : List P3) (e : P3) : shF (L ++ [e]) = shStep (shF L) e := by simp [shF]
theorem shF_take {L : List P3} {k : Nat} {e : P3} (h : L[k]? = some e) : shF (L.take (k + 1)) = shStep (shF (L.take k)) e := by
  rw [List.take_add_one, h]; exact shF_snoc _ _
theorem shF_le {L : List P3} (h : ∀ e ∈ L, 0 ≤ e.2.2 ∧ e.2.2 ≤ 400) : ∀ k, k ≤ L.length → ∀ i, 0 ≤ shF (L.take k) i ∧ shF (L.take k) i ≤ 400 * (k : Int)
  | 0, _, i => by simp [shF, zI]
  | k + 1, hk, i => by
    obtain ⟨e, he⟩ : ∃ e, L[k]? = some e := ⟨_, List.getElem?_eq_getElem (by omega)⟩
    rw [shF_take he]
    have h1 := shF_le h k (by omega) i
    have h2 := h e (List.mem_of_getElem? he)
    unfold shStep
    split
    · omega
    · omega
/-- Are all permits as they should be? -/
def shareB (L : List P3) : Bool := decide (L.length ≤ 6) && L.all fun x => ownB x && rateB x
def shareV (L : List P3) : Value := if shareB L = true then .tuple #[.agg (Ef (shF L)), .int .i64 0] else .tuple #[.agg (Ef zI), .int .i64 1]

set_option maxRecDepth 100000 in
set_option maxHeartbeats 4000000 in
theorem l00InP (x y z : Int) (w : World) : Calls Tryz.prog 110 #[.int .i64 x, .int .i64 y, .int .i64 z] w fun e w' => e = .returned (.bool (decide (y ≤ x) && decide (x ≤ z))) ∧ w' = w := by
  by_cases h1 : y ≤ x
  · by_cases h2 : x ≤ z
    · rw [show (decide (y ≤ x) && decide (x ≤ z)) = true by simp [h1, h2]]
      go_enter Tryz.func110, Tryz.ntmps110
      go_wp2
      go_ret
      exact ⟨rfl, rfl⟩
    · rw [show (decide (y ≤ x) && decide (x ≤ z)) = false by simp [h2]]
      go_enter Tryz.func110, Tryz.ntmps110
      go_wp2
      go_ret
      exact ⟨rfl, rfl⟩
  · rw [show (decide (y ≤ x) && decide (x ≤ z)) = false by simp [h1]]
    go_enter Tryz.func110, Tryz.ntmps110
    go_wp2
    go_ret
    exact ⟨rfl, rfl⟩
/-- The numbers fit. -/
def okP3 (e : P3) : Prop := (-128 ≤ e.1 ∧ e.1 ≤ 127) ∧ (-128 ≤ e.2.1 ∧ e.2.1 ≤ 127) ∧ (-32768 ≤ e.2.2 ∧ e.2.2 ≤ 32767)
theorem all_and2 (f g : P3 → Bool) : ∀ L : List P3, (L.all f && L.all g) = L.all fun x => g x && f x
  | [] => rfl
  | x :: L => by
    have h := all_and2 f g L
    simp only [List.all_cons]
    rw [← h]
    cases f x <;> cases g x <;> simp
theorem shareB_of {L : List P3} (h : shareB L = true) : L.length ≤ 6 ∧ ∀ e ∈ L, (0 ≤ e.1 ∧ e.1 ≤ 7) ∧ (0 ≤ e.2.2 ∧ e.2.2 ≤ 400) := by
  unfold shareB at h
  rw [Bool.and_eq_true] at h
  refine ⟨by simpa using h.1, fun e he => ?_⟩
  have := List.all_eq_true.1 h.2 e he
  unfold ownB rateB at this
  simp only [Bool.and_eq_true, decide_eq_true_eq] at this
  exact this
/-- A sum more, in the block. -/
theorem sh_put {W : World} {N : Nat} {L : List P3} {k j : Nat} {xc r : Int} (h : W.rangeAt N 0 (Ef (shF (L.take k))).toList) (ht : W.there N 0 8) (hj : j < 8) (hx : L[k]? = some ((j : Int), xc, r)) :
    (W.setCell ⟨N, 0 + j, none⟩ (.int .i64 (shF (L.take k) j + r))).rangeAt N 0 (Ef (shF (L.take (k + 1)))).toList := by
  have e : (fun i => if i = j then shF (L.take k) j + r else shF (L.take k) i) = shF (L.take (k + 1)) := by
    rw [shF_take hx]
    funext i
    unfold shStep
    rw [Int.toNat_natCast]
    by_cases h : i = j
    · subst h; simp
    · rw [if_neg h, if_neg h]
  rw [← e, Nat.zero_add]
  exact Ef_upd h hj (by have := (ht j hj).1; rwa [Nat.zero_add] at this)
theorem take_all_no {f : P3 → Bool} {L : List P3} {k : Nat} (h : (L.take k).all f = false) : L.all f = false := by
  rw [List.all_eq_false] at h ⊢
  obtain ⟨x, hx, hf⟩ := h
  exact ⟨x, List.mem_of_mem_take hx, hf⟩
theorem there_belowN {w w' : World} {b n B : Nat} (h : w.there b 0 n) (hb : b < B) (hB : Below B w w') : w'.there b 0 n := fun j hj => by
  obtain ⟨h1, h2⟩ := h j hj
  exact ⟨by rw [hB.cell (p := ⟨b, 0 + j, none⟩) hb]; exact h1, by rw [hB.frozen (p := ⟨b, 0 + j, none⟩) hb]; exact h2⟩
theorem results_rt {P : Program} {fn : Func} {p q : Tmp} {ty : TypeId} (h : fn.results = #[.cell p ty, .tmp q]) (tmps : Array Value) (w : World) (b : Nat) (cs : List Value) (x : Value) {d : TypeDesc}
    (hp : tmps.getD p undef = .pointer (some ⟨b, 0, none⟩)) (hq : tmps.getD q undef = x) (hc : w.rangeAt b 0 cs)
    (hu : P.underlying ty = some d) (hd : d.isRow = true) (hi : (P.info? ty).map (·.size) = some cs.length) :
    (results fn tmps).run P w = .ok (.tuple #[.agg cs.toArray, x]) w := by
  have hp' : tmps[p]?.getD undef = .pointer (some ⟨b, 0, none⟩) := by simpa using hp
  have hq' : tmps[q]?.getD undef = x := by simpa using hq
  simp [results, h, hp', hq', asAddr, run_loadVar_mid w b 0 ty cs d hc hu hd hi]
theorem pm_box (x : P3) (t : TypeId) (w : World) : ∃ V, w.alloc (.cells #[.int .i8 x.1, .int .i8 x.2.1, .int .i16 x.2.2] t) = V ∧ V.heap.size = w.heap.size + 1 ∧ V.cell? ⟨w.heap.size, 0, none⟩ = some (.int .i8 x.1) ∧ V.cell? ⟨w.heap.size, 2, none⟩ = some (.int .i16 x.2.2) ∧ Below w.heap.size w V :=
  ⟨_, rfl, by simp, cell_of_row _ _ 0 _ _ _ (heap_alloc_last w _), cell_of_row _ _ 2 _ _ _ (heap_alloc_last w _), (Below.refl _ _).alloc (Nat.le_refl _) _⟩
end Go.Proofs.YtaghnminpfgdcaaGreatDoor
