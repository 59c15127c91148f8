/- What ReadingsFrom answers, as a value of the times. No condition. -/
import Derived.Test.YtbiknpfcemfoeaaDoorIs
import Derived.Test.YtbiknpfcemfoeaaDoorVr
import Derived.Test.YtbiknpfcemfoeaaDoorSt
import Derived.Test.YtbiknpfcemfoeaaDoorDif
namespace Go.Proofs.YtbiknpfcemfoeaaDoor
open Go Go.RowKit Ieee
set_option linter.unusedSimpArgs false
set_option linter.unusedVariables false

/-- The times, as readings that have no level yet. -/
def tz (L : List Int) : List R2 := L.map fun t => (t, 0)
theorem tz_len (L : List Int) : (tz L).length = L.length := by simp [tz]
theorem tz_at {L : List Int} {k : Nat} {t : Int} (h : L[k]? = some t) : (tz L)[k]? = some (t, 0) := by simp [tz, h]
open Classical in
/-- What a logger has of a number, up to which NaN it is. -/
noncomputable def lgN : Option Nat → Int
  | none => 0
  | some l => Classical.choose (lgs_ex l)
theorem lgs_num {r : Nat} {o : Option Nat} (h : num .f32 r = o) : Lgs r (lgN o) := by
  subst h
  cases hn : nanK .f32 r
  · rw [num_some hn]
    exact Classical.choose_spec (lgs_ex r)
  · rw [num_none hn]
    exact .none hn rfl
noncomputable def rfE (T S : Nat) (X Y : Int) (R : Nat) (x y : Int) (t : Int) : R2 := (t, lgN (drwV T S R (x - X) (y - Y) t))
def rfC (T S : Nat) (X Y : Int) (R : Nat) (x y : Int) (L : List Int) : Int := if (aqB T S && stB X Y R x y) = true then if okRs (tz L) = true then 0 else 2 else 1
noncomputable def rfL (T S : Nat) (X Y : Int) (R : Nat) (x y : Int) (L : List Int) : List R2 := if rfC T S X Y R x y L = 0 then L.map (rfE T S X Y R x y) else []
theorem ok_time {L : List Int} {k : Nat} {t : Int} (h : okRs (tz L) = true) (hk : L[k]? = some t) : 1 ≤ t ∧ t ≤ 100000 := by
  have hlt : k < L.length := (List.getElem?_eq_some_iff.1 hk).1
  simp only [okRs, Bool.and_eq_true, List.all_eq_true, List.mem_range, decide_eq_true_eq, tz_len] at h
  have hr := lastR_rng (L := tz L) (tz_len L) (Nat.le_of_lt hlt) (fun j hj => h.2 j (by omega))
  have hg := h.2 k hlt
  simp only [goodR, tz_at hk, Bool.and_eq_true, decide_eq_true_eq] at hg
  omega
/-- The cells of readings. -/
def cellsR (L : List R2) : List Value := L.flatMap r2
theorem cellsR_snoc (L : List R2) (e : R2) : cellsR (L ++ [e]) = cellsR L ++ r2 e := by simp [cellsR]
theorem cellsR_len : ∀ L : List R2, (cellsR L).length = L.length * 2
  | [] => rfl
  | e :: L => by
    have := cellsR_len L
    simp only [cellsR, List.flatMap_cons, List.length_append, r2_len, List.length_cons] at this ⊢
    omega
theorem cellsR_at : ∀ (L : List R2) (i j : Nat) (e : R2), L[i]? = some e → j < 2 → (cellsR L)[i * 2 + j]? = (r2 e)[j]?
  | [], i, j, e, h, _ => by simp at h
  | f :: L, 0, j, e, h, hj => by
    simp only [List.getElem?_cons_zero, Option.some.injEq] at h
    subst h
    show (r2 f ++ cellsR L)[0 * 2 + j]? = _
    rw [Nat.zero_mul, Nat.zero_add, List.getElem?_append_left (by rw [r2_len]; exact hj)]
  | f :: L, i + 1, j, e, h, hj => by
    simp only [List.getElem?_cons_succ] at h
    show (r2 f ++ cellsR L)[(i + 1) * 2 + j]? = _
    rw [List.getElem?_append_right (by rw [r2_len]; omega), r2_len, show (i + 1) * 2 + j - 2 = i * 2 + j by omega]
    exact cellsR_at L i j e h hj
/-- A row of its own that holds readings. -/
theorem own_rs {w : World} {base g cap k : Nat} {L : List R2} (hk : L.length = k) (h : w.ownsRow base 65 2 (.slice (some ⟨g, 0, none⟩) k cap) k (cellsR L)) : RsAt w (some ⟨g, 0, none⟩) L := fun i e he => by
  have hi : i < k := by rw [← hk]; exact (List.getElem?_eq_some_iff.1 he).1
  refine ⟨g, 0, rfl, fun j v hj => ?_⟩
  have hj2 : j < 2 := (List.getElem?_eq_some_iff.1 hj).1
  rw [Nat.zero_add, h.cellAt (i * 2 + j) (by omega), cellsR_at L i j e he hj2, hj]
/-- A reading is appended. -/
theorem append_rd {base k : Nat} {v : Value} {w V : World} {rs : List R2} (hown : w.ownsRow base 65 2 v k (cellsR rs)) (hform : ∃ g cap, v = .slice (some ⟨g, 0, none⟩) k cap) (hk : k ≤ 40) (hb : base ≤ w.heap.size) (hV : Below w.heap.size w V) (e : R2) (ty : TypeId) :
    ∃ v' w', (Builtin.append_ #[27, 27] ty #[v, .slice (some ⟨V.heap.size, 0, none⟩) 1 1]).run Tryd.prog (V.alloc (.cells #[.int .i64 e.1, .int .i16 e.2] 65)) = .ok v' w' ∧ w'.ownsRow base 65 2 v' (k + 1) (cellsR (rs ++ [e])) ∧ (∃ g cap, v' = .slice (some ⟨g, 0, none⟩) (k + 1) cap) ∧ (V.alloc (.cells #[.int .i64 e.1, .int .i16 e.2] 65)).grownBy w' v.ownBlock := by
  obtain ⟨i, hi, hz, hs, hby⟩ := info_parts (P := Tryd.prog) (e := 65) (z := .agg (Rd 0 0)) (size := 2) (bytes := 16) (by kernel_rfl)
  have hA : Below w.heap.size w (V.alloc (.cells #[.int .i64 e.1, .int .i16 e.2] 65)) := hV.alloc hV.size _
  obtain ⟨g, cap, rfl⟩ := hform
  have hg0 : ∀ row, w.grownBy (V.alloc (.cells #[.int .i64 e.1, .int .i16 e.2] 65)) row := fun row => ⟨hA.os, hA.tape, hA.output, hA.size, fun k hk _ => hA.block k hk⟩
  have hown1 := hown.kept (hg0 none) (.inr (by simp [Value.ownBlock]))
  have hc0 : (V.alloc (.cells #[.int .i64 e.1, .int .i16 e.2] 65)).cell? ⟨V.heap.size, 0, none⟩ = some (.int .i64 e.1) := cell_of_row _ _ 0 _ _ _ (heap_alloc_last V _)
  have hc1 : (V.alloc (.cells #[.int .i64 e.1, .int .i16 e.2] 65)).cell? ⟨V.heap.size, 1, none⟩ = some (.int .i16 e.2) := cell_of_row _ _ 1 _ _ _ (heap_alloc_last V _)
  obtain ⟨v', w', h1, h2, h3, h4⟩ := run_append_own (P := Tryd.prog) _ base 27 ty 65 i (.agg (Rd 0 0)) 2 16 Tryd.underlying27 hi hz hs hby rfl (by decide) _ k _ hown1 ⟨V.heap.size, 0, none⟩ 1 1 [.int .i64 e.1, .int .i16 e.2] rfl
    (fun j u hj => by
      have hj1 : j < 2 := (List.getElem?_eq_some_iff.1 hj).1
      match j, hj1 with
      | 0, _ => cases hj; exact hc0
      | 1, _ => cases hj; exact hc1) (by simp [Value.oneCell']) (by unfold maxLen; omega) (by omega) (Nat.le_trans hb hA.size)
  refine ⟨v', w', h1, ?_, ?_, h3⟩
  · rw [cellsR_snoc]
    exact h2
  · rcases h2.2 with ⟨_, h0⟩ | ⟨g', cap', cur, h0, _⟩
    · omega
    · exact ⟨g', cap', h0⟩
end Go.Proofs.YtbiknpfcemfoeaaDoor
