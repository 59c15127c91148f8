/- Lists that grow, of elements of one cell. No condition. -/
import Derived.Test.YtjhaonfdapldcaaDoorBase
import Derived.Deep.Upon
namespace Go.Proofs.YtjhaonfdapldcaaDoor
open Go Go.RowKit
set_option linter.unusedSimpArgs false
set_option linter.unusedVariables false

/-- The block g holds a list, and room for more. -/
def VRow (w : World) (e : TypeId) (g cap : Nat) (xs : List Value) : Prop := ∃ cur : Array Value, w.heap[g]? = some (.cells cur e (0, 0)) ∧ xs.length ≤ cap ∧ cap ≤ maxLen ∧ cur.size = cap ∧ cur.toList.take xs.length = xs
theorem VRow.lt {w : World} {e : TypeId} {g cap : Nat} {xs : List Value} (h : VRow w e g cap xs) : g < w.heap.size := by
  obtain ⟨cur, h1, _⟩ := h
  exact (Array.getElem?_eq_some_iff.1 h1).1
theorem VRow.cell {w : World} {e : TypeId} {g cap : Nat} {xs : List Value} (h : VRow w e g cap xs) : ∀ j u, xs[j]? = some u → w.cell? ⟨g, j, none⟩ = some u := by
  intro j u hu
  obtain ⟨cur, h1, _, _, _, h5⟩ := h
  rw [cell_of_row w g j cur e (0, 0) h1]
  rw [← h5, List.getElem?_take] at hu
  split at hu
  · simpa using hu
  · cases hu
theorem VRow.range {w : World} {e : TypeId} {g cap : Nat} {xs : List Value} (h : VRow w e g cap xs) : w.rangeAt g 0 xs := fun j v hv => by rw [Nat.zero_add]; exact h.cell j v hv
theorem VRow.kept {w w' : World} {e : TypeId} {g cap : Nat} {xs : List Value} (h : VRow w e g cap xs) (hb : w'.heap[g]? = w.heap[g]?) : VRow w' e g cap xs := by
  obtain ⟨cur, h1, h2⟩ := h
  exact ⟨cur, hb.trans h1, h2⟩
theorem VRow.below {w w' : World} {e : TypeId} {g cap n : Nat} {xs : List Value} (h : VRow w e g cap xs) (hb : Below n w w') (hg : g < n) : VRow w' e g cap xs := h.kept (hb.block g hg)
theorem VRow.grown {w w' : World} {e : TypeId} {g cap k : Nat} {xs : List Value} (h : VRow w e g cap xs) (hb : w.grownBy w' (some k)) (hg : g ≠ k) : VRow w' e g cap xs := h.kept (hb.block g h.lt (fun he => hg (Option.some.inj he)))
theorem vrow_made (w : World) (e : TypeId) : VRow (w.alloc (.cells #[] e)) e w.heap.size 0 [] := ⟨#[], heap_alloc_new w _, by simp, Nat.zero_le _, rfl, rfl⟩
theorem grown_below {w w' : World} {n k : Nat} (h : w.grownBy w' (some k)) (hk : n ≤ k) (hn : n ≤ w.heap.size) : Below n w w' :=
  ⟨h.os, h.tape, h.output, h.size, fun j hj => h.block j (by omega) (fun e => by have := Option.some.inj e; omega)⟩

theorem vrow_append {P : Program} {t e : TypeId} {i : TypeInfo} {z : Value} {bytes : Nat} (ht : P.underlying t = some (.slice e)) (hi : P.info? e = some i) (hz : i.zero = some z) (hs : i.size = 1) (hby : i.bytes = bytes) (hzs : z.cells.size = 1)
    {V : World} {g cap : Nat} {xs : List Value} (h : VRow V e g cap xs) (u : Value) (hu : u.oneCell' = true) (hk : (xs.length + 1) * bytes ≤ 140737488355328) (hl : xs.length + 1 ≤ maxLen) :
    ∃ g' cap' w', (∀ ty, (Builtin.append_ #[t, t] ty #[.slice (some ⟨g, 0, none⟩) xs.length cap, .slice (some ⟨V.heap.size, 0, none⟩) 1 1]).run P (V.alloc (.cells #[u] e)) = .ok (.slice (some ⟨g', 0, none⟩) (xs.length + 1) cap') w') ∧
      VRow w' e g' cap' (xs ++ [u]) ∧ V.grownBy w' (some g) ∧ (g' = g ∨ V.heap.size < g') := by
  have hglt := h.lt
  obtain ⟨cur, h1, h2, h3, h4, h5⟩ := h
  have hA : V.grownBy (V.alloc (.cells #[u] e)) (some g) := World.grownBy_alloc V _ _
  have h1' : (V.alloc (.cells #[u] e)).heap[g]? = some (.cells cur e (0, 0)) := (heap_alloc_old V _ hglt).trans h1
  have hc : (V.alloc (.cells #[u] e)).cell? ⟨V.heap.size, 0, none⟩ = some u := cell_of_row _ _ 0 _ _ _ (heap_alloc_new V _)
  have hnews : ∀ (j : Nat) (v : Value), [u][j]? = some v → (V.alloc (.cells #[u] e)).cell? ((⟨V.heap.size, 0, none⟩ : Addr).add j) = some v := by
    intro j v hj
    have hj1 : j < 1 := (List.getElem?_eq_some_iff.1 hj).1
    obtain rfl : j = 0 := by omega
    cases hj
    exact hc
  have hlen : (xs ++ [u]).length = xs.length + 1 := by simp
  have trans : ∀ {w' : World}, (V.alloc (.cells #[u] e)).grownBy w' (some g) → V.grownBy w' (some g) := fun hg =>
    ⟨hg.os.trans hA.os, hg.tape.trans hA.tape, hg.output.trans hA.output, Nat.le_trans hA.size hg.size, fun k hk hne => (hg.block k (Nat.lt_of_lt_of_le hk hA.size) hne).trans (hA.block k hk hne)⟩
  by_cases hroom : xs.length + 1 ≤ cap
  · have hr := fun ty => run_append_room (P := P) (V.alloc (.cells #[u] e)) t ty e i ht hi g xs.length cap cur h1' ⟨V.heap.size, 0, none⟩ 1 1 [u] (by rw [hs]; rfl) hnews (by simpa using hu) hroom (by rw [hs, h4]; simpa using hroom)
    refine ⟨g, cap, _, hr, ⟨_, setRow_heap _ g cur _ e _ h1', by rw [hlen]; exact hroom, h3, ?_, ?_⟩, trans ⟨rfl, rfl, rfl, by simp, fun k _ hk => setRow_other _ g k _ (fun e => hk (by rw [e]))⟩, .inl rfl⟩
    · simp only [List.size_toArray, List.length_append, List.length_take, List.length_drop, Array.length_toList, hs, List.length_cons, List.length_nil]
      omega
    · simp only [hs, Nat.mul_one, h5, List.append_assoc]
      rw [← List.append_assoc]
      exact List.take_left
  · have holds : ∀ j v, xs[j]? = some v → (V.alloc (.cells #[u] e)).cell? ((⟨g, 0, none⟩ : Addr).add j) = some v := fun j v hj => by
      have hadd : (⟨g, 0, none⟩ : Addr).add j = ⟨g, j, none⟩ := by unfold Addr.add; split <;> simp_all
      rw [hadd]
      exact VRow.cell (⟨cur, h1', h2, h3, h4, h5⟩ : VRow _ e g cap xs) j v hj
    have hr := fun ty => run_append_grow (P := P) (V.alloc (.cells #[u] e)) t ty e i z ht hi hz ⟨g, 0, none⟩ xs.length cap xs (by rw [hs, Nat.mul_one]) holds ⟨V.heap.size, 0, none⟩ 1 1 [u] (by rw [hs]; rfl) hnews (by omega) (by unfold maxLen at hl; omega) (by rw [hby]; exact growslice_fits (by omega) hk)
    have hge := grownCap_ge (V.alloc (.cells #[u] e)) (xs.length + 1) cap e
    refine ⟨_, _, _, hr, ⟨_, heap_alloc_new _ _, by rw [hlen]; exact hge, grownCap_le_maxLen _ _ _ _ hl, ?_, ?_⟩, trans ⟨rfl, rfl, rfl, by simp, fun k hk _ => heap_alloc_old (V.alloc (.cells #[u] e)).drew _ hk⟩, .inr (by simp)⟩
    · simp only [Array.size_append, List.size_toArray, size_zeroCells, hzs, List.length_cons, List.length_nil]
      omega
    · simp only [Array.toList_append, List.append_assoc]
      rw [← List.append_assoc, ← hlen]
      exact List.take_left

theorem wpList_append1 {P : Program} {ops : Array Oper} {rest : List Oper} {o : Oper} {a : Act} {V : World} {Q : Exit → Act → World → Prop} (hg : Region.wanted o (yielded ops a.tmps) = true) (x y : Operand) (t : TypeId)
    (ho : o.op = .call { callee := .builtin .append, args := #[x, y], argTypes := #[t, t] }) {e : TypeId} {i : TypeInfo} {z : Value} {bytes : Nat} (ht : P.underlying t = some (.slice e)) (hi : P.info? e = some i) (hz : i.zero = some z) (hs : i.size = 1) (hby : i.bytes = bytes) (hzs : z.cells.size = 1)
    {g cap n : Nat} {xs : List Value} (h : VRow V e g cap xs) (hn : xs.length = n) (u : Value) (hu : u.oneCell' = true) (hk : (n + 1) * bytes ≤ 140737488355328) (hl : n + 1 ≤ maxLen)
    (hx : a.eval x = .slice (some ⟨g, 0, none⟩) n cap) (hy : a.eval y = .slice (some ⟨V.heap.size, 0, none⟩) 1 1)
    (hQ : ∀ g' cap' w', VRow w' e g' cap' (xs ++ [u]) → V.grownBy w' (some g) → (g' = g ∨ V.heap.size < g') → wpList P ops Q rest (a.put o.dst (.slice (some ⟨g', 0, none⟩) (n + 1) cap')) w') :
    wpList P ops Q (o :: rest) a (V.alloc (.cells #[u] e)) :=
  wpList_step fun K hK => by
    subst hn
    rw [if_pos hg]
    obtain ⟨g', cap', w', hr, h1, h2, h3⟩ := vrow_append ht hi hz hs hby hzs h u hu hk hl
    unfold Oper.wp
    simp [execOp, ho, resolve, invoke, builtin, hx, hy, hr, Result.andThen]
    exact hK _ _ (hQ g' cap' w' h1 h2 h3)
theorem VRow.quiet {w w' : World} {e : TypeId} {g cap : Nat} {xs : List Value} (h : VRow w e g cap xs) (q : Quiet w w') : VRow w' e g cap xs := h.below (q.below (g + 1)) (by omega)
end Go.Proofs.YtjhaonfdapldcaaDoor
