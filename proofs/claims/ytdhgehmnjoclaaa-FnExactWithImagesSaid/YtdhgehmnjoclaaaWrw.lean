/- Lists of wells that grow. Condition: at most 1000 wells. -/
import Derived.Test.YtdhgehmnjoclaaaWs
import Derived.Test.YtdhgehmnjoclaaaHelp
import Derived.Deep.Upon
import Derived.OwnWalkIn
import Derived.RangeFuncNested
namespace Go.Proofs.Ytdhgehmnjoclaaa
open Go Go.RowKit Ieee Go.Shelf
set_option linter.unusedSimpArgs false
set_option linter.unusedVariables false
attribute [local go_sem] run_store_f32

/-- The cells of a list, one behind the other. -/
def flatW (L : List W3) : List Value := L.flatMap w3
theorem flatW_len : ∀ L : List W3, (flatW L).length = L.length * 3
  | [] => rfl
  | e :: L => by
    have := flatW_len L
    simp only [flatW, List.flatMap_cons, List.length_append, List.length_cons] at this ⊢
    rw [this, w3_len]; omega
theorem flatW_app (L M : List W3) : flatW (L ++ M) = flatW L ++ flatW M := by simp [flatW]
theorem flatW_at : ∀ (L : List W3) (i j : Nat) (e : W3), L[i]? = some e → j < 3 → (flatW L)[i * 3 + j]? = (w3 e)[j]?
  | [], i, j, e, h, _ => by simp at h
  | f :: L, i, j, e, h, hj => by
    have hf : flatW (f :: L) = w3 f ++ flatW L := by simp [flatW]
    rw [hf]
    match i, h with
    | 0, h =>
      simp only [List.getElem?_cons_zero, Option.some.injEq] at h
      subst h
      rw [List.getElem?_append_left (by rw [w3_len]; omega)]
      congr 1; omega
    | i + 1, h =>
      rw [List.getElem?_append_right (by rw [w3_len]; omega), w3_len, show (i + 1) * 3 + j - 3 = i * 3 + j by omega]
      exact flatW_at L i j e (by simpa using h) hj
theorem flatW_cells {w : World} {ap : Addr} {L : List W3} (hp : WsAt w (some ap) L) : ∀ j v, (flatW L)[j]? = some v → w.cell? (ap.add j) = some v := fun j v hj => by
  have hjl : j < L.length * 3 := by have := (List.getElem?_eq_some_iff.1 hj).1; rwa [flatW_len] at this
  obtain ⟨e, he⟩ : ∃ e, L[j / 3]? = some e := ⟨_, List.getElem?_eq_getElem (by omega)⟩
  obtain ⟨b, o, hbo, hr⟩ := hp (j / 3) e he
  cases hbo
  have h0 := flatW_at L (j / 3) (j % 3) e he (by omega)
  rw [show j / 3 * 3 + j % 3 = j by omega, hj] at h0
  have := hr (j % 3) v h0.symm
  rw [Addr.add_mid]
  rwa [show o + j / 3 * 3 + j % 3 = o + j by omega] at this
theorem flatW_one (L : List W3) : ∀ u ∈ flatW L, u.oneCell' = true := fun u hu => by
  simp only [flatW, List.mem_flatMap] at hu
  obtain ⟨e, _, he⟩ := hu
  simp only [w3, We, List.mem_cons, List.not_mem_nil, or_false] at he
  rcases he with rfl | rfl | rfl <;> rfl
/-- The block g holds a list of wells, and room for more. -/
def WRow (w : World) (g cap : Nat) (xs : List W3) : Prop := ∃ cur : Array Value, w.heap[g]? = some (.cells cur 35 (0, 0)) ∧ xs.length ≤ cap ∧ cap ≤ maxLen ∧ cur.size = cap * 3 ∧ cur.toList.take (xs.length * 3) = flatW xs
theorem WRow.lt {w : World} {g cap : Nat} {xs : List W3} (h : WRow w g cap xs) : g < w.heap.size := by
  obtain ⟨cur, h1, _⟩ := h
  exact (Array.getElem?_eq_some_iff.1 h1).1
theorem WRow.kept {w w' : World} {g cap : Nat} {xs : List W3} (h : WRow w g cap xs) (hb : w'.heap[g]? = w.heap[g]?) : WRow w' g cap xs := by
  obtain ⟨cur, h1, h2⟩ := h
  exact ⟨cur, hb.trans h1, h2⟩
theorem WRow.below {w w' : World} {g cap n : Nat} {xs : List W3} (h : WRow w g cap xs) (hb : Below n w w') (hg : g < n) : WRow w' g cap xs := h.kept (hb.block g hg)
theorem WRow.keep {w w' : World} {g cap : Nat} {xs : List W3} (h : WRow w g cap xs) (hb : Below w.heap.size w w') : WRow w' g cap xs := h.below hb h.lt
theorem WRow.at {w : World} {g cap : Nat} {xs : List W3} (h : WRow w g cap xs) : WsAt w (some ⟨g, 0, none⟩) xs := fun i e he => by
  obtain ⟨cur, h1, h2, _, h4, h5⟩ := h
  have hi : i < xs.length := (List.getElem?_eq_some_iff.1 he).1
  refine ⟨g, 0, rfl, fun j v hj => ?_⟩
  have hj3 : j < 3 := (List.getElem?_eq_some_iff.1 hj).1
  rw [cell_of_row w g _ cur _ (0, 0) h1]
  have h6 := flatW_at xs i j e he hj3
  rw [hj, ← h5, List.getElem?_take] at h6
  split at h6
  · rw [← h6, Nat.zero_add]; simp
  · cases h6
theorem WRow.there {w : World} {g cap : Nat} {xs : List W3} (h : WRow w g cap xs) : w.there g 0 (xs.length * 3) := by
  obtain ⟨cur, h1, h2, _, h4, _⟩ := h
  have ht := there_row h1 h4
  exact fun j hj => ht j (by omega)
theorem wrow_nil (w : World) : WRow (w.alloc (.cells #[] 35)) w.heap.size 0 [] := ⟨#[], heap_alloc_last w _, by simp, Nat.zero_le _, rfl, rfl⟩
theorem wrow_made {C : Array Value} {n : Nat} (hC : C.size = n * 3) (hn : n ≤ maxLen) (w : World) : WRow (w.alloc (.cells C 35)) w.heap.size n [] := ⟨C, heap_alloc_last w _, Nat.zero_le _, hn, hC, by simp [flatW]⟩

theorem wrow_append {V : World} {g cap m c : Nat} {xs M : List W3} {ap : Addr} (h : WRow V g cap xs) (hM : M.length = m) (hp : WsAt V (some ap) M) (hl : xs.length + m ≤ 1000) :
    ∃ g' cap' w', (∀ ty, (Builtin.append_ #[24, 24] ty #[.slice (some ⟨g, 0, none⟩) xs.length cap, .slice (some ap) m c]).run Try.prog V = .ok (.slice (some ⟨g', 0, none⟩) (xs.length + m) cap') w') ∧
      WRow w' g' cap' (xs ++ M) ∧ V.grownBy w' (some g) ∧ (g' = g ∨ V.heap.size ≤ g') ∧ (xs.length + m ≤ cap → g' = g ∧ cap' = cap) := by
  obtain ⟨i, hi, hz, hs, hby⟩ := info_parts (P := Try.prog) (e := 35) (z := .agg (We 0 0 0)) (size := 3) (bytes := 8) (by kernel_rfl)
  have hglt := h.lt
  have hat := h.at
  obtain ⟨cur, h1, h2, h3, h4, h5⟩ := h
  have hlen : (xs ++ M).length = xs.length + m := by simp [hM]
  have hnl : (flatW M).length = m * i.size := by rw [flatW_len, hM, hs]
  by_cases hroom : xs.length + m ≤ cap
  · have hr := fun ty => run_append_room (P := Try.prog) (w := V) 24 ty 35 i Try.underlying24 hi g xs.length cap cur h1 ap m c (flatW M) hnl (flatW_cells hp) (flatW_one M) hroom (by rw [hnl, hs, h4, ← Nat.add_mul]; exact Nat.mul_le_mul_right 3 hroom)
    refine ⟨g, cap, _, hr, ⟨_, setRow_heap _ g cur _ _ _ h1, by rw [hlen]; exact hroom, h3, ?_, ?_⟩, ⟨rfl, rfl, rfl, by simp, fun k _ hk => setRow_other _ g k _ (fun e => hk (by rw [e]))⟩, .inl rfl, fun _ => ⟨rfl, rfl⟩⟩
    · simp only [List.size_toArray, List.length_append, List.length_take, List.length_drop, Array.length_toList, hs, flatW_len, hM]
      omega
    · simp only [hs, h5, hlen, flatW_app]
      rw [List.take_append_of_le_length (by simp [flatW_len, hM]; omega)]
      exact List.take_of_length_le (by simp [flatW_len, hM]; omega)
  · have holds : ∀ j v, (flatW xs)[j]? = some v → V.cell? ((⟨g, 0, none⟩ : Addr).add j) = some v := flatW_cells hat
    have hfit : Builtin.nextslicecap (xs.length + m) cap * i.bytes ≤ 281474976710656 := by
      rw [hby]
      exact growslice_fits (by omega) (by omega)
    have hr := fun ty => run_append_grow (P := Try.prog) (w := V) 24 ty 35 i (.agg (We 0 0 0)) Try.underlying24 hi hz ⟨g, 0, none⟩ xs.length cap (flatW xs) (by rw [flatW_len, hs]) holds ap m c (flatW M) hnl (flatW_cells hp) (by omega) (by omega) hfit
    have hge := grownCap_ge V (xs.length + m) cap 35
    refine ⟨_, _, _, hr, ⟨_, heap_alloc_last V.drew _, by rw [hlen]; exact hge, grownCap_le_maxLen _ _ _ _ (by unfold maxLen; omega), ?_, ?_⟩, ⟨rfl, rfl, rfl, by simp, fun k hk _ => heap_alloc_old V.drew _ hk⟩, .inr (Nat.le_refl _), fun h => absurd h hroom⟩
    · simp only [Array.size_append, List.size_toArray, size_zeroCells, flatW_len, hM]
      have : (Value.agg (We 0 0 0)).cells.size = 3 := rfl
      rw [this]
      omega
    · simp only [Array.toList_append, List.append_assoc]
      rw [← List.append_assoc, ← flatW_app, hlen, ← hlen, ← flatW_len]
      exact List.take_left
theorem wpList_appW {ops : Array Oper} {rest : List Oper} {o : Oper} {a : Act} {V : World} {Q : Exit → Act → World → Prop} (hg : Region.wanted o (yielded ops a.tmps) = true) (x y : Operand)
    (ho : o.op = .call { callee := .builtin .append, args := #[x, y], argTypes := #[24, 24] }) {g cap n m c : Nat} {xs M : List W3} {ap : Addr} (h : WRow V g cap xs) (hn : xs.length = n) (hM : M.length = m) (hp : WsAt V (some ap) M) (hl : n + m ≤ 1000)
    (hx : a.eval x = .slice (some ⟨g, 0, none⟩) n cap) (hy : a.eval y = .slice (some ap) m c)
    (hQ : ∀ g' cap' w', WRow w' g' cap' (xs ++ M) → V.grownBy w' (some g) → (g' = g ∨ V.heap.size ≤ g') → (n + m ≤ cap → g' = g ∧ cap' = cap) → wpList Try.prog ops Q rest (a.put o.dst (.slice (some ⟨g', 0, none⟩) (n + m) cap')) w') :
    wpList Try.prog ops Q (o :: rest) a V :=
  wpList_step fun K hK => by
    subst hn
    rw [if_pos hg]
    obtain ⟨g', cap', w', hr, h1, h2, h3, h4⟩ := wrow_append (c := c) h hM hp hl
    unfold Oper.wp
    simp [execOp, ho, resolve, invoke, builtin, hx, hy, hr, Result.andThen]
    exact hK _ _ (hQ g' cap' w' h1 h2 h3 h4)
theorem wpListIn_appW {F : Fence} {n0 : Nat} {ops : Array Oper} {rest : List Oper} {o : Oper} {a : Act} {V : World} {Q : Exit → Act → World → Prop} (hgd : o.guard = none) (x y : Operand)
    (ho : o.op = .call { callee := .builtin .append, args := #[x, y], argTypes := #[24, 24] }) {g cap n m c : Nat} {xs M : List W3} {ap : Addr} (h : WRow V g cap xs) (hn : xs.length = n) (hM : M.length = m) (hp : WsAt V (some ap) M) (hl : n + m ≤ 1000)
    (hx : a.eval x = .slice (some ⟨g, 0, none⟩) n cap) (hy : a.eval y = .slice (some ap) m c)
    (hK : ∀ g' cap' w', WRow w' g' cap' (xs ++ M) → V.grownBy w' (some g) → (g' = g ∨ V.heap.size ≤ g') → (n + m ≤ cap → g' = g ∧ cap' = cap) → wpListIn F n0 Try.prog ops Q rest (a.put o.dst (.slice (some ⟨g', 0, none⟩) (n + m) cap')) w') :
    wpListIn F n0 Try.prog ops Q (o :: rest) a V := by
  refine wpListIn_plain hgd fun K hK' => ?_
  subst hn
  obtain ⟨g', cap', w', hrun, h1, h2, h3, h4⟩ := wrow_append (c := c) h hM hp hl
  unfold Oper.wpIn
  refine ⟨?_, ?_⟩
  · simp [Oper.about, ho, resolve, Target.leads, Sem.run_pure]
  · rw [Oper.semAt_plain F _ _ (by rw [ho]; intro c hc'; cases hc')]
    simp [execOp, ho, resolve, invoke, builtin, hx, hy, hrun, Result.andThen]
    exact hK' _ _ (hK g' cap' w' h1 h2 h3 h4)
end Go.Proofs.Ytdhgehmnjoclaaa
