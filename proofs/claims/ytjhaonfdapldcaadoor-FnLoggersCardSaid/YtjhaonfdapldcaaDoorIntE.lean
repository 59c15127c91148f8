/- Lists of whole numbers: appended to, compared, written over, looked at again. Condition: the lists are short. -/
import Derived.Test.YtjhaonfdapldcaaDoorRow1
import Derived.Test.YtjhaonfdapldcaaDoorHelp
import Derived.Test.YtjhaonfdapldcaaDoorMkp
namespace Go.Proofs.YtjhaonfdapldcaaDoor
open Go Go.RowKit Ieee
set_option linter.unusedSimpArgs false
set_option linter.unusedVariables false


def IV (v : Nat) : Value := .int .i64 (v : Int)
theorem wpList_appI {ops : Array Oper} {rest : List Oper} {o : Oper} {a : Act} {V : World} {Q : Exit → Act → World → Prop} (hg : Region.wanted o (yielded ops a.tmps) = true) (x y : Operand)
    (ho : o.op = .call { callee := .builtin .append, args := #[x, y], argTypes := #[44, 44] }) {g cap n : Nat} {xs : List Nat} (h : VRow V 2 g cap (xs.map IV)) (hn : xs.length = n) (hl : n ≤ 1000) (z : Nat)
    (hx : a.eval x = .slice (some ⟨g, 0, none⟩) n cap) (hy : a.eval y = .slice (some ⟨V.heap.size, 0, none⟩) 1 1)
    (hQ : ∀ g' cap' w', VRow w' 2 g' cap' ((xs ++ [z]).map IV) → V.grownBy w' (some g) → (g' = g ∨ V.heap.size < g') → wpList Tryd.prog ops Q rest (a.put o.dst (.slice (some ⟨g', 0, none⟩) (n + 1) cap')) w') :
    wpList Tryd.prog ops Q (o :: rest) a (V.alloc (.cells #[.int .i64 (z : Int)] 2)) := by
  obtain ⟨i, hi, hz, hs, hby⟩ := info_parts (P := Tryd.prog) (e := 2) (z := .int .i64 0) (size := 1) (bytes := 8) (by kernel_rfl)
  refine wpList_append1 hg x y _ ho Tryd.underlying44 hi hz hs hby rfl h (by rw [List.length_map, hn]) (.int .i64 (z : Int)) rfl (by omega) (by unfold maxLen; omega) hx hy fun g' cap' w' h1 h2 h3 => hQ g' cap' w' ?_ h2 h3
  rwa [List.map_append, List.map_cons, List.map_nil]
def CellsI (w : World) (p : Option Addr) (xs : List Nat) : Prop := ∀ (i v : Nat), xs[i]? = some v → ∃ b, p = some ⟨b, 0, none⟩ ∧ w.cell? ⟨b, i, none⟩ = some (.int .i64 (v : Int))
theorem index_i64 {op : Oper} {a : Act} {x y : Operand} {b n c k : Nat} (ho : op.op = .indexAddr 44 x y) (hx : a.eval x = .slice (some ⟨b, 0, none⟩) n c) (hy : a.eval y = .int .i64 k) (hk : k < n) (w : World) :
    (execOp a.eval op).run Tryd.prog w = .ok (.value (.pointer (some ⟨b, k, none⟩))) w := by
  unfold execOp
  simp only [ho, hx, hy]
  go_simp
theorem neq_same {op : Oper} {a : Act} {x y : Operand} {v : Int} (ho : op.op = .binOp .neq 2 x y 2) (hx : a.eval x = .int .i64 v) (hy : a.eval y = .int .i64 v) (w : World) :
    (execOp a.eval op).run Tryd.prog w = .ok (.value (.bool false)) w := by
  unfold execOp
  simp only [ho, hx, hy]
  go_simp
/-- One round: one number more is written over. -/
theorem markedI {w wr V : World} {b n k k0 : Nat} (hlt : k < n) (hT : wr.there b 0 n) (hA : ∀ j, j < k → wr.cell? ⟨b, j, none⟩ = some (.int .i64 ((k0 + j : Nat) : Int))) (hB : Below b w wr ∧ wr.heap.size = w.heap.size)
    (hv : V = wr.setCell ⟨b, k, none⟩ (.int .i64 ((k0 + k : Nat) : Int))) :
    V.there b 0 n ∧ (∀ j, j < k + 1 → V.cell? ⟨b, j, none⟩ = some (.int .i64 ((k0 + j : Nat) : Int))) ∧ (Below b w V ∧ V.heap.size = w.heap.size) := by
  have he : V = wr.setCells b k [.int .i64 ((k0 + k : Nat) : Int)] := hv
  subst he
  have ht : wr.there b k 1 := fun j hj => by
    have := hT (k + j) (by omega)
    rwa [Nat.zero_add] at this
  refine ⟨World.there_setCells hT _ _ _, fun j hj => ?_, ⟨below_setCells _ (Nat.le_refl _) _ _ _ hB.1, (size_setCellsW _ _ _ _).trans hB.2⟩⟩
  by_cases hjk : j = k
  · subst hjk
    exact World.rangeAt_setCells_same _ _ _ _ ht 0 _ rfl
  · have hr : wr.rangeAt b j [.int .i64 ((k0 + j : Nat) : Int)] := fun i v hi => by
      have h1 : i < 1 := (List.getElem?_eq_some_iff.1 hi).1
      obtain rfl : i = 0 := by omega
      cases hi
      exact hA j (by omega)
    exact World.rangeAt_setCells_apart hr _ _ _ (.inr (.inl (by simp; omega))) 0 _ rfl
end Go.Proofs.YtjhaonfdapldcaaDoor
