/- The program's sweep, for every function that tells the next head. Condition: the table of math/bits is laid. -/
import Derived.Test.YtikefaollfaejaaDoorSwp
import Derived.Test.YtikefaollfaejaaDoorChgS
namespace Go.Proofs.YtikefaollfaejaaDoor
open Go Go.RowKit Go.Shelf
attribute [local go_sem] Oper.semAt_some run_store_float
set_option linter.unusedSimpArgs false
set_option linter.unusedVariables false

/-- Every cell below block n that is not of block B lies as it lay. -/
structure AwayC (B n : Nat) (A A' : World) : Prop where
  size : A.heap.size ≤ A'.heap.size
  cell : ∀ (p : Addr) v, p.block < n → p.block ≠ B → A.cell? p = some v → A'.cell? p = some v ∧ A'.frozen? p = A.frozen? p
theorem AwayC.refl (B n : Nat) (A : World) : AwayC B n A A := ⟨Nat.le_refl _, fun _ _ _ _ h => ⟨h, rfl⟩⟩
theorem AwayC.trans {B n : Nat} {A A' A'' : World} (h : AwayC B n A A') (k : AwayC B n A' A'') : AwayC B n A A'' :=
  ⟨Nat.le_trans h.size k.size, fun p v h1 h2 h3 => ⟨(k.cell p v h1 h2 (h.cell p v h1 h2 h3).1).1, (k.cell p v h1 h2 (h.cell p v h1 h2 h3).1).2.trans (h.cell p v h1 h2 h3).2⟩⟩
theorem AwayC.of_ck {B n : Nat} {A A' : World} (h : CK A A') : AwayC B n A A' := ⟨h.size, fun _ _ _ _ hv => ⟨h.cell hv, h.frozen hv⟩⟩
theorem AwayC.of_below {B n : Nat} {A A' : World} (h : Below A.heap.size A A') : AwayC B n A A' :=
  ⟨h.size, fun p v _ _ hv => ⟨(h.cell (World.block_lt_of_cell? A p hv)).trans hv, h.frozen (World.block_lt_of_cell? A p hv)⟩⟩
theorem AwayC.put {B n : Nat} {A : World} {k : Nat} {v : Value} {b : Nat} (h : b = B ∨ n ≤ b) : AwayC B n A (A.setCell ⟨b, k, none⟩ v) :=
  ⟨by simp [World.setCell], fun p u h1 h2 hu => ⟨(cell_other (fun e => by subst e; simp at h1 h2; omega)).trans hu, World.frozen?_setCell _ _ _ _⟩⟩

/-- Three cells, each in a block of its own that has just been made. -/
theorem three_cells (x y z : Value) (t u v : TypeId) (w : World) : ∃ X, ((w.alloc (.cells #[x] t)).alloc (.cells #[y] u)).alloc (.cells #[z] v) = X ∧ X.heap.size = w.heap.size + 1 + 1 + 1 ∧ X.cell? ⟨w.heap.size, 0, none⟩ = some x ∧ X.cell? ⟨w.heap.size + 1, 0, none⟩ = some y ∧ X.cell? ⟨w.heap.size + 1 + 1, 0, none⟩ = some z ∧ X.frozen? ⟨w.heap.size + 1 + 1, 0, none⟩ = false ∧ Below w.heap.size w X := by
  have z1 : (w.alloc (.cells #[x] t)).heap.size = w.heap.size + 1 := World.size_alloc _ _
  have z2 : ((w.alloc (.cells #[x] t)).alloc (.cells #[y] u)).heap.size = w.heap.size + 1 + 1 := by rw [World.size_alloc, z1]
  have b1 : Below w.heap.size w (w.alloc (.cells #[x] t)) := (Below.refl _ _).alloc (Nat.le_refl _) _
  have b2 : Below (w.heap.size + 1) (w.alloc (.cells #[x] t)) ((w.alloc (.cells #[x] t)).alloc (.cells #[y] u)) := (Below.refl _ _).alloc (by omega) _
  have b3 : Below (w.heap.size + 1 + 1) ((w.alloc (.cells #[x] t)).alloc (.cells #[y] u)) (((w.alloc (.cells #[x] t)).alloc (.cells #[y] u)).alloc (.cells #[z] v)) := (Below.refl _ _).alloc (by omega) _
  have c1 : (w.alloc (.cells #[x] t)).cell? ⟨w.heap.size, 0, none⟩ = some x := cell_of_row _ _ 0 _ _ _ (heap_alloc_last w _)
  have c2 : ((w.alloc (.cells #[x] t)).alloc (.cells #[y] u)).cell? ⟨w.heap.size + 1, 0, none⟩ = some y := by rw [← z1]; exact cell_of_row _ _ 0 _ _ _ (heap_alloc_last _ _)
  have c3 : (((w.alloc (.cells #[x] t)).alloc (.cells #[y] u)).alloc (.cells #[z] v)).cell? ⟨w.heap.size + 1 + 1, 0, none⟩ = some z := by rw [← z2]; exact cell_of_row _ _ 0 _ _ _ (heap_alloc_last _ _)
  have f3 : (((w.alloc (.cells #[x] t)).alloc (.cells #[y] u)).alloc (.cells #[z] v)).frozen? ⟨w.heap.size + 1 + 1, 0, none⟩ = false := by rw [← z2]; have := (there_row (n := 1) (heap_alloc_last ((w.alloc (.cells #[x] t)).alloc (.cells #[y] u)) (.cells #[z] v)) rfl 0 (by omega)).2; rwa [Nat.zero_add] at this
  exact ⟨_, rfl, by rw [World.size_alloc, z2], (b3.cell (p := ⟨w.heap.size, 0, none⟩) (by simp; omega)).trans ((b2.cell (p := ⟨w.heap.size, 0, none⟩) (by simp)).trans c1), (b3.cell (p := ⟨w.heap.size + 1, 0, none⟩) (by simp)).trans c2, c3, f3, b1.trans ((b2.mono (by omega)).trans (b3.mono (by omega)))⟩

theorem plain_nan {b : Nat} (h : nanK .f32 b = true) : plainB b = false := by
  rw [nanK_read] at h
  have ho : ∀ c, FloatKind.f32.format.order b c = none := fun c => by
    unfold Ieee.Format.order
    cases hr : FloatKind.f32.format.read b <;> simp_all [Ieee.Datum.isNaN, Ieee.Datum.order]
  simp [plainB, ho]
theorem plainO_num (b : Nat) : plainO (num .f32 b) = plainB b := by
  cases h : nanK .f32 b
  · simp [num, h, plainO]
  · simp [num, h, plainO, plain_nan h]

/-- max of two sizes, as an operation. -/
theorem max_op {P : Program} {op : Oper} {a : Act} {p q : Operand} {ts : Array TypeId} {x y : Nat} (w : World) (ho : op.op = .call { callee := .builtin .max, args := #[p, q], argTypes := ts }) (hx : a.eval p = .float .f32 x) (hy : a.eval q = .float .f32 y)
    (n1 : nanK .f32 x = false) (n2 : nanK .f32 y = false) (hs : x < 2147483648) : (execOp a.eval op).run P w = .ok (.value (.float .f32 (maxN x y))) w := by
  have hm := fun (tt : Array TypeId) (t : TypeId) => max_sizes (P := P) w tt t x y n1 n2 hs
  unfold execOp
  simp only [ho]
  simp only [resolve, hx, hy, Sem.run_bind, Sem.run_pure, Result.andThen, invoke, List.map_toArray, List.map_cons, List.map_nil]
  simp [hm, go_sem]
theorem chg_is {b h s t : Nat} (ht : fop .f32 .sub (num .f32 b) (num .f32 h) = some t) (hs : num .f32 s = sizeO (fop .f32 .sub (num .f32 b) (num .f32 h))) : s = chgN b h ∧ nanK .f32 s = false ∧ s < 2147483648 := by
  rw [ht] at hs
  obtain ⟨e, hn⟩ := num_eq_some (show num .f32 s = some (absN t) from hs)
  have hc : chgN b h = absN t := by unfold chgN; rw [ht]; rfl
  refine ⟨e.trans hc.symm, hn, ?_⟩
  rw [e]
  unfold absN
  omega
theorem maxN_ok {x y : Nat} (n1 : nanK .f32 x = false) (s1 : x < 2147483648) (n2 : nanK .f32 y = false) (s2 : y < 2147483648) : nanK .f32 (maxN x y) = false ∧ maxN x y < 2147483648 := by
  unfold maxN
  split
  · exact ⟨n2, s2⟩
  · exact ⟨n1, s1⟩

theorem soft_normal {Q : Exit → Act → World → Prop} {a : Act} {w : World} (h : Q .normal a w) : Soft Q .normal a w := h

/-- A call of a function value. -/
theorem call_value {P : Program} {op : Oper} {a : Act} {w : World} {g : Operand} {ar : Array Operand} {ts : Array TypeId} {nf : Nat} {caps : Array Value} (ho : op.op = .call { callee := .value g, args := ar, argTypes := ts }) (hg : a.eval g = .func (.func nf) #[] caps)
    (he : ∀ args w, (callFunc nf args).run P w = .ok (.enter nf args) w) : (execOp a.eval op).run P w = .ok (.enter nf (ar.map a.eval ++ caps)) w := by
  unfold execOp
  simp only [ho]
  simp only [resolve, hg, Sem.run_bind, Sem.run_pure, Result.andThen, invoke, Deferred.ofValue, Array.empty_append]
  exact he _ _

end Go.Proofs.YtikefaollfaejaaDoor
