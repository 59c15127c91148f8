/- Lists of whole numbers that a law compares, writes over, and looks at again; lists of aquifers that it writes over. Condition: the lists are short. -/
import Derived.Test.YthacifhphoaioaaDoorFtI
import Derived.Test.YthacifhphoaioaaDoorMkr
namespace Go.Proofs.YthacifhphoaioaaDoor
open Go Go.RowKit Ieee
set_option linter.unusedSimpArgs false
set_option linter.unusedVariables false
attribute [local go_sem] run_store_f32

def CellsI (w : World) (p : Option Addr) (xs : List Nat) : Prop := ∀ (i v : Nat), xs[i]? = some v → ∃ b, p = some ⟨b, 0, none⟩ ∧ w.cell? ⟨b, i, none⟩ = some (.int .i64 (v : Int))
theorem OwnI.cells {w : World} {p : Option Addr} {cap B : Nat} {xs : List Nat} (h : OwnI w p cap xs B) : CellsI w p xs := fun i v hv => by
  rcases h with ⟨_, _, h⟩ | ⟨g, h1, h2, _⟩
  · subst h; simp at hv
  · refine ⟨g, h1, h2.cell i _ ?_⟩
    rw [List.getElem?_map, hv]; rfl
theorem index_i64 {op : Oper} {a : Act} {x y : Operand} {b n c k : Nat} (ho : op.op = .indexAddr 30 x y) (hx : a.eval x = .slice (some ⟨b, 0, none⟩) n c) (hy : a.eval y = .int .i64 k) (hk : k < n) (w : World) :
    (execOp a.eval op).run Tryd.prog w = .ok (.value (.pointer (some ⟨b, k, none⟩))) w := by
  unfold execOp
  simp only [ho, hx, hy]
  go_simp
theorem neq_same {op : Oper} {a : Act} {x y : Operand} {v : Int} (ho : op.op = .binOp .neq 2 x y 2) (hx : a.eval x = .int .i64 v) (hy : a.eval y = .int .i64 v) (w : World) :
    (execOp a.eval op).run Tryd.prog w = .ok (.value (.bool false)) w := by
  unfold execOp
  simp only [ho, hx, hy]
  go_simp
set_option maxRecDepth 100000 in
set_option maxHeartbeats 4000000 in
theorem eqInt64S_yes (p q : Option Addr) (c d : Nat) (xs : List Nat) (hL : xs.length ≤ 1000) (w : World) (hp : CellsI w p xs) (hq : CellsI w q xs) :
    Calls Tryd.prog 17 #[.slice p xs.length c, .slice q xs.length d] w fun e w' => e = .returned (.bool true) ∧ Below w.heap.size w w' := by
  have P0 := Lib.hid hp
  have Q0 := Lib.hid hq
  obtain ⟨n, hn⟩ : ∃ n, xs.length = n := ⟨_, rfl⟩
  have HN := Lib.hid hn
  rw [hn] at hL ⊢
  clear hp hq hn
  go_enter Tryd.func17, Tryd.ntmps17
  go_upto_region 4 with (fail)
  go_loopw [5] (fun i wr => ∃ k : Nat, k ≤ n ∧ i = .int .i64 k ∧ Hid (Below w.heap.size w wr)) (fun i _ => n - (intOf i).toNat)
  case atStart => exact ⟨0, by omega, rfl, Lib.hid (Below.refl _ _)⟩
  case round =>
    obtain ⟨k, hk, rfl, hB⟩ := hrel
    by_cases hlt : k < n
    · have hki : (k : Int) < n := by omega
      obtain ⟨e, he⟩ : ∃ e, xs[k]? = some e := ⟨_, List.getElem?_eq_getElem (by rw [HN.out]; exact hlt)⟩
      obtain ⟨b, rfl, c0'⟩ := P0.out k e he
      obtain ⟨b', rfl, c1'⟩ := Q0.out k e he
      have c0 := (hB.out.cell (p := ⟨b, k, none⟩) (World.block_lt_of_cell? w _ c0')).trans c0'
      have c1 := (hB.out.cell (p := ⟨b', k, none⟩) (World.block_lt_of_cell? w _ c1')).trans c1'
      clear c0' c1'
      go_upto_region 6 with (fail)
      refine wp_region_calm (ops' := regOf Tryd.f17 6) [0, 1, 2, 3, 4, 5, 6, 7, 8] [] .fin (Below (wr.heap.size) wr) [(0, One (.slice (some ⟨b, 0, none⟩) n c)), (1, One (.int .i64 (k : Int))), (2, One (.pointer (some ⟨b, k, none⟩))), (3, One (.int .i64 (e : Int))), (4, One (.slice (some ⟨b', 0, none⟩) n d)), (5, One (.int .i64 (k : Int))), (6, One (.pointer (some ⟨b', k, none⟩))), (7, One (.int .i64 (e : Int))), (8, One (.bool false))] (by kernel_rfl) (by kernel_rfl) (by kernel_rfl) (by kernel_rfl) (by kernel_rfl) (by kernel_rfl) (by kernel_rfl) (by kernel_rfl) rfl ((Below.refl _ _).drew) ?_
      refine calm_pure (some 17) (by kernel_rfl) (by kernel_rfl) (by kernel_rfl) (fun _ => by kernel_rfl) ?_
      refine calm_pure (some 18) (by kernel_rfl) (by kernel_rfl) (by kernel_rfl) (fun _ => by kernel_rfl) ?_
      refine calm_pure (some 19) (by kernel_rfl) (by kernel_rfl) (by kernel_rfl) (fun _ => (index_i64 (n := n) (c := c) (k := k) (x := .tmp 17) (y := .tmp 18) (by kernel_rfl) (by kernel_rfl) (by kernel_rfl) hlt _)) ?_
      refine calm_read (some 20) (by kernel_rfl) (by kernel_rfl) (by kernel_rfl) (fun w' hw' => load_cell (ty := 2) (x := .tmp 19) (b := b) (o := k) (by kernel_rfl) (by kernel_rfl) Tryd.underlying2 rfl ((fun w' (hw' : Below (wr.heap.size) wr w') => (hw'.cell (p := ⟨b, k, none⟩) (World.block_lt_of_cell? wr _ c0)).trans c0) w' hw')) ?_
      refine calm_pure (some 21) (by kernel_rfl) (by kernel_rfl) (by kernel_rfl) (fun _ => by kernel_rfl) ?_
      refine calm_pure (some 22) (by kernel_rfl) (by kernel_rfl) (by kernel_rfl) (fun _ => by kernel_rfl) ?_
      refine calm_pure (some 23) (by kernel_rfl) (by kernel_rfl) (by kernel_rfl) (fun _ => (index_i64 (n := n) (c := d) (k := k) (x := .tmp 21) (y := .tmp 22) (by kernel_rfl) (by kernel_rfl) (by kernel_rfl) hlt _)) ?_
      refine calm_read (some 24) (by kernel_rfl) (by kernel_rfl) (by kernel_rfl) (fun w' hw' => load_cell (ty := 2) (x := .tmp 23) (b := b') (o := k) (by kernel_rfl) (by kernel_rfl) Tryd.underlying2 rfl ((fun w' (hw' : Below (wr.heap.size) wr w') => (hw'.cell (p := ⟨b', k, none⟩) (World.block_lt_of_cell? wr _ c1)).trans c1) w' hw')) ?_
      refine calm_pure (some 25) (by kernel_rfl) (by kernel_rfl) (by kernel_rfl) (fun _ => (neq_same (x := .tmp 20) (y := .tmp 24) (v := (e : Int)) (by kernel_rfl) (by kernel_rfl) (by kernel_rfl) _)) ?_
      refine calm_end fun w' hw' => plan_end (Clean.normal ?_)
      have HQ := Lib.hid (hB.out.trans (hw'.mono hB.out.size))
      clear hw' c0 c1
      simp only [Act.put, List.setIfInBounds_toArray, List.set_cons_zero, List.set_cons_succ]
      go_wp2
      go_roundw
      case rel => exact ⟨k + 1, by omega, by go_num, HQ⟩
      case measure => simp [intOf]; omega
    · obtain rfl : k = n := by omega
      go_wp2
      go_ret
      exact ⟨rfl, hB.out⟩
/-- One round: one number more is written over. -/
theorem markedI {w wr V : World} {b n k k0 : Nat} (hlt : k < n) (hT : wr.there b 0 n) (hA : ∀ j, j < k → wr.cell? ⟨b, j, none⟩ = some (.int .i64 ((k0 + j : Nat) : Int))) (hB : Below b w wr ∧ wr.heap.size = w.heap.size)
    (hv : V = wr.setCell ⟨b, k, none⟩ (.int .i64 ((k0 + k : Nat) : Int))) :
    V.there b 0 n ∧ (∀ j, j < k + 1 → V.cell? ⟨b, j, none⟩ = some (.int .i64 ((k0 + j : Nat) : Int))) ∧ (Below b w V ∧ V.heap.size = w.heap.size) := by
  have he : V = wr.setCells b k [.int .i64 ((k0 + k : Nat) : Int)] := hv
  subst he
  have ht : wr.there b k 1 := fun j hj => by
    have := hT (k + j) (by omega)
    rwa [Nat.zero_add] at this
  refine ⟨World.there_setCells hT _ _ _, fun j hj => ?_, ⟨below_setCells _ (Nat.le_refl _) _ _ _ hB.1, (size_setCellsW _ _ _ _).trans hB.2⟩⟩
  by_cases hjk : j = k
  · subst hjk
    exact World.rangeAt_setCells_same _ _ _ _ ht 0 _ rfl
  · have hr : wr.rangeAt b j [.int .i64 ((k0 + j : Nat) : Int)] := fun i v hi => by
      have h1 : i < 1 := (List.getElem?_eq_some_iff.1 hi).1
      obtain rfl : i = 0 := by omega
      cases hi
      exact hA j (by omega)
    exact World.rangeAt_setCells_apart hr _ _ _ (.inr (.inl (by simp; omega))) 0 _ rfl
set_option maxRecDepth 100000 in
set_option maxHeartbeats 4000000 in
theorem markInt64S_any (b n c k0 : Nat) (hn : n ≤ 1000) (hk : k0 ≤ 1000) (w : World) (ht : w.there b 0 n) :
    Calls Tryd.prog 18 #[.slice (some ⟨b, 0, none⟩) n c, .int .i64 (k0 : Int)] w fun e w' => e = .returned (.int .i64 ((k0 + n : Nat) : Int)) ∧ (∀ i, i < n → w'.cell? ⟨b, i, none⟩ = some (.int .i64 ((k0 + i : Nat) : Int))) ∧ Below b w w' ∧ w'.heap.size = w.heap.size := by
  have T0 := Lib.hid ht
  clear ht
  go_enter Tryd.func18, Tryd.ntmps18
  go_wp2
  go_loopw [5, 1] (fun i kk wr => ∃ k : Nat, k ≤ n ∧ i = .int .i64 k ∧ kk = .int .i64 ((k0 + k : Nat) : Int) ∧ Hid (wr.there b 0 n) ∧ Hid (∀ j, j < k → wr.cell? ⟨b, j, none⟩ = some (.int .i64 ((k0 + j : Nat) : Int))) ∧ Hid (Below b w wr ∧ wr.heap.size = w.heap.size)) (fun i _ _ => n - (intOf i).toNat)
  case atStart => exact ⟨0, by omega, rfl, rfl, T0, Lib.hid (fun j hj => absurd hj (by omega)), Lib.hid ⟨Below.refl _ _, rfl⟩⟩
  case round =>
    obtain ⟨k, hk, rfl, rfl, hT, hA, hB⟩ := hrel
    by_cases hlt : k < n
    · have hki : (k : Int) < n := by omega
      obtain ⟨u0, hu0⟩ := Option.isSome_iff_exists.1 (hT.out k hlt).1
      have f0 := (hT.out k hlt).2
      simp only [Nat.zero_add] at hu0 f0
      go_wp2
      have HC := @markedI w wr _ b n k k0 hlt hT.out hA.out hB.out rfl
      go_roundw
      case rel => exact ⟨k + 1, by omega, by go_num, by go_num, Lib.hid (by simpa using HC.1), Lib.hid (by simpa using HC.2.1), Lib.hid (by simpa using HC.2.2)⟩
      case measure => simp [intOf]; omega
    · obtain rfl : k = n := by omega
      go_wp2
      go_ret
      exact ⟨rfl, hA.out, hB.out.1, hB.out.2⟩
set_option maxRecDepth 100000 in
set_option maxHeartbeats 4000000 in
theorem heldInt64S_any (b n c k0 : Nat) (hn : n ≤ 1000) (hk : k0 ≤ 1000) (w : World) (hA : ∀ i, i < n → w.cell? ⟨b, i, none⟩ = some (.int .i64 ((k0 + i : Nat) : Int))) :
    Calls Tryd.prog 39 #[.slice (some ⟨b, 0, none⟩) n c, .int .i64 (k0 : Int)] w fun e w' => e = .returned (.int .i64 ((k0 + n : Nat) : Int)) ∧ Below w.heap.size w w' := by
  have A0 := Lib.hid hA
  clear hA
  go_enter Tryd.func39, Tryd.ntmps39
  go_wp2
  go_loopw [5, 1] (fun i kk wr => ∃ k : Nat, k ≤ n ∧ i = .int .i64 k ∧ kk = .int .i64 ((k0 + k : Nat) : Int) ∧ Hid (Quiet w wr)) (fun i _ _ => n - (intOf i).toNat)
  case atStart => exact ⟨0, by omega, rfl, rfl, Lib.hid (Quiet.refl _)⟩
  case round =>
    obtain ⟨k, hk, rfl, rfl, hQ⟩ := hrel
    by_cases hlt : k < n
    · have hki : (k : Int) < n := by omega
      have c0 : wr.cell? ⟨b, k, none⟩ = some (.int .i64 ((k0 : Int) + k)) := (hQ.out.cell _).trans ((A0.out k hlt).trans (by simp))
      go_wp2
      go_roundw
      case rel => exact ⟨k + 1, by omega, by go_num, by go_num, hQ⟩
      case measure => simp [intOf]; omega
    · obtain rfl : k = n := by omega
      go_wp2
      go_ret
      exact ⟨rfl, hQ.out.below _⟩
set_option maxRecDepth 100000 in
theorem markInt64S_nil (c : Nat) (k0 : Nat) (hk : k0 ≤ 1048576) (p : Option Addr) (w : World) :
    Calls Tryd.prog 18 #[.slice p 0 c, .int .i64 (k0 : Int)] w fun e w' => e = .returned (.int .i64 (k0 : Int)) ∧ w' = w := by
  go_enter Tryd.func18, Tryd.ntmps18
  go_wp2
  refine wp_loop_rounds 1 ?_
  rw [rounds_succ]
  go_wp2
  go_ret
  exact ⟨rfl, rfl⟩
set_option maxRecDepth 100000 in
theorem heldInt64S_nil (c : Nat) (k0 : Nat) (hk : k0 ≤ 1048576) (p : Option Addr) (w : World) :
    Calls Tryd.prog 39 #[.slice p 0 c, .int .i64 (k0 : Int)] w fun e w' => e = .returned (.int .i64 (k0 : Int)) ∧ w' = w := by
  go_enter Tryd.func39, Tryd.ntmps39
  go_wp2
  refine wp_loop_rounds 1 ?_
  rw [rounds_succ]
  go_wp2
  go_ret
  exact ⟨rfl, rfl⟩
def mkA (k : Nat) : A2 := (floatOfInt .f32 (k : Int), floatOfInt .f32 ((k : Int) + 1))
theorem mkA_set (wr : World) (b o : Nat) (e : A2) : ((wr.setCell ⟨b, o, none⟩ (.float .f32 e.1)).setCell ⟨b, o + 1, none⟩ (.float .f32 e.2)) = wr.setCells b o (a2 e) := rfl
/-- One round: one reading more is written over. -/
theorem markedA {w wr V : World} {b o n k k0 : Nat} (hlt : k < n) (hT : wr.there b o (n * 2)) (hA : ∀ j, j < k → wr.rangeAt b (o + j * 2) (a2 (mkA (k0 + 2 * j)))) (hB : Below b w wr ∧ wr.heap.size = w.heap.size)
    (hF : ∀ x, x ≠ b → wr.heap[x]? = w.heap[x]?) (hv : V = wr.setCells b (o + k * 2) (a2 (mkA (k0 + 2 * k)))) :
    V.there b o (n * 2) ∧ (∀ j, j < k + 1 → V.rangeAt b (o + j * 2) (a2 (mkA (k0 + 2 * j)))) ∧ (Below b w V ∧ V.heap.size = w.heap.size) ∧ ∀ x, x ≠ b → V.heap[x]? = w.heap[x]? := by
  subst hv
  have ht : wr.there b (o + k * 2) 2 := fun j hj => by
    have := hT (k * 2 + j) (by omega)
    rwa [← Nat.add_assoc] at this
  refine ⟨World.there_setCells hT _ _ _, fun j hj => ?_, ⟨below_setCells _ (Nat.le_refl _) _ _ _ hB.1, (size_setCellsW _ _ _ _).trans hB.2⟩, fun x hx => (heap_setCellsR _ hx).trans (hF x hx)⟩
  by_cases hjk : j = k
  · subst hjk
    exact World.rangeAt_setCells_same _ _ _ _ ht
  · exact World.rangeAt_setCells_apart (hA j (by omega)) _ _ _ (.inr (.inl (by rw [a2_len]; omega)))
set_option maxRecDepth 100000 in
set_option maxHeartbeats 1000000 in
theorem markAquiferS_any (b o n c k0 : Nat) (hn : n ≤ 1048576) (hk : k0 ≤ 1048576) (w : World) (ht : w.there b o (n * 2)) :
    Calls Tryd.prog 38 #[.slice (some ⟨b, o, none⟩) n c, .int .i64 (k0 : Int)] w fun e w' => e = .returned (.int .i64 ((k0 + 2 * n : Nat) : Int)) ∧ (∀ i, i < n → w'.rangeAt b (o + i * 2) (a2 (mkA (k0 + 2 * i)))) ∧ Below b w w' ∧ w'.heap.size = w.heap.size ∧ ∀ x, x ≠ b → w'.heap[x]? = w.heap[x]? := by
  have T0 := Lib.hid ht
  clear ht
  go_enter Tryd.func38, Tryd.ntmps38
  go_wp2
  go_loopw [5, 1] (fun i kk wr => ∃ k : Nat, k ≤ n ∧ i = .int .i64 k ∧ kk = .int .i64 ((k0 + 2 * k : Nat) : Int) ∧ Hid (wr.there b o (n * 2)) ∧ Hid (∀ j, j < k → wr.rangeAt b (o + j * 2) (a2 (mkA (k0 + 2 * j)))) ∧ Hid (Below b w wr ∧ wr.heap.size = w.heap.size) ∧ Hid (∀ x, x ≠ b → wr.heap[x]? = w.heap[x]?)) (fun i _ _ => n - (intOf i).toNat)
  case atStart => exact ⟨0, by omega, rfl, rfl, T0, Lib.hid (fun j hj => absurd hj (by omega)), Lib.hid ⟨Below.refl _ _, rfl⟩, Lib.hid (fun _ _ => rfl)⟩
  case round =>
    obtain ⟨k, hk, rfl, rfl, hT, hA, hB, hF⟩ := hrel
    by_cases hlt : k < n
    · have hki : (k : Int) < n := by omega
      obtain ⟨u0, hu0⟩ := Option.isSome_iff_exists.1 (hT.out (k * 2) (by omega)).1
      obtain ⟨u1, hu1⟩ := Option.isSome_iff_exists.1 (hT.out (k * 2 + 1) (by omega)).1
      have f0 := (hT.out (k * 2) (by omega)).2
      have f1 := (hT.out (k * 2 + 1) (by omega)).2
      simp only [← Nat.add_assoc] at hu1 f1
      go_wp2
      have HC := @markedA w wr _ b o n k k0 hlt hT.out hA.out hB.out hF.out rfl
      simp only [← mkA_set, mkA, Int.natCast_add, Int.natCast_mul, Int.cast_ofNat_Int] at HC
      go_roundw
      case rel => exact ⟨k + 1, by omega, by go_num, by go_num, Lib.hid HC.1, Lib.hid HC.2.1, Lib.hid HC.2.2.1, Lib.hid HC.2.2.2⟩
      case measure => simp [intOf]; omega
    · obtain rfl : k = n := by omega
      go_wp2
      go_ret
      exact ⟨rfl, hA.out, hB.out.1, hB.out.2, hF.out⟩

set_option maxRecDepth 100000 in
theorem markAquiferS_nil (c : Nat) (k0 : Nat) (hk : k0 ≤ 1048576) (p : Option Addr) (w : World) :
    Calls Tryd.prog 38 #[.slice p 0 c, .int .i64 (k0 : Int)] w fun e w' => e = .returned (.int .i64 (k0 : Int)) ∧ w' = w := by
  go_enter Tryd.func38, Tryd.ntmps38
  go_wp2
  refine wp_loop_rounds 1 ?_
  rw [rounds_succ]
  go_wp2
  go_ret
  exact ⟨rfl, rfl⟩
end Go.Proofs.YthacifhphoaioaaDoor
