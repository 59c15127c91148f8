/- Lists of whole numbers: appended to, compared, written over, looked at again. Condition: the lists are short. -/
import Derived.Test.YtabolokiiepjkaaDoorRow1
import Derived.Test.YtabolokiiepjkaaDoorHelp
import Derived.Test.YtabolokiiepjkaaDoorMkp
namespace Go.Proofs.YtabolokiiepjkaaDoor
open Go Go.RowKit Ieee
set_option linter.unusedSimpArgs false
set_option linter.unusedVariables false


def IV (v : Nat) : Value := .int .i64 (v : Int)
theorem wpList_appI {ops : Array Oper} {rest : List Oper} {o : Oper} {a : Act} {V : World} {Q : Exit → Act → World → Prop} (hg : Region.wanted o (yielded ops a.tmps) = true) (x y : Operand)
    (ho : o.op = .call { callee := .builtin .append, args := #[x, y], argTypes := #[28, 28] }) {g cap n : Nat} {xs : List Nat} (h : VRow V 2 g cap (xs.map IV)) (hn : xs.length = n) (hl : n ≤ 1000) (z : Nat)
    (hx : a.eval x = .slice (some ⟨g, 0, none⟩) n cap) (hy : a.eval y = .slice (some ⟨V.heap.size, 0, none⟩) 1 1)
    (hQ : ∀ g' cap' w', VRow w' 2 g' cap' ((xs ++ [z]).map IV) → V.grownBy w' (some g) → (g' = g ∨ V.heap.size < g') → wpList Tryd.prog ops Q rest (a.put o.dst (.slice (some ⟨g', 0, none⟩) (n + 1) cap')) w') :
    wpList Tryd.prog ops Q (o :: rest) a (V.alloc (.cells #[.int .i64 (z : Int)] 2)) := by
  obtain ⟨i, hi, hz, hs, hby⟩ := info_parts (P := Tryd.prog) (e := 2) (z := .int .i64 0) (size := 1) (bytes := 8) (by kernel_rfl)
  refine wpList_append1 hg x y _ ho Tryd.underlying28 hi hz hs hby rfl h (by rw [List.length_map, hn]) (.int .i64 (z : Int)) rfl (by omega) (by unfold maxLen; omega) hx hy fun g' cap' w' h1 h2 h3 => hQ g' cap' w' ?_ h2 h3
  rwa [List.map_append, List.map_cons, List.map_nil]
def CellsI (w : World) (p : Option Addr) (xs : List Nat) : Prop := ∀ (i v : Nat), xs[i]? = some v → ∃ b, p = some ⟨b, 0, none⟩ ∧ w.cell? ⟨b, i, none⟩ = some (.int .i64 (v : Int))
theorem index_i64 {op : Oper} {a : Act} {x y : Operand} {b n c k : Nat} (ho : op.op = .indexAddr 28 x y) (hx : a.eval x = .slice (some ⟨b, 0, none⟩) n c) (hy : a.eval y = .int .i64 k) (hk : k < n) (w : World) :
    (execOp a.eval op).run Tryd.prog w = .ok (.value (.pointer (some ⟨b, k, none⟩))) w := by
  unfold execOp
  simp only [ho, hx, hy]
  go_simp
theorem neq_same {op : Oper} {a : Act} {x y : Operand} {v : Int} (ho : op.op = .binOp .neq 2 x y 2) (hx : a.eval x = .int .i64 v) (hy : a.eval y = .int .i64 v) (w : World) :
    (execOp a.eval op).run Tryd.prog w = .ok (.value (.bool false)) w := by
  unfold execOp
  simp only [ho, hx, hy]
  go_simp
set_option maxRecDepth 100000 in
set_option maxHeartbeats 4000000 in
theorem eqInt64S_yes (p q : Option Addr) (c d : Nat) (xs : List Nat) (hL : xs.length ≤ 1000) (w : World) (hp : CellsI w p xs) (hq : CellsI w q xs) :
    Calls Tryd.prog 10 #[.slice p xs.length c, .slice q xs.length d] w fun e w' => e = .returned (.bool true) ∧ Below w.heap.size w w' := by
  have P0 := Lib.hid hp
  have Q0 := Lib.hid hq
  obtain ⟨n, hn⟩ : ∃ n, xs.length = n := ⟨_, rfl⟩
  have HN := Lib.hid hn
  rw [hn] at hL ⊢
  clear hp hq hn
  go_enter Tryd.func10, Tryd.ntmps10
  go_upto_region 4 with (fail)
  go_loopw [5] (fun i wr => ∃ k : Nat, k ≤ n ∧ i = .int .i64 k ∧ Hid (Below w.heap.size w wr)) (fun i _ => n - (intOf i).toNat)
  case atStart => exact ⟨0, by omega, rfl, Lib.hid (Below.refl _ _)⟩
  case round =>
    obtain ⟨k, hk, rfl, hB⟩ := hrel
    by_cases hlt : k < n
    · have hki : (k : Int) < n := by omega
      obtain ⟨e, he⟩ : ∃ e, xs[k]? = some e := ⟨_, List.getElem?_eq_getElem (by rw [HN.out]; exact hlt)⟩
      obtain ⟨b, rfl, c0'⟩ := P0.out k e he
      obtain ⟨b', rfl, c1'⟩ := Q0.out k e he
      have c0 := (hB.out.cell (p := ⟨b, k, none⟩) (World.block_lt_of_cell? w _ c0')).trans c0'
      have c1 := (hB.out.cell (p := ⟨b', k, none⟩) (World.block_lt_of_cell? w _ c1')).trans c1'
      clear c0' c1'
      go_upto_region 6 with (fail)
      refine wp_region_calm (ops' := regOf Tryd.f10 6) [0, 1, 2, 3, 4, 5, 6, 7, 8] [] .fin (Below (wr.heap.size) wr) [(0, One (.slice (some ⟨b, 0, none⟩) n c)), (1, One (.int .i64 (k : Int))), (2, One (.pointer (some ⟨b, k, none⟩))), (3, One (.int .i64 (e : Int))), (4, One (.slice (some ⟨b', 0, none⟩) n d)), (5, One (.int .i64 (k : Int))), (6, One (.pointer (some ⟨b', k, none⟩))), (7, One (.int .i64 (e : Int))), (8, One (.bool false))] (by kernel_rfl) (by kernel_rfl) (by kernel_rfl) (by kernel_rfl) (by kernel_rfl) (by kernel_rfl) (by kernel_rfl) (by kernel_rfl) rfl ((Below.refl _ _).drew) ?_
      refine calm_pure (some 17) (by kernel_rfl) (by kernel_rfl) (by kernel_rfl) (fun _ => by kernel_rfl) ?_
      refine calm_pure (some 18) (by kernel_rfl) (by kernel_rfl) (by kernel_rfl) (fun _ => by kernel_rfl) ?_
      refine calm_pure (some 19) (by kernel_rfl) (by kernel_rfl) (by kernel_rfl) (fun _ => (index_i64 (n := n) (c := c) (k := k) (x := .tmp 17) (y := .tmp 18) (by kernel_rfl) (by kernel_rfl) (by kernel_rfl) hlt _)) ?_
      refine calm_read (some 20) (by kernel_rfl) (by kernel_rfl) (by kernel_rfl) (fun w' hw' => load_cell (ty := 2) (x := .tmp 19) (b := b) (o := k) (by kernel_rfl) (by kernel_rfl) Tryd.underlying2 rfl ((fun w' (hw' : Below (wr.heap.size) wr w') => (hw'.cell (p := ⟨b, k, none⟩) (World.block_lt_of_cell? wr _ c0)).trans c0) w' hw')) ?_
      refine calm_pure (some 21) (by kernel_rfl) (by kernel_rfl) (by kernel_rfl) (fun _ => by kernel_rfl) ?_
      refine calm_pure (some 22) (by kernel_rfl) (by kernel_rfl) (by kernel_rfl) (fun _ => by kernel_rfl) ?_
      refine calm_pure (some 23) (by kernel_rfl) (by kernel_rfl) (by kernel_rfl) (fun _ => (index_i64 (n := n) (c := d) (k := k) (x := .tmp 21) (y := .tmp 22) (by kernel_rfl) (by kernel_rfl) (by kernel_rfl) hlt _)) ?_
      refine calm_read (some 24) (by kernel_rfl) (by kernel_rfl) (by kernel_rfl) (fun w' hw' => load_cell (ty := 2) (x := .tmp 23) (b := b') (o := k) (by kernel_rfl) (by kernel_rfl) Tryd.underlying2 rfl ((fun w' (hw' : Below (wr.heap.size) wr w') => (hw'.cell (p := ⟨b', k, none⟩) (World.block_lt_of_cell? wr _ c1)).trans c1) w' hw')) ?_
      refine calm_pure (some 25) (by kernel_rfl) (by kernel_rfl) (by kernel_rfl) (fun _ => (neq_same (x := .tmp 20) (y := .tmp 24) (v := (e : Int)) (by kernel_rfl) (by kernel_rfl) (by kernel_rfl) _)) ?_
      refine calm_end fun w' hw' => plan_end (Clean.normal ?_)
      have HQ := Lib.hid (hB.out.trans (hw'.mono hB.out.size))
      clear hw' c0 c1
      simp only [Act.put, List.setIfInBounds_toArray, List.set_cons_zero, List.set_cons_succ]
      go_wp2
      go_roundw
      case rel => exact ⟨k + 1, by omega, by go_num, HQ⟩
      case measure => simp [intOf]; omega
    · obtain rfl : k = n := by omega
      go_wp2
      go_ret
      exact ⟨rfl, hB.out⟩
/-- One round: one number more is written over. -/
theorem markedI {w wr V : World} {b n k k0 : Nat} (hlt : k < n) (hT : wr.there b 0 n) (hA : ∀ j, j < k → wr.cell? ⟨b, j, none⟩ = some (.int .i64 ((k0 + j : Nat) : Int))) (hB : Below b w wr ∧ wr.heap.size = w.heap.size)
    (hv : V = wr.setCell ⟨b, k, none⟩ (.int .i64 ((k0 + k : Nat) : Int))) :
    V.there b 0 n ∧ (∀ j, j < k + 1 → V.cell? ⟨b, j, none⟩ = some (.int .i64 ((k0 + j : Nat) : Int))) ∧ (Below b w V ∧ V.heap.size = w.heap.size) := by
  have he : V = wr.setCells b k [.int .i64 ((k0 + k : Nat) : Int)] := hv
  subst he
  have ht : wr.there b k 1 := fun j hj => by
    have := hT (k + j) (by omega)
    rwa [Nat.zero_add] at this
  refine ⟨World.there_setCells hT _ _ _, fun j hj => ?_, ⟨below_setCells _ (Nat.le_refl _) _ _ _ hB.1, (size_setCellsW _ _ _ _).trans hB.2⟩⟩
  by_cases hjk : j = k
  · subst hjk
    exact World.rangeAt_setCells_same _ _ _ _ ht 0 _ rfl
  · have hr : wr.rangeAt b j [.int .i64 ((k0 + j : Nat) : Int)] := fun i v hi => by
      have h1 : i < 1 := (List.getElem?_eq_some_iff.1 hi).1
      obtain rfl : i = 0 := by omega
      cases hi
      exact hA j (by omega)
    exact World.rangeAt_setCells_apart hr _ _ _ (.inr (.inl (by simp; omega))) 0 _ rfl
set_option maxRecDepth 100000 in
set_option maxHeartbeats 4000000 in
theorem markInt64S_any (b n c k0 : Nat) (hn : n ≤ 1000) (hk : k0 ≤ 1000) (w : World) (ht : w.there b 0 n) :
    Calls Tryd.prog 11 #[.slice (some ⟨b, 0, none⟩) n c, .int .i64 (k0 : Int)] w fun e w' => e = .returned (.int .i64 ((k0 + n : Nat) : Int)) ∧ (∀ i, i < n → w'.cell? ⟨b, i, none⟩ = some (.int .i64 ((k0 + i : Nat) : Int))) ∧ Below b w w' ∧ w'.heap.size = w.heap.size := by
  have T0 := Lib.hid ht
  clear ht
  go_enter Tryd.func11, Tryd.ntmps11
  go_wp2
  go_loopw [5, 1] (fun i kk wr => ∃ k : Nat, k ≤ n ∧ i = .int .i64 k ∧ kk = .int .i64 ((k0 + k : Nat) : Int) ∧ Hid (wr.there b 0 n) ∧ Hid (∀ j, j < k → wr.cell? ⟨b, j, none⟩ = some (.int .i64 ((k0 + j : Nat) : Int))) ∧ Hid (Below b w wr ∧ wr.heap.size = w.heap.size)) (fun i _ _ => n - (intOf i).toNat)
  case atStart => exact ⟨0, by omega, rfl, rfl, T0, Lib.hid (fun j hj => absurd hj (by omega)), Lib.hid ⟨Below.refl _ _, rfl⟩⟩
  case round =>
    obtain ⟨k, hk, rfl, rfl, hT, hA, hB⟩ := hrel
    by_cases hlt : k < n
    · have hki : (k : Int) < n := by omega
      obtain ⟨u0, hu0⟩ := Option.isSome_iff_exists.1 (hT.out k hlt).1
      have f0 := (hT.out k hlt).2
      simp only [Nat.zero_add] at hu0 f0
      go_wp2
      have HC := @markedI w wr _ b n k k0 hlt hT.out hA.out hB.out rfl
      go_roundw
      case rel => exact ⟨k + 1, by omega, by go_num, by go_num, Lib.hid (by simpa using HC.1), Lib.hid (by simpa using HC.2.1), Lib.hid (by simpa using HC.2.2)⟩
      case measure => simp [intOf]; omega
    · obtain rfl : k = n := by omega
      go_wp2
      go_ret
      exact ⟨rfl, hA.out, hB.out.1, hB.out.2⟩
set_option maxRecDepth 100000 in
set_option maxHeartbeats 4000000 in
theorem heldInt64S_any (b n c k0 : Nat) (hn : n ≤ 1000) (hk : k0 ≤ 1000) (w : World) (hA : ∀ i, i < n → w.cell? ⟨b, i, none⟩ = some (.int .i64 ((k0 + i : Nat) : Int))) :
    Calls Tryd.prog 12 #[.slice (some ⟨b, 0, none⟩) n c, .int .i64 (k0 : Int)] w fun e w' => e = .returned (.int .i64 ((k0 + n : Nat) : Int)) ∧ Below w.heap.size w w' := by
  have A0 := Lib.hid hA
  clear hA
  go_enter Tryd.func12, Tryd.ntmps12
  go_wp2
  go_loopw [5, 1] (fun i kk wr => ∃ k : Nat, k ≤ n ∧ i = .int .i64 k ∧ kk = .int .i64 ((k0 + k : Nat) : Int) ∧ Hid (Quiet w wr)) (fun i _ _ => n - (intOf i).toNat)
  case atStart => exact ⟨0, by omega, rfl, rfl, Lib.hid (Quiet.refl _)⟩
  case round =>
    obtain ⟨k, hk, rfl, rfl, hQ⟩ := hrel
    by_cases hlt : k < n
    · have hki : (k : Int) < n := by omega
      have c0 : wr.cell? ⟨b, k, none⟩ = some (.int .i64 ((k0 : Int) + k)) := (hQ.out.cell _).trans ((A0.out k hlt).trans (by simp))
      go_wp2
      go_roundw
      case rel => exact ⟨k + 1, by omega, by go_num, by go_num, hQ⟩
      case measure => simp [intOf]; omega
    · obtain rfl : k = n := by omega
      go_wp2
      go_ret
      exact ⟨rfl, hQ.out.below _⟩
set_option maxRecDepth 100000 in
theorem markInt64S_nil (c : Nat) (k0 : Nat) (hk : k0 ≤ 1048576) (p : Option Addr) (w : World) :
    Calls Tryd.prog 11 #[.slice p 0 c, .int .i64 (k0 : Int)] w fun e w' => e = .returned (.int .i64 (k0 : Int)) ∧ w' = w := by
  go_enter Tryd.func11, Tryd.ntmps11
  go_wp2
  refine wp_loop_rounds 1 ?_
  rw [rounds_succ]
  go_wp2
  go_ret
  exact ⟨rfl, rfl⟩
set_option maxRecDepth 100000 in
theorem heldInt64S_nil (c : Nat) (k0 : Nat) (hk : k0 ≤ 1048576) (p : Option Addr) (w : World) :
    Calls Tryd.prog 12 #[.slice p 0 c, .int .i64 (k0 : Int)] w fun e w' => e = .returned (.int .i64 (k0 : Int)) ∧ w' = w := by
  go_enter Tryd.func12, Tryd.ntmps12
  go_wp2
  refine wp_loop_rounds 1 ?_
  rw [rounds_succ]
  go_wp2
  go_ret
  exact ⟨rfl, rfl⟩
end Go.Proofs.YtabolokiiepjkaaDoor
