/- Lists of readings that a law writes over (markReadingS), and looks at again (heldReadingS). Condition: the numbers are small. -/
import Derived.Test.YtbiknpfcemfoeaaDoorRs
namespace Go.Proofs.YtbiknpfcemfoeaaDoor
open Go Go.RowKit Ieee
set_option linter.unusedSimpArgs false
set_option linter.unusedVariables false
attribute [local go_sem] run_store_f32

def mkR (k : Nat) : R2 := ((k : Int), IntKind.i16.wrap (k + 1))
theorem heap_setCellsR {b k : Nat} (vs : List Value) (h : k ≠ b) : ∀ {o : Nat} {W : World}, (W.setCells b o vs).heap[k]? = W.heap[k]? := by
  induction vs with
  | nil => intro o W; rfl
  | cons v r ih => intro o W; rw [World.setCells, ih]; exact heap_setCell_other _ _ _ _ h
theorem mkR_set (wr : World) (b o : Nat) (e : R2) : ((wr.setCell ⟨b, o, none⟩ (.int .i64 e.1)).setCell ⟨b, o + 1, none⟩ (.int .i16 e.2)) = wr.setCells b o (r2 e) := rfl
/-- One round: one reading more is written over. -/
theorem markedR {w wr V : World} {b o n k k0 : Nat} (hlt : k < n) (hT : wr.there b o (n * 2)) (hA : ∀ j, j < k → wr.rangeAt b (o + j * 2) (r2 (mkR (k0 + 2 * j)))) (hB : Below b w wr ∧ wr.heap.size = w.heap.size)
    (hF : ∀ x, x ≠ b → wr.heap[x]? = w.heap[x]?) (hv : V = wr.setCells b (o + k * 2) (r2 (mkR (k0 + 2 * k)))) :
    V.there b o (n * 2) ∧ (∀ j, j < k + 1 → V.rangeAt b (o + j * 2) (r2 (mkR (k0 + 2 * j)))) ∧ (Below b w V ∧ V.heap.size = w.heap.size) ∧ ∀ x, x ≠ b → V.heap[x]? = w.heap[x]? := by
  subst hv
  have ht : wr.there b (o + k * 2) 2 := fun j hj => by
    have := hT (k * 2 + j) (by omega)
    rwa [← Nat.add_assoc] at this
  refine ⟨World.there_setCells hT _ _ _, fun j hj => ?_, ⟨below_setCells _ (Nat.le_refl _) _ _ _ hB.1, (size_setCellsW _ _ _ _).trans hB.2⟩, fun x hx => (heap_setCellsR _ hx).trans (hF x hx)⟩
  by_cases hjk : j = k
  · subst hjk
    exact World.rangeAt_setCells_same _ _ _ _ ht
  · exact World.rangeAt_setCells_apart (hA j (by omega)) _ _ _ (.inr (.inl (by rw [r2_len]; omega)))
set_option maxRecDepth 100000 in
set_option maxHeartbeats 1000000 in
theorem markReadingS_any (b o n c k0 : Nat) (hn : n ≤ 1048576) (hk : k0 ≤ 1048576) (w : World) (ht : w.there b o (n * 2)) :
    Calls Tryd.prog 20 #[.slice (some ⟨b, o, none⟩) n c, .int .i64 (k0 : Int)] w fun e w' => e = .returned (.int .i64 ((k0 + 2 * n : Nat) : Int)) ∧ (∀ i, i < n → w'.rangeAt b (o + i * 2) (r2 (mkR (k0 + 2 * i)))) ∧ Below b w w' ∧ w'.heap.size = w.heap.size ∧ ∀ x, x ≠ b → w'.heap[x]? = w.heap[x]? := by
  have T0 := Lib.hid ht
  clear ht
  go_enter Tryd.func20, Tryd.ntmps20
  go_wp2
  go_loopw [5, 1] (fun i kk wr => ∃ k : Nat, k ≤ n ∧ i = .int .i64 k ∧ kk = .int .i64 ((k0 + 2 * k : Nat) : Int) ∧ Hid (wr.there b o (n * 2)) ∧ Hid (∀ j, j < k → wr.rangeAt b (o + j * 2) (r2 (mkR (k0 + 2 * j)))) ∧ Hid (Below b w wr ∧ wr.heap.size = w.heap.size) ∧ Hid (∀ x, x ≠ b → wr.heap[x]? = w.heap[x]?)) (fun i _ _ => n - (intOf i).toNat)
  case atStart => exact ⟨0, by omega, rfl, rfl, T0, Lib.hid (fun j hj => absurd hj (by omega)), Lib.hid ⟨Below.refl _ _, rfl⟩, Lib.hid (fun _ _ => rfl)⟩
  case round =>
    obtain ⟨k, hk, rfl, rfl, hT, hA, hB, hF⟩ := hrel
    by_cases hlt : k < n
    · have hki : (k : Int) < n := by omega
      obtain ⟨u0, hu0⟩ := Option.isSome_iff_exists.1 (hT.out (k * 2) (by omega)).1
      obtain ⟨u1, hu1⟩ := Option.isSome_iff_exists.1 (hT.out (k * 2 + 1) (by omega)).1
      have f0 := (hT.out (k * 2) (by omega)).2
      have f1 := (hT.out (k * 2 + 1) (by omega)).2
      simp only [← Nat.add_assoc] at hu1 f1
      go_wp2
      have HC := @markedR w wr _ b o n k k0 hlt hT.out hA.out hB.out hF.out rfl
      simp only [← mkR_set, mkR, Int.natCast_add, Int.natCast_mul, Int.cast_ofNat_Int] at HC
      go_roundw
      case rel => exact ⟨k + 1, by omega, by go_num, by go_num, Lib.hid HC.1, Lib.hid HC.2.1, Lib.hid HC.2.2.1, Lib.hid HC.2.2.2⟩
      case measure => simp [intOf]; omega
    · obtain rfl : k = n := by omega
      go_wp2
      go_ret
      exact ⟨rfl, hA.out, hB.out.1, hB.out.2, hF.out⟩

set_option maxRecDepth 100000 in
set_option maxHeartbeats 1000000 in
theorem heldReadingS_any (b o n c k0 : Nat) (hn : n ≤ 1000) (hk : k0 ≤ 1000) (w : World) (hA : ∀ i, i < n → w.rangeAt b (o + i * 2) (r2 (mkR (k0 + 2 * i)))) :
    Calls Tryd.prog 21 #[.slice (some ⟨b, o, none⟩) n c, .int .i64 (k0 : Int)] w fun e w' => e = .returned (.int .i64 ((k0 + 2 * n : Nat) : Int)) ∧ Below w.heap.size w w' := by
  have A0 := Lib.hid hA
  clear hA
  go_enter Tryd.func21, Tryd.ntmps21
  go_wp2
  go_loopw [5, 1] (fun i kk wr => ∃ k : Nat, k ≤ n ∧ i = .int .i64 k ∧ kk = .int .i64 ((k0 + 2 * k : Nat) : Int) ∧ Hid (Quiet w wr)) (fun i _ _ => n - (intOf i).toNat)
  case atStart => exact ⟨0, by omega, rfl, rfl, Lib.hid (Quiet.refl _)⟩
  case round =>
    obtain ⟨k, hk, rfl, rfl, hQ⟩ := hrel
    by_cases hlt : k < n
    · have hki : (k : Int) < n := by omega
      have hr := A0.out k hlt
      have c0 : wr.cell? ⟨b, o + k * 2, none⟩ = some (.int .i64 ((k0 : Int) + 2 * k)) := (hQ.out.cell _).trans ((hr 0 _ rfl).trans (by simp [mkR]))
      have c1 : wr.cell? ⟨b, o + k * 2 + 1, none⟩ = some (.int .i16 (IntKind.i16.wrap ((k0 : Int) + 2 * k + 1))) := (hQ.out.cell _).trans ((hr 1 _ rfl).trans (by simp [mkR]))
      clear hr
      go_wp2
      go_roundw
      case rel => exact ⟨k + 1, by omega, by go_num, by go_num, hQ⟩
      case measure => simp [intOf]; omega
    · obtain rfl : k = n := by omega
      go_wp2
      go_ret
      exact ⟨rfl, hQ.out.below _⟩
theorem markReadingS_nil (c : Nat) (k0 : Nat) (hk : k0 ≤ 1048576) (p : Option Addr) (w : World) :
    Calls Tryd.prog 20 #[.slice p 0 c, .int .i64 (k0 : Int)] w fun e w' => e = .returned (.int .i64 (k0 : Int)) ∧ w' = w := by
  go_enter Tryd.func20, Tryd.ntmps20
  go_wp2
  refine wp_loop_rounds 1 ?_
  rw [rounds_succ]
  go_wp2
  go_ret
  exact ⟨rfl, rfl⟩
theorem heldReadingS_nil (c : Nat) (k0 : Nat) (hk : k0 ≤ 1048576) (p : Option Addr) (w : World) :
    Calls Tryd.prog 21 #[.slice p 0 c, .int .i64 (k0 : Int)] w fun e w' => e = .returned (.int .i64 (k0 : Int)) ∧ w' = w := by
  go_enter Tryd.func21, Tryd.ntmps21
  go_wp2
  refine wp_loop_rounds 1 ?_
  rw [rounds_succ]
  go_wp2
  go_ret
  exact ⟨rfl, rfl⟩
end Go.Proofs.YtbiknpfcemfoeaaDoor
