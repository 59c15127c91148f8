/- Lists of wells that a law writes over (markWellS), and looks at again (heldWellS). Condition: the numbers are small. -/
import Derived.Test.YtdhgehmnjoclaaaLiftS
namespace Go.Proofs.Ytdhgehmnjoclaaa
open Go Go.RowKit Ieee
set_option linter.unusedSimpArgs false
set_option linter.unusedVariables false
attribute [local go_sem] run_store_f32

def mkW (k : Nat) : W3 := (IntKind.i8.wrap k, IntKind.i8.wrap (k + 1), floatOfInt .f32 (k + 1 + 1))
theorem heap_setCellsW {b k : Nat} (vs : List Value) (h : k ≠ b) : ∀ {o : Nat} {W : World}, (W.setCells b o vs).heap[k]? = W.heap[k]? := by
  induction vs with
  | nil => intro o W; rfl
  | cons v r ih => intro o W; rw [World.setCells, ih]; exact heap_setCell_other _ _ _ _ h
theorem mk_set (wr : World) (b o : Nat) (e : W3) : (((wr.setCell ⟨b, o, none⟩ (.int .i8 e.1)).setCell ⟨b, o + 1, none⟩ (.int .i8 e.2.1)).setCell ⟨b, o + 2, none⟩ (.float .f32 e.2.2)) = wr.setCells b o (w3 e) := rfl
/-- One round: one well more is written over. -/
theorem marked {w wr V : World} {b o n k k0 : Nat} (hlt : k < n) (hT : wr.there b o (n * 3)) (hA : ∀ j, j < k → wr.rangeAt b (o + j * 3) (w3 (mkW (k0 + 3 * j)))) (hB : Below b w wr ∧ wr.heap.size = w.heap.size)
    (hF : ∀ x, x ≠ b → wr.heap[x]? = w.heap[x]?) (hv : V = wr.setCells b (o + k * 3) (w3 (mkW (k0 + 3 * k)))) :
    V.there b o (n * 3) ∧ (∀ j, j < k + 1 → V.rangeAt b (o + j * 3) (w3 (mkW (k0 + 3 * j)))) ∧ (Below b w V ∧ V.heap.size = w.heap.size) ∧ ∀ x, x ≠ b → V.heap[x]? = w.heap[x]? := by
  subst hv
  have ht : wr.there b (o + k * 3) 3 := fun j hj => by
    have := hT (k * 3 + j) (by omega)
    rwa [← Nat.add_assoc] at this
  refine ⟨World.there_setCells hT _ _ _, fun j hj => ?_, ⟨below_setCells _ (Nat.le_refl _) _ _ _ hB.1, (size_setCellsW _ _ _ _).trans hB.2⟩, fun x hx => (heap_setCellsW _ hx).trans (hF x hx)⟩
  by_cases hjk : j = k
  · subst hjk
    exact World.rangeAt_setCells_same _ _ _ _ ht
  · exact World.rangeAt_setCells_apart (hA j (by omega)) _ _ _ (.inr (.inl (by rw [w3_len]; omega)))
set_option maxRecDepth 100000 in
set_option maxHeartbeats 1000000 in
theorem markWellS_any (b o n c k0 : Nat) (hn : n ≤ 1048576) (hk : k0 ≤ 1048576) (w : World) (ht : w.there b o (n * 3)) :
    Calls Try.prog 9 #[.slice (some ⟨b, o, none⟩) n c, .int .i64 (k0 : Int)] w fun e w' => e = .returned (.int .i64 ((k0 + 3 * n : Nat) : Int)) ∧ (∀ i, i < n → w'.rangeAt b (o + i * 3) (w3 (mkW (k0 + 3 * i)))) ∧ Below b w w' ∧ w'.heap.size = w.heap.size ∧ ∀ x, x ≠ b → w'.heap[x]? = w.heap[x]? := by
  have T0 := Lib.hid ht
  clear ht
  go_enter Try.func9, Try.ntmps9
  go_wp2
  go_loopw [5, 1] (fun i kk wr => ∃ k : Nat, k ≤ n ∧ i = .int .i64 k ∧ kk = .int .i64 ((k0 + 3 * k : Nat) : Int) ∧ Hid (wr.there b o (n * 3)) ∧ Hid (∀ j, j < k → wr.rangeAt b (o + j * 3) (w3 (mkW (k0 + 3 * j)))) ∧ Hid (Below b w wr ∧ wr.heap.size = w.heap.size) ∧ Hid (∀ x, x ≠ b → wr.heap[x]? = w.heap[x]?)) (fun i _ _ => n - (intOf i).toNat)
  case atStart => exact ⟨0, by omega, rfl, rfl, T0, Lib.hid (fun j hj => absurd hj (by omega)), Lib.hid ⟨Below.refl _ _, rfl⟩, Lib.hid (fun _ _ => rfl)⟩
  case round =>
    obtain ⟨k, hk, rfl, rfl, hT, hA, hB, hF⟩ := hrel
    by_cases hlt : k < n
    · have hki : (k : Int) < n := by omega
      obtain ⟨u0, hu0⟩ := Option.isSome_iff_exists.1 (hT.out (k * 3) (by omega)).1
      obtain ⟨u1, hu1⟩ := Option.isSome_iff_exists.1 (hT.out (k * 3 + 1) (by omega)).1
      obtain ⟨u2, hu2⟩ := Option.isSome_iff_exists.1 (hT.out (k * 3 + 2) (by omega)).1
      have f0 := (hT.out (k * 3) (by omega)).2
      have f1 := (hT.out (k * 3 + 1) (by omega)).2
      have f2 := (hT.out (k * 3 + 2) (by omega)).2
      simp only [← Nat.add_assoc] at hu1 hu2 f1 f2
      go_wp2
      have HC := @marked w wr _ b o n k k0 hlt hT.out hA.out hB.out hF.out rfl
      simp only [← mk_set, mkW, Int.natCast_add, Int.natCast_mul, Int.cast_ofNat_Int] at HC
      go_roundw
      case rel => exact ⟨k + 1, by omega, by go_num, by go_num, Lib.hid HC.1, Lib.hid HC.2.1, Lib.hid HC.2.2.1, Lib.hid HC.2.2.2⟩
      case measure => simp [intOf]; omega
    · obtain rfl : k = n := by omega
      go_wp2
      go_ret
      exact ⟨rfl, hA.out, hB.out.1, hB.out.2, hF.out⟩
theorem int_self (k : Nat) (h2 : k + 1 + 1 < 131072) : (FloatKind.f32.format.order (floatOfInt .f32 ((k : Int) + 1 + 1)) (floatOfInt .f32 ((k : Int) + 1 + 1)) != some Ordering.eq) = false := by
  obtain ⟨a, b⟩ := int_norm (k + 1 + 1) (by omega) h2
  simp only [Int.natCast_add, Int.natCast_one] at a b
  rw [ord_pos (by omega) (by omega) (by omega) (by omega)]
  simp

set_option maxRecDepth 100000 in
set_option maxHeartbeats 1000000 in
theorem heldWellS_any (b o n c k0 : Nat) (hn : n ≤ 1000) (hk : k0 ≤ 1000) (w : World) (hA : ∀ i, i < n → w.rangeAt b (o + i * 3) (w3 (mkW (k0 + 3 * i)))) :
    Calls Try.prog 10 #[.slice (some ⟨b, o, none⟩) n c, .int .i64 (k0 : Int)] w fun e w' => e = .returned (.int .i64 ((k0 + 3 * n : Nat) : Int)) ∧ Below w.heap.size w w' := by
  have A0 := Lib.hid hA
  clear hA
  go_enter Try.func10, Try.ntmps10
  go_wp2
  go_loopw [5, 1] (fun i kk wr => ∃ k : Nat, k ≤ n ∧ i = .int .i64 k ∧ kk = .int .i64 ((k0 + 3 * k : Nat) : Int) ∧ Hid (Quiet w wr)) (fun i _ _ => n - (intOf i).toNat)
  case atStart => exact ⟨0, by omega, rfl, rfl, Lib.hid (Quiet.refl _)⟩
  case round =>
    obtain ⟨k, hk, rfl, rfl, hQ⟩ := hrel
    by_cases hlt : k < n
    · have hki : (k : Int) < n := by omega
      have hr := A0.out k hlt
      have c0 : wr.cell? ⟨b, o + k * 3, none⟩ = some (.int .i8 (IntKind.i8.wrap ((k0 : Int) + 3 * k))) := (hQ.out.cell _).trans ((hr 0 _ rfl).trans (by simp [mkW]))
      have c1 : wr.cell? ⟨b, o + k * 3 + 1, none⟩ = some (.int .i8 (IntKind.i8.wrap ((k0 : Int) + 3 * k + 1))) := (hQ.out.cell _).trans ((hr 1 _ rfl).trans (by simp [mkW]))
      have c2 : wr.cell? ⟨b, o + k * 3 + 2, none⟩ = some (.float .f32 (floatOfInt .f32 ((k0 : Int) + 3 * k + 1 + 1))) := (hQ.out.cell _).trans ((hr 2 _ rfl).trans (by simp [mkW]))
      have hs := int_self (k0 + 3 * k) (by omega)
      simp only [Int.natCast_add, Int.natCast_mul, Int.cast_ofNat_Int] at hs
      clear hr
      go_wp2
      go_roundw
      case rel => exact ⟨k + 1, by omega, by go_num, by go_num, hQ⟩
      case measure => simp [intOf]; omega
    · obtain rfl : k = n := by omega
      go_wp2
      go_ret
      exact ⟨rfl, hQ.out.below _⟩
end Go.Proofs.Ytdhgehmnjoclaaa
