/- Which wells are valid, and what is asked of an aquifer, a well, a place and a time: the program's and the model's. No condition. -/
import Derived.Test.YtdhgehmnjoclaaaAq
namespace Go.Proofs.Ytdhgehmnjoclaaa
open Go Go.RowKit Ieee
set_option linter.unusedSimpArgs false
set_option linter.unusedVariables false

def pnB (b : Nat) : Bool := geB b 3380609024 && leBB b 1233125376
def weB (X Y : Int) (R : Nat) : Bool := plB X && plB Y && pnB R

set_option maxRecDepth 100000 in
set_option maxHeartbeats 1000000 in
theorem place_is (n : Int) (r : Bool) (h : plB n = r) (w : World) : Calls Try.prog 17 #[.int .i64 n] w fun e w' => e = .returned (.bool r) ∧ w = w' := by
  subst h
  by_cases h1 : -100 ≤ n
  · by_cases h2 : n ≤ 100
    · rw [show plB n = true by simp [plB, h1, h2]]
      go_enter Try.func17, Try.ntmps17
      go_wp2
      go_ret
      exact ⟨rfl, rfl⟩
    · rw [show plB n = false by simp [plB, h2]]
      go_enter Try.func17, Try.ntmps17
      go_wp2
      go_ret
      exact ⟨rfl, rfl⟩
  · rw [show plB n = false by simp [plB, h1]]
    go_enter Try.func17, Try.ntmps17
    go_wp2
    go_ret
    exact ⟨rfl, rfl⟩

set_option maxRecDepth 100000 in
set_option maxHeartbeats 1000000 in
theorem plain3s_is (b : Nat) (r : Bool) (h : pnB b = r) (w : World) : Calls Try.prog 18 #[.float .f32 b] w fun e w' => e = .returned (.bool r) ∧ w = w' := by
  subst h
  cases h1 : (FloatKind.f32.format.order b 3380609024 == some Ordering.gt || FloatKind.f32.format.order b 3380609024 == some Ordering.eq)
  · rw [show pnB b = false by simp only [pnB, geB, h1]; rfl]
    go_enter Try.func18, Try.ntmps18
    go_wp2
    go_ret
    exact ⟨rfl, rfl⟩
  · cases h2 : (FloatKind.f32.format.order b 1233125376 == some Ordering.lt || FloatKind.f32.format.order b 1233125376 == some Ordering.eq)
    · rw [show pnB b = false by simp only [pnB, geB, leBB, h1, h2]; rfl]
      go_enter Try.func18, Try.ntmps18
      go_wp2
      go_ret
      exact ⟨rfl, rfl⟩
    · rw [show pnB b = true by simp only [pnB, geB, leBB, h1, h2]; rfl]
      go_enter Try.func18, Try.ntmps18
      go_wp2
      go_ret
      exact ⟨rfl, rfl⟩

set_option maxRecDepth 100000 in
set_option maxHeartbeats 1000000 in
theorem plain3i_is (b : Nat) (r : Bool) (h : pnB b = r) (w : World) : Calls Try.prog 27 #[.float .f32 b] w fun e w' => e = .returned (.bool r) ∧ w = w' := by
  subst h
  cases h1 : (FloatKind.f32.format.order b 3380609024 == some Ordering.gt || FloatKind.f32.format.order b 3380609024 == some Ordering.eq)
  · rw [show pnB b = false by simp only [pnB, geB, h1]; rfl]
    go_enter Try.func27, Try.ntmps27
    go_wp2
    go_ret
    exact ⟨rfl, rfl⟩
  · cases h2 : (FloatKind.f32.format.order b 1233125376 == some Ordering.lt || FloatKind.f32.format.order b 1233125376 == some Ordering.eq)
    · rw [show pnB b = false by simp only [pnB, geB, leBB, h1, h2]; rfl]
      go_enter Try.func27, Try.ntmps27
      go_wp2
      go_ret
      exact ⟨rfl, rfl⟩
    · rw [show pnB b = true by simp only [pnB, geB, leBB, h1, h2]; rfl]
      go_enter Try.func27, Try.ntmps27
      go_wp2
      go_ret
      exact ⟨rfl, rfl⟩

set_option maxRecDepth 100000 in
set_option maxHeartbeats 1000000 in
theorem isNear_is (x y : Int) (w : World) : Calls Try.prog 26 #[.agg (Pc x y)] w fun e w' => e = .returned (.bool (plB x && plB y)) ∧ Below w.heap.size w w' := by
  simp only [Pc]
  by_cases h1 : -100 ≤ x
  · skip
    by_cases h2 : x ≤ 100
    · skip
      by_cases h3 : -100 ≤ y
      · skip
        by_cases h4 : y ≤ 100
        · skip
          rw [show (plB x && plB y) = true by simp [plB, *]]
          go_enter Try.func26, Try.ntmps26
          go_wp2
          go_ret
          exact ⟨rfl, (Below.refl _ _).alloc (Nat.le_refl _) _⟩
        · rw [show (plB x && plB y) = false by simp [plB, *]]
          go_enter Try.func26, Try.ntmps26
          go_wp2
          go_ret
          exact ⟨rfl, (Below.refl _ _).alloc (Nat.le_refl _) _⟩
      · rw [show (plB x && plB y) = false by simp [plB, *]]
        go_enter Try.func26, Try.ntmps26
        go_wp2
        go_ret
        exact ⟨rfl, (Below.refl _ _).alloc (Nat.le_refl _) _⟩
    · rw [show (plB x && plB y) = false by simp [plB, *]]
      go_enter Try.func26, Try.ntmps26
      go_wp2
      go_ret
      exact ⟨rfl, (Below.refl _ _).alloc (Nat.le_refl _) _⟩
  · rw [show (plB x && plB y) = false by simp [plB, *]]
    go_enter Try.func26, Try.ntmps26
    go_wp2
    go_ret
    exact ⟨rfl, (Below.refl _ _).alloc (Nat.le_refl _) _⟩

set_option maxRecDepth 100000 in
set_option maxHeartbeats 1000000 in
theorem l03Ok_any (X Y : Int) (R : Nat) (hX : -128 ≤ X ∧ X ≤ 127) (hY : -128 ≤ Y ∧ Y ≤ 127) (w : World) : Calls Try.prog 11 #[.agg (We X Y R)] w fun e w' => e = .returned (.bool (weB X Y R)) ∧ Below w.heap.size w w' := by
  cases c1 : plB X
  · have hv : weB X Y R = false := by simp only [weB, c1]; rfl
    have HV := Lib.hid hv
    clear hv
    simp only [We]
    go_enter Try.func11, Try.ntmps11
    have t1 : True := trivial
    have t2 : True := trivial
    go_wp2_with (first | (have _t := t1; go_at_call 17; refine (place_is X false c1 _).mono ?_; rintro e w' ⟨rfl, rfl⟩; clear t1))
    go_ret
    exact ⟨by first | (rw [HV.out]; done) | (rw [HV.out]; rfl), (Below.refl _ _).alloc (Nat.le_refl _) _⟩
  · skip
    cases c2 : plB Y
    · have hv : weB X Y R = false := by simp only [weB, c1, c2]; rfl
      have HV := Lib.hid hv
      clear hv
      simp only [We]
      go_enter Try.func11, Try.ntmps11
      have t1 : True := trivial
      have t2 : True := trivial
      go_wp2_with (first | (have _t := t1; go_at_call 17; refine (place_is X true c1 _).mono ?_; rintro e w' ⟨rfl, rfl⟩; clear t1) | (have _t := t2; go_at_call 17; refine (place_is Y false c2 _).mono ?_; rintro e w' ⟨rfl, rfl⟩; clear t2))
      go_ret
      exact ⟨by first | (rw [HV.out]; done) | (rw [HV.out]; rfl), (Below.refl _ _).alloc (Nat.le_refl _) _⟩
    · skip
      cases c3 : pnB R
      · have hv : weB X Y R = false := by simp only [weB, c1, c2, c3]; rfl
        have HV := Lib.hid hv
        clear hv
        simp only [We]
        go_enter Try.func11, Try.ntmps11
        have t1 : True := trivial
        have t2 : True := trivial
        go_wp2_with (first | (have _t := t1; go_at_call 17; refine (place_is X true c1 _).mono ?_; rintro e w' ⟨rfl, rfl⟩; clear t1) | (have _t := t2; go_at_call 17; refine (place_is Y true c2 _).mono ?_; rintro e w' ⟨rfl, rfl⟩; clear t2) | (go_at_call 18; refine (plain3s_is R false c3 _).mono ?_; rintro e w' ⟨rfl, rfl⟩))
        go_ret
        exact ⟨by first | (rw [HV.out]; done) | (rw [HV.out]; rfl), (Below.refl _ _).alloc (Nat.le_refl _) _⟩
      · have hv : weB X Y R = true := by simp only [weB, c1, c2, c3]; rfl
        have HV := Lib.hid hv
        clear hv
        simp only [We]
        go_enter Try.func11, Try.ntmps11
        have t1 : True := trivial
        have t2 : True := trivial
        go_wp2_with (first | (have _t := t1; go_at_call 17; refine (place_is X true c1 _).mono ?_; rintro e w' ⟨rfl, rfl⟩; clear t1) | (have _t := t2; go_at_call 17; refine (place_is Y true c2 _).mono ?_; rintro e w' ⟨rfl, rfl⟩; clear t2) | (go_at_call 18; refine (plain3s_is R true c3 _).mono ?_; rintro e w' ⟨rfl, rfl⟩))
        go_ret
        exact ⟨by first | (rw [HV.out]; done) | (rw [HV.out]; rfl), (Below.refl _ _).alloc (Nat.le_refl _) _⟩

set_option maxRecDepth 100000 in
set_option maxHeartbeats 1000000 in
theorem validWell_any (X Y : Int) (R : Nat) (hX : -128 ≤ X ∧ X ≤ 127) (hY : -128 ≤ Y ∧ Y ≤ 127) (w : World) : Calls Try.prog 21 #[.agg (We X Y R)] w fun e w' => e = .returned (.bool (weB X Y R)) ∧ Below w.heap.size w w' := by
  cases cn : (plB X && plB Y)
  · have HV := Lib.hid (show weB X Y R = false by simp only [weB, cn]; rfl)
    simp only [We]
    have hfield : ∀ w, (Instr.field 54 (.agg #[.int .i64 X, .int .i64 Y, .float .f32 R]) 0).run Try.prog w = .ok (.agg #[.int .i64 X, .int .i64 Y]) w := fun _ => by kernel_rfl
    have C2 : ∀ V, Below (w.alloc (.cells #[.int .i8 X, .int .i8 Y, .float .f32 R] 35)).heap.size (w.alloc (.cells #[.int .i8 X, .int .i8 Y, .float .f32 R] 35)) V → V.cell? ⟨w.heap.size, 2, none⟩ = some (.float .f32 R) := fun V hV => (hV.cell (p := ⟨w.heap.size, 2, none⟩) (by simp)).trans (cell_of_row _ _ 2 _ _ _ (heap_alloc_last w _))
    go_enter Try.func21, Try.ntmps21
    go_wp2_with (first | (go_at_call 25; refine (sunk_any X Y R hX hY _).mono ?_; rintro e V1 ⟨rfl, hq1⟩; have Q1 := Lib.hid hq1; clear hq1; unfold Sk) | (go_at_call 26; have hc := (isNear_is X Y V1); rw [cn] at hc; unfold Pc at hc; refine hc.mono ?_; clear hc; rintro e V2 ⟨rfl, hq2⟩; have C3 := C2 V2 (Q1.out.trans (hq2.mono Q1.out.size)); have Q2 := Lib.hid hq2; clear hq2 C2))
    go_ret
    exact ⟨by first | (rw [HV.out]; done) | (rw [HV.out]; rfl), ((Below.refl _ _).alloc (Nat.le_refl _) _).trans ((Q1.out.trans (Q2.out.mono Q1.out.size)).mono (by simp))⟩
  · cases c3 : pnB R
    · have HV := Lib.hid (show weB X Y R = false by simp only [weB, cn, c3]; rfl)
      simp only [We]
      have hfield : ∀ w, (Instr.field 54 (.agg #[.int .i64 X, .int .i64 Y, .float .f32 R]) 0).run Try.prog w = .ok (.agg #[.int .i64 X, .int .i64 Y]) w := fun _ => by kernel_rfl
      have C2 : ∀ V, Below (w.alloc (.cells #[.int .i8 X, .int .i8 Y, .float .f32 R] 35)).heap.size (w.alloc (.cells #[.int .i8 X, .int .i8 Y, .float .f32 R] 35)) V → V.cell? ⟨w.heap.size, 2, none⟩ = some (.float .f32 R) := fun V hV => (hV.cell (p := ⟨w.heap.size, 2, none⟩) (by simp)).trans (cell_of_row _ _ 2 _ _ _ (heap_alloc_last w _))
      go_enter Try.func21, Try.ntmps21
      go_wp2_with (first | (go_at_call 25; refine (sunk_any X Y R hX hY _).mono ?_; rintro e V1 ⟨rfl, hq1⟩; have Q1 := Lib.hid hq1; clear hq1; unfold Sk) | (go_at_call 26; have hc := (isNear_is X Y V1); rw [cn] at hc; unfold Pc at hc; refine hc.mono ?_; clear hc; rintro e V2 ⟨rfl, hq2⟩; have C3 := C2 V2 (Q1.out.trans (hq2.mono Q1.out.size)); have Q2 := Lib.hid hq2; clear hq2 C2) | (go_at_call 27; refine (plain3i_is R false c3 _).mono ?_; rintro e w' ⟨rfl, rfl⟩))
      go_ret
      exact ⟨by first | (rw [HV.out]; done) | (rw [HV.out]; rfl), ((Below.refl _ _).alloc (Nat.le_refl _) _).trans ((Q1.out.trans (Q2.out.mono Q1.out.size)).mono (by simp))⟩
    · have HV := Lib.hid (show weB X Y R = true by simp only [weB, cn, c3]; rfl)
      simp only [We]
      have hfield : ∀ w, (Instr.field 54 (.agg #[.int .i64 X, .int .i64 Y, .float .f32 R]) 0).run Try.prog w = .ok (.agg #[.int .i64 X, .int .i64 Y]) w := fun _ => by kernel_rfl
      have C2 : ∀ V, Below (w.alloc (.cells #[.int .i8 X, .int .i8 Y, .float .f32 R] 35)).heap.size (w.alloc (.cells #[.int .i8 X, .int .i8 Y, .float .f32 R] 35)) V → V.cell? ⟨w.heap.size, 2, none⟩ = some (.float .f32 R) := fun V hV => (hV.cell (p := ⟨w.heap.size, 2, none⟩) (by simp)).trans (cell_of_row _ _ 2 _ _ _ (heap_alloc_last w _))
      go_enter Try.func21, Try.ntmps21
      go_wp2_with (first | (go_at_call 25; refine (sunk_any X Y R hX hY _).mono ?_; rintro e V1 ⟨rfl, hq1⟩; have Q1 := Lib.hid hq1; clear hq1; unfold Sk) | (go_at_call 26; have hc := (isNear_is X Y V1); rw [cn] at hc; unfold Pc at hc; refine hc.mono ?_; clear hc; rintro e V2 ⟨rfl, hq2⟩; have C3 := C2 V2 (Q1.out.trans (hq2.mono Q1.out.size)); have Q2 := Lib.hid hq2; clear hq2 C2) | (go_at_call 27; refine (plain3i_is R true c3 _).mono ?_; rintro e w' ⟨rfl, rfl⟩))
      go_ret
      exact ⟨by first | (rw [HV.out]; done) | (rw [HV.out]; rfl), ((Below.refl _ _).alloc (Nat.le_refl _) _).trans ((Q1.out.trans (Q2.out.mono Q1.out.size)).mono (by simp))⟩
end Go.Proofs.Ytdhgehmnjoclaaa
