/- The argument of a well and its drawdown: the program's and the model's. Condition: what comes in is valid. -/
import Derived.Test.YtbiknpfcemfoeaaDoorStr
namespace Go.Proofs.YtbiknpfcemfoeaaDoor
open Go Go.RowKit Ieee
set_option linter.unusedSimpArgs false
set_option linter.unusedVariables false
attribute [local go_sem] run_store_f32


set_option maxRecDepth 100000 in
set_option maxHeartbeats 2000000 in
theorem l03Argument_any (T S : Nat) (X Y : Int) (R : Nat) (x y t : Int) (hT : 981467136 ≤ T ∧ T ≤ 1233125376) (hS : 897581056 ≤ S ∧ S ≤ 1065353216) (hX : -100 ≤ X ∧ X ≤ 100) (hY : -100 ≤ Y ∧ Y ≤ 100) (hx : -100 ≤ x ∧ x ≤ 100) (hy : -100 ≤ y ∧ y ≤ 100) (ht : 1 ≤ t ∧ t ≤ 100000) (w : World) :
    Calls Tryd.prog 80 #[.agg (Aq T S), .agg (We X Y R), .int .i64 x, .int .i64 y, .int .i64 t] w fun e w' => e = .returned (.float .f32 (argN T S (x - X) (y - Y) t)) ∧ Below w.heap.size w w' := by
  obtain ⟨c, b, a, u, h⟩ := argOk (T := T) (S := S) (dx := x - X) (dy := y - Y) (t := t) hT hS (by omega) (by omega) ht
  have HV := Lib.hid h.is
  obtain ⟨sq1, sq2, sq3⟩ := sq_bounds (x - X) (y - Y) (by omega) (by omega)
  have sx := (sq_bounds (x - X) 0 (by omega) (by omega)).1
  have sy := (sq_bounds 0 (y - Y) (by omega) (by omega)).1
  have sx : 0 ≤ (x - X) * (x - X) := by simpa using sx
  have sy : 0 ≤ (y - Y) * (y - Y) := by simpa using sy
  have hlt := lt_pos (a := u) (b := 562036736) h.lo (Nat.lt_of_le_of_lt h.hi (by decide)) (by decide) (by decide)
  have h4 := h.four
  have hl := h.low
  have hq := h.quo
  have htop := h.top
  clear h
  simp only [Aq, We]
  by_cases hdx : x - X = 0
  · by_cases hdy : y - Y = 0
    · have hz : x - X = 0 ∧ y - Y = 0 := ⟨hdx, hdy⟩
      rw [show dF (x - X) (y - Y) = 1031798784 from if_pos hz] at htop
      by_cases hu : u < 562036736
      · rw [decide_eq_true hu] at hlt
        rw [if_pos hu] at HV
        have t1 : True := trivial
        go_enter Tryd.func80, Tryd.ntmps80
        go_wp2_with (first | refine wpList_floatD rfl _ _ _ _ _ rfl rfl .f32 _ _ c rfl rfl h4 ?_ | refine wpList_floatD rfl _ _ _ _ _ rfl rfl .f32 _ _ b rfl rfl hl ?_ | refine wpList_floatD rfl _ _ _ _ _ rfl rfl .f32 _ _ a rfl rfl htop ?_ | refine wpList_floatD rfl _ _ _ _ _ rfl rfl .f32 _ _ a rfl rfl htopw ?_ | refine wpList_floatD rfl _ _ _ _ _ rfl rfl .f32 _ _ u rfl rfl hq ?_)
        go_ret
        exact ⟨by first | (rw [HV.out]; done) | (rw [HV.out]; rfl), (((Below.refl _ _).alloc (Nat.le_refl _) _).alloc (by simp) _)⟩
      · rw [decide_eq_false hu] at hlt
        rw [if_neg hu] at HV
        have t1 : True := trivial
        go_enter Tryd.func80, Tryd.ntmps80
        go_wp2_with (first | refine wpList_floatD rfl _ _ _ _ _ rfl rfl .f32 _ _ c rfl rfl h4 ?_ | refine wpList_floatD rfl _ _ _ _ _ rfl rfl .f32 _ _ b rfl rfl hl ?_ | refine wpList_floatD rfl _ _ _ _ _ rfl rfl .f32 _ _ a rfl rfl htop ?_ | refine wpList_floatD rfl _ _ _ _ _ rfl rfl .f32 _ _ a rfl rfl htopw ?_ | refine wpList_floatD rfl _ _ _ _ _ rfl rfl .f32 _ _ u rfl rfl hq ?_)
        go_ret
        exact ⟨by first | (rw [HV.out]; done) | (rw [HV.out]; rfl), (((Below.refl _ _).alloc (Nat.le_refl _) _).alloc (by simp) _)⟩
    · have hd0 : (x - X) * (x - X) + (y - Y) * (y - Y) = (y - Y) * (y - Y) := by rw [hdx]; simp
      have hw : wrap64 (wrap64 ((y - Y) * (y - Y))) = (y - Y) * (y - Y) := by rw [IntWalk.wrap64_in ((y - Y) * (y - Y)) (by omega), IntWalk.wrap64_in _ (by omega)]
      rw [show dF (x - X) (y - Y) = floatOfInt .f32 ((x - X) * (x - X) + (y - Y) * (y - Y)) from if_neg (fun h => hdy h.2), hd0] at htop
      have htopw := htop
      rw [← hw] at htopw
      by_cases hu : u < 562036736
      · rw [decide_eq_true hu] at hlt
        rw [if_pos hu] at HV
        have t1 : True := trivial
        go_enter Tryd.func80, Tryd.ntmps80
        go_wp2_with (first | refine wpList_floatD rfl _ _ _ _ _ rfl rfl .f32 _ _ c rfl rfl h4 ?_ | refine wpList_floatD rfl _ _ _ _ _ rfl rfl .f32 _ _ b rfl rfl hl ?_ | refine wpList_floatD rfl _ _ _ _ _ rfl rfl .f32 _ _ a rfl rfl htop ?_ | refine wpList_floatD rfl _ _ _ _ _ rfl rfl .f32 _ _ a rfl rfl htopw ?_ | refine wpList_floatD rfl _ _ _ _ _ rfl rfl .f32 _ _ u rfl rfl hq ?_)
        go_ret
        exact ⟨by first | (rw [HV.out]; done) | (rw [HV.out]; rfl), (((Below.refl _ _).alloc (Nat.le_refl _) _).alloc (by simp) _)⟩
      · rw [decide_eq_false hu] at hlt
        rw [if_neg hu] at HV
        have t1 : True := trivial
        go_enter Tryd.func80, Tryd.ntmps80
        go_wp2_with (first | refine wpList_floatD rfl _ _ _ _ _ rfl rfl .f32 _ _ c rfl rfl h4 ?_ | refine wpList_floatD rfl _ _ _ _ _ rfl rfl .f32 _ _ b rfl rfl hl ?_ | refine wpList_floatD rfl _ _ _ _ _ rfl rfl .f32 _ _ a rfl rfl htop ?_ | refine wpList_floatD rfl _ _ _ _ _ rfl rfl .f32 _ _ a rfl rfl htopw ?_ | refine wpList_floatD rfl _ _ _ _ _ rfl rfl .f32 _ _ u rfl rfl hq ?_)
        go_ret
        exact ⟨by first | (rw [HV.out]; done) | (rw [HV.out]; rfl), (((Below.refl _ _).alloc (Nat.le_refl _) _).alloc (by simp) _)⟩
  · have hw : wrap64 (wrap64 ((x - X) * (x - X)) + wrap64 ((y - Y) * (y - Y))) = (x - X) * (x - X) + (y - Y) * (y - Y) := by rw [IntWalk.wrap64_in ((x - X) * (x - X)) (by omega), IntWalk.wrap64_in ((y - Y) * (y - Y)) (by omega), IntWalk.wrap64_in _ (by omega)]
    rw [show dF (x - X) (y - Y) = floatOfInt .f32 ((x - X) * (x - X) + (y - Y) * (y - Y)) from if_neg (fun h => hdx h.1)] at htop
    have htopw := htop
    rw [← hw] at htopw
    by_cases hu : u < 562036736
    · rw [decide_eq_true hu] at hlt
      rw [if_pos hu] at HV
      have t1 : True := trivial
      go_enter Tryd.func80, Tryd.ntmps80
      go_wp2_with (first | refine wpList_floatD rfl _ _ _ _ _ rfl rfl .f32 _ _ c rfl rfl h4 ?_ | refine wpList_floatD rfl _ _ _ _ _ rfl rfl .f32 _ _ b rfl rfl hl ?_ | refine wpList_floatD rfl _ _ _ _ _ rfl rfl .f32 _ _ a rfl rfl htop ?_ | refine wpList_floatD rfl _ _ _ _ _ rfl rfl .f32 _ _ a rfl rfl htopw ?_ | refine wpList_floatD rfl _ _ _ _ _ rfl rfl .f32 _ _ u rfl rfl hq ?_)
      go_ret
      exact ⟨by first | (rw [HV.out]; done) | (rw [HV.out]; rfl), (((Below.refl _ _).alloc (Nat.le_refl _) _).alloc (by simp) _)⟩
    · rw [decide_eq_false hu] at hlt
      rw [if_neg hu] at HV
      have t1 : True := trivial
      go_enter Tryd.func80, Tryd.ntmps80
      go_wp2_with (first | refine wpList_floatD rfl _ _ _ _ _ rfl rfl .f32 _ _ c rfl rfl h4 ?_ | refine wpList_floatD rfl _ _ _ _ _ rfl rfl .f32 _ _ b rfl rfl hl ?_ | refine wpList_floatD rfl _ _ _ _ _ rfl rfl .f32 _ _ a rfl rfl htop ?_ | refine wpList_floatD rfl _ _ _ _ _ rfl rfl .f32 _ _ a rfl rfl htopw ?_ | refine wpList_floatD rfl _ _ _ _ _ rfl rfl .f32 _ _ u rfl rfl hq ?_)
      go_ret
      exact ⟨by first | (rw [HV.out]; done) | (rw [HV.out]; rfl), (((Below.refl _ _).alloc (Nat.le_refl _) _).alloc (by simp) _)⟩
end Go.Proofs.YtbiknpfcemfoeaaDoor
