/- What is asked of an aquifer, one well, a place and times: the program's and the model's. No condition. -/
import Derived.Test.YtdhgehmnjoclaaaOk
namespace Go.Proofs.Ytdhgehmnjoclaaa
open Go Go.RowKit Ieee
set_option linter.unusedSimpArgs false
set_option linter.unusedVariables false
attribute [local go_sem] run_store_f32

/-- The code of what is asked. -/
def askV (T S : Nat) (X Y : Int) (R : Nat) (x y : Int) (ts : List Int) : Int := if (aqB T S && weB X Y R) = true then (if (plB x && plB y && ts.all tmB) = true then 0 else 2) else 1

theorem below_a (cs : Array Value) (t : TypeId) (w : World) : Below w.heap.size w (w.alloc (.cells cs t)) := (Below.refl _ _).alloc (Nat.le_refl _) _

set_option maxRecDepth 100000 in
set_option maxHeartbeats 2000000 in
theorem areValid_any (X Y : Int) (R : Nat) (hX : -128 ≤ X ∧ X ≤ 127) (hY : -128 ≤ Y ∧ Y ≤ 127) (b cap : Nat) (w : World) (hb : b < w.heap.size) (hr : w.rangeAt b 0 (We X Y R).toList) :
    Calls Try.prog 14 #[.slice (some ⟨b, 0, none⟩) 1 cap] w fun e w' => e = .returned (.bool (weB X Y R)) ∧ Below w.heap.size w w' := by
  have hc0 : w.cell? ⟨b, 0, none⟩ = some (.int .i8 X) := hr 0 _ rfl
  have hc1 : w.cell? ⟨b, 1, none⟩ = some (.int .i8 Y) := hr 1 _ rfl
  have hc2 : w.cell? ⟨b, 2, none⟩ = some (.float .f32 R) := hr 2 _ rfl
  clear hr
  cases cw : weB X Y R
  · go_enter Try.func14, Try.ntmps14
    go_wp2
    go_loopw [7] (fun i wr => ∃ k : Nat, k ≤ 0 ∧ i = .int .i64 (k : Int) ∧ Hid (Below w.heap.size w wr)) (fun i _ => 1 - (intOf i).toNat)
    case atStart => exact ⟨0, by omega, rfl, Lib.hid (Below.refl _ _)⟩
    case round =>
      obtain ⟨k, hk, rfl, hQ⟩ := hrel
      by_cases hlt : k < 1
      · obtain rfl : k = 0 := by omega
        have c0 := (hQ.out.cell (p := ⟨b, 0, none⟩) hb).trans hc0
        have c1 := (hQ.out.cell (p := ⟨b, 1, none⟩) hb).trans hc1
        have c2 := (hQ.out.cell (p := ⟨b, 2, none⟩) hb).trans hc2
        go_wp2_with (go_at_call 21; have hc := validWell_any X Y R hX hY (wr.alloc (.cells #[.int .i8 X, .int .i8 Y, .float .f32 R] 35)); rw [cw] at hc; unfold We at hc; refine hc.mono ?_; clear hc; rintro e V2 ⟨rfl, hq2⟩; have Q2 := Lib.hid (hQ.out.trans ((below_a _ _ wr).trans (hq2.mono (below_a _ _ wr).size) |>.mono hQ.out.size)); clear hq2)
        go_ret
        exact ⟨rfl, Q2.out⟩
      · omega
  · go_enter Try.func14, Try.ntmps14
    go_wp2
    go_loopw [7] (fun i wr => ∃ k : Nat, k ≤ 1 ∧ i = .int .i64 (k : Int) ∧ Hid (Below w.heap.size w wr)) (fun i _ => 1 - (intOf i).toNat)
    case atStart => exact ⟨0, by omega, rfl, Lib.hid (Below.refl _ _)⟩
    case round =>
      obtain ⟨k, hk, rfl, hQ⟩ := hrel
      by_cases hlt : k < 1
      · obtain rfl : k = 0 := by omega
        have c0 := (hQ.out.cell (p := ⟨b, 0, none⟩) hb).trans hc0
        have c1 := (hQ.out.cell (p := ⟨b, 1, none⟩) hb).trans hc1
        have c2 := (hQ.out.cell (p := ⟨b, 2, none⟩) hb).trans hc2
        go_wp2_with (go_at_call 21; have hc := validWell_any X Y R hX hY (wr.alloc (.cells #[.int .i8 X, .int .i8 Y, .float .f32 R] 35)); rw [cw] at hc; unfold We at hc; refine hc.mono ?_; clear hc; rintro e V2 ⟨rfl, hq2⟩; have Q2 := Lib.hid (hQ.out.trans ((below_a _ _ wr).trans (hq2.mono (below_a _ _ wr).size) |>.mono hQ.out.size)); clear hq2)
        go_roundw
        case rel => exact ⟨1, by omega, rfl, Q2.out⟩
        case measure => simp [intOf]
      · obtain rfl : k = 1 := by omega
        go_wp2
        go_ret
        exact ⟨rfl, hQ.out⟩

theorem rangeAt_below {n : Nat} {w V : World} {b o : Nat} {cs : List Value} (hV : Below n w V) (hb : b < n) (h : w.rangeAt b o cs) : V.rangeAt b o cs := fun i v hi => (hV.cell (p := ⟨b, o + i, none⟩) hb).trans (h i v hi)

end Go.Proofs.Ytdhgehmnjoclaaa
