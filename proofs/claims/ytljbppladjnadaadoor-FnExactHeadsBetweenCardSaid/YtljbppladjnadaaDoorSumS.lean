/- The sum of a field over all cells: the model's. No condition. -/
import Derived.Test.YtljbppladjnadaaDoorCalmF
import Derived.Test.YtljbppladjnadaaDoorChkS
namespace Go.Proofs.YtljbppladjnadaaDoor
open Go.RowKit
set_option linter.unusedSimpArgs false

/-- The sum over the first cells, up to which NaN it is: from the number at 0 on. -/
def sumTo (G : Gd) (f : Nat → Nat) : Nat → Option Nat
  | 0 => num .f32 (f 0)
  | k + 1 => if isB G (k + 1) = true then fop .f32 .add (sumTo G f k) (num .f32 (f (k + 1))) else sumTo G f k

theorem num_some_num {o : Option Nat} {r : Nat} (h : num .f32 r = o) : num .f32 r = o := h

/-- A number that is told, up to which NaN it is; nothing is written. -/
def GivesN (o : Option Nat) (w : World) (e : Ending) (w' : World) : Prop := ∃ r, e = .returned (.float .f32 r) ∧ num .f32 r = o ∧ Quiet w w'

set_option maxRecDepth 100000 in
set_option maxHeartbeats 1000000 in
theorem l01Sum_any (G : Gd) (f : Nat → Nat) (p q : Nat) (w : World) (hp : GrdAt w p 0 G) (hG : GdOk G) (hq : w.rangeAt q 0 (Fld f).toList) :
    Calls Tryd.prog 67 #[.pointer (some ⟨p, 0, none⟩), .pointer (some ⟨q, 0, none⟩)] w (GivesN (sumTo G f 63) w) := by
  have Hp := Lib.hid hp
  have HG := Lib.hid hG
  have c0 := Grd_fld hq 0 (by omega)
  rw [Nat.zero_add] at c0
  have Cq := Lib.hid (Grd_fld hq)
  clear hp hG hq
  go_enter Tryd.func67, Tryd.ntmps67
  go_wp2
  go_loopw [5, 6] (fun s i wr => ∃ k b : Nat, k ≤ 63 ∧ i = .int .i64 ((k + 1 : Nat) : Int) ∧ s = .float .f32 b ∧ Hid (num .f32 b = sumTo G f k) ∧ Hid (Quiet w wr)) (fun _ i _ => 64 - (intOf i).toNat)
  case atStart => exact ⟨0, f 0, by omega, rfl, rfl, rfl, Quiet.refl _⟩
  case round =>
    obtain ⟨k, b, hk, rfl, rfl, hb, hQ⟩ := hrel
    by_cases hlt : k + 1 < 64
    · cases hi : isB G (k + 1)
      · have Hi := Lib.hid hi
        have E := Lib.hid (show sumTo G f (k + 1) = sumTo G f k by simp [sumTo, hi])
        clear hi
        go_wp2_with (go_at_call 63; refine (l01Is_is G (k + 1) hlt false Hi.out _ _ (Quiet.grd hQ.out Hp.out) HG.out).mono ?_; rintro e w' ⟨rfl, rfl⟩)
        go_roundw
        case rel => exact ⟨k + 1, b, by omega, by go_num, rfl, hb.out.trans E.out.symm, hQ.out⟩
        case measure => simp [intOf]; omega
      · have Hi := Lib.hid hi
        have E := Lib.hid (show sumTo G f (k + 1) = fop .f32 .add (sumTo G f k) (num .f32 (f (k + 1))) by simp [sumTo, hi])
        have c1 : wr.cell? ⟨q, 0 + (k + 1), none⟩ = some (.float .f32 (f (k + 1))) := (hQ.out.cell _).trans (Cq.out (k + 1) hlt)
        rw [Nat.zero_add] at c1
        clear hi
        go_wp2_with (first | (go_at_call 63; refine (l01Is_is G (k + 1) hlt true Hi.out _ _ (Quiet.grd hQ.out Hp.out) HG.out).mono ?_; rintro e w' ⟨rfl, rfl⟩) | (refine wpList_float rfl _ _ _ _ _ rfl rfl .f32 _ _ rfl rfl ?_; intro r n hr; have HR := Lib.hid hr; clear hr))
        go_roundw
        case rel => exact ⟨k + 1, r, by omega, by go_num, rfl, (HR.out.trans (by rw [E.out, hb.out])), hQ.out.drewN n⟩
        case measure => simp [intOf]; omega
    · obtain rfl : k = 63 := by omega
      go_wp2
      go_ret
      exact ⟨b, rfl, hb.out, hQ.out⟩
end Go.Proofs.YtljbppladjnadaaDoor
