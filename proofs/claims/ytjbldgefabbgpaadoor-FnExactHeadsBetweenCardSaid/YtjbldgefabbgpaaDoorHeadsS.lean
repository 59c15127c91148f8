/- HeadsBetween: the model's. No condition. -/
import Derived.Test.YtjbldgefabbgpaaDoorNums
namespace Go.Proofs.YtjbldgefabbgpaaDoor
open Go.RowKit
set_option linter.unusedSimpArgs false

def lessB (a b : Nat) : Bool := FloatKind.f32.format.order a b == some Ordering.lt
def gtB (a b : Nat) : Bool := FloatKind.f32.format.order a b == some Ordering.gt
/-- The least and the greatest, one number more. -/
def rgS (f : Nat → Nat) (p : Nat × Nat) (i : Nat) : Nat × Nat := (if lessB (f i) p.1 = true then f i else p.1, if gtB (f i) p.2 = true then f i else p.2)
def rgTo (G : Gd) : Nat → Nat × Nat
  | 0 => (G.h 0, G.h 0)
  | k + 1 => if isB G (k + 1) = true then rgS G.h (rgTo G k) (k + 1) else rgTo G k

/-- Two numbers, as a result; with a code. -/
def FF (a b : Nat) : Value := .tuple #[.float .f32 a, .float .f32 b]
def FFI (a b : Nat) (n : Int) : Value := .tuple #[.float .f32 a, .float .f32 b, .int .i64 n]

set_option maxRecDepth 100000 in
set_option maxHeartbeats 1000000 in
theorem l01Range_any (G : Gd) (p : Nat) (w : World) (hp : GrdAt w p 0 G) (hG : GdOk G) :
    Calls Tryd.prog 58 #[.pointer (some ⟨p, 0, none⟩)] w fun e w' => e = .returned (FF (rgTo G 63).1 (rgTo G 63).2) ∧ w = w' := by
  have Hp := Lib.hid hp
  have HG := Lib.hid hG
  have c0 := Grd_fld hp.h 0 (by omega)
  rw [Nat.zero_add] at c0
  have Cq := Lib.hid (Grd_fld hp.h)
  clear hp hG
  go_enter Tryd.func58, Tryd.ntmps58
  go_wp2
  go_loop [4, 5, 6] (fun lo hi i => ∃ k : Nat, k ≤ 63 ∧ i = .int .i64 ((k + 1 : Nat) : Int) ∧ lo = .float .f32 (rgTo G k).1 ∧ hi = .float .f32 (rgTo G k).2) (fun _ _ i => 64 - (intOf i).toNat)
  case atStart => exact ⟨0, by omega, rfl, rfl, rfl⟩
  case round =>
    obtain ⟨k, hk, rfl, rfl, rfl⟩ := hrel
    by_cases hlt : k + 1 < 64
    · cases hi : isB G (k + 1)
      · have Hi := Lib.hid hi
        have E := Lib.hid (show rgTo G (k + 1) = rgTo G k by simp [rgTo, hi])
        clear hi
        go_wp2_with (go_at_call 64; refine (l01Is_is G (k + 1) hlt false Hi.out _ _ Hp.out HG.out).mono ?_; rintro e w' ⟨rfl, h⟩; obtain rfl := h.symm)
        go_round
        case rel => exact ⟨k + 1, by omega, by go_num, by rw [E.out], by rw [E.out]⟩
        case measure => simp [intOf]; omega
      · have Hi := Lib.hid hi
        have E := Lib.hid (show rgTo G (k + 1) = rgS G.h (rgTo G k) (k + 1) by simp [rgTo, hi])
        have c1 := Cq.out (k + 1) hlt
        rw [Nat.zero_add] at c1
        obtain ⟨lo, hlo⟩ : ∃ lo, (rgTo G k).1 = lo := ⟨_, rfl⟩
        obtain ⟨gr, hgr⟩ : ∃ gr, (rgTo G k).2 = gr := ⟨_, rfl⟩
        rw [hlo, hgr]
        have R : Hid (rgTo G (k + 1) = (if lessB (G.h (k + 1)) lo = true then G.h (k + 1) else lo, if gtB (G.h (k + 1)) gr = true then G.h (k + 1) else gr)) := Lib.hid (by rw [E.out, rgS, hlo, hgr])
        clear hi hlo hgr E
        cases b1 : lessB (G.h (k + 1)) lo <;> cases b2 : gtB (G.h (k + 1)) gr
        all_goals
          have R2 := R.out
          rw [b1, b2] at R2
          have R3 := Lib.hid R2
          clear R2 R
          unfold lessB at b1
          unfold gtB at b2
          go_wp2_with (go_at_call 64; refine (l01Is_is G (k + 1) hlt true Hi.out _ _ Hp.out HG.out).mono ?_; rintro e w' ⟨rfl, h⟩; obtain rfl := h.symm)
          go_round
          case rel => exact ⟨k + 1, by omega, by go_num, by rw [R3.out]; rfl, by rw [R3.out]; rfl⟩
          case measure => simp [intOf]; omega
    · obtain rfl : k = 63 := by omega
      go_wp2
      go_ret2
      exact ⟨rfl, rfl⟩

def hbV (G : Gd) : Value := if validB G = true then FFI (rgTo G 63).1 (rgTo G 63).2 0 else FFI 0 0 1
set_option maxRecDepth 100000 in
set_option maxHeartbeats 1000000 in
theorem specHeads_any (G : Gd) (w : World) (hG : GdOk G) :
    Calls Tryd.prog 23 #[.agg (Grd G)] w fun e w' => e = .returned (hbV G) ∧ Below w.heap.size w w' := by
  go_enter Tryd.func23, Tryd.ntmps23
  go_upto_region 1 with (fail)
  obtain ⟨W, hW, hs, g1, hB⟩ := gbox1 G 32 w
  rw [hW]
  clear hW
  have G1 := Lib.hid g1
  have HB := Lib.hid hB
  have HG := Lib.hid hG
  clear g1 hB hs hG
  cases hv : validB G
  · have Hv := Lib.hid hv
    have R := Lib.hid (show hbV G = FFI 0 0 1 by simp [hbV, hv])
    clear hv
    go_wp2_with (go_at_call 47; have hc := (l01Ok_any G _ _ G1.out.at' HG.out); rw [Hv.out] at hc; refine hc.mono ?_; clear hc; rintro e w' ⟨rfl, n, rfl⟩)
    go_ret3
    exact ⟨congrArg Ending.returned R.out.symm, HB.out.trans (Quiet.below ⟨n, rfl⟩ _)⟩
  · have Hv := Lib.hid hv
    have R := Lib.hid (show hbV G = FFI (rgTo G 63).1 (rgTo G 63).2 0 by simp [hbV, hv])
    clear hv
    go_wp2_with (first | (go_at_call 47; have hc := (l01Ok_any G _ _ G1.out.at' HG.out); rw [Hv.out] at hc; refine hc.mono ?_; clear hc; rintro e w' ⟨rfl, n, rfl⟩) | (go_at_call 58; refine (l01Range_any G _ _ (Quiet.grd ⟨n, rfl⟩ G1.out.at') HG.out).mono ?_; rintro e w' ⟨rfl, rfl⟩; unfold FF))
    go_ret3
    exact ⟨congrArg Ending.returned R.out.symm, HB.out.trans (Quiet.below ⟨n, rfl⟩ _)⟩
end Go.Proofs.YtjbldgefabbgpaaDoor
