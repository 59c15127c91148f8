/- Two numbers, two arrays, two grounds: both programs tell alike whether they are the same. Condition: none. -/
import Derived.Test.YtjmekgogaiokpabBase
import Derived.Lib.Hide
import Derived.BigQuiet
import Derived.Deep.QuietTactic
import Derived.Deep.RegionHeld3
namespace Go.Proofs.Ytjmekgogaiokpab
open Go.RowKit
attribute [local go_sem] run_store_float

/-- A narrow number that is none. -/
def nan (a : Nat) : Bool := FloatKind.f32.format.order a a != some .eq
/-- Two numbers are the same. -/
def sameB (a b : Nat) : Bool := if (nan a || nan b) = true then nan a && nan b else (a : Int) == b

theorem f32bits' (b : Nat) (w : World) : (callFunc 29 #[.float .f32 b]).run Try.prog w = .ok (.value (.int .u32 b)) w := by kernel_rfl

theorem l01Same_any (a b : Nat) (w : World) : Calls Try.prog 16 #[.float .f32 a, .float .f32 b] w fun e w' => e = .returned (.bool (sameB a b)) ∧ w = w' := by
  have hf := f32bits'
  cases ha : nan a <;> cases hb : nan b <;> unfold nan at ha hb
  all_goals
    go_enter Try.func16, Try.ntmps16
    go_wp2
    go_ret
    exact ⟨ret_bool (by simp [sameB, nan, ha, hb]), rfl⟩

theorem sameNumber_any (a b : Nat) (w : World) : Calls Try.prog 21 #[.float .f32 a, .float .f32 b] w fun e w' => e = .returned (.bool (sameB a b)) ∧ w = w' := by
  have hf := f32bits'
  cases ha : nan a <;> cases hb : nan b <;> unfold nan at ha hb
  all_goals
    go_enter Try.func21, Try.ntmps21
    go_wp2
    go_ret
    exact ⟨ret_bool (by simp [sameB, nan, ha, hb]), rfl⟩

/-- All numbers of two arrays are the same. -/
def sameF (f g : Nat → Nat) : Bool := (List.range 64).all fun i => sameB (f i) (g i)
theorem sameF_yes {f g : Nat → Nat} (h : ∀ i, i < 64 → sameB (f i) (g i) = true) : sameF f g = true := by
  simp only [sameF, List.all_eq_true, List.mem_range]
  exact h
theorem sameF_no {f g : Nat → Nat} (k : Nat) (hk : k < 64) (h : sameB (f k) (g k) = false) : sameF f g = false := by
  cases hs : sameF f g with
  | false => rfl
  | true =>
    simp only [sameF, List.all_eq_true, List.mem_range] at hs
    rw [hs k hk] at h
    cases h
/-- The first k numbers of two arrays are the same. -/
def sameTo (f g : Nat → Nat) (k : Nat) : Prop := ∀ i, i < k → sameB (f i) (g i) = true

theorem ret_yes {f g : Nat → Nat} (h : sameTo f g 64) : Ending.returned (.bool true) = .returned (.bool (sameF f g)) := by
  rw [sameF_yes h]
theorem ret_no {f g : Nat → Nat} {k : Nat} (hk : k < 64) (h : sameB (f k) (g k) = false) : Ending.returned (.bool false) = .returned (.bool (sameF f g)) := by
  rw [sameF_no k hk h]
theorem sameTo_snoc {f g : Nat → Nat} {k : Nat} (h : sameTo f g k) (hs : sameB (f k) (g k) = true) : sameTo f g (k + 1) := fun i hi => by
  by_cases e : i = k
  · subst e; exact hs
  · exact h i (by omega)

theorem l01Same_is (a b : Nat) (r : Bool) (h : sameB a b = r) (w : World) : Calls Try.prog 16 #[.float .f32 a, .float .f32 b] w fun e w' => e = .returned (.bool r) ∧ w' = w := by
  subst h
  exact (l01Same_any a b w).mono fun e w' h => ⟨h.1, h.2.symm⟩
theorem sameNumber_is (a b : Nat) (r : Bool) (h : sameB a b = r) (w : World) : Calls Try.prog 21 #[.float .f32 a, .float .f32 b] w fun e w' => e = .returned (.bool r) ∧ w' = w := by
  subst h
  exact (sameNumber_any a b w).mono fun e w' h => ⟨h.1, h.2.symm⟩

set_option maxRecDepth 100000 in
set_option maxHeartbeats 400000 in
theorem l01SameField_any (f g : Nat → Nat) (p q po qo : Nat) (w : World) (hp : w.rangeAt p po (Fld f).toList) (hq : w.rangeAt q qo (Fld g).toList) :
    Calls Try.prog 15 #[.pointer (some ⟨p, po, none⟩), .pointer (some ⟨q, qo, none⟩)] w fun e w' => e = .returned (.bool (sameF f g)) ∧ Quiet w w' := by
  have cp : ∀ k, k < 64 → w.cell? ⟨p, po + k, none⟩ = some (.float .f32 (f k)) := fun k hk => hp k _ (by simpa using Fld_at f k hk)
  have cq : ∀ k, k < 64 → w.cell? ⟨q, qo + k, none⟩ = some (.float .f32 (g k)) := fun k hk => hq k _ (by simpa using Fld_at g k hk)
  have Cp := Lib.hid cp
  have Cq := Lib.hid cq
  clear cp cq hp hq
  go_enter Try.func15, Try.ntmps15
  go_wp2
  go_loopw [5] (fun i wr => ∃ k : Nat, k ≤ 64 ∧ i = .int .i64 k ∧ Hid (sameTo f g k) ∧ Quiet w wr) (fun i _ => 64 - (intOf i).toNat)
  case atStart => exact ⟨0, by omega, rfl, fun i hi => by omega, Quiet.refl w⟩
  case round =>
    obtain ⟨k, hk, rfl, hT, hQ⟩ := hrel
    by_cases hlt : k < 64
    · have h1 := (hQ.cell _).trans (Cp.out k hlt)
      have h2 := (hQ.cell _).trans (Cq.out k hlt)
      cases hs : sameB (f k) (g k)
      · have Hs := Lib.hid hs
        clear hs
        go_wp2
        go_quiet ((go_at_call 16; exact Calls.quiet_of_same (l01Same_is _ _ false Hs.out _)))
        go_wp2
        go_ret
        exact ⟨ret_no hlt Hs.out, hQ.drewN _⟩
      · have Hs := Lib.hid hs
        clear hs
        go_wp2
        go_quiet ((go_at_call 16; exact Calls.quiet_of_same (l01Same_is _ _ true Hs.out _)))
        go_wp2
        go_roundw
        case rel => exact ⟨k + 1, by omega, by go_num, sameTo_snoc hT Hs.out, hQ.drewN _⟩
        case measure => simp [intOf]; omega
    · obtain rfl : k = 64 := by omega
      go_wp2
      go_ret
      exact ⟨ret_yes hT, hQ⟩

set_option maxRecDepth 100000 in
set_option maxHeartbeats 400000 in
theorem implSameField_any (f g : Nat → Nat) (w : World) :
    Calls Try.prog 20 #[.agg (Fld f), .agg (Fld g)] w fun e w' => e = .returned (.bool (sameF f g)) ∧ Below w.heap.size w w' := by
  obtain ⟨W, hW, hz, hp, hq, hb⟩ := two_boxes (Fld f) (Fld g) 31 31 w
  have cp : ∀ k, k < 64 → W.cell? ⟨w.heap.size, 0 + k, none⟩ = some (.float .f32 (f k)) := fun k hk => hp k _ (by simpa using Fld_at f k hk)
  have cq : ∀ k, k < 64 → W.cell? ⟨w.heap.size + 1, 0 + k, none⟩ = some (.float .f32 (g k)) := fun k hk => hq k _ (by simpa using Fld_at g k hk)
  have hb' := hb.trans ((Below.refl W.heap.size W).mono (by rw [hz]; omega))
  have Cp := Lib.hid cp
  have Cq := Lib.hid cq
  have HW := Lib.hid hW
  have Hb : ∀ w1, Quiet W w1 → Below w.heap.size w w1 := fun w1 h => hb.trans (h.below _)
  have HB := Lib.hid Hb
  clear hW hz cp cq hp hq Hb hb hb'
  go_enter Try.func20, Try.ntmps20
  go_wp2
  rw [HW.out]
  go_loopw [6] (fun i wr => ∃ k : Nat, k ≤ 64 ∧ i = .int .i64 k ∧ Hid (sameTo f g k) ∧ Quiet W wr) (fun i _ => 64 - (intOf i).toNat)
  case atStart => exact ⟨0, by omega, rfl, fun i hi => by omega, Quiet.refl W⟩
  case round =>
    obtain ⟨k, hk, rfl, hT, hQ⟩ := hrel
    by_cases hlt : k < 64
    · have h1 := (hQ.cell _).trans (Cp.out k hlt)
      have h2 := (hQ.cell _).trans (Cq.out k hlt)
      rw [Nat.zero_add] at h1 h2
      cases hs : sameB (f k) (g k)
      · have Hs := Lib.hid hs
        clear hs
        go_wp2
        go_quiet ((go_at_call 21; exact Calls.quiet_of_same (sameNumber_is _ _ false Hs.out _)))
        go_wp2
        go_ret
        exact ⟨ret_no hlt Hs.out, HB.out _ (hQ.drewN _)⟩
      · have Hs := Lib.hid hs
        clear hs
        go_wp2
        go_quiet ((go_at_call 21; exact Calls.quiet_of_same (sameNumber_is _ _ true Hs.out _)))
        go_wp2
        go_roundw
        case rel => exact ⟨k + 1, by omega, by go_num, sameTo_snoc hT Hs.out, hQ.drewN _⟩
        case measure => simp [intOf]; omega
    · obtain rfl : k = 64 := by omega
      go_wp2
      go_ret
      exact ⟨ret_yes hT, HB.out _ hQ⟩
end Go.Proofs.Ytjmekgogaiokpab
