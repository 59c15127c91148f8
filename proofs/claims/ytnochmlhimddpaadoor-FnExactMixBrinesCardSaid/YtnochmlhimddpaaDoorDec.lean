/- Decay of a number: both sides. Conditions: none. -/
import Derived.Test.YtnochmlhimddpaaDoorPl
import Derived.Test.YtnochmlhimddpaaDoorHelp
namespace Go.Proofs.YtnochmlhimddpaaDoor
open Go.RowKit Go.Shelf
attribute [local go_sem] Oper.semAt_some run_store_float
set_option linter.unusedSimpArgs false
set_option linter.unusedVariables false

/-- What is left of a number behind so many times. -/
def dcO (o : Option Nat) (k : Nat) : Nat → Option Nat
  | 0 => o
  | n + 1 => fop .f32 .mul (dcO o k n) (num .f32 k)
theorem dcO_ex (a k n : Nat) : ∃ r, num .f32 r = dcO (num .f32 a) k n := by
  induction n with
  | zero => exact num_ex _ _
  | succ n ih => exact fop_ex _ _ rfl _ _ ih (num_ex _ _)
/-- Is a number 0 to 1? -/
def shareB (k : Nat) : Bool := (FloatKind.f32.format.order k 0 == some Ordering.gt || FloatKind.f32.format.order k 0 == some Ordering.eq) && (FloatKind.f32.format.order k 1065353216 == some Ordering.lt || FloatKind.f32.format.order k 1065353216 == some Ordering.eq)
def movesB (n : Int) : Bool := decide (0 ≤ n) && decide (n ≤ 1000)
def canB (k : Nat) (n : Int) : Bool := shareB k && movesB n
theorem moves_nat {n : Int} (h : movesB n = true) : ∃ m : Nat, n = m ∧ m ≤ 1000 := by
  unfold movesB at h
  simp only [Bool.and_eq_true, decide_eq_true_eq] at h
  exact ⟨n.toNat, by omega, by omega⟩

set_option maxRecDepth 100000 in
set_option maxHeartbeats 4000000 in
theorem isShare_any (k : Nat) (w : World) : Calls Tryd.prog 56 #[.float .f32 k] w fun e w' => e = .returned (.bool (shareB k)) ∧ w = w' := by
  cases h : (FloatKind.f32.format.order k 0 == some Ordering.gt || FloatKind.f32.format.order k 0 == some Ordering.eq)
  · go_enter Tryd.func56, Tryd.ntmps56
    go_wp2
    go_ret
    exact ⟨ret_bool (by unfold shareB; rw [h]; rfl), rfl⟩
  · go_enter Tryd.func56, Tryd.ntmps56
    go_wp2
    go_ret
    exact ⟨ret_bool (by unfold shareB; rw [h]; rfl), rfl⟩

set_option maxRecDepth 100000 in
set_option maxHeartbeats 4000000 in
theorem isMoves_any (n : Int) (w : World) : Calls Tryd.prog 93 #[.int .i64 n] w fun e w' => e = .returned (.bool (movesB n)) ∧ w = w' := by
  by_cases h : 0 ≤ n
  · go_enter Tryd.func93, Tryd.ntmps93
    go_wp2
    go_ret
    exact ⟨ret_bool (by unfold movesB; rw [decide_eq_true h]; rfl), rfl⟩
  · go_enter Tryd.func93, Tryd.ntmps93
    go_wp2
    go_ret
    exact ⟨ret_bool (by unfold movesB; rw [decide_eq_false (by omega)]; rfl), rfl⟩

set_option maxRecDepth 100000 in
set_option maxHeartbeats 4000000 in
theorem canDecay_any (k : Nat) (n : Int) (w : World) : Calls Tryd.prog 50 #[.float .f32 k, .int .i64 n] w fun e w' => e = .returned (.bool (canB k n)) ∧ w = w' := by
  cases h : shareB k
  · have Hs := Lib.hid h
    go_enter Tryd.func50, Tryd.ntmps50
    go_wp2_with (go_at_call 56; have hc := isShare_any k w; rw [Hs.out] at hc; refine hc.mono ?_; clear hc; rintro e w' ⟨rfl, rfl⟩)
    go_ret
    exact ⟨ret_bool (by unfold canB; rw [Hs.out]; rfl), rfl⟩
  · have Hs := Lib.hid h
    go_enter Tryd.func50, Tryd.ntmps50
    go_wp2_with (first | (go_at_call 56; have hc := isShare_any k w; rw [Hs.out] at hc; refine hc.mono ?_; clear hc; rintro e w' ⟨rfl, rfl⟩) | (go_at_call 93; refine (isMoves_any n _).mono ?_; rintro e w' ⟨rfl, rfl⟩))
    go_ret
    exact ⟨ret_bool (by unfold canB; rw [Hs.out]; rfl), rfl⟩

set_option maxRecDepth 100000 in
set_option maxHeartbeats 4000000 in
theorem never_any (x : Nat) (w : World) : Calls Tryd.prog 54 #[.float .f32 x] w fun e w' => e = .returned (.bool false) ∧ w = w' := by
  go_enter Tryd.func54, Tryd.ntmps54
  go_wp2
  go_ret
  exact ⟨rfl, rfl⟩

set_option maxRecDepth 100000 in
set_option maxHeartbeats 4000000 in
theorem decayNever_any (a k n : Nat) (hn : n ≤ 1000) (w : World) :
    Calls Tryd.prog 53 #[.float .f32 a, .float .f32 k, .int .i64 n, .func (.func 54) #[] #[]] w fun e w' => ∃ r, e = .returned (.tuple #[.float .f32 r, .int .i64 n]) ∧ num .f32 r = dcO (num .f32 a) k n ∧ Quiet w w' := by
  have hn2 : (n : Int) ≤ 1000 := by omega
  go_enter Tryd.func53, Tryd.ntmps53
  go_wp2
  go_loopw [10, 11] (fun l i wr => ∃ j : Nat, j ≤ n ∧ i = .int .i64 j ∧ (∃ b : Nat, l = .float .f32 b ∧ Hid (num .f32 b = dcO (num .f32 a) k j)) ∧ Hid (Quiet w wr)) (fun _ i _ => n - (intOf i).toNat)
  case atStart => exact ⟨0, by omega, rfl, ⟨a, rfl, rfl⟩, Lib.hid (Quiet.refl _)⟩
  case round =>
    obtain ⟨j, hj, rfl, ⟨b, rfl, hb⟩, HQ⟩ := hrel
    by_cases hlt : j < n
    · have hk2 : (j : Int) < n := by omega
      go_wp2_with (first | (go_at_call 54; refine (never_any b _).mono ?_; rintro e w' ⟨rfl, rfl⟩) | (refine wpList_float rfl _ _ _ _ _ rfl rfl .f32 _ _ rfl rfl ?_; intro r1 F1n F1h; have F1 := Lib.hid F1h; clear  F1h))
      go_roundw
      case rel => exact ⟨j + 1, by omega, by go_num, ⟨r1, rfl, Lib.hid (F1.out.trans (fop_eq hb.out rfl))⟩, Lib.hid (HQ.out.drewN _)⟩
      case measure => simp [intOf]; omega
    · obtain rfl : j = n := by omega
      go_wp2
      go_ret2
      exact ⟨b, rfl, hb.out, HQ.out⟩

def dkB (a k : Nat) (n : Int) : Bool := amtB a && canB k n

set_option maxRecDepth 100000 in
set_option maxHeartbeats 4000000 in
theorem l05Keep_any (a k : Nat) (n : Int) (w : World) : Calls Tryd.prog 47 #[.float .f32 a, .float .f32 k, .int .i64 n] w fun e w' => e = .returned (.bool (dkB a k n)) ∧ w = w' := by
  cases hp : plainB a
  · have Hp := Lib.hid hp
    have R := Lib.hid (show dkB a k n = false by unfold dkB amtB; rw [hp]; rfl)
    clear hp
    go_enter Tryd.func47, Tryd.ntmps47
    go_wp2_with (go_at_call 60; refine (l01Plain_is a false Hp.out _).mono ?_; rintro e w' ⟨rfl, rfl⟩)
    go_ret
    exact ⟨ret_bool R.out.symm, rfl⟩
  · have Hp := Lib.hid hp
    cases h1 : (FloatKind.f32.format.order a 0 == some Ordering.gt || FloatKind.f32.format.order a 0 == some Ordering.eq)
    · have R := Lib.hid (show dkB a k n = false by unfold dkB amtB; rw [hp, h1]; rfl)
      clear hp
      go_enter Tryd.func47, Tryd.ntmps47
      go_wp2_with (go_at_call 60; refine (l01Plain_is a true Hp.out _).mono ?_; rintro e w' ⟨rfl, rfl⟩)
      go_ret
      exact ⟨ret_bool R.out.symm, rfl⟩
    · cases h2 : (FloatKind.f32.format.order k 0 == some Ordering.gt || FloatKind.f32.format.order k 0 == some Ordering.eq)
      · have R := Lib.hid (show dkB a k n = false by unfold dkB amtB canB shareB; rw [hp, h1, h2]; rfl)
        clear hp
        go_enter Tryd.func47, Tryd.ntmps47
        go_wp2_with (go_at_call 60; refine (l01Plain_is a true Hp.out _).mono ?_; rintro e w' ⟨rfl, rfl⟩)
        go_ret
        exact ⟨ret_bool R.out.symm, rfl⟩
      · cases h3 : (FloatKind.f32.format.order k 1065353216 == some Ordering.lt || FloatKind.f32.format.order k 1065353216 == some Ordering.eq)
        · have R := Lib.hid (show dkB a k n = false by unfold dkB amtB canB shareB; rw [hp, h1, h2, h3]; rfl)
          clear hp
          go_enter Tryd.func47, Tryd.ntmps47
          go_wp2_with (go_at_call 60; refine (l01Plain_is a true Hp.out _).mono ?_; rintro e w' ⟨rfl, rfl⟩)
          go_ret
          exact ⟨ret_bool R.out.symm, rfl⟩
        · have R := Lib.hid (show dkB a k n = (decide (0 ≤ n) && decide (n ≤ 1000)) by unfold dkB amtB canB shareB movesB; rw [hp, h1, h2, h3]; rfl)
          clear hp
          go_enter Tryd.func47, Tryd.ntmps47
          go_wp2_with (first | (go_at_call 60; refine (l01Plain_is a true Hp.out _).mono ?_; rintro e w' ⟨rfl, rfl⟩) | (go_at_call 92; refine (l00In_any n 0 1000 _).mono ?_; rintro e w' ⟨rfl, rfl⟩))
          go_ret
          exact ⟨ret_bool R.out.symm, rfl⟩

set_option maxRecDepth 100000 in
set_option maxHeartbeats 4000000 in
theorem l05Decay_any (a k n : Nat) (hn : n ≤ 1000) (w : World) :
    Calls Tryd.prog 49 #[.float .f32 a, .float .f32 k, .int .i64 n] w fun e w' => ∃ r, e = .returned (.float .f32 r) ∧ num .f32 r = dcO (num .f32 a) k n ∧ Quiet w w' := by
  have hn2 : (n : Int) ≤ 1000 := by omega
  go_enter Tryd.func49, Tryd.ntmps49
  go_wp2
  go_loopw [0, 7] (fun l i wr => ∃ j : Nat, j ≤ n ∧ i = .int .i64 j ∧ (∃ b : Nat, l = .float .f32 b ∧ Hid (num .f32 b = dcO (num .f32 a) k j)) ∧ Hid (Quiet w wr)) (fun _ i _ => n - (intOf i).toNat)
  case atStart => exact ⟨0, by omega, rfl, ⟨a, rfl, rfl⟩, Lib.hid (Quiet.refl _)⟩
  case round =>
    obtain ⟨j, hj, rfl, ⟨b, rfl, hb⟩, HQ⟩ := hrel
    by_cases hlt : j < n
    · have hk2 : (j : Int) < n := by omega
      go_wp2_with (refine wpList_float rfl _ _ _ _ _ rfl rfl .f32 _ _ rfl rfl ?_; intro r1 F1n F1h; have F1 := Lib.hid F1h; clear  F1h)
      go_roundw
      case rel => exact ⟨j + 1, by omega, by go_num, ⟨r1, rfl, Lib.hid (F1.out.trans (fop_eq hb.out rfl))⟩, Lib.hid (HQ.out.drewN _)⟩
      case measure => simp [intOf]; omega
    · obtain rfl : j = n := by omega
      go_wp2
      go_ret
      exact ⟨b, rfl, hb.out, HQ.out⟩

/-- What DecayedNumber answers, up to which NaN it is. -/
def Decayed (a k : Nat) (n : Int) (e : Ending) : Prop := if dkB a k n = true then ∃ r, e = .returned (.tuple #[.float .f32 r, .int .i64 0]) ∧ num .f32 r = dcO (num .f32 a) k n.toNat else e = .returned (.tuple #[.float .f32 0, .int .i64 2])

def goneO : Option Nat → Bool
  | none => false
  | some b => FloatKind.f32.format.order b 0 == some Ordering.eq
theorem goneO_of {r : Nat} {o : Option Nat} (h : num .f32 r = o) : (FloatKind.f32.format.order r 0 == some Ordering.eq) = goneO o := by
  subst h
  cases hn : nanK .f32 r
  · rw [num_some hn]; rfl
  · rw [num_none hn, ord_none hn]; rfl
/-- Behind how many times a number is 0. -/
def goneN (a k n : Nat) : Option Nat := (List.range (n + 1)).find? fun t => goneO (dcO (num .f32 a) k t)
theorem gone_at {a k n j : Nat} (hj : j ≤ n) (h : ∀ t, t < j → goneO (dcO (num .f32 a) k t) = false) (hz : goneO (dcO (num .f32 a) k j) = true) : goneN a k n = some j := by
  unfold goneN
  rw [List.find?_range_eq_some]
  exact ⟨hz, by simp; omega, fun t ht => by simp [h t ht]⟩
theorem gone_none {a k n : Nat} (h : ∀ t, t < n + 1 → goneO (dcO (num .f32 a) k t) = false) : goneN a k n = none := by
  unfold goneN
  rw [List.find?_eq_none]
  intro t ht
  rw [h t (by simpa using ht)]
  decide
def goneV (a k : Nat) (n : Int) : Value := if dkB a k n = true then (match goneN a k n.toNat with | some t => .tuple #[.int .i64 (t : Int), .int .i64 0] | none => .tuple #[.int .i64 0, .int .i64 7]) else .tuple #[.int .i64 0, .int .i64 2]
theorem goneV_is (a k : Nat) (n : Int) : ∃ x y : Int, goneV a k n = .tuple #[.int .i64 x, .int .i64 y] := by
  unfold goneV
  split
  · split <;> exact ⟨_, _, rfl⟩
  · exact ⟨_, _, rfl⟩

end Go.Proofs.YtnochmlhimddpaaDoor
