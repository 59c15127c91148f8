/- Decay of a number: both sides. Conditions: none. -/
import Derived.Test.YtjmekgogaiokpabPl
import Derived.Test.YtjmekgogaiokpabHelp
namespace Go.Proofs.Ytjmekgogaiokpab
open Go.RowKit Go.Shelf
attribute [local go_sem] Oper.semAt_some run_store_float
set_option linter.unusedSimpArgs false
set_option linter.unusedVariables false

/-- What is left of a number behind so many times. -/
def dcO (o : Option Nat) (k : Nat) : Nat → Option Nat
  | 0 => o
  | n + 1 => fop .f32 .mul (dcO o k n) (num .f32 k)
theorem dcO_ex (a k n : Nat) : ∃ r, num .f32 r = dcO (num .f32 a) k n := by
  induction n with
  | zero => exact num_ex _ _
  | succ n ih => exact fop_ex _ _ rfl _ _ ih (num_ex _ _)
/-- Is a number 0 to 1? -/
def shareB (k : Nat) : Bool := (FloatKind.f32.format.order k 0 == some Ordering.gt || FloatKind.f32.format.order k 0 == some Ordering.eq) && (FloatKind.f32.format.order k 1065353216 == some Ordering.lt || FloatKind.f32.format.order k 1065353216 == some Ordering.eq)
def movesB (n : Int) : Bool := decide (0 ≤ n) && decide (n ≤ 1000)
def canB (k : Nat) (n : Int) : Bool := shareB k && movesB n
theorem moves_nat {n : Int} (h : movesB n = true) : ∃ m : Nat, n = m ∧ m ≤ 1000 := by
  unfold movesB at h
  simp only [Bool.and_eq_true, decide_eq_true_eq] at h
  exact ⟨n.toNat, by omega, by omega⟩

set_option maxRecDepth 100000 in
set_option maxHeartbeats 4000000 in
theorem isShare_any (k : Nat) (w : World) : Calls Try.prog 33 #[.float .f32 k] w fun e w' => e = .returned (.bool (shareB k)) ∧ w = w' := by
  cases h : (FloatKind.f32.format.order k 0 == some Ordering.gt || FloatKind.f32.format.order k 0 == some Ordering.eq)
  · go_enter Try.func33, Try.ntmps33
    go_wp2
    go_ret
    exact ⟨ret_bool (by unfold shareB; rw [h]; rfl), rfl⟩
  · go_enter Try.func33, Try.ntmps33
    go_wp2
    go_ret
    exact ⟨ret_bool (by unfold shareB; rw [h]; rfl), rfl⟩

set_option maxRecDepth 100000 in
set_option maxHeartbeats 4000000 in
theorem isMoves_any (n : Int) (w : World) : Calls Try.prog 34 #[.int .i64 n] w fun e w' => e = .returned (.bool (movesB n)) ∧ w = w' := by
  by_cases h : 0 ≤ n
  · go_enter Try.func34, Try.ntmps34
    go_wp2
    go_ret
    exact ⟨ret_bool (by unfold movesB; rw [decide_eq_true h]; rfl), rfl⟩
  · go_enter Try.func34, Try.ntmps34
    go_wp2
    go_ret
    exact ⟨ret_bool (by unfold movesB; rw [decide_eq_false (by omega)]; rfl), rfl⟩

set_option maxRecDepth 100000 in
set_option maxHeartbeats 4000000 in
theorem canDecay_any (k : Nat) (n : Int) (w : World) : Calls Try.prog 25 #[.float .f32 k, .int .i64 n] w fun e w' => e = .returned (.bool (canB k n)) ∧ w = w' := by
  cases h : shareB k
  · have Hs := Lib.hid h
    go_enter Try.func25, Try.ntmps25
    go_wp2_with (go_at_call 33; have hc := isShare_any k w; rw [Hs.out] at hc; refine hc.mono ?_; clear hc; rintro e w' ⟨rfl, rfl⟩)
    go_ret
    exact ⟨ret_bool (by unfold canB; rw [Hs.out]; rfl), rfl⟩
  · have Hs := Lib.hid h
    go_enter Try.func25, Try.ntmps25
    go_wp2_with (first | (go_at_call 33; have hc := isShare_any k w; rw [Hs.out] at hc; refine hc.mono ?_; clear hc; rintro e w' ⟨rfl, rfl⟩) | (go_at_call 34; refine (isMoves_any n _).mono ?_; rintro e w' ⟨rfl, rfl⟩))
    go_ret
    exact ⟨ret_bool (by unfold canB; rw [Hs.out]; rfl), rfl⟩

set_option maxRecDepth 100000 in
set_option maxHeartbeats 4000000 in
theorem never_any (x : Nat) (w : World) : Calls Try.prog 27 #[.float .f32 x] w fun e w' => e = .returned (.bool false) ∧ w = w' := by
  go_enter Try.func27, Try.ntmps27
  go_wp2
  go_ret
  exact ⟨rfl, rfl⟩

set_option maxRecDepth 100000 in
set_option maxHeartbeats 4000000 in
theorem decayNever_any (a k n : Nat) (hn : n ≤ 1000) (w : World) :
    Calls Try.prog 26 #[.float .f32 a, .float .f32 k, .int .i64 n, .func (.func 27) #[] #[]] w fun e w' => ∃ r, e = .returned (.tuple #[.float .f32 r, .int .i64 n]) ∧ num .f32 r = dcO (num .f32 a) k n ∧ Quiet w w' := by
  have hn2 : (n : Int) ≤ 1000 := by omega
  go_enter Try.func26, Try.ntmps26
  go_wp2
  go_loopw [10, 11] (fun l i wr => ∃ j : Nat, j ≤ n ∧ i = .int .i64 j ∧ (∃ b : Nat, l = .float .f32 b ∧ Hid (num .f32 b = dcO (num .f32 a) k j)) ∧ Hid (Quiet w wr)) (fun _ i _ => n - (intOf i).toNat)
  case atStart => exact ⟨0, by omega, rfl, ⟨a, rfl, rfl⟩, Lib.hid (Quiet.refl _)⟩
  case round =>
    obtain ⟨j, hj, rfl, ⟨b, rfl, hb⟩, HQ⟩ := hrel
    by_cases hlt : j < n
    · have hk2 : (j : Int) < n := by omega
      go_wp2_with (first | (go_at_call 27; refine (never_any b _).mono ?_; rintro e w' ⟨rfl, rfl⟩) | (refine wpList_float rfl _ _ _ _ _ rfl rfl .f32 _ _ rfl rfl ?_; intro r1 F1n F1h; have F1 := Lib.hid F1h; clear  F1h))
      go_roundw
      case rel => exact ⟨j + 1, by omega, by go_num, ⟨r1, rfl, Lib.hid (F1.out.trans (fop_eq hb.out rfl))⟩, Lib.hid (HQ.out.drewN _)⟩
      case measure => simp [intOf]; omega
    · obtain rfl : j = n := by omega
      go_wp2
      go_ret2
      exact ⟨b, rfl, hb.out, HQ.out⟩

def dkB (a k : Nat) (n : Int) : Bool := amtB a && canB k n

set_option maxRecDepth 100000 in
set_option maxHeartbeats 4000000 in
theorem l05Keep_any (a k : Nat) (n : Int) (w : World) : Calls Try.prog 22 #[.float .f32 a, .float .f32 k, .int .i64 n] w fun e w' => e = .returned (.bool (dkB a k n)) ∧ w = w' := by
  cases hp : plainB a
  · have Hp := Lib.hid hp
    have R := Lib.hid (show dkB a k n = false by unfold dkB amtB; rw [hp]; rfl)
    clear hp
    go_enter Try.func22, Try.ntmps22
    go_wp2_with (go_at_call 30; refine (l01Plain_is a false Hp.out _).mono ?_; rintro e w' ⟨rfl, rfl⟩)
    go_ret
    exact ⟨ret_bool R.out.symm, rfl⟩
  · have Hp := Lib.hid hp
    cases h1 : (FloatKind.f32.format.order a 0 == some Ordering.gt || FloatKind.f32.format.order a 0 == some Ordering.eq)
    · have R := Lib.hid (show dkB a k n = false by unfold dkB amtB; rw [hp, h1]; rfl)
      clear hp
      go_enter Try.func22, Try.ntmps22
      go_wp2_with (go_at_call 30; refine (l01Plain_is a true Hp.out _).mono ?_; rintro e w' ⟨rfl, rfl⟩)
      go_ret
      exact ⟨ret_bool R.out.symm, rfl⟩
    · cases h2 : (FloatKind.f32.format.order k 0 == some Ordering.gt || FloatKind.f32.format.order k 0 == some Ordering.eq)
      · have R := Lib.hid (show dkB a k n = false by unfold dkB amtB canB shareB; rw [hp, h1, h2]; rfl)
        clear hp
        go_enter Try.func22, Try.ntmps22
        go_wp2_with (go_at_call 30; refine (l01Plain_is a true Hp.out _).mono ?_; rintro e w' ⟨rfl, rfl⟩)
        go_ret
        exact ⟨ret_bool R.out.symm, rfl⟩
      · cases h3 : (FloatKind.f32.format.order k 1065353216 == some Ordering.lt || FloatKind.f32.format.order k 1065353216 == some Ordering.eq)
        · have R := Lib.hid (show dkB a k n = false by unfold dkB amtB canB shareB; rw [hp, h1, h2, h3]; rfl)
          clear hp
          go_enter Try.func22, Try.ntmps22
          go_wp2_with (go_at_call 30; refine (l01Plain_is a true Hp.out _).mono ?_; rintro e w' ⟨rfl, rfl⟩)
          go_ret
          exact ⟨ret_bool R.out.symm, rfl⟩
        · have R := Lib.hid (show dkB a k n = (decide (0 ≤ n) && decide (n ≤ 1000)) by unfold dkB amtB canB shareB movesB; rw [hp, h1, h2, h3]; rfl)
          clear hp
          go_enter Try.func22, Try.ntmps22
          go_wp2_with (first | (go_at_call 30; refine (l01Plain_is a true Hp.out _).mono ?_; rintro e w' ⟨rfl, rfl⟩) | (go_at_call 31; refine (l00In_any n 0 1000 _).mono ?_; rintro e w' ⟨rfl, rfl⟩))
          go_ret
          exact ⟨ret_bool R.out.symm, rfl⟩

set_option maxRecDepth 100000 in
set_option maxHeartbeats 4000000 in
theorem l05Decay_any (a k n : Nat) (hn : n ≤ 1000) (w : World) :
    Calls Try.prog 23 #[.float .f32 a, .float .f32 k, .int .i64 n] w fun e w' => ∃ r, e = .returned (.float .f32 r) ∧ num .f32 r = dcO (num .f32 a) k n ∧ Quiet w w' := by
  have hn2 : (n : Int) ≤ 1000 := by omega
  go_enter Try.func23, Try.ntmps23
  go_wp2
  go_loopw [0, 7] (fun l i wr => ∃ j : Nat, j ≤ n ∧ i = .int .i64 j ∧ (∃ b : Nat, l = .float .f32 b ∧ Hid (num .f32 b = dcO (num .f32 a) k j)) ∧ Hid (Quiet w wr)) (fun _ i _ => n - (intOf i).toNat)
  case atStart => exact ⟨0, by omega, rfl, ⟨a, rfl, rfl⟩, Lib.hid (Quiet.refl _)⟩
  case round =>
    obtain ⟨j, hj, rfl, ⟨b, rfl, hb⟩, HQ⟩ := hrel
    by_cases hlt : j < n
    · have hk2 : (j : Int) < n := by omega
      go_wp2_with (refine wpList_float rfl _ _ _ _ _ rfl rfl .f32 _ _ rfl rfl ?_; intro r1 F1n F1h; have F1 := Lib.hid F1h; clear  F1h)
      go_roundw
      case rel => exact ⟨j + 1, by omega, by go_num, ⟨r1, rfl, Lib.hid (F1.out.trans (fop_eq hb.out rfl))⟩, Lib.hid (HQ.out.drewN _)⟩
      case measure => simp [intOf]; omega
    · obtain rfl : j = n := by omega
      go_wp2
      go_ret
      exact ⟨b, rfl, hb.out, HQ.out⟩

/-- What DecayedNumber answers, up to which NaN it is. -/
def Decayed (a k : Nat) (n : Int) (e : Ending) : Prop := if dkB a k n = true then ∃ r, e = .returned (.tuple #[.float .f32 r, .int .i64 0]) ∧ num .f32 r = dcO (num .f32 a) k n.toNat else e = .returned (.tuple #[.float .f32 0, .int .i64 2])

set_option maxRecDepth 100000 in
set_option maxHeartbeats 4000000 in
theorem specDecayed_any (a k : Nat) (n : Int) (w : World) : Calls Try.prog 9 #[.float .f32 a, .float .f32 k, .int .i64 n] w fun e w' => Decayed a k n e ∧ Below w.heap.size w w' := by
  cases hk : dkB a k n
  · have Hk := Lib.hid hk
    have R := Lib.hid (show ∀ e, e = Ending.returned (.tuple #[.float .f32 0, .int .i64 2]) → Decayed a k n e from fun e h => by unfold Decayed; rw [hk, if_neg (by decide)]; exact h)
    clear hk
    go_enter Try.func9, Try.ntmps9
    go_wp2_with (go_at_call 22; have hc := l05Keep_any a k n w; rw [Hk.out] at hc; refine hc.mono ?_; clear hc; rintro e w' ⟨rfl, rfl⟩)
    go_ret2
    exact ⟨R.out _ rfl, Below.refl _ _⟩
  · have Hk := Lib.hid hk
    have R := Lib.hid (show ∀ e, (∃ r, e = .returned (.tuple #[.float .f32 r, .int .i64 0]) ∧ num .f32 r = dcO (num .f32 a) k n.toNat) → Decayed a k n e from fun e h => by unfold Decayed; rw [hk, if_pos rfl]; exact h)
    have hm : movesB n = true := by unfold dkB canB at hk; simp only [Bool.and_eq_true] at hk; exact hk.2.2
    obtain ⟨m, rfl, hm2⟩ := moves_nat hm
    clear hk hm
    go_enter Try.func9, Try.ntmps9
    go_wp2_with (first | (go_at_call 22; have hc := l05Keep_any a k m w; rw [Hk.out] at hc; refine hc.mono ?_; clear hc; rintro e w' ⟨rfl, rfl⟩) | (go_at_call 23; refine (l05Decay_any a k m hm2 _).mono ?_; rintro e w1 ⟨r, rfl, hr, hq⟩; have HR := Lib.hid hr; have HQ := Lib.hid hq; clear hr hq))
    go_ret2
    exact ⟨R.out _ ⟨r, rfl, by rw [Int.toNat_natCast]; exact HR.out⟩, HQ.out.below _⟩

set_option maxRecDepth 100000 in
set_option maxHeartbeats 4000000 in
theorem implDecayed_any (a k : Nat) (n : Int) (w : World) : Calls Try.prog 10 #[.float .f32 a, .float .f32 k, .int .i64 n] w fun e w' => Decayed a k n e ∧ Below w.heap.size w w' := by
  cases ha : amtB a
  · have Ha := Lib.hid ha
    have R := Lib.hid (show ∀ e, e = Ending.returned (.tuple #[.float .f32 0, .int .i64 2]) → Decayed a k n e from fun e h => by unfold Decayed dkB; rw [ha, Bool.false_and, if_neg (by decide)]; exact h)
    clear ha
    go_enter Try.func10, Try.ntmps10
    go_wp2_with (go_at_call 24; refine (isAmount_is a false Ha.out _).mono ?_; rintro e w' ⟨rfl, rfl⟩)
    go_ret2
    exact ⟨R.out _ rfl, Below.refl _ _⟩
  · have Ha := Lib.hid ha
    cases hc : canB k n
    · have Hc := Lib.hid hc
      have R := Lib.hid (show ∀ e, e = Ending.returned (.tuple #[.float .f32 0, .int .i64 2]) → Decayed a k n e from fun e h => by unfold Decayed dkB; rw [ha, hc, Bool.true_and, if_neg (by decide)]; exact h)
      clear ha hc
      go_enter Try.func10, Try.ntmps10
      go_wp2_with (first | (go_at_call 24; refine (isAmount_is a true Ha.out _).mono ?_; rintro e w' ⟨rfl, rfl⟩) | (go_at_call 25; have hc := canDecay_any k n w; rw [Hc.out] at hc; refine hc.mono ?_; clear hc; rintro e w' ⟨rfl, rfl⟩))
      go_ret2
      exact ⟨R.out _ rfl, Below.refl _ _⟩
    · have Hc := Lib.hid hc
      have R := Lib.hid (show ∀ e, (∃ r, e = .returned (.tuple #[.float .f32 r, .int .i64 0]) ∧ num .f32 r = dcO (num .f32 a) k n.toNat) → Decayed a k n e from fun e h => by unfold Decayed dkB; rw [ha, hc, Bool.true_and, if_pos rfl]; exact h)
      have hm : movesB n = true := by unfold canB at hc; simp only [Bool.and_eq_true] at hc; exact hc.2
      obtain ⟨m, rfl, hm2⟩ := moves_nat hm
      clear ha hc hm
      go_enter Try.func10, Try.ntmps10
      go_wp2_with (first | (go_at_call 24; refine (isAmount_is a true Ha.out _).mono ?_; rintro e w' ⟨rfl, rfl⟩) | (go_at_call 25; have hc := canDecay_any k m w; rw [Hc.out] at hc; refine hc.mono ?_; clear hc; rintro e w' ⟨rfl, rfl⟩) | (go_at_call 26; refine (decayNever_any a k m hm2 _).mono ?_; rintro e w1 ⟨r, rfl, hr, hq⟩; have HR := Lib.hid hr; have HQ := Lib.hid hq; clear hr hq))
      go_ret2
      exact ⟨R.out _ ⟨r, rfl, by rw [Int.toNat_natCast]; exact HR.out⟩, HQ.out.below _⟩

def zeroO : Option Nat → Bool
  | none => false
  | some b => FloatKind.f32.format.order b 0 == some Ordering.eq
theorem zeroO_of {r : Nat} {o : Option Nat} (h : num .f32 r = o) : (FloatKind.f32.format.order r 0 == some Ordering.eq) = zeroO o := by
  subst h
  cases hn : nanK .f32 r
  · rw [num_some hn]; rfl
  · rw [num_none hn, ord_none hn]; rfl
/-- Behind how many times a number is 0. -/
def goneN (a k n : Nat) : Option Nat := (List.range (n + 1)).find? fun t => zeroO (dcO (num .f32 a) k t)
theorem gone_at {a k n j : Nat} (hj : j ≤ n) (h : ∀ t, t < j → zeroO (dcO (num .f32 a) k t) = false) (hz : zeroO (dcO (num .f32 a) k j) = true) : goneN a k n = some j := by
  unfold goneN
  rw [List.find?_range_eq_some]
  exact ⟨hz, by simp; omega, fun t ht => by simp [h t ht]⟩
theorem gone_none {a k n : Nat} (h : ∀ t, t < n + 1 → zeroO (dcO (num .f32 a) k t) = false) : goneN a k n = none := by
  unfold goneN
  rw [List.find?_eq_none]
  intro t ht
  rw [h t (by simpa using ht)]
  decide
def goneV (a k : Nat) (n : Int) : Value := if dkB a k n = true then (match goneN a k n.toNat with | some t => .tuple #[.int .i64 (t : Int), .int .i64 0] | none => .tuple #[.int .i64 0, .int .i64 7]) else .tuple #[.int .i64 0, .int .i64 2]
theorem goneV_is (a k : Nat) (n : Int) : ∃ x y : Int, goneV a k n = .tuple #[.int .i64 x, .int .i64 y] := by
  unfold goneV
  split
  · split <;> exact ⟨_, _, rfl⟩
  · exact ⟨_, _, rfl⟩

set_option maxRecDepth 100000 in
set_option maxHeartbeats 4000000 in
theorem gone1_any (x : Nat) (w : World) : Calls Try.prog 28 #[.float .f32 x] w fun e w' => e = .returned (.bool (FloatKind.f32.format.order x 0 == some Ordering.eq)) ∧ w = w' := by
  go_enter Try.func28, Try.ntmps28
  go_wp2
  go_ret
  exact ⟨rfl, rfl⟩

set_option maxRecDepth 100000 in
set_option maxHeartbeats 4000000 in
theorem decayGone_any (a k n : Nat) (hn : n ≤ 1000) (w : World) :
    Calls Try.prog 26 #[.float .f32 a, .float .f32 k, .int .i64 n, .func (.func 28) #[] #[]] w fun e w' => ∃ r j : Nat, e = .returned (.tuple #[.float .f32 r, .int .i64 j]) ∧ (num .f32 r = dcO (num .f32 a) k j ∧ j ≤ n ∧ (∀ t, t < j → zeroO (dcO (num .f32 a) k t) = false) ∧ (j = n ∨ zeroO (dcO (num .f32 a) k j) = true)) ∧ Quiet w w' := by
  have hn2 : (n : Int) ≤ 1000 := by omega
  go_enter Try.func26, Try.ntmps26
  go_wp2
  go_loopw [10, 11] (fun l i wr => ∃ j : Nat, j ≤ n ∧ i = .int .i64 j ∧ (∃ b : Nat, l = .float .f32 b ∧ Hid (num .f32 b = dcO (num .f32 a) k j)) ∧ Hid (∀ t, t < j → zeroO (dcO (num .f32 a) k t) = false) ∧ Hid (Quiet w wr)) (fun _ i _ => n - (intOf i).toNat)
  case atStart => exact ⟨0, by omega, rfl, ⟨a, rfl, rfl⟩, Lib.hid (fun t ht => by omega), Lib.hid (Quiet.refl _)⟩
  case round =>
    obtain ⟨j, hj, rfl, ⟨b, rfl, hb⟩, hT, HQ⟩ := hrel
    by_cases hlt : j < n
    · have hk2 : (j : Int) < n := by omega
      cases hz : zeroO (dcO (num .f32 a) k j)
      · have hz2 := (zeroO_of hb.out).trans hz
        have Hz := Lib.hid hz
        clear hz
        go_wp2_with (first | (go_at_call 28; refine (gone1_any b _).mono ?_; rintro e w' ⟨rfl, rfl⟩) | (refine wpList_float rfl _ _ _ _ _ rfl rfl .f32 _ _ rfl rfl ?_; intro r1 F1n F1h; have F1 := Lib.hid F1h; clear  F1h))
        go_roundw
        case rel => exact ⟨j + 1, by omega, by go_num, ⟨r1, rfl, Lib.hid (F1.out.trans (fop_eq hb.out rfl))⟩, Lib.hid (fun t ht => by rcases Nat.lt_succ_iff_lt_or_eq.1 ht with h | rfl; exact hT.out t h; exact Hz.out), Lib.hid (HQ.out.drewN _)⟩
        case measure => simp [intOf]; omega
      · have hz2 := (zeroO_of hb.out).trans hz
        have Hz := Lib.hid hz
        clear hz
        go_wp2_with (go_at_call 28; refine (gone1_any b _).mono ?_; rintro e w' ⟨rfl, rfl⟩)
        go_ret2
        exact ⟨b, j, rfl, ⟨hb.out, hj, hT.out, .inr Hz.out⟩, HQ.out⟩
    · obtain rfl : j = n := by omega
      go_wp2
      go_ret2
      exact ⟨b, j, rfl, ⟨hb.out, hj, hT.out, .inl rfl⟩, HQ.out⟩

set_option maxRecDepth 100000 in
set_option maxHeartbeats 4000000 in
theorem specGone_any (a k : Nat) (n : Int) (w : World) : Calls Try.prog 12 #[.float .f32 a, .float .f32 k, .int .i64 n] w fun e w' => e = .returned (goneV a k n) ∧ Below w.heap.size w w' := by
  cases hk : dkB a k n
  · have Hk := Lib.hid hk
    have R := Lib.hid (show goneV a k n = .tuple #[.int .i64 0, .int .i64 2] by unfold goneV; rw [hk]; rfl)
    clear hk
    go_enter Try.func12, Try.ntmps12
    go_wp2_with (go_at_call 22; have hc := l05Keep_any a k n w; rw [Hk.out] at hc; refine hc.mono ?_; clear hc; rintro e w' ⟨rfl, rfl⟩)
    go_ret2
    exact ⟨congrArg Ending.returned R.out.symm, Below.refl _ _⟩
  · have hm : movesB n = true := by unfold dkB canB at hk; simp only [Bool.and_eq_true] at hk; exact hk.2.2
    obtain ⟨m, rfl, hm2⟩ := moves_nat hm
    have Hk := Lib.hid hk
    have R := Lib.hid (show goneV a k m = (match goneN a k m with | some t => .tuple #[.int .i64 (t : Int), .int .i64 0] | none => .tuple #[.int .i64 0, .int .i64 7]) by unfold goneV; rw [hk, Int.toNat_natCast]; rfl)
    clear hk hm
    have hm3 : (m : Int) ≤ 1000 := by omega
    go_enter Try.func12, Try.ntmps12
    go_upto_region 3 with (go_at_call 22; have hc := l05Keep_any a k m w; rw [Hk.out] at hc; refine hc.mono ?_; clear hc; rintro e w' ⟨rfl, rfl⟩)
    go_wp2
    go_loopw [0, 8] (fun l i wr => ∃ j : Nat, j ≤ m + 1 ∧ i = .int .i64 j ∧ (∃ b : Nat, l = .float .f32 b ∧ Hid (num .f32 b = dcO (num .f32 a) k j)) ∧ Hid (∀ t, t < j → zeroO (dcO (num .f32 a) k t) = false) ∧ Hid (Quiet w wr)) (fun _ i _ => m + 1 - (intOf i).toNat)
    case atStart => exact ⟨0, by omega, rfl, ⟨a, rfl, rfl⟩, Lib.hid (fun t ht => by omega), Lib.hid (Quiet.refl _)⟩
    case round =>
      obtain ⟨j, hj, rfl, ⟨b, rfl, hb⟩, hT, HQ⟩ := hrel
      by_cases hlt : j ≤ m
      · have hk2 : (j : Int) ≤ m := by omega
        cases hz : zeroO (dcO (num .f32 a) k j)
        · have hz2 := (zeroO_of hb.out).trans hz
          have Hz := Lib.hid hz
          clear hz
          go_wp2_with (refine wpList_float rfl _ _ _ _ _ rfl rfl .f32 _ _ rfl rfl ?_; intro r1 F1n F1h; have F1 := Lib.hid F1h; clear  F1h)
          go_roundw
          case rel => exact ⟨j + 1, by omega, by go_num, ⟨r1, rfl, Lib.hid (F1.out.trans (fop_eq hb.out rfl))⟩, Lib.hid (fun t ht => by rcases Nat.lt_succ_iff_lt_or_eq.1 ht with h | rfl; exact hT.out t h; exact Hz.out), Lib.hid (HQ.out.drewN _)⟩
          case measure => simp [intOf]; omega
        · have hz2 := (zeroO_of hb.out).trans hz
          have R2 := Lib.hid (R.out.trans (by rw [gone_at hlt hT.out hz]))
          clear hz
          go_wp2
          go_ret2
          exact ⟨congrArg Ending.returned R2.out.symm, HQ.out.below _⟩
      · obtain rfl : j = m + 1 := by omega
        have hk2 : ¬ ((m + 1 : Nat) : Int) ≤ m := by omega
        have R2 := Lib.hid (R.out.trans (by rw [gone_none hT.out]))
        go_wp2
        go_ret2
        exact ⟨congrArg Ending.returned R2.out.symm, HQ.out.below _⟩

set_option maxRecDepth 100000 in
set_option maxHeartbeats 4000000 in
theorem implGone_any (a k : Nat) (n : Int) (w : World) : Calls Try.prog 13 #[.float .f32 a, .float .f32 k, .int .i64 n] w fun e w' => e = .returned (goneV a k n) ∧ Below w.heap.size w w' := by
  cases ha : amtB a
  · have Ha := Lib.hid ha
    have R := Lib.hid (show goneV a k n = .tuple #[.int .i64 0, .int .i64 2] by unfold goneV dkB; rw [ha]; rfl)
    clear ha
    go_enter Try.func13, Try.ntmps13
    go_wp2_with (go_at_call 24; refine (isAmount_is a false Ha.out _).mono ?_; rintro e w' ⟨rfl, rfl⟩)
    go_ret2
    exact ⟨congrArg Ending.returned R.out.symm, Below.refl _ _⟩
  · have Ha := Lib.hid ha
    cases hc : canB k n
    · have Hc := Lib.hid hc
      have R := Lib.hid (show goneV a k n = .tuple #[.int .i64 0, .int .i64 2] by unfold goneV dkB; rw [ha, hc]; rfl)
      clear ha hc
      go_enter Try.func13, Try.ntmps13
      go_wp2_with (first | (go_at_call 24; refine (isAmount_is a true Ha.out _).mono ?_; rintro e w' ⟨rfl, rfl⟩) | (go_at_call 25; have hc := canDecay_any k n w; rw [Hc.out] at hc; refine hc.mono ?_; clear hc; rintro e w' ⟨rfl, rfl⟩))
      go_ret2
      exact ⟨congrArg Ending.returned R.out.symm, Below.refl _ _⟩
    · have hm : movesB n = true := by unfold canB at hc; simp only [Bool.and_eq_true] at hc; exact hc.2
      obtain ⟨m, rfl, hm2⟩ := moves_nat hm
      have Hc := Lib.hid hc
      have R := Lib.hid (show goneV a k m = (match goneN a k m with | some t => .tuple #[.int .i64 (t : Int), .int .i64 0] | none => .tuple #[.int .i64 0, .int .i64 7]) by unfold goneV dkB; rw [ha, hc, Int.toNat_natCast]; rfl)
      clear ha hc hm
      go_enter Try.func13, Try.ntmps13
      go_upto_region 4 with (first | (go_at_call 24; refine (isAmount_is a true Ha.out _).mono ?_; rintro e w' ⟨rfl, rfl⟩) | (go_at_call 25; have hc := canDecay_any k m w; rw [Hc.out] at hc; refine hc.mono ?_; clear hc; rintro e w' ⟨rfl, rfl⟩) | (go_at_call 26; refine (decayGone_any a k m hm2 _).mono ?_; rintro e w1 ⟨r, j, rfl, hr, hq⟩; have HR := Lib.hid hr; have HQ := Lib.hid hq; clear hr hq))
      cases hz : zeroO (dcO (num .f32 a) k j)
      · have hz2 : (FloatKind.f32.format.order r 0 != some Ordering.eq) = true := by have := (zeroO_of HR.out.1).trans hz; simpa [bne] using this
        have R2 := Lib.hid (R.out.trans (by rw [gone_none (fun t ht => by
          rcases HR.out.2.2.2 with e | e
          · rcases Nat.lt_succ_iff_lt_or_eq.1 ht with h | h
            · exact HR.out.2.2.1 t (by omega)
            · rw [h, ← e]; exact hz
          · rw [e] at hz; cases hz)]))
        clear hz
        go_wp2
        go_ret2
        exact ⟨congrArg Ending.returned R2.out.symm, HQ.out.below _⟩
      · have hz2 : (FloatKind.f32.format.order r 0 != some Ordering.eq) = false := by have := (zeroO_of HR.out.1).trans hz; simpa [bne] using this
        have R2 := Lib.hid (R.out.trans (by rw [gone_at HR.out.2.1 HR.out.2.2.1 hz]))
        clear hz
        go_wp2
        go_ret2
        exact ⟨congrArg Ending.returned R2.out.symm, HQ.out.below _⟩
end Go.Proofs.Ytjmekgogaiokpab
