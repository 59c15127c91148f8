/- The model's l01Ok: whether a ground is valid. No condition. · The program's cells: the mask of a ground's cells. Condition: width and height fit. · The program's outside: a field without the numbers of a mask. Condition: the table of math/bits is laid. · The program's ValidGround: it returns whether the ground is valid. Condition: the table of math/bits is laid. · Whether a ground is valid: the program's ValidGround says what the model's l01Ok says. Condition: the table of math/bits is laid. · The model's checks of grounds, cells and sides. No condition. · The model's l01Made and the program's ifValid: a ground with a code. Condition (ifValid): the table of math/bits is laid. · The program's checks of grounds, cells and sides. Condition: the table of math/bits is laid. -/
import Derived.Test.YtjhaonfdapldcaaDoorPl
import Derived.WalkLawsBesides
import Derived.Laws.Bits64b
namespace Go.Proofs.YtjhaonfdapldcaaDoor

section
open Go.RowKit
set_option linter.unusedSimpArgs false

/-- There is a cell with a number. -/
def isB (G : Gd) (i : Nat) : Bool := decide (((i % 8 : Nat) : Int) < G.wide) && decide (((i / 8 : Nat) : Int) < G.high)

theorem GdOk.wide' {G : Gd} (h : GdOk G) : -128 ≤ G.wide ∧ G.wide ≤ 127 := ⟨h.wide.1, h.wide.2⟩
theorem GdOk.high' {G : Gd} (h : GdOk G) : -128 ≤ G.high ∧ G.high ≤ 127 := ⟨h.high.1, h.high.2⟩
theorem GdOk.x' {G : Gd} (h : GdOk G) : 0 ≤ G.x ∧ G.x ≤ 18446744073709551615 := ⟨h.x.1, h.x.2⟩

theorem l01Is_is (G : Gd) (i : Nat) (hi : i < 64) (r : Bool) (h : isB G i = r) (p : Nat) (w : World) (hp : GrdAt w p 0 G) (hG : GdOk G) :
    Calls Tryd.prog 34 #[.pointer (some ⟨p, 0, none⟩), .int .i64 i] w fun e w' => e = .returned (.bool r) ∧ w' = w := by
  subst h
  have a0 := hp.wide; have a1 := hp.high
  rw [Nat.zero_add] at a1
  obtain ⟨k0, k0'⟩ := hG.wide'
  obtain ⟨k1, k1'⟩ := hG.high'
  clear hp hG
  go_enter Tryd.func34, Tryd.ntmps34
  go_wp2
  all_goals (rename_i h; go_ret; refine ⟨ret_bool ?_, rfl⟩)
  · simp [isB, h]
  · have : ¬ ((i : Int) % 8 < G.wide) := by omega
    simp [isB, this]

/-- All numbers of a field are as they must be. -/
def okAt (G : Gd) (f : Nat → Nat) (i : Nat) : Bool := if isB G i = true then plainB (f i) else zeroB (f i)
def fieldB (G : Gd) (f : Nat → Nat) : Bool := (List.range 64).all fun i => okAt G f i
theorem all_yes {p : Nat → Bool} (h : ∀ i, i < 64 → p i = true) : (List.range 64).all p = true := by
  simp only [List.all_eq_true, List.mem_range]
  exact h
theorem all_no {p : Nat → Bool} (k : Nat) (hk : k < 64) (h : p k = false) : (List.range 64).all p = false := by
  cases hs : (List.range 64).all p with
  | false => rfl
  | true =>
    simp only [List.all_eq_true, List.mem_range] at hs
    rw [hs k hk] at h
    cases h
/-- The first k are so. -/
def upto (p : Nat → Bool) (k : Nat) : Prop := ∀ i, i < k → p i = true
theorem upto_zero (p : Nat → Bool) : upto p 0 := fun i hi => by omega
theorem upto_snoc {p : Nat → Bool} {k : Nat} (h : upto p k) (hs : p k = true) : upto p (k + 1) := fun i hi => by
  by_cases e : i = k
  · subst e; exact hs
  · exact h i (by omega)

set_option maxRecDepth 100000 in
set_option maxHeartbeats 1000000 in
theorem l01Field_any (G : Gd) (f : Nat → Nat) (p q o : Nat) (w : World) (hp : GrdAt w p 0 G) (hG : GdOk G) (hq : w.rangeAt q o (Fld f).toList) :
    Calls Tryd.prog 52 #[.pointer (some ⟨p, 0, none⟩), .pointer (some ⟨q, o, none⟩)] w fun e w' => e = .returned (.bool (fieldB G f)) ∧ w' = w := by
  have cq := Grd_fld hq
  have Cq := Lib.hid cq
  have Hp := Lib.hid hp
  have HG := Lib.hid hG
  clear cq hq hp hG
  go_enter Tryd.func52, Tryd.ntmps52
  go_wp2
  go_loop [5] (fun i => ∃ k : Nat, k ≤ 64 ∧ i = .int .i64 k ∧ Hid (upto (okAt G f) k)) (fun i => 64 - (intOf i).toNat)
  case atStart => exact ⟨0, by omega, rfl, upto_zero _⟩
  case round =>
    obtain ⟨k, hk, rfl, hT⟩ := hrel
    by_cases hlt : k < 64
    · have h1 := Cq.out k hlt
      cases hi : isB G k
      · cases hz : zeroB (f k)
        · have Hk := Lib.hid (show okAt G f k = false by simp [okAt, hi, hz])
          have Hi := Lib.hid hi
          have z1 : (FloatKind.f32.format.order (f k) 0 != some Ordering.eq) = true := by simpa [zeroB, bne] using hz
          clear hi hz
          go_wp2_with (go_at_call 34; refine (l01Is_is G k hlt false Hi.out _ _ Hp.out HG.out).mono ?_; rintro e w' ⟨rfl, rfl⟩)
          go_ret
          exact ⟨ret_bool (all_no k hlt Hk.out).symm, rfl⟩
        · have Hk := Lib.hid (show okAt G f k = true by simp [okAt, hi, hz])
          have Hi := Lib.hid hi
          have z1 : (FloatKind.f32.format.order (f k) 0 != some Ordering.eq) = false := by simpa [zeroB, bne] using hz
          clear hi hz
          go_wp2_with (go_at_call 34; refine (l01Is_is G k hlt false Hi.out _ _ Hp.out HG.out).mono ?_; rintro e w' ⟨rfl, rfl⟩)
          go_round
          case rel => exact ⟨k + 1, by omega, by go_num, upto_snoc hT Hk.out⟩
          case measure => simp [intOf]; omega
      · cases hz : plainB (f k)
        · have Hk := Lib.hid (show okAt G f k = false by simp [okAt, hi, hz])
          have Hi := Lib.hid hi
          have Hz := Lib.hid hz
          clear hi hz
          go_wp2_with (first | (go_at_call 34; refine (l01Is_is G k hlt true Hi.out _ _ Hp.out HG.out).mono ?_; rintro e w' ⟨rfl, rfl⟩) | (go_at_call 81; refine (l01Plain_is (f k) false Hz.out _).mono ?_; rintro e w' ⟨rfl, rfl⟩))
          go_ret
          exact ⟨ret_bool (all_no k hlt Hk.out).symm, rfl⟩
        · have Hk := Lib.hid (show okAt G f k = true by simp [okAt, hi, hz])
          have Hi := Lib.hid hi
          have Hz := Lib.hid hz
          clear hi hz
          go_wp2_with (first | (go_at_call 34; refine (l01Is_is G k hlt true Hi.out _ _ Hp.out HG.out).mono ?_; rintro e w' ⟨rfl, rfl⟩) | (go_at_call 81; refine (l01Plain_is (f k) true Hz.out _).mono ?_; rintro e w' ⟨rfl, rfl⟩))
          go_round
          case rel => exact ⟨k + 1, by omega, by go_num, upto_snoc hT Hk.out⟩
          case measure => simp [intOf]; omega
    · obtain rfl : k = 64 := by omega
      go_wp2
      go_ret
      exact ⟨ret_bool (all_yes hT).symm, rfl⟩

/-- The bits of the first k numbers that are cells. -/
def cellsTo (G : Gd) : Nat → Nat
  | 0 => 0
  | k + 1 => if isB G k = true then cellsTo G k ||| 2 ^ k else cellsTo G k
theorem cellsTo_lt (G : Gd) : ∀ k, k ≤ 64 → cellsTo G k < 2 ^ 64
  | 0, _ => by simp [cellsTo]
  | k + 1, h => by
    have := cellsTo_lt G k (by omega)
    unfold cellsTo
    split
    · exact Nat.or_lt_two_pow this (Nat.pow_lt_pow_right (by decide) (by omega))
    · exact this
theorem cellsTo_testBit (G : Gd) (i : Nat) : ∀ k, (cellsTo G k).testBit i = (decide (i < k) && isB G i)
  | 0 => by simp [cellsTo]
  | k + 1 => by
    have := cellsTo_testBit G i k
    unfold cellsTo
    split
    · rename_i h
      rw [Nat.testBit_or, this, Nat.testBit_two_pow]
      by_cases e : k = i
      · subst e; simp [h]
      · have : (i < k + 1) ↔ (i < k) := by omega
        simp [e, this]
    · rename_i h
      rw [this]
      by_cases e : k = i
      · subst e; simp at h; simp [h]
      · have : (i < k + 1) ↔ (i < k) := by omega
        simp [this]
def cellsN (G : Gd) : Nat := cellsTo G 64
theorem cellsN_lt (G : Gd) : cellsN G < 18446744073709551616 := cellsTo_lt G 64 (by decide)
theorem cellsN_testBit (G : Gd) (i : Nat) : (cellsN G).testBit i = (decide (i < 64) && isB G i) := cellsTo_testBit G i 64

theorem wrap_pow (k : Nat) (hk : k < 64) : IntKind.u64.wrap (2 ^ k) = ((2 ^ k : Nat) : Int) := by
  have h1 : 2 ^ k < 18446744073709551616 := by
    have : 2 ^ k < 2 ^ 64 := Nat.pow_lt_pow_right (by decide) hk
    simpa using this
  have h2 : ((2 : Int) ^ k) = ((2 ^ k : Nat) : Int) := by simp
  rw [h2, IntKind.wrap_u64]
  generalize 2 ^ k = n at h1
  omega
theorem or_bit (x k : Nat) (hx : x < 18446744073709551616) (hk : k < 64) : bits .or .u64 (x : Int) (IntKind.u64.wrap (2 ^ k)) = ((x ||| 2 ^ k : Nat) : Int) := by
  rw [wrap_pow k hk]
  refine bits_or_u64_nat x _ hx ?_
  have : 2 ^ k < 2 ^ 64 := Nat.pow_lt_pow_right (by decide) hk
  simpa using this

set_option maxRecDepth 100000 in
theorem l01Cells_any (G : Gd) (p : Nat) (w : World) (hp : GrdAt w p 0 G) (hG : GdOk G) :
    Calls Tryd.prog 53 #[.pointer (some ⟨p, 0, none⟩)] w fun e w' => e = .returned (.int .u64 (cellsN G)) ∧ w' = w := by
  have Hp := Lib.hid hp
  have HG := Lib.hid hG
  clear hp hG
  go_enter Tryd.func53, Tryd.ntmps53
  go_wp2
  go_loop [3, 4] (fun m i => ∃ k : Nat, k ≤ 64 ∧ i = .int .i64 k ∧ m = .int .u64 (cellsTo G k)) (fun _ i => 64 - (intOf i).toNat)
  case atStart => exact ⟨0, by omega, rfl, rfl⟩
  case round =>
    obtain ⟨k, hk, rfl, rfl⟩ := hrel
    by_cases hlt : k < 64
    · cases hi : isB G k
      · have Hi := Lib.hid hi
        have E := Lib.hid (show cellsTo G (k + 1) = cellsTo G k by simp [cellsTo, hi])
        clear hi
        go_wp2_with (go_at_call 34; refine (l01Is_is G k hlt false Hi.out _ _ Hp.out HG.out).mono ?_; rintro e w' ⟨rfl, rfl⟩)
        go_round
        case rel => exact ⟨k + 1, by omega, by go_num, by rw [E.out]⟩
        case measure => simp [intOf]; omega
      · have Hi := Lib.hid hi
        have E := Lib.hid (show cellsTo G (k + 1) = cellsTo G k ||| 2 ^ k by simp [cellsTo, hi])
        have O := Lib.hid (or_bit (cellsTo G k) k (cellsTo_lt G k hk) hlt)
        clear hi
        go_wp2_with (go_at_call 34; refine (l01Is_is G k hlt true Hi.out _ _ Hp.out HG.out).mono ?_; rintro e w' ⟨rfl, rfl⟩)
        go_round
        case rel => exact ⟨k + 1, by omega, by go_num, by rw [E.out, O.out]⟩
        case measure => simp [intOf]; omega
    · obtain rfl : k = 64 := by omega
      go_wp2
      go_ret
      exact ⟨rfl, rfl⟩

/-- A ground's width and height fit. -/
def extB (G : Gd) : Bool := decide (2 ≤ G.wide) && decide (G.wide ≤ 8) && (decide (2 ≤ G.high) && decide (G.high ≤ 8))
def noNeg (G : Gd) : Bool := (List.range 64).all fun i => !negB (G.c i)

def fixB (G : Gd) : Bool := bits .andNot .u64 G.x (cellsN G) == 0
/-- A ground is valid. -/
def validB (G : Gd) : Bool := extB G && (fieldB G G.c && (fieldB G G.g && (fieldB G G.h && (noNeg G && ((G.x != 0) && fixB G)))))

theorem l01Field_is (G : Gd) (f : Nat → Nat) (r : Bool) (h : fieldB G f = r) (p q o : Nat) (w : World) (hp : GrdAt w p 0 G) (hG : GdOk G) (hq : w.rangeAt q o (Fld f).toList) :
    Calls Tryd.prog 52 #[.pointer (some ⟨p, 0, none⟩), .pointer (some ⟨q, o, none⟩)] w fun e w' => e = .returned (.bool r) ∧ w' = w := by
  subst h
  exact l01Field_any G f p q o w hp hG hq

set_option maxRecDepth 100000 in
theorem l01Ok_w1 (G : Gd) (p : Nat) (w : World) (hp : GrdAt w p 0 G) (hG : GdOk G) (e : G.wide < 2) :
    Calls Tryd.prog 26 #[.pointer (some ⟨p, 0, none⟩)] w fun e w' => e = .returned (.bool false) ∧ Quiet w w' := by
  have a0 := hp.wide; have a1 := hp.high
  rw [Nat.zero_add] at a1
  obtain ⟨k0, k0'⟩ := hG.wide'
  obtain ⟨k1, k1'⟩ := hG.high'
  clear hp hG
  go_enter Tryd.func26, Tryd.ntmps26
  go_wp2_with (go_at_call 51; go_in)
  go_ret
  exact ⟨rfl, Quiet.refl _⟩

set_option maxRecDepth 100000 in
theorem l01Ok_w2 (G : Gd) (p : Nat) (w : World) (hp : GrdAt w p 0 G) (hG : GdOk G) (e0 : 2 ≤ G.wide) (e : 8 < G.wide) :
    Calls Tryd.prog 26 #[.pointer (some ⟨p, 0, none⟩)] w fun e w' => e = .returned (.bool false) ∧ Quiet w w' := by
  have a0 := hp.wide; have a1 := hp.high
  rw [Nat.zero_add] at a1
  obtain ⟨k0, k0'⟩ := hG.wide'
  obtain ⟨k1, k1'⟩ := hG.high'
  have e' : decide (G.wide ≤ 8) = false := by simpa using e
  clear hp hG
  go_enter Tryd.func26, Tryd.ntmps26
  go_wp2_with (go_at_call 51; go_in)
  go_ret
  exact ⟨rfl, Quiet.refl _⟩

set_option maxRecDepth 100000 in
theorem l01Ok_h1 (G : Gd) (p : Nat) (w : World) (hp : GrdAt w p 0 G) (hG : GdOk G) (e0 : 2 ≤ G.wide) (e1 : G.wide ≤ 8) (e : G.high < 2) :
    Calls Tryd.prog 26 #[.pointer (some ⟨p, 0, none⟩)] w fun e w' => e = .returned (.bool false) ∧ Quiet w w' := by
  have a0 := hp.wide; have a1 := hp.high
  rw [Nat.zero_add] at a1
  obtain ⟨k0, k0'⟩ := hG.wide'
  obtain ⟨k1, k1'⟩ := hG.high'
  clear hp hG
  go_enter Tryd.func26, Tryd.ntmps26
  go_wp2_with (go_at_call 51; go_in)
  go_ret
  exact ⟨rfl, Quiet.refl _⟩

set_option maxRecDepth 100000 in
theorem l01Ok_h2 (G : Gd) (p : Nat) (w : World) (hp : GrdAt w p 0 G) (hG : GdOk G) (e0 : 2 ≤ G.wide) (e1 : G.wide ≤ 8) (e2 : 2 ≤ G.high) (e : 8 < G.high) :
    Calls Tryd.prog 26 #[.pointer (some ⟨p, 0, none⟩)] w fun e w' => e = .returned (.bool false) ∧ Quiet w w' := by
  have a0 := hp.wide; have a1 := hp.high
  rw [Nat.zero_add] at a1
  obtain ⟨k0, k0'⟩ := hG.wide'
  obtain ⟨k1, k1'⟩ := hG.high'
  have e' : decide (G.high ≤ 8) = false := by simpa using e
  clear hp hG
  go_enter Tryd.func26, Tryd.ntmps26
  go_wp2_with (go_at_call 51; go_in)
  go_ret
  exact ⟨rfl, Quiet.refl _⟩

set_option maxRecDepth 100000 in
set_option maxHeartbeats 1000000 in
theorem l01Ok_c (G : Gd) (p : Nat) (w : World) (hp : GrdAt w p 0 G) (hG : GdOk G) (e1 : 2 ≤ G.wide) (e2 : G.wide ≤ 8) (e3 : 2 ≤ G.high) (e4 : G.high ≤ 8) (Sc : Hid (fieldB G G.c = false)) :
    Calls Tryd.prog 26 #[.pointer (some ⟨p, 0, none⟩)] w fun e w' => e = .returned (.bool false) ∧ Quiet w w' := by
  have a0 := hp.wide; have a1 := hp.high; have a5 := hp.x
  rw [Nat.zero_add] at a1 a5
  have x' := hG.x'
  have Hp := Lib.hid hp
  have HG := Lib.hid hG
  have rc := Lib.hid hp.c
  have rg := Lib.hid hp.g
  have rh := Lib.hid hp.h
  clear hp hG
  go_enter Tryd.func26, Tryd.ntmps26
  have tk0 : True := trivial
  have tk1 : True := trivial
  have tk2 : True := trivial
  go_wp2_with (first | (go_at_call 51; go_in) | (have _t := tk0; go_at_call 52; refine (l01Field_is G G.c false Sc.out _ _ _ _ Hp.out HG.out rc.out).mono ?_; rintro e w' ⟨rfl, rfl⟩; clear tk0))
  go_ret
  exact ⟨rfl, Quiet.refl _⟩

set_option maxRecDepth 100000 in
set_option maxHeartbeats 1000000 in
theorem l01Ok_g (G : Gd) (p : Nat) (w : World) (hp : GrdAt w p 0 G) (hG : GdOk G) (e1 : 2 ≤ G.wide) (e2 : G.wide ≤ 8) (e3 : 2 ≤ G.high) (e4 : G.high ≤ 8) (Sc : Hid (fieldB G G.c = true)) (Sg : Hid (fieldB G G.g = false)) :
    Calls Tryd.prog 26 #[.pointer (some ⟨p, 0, none⟩)] w fun e w' => e = .returned (.bool false) ∧ Quiet w w' := by
  have a0 := hp.wide; have a1 := hp.high; have a5 := hp.x
  rw [Nat.zero_add] at a1 a5
  have x' := hG.x'
  have Hp := Lib.hid hp
  have HG := Lib.hid hG
  have rc := Lib.hid hp.c
  have rg := Lib.hid hp.g
  have rh := Lib.hid hp.h
  clear hp hG
  go_enter Tryd.func26, Tryd.ntmps26
  have tk0 : True := trivial
  have tk1 : True := trivial
  have tk2 : True := trivial
  go_wp2_with (first | (go_at_call 51; go_in) | (have _t := tk0; go_at_call 52; refine (l01Field_is G G.c true Sc.out _ _ _ _ Hp.out HG.out rc.out).mono ?_; rintro e w' ⟨rfl, rfl⟩; clear tk0) | (have _t := tk1; go_at_call 52; refine (l01Field_is G G.g false Sg.out _ _ _ _ Hp.out HG.out rg.out).mono ?_; rintro e w' ⟨rfl, rfl⟩; clear tk1))
  go_ret
  exact ⟨rfl, Quiet.refl _⟩

set_option maxRecDepth 100000 in
set_option maxHeartbeats 1000000 in
theorem l01Ok_h (G : Gd) (p : Nat) (w : World) (hp : GrdAt w p 0 G) (hG : GdOk G) (e1 : 2 ≤ G.wide) (e2 : G.wide ≤ 8) (e3 : 2 ≤ G.high) (e4 : G.high ≤ 8) (Sc : Hid (fieldB G G.c = true)) (Sg : Hid (fieldB G G.g = true)) (Sh : Hid (fieldB G G.h = false)) :
    Calls Tryd.prog 26 #[.pointer (some ⟨p, 0, none⟩)] w fun e w' => e = .returned (.bool false) ∧ Quiet w w' := by
  have a0 := hp.wide; have a1 := hp.high; have a5 := hp.x
  rw [Nat.zero_add] at a1 a5
  have x' := hG.x'
  have Hp := Lib.hid hp
  have HG := Lib.hid hG
  have rc := Lib.hid hp.c
  have rg := Lib.hid hp.g
  have rh := Lib.hid hp.h
  clear hp hG
  go_enter Tryd.func26, Tryd.ntmps26
  have tk0 : True := trivial
  have tk1 : True := trivial
  have tk2 : True := trivial
  go_wp2_with (first | (go_at_call 51; go_in) | (have _t := tk0; go_at_call 52; refine (l01Field_is G G.c true Sc.out _ _ _ _ Hp.out HG.out rc.out).mono ?_; rintro e w' ⟨rfl, rfl⟩; clear tk0) | (have _t := tk1; go_at_call 52; refine (l01Field_is G G.g true Sg.out _ _ _ _ Hp.out HG.out rg.out).mono ?_; rintro e w' ⟨rfl, rfl⟩; clear tk1) | (have _t := tk2; go_at_call 52; refine (l01Field_is G G.h false Sh.out _ _ _ _ Hp.out HG.out rh.out).mono ?_; rintro e w' ⟨rfl, rfl⟩; clear tk2))
  go_ret
  exact ⟨rfl, Quiet.refl _⟩

theorem noNeg_no {G : Gd} {k : Nat} (hk : k < 64) (h : negB (G.c k) = true) : noNeg G = false := all_no k hk (by simp [h])
theorem noNeg_yes {G : Gd} (h : upto (fun i => !negB (G.c i)) 64) : noNeg G = true := all_yes h

/-- What the model's l01Ok says behind its fields. -/
def restB (G : Gd) : Bool := noNeg G && ((G.x != 0) && fixB G)

set_option maxRecDepth 100000 in
set_option maxHeartbeats 1000000 in
theorem l01Ok_rest (G : Gd) (p : Nat) (w : World) (hp : GrdAt w p 0 G) (hG : GdOk G) (e1 : 2 ≤ G.wide) (e2 : G.wide ≤ 8) (e3 : 2 ≤ G.high) (e4 : G.high ≤ 8) (Sc : Hid (fieldB G G.c = true)) (Sg : Hid (fieldB G G.g = true)) (Sh : Hid (fieldB G G.h = true)) :
    Calls Tryd.prog 26 #[.pointer (some ⟨p, 0, none⟩)] w fun e w' => e = .returned (.bool (restB G)) ∧ Quiet w w' := by
  have cq := Grd_fld hp.c
  have Cq := Lib.hid cq
  clear cq
  have a0 := hp.wide; have a1 := hp.high; have a5 := hp.x
  rw [Nat.zero_add] at a1 a5
  have x' := hG.x'
  have Hp := Lib.hid hp
  have HG := Lib.hid hG
  have rc := Lib.hid hp.c
  have rg := Lib.hid hp.g
  have rh := Lib.hid hp.h
  clear hp hG
  go_enter Tryd.func26, Tryd.ntmps26
  have tk0 : True := trivial
  have tk1 : True := trivial
  have tk2 : True := trivial
  go_wp2_with (first | (go_at_call 51; go_in) | (have _t := tk0; go_at_call 52; refine (l01Field_is G G.c true Sc.out _ _ _ _ Hp.out HG.out rc.out).mono ?_; rintro e w' ⟨rfl, rfl⟩; clear tk0) | (have _t := tk1; go_at_call 52; refine (l01Field_is G G.g true Sg.out _ _ _ _ Hp.out HG.out rg.out).mono ?_; rintro e w' ⟨rfl, rfl⟩; clear tk1) | (have _t := tk2; go_at_call 52; refine (l01Field_is G G.h true Sh.out _ _ _ _ Hp.out HG.out rh.out).mono ?_; rintro e w' ⟨rfl, rfl⟩; clear tk2))
  go_loop [3] (fun i => ∃ k : Nat, k ≤ 64 ∧ i = .int .i64 k ∧ Hid (upto (fun i => !negB (G.c i)) k)) (fun i => 64 - (intOf i).toNat)
  case atStart => exact ⟨0, by omega, rfl, upto_zero _⟩
  case round =>
    obtain ⟨k, hk, rfl, hT⟩ := hrel
    by_cases hlt : k < 64
    · have h1 := Cq.out k hlt
      rw [Nat.zero_add] at h1
      cases hz : negB (G.c k)
      · have Hz := Lib.hid hz
        unfold negB at hz
        go_wp2
        go_round
        case rel => exact ⟨k + 1, by omega, by go_num, upto_snoc hT (by simp [Hz.out])⟩
        case measure => simp [intOf]; omega
      · have Hz := Lib.hid hz
        unfold negB at hz
        go_wp2
        go_ret
        exact ⟨ret_bool (by simp [restB, noNeg_no hlt Hz.out]), Quiet.refl _⟩
    · obtain rfl : k = 64 := by omega
      have R := Lib.hid (show restB G = ((G.x != 0) && fixB G) by simp [restB, noNeg_yes hT])
      cases hx : (G.x != 0)
      · go_wp2
        go_quiet (fail)
        go_wp2
        go_ret
        exact ⟨ret_bool (by rw [R.out, hx]; rfl), (Quiet.refl _).drewN _⟩
      · cases hf : fixB G
        · have hf' := hf
          unfold fixB at hf'
          have Hf := Lib.hid hf
          have Hx := Lib.hid hx
          clear hf
          go_wp2
          go_quiet ((go_at_call 53; exact Calls.quiet_of_same (l01Cells_any G _ _ (Quiet.grd ⟨_, rfl⟩ Hp.out) HG.out)))
          go_wp2
          go_ret
          exact ⟨ret_bool (by rw [R.out, Hx.out, Hf.out]; rfl), (Quiet.refl _).drewN _⟩
        · have hf' := hf
          unfold fixB at hf'
          have Hf := Lib.hid hf
          have Hx := Lib.hid hx
          clear hf
          go_wp2
          go_quiet ((go_at_call 53; exact Calls.quiet_of_same (l01Cells_any G _ _ (Quiet.grd ⟨_, rfl⟩ Hp.out) HG.out)))
          go_wp2
          go_ret
          exact ⟨ret_bool (by rw [R.out, Hx.out, Hf.out]; rfl), (Quiet.refl _).drewN _⟩

theorem l01Ok_any (G : Gd) (p : Nat) (w : World) (hp : GrdAt w p 0 G) (hG : GdOk G) :
    Calls Tryd.prog 26 #[.pointer (some ⟨p, 0, none⟩)] w fun e w' => e = .returned (.bool (validB G)) ∧ Quiet w w' := by
  have no : extB G = false → validB G = false := fun h => by simp [validB, h]
  by_cases e1 : 2 ≤ G.wide
  · by_cases e2 : G.wide ≤ 8
    · by_cases e3 : 2 ≤ G.high
      · by_cases e4 : G.high ≤ 8
        · have he : extB G = true := by simp [extB, e1, e2, e3, e4]
          cases sc : fieldB G G.c
          · rw [show validB G = false by simp [validB, sc]]
            exact l01Ok_c G p w hp hG e1 e2 e3 e4 sc
          cases sg : fieldB G G.g
          · rw [show validB G = false by simp [validB, sg]]
            exact l01Ok_g G p w hp hG e1 e2 e3 e4 sc sg
          cases sh : fieldB G G.h
          · rw [show validB G = false by simp [validB, sh]]
            exact l01Ok_h G p w hp hG e1 e2 e3 e4 sc sg sh
          rw [show validB G = restB G by simp [validB, restB, he, sc, sg, sh]]
          exact l01Ok_rest G p w hp hG e1 e2 e3 e4 sc sg sh
        · rw [no (by simp [extB, e4])]
          exact l01Ok_h2 G p w hp hG e1 e2 e3 (by omega)
      · rw [no (by simp [extB, e3])]
        exact l01Ok_h1 G p w hp hG e1 e2 (by omega)
    · rw [no (by simp [extB, e2])]
      exact l01Ok_w2 G p w hp hG e1 (by omega)
  · rw [no (by simp [extB, e1])]
    exact l01Ok_w1 G p w hp hG (by omega)
end

section
open Go.RowKit
set_option linter.unusedSimpArgs false

/-- The masks of the first k rows. -/
def rowsTo (W : Nat) : Nat → Nat
  | 0 => 0
  | k + 1 => rowsTo W k ||| ((2 ^ W - 1) * 2 ^ (8 * k))
theorem row_lt (W k : Nat) (hW : W ≤ 8) (hk : k < 8) : (2 ^ W - 1) * 2 ^ (8 * k) < 2 ^ 64 := by
  have h1 : 2 ^ W - 1 < 2 ^ 8 := by
    have : 2 ^ W ≤ 2 ^ 8 := Nat.pow_le_pow_right (by decide) hW
    have := Nat.two_pow_pos W
    omega
  calc (2 ^ W - 1) * 2 ^ (8 * k) < 2 ^ 8 * 2 ^ (8 * k) := Nat.mul_lt_mul_of_pos_right h1 (Nat.two_pow_pos _)
    _ = 2 ^ (8 + 8 * k) := by rw [Nat.pow_add]
    _ ≤ 2 ^ 64 := Nat.pow_le_pow_right (by decide) (by omega)
theorem rowsTo_lt (W : Nat) (hW : W ≤ 8) : ∀ k, k ≤ 8 → rowsTo W k < 2 ^ 64
  | 0, _ => by simp [rowsTo]
  | k + 1, h => Nat.or_lt_two_pow (rowsTo_lt W hW k (by omega)) (row_lt W k hW (by omega))
theorem rowsTo_testBit (W : Nat) (hW : W ≤ 8) (i : Nat) : ∀ k, (rowsTo W k).testBit i = (decide (i < 8 * k) && decide (i % 8 < W))
  | 0 => by simp [rowsTo]
  | k + 1 => by
    rw [rowsTo, Nat.testBit_or, rowsTo_testBit W hW i k, Nat.testBit_mul_two_pow, Nat.testBit_two_pow_sub_one]
    by_cases h1 : i < 8 * k
    · have h2 : ¬ 8 * k ≤ i := by omega
      have h3 : i < 8 * (k + 1) := by omega
      simp [h1, h2, h3]
    · by_cases h3 : i < 8 * (k + 1)
      · have h2 : 8 * k ≤ i := by omega
        have h4 : i - 8 * k = i % 8 := by omega
        simp [h1, h2, h3, h4]
      · have h2 : 8 * k ≤ i := by omega
        have h4 : ¬ i - 8 * k < W := by omega
        simp [h1, h3, h4]
theorem rows_cells (G : Gd) (W H : Nat) (hW : G.wide = W) (hH : G.high = H) (w8 : W ≤ 8) (h8 : H ≤ 8) : rowsTo W H = cellsN G := by
  apply Nat.eq_of_testBit_eq
  intro i
  rw [rowsTo_testBit W w8, cellsN_testBit, isB, hW, hH]
  have e1 : (((i % 8 : Nat) : Int) < (W : Int)) ↔ i % 8 < W := by omega
  have e2 : (((i / 8 : Nat) : Int) < (H : Int)) ↔ i / 8 < H := by omega
  by_cases h1 : i < 8 * H
  · have h2 : i < 64 := by omega
    have h3 : i / 8 < H := by omega
    simp only [e1, e2, h1, h2, h3, decide_true, Bool.true_and, Bool.and_true]
  · by_cases h2 : i < 64
    · have h3 : ¬ i / 8 < H := by omega
      simp only [e1, e2, h1, h2, h3, decide_false, Bool.false_and, Bool.and_false, decide_true]
    · simp only [h1, h2, decide_false, Bool.false_and]

theorem row_val (W k x : Nat) (hW : W ≤ 8) (hk : k < 8) (hx : x < 18446744073709551616) :
    bits BinOp.or IntKind.u64 (x : Int) (IntKind.u64.wrap (IntKind.u64.wrap (IntKind.u64.wrap (2 ^ W) - 1) * 2 ^ (8 * k))) = ((x ||| ((2 ^ W - 1) * 2 ^ (8 * k)) : Nat) : Int) := by
  rw [wrap_pow W (by omega)]
  have hp := Nat.two_pow_pos W
  have h1 : 2 ^ W ≤ 2 ^ 8 := Nat.pow_le_pow_right (by decide) hW
  have e1 : IntKind.u64.wrap (((2 ^ W : Nat) : Int) - 1) = ((2 ^ W - 1 : Nat) : Int) := by
    rw [IntKind.wrap_u64]
    generalize 2 ^ W = n at hp h1
    omega
  rw [e1]
  have h2 := row_lt W k hW hk
  have e2 : ((2 ^ W - 1 : Nat) : Int) * 2 ^ (8 * k) = (((2 ^ W - 1) * 2 ^ (8 * k) : Nat) : Int) := by
    rw [Int.natCast_mul, Int.natCast_pow]; rfl
  rw [e2]
  have e3 : IntKind.u64.wrap ((((2 ^ W - 1) * 2 ^ (8 * k) : Nat)) : Int) = (((2 ^ W - 1) * 2 ^ (8 * k) : Nat) : Int) := by
    rw [IntKind.wrap_u64]
    generalize (2 ^ W - 1) * 2 ^ (8 * k) = n at h2
    have : n < 18446744073709551616 := by simpa using h2
    omega
  rw [e3]
  exact bits_or_u64_nat x _ hx (by simpa using h2)

set_option maxRecDepth 100000 in
theorem cells_any (G : Gd) (W H : Nat) (hW : G.wide = W) (hH : G.high = H) (w8 : W ≤ 8) (h8 : H ≤ 8) (p : Nat) (w : World) (hp : GrdAt w p 0 G) :
    Calls Tryd.prog 36 #[.pointer (some ⟨p, 0, none⟩)] w fun e w' => e = .returned (.int .u64 (cellsN G)) ∧ w = w' := by
  have R := Lib.hid (rows_cells G W H hW hH w8 h8)
  have a0 := hp.wide; have a1 := hp.high
  rw [Nat.zero_add] at a1
  rw [hW] at a0
  rw [hH] at a1
  clear hp hW hH
  go_enter Tryd.func36, Tryd.ntmps36
  go_wp2
  go_loop [4, 16] (fun m i => ∃ k : Nat, k ≤ H ∧ i = .int .i8 k ∧ m = .int .u64 (rowsTo W k)) (fun _ i => H - (intOf i).toNat)
  case atStart => exact ⟨0, by omega, rfl, rfl⟩
  case round =>
    obtain ⟨k, hk, rfl, rfl⟩ := hrel
    by_cases hlt : k < H
    · have V := Lib.hid (row_val W k (rowsTo W k) w8 (by omega) (rowsTo_lt W w8 k (by omega)))
      go_wp2
      go_round
      case rel => exact ⟨k + 1, by omega, by go_num, by rw [V.out]; rfl⟩
      case measure => simp [intOf]; omega
    · obtain rfl : k = H := by omega
      go_wp2
      go_ret
      exact ⟨by rw [← R.out]; rfl, rfl⟩
end

section
open Go.RowKit Go.Shelf
attribute [local go_sem] Oper.semAt_some run_store_float
set_option linter.unusedSimpArgs false

/-- A block that holds an array and may be written. -/
structure RowAt (W : World) (b : Nat) (f : Nat → Nat) : Prop where
  range : W.rangeAt b 0 (Fld f).toList
  there : W.there b 0 64
theorem RowAt.cell {W : World} {b : Nat} {f : Nat → Nat} (h : RowAt W b f) (i : Nat) (hi : i < 64) : W.cell? ⟨b, i, none⟩ = some (.float .f32 (f i)) := by
  have := Grd_fld h.range i hi
  rwa [Nat.zero_add] at this
theorem RowAt.free {W : World} {b : Nat} {f : Nat → Nat} (h : RowAt W b f) (i : Nat) (hi : i < 64) : W.frozen? ⟨b, i, none⟩ = false := by
  have := (h.there i hi).2
  rwa [Nat.zero_add] at this
theorem rowAt_mk {W : World} {b : Nat} {f : Nat → Nat} (h1 : ∀ i, i < 64 → W.cell? ⟨b, i, none⟩ = some (.float .f32 (f i))) (h2 : ∀ i, i < 64 → W.frozen? ⟨b, i, none⟩ = false) : RowAt W b f :=
  ⟨fun j v hv => by
      have hj : j < 64 := by have := (List.getElem?_eq_some_iff.1 hv).1; rwa [Fld_length] at this
      rw [Nat.zero_add, h1 j hj, ← Fld_at f j hj]
      simpa using hv,
   fun j hj => by rw [Nat.zero_add, h1 j hj]; exact ⟨rfl, h2 j hj⟩⟩
theorem RowAt.kept {W W' : World} {row : Option Nat} {b : Nat} {f : Nat → Nat} (h : RowAt W b f) (hg : W.grownBy W' row) (hr : ∀ r, row = some r → ∃ o : Obj, W.heap[r]? = some o ∧ o.isCells = false) : RowAt W' b f :=
  rowAt_mk (fun i hi => cell_kept (h.cell i hi) hg hr) (fun i hi => (frozen_kept (h.cell i hi) hg hr).trans (h.free i hi))
theorem RowAt.below {n : Nat} {W W' : World} {b : Nat} {f : Nat → Nat} (h : RowAt W b f) (hb : Below n W W') (hn : b < n) : RowAt W' b f :=
  rowAt_mk (fun i hi => (hb.cell (p := ⟨b, i, none⟩) hn).trans (h.cell i hi)) (fun i hi => (hb.frozen (p := ⟨b, i, none⟩) hn).trans (h.free i hi))
theorem RowAt.put {W : World} {b : Nat} {f : Nat → Nat} (h : RowAt W b f) (k x : Nat) (hk : k < 64) : RowAt (W.setCell ⟨b, k, none⟩ (.float .f32 x)) b (fun i => if i = k then x else f i) :=
  rowAt_mk (fun i hi => by
      by_cases e : i = k
      · subst e
        rw [World.cell?_setCell_same _ _ _ (h.cell i hi), if_pos rfl]
      · rw [World.cell?_setCell_other _ _ _ _ (fun h => e (by injection h with _ h2 _; exact h2.symm)), if_neg e]
        exact h.cell i hi)
    (fun i hi => by rw [World.frozen?_setCell]; exact h.free i hi)
theorem RowAt.far {W : World} {b b' : Nat} {f : Nat → Nat} (h : RowAt W b f) (k : Nat) (v : Value) (hne : b' ≠ b) : RowAt (W.setCell ⟨b', k, none⟩ v) b f :=
  rowAt_mk (fun i hi => by rw [World.cell?_setCell_other _ _ _ _ (fun h => hne (by injection h))]; exact h.cell i hi)
    (fun i hi => by rw [World.frozen?_setCell]; exact h.free i hi)
theorem RowAt.congr {W : World} {b : Nat} {f g : Nat → Nat} (h : RowAt W b f) (e : ∀ i, i < 64 → f i = g i) : RowAt W b g :=
  rowAt_mk (fun i hi => by rw [h.cell i hi, e i hi]) (fun i hi => h.free i hi)

/-- A field without the numbers of a list. -/
def strike (f : Nat → Nat) (l : List Nat) (i : Nat) : Nat := if i ∈ l then 0 else f i
/-- A field without the numbers of a mask. -/
def outF (f : Nat → Nat) (m i : Nat) : Nat := if m.testBit i = true then 0 else f i
theorem strike_bits {f : Nat → Nat} {m i : Nat} (h : i < 64) : strike f (bitsL m) i = outF f m i := by
  simp [strike, outF, mem_bitsL, h]

/-- Three blocks, one behind the other. -/
theorem three_blocks (f : Nat → Nat) (m : Nat) (t u v : TypeId) (w : World) : ∃ W, ((w.alloc (.cells (Fld f) t)).alloc (.cells (Fld zf) u)).alloc (.cells #[.int .u64 m] v) = W ∧ W.heap.size = w.heap.size + 3 ∧
    RowAt W w.heap.size f ∧ RowAt W (w.heap.size + 1) zf ∧ W.cell? ⟨w.heap.size + 1 + 1, 0, none⟩ = some (.int .u64 m) ∧ Below w.heap.size w W := by
  obtain ⟨W1, hW1⟩ : ∃ W1, w.alloc (.cells (Fld f) t) = W1 := ⟨_, rfl⟩
  obtain ⟨W2, hW2⟩ : ∃ W2, W1.alloc (.cells (Fld zf) u) = W2 := ⟨_, rfl⟩
  have z1 : W1.heap.size = w.heap.size + 1 := by rw [← hW1]; simp
  have z2 : W2.heap.size = w.heap.size + 1 + 1 := by rw [← hW2]; simp [z1]
  have b1 : Below w.heap.size w W1 := by rw [← hW1]; exact (Below.refl _ _).alloc (Nat.le_refl _) _
  have b2 : Below w.heap.size w W2 := by rw [← hW2]; exact b1.alloc (by omega) _
  have r1 : RowAt W1 w.heap.size f := by
    rw [← hW1]
    exact ⟨rangeAt_row (heap_alloc_last w _), there_row (heap_alloc_last w _) (Fld_size f)⟩
  have r2 : RowAt W2 (w.heap.size + 1) zf := by
    rw [← hW2, ← z1]
    exact ⟨rangeAt_row (heap_alloc_last W1 _), there_row (heap_alloc_last W1 _) (Fld_size zf)⟩
  have e12 : Below W1.heap.size W1 W2 := by rw [← hW2]; exact (Below.refl _ _).alloc (Nat.le_refl _) _
  have e23 : Below W2.heap.size W2 (W2.alloc (.cells #[.int .u64 m] v)) := (Below.refl _ _).alloc (Nat.le_refl _) _
  rw [hW1, hW2]
  refine ⟨_, rfl, by simp [z2], (r1.below e12 (by omega)).below e23 (by omega), r2.below e23 (by omega), ?_, b2.alloc (by omega) _⟩
  have := cell_of_row (W2.alloc (.cells #[.int .u64 m] v)) W2.heap.size 0 _ _ _ (heap_alloc_last W2 _)
  rw [z2] at this
  exact this

theorem heap_setCells_other {b k : Nat} (vs : List Value) (h : k ≠ b) : ∀ {o : Nat} {W : World}, (W.setCells b o vs).heap[k]? = W.heap[k]? := by
  induction vs with
  | nil => intro o W; rfl
  | cons v r ih => intro o W; rw [World.setCells, ih, heap_setCell_other _ _ _ _ h]
theorem range_put {W : World} {D b o : Nat} {cs : List Value} {x : Obj} (hD : W.heap[D]? = some (.deferred (some []))) (h : W.rangeAt b o cs) : (W.putObj D x).rangeAt b o cs :=
  fun j v hv => cell_kept (h j v hv) (grownBy_putObj' _ D x) (fun r e => by cases e; exact ⟨_, hD, rfl⟩)

set_option maxRecDepth 100000 in
set_option maxHeartbeats 4000000 in
theorem outside_any (f : Nat → Nat) (m : Nat) (hm : m < 18446744073709551616) (w : World) (hT : TabAt w) (hg : 0 < w.heap.size) :
    Calls Tryd.prog 58 #[.agg (Fld f), .int .u64 m] w fun e w' => e = .returned (.agg (Fld (outF f m))) ∧ Below w.heap.size w w' := by
  refine (callsIn_wide (n := 6)).1 (callsIn_of_wp_marks Tryd.func58 rfl trivial ?_ rfl)
  simp only [Tryd.ntmps58, List.size_toArray, List.length_cons, List.length_nil, Nat.reduceAdd, Nat.reduceSub, Array.replicate_succ, Array.replicate_zero, List.push_toArray, List.append_toArray, List.nil_append, List.cons_append]
  refine wpIn_wide.2 ?_
  go_wp2_with (go_at_call 30; refine (bitsIn_any m _).mono ?_; rintro e w' ⟨rfl, rfl⟩)
  refine wp_world (w' := ((w.alloc (.cells (Fld f) 30)).alloc (.cells (Fld zf) 30)).alloc (.cells #[.int .u64 m] 25)) rfl ?_
  obtain ⟨W0, hW0, hz, r1, r2, hc, hB0⟩ := three_blocks f m 30 30 25 w
  rw [hW0]
  clear hW0
  have hT0 := hT.below hB0 hg
  refine (wpIn_wide (n := 6)).1 (wpIn_rangeFunc_ownF rfl (by omega) (gf := 59) (lb := #[.pointer (some ⟨w.heap.size + 1 + 1, 0, none⟩)]) rfl trivial (enters_of Tryd.func59 (by kernel_rfl) rfl)
    (bits_stops m hm 5 (by omega) (w.heap.size + 1 + 1) w.heap.size W0 (by omega) hg (by omega) hc hT0) belowK_t (belowK_b (by omega)) (Below.refl _ _) (fun _ => rfl)
    (fun pre W => (RowAt W w.heap.size (strike f (pre.map (·.1))) ∧ RowAt W (w.heap.size + 1) zf) ∧ Below w.heap.size w W)
    (fun _ _ _ => False)
    (OwnFrom.and (Own.from (fun s A B row hs hg hr => ⟨hs.1.kept hg hr, hs.2.kept hg hr⟩) _) (ownFrom_below (Nat.le_refl _) (by omega)))
    (fun _ _ _ _ _ hs _ _ => hs)
    ⟨⟨r1.congr (fun i _ => by simp [strike]), r2⟩, hB0⟩
    (fun x => { tmps := #[.agg (Fld f), .int .u64 m, .pointer (some ⟨w.heap.size, 0, none⟩), undef, .pointer (some ⟨w.heap.size + 1, 0, none⟩), .int .i64 x.1, .int .u64 m, .func (.func 59) #[] #[.pointer (some ⟨w.heap.size + 1 + 1, 0, none⟩)], .int .i64 x.1, undef, undef, undef], defers := [] })
    ?assign ?body ?done ?stop)
  case assign =>
    intro l x W K hK
    dsimp only [encB]
    gi_wp2
    exact hK
  case body =>
    rintro l pre x W ⟨⟨h1, h2⟩, hB⟩ _
    have hx64 : x.1 < 64 := (mem_bitsL.1 x.2).1
    have c1 := h1.cell x.1 hx64
    have f1 := h1.free x.1 hx64
    gi_wp2
    refine ⟨KeepsOthers.setCell _ _ _, (Below.refl _ _).setCell (p := ⟨w.heap.size, x.1, none⟩) (Nat.le_refl _) _, ⟨(h1.put x.1 0 hx64).congr (fun i hi => ?_), h2.far _ _ (by omega)⟩, hB.setCell (p := ⟨w.heap.size, x.1, none⟩) (Nat.le_refl _) _⟩
    by_cases e : i = x.1
    · simp [strike, e]
    · simp only [e, if_false, strike, List.map_append, List.map_cons, List.map_nil, List.mem_append, List.mem_singleton, or_false]
  case done =>
    rintro D ys W hD hys ⟨⟨h1, h2⟩, hB⟩ hK
    have h1' : RowAt W w.heap.size (outF f m) := h1.congr (fun i hi => by rw [hys]; exact strike_bits hi)
    have ht : W.there (w.heap.size + 1) 0 (Fld (outF f m)).size := by rw [Fld_size]; exact h2.there
    have hr := h1'.range
    clear h1
    go_wp2_with (first | (refine wpList_load_mid rfl 30 _ rfl _ 0 rfl (Fld (outF f m)).toList _ hr Tryd.underlying30 rfl (by rw [Fld_length]; exact infoField) ?_) | (refine wpList_store_mid rfl 30 _ _ rfl _ 0 (Fld (outF f m)) rfl rfl ht (by rw [Fld_size]; exact infoField) (Fld_one _) ?_))
    have hK1 : (W.setCells (w.heap.size + 1) 0 (Fld (outF f m)).toList).heap[D]? = some (.deferred (some [])) := by rw [heap_setCells_other _ (by omega)]; exact hK
    have hr1 := World.rangeAt_setCells_same W (w.heap.size + 1) 0 (Fld (outF f m)).toList (by rw [Fld_length]; exact h2.there)
    have hb1 := below_setCells (w.heap.size + 1) (by omega) (Fld (outF f m)).toList 0 W hB
    refine ⟨by simp, .inl ⟨_, _, rfl, run_takeDeferred hK1, ?_⟩⟩
    refine ⟨_, results_cell_mid rfl _ _ _ 0 (Fld (outF f m)).toList _ rfl (range_put hK1 hr1) Tryd.underlying30 rfl (by rw [Fld_length]; exact infoField), by rw [Array.toArray_toList], hb1.trans (belowK_b (w := w) (Nat.le_refl _) _ D _ _ (by omega) hK1 rfl rfl)⟩
  case stop =>
    rintro D c pre W _ _ h _
    exact h.elim
end

section
open Go.RowKit Go.Shelf
attribute [local go_sem] Oper.semAt_some run_store_float
set_option linter.unusedSimpArgs false

def extN (n : Int) : Bool := decide (2 ≤ n) && decide (n ≤ 8)
theorem isExtent_is (n : Int) (r : Bool) (h : extN n = r) (w : World) : Calls Tryd.prog 55 #[.int .i64 n] w fun e w' => e = .returned (.bool r) ∧ w = w' := by
  subst h
  go_enter Tryd.func55, Tryd.ntmps55
  go_wp2
  all_goals (go_ret; refine ⟨ret_bool ?_, rfl⟩)
  all_goals (rename_i h; simp [extN, h])
  all_goals omega

/-- A ground's box and a bool behind it. -/
theorem vg_two (G : Gd) (t u : TypeId) (w : World) : ∃ W, (w.alloc (.cells (Grd G) t)).alloc (.cells #[.bool false] u) = W ∧ W.heap.size = w.heap.size + 1 + 1 ∧ GrdAt W w.heap.size 0 G ∧
    W.cell? ⟨w.heap.size + 1, 0, none⟩ = some (.bool false) ∧ W.frozen? ⟨w.heap.size + 1, 0, none⟩ = false ∧ Below w.heap.size w W := by
  obtain ⟨W, hW, hz, h1, h2, hb⟩ := two_boxes (Grd G) #[.bool false] t u w
  have hl := heap_alloc_last (w.alloc (.cells (Grd G) t)) (.cells #[.bool false] u)
  rw [hW, show (w.alloc (.cells (Grd G) t)).heap.size = w.heap.size + 1 by simp] at hl
  exact ⟨W, hW, hz, grdAt h1, h2 0 _ rfl, (there_row (n := 1) hl rfl 0 (by omega)).2, hb⟩

theorem results_cell_bool {P : Program} {fn : Func} {p : Tmp} {ty : TypeId} (h : fn.results = #[.cell p ty]) (hu : P.underlying ty = some .bool) (tmps : Array Value) (w : World) (b o : Nat) (x : Bool)
    (hp : tmps.getD p undef = .pointer (some ⟨b, o, none⟩)) (hc : w.cell? ⟨b, o, none⟩ = some (.bool x)) : (results fn tmps).run P w = .ok (.bool x) w := by
  have hp' : tmps[p]?.getD undef = .pointer (some ⟨b, o, none⟩) := by simpa using hp
  simp [results, h, hp', asAddr, isAgg, run_underlying hu, go_sem, hc]

set_option maxRecDepth 100000 in
set_option maxHeartbeats 1000000 in
theorem vg_w (G : Gd) (w : World) (hG : GdOk G) (e : extN G.wide = false) :
    Calls Tryd.prog 29 #[.agg (Grd G)] w fun e w' => e = .returned (.bool false) ∧ Below w.heap.size w w' := by
  obtain ⟨k0, k0'⟩ := hG.wide'
  go_enter Tryd.func29, Tryd.ntmps29
  go_upto_region 1 with (fail)
  obtain ⟨W, hW, hz, hg, hc, hf, hB⟩ := vg_two G 32 4 w
  rw [hW]
  clear hW
  have a0 := hg.wide
  have E := Lib.hid e
  clear e hG hg
  go_wp2_with (go_at_call 55; refine (isExtent_is _ false E.out _).mono ?_; rintro e w' ⟨rfl, rfl⟩)
  refine bodyPost_ret (results_cell_bool rfl Tryd.underlying4 _ _ _ 0 false rfl ?_) rfl ⟨rfl, ?_⟩
  · exact World.cell?_setCell_same' _ _ _ (by rw [hc]; rfl)
  · exact hB.setCell (p := ⟨w.heap.size + 1, 0, none⟩) (by simp) _

set_option maxRecDepth 100000 in
set_option maxHeartbeats 1000000 in
theorem vg_h (G : Gd) (w : World) (hG : GdOk G) (e0 : extN G.wide = true) (e : extN G.high = false) :
    Calls Tryd.prog 29 #[.agg (Grd G)] w fun e w' => e = .returned (.bool false) ∧ Below w.heap.size w w' := by
  obtain ⟨k0, k0'⟩ := hG.wide'
  obtain ⟨k1, k1'⟩ := hG.high'
  go_enter Tryd.func29, Tryd.ntmps29
  go_upto_region 1 with (fail)
  obtain ⟨W, hW, hz, hg, hc, hf, hB⟩ := vg_two G 32 4 w
  rw [hW]
  clear hW
  have a0 := hg.wide; have a1 := hg.high
  rw [Nat.zero_add] at a1
  have E := Lib.hid e
  have E0 := Lib.hid e0
  have tk0 : True := trivial
  clear e e0 hG hg
  go_wp2_with (first | (have _t := tk0; go_at_call 55; refine (isExtent_is _ true E0.out _).mono ?_; rintro e w' ⟨rfl, rfl⟩; clear tk0) | (go_at_call 55; refine (isExtent_is _ false E.out _).mono ?_; rintro e w' ⟨rfl, rfl⟩))
  refine bodyPost_ret (results_cell_bool rfl Tryd.underlying4 _ _ _ 0 false rfl ?_) rfl ⟨rfl, ?_⟩
  · exact World.cell?_setCell_same' _ _ _ (by rw [hc]; rfl)
  · exact hB.setCell (p := ⟨w.heap.size + 1, 0, none⟩) (by simp) _

set_option maxRecDepth 100000 in
set_option maxHeartbeats 1000000 in
theorem vg_x (G : Gd) (Wn Hn : Nat) (hWn : G.wide = Wn) (hHn : G.high = Hn) (w8 : Wn ≤ 8) (h8 : Hn ≤ 8) (w : World) (hG : GdOk G) (e0 : extN G.wide = true) (e : extN G.high = true) (ex : ((G.x != 0) && fixB G) = false) :
    Calls Tryd.prog 29 #[.agg (Grd G)] w fun e w' => e = .returned (.bool false) ∧ Below w.heap.size w w' := by
  obtain ⟨k0, k0'⟩ := hG.wide'
  obtain ⟨k1, k1'⟩ := hG.high'
  have x' := hG.x'
  go_enter Tryd.func29, Tryd.ntmps29
  go_upto_region 1 with (fail)
  obtain ⟨W, hW, hz, hg, hc, hf, hB⟩ := vg_two G 32 4 w
  rw [hW]
  clear hW
  have a0 := hg.wide; have a1 := hg.high; have a2 := hg.x
  rw [Nat.zero_add] at a1 a2
  have E := Lib.hid e
  have E0 := Lib.hid e0
  have tk0 : True := trivial
  have Hg := Lib.hid hg
  have HW := Lib.hid hWn
  have HH := Lib.hid hHn
  clear e e0 hG hg hWn hHn
  cases hx : (G.x != 0)
  · have ex : (G.x == 0) = true := by simpa [bne] using hx
    clear hx
    go_wp2_with (first | (have _t := tk0; go_at_call 55; refine (isExtent_is _ true E0.out _).mono ?_; rintro e w' ⟨rfl, rfl⟩; clear tk0) | (go_at_call 55; refine (isExtent_is _ true E.out _).mono ?_; rintro e w' ⟨rfl, rfl⟩) | (go_at_call 36; refine (cells_any G Wn Hn HW.out HH.out w8 h8 _ _ Hg.out).mono ?_; rintro e w' ⟨rfl, rfl⟩))
    refine bodyPost_ret (results_cell_bool rfl Tryd.underlying4 _ _ _ 0 false rfl ?_) rfl ⟨rfl, ?_⟩
    · exact World.cell?_setCell_same' _ _ _ (by rw [hc]; rfl)
    · exact hB.setCell (p := ⟨w.heap.size + 1, 0, none⟩) (by simp) _
  · have e1 : (G.x == 0) = false := by simpa [bne] using hx
    have e2 : (bits .andNot .u64 G.x (cellsN G) == 0) = false := by simpa [hx, fixB] using ex
    clear hx ex
    have e3 : (bits .andNot .u64 G.x (cellsN G) != 0) = true := by simp only [bne, e2]; rfl
    go_wp2_with (first | (have _t := tk0; go_at_call 55; refine (isExtent_is _ true E0.out _).mono ?_; rintro e w' ⟨rfl, rfl⟩; clear tk0) | (go_at_call 55; refine (isExtent_is _ true E.out _).mono ?_; rintro e w' ⟨rfl, rfl⟩) | (go_at_call 36; refine (cells_any G Wn Hn HW.out HH.out w8 h8 _ _ Hg.out).mono ?_; rintro e w' ⟨rfl, rfl⟩))
    refine bodyPost_ret (results_cell_bool rfl Tryd.underlying4 _ _ _ 0 false rfl ?_) rfl ⟨rfl, ?_⟩
    · exact World.cell?_setCell_same' _ _ _ (by rw [hc]; rfl)
    · exact hB.setCell (p := ⟨w.heap.size + 1, 0, none⟩) (by simp) _

/-- A cell's numbers are as they must be. -/
def cellOk (G : Gd) (i : Nat) : Bool := plainB (G.c i) && (!negB (G.c i) && (plainB (G.g i) && plainB (G.h i)))

/-- A ground's box, a bool and a mask. -/
theorem vg_three (w : World) (G : Gd) (m : Nat) (v : TypeId) (n : Nat) {W : World} (hz : W.heap.size = n + 1 + 1) (hg : GrdAt W n 0 G) (hc : W.cell? ⟨n + 1, 0, none⟩ = some (.bool false)) (hf : W.frozen? ⟨n + 1, 0, none⟩ = false) (hB : Below n w W) : ∃ V, W.alloc (.cells #[.int .u64 m] v) = V ∧ V.heap.size = n + 1 + 1 + 1 ∧ GrdAt V n 0 G ∧
    V.cell? ⟨n + 1, 0, none⟩ = some (.bool false) ∧ V.frozen? ⟨n + 1, 0, none⟩ = false ∧ V.cell? ⟨n + 1 + 1, 0, none⟩ = some (.int .u64 m) ∧ Below n w V := by
  have b : Below W.heap.size W (W.alloc (.cells #[.int .u64 m] v)) := (Below.refl _ _).alloc (Nat.le_refl _) _
  have hl := cell_of_row (W.alloc (.cells #[.int .u64 m] v)) W.heap.size 0 _ _ _ (heap_alloc_last W _)
  rw [hz] at hl
  exact ⟨_, rfl, by simp [hz], hg.below b (by omega), (b.cell (p := ⟨n + 1, 0, none⟩) (by simp; omega)).trans hc, (b.frozen (p := ⟨n + 1, 0, none⟩) (by simp; omega)).trans hf, hl, hB.alloc (by omega) _⟩

theorem grd_own {W W' : World} {row : Option Nat} {b o : Nat} {G : Gd} (h : GrdAt W b o G) (hg : W.grownBy W' row) (hr : ∀ r, row = some r → ∃ o : Obj, W.heap[r]? = some o ∧ o.isCells = false) : GrdAt W' b o G :=
  ⟨cell_kept h.wide hg hr, cell_kept h.high hg hr, fun j v hv => cell_kept (h.c j v hv) hg hr, fun j v hv => cell_kept (h.g j v hv) hg hr, fun j v hv => cell_kept (h.h j v hv) hg hr, cell_kept h.x hg hr⟩

/-- A store of a bool where a cell is there. -/
theorem run_store_there {P : Program} {w : World} {b o : Nat} (h : w.there b o 1) (x : Bool) (m : Mode) : (store ⟨b, o, none⟩ (.bool x) m).run P w = .ok () (w.setCell ⟨b, o, none⟩ (.bool x)) := by
  obtain ⟨h1, h2⟩ := h 0 (by omega)
  rw [Nat.add_zero] at h1 h2
  obtain ⟨u, hu⟩ := Option.isSome_iff_exists.1 h1
  rw [run_store_bool, stored, hu, h2]
  rfl

/-- What is known of the world besides the fields, while the last statement of ValidGround is carried out. -/
structure VgR (w : World) (n N D : Nat) (w' : World) : Prop where
  below : Below n w w'
  dl : w'.heap[D]? = some (.deferred (some []))
  n1 : n + 1 < w'.heap.size
  nN : N < w'.heap.size
theorem range_below {n b o : Nat} {W V : World} {cs : List Value} (hc : W.rangeAt b o cs) (h : Below n W V) (hb : b < n) : V.rangeAt b o cs := range_kept hc hb V h
theorem vg_step {w : World} {G : Gd} {n N D : Nat} {a b : World} (h : a.rangeAt n 2 (Fld G.c).toList ∧ a.rangeAt n 66 (Fld G.g).toList ∧ a.rangeAt n 130 (Fld G.h).toList ∧ a.rangeAt N 0 (Fld zf).toList ∧ a.there (n + 1) 0 1 ∧ Hid (VgR w n N D a)) (k : Below a.heap.size a b) :
    b.rangeAt n 2 (Fld G.c).toList ∧ b.rangeAt n 66 (Fld G.g).toList ∧ b.rangeAt n 130 (Fld G.h).toList ∧ b.rangeAt N 0 (Fld zf).toList ∧ b.there (n + 1) 0 1 ∧ Hid (VgR w n N D b) := by
  obtain ⟨h1, h2, h3, h4, h5, h6⟩ := h
  have h6 := h6.out
  have q1 := h6.n1
  have hD : D < a.heap.size := by have := (Array.getElem?_eq_some_iff.1 h6.dl).1; exact this
  exact ⟨range_below h1 k (by omega), range_below h2 k (by omega), range_below h3 k (by omega), range_below h4 k h6.nN, there_below h5 k h6.n1,
    ⟨h6.below.trans (k.mono (by omega)), (k.block D hD).trans h6.dl, by have := k.size; omega, by have := k.size; have := h6.nN; omega⟩⟩
theorem vg_put {w : World} {G : Gd} {n N D : Nat} {a : World} (v : Value) (hN : N ≠ n + 1) (hn : n ≤ n + 1) (hDn : D ≠ n + 1) (h : a.rangeAt n 2 (Fld G.c).toList ∧ a.rangeAt n 66 (Fld G.g).toList ∧ a.rangeAt n 130 (Fld G.h).toList ∧ a.rangeAt N 0 (Fld zf).toList ∧ a.there (n + 1) 0 1 ∧ Hid (VgR w n N D a)) :
    (a.setCell ⟨n + 1, 0, none⟩ v).rangeAt n 2 (Fld G.c).toList ∧ (a.setCell ⟨n + 1, 0, none⟩ v).rangeAt n 66 (Fld G.g).toList ∧ (a.setCell ⟨n + 1, 0, none⟩ v).rangeAt n 130 (Fld G.h).toList ∧ (a.setCell ⟨n + 1, 0, none⟩ v).rangeAt N 0 (Fld zf).toList ∧ (a.setCell ⟨n + 1, 0, none⟩ v).there (n + 1) 0 1 ∧ Hid (VgR w n N D (a.setCell ⟨n + 1, 0, none⟩ v)) := by
  obtain ⟨h1, h2, h3, h4, h5, h6⟩ := h
  have h6 := h6.out
  have far : ∀ {b o : Nat} {cs : List Value}, b ≠ n + 1 → a.rangeAt b o cs → (a.setCell ⟨n + 1, 0, none⟩ v).rangeAt b o cs := fun hb hr j x hx => by
    rw [World.cell?_setCell_other _ _ _ _ (fun e => hb (by injection e with e; exact e.symm))]
    exact hr j x hx
  refine ⟨far (by omega) h1, far (by omega) h2, far (by omega) h3, far hN h4, fun j hj => ?_, ⟨h6.below.setCell (p := ⟨n + 1, 0, none⟩) hn _, ?_, by rw [World.size_setCell]; exact h6.n1, by rw [World.size_setCell]; exact h6.nN⟩⟩
  · have : j = 0 := by omega
    subst this
    refine ⟨?_, by rw [World.frozen?_setCell]; exact (h5 0 hj).2⟩
    rw [Nat.zero_add, World.cell?_setCell_same' _ _ _ (by have := (h5 0 hj).1; rwa [Nat.zero_add] at this)]
    rfl
  · rw [heap_setCell_other _ _ _ _ hDn]; exact h6.dl
theorem size_setCells (b : Nat) : ∀ (vs : List Value) (o : Nat) (w : World), (w.setCells b o vs).heap.size = w.heap.size
  | [], _, _ => rfl
  | v :: r, o, w => by rw [World.setCells, size_setCells b r, World.size_setCell]
theorem vg_nil {w : World} {G : Gd} {n D : Nat} {W : World} (t : TypeId) (hD : W.heap[D]? = some (.deferred (some []))) (hn : n + 1 < W.heap.size) (hg : GrdAt W n 0 G) (hc : W.cell? ⟨n + 1, 0, none⟩ = some (.bool false)) (hf : W.frozen? ⟨n + 1, 0, none⟩ = false) (hB : Below n w W) :
    ∃ U, (W.alloc (.cells (Fld zf) t)).setCells W.heap.size 0 (Fld zf).toList = U ∧
      (U.rangeAt n 2 (Fld G.c).toList ∧ U.rangeAt n 66 (Fld G.g).toList ∧ U.rangeAt n 130 (Fld G.h).toList ∧ U.rangeAt W.heap.size 0 (Fld zf).toList ∧ U.there (n + 1) 0 1 ∧ Hid (VgR w n W.heap.size D U)) := by
  have b1 : Below W.heap.size W ((W.alloc (.cells (Fld zf) t)).setCells W.heap.size 0 (Fld zf).toList) := below_setCells _ (Nat.le_refl _) _ _ _ ((Below.refl _ _).alloc (Nat.le_refl _) _)
  have hDl : D < W.heap.size := (Array.getElem?_eq_some_iff.1 hD).1
  have hz : ((W.alloc (.cells (Fld zf) t)).setCells W.heap.size 0 (Fld zf).toList).heap.size = W.heap.size + 1 := by rw [size_setCells]; simp
  have g2 := hg.below b1 (by omega)
  have tt : W.there (n + 1) 0 1 := fun j hj => by
    have : j = 0 := by omega
    subst this
    exact ⟨by rw [Nat.zero_add, hc]; rfl, hf⟩
  refine ⟨_, rfl, by have := g2.c; rwa [Nat.zero_add] at this, by have := g2.g; rwa [Nat.zero_add] at this, by have := g2.h; rwa [Nat.zero_add] at this, World.rangeAt_setCells_same _ _ _ _ ?_, there_below tt b1 hn, ⟨hB.trans (b1.mono (by omega)), (b1.block D hDl).trans hD, by omega, by omega⟩⟩
  exact there_row (heap_alloc_last W _) (by rw [Fld_length]; rfl)

theorem vg_tab {w : World} {G : Gd} {n N D : Nat} {a : World} (hgl : 0 < n) (hw : TabAt w) (h : a.rangeAt n 2 (Fld G.c).toList ∧ a.rangeAt n 66 (Fld G.g).toList ∧ a.rangeAt n 130 (Fld G.h).toList ∧ a.rangeAt N 0 (Fld zf).toList ∧ a.there (n + 1) 0 1 ∧ Hid (VgR w n N D a)) : TabAt a := hw.below h.2.2.2.2.2.out.below hgl
theorem vg_gl {w : World} {G : Gd} {n N D : Nat} {a : World} (hgl : 0 < n) (h : a.rangeAt n 2 (Fld G.c).toList ∧ a.rangeAt n 66 (Fld G.g).toList ∧ a.rangeAt n 130 (Fld G.h).toList ∧ a.rangeAt N 0 (Fld zf).toList ∧ a.there (n + 1) 0 1 ∧ Hid (VgR w n N D a)) : 0 < a.heap.size := Nat.lt_trans hgl (by have := h.2.2.2.2.2.out.n1; omega)
theorem vg_drew {w : World} {G : Gd} {n N D : Nat} {a : World} (h : a.rangeAt n 2 (Fld G.c).toList ∧ a.rangeAt n 66 (Fld G.g).toList ∧ a.rangeAt n 130 (Fld G.h).toList ∧ a.rangeAt N 0 (Fld zf).toList ∧ a.there (n + 1) 0 1 ∧ Hid (VgR w n N D a)) :
    a.drew.rangeAt n 2 (Fld G.c).toList ∧ a.drew.rangeAt n 66 (Fld G.g).toList ∧ a.drew.rangeAt n 130 (Fld G.h).toList ∧ a.drew.rangeAt N 0 (Fld zf).toList ∧ a.drew.there (n + 1) 0 1 ∧ Hid (VgR w n N D a.drew) :=
  ⟨h.1, h.2.1, h.2.2.1, h.2.2.2.1, h.2.2.2.2.1, ⟨h.2.2.2.2.2.out.below.drew, h.2.2.2.2.2.out.dl, h.2.2.2.2.2.out.n1, h.2.2.2.2.2.out.nN⟩⟩
attribute [local go_sem] eqlFld guard_fld
attribute [local go_sem high] run_store_there

/-- The comparison of two fields, as an operation. -/
theorem run_eql_fld {op : Oper} {a : Act} {x y : Operand} {f g : Nat → Nat} {t : TypeId} (ho : op.op = .binOp .eql 30 x y t) (hx : a.eval x = .agg (Fld f)) (hy : a.eval y = .agg (Fld g)) (w : World) : (execOp a.eval op).run Tryd.prog w = .ok (.value (.bool (eqF f g))) w := by
  unfold execOp
  simp only [ho, hx, hy]
  go_simp

/-- A bool is stored. -/
theorem run_store_op {op : Oper} {a : Act} {x y : Operand} {w : World} {b o : Nat} {v : Bool} (ho : op.op = .store 4 x y) (hx : a.eval x = .pointer (some ⟨b, o, none⟩)) (hy : a.eval y = .bool v) (h : w.there b o 1) :
    (execOp a.eval op).run Tryd.prog w = .ok .skip (w.setCell ⟨b, o, none⟩ (.bool v)) := by
  obtain ⟨h1, h2⟩ := h 0 (by omega)
  rw [Nat.add_zero] at h1 h2
  obtain ⟨u, hu⟩ := Option.isSome_iff_exists.1 h1
  clear h h1
  unfold execOp
  simp only [ho, hx, hy]
  go_simp

set_option maxRecDepth 100000 in
set_option maxHeartbeats 4000000 in
/-- The last statement of ValidGround. -/
theorem vg_region (G : Gd) (w : World) (N D : Nat) (r : Bool) (hR : (eqF (outF G.c (cellsN G)) zf && (eqF (outF G.g (cellsN G)) zf && eqF (outF G.h (cellsN G)) zf)) = r) (m64 : cellsN G < 18446744073709551616)
    (hgl : 0 < w.heap.size) (HT : Hid (TabAt w)) (hDn : D ≠ w.heap.size + 1) (hNn : N ≠ w.heap.size + 1) (hnn : w.heap.size ≤ w.heap.size + 1) (U : World)
    (SU : U.rangeAt w.heap.size 2 (Fld G.c).toList ∧ U.rangeAt w.heap.size 66 (Fld G.g).toList ∧ U.rangeAt w.heap.size 130 (Fld G.h).toList ∧ U.rangeAt N 0 (Fld zf).toList ∧ U.there (w.heap.size + 1) 0 1 ∧ Hid (VgR w w.heap.size N D U)) (Q : Exit → Act → World → Prop) (df : List Deferred)
    (HQ : ∀ a' V, a'.defers = df → a'.tmps.getD 2 undef = .pointer (some ⟨w.heap.size + 1, 0, none⟩) → (V.rangeAt w.heap.size 2 (Fld G.c).toList ∧ V.rangeAt w.heap.size 66 (Fld G.g).toList ∧ V.rangeAt w.heap.size 130 (Fld G.h).toList ∧ V.rangeAt N 0 (Fld zf).toList ∧ V.there (w.heap.size + 1) 0 1 ∧ Hid (VgR w w.heap.size N D V)) → Q .normal a' (V.setCell ⟨w.heap.size + 1, 0, none⟩ (.bool r)))
    (x0 x4 x6 x7 x8 x9 x10 x11 x12 x13 x14 x15 x16 x17 x18 x19 x20 x21 x22 x23 x24 x25 x26 x27 x28 x29 x30 x31 x32 x33 x34 x35 x36 x37 x38 x39 x40 x41 x42 x43 x44 x45 x46 x47 x48 x49 x50 x51 x52 x53 x54 x55 x56 x57 x58 x59 x60 x61 x62 x63 x64 x65 x66 x67 x68 x69 x70 x71 x72 x73 x74 x75 x76 : Value) :
    (Code.region 11 (regOf Tryd.f29 11) true).wp Tryd.prog Q { tmps := #[x0, .pointer (some ⟨w.heap.size, 0, none⟩), .pointer (some ⟨w.heap.size + 1, 0, none⟩), .int .u64 (cellsN G), x4, .pointer (some ⟨N, 0, none⟩), x6, x7, x8, x9, x10, x11, x12, x13, x14, x15, x16, x17, x18, x19, x20, x21, x22, x23, x24, x25, x26, x27, x28, x29, x30, x31, x32, x33, x34, x35, x36, x37, x38, x39, x40, x41, x42, x43, x44, x45, x46, x47, x48, x49, x50, x51, x52, x53, x54, x55, x56, x57, x58, x59, x60, x61, x62, x63, x64, x65, x66, x67, x68, x69, x70, x71, x72, x73, x74, x75, x76], defers := df } U := by
  cases c1 : eqF (outF G.c (cellsN G)) zf
  · have R : false = r := by rw [← hR, c1]; rfl
    refine wp_region_plan (ops' := regOf Tryd.f29 11) (.take 0 (.take 1 (.take 2 (.take 4 (.run 3 (.take 5 (.take 6 (.take 7 (.take 8 (.take 9 (.take 10 (.take 11 (.take 12 (.take 13 (.take 14 (.take 15 (.take 16 (.take 17 (.take 18 (.take 19 (.take 20 (.take 21 (.run 22 .fin))))))))))))))))))))))) (fun w' => w'.rangeAt w.heap.size 2 (Fld G.c).toList ∧ w'.rangeAt w.heap.size 66 (Fld G.g).toList ∧ w'.rangeAt w.heap.size 130 (Fld G.h).toList ∧ w'.rangeAt N 0 (Fld zf).toList ∧ w'.there (w.heap.size + 1) 0 1 ∧ Hid (VgR w w.heap.size N D w')) (by kernel_rfl) (by kernel_rfl) (by kernel_rfl) (by kernel_rfl) (by kernel_rfl) (vg_drew SU) ?_
    have HS := vg_drew SU
    refine plan_pure (some 55) (Value.pointer (some ⟨w.heap.size, 2, none⟩)) (by kernel_rfl) (by kernel_rfl) (by kernel_rfl) (fun _ => by kernel_rfl) ?_
    refine plan_load (some 56) 30 (.tmp 55) (w.heap.size) 2 ((Fld G.c).toList) _ (by kernel_rfl) (by kernel_rfl) (by kernel_rfl) (by kernel_rfl) (by kernel_rfl) (fun _ h => h.1) Tryd.underlying30 rfl (by rw [Fld_length]; exact infoField) ?_
    refine plan_pure (some 57) (Value.int IntKind.u64 (cellsN G)) (by kernel_rfl) (by kernel_rfl) (by kernel_rfl) (fun _ => by kernel_rfl) ?_
    refine plan_load (some 59) 30 (.tmp 5) (N) 0 ((Fld zf).toList) _ (by kernel_rfl) (by kernel_rfl) (by kernel_rfl) (by kernel_rfl) (by kernel_rfl) (fun _ h => h.2.2.2.1) Tryd.underlying30 rfl (by rw [Fld_length]; exact infoField) ?_
    refine plan_call (some 58) 58 #[.agg (Fld G.c), .int .u64 (cellsN G)] (by kernel_rfl) (by kernel_rfl) (by kernel_rfl) (by kernel_rfl) (Calls.mono (outside_any G.c (cellsN G) m64 _ (vg_tab hgl HT.out HS) (vg_gl hgl HS)) ?_)
    rintro e w' ⟨rfl, hb⟩
    refine ⟨_, rfl, vg_step HS hb, ?_⟩
    replace HS := vg_step HS hb
    clear hb
    refine plan_pure (some 60) (Value.bool (eqF (outF G.c (cellsN G)) zf)) (by kernel_rfl) (by kernel_rfl) (by kernel_rfl) (run_eql_fld (x := .tmp 58) (y := .tmp 59) (t := 30) (by kernel_rfl) (by kernel_rfl) (by kernel_rfl)) ?_
    rw [c1]
    refine plan_pure (some 61) (Value.bool false) (by kernel_rfl) (by kernel_rfl) (by kernel_rfl) (fun _ => by kernel_rfl) ?_
    refine plan_skip (some 62) (by kernel_rfl) (by kernel_rfl) (by kernel_rfl) ?_
    refine plan_skip (some 63) (by kernel_rfl) (by kernel_rfl) (by kernel_rfl) ?_
    refine plan_skip (some 64) (by kernel_rfl) (by kernel_rfl) (by kernel_rfl) ?_
    refine plan_skip (some 65) (by kernel_rfl) (by kernel_rfl) (by kernel_rfl) ?_
    refine plan_skip (some 66) (by kernel_rfl) (by kernel_rfl) (by kernel_rfl) ?_
    refine plan_skip (some 67) (by kernel_rfl) (by kernel_rfl) (by kernel_rfl) ?_
    refine plan_pure (some 68) (Value.bool false) (by kernel_rfl) (by kernel_rfl) (by kernel_rfl) (fun _ => by kernel_rfl) ?_
    refine plan_pure (some 69) (Value.bool false) (by kernel_rfl) (by kernel_rfl) (by kernel_rfl) (fun _ => by kernel_rfl) ?_
    refine plan_skip (some 70) (by kernel_rfl) (by kernel_rfl) (by kernel_rfl) ?_
    refine plan_skip (some 71) (by kernel_rfl) (by kernel_rfl) (by kernel_rfl) ?_
    refine plan_skip (some 72) (by kernel_rfl) (by kernel_rfl) (by kernel_rfl) ?_
    refine plan_skip (some 73) (by kernel_rfl) (by kernel_rfl) (by kernel_rfl) ?_
    refine plan_skip (some 74) (by kernel_rfl) (by kernel_rfl) (by kernel_rfl) ?_
    refine plan_skip (some 75) (by kernel_rfl) (by kernel_rfl) (by kernel_rfl) ?_
    refine plan_pure (some 76) (Value.bool false) (by kernel_rfl) (by kernel_rfl) (by kernel_rfl) (fun _ => by kernel_rfl) ?_
    refine plan_do none undef _ (by kernel_rfl) (by kernel_rfl) (by kernel_rfl) (.inr ⟨run_store_op (x := .tmp 2) (y := .tmp 76) (b := w.heap.size + 1) (o := 0) (v := false) (by kernel_rfl) (by kernel_rfl) (by kernel_rfl) HS.2.2.2.2.1, rfl⟩) (vg_put _ hNn hnn hDn HS) ?_
    exact plan_end (NoPanic.normal (R ▸ HQ _ _ (by kernel_rfl) (by kernel_rfl) HS))
  cases c2 : eqF (outF G.g (cellsN G)) zf
  · have R : false = r := by rw [← hR, c1, c2]; rfl
    refine wp_region_plan (ops' := regOf Tryd.f29 11) (.take 0 (.take 1 (.take 2 (.take 4 (.run 3 (.take 5 (.take 6 (.take 7 (.take 8 (.take 9 (.take 11 (.run 10 (.take 12 (.take 13 (.take 14 (.take 15 (.take 16 (.take 17 (.take 18 (.take 19 (.take 20 (.take 21 (.run 22 .fin))))))))))))))))))))))) (fun w' => w'.rangeAt w.heap.size 2 (Fld G.c).toList ∧ w'.rangeAt w.heap.size 66 (Fld G.g).toList ∧ w'.rangeAt w.heap.size 130 (Fld G.h).toList ∧ w'.rangeAt N 0 (Fld zf).toList ∧ w'.there (w.heap.size + 1) 0 1 ∧ Hid (VgR w w.heap.size N D w')) (by kernel_rfl) (by kernel_rfl) (by kernel_rfl) (by kernel_rfl) (by kernel_rfl) (vg_drew SU) ?_
    have HS := vg_drew SU
    refine plan_pure (some 55) (Value.pointer (some ⟨w.heap.size, 2, none⟩)) (by kernel_rfl) (by kernel_rfl) (by kernel_rfl) (fun _ => by kernel_rfl) ?_
    refine plan_load (some 56) 30 (.tmp 55) (w.heap.size) 2 ((Fld G.c).toList) _ (by kernel_rfl) (by kernel_rfl) (by kernel_rfl) (by kernel_rfl) (by kernel_rfl) (fun _ h => h.1) Tryd.underlying30 rfl (by rw [Fld_length]; exact infoField) ?_
    refine plan_pure (some 57) (Value.int IntKind.u64 (cellsN G)) (by kernel_rfl) (by kernel_rfl) (by kernel_rfl) (fun _ => by kernel_rfl) ?_
    refine plan_load (some 59) 30 (.tmp 5) (N) 0 ((Fld zf).toList) _ (by kernel_rfl) (by kernel_rfl) (by kernel_rfl) (by kernel_rfl) (by kernel_rfl) (fun _ h => h.2.2.2.1) Tryd.underlying30 rfl (by rw [Fld_length]; exact infoField) ?_
    refine plan_call (some 58) 58 #[.agg (Fld G.c), .int .u64 (cellsN G)] (by kernel_rfl) (by kernel_rfl) (by kernel_rfl) (by kernel_rfl) (Calls.mono (outside_any G.c (cellsN G) m64 _ (vg_tab hgl HT.out HS) (vg_gl hgl HS)) ?_)
    rintro e w' ⟨rfl, hb⟩
    refine ⟨_, rfl, vg_step HS hb, ?_⟩
    replace HS := vg_step HS hb
    clear hb
    refine plan_pure (some 60) (Value.bool (eqF (outF G.c (cellsN G)) zf)) (by kernel_rfl) (by kernel_rfl) (by kernel_rfl) (run_eql_fld (x := .tmp 58) (y := .tmp 59) (t := 30) (by kernel_rfl) (by kernel_rfl) (by kernel_rfl)) ?_
    rw [c1]
    refine plan_pure (some 61) (Value.bool true) (by kernel_rfl) (by kernel_rfl) (by kernel_rfl) (fun _ => by kernel_rfl) ?_
    refine plan_pure (some 62) (Value.pointer (some ⟨w.heap.size, 66, none⟩)) (by kernel_rfl) (by kernel_rfl) (by kernel_rfl) (fun _ => by kernel_rfl) ?_
    refine plan_load (some 63) 30 (.tmp 62) (w.heap.size) 66 ((Fld G.g).toList) _ (by kernel_rfl) (by kernel_rfl) (by kernel_rfl) (by kernel_rfl) (by kernel_rfl) (fun _ h => h.2.1) Tryd.underlying30 rfl (by rw [Fld_length]; exact infoField) ?_
    refine plan_pure (some 64) (Value.int IntKind.u64 (cellsN G)) (by kernel_rfl) (by kernel_rfl) (by kernel_rfl) (fun _ => by kernel_rfl) ?_
    refine plan_load (some 66) 30 (.tmp 5) (N) 0 ((Fld zf).toList) _ (by kernel_rfl) (by kernel_rfl) (by kernel_rfl) (by kernel_rfl) (by kernel_rfl) (fun _ h => h.2.2.2.1) Tryd.underlying30 rfl (by rw [Fld_length]; exact infoField) ?_
    refine plan_call (some 65) 58 #[.agg (Fld G.g), .int .u64 (cellsN G)] (by kernel_rfl) (by kernel_rfl) (by kernel_rfl) (by kernel_rfl) (Calls.mono (outside_any G.g (cellsN G) m64 _ (vg_tab hgl HT.out HS) (vg_gl hgl HS)) ?_)
    rintro e w' ⟨rfl, hb⟩
    refine ⟨_, rfl, vg_step HS hb, ?_⟩
    replace HS := vg_step HS hb
    clear hb
    refine plan_pure (some 67) (Value.bool (eqF (outF G.g (cellsN G)) zf)) (by kernel_rfl) (by kernel_rfl) (by kernel_rfl) (run_eql_fld (x := .tmp 65) (y := .tmp 66) (t := 30) (by kernel_rfl) (by kernel_rfl) (by kernel_rfl)) ?_
    rw [c2]
    refine plan_pure (some 68) (Value.bool false) (by kernel_rfl) (by kernel_rfl) (by kernel_rfl) (fun _ => by kernel_rfl) ?_
    refine plan_pure (some 69) (Value.bool false) (by kernel_rfl) (by kernel_rfl) (by kernel_rfl) (fun _ => by kernel_rfl) ?_
    refine plan_skip (some 70) (by kernel_rfl) (by kernel_rfl) (by kernel_rfl) ?_
    refine plan_skip (some 71) (by kernel_rfl) (by kernel_rfl) (by kernel_rfl) ?_
    refine plan_skip (some 72) (by kernel_rfl) (by kernel_rfl) (by kernel_rfl) ?_
    refine plan_skip (some 73) (by kernel_rfl) (by kernel_rfl) (by kernel_rfl) ?_
    refine plan_skip (some 74) (by kernel_rfl) (by kernel_rfl) (by kernel_rfl) ?_
    refine plan_skip (some 75) (by kernel_rfl) (by kernel_rfl) (by kernel_rfl) ?_
    refine plan_pure (some 76) (Value.bool false) (by kernel_rfl) (by kernel_rfl) (by kernel_rfl) (fun _ => by kernel_rfl) ?_
    refine plan_do none undef _ (by kernel_rfl) (by kernel_rfl) (by kernel_rfl) (.inr ⟨run_store_op (x := .tmp 2) (y := .tmp 76) (b := w.heap.size + 1) (o := 0) (v := false) (by kernel_rfl) (by kernel_rfl) (by kernel_rfl) HS.2.2.2.2.1, rfl⟩) (vg_put _ hNn hnn hDn HS) ?_
    exact plan_end (NoPanic.normal (R ▸ HQ _ _ (by kernel_rfl) (by kernel_rfl) HS))
  cases c3 : eqF (outF G.h (cellsN G)) zf
  · have R : false = r := by rw [← hR, c1, c2, c3]; rfl
    refine wp_region_plan (ops' := regOf Tryd.f29 11) (.take 0 (.take 1 (.take 2 (.take 4 (.run 3 (.take 5 (.take 6 (.take 7 (.take 8 (.take 9 (.take 11 (.run 10 (.take 12 (.take 13 (.take 14 (.take 15 (.take 16 (.take 17 (.take 19 (.run 18 (.take 20 (.take 21 (.run 22 .fin))))))))))))))))))))))) (fun w' => w'.rangeAt w.heap.size 2 (Fld G.c).toList ∧ w'.rangeAt w.heap.size 66 (Fld G.g).toList ∧ w'.rangeAt w.heap.size 130 (Fld G.h).toList ∧ w'.rangeAt N 0 (Fld zf).toList ∧ w'.there (w.heap.size + 1) 0 1 ∧ Hid (VgR w w.heap.size N D w')) (by kernel_rfl) (by kernel_rfl) (by kernel_rfl) (by kernel_rfl) (by kernel_rfl) (vg_drew SU) ?_
    have HS := vg_drew SU
    refine plan_pure (some 55) (Value.pointer (some ⟨w.heap.size, 2, none⟩)) (by kernel_rfl) (by kernel_rfl) (by kernel_rfl) (fun _ => by kernel_rfl) ?_
    refine plan_load (some 56) 30 (.tmp 55) (w.heap.size) 2 ((Fld G.c).toList) _ (by kernel_rfl) (by kernel_rfl) (by kernel_rfl) (by kernel_rfl) (by kernel_rfl) (fun _ h => h.1) Tryd.underlying30 rfl (by rw [Fld_length]; exact infoField) ?_
    refine plan_pure (some 57) (Value.int IntKind.u64 (cellsN G)) (by kernel_rfl) (by kernel_rfl) (by kernel_rfl) (fun _ => by kernel_rfl) ?_
    refine plan_load (some 59) 30 (.tmp 5) (N) 0 ((Fld zf).toList) _ (by kernel_rfl) (by kernel_rfl) (by kernel_rfl) (by kernel_rfl) (by kernel_rfl) (fun _ h => h.2.2.2.1) Tryd.underlying30 rfl (by rw [Fld_length]; exact infoField) ?_
    refine plan_call (some 58) 58 #[.agg (Fld G.c), .int .u64 (cellsN G)] (by kernel_rfl) (by kernel_rfl) (by kernel_rfl) (by kernel_rfl) (Calls.mono (outside_any G.c (cellsN G) m64 _ (vg_tab hgl HT.out HS) (vg_gl hgl HS)) ?_)
    rintro e w' ⟨rfl, hb⟩
    refine ⟨_, rfl, vg_step HS hb, ?_⟩
    replace HS := vg_step HS hb
    clear hb
    refine plan_pure (some 60) (Value.bool (eqF (outF G.c (cellsN G)) zf)) (by kernel_rfl) (by kernel_rfl) (by kernel_rfl) (run_eql_fld (x := .tmp 58) (y := .tmp 59) (t := 30) (by kernel_rfl) (by kernel_rfl) (by kernel_rfl)) ?_
    rw [c1]
    refine plan_pure (some 61) (Value.bool true) (by kernel_rfl) (by kernel_rfl) (by kernel_rfl) (fun _ => by kernel_rfl) ?_
    refine plan_pure (some 62) (Value.pointer (some ⟨w.heap.size, 66, none⟩)) (by kernel_rfl) (by kernel_rfl) (by kernel_rfl) (fun _ => by kernel_rfl) ?_
    refine plan_load (some 63) 30 (.tmp 62) (w.heap.size) 66 ((Fld G.g).toList) _ (by kernel_rfl) (by kernel_rfl) (by kernel_rfl) (by kernel_rfl) (by kernel_rfl) (fun _ h => h.2.1) Tryd.underlying30 rfl (by rw [Fld_length]; exact infoField) ?_
    refine plan_pure (some 64) (Value.int IntKind.u64 (cellsN G)) (by kernel_rfl) (by kernel_rfl) (by kernel_rfl) (fun _ => by kernel_rfl) ?_
    refine plan_load (some 66) 30 (.tmp 5) (N) 0 ((Fld zf).toList) _ (by kernel_rfl) (by kernel_rfl) (by kernel_rfl) (by kernel_rfl) (by kernel_rfl) (fun _ h => h.2.2.2.1) Tryd.underlying30 rfl (by rw [Fld_length]; exact infoField) ?_
    refine plan_call (some 65) 58 #[.agg (Fld G.g), .int .u64 (cellsN G)] (by kernel_rfl) (by kernel_rfl) (by kernel_rfl) (by kernel_rfl) (Calls.mono (outside_any G.g (cellsN G) m64 _ (vg_tab hgl HT.out HS) (vg_gl hgl HS)) ?_)
    rintro e w' ⟨rfl, hb⟩
    refine ⟨_, rfl, vg_step HS hb, ?_⟩
    replace HS := vg_step HS hb
    clear hb
    refine plan_pure (some 67) (Value.bool (eqF (outF G.g (cellsN G)) zf)) (by kernel_rfl) (by kernel_rfl) (by kernel_rfl) (run_eql_fld (x := .tmp 65) (y := .tmp 66) (t := 30) (by kernel_rfl) (by kernel_rfl) (by kernel_rfl)) ?_
    rw [c2]
    refine plan_pure (some 68) (Value.bool true) (by kernel_rfl) (by kernel_rfl) (by kernel_rfl) (fun _ => by kernel_rfl) ?_
    refine plan_pure (some 69) (Value.bool true) (by kernel_rfl) (by kernel_rfl) (by kernel_rfl) (fun _ => by kernel_rfl) ?_
    refine plan_pure (some 70) (Value.pointer (some ⟨w.heap.size, 130, none⟩)) (by kernel_rfl) (by kernel_rfl) (by kernel_rfl) (fun _ => by kernel_rfl) ?_
    refine plan_load (some 71) 30 (.tmp 70) (w.heap.size) 130 ((Fld G.h).toList) _ (by kernel_rfl) (by kernel_rfl) (by kernel_rfl) (by kernel_rfl) (by kernel_rfl) (fun _ h => h.2.2.1) Tryd.underlying30 rfl (by rw [Fld_length]; exact infoField) ?_
    refine plan_pure (some 72) (Value.int IntKind.u64 (cellsN G)) (by kernel_rfl) (by kernel_rfl) (by kernel_rfl) (fun _ => by kernel_rfl) ?_
    refine plan_load (some 74) 30 (.tmp 5) (N) 0 ((Fld zf).toList) _ (by kernel_rfl) (by kernel_rfl) (by kernel_rfl) (by kernel_rfl) (by kernel_rfl) (fun _ h => h.2.2.2.1) Tryd.underlying30 rfl (by rw [Fld_length]; exact infoField) ?_
    refine plan_call (some 73) 58 #[.agg (Fld G.h), .int .u64 (cellsN G)] (by kernel_rfl) (by kernel_rfl) (by kernel_rfl) (by kernel_rfl) (Calls.mono (outside_any G.h (cellsN G) m64 _ (vg_tab hgl HT.out HS) (vg_gl hgl HS)) ?_)
    rintro e w' ⟨rfl, hb⟩
    refine ⟨_, rfl, vg_step HS hb, ?_⟩
    replace HS := vg_step HS hb
    clear hb
    refine plan_pure (some 75) (Value.bool (eqF (outF G.h (cellsN G)) zf)) (by kernel_rfl) (by kernel_rfl) (by kernel_rfl) (run_eql_fld (x := .tmp 73) (y := .tmp 74) (t := 30) (by kernel_rfl) (by kernel_rfl) (by kernel_rfl)) ?_
    rw [c3]
    refine plan_pure (some 76) (Value.bool false) (by kernel_rfl) (by kernel_rfl) (by kernel_rfl) (fun _ => by kernel_rfl) ?_
    refine plan_do none undef _ (by kernel_rfl) (by kernel_rfl) (by kernel_rfl) (.inr ⟨run_store_op (x := .tmp 2) (y := .tmp 76) (b := w.heap.size + 1) (o := 0) (v := false) (by kernel_rfl) (by kernel_rfl) (by kernel_rfl) HS.2.2.2.2.1, rfl⟩) (vg_put _ hNn hnn hDn HS) ?_
    exact plan_end (NoPanic.normal (R ▸ HQ _ _ (by kernel_rfl) (by kernel_rfl) HS))
  · have R : true = r := by rw [← hR, c1, c2, c3]; rfl
    refine wp_region_plan (ops' := regOf Tryd.f29 11) (.take 0 (.take 1 (.take 2 (.take 4 (.run 3 (.take 5 (.take 6 (.take 7 (.take 8 (.take 9 (.take 11 (.run 10 (.take 12 (.take 13 (.take 14 (.take 15 (.take 16 (.take 17 (.take 19 (.run 18 (.take 20 (.take 21 (.run 22 .fin))))))))))))))))))))))) (fun w' => w'.rangeAt w.heap.size 2 (Fld G.c).toList ∧ w'.rangeAt w.heap.size 66 (Fld G.g).toList ∧ w'.rangeAt w.heap.size 130 (Fld G.h).toList ∧ w'.rangeAt N 0 (Fld zf).toList ∧ w'.there (w.heap.size + 1) 0 1 ∧ Hid (VgR w w.heap.size N D w')) (by kernel_rfl) (by kernel_rfl) (by kernel_rfl) (by kernel_rfl) (by kernel_rfl) (vg_drew SU) ?_
    have HS := vg_drew SU
    refine plan_pure (some 55) (Value.pointer (some ⟨w.heap.size, 2, none⟩)) (by kernel_rfl) (by kernel_rfl) (by kernel_rfl) (fun _ => by kernel_rfl) ?_
    refine plan_load (some 56) 30 (.tmp 55) (w.heap.size) 2 ((Fld G.c).toList) _ (by kernel_rfl) (by kernel_rfl) (by kernel_rfl) (by kernel_rfl) (by kernel_rfl) (fun _ h => h.1) Tryd.underlying30 rfl (by rw [Fld_length]; exact infoField) ?_
    refine plan_pure (some 57) (Value.int IntKind.u64 (cellsN G)) (by kernel_rfl) (by kernel_rfl) (by kernel_rfl) (fun _ => by kernel_rfl) ?_
    refine plan_load (some 59) 30 (.tmp 5) (N) 0 ((Fld zf).toList) _ (by kernel_rfl) (by kernel_rfl) (by kernel_rfl) (by kernel_rfl) (by kernel_rfl) (fun _ h => h.2.2.2.1) Tryd.underlying30 rfl (by rw [Fld_length]; exact infoField) ?_
    refine plan_call (some 58) 58 #[.agg (Fld G.c), .int .u64 (cellsN G)] (by kernel_rfl) (by kernel_rfl) (by kernel_rfl) (by kernel_rfl) (Calls.mono (outside_any G.c (cellsN G) m64 _ (vg_tab hgl HT.out HS) (vg_gl hgl HS)) ?_)
    rintro e w' ⟨rfl, hb⟩
    refine ⟨_, rfl, vg_step HS hb, ?_⟩
    replace HS := vg_step HS hb
    clear hb
    refine plan_pure (some 60) (Value.bool (eqF (outF G.c (cellsN G)) zf)) (by kernel_rfl) (by kernel_rfl) (by kernel_rfl) (run_eql_fld (x := .tmp 58) (y := .tmp 59) (t := 30) (by kernel_rfl) (by kernel_rfl) (by kernel_rfl)) ?_
    rw [c1]
    refine plan_pure (some 61) (Value.bool true) (by kernel_rfl) (by kernel_rfl) (by kernel_rfl) (fun _ => by kernel_rfl) ?_
    refine plan_pure (some 62) (Value.pointer (some ⟨w.heap.size, 66, none⟩)) (by kernel_rfl) (by kernel_rfl) (by kernel_rfl) (fun _ => by kernel_rfl) ?_
    refine plan_load (some 63) 30 (.tmp 62) (w.heap.size) 66 ((Fld G.g).toList) _ (by kernel_rfl) (by kernel_rfl) (by kernel_rfl) (by kernel_rfl) (by kernel_rfl) (fun _ h => h.2.1) Tryd.underlying30 rfl (by rw [Fld_length]; exact infoField) ?_
    refine plan_pure (some 64) (Value.int IntKind.u64 (cellsN G)) (by kernel_rfl) (by kernel_rfl) (by kernel_rfl) (fun _ => by kernel_rfl) ?_
    refine plan_load (some 66) 30 (.tmp 5) (N) 0 ((Fld zf).toList) _ (by kernel_rfl) (by kernel_rfl) (by kernel_rfl) (by kernel_rfl) (by kernel_rfl) (fun _ h => h.2.2.2.1) Tryd.underlying30 rfl (by rw [Fld_length]; exact infoField) ?_
    refine plan_call (some 65) 58 #[.agg (Fld G.g), .int .u64 (cellsN G)] (by kernel_rfl) (by kernel_rfl) (by kernel_rfl) (by kernel_rfl) (Calls.mono (outside_any G.g (cellsN G) m64 _ (vg_tab hgl HT.out HS) (vg_gl hgl HS)) ?_)
    rintro e w' ⟨rfl, hb⟩
    refine ⟨_, rfl, vg_step HS hb, ?_⟩
    replace HS := vg_step HS hb
    clear hb
    refine plan_pure (some 67) (Value.bool (eqF (outF G.g (cellsN G)) zf)) (by kernel_rfl) (by kernel_rfl) (by kernel_rfl) (run_eql_fld (x := .tmp 65) (y := .tmp 66) (t := 30) (by kernel_rfl) (by kernel_rfl) (by kernel_rfl)) ?_
    rw [c2]
    refine plan_pure (some 68) (Value.bool true) (by kernel_rfl) (by kernel_rfl) (by kernel_rfl) (fun _ => by kernel_rfl) ?_
    refine plan_pure (some 69) (Value.bool true) (by kernel_rfl) (by kernel_rfl) (by kernel_rfl) (fun _ => by kernel_rfl) ?_
    refine plan_pure (some 70) (Value.pointer (some ⟨w.heap.size, 130, none⟩)) (by kernel_rfl) (by kernel_rfl) (by kernel_rfl) (fun _ => by kernel_rfl) ?_
    refine plan_load (some 71) 30 (.tmp 70) (w.heap.size) 130 ((Fld G.h).toList) _ (by kernel_rfl) (by kernel_rfl) (by kernel_rfl) (by kernel_rfl) (by kernel_rfl) (fun _ h => h.2.2.1) Tryd.underlying30 rfl (by rw [Fld_length]; exact infoField) ?_
    refine plan_pure (some 72) (Value.int IntKind.u64 (cellsN G)) (by kernel_rfl) (by kernel_rfl) (by kernel_rfl) (fun _ => by kernel_rfl) ?_
    refine plan_load (some 74) 30 (.tmp 5) (N) 0 ((Fld zf).toList) _ (by kernel_rfl) (by kernel_rfl) (by kernel_rfl) (by kernel_rfl) (by kernel_rfl) (fun _ h => h.2.2.2.1) Tryd.underlying30 rfl (by rw [Fld_length]; exact infoField) ?_
    refine plan_call (some 73) 58 #[.agg (Fld G.h), .int .u64 (cellsN G)] (by kernel_rfl) (by kernel_rfl) (by kernel_rfl) (by kernel_rfl) (Calls.mono (outside_any G.h (cellsN G) m64 _ (vg_tab hgl HT.out HS) (vg_gl hgl HS)) ?_)
    rintro e w' ⟨rfl, hb⟩
    refine ⟨_, rfl, vg_step HS hb, ?_⟩
    replace HS := vg_step HS hb
    clear hb
    refine plan_pure (some 75) (Value.bool (eqF (outF G.h (cellsN G)) zf)) (by kernel_rfl) (by kernel_rfl) (by kernel_rfl) (run_eql_fld (x := .tmp 73) (y := .tmp 74) (t := 30) (by kernel_rfl) (by kernel_rfl) (by kernel_rfl)) ?_
    rw [c3]
    refine plan_pure (some 76) (Value.bool true) (by kernel_rfl) (by kernel_rfl) (by kernel_rfl) (fun _ => by kernel_rfl) ?_
    refine plan_do none undef _ (by kernel_rfl) (by kernel_rfl) (by kernel_rfl) (.inr ⟨run_store_op (x := .tmp 2) (y := .tmp 76) (b := w.heap.size + 1) (o := 0) (v := true) (by kernel_rfl) (by kernel_rfl) (by kernel_rfl) HS.2.2.2.2.1, rfl⟩) (vg_put _ hNn hnn hDn HS) ?_
    exact plan_end (NoPanic.normal (R ▸ HQ _ _ (by kernel_rfl) (by kernel_rfl) HS))

set_option maxRecDepth 100000 in
set_option maxHeartbeats 4000000 in
theorem vg_main (G : Gd) (Wn Hn : Nat) (hWn : G.wide = Wn) (hHn : G.high = Hn) (w8 : Wn ≤ 8) (h8 : Hn ≤ 8) (w : World) (hG : GdOk G) (e0 : extN G.wide = true) (e : extN G.high = true) (ex : (G.x != 0) = true) (ef : fixB G = true) (hT : TabAt w) (hgl : 0 < w.heap.size) (r : Bool)
    (hr : ((List.range 64).all (fun i => !isB G i || cellOk G i) && (eqF (outF G.c (cellsN G)) zf && (eqF (outF G.g (cellsN G)) zf && eqF (outF G.h (cellsN G)) zf))) = r) :
    Calls Tryd.prog 29 #[.agg (Grd G)] w fun e w' => e = .returned (.bool r) ∧ Below w.heap.size w w' := by
  obtain ⟨k0, k0'⟩ := hG.wide'
  obtain ⟨k1, k1'⟩ := hG.high'
  have x' := hG.x'
  refine (callsIn_wide (n := 6)).1 (callsIn_of_wp_marks Tryd.func29 rfl trivial ?_ rfl)
  simp only [Tryd.ntmps29, List.size_toArray, List.length_cons, List.length_nil, Nat.reduceAdd, Nat.reduceSub, Array.replicate_succ, Array.replicate_zero, List.push_toArray, List.append_toArray, List.nil_append, List.cons_append]
  refine wpIn_wide.2 ?_
  go_upto_region 1 with (fail)
  obtain ⟨W, hW, hz, hg, hc, hf, hB⟩ := vg_two G 32 4 w
  rw [hW]
  clear hW
  have a0 := hg.wide; have a1 := hg.high; have a2 := hg.x
  rw [Nat.zero_add] at a1 a2
  have E := Lib.hid e
  have E0 := Lib.hid e0
  have tk0 : True := trivial
  have Hg := Lib.hid hg
  have HW := Lib.hid hWn
  have HH := Lib.hid hHn
  have R := Lib.hid hr
  have HT := Lib.hid hT
  clear e e0 hG hg hWn hHn hr hT
  have e1 : (G.x == 0) = false := by simpa [bne] using ex
  have e2 : (bits .andNot .u64 G.x (cellsN G) == 0) = true := ef
  have e3 : (bits .andNot .u64 G.x (cellsN G) != 0) = false := by simp only [bne, e2]; rfl
  clear ex ef
  have m64 := cellsN_lt G
  go_wp2_with (first | (have _t := tk0; go_at_call 55; refine (isExtent_is _ true E0.out _).mono ?_; rintro e w' ⟨rfl, rfl⟩; clear tk0) | (go_at_call 55; refine (isExtent_is _ true E.out _).mono ?_; rintro e w' ⟨rfl, rfl⟩) | (go_at_call 36; refine (cells_any G Wn Hn HW.out HH.out w8 h8 _ _ Hg.out).mono ?_; rintro e w' ⟨rfl, rfl⟩) | (go_at_call 30; refine (bitsIn_any (cellsN G) _).mono ?_; rintro e w' ⟨rfl, rfl⟩))
  obtain ⟨V, hV, hz3, hg3, hc3, hf3, hm3, hB3⟩ := vg_three w G (cellsN G) 25 w.heap.size hz Hg.out hc hf hB
  rw [hV]
  clear hV a0 a1 a2 hB hc hf Hg HW HH E E0
  have hT3 := HT.out.below hB3 hgl
  refine (wpIn_wide (n := 6)).1 (wpIn_rangeFunc_ownF rfl (by omega) (gf := 59) (lb := #[.pointer (some ⟨w.heap.size + 1 + 1, 0, none⟩)]) rfl trivial (enters_of Tryd.func59 (by kernel_rfl) rfl)
    (bits_stops (cellsN G) m64 5 (by omega) (w.heap.size + 1 + 1) w.heap.size V (by omega) hgl (by omega) hm3 hT3) belowK_t (belowK_b (by omega)) (Below.refl _ _) (fun _ => rfl)
    (fun pre W => ((∀ y ∈ pre, cellOk G y.1 = true) ∧ GrdAt W w.heap.size 0 G ∧ W.cell? ⟨w.heap.size + 1, 0, none⟩ = some (.bool false) ∧ W.frozen? ⟨w.heap.size + 1, 0, none⟩ = false) ∧ Below w.heap.size w W)
    (fun c pre W => (c = .ret ∧ (∃ y ∈ pre, cellOk G y.1 = false) ∧ W.cell? ⟨w.heap.size + 1, 0, none⟩ = some (.bool false)) ∧ Below w.heap.size w W)
    (OwnFrom.and (Own.from (fun s A B row hs hg hr => ⟨hs.1, grd_own hs.2.1 hg hr, cell_kept hs.2.2.1 hg hr, (frozen_kept hs.2.2.1 hg hr).trans hs.2.2.2⟩) _) (ownFrom_below (Nat.le_refl _) (by omega)))
    (fun c => OwnFrom.and (Own.from (fun s A B row hs hg hr => ⟨hs.1, hs.2.1, cell_kept hs.2.2 hg hr⟩) _) (ownFrom_below (Nat.le_refl _) (by omega)))
    ⟨⟨by simp, hg3, hc3, hf3⟩, hB3⟩
    (fun x => { tmps := #[Value.agg (Grd G), Value.pointer (some { block := w.heap.size, off := 0 }),
          Value.pointer (some { block := w.heap.size + 1, off := 0 }), Value.int IntKind.u64 ↑(cellsN G), Value.int IntKind.i64 x.1, undef,
          Value.pointer (some { block := w.heap.size, off := 0 }), Value.int IntKind.i8 G.wide,
          Value.int IntKind.i64 G.wide, Value.bool true, Value.bool false, Value.bool false,
          Value.pointer (some { block := w.heap.size, off := 1 }), Value.int IntKind.i8 G.high,
          Value.int IntKind.i64 G.high, Value.bool true, Value.bool false, Value.bool false,
          Value.int IntKind.u64 ↑(cellsN G), Value.pointer (some { block := w.heap.size, off := 194 }),
          Value.int IntKind.u64 G.x, Value.bool false, Value.bool false,
          Value.pointer (some { block := w.heap.size, off := 194 }), Value.int IntKind.u64 G.x,
          Value.int IntKind.u64 ↑(cellsN G), Value.int IntKind.u64 (bits BinOp.andNot IntKind.u64 G.x ↑(cellsN G)),
          Value.bool false, Value.bool false, Value.int IntKind.u64 ↑(cellsN G),
          Value.func (Fn.func 59) #[] #[Value.pointer (some { block := w.heap.size + 1 + 1, off := 0 })], Value.int IntKind.i64 x.1,
          undef, undef, undef, undef, undef, undef, undef, undef, undef, undef, undef, undef, undef, undef, undef, undef, undef, undef, undef, undef, undef, undef, undef, undef, undef, undef, undef, undef, undef, undef, undef, undef, undef, undef, undef, undef, undef, undef, undef, undef, undef, undef, undef, undef, undef], defers := [] })
    ?assign ?body ?done ?stop)
  case assign =>
    intro l x W K hK
    dsimp only [encB]
    gi_wp2
    exact hK
  case body =>
    rintro l pre x W ⟨⟨h1, hg, hc, hf⟩, hB⟩ _
    have hx64 : x.1 < 64 := (mem_bitsL.1 x.2).1
    have c1 := Grd_fld hg.c x.1 hx64
    have c2 := Grd_fld hg.g x.1 hx64
    have c3 := Grd_fld hg.h x.1 hx64
    rw [Nat.zero_add] at c1 c2 c3
    have Hg := Lib.hid hg
    have H1 := Lib.hid h1
    clear hg h1
    have ko : Hid ((KeepsOthers W (W.setCell ⟨w.heap.size + 1, 0, none⟩ (.bool false)))) := KeepsOthers.setCell _ _ _
    have bw : Hid (Below w.heap.size w (W.setCell ⟨w.heap.size + 1, 0, none⟩ (.bool false))) := hB.setCell (p := ⟨w.heap.size + 1, 0, none⟩) (by simp) _
    have cw : Hid ((W.setCell ⟨w.heap.size + 1, 0, none⟩ (.bool false)).cell? ⟨w.heap.size + 1, 0, none⟩ = some (.bool false)) := World.cell?_setCell_same' _ _ _ (by rw [hc]; rfl)
    cases pa : amtB (G.c x.1)
    · have Bad := Lib.hid (show cellOk G x.1 = false by rw [amtB_eq] at pa; unfold cellOk; rw [← Bool.and_assoc, pa]; rfl)
      gi_wp2_with (first | (refine ⟨trivial, ?_⟩; gi_at_call 56; refine (callsIn_wide.2 (isAmount_any _ _)).mono ?_; rintro e w' ⟨rfl, rfl⟩) | (refine ⟨trivial, ?_⟩; gi_at_call 57; refine (callsIn_wide.2 (isPlain_any _ _)).mono ?_; rintro e w' ⟨rfl, rfl⟩) | (refine ⟨trivial, ?_⟩))
      exact ⟨ko.out, ⟨rfl, ⟨x, by simp, Bad.out⟩, cw.out⟩, bw.out⟩
    have Pa := Lib.hid (show (plainB (G.c x.1) && !negB (G.c x.1)) = true by rw [← amtB_eq]; exact pa)
    cases pg : plainB (G.g x.1)
    · have Bad := Lib.hid (show cellOk G x.1 = false by simp [cellOk, pg])
      gi_wp2_with (first | (refine ⟨trivial, ?_⟩; gi_at_call 56; refine (callsIn_wide.2 (isAmount_any _ _)).mono ?_; rintro e w' ⟨rfl, rfl⟩) | (refine ⟨trivial, ?_⟩; gi_at_call 57; refine (callsIn_wide.2 (isPlain_any _ _)).mono ?_; rintro e w' ⟨rfl, rfl⟩) | (refine ⟨trivial, ?_⟩))
      exact ⟨ko.out, ⟨rfl, ⟨x, by simp, Bad.out⟩, cw.out⟩, bw.out⟩
    cases ph : plainB (G.h x.1)
    · have Bad := Lib.hid (show cellOk G x.1 = false by simp [cellOk, ph])
      gi_wp2_with (first | (refine ⟨trivial, ?_⟩; gi_at_call 56; refine (callsIn_wide.2 (isAmount_any _ _)).mono ?_; rintro e w' ⟨rfl, rfl⟩) | (refine ⟨trivial, ?_⟩; gi_at_call 57; refine (callsIn_wide.2 (isPlain_any _ _)).mono ?_; rintro e w' ⟨rfl, rfl⟩) | (refine ⟨trivial, ?_⟩))
      exact ⟨ko.out, ⟨rfl, ⟨x, by simp, Bad.out⟩, cw.out⟩, bw.out⟩
    have Good := Lib.hid (show cellOk G x.1 = true by unfold cellOk; rw [← Bool.and_assoc, Pa.out, pg, ph]; rfl)
    gi_wp2_with (first | (refine ⟨trivial, ?_⟩; gi_at_call 56; refine (callsIn_wide.2 (isAmount_any _ _)).mono ?_; rintro e w' ⟨rfl, rfl⟩) | (refine ⟨trivial, ?_⟩; gi_at_call 57; refine (callsIn_wide.2 (isPlain_any _ _)).mono ?_; rintro e w' ⟨rfl, rfl⟩) | (refine ⟨trivial, ?_⟩))
    exact ⟨KeepsOthers.refl _, Below.refl _ _, ⟨fun y hy => (List.mem_append.1 hy).elim (H1.out y) (fun e => by simp only [List.mem_singleton] at e; subst e; exact Good.out), Hg.out, hc, hf⟩, hB⟩
  case done =>
    rintro D ys W hD hys ⟨⟨h1, hg, hc, hf⟩, hB⟩ hK
    have hall : (List.range 64).all (fun i => !isB G i || cellOk G i) = true := all_yes fun i hi => by
      cases hb : isB G i
      · rfl
      · have hm : i ∈ ys.map (·.1) := by rw [hys]; exact mem_bitsL.2 ⟨hi, by rw [cellsN_testBit, hb]; simp [hi]⟩
        obtain ⟨y, hy, rfl⟩ := List.mem_map.1 hm
        simp [h1 y hy]
    rw [hall] at R
    clear hall h1 hys
    have hW1 : w.heap.size + 1 < W.heap.size := by have := (Array.getElem?_eq_some_iff.1 hK).1; omega
    have ht : (W.alloc (.cells (Fld zf) 30)).there W.heap.size 0 (Fld zf).size := there_row (heap_alloc_last W _) rfl
    go_upto_region 11 with (refine wpList_store_mid rfl 30 _ _ rfl _ 0 (Fld zf) rfl rfl ht (by rw [Fld_size]; exact infoField) (Fld_one _) ?_)
    obtain ⟨U, hU, SU⟩ := vg_nil (w := w) (G := G) 30 hK hW1 hg hc hf hB
    refine wp_world (w' := (W.alloc (.cells (Fld zf) 30)).setCells W.heap.size 0 (Fld zf).toList) rfl ?_
    rw [hU]
    have hDn : D ≠ w.heap.size + 1 := by omega
    have hNn : W.heap.size ≠ w.heap.size + 1 := by omega
    have hnn : w.heap.size ≤ w.heap.size + 1 := by omega
    clear hU ht hg hc hf hB hK hg3 hc3 hf3 hm3 hB3
    simp only [Act.put]
    refine region_named (ops' := regOf Tryd.f29 11) (by kernel_rfl) ?_
    refine vg_region G w W.heap.size D r (by simpa using R.out) m64 hgl HT hDn hNn hnn U SU _ _ ?_ _ _ _ _ _ _ _ _ _ _ _ _ _ _ _ _ _ _ _ _ _ _ _ _ _ _ _ _ _ _ _ _ _ _ _ _ _ _ _ _ _ _ _ _ _ _ _ _ _ _ _ _ _ _ _ _ _ _ _ _ _ _ _ _ _ _ _ _ _ _ _ _ _
    rintro ⟨T, df⟩ V (rfl : df = _) hT2 SV
    have SP := vg_put (.bool r) hNn hnn hDn SV
    have hc5 : (V.setCell ⟨w.heap.size + 1, 0, none⟩ (.bool r)).cell? ⟨w.heap.size + 1, 0, none⟩ = some (.bool r) := World.cell?_setCell_same' _ _ _ (by have := (SV.2.2.2.2.1 0 (by omega)).1; rwa [Nat.zero_add] at this)
    have hK1 := SP.2.2.2.2.2.out.dl
    have hB1 := SP.2.2.2.2.2.out.below
    clear SP SV
    go_wp2
    refine ⟨by simp, .inl ⟨_, _, rfl, run_takeDeferred hK1, ?_⟩⟩
    have hc6 := cell_kept hc5 (grownBy_putObj' _ D (.deferred none)) (fun r e => by cases e; exact ⟨_, hK1, rfl⟩)
    refine ⟨_, results_cell_bool rfl Tryd.underlying4 _ _ _ 0 r hT2 hc6, rfl, hB1.trans (belowK_b (w := w) (Nat.le_refl _) _ D _ _ (by omega) hK1 rfl rfl)⟩
  case stop =>
    rintro D c pre W hD _ ⟨⟨rfl, ⟨y, hy, hbad⟩, hcr⟩, hB⟩ hK
    gi_wp2
    refine ⟨by simp, .inl ⟨_, _, rfl, run_takeDeferred hK, ?_⟩⟩
    have hc5 := cell_kept hcr (grownBy_putObj' _ D (.deferred none)) (fun r e => by cases e; exact ⟨_, hK, rfl⟩)
    have hy64 := mem_bitsL.1 y.2
    have hbit : isB G y.1 = true := by have := hy64.2; rw [cellsN_testBit] at this; simp at this; exact this.2
    have hr0 : r = false := by rw [← R.out, all_no y.1 hy64.1 (by simp [hbit, hbad])]; rfl
    subst hr0
    refine ⟨_, results_cell_bool rfl Tryd.underlying4 _ _ _ 0 false rfl hc5, rfl, hB.trans (belowK_b (w := w) (Nat.le_refl _) W D _ _ (by omega) hK rfl rfl)⟩
end

section
open Go.RowKit
set_option linter.unusedSimpArgs false

theorem tab_lt {w : World} (h : TabAt w) : 0 < w.heap.size := World.block_lt_of_cell? w ⟨0, 0, none⟩ (h 0 (by omega))
theorem all_congr64 {p q : Nat → Bool} (h : ∀ i, i < 64 → p i = q i) : (List.range 64).all p = (List.range 64).all q := by
  rw [Bool.eq_iff_iff]
  simp only [List.all_eq_true, List.mem_range]
  exact ⟨fun g i hi => by rw [← h i hi]; exact g i hi, fun g i hi => by rw [h i hi]; exact g i hi⟩
theorem order_zero : FloatKind.f32.format.order 0 0 = some Ordering.eq := by decide +kernel
theorem eqF_out (f : Nat → Nat) (G : Gd) : eqF (outF f (cellsN G)) zf = (List.range 64).all fun i => isB G i || zeroB (f i) := by
  unfold eqF
  refine all_congr64 fun i h64 => ?_
  unfold outF zf zeroB
  rw [cellsN_testBit]
  cases h : isB G i
  · simp
  · simp [h64, order_zero]

theorem all_and (p q : Nat → Bool) : ((List.range 64).all p && (List.range 64).all q) = (List.range 64).all fun i => p i && q i := by
  rw [Bool.eq_iff_iff]
  simp only [Bool.and_eq_true, List.all_eq_true, List.mem_range]
  exact ⟨fun h i hi => ⟨h.1 i hi, h.2 i hi⟩, fun h => ⟨fun i hi => (h i hi).1, fun i hi => (h i hi).2⟩⟩

theorem zero_not_neg {b : Nat} (h : zeroB b = true) : negB b = false := by
  unfold zeroB at h
  unfold negB
  rw [beq_iff_eq] at h
  rw [h]
  rfl

theorem fields_eq (G : Gd) : (fieldB G G.c && (fieldB G G.g && (fieldB G G.h && noNeg G))) =
    ((List.range 64).all (fun i => !isB G i || cellOk G i) && (eqF (outF G.c (cellsN G)) zf && (eqF (outF G.g (cellsN G)) zf && eqF (outF G.h (cellsN G)) zf))) := by
  rw [eqF_out, eqF_out, eqF_out]
  unfold fieldB noNeg
  simp only [all_and]
  refine all_congr64 fun i _ => ?_
  unfold okAt cellOk
  cases isB G i
  · cases hc : zeroB (G.c i)
    · simp
    · simp [zero_not_neg hc]
  · simp
    cases plainB (G.c i) <;> cases plainB (G.g i) <;> cases plainB (G.h i) <;> cases negB (G.c i) <;> rfl

theorem validB_eq (G : Gd) : validB G = (extN G.wide && (extN G.high && (((G.x != 0) && fixB G) && ((List.range 64).all (fun i => !isB G i || cellOk G i) && (eqF (outF G.c (cellsN G)) zf && (eqF (outF G.g (cellsN G)) zf && eqF (outF G.h (cellsN G)) zf)))))) := by
  rw [← fields_eq]
  unfold validB extB extN
  generalize fieldB G G.c = a
  generalize fieldB G G.g = b
  generalize fieldB G G.h = c
  generalize noNeg G = d
  generalize (G.x != 0) = e
  generalize fixB G = f
  generalize decide (2 ≤ G.wide) = g
  generalize decide (G.wide ≤ 8) = h
  generalize decide (2 ≤ G.high) = i
  generalize decide (G.high ≤ 8) = j
  cases g <;> cases h <;> cases i <;> cases j <;> cases a <;> cases b <;> cases c <;> cases d <;> cases e <;> cases f <;> rfl

theorem validGround_any (G : Gd) (w : World) (hG : GdOk G) (hT : TabAt w) (hgl : 0 < w.heap.size) :
    Calls Tryd.prog 29 #[.agg (Grd G)] w fun e w' => e = .returned (.bool (validB G)) ∧ Below w.heap.size w w' := by
  rw [validB_eq]
  cases e0 : extN G.wide
  · simpa using vg_w G w hG e0
  cases e : extN G.high
  · simpa using vg_h G w hG e0 e
  have b0 : 2 ≤ G.wide ∧ G.wide ≤ 8 := by simpa [extN] using e0
  have b1 : 2 ≤ G.high ∧ G.high ≤ 8 := by simpa [extN] using e
  have hW : G.wide = (G.wide.toNat : Int) := by omega
  have hH : G.high = (G.high.toNat : Int) := by omega
  cases ex : ((G.x != 0) && fixB G)
  · simpa using vg_x G _ _ hW hH (by omega) (by omega) w hG e0 e ex
  · simp only [Bool.and_eq_true] at ex
    exact vg_main G _ _ hW hH (by omega) (by omega) w hG e0 e ex.1 ex.2 hT hgl _ (by simp)

/-- What a valid ground's extents are. -/
theorem valid_ext {G : Gd} (h : validB G = true) : 2 ≤ G.wide ∧ G.wide ≤ 8 ∧ 2 ≤ G.high ∧ G.high ≤ 8 := by
  unfold validB extB at h
  simp only [Bool.and_eq_true, decide_eq_true_eq] at h
  exact ⟨h.1.1.1, h.1.1.2, h.1.2.1, h.1.2.2⟩

end

section
open Go.RowKit
set_option linter.unusedSimpArgs false

/-- There is a cell with a number, any number. -/
def inB (G : Gd) (c : Int) : Bool := decide (0 ≤ c) && decide (c ≤ 63) && isB G c.toNat
theorem inB_nat (G : Gd) (i : Nat) (hi : i < 64) : inB G i = isB G i := by
  have h1 : (0 : Int) ≤ i := by omega
  have h2 : (i : Int) ≤ 63 := by omega
  simp [inB, h1, h2]
theorem inB_cast {G : Gd} {c : Int} (h : inB G c = true) : ∃ k : Nat, c = k ∧ k < 64 ∧ isB G k = true := by
  simp only [inB, Bool.and_eq_true, decide_eq_true_eq] at h
  exact ⟨c.toNat, by omega, by omega, h.2⟩

theorem l01Is_out (G : Gd) (c : Int) (h : c < 0 ∨ 63 < c) (p : Nat) (w : World) (hp : GrdAt w p 0 G) :
    Calls Tryd.prog 34 #[.pointer (some ⟨p, 0, none⟩), .int .i64 c] w fun e w' => e = .returned (.bool false) ∧ w' = w := by
  have a0 := hp.wide; have a1 := hp.high
  rw [Nat.zero_add] at a1
  clear hp
  rcases h with h | h
  · have h1 : decide (0 ≤ c) = false := by simpa using h
    go_enter Tryd.func34, Tryd.ntmps34
    go_wp2
    go_ret
    exact ⟨rfl, rfl⟩
  · have h1 : decide (c ≤ 63) = false := by simpa using h
    have h0 : 0 ≤ c := by omega
    go_enter Tryd.func34, Tryd.ntmps34
    go_wp2
    go_ret
    exact ⟨rfl, rfl⟩

theorem l01Is_int (G : Gd) (c : Int) (p : Nat) (w : World) (hp : GrdAt w p 0 G) (hG : GdOk G) :
    Calls Tryd.prog 34 #[.pointer (some ⟨p, 0, none⟩), .int .i64 c] w fun e w' => e = .returned (.bool (inB G c)) ∧ w = w' := by
  by_cases h : c < 0 ∨ 63 < c
  · have : inB G c = false := by
      simp only [inB]
      rcases h with h | h
      · have : ¬ (0 ≤ c) := by omega
        simp [this]
      · have : ¬ (c ≤ 63) := by omega
        simp [this]
    rw [this]
    exact (l01Is_out G c h p w hp).mono fun e w' ⟨h1, h2⟩ => ⟨h1, h2.symm⟩
  · obtain ⟨k, rfl⟩ : ∃ k : Nat, c = k := ⟨c.toNat, by omega⟩
    have hk : k < 64 := by omega
    rw [inB_nat G k hk]
    exact (l01Is_is G k hk _ rfl p w hp hG).mono fun e w' ⟨h1, h2⟩ => ⟨h1, h2.symm⟩

/-- The code of a ground and a cell. -/
def askedN (G : Gd) (c : Int) : Int := if validB G = true then (if inB G c = true then 0 else 2) else 1
theorem ret_i64 {a b : Int} (h : a = b) : Ending.returned (.int .i64 a) = .returned (.int .i64 b) := by rw [h]

set_option maxRecDepth 100000 in
theorem l01Asked_any (G : Gd) (c : Int) (p : Nat) (w : World) (hp : GrdAt w p 0 G) (hG : GdOk G) :
    Calls Tryd.prog 43 #[.pointer (some ⟨p, 0, none⟩), .int .i64 c] w fun e w' => e = .returned (.int .i64 (askedN G c)) ∧ Quiet w w' := by
  have Hp := Lib.hid hp
  have HG := Lib.hid hG
  clear hp hG
  cases hv : validB G
  · have R := Lib.hid (show askedN G c = 1 by simp [askedN, hv])
    have Hv := Lib.hid hv
    clear hv
    go_enter Tryd.func43, Tryd.ntmps43
    go_wp2_with (go_at_call 26; have hc := (l01Ok_any G p _ Hp.out HG.out); rw [Hv.out] at hc; refine hc.mono ?_; clear hc; rintro e w' ⟨rfl, n, rfl⟩)
    go_ret
    exact ⟨ret_i64 R.out.symm, n, rfl⟩
  · cases hi : inB G c
    · have R := Lib.hid (show askedN G c = 2 by simp [askedN, hv, hi])
      have Hv := Lib.hid hv
      have Hi := Lib.hid hi
      clear hv hi
      go_enter Tryd.func43, Tryd.ntmps43
      go_wp2_with (first | (go_at_call 26; have hc := (l01Ok_any G p _ Hp.out HG.out); rw [Hv.out] at hc; refine hc.mono ?_; clear hc; rintro e w' ⟨rfl, n, rfl⟩) | (go_at_call 34; have hc := (l01Is_int G c p _ (Quiet.grd ⟨n, rfl⟩ Hp.out) HG.out); rw [Hi.out] at hc; refine hc.mono ?_; clear hc; rintro e w' ⟨rfl, rfl⟩))
      go_ret
      exact ⟨ret_i64 R.out.symm, _, rfl⟩
    · have R := Lib.hid (show askedN G c = 0 by simp [askedN, hv, hi])
      have Hv := Lib.hid hv
      have Hi := Lib.hid hi
      clear hv hi
      go_enter Tryd.func43, Tryd.ntmps43
      go_wp2_with (first | (go_at_call 26; have hc := (l01Ok_any G p _ Hp.out HG.out); rw [Hv.out] at hc; refine hc.mono ?_; clear hc; rintro e w' ⟨rfl, n, rfl⟩) | (go_at_call 34; have hc := (l01Is_int G c p _ (Quiet.grd ⟨n, rfl⟩ Hp.out) HG.out); rw [Hi.out] at hc; refine hc.mono ?_; clear hc; rintro e w' ⟨rfl, rfl⟩))
      go_ret
      exact ⟨ret_i64 R.out.symm, _, rfl⟩

/-- A side. -/
def sideB (s : Int) : Bool := decide (0 ≤ s) && decide (s ≤ 3)
/-- The code of a ground, a cell and a side. -/
def sidedN (G : Gd) (c s : Int) : Int := if askedN G c = 0 then (if sideB s = true then 0 else 2) else askedN G c

theorem askedN_012 (G : Gd) (c : Int) : askedN G c = 0 ∨ askedN G c = 1 ∨ askedN G c = 2 := by
  unfold askedN
  split
  · split
    · exact .inl rfl
    · exact .inr (.inr rfl)
  · exact .inr (.inl rfl)

/-- A ground that has been made, and its code. -/
def madeG (G : Gd) : Gd := if validB G = true then G else zG
def madeN (G : Gd) : Int := if validB G = true then 0 else 4
end

section
open Go.RowKit
set_option linter.unusedSimpArgs false

/-- The box of a ground that came in by value. -/
theorem box_in (G : Gd) (t : TypeId) (w : World) (hT : TabAt w) : ∃ W, w.alloc (.cells (Grd G) t) = W ∧ W.heap.size = w.heap.size + 1 ∧ GBox W w.heap.size G ∧ Below w.heap.size w W ∧ TabAt W := by
  obtain ⟨W, h, hs, g, hB⟩ := gbox1 G t w
  exact ⟨W, h, hs, g, hB, hT.below hB (tab_lt hT)⟩

/-- A ground and a number, as a result. -/
def GN (G : Gd) (n : Int) : Value := .tuple #[.agg (Grd G), .int .i64 n]

theorem infoG195 : (Tryd.prog.info? 32).map (·.size) = some 195 := infoGround

/-- The end of a function that returns a ground in a block and a number. -/
theorem ret_GN {fn : Func} {p q : Tmp} (h : fn.results = #[.cell p 32, .tmp q]) {tmps : Array Value} {w : World} {b : Nat} {G : Gd} {n : Int}
    (hp : tmps.getD p undef = .pointer (some ⟨b, 0, none⟩)) (hq : tmps.getD q undef = .int .i64 n) (hc : w.rangeAt b 0 (GrdL G)) : (results fn tmps).run Tryd.prog w = .ok (GN G n) w :=
  results_grd_int h tmps w b G n hp hq hc Tryd.underlying32 rfl infoG195

end

section
open Go.RowKit
set_option linter.unusedSimpArgs false

/-- A place. -/
def Plc (x y : Int) : Value := .agg #[.int .i64 x, .int .i64 y]

theorem tdm (c : Int) : (0 ≤ c → c.tdiv 8 = c / 8 ∧ c.tmod 8 = c % 8) ∧ (c < 0 → c.tdiv 8 = -((-c) / 8) ∧ c.tmod 8 = -((-c) % 8)) := by
  refine ⟨fun h => ⟨Int.tdiv_eq_ediv_of_nonneg h, Int.tmod_eq_emod_of_nonneg h⟩, fun h => ?_⟩
  have h0 : 0 ≤ -c := by omega
  have e1 : c.tdiv 8 = -((-c).tdiv 8) := by rw [Int.neg_tdiv]; omega
  have e2 : c.tmod 8 = -((-c).tmod 8) := by rw [Int.neg_tmod]; omega
  rw [e1, e2, Int.tdiv_eq_ediv_of_nonneg h0, Int.tmod_eq_emod_of_nonneg h0]
  exact ⟨rfl, rfl⟩

theorem placeOf_int (c : Int) (h1 : -9223372036854775808 ≤ c) (h2 : c ≤ 9223372036854775807) (w : World) :
    Calls Tryd.prog 75 #[.int .i64 c] w fun e w' => e = .returned (Plc (c.tmod 8) (c.tdiv 8)) ∧ Below w.heap.size w w' := by
  have e2 : wrap64 (c.tdiv 8) = c.tdiv 8 := by
    have ht := tdm c
    unfold wrap64
    by_cases h0 : 0 ≤ c
    · rw [(ht.1 h0).1]; omega
    · rw [(ht.2 (by omega)).1]; omega
  go_enter Tryd.func75, Tryd.ntmps75
  go_wp2
  refine bodyPost_ret (v := .agg #[.int .i64 (c.tmod 8), .int .i64 (c.tdiv 8)]) (by simp [results, Tryd.results75, go_sem]) rfl ⟨rfl, (Below.refl _ _).alloc (Nat.le_refl _) _⟩

theorem number_any (x y : Int) (h1 : 0 ≤ x) (h2 : x ≤ 1000) (h3 : 0 ≤ y) (h4 : y ≤ 1000) (w : World) :
    Calls Tryd.prog 77 #[Plc x y] w fun e w' => e = .returned (.int .i64 (x + 8 * y)) ∧ Below w.heap.size w w' := by
  unfold Plc
  go_enter Tryd.func77, Tryd.ntmps77
  go_wp2
  go_ret
  exact ⟨rfl, (Below.refl _ _).alloc (Nat.le_refl _) _⟩

/-- A place is one of a cell. -/
def holdB (G : Gd) (x y : Int) : Bool := decide (0 ≤ x) && (decide (x < G.wide) && (decide (0 ≤ y) && decide (y < G.high)))

set_option maxRecDepth 100000 in
set_option maxHeartbeats 1000000 in
theorem holds_any (G : Gd) (x y : Int) (p : Nat) (w : World) (hp : GrdAt w p 0 G) (hpl : p < w.heap.size) (hG : GdOk G) :
    Calls Tryd.prog 76 #[.pointer (some ⟨p, 0, none⟩), Plc x y] w fun e w' => e = .returned (.bool (holdB G x y)) ∧ Below w.heap.size w w' := by
  unfold Plc
  obtain ⟨k0, k0'⟩ := hG.wide'
  obtain ⟨k1, k1'⟩ := hG.high'
  go_enter Tryd.func76, Tryd.ntmps76
  go_wp2
  obtain ⟨W, hW⟩ : ∃ W, w.alloc (.cells #[.int .i64 x, .int .i64 y] 102) = W := ⟨_, rfl⟩
  have hB : Below w.heap.size w W := by rw [← hW]; exact (Below.refl _ _).alloc (Nat.le_refl _) _
  have x0 : W.cell? ⟨w.heap.size, 0, none⟩ = some (.int .i64 x) := by rw [← hW]; exact cell_of_row _ _ 0 _ _ _ (heap_alloc_last w _)
  have x1 : W.cell? ⟨w.heap.size, 1, none⟩ = some (.int .i64 y) := by rw [← hW]; exact cell_of_row _ _ 1 _ _ _ (heap_alloc_last w _)
  have hp' := hp.below hB hpl
  have a0 := hp'.wide; have a1 := hp'.high
  rw [Nat.zero_add] at a1
  rw [hW]
  clear hW hp hp' hG
  have HB := Lib.hid hB
  clear hB
  by_cases e0 : 0 ≤ x
  · by_cases e1 : x < G.wide
    · by_cases e2 : 0 ≤ y
      · by_cases e3 : y < G.high
        · have R := Lib.hid (show holdB G x y = true by simp [holdB, e0, e1, e2, e3])
          go_quiet (fail)
          go_wp2
          go_ret
          exact ⟨ret_bool R.out.symm, HB.out.trans (Quiet.below ⟨_, rfl⟩ _)⟩
        · have R := Lib.hid (show holdB G x y = false by simp [holdB, e3])
          have d : decide (y < G.high) = false := by simpa using e3
          go_quiet (fail)
          go_wp2
          go_ret
          exact ⟨ret_bool R.out.symm, HB.out.trans (Quiet.below ⟨_, rfl⟩ _)⟩
      · have R := Lib.hid (show holdB G x y = false by simp [holdB, e2])
        have d : decide (0 ≤ y) = false := by simpa using e2
        go_quiet (fail)
        go_wp2
        go_ret
        exact ⟨ret_bool R.out.symm, HB.out.trans (Quiet.below ⟨_, rfl⟩ _)⟩
    · have R := Lib.hid (show holdB G x y = false by simp [holdB, e1])
      have d : decide (x < G.wide) = false := by simpa using e1
      go_quiet (fail)
      go_wp2
      go_ret
      exact ⟨ret_bool R.out.symm, HB.out.trans (Quiet.below ⟨_, rfl⟩ _)⟩
  · have R := Lib.hid (show holdB G x y = false by simp [holdB, e0])
    have d : decide (0 ≤ x) = false := by simpa using e0
    go_quiet (fail)
    go_wp2
    go_ret
    exact ⟨ret_bool R.out.symm, HB.out.trans (Quiet.below ⟨_, rfl⟩ _)⟩

/-- A number of a cell, as the program finds out. -/
theorem hold_in (G : Gd) (c : Int) (hv : validB G = true) : holdB G (c.tmod 8) (c.tdiv 8) = inB G c := by
  obtain ⟨v1, v2, v3, v4⟩ := valid_ext hv
  rw [Bool.eq_iff_iff]
  simp only [holdB, inB, isB, Bool.and_eq_true, decide_eq_true_eq]
  have ht := tdm c
  by_cases h0 : 0 ≤ c
  · rw [(ht.1 h0).1, (ht.1 h0).2]
    clear ht
    constructor
    · rintro ⟨h1, h2, h3, h4⟩
      refine ⟨⟨h0, by omega⟩, by omega, by omega⟩
    · rintro ⟨⟨h1, h2⟩, h3, h4⟩
      refine ⟨by omega, by omega, by omega, by omega⟩
  · rw [(ht.2 (by omega)).1, (ht.2 (by omega)).2]
    clear ht
    constructor
    · rintro ⟨h1, h2, h3, h4⟩
      exfalso
      omega
    · rintro ⟨⟨h1, h2⟩, h3, h4⟩
      exfalso
      omega

set_option maxRecDepth 100000 in
theorem hasCell_any (G : Gd) (c : Int) (h1 : -9223372036854775808 ≤ c) (h2 : c ≤ 9223372036854775807) (p : Nat) (w : World) (hp : GrdAt w p 0 G) (hpl : p < w.heap.size) (hG : GdOk G) :
    Calls Tryd.prog 67 #[.pointer (some ⟨p, 0, none⟩), .int .i64 c] w fun e w' => e = .returned (.bool (holdB G (c.tmod 8) (c.tdiv 8))) ∧ Below w.heap.size w w' := by
  have Hp := Lib.hid hp
  have HG := Lib.hid hG
  clear hp hG
  go_enter Tryd.func67, Tryd.ntmps67
  go_wp2_with (first | (go_at_call 75; refine (placeOf_int c h1 h2 _).mono ?_; rintro e w1 ⟨rfl, hb1⟩) | (go_at_call 76; refine (holds_any G _ _ p w1 (Hp.out.below hb1 hpl) (by have := hb1.size; omega) HG.out).mono ?_; rintro e w2 ⟨rfl, hb2⟩))
  go_ret
  exact ⟨rfl, hb1.trans (hb2.mono hb1.size)⟩

set_option maxRecDepth 100000 in
set_option maxHeartbeats 1000000 in
theorem checkCell_any (G : Gd) (c : Int) (h1 : -9223372036854775808 ≤ c) (h2 : c ≤ 9223372036854775807) (p : Nat) (w : World) (hp : GrdAt w p 0 G) (hpl : p < w.heap.size) (hG : GdOk G) (hT : TabAt w) :
    Calls Tryd.prog 41 #[.pointer (some ⟨p, 0, none⟩), .int .i64 c] w fun e w' => e = .returned (.int .i64 (askedN G c)) ∧ Below w.heap.size w w' := by
  have r1 := hp.range
  have Hp := Lib.hid hp
  have HG := Lib.hid hG
  have HT := Lib.hid hT
  clear hp hG hT
  cases hv : validB G
  · have R := Lib.hid (show askedN G c = 1 by simp [askedN, hv])
    have Hv := Lib.hid hv
    clear hv
    go_enter Tryd.func41, Tryd.ntmps41
    go_wp2_with (first | (refine wpList_load_mid rfl 32 _ rfl p 0 rfl (GrdL G) _ r1 Tryd.underlying32 rfl (by rw [GrdL_length]; exact infoGround) ?_) | (go_at_call 29; have hc := (validGround_any G w HG.out HT.out (tab_lt HT.out)); rw [Hv.out] at hc; refine hc.mono ?_; clear hc; rintro e w1 ⟨rfl, hb1⟩))
    go_ret
    exact ⟨ret_i64 R.out.symm, hb1⟩
  · have hh := hold_in G c hv
    cases hi : inB G c
    · have R := Lib.hid (show askedN G c = 2 by simp [askedN, hv, hi])
      have Hv := Lib.hid hv
      have Hi := Lib.hid (hh.trans hi)
      clear hv hi hh
      go_enter Tryd.func41, Tryd.ntmps41
      go_wp2_with (first | (refine wpList_load_mid rfl 32 _ rfl p 0 rfl (GrdL G) _ r1 Tryd.underlying32 rfl (by rw [GrdL_length]; exact infoGround) ?_) | (go_at_call 29; have hc := (validGround_any G w HG.out HT.out (tab_lt HT.out)); rw [Hv.out] at hc; refine hc.mono ?_; clear hc; rintro e w1 ⟨rfl, hb1⟩) | (go_at_call 67; have hc := (hasCell_any G c h1 h2 p w1 (Hp.out.below hb1 hpl) (by have := hb1.size; omega) HG.out); rw [Hi.out] at hc; refine hc.mono ?_; clear hc; rintro e w2 ⟨rfl, hb2⟩))
      go_ret
      exact ⟨ret_i64 R.out.symm, hb1.trans (hb2.mono hb1.size)⟩
    · have R := Lib.hid (show askedN G c = 0 by simp [askedN, hv, hi])
      have Hv := Lib.hid hv
      have Hi := Lib.hid (hh.trans hi)
      clear hv hi hh
      go_enter Tryd.func41, Tryd.ntmps41
      go_wp2_with (first | (refine wpList_load_mid rfl 32 _ rfl p 0 rfl (GrdL G) _ r1 Tryd.underlying32 rfl (by rw [GrdL_length]; exact infoGround) ?_) | (go_at_call 29; have hc := (validGround_any G w HG.out HT.out (tab_lt HT.out)); rw [Hv.out] at hc; refine hc.mono ?_; clear hc; rintro e w1 ⟨rfl, hb1⟩) | (go_at_call 67; have hc := (hasCell_any G c h1 h2 p w1 (Hp.out.below hb1 hpl) (by have := hb1.size; omega) HG.out); rw [Hi.out] at hc; refine hc.mono ?_; clear hc; rintro e w2 ⟨rfl, hb2⟩))
      go_ret
      exact ⟨ret_i64 R.out.symm, hb1.trans (hb2.mono hb1.size)⟩

theorem isSide_any (s : Int) (w : World) : Calls Tryd.prog 73 #[.int .i64 s] w fun e w' => e = .returned (.bool (sideB s)) ∧ w = w' := by
  by_cases h : 0 ≤ s
  · go_enter Tryd.func73, Tryd.ntmps73
    go_wp2
    go_ret
    exact ⟨ret_bool (by simp [sideB, h]), rfl⟩
  · have d : decide (0 ≤ s) = false := by simpa using h
    go_enter Tryd.func73, Tryd.ntmps73
    go_wp2
    go_ret
    exact ⟨ret_bool (by simp [sideB]; omega), rfl⟩

set_option maxRecDepth 100000 in
theorem checkSide_any (G : Gd) (c s : Int) (h1 : -9223372036854775808 ≤ c) (h2 : c ≤ 9223372036854775807) (p : Nat) (w : World) (hp : GrdAt w p 0 G) (hpl : p < w.heap.size) (hG : GdOk G) (hT : TabAt w) :
    Calls Tryd.prog 46 #[.pointer (some ⟨p, 0, none⟩), .int .i64 c, .int .i64 s] w fun e w' => e = .returned (.int .i64 (sidedN G c s)) ∧ Below w.heap.size w w' := by
  have Hp := Lib.hid hp
  have HG := Lib.hid hG
  have HT := Lib.hid hT
  clear hp hG hT
  by_cases ha : askedN G c = 0
  · cases hs : sideB s
    · have R := Lib.hid (show sidedN G c s = 2 by simp [sidedN, ha, hs])
      have Ha := Lib.hid ha
      have Hs := Lib.hid hs
      clear ha hs
      go_enter Tryd.func46, Tryd.ntmps46
      go_wp2_with (first | (go_at_call 41; have hc := (checkCell_any G c h1 h2 p _ Hp.out hpl HG.out HT.out); rw [Ha.out] at hc; refine hc.mono ?_; clear hc; rintro e w1 ⟨rfl, hb1⟩) | (go_at_call 73; have hc := (isSide_any s w1); rw [Hs.out] at hc; refine hc.mono ?_; clear hc; rintro e w' ⟨rfl, rfl⟩))
      go_ret
      exact ⟨ret_i64 R.out.symm, hb1⟩
    · have R := Lib.hid (show sidedN G c s = 0 by simp [sidedN, ha, hs])
      have Ha := Lib.hid ha
      have Hs := Lib.hid hs
      clear ha hs
      go_enter Tryd.func46, Tryd.ntmps46
      go_wp2_with (first | (go_at_call 41; have hc := (checkCell_any G c h1 h2 p _ Hp.out hpl HG.out HT.out); rw [Ha.out] at hc; refine hc.mono ?_; clear hc; rintro e w1 ⟨rfl, hb1⟩) | (go_at_call 73; have hc := (isSide_any s w1); rw [Hs.out] at hc; refine hc.mono ?_; clear hc; rintro e w' ⟨rfl, rfl⟩))
      go_ret
      exact ⟨ret_i64 R.out.symm, hb1⟩
  · have R := Lib.hid (show sidedN G c s = askedN G c by simp [sidedN, ha])
    have hne : (askedN G c == 0) = false := by simpa using ha
    go_enter Tryd.func46, Tryd.ntmps46
    go_wp2_with (go_at_call 41; refine (checkCell_any G c h1 h2 p _ Hp.out hpl HG.out HT.out).mono ?_; rintro e w1 ⟨rfl, hb1⟩)
    go_ret
    exact ⟨ret_i64 R.out.symm, hb1⟩
end
end Go.Proofs.YtjhaonfdapldcaaDoor
