/- The model's l01Ok: whether a ground is valid. No condition. -/
import Derived.Test.YtcfkkceidlpdkaaDoorCom
import Derived.Test.YtcfkkceidlpdkaaDoorOkG
import Derived.Test.YtcfkkceidlpdkaaDoorBits
import Derived.WalkLawsBesides
import Derived.Laws.Bits64b
namespace Go.Proofs.YtcfkkceidlpdkaaDoor
open Go.RowKit
set_option linter.unusedSimpArgs false

/-- A number is plain. -/
def plainB (b : Nat) : Bool := (FloatKind.f32.format.order b 3380609024 == some Ordering.gt || FloatKind.f32.format.order b 3380609024 == some Ordering.eq) && (FloatKind.f32.format.order b 1233125376 == some Ordering.lt || FloatKind.f32.format.order b 1233125376 == some Ordering.eq)
/-- A number is 0 or -0. -/
def zeroB (b : Nat) : Bool := FloatKind.f32.format.order b 0 == some Ordering.eq
/-- A number is less than 0. -/
def negB (b : Nat) : Bool := FloatKind.f32.format.order b 0 == some Ordering.lt

theorem l01Plain_is (b : Nat) (r : Bool) (h : plainB b = r) (w : World) : Calls Tryd.prog 69 #[.float .f32 b] w fun e w' => e = .returned (.bool r) ∧ w' = w := by
  subst h
  go_enter Tryd.func69, Tryd.ntmps69
  go_wp2
  all_goals (go_ret; refine ⟨ret_bool ?_, rfl⟩)
  · rename_i h
    simp [plainB, h]
  · rename_i h
    simp [plainB, h]

/-- There is a cell with a number. -/
def isB (G : Gd) (i : Nat) : Bool := decide (((i % 8 : Nat) : Int) < G.wide) && decide (((i / 8 : Nat) : Int) < G.high)

theorem GdOk.wide' {G : Gd} (h : GdOk G) : -128 ≤ G.wide ∧ G.wide ≤ 127 := ⟨h.wide.1, h.wide.2⟩
theorem GdOk.high' {G : Gd} (h : GdOk G) : -128 ≤ G.high ∧ G.high ≤ 127 := ⟨h.high.1, h.high.2⟩
theorem GdOk.x' {G : Gd} (h : GdOk G) : 0 ≤ G.x ∧ G.x ≤ 18446744073709551615 := ⟨h.x.1, h.x.2⟩

theorem l01Is_is (G : Gd) (i : Nat) (hi : i < 64) (r : Bool) (h : isB G i = r) (p : Nat) (w : World) (hp : GrdAt w p 0 G) (hG : GdOk G) :
    Calls Tryd.prog 61 #[.pointer (some ⟨p, 0, none⟩), .int .i64 i] w fun e w' => e = .returned (.bool r) ∧ w' = w := by
  subst h
  have a0 := hp.wide; have a1 := hp.high
  rw [Nat.zero_add] at a1
  obtain ⟨k0, k0'⟩ := hG.wide'
  obtain ⟨k1, k1'⟩ := hG.high'
  clear hp hG
  go_enter Tryd.func61, Tryd.ntmps61
  go_wp2
  all_goals (rename_i h; go_ret; refine ⟨ret_bool ?_, rfl⟩)
  · simp [isB, h]
  · have : ¬ ((i : Int) % 8 < G.wide) := by omega
    simp [isB, this]

/-- All numbers of a field are as they must be. -/
def okAt (G : Gd) (f : Nat → Nat) (i : Nat) : Bool := if isB G i = true then plainB (f i) else zeroB (f i)
def fieldB (G : Gd) (f : Nat → Nat) : Bool := (List.range 64).all fun i => okAt G f i
theorem all_yes {p : Nat → Bool} (h : ∀ i, i < 64 → p i = true) : (List.range 64).all p = true := by
  simp only [List.all_eq_true, List.mem_range]
  exact h
theorem all_no {p : Nat → Bool} (k : Nat) (hk : k < 64) (h : p k = false) : (List.range 64).all p = false := by
  cases hs : (List.range 64).all p with
  | false => rfl
  | true =>
    simp only [List.all_eq_true, List.mem_range] at hs
    rw [hs k hk] at h
    cases h
/-- The first k are so. -/
def upto (p : Nat → Bool) (k : Nat) : Prop := ∀ i, i < k → p i = true
theorem upto_zero (p : Nat → Bool) : upto p 0 := fun i hi => by omega
theorem upto_snoc {p : Nat → Bool} {k : Nat} (h : upto p k) (hs : p k = true) : upto p (k + 1) := fun i hi => by
  by_cases e : i = k
  · subst e; exact hs
  · exact h i (by omega)

set_option maxRecDepth 100000 in
set_option maxHeartbeats 1000000 in
theorem l01Field_any (G : Gd) (f : Nat → Nat) (p q o : Nat) (w : World) (hp : GrdAt w p 0 G) (hG : GdOk G) (hq : w.rangeAt q o (Fld f).toList) :
    Calls Tryd.prog 88 #[.pointer (some ⟨p, 0, none⟩), .pointer (some ⟨q, o, none⟩)] w fun e w' => e = .returned (.bool (fieldB G f)) ∧ w' = w := by
  have cq := Grd_fld hq
  have Cq := Lib.hid cq
  have Hp := Lib.hid hp
  have HG := Lib.hid hG
  clear cq hq hp hG
  go_enter Tryd.func88, Tryd.ntmps88
  go_wp2
  go_loop [5] (fun i => ∃ k : Nat, k ≤ 64 ∧ i = .int .i64 k ∧ Hid (upto (okAt G f) k)) (fun i => 64 - (intOf i).toNat)
  case atStart => exact ⟨0, by omega, rfl, upto_zero _⟩
  case round =>
    obtain ⟨k, hk, rfl, hT⟩ := hrel
    by_cases hlt : k < 64
    · have h1 := Cq.out k hlt
      cases hi : isB G k
      · cases hz : zeroB (f k)
        · have Hk := Lib.hid (show okAt G f k = false by simp [okAt, hi, hz])
          have Hi := Lib.hid hi
          have z1 : (FloatKind.f32.format.order (f k) 0 != some Ordering.eq) = true := by simpa [zeroB, bne] using hz
          clear hi hz
          go_wp2_with (go_at_call 61; refine (l01Is_is G k hlt false Hi.out _ _ Hp.out HG.out).mono ?_; rintro e w' ⟨rfl, rfl⟩)
          go_ret
          exact ⟨ret_bool (all_no k hlt Hk.out).symm, rfl⟩
        · have Hk := Lib.hid (show okAt G f k = true by simp [okAt, hi, hz])
          have Hi := Lib.hid hi
          have z1 : (FloatKind.f32.format.order (f k) 0 != some Ordering.eq) = false := by simpa [zeroB, bne] using hz
          clear hi hz
          go_wp2_with (go_at_call 61; refine (l01Is_is G k hlt false Hi.out _ _ Hp.out HG.out).mono ?_; rintro e w' ⟨rfl, rfl⟩)
          go_round
          case rel => exact ⟨k + 1, by omega, by go_num, upto_snoc hT Hk.out⟩
          case measure => simp [intOf]; omega
      · cases hz : plainB (f k)
        · have Hk := Lib.hid (show okAt G f k = false by simp [okAt, hi, hz])
          have Hi := Lib.hid hi
          have Hz := Lib.hid hz
          clear hi hz
          go_wp2_with (first | (go_at_call 61; refine (l01Is_is G k hlt true Hi.out _ _ Hp.out HG.out).mono ?_; rintro e w' ⟨rfl, rfl⟩) | (go_at_call 69; refine (l01Plain_is (f k) false Hz.out _).mono ?_; rintro e w' ⟨rfl, rfl⟩))
          go_ret
          exact ⟨ret_bool (all_no k hlt Hk.out).symm, rfl⟩
        · have Hk := Lib.hid (show okAt G f k = true by simp [okAt, hi, hz])
          have Hi := Lib.hid hi
          have Hz := Lib.hid hz
          clear hi hz
          go_wp2_with (first | (go_at_call 61; refine (l01Is_is G k hlt true Hi.out _ _ Hp.out HG.out).mono ?_; rintro e w' ⟨rfl, rfl⟩) | (go_at_call 69; refine (l01Plain_is (f k) true Hz.out _).mono ?_; rintro e w' ⟨rfl, rfl⟩))
          go_round
          case rel => exact ⟨k + 1, by omega, by go_num, upto_snoc hT Hk.out⟩
          case measure => simp [intOf]; omega
    · obtain rfl : k = 64 := by omega
      go_wp2
      go_ret
      exact ⟨ret_bool (all_yes hT).symm, rfl⟩

/-- The bits of the first k numbers that are cells. -/
def cellsTo (G : Gd) : Nat → Nat
  | 0 => 0
  | k + 1 => if isB G k = true then cellsTo G k ||| 2 ^ k else cellsTo G k
theorem cellsTo_lt (G : Gd) : ∀ k, k ≤ 64 → cellsTo G k < 2 ^ 64
  | 0, _ => by simp [cellsTo]
  | k + 1, h => by
    have := cellsTo_lt G k (by omega)
    unfold cellsTo
    split
    · exact Nat.or_lt_two_pow this (Nat.pow_lt_pow_right (by decide) (by omega))
    · exact this
theorem cellsTo_testBit (G : Gd) (i : Nat) : ∀ k, (cellsTo G k).testBit i = (decide (i < k) && isB G i)
  | 0 => by simp [cellsTo]
  | k + 1 => by
    have := cellsTo_testBit G i k
    unfold cellsTo
    split
    · rename_i h
      rw [Nat.testBit_or, this, Nat.testBit_two_pow]
      by_cases e : k = i
      · subst e; simp [h]
      · have : (i < k + 1) ↔ (i < k) := by omega
        simp [e, this]
    · rename_i h
      rw [this]
      by_cases e : k = i
      · subst e; simp at h; simp [h]
      · have : (i < k + 1) ↔ (i < k) := by omega
        simp [this]
def cellsN (G : Gd) : Nat := cellsTo G 64
theorem cellsN_lt (G : Gd) : cellsN G < 18446744073709551616 := cellsTo_lt G 64 (by decide)
theorem cellsN_testBit (G : Gd) (i : Nat) : (cellsN G).testBit i = (decide (i < 64) && isB G i) := cellsTo_testBit G i 64

theorem wrap_pow (k : Nat) (hk : k < 64) : IntKind.u64.wrap (2 ^ k) = ((2 ^ k : Nat) : Int) := by
  have h1 : 2 ^ k < 18446744073709551616 := by
    have : 2 ^ k < 2 ^ 64 := Nat.pow_lt_pow_right (by decide) hk
    simpa using this
  have h2 : ((2 : Int) ^ k) = ((2 ^ k : Nat) : Int) := by simp
  rw [h2, IntKind.wrap_u64]
  generalize 2 ^ k = n at h1
  omega
theorem or_bit (x k : Nat) (hx : x < 18446744073709551616) (hk : k < 64) : bits .or .u64 (x : Int) (IntKind.u64.wrap (2 ^ k)) = ((x ||| 2 ^ k : Nat) : Int) := by
  rw [wrap_pow k hk]
  refine bits_or_u64_nat x _ hx ?_
  have : 2 ^ k < 2 ^ 64 := Nat.pow_lt_pow_right (by decide) hk
  simpa using this

set_option maxRecDepth 100000 in
theorem l01Cells_any (G : Gd) (p : Nat) (w : World) (hp : GrdAt w p 0 G) (hG : GdOk G) :
    Calls Tryd.prog 89 #[.pointer (some ⟨p, 0, none⟩)] w fun e w' => e = .returned (.int .u64 (cellsN G)) ∧ w' = w := by
  have Hp := Lib.hid hp
  have HG := Lib.hid hG
  clear hp hG
  go_enter Tryd.func89, Tryd.ntmps89
  go_wp2
  go_loop [3, 4] (fun m i => ∃ k : Nat, k ≤ 64 ∧ i = .int .i64 k ∧ m = .int .u64 (cellsTo G k)) (fun _ i => 64 - (intOf i).toNat)
  case atStart => exact ⟨0, by omega, rfl, rfl⟩
  case round =>
    obtain ⟨k, hk, rfl, rfl⟩ := hrel
    by_cases hlt : k < 64
    · cases hi : isB G k
      · have Hi := Lib.hid hi
        have E := Lib.hid (show cellsTo G (k + 1) = cellsTo G k by simp [cellsTo, hi])
        clear hi
        go_wp2_with (go_at_call 61; refine (l01Is_is G k hlt false Hi.out _ _ Hp.out HG.out).mono ?_; rintro e w' ⟨rfl, rfl⟩)
        go_round
        case rel => exact ⟨k + 1, by omega, by go_num, by rw [E.out]⟩
        case measure => simp [intOf]; omega
      · have Hi := Lib.hid hi
        have E := Lib.hid (show cellsTo G (k + 1) = cellsTo G k ||| 2 ^ k by simp [cellsTo, hi])
        have O := Lib.hid (or_bit (cellsTo G k) k (cellsTo_lt G k hk) hlt)
        clear hi
        go_wp2_with (go_at_call 61; refine (l01Is_is G k hlt true Hi.out _ _ Hp.out HG.out).mono ?_; rintro e w' ⟨rfl, rfl⟩)
        go_round
        case rel => exact ⟨k + 1, by omega, by go_num, by rw [E.out, O.out]⟩
        case measure => simp [intOf]; omega
    · obtain rfl : k = 64 := by omega
      go_wp2
      go_ret
      exact ⟨rfl, rfl⟩

/-- A ground's width and height fit. -/
def extB (G : Gd) : Bool := decide (2 ≤ G.wide) && decide (G.wide ≤ 8) && (decide (2 ≤ G.high) && decide (G.high ≤ 8))
def noNeg (G : Gd) : Bool := (List.range 64).all fun i => !negB (G.c i)

def fixB (G : Gd) : Bool := bits .andNot .u64 G.x (cellsN G) == 0
/-- A ground is valid. -/
def validB (G : Gd) : Bool := extB G && (fieldB G G.c && (fieldB G G.g && (fieldB G G.h && (noNeg G && ((G.x != 0) && fixB G)))))

theorem l01Field_is (G : Gd) (f : Nat → Nat) (r : Bool) (h : fieldB G f = r) (p q o : Nat) (w : World) (hp : GrdAt w p 0 G) (hG : GdOk G) (hq : w.rangeAt q o (Fld f).toList) :
    Calls Tryd.prog 88 #[.pointer (some ⟨p, 0, none⟩), .pointer (some ⟨q, o, none⟩)] w fun e w' => e = .returned (.bool r) ∧ w' = w := by
  subst h
  exact l01Field_any G f p q o w hp hG hq

set_option maxRecDepth 100000 in
theorem l01Ok_w1 (G : Gd) (p : Nat) (w : World) (hp : GrdAt w p 0 G) (hG : GdOk G) (e : G.wide < 2) :
    Calls Tryd.prog 55 #[.pointer (some ⟨p, 0, none⟩)] w fun e w' => e = .returned (.bool false) ∧ Quiet w w' := by
  have a0 := hp.wide; have a1 := hp.high
  rw [Nat.zero_add] at a1
  obtain ⟨k0, k0'⟩ := hG.wide'
  obtain ⟨k1, k1'⟩ := hG.high'
  clear hp hG
  go_enter Tryd.func55, Tryd.ntmps55
  go_wp2_with (go_at_call 79; go_in)
  go_ret
  exact ⟨rfl, Quiet.refl _⟩

set_option maxRecDepth 100000 in
theorem l01Ok_w2 (G : Gd) (p : Nat) (w : World) (hp : GrdAt w p 0 G) (hG : GdOk G) (e0 : 2 ≤ G.wide) (e : 8 < G.wide) :
    Calls Tryd.prog 55 #[.pointer (some ⟨p, 0, none⟩)] w fun e w' => e = .returned (.bool false) ∧ Quiet w w' := by
  have a0 := hp.wide; have a1 := hp.high
  rw [Nat.zero_add] at a1
  obtain ⟨k0, k0'⟩ := hG.wide'
  obtain ⟨k1, k1'⟩ := hG.high'
  have e' : decide (G.wide ≤ 8) = false := by simpa using e
  clear hp hG
  go_enter Tryd.func55, Tryd.ntmps55
  go_wp2_with (go_at_call 79; go_in)
  go_ret
  exact ⟨rfl, Quiet.refl _⟩

set_option maxRecDepth 100000 in
theorem l01Ok_h1 (G : Gd) (p : Nat) (w : World) (hp : GrdAt w p 0 G) (hG : GdOk G) (e0 : 2 ≤ G.wide) (e1 : G.wide ≤ 8) (e : G.high < 2) :
    Calls Tryd.prog 55 #[.pointer (some ⟨p, 0, none⟩)] w fun e w' => e = .returned (.bool false) ∧ Quiet w w' := by
  have a0 := hp.wide; have a1 := hp.high
  rw [Nat.zero_add] at a1
  obtain ⟨k0, k0'⟩ := hG.wide'
  obtain ⟨k1, k1'⟩ := hG.high'
  clear hp hG
  go_enter Tryd.func55, Tryd.ntmps55
  go_wp2_with (go_at_call 79; go_in)
  go_ret
  exact ⟨rfl, Quiet.refl _⟩

set_option maxRecDepth 100000 in
theorem l01Ok_h2 (G : Gd) (p : Nat) (w : World) (hp : GrdAt w p 0 G) (hG : GdOk G) (e0 : 2 ≤ G.wide) (e1 : G.wide ≤ 8) (e2 : 2 ≤ G.high) (e : 8 < G.high) :
    Calls Tryd.prog 55 #[.pointer (some ⟨p, 0, none⟩)] w fun e w' => e = .returned (.bool false) ∧ Quiet w w' := by
  have a0 := hp.wide; have a1 := hp.high
  rw [Nat.zero_add] at a1
  obtain ⟨k0, k0'⟩ := hG.wide'
  obtain ⟨k1, k1'⟩ := hG.high'
  have e' : decide (G.high ≤ 8) = false := by simpa using e
  clear hp hG
  go_enter Tryd.func55, Tryd.ntmps55
  go_wp2_with (go_at_call 79; go_in)
  go_ret
  exact ⟨rfl, Quiet.refl _⟩

set_option maxRecDepth 100000 in
set_option maxHeartbeats 1000000 in
theorem l01Ok_c (G : Gd) (p : Nat) (w : World) (hp : GrdAt w p 0 G) (hG : GdOk G) (e1 : 2 ≤ G.wide) (e2 : G.wide ≤ 8) (e3 : 2 ≤ G.high) (e4 : G.high ≤ 8) (Sc : Hid (fieldB G G.c = false)) :
    Calls Tryd.prog 55 #[.pointer (some ⟨p, 0, none⟩)] w fun e w' => e = .returned (.bool false) ∧ Quiet w w' := by
  have a0 := hp.wide; have a1 := hp.high; have a5 := hp.x
  rw [Nat.zero_add] at a1 a5
  have x' := hG.x'
  have Hp := Lib.hid hp
  have HG := Lib.hid hG
  have rc := Lib.hid hp.c
  have rg := Lib.hid hp.g
  have rh := Lib.hid hp.h
  clear hp hG
  go_enter Tryd.func55, Tryd.ntmps55
  have tk0 : True := trivial
  have tk1 : True := trivial
  have tk2 : True := trivial
  go_wp2_with (first | (go_at_call 79; go_in) | (have _t := tk0; go_at_call 88; refine (l01Field_is G G.c false Sc.out _ _ _ _ Hp.out HG.out rc.out).mono ?_; rintro e w' ⟨rfl, rfl⟩; clear tk0))
  go_ret
  exact ⟨rfl, Quiet.refl _⟩

set_option maxRecDepth 100000 in
set_option maxHeartbeats 1000000 in
theorem l01Ok_g (G : Gd) (p : Nat) (w : World) (hp : GrdAt w p 0 G) (hG : GdOk G) (e1 : 2 ≤ G.wide) (e2 : G.wide ≤ 8) (e3 : 2 ≤ G.high) (e4 : G.high ≤ 8) (Sc : Hid (fieldB G G.c = true)) (Sg : Hid (fieldB G G.g = false)) :
    Calls Tryd.prog 55 #[.pointer (some ⟨p, 0, none⟩)] w fun e w' => e = .returned (.bool false) ∧ Quiet w w' := by
  have a0 := hp.wide; have a1 := hp.high; have a5 := hp.x
  rw [Nat.zero_add] at a1 a5
  have x' := hG.x'
  have Hp := Lib.hid hp
  have HG := Lib.hid hG
  have rc := Lib.hid hp.c
  have rg := Lib.hid hp.g
  have rh := Lib.hid hp.h
  clear hp hG
  go_enter Tryd.func55, Tryd.ntmps55
  have tk0 : True := trivial
  have tk1 : True := trivial
  have tk2 : True := trivial
  go_wp2_with (first | (go_at_call 79; go_in) | (have _t := tk0; go_at_call 88; refine (l01Field_is G G.c true Sc.out _ _ _ _ Hp.out HG.out rc.out).mono ?_; rintro e w' ⟨rfl, rfl⟩; clear tk0) | (have _t := tk1; go_at_call 88; refine (l01Field_is G G.g false Sg.out _ _ _ _ Hp.out HG.out rg.out).mono ?_; rintro e w' ⟨rfl, rfl⟩; clear tk1))
  go_ret
  exact ⟨rfl, Quiet.refl _⟩

set_option maxRecDepth 100000 in
set_option maxHeartbeats 1000000 in
theorem l01Ok_h (G : Gd) (p : Nat) (w : World) (hp : GrdAt w p 0 G) (hG : GdOk G) (e1 : 2 ≤ G.wide) (e2 : G.wide ≤ 8) (e3 : 2 ≤ G.high) (e4 : G.high ≤ 8) (Sc : Hid (fieldB G G.c = true)) (Sg : Hid (fieldB G G.g = true)) (Sh : Hid (fieldB G G.h = false)) :
    Calls Tryd.prog 55 #[.pointer (some ⟨p, 0, none⟩)] w fun e w' => e = .returned (.bool false) ∧ Quiet w w' := by
  have a0 := hp.wide; have a1 := hp.high; have a5 := hp.x
  rw [Nat.zero_add] at a1 a5
  have x' := hG.x'
  have Hp := Lib.hid hp
  have HG := Lib.hid hG
  have rc := Lib.hid hp.c
  have rg := Lib.hid hp.g
  have rh := Lib.hid hp.h
  clear hp hG
  go_enter Tryd.func55, Tryd.ntmps55
  have tk0 : True := trivial
  have tk1 : True := trivial
  have tk2 : True := trivial
  go_wp2_with (first | (go_at_call 79; go_in) | (have _t := tk0; go_at_call 88; refine (l01Field_is G G.c true Sc.out _ _ _ _ Hp.out HG.out rc.out).mono ?_; rintro e w' ⟨rfl, rfl⟩; clear tk0) | (have _t := tk1; go_at_call 88; refine (l01Field_is G G.g true Sg.out _ _ _ _ Hp.out HG.out rg.out).mono ?_; rintro e w' ⟨rfl, rfl⟩; clear tk1) | (have _t := tk2; go_at_call 88; refine (l01Field_is G G.h false Sh.out _ _ _ _ Hp.out HG.out rh.out).mono ?_; rintro e w' ⟨rfl, rfl⟩; clear tk2))
  go_ret
  exact ⟨rfl, Quiet.refl _⟩

theorem noNeg_no {G : Gd} {k : Nat} (hk : k < 64) (h : negB (G.c k) = true) : noNeg G = false := all_no k hk (by simp [h])
theorem noNeg_yes {G : Gd} (h : upto (fun i => !negB (G.c i)) 64) : noNeg G = true := all_yes h

/-- What the model's l01Ok says behind its fields. -/
def restB (G : Gd) : Bool := noNeg G && ((G.x != 0) && fixB G)

set_option maxRecDepth 100000 in
set_option maxHeartbeats 1000000 in
theorem l01Ok_rest (G : Gd) (p : Nat) (w : World) (hp : GrdAt w p 0 G) (hG : GdOk G) (e1 : 2 ≤ G.wide) (e2 : G.wide ≤ 8) (e3 : 2 ≤ G.high) (e4 : G.high ≤ 8) (Sc : Hid (fieldB G G.c = true)) (Sg : Hid (fieldB G G.g = true)) (Sh : Hid (fieldB G G.h = true)) :
    Calls Tryd.prog 55 #[.pointer (some ⟨p, 0, none⟩)] w fun e w' => e = .returned (.bool (restB G)) ∧ Quiet w w' := by
  have cq := Grd_fld hp.c
  have Cq := Lib.hid cq
  clear cq
  have a0 := hp.wide; have a1 := hp.high; have a5 := hp.x
  rw [Nat.zero_add] at a1 a5
  have x' := hG.x'
  have Hp := Lib.hid hp
  have HG := Lib.hid hG
  have rc := Lib.hid hp.c
  have rg := Lib.hid hp.g
  have rh := Lib.hid hp.h
  clear hp hG
  go_enter Tryd.func55, Tryd.ntmps55
  have tk0 : True := trivial
  have tk1 : True := trivial
  have tk2 : True := trivial
  go_wp2_with (first | (go_at_call 79; go_in) | (have _t := tk0; go_at_call 88; refine (l01Field_is G G.c true Sc.out _ _ _ _ Hp.out HG.out rc.out).mono ?_; rintro e w' ⟨rfl, rfl⟩; clear tk0) | (have _t := tk1; go_at_call 88; refine (l01Field_is G G.g true Sg.out _ _ _ _ Hp.out HG.out rg.out).mono ?_; rintro e w' ⟨rfl, rfl⟩; clear tk1) | (have _t := tk2; go_at_call 88; refine (l01Field_is G G.h true Sh.out _ _ _ _ Hp.out HG.out rh.out).mono ?_; rintro e w' ⟨rfl, rfl⟩; clear tk2))
  go_loop [3] (fun i => ∃ k : Nat, k ≤ 64 ∧ i = .int .i64 k ∧ Hid (upto (fun i => !negB (G.c i)) k)) (fun i => 64 - (intOf i).toNat)
  case atStart => exact ⟨0, by omega, rfl, upto_zero _⟩
  case round =>
    obtain ⟨k, hk, rfl, hT⟩ := hrel
    by_cases hlt : k < 64
    · have h1 := Cq.out k hlt
      rw [Nat.zero_add] at h1
      cases hz : negB (G.c k)
      · have Hz := Lib.hid hz
        unfold negB at hz
        go_wp2
        go_round
        case rel => exact ⟨k + 1, by omega, by go_num, upto_snoc hT (by simp [Hz.out])⟩
        case measure => simp [intOf]; omega
      · have Hz := Lib.hid hz
        unfold negB at hz
        go_wp2
        go_ret
        exact ⟨ret_bool (by simp [restB, noNeg_no hlt Hz.out]), Quiet.refl _⟩
    · obtain rfl : k = 64 := by omega
      have R := Lib.hid (show restB G = ((G.x != 0) && fixB G) by simp [restB, noNeg_yes hT])
      cases hx : (G.x != 0)
      · go_wp2
        go_quiet (fail)
        go_wp2
        go_ret
        exact ⟨ret_bool (by rw [R.out, hx]; rfl), (Quiet.refl _).drewN _⟩
      · cases hf : fixB G
        · have hf' := hf
          unfold fixB at hf'
          have Hf := Lib.hid hf
          have Hx := Lib.hid hx
          clear hf
          go_wp2
          go_quiet ((go_at_call 89; exact Calls.quiet_of_same (l01Cells_any G _ _ (Quiet.grd ⟨_, rfl⟩ Hp.out) HG.out)))
          go_wp2
          go_ret
          exact ⟨ret_bool (by rw [R.out, Hx.out, Hf.out]; rfl), (Quiet.refl _).drewN _⟩
        · have hf' := hf
          unfold fixB at hf'
          have Hf := Lib.hid hf
          have Hx := Lib.hid hx
          clear hf
          go_wp2
          go_quiet ((go_at_call 89; exact Calls.quiet_of_same (l01Cells_any G _ _ (Quiet.grd ⟨_, rfl⟩ Hp.out) HG.out)))
          go_wp2
          go_ret
          exact ⟨ret_bool (by rw [R.out, Hx.out, Hf.out]; rfl), (Quiet.refl _).drewN _⟩

theorem l01Ok_any (G : Gd) (p : Nat) (w : World) (hp : GrdAt w p 0 G) (hG : GdOk G) :
    Calls Tryd.prog 55 #[.pointer (some ⟨p, 0, none⟩)] w fun e w' => e = .returned (.bool (validB G)) ∧ Quiet w w' := by
  have no : extB G = false → validB G = false := fun h => by simp [validB, h]
  by_cases e1 : 2 ≤ G.wide
  · by_cases e2 : G.wide ≤ 8
    · by_cases e3 : 2 ≤ G.high
      · by_cases e4 : G.high ≤ 8
        · have he : extB G = true := by simp [extB, e1, e2, e3, e4]
          cases sc : fieldB G G.c
          · rw [show validB G = false by simp [validB, sc]]
            exact l01Ok_c G p w hp hG e1 e2 e3 e4 sc
          cases sg : fieldB G G.g
          · rw [show validB G = false by simp [validB, sg]]
            exact l01Ok_g G p w hp hG e1 e2 e3 e4 sc sg
          cases sh : fieldB G G.h
          · rw [show validB G = false by simp [validB, sh]]
            exact l01Ok_h G p w hp hG e1 e2 e3 e4 sc sg sh
          rw [show validB G = restB G by simp [validB, restB, he, sc, sg, sh]]
          exact l01Ok_rest G p w hp hG e1 e2 e3 e4 sc sg sh
        · rw [no (by simp [extB, e4])]
          exact l01Ok_h2 G p w hp hG e1 e2 e3 (by omega)
      · rw [no (by simp [extB, e3])]
        exact l01Ok_h1 G p w hp hG e1 e2 (by omega)
    · rw [no (by simp [extB, e2])]
      exact l01Ok_w2 G p w hp hG e1 (by omega)
  · rw [no (by simp [extB, e1])]
    exact l01Ok_w1 G p w hp hG (by omega)
end Go.Proofs.YtcfkkceidlpdkaaDoor
