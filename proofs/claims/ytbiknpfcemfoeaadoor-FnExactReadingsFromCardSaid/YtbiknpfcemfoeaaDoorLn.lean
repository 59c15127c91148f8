/- The logarithm: the program's and the model's, for every number that is asked for. No condition but that. -/
import Derived.Test.YtbiknpfcemfoeaaDoorTwo
namespace Go.Proofs.YtbiknpfcemfoeaaDoor
open Go Go.RowKit Ieee
set_option linter.unusedSimpArgs false
set_option linter.unusedVariables false

/-- A number that is told, up to which NaN it is; only answers have been drawn. -/
def GvN (o : Option Nat) (w : World) (e : Ending) (w' : World) : Prop := ∃ r, e = .returned (.float .f32 r) ∧ num .f32 r = o ∧ Quiet w w'
/-- The same; what was there is as it was. -/
def GvB (o : Option Nat) (w : World) (e : Ending) (w' : World) : Prop := ∃ r, e = .returned (.float .f32 r) ∧ num .f32 r = o ∧ Below w.heap.size w w'

theorem half_fop {m : Nat} (h1 : 16777216 ≤ m) (h2 : m < 2139095040) : fop .f32 .quo (num .f32 m) (num .f32 1073741824) = some (m - 8388608) := by rw [fop_num]; exact half_div h1 h2
theorem twice_fop {m : Nat} (h1 : 8388608 ≤ m) (h2 : m < 2130706432) : fop .f32 .mul (num .f32 m) (num .f32 1073741824) = some (m + 8388608) := by rw [fop_num]; exact twice_mul h1 h2
theorem ord_pos {a b : Nat} (h1 : 8388608 ≤ a) (h2 : a < 2139095040) (h3 : 8388608 ≤ b) (h4 : b < 2139095040) : FloatKind.f32.format.order a b = some (compare a b) := pos_order h1 h2 h3 h4
theorem ge_pos {a b : Nat} (h1 : 8388608 ≤ a) (h2 : a < 2139095040) (h3 : 8388608 ≤ b) (h4 : b < 2139095040) : (FloatKind.f32.format.order a b == some Ordering.gt || FloatKind.f32.format.order a b == some Ordering.eq) = decide (b ≤ a) := by
  rw [ord_pos h1 h2 h3 h4]
  rcases Nat.lt_trichotomy a b with h | h | h
  · have : compare a b = .lt := by simp only [compare, compareOfLessAndEq]; rw [if_pos h]
    rw [this]; simp; omega
  · have : compare a b = .eq := by simp only [compare, compareOfLessAndEq]; rw [if_neg (by omega), if_pos h]
    rw [this]; simp; omega
  · have : compare a b = .gt := by simp only [compare, compareOfLessAndEq]; rw [if_neg (by omega), if_neg (by omega)]
    rw [this]; simp; omega
theorem lt_pos {a b : Nat} (h1 : 8388608 ≤ a) (h2 : a < 2139095040) (h3 : 8388608 ≤ b) (h4 : b < 2139095040) : (FloatKind.f32.format.order a b == some Ordering.lt) = decide (a < b) := by
  rw [ord_pos h1 h2 h3 h4]
  rcases Nat.lt_trichotomy a b with h | h | h
  · have : compare a b = .lt := by simp only [compare, compareOfLessAndEq]; rw [if_pos h]
    rw [this]; simp; omega
  · have : compare a b = .eq := by simp only [compare, compareOfLessAndEq]; rw [if_neg (by omega), if_pos h]
    rw [this]; simp; omega
  · have : compare a b = .gt := by simp only [compare, compareOfLessAndEq]; rw [if_neg (by omega), if_neg (by omega)]
    rw [this]; simp; omega

/-- How often a number is halved. -/
def lnUp (b : Nat) : Nat := if 1069547520 ≤ b then (b - 1069547520) / 8388608 + 1 else 0
/-- How often it is doubled then. -/
def lnDn (m : Nat) : Nat := if m < 1061158912 then (1061158911 - m) / 8388608 + 1 else 0
def lnM (b : Nat) : Nat := (b - lnUp b * 8388608) + lnDn (b - lnUp b * 8388608) * 8388608
def lnE (b : Nat) : Int := (lnUp b : Int) - (lnDn (b - lnUp b * 8388608) : Int)
/-- One step of a polynomial. -/
def pStep (q p c : Option Nat) : Option Nat := fop .f32 .add (fop .f32 .mul p q) c
/-- What comes of m. -/
def lnT (m : Nat) : Option Nat := fop .f32 .quo (fop .f32 .sub (num .f32 m) (num .f32 1065353216)) (fop .f32 .add (num .f32 m) (num .f32 1065353216))
def lnP (t : Option Nat) : Option Nat := pStep (fop .f32 .mul t t) (pStep (fop .f32 .mul t t) (pStep (fop .f32 .mul t t) (num .f32 1041385765) (num .f32 1045220557)) (num .f32 1051372203)) (num .f32 1065353216)
def lnW (m : Nat) (e : Int) : Option Nat := fop .f32 .add (fop .f32 .mul (num .f32 (floatOfInt .f32 e)) (num .f32 1060205080)) (fop .f32 .mul (num .f32 1073741824) (fop .f32 .mul (lnT m) (lnP (lnT m))))
def lnV (b : Nat) : Option Nat := lnW (lnM b) (lnE b)

set_option maxRecDepth 100000 in
set_option maxHeartbeats 1000000 in
theorem l03Ratio_any (a b c : Nat) (n d : Int) (hn : floatOfInt .f32 n = a) (hd : floatOfInt .f32 d = b) (hc : fop .f32 .quo (num .f32 a) (num .f32 b) = some c) (w : World) :
    Calls Tryd.prog 50 #[.int .i64 n, .int .i64 d] w fun e w' => e = .returned (.float .f32 c) ∧ Quiet w w' := by
  go_enter Tryd.func50, Tryd.ntmps50
  go_wp2_with (refine wpList_float rfl _ _ _ _ _ rfl rfl .f32 _ _ rfl rfl ?_; intro r n hr; have H := Lib.hid hr; clear hr)
  go_ret
  subst hn hd
  have e : r = c := (num_eq_some (H.out.trans hc)).1
  subst e
  exact ⟨rfl, n, rfl⟩


theorem product_comm (x y : Datum) : x.product y = y.product x := by
  cases x <;> cases y <;> simp [Datum.product, Bool.xor_comm, Nat.mul_comm, Int.add_comm]
theorem mul_comm32 (x y : Option Nat) : fop .f32 .mul x y = fop .f32 .mul y x := by
  cases x <;> cases y <;> simp [fop]
  show Format.mul single _ _ = Format.mul single _ _
  unfold Format.mul
  rw [product_comm]
theorem Quiet.drw {w w1 : World} (h : Quiet w w1) (n : Nat) : Quiet w (w1.drewN n) := h.drewN n
def geB (x c : Nat) : Bool := FloatKind.f32.format.order x c == some Ordering.gt || FloatKind.f32.format.order x c == some Ordering.eq
def ltB (x c : Nat) : Bool := FloatKind.f32.format.order x c == some Ordering.lt
/-- The numbers that both loops of the logarithm go through. -/
structure LnRun (f g : Nat → Nat) (U D : Nat) : Prop where
  up : ∀ n, n < U → geB (f n) 1069547520 = true
  half : ∀ n, n < U → fop .f32 .quo (num .f32 (f n)) (num .f32 1073741824) = some (f (n + 1))
  stop : geB (f U) 1069547520 = false
  mid : g 0 = f U
  dn : ∀ d, d < D → ltB (g d) 1061158912 = true
  twice : ∀ d, d < D → fop .f32 .mul (num .f32 (g d)) (num .f32 1073741824) = some (g (d + 1))
  halt : ltB (g D) 1061158912 = false
  few : U < 1000
  few2 : D < 1000

/-- A polynomial's value: the coefficients behind the first one. -/
def polyV (q : Option Nat) (p : Option Nat) (cs : List Nat) : Option Nat := cs.foldl (fun p c => pStep q p (num .f32 c)) p
theorem polyV_take (q p : Option Nat) (cs : List Nat) (k : Nat) (h : k < cs.length) : polyV q p (cs.take (k + 1)) = pStep q (polyV q p (cs.take k)) (num .f32 cs[k]) := by
  unfold polyV
  rw [List.take_succ_eq_append_getElem h, List.foldl_append]
  rfl

set_option maxRecDepth 100000 in
set_option maxHeartbeats 1000000 in
/-- The program's polynomial, over the coefficients that lie in a row. -/
theorem poly_any (x p : Nat) (cs : List Nat) (b : Nat) (w : World) (hl : cs.length < 100) (hc : w.rangeAt b 0 (cs.map fun c => Value.float .f32 c)) (o : Option Nat) (ho : polyV (num .f32 x) (num .f32 p) cs = o) (cap : Nat) :
    Calls Tryd.prog 113 #[.float .f32 x, .float .f32 p, .slice (some ⟨b, 0, none⟩) cs.length cap] w (GvN o w) := by
  have HC := Lib.hid hc
  have HO := Lib.hid ho
  clear hc ho
  go_enter Tryd.func113, Tryd.ntmps113
  go_wp2
  go_loopw [7, 13] (fun r i wr => ∃ k a : Nat, k ≤ cs.length ∧ i = .int .i64 (k : Int) ∧ r = .float .f32 a ∧ Hid (num .f32 a = polyV (num .f32 x) (num .f32 p) (cs.take k)) ∧ Hid (Quiet w wr)) (fun _ i _ => cs.length - (intOf i).toNat)
  case atStart => exact ⟨0, p, Nat.zero_le _, rfl, rfl, rfl, Quiet.refl _⟩
  case round =>
    obtain ⟨k, a, hk, rfl, rfl, ha, hQ⟩ := hrel
    by_cases hlt : k < cs.length
    · have c0 : w.cell? ⟨b, 0 + k, none⟩ = some (.float .f32 cs[k]) := HC.out k _ (by rw [List.getElem?_map, List.getElem?_eq_getElem hlt]; rfl)
      have c1 := (hQ.out.cell ⟨b, 0 + k, none⟩).trans c0
      rw [Nat.zero_add] at c1
      have E := Lib.hid (polyV_take (num .f32 x) (num .f32 p) cs k hlt)
      clear c0
      generalize hy : cs[k] = y at c1
      have t1 : True := trivial
      go_wp2_with (first | (have _t := t1; refine wpList_float rfl _ _ _ _ _ rfl rfl .f32 _ _ rfl rfl ?_; intro r1 n1 hr1; have H1 := Lib.hid hr1; clear t1 hr1) | (refine wpList_float rfl _ _ _ _ _ rfl rfl .f32 _ _ rfl rfl ?_; intro r2 n2 hr2; have H2 := Lib.hid hr2; clear hr2))
      go_roundw
      case rel => exact ⟨k + 1, r2, by omega, by go_num, rfl, (by rw [H2.out, H1.out, ha.out, E.out, hy]; rfl), (hQ.out.drewN _)⟩
      case measure => simp [intOf]; omega
    · obtain rfl : k = cs.length := by omega
      have ha2 := ha.out
      rw [List.take_length, HO.out] at ha2
      have HA := Lib.hid ha2
      clear ha2 ha
      go_wp2
      go_ret
      exact ⟨a, rfl, HA.out, hQ.out⟩

/-- The same of coefficients that have just been laid. -/
theorem poly_new (x p : Nat) (cs : List Nat) (t : TypeId) (V : World) (hl : cs.length < 100) (o : Option Nat) (ho : polyV (num .f32 x) (num .f32 p) cs = o) :
    Calls Tryd.prog 113 #[.float .f32 x, .float .f32 p, .slice (some ⟨V.heap.size, 0, none⟩) cs.length cs.length] (V.alloc (.cells (cs.map fun c => Value.float .f32 c).toArray t)) (GvB o V) := by
  refine (poly_any x p cs V.heap.size _ hl (rangeAt_row (heap_alloc_last _ _)) o ho cs.length).mono ?_
  rintro e w' ⟨r, h1, h2, h3⟩
  exact ⟨r, h1, h2, (((Below.refl _ _).alloc (Nat.le_refl _) _).trans (h3.below _))⟩

set_option maxRecDepth 100000 in
set_option maxHeartbeats 1000000 in
theorem l03Ln_run (f g : Nat → Nat) (U D : Nat) (hr : LnRun f g U D) (w : World) :
    Calls Tryd.prog 28 #[.float .f32 (f 0)] w (GvB (lnW (g D) ((U : Int) - (D : Int))) w) := by
  have HR := Lib.hid hr
  have hU := hr.few
  have hD := hr.few2
  clear hr
  go_enter Tryd.func28, Tryd.ntmps28
  go_wp2
  go_loopw [3, 4] (fun m e wr => ∃ n : Nat, n ≤ U ∧ m = .float .f32 (f n) ∧ e = .int .i64 (n : Int) ∧ Hid (Quiet w wr)) (fun _ e _ => U - (intOf e).toNat)
  case atStart => exact ⟨0, Nat.zero_le _, rfl, rfl, Quiet.refl _⟩
  case round =>
    obtain ⟨n, hn, rfl, rfl, hQ⟩ := hrel
    by_cases hlt : n < U
    · have ht := HR.out.up n hlt
      unfold geB at ht
      go_wp2_with (refine wpList_float rfl _ _ _ _ _ rfl rfl .f32 _ _ rfl rfl ?_; intro r k hr; have H := Lib.hid hr; clear hr)
      go_roundw
      case rel => exact ⟨n + 1, by omega, by rw [(num_eq_some (H.out.trans (HR.out.half n hlt))).1], by go_num, hQ.out.drewN k⟩
      case measure => simp [intOf]; omega
    · obtain rfl : n = U := by omega
      have ht := HR.out.stop
      unfold geB at ht
      go_wp2
      go_loopw [3, 4] (fun m e w2 => ∃ d : Nat, d ≤ D ∧ m = .float .f32 (g d) ∧ e = .int .i64 ((n : Int) - (d : Int)) ∧ Hid (Quiet w w2)) (fun _ e _ => ((intOf e) - (n : Int) + (D : Int)).toNat)
      case atStart => exact ⟨0, Nat.zero_le _, by rw [HR.out.mid], by simp, hQ.out⟩
      case round =>
        obtain ⟨d, hd, rfl, rfl, hQ2⟩ := hrel
        clear ht
        by_cases hlt2 : d < D
        · have hs := HR.out.dn d hlt2
          unfold ltB at hs
          go_wp2_with (refine wpList_float rfl _ _ _ _ _ rfl rfl .f32 _ _ rfl rfl ?_; intro r k hr; have H := Lib.hid hr; clear hr)
          go_roundw
          case rel => exact ⟨d + 1, by omega, by rw [(num_eq_some (H.out.trans (HR.out.twice d hlt2))).1], by go_num, hQ2.out.drewN k⟩
          case measure => simp [intOf]; omega
        · obtain rfl : d = D := by omega
          have hs := HR.out.halt
          unfold ltB at hs
          clear hlt hlt2 hn hd hQ
          have tc1 : True := trivial
          have tc2 : True := trivial
          have tc3 : True := trivial
          have t1 : True := trivial
          have t2 : True := trivial
          have t3 : True := trivial
          have t4 : True := trivial
          have t5 : True := trivial
          have t6 : True := trivial
          have t7 : True := trivial
          have t8 : True := trivial
          have t9 : True := trivial
          have t10 : True := trivial
          have t11 : True := trivial
          have t12 : True := trivial
          have t13 : True := trivial
          have t14 : True := trivial
          go_wp2_with (first | (have _t := tc1; go_at_call 50; refine (l03Ratio_any 1065353216 1088421888 1041385765 1 7 (by decide +kernel) (by decide +kernel) (by decide +kernel) _).mono ?_; rintro e Vc1 ⟨rfl, hqc1⟩; have Qc1 := Lib.hid hqc1; clear hqc1; clear tc1) | (have _t := tc2; go_at_call 50; refine (l03Ratio_any 1065353216 1084227584 1045220557 1 5 (by decide +kernel) (by decide +kernel) (by decide +kernel) _).mono ?_; rintro e Vc2 ⟨rfl, hqc2⟩; have Qc2 := Lib.hid hqc2; clear hqc2; clear tc2) | (have _t := tc3; go_at_call 50; refine (l03Ratio_any 1065353216 1077936128 1051372203 1 3 (by decide +kernel) (by decide +kernel) (by decide +kernel) _).mono ?_; rintro e Vc3 ⟨rfl, hqc3⟩; have Qc3 := Lib.hid hqc3; clear hqc3; clear tc3) | (have _t := t1; refine wpList_float rfl _ _ _ _ _ rfl rfl .f32 _ _ rfl rfl ?_; intro r1 n1 hr1; have H1 := Lib.hid hr1; clear t1 hr1) | (have _t := t2; refine wpList_float rfl _ _ _ _ _ rfl rfl .f32 _ _ rfl rfl ?_; intro r2 n2 hr2; have H2 := Lib.hid hr2; clear t2 hr2) | (have _t := t3; refine wpList_float rfl _ _ _ _ _ rfl rfl .f32 _ _ rfl rfl ?_; intro r3 n3 hr3; have H3 := Lib.hid hr3; clear t3 hr3) | (have _t := t4; refine wpList_float rfl _ _ _ _ _ rfl rfl .f32 _ _ rfl rfl ?_; intro r4 n4 hr4; have H4 := Lib.hid hr4; clear t4 hr4) | (have _t := t5; refine wpList_float rfl _ _ _ _ _ rfl rfl .f32 _ _ rfl rfl ?_; intro r5 n5 hr5; have H5 := Lib.hid hr5; clear t5 hr5) | (have _t := t6; refine wpList_float rfl _ _ _ _ _ rfl rfl .f32 _ _ rfl rfl ?_; intro r6 n6 hr6; have H6 := Lib.hid hr6; clear t6 hr6) | (have _t := t7; refine wpList_float rfl _ _ _ _ _ rfl rfl .f32 _ _ rfl rfl ?_; intro r7 n7 hr7; have H7 := Lib.hid hr7; clear t7 hr7) | (have _t := t8; refine wpList_float rfl _ _ _ _ _ rfl rfl .f32 _ _ rfl rfl ?_; intro r8 n8 hr8; have H8 := Lib.hid hr8; clear t8 hr8) | (have _t := t9; refine wpList_float rfl _ _ _ _ _ rfl rfl .f32 _ _ rfl rfl ?_; intro r9 n9 hr9; have H9 := Lib.hid hr9; clear t9 hr9) | (have _t := t10; refine wpList_float rfl _ _ _ _ _ rfl rfl .f32 _ _ rfl rfl ?_; intro r10 n10 hr10; have H10 := Lib.hid hr10; clear t10 hr10) | (have _t := t11; refine wpList_float rfl _ _ _ _ _ rfl rfl .f32 _ _ rfl rfl ?_; intro r11 n11 hr11; have H11 := Lib.hid hr11; clear t11 hr11) | (have _t := t12; refine wpList_float rfl _ _ _ _ _ rfl rfl .f32 _ _ rfl rfl ?_; intro r12 n12 hr12; have H12 := Lib.hid hr12; clear t12 hr12) | (have _t := t13; refine wpList_float rfl _ _ _ _ _ rfl rfl .f32 _ _ rfl rfl ?_; intro r13 n13 hr13; have H13 := Lib.hid hr13; clear t13 hr13) | (have _t := t14; refine wpList_float rfl _ _ _ _ _ rfl rfl .f32 _ _ rfl rfl ?_; intro r14 n14 hr14; have H14 := Lib.hid hr14; clear t14 hr14))
          go_ret
          refine ⟨r14, rfl, ?_, ?_⟩
          · rw [H14.out, H13.out, H12.out, H11.out, H10.out, H9.out, H8.out, H7.out, H6.out, H5.out, H4.out, H3.out, H2.out, H1.out, mul_comm32 _ (num .f32 1041385765)]
            rfl
          · exact Quiet.below (((((((hQ2.out.drewN _).trans Qc1.out).drewN _).trans Qc2.out).drewN _).trans Qc3.out).drewN _) _

set_option maxRecDepth 100000 in
set_option maxHeartbeats 1000000 in
theorem logarithm_run (f g : Nat → Nat) (U D : Nat) (hr : LnRun f g U D) (w : World) :
    Calls Tryd.prog 103 #[.float .f32 (f 0)] w (GvB (lnW (g D) ((U : Int) - (D : Int))) w) := by
  have HR := Lib.hid hr
  have hU := hr.few
  have hD := hr.few2
  clear hr
  go_enter Tryd.func103, Tryd.ntmps103
  go_wp2
  go_loopw [3, 4] (fun m e wr => ∃ n : Nat, n ≤ U ∧ m = .float .f32 (f n) ∧ e = .int .i64 (n : Int) ∧ Hid (Quiet w wr)) (fun _ e _ => U - (intOf e).toNat)
  case atStart => exact ⟨0, Nat.zero_le _, rfl, rfl, Quiet.refl _⟩
  case round =>
    obtain ⟨n, hn, rfl, rfl, hQ⟩ := hrel
    by_cases hlt : n < U
    · have ht := HR.out.up n hlt
      unfold geB at ht
      go_wp2_with (refine wpList_float rfl _ _ _ _ _ rfl rfl .f32 _ _ rfl rfl ?_; intro r k hr; have H := Lib.hid hr; clear hr)
      go_roundw
      case rel => exact ⟨n + 1, by omega, by rw [(num_eq_some (H.out.trans (HR.out.half n hlt))).1], by go_num, hQ.out.drewN k⟩
      case measure => simp [intOf]; omega
    · obtain rfl : n = U := by omega
      have ht := HR.out.stop
      unfold geB at ht
      go_wp2
      go_loopw [3, 4] (fun m e w2 => ∃ d : Nat, d ≤ D ∧ m = .float .f32 (g d) ∧ e = .int .i64 ((n : Int) - (d : Int)) ∧ Hid (Quiet w w2)) (fun _ e _ => ((intOf e) - (n : Int) + (D : Int)).toNat)
      case atStart => exact ⟨0, Nat.zero_le _, by rw [HR.out.mid], by simp, hQ.out⟩
      case round =>
        obtain ⟨d, hd, rfl, rfl, hQ2⟩ := hrel
        clear ht
        by_cases hlt2 : d < D
        · have hs := HR.out.dn d hlt2
          unfold ltB at hs
          go_wp2_with (refine wpList_float rfl _ _ _ _ _ rfl rfl .f32 _ _ rfl rfl ?_; intro r k hr; have H := Lib.hid hr; clear hr)
          go_roundw
          case rel => exact ⟨d + 1, by omega, by rw [(num_eq_some (H.out.trans (HR.out.twice d hlt2))).1], by go_num, hQ2.out.drewN k⟩
          case measure => simp [intOf]; omega
        · obtain rfl : d = D := by omega
          have hs := HR.out.halt
          unfold ltB at hs
          clear hlt hlt2 hn hd hQ
          have tc1 : True := trivial
          have t1 : True := trivial
          have t2 : True := trivial
          have t3 : True := trivial
          have t4 : True := trivial
          have t5 : True := trivial
          have t6 : True := trivial
          have t7 : True := trivial
          have t8 : True := trivial
          go_wp2_with (first | (have _t := tc1; go_at_call 113; refine (poly_new _ _ [1045220557, 1051372203, 1065353216] _ (World.drewN wr _) (by decide) _ rfl).mono ?_; rintro e Vc1 ⟨r, rfl, hr, hq⟩; have HP := Lib.hid hr; have Qc1 := Lib.hid hq; clear hr hq; clear tc1) | (have _t := t1; refine wpList_float rfl _ _ _ _ _ rfl rfl .f32 _ _ rfl rfl ?_; intro r1 n1 hr1; have H1 := Lib.hid hr1; clear t1 hr1) | (have _t := t2; refine wpList_float rfl _ _ _ _ _ rfl rfl .f32 _ _ rfl rfl ?_; intro r2 n2 hr2; have H2 := Lib.hid hr2; clear t2 hr2) | (have _t := t3; refine wpList_float rfl _ _ _ _ _ rfl rfl .f32 _ _ rfl rfl ?_; intro r3 n3 hr3; have H3 := Lib.hid hr3; clear t3 hr3) | (have _t := t4; refine wpList_float rfl _ _ _ _ _ rfl rfl .f32 _ _ rfl rfl ?_; intro r4 n4 hr4; have H4 := Lib.hid hr4; clear t4 hr4) | (have _t := t5; refine wpList_float rfl _ _ _ _ _ rfl rfl .f32 _ _ rfl rfl ?_; intro r5 n5 hr5; have H5 := Lib.hid hr5; clear t5 hr5) | (have _t := t6; refine wpList_float rfl _ _ _ _ _ rfl rfl .f32 _ _ rfl rfl ?_; intro r6 n6 hr6; have H6 := Lib.hid hr6; clear t6 hr6) | (have _t := t7; refine wpList_float rfl _ _ _ _ _ rfl rfl .f32 _ _ rfl rfl ?_; intro r7 n7 hr7; have H7 := Lib.hid hr7; clear t7 hr7) | (have _t := t8; refine wpList_float rfl _ _ _ _ _ rfl rfl .f32 _ _ rfl rfl ?_; intro r8 n8 hr8; have H8 := Lib.hid hr8; clear t8 hr8))
          go_ret
          refine ⟨r8, rfl, ?_, ?_⟩
          · rw [H8.out, H7.out, H6.out, H5.out, HP.out, H4.out, H3.out, H2.out, H1.out]
            rfl
          · exact ((Quiet.below (hQ2.out.drewN _) _).trans (Qc1.out.mono (by have := hQ2.out.size; simp; omega))).trans (Quiet.below ⟨_, rfl⟩ _)

theorem lnUp_is (b : Nat) (h1 : 562036736 ≤ b) (h2 : b ≤ 1568669696) : lnUp b ≤ 60 ∧ (∀ n, n < lnUp b → 1069547520 ≤ b - n * 8388608) ∧ b - lnUp b * 8388608 < 1069547520 ∧ 562036736 ≤ b - lnUp b * 8388608 := by
  unfold lnUp
  split
  · refine ⟨by omega, fun n hn => by omega, by omega, by omega⟩
  · refine ⟨by omega, fun n hn => by omega, by omega, by omega⟩
theorem lnDn_is (m : Nat) (h1 : 562036736 ≤ m) (h2 : m < 1069547520) : lnDn m ≤ 60 ∧ (∀ d, d < lnDn m → m + d * 8388608 < 1061158912) ∧ 1061158912 ≤ m + lnDn m * 8388608 ∧ m + lnDn m * 8388608 < 1069547520 := by
  unfold lnDn
  split
  · refine ⟨by omega, fun n hn => by omega, by omega, by omega⟩
  · refine ⟨by omega, fun n hn => by omega, by omega, by omega⟩
theorem geB_pos {a b : Nat} (h1 : 8388608 ≤ a) (h2 : a < 2139095040) (h3 : 8388608 ≤ b) (h4 : b < 2139095040) : geB a b = decide (b ≤ a) := ge_pos h1 h2 h3 h4
theorem ltB_pos {a b : Nat} (h1 : 8388608 ≤ a) (h2 : a < 2139095040) (h3 : 8388608 ≤ b) (h4 : b < 2139095040) : ltB a b = decide (a < b) := lt_pos h1 h2 h3 h4
theorem lnRun (b : Nat) (h1 : 562036736 ≤ b) (h2 : b ≤ 1568669696) (f g : Nat → Nat) (hf : ∀ n, f n = b - n * 8388608) (hg : ∀ d, g d = b - lnUp b * 8388608 + d * 8388608) : LnRun f g (lnUp b) (lnDn (b - lnUp b * 8388608)) := by
  obtain ⟨u1, u2, u3, u4⟩ := lnUp_is b h1 h2
  generalize lnUp b = U at u1 u2 u3 u4 hg ⊢
  obtain ⟨m, hm⟩ : ∃ m, b - U * 8388608 = m := ⟨_, rfl⟩
  rw [hm] at u3 u4 ⊢
  obtain ⟨d1, d2, d3, d4⟩ := lnDn_is m u4 u3
  generalize lnDn m = D at d1 d2 d3 d4 ⊢
  refine ⟨?_, ?_, ?_, ?_, ?_, ?_, ?_, by omega, by omega⟩
  · intro n hn
    have k := u2 n hn
    have e := hf n
    generalize f n = x at e ⊢
    rw [geB_pos (by omega) (by omega) (by omega) (by omega)]
    exact decide_eq_true (by omega)
  · intro n hn
    have k := u2 n hn
    have e := hf n
    have e2 := hf (n + 1)
    have e3 : f (n + 1) = f n - 8388608 := by omega
    rw [e3]
    generalize f n = x at e ⊢
    exact half_fop (by omega) (by omega)
  · have e := hf U
    generalize f U = x at e ⊢
    rw [geB_pos (by omega) (by omega) (by omega) (by omega)]
    exact decide_eq_false (by omega)
  · have e := hf U
    have e2 := hg 0
    omega
  · intro d hd
    have k := d2 d hd
    have e := hg d
    generalize g d = x at e ⊢
    rw [ltB_pos (by omega) (by omega) (by omega) (by omega)]
    exact decide_eq_true (by omega)
  · intro d hd
    have k := d2 d hd
    have e := hg d
    have e2 := hg (d + 1)
    have e3 : g (d + 1) = g d + 8388608 := by omega
    rw [e3]
    generalize g d = x at e ⊢
    exact twice_fop (by omega) (by omega)
  · have e := hg D
    generalize g D = x at e ⊢
    rw [ltB_pos (by omega) (by omega) (by omega) (by omega)]
    exact decide_eq_false (by omega)

theorem l03Ln_any (b : Nat) (h1 : 562036736 ≤ b) (h2 : b ≤ 1568669696) (w : World) : Calls Tryd.prog 28 #[.float .f32 b] w (GvB (lnV b) w) := by
  have h := l03Ln_run (fun n => b - n * 8388608) (fun d => b - lnUp b * 8388608 + d * 8388608) _ _ (lnRun b h1 h2 _ _ (fun _ => rfl) (fun _ => rfl)) w
  have e : b - 0 * 8388608 = b := by rw [Nat.zero_mul, Nat.sub_zero]
  simp only [e] at h
  exact h
theorem logarithm_any (b : Nat) (h1 : 562036736 ≤ b) (h2 : b ≤ 1568669696) (w : World) : Calls Tryd.prog 103 #[.float .f32 b] w (GvB (lnV b) w) := by
  have h := logarithm_run (fun n => b - n * 8388608) (fun d => b - lnUp b * 8388608 + d * 8388608) _ _ (lnRun b h1 h2 _ _ (fun _ => rfl) (fun _ => rfl)) w
  have e : b - 0 * 8388608 = b := by rw [Nat.zero_mul, Nat.sub_zero]
  simp only [e] at h
  exact h
end Go.Proofs.YtbiknpfcemfoeaaDoor
