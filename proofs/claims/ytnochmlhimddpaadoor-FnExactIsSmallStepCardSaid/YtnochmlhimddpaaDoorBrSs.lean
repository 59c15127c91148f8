/- IsSmallStep: the model's. Conditions: none. -/
import Derived.Test.YtnochmlhimddpaaDoorBrRv
namespace Go.Proofs.YtnochmlhimddpaaDoor
open Go.RowKit Go.Shelf
attribute [local go_sem] Oper.semAt_some run_store_float
set_option linter.unusedSimpArgs false
set_option linter.unusedVariables false

/-- The part of its salt that a cell loses. -/
def partO (B : Brn) (x k : Nat) : Option Nat := fop .f32 .quo (fop .f32 .mul (num .f32 x) (outO B.G k)) (num .f32 B.r)
theorem partO_ex (B : Brn) (x k : Nat) : ∃ r, num .f32 r = partO B x k := fop_ex _ _ rfl _ _ (fop_ex _ _ rfl _ _ (num_ex _ _) (outO_ex _ _)) (num_ex _ _)
/-- Is a number at most 1? -/
def le1O : Option Nat → Bool
  | none => false
  | some b => (FloatKind.f32.format.order b 1065353216 == some Ordering.lt || FloatKind.f32.format.order b 1065353216 == some Ordering.eq)
theorem le1O_of {r : Nat} {o : Option Nat} (h : num .f32 r = o) : (FloatKind.f32.format.order r 1065353216 == some Ordering.lt || FloatKind.f32.format.order r 1065353216 == some Ordering.eq) = le1O o := by
  subst h
  cases hn : nanK .f32 r
  · rw [num_some hn]; rfl
  · rw [num_none hn, ord_none hn]; rfl
def frB (G : Gd) (i : Nat) : Bool := isB G i && !G.x.toNat.testBit i
def smAt (B : Brn) (x i : Nat) : Bool := !frB B.G i || le1O (partO B x i)
def smallB (B : Brn) (x : Nat) : Bool := amtB x && (List.range 64).all (smAt B x)
def smallV (B : Brn) (x : Nat) : Value := if brnB B = true then .tuple #[.bool (smallB B x), .int .i64 0] else .tuple #[.bool false, .int .i64 1]
theorem smallV_is (B : Brn) (x : Nat) : ∃ (a : Bool) (n : Int), smallV B x = .tuple #[.bool a, .int .i64 n] := by
  unfold smallV
  split <;> exact ⟨_, _, rfl⟩

set_option maxRecDepth 100000 in
set_option maxHeartbeats 4000000 in
theorem l05Free_is (B : Brn) (k : Nat) (hk : k < 64) (r : Bool) (hr : frB B.G k = r) (p : Nat) (w : World) (hB : BrnAt w p 0 B) (hG : BrnOk B) :
    Calls Tryd.prog 58 #[.pointer (some ⟨p, 0, none⟩), .int .i64 k] w fun e w' => e = .returned (.bool r) ∧ w = w' := by
  subst hr
  have HB := Lib.hid hB
  have HG := Lib.hid hG
  clear hB hG
  cases hi : isB B.G k
  · have Hi := Lib.hid hi
    rw [show frB B.G k = false by unfold frB; rw [hi]; rfl]
    clear hi
    go_enter Tryd.func58, Tryd.ntmps58
    go_wp2_with (go_at_call 48; refine (l01Is_is B.G k hk false Hi.out _ _ HB.out.g HG.out.g).mono ?_; rintro e w' ⟨rfl, rfl⟩)
    go_ret
    exact ⟨rfl, rfl⟩
  · have Hi := Lib.hid hi
    rw [show frB B.G k = !B.G.x.toNat.testBit k by unfold frB; rw [hi]; rfl]
    clear hi
    go_enter Tryd.func58, Tryd.ntmps58
    go_wp2_with (first | (go_at_call 48; refine (l01Is_is B.G k hk true Hi.out _ _ HB.out.g HG.out.g).mono ?_; rintro e w' ⟨rfl, rfl⟩) | (go_at_call 96; refine (l01Fixed_any B.G k hk _ _ HB.out.g HG.out.g).mono ?_; rintro e w' ⟨rfl, rfl⟩))
    go_ret
    exact ⟨rfl, rfl⟩

theorem Quiet.brn {w w1 : World} (h : Quiet w w1) {b o : Nat} {B : Brn} (g : BrnAt w b o B) : BrnAt w1 b o B := g.below (h.below (b + 1)) (by omega)

set_option maxRecDepth 100000 in
set_option maxHeartbeats 4000000 in
theorem l05Part_any (B : Brn) (k : Nat) (hk : k < 64) (x : Nat) (hv : validB B.G = true) (p : Nat) (w : World) (hB : BrnAt w p 0 B) (hG : BrnOk B) :
    Calls Tryd.prog 87 #[.pointer (some ⟨p, 0, none⟩), .int .i64 k, .float .f32 x] w (GivesN (partO B x k) w) := by
  have HB := Lib.hid hB
  have HG := Lib.hid hG
  clear hB hG
  go_enter Tryd.func87, Tryd.ntmps87
  go_upto_region 1 with (fail)
  refine wp_region_calm (ops' := regOf Tryd.f87 1) [0, 1, 2, 3, 4, 5, 6, 7, 8, 9, 10] [] .fin (Quiet w) [(0, One (.float .f32 x)), (1, One (.pointer (some ⟨p, 0, none⟩))), (2, One (.int .i64 (k : Int))), (3, Numv .f32 (outO B.G k)), (4, Numv .f32 (fop .f32 .mul (num .f32 x) (outO B.G k))), (5, One (.pointer (some ⟨p, 0, none⟩))), (6, One (.pointer (some ⟨p, 0, none⟩))), (7, One (.pointer (some ⟨p, 323, none⟩))), (8, One (.float .f32 B.r)), (9, Numv .f32 (fop .f32 .quo (fop .f32 .mul (num .f32 x) (outO B.G k)) (num .f32 (B.r)))), (10, Numv .f32 (fop .f32 .quo (fop .f32 .mul (num .f32 x) (outO B.G k)) (num .f32 (B.r))))] (by kernel_rfl) (by kernel_rfl) (by kernel_rfl) (by kernel_rfl) (by kernel_rfl) (by kernel_rfl) (by kernel_rfl) (by kernel_rfl) rfl ((Quiet.refl _).drewN 1) ?_
  refine calm_pure (some 7) (by kernel_rfl) (by kernel_rfl) (by kernel_rfl) (fun _ => by kernel_rfl) ?_
  refine calm_pure (some 8) (by kernel_rfl) (by kernel_rfl) (by kernel_rfl) (fun _ => by kernel_rfl) ?_
  refine calm_pure (some 9) (by kernel_rfl) (by kernel_rfl) (by kernel_rfl) (fun _ => by kernel_rfl) ?_
  refine calm_call (some 10) 59 #[.pointer (some ⟨p, 0, none⟩), .int .i64 (k : Int)] (numv_ne (outO_ex B.G k)) (by kernel_rfl) (by kernel_rfl) (by kernel_rfl) (fun _ => by kernel_rfl) (fun w' hw' => ((l05Out_any B k hk hv p w' (hw'.brn HB.out) HG.out)).mono fun e w2 ⟨r, he, hr, hq⟩ => ⟨_, he, ⟨r, rfl, hr⟩, hw'.trans hq⟩) ?_
  rintro _ ⟨r10, rfl, hr10⟩
  refine calm_float (some 11) .f32 .mul 23 23 (.tmp 7) (.tmp 10) (x) (r10) (by kernel_rfl) (by kernel_rfl) (by kernel_rfl) (by kernel_rfl) rfl (by kernel_rfl) (by kernel_rfl) (fun _ n h => h.drewN n) (fop_eq (rfl) hr10) ?_
  intro r11 hr11
  refine calm_pure (some 12) (by kernel_rfl) (by kernel_rfl) (by kernel_rfl) (fun _ => by kernel_rfl) ?_
  refine calm_pure (some 13) (by kernel_rfl) (by kernel_rfl) (by kernel_rfl) (fun _ => by kernel_rfl) ?_
  refine calm_pure (some 14) (by kernel_rfl) (by kernel_rfl) (by kernel_rfl) (fun _ => by kernel_rfl) ?_
  refine calm_read (some 15) (by kernel_rfl) (by kernel_rfl) (by kernel_rfl) (fun w' hw' => load_cell (ty := 23) (x := .tmp 14) (b := p) (o := 323) (by kernel_rfl) (by kernel_rfl) Tryd.underlying23 rfl (kq HB.out.r0 w' hw')) ?_
  refine calm_float (some 16) .f32 .quo 23 23 (.tmp 11) (.tmp 15) (r11) (B.r) (by kernel_rfl) (by kernel_rfl) (by kernel_rfl) (by kernel_rfl) rfl (by kernel_rfl) (by kernel_rfl) (fun _ n h => h.drewN n) (fop_eq hr11 (rfl)) ?_
  intro r16 hr16
  refine calm_pureV (some 6) (.float .f32 r16) ⟨_, rfl, hr16⟩ (by kernel_rfl) (by kernel_rfl) (by kernel_rfl) (fun _ => by kernel_rfl) ?_
  rintro _ ⟨r6, rfl, hr6⟩
  refine calm_end fun w' hw' => plan_end (Clean.normal ?_)
  simp only [Act.put, List.setIfInBounds_toArray, List.set_cons_zero, List.set_cons_succ]
  go_wp2
  go_ret
  exact ⟨_, rfl, hr6, hw'⟩

set_option maxRecDepth 100000 in
set_option maxHeartbeats 4000000 in
theorem l05Small_any (B : Brn) (x : Nat) (hv : validB B.G = true) (p : Nat) (w : World) (hB : BrnAt w p 0 B) (hG : BrnOk B) :
    Calls Tryd.prog 42 #[.pointer (some ⟨p, 0, none⟩), .float .f32 x] w fun e w' => e = .returned (.bool (smallB B x)) ∧ Quiet w w' := by
  have HB := Lib.hid hB
  have HG := Lib.hid hG
  have HV := Lib.hid hv
  clear hB hG hv
  cases hp : plainB x
  · have Hp := Lib.hid hp
    rw [show smallB B x = false by unfold smallB; rw [amtB_eq, hp]; rfl]
    clear hp
    go_enter Tryd.func42, Tryd.ntmps42
    go_wp2_with (go_at_call 60; refine (l01Plain_is x false Hp.out _).mono ?_; rintro e w' ⟨rfl, hww⟩; rw [hww]; clear hww w')
    go_ret
    exact ⟨rfl, Quiet.refl _⟩
  cases hn : negB x
  case true =>
    have Hp := Lib.hid hp
    rw [show smallB B x = false by unfold smallB; rw [amtB_eq, hp, hn]; rfl]
    unfold negB at hn
    clear hp
    go_enter Tryd.func42, Tryd.ntmps42
    go_wp2_with (go_at_call 60; refine (l01Plain_is x true Hp.out _).mono ?_; rintro e w' ⟨rfl, hww⟩; rw [hww]; clear hww w')
    go_ret
    exact ⟨rfl, Quiet.refl _⟩
  have Hp := Lib.hid hp
  rw [show smallB B x = (List.range 64).all (smAt B x) by unfold smallB; rw [amtB_eq, hp, hn]; rfl]
  unfold negB at hn
  clear hp
  go_enter Tryd.func42, Tryd.ntmps42
  go_upto_region 3 with (go_at_call 60; refine (l01Plain_is x true Hp.out _).mono ?_; rintro e w' ⟨rfl, hww⟩; rw [hww]; clear hww w')
  go_wp2
  go_loopw [5] (fun i wr => ∃ k : Nat, k ≤ 64 ∧ i = .int .i64 k ∧ Hid (upto (smAt B x) k) ∧ Hid (Quiet w wr)) (fun i _ => 64 - (intOf i).toNat)
  case atStart => exact ⟨0, by omega, rfl, upto_zero _, Lib.hid (Quiet.refl _)⟩
  case round =>
    obtain ⟨k, hk, rfl, hT, HQ⟩ := hrel
    by_cases hlt : k < 64
    · have hk2 : (k : Int) < 64 := by omega
      cases hf : frB B.G k
      · have Hf := Lib.hid hf
        clear hf
        go_wp2_with (go_at_call 58; refine (l05Free_is B k hlt false Hf.out _ _ (HQ.out.brn HB.out) HG.out).mono ?_; rintro e w' ⟨rfl, rfl⟩)
        go_roundw
        case rel => exact ⟨k + 1, by omega, by go_num, upto_snoc hT.out (by unfold smAt; rw [Hf.out]; rfl), HQ⟩
        case measure => simp [intOf]; omega
      · have Hf := Lib.hid hf
        cases hl : le1O (partO B x k)
        · have Hl := Lib.hid hl
          clear hf hl
          go_wp2_with (first | (go_at_call 58; refine (l05Free_is B k hlt true Hf.out _ _ (HQ.out.brn HB.out) HG.out).mono ?_; rintro e w' ⟨rfl, rfl⟩) | (go_at_call 87; refine (l05Part_any B k hlt x HV.out p _ (HQ.out.brn HB.out) HG.out).mono ?_; rintro e w1 ⟨r, rfl, hr, hq⟩; have hle := (le1O_of hr).trans Hl.out; have HQ1 := Lib.hid (HQ.out.trans hq); clear hr hq))
          go_ret
          exact ⟨ret_bool (all_no k hlt (by unfold smAt; rw [Hf.out, Hl.out]; rfl)).symm, HQ1.out⟩
        · have Hl := Lib.hid hl
          clear hf hl
          go_wp2_with (first | (go_at_call 58; refine (l05Free_is B k hlt true Hf.out _ _ (HQ.out.brn HB.out) HG.out).mono ?_; rintro e w' ⟨rfl, rfl⟩) | (go_at_call 87; refine (l05Part_any B k hlt x HV.out p _ (HQ.out.brn HB.out) HG.out).mono ?_; rintro e w1 ⟨r, rfl, hr, hq⟩; have hle := (le1O_of hr).trans Hl.out; have HQ1 := Lib.hid (HQ.out.trans hq); clear hr hq))
          go_roundw
          case rel => exact ⟨k + 1, by omega, by go_num, upto_snoc hT.out (by unfold smAt; rw [Hf.out, Hl.out]; rfl), HQ1⟩
          case measure => simp [intOf]; omega
    · obtain rfl : k = 64 := by omega
      go_wp2
      go_ret
      exact ⟨ret_bool (all_yes hT.out).symm, HQ.out⟩

set_option maxRecDepth 100000 in
set_option maxHeartbeats 4000000 in
theorem specSmall_any (B : Brn) (x : Nat) (w : World) (hG : BrnOk B) :
    Calls Tryd.prog 13 #[.agg (BrnA B), .float .f32 x] w fun e w' => e = .returned (smallV B x) ∧ Below w.heap.size w w' := by
  go_enter Tryd.func13, Tryd.ntmps13
  go_upto_region 1 with (fail)
  obtain ⟨W, hW, hs, b1, hB⟩ := bbox1 B 36 w
  rw [hW]
  clear hW
  have B1 := Lib.hid b1
  have HB := Lib.hid hB
  have HG := Lib.hid hG
  clear b1 hB hG
  cases hv : brnB B
  · have Hv := Lib.hid hv
    have R := Lib.hid (show smallV B x = .tuple #[.bool false, .int .i64 1] by unfold smallV; rw [hv]; rfl)
    clear hv
    go_wp2_with (go_at_call 41; have hc := (l05Ok_any B (w.heap.size) W B1.out.at' HG.out); rw [Hv.out] at hc; refine hc.mono ?_; clear hc; rintro e w1 ⟨rfl, hq⟩; have HQ := Lib.hid hq; clear hq)
    go_ret2
    exact ⟨congrArg Ending.returned R.out.symm, HB.out.trans (HQ.out.below _)⟩
  · have Hv := Lib.hid hv
    have HV := Lib.hid (brn_valid hv)
    have R := Lib.hid (show smallV B x = .tuple #[.bool (smallB B x), .int .i64 0] by unfold smallV; rw [hv]; rfl)
    clear hv
    go_wp2_with (first | (go_at_call 41; have hc := (l05Ok_any B (w.heap.size) W B1.out.at' HG.out); rw [Hv.out] at hc; refine hc.mono ?_; clear hc; rintro e w1 ⟨rfl, hq⟩; have HQ := Lib.hid hq; clear hq) | (go_at_call 42; refine (l05Small_any B x HV.out w.heap.size w1 (HQ.out.brn B1.out.at') HG.out).mono ?_; rintro e w2 ⟨rfl, hq2⟩; have HQ2 := Lib.hid (HQ.out.trans hq2); clear hq2))
    go_ret2
    exact ⟨congrArg Ending.returned R.out.symm, HB.out.trans (HQ2.out.below _)⟩
end Go.Proofs.YtnochmlhimddpaaDoor
