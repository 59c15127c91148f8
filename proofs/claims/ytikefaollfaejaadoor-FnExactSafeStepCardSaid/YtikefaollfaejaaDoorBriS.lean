/- Brines of the model: are they valid? Conditions: none. -/
import Derived.Test.YtikefaollfaejaaDoorBriL
import Derived.Test.YtikefaollfaejaaDoorFlows
namespace Go.Proofs.YtikefaollfaejaaDoor
open Go.RowKit Go.Shelf
attribute [local go_sem] Oper.semAt_some run_store_float
set_option linter.unusedSimpArgs false
set_option linter.unusedVariables false

theorem finO_of {r : Nat} {o : Option Nat} (h : num .f32 r = o) : finB r = finO o := by
  subst h
  exact (finO_num r).symm
/-- No number of a field is less than 0, and it is as told. -/
def saltB (G : Gd) (f : Nat → Nat) : Bool := (List.range 64).all (fun i => !negB (f i)) && fieldB G f
/-- Is a room too small? -/
def tinyB (r : Nat) : Bool := FloatKind.f32.format.order r 981467136 == some Ordering.lt
/-- Are all flows from a cell finite? -/
def flowsAt (G : Gd) (i : Nat) : Bool := !isB G i || (List.range 4).all fun s => finO (flowS G i (s : Int))
def flowsB (G : Gd) : Bool := (List.range 64).all (flowsAt G)
def brnB (B : Brn) : Bool := validB B.G && (saltB B.G B.s && (saltB B.G B.p && (plainB B.r && (!tinyB B.r && flowsB B.G))))
theorem all4_yes {p : Nat → Bool} (h : ∀ i, i < 4 → p i = true) : (List.range 4).all p = true := by
  rw [List.all_eq_true]; intro i hi; exact h i (by simpa using hi)
theorem all4_no {p : Nat → Bool} (k : Nat) (hk : k < 4) (h : p k = false) : (List.range 4).all p = false := by
  cases e : (List.range 4).all p
  · rfl
  · rw [List.all_eq_true] at e
    rw [e k (by simpa using hk)] at h
    cases h

set_option maxRecDepth 100000 in
set_option maxHeartbeats 2000000 in
theorem l05Field_is (G : Gd) (f : Nat → Nat) (r : Bool) (hr : saltB G f = r) (p q o : Nat) (w : World) (hp : GrdAt w p 0 G) (hG : GdOk G) (hq : w.rangeAt q o (Fld f).toList) :
    Calls Tryd.prog 21 #[.pointer (some ⟨p, 0, none⟩), .pointer (some ⟨q, o, none⟩)] w fun e w' => e = .returned (.bool r) ∧ Quiet w w' := by
  subst hr
  have Cq := Lib.hid (Grd_fld hq)
  have Hq := Lib.hid hq
  have Hp := Lib.hid hp
  have HG := Lib.hid hG
  clear hq hp hG
  go_enter Tryd.func21, Tryd.ntmps21
  go_wp2
  go_loop [5] (fun i => ∃ k : Nat, k ≤ 64 ∧ i = .int .i64 k ∧ Hid (upto (fun i => !negB (f i)) k)) (fun i => 64 - (intOf i).toNat)
  case atStart => exact ⟨0, by omega, rfl, upto_zero _⟩
  case round =>
    obtain ⟨k, hk, rfl, hT⟩ := hrel
    by_cases hlt : k < 64
    · have h1 := Cq.out k hlt
      cases hn : negB (f k)
      · have Hk := Lib.hid (show (!negB (f k)) = true by rw [hn]; rfl)
        unfold negB at hn
        go_wp2
        go_round
        case rel => exact ⟨k + 1, by omega, by go_num, upto_snoc hT Hk.out⟩
        case measure => simp [intOf]; omega
      · have Hk := Lib.hid (show (!negB (f k)) = false by rw [hn]; rfl)
        unfold negB at hn
        go_wp2
        go_ret
        exact ⟨ret_bool (by unfold saltB; rw [all_no k hlt Hk.out]; rfl), Quiet.refl _⟩
    · obtain rfl : k = 64 := by omega
      go_wp2_with (go_at_call 36; refine (l01Field_any G f p q o _ Hp.out HG.out Hq.out).mono ?_; rintro e w' ⟨rfl, rfl⟩)
      go_ret
      exact ⟨ret_bool (by unfold saltB; rw [all_yes hT.out]; rfl), Quiet.refl _⟩

set_option maxRecDepth 100000 in
set_option maxHeartbeats 2000000 in
theorem l01Ok_is (G : Gd) (r : Bool) (hr : validB G = r) (p : Nat) (w : World) (hp : GrdAt w p 0 G) (hG : GdOk G) :
    Calls Tryd.prog 20 #[.pointer (some ⟨p, 0, none⟩)] w fun e w' => e = .returned (.bool r) ∧ Quiet w w' := by
  subst hr
  exact l01Ok_any G p w hp hG

set_option maxRecDepth 100000 in
set_option maxHeartbeats 2000000 in
theorem l05Ok_any (B : Brn) (p : Nat) (w : World) (hB : BrnAt w p 0 B) (hG : BrnOk B) :
    Calls Tryd.prog 8 #[.pointer (some ⟨p, 0, none⟩)] w fun e w' => e = .returned (.bool (brnB B)) ∧ Quiet w w' := by
  have HB := Lib.hid hB
  have HG := Lib.hid hG
  clear hB hG
  cases hv : validB B.G
  · rw [show brnB B = false by simp [brnB, hv]]
    go_enter Tryd.func8, Tryd.ntmps8
    go_upto_region 1 with (fail)
    refine wp_region_calm (ops' := regOf Tryd.f8 1) [0, 1, 2, 3, 4, 5, 6, 7, 8, 9, 10, 11, 12, 13, 14, 15, 16, 17, 18, 19, 20, 21, 22, 23, 24, 25, 26, 27, 28, 29, 30, 31, 32, 33, 34, 35, 36, 37, 38, 39] [] .fin (Quiet w) [(0, One (.pointer (some ⟨p, 0, none⟩))), (1, One (.pointer (some ⟨p, 0, none⟩))), (2, One (.pointer (some ⟨p, 0, none⟩))), (3, One (.bool false)), (4, One (.bool true)), (5, One (.bool true)), (6, One undef), (7, One undef), (8, One undef), (9, One undef), (10, One undef), (11, One undef), (12, One undef), (13, One undef), (14, One (.bool true)), (15, One (.bool true)), (16, One undef), (17, One undef), (18, One undef), (19, One undef), (20, One undef), (21, One undef), (22, One undef), (23, One undef), (24, One (.bool true)), (25, One (.bool true)), (26, One undef), (27, One undef), (28, One undef), (29, One undef), (30, One undef), (31, One undef), (32, One (.bool true)), (33, One (.bool true)), (34, One undef), (35, One undef), (36, One undef), (37, One undef), (38, One undef), (39, One (.bool true))] (by kernel_rfl) (by kernel_rfl) (by kernel_rfl) (by kernel_rfl) (by kernel_rfl) (by kernel_rfl) (by kernel_rfl) (by kernel_rfl) rfl ((Quiet.refl _).drewN 1) ?_
    refine calm_pure (some 5) (by kernel_rfl) (by kernel_rfl) (by kernel_rfl) (fun _ => by kernel_rfl) ?_
    refine calm_pure (some 6) (by kernel_rfl) (by kernel_rfl) (by kernel_rfl) (fun _ => by kernel_rfl) ?_
    refine calm_pure (some 7) (by kernel_rfl) (by kernel_rfl) (by kernel_rfl) (fun _ => by kernel_rfl) ?_
    refine calm_call (some 8) 20 #[.pointer (some ⟨p, 0, none⟩)] ⟨_, rfl⟩ (by kernel_rfl) (by kernel_rfl) (by kernel_rfl) (fun _ => by kernel_rfl) (fun w' hw' => (l01Ok_is B.G false hv p w' (hw'.grd HB.out.g) HG.out.g).mono fun e w2 h => ⟨_, h.1, rfl, hw'.trans h.2⟩) ?_
    rintro _ rfl
    refine calm_pure (some 9) (by kernel_rfl) (by kernel_rfl) (by kernel_rfl) (fun _ => by kernel_rfl) ?_
    refine calm_pure (some 10) (by kernel_rfl) (by kernel_rfl) (by kernel_rfl) (fun _ => by kernel_rfl) ?_
    refine calm_skip (some 11) (by kernel_rfl) (by kernel_rfl) (by kernel_rfl) ?_
    refine calm_skip (some 12) (by kernel_rfl) (by kernel_rfl) (by kernel_rfl) ?_
    refine calm_skip (some 13) (by kernel_rfl) (by kernel_rfl) (by kernel_rfl) ?_
    refine calm_skip (some 14) (by kernel_rfl) (by kernel_rfl) (by kernel_rfl) ?_
    refine calm_skip (some 15) (by kernel_rfl) (by kernel_rfl) (by kernel_rfl) ?_
    refine calm_skip (some 16) (by kernel_rfl) (by kernel_rfl) (by kernel_rfl) ?_
    refine calm_skip (some 17) (by kernel_rfl) (by kernel_rfl) (by kernel_rfl) ?_
    refine calm_skip (some 18) (by kernel_rfl) (by kernel_rfl) (by kernel_rfl) ?_
    refine calm_pure (some 19) (by kernel_rfl) (by kernel_rfl) (by kernel_rfl) (fun _ => by kernel_rfl) ?_
    refine calm_pure (some 20) (by kernel_rfl) (by kernel_rfl) (by kernel_rfl) (fun _ => by kernel_rfl) ?_
    refine calm_skip (some 21) (by kernel_rfl) (by kernel_rfl) (by kernel_rfl) ?_
    refine calm_skip (some 22) (by kernel_rfl) (by kernel_rfl) (by kernel_rfl) ?_
    refine calm_skip (some 23) (by kernel_rfl) (by kernel_rfl) (by kernel_rfl) ?_
    refine calm_skip (some 24) (by kernel_rfl) (by kernel_rfl) (by kernel_rfl) ?_
    refine calm_skip (some 25) (by kernel_rfl) (by kernel_rfl) (by kernel_rfl) ?_
    refine calm_skip (some 26) (by kernel_rfl) (by kernel_rfl) (by kernel_rfl) ?_
    refine calm_skip (some 27) (by kernel_rfl) (by kernel_rfl) (by kernel_rfl) ?_
    refine calm_skip (some 28) (by kernel_rfl) (by kernel_rfl) (by kernel_rfl) ?_
    refine calm_pure (some 29) (by kernel_rfl) (by kernel_rfl) (by kernel_rfl) (fun _ => by kernel_rfl) ?_
    refine calm_pure (some 30) (by kernel_rfl) (by kernel_rfl) (by kernel_rfl) (fun _ => by kernel_rfl) ?_
    refine calm_skip (some 31) (by kernel_rfl) (by kernel_rfl) (by kernel_rfl) ?_
    refine calm_skip (some 32) (by kernel_rfl) (by kernel_rfl) (by kernel_rfl) ?_
    refine calm_skip (some 33) (by kernel_rfl) (by kernel_rfl) (by kernel_rfl) ?_
    refine calm_skip (some 34) (by kernel_rfl) (by kernel_rfl) (by kernel_rfl) ?_
    refine calm_skip (some 35) (by kernel_rfl) (by kernel_rfl) (by kernel_rfl) ?_
    refine calm_skip (some 36) (by kernel_rfl) (by kernel_rfl) (by kernel_rfl) ?_
    refine calm_pure (some 37) (by kernel_rfl) (by kernel_rfl) (by kernel_rfl) (fun _ => by kernel_rfl) ?_
    refine calm_pure (some 38) (by kernel_rfl) (by kernel_rfl) (by kernel_rfl) (fun _ => by kernel_rfl) ?_
    refine calm_skip (some 39) (by kernel_rfl) (by kernel_rfl) (by kernel_rfl) ?_
    refine calm_skip (some 40) (by kernel_rfl) (by kernel_rfl) (by kernel_rfl) ?_
    refine calm_skip (some 41) (by kernel_rfl) (by kernel_rfl) (by kernel_rfl) ?_
    refine calm_skip (some 42) (by kernel_rfl) (by kernel_rfl) (by kernel_rfl) ?_
    refine calm_skip (some 43) (by kernel_rfl) (by kernel_rfl) (by kernel_rfl) ?_
    refine calm_pure (some 44) (by kernel_rfl) (by kernel_rfl) (by kernel_rfl) (fun _ => by kernel_rfl) ?_
    refine calm_end fun w' hw' => plan_end (Clean.normal ?_)
    have HQ := Lib.hid hw'
    clear hw'
    simp only [Act.put, List.setIfInBounds_toArray, List.set_cons_zero, List.set_cons_succ]
    go_wp2
    go_ret
    exact ⟨rfl, HQ.out⟩
  cases hs : saltB B.G B.s
  · rw [show brnB B = false by simp [brnB, hv, hs]]
    go_enter Tryd.func8, Tryd.ntmps8
    go_upto_region 1 with (fail)
    refine wp_region_calm (ops' := regOf Tryd.f8 1) [0, 1, 2, 3, 4, 5, 6, 7, 8, 9, 10, 11, 12, 13, 14, 15, 16, 17, 18, 19, 20, 21, 22, 23, 24, 25, 26, 27, 28, 29, 30, 31, 32, 33, 34, 35, 36, 37, 38, 39] [] .fin (Quiet w) [(0, One (.pointer (some ⟨p, 0, none⟩))), (1, One (.pointer (some ⟨p, 0, none⟩))), (2, One (.pointer (some ⟨p, 0, none⟩))), (3, One (.bool true)), (4, One (.bool false)), (5, One (.bool false)), (6, One (.pointer (some ⟨p, 0, none⟩))), (7, One (.pointer (some ⟨p, 0, none⟩))), (8, One (.pointer (some ⟨p, 0, none⟩))), (9, One (.pointer (some ⟨p, 0, none⟩))), (10, One (.pointer (some ⟨p, 0, none⟩))), (11, One (.pointer (some ⟨p, 195, none⟩))), (12, One (.bool false)), (13, One (.bool true)), (14, One (.bool true)), (15, One (.bool true)), (16, One undef), (17, One undef), (18, One undef), (19, One undef), (20, One undef), (21, One undef), (22, One undef), (23, One undef), (24, One (.bool true)), (25, One (.bool true)), (26, One undef), (27, One undef), (28, One undef), (29, One undef), (30, One undef), (31, One undef), (32, One (.bool true)), (33, One (.bool true)), (34, One undef), (35, One undef), (36, One undef), (37, One undef), (38, One undef), (39, One (.bool true))] (by kernel_rfl) (by kernel_rfl) (by kernel_rfl) (by kernel_rfl) (by kernel_rfl) (by kernel_rfl) (by kernel_rfl) (by kernel_rfl) rfl ((Quiet.refl _).drewN 1) ?_
    refine calm_pure (some 5) (by kernel_rfl) (by kernel_rfl) (by kernel_rfl) (fun _ => by kernel_rfl) ?_
    refine calm_pure (some 6) (by kernel_rfl) (by kernel_rfl) (by kernel_rfl) (fun _ => by kernel_rfl) ?_
    refine calm_pure (some 7) (by kernel_rfl) (by kernel_rfl) (by kernel_rfl) (fun _ => by kernel_rfl) ?_
    refine calm_call (some 8) 20 #[.pointer (some ⟨p, 0, none⟩)] ⟨_, rfl⟩ (by kernel_rfl) (by kernel_rfl) (by kernel_rfl) (fun _ => by kernel_rfl) (fun w' hw' => (l01Ok_is B.G true hv p w' (hw'.grd HB.out.g) HG.out.g).mono fun e w2 h => ⟨_, h.1, rfl, hw'.trans h.2⟩) ?_
    rintro _ rfl
    refine calm_pure (some 9) (by kernel_rfl) (by kernel_rfl) (by kernel_rfl) (fun _ => by kernel_rfl) ?_
    refine calm_pure (some 10) (by kernel_rfl) (by kernel_rfl) (by kernel_rfl) (fun _ => by kernel_rfl) ?_
    refine calm_pure (some 11) (by kernel_rfl) (by kernel_rfl) (by kernel_rfl) (fun _ => by kernel_rfl) ?_
    refine calm_pure (some 12) (by kernel_rfl) (by kernel_rfl) (by kernel_rfl) (fun _ => by kernel_rfl) ?_
    refine calm_pure (some 13) (by kernel_rfl) (by kernel_rfl) (by kernel_rfl) (fun _ => by kernel_rfl) ?_
    refine calm_pure (some 14) (by kernel_rfl) (by kernel_rfl) (by kernel_rfl) (fun _ => by kernel_rfl) ?_
    refine calm_pure (some 15) (by kernel_rfl) (by kernel_rfl) (by kernel_rfl) (fun _ => by kernel_rfl) ?_
    refine calm_pure (some 16) (by kernel_rfl) (by kernel_rfl) (by kernel_rfl) (fun _ => by kernel_rfl) ?_
    refine calm_call (some 17) 21 #[.pointer (some ⟨p, 0, none⟩), .pointer (some ⟨p, 195, none⟩)] ⟨_, rfl⟩ (by kernel_rfl) (by kernel_rfl) (by kernel_rfl) (fun _ => by kernel_rfl) (fun w' hw' => (l05Field_is B.G B.s false hs p p 195 w' (hw'.grd HB.out.g) HG.out.g (hw'.range HB.out.s0)).mono fun e w2 h => ⟨_, h.1, rfl, hw'.trans h.2⟩) ?_
    rintro _ rfl
    refine calm_pure (some 18) (by kernel_rfl) (by kernel_rfl) (by kernel_rfl) (fun _ => by kernel_rfl) ?_
    refine calm_pure (some 19) (by kernel_rfl) (by kernel_rfl) (by kernel_rfl) (fun _ => by kernel_rfl) ?_
    refine calm_pure (some 20) (by kernel_rfl) (by kernel_rfl) (by kernel_rfl) (fun _ => by kernel_rfl) ?_
    refine calm_skip (some 21) (by kernel_rfl) (by kernel_rfl) (by kernel_rfl) ?_
    refine calm_skip (some 22) (by kernel_rfl) (by kernel_rfl) (by kernel_rfl) ?_
    refine calm_skip (some 23) (by kernel_rfl) (by kernel_rfl) (by kernel_rfl) ?_
    refine calm_skip (some 24) (by kernel_rfl) (by kernel_rfl) (by kernel_rfl) ?_
    refine calm_skip (some 25) (by kernel_rfl) (by kernel_rfl) (by kernel_rfl) ?_
    refine calm_skip (some 26) (by kernel_rfl) (by kernel_rfl) (by kernel_rfl) ?_
    refine calm_skip (some 27) (by kernel_rfl) (by kernel_rfl) (by kernel_rfl) ?_
    refine calm_skip (some 28) (by kernel_rfl) (by kernel_rfl) (by kernel_rfl) ?_
    refine calm_pure (some 29) (by kernel_rfl) (by kernel_rfl) (by kernel_rfl) (fun _ => by kernel_rfl) ?_
    refine calm_pure (some 30) (by kernel_rfl) (by kernel_rfl) (by kernel_rfl) (fun _ => by kernel_rfl) ?_
    refine calm_skip (some 31) (by kernel_rfl) (by kernel_rfl) (by kernel_rfl) ?_
    refine calm_skip (some 32) (by kernel_rfl) (by kernel_rfl) (by kernel_rfl) ?_
    refine calm_skip (some 33) (by kernel_rfl) (by kernel_rfl) (by kernel_rfl) ?_
    refine calm_skip (some 34) (by kernel_rfl) (by kernel_rfl) (by kernel_rfl) ?_
    refine calm_skip (some 35) (by kernel_rfl) (by kernel_rfl) (by kernel_rfl) ?_
    refine calm_skip (some 36) (by kernel_rfl) (by kernel_rfl) (by kernel_rfl) ?_
    refine calm_pure (some 37) (by kernel_rfl) (by kernel_rfl) (by kernel_rfl) (fun _ => by kernel_rfl) ?_
    refine calm_pure (some 38) (by kernel_rfl) (by kernel_rfl) (by kernel_rfl) (fun _ => by kernel_rfl) ?_
    refine calm_skip (some 39) (by kernel_rfl) (by kernel_rfl) (by kernel_rfl) ?_
    refine calm_skip (some 40) (by kernel_rfl) (by kernel_rfl) (by kernel_rfl) ?_
    refine calm_skip (some 41) (by kernel_rfl) (by kernel_rfl) (by kernel_rfl) ?_
    refine calm_skip (some 42) (by kernel_rfl) (by kernel_rfl) (by kernel_rfl) ?_
    refine calm_skip (some 43) (by kernel_rfl) (by kernel_rfl) (by kernel_rfl) ?_
    refine calm_pure (some 44) (by kernel_rfl) (by kernel_rfl) (by kernel_rfl) (fun _ => by kernel_rfl) ?_
    refine calm_end fun w' hw' => plan_end (Clean.normal ?_)
    have HQ := Lib.hid hw'
    clear hw'
    simp only [Act.put, List.setIfInBounds_toArray, List.set_cons_zero, List.set_cons_succ]
    go_wp2
    go_ret
    exact ⟨rfl, HQ.out⟩
  cases hp : saltB B.G B.p
  · rw [show brnB B = false by simp [brnB, hv, hs, hp]]
    go_enter Tryd.func8, Tryd.ntmps8
    go_upto_region 1 with (fail)
    refine wp_region_calm (ops' := regOf Tryd.f8 1) [0, 1, 2, 3, 4, 5, 6, 7, 8, 9, 10, 11, 12, 13, 14, 15, 16, 17, 18, 19, 20, 21, 22, 23, 24, 25, 26, 27, 28, 29, 30, 31, 32, 33, 34, 35, 36, 37, 38, 39] [] .fin (Quiet w) [(0, One (.pointer (some ⟨p, 0, none⟩))), (1, One (.pointer (some ⟨p, 0, none⟩))), (2, One (.pointer (some ⟨p, 0, none⟩))), (3, One (.bool true)), (4, One (.bool false)), (5, One (.bool false)), (6, One (.pointer (some ⟨p, 0, none⟩))), (7, One (.pointer (some ⟨p, 0, none⟩))), (8, One (.pointer (some ⟨p, 0, none⟩))), (9, One (.pointer (some ⟨p, 0, none⟩))), (10, One (.pointer (some ⟨p, 0, none⟩))), (11, One (.pointer (some ⟨p, 195, none⟩))), (12, One (.bool true)), (13, One (.bool false)), (14, One (.bool false)), (15, One (.bool false)), (16, One (.pointer (some ⟨p, 0, none⟩))), (17, One (.pointer (some ⟨p, 0, none⟩))), (18, One (.pointer (some ⟨p, 0, none⟩))), (19, One (.pointer (some ⟨p, 0, none⟩))), (20, One (.pointer (some ⟨p, 0, none⟩))), (21, One (.pointer (some ⟨p, 259, none⟩))), (22, One (.bool false)), (23, One (.bool true)), (24, One (.bool true)), (25, One (.bool true)), (26, One undef), (27, One undef), (28, One undef), (29, One undef), (30, One undef), (31, One undef), (32, One (.bool true)), (33, One (.bool true)), (34, One undef), (35, One undef), (36, One undef), (37, One undef), (38, One undef), (39, One (.bool true))] (by kernel_rfl) (by kernel_rfl) (by kernel_rfl) (by kernel_rfl) (by kernel_rfl) (by kernel_rfl) (by kernel_rfl) (by kernel_rfl) rfl ((Quiet.refl _).drewN 1) ?_
    refine calm_pure (some 5) (by kernel_rfl) (by kernel_rfl) (by kernel_rfl) (fun _ => by kernel_rfl) ?_
    refine calm_pure (some 6) (by kernel_rfl) (by kernel_rfl) (by kernel_rfl) (fun _ => by kernel_rfl) ?_
    refine calm_pure (some 7) (by kernel_rfl) (by kernel_rfl) (by kernel_rfl) (fun _ => by kernel_rfl) ?_
    refine calm_call (some 8) 20 #[.pointer (some ⟨p, 0, none⟩)] ⟨_, rfl⟩ (by kernel_rfl) (by kernel_rfl) (by kernel_rfl) (fun _ => by kernel_rfl) (fun w' hw' => (l01Ok_is B.G true hv p w' (hw'.grd HB.out.g) HG.out.g).mono fun e w2 h => ⟨_, h.1, rfl, hw'.trans h.2⟩) ?_
    rintro _ rfl
    refine calm_pure (some 9) (by kernel_rfl) (by kernel_rfl) (by kernel_rfl) (fun _ => by kernel_rfl) ?_
    refine calm_pure (some 10) (by kernel_rfl) (by kernel_rfl) (by kernel_rfl) (fun _ => by kernel_rfl) ?_
    refine calm_pure (some 11) (by kernel_rfl) (by kernel_rfl) (by kernel_rfl) (fun _ => by kernel_rfl) ?_
    refine calm_pure (some 12) (by kernel_rfl) (by kernel_rfl) (by kernel_rfl) (fun _ => by kernel_rfl) ?_
    refine calm_pure (some 13) (by kernel_rfl) (by kernel_rfl) (by kernel_rfl) (fun _ => by kernel_rfl) ?_
    refine calm_pure (some 14) (by kernel_rfl) (by kernel_rfl) (by kernel_rfl) (fun _ => by kernel_rfl) ?_
    refine calm_pure (some 15) (by kernel_rfl) (by kernel_rfl) (by kernel_rfl) (fun _ => by kernel_rfl) ?_
    refine calm_pure (some 16) (by kernel_rfl) (by kernel_rfl) (by kernel_rfl) (fun _ => by kernel_rfl) ?_
    refine calm_call (some 17) 21 #[.pointer (some ⟨p, 0, none⟩), .pointer (some ⟨p, 195, none⟩)] ⟨_, rfl⟩ (by kernel_rfl) (by kernel_rfl) (by kernel_rfl) (fun _ => by kernel_rfl) (fun w' hw' => (l05Field_is B.G B.s true hs p p 195 w' (hw'.grd HB.out.g) HG.out.g (hw'.range HB.out.s0)).mono fun e w2 h => ⟨_, h.1, rfl, hw'.trans h.2⟩) ?_
    rintro _ rfl
    refine calm_pure (some 18) (by kernel_rfl) (by kernel_rfl) (by kernel_rfl) (fun _ => by kernel_rfl) ?_
    refine calm_pure (some 19) (by kernel_rfl) (by kernel_rfl) (by kernel_rfl) (fun _ => by kernel_rfl) ?_
    refine calm_pure (some 20) (by kernel_rfl) (by kernel_rfl) (by kernel_rfl) (fun _ => by kernel_rfl) ?_
    refine calm_pure (some 21) (by kernel_rfl) (by kernel_rfl) (by kernel_rfl) (fun _ => by kernel_rfl) ?_
    refine calm_pure (some 22) (by kernel_rfl) (by kernel_rfl) (by kernel_rfl) (fun _ => by kernel_rfl) ?_
    refine calm_pure (some 23) (by kernel_rfl) (by kernel_rfl) (by kernel_rfl) (fun _ => by kernel_rfl) ?_
    refine calm_pure (some 24) (by kernel_rfl) (by kernel_rfl) (by kernel_rfl) (fun _ => by kernel_rfl) ?_
    refine calm_pure (some 25) (by kernel_rfl) (by kernel_rfl) (by kernel_rfl) (fun _ => by kernel_rfl) ?_
    refine calm_pure (some 26) (by kernel_rfl) (by kernel_rfl) (by kernel_rfl) (fun _ => by kernel_rfl) ?_
    refine calm_call (some 27) 21 #[.pointer (some ⟨p, 0, none⟩), .pointer (some ⟨p, 259, none⟩)] ⟨_, rfl⟩ (by kernel_rfl) (by kernel_rfl) (by kernel_rfl) (fun _ => by kernel_rfl) (fun w' hw' => (l05Field_is B.G B.p false hp p p 259 w' (hw'.grd HB.out.g) HG.out.g (hw'.range HB.out.p0)).mono fun e w2 h => ⟨_, h.1, rfl, hw'.trans h.2⟩) ?_
    rintro _ rfl
    refine calm_pure (some 28) (by kernel_rfl) (by kernel_rfl) (by kernel_rfl) (fun _ => by kernel_rfl) ?_
    refine calm_pure (some 29) (by kernel_rfl) (by kernel_rfl) (by kernel_rfl) (fun _ => by kernel_rfl) ?_
    refine calm_pure (some 30) (by kernel_rfl) (by kernel_rfl) (by kernel_rfl) (fun _ => by kernel_rfl) ?_
    refine calm_skip (some 31) (by kernel_rfl) (by kernel_rfl) (by kernel_rfl) ?_
    refine calm_skip (some 32) (by kernel_rfl) (by kernel_rfl) (by kernel_rfl) ?_
    refine calm_skip (some 33) (by kernel_rfl) (by kernel_rfl) (by kernel_rfl) ?_
    refine calm_skip (some 34) (by kernel_rfl) (by kernel_rfl) (by kernel_rfl) ?_
    refine calm_skip (some 35) (by kernel_rfl) (by kernel_rfl) (by kernel_rfl) ?_
    refine calm_skip (some 36) (by kernel_rfl) (by kernel_rfl) (by kernel_rfl) ?_
    refine calm_pure (some 37) (by kernel_rfl) (by kernel_rfl) (by kernel_rfl) (fun _ => by kernel_rfl) ?_
    refine calm_pure (some 38) (by kernel_rfl) (by kernel_rfl) (by kernel_rfl) (fun _ => by kernel_rfl) ?_
    refine calm_skip (some 39) (by kernel_rfl) (by kernel_rfl) (by kernel_rfl) ?_
    refine calm_skip (some 40) (by kernel_rfl) (by kernel_rfl) (by kernel_rfl) ?_
    refine calm_skip (some 41) (by kernel_rfl) (by kernel_rfl) (by kernel_rfl) ?_
    refine calm_skip (some 42) (by kernel_rfl) (by kernel_rfl) (by kernel_rfl) ?_
    refine calm_skip (some 43) (by kernel_rfl) (by kernel_rfl) (by kernel_rfl) ?_
    refine calm_pure (some 44) (by kernel_rfl) (by kernel_rfl) (by kernel_rfl) (fun _ => by kernel_rfl) ?_
    refine calm_end fun w' hw' => plan_end (Clean.normal ?_)
    have HQ := Lib.hid hw'
    clear hw'
    simp only [Act.put, List.setIfInBounds_toArray, List.set_cons_zero, List.set_cons_succ]
    go_wp2
    go_ret
    exact ⟨rfl, HQ.out⟩
  cases hr : plainB B.r
  · rw [show brnB B = false by simp [brnB, hv, hs, hp, hr]]
    go_enter Tryd.func8, Tryd.ntmps8
    go_upto_region 1 with (fail)
    refine wp_region_calm (ops' := regOf Tryd.f8 1) [0, 1, 2, 3, 4, 5, 6, 7, 8, 9, 10, 11, 12, 13, 14, 15, 16, 17, 18, 19, 20, 21, 22, 23, 24, 25, 26, 27, 28, 29, 30, 31, 32, 33, 34, 35, 36, 37, 38, 39] [] .fin (Quiet w) [(0, One (.pointer (some ⟨p, 0, none⟩))), (1, One (.pointer (some ⟨p, 0, none⟩))), (2, One (.pointer (some ⟨p, 0, none⟩))), (3, One (.bool true)), (4, One (.bool false)), (5, One (.bool false)), (6, One (.pointer (some ⟨p, 0, none⟩))), (7, One (.pointer (some ⟨p, 0, none⟩))), (8, One (.pointer (some ⟨p, 0, none⟩))), (9, One (.pointer (some ⟨p, 0, none⟩))), (10, One (.pointer (some ⟨p, 0, none⟩))), (11, One (.pointer (some ⟨p, 195, none⟩))), (12, One (.bool true)), (13, One (.bool false)), (14, One (.bool false)), (15, One (.bool false)), (16, One (.pointer (some ⟨p, 0, none⟩))), (17, One (.pointer (some ⟨p, 0, none⟩))), (18, One (.pointer (some ⟨p, 0, none⟩))), (19, One (.pointer (some ⟨p, 0, none⟩))), (20, One (.pointer (some ⟨p, 0, none⟩))), (21, One (.pointer (some ⟨p, 259, none⟩))), (22, One (.bool true)), (23, One (.bool false)), (24, One (.bool false)), (25, One (.bool false)), (26, One (.pointer (some ⟨p, 0, none⟩))), (27, One (.pointer (some ⟨p, 0, none⟩))), (28, One (.pointer (some ⟨p, 323, none⟩))), (29, One (.float .f32 B.r)), (30, One (.bool false)), (31, One (.bool true)), (32, One (.bool true)), (33, One (.bool true)), (34, One undef), (35, One undef), (36, One undef), (37, One undef), (38, One undef), (39, One (.bool true))] (by kernel_rfl) (by kernel_rfl) (by kernel_rfl) (by kernel_rfl) (by kernel_rfl) (by kernel_rfl) (by kernel_rfl) (by kernel_rfl) rfl ((Quiet.refl _).drewN 1) ?_
    refine calm_pure (some 5) (by kernel_rfl) (by kernel_rfl) (by kernel_rfl) (fun _ => by kernel_rfl) ?_
    refine calm_pure (some 6) (by kernel_rfl) (by kernel_rfl) (by kernel_rfl) (fun _ => by kernel_rfl) ?_
    refine calm_pure (some 7) (by kernel_rfl) (by kernel_rfl) (by kernel_rfl) (fun _ => by kernel_rfl) ?_
    refine calm_call (some 8) 20 #[.pointer (some ⟨p, 0, none⟩)] ⟨_, rfl⟩ (by kernel_rfl) (by kernel_rfl) (by kernel_rfl) (fun _ => by kernel_rfl) (fun w' hw' => (l01Ok_is B.G true hv p w' (hw'.grd HB.out.g) HG.out.g).mono fun e w2 h => ⟨_, h.1, rfl, hw'.trans h.2⟩) ?_
    rintro _ rfl
    refine calm_pure (some 9) (by kernel_rfl) (by kernel_rfl) (by kernel_rfl) (fun _ => by kernel_rfl) ?_
    refine calm_pure (some 10) (by kernel_rfl) (by kernel_rfl) (by kernel_rfl) (fun _ => by kernel_rfl) ?_
    refine calm_pure (some 11) (by kernel_rfl) (by kernel_rfl) (by kernel_rfl) (fun _ => by kernel_rfl) ?_
    refine calm_pure (some 12) (by kernel_rfl) (by kernel_rfl) (by kernel_rfl) (fun _ => by kernel_rfl) ?_
    refine calm_pure (some 13) (by kernel_rfl) (by kernel_rfl) (by kernel_rfl) (fun _ => by kernel_rfl) ?_
    refine calm_pure (some 14) (by kernel_rfl) (by kernel_rfl) (by kernel_rfl) (fun _ => by kernel_rfl) ?_
    refine calm_pure (some 15) (by kernel_rfl) (by kernel_rfl) (by kernel_rfl) (fun _ => by kernel_rfl) ?_
    refine calm_pure (some 16) (by kernel_rfl) (by kernel_rfl) (by kernel_rfl) (fun _ => by kernel_rfl) ?_
    refine calm_call (some 17) 21 #[.pointer (some ⟨p, 0, none⟩), .pointer (some ⟨p, 195, none⟩)] ⟨_, rfl⟩ (by kernel_rfl) (by kernel_rfl) (by kernel_rfl) (fun _ => by kernel_rfl) (fun w' hw' => (l05Field_is B.G B.s true hs p p 195 w' (hw'.grd HB.out.g) HG.out.g (hw'.range HB.out.s0)).mono fun e w2 h => ⟨_, h.1, rfl, hw'.trans h.2⟩) ?_
    rintro _ rfl
    refine calm_pure (some 18) (by kernel_rfl) (by kernel_rfl) (by kernel_rfl) (fun _ => by kernel_rfl) ?_
    refine calm_pure (some 19) (by kernel_rfl) (by kernel_rfl) (by kernel_rfl) (fun _ => by kernel_rfl) ?_
    refine calm_pure (some 20) (by kernel_rfl) (by kernel_rfl) (by kernel_rfl) (fun _ => by kernel_rfl) ?_
    refine calm_pure (some 21) (by kernel_rfl) (by kernel_rfl) (by kernel_rfl) (fun _ => by kernel_rfl) ?_
    refine calm_pure (some 22) (by kernel_rfl) (by kernel_rfl) (by kernel_rfl) (fun _ => by kernel_rfl) ?_
    refine calm_pure (some 23) (by kernel_rfl) (by kernel_rfl) (by kernel_rfl) (fun _ => by kernel_rfl) ?_
    refine calm_pure (some 24) (by kernel_rfl) (by kernel_rfl) (by kernel_rfl) (fun _ => by kernel_rfl) ?_
    refine calm_pure (some 25) (by kernel_rfl) (by kernel_rfl) (by kernel_rfl) (fun _ => by kernel_rfl) ?_
    refine calm_pure (some 26) (by kernel_rfl) (by kernel_rfl) (by kernel_rfl) (fun _ => by kernel_rfl) ?_
    refine calm_call (some 27) 21 #[.pointer (some ⟨p, 0, none⟩), .pointer (some ⟨p, 259, none⟩)] ⟨_, rfl⟩ (by kernel_rfl) (by kernel_rfl) (by kernel_rfl) (fun _ => by kernel_rfl) (fun w' hw' => (l05Field_is B.G B.p true hp p p 259 w' (hw'.grd HB.out.g) HG.out.g (hw'.range HB.out.p0)).mono fun e w2 h => ⟨_, h.1, rfl, hw'.trans h.2⟩) ?_
    rintro _ rfl
    refine calm_pure (some 28) (by kernel_rfl) (by kernel_rfl) (by kernel_rfl) (fun _ => by kernel_rfl) ?_
    refine calm_pure (some 29) (by kernel_rfl) (by kernel_rfl) (by kernel_rfl) (fun _ => by kernel_rfl) ?_
    refine calm_pure (some 30) (by kernel_rfl) (by kernel_rfl) (by kernel_rfl) (fun _ => by kernel_rfl) ?_
    refine calm_pure (some 31) (by kernel_rfl) (by kernel_rfl) (by kernel_rfl) (fun _ => by kernel_rfl) ?_
    refine calm_pure (some 32) (by kernel_rfl) (by kernel_rfl) (by kernel_rfl) (fun _ => by kernel_rfl) ?_
    refine calm_pure (some 33) (by kernel_rfl) (by kernel_rfl) (by kernel_rfl) (fun _ => by kernel_rfl) ?_
    refine calm_read (some 34) (by kernel_rfl) (by kernel_rfl) (by kernel_rfl) (fun w' hw' => load_cell (ty := 23) (x := .tmp 33) (b := p) (o := 323) (by kernel_rfl) (by kernel_rfl) Tryd.underlying23 rfl (kq HB.out.r0 w' hw')) ?_
    refine calm_call (some 35) 11 #[.float .f32 B.r] ⟨_, rfl⟩ (by kernel_rfl) (by kernel_rfl) (by kernel_rfl) (fun _ => by kernel_rfl) (fun w' hw' => (l01Plain_is B.r false hr w').mono fun e w2 h => ⟨_, h.1, rfl, h.2 ▸ hw'⟩) ?_
    rintro _ rfl
    refine calm_pure (some 36) (by kernel_rfl) (by kernel_rfl) (by kernel_rfl) (fun _ => by kernel_rfl) ?_
    refine calm_pure (some 37) (by kernel_rfl) (by kernel_rfl) (by kernel_rfl) (fun _ => by kernel_rfl) ?_
    refine calm_pure (some 38) (by kernel_rfl) (by kernel_rfl) (by kernel_rfl) (fun _ => by kernel_rfl) ?_
    refine calm_skip (some 39) (by kernel_rfl) (by kernel_rfl) (by kernel_rfl) ?_
    refine calm_skip (some 40) (by kernel_rfl) (by kernel_rfl) (by kernel_rfl) ?_
    refine calm_skip (some 41) (by kernel_rfl) (by kernel_rfl) (by kernel_rfl) ?_
    refine calm_skip (some 42) (by kernel_rfl) (by kernel_rfl) (by kernel_rfl) ?_
    refine calm_skip (some 43) (by kernel_rfl) (by kernel_rfl) (by kernel_rfl) ?_
    refine calm_pure (some 44) (by kernel_rfl) (by kernel_rfl) (by kernel_rfl) (fun _ => by kernel_rfl) ?_
    refine calm_end fun w' hw' => plan_end (Clean.normal ?_)
    have HQ := Lib.hid hw'
    clear hw'
    simp only [Act.put, List.setIfInBounds_toArray, List.set_cons_zero, List.set_cons_succ]
    go_wp2
    go_ret
    exact ⟨rfl, HQ.out⟩
  cases ht : tinyB B.r
  case true =>
    rw [show brnB B = false by simp [brnB, hv, hs, hp, hr, ht]]
    unfold tinyB at ht
    go_enter Tryd.func8, Tryd.ntmps8
    go_upto_region 1 with (fail)
    refine wp_region_calm (ops' := regOf Tryd.f8 1) [0, 1, 2, 3, 4, 5, 6, 7, 8, 9, 10, 11, 12, 13, 14, 15, 16, 17, 18, 19, 20, 21, 22, 23, 24, 25, 26, 27, 28, 29, 30, 31, 32, 33, 34, 35, 36, 37, 38, 39] [] .fin (Quiet w) [(0, One (.pointer (some ⟨p, 0, none⟩))), (1, One (.pointer (some ⟨p, 0, none⟩))), (2, One (.pointer (some ⟨p, 0, none⟩))), (3, One (.bool true)), (4, One (.bool false)), (5, One (.bool false)), (6, One (.pointer (some ⟨p, 0, none⟩))), (7, One (.pointer (some ⟨p, 0, none⟩))), (8, One (.pointer (some ⟨p, 0, none⟩))), (9, One (.pointer (some ⟨p, 0, none⟩))), (10, One (.pointer (some ⟨p, 0, none⟩))), (11, One (.pointer (some ⟨p, 195, none⟩))), (12, One (.bool true)), (13, One (.bool false)), (14, One (.bool false)), (15, One (.bool false)), (16, One (.pointer (some ⟨p, 0, none⟩))), (17, One (.pointer (some ⟨p, 0, none⟩))), (18, One (.pointer (some ⟨p, 0, none⟩))), (19, One (.pointer (some ⟨p, 0, none⟩))), (20, One (.pointer (some ⟨p, 0, none⟩))), (21, One (.pointer (some ⟨p, 259, none⟩))), (22, One (.bool true)), (23, One (.bool false)), (24, One (.bool false)), (25, One (.bool false)), (26, One (.pointer (some ⟨p, 0, none⟩))), (27, One (.pointer (some ⟨p, 0, none⟩))), (28, One (.pointer (some ⟨p, 323, none⟩))), (29, One (.float .f32 B.r)), (30, One (.bool true)), (31, One (.bool false)), (32, One (.bool false)), (33, One (.bool false)), (34, One (.pointer (some ⟨p, 0, none⟩))), (35, One (.pointer (some ⟨p, 0, none⟩))), (36, One (.pointer (some ⟨p, 323, none⟩))), (37, One (.float .f32 B.r)), (38, One (.bool true)), (39, One (.bool true))] (by kernel_rfl) (by kernel_rfl) (by kernel_rfl) (by kernel_rfl) (by kernel_rfl) (by kernel_rfl) (by kernel_rfl) (by kernel_rfl) rfl ((Quiet.refl _).drewN 1) ?_
    refine calm_pure (some 5) (by kernel_rfl) (by kernel_rfl) (by kernel_rfl) (fun _ => by kernel_rfl) ?_
    refine calm_pure (some 6) (by kernel_rfl) (by kernel_rfl) (by kernel_rfl) (fun _ => by kernel_rfl) ?_
    refine calm_pure (some 7) (by kernel_rfl) (by kernel_rfl) (by kernel_rfl) (fun _ => by kernel_rfl) ?_
    refine calm_call (some 8) 20 #[.pointer (some ⟨p, 0, none⟩)] ⟨_, rfl⟩ (by kernel_rfl) (by kernel_rfl) (by kernel_rfl) (fun _ => by kernel_rfl) (fun w' hw' => (l01Ok_is B.G true hv p w' (hw'.grd HB.out.g) HG.out.g).mono fun e w2 h => ⟨_, h.1, rfl, hw'.trans h.2⟩) ?_
    rintro _ rfl
    refine calm_pure (some 9) (by kernel_rfl) (by kernel_rfl) (by kernel_rfl) (fun _ => by kernel_rfl) ?_
    refine calm_pure (some 10) (by kernel_rfl) (by kernel_rfl) (by kernel_rfl) (fun _ => by kernel_rfl) ?_
    refine calm_pure (some 11) (by kernel_rfl) (by kernel_rfl) (by kernel_rfl) (fun _ => by kernel_rfl) ?_
    refine calm_pure (some 12) (by kernel_rfl) (by kernel_rfl) (by kernel_rfl) (fun _ => by kernel_rfl) ?_
    refine calm_pure (some 13) (by kernel_rfl) (by kernel_rfl) (by kernel_rfl) (fun _ => by kernel_rfl) ?_
    refine calm_pure (some 14) (by kernel_rfl) (by kernel_rfl) (by kernel_rfl) (fun _ => by kernel_rfl) ?_
    refine calm_pure (some 15) (by kernel_rfl) (by kernel_rfl) (by kernel_rfl) (fun _ => by kernel_rfl) ?_
    refine calm_pure (some 16) (by kernel_rfl) (by kernel_rfl) (by kernel_rfl) (fun _ => by kernel_rfl) ?_
    refine calm_call (some 17) 21 #[.pointer (some ⟨p, 0, none⟩), .pointer (some ⟨p, 195, none⟩)] ⟨_, rfl⟩ (by kernel_rfl) (by kernel_rfl) (by kernel_rfl) (fun _ => by kernel_rfl) (fun w' hw' => (l05Field_is B.G B.s true hs p p 195 w' (hw'.grd HB.out.g) HG.out.g (hw'.range HB.out.s0)).mono fun e w2 h => ⟨_, h.1, rfl, hw'.trans h.2⟩) ?_
    rintro _ rfl
    refine calm_pure (some 18) (by kernel_rfl) (by kernel_rfl) (by kernel_rfl) (fun _ => by kernel_rfl) ?_
    refine calm_pure (some 19) (by kernel_rfl) (by kernel_rfl) (by kernel_rfl) (fun _ => by kernel_rfl) ?_
    refine calm_pure (some 20) (by kernel_rfl) (by kernel_rfl) (by kernel_rfl) (fun _ => by kernel_rfl) ?_
    refine calm_pure (some 21) (by kernel_rfl) (by kernel_rfl) (by kernel_rfl) (fun _ => by kernel_rfl) ?_
    refine calm_pure (some 22) (by kernel_rfl) (by kernel_rfl) (by kernel_rfl) (fun _ => by kernel_rfl) ?_
    refine calm_pure (some 23) (by kernel_rfl) (by kernel_rfl) (by kernel_rfl) (fun _ => by kernel_rfl) ?_
    refine calm_pure (some 24) (by kernel_rfl) (by kernel_rfl) (by kernel_rfl) (fun _ => by kernel_rfl) ?_
    refine calm_pure (some 25) (by kernel_rfl) (by kernel_rfl) (by kernel_rfl) (fun _ => by kernel_rfl) ?_
    refine calm_pure (some 26) (by kernel_rfl) (by kernel_rfl) (by kernel_rfl) (fun _ => by kernel_rfl) ?_
    refine calm_call (some 27) 21 #[.pointer (some ⟨p, 0, none⟩), .pointer (some ⟨p, 259, none⟩)] ⟨_, rfl⟩ (by kernel_rfl) (by kernel_rfl) (by kernel_rfl) (fun _ => by kernel_rfl) (fun w' hw' => (l05Field_is B.G B.p true hp p p 259 w' (hw'.grd HB.out.g) HG.out.g (hw'.range HB.out.p0)).mono fun e w2 h => ⟨_, h.1, rfl, hw'.trans h.2⟩) ?_
    rintro _ rfl
    refine calm_pure (some 28) (by kernel_rfl) (by kernel_rfl) (by kernel_rfl) (fun _ => by kernel_rfl) ?_
    refine calm_pure (some 29) (by kernel_rfl) (by kernel_rfl) (by kernel_rfl) (fun _ => by kernel_rfl) ?_
    refine calm_pure (some 30) (by kernel_rfl) (by kernel_rfl) (by kernel_rfl) (fun _ => by kernel_rfl) ?_
    refine calm_pure (some 31) (by kernel_rfl) (by kernel_rfl) (by kernel_rfl) (fun _ => by kernel_rfl) ?_
    refine calm_pure (some 32) (by kernel_rfl) (by kernel_rfl) (by kernel_rfl) (fun _ => by kernel_rfl) ?_
    refine calm_pure (some 33) (by kernel_rfl) (by kernel_rfl) (by kernel_rfl) (fun _ => by kernel_rfl) ?_
    refine calm_read (some 34) (by kernel_rfl) (by kernel_rfl) (by kernel_rfl) (fun w' hw' => load_cell (ty := 23) (x := .tmp 33) (b := p) (o := 323) (by kernel_rfl) (by kernel_rfl) Tryd.underlying23 rfl (kq HB.out.r0 w' hw')) ?_
    refine calm_call (some 35) 11 #[.float .f32 B.r] ⟨_, rfl⟩ (by kernel_rfl) (by kernel_rfl) (by kernel_rfl) (fun _ => by kernel_rfl) (fun w' hw' => (l01Plain_is B.r true hr w').mono fun e w2 h => ⟨_, h.1, rfl, h.2 ▸ hw'⟩) ?_
    rintro _ rfl
    refine calm_pure (some 36) (by kernel_rfl) (by kernel_rfl) (by kernel_rfl) (fun _ => by kernel_rfl) ?_
    refine calm_pure (some 37) (by kernel_rfl) (by kernel_rfl) (by kernel_rfl) (fun _ => by kernel_rfl) ?_
    refine calm_pure (some 38) (by kernel_rfl) (by kernel_rfl) (by kernel_rfl) (fun _ => by kernel_rfl) ?_
    refine calm_pure (some 39) (by kernel_rfl) (by kernel_rfl) (by kernel_rfl) (fun _ => by kernel_rfl) ?_
    refine calm_pure (some 40) (by kernel_rfl) (by kernel_rfl) (by kernel_rfl) (fun _ => by kernel_rfl) ?_
    refine calm_pure (some 41) (by kernel_rfl) (by kernel_rfl) (by kernel_rfl) (fun _ => by kernel_rfl) ?_
    refine calm_read (some 42) (by kernel_rfl) (by kernel_rfl) (by kernel_rfl) (fun w' hw' => load_cell (ty := 23) (x := .tmp 41) (b := p) (o := 323) (by kernel_rfl) (by kernel_rfl) Tryd.underlying23 rfl (kq HB.out.r0 w' hw')) ?_
    refine calm_pure (some 43) (by kernel_rfl) (by kernel_rfl) (by kernel_rfl) (fun _ => by rw [← ht]; kernel_rfl) ?_
    refine calm_pure (some 44) (by kernel_rfl) (by kernel_rfl) (by kernel_rfl) (fun _ => by kernel_rfl) ?_
    refine calm_end fun w' hw' => plan_end (Clean.normal ?_)
    have HQ := Lib.hid hw'
    clear hw'
    simp only [Act.put, List.setIfInBounds_toArray, List.set_cons_zero, List.set_cons_succ]
    go_wp2
    go_ret
    exact ⟨rfl, HQ.out⟩
  rw [show brnB B = flowsB B.G by simp [brnB, hv, hs, hp, hr, ht]]
  unfold tinyB at ht
  go_enter Tryd.func8, Tryd.ntmps8
  go_upto_region 1 with (fail)
  refine wp_region_calm (ops' := regOf Tryd.f8 1) [0, 1, 2, 3, 4, 5, 6, 7, 8, 9, 10, 11, 12, 13, 14, 15, 16, 17, 18, 19, 20, 21, 22, 23, 24, 25, 26, 27, 28, 29, 30, 31, 32, 33, 34, 35, 36, 37, 38, 39] [] .fin (Quiet w) [(0, One (.pointer (some ⟨p, 0, none⟩))), (1, One (.pointer (some ⟨p, 0, none⟩))), (2, One (.pointer (some ⟨p, 0, none⟩))), (3, One (.bool true)), (4, One (.bool false)), (5, One (.bool false)), (6, One (.pointer (some ⟨p, 0, none⟩))), (7, One (.pointer (some ⟨p, 0, none⟩))), (8, One (.pointer (some ⟨p, 0, none⟩))), (9, One (.pointer (some ⟨p, 0, none⟩))), (10, One (.pointer (some ⟨p, 0, none⟩))), (11, One (.pointer (some ⟨p, 195, none⟩))), (12, One (.bool true)), (13, One (.bool false)), (14, One (.bool false)), (15, One (.bool false)), (16, One (.pointer (some ⟨p, 0, none⟩))), (17, One (.pointer (some ⟨p, 0, none⟩))), (18, One (.pointer (some ⟨p, 0, none⟩))), (19, One (.pointer (some ⟨p, 0, none⟩))), (20, One (.pointer (some ⟨p, 0, none⟩))), (21, One (.pointer (some ⟨p, 259, none⟩))), (22, One (.bool true)), (23, One (.bool false)), (24, One (.bool false)), (25, One (.bool false)), (26, One (.pointer (some ⟨p, 0, none⟩))), (27, One (.pointer (some ⟨p, 0, none⟩))), (28, One (.pointer (some ⟨p, 323, none⟩))), (29, One (.float .f32 B.r)), (30, One (.bool true)), (31, One (.bool false)), (32, One (.bool false)), (33, One (.bool false)), (34, One (.pointer (some ⟨p, 0, none⟩))), (35, One (.pointer (some ⟨p, 0, none⟩))), (36, One (.pointer (some ⟨p, 323, none⟩))), (37, One (.float .f32 B.r)), (38, One (.bool false)), (39, One (.bool false))] (by kernel_rfl) (by kernel_rfl) (by kernel_rfl) (by kernel_rfl) (by kernel_rfl) (by kernel_rfl) (by kernel_rfl) (by kernel_rfl) rfl ((Quiet.refl _).drewN 1) ?_
  refine calm_pure (some 5) (by kernel_rfl) (by kernel_rfl) (by kernel_rfl) (fun _ => by kernel_rfl) ?_
  refine calm_pure (some 6) (by kernel_rfl) (by kernel_rfl) (by kernel_rfl) (fun _ => by kernel_rfl) ?_
  refine calm_pure (some 7) (by kernel_rfl) (by kernel_rfl) (by kernel_rfl) (fun _ => by kernel_rfl) ?_
  refine calm_call (some 8) 20 #[.pointer (some ⟨p, 0, none⟩)] ⟨_, rfl⟩ (by kernel_rfl) (by kernel_rfl) (by kernel_rfl) (fun _ => by kernel_rfl) (fun w' hw' => (l01Ok_is B.G true hv p w' (hw'.grd HB.out.g) HG.out.g).mono fun e w2 h => ⟨_, h.1, rfl, hw'.trans h.2⟩) ?_
  rintro _ rfl
  refine calm_pure (some 9) (by kernel_rfl) (by kernel_rfl) (by kernel_rfl) (fun _ => by kernel_rfl) ?_
  refine calm_pure (some 10) (by kernel_rfl) (by kernel_rfl) (by kernel_rfl) (fun _ => by kernel_rfl) ?_
  refine calm_pure (some 11) (by kernel_rfl) (by kernel_rfl) (by kernel_rfl) (fun _ => by kernel_rfl) ?_
  refine calm_pure (some 12) (by kernel_rfl) (by kernel_rfl) (by kernel_rfl) (fun _ => by kernel_rfl) ?_
  refine calm_pure (some 13) (by kernel_rfl) (by kernel_rfl) (by kernel_rfl) (fun _ => by kernel_rfl) ?_
  refine calm_pure (some 14) (by kernel_rfl) (by kernel_rfl) (by kernel_rfl) (fun _ => by kernel_rfl) ?_
  refine calm_pure (some 15) (by kernel_rfl) (by kernel_rfl) (by kernel_rfl) (fun _ => by kernel_rfl) ?_
  refine calm_pure (some 16) (by kernel_rfl) (by kernel_rfl) (by kernel_rfl) (fun _ => by kernel_rfl) ?_
  refine calm_call (some 17) 21 #[.pointer (some ⟨p, 0, none⟩), .pointer (some ⟨p, 195, none⟩)] ⟨_, rfl⟩ (by kernel_rfl) (by kernel_rfl) (by kernel_rfl) (fun _ => by kernel_rfl) (fun w' hw' => (l05Field_is B.G B.s true hs p p 195 w' (hw'.grd HB.out.g) HG.out.g (hw'.range HB.out.s0)).mono fun e w2 h => ⟨_, h.1, rfl, hw'.trans h.2⟩) ?_
  rintro _ rfl
  refine calm_pure (some 18) (by kernel_rfl) (by kernel_rfl) (by kernel_rfl) (fun _ => by kernel_rfl) ?_
  refine calm_pure (some 19) (by kernel_rfl) (by kernel_rfl) (by kernel_rfl) (fun _ => by kernel_rfl) ?_
  refine calm_pure (some 20) (by kernel_rfl) (by kernel_rfl) (by kernel_rfl) (fun _ => by kernel_rfl) ?_
  refine calm_pure (some 21) (by kernel_rfl) (by kernel_rfl) (by kernel_rfl) (fun _ => by kernel_rfl) ?_
  refine calm_pure (some 22) (by kernel_rfl) (by kernel_rfl) (by kernel_rfl) (fun _ => by kernel_rfl) ?_
  refine calm_pure (some 23) (by kernel_rfl) (by kernel_rfl) (by kernel_rfl) (fun _ => by kernel_rfl) ?_
  refine calm_pure (some 24) (by kernel_rfl) (by kernel_rfl) (by kernel_rfl) (fun _ => by kernel_rfl) ?_
  refine calm_pure (some 25) (by kernel_rfl) (by kernel_rfl) (by kernel_rfl) (fun _ => by kernel_rfl) ?_
  refine calm_pure (some 26) (by kernel_rfl) (by kernel_rfl) (by kernel_rfl) (fun _ => by kernel_rfl) ?_
  refine calm_call (some 27) 21 #[.pointer (some ⟨p, 0, none⟩), .pointer (some ⟨p, 259, none⟩)] ⟨_, rfl⟩ (by kernel_rfl) (by kernel_rfl) (by kernel_rfl) (fun _ => by kernel_rfl) (fun w' hw' => (l05Field_is B.G B.p true hp p p 259 w' (hw'.grd HB.out.g) HG.out.g (hw'.range HB.out.p0)).mono fun e w2 h => ⟨_, h.1, rfl, hw'.trans h.2⟩) ?_
  rintro _ rfl
  refine calm_pure (some 28) (by kernel_rfl) (by kernel_rfl) (by kernel_rfl) (fun _ => by kernel_rfl) ?_
  refine calm_pure (some 29) (by kernel_rfl) (by kernel_rfl) (by kernel_rfl) (fun _ => by kernel_rfl) ?_
  refine calm_pure (some 30) (by kernel_rfl) (by kernel_rfl) (by kernel_rfl) (fun _ => by kernel_rfl) ?_
  refine calm_pure (some 31) (by kernel_rfl) (by kernel_rfl) (by kernel_rfl) (fun _ => by kernel_rfl) ?_
  refine calm_pure (some 32) (by kernel_rfl) (by kernel_rfl) (by kernel_rfl) (fun _ => by kernel_rfl) ?_
  refine calm_pure (some 33) (by kernel_rfl) (by kernel_rfl) (by kernel_rfl) (fun _ => by kernel_rfl) ?_
  refine calm_read (some 34) (by kernel_rfl) (by kernel_rfl) (by kernel_rfl) (fun w' hw' => load_cell (ty := 23) (x := .tmp 33) (b := p) (o := 323) (by kernel_rfl) (by kernel_rfl) Tryd.underlying23 rfl (kq HB.out.r0 w' hw')) ?_
  refine calm_call (some 35) 11 #[.float .f32 B.r] ⟨_, rfl⟩ (by kernel_rfl) (by kernel_rfl) (by kernel_rfl) (fun _ => by kernel_rfl) (fun w' hw' => (l01Plain_is B.r true hr w').mono fun e w2 h => ⟨_, h.1, rfl, h.2 ▸ hw'⟩) ?_
  rintro _ rfl
  refine calm_pure (some 36) (by kernel_rfl) (by kernel_rfl) (by kernel_rfl) (fun _ => by kernel_rfl) ?_
  refine calm_pure (some 37) (by kernel_rfl) (by kernel_rfl) (by kernel_rfl) (fun _ => by kernel_rfl) ?_
  refine calm_pure (some 38) (by kernel_rfl) (by kernel_rfl) (by kernel_rfl) (fun _ => by kernel_rfl) ?_
  refine calm_pure (some 39) (by kernel_rfl) (by kernel_rfl) (by kernel_rfl) (fun _ => by kernel_rfl) ?_
  refine calm_pure (some 40) (by kernel_rfl) (by kernel_rfl) (by kernel_rfl) (fun _ => by kernel_rfl) ?_
  refine calm_pure (some 41) (by kernel_rfl) (by kernel_rfl) (by kernel_rfl) (fun _ => by kernel_rfl) ?_
  refine calm_read (some 42) (by kernel_rfl) (by kernel_rfl) (by kernel_rfl) (fun w' hw' => load_cell (ty := 23) (x := .tmp 41) (b := p) (o := 323) (by kernel_rfl) (by kernel_rfl) Tryd.underlying23 rfl (kq HB.out.r0 w' hw')) ?_
  refine calm_pure (some 43) (by kernel_rfl) (by kernel_rfl) (by kernel_rfl) (fun _ => by rw [← ht]; kernel_rfl) ?_
  refine calm_pure (some 44) (by kernel_rfl) (by kernel_rfl) (by kernel_rfl) (fun _ => by kernel_rfl) ?_
  refine calm_end fun w' hw' => plan_end (Clean.normal ?_)
  have HQ := Lib.hid hw'
  clear hw'
  simp only [Act.put, List.setIfInBounds_toArray, List.set_cons_zero, List.set_cons_succ]
  have HV := Lib.hid hv
  clear hv hs hp hr ht
  go_wp2
  go_loopw [3] (fun i wr => ∃ k : Nat, k ≤ 64 ∧ i = .int .i64 k ∧ Hid (upto (flowsAt B.G) k) ∧ Hid (Quiet w wr)) (fun i _ => 64 - (intOf i).toNat)
  case atStart => exact ⟨0, by omega, rfl, upto_zero _, HQ⟩
  case round =>
    clear HQ
    obtain ⟨k, hk, rfl, hT, HQ⟩ := hrel
    by_cases hlt : k < 64
    · have hk2 : (k : Int) < 64 := by omega
      go_wp2
      go_loopw [4] (fun i wr => ∃ j : Nat, j ≤ 4 ∧ i = .int .i64 j ∧ Hid (∀ s : Nat, s < j → finO (flowS B.G k (s : Int)) = true) ∧ Hid (Quiet w wr)) (fun i _ => 4 - (intOf i).toNat)
      case atStart => exact ⟨0, by omega, rfl, Lib.hid (fun s hs => by omega), HQ⟩
      case round =>
        clear HQ
        obtain ⟨j, hj, rfl, hS, HQ⟩ := hrel
        by_cases hj4 : j < 4
        · cases hi : isB B.G k
          · have Hi := Lib.hid hi
            clear hi
            go_wp2_with (go_at_call 22; refine (l01Is_is B.G k hlt false Hi.out _ _ (HQ.out.grd HB.out.g) HG.out.g).mono ?_; rintro e w' ⟨rfl, rfl⟩)
            go_roundw
            case rel => exact ⟨k + 1, by omega, by go_num, upto_snoc hT.out (by unfold flowsAt; rw [Hi.out]; rfl), HQ⟩
            case measure => simp [intOf]; omega
          · have Hi := Lib.hid hi
            have hsd : sideB (j : Int) = true := by unfold sideB; simp; omega
            cases hf : finO (flowS B.G k (j : Int))
            · have Hf := Lib.hid hf
              clear hi hf
              go_wp2_with (first | (go_at_call 22; refine (l01Is_is B.G k hlt true Hi.out _ _ (HQ.out.grd HB.out.g) HG.out.g).mono ?_; rintro e w' ⟨rfl, rfl⟩) | (go_at_call 24; refine (l01Flow_any B.G k hlt HV.out j hsd _ _ (HQ.out.grd HB.out.g) HG.out.g).mono ?_; rintro e w1 ⟨r, rfl, hr, hq⟩; have HR := Lib.hid ((finO_of hr).trans Hf.out); have HQ1 := Lib.hid (HQ.out.trans hq); clear hr hq) | (go_at_call 23; refine (l01Finite_is r false HR.out _).mono ?_; rintro e w2 ⟨rfl, hq2⟩; have HQ2 := Lib.hid (HQ1.out.trans hq2); clear hq2))
              go_ret
              exact ⟨ret_bool (all_no k hlt (by unfold flowsAt; rw [Hi.out, all4_no j hj4 Hf.out]; rfl)).symm, HQ2.out⟩
            · have Hf := Lib.hid hf
              clear hi hf
              go_wp2_with (first | (go_at_call 22; refine (l01Is_is B.G k hlt true Hi.out _ _ (HQ.out.grd HB.out.g) HG.out.g).mono ?_; rintro e w' ⟨rfl, rfl⟩) | (go_at_call 24; refine (l01Flow_any B.G k hlt HV.out j hsd _ _ (HQ.out.grd HB.out.g) HG.out.g).mono ?_; rintro e w1 ⟨r, rfl, hr, hq⟩; have HR := Lib.hid ((finO_of hr).trans Hf.out); have HQ1 := Lib.hid (HQ.out.trans hq); clear hr hq) | (go_at_call 23; refine (l01Finite_is r true HR.out _).mono ?_; rintro e w2 ⟨rfl, hq2⟩; have HQ2 := Lib.hid (HQ1.out.trans hq2); clear hq2))
              go_roundw
              case rel => exact ⟨j + 1, by omega, by go_num, Lib.hid (fun s hs => by rcases Nat.lt_succ_iff_lt_or_eq.1 hs with h | h; exact hS.out s h; subst h; exact Hf.out), HQ2⟩
              case measure => simp [intOf]; omega
        · obtain rfl : j = 4 := by omega
          go_wp2
          go_roundw
          case rel => exact ⟨k + 1, by omega, by go_num, upto_snoc hT.out (by unfold flowsAt; rw [all4_yes hS.out]; cases isB B.G k <;> rfl), HQ⟩
          case measure => simp [intOf]; omega
    · obtain rfl : k = 64 := by omega
      go_wp2
      go_ret
      exact ⟨ret_bool (all_yes hT.out).symm, HQ.out⟩
end Go.Proofs.YtikefaollfaejaaDoor
