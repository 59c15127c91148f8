/- Joints and flows: the model's and the program's. No condition. -/
import Derived.Test.YtcfkkceidlpdkaaDoorKitB
namespace Go.Proofs.YtcfkkceidlpdkaaDoor
open Go.RowKit
set_option linter.unusedSimpArgs false
set_option linter.unusedVariables false

/-- The joint of two cells. -/
def jointG (G : Gd) (i j : Nat) : Option Nat := joint (G.c i) (G.c j)
theorem jointG_ex (G : Gd) (i j : Nat) : ∃ r, num .f32 r = jointG G i j := joint_ex _ _
/-- What flows from a cell to another. -/
def flowO (G : Gd) (i j : Nat) : Option Nat := fop .f32 .mul (jointG G i j) (fop .f32 .sub (num .f32 (G.h i)) (num .f32 (G.h j)))
theorem flowO_ex (G : Gd) (i j : Nat) : ∃ r, num .f32 r = flowO G i j := fop_ex _ _ rfl _ _ (jointG_ex _ _ _) (fop_ex _ _ rfl _ _ (num_ex _ _) (num_ex _ _))

set_option maxRecDepth 100000 in
theorem implJoint_any (G : Gd) (i j : Nat) (hi : i < 64) (hj : j < 64) (p : Nat) (w : World) (hp : GrdAt w p 0 G) :
    Calls Tryd.prog 73 #[.pointer (some ⟨p, 0, none⟩), .int .i64 i, .int .i64 j] w (GivesN (jointG G i j) w) := by
  have hc := hp.c
  rw [Nat.zero_add] at hc
  go_enter Tryd.func73, Tryd.ntmps73
  go_upto_region 1 with (fail)
  refine wp_region_calm (ops' := regOf Tryd.f73 1) [0, 1, 2, 3, 4, 5, 6, 7, 8, 9, 10, 11, 12, 13] [] .fin (Quiet w) [(0, One (.pointer (some ⟨p, 0, none⟩))), (1, One (.int .i64 i)), (2, One (.pointer (some ⟨p, 0, none⟩))), (3, One (.pointer (some ⟨p, 2, none⟩))), (4, One (.pointer (some ⟨p, 2 + i, none⟩))), (5, One (.float .f32 (G.c i))), (6, One (.pointer (some ⟨p, 0, none⟩))), (7, One (.int .i64 j)), (8, One (.pointer (some ⟨p, 0, none⟩))), (9, One (.pointer (some ⟨p, 2, none⟩))), (10, One (.pointer (some ⟨p, 2 + j, none⟩))), (11, One (.float .f32 (G.c j))), (12, Numv .f32 (jointG G i j)), (13, Numv .f32 (jointG G i j))] (by kernel_rfl) (by kernel_rfl) (by kernel_rfl) (by kernel_rfl) (by kernel_rfl) (by kernel_rfl) (by kernel_rfl) (by kernel_rfl) rfl ((Quiet.refl _).drewN 1) ?_
  refine calm_pure (some 7) (by kernel_rfl) (by kernel_rfl) (by kernel_rfl) (fun _ => by kernel_rfl) ?_
  refine calm_pure (some 8) (by kernel_rfl) (by kernel_rfl) (by kernel_rfl) (fun _ => by kernel_rfl) ?_
  refine calm_pure (some 9) (by kernel_rfl) (by kernel_rfl) (by kernel_rfl) (fun _ => by kernel_rfl) ?_
  refine calm_pure (some 10) (by kernel_rfl) (by kernel_rfl) (by kernel_rfl) (fun _ => by kernel_rfl) ?_
  refine calm_pure (some 11) (by kernel_rfl) (by kernel_rfl) (by kernel_rfl) (index_fld (x := .tmp 10) (y := .tmp 8) (o := 2) (by kernel_rfl) (by kernel_rfl) (by kernel_rfl) hi) ?_
  refine calm_read (some 12) (by kernel_rfl) (by kernel_rfl) (by kernel_rfl) (fun w' hw' => load_cell (ty := 23) (x := .tmp 11) (b := p) (o := 2 + i) (by kernel_rfl) (by kernel_rfl) Tryd.underlying23 rfl (kq (Grd_fld hc i hi) w' hw')) ?_
  refine calm_pure (some 13) (by kernel_rfl) (by kernel_rfl) (by kernel_rfl) (fun _ => by kernel_rfl) ?_
  refine calm_pure (some 14) (by kernel_rfl) (by kernel_rfl) (by kernel_rfl) (fun _ => by kernel_rfl) ?_
  refine calm_pure (some 15) (by kernel_rfl) (by kernel_rfl) (by kernel_rfl) (fun _ => by kernel_rfl) ?_
  refine calm_pure (some 16) (by kernel_rfl) (by kernel_rfl) (by kernel_rfl) (fun _ => by kernel_rfl) ?_
  refine calm_pure (some 17) (by kernel_rfl) (by kernel_rfl) (by kernel_rfl) (index_fld (x := .tmp 16) (y := .tmp 14) (o := 2) (by kernel_rfl) (by kernel_rfl) (by kernel_rfl) hj) ?_
  refine calm_read (some 18) (by kernel_rfl) (by kernel_rfl) (by kernel_rfl) (fun w' hw' => load_cell (ty := 23) (x := .tmp 17) (b := p) (o := 2 + j) (by kernel_rfl) (by kernel_rfl) Tryd.underlying23 rfl (kq (Grd_fld hc j hj) w' hw')) ?_
  refine calm_call (some 19) 96 #[.float .f32 (G.c i), .float .f32 (G.c j)] (numv_ne (jointG_ex G i j)) (by kernel_rfl) (by kernel_rfl) (by kernel_rfl) (fun _ => by kernel_rfl) (fun w' hw' => ((jointOf_any (G.c i) (G.c j) w').mono fun _ _ h => givesN_of h).mono fun e w2 ⟨r, he, hr, hq⟩ => ⟨_, he, ⟨r, rfl, hr⟩, hw'.trans hq⟩) ?_
  rintro _ ⟨r19, rfl, hr19⟩
  refine calm_pureV (some 6) (.float .f32 r19) ⟨_, rfl, hr19⟩ (by kernel_rfl) (by kernel_rfl) (by kernel_rfl) (fun _ => by kernel_rfl) ?_
  rintro _ ⟨r6, rfl, hr6⟩
  refine calm_end fun w' hw' => plan_end (Clean.normal ?_)
  simp only [Act.put, List.setIfInBounds_toArray, List.set_cons_zero, List.set_cons_succ]
  go_wp2
  go_ret
  exact ⟨r6, rfl, hr6, hw'⟩

set_option maxRecDepth 100000 in
theorem implFlow_any (G : Gd) (i j : Nat) (hi : i < 64) (hj : j < 64) (p : Nat) (w : World) (hp : GrdAt w p 0 G) :
    Calls Tryd.prog 50 #[.pointer (some ⟨p, 0, none⟩), .int .i64 i, .int .i64 j] w (GivesN (flowO G i j) w) := by
  have hc := hp.h
  rw [Nat.zero_add] at hc
  have HP := Lib.hid hp
  clear hp
  go_enter Tryd.func50, Tryd.ntmps50
  go_upto_region 1 with (fail)
  refine wp_region_calm (ops' := regOf Tryd.f50 1) [0, 1, 2, 3, 4, 5, 6, 7, 8, 9, 10, 11, 12, 13] [] .fin (Quiet w) [(0, One (.pointer (some ⟨p, 0, none⟩))), (1, One (.int .i64 i)), (2, One (.pointer (some ⟨p, 0, none⟩))), (3, One (.pointer (some ⟨p, 130, none⟩))), (4, One (.pointer (some ⟨p, 130 + i, none⟩))), (5, One (.float .f32 (G.h i))), (6, One (.pointer (some ⟨p, 0, none⟩))), (7, One (.int .i64 j)), (8, One (.pointer (some ⟨p, 0, none⟩))), (9, One (.pointer (some ⟨p, 130, none⟩))), (10, One (.pointer (some ⟨p, 130 + j, none⟩))), (11, One (.float .f32 (G.h j))), (12, Numv .f32 (fop .f32 .sub (num .f32 (G.h i)) (num .f32 (G.h j)))), (13, Numv .f32 (fop .f32 .sub (num .f32 (G.h i)) (num .f32 (G.h j))))] (by kernel_rfl) (by kernel_rfl) (by kernel_rfl) (by kernel_rfl) (by kernel_rfl) (by kernel_rfl) (by kernel_rfl) (by kernel_rfl) rfl ((Quiet.refl _).drewN 1) ?_
  refine calm_pure (some 8) (by kernel_rfl) (by kernel_rfl) (by kernel_rfl) (fun _ => by kernel_rfl) ?_
  refine calm_pure (some 9) (by kernel_rfl) (by kernel_rfl) (by kernel_rfl) (fun _ => by kernel_rfl) ?_
  refine calm_pure (some 10) (by kernel_rfl) (by kernel_rfl) (by kernel_rfl) (fun _ => by kernel_rfl) ?_
  refine calm_pure (some 11) (by kernel_rfl) (by kernel_rfl) (by kernel_rfl) (fun _ => by kernel_rfl) ?_
  refine calm_pure (some 12) (by kernel_rfl) (by kernel_rfl) (by kernel_rfl) (index_fld (x := .tmp 11) (y := .tmp 9) (o := 130) (by kernel_rfl) (by kernel_rfl) (by kernel_rfl) hi) ?_
  refine calm_read (some 13) (by kernel_rfl) (by kernel_rfl) (by kernel_rfl) (fun w' hw' => load_cell (ty := 23) (x := .tmp 12) (b := p) (o := 130 + i) (by kernel_rfl) (by kernel_rfl) Tryd.underlying23 rfl (kq (Grd_fld hc i hi) w' hw')) ?_
  refine calm_pure (some 14) (by kernel_rfl) (by kernel_rfl) (by kernel_rfl) (fun _ => by kernel_rfl) ?_
  refine calm_pure (some 15) (by kernel_rfl) (by kernel_rfl) (by kernel_rfl) (fun _ => by kernel_rfl) ?_
  refine calm_pure (some 16) (by kernel_rfl) (by kernel_rfl) (by kernel_rfl) (fun _ => by kernel_rfl) ?_
  refine calm_pure (some 17) (by kernel_rfl) (by kernel_rfl) (by kernel_rfl) (fun _ => by kernel_rfl) ?_
  refine calm_pure (some 18) (by kernel_rfl) (by kernel_rfl) (by kernel_rfl) (index_fld (x := .tmp 17) (y := .tmp 15) (o := 130) (by kernel_rfl) (by kernel_rfl) (by kernel_rfl) hj) ?_
  refine calm_read (some 19) (by kernel_rfl) (by kernel_rfl) (by kernel_rfl) (fun w' hw' => load_cell (ty := 23) (x := .tmp 18) (b := p) (o := 130 + j) (by kernel_rfl) (by kernel_rfl) Tryd.underlying23 rfl (kq (Grd_fld hc j hj) w' hw')) ?_
  refine calm_float (some 20) .f32 .sub 23 23 (.tmp 13) (.tmp 19) ((G.h i)) ((G.h j)) (by kernel_rfl) (by kernel_rfl) (by kernel_rfl) (by kernel_rfl) rfl (by kernel_rfl) (by kernel_rfl) (fun _ n h => h.drewN n) (rfl) ?_
  intro r20 hr20
  refine calm_pureV (some 7) (.float .f32 r20) ⟨_, rfl, hr20⟩ (by kernel_rfl) (by kernel_rfl) (by kernel_rfl) (fun _ => by kernel_rfl) ?_
  rintro _ ⟨r7, rfl, hr7⟩
  refine calm_end fun w' hw' => plan_end (Clean.normal ?_)
  have HQ := Lib.hid hw'
  have HR := Lib.hid hr7
  clear hw' hr7 hr20 hc
  simp only [Act.put, List.setIfInBounds_toArray, List.set_cons_zero, List.set_cons_succ]
  go_wp2_with (first | (go_at_call 73; refine (implJoint_any G i j hi hj p _ (HQ.out.grd HP.out)).mono ?_; rintro e w1 ⟨r, rfl, hr, hq⟩; have HJ := Lib.hid hr; have HQ1 := Lib.hid (HQ.out.trans hq); clear hr hq) | (refine wpList_float rfl _ _ _ _ _ rfl rfl .f32 _ _ rfl rfl ?_; intro s n hs; have HS := Lib.hid hs; clear hs))
  go_ret
  exact ⟨s, rfl, HS.out.trans (fop_eq HJ.out HR.out), HQ1.out.drewN n⟩

/-- The number of the cell on a side. -/
def nbN (k : Nat) (s : Int) : Nat := (nb k s).toNat
theorem nbN_is {G : Gd} {k : Nat} {s : Int} (hv : validB G = true) (h : nbB G k s = true) : nb k s = (nbN k s : Int) ∧ nbN k s < 64 := by
  have := nb_range hv h
  unfold nbN
  omega

set_option maxRecDepth 100000 in
theorem l01Between_yes (G : Gd) (k j : Nat) (hk : k < 64) (hj : j < 64) (s : Int) (hs : sideB s = true) (hn : besideN G k s = (j : Int)) (p : Nat) (w : World) (hp : GrdAt w p 0 G) (hG : GdOk G) :
    Calls Tryd.prog 80 #[.pointer (some ⟨p, 0, none⟩), .int .i64 k, .int .i64 s] w fun e w' => ∃ r, e = .returned (.tuple #[.float .f32 r, .int .i64 j]) ∧ num .f32 r = jointG G k j ∧ Quiet w w' := by
  have hc := hp.c
  rw [Nat.zero_add] at hc
  have HN := Lib.hid hn
  have HP := Lib.hid hp
  have HG := Lib.hid hG
  clear hp hn hG
  go_enter Tryd.func80, Tryd.ntmps80
  go_upto_region 4 with (go_at_call 86; have hb := (l01Beside_any G k hk s hs p w HP.out HG.out); rw [HN.out] at hb; refine hb.mono ?_; clear hb; rintro e w' ⟨rfl, rfl⟩)
  refine wp_region_calm (ops' := regOf Tryd.f80 4) [0, 1, 2, 3, 4, 5, 6, 7, 8, 9, 10, 11, 12, 13, 14, 15] [] .fin (Quiet w) [(0, One (.pointer (some ⟨p, 0, none⟩))), (1, One (.int .i64 k)), (2, One (.pointer (some ⟨p, 0, none⟩))), (3, One (.pointer (some ⟨p, 2, none⟩))), (4, One (.pointer (some ⟨p, 2 + k, none⟩))), (5, One (.float .f32 (G.c k))), (6, One (.pointer (some ⟨p, 0, none⟩))), (7, One (.int .i64 (j : Int))), (8, One (.pointer (some ⟨p, 0, none⟩))), (9, One (.pointer (some ⟨p, 2, none⟩))), (10, One (.pointer (some ⟨p, 2 + j, none⟩))), (11, One (.float .f32 (G.c j))), (12, Numv .f32 (jointG G k j)), (13, One (.int .i64 (j : Int))), (14, Numv .f32 (jointG G k j)), (15, One (.int .i64 (j : Int)))] (by kernel_rfl) (by kernel_rfl) (by kernel_rfl) (by kernel_rfl) (by kernel_rfl) (by kernel_rfl) (by kernel_rfl) (by kernel_rfl) rfl ((Quiet.refl _).drewN 1) ?_
  refine calm_pure (some 15) (by kernel_rfl) (by kernel_rfl) (by kernel_rfl) (fun _ => by kernel_rfl) ?_
  refine calm_pure (some 16) (by kernel_rfl) (by kernel_rfl) (by kernel_rfl) (fun _ => by kernel_rfl) ?_
  refine calm_pure (some 17) (by kernel_rfl) (by kernel_rfl) (by kernel_rfl) (fun _ => by kernel_rfl) ?_
  refine calm_pure (some 18) (by kernel_rfl) (by kernel_rfl) (by kernel_rfl) (fun _ => by kernel_rfl) ?_
  refine calm_pure (some 19) (by kernel_rfl) (by kernel_rfl) (by kernel_rfl) (index_fld (x := .tmp 18) (y := .tmp 16) (o := 2) (by kernel_rfl) (by kernel_rfl) (by kernel_rfl) hk) ?_
  refine calm_read (some 20) (by kernel_rfl) (by kernel_rfl) (by kernel_rfl) (fun w' hw' => load_cell (ty := 23) (x := .tmp 19) (b := p) (o := 2 + k) (by kernel_rfl) (by kernel_rfl) Tryd.underlying23 rfl (kq (Grd_fld hc k hk) w' hw')) ?_
  refine calm_pure (some 21) (by kernel_rfl) (by kernel_rfl) (by kernel_rfl) (fun _ => by kernel_rfl) ?_
  refine calm_pure (some 22) (by kernel_rfl) (by kernel_rfl) (by kernel_rfl) (fun _ => by kernel_rfl) ?_
  refine calm_pure (some 23) (by kernel_rfl) (by kernel_rfl) (by kernel_rfl) (fun _ => by kernel_rfl) ?_
  refine calm_pure (some 24) (by kernel_rfl) (by kernel_rfl) (by kernel_rfl) (fun _ => by kernel_rfl) ?_
  refine calm_pure (some 25) (by kernel_rfl) (by kernel_rfl) (by kernel_rfl) (index_fld (x := .tmp 24) (y := .tmp 22) (o := 2) (by kernel_rfl) (by kernel_rfl) (by kernel_rfl) hj) ?_
  refine calm_read (some 26) (by kernel_rfl) (by kernel_rfl) (by kernel_rfl) (fun w' hw' => load_cell (ty := 23) (x := .tmp 25) (b := p) (o := 2 + j) (by kernel_rfl) (by kernel_rfl) Tryd.underlying23 rfl (kq (Grd_fld hc j hj) w' hw')) ?_
  refine calm_call (some 27) 100 #[.float .f32 (G.c k), .float .f32 (G.c j)] (numv_ne (jointG_ex G k j)) (by kernel_rfl) (by kernel_rfl) (by kernel_rfl) (fun _ => by kernel_rfl) (fun w' hw' => ((l01Joint_any (G.c k) (G.c j) w').mono fun _ _ h => givesN_of h).mono fun e w2 ⟨r, he, hr, hq⟩ => ⟨_, he, ⟨r, rfl, hr⟩, hw'.trans hq⟩) ?_
  rintro _ ⟨r27, rfl, hr27⟩
  refine calm_pure (some 28) (by kernel_rfl) (by kernel_rfl) (by kernel_rfl) (fun _ => by kernel_rfl) ?_
  refine calm_pureV (some 6) (.float .f32 r27) ⟨_, rfl, hr27⟩ (by kernel_rfl) (by kernel_rfl) (by kernel_rfl) (fun _ => by kernel_rfl) ?_
  rintro _ ⟨r6, rfl, hr6⟩
  refine calm_pure (some 7) (by kernel_rfl) (by kernel_rfl) (by kernel_rfl) (fun _ => by kernel_rfl) ?_
  refine calm_end fun w' hw' => plan_end (Clean.normal ?_)
  simp only [Act.put, List.setIfInBounds_toArray, List.set_cons_zero, List.set_cons_succ]
  go_wp2
  go_ret2
  exact ⟨r6, rfl, hr6, hw'⟩

set_option maxRecDepth 100000 in
theorem l01Between_no (G : Gd) (k : Nat) (hk : k < 64) (s : Int) (hs : sideB s = true) (hn : besideN G k s = -1) (p : Nat) (w : World) (hp : GrdAt w p 0 G) (hG : GdOk G) :
    Calls Tryd.prog 80 #[.pointer (some ⟨p, 0, none⟩), .int .i64 k, .int .i64 s] w fun e w' => e = .returned (.tuple #[.float .f32 0, .int .i64 (-1)]) ∧ w = w' := by
  have HN := Lib.hid hn
  have HP := Lib.hid hp
  have HG := Lib.hid hG
  clear hp hn hG
  go_enter Tryd.func80, Tryd.ntmps80
  go_wp2_with (go_at_call 86; have hb := (l01Beside_any G k hk s hs p w HP.out HG.out); rw [HN.out] at hb; refine hb.mono ?_; clear hb; rintro e w' ⟨rfl, rfl⟩)
  go_ret2
  exact ⟨rfl, rfl⟩

/-- What flows from a cell to a side. -/
def flowS (G : Gd) (k : Nat) (s : Int) : Option Nat := if nbB G k s = true then flowO G k (nbN k s) else num .f32 0
theorem flowS_ex (G : Gd) (k : Nat) (s : Int) : ∃ r, num .f32 r = flowS G k s := by
  unfold flowS
  split
  · exact flowO_ex _ _ _
  · exact num_ex _ _

set_option maxRecDepth 100000 in
theorem l01Flow_any (G : Gd) (k : Nat) (hk : k < 64) (hv : validB G = true) (s : Int) (hs : sideB s = true) (p : Nat) (w : World) (hp : GrdAt w p 0 G) (hG : GdOk G) :
    Calls Tryd.prog 44 #[.pointer (some ⟨p, 0, none⟩), .int .i64 k, .int .i64 s] w (GivesN (flowS G k s) w) := by
  have hc := hp.h
  rw [Nat.zero_add] at hc
  have HP := Lib.hid hp
  have HG := Lib.hid hG
  clear hp hG
  cases hn : nbB G k s
  · have hf : flowS G k s = num .f32 0 := by simp [flowS, hn]
    have hb : besideN G k s = -1 := by simp [besideN, hn]
    rw [hf]
    clear hf
    go_enter Tryd.func44, Tryd.ntmps44
    go_wp2_with (go_at_call 80; refine (l01Between_no G k hk s hs hb p _ HP.out HG.out).mono ?_; rintro e w' ⟨rfl, rfl⟩)
    go_ret
    exact ⟨0, rfl, rfl, Quiet.refl _⟩
  · obtain ⟨hj1, hj⟩ := nbN_is hv hn
    have hf : flowS G k s = flowO G k (nbN k s) := by simp [flowS, hn]
    have hb : besideN G k s = (nbN k s : Int) := by simp [besideN, hn, hj1]
    rw [hf]
    clear hf hj1
    generalize nbN k s = j at hj hb ⊢
    go_enter Tryd.func44, Tryd.ntmps44
    go_upto_region 4 with (go_at_call 80; refine (l01Between_yes G k j hk hj s hs hb p _ HP.out HG.out).mono ?_; rintro e w1 ⟨r, rfl, hr, hq⟩; have HR := Lib.hid hr; have HQ := Lib.hid hq; have hc1 : w1.rangeAt p 130 (Fld G.h).toList := hq.range hc; clear hr hq)
    refine wp_region_calm (ops' := regOf Tryd.f44 4) [0, 1, 2, 3, 4, 5, 6, 7, 8, 9, 10, 11, 12, 13, 14, 15] [] .fin (Quiet w1) [(0, Numv .f32 (jointG G k j)), (1, One (.pointer (some ⟨p, 0, none⟩))), (2, One (.int .i64 k)), (3, One (.pointer (some ⟨p, 0, none⟩))), (4, One (.pointer (some ⟨p, 130, none⟩))), (5, One (.pointer (some ⟨p, 130 + k, none⟩))), (6, One (.float .f32 (G.h k))), (7, One (.pointer (some ⟨p, 0, none⟩))), (8, One (.int .i64 (j : Int))), (9, One (.pointer (some ⟨p, 0, none⟩))), (10, One (.pointer (some ⟨p, 130, none⟩))), (11, One (.pointer (some ⟨p, 130 + j, none⟩))), (12, One (.float .f32 (G.h j))), (13, Numv .f32 (fop .f32 .sub (num .f32 (G.h k)) (num .f32 (G.h j)))), (14, Numv .f32 (fop .f32 .mul (jointG G k j) (fop .f32 .sub (num .f32 (G.h k)) (num .f32 (G.h j))))), (15, Numv .f32 (fop .f32 .mul (jointG G k j) (fop .f32 .sub (num .f32 (G.h k)) (num .f32 (G.h j)))))] (by kernel_rfl) (by kernel_rfl) (by kernel_rfl) (by kernel_rfl) (by kernel_rfl) (by kernel_rfl) (by kernel_rfl) (by kernel_rfl) rfl ((Quiet.refl _).drewN 1) ?_
    refine calm_pureV (some 18) (.float .f32 r) ⟨_, rfl, HR.out⟩ (by kernel_rfl) (by kernel_rfl) (by kernel_rfl) (fun _ => by kernel_rfl) ?_
    rintro _ ⟨r18, rfl, hr18⟩
    refine calm_pure (some 19) (by kernel_rfl) (by kernel_rfl) (by kernel_rfl) (fun _ => by kernel_rfl) ?_
    refine calm_pure (some 20) (by kernel_rfl) (by kernel_rfl) (by kernel_rfl) (fun _ => by kernel_rfl) ?_
    refine calm_pure (some 21) (by kernel_rfl) (by kernel_rfl) (by kernel_rfl) (fun _ => by kernel_rfl) ?_
    refine calm_pure (some 22) (by kernel_rfl) (by kernel_rfl) (by kernel_rfl) (fun _ => by kernel_rfl) ?_
    refine calm_pure (some 23) (by kernel_rfl) (by kernel_rfl) (by kernel_rfl) (index_fld (x := .tmp 22) (y := .tmp 20) (o := 130) (by kernel_rfl) (by kernel_rfl) (by kernel_rfl) hk) ?_
    refine calm_read (some 24) (by kernel_rfl) (by kernel_rfl) (by kernel_rfl) (fun w' hw' => load_cell (ty := 23) (x := .tmp 23) (b := p) (o := 130 + k) (by kernel_rfl) (by kernel_rfl) Tryd.underlying23 rfl (kq (Grd_fld hc1 k hk) w' hw')) ?_
    refine calm_pure (some 25) (by kernel_rfl) (by kernel_rfl) (by kernel_rfl) (fun _ => by kernel_rfl) ?_
    refine calm_pure (some 26) (by kernel_rfl) (by kernel_rfl) (by kernel_rfl) (fun _ => by kernel_rfl) ?_
    refine calm_pure (some 27) (by kernel_rfl) (by kernel_rfl) (by kernel_rfl) (fun _ => by kernel_rfl) ?_
    refine calm_pure (some 28) (by kernel_rfl) (by kernel_rfl) (by kernel_rfl) (fun _ => by kernel_rfl) ?_
    refine calm_pure (some 29) (by kernel_rfl) (by kernel_rfl) (by kernel_rfl) (index_fld (x := .tmp 28) (y := .tmp 26) (o := 130) (by kernel_rfl) (by kernel_rfl) (by kernel_rfl) hj) ?_
    refine calm_read (some 30) (by kernel_rfl) (by kernel_rfl) (by kernel_rfl) (fun w' hw' => load_cell (ty := 23) (x := .tmp 29) (b := p) (o := 130 + j) (by kernel_rfl) (by kernel_rfl) Tryd.underlying23 rfl (kq (Grd_fld hc1 j hj) w' hw')) ?_
    refine calm_float (some 31) .f32 .sub 23 23 (.tmp 24) (.tmp 30) ((G.h k)) ((G.h j)) (by kernel_rfl) (by kernel_rfl) (by kernel_rfl) (by kernel_rfl) rfl (by kernel_rfl) (by kernel_rfl) (fun _ n h => h.drewN n) (rfl) ?_
    intro r31 hr31
    refine calm_float (some 32) .f32 .mul 23 23 (.tmp 18) (.tmp 31) (r18) (r31) (by kernel_rfl) (by kernel_rfl) (by kernel_rfl) (by kernel_rfl) rfl (by kernel_rfl) (by kernel_rfl) (fun _ n h => h.drewN n) (fop_eq hr18 hr31) ?_
    intro r32 hr32
    refine calm_pureV (some 6) (.float .f32 r32) ⟨_, rfl, hr32⟩ (by kernel_rfl) (by kernel_rfl) (by kernel_rfl) (fun _ => by kernel_rfl) ?_
    rintro _ ⟨r6, rfl, hr6⟩
    refine calm_end fun w' hw' => plan_end (Clean.normal ?_)
    simp only [Act.put, List.setIfInBounds_toArray, List.set_cons_zero, List.set_cons_succ]
    go_wp2
    go_ret
    exact ⟨r6, rfl, hr6, HQ.out.trans hw'⟩
end Go.Proofs.YtcfkkceidlpdkaaDoor
