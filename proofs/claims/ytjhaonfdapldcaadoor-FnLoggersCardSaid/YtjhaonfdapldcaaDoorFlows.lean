/- Joints and flows: the model's and the program's. No condition. · The program's neighbours: it goes through the cells beside a cell, in the order of the sides. No condition. · FlowFrom: the model's and the program's. Condition (the program's): the table of math/bits is laid. · The balance of a cell: the model's and the program's. No condition. · The settled head of a cell: the model's and the program's. No condition. · The settled head of a cell: the program's. No condition. · The balances of all cells: the model's. No condition. · BalancesOf: the model's and the program's. Condition (the program's): the table of math/bits is laid. · BalancesOf: the program's. Condition: the table of math/bits is laid. · BalancesOf: the program's, on valid grounds. Condition: the table of math/bits is laid. -/
import Derived.Test.YtjhaonfdapldcaaDoorNums
import Derived.Test.YtjhaonfdapldcaaDoorBase
import Derived.Test.YtjhaonfdapldcaaDoorCell
import Derived.Sort.CutIn
namespace Go.Proofs.YtjhaonfdapldcaaDoor

section
open Go.RowKit
set_option linter.unusedSimpArgs false
set_option linter.unusedVariables false

/-- The joint of two cells. -/
def jointG (G : Gd) (i j : Nat) : Option Nat := joint (G.c i) (G.c j)
theorem jointG_ex (G : Gd) (i j : Nat) : ∃ r, num .f32 r = jointG G i j := joint_ex _ _
/-- What flows from a cell to another. -/
def flowO (G : Gd) (i j : Nat) : Option Nat := fop .f32 .mul (jointG G i j) (fop .f32 .sub (num .f32 (G.h i)) (num .f32 (G.h j)))
theorem flowO_ex (G : Gd) (i j : Nat) : ∃ r, num .f32 r = flowO G i j := fop_ex _ _ rfl _ _ (jointG_ex _ _ _) (fop_ex _ _ rfl _ _ (num_ex _ _) (num_ex _ _))

set_option maxRecDepth 100000 in
theorem implJoint_any (G : Gd) (i j : Nat) (hi : i < 64) (hj : j < 64) (p : Nat) (w : World) (hp : GrdAt w p 0 G) :
    Calls Tryd.prog 32 #[.pointer (some ⟨p, 0, none⟩), .int .i64 i, .int .i64 j] w (GivesN (jointG G i j) w) := by
  have hc := hp.c
  rw [Nat.zero_add] at hc
  go_enter Tryd.func32, Tryd.ntmps32
  go_upto_region 1 with (fail)
  refine wp_region_calm (ops' := regOf Tryd.f32 1) [0, 1, 2, 3, 4, 5, 6, 7, 8, 9, 10, 11, 12, 13] [] .fin (Quiet w) [(0, One (.pointer (some ⟨p, 0, none⟩))), (1, One (.int .i64 i)), (2, One (.pointer (some ⟨p, 0, none⟩))), (3, One (.pointer (some ⟨p, 2, none⟩))), (4, One (.pointer (some ⟨p, 2 + i, none⟩))), (5, One (.float .f32 (G.c i))), (6, One (.pointer (some ⟨p, 0, none⟩))), (7, One (.int .i64 j)), (8, One (.pointer (some ⟨p, 0, none⟩))), (9, One (.pointer (some ⟨p, 2, none⟩))), (10, One (.pointer (some ⟨p, 2 + j, none⟩))), (11, One (.float .f32 (G.c j))), (12, Numv .f32 (jointG G i j)), (13, Numv .f32 (jointG G i j))] (by kernel_rfl) (by kernel_rfl) (by kernel_rfl) (by kernel_rfl) (by kernel_rfl) (by kernel_rfl) (by kernel_rfl) (by kernel_rfl) rfl ((Quiet.refl _).drewN 1) ?_
  refine calm_pure (some 7) (by kernel_rfl) (by kernel_rfl) (by kernel_rfl) (fun _ => by kernel_rfl) ?_
  refine calm_pure (some 8) (by kernel_rfl) (by kernel_rfl) (by kernel_rfl) (fun _ => by kernel_rfl) ?_
  refine calm_pure (some 9) (by kernel_rfl) (by kernel_rfl) (by kernel_rfl) (fun _ => by kernel_rfl) ?_
  refine calm_pure (some 10) (by kernel_rfl) (by kernel_rfl) (by kernel_rfl) (fun _ => by kernel_rfl) ?_
  refine calm_pure (some 11) (by kernel_rfl) (by kernel_rfl) (by kernel_rfl) (index_fld (x := .tmp 10) (y := .tmp 8) (o := 2) (by kernel_rfl) (by kernel_rfl) (by kernel_rfl) hi) ?_
  refine calm_read (some 12) (by kernel_rfl) (by kernel_rfl) (by kernel_rfl) (fun w' hw' => load_cell (ty := 23) (x := .tmp 11) (b := p) (o := 2 + i) (by kernel_rfl) (by kernel_rfl) Tryd.underlying23 rfl (kq (Grd_fld hc i hi) w' hw')) ?_
  refine calm_pure (some 13) (by kernel_rfl) (by kernel_rfl) (by kernel_rfl) (fun _ => by kernel_rfl) ?_
  refine calm_pure (some 14) (by kernel_rfl) (by kernel_rfl) (by kernel_rfl) (fun _ => by kernel_rfl) ?_
  refine calm_pure (some 15) (by kernel_rfl) (by kernel_rfl) (by kernel_rfl) (fun _ => by kernel_rfl) ?_
  refine calm_pure (some 16) (by kernel_rfl) (by kernel_rfl) (by kernel_rfl) (fun _ => by kernel_rfl) ?_
  refine calm_pure (some 17) (by kernel_rfl) (by kernel_rfl) (by kernel_rfl) (index_fld (x := .tmp 16) (y := .tmp 14) (o := 2) (by kernel_rfl) (by kernel_rfl) (by kernel_rfl) hj) ?_
  refine calm_read (some 18) (by kernel_rfl) (by kernel_rfl) (by kernel_rfl) (fun w' hw' => load_cell (ty := 23) (x := .tmp 17) (b := p) (o := 2 + j) (by kernel_rfl) (by kernel_rfl) Tryd.underlying23 rfl (kq (Grd_fld hc j hj) w' hw')) ?_
  refine calm_call (some 19) 62 #[.float .f32 (G.c i), .float .f32 (G.c j)] (numv_ne (jointG_ex G i j)) (by kernel_rfl) (by kernel_rfl) (by kernel_rfl) (fun _ => by kernel_rfl) (fun w' hw' => ((jointOf_any (G.c i) (G.c j) w').mono fun _ _ h => givesN_of h).mono fun e w2 ⟨r, he, hr, hq⟩ => ⟨_, he, ⟨r, rfl, hr⟩, hw'.trans hq⟩) ?_
  rintro _ ⟨r19, rfl, hr19⟩
  refine calm_pureV (some 6) (.float .f32 r19) ⟨_, rfl, hr19⟩ (by kernel_rfl) (by kernel_rfl) (by kernel_rfl) (fun _ => by kernel_rfl) ?_
  rintro _ ⟨r6, rfl, hr6⟩
  refine calm_end fun w' hw' => plan_end (Clean.normal ?_)
  simp only [Act.put, List.setIfInBounds_toArray, List.set_cons_zero, List.set_cons_succ]
  go_wp2
  go_ret
  exact ⟨r6, rfl, hr6, hw'⟩

set_option maxRecDepth 100000 in
theorem implFlow_any (G : Gd) (i j : Nat) (hi : i < 64) (hj : j < 64) (p : Nat) (w : World) (hp : GrdAt w p 0 G) :
    Calls Tryd.prog 49 #[.pointer (some ⟨p, 0, none⟩), .int .i64 i, .int .i64 j] w (GivesN (flowO G i j) w) := by
  have hc := hp.h
  rw [Nat.zero_add] at hc
  have HP := Lib.hid hp
  clear hp
  go_enter Tryd.func49, Tryd.ntmps49
  go_upto_region 1 with (fail)
  refine wp_region_calm (ops' := regOf Tryd.f49 1) [0, 1, 2, 3, 4, 5, 6, 7, 8, 9, 10, 11, 12, 13] [] .fin (Quiet w) [(0, One (.pointer (some ⟨p, 0, none⟩))), (1, One (.int .i64 i)), (2, One (.pointer (some ⟨p, 0, none⟩))), (3, One (.pointer (some ⟨p, 130, none⟩))), (4, One (.pointer (some ⟨p, 130 + i, none⟩))), (5, One (.float .f32 (G.h i))), (6, One (.pointer (some ⟨p, 0, none⟩))), (7, One (.int .i64 j)), (8, One (.pointer (some ⟨p, 0, none⟩))), (9, One (.pointer (some ⟨p, 130, none⟩))), (10, One (.pointer (some ⟨p, 130 + j, none⟩))), (11, One (.float .f32 (G.h j))), (12, Numv .f32 (fop .f32 .sub (num .f32 (G.h i)) (num .f32 (G.h j)))), (13, Numv .f32 (fop .f32 .sub (num .f32 (G.h i)) (num .f32 (G.h j))))] (by kernel_rfl) (by kernel_rfl) (by kernel_rfl) (by kernel_rfl) (by kernel_rfl) (by kernel_rfl) (by kernel_rfl) (by kernel_rfl) rfl ((Quiet.refl _).drewN 1) ?_
  refine calm_pure (some 8) (by kernel_rfl) (by kernel_rfl) (by kernel_rfl) (fun _ => by kernel_rfl) ?_
  refine calm_pure (some 9) (by kernel_rfl) (by kernel_rfl) (by kernel_rfl) (fun _ => by kernel_rfl) ?_
  refine calm_pure (some 10) (by kernel_rfl) (by kernel_rfl) (by kernel_rfl) (fun _ => by kernel_rfl) ?_
  refine calm_pure (some 11) (by kernel_rfl) (by kernel_rfl) (by kernel_rfl) (fun _ => by kernel_rfl) ?_
  refine calm_pure (some 12) (by kernel_rfl) (by kernel_rfl) (by kernel_rfl) (index_fld (x := .tmp 11) (y := .tmp 9) (o := 130) (by kernel_rfl) (by kernel_rfl) (by kernel_rfl) hi) ?_
  refine calm_read (some 13) (by kernel_rfl) (by kernel_rfl) (by kernel_rfl) (fun w' hw' => load_cell (ty := 23) (x := .tmp 12) (b := p) (o := 130 + i) (by kernel_rfl) (by kernel_rfl) Tryd.underlying23 rfl (kq (Grd_fld hc i hi) w' hw')) ?_
  refine calm_pure (some 14) (by kernel_rfl) (by kernel_rfl) (by kernel_rfl) (fun _ => by kernel_rfl) ?_
  refine calm_pure (some 15) (by kernel_rfl) (by kernel_rfl) (by kernel_rfl) (fun _ => by kernel_rfl) ?_
  refine calm_pure (some 16) (by kernel_rfl) (by kernel_rfl) (by kernel_rfl) (fun _ => by kernel_rfl) ?_
  refine calm_pure (some 17) (by kernel_rfl) (by kernel_rfl) (by kernel_rfl) (fun _ => by kernel_rfl) ?_
  refine calm_pure (some 18) (by kernel_rfl) (by kernel_rfl) (by kernel_rfl) (index_fld (x := .tmp 17) (y := .tmp 15) (o := 130) (by kernel_rfl) (by kernel_rfl) (by kernel_rfl) hj) ?_
  refine calm_read (some 19) (by kernel_rfl) (by kernel_rfl) (by kernel_rfl) (fun w' hw' => load_cell (ty := 23) (x := .tmp 18) (b := p) (o := 130 + j) (by kernel_rfl) (by kernel_rfl) Tryd.underlying23 rfl (kq (Grd_fld hc j hj) w' hw')) ?_
  refine calm_float (some 20) .f32 .sub 23 23 (.tmp 13) (.tmp 19) ((G.h i)) ((G.h j)) (by kernel_rfl) (by kernel_rfl) (by kernel_rfl) (by kernel_rfl) rfl (by kernel_rfl) (by kernel_rfl) (fun _ n h => h.drewN n) (rfl) ?_
  intro r20 hr20
  refine calm_pureV (some 7) (.float .f32 r20) ⟨_, rfl, hr20⟩ (by kernel_rfl) (by kernel_rfl) (by kernel_rfl) (fun _ => by kernel_rfl) ?_
  rintro _ ⟨r7, rfl, hr7⟩
  refine calm_end fun w' hw' => plan_end (Clean.normal ?_)
  have HQ := Lib.hid hw'
  have HR := Lib.hid hr7
  clear hw' hr7 hr20 hc
  simp only [Act.put, List.setIfInBounds_toArray, List.set_cons_zero, List.set_cons_succ]
  go_wp2_with (first | (go_at_call 32; refine (implJoint_any G i j hi hj p _ (HQ.out.grd HP.out)).mono ?_; rintro e w1 ⟨r, rfl, hr, hq⟩; have HJ := Lib.hid hr; have HQ1 := Lib.hid (HQ.out.trans hq); clear hr hq) | (refine wpList_float rfl _ _ _ _ _ rfl rfl .f32 _ _ rfl rfl ?_; intro s n hs; have HS := Lib.hid hs; clear hs))
  go_ret
  exact ⟨s, rfl, HS.out.trans (fop_eq HJ.out HR.out), HQ1.out.drewN n⟩

/-- The number of the cell on a side. -/
def nbN (k : Nat) (s : Int) : Nat := (nb k s).toNat
theorem nbN_is {G : Gd} {k : Nat} {s : Int} (hv : validB G = true) (h : nbB G k s = true) : nb k s = (nbN k s : Int) ∧ nbN k s < 64 := by
  have := nb_range hv h
  unfold nbN
  omega

set_option maxRecDepth 100000 in
theorem l01Between_yes (G : Gd) (k j : Nat) (hk : k < 64) (hj : j < 64) (s : Int) (hs : sideB s = true) (hn : besideN G k s = (j : Int)) (p : Nat) (w : World) (hp : GrdAt w p 0 G) (hG : GdOk G) :
    Calls Tryd.prog 54 #[.pointer (some ⟨p, 0, none⟩), .int .i64 k, .int .i64 s] w fun e w' => ∃ r, e = .returned (.tuple #[.float .f32 r, .int .i64 j]) ∧ num .f32 r = jointG G k j ∧ Quiet w w' := by
  have hc := hp.c
  rw [Nat.zero_add] at hc
  have HN := Lib.hid hn
  have HP := Lib.hid hp
  have HG := Lib.hid hG
  clear hp hn hG
  go_enter Tryd.func54, Tryd.ntmps54
  go_upto_region 4 with (go_at_call 72; have hb := (l01Beside_any G k hk s hs p w HP.out HG.out); rw [HN.out] at hb; refine hb.mono ?_; clear hb; rintro e w' ⟨rfl, rfl⟩)
  refine wp_region_calm (ops' := regOf Tryd.f54 4) [0, 1, 2, 3, 4, 5, 6, 7, 8, 9, 10, 11, 12, 13, 14, 15] [] .fin (Quiet w) [(0, One (.pointer (some ⟨p, 0, none⟩))), (1, One (.int .i64 k)), (2, One (.pointer (some ⟨p, 0, none⟩))), (3, One (.pointer (some ⟨p, 2, none⟩))), (4, One (.pointer (some ⟨p, 2 + k, none⟩))), (5, One (.float .f32 (G.c k))), (6, One (.pointer (some ⟨p, 0, none⟩))), (7, One (.int .i64 (j : Int))), (8, One (.pointer (some ⟨p, 0, none⟩))), (9, One (.pointer (some ⟨p, 2, none⟩))), (10, One (.pointer (some ⟨p, 2 + j, none⟩))), (11, One (.float .f32 (G.c j))), (12, Numv .f32 (jointG G k j)), (13, One (.int .i64 (j : Int))), (14, Numv .f32 (jointG G k j)), (15, One (.int .i64 (j : Int)))] (by kernel_rfl) (by kernel_rfl) (by kernel_rfl) (by kernel_rfl) (by kernel_rfl) (by kernel_rfl) (by kernel_rfl) (by kernel_rfl) rfl ((Quiet.refl _).drewN 1) ?_
  refine calm_pure (some 15) (by kernel_rfl) (by kernel_rfl) (by kernel_rfl) (fun _ => by kernel_rfl) ?_
  refine calm_pure (some 16) (by kernel_rfl) (by kernel_rfl) (by kernel_rfl) (fun _ => by kernel_rfl) ?_
  refine calm_pure (some 17) (by kernel_rfl) (by kernel_rfl) (by kernel_rfl) (fun _ => by kernel_rfl) ?_
  refine calm_pure (some 18) (by kernel_rfl) (by kernel_rfl) (by kernel_rfl) (fun _ => by kernel_rfl) ?_
  refine calm_pure (some 19) (by kernel_rfl) (by kernel_rfl) (by kernel_rfl) (index_fld (x := .tmp 18) (y := .tmp 16) (o := 2) (by kernel_rfl) (by kernel_rfl) (by kernel_rfl) hk) ?_
  refine calm_read (some 20) (by kernel_rfl) (by kernel_rfl) (by kernel_rfl) (fun w' hw' => load_cell (ty := 23) (x := .tmp 19) (b := p) (o := 2 + k) (by kernel_rfl) (by kernel_rfl) Tryd.underlying23 rfl (kq (Grd_fld hc k hk) w' hw')) ?_
  refine calm_pure (some 21) (by kernel_rfl) (by kernel_rfl) (by kernel_rfl) (fun _ => by kernel_rfl) ?_
  refine calm_pure (some 22) (by kernel_rfl) (by kernel_rfl) (by kernel_rfl) (fun _ => by kernel_rfl) ?_
  refine calm_pure (some 23) (by kernel_rfl) (by kernel_rfl) (by kernel_rfl) (fun _ => by kernel_rfl) ?_
  refine calm_pure (some 24) (by kernel_rfl) (by kernel_rfl) (by kernel_rfl) (fun _ => by kernel_rfl) ?_
  refine calm_pure (some 25) (by kernel_rfl) (by kernel_rfl) (by kernel_rfl) (index_fld (x := .tmp 24) (y := .tmp 22) (o := 2) (by kernel_rfl) (by kernel_rfl) (by kernel_rfl) hj) ?_
  refine calm_read (some 26) (by kernel_rfl) (by kernel_rfl) (by kernel_rfl) (fun w' hw' => load_cell (ty := 23) (x := .tmp 25) (b := p) (o := 2 + j) (by kernel_rfl) (by kernel_rfl) Tryd.underlying23 rfl (kq (Grd_fld hc j hj) w' hw')) ?_
  refine calm_call (some 27) 82 #[.float .f32 (G.c k), .float .f32 (G.c j)] (numv_ne (jointG_ex G k j)) (by kernel_rfl) (by kernel_rfl) (by kernel_rfl) (fun _ => by kernel_rfl) (fun w' hw' => ((l01Joint_any (G.c k) (G.c j) w').mono fun _ _ h => givesN_of h).mono fun e w2 ⟨r, he, hr, hq⟩ => ⟨_, he, ⟨r, rfl, hr⟩, hw'.trans hq⟩) ?_
  rintro _ ⟨r27, rfl, hr27⟩
  refine calm_pure (some 28) (by kernel_rfl) (by kernel_rfl) (by kernel_rfl) (fun _ => by kernel_rfl) ?_
  refine calm_pureV (some 6) (.float .f32 r27) ⟨_, rfl, hr27⟩ (by kernel_rfl) (by kernel_rfl) (by kernel_rfl) (fun _ => by kernel_rfl) ?_
  rintro _ ⟨r6, rfl, hr6⟩
  refine calm_pure (some 7) (by kernel_rfl) (by kernel_rfl) (by kernel_rfl) (fun _ => by kernel_rfl) ?_
  refine calm_end fun w' hw' => plan_end (Clean.normal ?_)
  simp only [Act.put, List.setIfInBounds_toArray, List.set_cons_zero, List.set_cons_succ]
  go_wp2
  go_ret2
  exact ⟨r6, rfl, hr6, hw'⟩

set_option maxRecDepth 100000 in
theorem l01Between_no (G : Gd) (k : Nat) (hk : k < 64) (s : Int) (hs : sideB s = true) (hn : besideN G k s = -1) (p : Nat) (w : World) (hp : GrdAt w p 0 G) (hG : GdOk G) :
    Calls Tryd.prog 54 #[.pointer (some ⟨p, 0, none⟩), .int .i64 k, .int .i64 s] w fun e w' => e = .returned (.tuple #[.float .f32 0, .int .i64 (-1)]) ∧ w = w' := by
  have HN := Lib.hid hn
  have HP := Lib.hid hp
  have HG := Lib.hid hG
  clear hp hn hG
  go_enter Tryd.func54, Tryd.ntmps54
  go_wp2_with (go_at_call 72; have hb := (l01Beside_any G k hk s hs p w HP.out HG.out); rw [HN.out] at hb; refine hb.mono ?_; clear hb; rintro e w' ⟨rfl, rfl⟩)
  go_ret2
  exact ⟨rfl, rfl⟩

/-- What flows from a cell to a side. -/
def flowS (G : Gd) (k : Nat) (s : Int) : Option Nat := if nbB G k s = true then flowO G k (nbN k s) else num .f32 0
theorem flowS_ex (G : Gd) (k : Nat) (s : Int) : ∃ r, num .f32 r = flowS G k s := by
  unfold flowS
  split
  · exact flowO_ex _ _ _
  · exact num_ex _ _

set_option maxRecDepth 100000 in
theorem l01Flow_any (G : Gd) (k : Nat) (hk : k < 64) (hv : validB G = true) (s : Int) (hs : sideB s = true) (p : Nat) (w : World) (hp : GrdAt w p 0 G) (hG : GdOk G) :
    Calls Tryd.prog 70 #[.pointer (some ⟨p, 0, none⟩), .int .i64 k, .int .i64 s] w (GivesN (flowS G k s) w) := by
  have hc := hp.h
  rw [Nat.zero_add] at hc
  have HP := Lib.hid hp
  have HG := Lib.hid hG
  clear hp hG
  cases hn : nbB G k s
  · have hf : flowS G k s = num .f32 0 := by simp [flowS, hn]
    have hb : besideN G k s = -1 := by simp [besideN, hn]
    rw [hf]
    clear hf
    go_enter Tryd.func70, Tryd.ntmps70
    go_wp2_with (go_at_call 54; refine (l01Between_no G k hk s hs hb p _ HP.out HG.out).mono ?_; rintro e w' ⟨rfl, rfl⟩)
    go_ret
    exact ⟨0, rfl, rfl, Quiet.refl _⟩
  · obtain ⟨hj1, hj⟩ := nbN_is hv hn
    have hf : flowS G k s = flowO G k (nbN k s) := by simp [flowS, hn]
    have hb : besideN G k s = (nbN k s : Int) := by simp [besideN, hn, hj1]
    rw [hf]
    clear hf hj1
    generalize nbN k s = j at hj hb ⊢
    go_enter Tryd.func70, Tryd.ntmps70
    go_upto_region 4 with (go_at_call 54; refine (l01Between_yes G k j hk hj s hs hb p _ HP.out HG.out).mono ?_; rintro e w1 ⟨r, rfl, hr, hq⟩; have HR := Lib.hid hr; have HQ := Lib.hid hq; have hc1 : w1.rangeAt p 130 (Fld G.h).toList := hq.range hc; clear hr hq)
    refine wp_region_calm (ops' := regOf Tryd.f70 4) [0, 1, 2, 3, 4, 5, 6, 7, 8, 9, 10, 11, 12, 13, 14, 15] [] .fin (Quiet w1) [(0, Numv .f32 (jointG G k j)), (1, One (.pointer (some ⟨p, 0, none⟩))), (2, One (.int .i64 k)), (3, One (.pointer (some ⟨p, 0, none⟩))), (4, One (.pointer (some ⟨p, 130, none⟩))), (5, One (.pointer (some ⟨p, 130 + k, none⟩))), (6, One (.float .f32 (G.h k))), (7, One (.pointer (some ⟨p, 0, none⟩))), (8, One (.int .i64 (j : Int))), (9, One (.pointer (some ⟨p, 0, none⟩))), (10, One (.pointer (some ⟨p, 130, none⟩))), (11, One (.pointer (some ⟨p, 130 + j, none⟩))), (12, One (.float .f32 (G.h j))), (13, Numv .f32 (fop .f32 .sub (num .f32 (G.h k)) (num .f32 (G.h j)))), (14, Numv .f32 (fop .f32 .mul (jointG G k j) (fop .f32 .sub (num .f32 (G.h k)) (num .f32 (G.h j))))), (15, Numv .f32 (fop .f32 .mul (jointG G k j) (fop .f32 .sub (num .f32 (G.h k)) (num .f32 (G.h j)))))] (by kernel_rfl) (by kernel_rfl) (by kernel_rfl) (by kernel_rfl) (by kernel_rfl) (by kernel_rfl) (by kernel_rfl) (by kernel_rfl) rfl ((Quiet.refl _).drewN 1) ?_
    refine calm_pureV (some 18) (.float .f32 r) ⟨_, rfl, HR.out⟩ (by kernel_rfl) (by kernel_rfl) (by kernel_rfl) (fun _ => by kernel_rfl) ?_
    rintro _ ⟨r18, rfl, hr18⟩
    refine calm_pure (some 19) (by kernel_rfl) (by kernel_rfl) (by kernel_rfl) (fun _ => by kernel_rfl) ?_
    refine calm_pure (some 20) (by kernel_rfl) (by kernel_rfl) (by kernel_rfl) (fun _ => by kernel_rfl) ?_
    refine calm_pure (some 21) (by kernel_rfl) (by kernel_rfl) (by kernel_rfl) (fun _ => by kernel_rfl) ?_
    refine calm_pure (some 22) (by kernel_rfl) (by kernel_rfl) (by kernel_rfl) (fun _ => by kernel_rfl) ?_
    refine calm_pure (some 23) (by kernel_rfl) (by kernel_rfl) (by kernel_rfl) (index_fld (x := .tmp 22) (y := .tmp 20) (o := 130) (by kernel_rfl) (by kernel_rfl) (by kernel_rfl) hk) ?_
    refine calm_read (some 24) (by kernel_rfl) (by kernel_rfl) (by kernel_rfl) (fun w' hw' => load_cell (ty := 23) (x := .tmp 23) (b := p) (o := 130 + k) (by kernel_rfl) (by kernel_rfl) Tryd.underlying23 rfl (kq (Grd_fld hc1 k hk) w' hw')) ?_
    refine calm_pure (some 25) (by kernel_rfl) (by kernel_rfl) (by kernel_rfl) (fun _ => by kernel_rfl) ?_
    refine calm_pure (some 26) (by kernel_rfl) (by kernel_rfl) (by kernel_rfl) (fun _ => by kernel_rfl) ?_
    refine calm_pure (some 27) (by kernel_rfl) (by kernel_rfl) (by kernel_rfl) (fun _ => by kernel_rfl) ?_
    refine calm_pure (some 28) (by kernel_rfl) (by kernel_rfl) (by kernel_rfl) (fun _ => by kernel_rfl) ?_
    refine calm_pure (some 29) (by kernel_rfl) (by kernel_rfl) (by kernel_rfl) (index_fld (x := .tmp 28) (y := .tmp 26) (o := 130) (by kernel_rfl) (by kernel_rfl) (by kernel_rfl) hj) ?_
    refine calm_read (some 30) (by kernel_rfl) (by kernel_rfl) (by kernel_rfl) (fun w' hw' => load_cell (ty := 23) (x := .tmp 29) (b := p) (o := 130 + j) (by kernel_rfl) (by kernel_rfl) Tryd.underlying23 rfl (kq (Grd_fld hc1 j hj) w' hw')) ?_
    refine calm_float (some 31) .f32 .sub 23 23 (.tmp 24) (.tmp 30) ((G.h k)) ((G.h j)) (by kernel_rfl) (by kernel_rfl) (by kernel_rfl) (by kernel_rfl) rfl (by kernel_rfl) (by kernel_rfl) (fun _ n h => h.drewN n) (rfl) ?_
    intro r31 hr31
    refine calm_float (some 32) .f32 .mul 23 23 (.tmp 18) (.tmp 31) (r18) (r31) (by kernel_rfl) (by kernel_rfl) (by kernel_rfl) (by kernel_rfl) rfl (by kernel_rfl) (by kernel_rfl) (fun _ n h => h.drewN n) (fop_eq hr18 hr31) ?_
    intro r32 hr32
    refine calm_pureV (some 6) (.float .f32 r32) ⟨_, rfl, hr32⟩ (by kernel_rfl) (by kernel_rfl) (by kernel_rfl) (fun _ => by kernel_rfl) ?_
    rintro _ ⟨r6, rfl, hr6⟩
    refine calm_end fun w' hw' => plan_end (Clean.normal ?_)
    simp only [Act.put, List.setIfInBounds_toArray, List.set_cons_zero, List.set_cons_succ]
    go_wp2
    go_ret
    exact ⟨r6, rfl, hr6, HQ.out.trans hw'⟩
end

section
open Go.RowKit Go.Shelf
attribute [local go_sem] Oper.semAt_some
set_option linter.unusedSimpArgs false

/-- The sides on which there is a cell, among the first ones. -/
def sidesTo (G : Gd) (k n : Nat) : List Nat := (List.range n).filter fun s => nbB G k (s : Int)
def sidesL (G : Gd) (k : Nat) : List Nat := sidesTo G k 4
theorem sidesTo_yes {G : Gd} {k n : Nat} (h : nbB G k (n : Int) = true) : sidesTo G k (n + 1) = sidesTo G k n ++ [n] := by
  unfold sidesTo
  rw [List.range_succ, List.filter_append, List.filter_cons, if_pos h, List.filter_nil]
theorem sidesTo_no {G : Gd} {k n : Nat} (h : nbB G k (n : Int) = false) : sidesTo G k (n + 1) = sidesTo G k n := by
  unfold sidesTo
  rw [List.range_succ, List.filter_append, List.filter_cons, if_neg (by rw [h]; decide), List.filter_nil, List.append_nil]
theorem sidesTo_len (G : Gd) (k n : Nat) : (sidesTo G k n).length ≤ n := by
  have := List.length_filter_le (fun s : Nat => nbB G k (s : Int)) (List.range n)
  simpa [sidesTo] using this
theorem mem_sidesL {G : Gd} {k s : Nat} : s ∈ sidesL G k ↔ s < 4 ∧ nbB G k (s : Int) = true := by simp [sidesL, sidesTo]
theorem sidesTo_pre (G : Gd) (k n : Nat) (h : n ≤ 4) : sidesTo G k n <+: sidesL G k := by
  unfold sidesL sidesTo
  refine List.IsPrefix.filter _ ?_
  refine ⟨List.range' n (4 - n), ?_⟩
  rw [List.range_eq_range', List.range_eq_range']
  have := @List.range'_append 0 n (4 - n) 1
  rw [Nat.one_mul, Nat.zero_add] at this
  rw [this]
  congr 1
  omega

/-- A side on which there is a cell. -/
abbrev SideAt (G : Gd) (k : Nat) := { s : Nat // s ∈ sidesL G k }
/-- The cell's number is handed. -/
def encN (G : Gd) (k : Nat) (x : SideAt G k) : Array Value := #[Value.int .i64 (nbN k (x.1 : Int) : Int)]
def sds {G : Gd} {k : Nat} (xs : List (SideAt G k)) : List Nat := xs.map (·.1)
theorem sds_snoc {G : Gd} {k : Nat} (xs : List (SideAt G k)) (x : SideAt G k) : sds (xs ++ [x]) = sds xs ++ [x.1] := by simp [sds]

/-- What lay below n₀ lies on, and so do two cells. -/
structure KN (n₀ B1 B2 : Nat) (A B : World) : Prop where
  below : Below n₀ A B
  c1 : ∀ v, A.cell? ⟨B1, 0, none⟩ = some v → B.cell? ⟨B1, 0, none⟩ = some v
  c2 : ∀ v, A.cell? ⟨B2, 0, none⟩ = some v → B.cell? ⟨B2, 0, none⟩ = some v
theorem KN.refl (n₀ B1 B2 : Nat) (A : World) : KN n₀ B1 B2 A A := ⟨Below.refl _ _, fun _ h => h, fun _ h => h⟩
theorem KN.trans {n₀ B1 B2 : Nat} {A B C : World} (h : KN n₀ B1 B2 A B) (k : KN n₀ B1 B2 B C) : KN n₀ B1 B2 A C :=
  ⟨h.below.trans k.below, fun v hv => k.c1 v (h.c1 v hv), fun v hv => k.c2 v (h.c2 v hv)⟩
theorem KN.of_below {n₀ B1 B2 : Nat} {A B : World} (hle : n₀ ≤ A.heap.size) (h : Below A.heap.size A B) : KN n₀ B1 B2 A B :=
  ⟨h.mono hle, fun _ hv => (h.cell (World.block_lt_of_cell? A _ hv)).trans hv, fun _ hv => (h.cell (World.block_lt_of_cell? A _ hv)).trans hv⟩
theorem KN.setCell {n₀ B1 B2 : Nat} {A : World} {p : Addr} {v : Value} (h : n₀ ≤ p.block) (h1 : p.block ≠ B1) (h2 : p.block ≠ B2) : KN n₀ B1 B2 A (A.setCell p v) :=
  ⟨(Below.refl _ _).setCell h _, fun _ hv => (cell_other (fun e => h1 (by rw [e]))).trans hv, fun _ hv => (cell_other (fun e => h2 (by rw [e]))).trans hv⟩
theorem KN.grown {n₀ B1 B2 : Nat} {w A B : World} {row : Option Nat} (h : KN n₀ B1 B2 w A) (hle : n₀ ≤ A.heap.size) (hg : A.grownBy B row) (hr : ∀ r, row = some r → n₀ ≤ r ∧ ∃ o : Obj, A.heap[r]? = some o ∧ o.isCells = false) : KN n₀ B1 B2 w B :=
  ⟨h.below.grown hg hle (fun r e => (hr r e).1), fun v hv => cell_kept (h.c1 v hv) hg (fun r e => (hr r e).2), fun v hv => cell_kept (h.c2 v hv) hg (fun r e => (hr r e).2)⟩
theorem KN.book {n₀ B1 B2 : Nat} {w : World} (hn : n₀ ≤ w.heap.size) (W : World) (l : Nat) (o o' : Obj) (hl : w.heap.size ≤ l) (h : W.heap[l]? = some o) (hc : o.isCells = false) (_ : o.isWalk = false) : KN n₀ B1 B2 W (W.putObj l o') :=
  (KN.refl _ _ _ W).grown (by have := (Array.getElem?_eq_some_iff.1 h).1; omega) (grownBy_putObj' W l o') (fun r e => by cases e; exact ⟨by omega, o, h, hc⟩)
theorem grown_of_below {A B : World} (h : Below A.heap.size A B) : A.grownBy B none := ⟨h.os, h.tape, h.output, h.size, fun k hk _ => h.block k hk⟩
theorem CK.of_below {A B : World} (h : Below A.heap.size A B) : CK A B := CK.of_grown (grown_of_below h) (fun _ e => by cases e)

set_option maxRecDepth 100000 in
set_option maxHeartbeats 1000000 in
/-- The iterator, FOR EVERY LOOP BODY THAT KEEPS WHAT LAY BELOW n₀, and the two captured cells. -/
theorem nbs1_in (G : Gd) (k : Nat) (hk : k < 64) (hv : validB G = true) (hG : GdOk G) (l p B1 B2 n₀ n : Nat) (hn : 1 ≤ n) (hp0 : p < n₀) (J Jx : List (SideAt G k) → World → Prop)
    (hJ : ∀ s A B, n₀ ≤ A.heap.size → J s A → Below A.heap.size A B → J s B)
    (hY : ∀ pre x W, J pre W → pre.length < 4 → YieldAt Fence.wide (n - 1) Tryd.prog l (encN G k x) W fun e W' =>
      (e = .returned (.bool true) ∧ J (pre ++ [x]) W' ∧ KN n₀ B1 B2 W W') ∨ (e = .returned (.bool false) ∧ Jx (pre ++ [x]) W'))
    (W : World) (h1 : W.cell? ⟨B1, 0, none⟩ = some (.pointer (some ⟨p, 0, none⟩))) (h2 : W.cell? ⟨B2, 0, none⟩ = some (.int .i64 k)) (hp : GrdAt W p 0 G) (hle : n₀ ≤ W.heap.size) (h0 : J [] W) :
    CallsIn Fence.wide n Tryd.prog 61 #[.func (.yield l) #[] #[], .pointer (some ⟨B1, 0, none⟩), .pointer (some ⟨B2, 0, none⟩)] W fun e W' => (∃ v, e = .returned v) ∧
      ((∃ ys, sds ys = sidesL G k ∧ J ys W') ∨ (∃ pre, sds pre <+: sidesL G k ∧ Jx pre W')) := by
  have HV := Lib.hid hv
  have HG := Lib.hid hG
  clear hv hG
  refine callsIn_of_wp Tryd.func61 rfl trivial ?_ rfl
  simp only [Tryd.ntmps61, List.size_toArray, List.length_cons, List.length_nil, Nat.reduceAdd, Nat.reduceSub, Array.replicate_succ, Array.replicate_zero, List.push_toArray, List.append_toArray, List.nil_append, List.cons_append]
  gi_wp2
  gi_loopw [4] (fun q wr => ∃ (pre : List (SideAt G k)) (s : Nat), q = .int .i64 s ∧ s ≤ 4 ∧ Hid (sds pre = sidesTo G k s ∧ J pre wr ∧ KN n₀ B1 B2 W wr))
    (fun q wr => 4 - (intOf q).toNat)
  case atStart =>
    exact ⟨[], 0, rfl, by omega, by simp [sds, sidesTo], h0, KN.refl _ _ _ _⟩
  case round =>
    obtain ⟨pre, s, rfl, hs4, hx⟩ := hrel
    have c1 : wr.cell? ⟨B1, 0, none⟩ = some (.pointer (some ⟨p, 0, none⟩)) := hx.out.2.2.c1 _ h1
    have c2 : wr.cell? ⟨B2, 0, none⟩ = some (.int .i64 k) := hx.out.2.2.c2 _ h2
    have gp := Lib.hid (hp.below hx.out.2.2.below hp0)
    have hz : n₀ ≤ wr.heap.size := Nat.le_trans hle hx.out.2.2.below.size
    have hpw : p < wr.heap.size := by omega
    by_cases hlt : s < 4
    · have hside : sideB (s : Int) = true := by simp [sideB]; omega
      cases hnb : nbB G k (s : Int)
      · have N1 := Lib.hid (show IB (if nbB G k (s : Int) = true then nb k s else 0) (nbB G k (s : Int)) = IB 0 false by rw [hnb]; rfl)
        have E := Lib.hid (sidesTo_no hnb)
        clear hnb
        gi_wp2_with (first | (refine ⟨trivial, ?_⟩; gi_at_call 47; have hc := (callsIn_wide (n := n - 1)).2 (beside_any G k hk s hside HV.out p wr gp.out hpw HG.out); rw [N1.out] at hc; refine hc.mono ?_; clear hc; rintro e w2 ⟨rfl, hb2⟩; unfold IB))
        refine ⟨fun _ h => (by cases h), ?_⟩
        gi_wp2
        go_roundw
        case rel => exact ⟨pre, s + 1, by go_num, by omega, hx.out.1.trans E.out.symm, hJ _ _ _ hz hx.out.2.1 hb2, hx.out.2.2.trans (KN.of_below hz hb2)⟩
        case measure => simp [intOf]; omega
      · obtain ⟨hj1, hj⟩ := nbN_is HV.out hnb
        have hmem : s ∈ sidesL G k := mem_sidesL.2 ⟨hlt, hnb⟩
        have N1 := Lib.hid (show IB (if nbB G k (s : Int) = true then nb k s else 0) (nbB G k (s : Int)) = IB (nbN k (s : Int) : Int) true by rw [hnb, if_pos rfl, hj1])
        have E := Lib.hid (sidesTo_yes hnb)
        have hlen : pre.length < 4 := by
          have e1 := congrArg List.length hx.out.1
          have e2 := sidesTo_len G k s
          simp [sds] at e1
          omega
        have HJ1 := Lib.hid hj1
        clear hnb hj1
        gi_wp2_with (first | (refine ⟨trivial, ?_⟩; gi_at_call 47; have hc := (callsIn_wide (n := n - 1)).2 (beside_any G k hk s hside HV.out p wr gp.out hpw HG.out); rw [N1.out] at hc; refine hc.mono ?_; clear hc; rintro e w2 ⟨rfl, hb2⟩; unfold IB; obtain ⟨fn, tmps, assign, body, hy, hR⟩ := hY pre ⟨s, hmem⟩ w2 (hJ _ _ _ hz hx.out.2.1 hb2) hlen; dsimp only [encN] at hy; have HB2 := Lib.hid hb2; clear hb2))
        refine hR.mono ?_
        rintro e W3 (⟨rfl, hJ3, hk3⟩ | ⟨rfl, hJx3⟩)
        · have H3 := Lib.hid hJ3
          have K3 := Lib.hid hk3
          clear hJ3 hk3
          gi_wp2
          go_roundw
          case rel => exact ⟨pre ++ [⟨s, hmem⟩], s + 1, by go_num, by omega, by rw [sds_snoc, hx.out.1, E.out], H3.out, (hx.out.2.2.trans (KN.of_below hz HB2.out)).trans K3.out⟩
          case measure => simp [intOf]; omega
        · have H3 := Lib.hid hJx3
          clear hJx3
          gi_wp2
          refine bodyPost_ret (results_none rfl _ _ _) rfl ?_
          refine ⟨⟨_, rfl⟩, .inr ⟨pre ++ [⟨s, hmem⟩], ?_, H3.out⟩⟩
          rw [sds_snoc, hx.out.1, ← E.out]
          exact sidesTo_pre G k (s + 1) (by omega)
    · obtain rfl : s = 4 := by omega
      gi_wp2
      go_end0
      exact ⟨⟨_, rfl⟩, .inl ⟨pre, hx.out.1, hx.out.2.1⟩⟩

theorem nbs_stops (G : Gd) (k : Nat) (hk : k < 64) (hv : validB G = true) (hG : GdOk G) (p B1 B2 n₀ n : Nat) (hn : 1 ≤ n) (hp0 : p < n₀) (w : World) (h1 : w.cell? ⟨B1, 0, none⟩ = some (.pointer (some ⟨p, 0, none⟩))) (h2 : w.cell? ⟨B2, 0, none⟩ = some (.int .i64 k)) (hp : GrdAt w p 0 G) (hle : n₀ ≤ w.heap.size) :
    SeqStopsK Fence.wide n Tryd.prog 61 #[.pointer (some ⟨B1, 0, none⟩), .pointer (some ⟨B2, 0, none⟩)] (encN G k) (KN n₀ B1 B2) (fun xs => sds xs = sidesL G k) (fun pre => sds pre <+: sidesL G k) 4 w := fun l J Jx W hW hJ _ hY h0 =>
  nbs1_in G k hk hv hG l p B1 B2 n₀ n hn hp0 J Jx (fun s A B _ hs hb => hJ s A B none hs (grown_of_below hb) (fun _ e => by cases e)) hY W ((hW.cell (World.block_lt_of_cell? w _ h1)).trans h1) ((hW.cell (World.block_lt_of_cell? w _ h2)).trans h2) (hp.below hW (by omega)) (Nat.le_trans hle hW.size) h0

/-- A range over the neighbours of a cell, for every loop body. -/
theorem wp_nbs (G : Gd) (k : Nat) (hk : k < 64) (hv : validB G = true) (hG : GdOk G) {assign body : Code} {Q : Exit → Act → World → Prop} {T : Array Value} {df : List Deferred} {w : World} (gs ps vs B1 B2 n₀ p : Nat) (hp0 : p < n₀)
    (hg : (Act.eval { tmps := T, defers := df } (.tmp gs)) = .func (.func 61) #[] #[.pointer (some ⟨B1, 0, none⟩), .pointer (some ⟨B2, 0, none⟩)])
    (h1 : w.cell? ⟨B1, 0, none⟩ = some (.pointer (some ⟨p, 0, none⟩))) (h2 : w.cell? ⟨B2, 0, none⟩ = some (.int .i64 k)) (hp : GrdAt w p 0 G) (hle : n₀ ≤ w.heap.size)
    (I : List Nat → World → Prop) (Ix : Code → List Nat → World → Prop) (hI : ∀ s A B, CK A B → I s A → I s B) (hIx : ∀ c s A B, CK A B → Ix c s A → Ix c s B) (h0 : I [] w)
    (hassign : ∀ (l : Nat) (x : Nat) (W : World) (K : Act → World → Prop), K { tmps := (T.setIfInBounds ps (.int .i64 x)).setIfInBounds vs (.int .i64 x), defers := [] } W →
      assign.wpIn (Fence.wide.inRound l) 4 Tryd.prog (Exit.then K (fun _ _ _ => False)) { tmps := T.setIfInBounds ps (.int .i64 x), defers := [] } W)
    (hbody : ∀ (l : Nat) (pre : List (SideAt G k)) (x : SideAt G k) (W : World), I (sds pre) W → KN n₀ B1 B2 w W → x.1 < 4 → nbB G k (x.1 : Int) = true → nbN k (x.1 : Int) < 64 →
      body.wpIn (Fence.wide.inRound l) 4 Tryd.prog (ownPostK (KN n₀ B1 B2) (fun p W => I (sds p) W ∧ KN n₀ B1 B2 w W) (fun c p W => Ix c (sds p) W ∧ KN n₀ B1 B2 w W) (pre ++ [x]) W) { tmps := (T.setIfInBounds ps (.int .i64 (nbN k (x.1 : Int) : Int))).setIfInBounds vs (.int .i64 (nbN k (x.1 : Int) : Int)), defers := [] } W)
    (hdone : ∀ (D : Nat) (W : World), w.heap.size ≤ D → I (sidesL G k) W → KN n₀ B1 B2 w W → W.heap[D]? = some (.deferred (some [])) → Q .normal { tmps := T, defers := { target := .collected D, args := #[] } :: df } W)
    (hstop : ∀ (D : Nat) (c : Code) (pre : List Nat) (W : World), w.heap.size ≤ D → pre <+: sidesL G k → Ix c pre W → KN n₀ B1 B2 w W → W.heap[D]? = some (.deferred (some [])) → c.wpIn Fence.wide 6 Tryd.prog Q { tmps := T, defers := { target := .collected D, args := #[] } :: df } W) :
    (Code.rangeFunc (.tmp gs) #[ps] assign body).wpIn Fence.wide 6 Tryd.prog Q { tmps := T, defers := df } w := by
  have hown : OwnFrom w.heap.size (fun (_ : List (SideAt G k)) W => KN n₀ B1 B2 w W) := fun s A B row hs hg hr =>
    hs.grown (Nat.le_trans hle hs.below.size) hg (fun r e => ⟨Nat.le_trans hle (hr r e).1, (hr r e).2⟩)
  refine wpIn_rangeFunc_ownF rfl (by omega) (gf := 61) (lb := #[.pointer (some ⟨B1, 0, none⟩), .pointer (some ⟨B2, 0, none⟩)]) hg trivial (enters_of Tryd.func61 (by kernel_rfl) rfl)
    (nbs_stops G k hk hv hG p B1 B2 n₀ 5 (by omega) hp0 w h1 h2 hp hle) (fun h k => h.trans k) (KN.book hle) (Below.refl _ _) (fun _ => rfl)
    (fun p W => I (sds p) W ∧ KN n₀ B1 B2 w W) (fun c p W => Ix c (sds p) W ∧ KN n₀ B1 B2 w W)
    (OwnFrom.and (Own.from (I := fun (p : List (SideAt G k)) W => I (sds p) W) (fun s A B row hs hg hr => hI _ _ _ (CK.of_grown hg hr) hs) _) hown)
    (fun c => OwnFrom.and (Own.from (I := fun (p : List (SideAt G k)) W => Ix c (sds p) W) (fun s A B row hs hg hr => hIx c _ _ _ (CK.of_grown hg hr) hs) _) hown)
    ⟨h0, KN.refl _ _ _ _⟩ (fun x => { tmps := (T.setIfInBounds ps (.int .i64 (nbN k (x.1 : Int) : Int))).setIfInBounds vs (.int .i64 (nbN k (x.1 : Int) : Int)), defers := [] })
    (fun l x W K hK => by have := hassign l (nbN k (x.1 : Int)) W K hK; simpa [encN] using this)
    (fun l pre x W h _ => hbody l pre x W h.1 h.2 (mem_sidesL.1 x.2).1 (mem_sidesL.1 x.2).2 (nbN_is hv (mem_sidesL.1 x.2).2).2)
    (fun D ys W hD hys h hK => hdone D W hD (by have h1 := h.1; rwa [show sds ys = sidesL G k from hys] at h1) h.2 hK)
    (fun D c pre W hD hp h hK => hstop D c _ W hD hp h.1 h.2 hK)

theorem neighbours_any (p k : Nat) (w : World) :
    Calls Tryd.prog 31 #[.pointer (some ⟨p, 0, none⟩), .int .i64 k] w fun e w' => e = .returned (.func (.func 61) #[] #[.pointer (some ⟨w.heap.size, 0, none⟩), .pointer (some ⟨w.heap.size + 1, 0, none⟩)]) ∧ w' = (w.alloc (.cells #[.pointer (some ⟨p, 0, none⟩)] 57)).alloc (.cells #[.int .i64 k] 2) := by
  go_enter Tryd.func31, Tryd.ntmps31
  go_wp2
  go_ret
  simp
end

section
open Go.RowKit
set_option linter.unusedSimpArgs false
set_option linter.unusedVariables false

/-- What FlowFrom says. -/
def flowV (G : Gd) (c s : Int) : Value := if sidedN G c s = 0 then finV (flowS G c.toNat s) else FI 0 (sidedN G c s)
theorem finV_is (o : Option Nat) : ∃ (b : Nat) (n : Int), finV o = FI b n := by
  unfold finV
  cases o with
  | none => exact ⟨_, _, rfl⟩
  | some b => dsimp only; split <;> exact ⟨_, _, rfl⟩
theorem flowV_is (G : Gd) (c s : Int) : ∃ (b : Nat) (n : Int), flowV G c s = .tuple #[.float .f32 b, .int .i64 n] := by
  unfold flowV
  split
  · exact finV_is _
  · exact ⟨_, _, rfl⟩
theorem finV_yes {r : Nat} {o : Option Nat} (h : num .f32 r = o) (hf : finB r = true) : FI r 0 = finV o := by rw [← finV_num h, if_pos hf]
theorem finV_no {r : Nat} {o : Option Nat} (h : num .f32 r = o) (hf : finB r = false) : FI 0 4 = finV o := by rw [← finV_num h, hf]; rfl
theorem l01Finite_is (b : Nat) (r : Bool) (h : finB b = r) (w : World) : Calls Tryd.prog 71 #[.float .f32 b] w fun e w' => e = .returned (.bool r) ∧ Quiet w w' := by
  subst h
  exact l01Finite_any b w
theorem ifFinite_o (b : Nat) (o : Option Nat) (h : num .f32 b = o) (w : World) : Calls Tryd.prog 48 #[.float .f32 b] w fun e w' => e = .returned (finV o) ∧ Quiet w w' := by
  rw [← finV_num h]
  exact ifFinite_any b w

set_option maxRecDepth 100000 in
set_option maxHeartbeats 1000000 in
theorem implFlowFrom_any (G : Gd) (c s : Int) (w : World) (hG : GdOk G) (l1 : -9223372036854775808 ≤ c) (l2 : c ≤ 9223372036854775807) (hT : TabAt w) :
    Calls Tryd.prog 19 #[.agg (Grd G), .int .i64 c, .int .i64 s] w fun e w' => e = .returned (flowV G c s) ∧ Below w.heap.size w w' := by
  go_enter Tryd.func19, Tryd.ntmps19
  go_upto_region 1 with (fail)
  obtain ⟨W, hW, hs, g1, hB, hT1⟩ := box_in G 32 w hT
  rw [hW]
  clear hW
  have G1 := Lib.hid g1
  have HB := Lib.hid hB
  have HG := Lib.hid hG
  have HT := Lib.hid hT1
  have hn1 : w.heap.size < W.heap.size := by omega
  clear g1 hB hs hG hT hT1
  by_cases ha : sidedN G c s = 0
  · obtain ⟨k, rfl, hk, hv, _, hs⟩ := sided_in ha
    have Ha := Lib.hid ha
    have R := Lib.hid (show flowV G k s = finV (flowS G k s) by simp [flowV, ha])
    have Hv := Lib.hid hv
    have HS := Lib.hid hs
    cases hn : nbB G k s
    · have N1 := Lib.hid (show IB (if nbB G k s = true then nb k s else 0) (nbB G k s) = IB 0 false by rw [hn]; rfl)
      have V1 := Lib.hid (R.out.trans (show finV (flowS G k s) = FI 0 0 by rw [show flowS G k s = num .f32 0 by simp [flowS, hn]]; exact (finV_yes (r := 0) rfl (by decide +kernel)).symm))
      clear ha hn hv hs
      go_wp2_with (first | (go_at_call 46; have hc := (checkSide_any G k s l1 l2 _ W G1.out.at' hn1 HG.out HT.out); rw [Ha.out] at hc; refine hc.mono ?_; clear hc; rintro e w1 ⟨rfl, hb1⟩) | (go_at_call 47; have hc := (beside_any G k hk s HS.out Hv.out _ w1 (G1.out.at'.below hb1 hn1) (by have := hb1.size; omega) HG.out); rw [N1.out] at hc; refine hc.mono ?_; clear hc; rintro e w2 ⟨rfl, hb2⟩; unfold IB))
      go_ret2
      exact ⟨congrArg Ending.returned V1.out.symm, HB.out.trans ((hb1.trans (hb2.mono hb1.size)).mono (by omega))⟩
    · obtain ⟨hj1, hj⟩ := nbN_is hv hn
      have N1 := Lib.hid (show IB (if nbB G k s = true then nb k s else 0) (nbB G k s) = IB (nbN k s : Int) true by rw [hn, if_pos rfl, hj1])
      have V1 := Lib.hid (R.out.trans (show finV (flowS G k s) = finV (flowO G k (nbN k s)) by simp [flowS, hn]))
      clear ha hn hv hs hj1
      generalize nbN k s = j at hj N1 V1
      go_wp2_with (first | (go_at_call 46; have hc := (checkSide_any G k s l1 l2 _ W G1.out.at' hn1 HG.out HT.out); rw [Ha.out] at hc; refine hc.mono ?_; clear hc; rintro e w1 ⟨rfl, hb1⟩) | (go_at_call 47; have hc := (beside_any G k hk s HS.out Hv.out _ w1 (G1.out.at'.below hb1 hn1) (by have := hb1.size; omega) HG.out); rw [N1.out] at hc; refine hc.mono ?_; clear hc; rintro e w2 ⟨rfl, hb2⟩; unfold IB; have HB2 := Lib.hid (hb1.trans (hb2.mono hb1.size))) | (go_at_call 49; refine (implFlow_any G k j hk hj _ w2 (G1.out.at'.below HB2.out hn1)).mono ?_; rintro e w3 ⟨r, rfl, hr, hq⟩; have HR := Lib.hid hr; have HQ := Lib.hid hq; clear hr hq) | (go_at_call 48; have hc := (ifFinite_o r _ HR.out w3); rw [← V1.out] at hc; obtain ⟨b', n', hV'⟩ := flowV_is G k s; have HV' := Lib.hid hV'; rw [hV'] at hc; clear hV'; refine hc.mono ?_; clear hc; rintro e w4 ⟨rfl, hq4⟩))
      go_ret2
      exact ⟨congrArg Ending.returned HV'.out.symm, (HB.out.trans (HB2.out.mono (by omega))).trans ((HQ.out.trans hq4).below _)⟩
  · have hne : (sidedN G c s != 0) = true := by simpa [bne] using ha
    have R := Lib.hid (show flowV G c s = FI 0 (sidedN G c s) by simp only [flowV, ha, if_false])
    clear ha
    go_wp2_with (go_at_call 46; refine (checkSide_any G c s l1 l2 _ W G1.out.at' hn1 HG.out HT.out).mono ?_; rintro e w1 ⟨rfl, hb1⟩)
    go_ret2
    exact ⟨congrArg Ending.returned R.out.symm, HB.out.trans (hb1.mono (by omega))⟩
end

section
open Go.RowKit Go.Shelf
attribute [local go_sem] Oper.semAt_some run_store_float
set_option linter.unusedSimpArgs false
set_option linter.unusedVariables false

/-- The balance over the first sides. -/
def balTo (G : Gd) (k : Nat) : Nat → Option Nat
  | 0 => num .f32 (G.g k)
  | n + 1 => if nbB G k (n : Int) = true then fop .f32 .sub (balTo G k n) (flowO G k (nbN k (n : Int))) else balTo G k n
def balO (G : Gd) (k : Nat) : Option Nat := balTo G k 4
theorem balTo_ex (G : Gd) (k n : Nat) : ∃ r, num .f32 r = balTo G k n := by
  induction n with
  | zero => exact num_ex _ _
  | succ n ih =>
    unfold balTo
    split
    · exact fop_ex _ _ rfl _ _ ih (flowO_ex _ _ _)
    · exact ih
theorem balO_ex (G : Gd) (k : Nat) : ∃ r, num .f32 r = balO G k := balTo_ex _ _ _
/-- The same over a list of sides. -/
def balL (G : Gd) (k : Nat) (l : List Nat) : Option Nat := l.foldl (fun o (s : Nat) => fop .f32 .sub o (flowO G k (nbN k (s : Int)))) (num .f32 (G.g k))
theorem balL_snoc (G : Gd) (k : Nat) (l : List Nat) (s : Nat) : balL G k (l ++ [s]) = fop .f32 .sub (balL G k l) (flowO G k (nbN k (s : Int))) := by simp [balL]
theorem balL_sides (G : Gd) (k n : Nat) : balL G k (sidesTo G k n) = balTo G k n := by
  induction n with
  | zero => rfl
  | succ n ih =>
    cases h : nbB G k (n : Int)
    · rw [sidesTo_no h, ih]; simp [balTo, h]
    · rw [sidesTo_yes h, balL_snoc, ih]; simp [balTo, h]
/-- A number that is told, up to which NaN it is; what was there is as it was. -/
def GivesB (o : Option Nat) (w : World) (e : Ending) (w' : World) : Prop := ∃ r, e = .returned (.float .f32 r) ∧ num .f32 r = o ∧ Below w.heap.size w w'

end

section
open Go.RowKit Go.Shelf
attribute [local go_sem] Oper.semAt_some run_store_float
set_option linter.unusedSimpArgs false
set_option linter.unusedVariables false

theorem bit_rem (x k : Nat) : ((x : Int) / 2 ^ k % 2 == 1) = x.testBit k := by
  have e : (x : Int) / 2 ^ k = ((x / 2 ^ k : Nat) : Int) := by simp
  rw [e, Nat.testBit_eq_decide_div_mod_eq]
  have : x / 2 ^ k % 2 = 0 ∨ x / 2 ^ k % 2 = 1 := by omega
  rcases this with h | h
  · have h2 : ((x / 2 ^ k : Nat) : Int) % 2 = 0 := by omega
    rw [h2, h]; rfl
  · have h2 : ((x / 2 ^ k : Nat) : Int) % 2 = 1 := by omega
    rw [h2, h]; rfl

/-- The two sums over the first sides. -/
def hdTo (G : Gd) (k : Nat) : Nat → Option Nat × Option Nat
  | 0 => (num .f32 (G.g k), num .f32 0)
  | n + 1 => if nbB G k (n : Int) = true then (fop .f32 .add (hdTo G k n).1 (fop .f32 .mul (jointG G k (nbN k (n : Int))) (num .f32 (G.h (nbN k (n : Int))))), fop .f32 .add (hdTo G k n).2 (jointG G k (nbN k (n : Int)))) else hdTo G k n
/-- A number is 0 or -0. -/
def zeroO : Option Nat → Bool
  | some b => zeroB b
  | none => false
theorem zeroO_num {r : Nat} {o : Option Nat} (h : num .f32 r = o) : zeroB r = zeroO o := by
  subst h
  cases hn : nanK .f32 r
  · rw [num_some hn]; rfl
  · rw [num_none hn]
    have e : num .f32 r = num .f32 2143289344 := by rw [num_none hn]; decide +kernel
    unfold zeroB
    rw [order_num e (rfl : num .f32 0 = num .f32 0)]
    decide +kernel
/-- The settled head. -/
def headO (G : Gd) (k : Nat) : Option Nat := if G.x.toNat.testBit k = true then num .f32 (G.h k) else if zeroO (hdTo G k 4).2 = true then num .f32 (G.h k) else fop .f32 .quo (hdTo G k 4).1 (hdTo G k 4).2
theorem hdTo_ex (G : Gd) (k n : Nat) : (∃ r, num .f32 r = (hdTo G k n).1) ∧ (∃ r, num .f32 r = (hdTo G k n).2) := by
  induction n with
  | zero => exact ⟨num_ex _ _, num_ex .f32 0⟩
  | succ n ih =>
    unfold hdTo
    split
    · exact ⟨fop_ex _ _ rfl _ _ ih.1 (fop_ex _ _ rfl _ _ (jointG_ex _ _ _) (num_ex _ _)), fop_ex _ _ rfl _ _ ih.2 (jointG_ex _ _ _)⟩
    · exact ih
theorem headO_ex (G : Gd) (k : Nat) : ∃ r, num .f32 r = headO G k := by
  unfold headO
  split
  · exact num_ex _ _
  · split
    · exact num_ex _ _
    · exact fop_ex _ _ rfl _ _ (hdTo_ex G k 4).1 (hdTo_ex G k 4).2
/-- The same over a list of sides. -/
def hdL (G : Gd) (k : Nat) (l : List Nat) : Option Nat × Option Nat := l.foldl (fun o (s : Nat) => (fop .f32 .add o.1 (fop .f32 .mul (jointG G k (nbN k (s : Int))) (num .f32 (G.h (nbN k (s : Int))))), fop .f32 .add o.2 (jointG G k (nbN k (s : Int))))) (num .f32 (G.g k), num .f32 0)
theorem hdL_snoc (G : Gd) (k : Nat) (l : List Nat) (s : Nat) : hdL G k (l ++ [s]) = (fop .f32 .add (hdL G k l).1 (fop .f32 .mul (jointG G k (nbN k (s : Int))) (num .f32 (G.h (nbN k (s : Int))))), fop .f32 .add (hdL G k l).2 (jointG G k (nbN k (s : Int)))) := by simp [hdL]
theorem hdL_sides (G : Gd) (k n : Nat) : hdL G k (sidesTo G k n) = hdTo G k n := by
  induction n with
  | zero => rfl
  | succ n ih =>
    cases h : nbB G k (n : Int)
    · rw [sidesTo_no h, ih]; simp [hdTo, h]
    · rw [sidesTo_yes h, hdL_snoc, ih]; simp [hdTo, h]

theorem nbN_isE {G : Gd} {k : Nat} {s : Int} (hv : extB G = true) (h : nbB G k s = true) : nb k s = (nbN k s : Int) ∧ nbN k s < 64 := by
  simp only [extB, Bool.and_eq_true, decide_eq_true_eq] at hv
  simp only [nbB, holdB, Bool.and_eq_true, decide_eq_true_eq] at h
  obtain ⟨⟨v1, v2⟩, v3, v4⟩ := hv
  obtain ⟨h1, h2, h3, h4⟩ := h
  unfold nbN
  unfold nb
  omega
theorem ext_of_valid {G : Gd} (hv : validB G = true) : extB G = true := by
  simp only [validB, Bool.and_eq_true] at hv
  exact hv.1

end
section
open Go.RowKit Go.Shelf
attribute [local go_sem] Oper.semAt_some run_store_float
set_option linter.unusedSimpArgs false
set_option linter.unusedVariables false

theorem wpListIn_float {F : Fence} {n : Nat} {P : Program} {ops : Array Oper} {rest : List Oper} {o : Oper} {a : Act} {w : World} {Q : Exit → Act → World → Prop} (hg : o.guard = none) (op : BinOp) (t t' : TypeId) (x y : Operand)
    (ho : o.op = .binOp op t x y t') (hop : arith op = true) (k : FloatKind) (u v : Nat) (hx : a.eval x = .float k u) (hy : a.eval y = .float k v)
    (h : ∀ r m, num k r = fop k op (num k u) (num k v) → wpListIn F n P ops Q rest (a.put o.dst (.float k r)) (w.drewN m)) : wpListIn F n P ops Q (o :: rest) a w :=
  wpListIn_plain hg fun K hK => by
    obtain ⟨r, m, hr, hrun⟩ := run_float_any P w op hop t k u v
    have hq : (eqGuard op t x y (.float k u) (.float k v)).run P w = .ok () w := by
      cases op <;> first | (simp [arith] at hop; done) | simp [eqGuard]
    unfold Oper.wpIn
    refine ⟨fun f hf => (by simp [Oper.about, ho] at hf), ?_⟩
    rw [Oper.semAt_plain F _ _ (by rw [ho]; intro c hc'; cases hc')]
    unfold execOp
    simp only [ho, hx, hy]
    simp only [Sem.run_bind, hq, hrun, Result.andThen]
    exact hK _ _ (h r m hr)

/-- Two numbers, each in a cell of its own that has just been made. -/
theorem two_nums (x y : Value) (t : TypeId) (W : World) : ∃ V, ((W.alloc (.cells #[x] t)).alloc (.cells #[y] t)).drew = V ∧ V.heap.size = W.heap.size + 1 + 1 ∧ V.cell? ⟨W.heap.size, 0, none⟩ = some x ∧ V.frozen? ⟨W.heap.size, 0, none⟩ = false ∧ V.cell? ⟨W.heap.size + 1, 0, none⟩ = some y ∧ V.frozen? ⟨W.heap.size + 1, 0, none⟩ = false ∧ Below W.heap.size W V := by
  have z1 : (W.alloc (.cells #[x] t)).heap.size = W.heap.size + 1 := World.size_alloc _ _
  have b1 : Below W.heap.size W (W.alloc (.cells #[x] t)) := (Below.refl _ _).alloc (Nat.le_refl _) _
  have b2 : Below (W.heap.size + 1) (W.alloc (.cells #[x] t)) (((W.alloc (.cells #[x] t)).alloc (.cells #[y] t)).drew) := ((Below.refl _ _).alloc (by omega) _).drew
  have c1 : (W.alloc (.cells #[x] t)).cell? ⟨W.heap.size, 0, none⟩ = some x := cell_of_row _ _ 0 _ _ _ (heap_alloc_last W _)
  have f1 : (W.alloc (.cells #[x] t)).frozen? ⟨W.heap.size, 0, none⟩ = false := by have := (there_row (n := 1) (heap_alloc_last W (.cells #[x] t)) rfl 0 (by omega)).2; rwa [Nat.zero_add] at this
  have c2 : ((W.alloc (.cells #[x] t)).alloc (.cells #[y] t)).cell? ⟨W.heap.size + 1, 0, none⟩ = some y := by rw [← z1]; exact cell_of_row _ _ 0 _ _ _ (heap_alloc_last _ _)
  have f2 : ((W.alloc (.cells #[x] t)).alloc (.cells #[y] t)).frozen? ⟨W.heap.size + 1, 0, none⟩ = false := by rw [← z1]; have := (there_row (n := 1) (heap_alloc_last (W.alloc (.cells #[x] t)) (.cells #[y] t)) rfl 0 (by omega)).2; rwa [Nat.zero_add] at this
  exact ⟨_, rfl, (World.size_alloc _ _).trans (by rw [z1]), (b2.cell (p := ⟨W.heap.size, 0, none⟩) (by simp)).trans c1, (b2.frozen (p := ⟨W.heap.size, 0, none⟩) (by simp)).trans f1, c2, f2, b1.trans (b2.mono (by omega))⟩

end

section
open Go.RowKit Go.Shelf
attribute [local go_sem] Oper.semAt_some run_store_float
set_option linter.unusedSimpArgs false
set_option linter.unusedVariables false

/-- The balances, as a field. -/
def balF (G : Gd) (i : Nat) : Nat := if isB G i = true then (balO G i).getD 0 else 0
/-- A field up to a number. -/
def cutF (f : Nat → Nat) (k i : Nat) : Nat := if i < k then f i else 0
theorem cutF_zero (f : Nat → Nat) : ∀ i, i < 64 → zf i = cutF f 0 i := fun i _ => by simp [cutF, zf]
theorem cutF_full (f : Nat → Nat) : ∀ i, i < 64 → cutF f 64 i = f i := fun i h => by simp [cutF, h]
theorem cutF_put (f : Nat → Nat) (k x : Nat) (h : x = f k) : ∀ i, i < 64 → (if i = k then x else cutF f k i) = cutF f (k + 1) i := fun i _ => by
  unfold cutF
  by_cases e : i = k
  · subst e; simp [h]
  · have : i < k + 1 ↔ i < k := by omega
    simp [e, this]
theorem cutF_skip (f : Nat → Nat) (k : Nat) (h : f k = 0) : ∀ i, i < 64 → cutF f k i = cutF f (k + 1) i := fun i _ => by
  unfold cutF
  by_cases e : i = k
  · subst e; simp [h]
  · have : i < k + 1 ↔ i < k := by omega
    simp [this]
/-- All balances are finite. -/
def allFin (G : Gd) : Bool := (List.range 64).all fun i => !isB G i || finO (balO G i)
theorem balF_is {G : Gd} {i r : Nat} (hb : isB G i = true) (hr : num .f32 r = balO G i) (hf : finB r = true) : r = balF G i := by
  unfold balF
  rw [if_pos hb, ← hr]
  cases hn : nanK .f32 r
  · rw [num_some hn]; rfl
  · have := finO_num r
    rw [num_none hn, hf] at this
    cases this
def FB (f : Nat → Nat) (b : Bool) : Value := .tuple #[.agg (Fld f), .bool b]
def balsB (G : Gd) : Value := if allFin G = true then FB (balF G) true else FB zf false

theorem results_fld {P : Program} {fn : Func} {p q : Tmp} {ty : TypeId} {D : TypeDesc} (h : fn.results = #[.cell p ty, .tmp q]) (tmps : Array Value) (w : World) (b : Nat) (f : Nat → Nat) (v : Value)
    (hp : tmps.getD p undef = .pointer (some ⟨b, 0, none⟩)) (hq : tmps.getD q undef = v) (hc : w.rangeAt b 0 (Fld f).toList) (hu : P.underlying ty = some D) (hd : D.isRow = true) (hi : (P.info? ty).map (·.size) = some 64) :
    (results fn tmps).run P w = .ok (.tuple #[.agg (Fld f), v]) w := by
  have hp' : tmps[p]?.getD undef = .pointer (some ⟨b, 0, none⟩) := by simpa using hp
  have hq' : tmps[q]?.getD undef = v := by simpa using hq
  have := run_loadVar_mid (P := P) w b 0 ty (Fld f).toList D hc hu hd (by rw [Fld_length]; exact hi)
  simp [results, h, hp', hq', asAddr, this, Fld]
theorem ret_fld {fn : Func} {p q : Tmp} (h : fn.results = #[.cell p 30, .tmp q]) {tmps : Array Value} {w : World} {b : Nat} {f : Nat → Nat} {v : Value}
    (hp : tmps.getD p undef = .pointer (some ⟨b, 0, none⟩)) (hq : tmps.getD q undef = v) (hc : w.rangeAt b 0 (Fld f).toList) : (results fn tmps).run Tryd.prog w = .ok (.tuple #[.agg (Fld f), v]) w :=
  results_fld h tmps w b f v hp hq hc Tryd.underlying30 rfl infoField

theorem RowAt.new (f : Nat → Nat) (t : TypeId) (w : World) : RowAt (w.alloc (.cells (Fld f) t)) w.heap.size f :=
  ⟨rangeAt_row (heap_alloc_last w _), there_row (heap_alloc_last w _) (Fld_size f)⟩
theorem there_setCells {b b' o n : Nat} : ∀ {vs : List Value} {k : Nat} {W : World}, W.there b o n → (W.setCells b' k vs).there b o n
  | [], _, _, h => h
  | v :: vs, k, W, h => there_setCells (vs := vs) (there_setCell h)
theorem RowAt.store {W : World} {b : Nat} {f g : Nat → Nat} (h : RowAt W b f) : RowAt (W.setCells b 0 (Fld g).toList) b g :=
  ⟨World.rangeAt_setCells_same _ _ _ _ (by rw [show (Fld g).toList.length = 64 from Fld_length g]; exact h.there), there_setCells h.there⟩
theorem RowAt.fars {b b' : Nat} {f : Nat → Nat} (hne : b' ≠ b) : ∀ {vs : List Value} {k : Nat} {W : World}, RowAt W b f → RowAt (W.setCells b' k vs) b f
  | [], _, _, h => h
  | v :: vs, k, W, h => RowAt.fars hne (vs := vs) (h.far k v hne)
theorem RowAt.quiet {W W' : World} {b : Nat} {f : Nat → Nat} (h : RowAt W b f) (hq : Quiet W W') : RowAt W' b f := by
  obtain ⟨n, rfl⟩ := hq
  exact h.below (Quiet.below ⟨n, rfl⟩ (b + 1)) (by omega)
theorem RowAt.lt {W : World} {b : Nat} {f : Nat → Nat} (h : RowAt W b f) : b < W.heap.size := World.block_lt_of_cell? W ⟨b, 0, none⟩ (h.cell 0 (by omega))

end

section
open Go.RowKit Go.Shelf
attribute [local go_sem] Oper.semAt_some run_store_float
set_option linter.unusedSimpArgs false
set_option linter.unusedVariables false

def FN (f : Nat → Nat) (n : Int) : Value := .tuple #[.agg (Fld f), .int .i64 n]
/-- What BalancesOf says. -/
def balsV (G : Gd) : Value := if validB G = true then (if allFin G = true then FN (balF G) 0 else FN zf 4) else FN zf 1
theorem balsV_is (G : Gd) : ∃ (f : Nat → Nat) (n : Int), balsV G = .tuple #[.agg (Fld f), .int .i64 n] := by
  unfold balsV
  split
  · split <;> exact ⟨_, _, rfl⟩
  · exact ⟨_, _, rfl⟩
/-- A ground and a field are boxed, both may be written. -/
theorem gr_box (G : Gd) (f : Nat → Nat) (t u : TypeId) (w : World) : ∃ W, (w.alloc (.cells (Grd G) t)).alloc (.cells (Fld f) u) = W ∧ W.heap.size = w.heap.size + 1 + 1 ∧ GBox W w.heap.size G ∧ RowAt W (w.heap.size + 1) f ∧ Below w.heap.size w W := by
  obtain ⟨W1, h1, z1, g1, b1⟩ := gbox1 G t w
  have b2 : Below W1.heap.size W1 (W1.alloc (.cells (Fld f) u)) := (Below.refl _ _).alloc (Nat.le_refl _) _
  rw [h1]
  exact ⟨_, rfl, by simp [z1], g1.below b2 (by omega), by rw [← z1]; exact RowAt.new _ _ _, b1.trans (b2.mono (by omega))⟩

end

section
open Go.RowKit Go.Shelf
attribute [local go_sem] Oper.semAt_some run_store_float
set_option linter.unusedSimpArgs false
set_option linter.unusedVariables false

/-- A field at the numbers of a list. -/
def fillF (f : Nat → Nat) (l : List Nat) (i : Nat) : Nat := if i ∈ l then f i else 0
theorem fillF_nil (f : Nat → Nat) : ∀ i, i < 64 → zf i = fillF f [] i := fun i _ => by simp [fillF, zf]
theorem fillF_put (f : Nat → Nat) (l : List Nat) (k x : Nat) (h : x = f k) : ∀ i, i < 64 → (if i = k then x else fillF f l i) = fillF f (l ++ [k]) i := fun i _ => by
  unfold fillF
  by_cases e : i = k
  · subst e; simp [h]
  · simp [e]
theorem fillF_bal (G : Gd) : ∀ i, i < 64 → fillF (balF G) (bitsL (cellsN G)) i = balF G i := fun i h => by
  unfold fillF
  have e : i ∈ bitsL (cellsN G) ↔ isB G i = true := by rw [mem_bitsL, cellsN_testBit]; simp [h]
  cases hi : isB G i
  · rw [if_neg (by rw [e, hi]; simp)]; simp [balF, hi]
  · rw [if_pos (by rw [e, hi])]
theorem allFin_yes {G : Gd} (h : ∀ i ∈ bitsL (cellsN G), finO (balO G i) = true) : allFin G = true := all_yes fun i hi => by
  cases hb : isB G i
  · rfl
  · rw [h i (mem_bitsL.2 ⟨hi, by rw [cellsN_testBit, hb]; simp [hi]⟩)]; rfl

theorem results_fld_int {P : Program} {fn : Func} {p q : Tmp} {ty ti : TypeId} {D Di : TypeDesc} (h : fn.results = #[.cell p ty, .cell q ti]) (tmps : Array Value) (w : World) (b c : Nat) (f : Nat → Nat) (n : Int)
    (hp : tmps.getD p undef = .pointer (some ⟨b, 0, none⟩)) (hq : tmps.getD q undef = .pointer (some ⟨c, 0, none⟩)) (hc : w.rangeAt b 0 (Fld f).toList) (hn : w.cell? ⟨c, 0, none⟩ = some (.int .i64 n)) (hu : P.underlying ty = some D) (hd : D.isRow = true) (hui : P.underlying ti = some Di) (hdi : Di.isRow = false) (hi : (P.info? ty).map (·.size) = some 64) :
    (results fn tmps).run P w = .ok (.tuple #[.agg (Fld f), .int .i64 n]) w := by
  have hp' : tmps[p]?.getD undef = .pointer (some ⟨b, 0, none⟩) := by simpa using hp
  have hq' : tmps[q]?.getD undef = .pointer (some ⟨c, 0, none⟩) := by simpa using hq
  have := run_loadVar_mid (P := P) w b 0 ty (Fld f).toList D hc hu hd (by rw [Fld_length]; exact hi)
  have hagg : (isAgg ti).run P w = .ok false w := by
    unfold isAgg
    rw [Sem.run_bind, run_underlying hui w]
    cases Di <;> simp_all
  have h2 : (loadVar ti ⟨c, 0, none⟩).run P w = .ok (.int .i64 n) w := by
    unfold loadVar
    go_simp
  simp [results, h, hp', hq', asAddr, this, h2, Fld]
theorem CK.row {A B : World} (h : CK A B) {b : Nat} {f : Nat → Nat} (g : RowAt A b f) : RowAt B b f := ⟨h.range g.range, h.there g.there⟩

/-- A ground, a field and a number are boxed. -/
theorem gri_box (G : Gd) (f : Nat → Nat) (n : Int) (t u v : TypeId) (w : World) : ∃ W, ((w.alloc (.cells (Grd G) t)).alloc (.cells (Fld f) u)).alloc (.cells #[.int .i64 n] v) = W ∧ W.heap.size = w.heap.size + 1 + 1 + 1 ∧ GBox W w.heap.size G ∧ RowAt W (w.heap.size + 1) f ∧ W.cell? ⟨w.heap.size + 1 + 1, 0, none⟩ = some (.int .i64 n) ∧ W.frozen? ⟨w.heap.size + 1 + 1, 0, none⟩ = false ∧ Below w.heap.size w W := by
  obtain ⟨W1, h1, z1, g1, q1, b1⟩ := gr_box G f t u w
  have b2 : Below W1.heap.size W1 (W1.alloc (.cells #[.int .i64 n] v)) := (Below.refl _ _).alloc (Nat.le_refl _) _
  rw [h1]
  refine ⟨_, rfl, by simp [z1], g1.below b2 (by omega), q1.below b2 (by omega), ?_, ?_, b1.trans (b2.mono (by omega))⟩
  · rw [← z1]; exact cell_of_row _ _ 0 _ _ _ (heap_alloc_last W1 _)
  · rw [← z1]; have := (there_row (n := 1) (heap_alloc_last W1 (.cells #[.int .i64 n] v)) rfl 0 (by omega)).2; rwa [Nat.zero_add] at this

theorem cell_farS {b c x : Nat} (hc : c ≠ b) : ∀ (vs : List Value) (o : Nat) (W : World), (W.setCells b o vs).cell? ⟨c, x, none⟩ = W.cell? ⟨c, x, none⟩
  | [], _, _ => rfl
  | v :: vs, o, W => (cell_farS hc vs (o + 1) (W.setCell ⟨b, o, none⟩ v)).trans (cell_other (fun e => hc (by injection e; rename_i e _ _; exact e.symm)))
theorem frozenS {b : Nat} (p : Addr) : ∀ (vs : List Value) (o : Nat) (W : World), (W.setCells b o vs).frozen? p = W.frozen? p
  | [], _, _ => rfl
  | v :: vs, o, W => (frozenS p vs (o + 1) (W.setCell ⟨b, o, none⟩ v)).trans (World.frozen?_setCell _ _ _ _)
theorem keepsS {b : Nat} : ∀ (vs : List Value) (o : Nat) (W : World), KeepsOthers W (W.setCells b o vs)
  | [], _, W => KeepsOthers.refl W
  | v :: vs, o, W => (KeepsOthers.setCell W ⟨b, o, none⟩ v).trans (keepsS vs (o + 1) (W.setCell ⟨b, o, none⟩ v))
/-- A field is stored where a field lies; another one and a number lie on. -/
theorem stored_row {W : World} {b c : Nat} {f g : Nat → Nat} (h : RowAt W b f) (hc : c ≠ b) : ∃ X, W.setCells b 0 (Fld g).toList = X ∧ RowAt X b g ∧ (∀ v, W.cell? ⟨c, 0, none⟩ = some v → X.cell? ⟨c, 0, none⟩ = some v) ∧ X.frozen? ⟨c, 0, none⟩ = W.frozen? ⟨c, 0, none⟩ ∧ KeepsOthers W X ∧ X.heap.size = W.heap.size ∧ (∀ n w, n ≤ b → Below n w W → Below n w X) ∧ ∀ (D : Nat) (o : Obj), D ≠ b → W.heap[D]? = some o → X.heap[D]? = some o :=
  ⟨_, rfl, h.store, fun v hv => (cell_farS hc _ _ _).trans hv, frozenS _ _ _ _, keepsS _ _ _, size_setCells _ _ _ _, fun n w hn hb => below_setCells _ hn _ _ _ hb, fun D o hD ho => (heap_setCells_other _ hD).trans ho⟩


end

section
open Go.RowKit Go.Shelf
attribute [local go_sem] Oper.semAt_some run_store_float
set_option linter.unusedSimpArgs false
set_option linter.unusedVariables false

theorem wpListIn_store_mid {F : Fence} {n : Nat} {P : Program} {ops : Array Oper} {rest : List Oper} {o : Oper} {a : Act} {w : World} {Q : Exit → Act → World → Prop} (hg : o.guard = none) (ty : TypeId) (x y : Operand) (ho : o.op = .store ty x y)
    (b k : Nat) (cells : Array Value) (hx : a.eval x = .pointer (some ⟨b, k, none⟩)) (hy : a.eval y = .agg cells) (ht : w.there b k cells.size) (hi : (P.info? ty).map (·.size) = some cells.size) (h1 : cells.all (·.oneCell') = true)
    (h : wpListIn F n P ops Q rest (a.put o.dst undef) (w.setCells b k cells.toList)) : wpListIn F n P ops Q (o :: rest) a w :=
  wpListIn_plain hg fun K hK => by
    have hrun := store_op (P := P) (w := w) ho hx hy ht hi h1
    unfold Oper.wpIn
    refine ⟨fun f hf => (by simp [Oper.about, ho] at hf), ?_⟩
    rw [Oper.semAt_plain F _ _ (by rw [ho]; intro c hc'; cases hc'), hrun]
    exact hK _ _ h

theorem isFinite_is (b : Nat) (r : Bool) (h : finB b = r) (w : World) : Calls Tryd.prog 78 #[.float .f32 b] w fun e w' => e = .returned (.bool r) ∧ Quiet w w' := by
  subst h
  exact isFinite_any b w

end
end Go.Proofs.YtjhaonfdapldcaaDoor
