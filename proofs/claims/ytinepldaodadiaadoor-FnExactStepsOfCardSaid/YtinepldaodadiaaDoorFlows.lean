/- Joints and flows: the model's and the program's. No condition. · The program's neighbours: it goes through the cells beside a cell, in the order of the sides. No condition. · FlowFrom: the model's and the program's. Condition (the program's): the table of math/bits is laid. · The balance of a cell: the model's and the program's. No condition. · The settled head of a cell: the model's and the program's. No condition. · The settled head of a cell: the program's. No condition. · The balances of all cells: the model's. No condition. · BalancesOf: the model's and the program's. Condition (the program's): the table of math/bits is laid. · BalancesOf: the program's. Condition: the table of math/bits is laid. · BalancesOf: the program's, on valid grounds. Condition: the table of math/bits is laid. -/
import Derived.Test.YtinepldaodadiaaDoorNums
import Derived.Test.YtinepldaodadiaaDoorBase
import Derived.Test.YtinepldaodadiaaDoorCell
import Derived.Sort.CutIn
namespace Go.Proofs.YtinepldaodadiaaDoor

section
open Go.RowKit
set_option linter.unusedSimpArgs false
set_option linter.unusedVariables false

/-- The joint of two cells. -/
def jointG (G : Gd) (i j : Nat) : Option Nat := joint (G.c i) (G.c j)
theorem jointG_ex (G : Gd) (i j : Nat) : ∃ r, num .f32 r = jointG G i j := joint_ex _ _
/-- What flows from a cell to another. -/
def flowO (G : Gd) (i j : Nat) : Option Nat := fop .f32 .mul (jointG G i j) (fop .f32 .sub (num .f32 (G.h i)) (num .f32 (G.h j)))
theorem flowO_ex (G : Gd) (i j : Nat) : ∃ r, num .f32 r = flowO G i j := fop_ex _ _ rfl _ _ (jointG_ex _ _ _) (fop_ex _ _ rfl _ _ (num_ex _ _) (num_ex _ _))

set_option maxRecDepth 100000 in
theorem implJoint_any (G : Gd) (i j : Nat) (hi : i < 64) (hj : j < 64) (p : Nat) (w : World) (hp : GrdAt w p 0 G) :
    Calls Tryd.prog 65 #[.pointer (some ⟨p, 0, none⟩), .int .i64 i, .int .i64 j] w (GivesN (jointG G i j) w) := by
  have hc := hp.c
  rw [Nat.zero_add] at hc
  go_enter Tryd.func65, Tryd.ntmps65
  go_upto_region 1 with (fail)
  refine wp_region_calm (ops' := regOf Tryd.f65 1) [0, 1, 2, 3, 4, 5, 6, 7, 8, 9, 10, 11, 12, 13] [] .fin (Quiet w) [(0, One (.pointer (some ⟨p, 0, none⟩))), (1, One (.int .i64 i)), (2, One (.pointer (some ⟨p, 0, none⟩))), (3, One (.pointer (some ⟨p, 2, none⟩))), (4, One (.pointer (some ⟨p, 2 + i, none⟩))), (5, One (.float .f32 (G.c i))), (6, One (.pointer (some ⟨p, 0, none⟩))), (7, One (.int .i64 j)), (8, One (.pointer (some ⟨p, 0, none⟩))), (9, One (.pointer (some ⟨p, 2, none⟩))), (10, One (.pointer (some ⟨p, 2 + j, none⟩))), (11, One (.float .f32 (G.c j))), (12, Numv .f32 (jointG G i j)), (13, Numv .f32 (jointG G i j))] (by kernel_rfl) (by kernel_rfl) (by kernel_rfl) (by kernel_rfl) (by kernel_rfl) (by kernel_rfl) (by kernel_rfl) (by kernel_rfl) rfl ((Quiet.refl _).drewN 1) ?_
  refine calm_pure (some 7) (by kernel_rfl) (by kernel_rfl) (by kernel_rfl) (fun _ => by kernel_rfl) ?_
  refine calm_pure (some 8) (by kernel_rfl) (by kernel_rfl) (by kernel_rfl) (fun _ => by kernel_rfl) ?_
  refine calm_pure (some 9) (by kernel_rfl) (by kernel_rfl) (by kernel_rfl) (fun _ => by kernel_rfl) ?_
  refine calm_pure (some 10) (by kernel_rfl) (by kernel_rfl) (by kernel_rfl) (fun _ => by kernel_rfl) ?_
  refine calm_pure (some 11) (by kernel_rfl) (by kernel_rfl) (by kernel_rfl) (index_fld (x := .tmp 10) (y := .tmp 8) (o := 2) (by kernel_rfl) (by kernel_rfl) (by kernel_rfl) hi) ?_
  refine calm_read (some 12) (by kernel_rfl) (by kernel_rfl) (by kernel_rfl) (fun w' hw' => load_cell (ty := 23) (x := .tmp 11) (b := p) (o := 2 + i) (by kernel_rfl) (by kernel_rfl) Tryd.underlying23 rfl (kq (Grd_fld hc i hi) w' hw')) ?_
  refine calm_pure (some 13) (by kernel_rfl) (by kernel_rfl) (by kernel_rfl) (fun _ => by kernel_rfl) ?_
  refine calm_pure (some 14) (by kernel_rfl) (by kernel_rfl) (by kernel_rfl) (fun _ => by kernel_rfl) ?_
  refine calm_pure (some 15) (by kernel_rfl) (by kernel_rfl) (by kernel_rfl) (fun _ => by kernel_rfl) ?_
  refine calm_pure (some 16) (by kernel_rfl) (by kernel_rfl) (by kernel_rfl) (fun _ => by kernel_rfl) ?_
  refine calm_pure (some 17) (by kernel_rfl) (by kernel_rfl) (by kernel_rfl) (index_fld (x := .tmp 16) (y := .tmp 14) (o := 2) (by kernel_rfl) (by kernel_rfl) (by kernel_rfl) hj) ?_
  refine calm_read (some 18) (by kernel_rfl) (by kernel_rfl) (by kernel_rfl) (fun w' hw' => load_cell (ty := 23) (x := .tmp 17) (b := p) (o := 2 + j) (by kernel_rfl) (by kernel_rfl) Tryd.underlying23 rfl (kq (Grd_fld hc j hj) w' hw')) ?_
  refine calm_call (some 19) 71 #[.float .f32 (G.c i), .float .f32 (G.c j)] (numv_ne (jointG_ex G i j)) (by kernel_rfl) (by kernel_rfl) (by kernel_rfl) (fun _ => by kernel_rfl) (fun w' hw' => ((jointOf_any (G.c i) (G.c j) w').mono fun _ _ h => givesN_of h).mono fun e w2 ⟨r, he, hr, hq⟩ => ⟨_, he, ⟨r, rfl, hr⟩, hw'.trans hq⟩) ?_
  rintro _ ⟨r19, rfl, hr19⟩
  refine calm_pureV (some 6) (.float .f32 r19) ⟨_, rfl, hr19⟩ (by kernel_rfl) (by kernel_rfl) (by kernel_rfl) (fun _ => by kernel_rfl) ?_
  rintro _ ⟨r6, rfl, hr6⟩
  refine calm_end fun w' hw' => plan_end (Clean.normal ?_)
  simp only [Act.put, List.setIfInBounds_toArray, List.set_cons_zero, List.set_cons_succ]
  go_wp2
  go_ret
  exact ⟨r6, rfl, hr6, hw'⟩

set_option maxRecDepth 100000 in
theorem implFlow_any (G : Gd) (i j : Nat) (hi : i < 64) (hj : j < 64) (p : Nat) (w : World) (hp : GrdAt w p 0 G) :
    Calls Tryd.prog 61 #[.pointer (some ⟨p, 0, none⟩), .int .i64 i, .int .i64 j] w (GivesN (flowO G i j) w) := by
  have hc := hp.h
  rw [Nat.zero_add] at hc
  have HP := Lib.hid hp
  clear hp
  go_enter Tryd.func61, Tryd.ntmps61
  go_upto_region 1 with (fail)
  refine wp_region_calm (ops' := regOf Tryd.f61 1) [0, 1, 2, 3, 4, 5, 6, 7, 8, 9, 10, 11, 12, 13] [] .fin (Quiet w) [(0, One (.pointer (some ⟨p, 0, none⟩))), (1, One (.int .i64 i)), (2, One (.pointer (some ⟨p, 0, none⟩))), (3, One (.pointer (some ⟨p, 130, none⟩))), (4, One (.pointer (some ⟨p, 130 + i, none⟩))), (5, One (.float .f32 (G.h i))), (6, One (.pointer (some ⟨p, 0, none⟩))), (7, One (.int .i64 j)), (8, One (.pointer (some ⟨p, 0, none⟩))), (9, One (.pointer (some ⟨p, 130, none⟩))), (10, One (.pointer (some ⟨p, 130 + j, none⟩))), (11, One (.float .f32 (G.h j))), (12, Numv .f32 (fop .f32 .sub (num .f32 (G.h i)) (num .f32 (G.h j)))), (13, Numv .f32 (fop .f32 .sub (num .f32 (G.h i)) (num .f32 (G.h j))))] (by kernel_rfl) (by kernel_rfl) (by kernel_rfl) (by kernel_rfl) (by kernel_rfl) (by kernel_rfl) (by kernel_rfl) (by kernel_rfl) rfl ((Quiet.refl _).drewN 1) ?_
  refine calm_pure (some 8) (by kernel_rfl) (by kernel_rfl) (by kernel_rfl) (fun _ => by kernel_rfl) ?_
  refine calm_pure (some 9) (by kernel_rfl) (by kernel_rfl) (by kernel_rfl) (fun _ => by kernel_rfl) ?_
  refine calm_pure (some 10) (by kernel_rfl) (by kernel_rfl) (by kernel_rfl) (fun _ => by kernel_rfl) ?_
  refine calm_pure (some 11) (by kernel_rfl) (by kernel_rfl) (by kernel_rfl) (fun _ => by kernel_rfl) ?_
  refine calm_pure (some 12) (by kernel_rfl) (by kernel_rfl) (by kernel_rfl) (index_fld (x := .tmp 11) (y := .tmp 9) (o := 130) (by kernel_rfl) (by kernel_rfl) (by kernel_rfl) hi) ?_
  refine calm_read (some 13) (by kernel_rfl) (by kernel_rfl) (by kernel_rfl) (fun w' hw' => load_cell (ty := 23) (x := .tmp 12) (b := p) (o := 130 + i) (by kernel_rfl) (by kernel_rfl) Tryd.underlying23 rfl (kq (Grd_fld hc i hi) w' hw')) ?_
  refine calm_pure (some 14) (by kernel_rfl) (by kernel_rfl) (by kernel_rfl) (fun _ => by kernel_rfl) ?_
  refine calm_pure (some 15) (by kernel_rfl) (by kernel_rfl) (by kernel_rfl) (fun _ => by kernel_rfl) ?_
  refine calm_pure (some 16) (by kernel_rfl) (by kernel_rfl) (by kernel_rfl) (fun _ => by kernel_rfl) ?_
  refine calm_pure (some 17) (by kernel_rfl) (by kernel_rfl) (by kernel_rfl) (fun _ => by kernel_rfl) ?_
  refine calm_pure (some 18) (by kernel_rfl) (by kernel_rfl) (by kernel_rfl) (index_fld (x := .tmp 17) (y := .tmp 15) (o := 130) (by kernel_rfl) (by kernel_rfl) (by kernel_rfl) hj) ?_
  refine calm_read (some 19) (by kernel_rfl) (by kernel_rfl) (by kernel_rfl) (fun w' hw' => load_cell (ty := 23) (x := .tmp 18) (b := p) (o := 130 + j) (by kernel_rfl) (by kernel_rfl) Tryd.underlying23 rfl (kq (Grd_fld hc j hj) w' hw')) ?_
  refine calm_float (some 20) .f32 .sub 23 23 (.tmp 13) (.tmp 19) ((G.h i)) ((G.h j)) (by kernel_rfl) (by kernel_rfl) (by kernel_rfl) (by kernel_rfl) rfl (by kernel_rfl) (by kernel_rfl) (fun _ n h => h.drewN n) (rfl) ?_
  intro r20 hr20
  refine calm_pureV (some 7) (.float .f32 r20) ⟨_, rfl, hr20⟩ (by kernel_rfl) (by kernel_rfl) (by kernel_rfl) (fun _ => by kernel_rfl) ?_
  rintro _ ⟨r7, rfl, hr7⟩
  refine calm_end fun w' hw' => plan_end (Clean.normal ?_)
  have HQ := Lib.hid hw'
  have HR := Lib.hid hr7
  clear hw' hr7 hr20 hc
  simp only [Act.put, List.setIfInBounds_toArray, List.set_cons_zero, List.set_cons_succ]
  go_wp2_with (first | (go_at_call 65; refine (implJoint_any G i j hi hj p _ (HQ.out.grd HP.out)).mono ?_; rintro e w1 ⟨r, rfl, hr, hq⟩; have HJ := Lib.hid hr; have HQ1 := Lib.hid (HQ.out.trans hq); clear hr hq) | (refine wpList_float rfl _ _ _ _ _ rfl rfl .f32 _ _ rfl rfl ?_; intro s n hs; have HS := Lib.hid hs; clear hs))
  go_ret
  exact ⟨s, rfl, HS.out.trans (fop_eq HJ.out HR.out), HQ1.out.drewN n⟩

/-- The number of the cell on a side. -/
def nbN (k : Nat) (s : Int) : Nat := (nb k s).toNat
theorem nbN_is {G : Gd} {k : Nat} {s : Int} (hv : validB G = true) (h : nbB G k s = true) : nb k s = (nbN k s : Int) ∧ nbN k s < 64 := by
  have := nb_range hv h
  unfold nbN
  omega

set_option maxRecDepth 100000 in
theorem l01Between_yes (G : Gd) (k j : Nat) (hk : k < 64) (hj : j < 64) (s : Int) (hs : sideB s = true) (hn : besideN G k s = (j : Int)) (p : Nat) (w : World) (hp : GrdAt w p 0 G) (hG : GdOk G) :
    Calls Tryd.prog 50 #[.pointer (some ⟨p, 0, none⟩), .int .i64 k, .int .i64 s] w fun e w' => ∃ r, e = .returned (.tuple #[.float .f32 r, .int .i64 j]) ∧ num .f32 r = jointG G k j ∧ Quiet w w' := by
  have hc := hp.c
  rw [Nat.zero_add] at hc
  have HN := Lib.hid hn
  have HP := Lib.hid hp
  have HG := Lib.hid hG
  clear hp hn hG
  go_enter Tryd.func50, Tryd.ntmps50
  go_upto_region 4 with (go_at_call 37; have hb := (l01Beside_any G k hk s hs p w HP.out HG.out); rw [HN.out] at hb; refine hb.mono ?_; clear hb; rintro e w' ⟨rfl, rfl⟩)
  refine wp_region_calm (ops' := regOf Tryd.f50 4) [0, 1, 2, 3, 4, 5, 6, 7, 8, 9, 10, 11, 12, 13, 14, 15] [] .fin (Quiet w) [(0, One (.pointer (some ⟨p, 0, none⟩))), (1, One (.int .i64 k)), (2, One (.pointer (some ⟨p, 0, none⟩))), (3, One (.pointer (some ⟨p, 2, none⟩))), (4, One (.pointer (some ⟨p, 2 + k, none⟩))), (5, One (.float .f32 (G.c k))), (6, One (.pointer (some ⟨p, 0, none⟩))), (7, One (.int .i64 (j : Int))), (8, One (.pointer (some ⟨p, 0, none⟩))), (9, One (.pointer (some ⟨p, 2, none⟩))), (10, One (.pointer (some ⟨p, 2 + j, none⟩))), (11, One (.float .f32 (G.c j))), (12, Numv .f32 (jointG G k j)), (13, One (.int .i64 (j : Int))), (14, Numv .f32 (jointG G k j)), (15, One (.int .i64 (j : Int)))] (by kernel_rfl) (by kernel_rfl) (by kernel_rfl) (by kernel_rfl) (by kernel_rfl) (by kernel_rfl) (by kernel_rfl) (by kernel_rfl) rfl ((Quiet.refl _).drewN 1) ?_
  refine calm_pure (some 15) (by kernel_rfl) (by kernel_rfl) (by kernel_rfl) (fun _ => by kernel_rfl) ?_
  refine calm_pure (some 16) (by kernel_rfl) (by kernel_rfl) (by kernel_rfl) (fun _ => by kernel_rfl) ?_
  refine calm_pure (some 17) (by kernel_rfl) (by kernel_rfl) (by kernel_rfl) (fun _ => by kernel_rfl) ?_
  refine calm_pure (some 18) (by kernel_rfl) (by kernel_rfl) (by kernel_rfl) (fun _ => by kernel_rfl) ?_
  refine calm_pure (some 19) (by kernel_rfl) (by kernel_rfl) (by kernel_rfl) (index_fld (x := .tmp 18) (y := .tmp 16) (o := 2) (by kernel_rfl) (by kernel_rfl) (by kernel_rfl) hk) ?_
  refine calm_read (some 20) (by kernel_rfl) (by kernel_rfl) (by kernel_rfl) (fun w' hw' => load_cell (ty := 23) (x := .tmp 19) (b := p) (o := 2 + k) (by kernel_rfl) (by kernel_rfl) Tryd.underlying23 rfl (kq (Grd_fld hc k hk) w' hw')) ?_
  refine calm_pure (some 21) (by kernel_rfl) (by kernel_rfl) (by kernel_rfl) (fun _ => by kernel_rfl) ?_
  refine calm_pure (some 22) (by kernel_rfl) (by kernel_rfl) (by kernel_rfl) (fun _ => by kernel_rfl) ?_
  refine calm_pure (some 23) (by kernel_rfl) (by kernel_rfl) (by kernel_rfl) (fun _ => by kernel_rfl) ?_
  refine calm_pure (some 24) (by kernel_rfl) (by kernel_rfl) (by kernel_rfl) (fun _ => by kernel_rfl) ?_
  refine calm_pure (some 25) (by kernel_rfl) (by kernel_rfl) (by kernel_rfl) (index_fld (x := .tmp 24) (y := .tmp 22) (o := 2) (by kernel_rfl) (by kernel_rfl) (by kernel_rfl) hj) ?_
  refine calm_read (some 26) (by kernel_rfl) (by kernel_rfl) (by kernel_rfl) (fun w' hw' => load_cell (ty := 23) (x := .tmp 25) (b := p) (o := 2 + j) (by kernel_rfl) (by kernel_rfl) Tryd.underlying23 rfl (kq (Grd_fld hc j hj) w' hw')) ?_
  refine calm_call (some 27) 58 #[.float .f32 (G.c k), .float .f32 (G.c j)] (numv_ne (jointG_ex G k j)) (by kernel_rfl) (by kernel_rfl) (by kernel_rfl) (fun _ => by kernel_rfl) (fun w' hw' => ((l01Joint_any (G.c k) (G.c j) w').mono fun _ _ h => givesN_of h).mono fun e w2 ⟨r, he, hr, hq⟩ => ⟨_, he, ⟨r, rfl, hr⟩, hw'.trans hq⟩) ?_
  rintro _ ⟨r27, rfl, hr27⟩
  refine calm_pure (some 28) (by kernel_rfl) (by kernel_rfl) (by kernel_rfl) (fun _ => by kernel_rfl) ?_
  refine calm_pureV (some 6) (.float .f32 r27) ⟨_, rfl, hr27⟩ (by kernel_rfl) (by kernel_rfl) (by kernel_rfl) (fun _ => by kernel_rfl) ?_
  rintro _ ⟨r6, rfl, hr6⟩
  refine calm_pure (some 7) (by kernel_rfl) (by kernel_rfl) (by kernel_rfl) (fun _ => by kernel_rfl) ?_
  refine calm_end fun w' hw' => plan_end (Clean.normal ?_)
  simp only [Act.put, List.setIfInBounds_toArray, List.set_cons_zero, List.set_cons_succ]
  go_wp2
  go_ret2
  exact ⟨r6, rfl, hr6, hw'⟩

set_option maxRecDepth 100000 in
theorem l01Between_no (G : Gd) (k : Nat) (hk : k < 64) (s : Int) (hs : sideB s = true) (hn : besideN G k s = -1) (p : Nat) (w : World) (hp : GrdAt w p 0 G) (hG : GdOk G) :
    Calls Tryd.prog 50 #[.pointer (some ⟨p, 0, none⟩), .int .i64 k, .int .i64 s] w fun e w' => e = .returned (.tuple #[.float .f32 0, .int .i64 (-1)]) ∧ w = w' := by
  have HN := Lib.hid hn
  have HP := Lib.hid hp
  have HG := Lib.hid hG
  clear hp hn hG
  go_enter Tryd.func50, Tryd.ntmps50
  go_wp2_with (go_at_call 37; have hb := (l01Beside_any G k hk s hs p w HP.out HG.out); rw [HN.out] at hb; refine hb.mono ?_; clear hb; rintro e w' ⟨rfl, rfl⟩)
  go_ret2
  exact ⟨rfl, rfl⟩

/-- What flows from a cell to a side. -/
def flowS (G : Gd) (k : Nat) (s : Int) : Option Nat := if nbB G k s = true then flowO G k (nbN k s) else num .f32 0
theorem flowS_ex (G : Gd) (k : Nat) (s : Int) : ∃ r, num .f32 r = flowS G k s := by
  unfold flowS
  split
  · exact flowO_ex _ _ _
  · exact num_ex _ _

set_option maxRecDepth 100000 in
theorem l01Flow_any (G : Gd) (k : Nat) (hk : k < 64) (hv : validB G = true) (s : Int) (hs : sideB s = true) (p : Nat) (w : World) (hp : GrdAt w p 0 G) (hG : GdOk G) :
    Calls Tryd.prog 38 #[.pointer (some ⟨p, 0, none⟩), .int .i64 k, .int .i64 s] w (GivesN (flowS G k s) w) := by
  have hc := hp.h
  rw [Nat.zero_add] at hc
  have HP := Lib.hid hp
  have HG := Lib.hid hG
  clear hp hG
  cases hn : nbB G k s
  · have hf : flowS G k s = num .f32 0 := by simp [flowS, hn]
    have hb : besideN G k s = -1 := by simp [besideN, hn]
    rw [hf]
    clear hf
    go_enter Tryd.func38, Tryd.ntmps38
    go_wp2_with (go_at_call 50; refine (l01Between_no G k hk s hs hb p _ HP.out HG.out).mono ?_; rintro e w' ⟨rfl, rfl⟩)
    go_ret
    exact ⟨0, rfl, rfl, Quiet.refl _⟩
  · obtain ⟨hj1, hj⟩ := nbN_is hv hn
    have hf : flowS G k s = flowO G k (nbN k s) := by simp [flowS, hn]
    have hb : besideN G k s = (nbN k s : Int) := by simp [besideN, hn, hj1]
    rw [hf]
    clear hf hj1
    generalize nbN k s = j at hj hb ⊢
    go_enter Tryd.func38, Tryd.ntmps38
    go_upto_region 4 with (go_at_call 50; refine (l01Between_yes G k j hk hj s hs hb p _ HP.out HG.out).mono ?_; rintro e w1 ⟨r, rfl, hr, hq⟩; have HR := Lib.hid hr; have HQ := Lib.hid hq; have hc1 : w1.rangeAt p 130 (Fld G.h).toList := hq.range hc; clear hr hq)
    refine wp_region_calm (ops' := regOf Tryd.f38 4) [0, 1, 2, 3, 4, 5, 6, 7, 8, 9, 10, 11, 12, 13, 14, 15] [] .fin (Quiet w1) [(0, Numv .f32 (jointG G k j)), (1, One (.pointer (some ⟨p, 0, none⟩))), (2, One (.int .i64 k)), (3, One (.pointer (some ⟨p, 0, none⟩))), (4, One (.pointer (some ⟨p, 130, none⟩))), (5, One (.pointer (some ⟨p, 130 + k, none⟩))), (6, One (.float .f32 (G.h k))), (7, One (.pointer (some ⟨p, 0, none⟩))), (8, One (.int .i64 (j : Int))), (9, One (.pointer (some ⟨p, 0, none⟩))), (10, One (.pointer (some ⟨p, 130, none⟩))), (11, One (.pointer (some ⟨p, 130 + j, none⟩))), (12, One (.float .f32 (G.h j))), (13, Numv .f32 (fop .f32 .sub (num .f32 (G.h k)) (num .f32 (G.h j)))), (14, Numv .f32 (fop .f32 .mul (jointG G k j) (fop .f32 .sub (num .f32 (G.h k)) (num .f32 (G.h j))))), (15, Numv .f32 (fop .f32 .mul (jointG G k j) (fop .f32 .sub (num .f32 (G.h k)) (num .f32 (G.h j)))))] (by kernel_rfl) (by kernel_rfl) (by kernel_rfl) (by kernel_rfl) (by kernel_rfl) (by kernel_rfl) (by kernel_rfl) (by kernel_rfl) rfl ((Quiet.refl _).drewN 1) ?_
    refine calm_pureV (some 18) (.float .f32 r) ⟨_, rfl, HR.out⟩ (by kernel_rfl) (by kernel_rfl) (by kernel_rfl) (fun _ => by kernel_rfl) ?_
    rintro _ ⟨r18, rfl, hr18⟩
    refine calm_pure (some 19) (by kernel_rfl) (by kernel_rfl) (by kernel_rfl) (fun _ => by kernel_rfl) ?_
    refine calm_pure (some 20) (by kernel_rfl) (by kernel_rfl) (by kernel_rfl) (fun _ => by kernel_rfl) ?_
    refine calm_pure (some 21) (by kernel_rfl) (by kernel_rfl) (by kernel_rfl) (fun _ => by kernel_rfl) ?_
    refine calm_pure (some 22) (by kernel_rfl) (by kernel_rfl) (by kernel_rfl) (fun _ => by kernel_rfl) ?_
    refine calm_pure (some 23) (by kernel_rfl) (by kernel_rfl) (by kernel_rfl) (index_fld (x := .tmp 22) (y := .tmp 20) (o := 130) (by kernel_rfl) (by kernel_rfl) (by kernel_rfl) hk) ?_
    refine calm_read (some 24) (by kernel_rfl) (by kernel_rfl) (by kernel_rfl) (fun w' hw' => load_cell (ty := 23) (x := .tmp 23) (b := p) (o := 130 + k) (by kernel_rfl) (by kernel_rfl) Tryd.underlying23 rfl (kq (Grd_fld hc1 k hk) w' hw')) ?_
    refine calm_pure (some 25) (by kernel_rfl) (by kernel_rfl) (by kernel_rfl) (fun _ => by kernel_rfl) ?_
    refine calm_pure (some 26) (by kernel_rfl) (by kernel_rfl) (by kernel_rfl) (fun _ => by kernel_rfl) ?_
    refine calm_pure (some 27) (by kernel_rfl) (by kernel_rfl) (by kernel_rfl) (fun _ => by kernel_rfl) ?_
    refine calm_pure (some 28) (by kernel_rfl) (by kernel_rfl) (by kernel_rfl) (fun _ => by kernel_rfl) ?_
    refine calm_pure (some 29) (by kernel_rfl) (by kernel_rfl) (by kernel_rfl) (index_fld (x := .tmp 28) (y := .tmp 26) (o := 130) (by kernel_rfl) (by kernel_rfl) (by kernel_rfl) hj) ?_
    refine calm_read (some 30) (by kernel_rfl) (by kernel_rfl) (by kernel_rfl) (fun w' hw' => load_cell (ty := 23) (x := .tmp 29) (b := p) (o := 130 + j) (by kernel_rfl) (by kernel_rfl) Tryd.underlying23 rfl (kq (Grd_fld hc1 j hj) w' hw')) ?_
    refine calm_float (some 31) .f32 .sub 23 23 (.tmp 24) (.tmp 30) ((G.h k)) ((G.h j)) (by kernel_rfl) (by kernel_rfl) (by kernel_rfl) (by kernel_rfl) rfl (by kernel_rfl) (by kernel_rfl) (fun _ n h => h.drewN n) (rfl) ?_
    intro r31 hr31
    refine calm_float (some 32) .f32 .mul 23 23 (.tmp 18) (.tmp 31) (r18) (r31) (by kernel_rfl) (by kernel_rfl) (by kernel_rfl) (by kernel_rfl) rfl (by kernel_rfl) (by kernel_rfl) (fun _ n h => h.drewN n) (fop_eq hr18 hr31) ?_
    intro r32 hr32
    refine calm_pureV (some 6) (.float .f32 r32) ⟨_, rfl, hr32⟩ (by kernel_rfl) (by kernel_rfl) (by kernel_rfl) (fun _ => by kernel_rfl) ?_
    rintro _ ⟨r6, rfl, hr6⟩
    refine calm_end fun w' hw' => plan_end (Clean.normal ?_)
    simp only [Act.put, List.setIfInBounds_toArray, List.set_cons_zero, List.set_cons_succ]
    go_wp2
    go_ret
    exact ⟨r6, rfl, hr6, HQ.out.trans hw'⟩
end

section
open Go.RowKit Go.Shelf
attribute [local go_sem] Oper.semAt_some
set_option linter.unusedSimpArgs false

/-- The sides on which there is a cell, among the first ones. -/
def sidesTo (G : Gd) (k n : Nat) : List Nat := (List.range n).filter fun s => nbB G k (s : Int)
def sidesL (G : Gd) (k : Nat) : List Nat := sidesTo G k 4
theorem sidesTo_yes {G : Gd} {k n : Nat} (h : nbB G k (n : Int) = true) : sidesTo G k (n + 1) = sidesTo G k n ++ [n] := by
  unfold sidesTo
  rw [List.range_succ, List.filter_append, List.filter_cons, if_pos h, List.filter_nil]
theorem sidesTo_no {G : Gd} {k n : Nat} (h : nbB G k (n : Int) = false) : sidesTo G k (n + 1) = sidesTo G k n := by
  unfold sidesTo
  rw [List.range_succ, List.filter_append, List.filter_cons, if_neg (by rw [h]; decide), List.filter_nil, List.append_nil]
theorem sidesTo_len (G : Gd) (k n : Nat) : (sidesTo G k n).length ≤ n := by
  have := List.length_filter_le (fun s : Nat => nbB G k (s : Int)) (List.range n)
  simpa [sidesTo] using this
theorem mem_sidesL {G : Gd} {k s : Nat} : s ∈ sidesL G k ↔ s < 4 ∧ nbB G k (s : Int) = true := by simp [sidesL, sidesTo]
theorem sidesTo_pre (G : Gd) (k n : Nat) (h : n ≤ 4) : sidesTo G k n <+: sidesL G k := by
  unfold sidesL sidesTo
  refine List.IsPrefix.filter _ ?_
  refine ⟨List.range' n (4 - n), ?_⟩
  rw [List.range_eq_range', List.range_eq_range']
  have := @List.range'_append 0 n (4 - n) 1
  rw [Nat.one_mul, Nat.zero_add] at this
  rw [this]
  congr 1
  omega

/-- A side on which there is a cell. -/
abbrev SideAt (G : Gd) (k : Nat) := { s : Nat // s ∈ sidesL G k }
/-- The cell's number is handed. -/
def encN (G : Gd) (k : Nat) (x : SideAt G k) : Array Value := #[Value.int .i64 (nbN k (x.1 : Int) : Int)]
def sds {G : Gd} {k : Nat} (xs : List (SideAt G k)) : List Nat := xs.map (·.1)
theorem sds_snoc {G : Gd} {k : Nat} (xs : List (SideAt G k)) (x : SideAt G k) : sds (xs ++ [x]) = sds xs ++ [x.1] := by simp [sds]

/-- What lay below n₀ lies on, and so do two cells. -/
structure KN (n₀ B1 B2 : Nat) (A B : World) : Prop where
  below : Below n₀ A B
  c1 : ∀ v, A.cell? ⟨B1, 0, none⟩ = some v → B.cell? ⟨B1, 0, none⟩ = some v
  c2 : ∀ v, A.cell? ⟨B2, 0, none⟩ = some v → B.cell? ⟨B2, 0, none⟩ = some v
theorem KN.refl (n₀ B1 B2 : Nat) (A : World) : KN n₀ B1 B2 A A := ⟨Below.refl _ _, fun _ h => h, fun _ h => h⟩
theorem KN.trans {n₀ B1 B2 : Nat} {A B C : World} (h : KN n₀ B1 B2 A B) (k : KN n₀ B1 B2 B C) : KN n₀ B1 B2 A C :=
  ⟨h.below.trans k.below, fun v hv => k.c1 v (h.c1 v hv), fun v hv => k.c2 v (h.c2 v hv)⟩
theorem KN.of_below {n₀ B1 B2 : Nat} {A B : World} (hle : n₀ ≤ A.heap.size) (h : Below A.heap.size A B) : KN n₀ B1 B2 A B :=
  ⟨h.mono hle, fun _ hv => (h.cell (World.block_lt_of_cell? A _ hv)).trans hv, fun _ hv => (h.cell (World.block_lt_of_cell? A _ hv)).trans hv⟩
theorem KN.setCell {n₀ B1 B2 : Nat} {A : World} {p : Addr} {v : Value} (h : n₀ ≤ p.block) (h1 : p.block ≠ B1) (h2 : p.block ≠ B2) : KN n₀ B1 B2 A (A.setCell p v) :=
  ⟨(Below.refl _ _).setCell h _, fun _ hv => (cell_other (fun e => h1 (by rw [e]))).trans hv, fun _ hv => (cell_other (fun e => h2 (by rw [e]))).trans hv⟩
theorem KN.grown {n₀ B1 B2 : Nat} {w A B : World} {row : Option Nat} (h : KN n₀ B1 B2 w A) (hle : n₀ ≤ A.heap.size) (hg : A.grownBy B row) (hr : ∀ r, row = some r → n₀ ≤ r ∧ ∃ o : Obj, A.heap[r]? = some o ∧ o.isCells = false) : KN n₀ B1 B2 w B :=
  ⟨h.below.grown hg hle (fun r e => (hr r e).1), fun v hv => cell_kept (h.c1 v hv) hg (fun r e => (hr r e).2), fun v hv => cell_kept (h.c2 v hv) hg (fun r e => (hr r e).2)⟩
theorem KN.book {n₀ B1 B2 : Nat} {w : World} (hn : n₀ ≤ w.heap.size) (W : World) (l : Nat) (o o' : Obj) (hl : w.heap.size ≤ l) (h : W.heap[l]? = some o) (hc : o.isCells = false) (_ : o.isWalk = false) : KN n₀ B1 B2 W (W.putObj l o') :=
  (KN.refl _ _ _ W).grown (by have := (Array.getElem?_eq_some_iff.1 h).1; omega) (grownBy_putObj' W l o') (fun r e => by cases e; exact ⟨by omega, o, h, hc⟩)
theorem grown_of_below {A B : World} (h : Below A.heap.size A B) : A.grownBy B none := ⟨h.os, h.tape, h.output, h.size, fun k hk _ => h.block k hk⟩
theorem CK.of_below {A B : World} (h : Below A.heap.size A B) : CK A B := CK.of_grown (grown_of_below h) (fun _ e => by cases e)

set_option maxRecDepth 100000 in
set_option maxHeartbeats 1000000 in
/-- The iterator, FOR EVERY LOOP BODY THAT KEEPS WHAT LAY BELOW n₀, and the two captured cells. -/
theorem nbs1_in (G : Gd) (k : Nat) (hk : k < 64) (hv : validB G = true) (hG : GdOk G) (l p B1 B2 n₀ n : Nat) (hn : 1 ≤ n) (hp0 : p < n₀) (J Jx : List (SideAt G k) → World → Prop)
    (hJ : ∀ s A B, n₀ ≤ A.heap.size → J s A → Below A.heap.size A B → J s B)
    (hY : ∀ pre x W, J pre W → pre.length < 4 → YieldAt Fence.wide (n - 1) Tryd.prog l (encN G k x) W fun e W' =>
      (e = .returned (.bool true) ∧ J (pre ++ [x]) W' ∧ KN n₀ B1 B2 W W') ∨ (e = .returned (.bool false) ∧ Jx (pre ++ [x]) W'))
    (W : World) (h1 : W.cell? ⟨B1, 0, none⟩ = some (.pointer (some ⟨p, 0, none⟩))) (h2 : W.cell? ⟨B2, 0, none⟩ = some (.int .i64 k)) (hp : GrdAt W p 0 G) (hle : n₀ ≤ W.heap.size) (h0 : J [] W) :
    CallsIn Fence.wide n Tryd.prog 63 #[.func (.yield l) #[] #[], .pointer (some ⟨B1, 0, none⟩), .pointer (some ⟨B2, 0, none⟩)] W fun e W' => (∃ v, e = .returned v) ∧
      ((∃ ys, sds ys = sidesL G k ∧ J ys W') ∨ (∃ pre, sds pre <+: sidesL G k ∧ Jx pre W')) := by
  have HV := Lib.hid hv
  have HG := Lib.hid hG
  clear hv hG
  refine callsIn_of_wp Tryd.func63 rfl trivial ?_ rfl
  simp only [Tryd.ntmps63, List.size_toArray, List.length_cons, List.length_nil, Nat.reduceAdd, Nat.reduceSub, Array.replicate_succ, Array.replicate_zero, List.push_toArray, List.append_toArray, List.nil_append, List.cons_append]
  gi_wp2
  gi_loopw [4] (fun q wr => ∃ (pre : List (SideAt G k)) (s : Nat), q = .int .i64 s ∧ s ≤ 4 ∧ Hid (sds pre = sidesTo G k s ∧ J pre wr ∧ KN n₀ B1 B2 W wr))
    (fun q wr => 4 - (intOf q).toNat)
  case atStart =>
    exact ⟨[], 0, rfl, by omega, by simp [sds, sidesTo], h0, KN.refl _ _ _ _⟩
  case round =>
    obtain ⟨pre, s, rfl, hs4, hx⟩ := hrel
    have c1 : wr.cell? ⟨B1, 0, none⟩ = some (.pointer (some ⟨p, 0, none⟩)) := hx.out.2.2.c1 _ h1
    have c2 : wr.cell? ⟨B2, 0, none⟩ = some (.int .i64 k) := hx.out.2.2.c2 _ h2
    have gp := Lib.hid (hp.below hx.out.2.2.below hp0)
    have hz : n₀ ≤ wr.heap.size := Nat.le_trans hle hx.out.2.2.below.size
    have hpw : p < wr.heap.size := by omega
    by_cases hlt : s < 4
    · have hside : sideB (s : Int) = true := by simp [sideB]; omega
      cases hnb : nbB G k (s : Int)
      · have N1 := Lib.hid (show IB (if nbB G k (s : Int) = true then nb k s else 0) (nbB G k (s : Int)) = IB 0 false by rw [hnb]; rfl)
        have E := Lib.hid (sidesTo_no hnb)
        clear hnb
        gi_wp2_with (first | (refine ⟨trivial, ?_⟩; gi_at_call 64; have hc := (callsIn_wide (n := n - 1)).2 (beside_any G k hk s hside HV.out p wr gp.out hpw HG.out); rw [N1.out] at hc; refine hc.mono ?_; clear hc; rintro e w2 ⟨rfl, hb2⟩; unfold IB))
        refine ⟨fun _ h => (by cases h), ?_⟩
        gi_wp2
        go_roundw
        case rel => exact ⟨pre, s + 1, by go_num, by omega, hx.out.1.trans E.out.symm, hJ _ _ _ hz hx.out.2.1 hb2, hx.out.2.2.trans (KN.of_below hz hb2)⟩
        case measure => simp [intOf]; omega
      · obtain ⟨hj1, hj⟩ := nbN_is HV.out hnb
        have hmem : s ∈ sidesL G k := mem_sidesL.2 ⟨hlt, hnb⟩
        have N1 := Lib.hid (show IB (if nbB G k (s : Int) = true then nb k s else 0) (nbB G k (s : Int)) = IB (nbN k (s : Int) : Int) true by rw [hnb, if_pos rfl, hj1])
        have E := Lib.hid (sidesTo_yes hnb)
        have hlen : pre.length < 4 := by
          have e1 := congrArg List.length hx.out.1
          have e2 := sidesTo_len G k s
          simp [sds] at e1
          omega
        have HJ1 := Lib.hid hj1
        clear hnb hj1
        gi_wp2_with (first | (refine ⟨trivial, ?_⟩; gi_at_call 64; have hc := (callsIn_wide (n := n - 1)).2 (beside_any G k hk s hside HV.out p wr gp.out hpw HG.out); rw [N1.out] at hc; refine hc.mono ?_; clear hc; rintro e w2 ⟨rfl, hb2⟩; unfold IB; obtain ⟨fn, tmps, assign, body, hy, hR⟩ := hY pre ⟨s, hmem⟩ w2 (hJ _ _ _ hz hx.out.2.1 hb2) hlen; dsimp only [encN] at hy; have HB2 := Lib.hid hb2; clear hb2))
        refine hR.mono ?_
        rintro e W3 (⟨rfl, hJ3, hk3⟩ | ⟨rfl, hJx3⟩)
        · have H3 := Lib.hid hJ3
          have K3 := Lib.hid hk3
          clear hJ3 hk3
          gi_wp2
          go_roundw
          case rel => exact ⟨pre ++ [⟨s, hmem⟩], s + 1, by go_num, by omega, by rw [sds_snoc, hx.out.1, E.out], H3.out, (hx.out.2.2.trans (KN.of_below hz HB2.out)).trans K3.out⟩
          case measure => simp [intOf]; omega
        · have H3 := Lib.hid hJx3
          clear hJx3
          gi_wp2
          refine bodyPost_ret (results_none rfl _ _ _) rfl ?_
          refine ⟨⟨_, rfl⟩, .inr ⟨pre ++ [⟨s, hmem⟩], ?_, H3.out⟩⟩
          rw [sds_snoc, hx.out.1, ← E.out]
          exact sidesTo_pre G k (s + 1) (by omega)
    · obtain rfl : s = 4 := by omega
      gi_wp2
      go_end0
      exact ⟨⟨_, rfl⟩, .inl ⟨pre, hx.out.1, hx.out.2.1⟩⟩

theorem nbs_stops (G : Gd) (k : Nat) (hk : k < 64) (hv : validB G = true) (hG : GdOk G) (p B1 B2 n₀ n : Nat) (hn : 1 ≤ n) (hp0 : p < n₀) (w : World) (h1 : w.cell? ⟨B1, 0, none⟩ = some (.pointer (some ⟨p, 0, none⟩))) (h2 : w.cell? ⟨B2, 0, none⟩ = some (.int .i64 k)) (hp : GrdAt w p 0 G) (hle : n₀ ≤ w.heap.size) :
    SeqStopsK Fence.wide n Tryd.prog 63 #[.pointer (some ⟨B1, 0, none⟩), .pointer (some ⟨B2, 0, none⟩)] (encN G k) (KN n₀ B1 B2) (fun xs => sds xs = sidesL G k) (fun pre => sds pre <+: sidesL G k) 4 w := fun l J Jx W hW hJ _ hY h0 =>
  nbs1_in G k hk hv hG l p B1 B2 n₀ n hn hp0 J Jx (fun s A B _ hs hb => hJ s A B none hs (grown_of_below hb) (fun _ e => by cases e)) hY W ((hW.cell (World.block_lt_of_cell? w _ h1)).trans h1) ((hW.cell (World.block_lt_of_cell? w _ h2)).trans h2) (hp.below hW (by omega)) (Nat.le_trans hle hW.size) h0

/-- A range over the neighbours of a cell, for every loop body. -/
theorem wp_nbs (G : Gd) (k : Nat) (hk : k < 64) (hv : validB G = true) (hG : GdOk G) {assign body : Code} {Q : Exit → Act → World → Prop} {T : Array Value} {df : List Deferred} {w : World} (gs ps vs B1 B2 n₀ p : Nat) (hp0 : p < n₀)
    (hg : (Act.eval { tmps := T, defers := df } (.tmp gs)) = .func (.func 63) #[] #[.pointer (some ⟨B1, 0, none⟩), .pointer (some ⟨B2, 0, none⟩)])
    (h1 : w.cell? ⟨B1, 0, none⟩ = some (.pointer (some ⟨p, 0, none⟩))) (h2 : w.cell? ⟨B2, 0, none⟩ = some (.int .i64 k)) (hp : GrdAt w p 0 G) (hle : n₀ ≤ w.heap.size)
    (I : List Nat → World → Prop) (Ix : Code → List Nat → World → Prop) (hI : ∀ s A B, CK A B → I s A → I s B) (hIx : ∀ c s A B, CK A B → Ix c s A → Ix c s B) (h0 : I [] w)
    (hassign : ∀ (l : Nat) (x : Nat) (W : World) (K : Act → World → Prop), K { tmps := (T.setIfInBounds ps (.int .i64 x)).setIfInBounds vs (.int .i64 x), defers := [] } W →
      assign.wpIn (Fence.wide.inRound l) 4 Tryd.prog (Exit.then K (fun _ _ _ => False)) { tmps := T.setIfInBounds ps (.int .i64 x), defers := [] } W)
    (hbody : ∀ (l : Nat) (pre : List (SideAt G k)) (x : SideAt G k) (W : World), I (sds pre) W → KN n₀ B1 B2 w W → x.1 < 4 → nbB G k (x.1 : Int) = true → nbN k (x.1 : Int) < 64 →
      body.wpIn (Fence.wide.inRound l) 4 Tryd.prog (ownPostK (KN n₀ B1 B2) (fun p W => I (sds p) W ∧ KN n₀ B1 B2 w W) (fun c p W => Ix c (sds p) W ∧ KN n₀ B1 B2 w W) (pre ++ [x]) W) { tmps := (T.setIfInBounds ps (.int .i64 (nbN k (x.1 : Int) : Int))).setIfInBounds vs (.int .i64 (nbN k (x.1 : Int) : Int)), defers := [] } W)
    (hdone : ∀ (D : Nat) (W : World), w.heap.size ≤ D → I (sidesL G k) W → KN n₀ B1 B2 w W → W.heap[D]? = some (.deferred (some [])) → Q .normal { tmps := T, defers := { target := .collected D, args := #[] } :: df } W)
    (hstop : ∀ (D : Nat) (c : Code) (pre : List Nat) (W : World), w.heap.size ≤ D → pre <+: sidesL G k → Ix c pre W → KN n₀ B1 B2 w W → W.heap[D]? = some (.deferred (some [])) → c.wpIn Fence.wide 6 Tryd.prog Q { tmps := T, defers := { target := .collected D, args := #[] } :: df } W) :
    (Code.rangeFunc (.tmp gs) #[ps] assign body).wpIn Fence.wide 6 Tryd.prog Q { tmps := T, defers := df } w := by
  have hown : OwnFrom w.heap.size (fun (_ : List (SideAt G k)) W => KN n₀ B1 B2 w W) := fun s A B row hs hg hr =>
    hs.grown (Nat.le_trans hle hs.below.size) hg (fun r e => ⟨Nat.le_trans hle (hr r e).1, (hr r e).2⟩)
  refine wpIn_rangeFunc_ownF rfl (by omega) (gf := 63) (lb := #[.pointer (some ⟨B1, 0, none⟩), .pointer (some ⟨B2, 0, none⟩)]) hg trivial (enters_of Tryd.func63 (by kernel_rfl) rfl)
    (nbs_stops G k hk hv hG p B1 B2 n₀ 5 (by omega) hp0 w h1 h2 hp hle) (fun h k => h.trans k) (KN.book hle) (Below.refl _ _) (fun _ => rfl)
    (fun p W => I (sds p) W ∧ KN n₀ B1 B2 w W) (fun c p W => Ix c (sds p) W ∧ KN n₀ B1 B2 w W)
    (OwnFrom.and (Own.from (I := fun (p : List (SideAt G k)) W => I (sds p) W) (fun s A B row hs hg hr => hI _ _ _ (CK.of_grown hg hr) hs) _) hown)
    (fun c => OwnFrom.and (Own.from (I := fun (p : List (SideAt G k)) W => Ix c (sds p) W) (fun s A B row hs hg hr => hIx c _ _ _ (CK.of_grown hg hr) hs) _) hown)
    ⟨h0, KN.refl _ _ _ _⟩ (fun x => { tmps := (T.setIfInBounds ps (.int .i64 (nbN k (x.1 : Int) : Int))).setIfInBounds vs (.int .i64 (nbN k (x.1 : Int) : Int)), defers := [] })
    (fun l x W K hK => by have := hassign l (nbN k (x.1 : Int)) W K hK; simpa [encN] using this)
    (fun l pre x W h _ => hbody l pre x W h.1 h.2 (mem_sidesL.1 x.2).1 (mem_sidesL.1 x.2).2 (nbN_is hv (mem_sidesL.1 x.2).2).2)
    (fun D ys W hD hys h hK => hdone D W hD (by have h1 := h.1; rwa [show sds ys = sidesL G k from hys] at h1) h.2 hK)
    (fun D c pre W hD hp h hK => hstop D c _ W hD hp h.1 h.2 hK)

theorem neighbours_any (p k : Nat) (w : World) :
    Calls Tryd.prog 60 #[.pointer (some ⟨p, 0, none⟩), .int .i64 k] w fun e w' => e = .returned (.func (.func 63) #[] #[.pointer (some ⟨w.heap.size, 0, none⟩), .pointer (some ⟨w.heap.size + 1, 0, none⟩)]) ∧ w' = (w.alloc (.cells #[.pointer (some ⟨p, 0, none⟩)] 37)).alloc (.cells #[.int .i64 k] 2) := by
  go_enter Tryd.func60, Tryd.ntmps60
  go_wp2
  go_ret
  simp
end

section
open Go.RowKit
set_option linter.unusedSimpArgs false
set_option linter.unusedVariables false

/-- What FlowFrom says. -/
def flowV (G : Gd) (c s : Int) : Value := if sidedN G c s = 0 then finV (flowS G c.toNat s) else FI 0 (sidedN G c s)
theorem finV_is (o : Option Nat) : ∃ (b : Nat) (n : Int), finV o = FI b n := by
  unfold finV
  cases o with
  | none => exact ⟨_, _, rfl⟩
  | some b => dsimp only; split <;> exact ⟨_, _, rfl⟩
theorem flowV_is (G : Gd) (c s : Int) : ∃ (b : Nat) (n : Int), flowV G c s = .tuple #[.float .f32 b, .int .i64 n] := by
  unfold flowV
  split
  · exact finV_is _
  · exact ⟨_, _, rfl⟩
theorem finV_yes {r : Nat} {o : Option Nat} (h : num .f32 r = o) (hf : finB r = true) : FI r 0 = finV o := by rw [← finV_num h, if_pos hf]
theorem finV_no {r : Nat} {o : Option Nat} (h : num .f32 r = o) (hf : finB r = false) : FI 0 4 = finV o := by rw [← finV_num h, hf]; rfl
theorem l01Finite_is (b : Nat) (r : Bool) (h : finB b = r) (w : World) : Calls Tryd.prog 29 #[.float .f32 b] w fun e w' => e = .returned (.bool r) ∧ Quiet w w' := by
  subst h
  exact l01Finite_any b w
end

section
open Go.RowKit Go.Shelf
attribute [local go_sem] Oper.semAt_some run_store_float
set_option linter.unusedSimpArgs false
set_option linter.unusedVariables false

/-- The balance over the first sides. -/
def balTo (G : Gd) (k : Nat) : Nat → Option Nat
  | 0 => num .f32 (G.g k)
  | n + 1 => if nbB G k (n : Int) = true then fop .f32 .sub (balTo G k n) (flowO G k (nbN k (n : Int))) else balTo G k n
def balO (G : Gd) (k : Nat) : Option Nat := balTo G k 4
theorem balTo_ex (G : Gd) (k n : Nat) : ∃ r, num .f32 r = balTo G k n := by
  induction n with
  | zero => exact num_ex _ _
  | succ n ih =>
    unfold balTo
    split
    · exact fop_ex _ _ rfl _ _ ih (flowO_ex _ _ _)
    · exact ih
theorem balO_ex (G : Gd) (k : Nat) : ∃ r, num .f32 r = balO G k := balTo_ex _ _ _
/-- The same over a list of sides. -/
def balL (G : Gd) (k : Nat) (l : List Nat) : Option Nat := l.foldl (fun o (s : Nat) => fop .f32 .sub o (flowO G k (nbN k (s : Int)))) (num .f32 (G.g k))
theorem balL_snoc (G : Gd) (k : Nat) (l : List Nat) (s : Nat) : balL G k (l ++ [s]) = fop .f32 .sub (balL G k l) (flowO G k (nbN k (s : Int))) := by simp [balL]
theorem balL_sides (G : Gd) (k n : Nat) : balL G k (sidesTo G k n) = balTo G k n := by
  induction n with
  | zero => rfl
  | succ n ih =>
    cases h : nbB G k (n : Int)
    · rw [sidesTo_no h, ih]; simp [balTo, h]
    · rw [sidesTo_yes h, balL_snoc, ih]; simp [balTo, h]
/-- A number that is told, up to which NaN it is; what was there is as it was. -/
def GivesB (o : Option Nat) (w : World) (e : Ending) (w' : World) : Prop := ∃ r, e = .returned (.float .f32 r) ∧ num .f32 r = o ∧ Below w.heap.size w w'

set_option maxRecDepth 100000 in
set_option maxHeartbeats 1000000 in
theorem l01Balance_any (G : Gd) (k : Nat) (hk : k < 64) (hv : validB G = true) (p : Nat) (w : World) (hp : GrdAt w p 0 G) (hG : GdOk G) :
    Calls Tryd.prog 28 #[.pointer (some ⟨p, 0, none⟩), .int .i64 k] w (GivesN (balO G k) w) := by
  have hc := hp.g
  rw [Nat.zero_add] at hc
  have c0 := Grd_fld hc k hk
  have Hp := Lib.hid hp
  have HG := Lib.hid hG
  clear hp hG hc
  go_enter Tryd.func28, Tryd.ntmps28
  go_wp2
  go_loopw [5, 6] (fun s i wr => ∃ n b : Nat, n ≤ 4 ∧ i = .int .i64 n ∧ s = .float .f32 b ∧ Hid (num .f32 b = balTo G k n) ∧ Hid (Quiet w wr)) (fun _ i _ => 4 - (intOf i).toNat)
  case atStart => exact ⟨0, G.g k, by omega, rfl, rfl, rfl, Quiet.refl _⟩
  case round =>
    obtain ⟨n, b, hn, rfl, rfl, hb, hQ⟩ := hrel
    by_cases hlt : n < 4
    · have hside : sideB (n : Int) = true := by simp [sideB]; omega
      cases hi : nbB G k (n : Int)
      · have Hb := Lib.hid (show besideN G k (n : Int) = -1 by simp [besideN, hi])
        have E := Lib.hid (show balTo G k (n + 1) = balTo G k n by simp [balTo, hi])
        clear hi
        go_wp2_with (go_at_call 37; have hc := l01Beside_any G k hk n hside _ _ (Quiet.grd hQ.out Hp.out) HG.out; rw [Hb.out] at hc; refine hc.mono ?_; clear hc; rintro e w' ⟨rfl, rfl⟩)
        go_roundw
        case rel => exact ⟨n + 1, b, by omega, by go_num, rfl, hb.out.trans E.out.symm, hQ.out⟩
        case measure => simp [intOf]; omega
      · obtain ⟨hj1, hj⟩ := nbN_is hv hi
        have Hb := Lib.hid (show besideN G k (n : Int) = (nbN k (n : Int) : Int) by simp [besideN, hi, hj1])
        have E := Lib.hid (show balTo G k (n + 1) = fop .f32 .sub (balTo G k n) (flowO G k (nbN k (n : Int))) by simp [balTo, hi])
        have HF := Lib.hid (show flowS G k n = flowO G k (nbN k (n : Int)) by simp [flowS, hi])
        clear hi hj1
        go_wp2_with (first | (go_at_call 37; have hc := l01Beside_any G k hk n hside _ _ (Quiet.grd hQ.out Hp.out) HG.out; rw [Hb.out] at hc; refine hc.mono ?_; clear hc; rintro e w' ⟨rfl, rfl⟩) | (go_at_call 38; refine (l01Flow_any G k hk hv n hside _ _ (Quiet.grd hQ.out Hp.out) HG.out).mono ?_; rintro e w1 ⟨q, rfl, hq, hQ1⟩; have HQ := Lib.hid hq; have HQ1 := Lib.hid hQ1; clear hq hQ1) | (refine wpList_float rfl _ _ _ _ _ rfl rfl .f32 _ _ rfl rfl ?_; intro r nn hr; have HR := Lib.hid hr; clear hr))
        go_roundw
        case rel => exact ⟨n + 1, r, by omega, by go_num, rfl, (HR.out.trans (by rw [E.out, hb.out, HQ.out, HF.out])), (hQ.out.trans HQ1.out).drewN nn⟩
        case measure => simp [intOf]; omega
    · obtain rfl : n = 4 := by omega
      go_wp2
      go_ret
      exact ⟨b, rfl, hb.out, hQ.out⟩

set_option maxRecDepth 100000 in
set_option maxHeartbeats 4000000 in
theorem implBalance_any (G : Gd) (k : Nat) (hk : k < 64) (hv : validB G = true) (p : Nat) (w : World) (hp : GrdAt w p 0 G) (hpl : p < w.heap.size) (hG : GdOk G) :
    Calls Tryd.prog 56 #[.pointer (some ⟨p, 0, none⟩), .int .i64 k] w (GivesB (balO G k) w) := by
  refine (callsIn_wide (n := 6)).1 (callsIn_of_wp_marks Tryd.func56 rfl trivial ?_ rfl)
  simp only [Tryd.ntmps56, List.size_toArray, List.length_cons, List.length_nil, Nat.reduceAdd, Nat.reduceSub, Array.replicate_succ, Array.replicate_zero, List.push_toArray, List.append_toArray, List.nil_append, List.cons_append]
  refine wpIn_wide.2 ?_
  go_upto_region 1 with (fail)
  obtain ⟨W, hW, hz, r1, r2, hB⟩ := two_boxes #[.pointer (some ⟨p, 0, none⟩)] #[.int .i64 k] 37 2 w
  rw [hW]
  clear hW
  have c2 := r1 0 _ rfl
  have c3 := r2 0 _ rfl
  rw [Nat.zero_add] at c2 c3
  have gp := hp.below hB hpl
  have hc := gp.g
  rw [Nat.zero_add] at hc
  have c0 := Grd_fld hc k hk
  have HB := Lib.hid hB
  have GP := Lib.hid gp
  have HV := Lib.hid hv
  have HG := Lib.hid hG
  clear hp hG hc r1 r2 hB gp hv
  have hk2 : (k : Int) < 64 := by omega
  have hpW : p < W.heap.size := by omega
  have e0 := fun x t => (Below.refl W.heap.size W).alloc (Nat.le_refl _) (.cells x t)
  have c1 : ∀ x t, (W.alloc (.cells x t)).cell? ⟨p, 66 + k, none⟩ = some (.float .f32 (G.g k)) := fun x t => ((e0 x t).cell (p := ⟨p, 66 + k, none⟩) hpW).trans c0
  clear e0
  go_region
  clear c1
  obtain ⟨V, hV⟩ : ∃ V, (W.alloc (.cells #[.float .f32 (G.g k)] 23)).drew = V := ⟨_, rfl⟩
  have hbV : Below W.heap.size W V := by rw [← hV]; exact ((Below.refl _ _).alloc (Nat.le_refl _) _).drew
  have zV : V.heap.size = W.heap.size + 1 := by rw [← hV]; exact World.size_alloc _ _
  have cS : V.cell? ⟨W.heap.size, 0, none⟩ = some (.float .f32 (G.g k)) := by rw [← hV]; exact cell_of_row _ _ 0 _ _ _ (heap_alloc_last W _)
  have fS : V.frozen? ⟨W.heap.size, 0, none⟩ = false := by rw [← hV]; have := (there_row (n := 1) (heap_alloc_last W (.cells #[.float .f32 (G.g k)] 23)) rfl 0 (by omega)).2; rwa [Nat.zero_add] at this
  rw [hV]
  clear hV
  have v2 := kc c2 (by omega) _ hbV
  have v3 := kc c3 (by omega) _ hbV
  have GV := Lib.hid (GP.out.below hbV (by omega))
  clear c0 c2 c3 GP
  go_wp2_with (go_at_call 60; refine (neighbours_any p k _).mono ?_; rintro e w' ⟨rfl, rfl⟩)
  obtain ⟨X, hX, zX, q1, q2, hbX⟩ := two_boxes #[.pointer (some ⟨p, 0, none⟩)] #[.int .i64 k] 37 2 V
  rw [hX]
  clear hX
  have b1 := q1 0 _ rfl
  have b2 := q2 0 _ rfl
  rw [Nat.zero_add, zV] at b1 b2
  have x2 := kc v2 (by omega) _ hbX
  have x3 := kc v3 (by omega) _ hbX
  have xS := kc cS (by omega) _ hbX
  have xF : X.frozen? ⟨W.heap.size, 0, none⟩ = false := (hbX.frozen (p := ⟨W.heap.size, 0, none⟩) (by simp; omega)).trans fS
  have GX := Lib.hid (GV.out.below hbX (by omega))
  have HBX := Lib.hid ((HB.out.trans (hbV.mono (by omega))).trans (hbX.mono (by omega)))
  clear v2 v3 cS fS GV HB q1 q2 hbV hbX
  rw [show w.heap.size + 1 + 1 = W.heap.size from hz.symm]
  refine (wpIn_wide (n := 6)).1 (wp_nbs G k hk HV.out HG.out 15 16 6 (W.heap.size + 1) (W.heap.size + 1 + 1) W.heap.size p hpW rfl b1 b2 GX.out (by omega)
    (fun pre W2 => ∃ b, W2.cell? ⟨W.heap.size, 0, none⟩ = some (.float .f32 b) ∧ W2.frozen? ⟨W.heap.size, 0, none⟩ = false ∧ num .f32 b = balL G k pre)
    (fun _ _ _ => False)
    (fun s A B h ⟨b, h1, h2, h3⟩ => ⟨b, h.cell h1, (h.frozen h1).trans h2, h3⟩) (fun _ _ _ _ _ h => h) ⟨G.g k, xS, xF, rfl⟩ ?assign ?body ?done ?stop)
  case assign =>
    intro l x W K hK
    simp only [List.setIfInBounds_toArray, List.set_cons_zero, List.set_cons_succ] at hK ⊢
    gi_wp2
    exact hK
  case body =>
    rintro l pre x W2 ⟨b, h1, h2, h3⟩ hB2 _ _ hj
    simp only [List.setIfInBounds_toArray, List.set_cons_zero, List.set_cons_succ]
    generalize hjj : nbN k (x.1 : Int) = j at hj ⊢
    have c2 := kc x2 (by omega) _ hB2.below
    have c3 := kc x3 (by omega) _ hB2.below
    have gp := GX.out.below hB2.below hpW
    refine wpIn_block ?_
    refine wpIn_region_calm (ops' := regOf Tryd.f56 4) [0, 1, 2, 3, 4, 5] [6] (.run 6 .fin) (Quiet W2) [(0, One (.float .f32 b)), (1, One (.pointer (some ⟨p, 0, none⟩))), (2, One (.int .i64 (k : Int))), (3, One (.int .i64 (j : Int))), (4, Numv .f32 (flowO G k j)), (5, Numv .f32 (fop .f32 .sub (balL G k (sds pre)) (flowO G k j)))] (by kernel_rfl) (by kernel_rfl) (by kernel_rfl) (by kernel_rfl) (by kernel_rfl) (by kernel_rfl) (by kernel_rfl) (by kernel_rfl) (by kernel_rfl) rfl ((Quiet.refl _).drewN 1) ?_
    refine calm_read (some 17) (by kernel_rfl) (by kernel_rfl) (by kernel_rfl) (fun w' hw' => load_cell (ty := 23) (x := .tmp 5) (b := W.heap.size) (o := 0) (by kernel_rfl) (by kernel_rfl) Tryd.underlying23 rfl (kq h1 w' hw')) ?_
    refine calm_read (some 18) (by kernel_rfl) (by kernel_rfl) (by kernel_rfl) (fun w' hw' => load_cell (ty := 37) (x := .tmp 2) (b := w.heap.size) (o := 0) (by kernel_rfl) (by kernel_rfl) Tryd.underlying37 rfl (kq c2 w' hw')) ?_
    refine calm_read (some 19) (by kernel_rfl) (by kernel_rfl) (by kernel_rfl) (fun w' hw' => load_cell (ty := 2) (x := .tmp 3) (b := (w.heap.size + 1)) (o := 0) (by kernel_rfl) (by kernel_rfl) Tryd.underlying2 rfl (kq c3 w' hw')) ?_
    refine calm_pure (some 20) (by kernel_rfl) (by kernel_rfl) (by kernel_rfl) (fun _ => by kernel_rfl) ?_
    refine calm_call (some 21) 61 #[.pointer (some ⟨p, 0, none⟩), .int .i64 (k : Int), .int .i64 (j : Int)] (numv_ne (flowO_ex G k j)) (by kernel_rfl) (by kernel_rfl) (by kernel_rfl) (fun _ => by kernel_rfl) (fun w' hw' => (implFlow_any G k j hk hj p w' (hw'.grd gp)).mono fun e w2 ⟨r, he, hr, hq⟩ => ⟨_, he, ⟨r, rfl, hr⟩, hw'.trans hq⟩) ?_
    rintro _ ⟨q, rfl, hq⟩
    refine calm_float (some 22) .f32 .sub 23 23 (.tmp 17) (.tmp 21) (b) (q) (by kernel_rfl) (by kernel_rfl) (by kernel_rfl) (by kernel_rfl) rfl (by kernel_rfl) (by kernel_rfl) (fun _ n h => h.drewN n) (fop_eq h3 hq) ?_
    intro r22 hr22
    refine calm_end fun w' hw' => plan_do none undef (w'.setCell ⟨W.heap.size, 0, none⟩ (.float .f32 r22)) (by kernel_rfl) (by kernel_rfl) (by kernel_rfl) (.inr ⟨store_f32 (x := .tmp 5) (y := .tmp 22) (by kernel_rfl) (by kernel_rfl) (by kernel_rfl) infoF32 (kq h1 w' hw') (by obtain ⟨n, rfl⟩ := hw'; exact h2), rfl⟩) trivial (plan_end (Clean.normal ?_))
    have k1 : KeepsOthers W2 (w'.setCell ⟨W.heap.size, 0, none⟩ (.float .f32 r22)) := KeepsOthers.trans (B := w') (KeepsOthers.of_below' (hw'.below _)) (KeepsOthers.setCell _ _ _)
    have k2 : KN W.heap.size (W.heap.size + 1) (W.heap.size + 1 + 1) W2 (w'.setCell ⟨W.heap.size, 0, none⟩ (.float .f32 r22)) := (KN.of_below (by have := hB2.below.size; omega) (hw'.below _)).trans (KN.setCell (Nat.le_refl _) (by show W.heap.size ≠ _; omega) (by show W.heap.size ≠ _; omega))
    refine ⟨k1, k2, ⟨r22, World.cell?_setCell_same' _ _ _ (by rw [kq h1 w' hw']; rfl), ?_, ?_⟩, hB2.trans k2⟩
    · rw [World.frozen?_setCell]; obtain ⟨n, rfl⟩ := hw'; exact h2
    · rw [sds_snoc, balL_snoc, hjj]; exact hr22
  case done =>
    rintro D W2 hD ⟨b, h1, h2, h3⟩ hB2 hK
    have HR := Lib.hid (h3.trans (balL_sides G k 4))
    have HB3 := Lib.hid (HBX.out.trans (hB2.below.mono (by omega)))
    have hwD : w.heap.size ≤ D := by omega
    clear h2 h3 x2 x3 xS xF b1 b2 hz zV zX hD
    go_wp2
    exact ret_marks hK (fun W' _ => by simp [results, Tryd.results56, go_sem] <;> rfl) (fun W' _ hb => ⟨b, rfl, HR.out, HB3.out.trans (hb _ hwD)⟩)
  case stop =>
    rintro D c pre W _ _ h _ _
    exact h.elim
end

section
open Go.RowKit Go.Shelf
attribute [local go_sem] Oper.semAt_some run_store_float
set_option linter.unusedSimpArgs false
set_option linter.unusedVariables false

theorem bit_rem (x k : Nat) : ((x : Int) / 2 ^ k % 2 == 1) = x.testBit k := by
  have e : (x : Int) / 2 ^ k = ((x / 2 ^ k : Nat) : Int) := by simp
  rw [e, Nat.testBit_eq_decide_div_mod_eq]
  have : x / 2 ^ k % 2 = 0 ∨ x / 2 ^ k % 2 = 1 := by omega
  rcases this with h | h
  · have h2 : ((x / 2 ^ k : Nat) : Int) % 2 = 0 := by omega
    rw [h2, h]; rfl
  · have h2 : ((x / 2 ^ k : Nat) : Int) % 2 = 1 := by omega
    rw [h2, h]; rfl

theorem l01Fixed_any (G : Gd) (k : Nat) (hk : k < 64) (p : Nat) (w : World) (hp : GrdAt w p 0 G) (hG : GdOk G) :
    Calls Tryd.prog 21 #[.pointer (some ⟨p, 0, none⟩), .int .i64 k] w fun e w' => e = .returned (.bool (G.x.toNat.testBit k)) ∧ w = w' := by
  have xx := hG.x'
  obtain ⟨x, hx⟩ : ∃ x : Nat, G.x = x := ⟨G.x.toNat, by omega⟩
  have hb := Lib.hid (bit_rem x k)
  have a0 := hp.x
  rw [Nat.zero_add, hx] at a0
  rw [hx, Int.toNat_natCast]
  clear hp hG
  go_enter Tryd.func21, Tryd.ntmps21
  go_wp2
  go_ret
  exact ⟨ret_bool hb.out, rfl⟩
theorem l01Fixed_is (G : Gd) (k : Nat) (hk : k < 64) (r : Bool) (h : G.x.toNat.testBit k = r) (p : Nat) (w : World) (hp : GrdAt w p 0 G) (hG : GdOk G) :
    Calls Tryd.prog 21 #[.pointer (some ⟨p, 0, none⟩), .int .i64 k] w fun e w' => e = .returned (.bool r) ∧ w = w' := by
  subst h
  exact l01Fixed_any G k hk p w hp hG
/-- The two sums over the first sides. -/
def hdTo (G : Gd) (k : Nat) : Nat → Option Nat × Option Nat
  | 0 => (num .f32 (G.g k), num .f32 0)
  | n + 1 => if nbB G k (n : Int) = true then (fop .f32 .add (hdTo G k n).1 (fop .f32 .mul (jointG G k (nbN k (n : Int))) (num .f32 (G.h (nbN k (n : Int))))), fop .f32 .add (hdTo G k n).2 (jointG G k (nbN k (n : Int)))) else hdTo G k n
/-- A number is 0 or -0. -/
def zeroO : Option Nat → Bool
  | some b => zeroB b
  | none => false
theorem zeroO_num {r : Nat} {o : Option Nat} (h : num .f32 r = o) : zeroB r = zeroO o := by
  subst h
  cases hn : nanK .f32 r
  · rw [num_some hn]; rfl
  · rw [num_none hn]
    have e : num .f32 r = num .f32 2143289344 := by rw [num_none hn]; decide +kernel
    unfold zeroB
    rw [order_num e (rfl : num .f32 0 = num .f32 0)]
    decide +kernel
/-- The settled head. -/
def headO (G : Gd) (k : Nat) : Option Nat := if G.x.toNat.testBit k = true then num .f32 (G.h k) else if zeroO (hdTo G k 4).2 = true then num .f32 (G.h k) else fop .f32 .quo (hdTo G k 4).1 (hdTo G k 4).2
theorem hdTo_ex (G : Gd) (k n : Nat) : (∃ r, num .f32 r = (hdTo G k n).1) ∧ (∃ r, num .f32 r = (hdTo G k n).2) := by
  induction n with
  | zero => exact ⟨num_ex _ _, num_ex .f32 0⟩
  | succ n ih =>
    unfold hdTo
    split
    · exact ⟨fop_ex _ _ rfl _ _ ih.1 (fop_ex _ _ rfl _ _ (jointG_ex _ _ _) (num_ex _ _)), fop_ex _ _ rfl _ _ ih.2 (jointG_ex _ _ _)⟩
    · exact ih
theorem headO_ex (G : Gd) (k : Nat) : ∃ r, num .f32 r = headO G k := by
  unfold headO
  split
  · exact num_ex _ _
  · split
    · exact num_ex _ _
    · exact fop_ex _ _ rfl _ _ (hdTo_ex G k 4).1 (hdTo_ex G k 4).2
/-- The same over a list of sides. -/
def hdL (G : Gd) (k : Nat) (l : List Nat) : Option Nat × Option Nat := l.foldl (fun o (s : Nat) => (fop .f32 .add o.1 (fop .f32 .mul (jointG G k (nbN k (s : Int))) (num .f32 (G.h (nbN k (s : Int))))), fop .f32 .add o.2 (jointG G k (nbN k (s : Int))))) (num .f32 (G.g k), num .f32 0)
theorem hdL_snoc (G : Gd) (k : Nat) (l : List Nat) (s : Nat) : hdL G k (l ++ [s]) = (fop .f32 .add (hdL G k l).1 (fop .f32 .mul (jointG G k (nbN k (s : Int))) (num .f32 (G.h (nbN k (s : Int))))), fop .f32 .add (hdL G k l).2 (jointG G k (nbN k (s : Int)))) := by simp [hdL]
theorem hdL_sides (G : Gd) (k n : Nat) : hdL G k (sidesTo G k n) = hdTo G k n := by
  induction n with
  | zero => rfl
  | succ n ih =>
    cases h : nbB G k (n : Int)
    · rw [sidesTo_no h, ih]; simp [hdTo, h]
    · rw [sidesTo_yes h, hdL_snoc, ih]; simp [hdTo, h]

theorem nbN_isE {G : Gd} {k : Nat} {s : Int} (hv : extB G = true) (h : nbB G k s = true) : nb k s = (nbN k s : Int) ∧ nbN k s < 64 := by
  simp only [extB, Bool.and_eq_true, decide_eq_true_eq] at hv
  simp only [nbB, holdB, Bool.and_eq_true, decide_eq_true_eq] at h
  obtain ⟨⟨v1, v2⟩, v3, v4⟩ := hv
  obtain ⟨h1, h2, h3, h4⟩ := h
  unfold nbN
  unfold nb
  omega
theorem ext_of_valid {G : Gd} (hv : validB G = true) : extB G = true := by
  simp only [validB, Bool.and_eq_true] at hv
  exact hv.1

end
section
open Go.RowKit Go.Shelf
attribute [local go_sem] Oper.semAt_some run_store_float
set_option linter.unusedSimpArgs false
set_option linter.unusedVariables false

theorem wpListIn_float {F : Fence} {n : Nat} {P : Program} {ops : Array Oper} {rest : List Oper} {o : Oper} {a : Act} {w : World} {Q : Exit → Act → World → Prop} (hg : o.guard = none) (op : BinOp) (t t' : TypeId) (x y : Operand)
    (ho : o.op = .binOp op t x y t') (hop : arith op = true) (k : FloatKind) (u v : Nat) (hx : a.eval x = .float k u) (hy : a.eval y = .float k v)
    (h : ∀ r m, num k r = fop k op (num k u) (num k v) → wpListIn F n P ops Q rest (a.put o.dst (.float k r)) (w.drewN m)) : wpListIn F n P ops Q (o :: rest) a w :=
  wpListIn_plain hg fun K hK => by
    obtain ⟨r, m, hr, hrun⟩ := run_float_any P w op hop t k u v
    have hq : (eqGuard op t x y (.float k u) (.float k v)).run P w = .ok () w := by
      cases op <;> first | (simp [arith] at hop; done) | simp [eqGuard]
    unfold Oper.wpIn
    refine ⟨fun f hf => (by simp [Oper.about, ho] at hf), ?_⟩
    rw [Oper.semAt_plain F _ _ (by rw [ho]; intro c hc'; cases hc')]
    unfold execOp
    simp only [ho, hx, hy]
    simp only [Sem.run_bind, hq, hrun, Result.andThen]
    exact hK _ _ (h r m hr)

/-- Two numbers, each in a cell of its own that has just been made. -/
theorem two_nums (x y : Value) (t : TypeId) (W : World) : ∃ V, ((W.alloc (.cells #[x] t)).alloc (.cells #[y] t)).drew = V ∧ V.heap.size = W.heap.size + 1 + 1 ∧ V.cell? ⟨W.heap.size, 0, none⟩ = some x ∧ V.frozen? ⟨W.heap.size, 0, none⟩ = false ∧ V.cell? ⟨W.heap.size + 1, 0, none⟩ = some y ∧ V.frozen? ⟨W.heap.size + 1, 0, none⟩ = false ∧ Below W.heap.size W V := by
  have z1 : (W.alloc (.cells #[x] t)).heap.size = W.heap.size + 1 := World.size_alloc _ _
  have b1 : Below W.heap.size W (W.alloc (.cells #[x] t)) := (Below.refl _ _).alloc (Nat.le_refl _) _
  have b2 : Below (W.heap.size + 1) (W.alloc (.cells #[x] t)) (((W.alloc (.cells #[x] t)).alloc (.cells #[y] t)).drew) := ((Below.refl _ _).alloc (by omega) _).drew
  have c1 : (W.alloc (.cells #[x] t)).cell? ⟨W.heap.size, 0, none⟩ = some x := cell_of_row _ _ 0 _ _ _ (heap_alloc_last W _)
  have f1 : (W.alloc (.cells #[x] t)).frozen? ⟨W.heap.size, 0, none⟩ = false := by have := (there_row (n := 1) (heap_alloc_last W (.cells #[x] t)) rfl 0 (by omega)).2; rwa [Nat.zero_add] at this
  have c2 : ((W.alloc (.cells #[x] t)).alloc (.cells #[y] t)).cell? ⟨W.heap.size + 1, 0, none⟩ = some y := by rw [← z1]; exact cell_of_row _ _ 0 _ _ _ (heap_alloc_last _ _)
  have f2 : ((W.alloc (.cells #[x] t)).alloc (.cells #[y] t)).frozen? ⟨W.heap.size + 1, 0, none⟩ = false := by rw [← z1]; have := (there_row (n := 1) (heap_alloc_last (W.alloc (.cells #[x] t)) (.cells #[y] t)) rfl 0 (by omega)).2; rwa [Nat.zero_add] at this
  exact ⟨_, rfl, (World.size_alloc _ _).trans (by rw [z1]), (b2.cell (p := ⟨W.heap.size, 0, none⟩) (by simp)).trans c1, (b2.frozen (p := ⟨W.heap.size, 0, none⟩) (by simp)).trans f1, c2, f2, b1.trans (b2.mono (by omega))⟩

end

section
open Go.RowKit Go.Shelf
attribute [local go_sem] Oper.semAt_some run_store_float
set_option linter.unusedSimpArgs false
set_option linter.unusedVariables false

/-- The balances, as a field. -/
def balF (G : Gd) (i : Nat) : Nat := if isB G i = true then (balO G i).getD 0 else 0
/-- A field up to a number. -/
def cutF (f : Nat → Nat) (k i : Nat) : Nat := if i < k then f i else 0
theorem cutF_zero (f : Nat → Nat) : ∀ i, i < 64 → zf i = cutF f 0 i := fun i _ => by simp [cutF, zf]
theorem cutF_full (f : Nat → Nat) : ∀ i, i < 64 → cutF f 64 i = f i := fun i h => by simp [cutF, h]
theorem cutF_put (f : Nat → Nat) (k x : Nat) (h : x = f k) : ∀ i, i < 64 → (if i = k then x else cutF f k i) = cutF f (k + 1) i := fun i _ => by
  unfold cutF
  by_cases e : i = k
  · subst e; simp [h]
  · have : i < k + 1 ↔ i < k := by omega
    simp [e, this]
theorem cutF_skip (f : Nat → Nat) (k : Nat) (h : f k = 0) : ∀ i, i < 64 → cutF f k i = cutF f (k + 1) i := fun i _ => by
  unfold cutF
  by_cases e : i = k
  · subst e; simp [h]
  · have : i < k + 1 ↔ i < k := by omega
    simp [this]
/-- All balances are finite. -/
def allFin (G : Gd) : Bool := (List.range 64).all fun i => !isB G i || finO (balO G i)
theorem balF_is {G : Gd} {i r : Nat} (hb : isB G i = true) (hr : num .f32 r = balO G i) (hf : finB r = true) : r = balF G i := by
  unfold balF
  rw [if_pos hb, ← hr]
  cases hn : nanK .f32 r
  · rw [num_some hn]; rfl
  · have := finO_num r
    rw [num_none hn, hf] at this
    cases this
def FB (f : Nat → Nat) (b : Bool) : Value := .tuple #[.agg (Fld f), .bool b]
def balsB (G : Gd) : Value := if allFin G = true then FB (balF G) true else FB zf false

theorem results_fld {P : Program} {fn : Func} {p q : Tmp} {ty : TypeId} {D : TypeDesc} (h : fn.results = #[.cell p ty, .tmp q]) (tmps : Array Value) (w : World) (b : Nat) (f : Nat → Nat) (v : Value)
    (hp : tmps.getD p undef = .pointer (some ⟨b, 0, none⟩)) (hq : tmps.getD q undef = v) (hc : w.rangeAt b 0 (Fld f).toList) (hu : P.underlying ty = some D) (hd : D.isRow = true) (hi : (P.info? ty).map (·.size) = some 64) :
    (results fn tmps).run P w = .ok (.tuple #[.agg (Fld f), v]) w := by
  have hp' : tmps[p]?.getD undef = .pointer (some ⟨b, 0, none⟩) := by simpa using hp
  have hq' : tmps[q]?.getD undef = v := by simpa using hq
  have := run_loadVar_mid (P := P) w b 0 ty (Fld f).toList D hc hu hd (by rw [Fld_length]; exact hi)
  simp [results, h, hp', hq', asAddr, this, Fld]
theorem ret_fld {fn : Func} {p q : Tmp} (h : fn.results = #[.cell p 28, .tmp q]) {tmps : Array Value} {w : World} {b : Nat} {f : Nat → Nat} {v : Value}
    (hp : tmps.getD p undef = .pointer (some ⟨b, 0, none⟩)) (hq : tmps.getD q undef = v) (hc : w.rangeAt b 0 (Fld f).toList) : (results fn tmps).run Tryd.prog w = .ok (.tuple #[.agg (Fld f), v]) w :=
  results_fld h tmps w b f v hp hq hc Tryd.underlying28 rfl infoField

theorem RowAt.new (f : Nat → Nat) (t : TypeId) (w : World) : RowAt (w.alloc (.cells (Fld f) t)) w.heap.size f :=
  ⟨rangeAt_row (heap_alloc_last w _), there_row (heap_alloc_last w _) (Fld_size f)⟩
theorem there_setCells {b b' o n : Nat} : ∀ {vs : List Value} {k : Nat} {W : World}, W.there b o n → (W.setCells b' k vs).there b o n
  | [], _, _, h => h
  | v :: vs, k, W, h => there_setCells (vs := vs) (there_setCell h)
theorem RowAt.store {W : World} {b : Nat} {f g : Nat → Nat} (h : RowAt W b f) : RowAt (W.setCells b 0 (Fld g).toList) b g :=
  ⟨World.rangeAt_setCells_same _ _ _ _ (by rw [show (Fld g).toList.length = 64 from Fld_length g]; exact h.there), there_setCells h.there⟩
theorem RowAt.fars {b b' : Nat} {f : Nat → Nat} (hne : b' ≠ b) : ∀ {vs : List Value} {k : Nat} {W : World}, RowAt W b f → RowAt (W.setCells b' k vs) b f
  | [], _, _, h => h
  | v :: vs, k, W, h => RowAt.fars hne (vs := vs) (h.far k v hne)
theorem RowAt.quiet {W W' : World} {b : Nat} {f : Nat → Nat} (h : RowAt W b f) (hq : Quiet W W') : RowAt W' b f := by
  obtain ⟨n, rfl⟩ := hq
  exact h.below (Quiet.below ⟨n, rfl⟩ (b + 1)) (by omega)
theorem RowAt.lt {W : World} {b : Nat} {f : Nat → Nat} (h : RowAt W b f) : b < W.heap.size := World.block_lt_of_cell? W ⟨b, 0, none⟩ (h.cell 0 (by omega))

set_option maxRecDepth 100000 in
set_option maxHeartbeats 2000000 in
theorem l01Balances_any (G : Gd) (hv : validB G = true) (p : Nat) (w : World) (hp : GrdAt w p 0 G) (hpl : p < w.heap.size) (hG : GdOk G) :
    Calls Tryd.prog 19 #[.pointer (some ⟨p, 0, none⟩)] w fun e w' => e = .returned (balsB G) ∧ Below w.heap.size w w' := by
  have hz := (zero_of_info zeroField).1
  have HV := Lib.hid hv
  have HG := Lib.hid hG
  have HP := Lib.hid hp
  clear hv hG hp
  go_enter Tryd.func19, Tryd.ntmps19
  go_upto_region 1 with (fail)
  obtain ⟨W, hW⟩ : ∃ W, w.alloc (.cells (Fld zf) 28) = W := ⟨_, rfl⟩
  have q1 : RowAt W w.heap.size zf := by rw [← hW]; exact RowAt.new _ _ _
  have zW : W.heap.size = w.heap.size + 1 := by rw [← hW]; simp
  have bW : Below w.heap.size w W := by rw [← hW]; exact (Below.refl _ _).alloc (Nat.le_refl _) _
  have ZW := Lib.hid zW
  rw [hW]
  clear hW zW
  have hthere := new_thereF 28 W
  go_upto_region 2 with (refine wpList_store_mid rfl 28 _ _ rfl _ 0 (Fld zf) rfl rfl (by rw [Fld_size]; exact hthere) (by rw [Fld_size]; exact infoField) (Fld_one _) ?_)
  obtain ⟨X, hX, zX, gX, bX⟩ := stored_fld zf 28 W
  have tX : X.there W.heap.size 0 64 := by
    rw [← hX]
    exact there_setCells (new_thereF _ W)
  rw [hX]
  clear hX hthere
  have zW := ZW.out
  have Q1 := Lib.hid (q1.below bX (by omega))
  have Q2 := Lib.hid (RowAt.congr (⟨gX, tX⟩ : RowAt X W.heap.size zf) (cutF_zero (balF G)))
  have BX := Lib.hid (bW.trans (bX.mono (by omega)))
  clear q1 gX tX bX bW zX
  rw [zW] at Q2 ⊢
  clear zW ZW
  go_wp2
  go_loopw [5] (fun i wr => ∃ k : Nat, k ≤ 64 ∧ i = .int .i64 k ∧ Hid (RowAt wr w.heap.size zf) ∧ Hid (RowAt wr (w.heap.size + 1) (cutF (balF G) k)) ∧ Hid (∀ i, i < k → (!isB G i || finO (balO G i)) = true) ∧ Hid (Below w.heap.size w wr)) (fun i _ => 64 - (intOf i).toNat)
  case atStart => exact ⟨0, by omega, rfl, Q1, Q2, fun i hi => (by omega), BX⟩
  case round =>
    clear Q1 Q2 BX
    obtain ⟨k, hk, rfl, R1, R2, hA, hB⟩ := hrel
    have gp := Lib.hid (HP.out.below hB.out hpl)
    by_cases hlt : k < 64
    · have hk2 : (k : Int) < 64 := by omega
      cases hi : isB G k
      · have Hi := Lib.hid hi
        have N0 := RowAt.congr R2.out (cutF_skip (balF G) k (by simp [balF, hi]))
        have A0 : ∀ i, i < k + 1 → (!isB G i || finO (balO G i)) = true := fun i h => by
          by_cases e : i = k
          · subst e; simp [hi]
          · exact hA.out i (by omega)
        have N := Lib.hid N0
        have A := Lib.hid A0
        clear hi N0 A0
        go_wp2_with (go_at_call 20; refine (l01Is_is G k hlt false Hi.out _ _ gp.out HG.out).mono ?_; rintro e w' ⟨rfl, rfl⟩)
        go_roundw
        case rel => exact ⟨k + 1, by omega, by go_num, R1, N, A, hB⟩
        case measure => simp [intOf]; omega
      · have Hi := Lib.hid hi
        clear hi
        go_upto_region 7 with (first | (go_at_call 20; refine (l01Is_is G k hlt true Hi.out _ _ gp.out HG.out).mono ?_; rintro e w' ⟨rfl, rfl⟩) | (go_at_call 28; refine (l01Balance_any G k hlt HV.out p _ gp.out HG.out).mono ?_; rintro e w1 ⟨r, rfl, hr, hq⟩; have HR := Lib.hid hr; have HQ := Lib.hid hq; clear hr hq; have cO := (R2.out.quiet HQ.out).cell k hlt; have fO := (R2.out.quiet HQ.out).free k hlt))
        obtain ⟨Y, hY⟩ : ∃ Y, w1.setCell ⟨w.heap.size + 1, k, none⟩ (.float .f32 r) = Y := ⟨_, rfl⟩
        have y1 := (R2.out.quiet HQ.out).put k r hlt
        have y2 := (R1.out.quiet HQ.out).far (b' := w.heap.size + 1) k (.float .f32 r) (by omega)
        have y3 := (hB.out.trans (HQ.out.below _)).setCell (p := ⟨w.heap.size + 1, k, none⟩) (by simp) (.float .f32 r)
        rw [hY] at y1 y2 y3 ⊢
        have cY := y1.cell k hlt
        rw [if_pos rfl] at cY
        clear hY cO fO
        cases hf : finB r
        · have E := Lib.hid (show balsB G = FB zf false by
            have : allFin G = false := all_no k hlt (by rw [Hi.out, ← HR.out, finO_num, hf]; rfl)
            simp [balsB, this])
          have Y2 := Lib.hid y2
          have Y3 := Lib.hid y3
          clear y1 y2 y3
          go_wp2_with (first | (go_at_call 29; refine (l01Finite_is r _ hf Y).mono ?_; rintro e Y' ⟨rfl, hq⟩; have YQ := Lib.hid hq; clear hq) | (refine wpList_store_mid rfl 28 _ _ rfl _ 0 (Fld zf) rfl rfl (by rw [Fld_size]; exact (Y2.out.quiet YQ.out).there) (by rw [Fld_size]; exact infoField) (Fld_one _) ?_))
          refine bodyPost_ret (ret_fld (v := .bool false) rfl rfl rfl ((Y2.out.quiet YQ.out).store (g := zf)).range) rfl ⟨congrArg Ending.returned E.out.symm, below_setCells _ (by omega) _ _ _ (Y3.out.trans (YQ.out.below _))⟩
        · have N := Lib.hid (RowAt.congr y1 (cutF_put (balF G) k r (balF_is Hi.out HR.out hf)))
          have A0 : ∀ i, i < k + 1 → (!isB G i || finO (balO G i)) = true := fun i h => by
            by_cases e : i = k
            · subst e; rw [← HR.out, finO_num, hf]; simp
            · exact hA.out i (by omega)
          have A := Lib.hid A0
          have Y2 := Lib.hid y2
          have Y3 := Lib.hid y3
          clear y1 y2 y3 A0
          go_wp2_with (go_at_call 29; refine (l01Finite_is r _ hf Y).mono ?_; rintro e Y' ⟨rfl, hq⟩; have YQ := Lib.hid hq; clear hq)
          go_roundw
          case rel => exact ⟨k + 1, by omega, by go_num, Y2.out.quiet YQ.out, N.out.quiet YQ.out, A, Y3.out.trans (YQ.out.below _)⟩
          case measure => simp [intOf]; omega
    · obtain rfl : k = 64 := by omega
      have rr := (RowAt.congr R2.out (cutF_full (balF G))).range
      have E := Lib.hid (show balsB G = FB (balF G) true by
        have : allFin G = true := all_yes fun i hi => hA.out i hi
        simp [balsB, this])
      go_wp2_with (first | (refine wpList_load_mid rfl 28 _ rfl (w.heap.size + 1) 0 rfl (Fld (balF G)).toList _ rr Tryd.underlying28 rfl (by rw [Fld_length]; exact infoField) ?_) | (refine wpList_store_mid rfl 28 _ _ rfl _ 0 (Fld (balF G)) rfl rfl (by rw [Fld_size]; exact R1.out.there) (by rw [Fld_size]; exact infoField) (Fld_one _) ?_))
      refine bodyPost_ret (ret_fld (v := .bool true) rfl rfl rfl (R1.out.store (g := balF G)).range) rfl ⟨congrArg Ending.returned E.out.symm, below_setCells _ (by omega) _ _ _ hB.out⟩
end

section
open Go.RowKit Go.Shelf
attribute [local go_sem] Oper.semAt_some run_store_float
set_option linter.unusedSimpArgs false
set_option linter.unusedVariables false

def FN (f : Nat → Nat) (n : Int) : Value := .tuple #[.agg (Fld f), .int .i64 n]
/-- What BalancesOf says. -/
def balsV (G : Gd) : Value := if validB G = true then (if allFin G = true then FN (balF G) 0 else FN zf 4) else FN zf 1
theorem balsV_is (G : Gd) : ∃ (f : Nat → Nat) (n : Int), balsV G = .tuple #[.agg (Fld f), .int .i64 n] := by
  unfold balsV
  split
  · split <;> exact ⟨_, _, rfl⟩
  · exact ⟨_, _, rfl⟩
/-- A ground and a field are boxed, both may be written. -/
theorem gr_box (G : Gd) (f : Nat → Nat) (t u : TypeId) (w : World) : ∃ W, (w.alloc (.cells (Grd G) t)).alloc (.cells (Fld f) u) = W ∧ W.heap.size = w.heap.size + 1 + 1 ∧ GBox W w.heap.size G ∧ RowAt W (w.heap.size + 1) f ∧ Below w.heap.size w W := by
  obtain ⟨W1, h1, z1, g1, b1⟩ := gbox1 G t w
  have b2 : Below W1.heap.size W1 (W1.alloc (.cells (Fld f) u)) := (Below.refl _ _).alloc (Nat.le_refl _) _
  rw [h1]
  exact ⟨_, rfl, by simp [z1], g1.below b2 (by omega), by rw [← z1]; exact RowAt.new _ _ _, b1.trans (b2.mono (by omega))⟩

end

section
open Go.RowKit Go.Shelf
attribute [local go_sem] Oper.semAt_some run_store_float
set_option linter.unusedSimpArgs false
set_option linter.unusedVariables false

/-- A field at the numbers of a list. -/
def fillF (f : Nat → Nat) (l : List Nat) (i : Nat) : Nat := if i ∈ l then f i else 0
theorem fillF_nil (f : Nat → Nat) : ∀ i, i < 64 → zf i = fillF f [] i := fun i _ => by simp [fillF, zf]
theorem fillF_put (f : Nat → Nat) (l : List Nat) (k x : Nat) (h : x = f k) : ∀ i, i < 64 → (if i = k then x else fillF f l i) = fillF f (l ++ [k]) i := fun i _ => by
  unfold fillF
  by_cases e : i = k
  · subst e; simp [h]
  · simp [e]
theorem fillF_bal (G : Gd) : ∀ i, i < 64 → fillF (balF G) (bitsL (cellsN G)) i = balF G i := fun i h => by
  unfold fillF
  have e : i ∈ bitsL (cellsN G) ↔ isB G i = true := by rw [mem_bitsL, cellsN_testBit]; simp [h]
  cases hi : isB G i
  · rw [if_neg (by rw [e, hi]; simp)]; simp [balF, hi]
  · rw [if_pos (by rw [e, hi])]
theorem allFin_yes {G : Gd} (h : ∀ i ∈ bitsL (cellsN G), finO (balO G i) = true) : allFin G = true := all_yes fun i hi => by
  cases hb : isB G i
  · rfl
  · rw [h i (mem_bitsL.2 ⟨hi, by rw [cellsN_testBit, hb]; simp [hi]⟩)]; rfl

theorem results_fld_int {P : Program} {fn : Func} {p q : Tmp} {ty ti : TypeId} {D Di : TypeDesc} (h : fn.results = #[.cell p ty, .cell q ti]) (tmps : Array Value) (w : World) (b c : Nat) (f : Nat → Nat) (n : Int)
    (hp : tmps.getD p undef = .pointer (some ⟨b, 0, none⟩)) (hq : tmps.getD q undef = .pointer (some ⟨c, 0, none⟩)) (hc : w.rangeAt b 0 (Fld f).toList) (hn : w.cell? ⟨c, 0, none⟩ = some (.int .i64 n)) (hu : P.underlying ty = some D) (hd : D.isRow = true) (hui : P.underlying ti = some Di) (hdi : Di.isRow = false) (hi : (P.info? ty).map (·.size) = some 64) :
    (results fn tmps).run P w = .ok (.tuple #[.agg (Fld f), .int .i64 n]) w := by
  have hp' : tmps[p]?.getD undef = .pointer (some ⟨b, 0, none⟩) := by simpa using hp
  have hq' : tmps[q]?.getD undef = .pointer (some ⟨c, 0, none⟩) := by simpa using hq
  have := run_loadVar_mid (P := P) w b 0 ty (Fld f).toList D hc hu hd (by rw [Fld_length]; exact hi)
  have hagg : (isAgg ti).run P w = .ok false w := by
    unfold isAgg
    rw [Sem.run_bind, run_underlying hui w]
    cases Di <;> simp_all
  have h2 : (loadVar ti ⟨c, 0, none⟩).run P w = .ok (.int .i64 n) w := by
    unfold loadVar
    go_simp
  simp [results, h, hp', hq', asAddr, this, h2, Fld]
theorem CK.row {A B : World} (h : CK A B) {b : Nat} {f : Nat → Nat} (g : RowAt A b f) : RowAt B b f := ⟨h.range g.range, h.there g.there⟩

/-- A ground, a field and a number are boxed. -/
theorem gri_box (G : Gd) (f : Nat → Nat) (n : Int) (t u v : TypeId) (w : World) : ∃ W, ((w.alloc (.cells (Grd G) t)).alloc (.cells (Fld f) u)).alloc (.cells #[.int .i64 n] v) = W ∧ W.heap.size = w.heap.size + 1 + 1 + 1 ∧ GBox W w.heap.size G ∧ RowAt W (w.heap.size + 1) f ∧ W.cell? ⟨w.heap.size + 1 + 1, 0, none⟩ = some (.int .i64 n) ∧ W.frozen? ⟨w.heap.size + 1 + 1, 0, none⟩ = false ∧ Below w.heap.size w W := by
  obtain ⟨W1, h1, z1, g1, q1, b1⟩ := gr_box G f t u w
  have b2 : Below W1.heap.size W1 (W1.alloc (.cells #[.int .i64 n] v)) := (Below.refl _ _).alloc (Nat.le_refl _) _
  rw [h1]
  refine ⟨_, rfl, by simp [z1], g1.below b2 (by omega), q1.below b2 (by omega), ?_, ?_, b1.trans (b2.mono (by omega))⟩
  · rw [← z1]; exact cell_of_row _ _ 0 _ _ _ (heap_alloc_last W1 _)
  · rw [← z1]; have := (there_row (n := 1) (heap_alloc_last W1 (.cells #[.int .i64 n] v)) rfl 0 (by omega)).2; rwa [Nat.zero_add] at this

theorem cell_farS {b c x : Nat} (hc : c ≠ b) : ∀ (vs : List Value) (o : Nat) (W : World), (W.setCells b o vs).cell? ⟨c, x, none⟩ = W.cell? ⟨c, x, none⟩
  | [], _, _ => rfl
  | v :: vs, o, W => (cell_farS hc vs (o + 1) (W.setCell ⟨b, o, none⟩ v)).trans (cell_other (fun e => hc (by injection e; rename_i e _ _; exact e.symm)))
theorem frozenS {b : Nat} (p : Addr) : ∀ (vs : List Value) (o : Nat) (W : World), (W.setCells b o vs).frozen? p = W.frozen? p
  | [], _, _ => rfl
  | v :: vs, o, W => (frozenS p vs (o + 1) (W.setCell ⟨b, o, none⟩ v)).trans (World.frozen?_setCell _ _ _ _)
theorem keepsS {b : Nat} : ∀ (vs : List Value) (o : Nat) (W : World), KeepsOthers W (W.setCells b o vs)
  | [], _, W => KeepsOthers.refl W
  | v :: vs, o, W => (KeepsOthers.setCell W ⟨b, o, none⟩ v).trans (keepsS vs (o + 1) (W.setCell ⟨b, o, none⟩ v))
/-- A field is stored where a field lies; another one and a number lie on. -/
theorem stored_row {W : World} {b c : Nat} {f g : Nat → Nat} (h : RowAt W b f) (hc : c ≠ b) : ∃ X, W.setCells b 0 (Fld g).toList = X ∧ RowAt X b g ∧ (∀ v, W.cell? ⟨c, 0, none⟩ = some v → X.cell? ⟨c, 0, none⟩ = some v) ∧ X.frozen? ⟨c, 0, none⟩ = W.frozen? ⟨c, 0, none⟩ ∧ KeepsOthers W X ∧ X.heap.size = W.heap.size ∧ (∀ n w, n ≤ b → Below n w W → Below n w X) ∧ ∀ (D : Nat) (o : Obj), D ≠ b → W.heap[D]? = some o → X.heap[D]? = some o :=
  ⟨_, rfl, h.store, fun v hv => (cell_farS hc _ _ _).trans hv, frozenS _ _ _ _, keepsS _ _ _, size_setCells _ _ _ _, fun n w hn hb => below_setCells _ hn _ _ _ hb, fun D o hD ho => (heap_setCells_other _ hD).trans ho⟩


set_option maxRecDepth 100000 in
set_option maxHeartbeats 1000000 in
theorem implBalances_bad (G : Gd) (w : World) (hG : GdOk G) (hT : TabAt w) (hv : validB G = false) :
    Calls Tryd.prog 48 #[.agg (Grd G)] w fun e w' => e = .returned (FN zf 1) ∧ Below w.heap.size w w' := by
  have hz := (zero_of_info zeroField).1
  go_enter Tryd.func48, Tryd.ntmps48
  go_upto_region 1 with (fail)
  obtain ⟨W, hW, hs, g1, q1, c1, f1, hB⟩ := gri_box G zf 0 30 28 2 w
  rw [hW]
  clear hW
  have r1 := g1.range
  have hl : w.heap.size + 1 < W.heap.size := by omega
  have hl2 : w.heap.size + 1 + 1 < W.heap.size := by omega
  have G1 := Lib.hid g1
  have Q1 := Lib.hid q1
  have HB := Lib.hid hB
  have HT := Lib.hid (hT.below hB (tab_lt hT))
  have Hv := Lib.hid hv
  have C1 := Lib.hid c1
  have F1 := Lib.hid f1
  clear hs g1 q1 hB hT hv c1 f1
  go_upto_region 2 with (first | (refine wpList_load_mid rfl 30 _ rfl w.heap.size 0 rfl (GrdL G) _ r1 Tryd.underlying30 rfl (by rw [GrdL_length]; exact infoGround) ?_) | (go_at_call 30; have hc := (validGround_any G W hG HT.out (tab_lt HT.out)); rw [Hv.out] at hc; refine hc.mono ?_; clear hc; rintro e V ⟨rfl, hb⟩))
  have q2 := Q1.out.below hb hl
  have t2 := q2.there
  have c2 := kc C1.out hl2 _ hb
  have f2 : V.frozen? ⟨w.heap.size + 1 + 1, 0, none⟩ = false := (hb.frozen (p := ⟨w.heap.size + 1 + 1, 0, none⟩) hl2).trans F1.out
  obtain ⟨X, hX, x1, x2, x3, x4, x5, x6, x7⟩ := stored_row (g := zf) q2 (c := w.heap.size + 1 + 1) (by omega)
  have cX := x2 _ c2
  have fX := x3.trans f2
  have BX := Lib.hid (x6 w.heap.size w (by omega) (HB.out.trans (hb.mono (by omega))))
  have X1 := Lib.hid x1
  have HX := Lib.hid hX
  clear q2 c2 f2 x1 x2 x3 x4 x5 x6 x7 hX hb
  go_wp2_with (first | (refine wpList_store_mid rfl 28 _ _ rfl _ 0 (Fld (zf)) rfl rfl (by rw [Fld_size]; with_reducible exact t2) (by rw [Fld_size]; exact infoField) (Fld_one _) ?_); rw [HX.out])
  refine bodyPost_ret (results_fld_int rfl _ _ _ _ _ _ rfl rfl (X1.out.far _ _ (by omega)).range (World.cell?_setCell_same' _ _ _ (by rw [cX]; rfl)) Tryd.underlying28 rfl Tryd.underlying2 rfl infoField) rfl ⟨rfl, BX.out.setCell (by simp; omega) _⟩
end

section
open Go.RowKit Go.Shelf
attribute [local go_sem] Oper.semAt_some run_store_float
set_option linter.unusedSimpArgs false
set_option linter.unusedVariables false

theorem wpListIn_store_mid {F : Fence} {n : Nat} {P : Program} {ops : Array Oper} {rest : List Oper} {o : Oper} {a : Act} {w : World} {Q : Exit → Act → World → Prop} (hg : o.guard = none) (ty : TypeId) (x y : Operand) (ho : o.op = .store ty x y)
    (b k : Nat) (cells : Array Value) (hx : a.eval x = .pointer (some ⟨b, k, none⟩)) (hy : a.eval y = .agg cells) (ht : w.there b k cells.size) (hi : (P.info? ty).map (·.size) = some cells.size) (h1 : cells.all (·.oneCell') = true)
    (h : wpListIn F n P ops Q rest (a.put o.dst undef) (w.setCells b k cells.toList)) : wpListIn F n P ops Q (o :: rest) a w :=
  wpListIn_plain hg fun K hK => by
    have hrun := store_op (P := P) (w := w) ho hx hy ht hi h1
    unfold Oper.wpIn
    refine ⟨fun f hf => (by simp [Oper.about, ho] at hf), ?_⟩
    rw [Oper.semAt_plain F _ _ (by rw [ho]; intro c hc'; cases hc'), hrun]
    exact hK _ _ h

theorem isFinite_is (b : Nat) (r : Bool) (h : finB b = r) (w : World) : Calls Tryd.prog 57 #[.float .f32 b] w fun e w' => e = .returned (.bool r) ∧ Quiet w w' := by
  subst h
  exact isFinite_any b w

set_option maxRecDepth 100000 in
set_option maxHeartbeats 4000000 in
theorem implBalances_good (G : Gd) (w : World) (hG : GdOk G) (hT : TabAt w) (hv : validB G = true) :
    Calls Tryd.prog 48 #[.agg (Grd G)] w fun e w' => e = .returned (if allFin G = true then FN (balF G) 0 else FN zf 4) ∧ Below w.heap.size w w' := by
  obtain ⟨EV, hE⟩ : ∃ v, (if allFin G = true then FN (balF G) 0 else FN zf 4) = v := ⟨_, rfl⟩
  rw [hE]
  have HE := Lib.hid hE
  clear hE
  have hz := (zero_of_info zeroField).1
  refine (callsIn_wide (n := 6)).1 (callsIn_of_wp_marks Tryd.func48 rfl trivial ?_ rfl)
  simp only [Tryd.ntmps48, List.size_toArray, List.length_cons, List.length_nil, Nat.reduceAdd, Nat.reduceSub, Array.replicate_succ, Array.replicate_zero, List.push_toArray, List.append_toArray, List.nil_append, List.cons_append]
  refine wpIn_wide.2 ?_
  go_upto_region 1 with (fail)
  obtain ⟨W, hW, hs, g1, q1, c1, f1, hB⟩ := gri_box G zf 0 30 28 2 w
  rw [hW]
  clear hW
  have r1 := g1.range
  have hl0 : w.heap.size < W.heap.size := by omega
  have hl : w.heap.size + 1 < W.heap.size := by omega
  have hl2 : w.heap.size + 1 + 1 < W.heap.size := by omega
  have G1 := Lib.hid g1
  have Q1 := Lib.hid q1
  have HB := Lib.hid hB
  have HG := Lib.hid hG
  have HT := Lib.hid (hT.below hB (tab_lt hT))
  have glt := tab_lt hT
  have Hv := Lib.hid hv
  have C1 := Lib.hid c1
  have F1 := Lib.hid f1
  clear hs g1 q1 hB hT hv c1 f1 hG
  go_upto_region 3 with (first | (refine wpList_load_mid rfl 30 _ rfl w.heap.size 0 rfl (GrdL G) _ r1 Tryd.underlying30 rfl (by rw [GrdL_length]; exact infoGround) ?_) | (go_at_call 30; have hc := (validGround_any G W HG.out HT.out (tab_lt HT.out)); rw [Hv.out] at hc; refine hc.mono ?_; clear hc; rintro e V ⟨rfl, hb⟩))
  have zV := hb.size
  have hth := new_thereF 28 V
  clear r1
  go_upto_region 4 with (refine wpList_store_mid rfl 28 _ _ rfl _ 0 (Fld (zf)) rfl rfl (by rw [Fld_size]; with_reducible exact hth) (by rw [Fld_size]; exact infoField) (Fld_one _) ?_)
  obtain ⟨X, hX, zX, gX, bX⟩ := stored_fld zf 28 V
  have tX : X.there V.heap.size 0 64 := by
    rw [← hX]
    exact there_setCells (new_thereF _ V)
  rw [hX]
  have bWX : Below W.heap.size W X := hb.trans (bX.mono (by omega))
  have X1 := Lib.hid (G1.out.below bWX hl0)
  have X2 := Lib.hid (Q1.out.below bWX hl)
  have X3 := Lib.hid (kc C1.out hl2 _ bWX)
  have X4 := Lib.hid ((bWX.frozen (p := ⟨w.heap.size + 1 + 1, 0, none⟩) hl2).trans F1.out : X.frozen? ⟨w.heap.size + 1 + 1, 0, none⟩ = false)
  have X5 := Lib.hid (⟨gX, tX⟩ : RowAt X V.heap.size zf)
  have BX := Lib.hid (HB.out.trans (bWX.mono (by omega)))
  have TX := Lib.hid (HT.out.below bWX (tab_lt HT.out))
  have hNX : V.heap.size < X.heap.size := X5.out.lt
  obtain ⟨N, hN⟩ : ∃ N, V.heap.size = N := ⟨_, rfl⟩
  rw [hN] at X5 hNX zV ⊢
  clear hX hth gX bX tX bWX zX hN hb G1 Q1 C1 F1 HB HT
  have m64 := cellsN_lt G
  go_wp2_with (first | (go_at_call 40; refine (cells_valid G Hv.out _ _ X1.out.at').mono ?_; rintro e w' ⟨rfl, rfl⟩) | (go_at_call 41; refine (bitsIn_any (cellsN G) _).mono ?_; rintro e w' ⟨rfl, rfl⟩))
  obtain ⟨U, hU⟩ : ∃ U, X.alloc (.cells #[.int .u64 (cellsN G)] 25) = U := ⟨_, rfl⟩
  have hbU : Below X.heap.size X U := by rw [← hU]; exact (Below.refl _ _).alloc (Nat.le_refl _) _
  have cM : U.cell? ⟨X.heap.size, 0, none⟩ = some (.int .u64 (cellsN G)) := by rw [← hU]; exact cell_of_row _ _ 0 _ _ _ (heap_alloc_last X _)
  have zU : X.heap.size < U.heap.size := by rw [← hU]; simp
  have U1 := Lib.hid (X1.out.below hbU (by omega))
  have u2 := X2.out.below hbU (by omega)
  have u3 := kc X3.out (by omega) _ hbU
  have u4 : U.frozen? ⟨w.heap.size + 1 + 1, 0, none⟩ = false := (hbU.frozen (p := ⟨w.heap.size + 1 + 1, 0, none⟩) (by simp; omega)).trans X4.out
  have u5 := X5.out.below hbU hNX
  have BU := Lib.hid (BX.out.trans (hbU.mono (by omega)))
  have TU := TX.out.below hbU (tab_lt TX.out)
  rw [hU]
  clear hU hbU X1 X2 X3 X4 X5 BX TX
  refine (wpIn_wide (n := 6)).1 (wp_bits 12 13 5 X.heap.size (w.heap.size + 1) (cellsN G) m64 rfl cM TU (by omega) (by omega)
    (fun pre W2 => RowAt W2 N (fillF (balF G) pre) ∧ RowAt W2 (w.heap.size + 1) zf ∧ W2.cell? ⟨w.heap.size + 1 + 1, 0, none⟩ = some (.int .i64 0) ∧ W2.frozen? ⟨w.heap.size + 1 + 1, 0, none⟩ = false ∧ ∀ i ∈ pre, finO (balO G i) = true)
    (fun c pre W2 => c = .ret ∧ RowAt W2 (w.heap.size + 1) zf ∧ W2.cell? ⟨w.heap.size + 1 + 1, 0, none⟩ = some (.int .i64 4) ∧ ∃ i ∈ pre, finO (balO G i) = false)
    (fun s A B h ⟨a1, a2, a3, a4, a5⟩ => ⟨h.row a1, h.row a2, h.cell a3, (h.frozen a3).trans a4, a5⟩) (fun _ _ _ _ h ⟨a1, a2, a3, a4⟩ => ⟨a1, h.row a2, h.cell a3, a4⟩)
    ⟨RowAt.congr u5 (fillF_nil (balF G)), u2, u3, u4, fun i hi => (by cases hi)⟩ ?assign ?body ?done ?stop)
  case assign =>
    intro l x W K hK
    simp only [List.setIfInBounds_toArray, List.set_cons_zero, List.set_cons_succ] at hK ⊢
    gi_wp2
    exact hK
  case body =>
    rintro l pre x W2 ⟨a1, a2, a3, a4, a5⟩ hB2 hbit hx64
    simp only [List.setIfInBounds_toArray, List.set_cons_zero, List.set_cons_succ]
    have hi : isB G x.1 = true := by have := hbit; rw [cellsN_testBit] at this; simp at this; exact this.2
    have gp := Lib.hid (U1.out.below hB2 (by omega))
    have hzB := hB2.size
    have hx2 : (x.1 : Int) < 64 := by omega
    have A1 := Lib.hid a1
    have A2 := Lib.hid a2
    have A3 := Lib.hid a3
    have A4 := Lib.hid a4
    have A5 := Lib.hid a5
    have HI := Lib.hid hi
    have HB2 := Lib.hid hB2
    have hl6 : w.heap.size < W2.heap.size := by omega
    have hl7 : N < W2.heap.size := by omega
    clear a1 a2 a3 a4 a5 hi hB2 hbit u2 u3 u4 u5 cM TU
    gi_upto_region 7 with (refine ⟨trivial, ?_⟩; gi_at_call 56; refine CallsIn.inRound l ((callsIn_wide (n := 3)).2 ((implBalance_any G x.1 hx64 Hv.out w.heap.size W2 gp.out.at' hl6 HG.out).mono ?_)); rintro e W6 ⟨r, rfl, hr, hb⟩; have HR := Lib.hid hr; have Hb := Lib.hid hb; have cO := (A1.out.below hb hl7).cell x.1 hx64; have fO := (A1.out.below hb hl7).free x.1 hx64; clear hr hb)
    obtain ⟨Y, hY⟩ : ∃ Y, W6.setCell ⟨N, x.1, none⟩ (.float .f32 r) = Y := ⟨_, rfl⟩
    have hz6 := Hb.out.size
    have y1 := (A1.out.below Hb.out hl7).put x.1 r hx64
    have y2 := (A2.out.below Hb.out (by omega)).far (b' := N) x.1 (.float .f32 r) (by omega)
    have y3 : (W6.setCell ⟨N, x.1, none⟩ (.float .f32 r)).cell? ⟨w.heap.size + 1 + 1, 0, none⟩ = some (.int .i64 0) := (cell_other (fun e => by injection e; omega)).trans (kc A3.out (by omega) _ Hb.out)
    have y4 : (W6.setCell ⟨N, x.1, none⟩ (.float .f32 r)).frozen? ⟨w.heap.size + 1 + 1, 0, none⟩ = false := by rw [World.frozen?_setCell]; exact (Hb.out.frozen (p := ⟨w.heap.size + 1 + 1, 0, none⟩) (by simp; omega)).trans A4.out
    have y5 : KeepsOthers W2 (W6.setCell ⟨N, x.1, none⟩ (.float .f32 r)) := (KeepsOthers.of_below' Hb.out).trans (KeepsOthers.setCell _ _ _)
    have y6 : Below (w.heap.size + 1) W2 (W6.setCell ⟨N, x.1, none⟩ (.float .f32 r)) := (Hb.out.mono (by omega)).setCell (p := ⟨N, x.1, none⟩) (by simp; omega) _
    rw [hY] at y1 y2 y3 y4 y5 y6 ⊢
    have cY := y1.cell x.1 hx64
    rw [if_pos rfl] at cY
    have Y1 := Lib.hid y1
    have Y2 := Lib.hid y2
    have Y3 := Lib.hid y3
    have Y4 := Lib.hid y4
    have Y5 := Lib.hid y5
    have Y6 := Lib.hid y6
    clear hY cO fO y1 y2 y3 y4 y5 y6 A1 A2 A3 A4
    cases hf : finB r
    · have HF := Lib.hid hf
      gi_wp2_with (first | (refine ⟨trivial, ?_⟩; gi_at_call 57; refine CallsIn.inRound l ((callsIn_wide (n := 3)).2 ((isFinite_is r _ HF.out Y).mono ?_)); rintro e Y' ⟨rfl, hq⟩; have YQ := Lib.hid hq; have t2 := (Y2.out.quiet hq).there; clear hq) | (refine wpListIn_store_mid rfl 28 _ _ rfl _ 0 (Fld (zf)) rfl rfl (by rw [Fld_size]; with_reducible exact t2) (by rw [Fld_size]; exact infoField) (Fld_one _) ?_); obtain ⟨Z, hZ, z1, z2, z3, z4, z5, z6, z7⟩ := stored_row (g := zf) (Y2.out.quiet YQ.out) (c := w.heap.size + 1 + 1) (by omega); rw [hZ]; have z2' := z2 _ (kq Y3.out _ YQ.out); have z3' := z3.trans ((by obtain ⟨n, rfl⟩ := YQ.out; exact Y4.out) : Y'.frozen? ⟨w.heap.size + 1 + 1, 0, none⟩ = false); have Z1 := Lib.hid z1; have Z4 := Lib.hid z4; have Z6 := Lib.hid z6; clear hZ z1 z2 z3 z4 z5 z6 z7)
      have k1 : KeepsOthers W2 (Z.setCell ⟨w.heap.size + 1 + 1, 0, none⟩ (.int .i64 4)) := ((Y5.out.trans (KeepsOthers.of_below' (YQ.out.below _))).trans Z4.out).trans (KeepsOthers.setCell _ _ _)
      have k2 : Below (w.heap.size + 1) W2 (Z.setCell ⟨w.heap.size + 1 + 1, 0, none⟩ (.int .i64 4)) := (Z6.out _ _ (by omega) (Y6.out.trans (YQ.out.below _))).setCell (p := ⟨w.heap.size + 1 + 1, 0, none⟩) (by simp) _
      exact ⟨k1, ⟨rfl, Z1.out.far _ _ (by omega), World.cell?_setCell_same' _ _ _ (by rw [z2']; rfl), x.1, by rw [nos_snoc]; simp, by rw [← HR.out, finO_num]; exact HF.out⟩, HB2.out.trans k2⟩
    · have HF := Lib.hid hf
      gi_wp2_with (refine ⟨trivial, ?_⟩; gi_at_call 57; refine CallsIn.inRound l ((callsIn_wide (n := 3)).2 ((isFinite_is r _ HF.out Y).mono ?_)); rintro e Y' ⟨rfl, hq⟩; have YQ := Lib.hid hq; clear hq)
      have k2 : Below (w.heap.size + 1) W2 Y' := Y6.out.trans (YQ.out.below _)
      refine ⟨Y5.out.trans (KeepsOthers.of_below' (YQ.out.below _)), k2, ⟨?_, Y2.out.quiet YQ.out, kq Y3.out _ YQ.out, (by obtain ⟨n, rfl⟩ := YQ.out; exact Y4.out), ?_⟩, HB2.out.trans k2⟩
      · rw [nos_snoc]
        exact (RowAt.congr Y1.out (fillF_put (balF G) (nos pre) x.1 r (balF_is HI.out HR.out HF.out))).quiet YQ.out
      · intro i hi
        rw [nos_snoc] at hi
        rcases List.mem_append.1 hi with h | h
        · exact A5.out i h
        · simp only [List.mem_singleton] at h
          subst h
          rw [← HR.out, finO_num]
          exact HF.out
  case done =>
    rintro D W2 hD ⟨a1, a2, a3, a4, a5⟩ hB2 hK
    have R := Lib.hid (allFin_yes a5)
    have rr := (RowAt.congr a1 (fillF_bal G)).range
    have t2 := a2.there
    have hND : D ≠ w.heap.size + 1 := by omega
    have hCD : D ≠ w.heap.size + 1 + 1 := by omega
    have hwD : w.heap.size ≤ D := by omega
    obtain ⟨Z, hZ, z1, z2, z3, z4, z5, z6, z7⟩ := stored_row (g := balF G) a2 (c := w.heap.size + 1 + 1) (by omega)
    have z2' := z2 _ a3
    have z3' := z3.trans a4
    have HZ := Lib.hid hZ
    have Z1 := Lib.hid (z1.far (b' := w.heap.size + 1 + 1) 0 (.int .i64 0) (by omega))
    have Z6 := Lib.hid ((z6 w.heap.size w (by omega) (BU.out.trans (hB2.mono (by omega)))).setCell (p := ⟨w.heap.size + 1 + 1, 0, none⟩) (by simp; omega) (.int .i64 0))
    have Z7 := Lib.hid ((Below.heap_setCell Z ⟨w.heap.size + 1 + 1, 0, none⟩ (.int .i64 0) D (by simpa using hCD)).trans (z7 D _ hND hK))
    have Z8 := Lib.hid (World.cell?_setCell_same' Z ⟨w.heap.size + 1 + 1, 0, none⟩ (.int .i64 0) (by rw [z2']; rfl))
    clear hZ z1 z2 z3 z4 z5 z6 z7 a1 a2 a3 a4 a5 u2 u3 u4 u5 cM TU hB2 hK hD hl0 hl hl2 zV
    go_wp2_with (first | (refine wpList_load_mid rfl 28 _ rfl N 0 rfl (Fld (balF G)).toList _ rr Tryd.underlying28 rfl (by rw [Fld_length]; exact infoField) ?_) | (refine wpList_store_mid rfl 28 _ _ rfl _ 0 (Fld (balF G)) rfl rfl (by rw [Fld_size]; with_reducible exact t2) (by rw [Fld_size]; exact infoField) (Fld_one _) ?_); rw [HZ.out])
    exact ret_marks Z7.out (fun W' h => results_fld_int rfl _ _ _ _ _ _ rfl rfl (h.row Z1.out).range (h.cell Z8.out) Tryd.underlying28 rfl Tryd.underlying2 rfl infoField) (fun W' _ hb => ⟨congrArg Ending.returned (show FN (balF G) 0 = EV by rw [← HE.out, R.out]; rfl), Z6.out.trans (hb _ hwD)⟩)
  case stop =>
    rintro D c pre W2 hD hp ⟨rfl, a2, a3, i, hi, hf⟩ hB2 hK
    have R := Lib.hid (show allFin G = false from by
      have hm := mem_bitsL.1 (hp.subset hi)
      have hb : isB G i = true := by have := hm.2; rw [cellsN_testBit] at this; simp at this; exact this.2
      exact all_no i hm.1 (by simp [hb, hf]))
    gi_wp2
    exact ret_marks hK (fun W' h => results_fld_int rfl _ _ _ _ _ _ rfl rfl (h.row a2).range (h.cell a3) Tryd.underlying28 rfl Tryd.underlying2 rfl infoField) (fun W' _ hb => ⟨congrArg Ending.returned (show FN zf 4 = EV by rw [← HE.out, R.out]; rfl), (BU.out.trans (hB2.mono (by omega))).trans (hb _ (by omega))⟩)

theorem implBalances_any (G : Gd) (w : World) (hG : GdOk G) (hT : TabAt w) :
    Calls Tryd.prog 48 #[.agg (Grd G)] w fun e w' => e = .returned (balsV G) ∧ Below w.heap.size w w' := by
  cases hv : validB G
  · rw [show balsV G = FN zf 1 by simp [balsV, hv]]
    exact implBalances_bad G w hG hT hv
  · rw [show balsV G = if allFin G = true then FN (balF G) 0 else FN zf 4 by simp [balsV, hv]]
    exact implBalances_good G w hG hT hv
end
end Go.Proofs.YtinepldaodadiaaDoor
