/- SaltiestCell: both sides. Condition (the program's): the table of math/bits is laid. -/
import Derived.Test.YtjmekgogaiokpaaDoorBrSi
namespace Go.Proofs.YtjmekgogaiokpaaDoor
open Go.RowKit Go.Shelf
attribute [local go_sem] Oper.semAt_some run_store_float
set_option linter.unusedSimpArgs false
set_option linter.unusedVariables false

def sgtB (y x : Nat) : Bool := FloatKind.f32.format.order y x == some Ordering.gt
def satStep (B : Brn) (a i : Nat) : Nat := if sgtB (B.s i) (B.s a) = true then i else a
def satL (B : Brn) (l : List Nat) : Nat := l.foldl (satStep B) 0
theorem satL_snoc (B : Brn) (l : List Nat) (i : Nat) : satL B (l ++ [i]) = satStep B (satL B l) i := by simp [satL]
theorem satL_lt (B : Brn) (l : List Nat) (h : ∀ i ∈ l, i < 64) : satL B l < 64 := by
  suffices hs : ∀ (l : List Nat), (∀ i ∈ l, i < 64) → ∀ a, a < 64 → l.foldl (satStep B) a < 64 from hs l h 0 (by omega)
  intro l
  induction l with
  | nil => intro _ a ha; exact ha
  | cons i l ih =>
    intro h a ha
    refine ih (fun j hj => h j (by simp [hj])) _ ?_
    unfold satStep
    split
    · exact h i (by simp)
    · exact ha
theorem satL_first (B : Brn) : satL B (isL B.G 1) = 0 := by
  unfold isL satL
  cases h : isB B.G 0
  · simp [List.range_succ, h]
  · simp [List.range_succ, h, satStep]
def satN (B : Brn) : Nat := satL B (isL B.G 64)
def satV (B : Brn) : Value := if brnB B = true then .tuple #[.int .i64 (satN B), .float .f32 (B.s (satN B)), .int .i64 0] else .tuple #[.int .i64 0, .float .f32 0, .int .i64 1]
theorem satV_is (B : Brn) : ∃ (a : Int) (b : Nat) (n : Int), satV B = .tuple #[.int .i64 a, .float .f32 b, .int .i64 n] := by
  unfold satV
  split <;> exact ⟨_, _, _, rfl⟩

set_option maxRecDepth 100000 in
set_option maxHeartbeats 4000000 in
theorem specSat_any (B : Brn) (w : World) (hG : BrnOk B) :
    Calls Tryd.prog 41 #[.agg (BrnA B)] w fun e w' => e = .returned (satV B) ∧ Below w.heap.size w w' := by
  go_enter Tryd.func41, Tryd.ntmps41
  go_upto_region 1 with (fail)
  obtain ⟨W, hW, hs, b1, hB⟩ := bbox1 B 42 w
  rw [hW]
  clear hW
  have B1 := Lib.hid b1
  have HB := Lib.hid hB
  have HG := Lib.hid hG
  clear b1 hB hG
  cases hv : brnB B
  · have Hv := Lib.hid hv
    have R := Lib.hid (show satV B = .tuple #[.int .i64 0, .float .f32 0, .int .i64 1] by unfold satV; rw [hv]; rfl)
    clear hv
    go_wp2_with (go_at_call 59; have hc := (l05Ok_any B (w.heap.size) W B1.out.at' HG.out); rw [Hv.out] at hc; refine hc.mono ?_; clear hc; rintro e w1 ⟨rfl, hq⟩; have HQ := Lib.hid hq; clear hq)
    go_ret3
    exact ⟨congrArg Ending.returned R.out.symm, HB.out.trans (HQ.out.below _)⟩
  · have Hv := Lib.hid hv
    have R := Lib.hid (show satV B = .tuple #[.int .i64 (satN B), .float .f32 (B.s (satN B)), .int .i64 0] by unfold satV; rw [hv]; rfl)
    clear hv
    go_upto_region 3 with (go_at_call 59; have hc := (l05Ok_any B (w.heap.size) W B1.out.at' HG.out); rw [Hv.out] at hc; refine hc.mono ?_; clear hc; rintro e w1 ⟨rfl, hq⟩; have HQ := Lib.hid hq; clear hq)
    have BW := Lib.hid (B1.out.below (HQ.out.below (w.heap.size + 1)) (by omega))
    have HB1 := Lib.hid (HB.out.trans (HQ.out.below _))
    have HQ : Hid (Quiet w1 w1) := Lib.hid (Quiet.refl _)
    clear B1 HB
    go_wp2
    go_loopw [5, 6] (fun a i wr => ∃ k : Nat, k ≤ 63 ∧ i = .int .i64 ((k + 1 : Nat) : Int) ∧ a = .int .i64 (satL B (isL B.G (k + 1)) : Nat) ∧ Hid (Quiet w1 wr)) (fun _ i _ => 64 - (intOf i).toNat)
    case atStart => exact ⟨0, by omega, rfl, by rw [satL_first]; rfl, HQ⟩
    case round =>
      clear HQ
      obtain ⟨k, hk, rfl, rfl, HQ⟩ := hrel
      have bQ := Lib.hid (BW.out.below (HQ.out.below (w.heap.size + 1)) (by omega))
      have ha := satL_lt B _ (isL_lt (G := B.G) (k := k + 1) (by omega))
      by_cases hlt : k + 1 < 64
      · have hk2 : ((k + 1 : Nat) : Int) < 64 := by omega
        have c1 := Grd_fld bQ.out.s (k + 1) hlt
        cases hi : isB B.G (k + 1)
        · have Hi := Lib.hid hi
          have E := Lib.hid (show satL B (isL B.G (k + 1 + 1)) = satL B (isL B.G (k + 1)) by rw [isL_no hi])
          generalize satL B (isL B.G (k + 1)) = a at E ha ⊢
          have c2 := Grd_fld bQ.out.s a ha
          clear hi
          go_upto_region 7 with (fail)
          refine wp_region_calm (ops' := regOf Tryd.f41 7) [0, 1, 2, 3, 4, 5, 6, 7, 8, 9, 10, 11, 12, 13] [] .fin (Quiet wr) [(0, One (.pointer (some ⟨w.heap.size, 0, none⟩))), (1, One (.int .i64 ((k + 1 : Nat) : Int))), (2, One (.bool false)), (3, One (.bool false)), (4, One undef), (5, One undef), (6, One undef), (7, One undef), (8, One undef), (9, One undef), (10, One undef), (11, One undef), (12, One undef), (13, One (.bool false))] (by kernel_rfl) (by kernel_rfl) (by kernel_rfl) (by kernel_rfl) (by kernel_rfl) (by kernel_rfl) (by kernel_rfl) (by kernel_rfl) rfl ((Quiet.refl _).drewN 1) ?_
          refine calm_pure (some 13) (by kernel_rfl) (by kernel_rfl) (by kernel_rfl) (fun _ => by kernel_rfl) ?_
          refine calm_pure (some 14) (by kernel_rfl) (by kernel_rfl) (by kernel_rfl) (fun _ => by kernel_rfl) ?_
          refine calm_call (some 15) 57 #[.pointer (some ⟨w.heap.size, 0, none⟩), .int .i64 ((k + 1 : Nat) : Int)] ⟨_, rfl⟩ (by kernel_rfl) (by kernel_rfl) (by kernel_rfl) (fun _ => by kernel_rfl) (fun w' hw' => (l01Is_is B.G (k + 1) hlt false Hi.out w.heap.size w' (hw'.grd bQ.out.at'.g) HG.out.g).mono fun e w2 h => ⟨_, h.1, rfl, h.2 ▸ hw'⟩) ?_
          rintro _ rfl
          refine calm_pure (some 16) (by kernel_rfl) (by kernel_rfl) (by kernel_rfl) (fun _ => by kernel_rfl) ?_
          refine calm_skip (some 17) (by kernel_rfl) (by kernel_rfl) (by kernel_rfl) ?_
          refine calm_skip (some 18) (by kernel_rfl) (by kernel_rfl) (by kernel_rfl) ?_
          refine calm_skip (some 19) (by kernel_rfl) (by kernel_rfl) (by kernel_rfl) ?_
          refine calm_skip (some 20) (by kernel_rfl) (by kernel_rfl) (by kernel_rfl) ?_
          refine calm_skip (some 21) (by kernel_rfl) (by kernel_rfl) (by kernel_rfl) ?_
          refine calm_skip (some 22) (by kernel_rfl) (by kernel_rfl) (by kernel_rfl) ?_
          refine calm_skip (some 23) (by kernel_rfl) (by kernel_rfl) (by kernel_rfl) ?_
          refine calm_skip (some 24) (by kernel_rfl) (by kernel_rfl) (by kernel_rfl) ?_
          refine calm_skip (some 25) (by kernel_rfl) (by kernel_rfl) (by kernel_rfl) ?_
          refine calm_pure (some 26) (by kernel_rfl) (by kernel_rfl) (by kernel_rfl) (fun _ => by kernel_rfl) ?_
          refine calm_end fun w' hw' => plan_end (Clean.normal ?_)
          have HQ2 := Lib.hid (HQ.out.trans hw')
          clear hw' c1 c2
          simp only [Act.put, List.setIfInBounds_toArray, List.set_cons_zero, List.set_cons_succ]
          go_wp2
          go_roundw
          case rel => exact ⟨k + 1, by omega, by go_num, by rw [E.out], HQ2⟩
          case measure => simp [intOf]; omega
        · have Hi := Lib.hid hi
          have E := Lib.hid (show satL B (isL B.G (k + 1 + 1)) = satStep B (satL B (isL B.G (k + 1))) (k + 1) by rw [isL_yes hi, satL_snoc])
          generalize satL B (isL B.G (k + 1)) = a at E ha ⊢
          have c2 := Grd_fld bQ.out.s a ha
          clear hi
          cases hg : sgtB (B.s (k + 1)) (B.s a)
          · have Hg := Lib.hid hg
            have E2 := Lib.hid (E.out.trans (show satStep B a (k + 1) = a by unfold satStep; rw [hg]; rfl))
            clear hg E
            go_upto_region 7 with (fail)
            refine wp_region_calm (ops' := regOf Tryd.f41 7) [0, 1, 2, 3, 4, 5, 6, 7, 8, 9, 10, 11, 12, 13] [] .fin (Quiet wr) [(0, One (.pointer (some ⟨w.heap.size, 0, none⟩))), (1, One (.int .i64 ((k + 1 : Nat) : Int))), (2, One (.bool true)), (3, One (.bool true)), (4, One (.int .i64 ((k + 1 : Nat) : Int))), (5, One (.pointer (some ⟨w.heap.size, 195, none⟩))), (6, One (.pointer (some ⟨w.heap.size, 195 + (k + 1 : Nat), none⟩))), (7, One (.float .f32 (B.s (k + 1)))), (8, One (.int .i64 (a : Int))), (9, One (.pointer (some ⟨w.heap.size, 195, none⟩))), (10, One (.pointer (some ⟨w.heap.size, 195 + a, none⟩))), (11, One (.float .f32 (B.s a))), (12, One (.bool false)), (13, One (.bool false))] (by kernel_rfl) (by kernel_rfl) (by kernel_rfl) (by kernel_rfl) (by kernel_rfl) (by kernel_rfl) (by kernel_rfl) (by kernel_rfl) rfl ((Quiet.refl _).drewN 1) ?_
            refine calm_pure (some 13) (by kernel_rfl) (by kernel_rfl) (by kernel_rfl) (fun _ => by kernel_rfl) ?_
            refine calm_pure (some 14) (by kernel_rfl) (by kernel_rfl) (by kernel_rfl) (fun _ => by kernel_rfl) ?_
            refine calm_call (some 15) 57 #[.pointer (some ⟨w.heap.size, 0, none⟩), .int .i64 ((k + 1 : Nat) : Int)] ⟨_, rfl⟩ (by kernel_rfl) (by kernel_rfl) (by kernel_rfl) (fun _ => by kernel_rfl) (fun w' hw' => (l01Is_is B.G (k + 1) hlt true Hi.out w.heap.size w' (hw'.grd bQ.out.at'.g) HG.out.g).mono fun e w2 h => ⟨_, h.1, rfl, h.2 ▸ hw'⟩) ?_
            rintro _ rfl
            refine calm_pure (some 16) (by kernel_rfl) (by kernel_rfl) (by kernel_rfl) (fun _ => by kernel_rfl) ?_
            refine calm_pure (some 17) (by kernel_rfl) (by kernel_rfl) (by kernel_rfl) (fun _ => by kernel_rfl) ?_
            refine calm_pure (some 18) (by kernel_rfl) (by kernel_rfl) (by kernel_rfl) (fun _ => by kernel_rfl) ?_
            refine calm_pure (some 19) (by kernel_rfl) (by kernel_rfl) (by kernel_rfl) (index_fld (x := .tmp 18) (y := .tmp 17) (o := 195) (by kernel_rfl) (by kernel_rfl) (by kernel_rfl) hlt) ?_
            refine calm_read (some 20) (by kernel_rfl) (by kernel_rfl) (by kernel_rfl) (fun w' hw' => load_cell (ty := 23) (x := .tmp 19) (b := w.heap.size) (o := 195 + (k + 1 : Nat)) (by kernel_rfl) (by kernel_rfl) Tryd.underlying23 rfl (kq c1 w' hw')) ?_
            refine calm_pure (some 21) (by kernel_rfl) (by kernel_rfl) (by kernel_rfl) (fun _ => by kernel_rfl) ?_
            refine calm_pure (some 22) (by kernel_rfl) (by kernel_rfl) (by kernel_rfl) (fun _ => by kernel_rfl) ?_
            refine calm_pure (some 23) (by kernel_rfl) (by kernel_rfl) (by kernel_rfl) (index_fld (x := .tmp 22) (y := .tmp 21) (o := 195) (by kernel_rfl) (by kernel_rfl) (by kernel_rfl) ha) ?_
            refine calm_read (some 24) (by kernel_rfl) (by kernel_rfl) (by kernel_rfl) (fun w' hw' => load_cell (ty := 23) (x := .tmp 23) (b := w.heap.size) (o := 195 + a) (by kernel_rfl) (by kernel_rfl) Tryd.underlying23 rfl (kq c2 w' hw')) ?_
            refine calm_pure (some 25) (by kernel_rfl) (by kernel_rfl) (by kernel_rfl) (fun _ => by rw [← Hg.out]; kernel_rfl) ?_
            refine calm_pure (some 26) (by kernel_rfl) (by kernel_rfl) (by kernel_rfl) (fun _ => by kernel_rfl) ?_
            refine calm_end fun w' hw' => plan_end (Clean.normal ?_)
            have HQ2 := Lib.hid (HQ.out.trans hw')
            clear hw' c1 c2
            simp only [Act.put, List.setIfInBounds_toArray, List.set_cons_zero, List.set_cons_succ]
            go_wp2
            go_roundw
            case rel => exact ⟨k + 1, by omega, by go_num, by rw [E2.out], HQ2⟩
            case measure => simp [intOf]; omega
          · have Hg := Lib.hid hg
            have E2 := Lib.hid (E.out.trans (show satStep B a (k + 1) = k + 1 by unfold satStep; rw [hg]; rfl))
            clear hg E
            go_upto_region 7 with (fail)
            refine wp_region_calm (ops' := regOf Tryd.f41 7) [0, 1, 2, 3, 4, 5, 6, 7, 8, 9, 10, 11, 12, 13] [] .fin (Quiet wr) [(0, One (.pointer (some ⟨w.heap.size, 0, none⟩))), (1, One (.int .i64 ((k + 1 : Nat) : Int))), (2, One (.bool true)), (3, One (.bool true)), (4, One (.int .i64 ((k + 1 : Nat) : Int))), (5, One (.pointer (some ⟨w.heap.size, 195, none⟩))), (6, One (.pointer (some ⟨w.heap.size, 195 + (k + 1 : Nat), none⟩))), (7, One (.float .f32 (B.s (k + 1)))), (8, One (.int .i64 (a : Int))), (9, One (.pointer (some ⟨w.heap.size, 195, none⟩))), (10, One (.pointer (some ⟨w.heap.size, 195 + a, none⟩))), (11, One (.float .f32 (B.s a))), (12, One (.bool true)), (13, One (.bool true))] (by kernel_rfl) (by kernel_rfl) (by kernel_rfl) (by kernel_rfl) (by kernel_rfl) (by kernel_rfl) (by kernel_rfl) (by kernel_rfl) rfl ((Quiet.refl _).drewN 1) ?_
            refine calm_pure (some 13) (by kernel_rfl) (by kernel_rfl) (by kernel_rfl) (fun _ => by kernel_rfl) ?_
            refine calm_pure (some 14) (by kernel_rfl) (by kernel_rfl) (by kernel_rfl) (fun _ => by kernel_rfl) ?_
            refine calm_call (some 15) 57 #[.pointer (some ⟨w.heap.size, 0, none⟩), .int .i64 ((k + 1 : Nat) : Int)] ⟨_, rfl⟩ (by kernel_rfl) (by kernel_rfl) (by kernel_rfl) (fun _ => by kernel_rfl) (fun w' hw' => (l01Is_is B.G (k + 1) hlt true Hi.out w.heap.size w' (hw'.grd bQ.out.at'.g) HG.out.g).mono fun e w2 h => ⟨_, h.1, rfl, h.2 ▸ hw'⟩) ?_
            rintro _ rfl
            refine calm_pure (some 16) (by kernel_rfl) (by kernel_rfl) (by kernel_rfl) (fun _ => by kernel_rfl) ?_
            refine calm_pure (some 17) (by kernel_rfl) (by kernel_rfl) (by kernel_rfl) (fun _ => by kernel_rfl) ?_
            refine calm_pure (some 18) (by kernel_rfl) (by kernel_rfl) (by kernel_rfl) (fun _ => by kernel_rfl) ?_
            refine calm_pure (some 19) (by kernel_rfl) (by kernel_rfl) (by kernel_rfl) (index_fld (x := .tmp 18) (y := .tmp 17) (o := 195) (by kernel_rfl) (by kernel_rfl) (by kernel_rfl) hlt) ?_
            refine calm_read (some 20) (by kernel_rfl) (by kernel_rfl) (by kernel_rfl) (fun w' hw' => load_cell (ty := 23) (x := .tmp 19) (b := w.heap.size) (o := 195 + (k + 1 : Nat)) (by kernel_rfl) (by kernel_rfl) Tryd.underlying23 rfl (kq c1 w' hw')) ?_
            refine calm_pure (some 21) (by kernel_rfl) (by kernel_rfl) (by kernel_rfl) (fun _ => by kernel_rfl) ?_
            refine calm_pure (some 22) (by kernel_rfl) (by kernel_rfl) (by kernel_rfl) (fun _ => by kernel_rfl) ?_
            refine calm_pure (some 23) (by kernel_rfl) (by kernel_rfl) (by kernel_rfl) (index_fld (x := .tmp 22) (y := .tmp 21) (o := 195) (by kernel_rfl) (by kernel_rfl) (by kernel_rfl) ha) ?_
            refine calm_read (some 24) (by kernel_rfl) (by kernel_rfl) (by kernel_rfl) (fun w' hw' => load_cell (ty := 23) (x := .tmp 23) (b := w.heap.size) (o := 195 + a) (by kernel_rfl) (by kernel_rfl) Tryd.underlying23 rfl (kq c2 w' hw')) ?_
            refine calm_pure (some 25) (by kernel_rfl) (by kernel_rfl) (by kernel_rfl) (fun _ => by rw [← Hg.out]; kernel_rfl) ?_
            refine calm_pure (some 26) (by kernel_rfl) (by kernel_rfl) (by kernel_rfl) (fun _ => by kernel_rfl) ?_
            refine calm_end fun w' hw' => plan_end (Clean.normal ?_)
            have HQ2 := Lib.hid (HQ.out.trans hw')
            clear hw' c1 c2
            simp only [Act.put, List.setIfInBounds_toArray, List.set_cons_zero, List.set_cons_succ]
            go_wp2
            go_roundw
            case rel => exact ⟨k + 1, by omega, by go_num, by rw [E2.out], HQ2⟩
            case measure => simp [intOf]; omega
      · obtain rfl : k = 63 := by omega
        have R3 := Lib.hid (show satV B = .tuple #[.int .i64 (satL B (isL B.G 64) : Nat), .float .f32 (B.s (satL B (isL B.G 64))), .int .i64 0] from R.out)
        rw [show 63 + 1 = 64 from rfl] at ha ⊢
        generalize satL B (isL B.G 64) = a at R3 ha ⊢
        have c2 := Grd_fld bQ.out.s a ha
        have ha2 : (a : Int) < 64 := by omega
        go_upto_region 9 with (fail)
        refine wp_region_calm (ops' := regOf Tryd.f41 9) [0, 1, 2, 3, 4, 5, 6, 7] [] .fin (Quiet wr) [(0, One (.int .i64 (a : Int))), (1, One (.int .i64 (a : Int))), (2, One (.pointer (some ⟨w.heap.size, 195, none⟩))), (3, One (.pointer (some ⟨w.heap.size, 195 + a, none⟩))), (4, One (.float .f32 (B.s a))), (5, One (.int .i64 (a : Int))), (6, One (.float .f32 (B.s a))), (7, One (.int .i64 0))] (by kernel_rfl) (by kernel_rfl) (by kernel_rfl) (by kernel_rfl) (by kernel_rfl) (by kernel_rfl) (by kernel_rfl) (by kernel_rfl) rfl ((Quiet.refl _).drewN 1) ?_
        refine calm_pure (some 28) (by kernel_rfl) (by kernel_rfl) (by kernel_rfl) (fun _ => by kernel_rfl) ?_
        refine calm_pure (some 29) (by kernel_rfl) (by kernel_rfl) (by kernel_rfl) (fun _ => by kernel_rfl) ?_
        refine calm_pure (some 30) (by kernel_rfl) (by kernel_rfl) (by kernel_rfl) (fun _ => by kernel_rfl) ?_
        refine calm_pure (some 31) (by kernel_rfl) (by kernel_rfl) (by kernel_rfl) (index_fld (x := .tmp 30) (y := .tmp 29) (o := 195) (by kernel_rfl) (by kernel_rfl) (by kernel_rfl) ha) ?_
        refine calm_read (some 32) (by kernel_rfl) (by kernel_rfl) (by kernel_rfl) (fun w' hw' => load_cell (ty := 23) (x := .tmp 31) (b := w.heap.size) (o := 195 + a) (by kernel_rfl) (by kernel_rfl) Tryd.underlying23 rfl (kq c2 w' hw')) ?_
        refine calm_pure (some 2) (by kernel_rfl) (by kernel_rfl) (by kernel_rfl) (fun _ => by kernel_rfl) ?_
        refine calm_pure (some 3) (by kernel_rfl) (by kernel_rfl) (by kernel_rfl) (fun _ => by kernel_rfl) ?_
        refine calm_pure (some 4) (by kernel_rfl) (by kernel_rfl) (by kernel_rfl) (fun _ => by kernel_rfl) ?_
        refine calm_end fun w' hw' => plan_end (Clean.normal ?_)
        have HQ2 := Lib.hid (HQ.out.trans hw')
        clear hw' c2
        simp only [Act.put, List.setIfInBounds_toArray, List.set_cons_zero, List.set_cons_succ]
        go_wp2
        go_ret3
        exact ⟨congrArg Ending.returned R3.out.symm, HB1.out.trans (HQ2.out.below _)⟩

set_option maxRecDepth 100000 in
set_option maxHeartbeats 4000000 in
theorem implSat_any (B : Brn) (w : World) (hG : BrnOk B) (hT : TabAt w) :
    Calls Tryd.prog 42 #[.agg (BrnA B)] w fun e w' => e = .returned (satV B) ∧ Below w.heap.size w w' := by
  have m64 := cellsN_lt B.G
  cases hv : brnB B
  · have Hv := Lib.hid hv
    have R := Lib.hid (show satV B = .tuple #[.int .i64 0, .float .f32 0, .int .i64 1] by unfold satV; rw [hv]; rfl)
    clear hv
    go_enter Tryd.func42, Tryd.ntmps42
    go_upto_region 1 with (fail)
    obtain ⟨W, hW, hs, b1, hB⟩ := bbox1 B 42 w
    rw [hW]
    clear hW
    have r1 := b1.range
    have B1 := Lib.hid b1
    have HB := Lib.hid hB
    have HG := Lib.hid hG
    have TW := Lib.hid (hT.below hB (tab_lt hT))
    have hl : w.heap.size < W.heap.size := by omega
    have hgl := tab_lt hT
    clear b1 hB hG hT hs
    go_wp2_with (first | (refine ld_stage 42 rfl ?_; refine wpList_load_mid rfl 42 _ rfl (w.heap.size) 0 rfl (BrnL B) _ r1 Tryd.underlying42 rfl (by rw [BrnL_length]; exact infoBrine) ?_) | (go_at_call 24; have hc := (implValidB_any B W HG.out TW.out); rw [Hv.out] at hc; refine hc.mono ?_; clear hc; rintro e V ⟨rfl, hb1⟩; have Hb1 := Lib.hid hb1; clear hb1))
    go_ret3
    exact ⟨congrArg Ending.returned R.out.symm, HB.out.trans (Hb1.out.mono (by omega))⟩
  have wd := valid_ext (brn_valid hv)
  have Hv := Lib.hid hv
  have R := Lib.hid (show satV B = .tuple #[.int .i64 (satL B (isL B.G 64) : Nat), .float .f32 (B.s (satL B (isL B.G 64))), .int .i64 0] by unfold satV; rw [hv]; rfl)
  clear hv
  refine (callsIn_wide (n := 6)).1 (callsIn_of_wp_marks Tryd.func42 rfl trivial ?_ rfl)
  simp only [Tryd.ntmps42, List.size_toArray, List.length_cons, List.length_nil, Nat.reduceAdd, Nat.reduceSub, Array.replicate_succ, Array.replicate_zero, List.push_toArray, List.append_toArray, List.nil_append, List.cons_append]
  refine wpIn_wide.2 ?_
  go_upto_region 1 with (fail)
  obtain ⟨W, hW, hs, b1, hB⟩ := bbox1 B 42 w
  rw [hW]
  clear hW
  have r1 := b1.range
  have B1 := Lib.hid b1
  have HB := Lib.hid hB
  have HG := Lib.hid hG
  have TW := Lib.hid (hT.below hB (tab_lt hT))
  have hl : w.heap.size < W.heap.size := by omega
  have hgl := tab_lt hT
  clear b1 hB hG hT hs
  go_upto_region 3 with (first | (refine ld_stage 42 rfl ?_; refine wpList_load_mid rfl 42 _ rfl (w.heap.size) 0 rfl (BrnL B) _ r1 Tryd.underlying42 rfl (by rw [BrnL_length]; exact infoBrine) ?_) | (go_at_call 24; have hc := (implValidB_any B W HG.out TW.out); rw [Hv.out] at hc; refine hc.mono ?_; clear hc; rintro e V ⟨rfl, hb1⟩; have Hb1 := Lib.hid hb1; clear hb1))
  have zV := Hb1.out.size
  have bV := B1.out.below Hb1.out (by omega)
  have TV := TW.out.below Hb1.out (tab_lt TW.out)
  have HV := HB.out.trans (Hb1.out.mono (by omega))
  clear B1 TW HB r1
  go_upto_region 4 with (fail)
  obtain ⟨X, hX, zX, rX, uX, hbX⟩ := one_boxT #[.int .i64 0] 2 V
  rw [hX]
  obtain ⟨N, hN⟩ : ∃ N, V.heap.size = N := ⟨_, rfl⟩
  rw [hN] at rX uX ⊢
  have cN := rX 0 _ rfl
  have fN := (uX 0 (by simp)).2
  rw [Nat.zero_add] at cN fN
  have bX := bV.below hbX (by omega)
  have TX := TV.below hbX (tab_lt TV)
  have HX := HV.trans (hbX.mono (by omega))
  clear hX rX uX bV TV HV hbX
  have BX := Lib.hid bX
  go_upto_region 5 with (first | (go_at_call 50; refine (cells_any B.G B.G.wide.toNat B.G.high.toNat (by omega) (by omega) (by omega) (by omega) _ _ BX.out.at'.g).mono ?_; rintro e w' ⟨rfl, rfl⟩) | (go_at_call 51; refine (bitsIn_any (cellsN B.G) _).mono ?_; rintro e w' ⟨rfl, rfl⟩))
  obtain ⟨Y, hY, zY, rY, uY, hbY⟩ := one_boxT #[.int .u64 (cellsN B.G)] 25 X
  rw [hY]
  have hm0 := rY 0 _ rfl
  rw [Nat.zero_add, zX, hN] at hm0
  have BY := Lib.hid (bX.below hbY (by omega))
  have cN := kc cN (by omega) _ hbY
  have fN := (hbY.frozen (p := ⟨N, 0, none⟩) (by simp; omega)).trans fN
  have TY := TX.below hbY (tab_lt TX)
  have HY := Lib.hid (HX.trans (hbY.mono (by omega)))
  clear hY rY uY bX TX HX hbY BX wd
  refine (wpIn_wide (n := 6)).1 (wp_bits 12 13 6 (N + 1) N (cellsN B.G) m64 rfl hm0 TY (by omega) (by omega)
    (fun pre W2 => W2.cell? ⟨N, 0, none⟩ = some (.int .i64 (satL B pre : Nat)) ∧ W2.frozen? ⟨N, 0, none⟩ = false ∧ ∀ i ∈ pre, i < 64) (fun _ _ _ => False)
    (fun s A B h ⟨h1, h2, h3⟩ => ⟨h.cell h1, (h.frozen h1).trans h2, h3⟩) (fun _ _ _ _ _ h => h) ⟨cN, fN, fun i hi => by cases hi⟩ ?assign ?body ?done ?stop)
  case assign =>
    intro l x W K hK
    simp only [List.setIfInBounds_toArray, List.set_cons_zero, List.set_cons_succ] at hK ⊢
    gi_wp2
    exact hK
  case body =>
    rintro l pre y W2 ⟨h1, h2, h3⟩ hB2 hbit hi
    simp only [List.setIfInBounds_toArray, List.set_cons_zero, List.set_cons_succ]
    have hN' : nos (pre ++ [y]) = nos pre ++ [y.1] := nos_snoc _ _
    generalize y.1 = i at hi hN' hbit ⊢
    have HN' := Lib.hid hN'
    have ha := satL_lt B (nos pre) h3
    have E := Lib.hid (satL_snoc B (nos pre) i)
    generalize satL B (nos pre) = a at h1 ha E
    have c1 := Grd_fld (BY.out.below hB2 (by omega)).s i hi
    have c2 := Grd_fld (BY.out.below hB2 (by omega)).s a ha
    have HB2 := Lib.hid hB2
    have H3 := Lib.hid h3
    have hi2 : (i : Int) < 64 := by omega
    clear hN' hB2 h3 hbit
    refine wpIn_block ?_
    cases hg : sgtB (B.s i) (B.s a)
    · have Hg := Lib.hid hg
      have E2 := Lib.hid (E.out.trans (show satStep B a i = a by unfold satStep; rw [hg]; rfl))
      clear hg E
      gi_upto_region 6 with (fail)
      refine wpIn_region_calm (ops' := regOf Tryd.f42 6) [0, 1, 2, 3, 4, 5, 6, 7, 8] [] .fin (Quiet W2) [(0, One (.int .i64 (i : Int))), (1, One (.pointer (some ⟨w.heap.size, 195, none⟩))), (2, One (.pointer (some ⟨w.heap.size, 195 + i, none⟩))), (3, One (.float .f32 (B.s i))), (4, One (.int .i64 (a : Int))), (5, One (.pointer (some ⟨w.heap.size, 195, none⟩))), (6, One (.pointer (some ⟨w.heap.size, 195 + a, none⟩))), (7, One (.float .f32 (B.s a))), (8, One (.bool false))] (by kernel_rfl) (by kernel_rfl) (by kernel_rfl) (by kernel_rfl) (by kernel_rfl) (by kernel_rfl) (by kernel_rfl) (by kernel_rfl) (by kernel_rfl) rfl ((Quiet.refl _).drewN 1) ?_
      refine calm_pure (some 14) (by kernel_rfl) (by kernel_rfl) (by kernel_rfl) (fun _ => by kernel_rfl) ?_
      refine calm_pure (some 15) (by kernel_rfl) (by kernel_rfl) (by kernel_rfl) (fun _ => by kernel_rfl) ?_
      refine calm_pure (some 16) (by kernel_rfl) (by kernel_rfl) (by kernel_rfl) (index_fld (x := .tmp 15) (y := .tmp 14) (o := 195) (by kernel_rfl) (by kernel_rfl) (by kernel_rfl) hi) ?_
      refine calm_read (some 17) (by kernel_rfl) (by kernel_rfl) (by kernel_rfl) (fun w' hw' => load_cell (ty := 23) (x := .tmp 16) (b := w.heap.size) (o := 195 + i) (by kernel_rfl) (by kernel_rfl) Tryd.underlying23 rfl (kq c1 w' hw')) ?_
      refine calm_read (some 18) (by kernel_rfl) (by kernel_rfl) (by kernel_rfl) (fun w' hw' => load_cell (ty := 2) (x := .tmp 5) (b := N) (o := 0) (by kernel_rfl) (by kernel_rfl) Tryd.underlying2 rfl (kq h1 w' hw')) ?_
      refine calm_pure (some 19) (by kernel_rfl) (by kernel_rfl) (by kernel_rfl) (fun _ => by kernel_rfl) ?_
      refine calm_pure (some 20) (by kernel_rfl) (by kernel_rfl) (by kernel_rfl) (index_fld (x := .tmp 19) (y := .tmp 18) (o := 195) (by kernel_rfl) (by kernel_rfl) (by kernel_rfl) ha) ?_
      refine calm_read (some 21) (by kernel_rfl) (by kernel_rfl) (by kernel_rfl) (fun w' hw' => load_cell (ty := 23) (x := .tmp 20) (b := w.heap.size) (o := 195 + a) (by kernel_rfl) (by kernel_rfl) Tryd.underlying23 rfl (kq c2 w' hw')) ?_
      refine calm_pure (some 22) (by kernel_rfl) (by kernel_rfl) (by kernel_rfl) (fun _ => by rw [← Hg.out]; kernel_rfl) ?_
      refine calm_end fun w' hw' => plan_end (Clean.normal ?_)
      have Qw := Lib.hid hw'
      have k1 := Lib.hid (kq h1 w' hw')
      have k2 := Lib.hid (hw'.frozen h2)
      clear hw' c1 c2 h1 h2
      simp only [Act.put, List.setIfInBounds_toArray, List.set_cons_zero, List.set_cons_succ]
      gi_wp2
      exact ⟨KeepsOthers.of_below' (Qw.out.below _), Qw.out.below _, ⟨by rw [HN'.out, E2.out]; exact k1.out, k2.out, fun j hj => by rw [HN'.out, List.mem_append, List.mem_singleton] at hj; rcases hj with h | rfl; exact H3.out j h; exact hi⟩, HB2.out.trans (Qw.out.below _)⟩
    · have Hg := Lib.hid hg
      have E2 := Lib.hid (E.out.trans (show satStep B a i = i by unfold satStep; rw [hg]; rfl))
      clear hg E
      gi_upto_region 6 with (fail)
      refine wpIn_region_calm (ops' := regOf Tryd.f42 6) [0, 1, 2, 3, 4, 5, 6, 7, 8] [] .fin (Quiet W2) [(0, One (.int .i64 (i : Int))), (1, One (.pointer (some ⟨w.heap.size, 195, none⟩))), (2, One (.pointer (some ⟨w.heap.size, 195 + i, none⟩))), (3, One (.float .f32 (B.s i))), (4, One (.int .i64 (a : Int))), (5, One (.pointer (some ⟨w.heap.size, 195, none⟩))), (6, One (.pointer (some ⟨w.heap.size, 195 + a, none⟩))), (7, One (.float .f32 (B.s a))), (8, One (.bool true))] (by kernel_rfl) (by kernel_rfl) (by kernel_rfl) (by kernel_rfl) (by kernel_rfl) (by kernel_rfl) (by kernel_rfl) (by kernel_rfl) (by kernel_rfl) rfl ((Quiet.refl _).drewN 1) ?_
      refine calm_pure (some 14) (by kernel_rfl) (by kernel_rfl) (by kernel_rfl) (fun _ => by kernel_rfl) ?_
      refine calm_pure (some 15) (by kernel_rfl) (by kernel_rfl) (by kernel_rfl) (fun _ => by kernel_rfl) ?_
      refine calm_pure (some 16) (by kernel_rfl) (by kernel_rfl) (by kernel_rfl) (index_fld (x := .tmp 15) (y := .tmp 14) (o := 195) (by kernel_rfl) (by kernel_rfl) (by kernel_rfl) hi) ?_
      refine calm_read (some 17) (by kernel_rfl) (by kernel_rfl) (by kernel_rfl) (fun w' hw' => load_cell (ty := 23) (x := .tmp 16) (b := w.heap.size) (o := 195 + i) (by kernel_rfl) (by kernel_rfl) Tryd.underlying23 rfl (kq c1 w' hw')) ?_
      refine calm_read (some 18) (by kernel_rfl) (by kernel_rfl) (by kernel_rfl) (fun w' hw' => load_cell (ty := 2) (x := .tmp 5) (b := N) (o := 0) (by kernel_rfl) (by kernel_rfl) Tryd.underlying2 rfl (kq h1 w' hw')) ?_
      refine calm_pure (some 19) (by kernel_rfl) (by kernel_rfl) (by kernel_rfl) (fun _ => by kernel_rfl) ?_
      refine calm_pure (some 20) (by kernel_rfl) (by kernel_rfl) (by kernel_rfl) (index_fld (x := .tmp 19) (y := .tmp 18) (o := 195) (by kernel_rfl) (by kernel_rfl) (by kernel_rfl) ha) ?_
      refine calm_read (some 21) (by kernel_rfl) (by kernel_rfl) (by kernel_rfl) (fun w' hw' => load_cell (ty := 23) (x := .tmp 20) (b := w.heap.size) (o := 195 + a) (by kernel_rfl) (by kernel_rfl) Tryd.underlying23 rfl (kq c2 w' hw')) ?_
      refine calm_pure (some 22) (by kernel_rfl) (by kernel_rfl) (by kernel_rfl) (fun _ => by rw [← Hg.out]; kernel_rfl) ?_
      refine calm_end fun w' hw' => plan_end (Clean.normal ?_)
      have Qw := Lib.hid hw'
      have k1 := kq h1 w' hw'
      have k2 := hw'.frozen h2
      clear hw' c1 c2 h1 h2
      simp only [Act.put, List.setIfInBounds_toArray, List.set_cons_zero, List.set_cons_succ]
      gi_wp2
      refine ⟨KeepsOthers.trans (B := w') (KeepsOthers.of_below' (Qw.out.below _)) (KeepsOthers.setCell _ _ _), (Qw.out.below _).setCell (p := ⟨N, 0, none⟩) (Nat.le_refl _) _, ⟨?_, ?_, ?_⟩, HB2.out.trans ((Qw.out.below _).setCell (p := ⟨N, 0, none⟩) (Nat.le_refl _) _)⟩
      · rw [HN'.out, E2.out]; exact World.cell?_setCell_same' _ _ _ (by rw [k1]; rfl)
      · rw [World.frozen?_setCell]; exact k2
      · intro j hj
        rw [HN'.out, List.mem_append, List.mem_singleton] at hj
        rcases hj with h | rfl
        · exact H3.out j h
        · exact hi
  case done =>
    rintro D W2 hD ⟨h1, h2, h3⟩ hB2 hK
    rw [← isL_full] at h1
    have ha := satL_lt B _ (isL_lt (G := B.G) (k := 64) (by omega))
    generalize satL B (isL B.G 64) = a at h1 ha R
    have c2 := Grd_fld (BY.out.below hB2 (by omega)).s a ha
    have ha2 : (a : Int) < 64 := by omega
    have HB3 := Lib.hid (HY.out.trans (hB2.mono (by omega)))
    have hwD : w.heap.size ≤ D := by omega
    clear h2 h3 hm0 hD hB2 cN fN
    go_upto_region 8 with (fail)
    refine wp_region_calm (ops' := regOf Tryd.f42 8) [0, 1, 2, 3, 4, 5, 6, 7] [] .fin (Quiet W2) [(0, One (.int .i64 (a : Int))), (1, One (.int .i64 (a : Int))), (2, One (.pointer (some ⟨w.heap.size, 195, none⟩))), (3, One (.pointer (some ⟨w.heap.size, 195 + a, none⟩))), (4, One (.float .f32 (B.s a))), (5, One (.int .i64 (a : Int))), (6, One (.float .f32 (B.s a))), (7, One (.int .i64 0))] (by kernel_rfl) (by kernel_rfl) (by kernel_rfl) (by kernel_rfl) (by kernel_rfl) (by kernel_rfl) (by kernel_rfl) (by kernel_rfl) rfl ((Quiet.refl _).drewN 1) ?_
    refine calm_read (some 24) (by kernel_rfl) (by kernel_rfl) (by kernel_rfl) (fun w' hw' => load_cell (ty := 2) (x := .tmp 5) (b := N) (o := 0) (by kernel_rfl) (by kernel_rfl) Tryd.underlying2 rfl (kq h1 w' hw')) ?_
    refine calm_read (some 25) (by kernel_rfl) (by kernel_rfl) (by kernel_rfl) (fun w' hw' => load_cell (ty := 2) (x := .tmp 5) (b := N) (o := 0) (by kernel_rfl) (by kernel_rfl) Tryd.underlying2 rfl (kq h1 w' hw')) ?_
    refine calm_pure (some 26) (by kernel_rfl) (by kernel_rfl) (by kernel_rfl) (fun _ => by kernel_rfl) ?_
    refine calm_pure (some 27) (by kernel_rfl) (by kernel_rfl) (by kernel_rfl) (index_fld (x := .tmp 26) (y := .tmp 25) (o := 195) (by kernel_rfl) (by kernel_rfl) (by kernel_rfl) ha) ?_
    refine calm_read (some 28) (by kernel_rfl) (by kernel_rfl) (by kernel_rfl) (fun w' hw' => load_cell (ty := 23) (x := .tmp 27) (b := w.heap.size) (o := 195 + a) (by kernel_rfl) (by kernel_rfl) Tryd.underlying23 rfl (kq c2 w' hw')) ?_
    refine calm_pure (some 2) (by kernel_rfl) (by kernel_rfl) (by kernel_rfl) (fun _ => by kernel_rfl) ?_
    refine calm_pure (some 3) (by kernel_rfl) (by kernel_rfl) (by kernel_rfl) (fun _ => by kernel_rfl) ?_
    refine calm_pure (some 4) (by kernel_rfl) (by kernel_rfl) (by kernel_rfl) (fun _ => by kernel_rfl) ?_
    refine calm_end fun w' hw' => plan_end (Clean.normal ?_)
    have Qw := Lib.hid hw'
    have hK4 := (Quiet.heap hw').trans hK
    clear hw' c2 h1
    simp only [Act.put, List.setIfInBounds_toArray, List.set_cons_zero, List.set_cons_succ]
    go_wp2
    exact ret_marks hK4 (fun W' _ => by simp [results, Tryd.results42, go_sem] <;> rfl) (fun W' _ hb => ⟨congrArg Ending.returned R.out.symm, (HB3.out.trans (Qw.out.below _)).trans (hb _ hwD)⟩)
  case stop =>
    rintro D c pre W _ _ h _ _
    exact h.elim
end Go.Proofs.YtjmekgogaiokpaaDoor
