/- The greatest drop, on both sides. Condition: the numbers fit 16 bits. -/
import Derived.Test.YtjhaonfdapldcaaDoorArr
import Derived.Test.YtjhaonfdapldcaaDoorIntO
namespace Go.Proofs.YtjhaonfdapldcaaDoor
open Go Go.RowKit
set_option linter.unusedSimpArgs false
set_option linter.unusedVariables false
def In16 (f : Nat → Int) : Prop := ∀ i, i < 64 → -32768 ≤ f i ∧ f i ≤ 32767
/-- What is handed back. -/
def drpV (a b : Nat → Int) : Value := .tuple #[.int .i64 (mxd (fun i => a i - b i) 63 : Int), .int .i64 (a (mxd (fun i => a i - b i) 63) - b (mxd (fun i => a i - b i) 63))]
theorem in_sub16 {x y : Int} (hx : -32768 ≤ x ∧ x ≤ 32767) (hy : -32768 ≤ y ∧ y ≤ 32767) : -9223372036854775808 ≤ x - y ∧ x - y ≤ 9223372036854775807 := by omega

set_option maxRecDepth 100000 in
set_option maxHeartbeats 4000000 in
theorem specDrops_any (a b : Nat → Int) (ha : In16 a) (hb : In16 b) (w : World) :
    Calls Tryd.prog 25 #[.agg (Hf a), .agg (Hf b)] w fun e w' => e = .returned (drpV a b) ∧ Below w.heap.size w w' := by
  obtain ⟨W, hW, hz, p1, p2, hB⟩ := two_boxes (Hf a) (Hf b) 36 36 w
  have HW := Lib.hid hW
  have P1 := Lib.hid p1
  have P2 := Lib.hid p2
  have HB := Lib.hid hB
  have HA := Lib.hid ha
  have HBb := Lib.hid hb
  clear hW hz p1 p2 hB ha hb
  go_enter Tryd.func25, Tryd.ntmps25
  go_upto_region 1 with (fail)
  rw [HW.out]
  go_upto_region 3 with (fail)
  go_loopw [6, 7] (fun m i wr => ∃ k : Nat, 1 ≤ k ∧ k ≤ 64 ∧ i = .int .i64 k ∧ m = .int .i64 (mxd (fun i => a i - b i) (k - 1) : Nat) ∧ Hid (Quiet W wr)) (fun _ i _ => 64 - (intOf i).toNat)
  case atStart => exact ⟨1, by omega, by omega, rfl, rfl, Lib.hid (Quiet.refl _)⟩
  case round =>
    obtain ⟨k, hk1, hk, rfl, rfl, HQ⟩ := hrel
    have hm := mxd_le (fun i => a i - b i) (k - 1)
    have HM := Lib.hid (show k < 64 → mxd (fun i => a i - b i) k = if a (mxd (fun i => a i - b i) (k - 1)) - b (mxd (fun i => a i - b i) (k - 1)) < a k - b k then k else mxd (fun i => a i - b i) (k - 1) from fun _ => by
      obtain ⟨j, rfl⟩ : ∃ j, k = j + 1 := ⟨k - 1, by omega⟩
      rfl)
    obtain ⟨m, hmm⟩ : ∃ m, mxd (fun i => a i - b i) (k - 1) = m := ⟨_, rfl⟩
    rw [hmm] at hm HM ⊢
    have HMM := Lib.hid hmm
    have hm64 : m < 64 := by omega
    have cam := (HQ.out.range P1.out) |> fun h => Hf_cell h m hm64
    have cbm := (HQ.out.range P2.out) |> fun h => Hf_cell h m hm64
    have E2 := Lib.hid (in_sub16 (HA.out m hm64) (HBb.out m hm64))
    clear hmm
    by_cases hk64 : k < 64
    · have hlt : (k : Int) < 64 := by omega
      have cak := (HQ.out.range P1.out) |> fun h => Hf_cell h k hk64
      have cbk := (HQ.out.range P2.out) |> fun h => Hf_cell h k hk64
      have E1 := Lib.hid (in_sub16 (HA.out k hk64) (HBb.out k hk64))
      go_upto_region 5 with (fail)
      refine wp_region_calm (ops' := regOf Tryd.f25 5) [0, 1, 2, 3, 4, 5, 6, 7, 8, 9, 10, 11, 12, 13, 14, 15, 16, 17, 18] [] .fin (Quiet wr) [(0, One (.int .i64 (k : Int))), (1, One (.pointer (some ⟨w.heap.size, 0 + k, none⟩))), (2, One (.int .i16 (a k))), (3, One (.int .i64 (a k))), (4, One (.int .i64 (k : Int))), (5, One (.pointer (some ⟨w.heap.size + 1, 0 + k, none⟩))), (6, One (.int .i16 (b k))), (7, One (.int .i64 (b k))), (8, One (.int .i64 (a k - b k))), (9, One (.int .i64 (m : Int))), (10, One (.pointer (some ⟨w.heap.size, 0 + m, none⟩))), (11, One (.int .i16 (a m))), (12, One (.int .i64 (a m))), (13, One (.int .i64 (m : Int))), (14, One (.pointer (some ⟨w.heap.size + 1, 0 + m, none⟩))), (15, One (.int .i16 (b m))), (16, One (.int .i64 (b m))), (17, One (.int .i64 (a m - b m))), (18, One (.bool (decide (a k - b k > a m - b m))))] (by kernel_rfl) (by kernel_rfl) (by kernel_rfl) (by kernel_rfl) (by kernel_rfl) (by kernel_rfl) (by kernel_rfl) (by kernel_rfl) rfl ((Quiet.refl _).drewN 1) ?_
      refine calm_pure (some 12) (by kernel_rfl) (by kernel_rfl) (by kernel_rfl) (fun _ => by kernel_rfl) ?_
      refine calm_pure (some 13) (by kernel_rfl) (by kernel_rfl) (by kernel_rfl) (index_H (x := .tmp 2) (y := .tmp 12) (o := 0) (by kernel_rfl) (by kernel_rfl) (by kernel_rfl) hk64) ?_
      refine calm_read (some 14) (by kernel_rfl) (by kernel_rfl) (by kernel_rfl) (fun w' hw' => load_cell (ty := 35) (x := .tmp 13) (b := w.heap.size) (o := 0 + k) (by kernel_rfl) (by kernel_rfl) Tryd.underlying35 rfl (kq (cak) w' hw')) ?_
      refine calm_pure (some 15) (by kernel_rfl) (by kernel_rfl) (by kernel_rfl) (fun _ => cv16 (x := .tmp 14) (by kernel_rfl) (by kernel_rfl) (HA.out k hk64) _) ?_
      refine calm_pure (some 16) (by kernel_rfl) (by kernel_rfl) (by kernel_rfl) (fun _ => by kernel_rfl) ?_
      refine calm_pure (some 17) (by kernel_rfl) (by kernel_rfl) (by kernel_rfl) (index_H (x := .tmp 3) (y := .tmp 16) (o := 0) (by kernel_rfl) (by kernel_rfl) (by kernel_rfl) hk64) ?_
      refine calm_read (some 18) (by kernel_rfl) (by kernel_rfl) (by kernel_rfl) (fun w' hw' => load_cell (ty := 35) (x := .tmp 17) (b := w.heap.size + 1) (o := 0 + k) (by kernel_rfl) (by kernel_rfl) Tryd.underlying35 rfl (kq (cbk) w' hw')) ?_
      refine calm_pure (some 19) (by kernel_rfl) (by kernel_rfl) (by kernel_rfl) (fun _ => cv16 (x := .tmp 18) (by kernel_rfl) (by kernel_rfl) (HBb.out k hk64) _) ?_
      refine calm_pure (some 20) (by kernel_rfl) (by kernel_rfl) (by kernel_rfl) (fun _ => subI (ty := 2) (tz := 2) (p := .tmp 15) (q := .tmp 19) (by kernel_rfl) (by kernel_rfl) (by kernel_rfl) rfl E1.out _) ?_
      refine calm_pure (some 21) (by kernel_rfl) (by kernel_rfl) (by kernel_rfl) (fun _ => by kernel_rfl) ?_
      refine calm_pure (some 22) (by kernel_rfl) (by kernel_rfl) (by kernel_rfl) (index_H (x := .tmp 2) (y := .tmp 21) (o := 0) (by kernel_rfl) (by kernel_rfl) (by kernel_rfl) hm64) ?_
      refine calm_read (some 23) (by kernel_rfl) (by kernel_rfl) (by kernel_rfl) (fun w' hw' => load_cell (ty := 35) (x := .tmp 22) (b := w.heap.size) (o := 0 + m) (by kernel_rfl) (by kernel_rfl) Tryd.underlying35 rfl (kq (cam) w' hw')) ?_
      refine calm_pure (some 24) (by kernel_rfl) (by kernel_rfl) (by kernel_rfl) (fun _ => cv16 (x := .tmp 23) (by kernel_rfl) (by kernel_rfl) (HA.out m hm64) _) ?_
      refine calm_pure (some 25) (by kernel_rfl) (by kernel_rfl) (by kernel_rfl) (fun _ => by kernel_rfl) ?_
      refine calm_pure (some 26) (by kernel_rfl) (by kernel_rfl) (by kernel_rfl) (index_H (x := .tmp 3) (y := .tmp 25) (o := 0) (by kernel_rfl) (by kernel_rfl) (by kernel_rfl) hm64) ?_
      refine calm_read (some 27) (by kernel_rfl) (by kernel_rfl) (by kernel_rfl) (fun w' hw' => load_cell (ty := 35) (x := .tmp 26) (b := w.heap.size + 1) (o := 0 + m) (by kernel_rfl) (by kernel_rfl) Tryd.underlying35 rfl (kq (cbm) w' hw')) ?_
      refine calm_pure (some 28) (by kernel_rfl) (by kernel_rfl) (by kernel_rfl) (fun _ => cv16 (x := .tmp 27) (by kernel_rfl) (by kernel_rfl) (HBb.out m hm64) _) ?_
      refine calm_pure (some 29) (by kernel_rfl) (by kernel_rfl) (by kernel_rfl) (fun _ => subI (ty := 2) (tz := 2) (p := .tmp 24) (q := .tmp 28) (by kernel_rfl) (by kernel_rfl) (by kernel_rfl) rfl E2.out _) ?_
      refine calm_pure (some 30) (by kernel_rfl) (by kernel_rfl) (by kernel_rfl) (fun _ => by kernel_rfl) ?_
      refine calm_end fun w' hw' => plan_end (Clean.normal ?_)
      simp only [Act.put, List.setIfInBounds_toArray, List.set_cons_zero, List.set_cons_succ]
      have HQ1 := Lib.hid (HQ.out.trans hw')
      have HM1 := Lib.hid (HM.out hk64)
      clear cam cbm cak cbk E1 E2 hw' HM
      by_cases hc : a k - b k > a m - b m
      · have E : mxd (fun i => a i - b i) k = k := by rw [HM1.out, if_pos (by omega)]
        have EE := Lib.hid E
        clear E
        go_wp2
        go_roundw
        case rel => exact ⟨k + 1, by omega, by omega, by go_num, by rw [Nat.add_sub_cancel, EE.out], HQ1⟩
        case measure => simp [intOf]; omega
      · have E : mxd (fun i => a i - b i) k = m := by rw [HM1.out, if_neg (by omega)]
        have EE := Lib.hid E
        clear E
        go_wp2
        go_roundw
        case rel => exact ⟨k + 1, by omega, by omega, by go_num, by rw [Nat.add_sub_cancel, EE.out], HQ1⟩
        case measure => simp [intOf]; omega
    · obtain rfl : k = 64 := by omega
      go_upto_region 7 with (fail)
      refine wp_region_calm (ops' := regOf Tryd.f25 7) [0, 1, 2, 3, 4, 5, 6, 7, 8, 9, 10, 11] [] .fin (Quiet wr) [(0, One (.int .i64 (m : Int))), (1, One (.int .i64 (m : Int))), (2, One (.pointer (some ⟨w.heap.size, 0 + m, none⟩))), (3, One (.int .i16 (a m))), (4, One (.int .i64 (a m))), (5, One (.int .i64 (m : Int))), (6, One (.pointer (some ⟨w.heap.size + 1, 0 + m, none⟩))), (7, One (.int .i16 (b m))), (8, One (.int .i64 (b m))), (9, One (.int .i64 (a m - b m))), (10, One (.int .i64 (m : Int))), (11, One (.int .i64 (a m - b m)))] (by kernel_rfl) (by kernel_rfl) (by kernel_rfl) (by kernel_rfl) (by kernel_rfl) (by kernel_rfl) (by kernel_rfl) (by kernel_rfl) rfl ((Quiet.refl _).drewN 1) ?_
      refine calm_pure (some 32) (by kernel_rfl) (by kernel_rfl) (by kernel_rfl) (fun _ => by kernel_rfl) ?_
      refine calm_pure (some 33) (by kernel_rfl) (by kernel_rfl) (by kernel_rfl) (fun _ => by kernel_rfl) ?_
      refine calm_pure (some 34) (by kernel_rfl) (by kernel_rfl) (by kernel_rfl) (index_H (x := .tmp 2) (y := .tmp 33) (o := 0) (by kernel_rfl) (by kernel_rfl) (by kernel_rfl) hm64) ?_
      refine calm_read (some 35) (by kernel_rfl) (by kernel_rfl) (by kernel_rfl) (fun w' hw' => load_cell (ty := 35) (x := .tmp 34) (b := w.heap.size) (o := 0 + m) (by kernel_rfl) (by kernel_rfl) Tryd.underlying35 rfl (kq (cam) w' hw')) ?_
      refine calm_pure (some 36) (by kernel_rfl) (by kernel_rfl) (by kernel_rfl) (fun _ => cv16 (x := .tmp 35) (by kernel_rfl) (by kernel_rfl) (HA.out m hm64) _) ?_
      refine calm_pure (some 37) (by kernel_rfl) (by kernel_rfl) (by kernel_rfl) (fun _ => by kernel_rfl) ?_
      refine calm_pure (some 38) (by kernel_rfl) (by kernel_rfl) (by kernel_rfl) (index_H (x := .tmp 3) (y := .tmp 37) (o := 0) (by kernel_rfl) (by kernel_rfl) (by kernel_rfl) hm64) ?_
      refine calm_read (some 39) (by kernel_rfl) (by kernel_rfl) (by kernel_rfl) (fun w' hw' => load_cell (ty := 35) (x := .tmp 38) (b := w.heap.size + 1) (o := 0 + m) (by kernel_rfl) (by kernel_rfl) Tryd.underlying35 rfl (kq (cbm) w' hw')) ?_
      refine calm_pure (some 40) (by kernel_rfl) (by kernel_rfl) (by kernel_rfl) (fun _ => cv16 (x := .tmp 39) (by kernel_rfl) (by kernel_rfl) (HBb.out m hm64) _) ?_
      refine calm_pure (some 41) (by kernel_rfl) (by kernel_rfl) (by kernel_rfl) (fun _ => subI (ty := 2) (tz := 2) (p := .tmp 36) (q := .tmp 40) (by kernel_rfl) (by kernel_rfl) (by kernel_rfl) rfl E2.out _) ?_
      refine calm_pure (some 4) (by kernel_rfl) (by kernel_rfl) (by kernel_rfl) (fun _ => by kernel_rfl) ?_
      refine calm_pure (some 5) (by kernel_rfl) (by kernel_rfl) (by kernel_rfl) (fun _ => by kernel_rfl) ?_
      refine calm_end fun w' hw' => plan_end (Clean.normal ?_)
      simp only [Act.put, List.setIfInBounds_toArray, List.set_cons_zero, List.set_cons_succ]
      have HQ1 := Lib.hid (HQ.out.trans hw')
      clear cam cbm E2 hw' HM
      go_wp2
      go_ret2
      exact ⟨by unfold drpV; rw [HMM.out]; rfl, HB.out.trans (HQ1.out.below _)⟩

/-! The program's. -/
theorem part_hf (f : Nat → Int) (i : Nat) (hi : i < 64) (w : World) : (part 35 (Hf f) (i * 1)).run Tryd.prog w = .ok (.int .i16 (f i)) w := by
  have h := Hf_at f i hi
  simp [part, isAgg, run_underlying Tryd.underlying35, h]
theorem equal_i16 (d : Nat) (a b : Int) (w : World) : (Op.equalIn (d + 1) 35 (.int .i16 a) (.int .i16 b)).run Tryd.prog w = .ok (a == b) w := by
  simp [Op.equalIn, run_underlying Tryd.underlying35]
def eqH (f g : Nat → Int) : Bool := (List.range 64).all fun i => f i == g i
theorem eqItems_hf (d : Nat) (f g : Nat → Int) (w : World) : ∀ (is : List Nat), (∀ i ∈ is, i < 64) →
    (Op.eqItems (d + 1) 35 1 (Hf f) (Hf g) is).run Tryd.prog w = .ok (is.all fun i => f i == g i) w
  | [], _ => by simp [Op.eqItems]
  | i :: is, h => by
    have ih := eqItems_hf d f g w is (fun j hj => h j (by simp [hj]))
    have hi := h i (by simp)
    simp only [Op.eqItems, Sem.run_bind, part_hf f i hi w, part_hf g i hi w, equal_i16, Result.andThen_ok, List.all_cons]
    cases f i == g i
    · simp
    · simpa using ih
theorem info_i16 : ∃ i, Tryd.prog.info? 35 = some i := by
  have h := Tryd.underlying35
  unfold Program.underlying at h
  cases hi : Tryd.prog.info? 35 with
  | none => simp [hi] at h
  | some i => exact ⟨i, rfl⟩
theorem cells_i16 : Tryd.prog.cellsOf 35 = 1 := by kernel_rfl
theorem guard_hf : Tryd.prog.eqGuardType Tryd.prog.depth 70 = false := by kernel_rfl
theorem eqlHf (f g : Nat → Int) (w : World) : (Op.equalIn 10000 70 (.agg (Hf f)) (.agg (Hf g))).run Tryd.prog w = .ok (eqH f g) w := by
  obtain ⟨i, hi⟩ := info_i16
  rw [show (10000 : Nat) = 9998 + 1 + 1 from rfl, run_equalIn_array w (9998 + 1) (Hf f) (Hf g) Tryd.underlying70 hi, cells_i16]
  exact eqItems_hf 9998 f g w (List.range 64) (fun i hi => by simpa using hi)
theorem eqH_yes {f g : Nat → Int} (h : eqH f g = true) : ∀ i, i < 64 → f i = g i := fun i hi => by
  have := List.all_eq_true.1 h i (by simpa using hi)
  simpa using this

/-- The first one of the least. -/
def mnd (r : Nat → Int) (k : Nat) : Nat := mxd (fun i => - r i) k
theorem mnd_le (r : Nat → Int) (k : Nat) : mnd r k ≤ k := mxd_le _ k
theorem mnd_succ (r : Nat → Int) (k : Nat) : mnd r (k + 1) = if r (k + 1) < r (mnd r k) then k + 1 else mnd r k := by
  show (if - r (mnd r k) < - r (k + 1) then k + 1 else mnd r k) = _
  by_cases h : r (k + 1) < r (mnd r k)
  · rw [if_pos h, if_pos (by omega)]
  · rw [if_neg h, if_neg (by omega)]
set_option maxRecDepth 100000 in
set_option maxHeartbeats 4000000 in
theorem flJ_any (r : Nat → Int) (N : Nat) (w : World) (hr : w.rangeAt N 0 (Jf r).toList) :
    Calls Tryd.prog 79 #[.slice (some ⟨N, 0, none⟩) 64 64, .func (.func 80) #[] #[]] w fun e w' => e = .returned (.tuple #[.int .i64 (mnd r 63 : Nat), .int .i64 (r (mnd r 63))]) ∧ w' = w := by
  have C := Lib.hid (fun k (hk : k < 64) => by have := Jf_cell hr k hk; rw [Nat.zero_add] at this; exact this : ∀ k, k < 64 → w.cell? ⟨N, k, none⟩ = some (.int .i64 (r k)))
  have ID := Lib.hid (show ∀ x V, Calls Tryd.prog 80 #[.int .i64 x] V fun e w' => e = .returned (.int .i64 x) ∧ w' = V from fun x V => by
    go_enter Tryd.func80, Tryd.ntmps80
    go_wp2
    go_ret
    exact ⟨rfl, rfl⟩)
  have c0 := C.out 0 (by omega)
  clear hr
  go_enter Tryd.func79, Tryd.ntmps79
  go_upto_region 3 with (go_at_call 80; refine (ID.out _ _).mono ?_; rintro e V ⟨rfl, hV⟩; rw [hV]; clear hV)
  clear c0
  go_loopw [6, 7, 18] (fun m l i wr => ∃ k : Nat, k ≤ 64 ∧ i = .int .i64 k ∧ m = .int .i64 (mnd r (k - 1) : Nat) ∧ l = .int .i64 (r (mnd r (k - 1))) ∧ wr = w) (fun _ _ i _ => 64 - (intOf i).toNat)
  case atStart => exact ⟨0, by omega, rfl, rfl, rfl, rfl⟩
  case round =>
    obtain ⟨k, hk, rfl, rfl, rfl, rfl⟩ := hrel
    by_cases hk64 : k < 64
    · have hlt : (k : Int) < 64 := by omega
      have ck := C.out k hk64
      have HM := Lib.hid (show mnd r k = if r k < r (mnd r (k - 1)) then k else mnd r (k - 1) by
        cases k with
        | zero =>
          have h0 : mnd r (0 - 1) = 0 := rfl
          rw [h0, if_neg (Int.lt_irrefl (r 0))]
        | succ j => exact mnd_succ r j)
      obtain ⟨m, hm⟩ : ∃ m, mnd r (k - 1) = m := ⟨_, rfl⟩
      rw [hm] at HM ⊢
      clear hm
      by_cases hc : r k < r m
      · have E := Lib.hid (show mnd r k = k by rw [HM.out, if_pos hc])
        go_wp2_with (go_at_call 80; refine (ID.out _ _).mono ?_; rintro e V ⟨rfl, hV⟩; rw [hV]; clear hV)
        go_roundw
        case rel => exact ⟨k + 1, by omega, by go_num, by rw [Nat.add_sub_cancel, E.out], by rw [Nat.add_sub_cancel, E.out], trivial⟩
        case measure => simp [intOf]; omega
      · have E := Lib.hid (show mnd r k = m by rw [HM.out, if_neg hc])
        go_wp2_with (go_at_call 80; refine (ID.out _ _).mono ?_; rintro e V ⟨rfl, hV⟩; rw [hV]; clear hV)
        go_roundw
        case rel => exact ⟨k + 1, by omega, by go_num, by rw [Nat.add_sub_cancel, E.out], by rw [Nat.add_sub_cancel, E.out], trivial⟩
        case measure => simp [intOf]; omega
    · obtain rfl : k = 64 := by omega
      go_wp2
      go_ret2
      exact ⟨rfl, rfl⟩

theorem Jf_upd {W : World} {b k : Nat} {x : Int} {f : Nat → Int} (h : W.rangeAt b 0 (Jf f).toList) (hk : k < 64) (ht : (W.cell? ⟨b, k, none⟩).isSome = true) :
    (W.setCell ⟨b, k, none⟩ (.int .i64 x)).rangeAt b 0 (Jf (fun i => if i = k then x else f i)).toList := fun j v hv => by
  have hj : j < 64 := by have := (List.getElem?_eq_some_iff.1 hv).1; rwa [Jf_length] at this
  rw [Nat.zero_add]
  have hv2 : v = .int .i64 (if j = k then x else f j) := by
    have := Jf_at (fun i => if i = k then x else f i) j hj
    rw [Array.getElem?_toList, this] at hv
    exact (Option.some.inj hv).symm
  subst hv2
  by_cases e : j = k
  · subst e
    rw [if_pos rfl]
    exact World.cell?_setCell_same' _ _ _ ht
  · rw [if_neg e, cell_other (fun h => e (by injection h with _ h2; exact h2.symm))]
    have := h j (.int .i64 (f j)) (by rw [Array.getElem?_toList]; exact Jf_at f j hj)
    rwa [Nat.zero_add] at this
theorem mixJ_step (f : Nat → Int) (k : Nat) : (fun i => if i = k then f k else mixI f zI k i) = mixI f zI (k + 1) := by
  funext i
  unfold mixI
  by_cases h : i = k
  · subst h; rw [if_pos rfl, if_pos (by omega)]
  · rw [if_neg h]
    by_cases h2 : i < k
    · rw [if_pos h2, if_pos (by omega)]
    · rw [if_neg h2, if_neg (by omega)]
theorem mixJ_full (f : Nat → Int) : Jf (mixI f zI 64) = Jf f := Jf_congr fun i h => by simp [mixI, h]
/-- A block for 64 numbers, all 0. -/
theorem stored_J (t : TypeId) (W : World) : ∃ X, (W.alloc (.cells (Jf zI) t)).setCells W.heap.size 0 (Jf zI).toList = X ∧ X.heap.size = W.heap.size + 1 ∧ X.rangeAt W.heap.size 0 (Jf zI).toList ∧ X.there W.heap.size 0 64 ∧ Below W.heap.size W X := by
  have hth : (W.alloc (.cells (Jf zI) t)).there W.heap.size 0 64 := there_row (heap_alloc_last W (.cells (Jf zI) t)) (Jf_size zI)
  refine ⟨_, rfl, by rw [sizeS]; simp, World.rangeAt_setCells_same _ _ _ _ (by rw [Jf_length]; exact hth), fun j hj => ?_, below_setCells _ (Nat.le_refl _) _ _ _ ((Below.refl _ _).alloc (Nat.le_refl _) _)⟩
  obtain ⟨h1, h2⟩ := hth j hj
  refine ⟨?_, by rw [frozS]; exact h2⟩
  have := World.rangeAt_setCells_same (W.alloc (.cells (Jf zI) t)) W.heap.size 0 (Jf zI).toList (by rw [Jf_length]; exact hth)
  have hx := this j (.int .i64 (zI j)) (by rw [Array.getElem?_toList]; exact Jf_at zI j hj)
  rw [hx]; rfl
theorem zeroJ : (Tryd.prog.info? 106).map (fun i => (i.zero, i.size)) = some (some (.agg (Jf zI)), 64) := by kernel_rfl
theorem new_thereJ (t : TypeId) (w : World) : (w.alloc (.cells (Jf zI) t)).there w.heap.size 0 64 := there_row (heap_alloc_last w _) (Jf_size zI)
theorem there_1 {w : World} {b n k : Nat} (h : w.there b 0 n) (hk : k < n) : w.there b (0 + k) 1 := fun j hj => by
  have := h k hk
  have e : 0 + k + j = 0 + k := by omega
  rw [e]; exact this
theorem there_q {w w' : World} {b n : Nat} (h : w.there b 0 n) (hq : Quiet w w') : w'.there b 0 n := by
  obtain ⟨m, rfl⟩ := hq
  exact h
attribute [local go_sem] eqlHf guard_hf
set_option maxRecDepth 100000 in
set_option maxHeartbeats 4000000 in
theorem drop_any (a b : Nat → Int) (ha : In16 a) (hb : In16 b) (w : World) :
    Calls Tryd.prog 50 #[.agg (Hf a), .agg (Hf b)] w fun e w' => e = .returned (drpV a b) ∧ Below w.heap.size w w' := by
  obtain ⟨W, hW, hz, p1, p2, hB⟩ := two_boxes (Hf a) (Hf b) 70 70 w
  have HW := Lib.hid hW
  have P1 := Lib.hid p1
  have P2 := Lib.hid p2
  have HB := Lib.hid hB
  have HA := Lib.hid ha
  have HBb := Lib.hid hb
  have ZW := Lib.hid hz
  clear hW hz p1 p2 hB ha hb
  have hz := (zero_of_info zeroJ).1
  have hth := new_thereJ 106 W
  go_enter Tryd.func50, Tryd.ntmps50
  go_upto_region 1 with (fail)
  rw [HW.out]
  cases he : eqH a b
  · go_upto_region 5 with (first | (refine ldS 70 rfl ?_; first | (refine wpList_load_mid rfl 70 _ rfl w.heap.size 0 rfl (Hf a).toList _ P1.out Tryd.underlying70 rfl (by rw [Hf_length]; exact infoLG) ?_) | (refine wpList_load_mid rfl 70 _ rfl (w.heap.size + 1) 0 rfl (Hf b).toList _ P2.out Tryd.underlying70 rfl (by rw [Hf_length]; exact infoLG) ?_); try rw [Array.toArray_toList]) | (refine stS 106 rfl ?_; refine wpList_store_mid rfl 106 _ _ rfl _ 0 (Jf zI) rfl rfl (by rw [Jf_size]; with_reducible exact hth) (by rw [Jf_size]; exact infoJ) (Jf_one _) ?_))
    obtain ⟨X, hX, zX, rX, tX, bX⟩ := stored_J 106 W
    rw [hX]
    have hwW : w.heap.size + 1 < W.heap.size := by rw [ZW.out]; omega
    have BX := Lib.hid bX
    have PX1 := Lib.hid (range_kept P1.out (by omega) _ bX)
    have PX2 := Lib.hid (range_kept P2.out (by omega) _ bX)
    have HNX := Lib.hid (show W.heap.size < X.heap.size by omega)
    have RX := Lib.hid rX
    have TX := Lib.hid tX
    have HWX := Lib.hid hwW
    clear he hX zX rX tX bX hth hz hwW
    go_loopw [14] (fun i wr => ∃ k : Nat, k ≤ 64 ∧ i = .int .i64 k ∧ Hid (Below W.heap.size X wr) ∧ Hid (wr.rangeAt W.heap.size 0 (Jf (mixI (fun i => b i - a i) zI k)).toList) ∧ Hid (wr.there W.heap.size 0 64)) (fun i _ => 64 - (intOf i).toNat)
    case atStart => exact ⟨0, by omega, rfl, Lib.hid (Below.refl _ _), Lib.hid (by rw [show mixI (fun i => b i - a i) zI 0 = zI from by funext i; simp [mixI]]; exact RX.out), TX⟩
    case round =>
      obtain ⟨k, hk, rfl, HBL, HR, HTH⟩ := hrel
      by_cases hk64 : k < 64
      · have hlt : (k : Int) < 64 := by omega
        have cak := Hf_cell (range_kept PX1.out (by have := HWX.out; omega) _ HBL.out) k hk64
        have cbk := Hf_cell (range_kept PX2.out (by have := HWX.out; omega) _ HBL.out) k hk64
        have E1 := Lib.hid (in_sub16 (HBb.out k hk64) (HA.out k hk64))
        go_upto_region 7 with (fail)
        refine wp_region_calm (ops' := regOf Tryd.f50 7) [0, 1, 2, 3, 4, 5, 6, 7, 8, 9, 10] [11] (.run 11 .fin) (Quiet wr) [(0, One (.int .i64 (k : Int))), (1, One (.int .i64 (k : Int))), (2, One (.pointer (some ⟨w.heap.size + 1, 0 + k, none⟩))), (3, One (.int .i16 (b k))), (4, One (.int .i64 (b k))), (5, One (.int .i64 (k : Int))), (6, One (.pointer (some ⟨w.heap.size, 0 + k, none⟩))), (7, One (.int .i16 (a k))), (8, One (.int .i64 (a k))), (9, One (.int .i64 (b k - a k))), (10, One (.pointer (some ⟨W.heap.size, 0 + k, none⟩)))] (by kernel_rfl) (by kernel_rfl) (by kernel_rfl) (by kernel_rfl) (by kernel_rfl) (by kernel_rfl) (by kernel_rfl) (by kernel_rfl) rfl ((Quiet.refl _).drewN 1) ?_
        refine calm_pure (some 17) (by kernel_rfl) (by kernel_rfl) (by kernel_rfl) (fun _ => by kernel_rfl) ?_
        refine calm_pure (some 18) (by kernel_rfl) (by kernel_rfl) (by kernel_rfl) (fun _ => by kernel_rfl) ?_
        refine calm_pure (some 19) (by kernel_rfl) (by kernel_rfl) (by kernel_rfl) (index_LG (x := .tmp 3) (y := .tmp 18) (o := 0) (by kernel_rfl) (by kernel_rfl) (by kernel_rfl) hk64) ?_
        refine calm_read (some 20) (by kernel_rfl) (by kernel_rfl) (by kernel_rfl) (fun w' hw' => load_cell (ty := 35) (x := .tmp 19) (b := w.heap.size + 1) (o := 0 + k) (by kernel_rfl) (by kernel_rfl) Tryd.underlying35 rfl (kq (cbk) w' hw')) ?_
        refine calm_pure (some 21) (by kernel_rfl) (by kernel_rfl) (by kernel_rfl) (fun _ => cv16 (x := .tmp 20) (by kernel_rfl) (by kernel_rfl) (HBb.out k hk64) _) ?_
        refine calm_pure (some 22) (by kernel_rfl) (by kernel_rfl) (by kernel_rfl) (fun _ => by kernel_rfl) ?_
        refine calm_pure (some 23) (by kernel_rfl) (by kernel_rfl) (by kernel_rfl) (index_LG (x := .tmp 2) (y := .tmp 22) (o := 0) (by kernel_rfl) (by kernel_rfl) (by kernel_rfl) hk64) ?_
        refine calm_read (some 24) (by kernel_rfl) (by kernel_rfl) (by kernel_rfl) (fun w' hw' => load_cell (ty := 35) (x := .tmp 23) (b := w.heap.size) (o := 0 + k) (by kernel_rfl) (by kernel_rfl) Tryd.underlying35 rfl (kq (cak) w' hw')) ?_
        refine calm_pure (some 25) (by kernel_rfl) (by kernel_rfl) (by kernel_rfl) (fun _ => cv16 (x := .tmp 24) (by kernel_rfl) (by kernel_rfl) (HA.out k hk64) _) ?_
        refine calm_pure (some 26) (by kernel_rfl) (by kernel_rfl) (by kernel_rfl) (fun _ => subI (ty := 2) (tz := 2) (p := .tmp 21) (q := .tmp 25) (by kernel_rfl) (by kernel_rfl) (by kernel_rfl) rfl E1.out _) ?_
        refine calm_pure (some 27) (by kernel_rfl) (by kernel_rfl) (by kernel_rfl) (index_J (x := .tmp 6) (y := .tmp 17) (o := 0) (by kernel_rfl) (by kernel_rfl) (by kernel_rfl) hk64) ?_
        refine calm_end fun w' hw' => plan_do none undef (w'.setCell ⟨W.heap.size, 0 + k, none⟩ (.int .i64 (b k - a k))) (by kernel_rfl) (by kernel_rfl) (by kernel_rfl) (.inr ⟨stI64 (x := .tmp 27) (y := .tmp 26) (by kernel_rfl) (by kernel_rfl) (by kernel_rfl) (there_1 (there_q HTH.out hw') hk64), rfl⟩) trivial (plan_end (Clean.normal ?_))
        simp only [Act.put, List.setIfInBounds_toArray, List.set_cons_zero, List.set_cons_succ]
        rw [Nat.zero_add]
        have y1 := Jf_upd (x := b k - a k) (hw'.range HR.out) hk64 (by have := (there_q HTH.out hw' k hk64).1; rwa [Nat.zero_add] at this)
        rw [mixJ_step (fun i => b i - a i) k] at y1
        have y2 : (w'.setCell ⟨W.heap.size, k, none⟩ (.int .i64 (b k - a k))).there W.heap.size 0 64 := fun j hj => by
          have h := there_q HTH.out hw' j hj
          refine ⟨?_, by rw [World.frozen?_setCell]; exact h.2⟩
          by_cases e : 0 + j = k
          · subst e; rw [World.cell?_setCell_same' _ _ _ h.1]; rfl
          · rw [cell_other (fun hh => e (by injection hh with _ h2; exact h2.symm))]; exact h.1
        have y3 : Below W.heap.size X (w'.setCell ⟨W.heap.size, k, none⟩ (.int .i64 (b k - a k))) := (HBL.out.trans (hw'.below _)).setCell (p := ⟨W.heap.size, k, none⟩) (Nat.le_refl _) _
        obtain ⟨Y, hY⟩ : ∃ Y, w'.setCell ⟨W.heap.size, k, none⟩ (.int .i64 (b k - a k)) = Y := ⟨_, rfl⟩
        rw [hY] at y1 y2 y3 ⊢
        have Y1 := Lib.hid y1
        have Y2 := Lib.hid y2
        have Y3 := Lib.hid y3
        clear y1 y2 y3 hY cak cbk E1 hw'
        go_wp2
        go_roundw
        case rel => exact ⟨k + 1, by omega, by go_num, Y3, Y1, Y2⟩
        case measure => simp [intOf]; omega
      · obtain rfl : k = 64 := by omega
        have rJ := HR.out
        rw [mixJ_full] at rJ
        have FJ := Lib.hid (flJ_any (fun i => b i - a i) W.heap.size _ rJ)
        have EM : mnd (fun i => b i - a i) 63 = mxd (fun i => a i - b i) 63 := by unfold mnd; congr 1; funext i; show -(b i - a i) = a i - b i; omega
        rw [EM] at FJ
        obtain ⟨m, hm⟩ : ∃ m, mxd (fun i => a i - b i) 63 = m := ⟨_, rfl⟩
        have HD := Lib.hid (show drpV a b = .tuple #[.int .i64 (m : Int), .int .i64 (a m - b m)] by unfold drpV; rw [hm])
        have hm64 : m < 64 := by have := mxd_le (fun i => a i - b i) 63; omega
        have HNG := Lib.hid (show wrap64 (-(b m - a m)) = a m - b m by rw [IntWalk.wrap64_in _ (by have := HA.out m hm64; have := HBb.out m hm64; omega)]; omega)
        rw [hm] at FJ
        clear rJ EM hm
        go_wp2_with (go_at_call 79; refine FJ.out.mono ?_; rintro e V ⟨rfl, hV⟩; rw [hV]; clear hV)
        go_ret2
        exact ⟨by rw [HD.out, ← HNG.out]; rfl, HB.out.trans ((BX.out.trans HBL.out).mono (by have := HWX.out; omega))⟩
  · have he' := eqH_yes he
    have HE := Lib.hid (show drpV a b = .tuple #[.int .i64 0, .int .i64 0] by
      have h0 : mxd (fun i => a i - b i) 63 = 0 := mxd_same (fun i hi => by rw [he' i hi]; omega) 63 (by omega)
      unfold drpV
      rw [h0, he' 0 (by omega), Int.sub_self]; rfl)
    clear he'
    go_wp2_with (refine ldS 70 rfl ?_; first | (refine wpList_load_mid rfl 70 _ rfl w.heap.size 0 rfl (Hf a).toList _ P1.out Tryd.underlying70 rfl (by rw [Hf_length]; exact infoLG) ?_) | (refine wpList_load_mid rfl 70 _ rfl (w.heap.size + 1) 0 rfl (Hf b).toList _ P2.out Tryd.underlying70 rfl (by rw [Hf_length]; exact infoLG) ?_); try rw [Array.toArray_toList])
    go_ret2
    exact ⟨by rw [HE.out]; rfl, HB.out⟩

set_option maxRecDepth 100000 in
set_option maxHeartbeats 4000000 in
theorem implDrops_any (a b : Nat → Int) (ha : In16 a) (hb : In16 b) (w : World) :
    Calls Tryd.prog 24 #[.agg (Hf a), .agg (Hf b)] w fun e w' => e = .returned (drpV a b) ∧ Below w.heap.size w w' := by
  obtain ⟨W, hW, hz, p1, p2, hB⟩ := two_boxes (Hf a) (Hf b) 36 36 w
  have HW := Lib.hid hW
  have P1 := Lib.hid p1
  have P2 := Lib.hid p2
  have HB := Lib.hid hB
  have T := Lib.hid (fun V => drop_any a b ha hb V)
  obtain ⟨x, y, hx⟩ : ∃ x y : Int, drpV a b = .tuple #[.int .i64 x, .int .i64 y] := ⟨_, _, rfl⟩
  rw [hx] at T ⊢
  clear hW hz p1 p2 hB ha hb hx
  go_enter Tryd.func24, Tryd.ntmps24
  go_upto_region 1 with (fail)
  rw [HW.out]
  go_wp2_with (first | (refine ldS 36 rfl ?_; first | (refine wpList_load_mid rfl 36 _ rfl w.heap.size 0 rfl (Hf a).toList _ P1.out Tryd.underlying36 rfl (by rw [Hf_length]; exact infoH) ?_) | (refine wpList_load_mid rfl 36 _ rfl (w.heap.size + 1) 0 rfl (Hf b).toList _ P2.out Tryd.underlying36 rfl (by rw [Hf_length]; exact infoH) ?_); try rw [Array.toArray_toList]) | (go_at_call 50; refine (T.out _).mono ?_; rintro e V ⟨rfl, hV⟩; have HV := Lib.hid (HB.out.trans (hV.mono HB.out.size)); clear hV))
  go_ret2
  exact ⟨rfl, HV.out⟩
end Go.Proofs.YtjhaonfdapldcaaDoor
