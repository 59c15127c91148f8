/- The wave that is seen in levels, the program's. No condition. -/
import Derived.Test.YtbafbhaahpjmcaaDay
namespace Go.Proofs.Ytbafbhaahpjmcaa
open Go Go.RowKit Ieee
attribute [local go_sem] run_store_float
set_option linter.unusedSimpArgs false
set_option linter.unusedVariables false

/-- The mean of levels, and both parts of their wave. -/
def meanO (f : Nat → Int) : Option Nat := fop .f32 .quo (sumQ (fun i => lvV (f i)) 12) (num .f32 1094713344)
def offO (f : Nat → Int) (i : Nat) : Option Nat := fop .f32 .sub (lvV (f i)) (meanO f)
def alongO (f : Nat → Int) (i : Nat) : Option Nat := fop .f32 .mul (offO f i) (num .f32 (turnA i))
def acrossO (f : Nat → Int) (i : Nat) : Option Nat := fop .f32 .sub (num .f32 0) (fop .f32 .mul (offO f i) (num .f32 (turnB i)))
/-- A wave whose parts are told up to which NaN they are. -/
def CxV (ox oy : Option Nat) : Value → Prop := fun v => ∃ x y, v = .complex .f32 x y ∧ num .f32 x = ox ∧ num .f32 y = oy
theorem sumQ_ex {o : Nat → Option Nat} (h : ∀ i, ∃ r, num .f32 r = o i) : ∀ n, ∃ r, num .f32 r = sumQ o n
  | 0 => num_ex _ _
  | 1 => h 0
  | k + 2 => fop_ex _ _ rfl _ _ (sumQ_ex h (k + 1)) (h (k + 1))
theorem lvV_ex (l : Int) : ∃ r, num .f32 r = lvV l := fop_ex _ _ rfl _ _ (num_ex _ _) (num_ex _ _)
theorem meanO_ex (f : Nat → Int) : ∃ r, num .f32 r = meanO f := fop_ex _ _ rfl _ _ (sumQ_ex (fun i => lvV_ex (f i)) 12) (num_ex _ _)
theorem alongO_ex (f : Nat → Int) (i : Nat) : ∃ r, num .f32 r = alongO f i := fop_ex _ _ rfl _ _ (fop_ex _ _ rfl _ _ (lvV_ex _) (meanO_ex f)) (num_ex _ _)
theorem acrossO_ex (f : Nat → Int) (i : Nat) : ∃ r, num .f32 r = acrossO f i := fop_ex _ _ rfl _ _ (num_ex _ _) (fop_ex _ _ rfl _ _ (fop_ex _ _ rfl _ _ (lvV_ex _) (meanO_ex f)) (num_ex _ _))
/-- What is seen in levels, up to which NaN it is. -/
def Seen (f : Nat → Int) (e : Ending) : Prop := ∃ r x y, e = .returned (.tuple #[.float .f32 r, .complex .f32 x y]) ∧ num .f32 r = meanO f ∧ num .f32 x = fop .f32 .quo (sumQ (alongO f) 12) (num .f32 1086324736) ∧ num .f32 y = fop .f32 .quo (sumQ (acrossO f) 12) (num .f32 1086324736)

theorem index_L16 (f : Nat → Int) (k : Nat) (hk : k < 12) (w : World) : (Instr.index 30 (.agg (L16 f)) (.int .i64 (k : Int))).run Try.prog w = .ok (.int .i16 (f k)) w := by
  have h := L16_at f k hk
  have hs1 : (sizeOf 29).run Try.prog w = .ok 1 w := by kernel_rfl
  have h1 : (0 : Int) ≤ k ∧ (k : Int) < 12 := by omega
  simp [Instr.index, asIntOf, run_underlying Try.underlying30, hs1, h1, hk, part, isAgg, run_underlying Try.underlying29, h]
theorem index_F12 (f : Nat → Nat) (k : Nat) (hk : k < 12) (w : World) : (Instr.index 43 (.agg (F12 f)) (.int .i64 (k : Int))).run Try.prog w = .ok (.float .f32 (f k)) w := by
  have h := F12_at f k hk
  have hs1 : (sizeOf 31).run Try.prog w = .ok 1 w := by kernel_rfl
  have h1 : (0 : Int) ≤ k ∧ (k : Int) < 12 := by omega
  simp [Instr.index, asIntOf, run_underlying Try.underlying43, hs1, h1, hk, part, isAgg, run_underlying Try.underlying31, h]
theorem F12_put (g : Nat → Nat) (k r : Nat) : (F12 g).setIfInBounds k (.float .f32 r) = F12 (fun i => if i = k then r else g i) := by
  unfold F12
  rw [R12_put]
  refine R12_congr fun i _ => ?_
  unfold updV
  by_cases e : i = k
  · rw [if_pos e]; show _ = Value.float .f32 (if i = k then r else g i); rw [if_pos e]
  · rw [if_neg e]; show _ = Value.float .f32 (if i = k then r else g i); rw [if_neg e]
theorem three_zero (C : Array Value) (w : World) : ∃ V, (((w.alloc (.cells C 30)).alloc (.cells #[.float .f32 0, .float .f32 0, .float .f32 0, .float .f32 0, .float .f32 0, .float .f32 0, .float .f32 0, .float .f32 0, .float .f32 0, .float .f32 0, .float .f32 0, .float .f32 0] 43)).alloc (.cells #[.float .f32 0, .float .f32 0, .float .f32 0, .float .f32 0, .float .f32 0, .float .f32 0, .float .f32 0, .float .f32 0, .float .f32 0, .float .f32 0, .float .f32 0, .float .f32 0] 43)).alloc (.cells #[.float .f32 0, .float .f32 0, .float .f32 0, .float .f32 0, .float .f32 0, .float .f32 0, .float .f32 0, .float .f32 0, .float .f32 0, .float .f32 0, .float .f32 0, .float .f32 0] 43) = V ∧ V.heap[w.heap.size]? = some (.cells C 30 (0, 0)) ∧
    V.heap[w.heap.size + 1]? = some (.cells (F12 zf) 43 (0, 0)) ∧ V.heap[w.heap.size + 1 + 1]? = some (.cells (F12 zf) 43 (0, 0)) ∧ V.heap[w.heap.size + 1 + 1 + 1]? = some (.cells (F12 zf) 43 (0, 0)) ∧ V.heap.size = w.heap.size + 4 ∧ Below w.heap.size w V := by
  have hz : F12 zf = #[.float .f32 0, .float .f32 0, .float .f32 0, .float .f32 0, .float .f32 0, .float .f32 0, .float .f32 0, .float .f32 0, .float .f32 0, .float .f32 0, .float .f32 0, .float .f32 0] := rfl
  refine ⟨_, rfl, ?_, ?_, ?_, ?_, by simp, (((Below.refl _ _).alloc (Nat.le_refl _) _).alloc (by simp) _).alloc (by simp; omega) _ |>.alloc (by simp; omega) _⟩
  · rw [heap_alloc_old _ _ (by simp; omega), heap_alloc_old _ _ (by simp; omega), heap_alloc_old _ _ (by simp)]
    exact heap_alloc_last w _
  · rw [heap_alloc_old _ _ (by simp), heap_alloc_old _ _ (by simp), hz]
    have := heap_alloc_last (w.alloc (.cells C 30)) (.cells #[.float .f32 0, .float .f32 0, .float .f32 0, .float .f32 0, .float .f32 0, .float .f32 0, .float .f32 0, .float .f32 0, .float .f32 0, .float .f32 0, .float .f32 0, .float .f32 0] 43)
    simpa using this
  · rw [heap_alloc_old _ _ (by simp), hz]
    have := heap_alloc_last ((w.alloc (.cells C 30)).alloc (.cells #[.float .f32 0, .float .f32 0, .float .f32 0, .float .f32 0, .float .f32 0, .float .f32 0, .float .f32 0, .float .f32 0, .float .f32 0, .float .f32 0, .float .f32 0, .float .f32 0] 43)) (.cells #[.float .f32 0, .float .f32 0, .float .f32 0, .float .f32 0, .float .f32 0, .float .f32 0, .float .f32 0, .float .f32 0, .float .f32 0, .float .f32 0, .float .f32 0, .float .f32 0] 43)
    simpa using this
  · rw [hz]
    have := heap_alloc_last (((w.alloc (.cells C 30)).alloc (.cells #[.float .f32 0, .float .f32 0, .float .f32 0, .float .f32 0, .float .f32 0, .float .f32 0, .float .f32 0, .float .f32 0, .float .f32 0, .float .f32 0, .float .f32 0, .float .f32 0] 43)).alloc (.cells #[.float .f32 0, .float .f32 0, .float .f32 0, .float .f32 0, .float .f32 0, .float .f32 0, .float .f32 0, .float .f32 0, .float .f32 0, .float .f32 0, .float .f32 0, .float .f32 0] 43)) (.cells #[.float .f32 0, .float .f32 0, .float .f32 0, .float .f32 0, .float .f32 0, .float .f32 0, .float .f32 0, .float .f32 0, .float .f32 0, .float .f32 0, .float .f32 0, .float .f32 0] 43)
    simpa using this
set_option maxRecDepth 100000 in
set_option maxHeartbeats 4000000 in
theorem implWaveFrom_any (f : Nat → Int) (hf : ∀ i, i < 12 → -32768 ≤ f i ∧ f i ≤ 32767) (w : World) :
    Calls Try.prog 10 #[.agg (L16 f)] w fun e w' => Seen f e ∧ Below w.heap.size w w' := by
  go_enter Try.func10, Try.ntmps10
  go_upto_region 2 with (fail)
  obtain ⟨V, hV, b0, b1, b2, b3, hs, hB⟩ := three_zero (L16 f) w
  try rw [hV]
  clear hV
  have HF := Lib.hid hf
  have B0 := Lib.hid b0
  have B1 := Lib.hid b1
  have B2 := Lib.hid b2
  have B3 := Lib.hid b3
  have HS := Lib.hid hs
  have HB := Lib.hid hB
  have r0 := rangeAt_row b0
  clear hf b0 b1 b2 b3 hs hB
  go_wp2_with (refine wpList_load_mid rfl 30 _ rfl _ 0 rfl (L16 f).toList _ r0 Try.underlying30 rfl (by rw [show (L16 f).toList.length = 12 from R12_len _]; exact info12i) ?_)
  try rw [Array.toArray_toList]
  clear r0
  go_loopw [19] (fun (i : Value) (wr : World) => ∃ (k : Nat) (g : Nat → Nat), k ≤ 12 ∧ i = .int .i64 (k : Int) ∧ Hid (wr.heap[w.heap.size + 1]? = some (.cells (F12 g) 43 (0, 0))) ∧ Hid (∀ j, j < k → num .f32 (g j) = lvV (f j)) ∧
    Hid (wr.heap[w.heap.size + 1 + 1]? = some (.cells (F12 zf) 43 (0, 0)) ∧ wr.heap[w.heap.size + 1 + 1 + 1]? = some (.cells (F12 zf) 43 (0, 0)) ∧ w.heap.size + 4 ≤ wr.heap.size ∧ Below w.heap.size w wr)) (fun i _ => 12 - (intOf i).toNat)
  case atStart => exact ⟨0, zf, by omega, rfl, B1, Lib.hid (fun j hj => by omega), Lib.hid ⟨B2.out, B3.out, by rw [HS.out]; exact Nat.le_refl _, HB.out⟩⟩
  case round =>
    obtain ⟨k, g, hk, rfl, hg, hv, hr⟩ := hrel
    by_cases hlt : k < 12
    · have hi := index_L16 f k hlt
      have hz : w.heap.size + 4 ≤ wr.heap.size := hr.out.2.2.1
      go_wp2_with (first | (go_at_call 20; refine (implLevel_any 0 (f k) _).mono ?_; rintro e V1 ⟨r, rfl, hr1, hq⟩; have HR := Lib.hid hr1; have HQ := Lib.hid hq; have hb : V1.heap[w.heap.size + 1]? = some (.cells (F12 g) 43 (0, 0)) := (hq.block _ (by omega)).trans hg.out; have c1 : V1.cell? ⟨w.heap.size + 1, k, none⟩ = some (.float .f32 (g k)) := (cell_of_row V1 _ k _ _ _ hb).trans (F12_at g k hlt); have c2 : V1.frozen? ⟨w.heap.size + 1, k, none⟩ = false := frozen_of_row V1 _ k _ _ hb; have HH := Lib.hid hb; clear hq hr1 hb) | fail)
      go_roundw
      case rel =>
        have h2 := hr.out
        have hne : ∀ n, n ≠ w.heap.size + 1 → n < w.heap.size + 4 → (V1.setCell ⟨w.heap.size + 1, k, none⟩ (.float .f32 r)).heap[n]? = wr.heap[n]? := fun n hn hl => (heap_setCell_other _ _ _ _ hn).trans (HQ.out.block n (by omega))
        refine ⟨k + 1, fun i => if i = k then r else g i, by omega, by go_num, Lib.hid ?_, Lib.hid ?_, Lib.hid ⟨(hne _ (by omega) (by omega)).trans h2.1, (hne _ (by omega) (by omega)).trans h2.2.1, ?_, ?_⟩⟩
        · rw [heap_setCell_same _ _ _ _ _ _ HH.out]
          exact congrArg (fun c => some (Obj.cells c 43 (0, 0))) (F12_put g k r)
        · intro j hj
          show num .f32 (if j = k then r else g j) = _
          by_cases e : j = k
          · subst e; rw [if_pos rfl]; exact HR.out
          · rw [if_neg e]; exact hv.out j (by omega)
        · rw [World.size_setCell]; exact Nat.le_trans hz HQ.out.size
        · exact (h2.2.2.2.trans (HQ.out.mono (by omega))).setCell (by simp) _
      case measure => simp [intOf]; omega
    · obtain rfl : k = 12 := by omega
      obtain ⟨q2, q3, hz, hb⟩ := hr.out
      have r1 := rangeAt_row hg.out
      clear hk hlt hr
      go_upto_region 8 with (first | (refine wpList_load_mid rfl 43 _ rfl _ 0 rfl (F12 g).toList _ r1 Try.underlying43 rfl (by rw [show (F12 g).toList.length = 12 from R12_len _]; exact info12f) ?_; try rw [Array.toArray_toList]) | (go_at_call 21; refine (sumOfDay_any g (fun i => lvV (f i)) (fun j hj => hv.out j hj) _).mono ?_; rintro e V1 ⟨s, rfl, hs1, hq⟩; have HS1 := Lib.hid hs1; have HQ := Lib.hid hq; clear hs1 hq) | (refine wpList_float rfl _ _ _ _ _ rfl rfl .f32 _ _ rfl rfl ?_; intro m n1 hm; have HM := Lib.hid hm; clear hm))
      obtain ⟨V2, hV2⟩ : ∃ V2, V1.drewN n1 = V2 := ⟨_, rfl⟩
      have QV : Below wr.heap.size wr V2 := by rw [← hV2]; exact HQ.out.trans (Quiet.below ⟨_, rfl⟩ _)
      have MM := Lib.hid (show num .f32 m = meanO f by rw [HM.out, HS1.out]; rfl)
      have g1 : V2.heap[w.heap.size + 1]? = some (.cells (F12 g) 43 (0, 0)) := (QV.block _ (by omega)).trans hg.out
      have HV1 := Lib.hid hv.out
      have G2 := Lib.hid ((QV.block _ (by omega)).trans q2)
      have G3 := Lib.hid ((QV.block _ (by omega)).trans q3)
      have HB2 := Lib.hid (hb.trans (QV.mono (by omega)))
      have hz2 : w.heap.size + 4 ≤ V2.heap.size := Nat.le_trans hz QV.size
      have r2 := rangeAt_row g1
      rw [hV2]
      clear hV2 QV HQ HM HS1 q2 q3 hb r1 hz hg g1
      go_wp2_with (refine wpList_load_mid rfl 43 _ rfl _ 0 rfl (F12 g).toList _ r2 Try.underlying43 rfl (by rw [show (F12 g).toList.length = 12 from R12_len _]; exact info12f) ?_; try rw [Array.toArray_toList])
      clear r2
      have HZ2 := Lib.hid hz2
      clear hz2
      go_loopw [33] (fun (i : Value) (wr : World) => ∃ (k : Nat) (a c : Nat → Nat), k ≤ 12 ∧ i = .int .i64 (k : Int) ∧ Hid (wr.heap[w.heap.size + 1 + 1]? = some (.cells (F12 a) 43 (0, 0))) ∧ Hid (wr.heap[w.heap.size + 1 + 1 + 1]? = some (.cells (F12 c) 43 (0, 0))) ∧ Hid (∀ j, j < k → num .f32 (a j) = alongO f j ∧ num .f32 (c j) = acrossO f j) ∧
        Hid (w.heap.size + 4 ≤ wr.heap.size ∧ Below w.heap.size w wr)) (fun i _ => 12 - (intOf i).toNat)
      case atStart => exact ⟨0, zf, zf, by omega, rfl, G2, G3, Lib.hid (fun j hj => by omega), Lib.hid ⟨HZ2.out, HB2.out⟩⟩
      case round =>
        obtain ⟨k, a, c, hk, rfl, ha, hc, hv2, hr2⟩ := hrel
        by_cases hlt : k < 12
        · have hi := index_F12 g k hlt
          have hz : w.heap.size + 4 ≤ wr.heap.size := hr2.out.1
          go_upto_region 12 with (refine wpList_float rfl _ _ _ _ _ rfl rfl .f32 _ _ rfl rfl ?_; intro d n2 hd; have HD := Lib.hid hd; clear hd)
          go_upto_region 13 with (first | (go_at_call 15; refine (turn_any (k : Int) (by omega) (by omega) _).mono ?_; rintro e V1 ⟨rfl, hq⟩; have HQ := Lib.hid (show Below wr.heap.size wr V1 from (Quiet.below ⟨_, rfl⟩ _).trans hq); clear hq) | (go_at_call 22; refine (parts_any _ _ _).mono ?_; rintro e w' ⟨rfl, rfl⟩))
          obtain ⟨A1, A2⟩ := hr2.out
          have x1 : V1.heap[w.heap.size + 1 + 1]? = some (.cells (F12 a) 43 (0, 0)) := (HQ.out.block _ (by omega)).trans ha.out
          have x2 : V1.heap[w.heap.size + 1 + 1 + 1]? = some (.cells (F12 c) 43 (0, 0)) := (HQ.out.block _ (by omega)).trans hc.out
          have X1 := Lib.hid x1
          have X2 := Lib.hid x2
          have c1 : V1.cell? ⟨w.heap.size + 1 + 1, k, none⟩ = some (.float .f32 (a k)) := (cell_of_row V1 _ k _ _ _ x1).trans (F12_at a k hlt)
          have c2 : V1.frozen? ⟨w.heap.size + 1 + 1, k, none⟩ = false := frozen_of_row V1 _ k _ _ x1
          clear x1 x2
          go_upto_region 14 with (refine wpList_float rfl _ _ _ _ _ rfl rfl .f32 _ _ rfl rfl ?_; intro p n3 hp; have HP := Lib.hid hp; clear hp)
          obtain ⟨V3, hV3⟩ : ∃ V3, (V1.drewN n3).setCell ⟨w.heap.size + 1 + 1, k, none⟩ (.float .f32 p) = V3 := ⟨_, rfl⟩
          have y1 : V3.heap[w.heap.size + 1 + 1]? = some (.cells (F12 (fun i => if i = k then p else a i)) 43 (0, 0)) := by
            rw [← hV3, heap_setCell_same _ _ _ _ _ _ ((((Quiet.below ⟨_, rfl⟩ V1.heap.size : Below _ V1 (V1.drewN n3))).block _ (by have := HQ.out.size; omega)).trans X1.out), F12_put]
          have y2 : V3.heap[w.heap.size + 1 + 1 + 1]? = some (.cells (F12 c) 43 (0, 0)) := by
            rw [← hV3, heap_setCell_other _ _ _ _ (by simp)]
            exact (((Quiet.below ⟨_, rfl⟩ V1.heap.size : Below _ V1 (V1.drewN n3))).block _ (by have := HQ.out.size; omega)).trans X2.out
          have HB3 : Hid (Below w.heap.size w V3) := Lib.hid (by rw [← hV3]; exact ((A2.trans (HQ.out.mono (by omega))).trans (Quiet.below ⟨_, rfl⟩ _)).setCell (by simp; omega) _)
          have HZ3 : w.heap.size + 4 ≤ V3.heap.size := by rw [← hV3, World.size_setCell]; exact Nat.le_trans A1 HQ.out.size
          rw [hV3]
          clear hV3 c1 c2 A1 A2 hz
          have Y1 := Lib.hid y1
          have Y2 := Lib.hid y2
          have c1 : V3.cell? ⟨w.heap.size + 1 + 1 + 1, k, none⟩ = some (.float .f32 (c k)) := (cell_of_row V3 _ k _ _ _ y2).trans (F12_at c k hlt)
          have c2 : V3.frozen? ⟨w.heap.size + 1 + 1 + 1, k, none⟩ = false := frozen_of_row V3 _ k _ _ y2
          clear y1 y2
          have t1 : True := trivial
          go_wp2_with (first | (have _t := t1; refine wpList_float rfl _ _ _ _ _ rfl rfl .f32 _ _ rfl rfl ?_; intro q n4 hq; have HQ4 := Lib.hid hq; clear hq; clear t1) | (refine wpList_float rfl _ _ _ _ _ rfl rfl .f32 _ _ rfl rfl ?_; intro z n5 hz; have HZ5 := Lib.hid hz; clear hz))
          go_roundw
          case rel =>
            have hD : num .f32 d = offO f k := by rw [HD.out, MM.out, HV1.out k hlt]; rfl
            have LB : ∀ n, n < w.heap.size + 4 → ((V3.drewN (n4 + n5)).heap[n]? = V3.heap[n]?) := fun n hn => (Quiet.below ⟨_, rfl⟩ V3.heap.size : Below _ V3 (V3.drewN (n4 + n5))).block _ (by omega)
            refine ⟨k + 1, fun i => if i = k then p else a i, fun i => if i = k then z else c i, by omega, by go_num, Lib.hid ?_, Lib.hid ?_, Lib.hid ?_, Lib.hid ⟨?_, ?_⟩⟩
            · rw [heap_setCell_other _ _ _ _ (by simp)]
              exact (LB _ (by omega)).trans Y1.out
            · rw [heap_setCell_same _ _ _ _ _ _ ((LB _ (by omega)).trans Y2.out), F12_put]
            · intro j hj
              show num .f32 (if j = k then p else a j) = _ ∧ num .f32 (if j = k then z else c j) = _
              by_cases e : j = k
              · subst e
                rw [if_pos rfl, if_pos rfl]
                exact ⟨by rw [HP.out, hD]; rfl, by rw [HZ5.out, HQ4.out, hD]; rfl⟩
              · rw [if_neg e, if_neg e]; exact hv2.out j (by omega)
            · rw [World.size_setCell]; exact HZ3
            · exact (HB3.out.trans (Quiet.below ⟨_, rfl⟩ _)).setCell (by simp; omega) _
          case measure => simp [intOf]; omega
        · obtain rfl : k = 12 := by omega
          go_upto_region 16 with (fail)
          obtain ⟨A1, A2⟩ := hr2.out
          have RA := Lib.hid (rangeAt_row ha.out)
          have RC := Lib.hid (rangeAt_row hc.out)
          have l1 : w.heap.size + 1 + 1 < wr.heap.size := by omega
          have l2 : w.heap.size + 1 + 1 + 1 < wr.heap.size := by omega
          refine wp_region_calm (ops' := regOf Try.f10 16) [0, 1, 2, 3, 4, 5, 6, 7, 8, 9] [] .fin (Below (wr.heap.size) wr) [(0, One (.float .f32 m)), (1, One (.agg (F12 a))), (2, Numv .f32 (sumQ (alongO f) 12)), (3, Numv .f32 (fop .f32 .quo (sumQ (alongO f) 12) (num .f32 1086324736))), (4, One (.agg (F12 c))), (5, Numv .f32 (sumQ (acrossO f) 12)), (6, Numv .f32 (fop .f32 .quo (sumQ (acrossO f) 12) (num .f32 1086324736))), (7, CxV (fop .f32 .quo (sumQ (alongO f) 12) (num .f32 1086324736)) (fop .f32 .quo (sumQ (acrossO f) 12) (num .f32 1086324736))), (8, One (.float .f32 m)), (9, CxV (fop .f32 .quo (sumQ (alongO f) 12) (num .f32 1086324736)) (fop .f32 .quo (sumQ (acrossO f) 12) (num .f32 1086324736)))] (by kernel_rfl) (by kernel_rfl) (by kernel_rfl) (by kernel_rfl) (by kernel_rfl) (by kernel_rfl) (by kernel_rfl) (by kernel_rfl) rfl ((Below.refl _ _).drew) ?_
          refine calm_pure (some 58) (by kernel_rfl) (by kernel_rfl) (by kernel_rfl) (fun _ => by kernel_rfl) ?_
          refine calm_load (some 59) 43 (.tmp 5) ((w.heap.size + 1 + 1)) 0 _ (by kernel_rfl) (by kernel_rfl) (by kernel_rfl) (by kernel_rfl) (by kernel_rfl) (fun w' hw' => range_kept RA.out l1 _ hw') Try.underlying43 rfl (by rw [show (F12 _).toList.length = 12 from R12_len _]; exact info12f) ?_
          refine calm_call (some 60) 21 #[.agg (F12 a)] (numv_ne (sumQ_ex (alongO_ex f) 12)) (by kernel_rfl) (by kernel_rfl) (by kernel_rfl) (fun _ => by kernel_rfl) (fun w' hw' => (sumOfDay_any a (alongO f) (fun j hj => (hv2.out j hj).1) w').mono fun e w2 ⟨r, he, hr, hq⟩ => ⟨_, he, ⟨r, rfl, hr⟩, below_step hw' hq (by have := hw'.size; omega)⟩) ?_
          rintro _ ⟨r60, rfl, hr60⟩
          refine calm_float (some 61) .f32 .quo 31 31 (.tmp 60) ((.const (.float .f32 1086324736))) (r60) (1086324736) (by kernel_rfl) (by kernel_rfl) (by kernel_rfl) (by kernel_rfl) rfl (by kernel_rfl) (by kernel_rfl) (fun _ n h => belowN h n) (fop_eq hr60 (rfl)) ?_
          intro r61 hr61
          refine calm_load (some 62) 43 (.tmp 6) ((w.heap.size + 1 + 1 + 1)) 0 _ (by kernel_rfl) (by kernel_rfl) (by kernel_rfl) (by kernel_rfl) (by kernel_rfl) (fun w' hw' => range_kept RC.out l2 _ hw') Try.underlying43 rfl (by rw [show (F12 _).toList.length = 12 from R12_len _]; exact info12f) ?_
          refine calm_call (some 63) 21 #[.agg (F12 c)] (numv_ne (sumQ_ex (acrossO_ex f) 12)) (by kernel_rfl) (by kernel_rfl) (by kernel_rfl) (fun _ => by kernel_rfl) (fun w' hw' => (sumOfDay_any c (acrossO f) (fun j hj => (hv2.out j hj).2) w').mono fun e w2 ⟨r, he, hr, hq⟩ => ⟨_, he, ⟨r, rfl, hr⟩, below_step hw' hq (by have := hw'.size; omega)⟩) ?_
          rintro _ ⟨r63, rfl, hr63⟩
          refine calm_float (some 64) .f32 .quo 31 31 (.tmp 63) ((.const (.float .f32 1086324736))) (r63) (1086324736) (by kernel_rfl) (by kernel_rfl) (by kernel_rfl) (by kernel_rfl) rfl (by kernel_rfl) (by kernel_rfl) (fun _ n h => belowN h n) (fop_eq hr63 (rfl)) ?_
          intro r64 hr64
          refine calm_call (some 65) 23 #[.float .f32 r61, .float .f32 r64] ⟨_, _, _, rfl, hr61, hr64⟩ (by kernel_rfl) (by kernel_rfl) (by kernel_rfl) (fun _ => by kernel_rfl) (fun w' hw' => (waveOf_any r61 r64 w').mono fun e w2 h => ⟨_, h.1, ⟨_, _, rfl, hr61, hr64⟩, h.2 ▸ hw'⟩) ?_
          rintro _ ⟨r65x, r65y, rfl, hr65x, hr65y⟩
          refine calm_pure (some 2) (by kernel_rfl) (by kernel_rfl) (by kernel_rfl) (fun _ => by kernel_rfl) ?_
          refine calm_pureV (some 3) (.complex .f32 r65x r65y) ⟨_, _, rfl, hr65x, hr65y⟩ (by kernel_rfl) (by kernel_rfl) (by kernel_rfl) (fun _ => by kernel_rfl) ?_
          rintro _ ⟨r3x, r3y, rfl, hr3x, hr3y⟩
          refine calm_end fun w' hw' => plan_end (Clean.normal ?_)
          simp only [Act.put, List.setIfInBounds_toArray, List.set_cons_zero, List.set_cons_succ]
          go_wp2
          go_ret2
          exact ⟨⟨m, _, _, rfl, MM.out, hr3x, hr3y⟩, A2.trans (hw'.mono (by omega))⟩
end Go.Proofs.Ytbafbhaahpjmcaa
