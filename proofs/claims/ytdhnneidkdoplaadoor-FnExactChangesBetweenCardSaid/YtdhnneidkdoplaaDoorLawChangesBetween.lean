/- The law FnExactChangesBetween: for every input the call returns true. Condition: the table of math/bits is laid. -/
import Derived.Test.YtdhnneidkdoplaaDoorCell
import Derived.Test.YtdhnneidkdoplaaDoorChgI
namespace Go.Proofs.YtdhnneidkdoplaaDoor
open Go.RowKit Go.WideShapes
set_option linter.unusedSimpArgs false
set_option linter.unusedVariables false

/-- A variable that is made in a region that draws. -/
theorem alloc_op {P : Program} {op : Oper} {a : Act} {ty : TypeId} {cs : Array Value} (w : World) (ho : op.op = .alloc ty) (hz : ∀ w, (zeroValue ty).run P w = .ok (.agg cs) w) :
    (execOp a.eval op).run P w = .ok (.value (.pointer (some ⟨w.heap.size, 0, none⟩))) (w.alloc (.cells cs ty)) := by
  unfold execOp
  simp only [ho, Sem.run_bind, hz, Result.andThen]
  go_simp

set_option maxRecDepth 100000 in
set_option maxHeartbeats 2000000 in
theorem fnExactChangesBetween_calls (G H : Gd) (w : World) (hG : GdOk G) (hH : GdOk H) (hT : TabAt w) :
    Calls Tryd.prog 7 #[.agg (Grd G), .agg (Grd H)] w fun e w' => e = .returned (.bool true) ∧ Below w.heap.size w w' := by
  obtain ⟨of, on, hV⟩ : ∃ (of : Nat → Nat) (on : Int), chV G H = .tuple #[.agg (Fld of), .int .i64 on] := chV_is G H
  have HV := Lib.hid hV
  clear hV
  have hz0 := (zero_of_info zeroField).1
  go_enter Tryd.func7, Tryd.ntmps7
  go_upto_region 1 with (fail)
  obtain ⟨W, hW, hz, g1, g2, hB⟩ := gbox2 G H 27 27 w
  rw [hW]
  clear hW
  have R1 := Lib.hid g1.range
  have R2 := Lib.hid g2.range
  have HB := Lib.hid hB
  have HG := Lib.hid hG
  have HH := Lib.hid hH
  have hlt := tab_lt hT
  have HT := Lib.hid (hT.below hB (tab_lt hT))
  clear g1 g2 hB hG hH hT
  refine Code.wp_mono (Q := fun e a w' => e = .normal ∧ ∃ b, a = ⟨#[.agg (Grd G), .agg (Grd H), .pointer (some ⟨w.heap.size, 0, none⟩), .pointer (some ⟨w.heap.size + 1, 0, none⟩), .bool false, .pointer (some ⟨b, 0, none⟩), .int .i64 on, undef, undef, .tuple #[.agg (Fld of), .int .i64 on], .agg (Grd G), .agg (Grd G), .agg (Grd H), .agg (Grd H), .tuple #[.agg (Fld of), .int .i64 on], .agg (Fld of), .int .i64 on, undef, undef, undef, undef, undef, undef, undef, undef, undef, undef, undef, undef, undef, undef, undef, undef, undef], []⟩ ∧ W.heap.size ≤ b ∧ b < w'.heap.size ∧ w'.rangeAt b 0 (Fld of).toList ∧ Below W.heap.size W w') ?_ (wp_region_plan (ops' := regOf Tryd.f7 1) (.take 0 (.take 2 (.two 1 8 (.two 3 8 (.two 4 8 (.take 5 (.take 6 (.take 7 (.run 8 (.run 9 (.take 10 .fin)))))) (.run 4 (.take 5 (.take 6 (.take 7 (.run 9 (.take 10 .fin))))))) (.run 3 (.run 4 (.take 5 (.take 6 (.take 7 (.run 9 (.take 10 .fin)))))))) (.run 1 (.run 3 (.run 4 (.take 5 (.take 6 (.take 7 (.run 9 (.take 10 .fin))))))))))) (Below W.heap.size W) (by kernel_rfl) (by kernel_rfl) (by kernel_rfl) (by kernel_rfl) (by kernel_rfl) (Below.refl _ _).drew ?_)
  rotate_left
  refine plan_load (some 10) 27 (.tmp 2) w.heap.size 0 _ _ (by kernel_rfl) (by kernel_rfl) (by kernel_rfl) (by kernel_rfl) (by kernel_rfl) (fun w' hw' => range_kept (n := W.heap.size) R1.out (by omega) _ hw') Tryd.underlying27 rfl (by rw [GrdL_length]; exact infoLGround) ?_
  refine plan_load (some 12) 27 (.tmp 3) (w.heap.size + 1) 0 _ _ (by kernel_rfl) (by kernel_rfl) (by kernel_rfl) (by kernel_rfl) (by kernel_rfl) (fun w' hw' => range_kept (n := W.heap.size) R2.out (by omega) _ hw') Tryd.underlying27 rfl (by rw [GrdL_length]; exact infoLGround) ?_
  have b0 : Below W.heap.size W W.drew := (Below.refl _ _).drew
  obtain ⟨x0, hx0⟩ : ∃ x, W.drew = x := ⟨_, rfl⟩
  rw [hx0] at b0 ⊢
  clear hx0
  refine plan_two ?_ ?_
  · skip
    refine plan_call (some 11) 18 #[.agg (Grd G)] (by kernel_rfl) (by kernel_rfl) (by kernel_rfl) (by kernel_rfl) ?_
    refine (toGround_any G _).mono ?_
    rintro _ x1 ⟨rfl, h1⟩
    have b1 : Below W.heap.size W x1 := below_step b0 h1 b0.size
    refine ⟨_, rfl, b1, ?_⟩
    refine plan_two ?_ ?_
    · skip
      refine plan_call (some 13) 18 #[.agg (Grd H)] (by kernel_rfl) (by kernel_rfl) (by kernel_rfl) (by kernel_rfl) ?_
      refine (toGround_any H _).mono ?_
      rintro _ x2 ⟨rfl, h2⟩
      have b2 : Below W.heap.size W x2 := below_step b1 h2 b1.size
      refine ⟨_, rfl, b2, ?_⟩
      refine plan_two ?_ ?_
      · skip
        refine plan_call (some 14) 28 #[.agg (Grd G), .agg (Grd H)] (by kernel_rfl) (by kernel_rfl) (by kernel_rfl) (by kernel_rfl) ?_
        refine (specChanges_any G H _ HG.out HH.out).mono ?_
        rintro _ x3 ⟨rfl, h3⟩
        have b3 : Below W.heap.size W x3 := below_step b2 h3 b2.size
        refine ⟨_, congrArg Ending.returned HV.out, b3, ?_⟩
        refine plan_pure (some 9) (.tuple #[.agg (Fld of), .int .i64 on]) (by kernel_rfl) (by kernel_rfl) (by kernel_rfl) (fun _ => by kernel_rfl) ?_
        refine plan_pure (some 15) (.agg (Fld of)) (by kernel_rfl) (by kernel_rfl) (by kernel_rfl) (fun _ => by kernel_rfl) ?_
        refine plan_pure (some 16) (.int .i64 on) (by kernel_rfl) (by kernel_rfl) (by kernel_rfl) (fun _ => by kernel_rfl) ?_
        refine plan_do (some 5) (.pointer (some ⟨x3.heap.size, 0, none⟩)) (x3.alloc (.cells (Fld zf) 30)) (by kernel_rfl) (by kernel_rfl) (by kernel_rfl) (.inl (alloc_op _ (by kernel_rfl) hz0)) (b3.alloc b3.size _) ?_
        have r4 := RowAt.new zf 30 x3
        have b4 : Below W.heap.size W (x3.alloc (.cells (Fld zf) 30)) := b3.alloc b3.size _
        have l4 : W.heap.size ≤ x3.heap.size := b3.size
        obtain ⟨x4, hx4⟩ : ∃ x, x3.alloc (.cells (Fld zf) 30) = x := ⟨_, rfl⟩
        rw [hx4] at r4 b4 ⊢
        clear hx4
        refine plan_do none undef (x4.setCells x3.heap.size 0 (Fld of).toList) (by kernel_rfl) (by kernel_rfl) (by kernel_rfl) (.inr ⟨store_op (x := .tmp 5) (y := .tmp 15) (by kernel_rfl) (by kernel_rfl) (by kernel_rfl) (by rw [Fld_size]; exact r4.there) (by rw [Fld_size]; exact infoField) (Fld_one _), rfl⟩) (below_setCells _ l4 _ _ _ b4) ?_
        refine plan_pure (some 6) (.int .i64 on) (by kernel_rfl) (by kernel_rfl) (by kernel_rfl) (fun _ => by kernel_rfl) ?_
        refine plan_end ⟨rfl, x3.heap.size, by kernel_rfl, l4, ?_, r4.store.range, below_setCells _ l4 _ _ _ b4⟩
        rw [size_setCells]; exact r4.lt
      · skip
        refine plan_do (some 5) (.pointer (some ⟨x2.heap.size, 0, none⟩)) (x2.alloc (.cells (Fld zf) 30)) (by kernel_rfl) (by kernel_rfl) (by kernel_rfl) (.inl (alloc_op _ (by kernel_rfl) hz0)) (b2.alloc b2.size _) ?_
        have r3 := RowAt.new zf 30 x2
        have b3 : Below W.heap.size W (x2.alloc (.cells (Fld zf) 30)) := b2.alloc b2.size _
        have l3 : W.heap.size ≤ x2.heap.size := b2.size
        obtain ⟨x3, hx3⟩ : ∃ x, x2.alloc (.cells (Fld zf) 30) = x := ⟨_, rfl⟩
        rw [hx3] at r3 b3 ⊢
        clear hx3
        refine plan_call (some 14) 28 #[.agg (Grd G), .agg (Grd H)] (by kernel_rfl) (by kernel_rfl) (by kernel_rfl) (by kernel_rfl) ?_
        refine (specChanges_any G H _ HG.out HH.out).mono ?_
        rintro _ x4 ⟨rfl, h4⟩
        have b4 : Below W.heap.size W x4 := below_step b3 h4 b3.size
        refine ⟨_, congrArg Ending.returned HV.out, b4, ?_⟩
        have r4 := r3.below h4 r3.lt
        refine plan_pure (some 9) (.tuple #[.agg (Fld of), .int .i64 on]) (by kernel_rfl) (by kernel_rfl) (by kernel_rfl) (fun _ => by kernel_rfl) ?_
        refine plan_pure (some 15) (.agg (Fld of)) (by kernel_rfl) (by kernel_rfl) (by kernel_rfl) (fun _ => by kernel_rfl) ?_
        refine plan_pure (some 16) (.int .i64 on) (by kernel_rfl) (by kernel_rfl) (by kernel_rfl) (fun _ => by kernel_rfl) ?_
        refine plan_do none undef (x4.setCells x2.heap.size 0 (Fld of).toList) (by kernel_rfl) (by kernel_rfl) (by kernel_rfl) (.inr ⟨store_op (x := .tmp 5) (y := .tmp 15) (by kernel_rfl) (by kernel_rfl) (by kernel_rfl) (by rw [Fld_size]; exact r4.there) (by rw [Fld_size]; exact infoField) (Fld_one _), rfl⟩) (below_setCells _ l3 _ _ _ b4) ?_
        refine plan_pure (some 6) (.int .i64 on) (by kernel_rfl) (by kernel_rfl) (by kernel_rfl) (fun _ => by kernel_rfl) ?_
        refine plan_end ⟨rfl, x2.heap.size, by kernel_rfl, l3, ?_, r4.store.range, below_setCells _ l3 _ _ _ b4⟩
        rw [size_setCells]; exact r4.lt
    · skip
      refine plan_do (some 5) (.pointer (some ⟨x1.heap.size, 0, none⟩)) (x1.alloc (.cells (Fld zf) 30)) (by kernel_rfl) (by kernel_rfl) (by kernel_rfl) (.inl (alloc_op _ (by kernel_rfl) hz0)) (b1.alloc b1.size _) ?_
      have r2 := RowAt.new zf 30 x1
      have b2 : Below W.heap.size W (x1.alloc (.cells (Fld zf) 30)) := b1.alloc b1.size _
      have l2 : W.heap.size ≤ x1.heap.size := b1.size
      obtain ⟨x2, hx2⟩ : ∃ x, x1.alloc (.cells (Fld zf) 30) = x := ⟨_, rfl⟩
      rw [hx2] at r2 b2 ⊢
      clear hx2
      refine plan_call (some 13) 18 #[.agg (Grd H)] (by kernel_rfl) (by kernel_rfl) (by kernel_rfl) (by kernel_rfl) ?_
      refine (toGround_any H _).mono ?_
      rintro _ x3 ⟨rfl, h3⟩
      have b3 : Below W.heap.size W x3 := below_step b2 h3 b2.size
      refine ⟨_, rfl, b3, ?_⟩
      have r3 := r2.below h3 r2.lt
      refine plan_call (some 14) 28 #[.agg (Grd G), .agg (Grd H)] (by kernel_rfl) (by kernel_rfl) (by kernel_rfl) (by kernel_rfl) ?_
      refine (specChanges_any G H _ HG.out HH.out).mono ?_
      rintro _ x4 ⟨rfl, h4⟩
      have b4 : Below W.heap.size W x4 := below_step b3 h4 b3.size
      refine ⟨_, congrArg Ending.returned HV.out, b4, ?_⟩
      have r4 := r3.below h4 r3.lt
      refine plan_pure (some 9) (.tuple #[.agg (Fld of), .int .i64 on]) (by kernel_rfl) (by kernel_rfl) (by kernel_rfl) (fun _ => by kernel_rfl) ?_
      refine plan_pure (some 15) (.agg (Fld of)) (by kernel_rfl) (by kernel_rfl) (by kernel_rfl) (fun _ => by kernel_rfl) ?_
      refine plan_pure (some 16) (.int .i64 on) (by kernel_rfl) (by kernel_rfl) (by kernel_rfl) (fun _ => by kernel_rfl) ?_
      refine plan_do none undef (x4.setCells x1.heap.size 0 (Fld of).toList) (by kernel_rfl) (by kernel_rfl) (by kernel_rfl) (.inr ⟨store_op (x := .tmp 5) (y := .tmp 15) (by kernel_rfl) (by kernel_rfl) (by kernel_rfl) (by rw [Fld_size]; exact r4.there) (by rw [Fld_size]; exact infoField) (Fld_one _), rfl⟩) (below_setCells _ l2 _ _ _ b4) ?_
      refine plan_pure (some 6) (.int .i64 on) (by kernel_rfl) (by kernel_rfl) (by kernel_rfl) (fun _ => by kernel_rfl) ?_
      refine plan_end ⟨rfl, x1.heap.size, by kernel_rfl, l2, ?_, r4.store.range, below_setCells _ l2 _ _ _ b4⟩
      rw [size_setCells]; exact r4.lt
  · skip
    refine plan_do (some 5) (.pointer (some ⟨x0.heap.size, 0, none⟩)) (x0.alloc (.cells (Fld zf) 30)) (by kernel_rfl) (by kernel_rfl) (by kernel_rfl) (.inl (alloc_op _ (by kernel_rfl) hz0)) (b0.alloc b0.size _) ?_
    have r1 := RowAt.new zf 30 x0
    have b1 : Below W.heap.size W (x0.alloc (.cells (Fld zf) 30)) := b0.alloc b0.size _
    have l1 : W.heap.size ≤ x0.heap.size := b0.size
    obtain ⟨x1, hx1⟩ : ∃ x, x0.alloc (.cells (Fld zf) 30) = x := ⟨_, rfl⟩
    rw [hx1] at r1 b1 ⊢
    clear hx1
    refine plan_call (some 11) 18 #[.agg (Grd G)] (by kernel_rfl) (by kernel_rfl) (by kernel_rfl) (by kernel_rfl) ?_
    refine (toGround_any G _).mono ?_
    rintro _ x2 ⟨rfl, h2⟩
    have b2 : Below W.heap.size W x2 := below_step b1 h2 b1.size
    refine ⟨_, rfl, b2, ?_⟩
    have r2 := r1.below h2 r1.lt
    refine plan_call (some 13) 18 #[.agg (Grd H)] (by kernel_rfl) (by kernel_rfl) (by kernel_rfl) (by kernel_rfl) ?_
    refine (toGround_any H _).mono ?_
    rintro _ x3 ⟨rfl, h3⟩
    have b3 : Below W.heap.size W x3 := below_step b2 h3 b2.size
    refine ⟨_, rfl, b3, ?_⟩
    have r3 := r2.below h3 r2.lt
    refine plan_call (some 14) 28 #[.agg (Grd G), .agg (Grd H)] (by kernel_rfl) (by kernel_rfl) (by kernel_rfl) (by kernel_rfl) ?_
    refine (specChanges_any G H _ HG.out HH.out).mono ?_
    rintro _ x4 ⟨rfl, h4⟩
    have b4 : Below W.heap.size W x4 := below_step b3 h4 b3.size
    refine ⟨_, congrArg Ending.returned HV.out, b4, ?_⟩
    have r4 := r3.below h4 r3.lt
    refine plan_pure (some 9) (.tuple #[.agg (Fld of), .int .i64 on]) (by kernel_rfl) (by kernel_rfl) (by kernel_rfl) (fun _ => by kernel_rfl) ?_
    refine plan_pure (some 15) (.agg (Fld of)) (by kernel_rfl) (by kernel_rfl) (by kernel_rfl) (fun _ => by kernel_rfl) ?_
    refine plan_pure (some 16) (.int .i64 on) (by kernel_rfl) (by kernel_rfl) (by kernel_rfl) (fun _ => by kernel_rfl) ?_
    refine plan_do none undef (x4.setCells x0.heap.size 0 (Fld of).toList) (by kernel_rfl) (by kernel_rfl) (by kernel_rfl) (.inr ⟨store_op (x := .tmp 5) (y := .tmp 15) (by kernel_rfl) (by kernel_rfl) (by kernel_rfl) (by rw [Fld_size]; exact r4.there) (by rw [Fld_size]; exact infoField) (Fld_one _), rfl⟩) (below_setCells _ l1 _ _ _ b4) ?_
    refine plan_pure (some 6) (.int .i64 on) (by kernel_rfl) (by kernel_rfl) (by kernel_rfl) (fun _ => by kernel_rfl) ?_
    refine plan_end ⟨rfl, x0.heap.size, by kernel_rfl, l1, ?_, r4.store.range, below_setCells _ l1 _ _ _ b4⟩
    rw [size_setCells]; exact r4.lt
  rintro _ _ V ⟨rfl, b1, rfl, lb1, sb1, rb1, hWV⟩
  have hz1 := hWV.size
  have R3 := Lib.hid rb1
  have HB1 := Lib.hid (HB.out.trans (hWV.mono (by omega)))
  have HT := Lib.hid (HT.out.below hWV (tab_lt HT.out))
  have R1 := Lib.hid (range_kept R1.out (by omega) _ hWV)
  have R2 := Lib.hid (range_kept R2.out (by omega) _ hWV)
  clear hWV rb1 HB
  go_upto_region 2 with (fail)
  refine Code.wp_mono (Q := fun e a w' => e = .normal ∧ ∃ b, a = ⟨#[.agg (Grd G), .agg (Grd H), .pointer (some ⟨w.heap.size, 0, none⟩), .pointer (some ⟨w.heap.size + 1, 0, none⟩), .bool false, .pointer (some ⟨b1, 0, none⟩), .int .i64 on, .pointer (some ⟨b, 0, none⟩), .int .i64 on, .tuple #[.agg (Fld of), .int .i64 on], .agg (Grd G), .agg (Grd G), .agg (Grd H), .agg (Grd H), .tuple #[.agg (Fld of), .int .i64 on], .agg (Fld of), .int .i64 on, .tuple #[.agg (Fld of), .int .i64 on], .agg (Grd G), .agg (Grd G), .agg (Grd H), .agg (Grd H), .tuple #[.agg (Fld of), .int .i64 on], .agg (Fld of), .int .i64 on, undef, undef, undef, undef, undef, undef, undef, undef, undef], []⟩ ∧ V.heap.size ≤ b ∧ b < w'.heap.size ∧ w'.rangeAt b 0 (Fld of).toList ∧ Below V.heap.size V w') ?_ (wp_region_plan (ops' := regOf Tryd.f7 2) (.take 0 (.take 2 (.two 1 8 (.two 3 8 (.two 4 8 (.take 5 (.take 6 (.take 7 (.run 8 (.run 9 (.take 10 .fin)))))) (.run 4 (.take 5 (.take 6 (.take 7 (.run 9 (.take 10 .fin))))))) (.run 3 (.run 4 (.take 5 (.take 6 (.take 7 (.run 9 (.take 10 .fin)))))))) (.run 1 (.run 3 (.run 4 (.take 5 (.take 6 (.take 7 (.run 9 (.take 10 .fin))))))))))) (Below V.heap.size V) (by kernel_rfl) (by kernel_rfl) (by kernel_rfl) (by kernel_rfl) (by kernel_rfl) (Below.refl _ _).drew ?_)
  rotate_left
  refine plan_load (some 18) 27 (.tmp 2) w.heap.size 0 _ _ (by kernel_rfl) (by kernel_rfl) (by kernel_rfl) (by kernel_rfl) (by kernel_rfl) (fun w' hw' => range_kept (n := V.heap.size) R1.out (by omega) _ hw') Tryd.underlying27 rfl (by rw [GrdL_length]; exact infoLGround) ?_
  refine plan_load (some 20) 27 (.tmp 3) (w.heap.size + 1) 0 _ _ (by kernel_rfl) (by kernel_rfl) (by kernel_rfl) (by kernel_rfl) (by kernel_rfl) (fun w' hw' => range_kept (n := V.heap.size) R2.out (by omega) _ hw') Tryd.underlying27 rfl (by rw [GrdL_length]; exact infoLGround) ?_
  have b0 : Below V.heap.size V V.drew := (Below.refl _ _).drew
  obtain ⟨x0, hx0⟩ : ∃ x, V.drew = x := ⟨_, rfl⟩
  rw [hx0] at b0 ⊢
  clear hx0
  refine plan_two ?_ ?_
  · skip
    refine plan_call (some 19) 18 #[.agg (Grd G)] (by kernel_rfl) (by kernel_rfl) (by kernel_rfl) (by kernel_rfl) ?_
    refine (toGround_any G _).mono ?_
    rintro _ x1 ⟨rfl, h1⟩
    have b1 : Below V.heap.size V x1 := below_step b0 h1 b0.size
    refine ⟨_, rfl, b1, ?_⟩
    refine plan_two ?_ ?_
    · skip
      refine plan_call (some 21) 18 #[.agg (Grd H)] (by kernel_rfl) (by kernel_rfl) (by kernel_rfl) (by kernel_rfl) ?_
      refine (toGround_any H _).mono ?_
      rintro _ x2 ⟨rfl, h2⟩
      have b2 : Below V.heap.size V x2 := below_step b1 h2 b1.size
      refine ⟨_, rfl, b2, ?_⟩
      refine plan_two ?_ ?_
      · skip
        refine plan_call (some 22) 29 #[.agg (Grd G), .agg (Grd H)] (by kernel_rfl) (by kernel_rfl) (by kernel_rfl) (by kernel_rfl) ?_
        refine (implChanges_any G H _ HG.out HH.out (HT.out.below b2 (tab_lt HT.out))).mono ?_
        rintro _ x3 ⟨rfl, h3⟩
        have b3 : Below V.heap.size V x3 := below_step b2 h3 b2.size
        refine ⟨_, congrArg Ending.returned HV.out, b3, ?_⟩
        refine plan_pure (some 17) (.tuple #[.agg (Fld of), .int .i64 on]) (by kernel_rfl) (by kernel_rfl) (by kernel_rfl) (fun _ => by kernel_rfl) ?_
        refine plan_pure (some 23) (.agg (Fld of)) (by kernel_rfl) (by kernel_rfl) (by kernel_rfl) (fun _ => by kernel_rfl) ?_
        refine plan_pure (some 24) (.int .i64 on) (by kernel_rfl) (by kernel_rfl) (by kernel_rfl) (fun _ => by kernel_rfl) ?_
        refine plan_do (some 7) (.pointer (some ⟨x3.heap.size, 0, none⟩)) (x3.alloc (.cells (Fld zf) 30)) (by kernel_rfl) (by kernel_rfl) (by kernel_rfl) (.inl (alloc_op _ (by kernel_rfl) hz0)) (b3.alloc b3.size _) ?_
        have r4 := RowAt.new zf 30 x3
        have b4 : Below V.heap.size V (x3.alloc (.cells (Fld zf) 30)) := b3.alloc b3.size _
        have l4 : V.heap.size ≤ x3.heap.size := b3.size
        obtain ⟨x4, hx4⟩ : ∃ x, x3.alloc (.cells (Fld zf) 30) = x := ⟨_, rfl⟩
        rw [hx4] at r4 b4 ⊢
        clear hx4
        refine plan_do none undef (x4.setCells x3.heap.size 0 (Fld of).toList) (by kernel_rfl) (by kernel_rfl) (by kernel_rfl) (.inr ⟨store_op (x := .tmp 7) (y := .tmp 23) (by kernel_rfl) (by kernel_rfl) (by kernel_rfl) (by rw [Fld_size]; exact r4.there) (by rw [Fld_size]; exact infoField) (Fld_one _), rfl⟩) (below_setCells _ l4 _ _ _ b4) ?_
        refine plan_pure (some 8) (.int .i64 on) (by kernel_rfl) (by kernel_rfl) (by kernel_rfl) (fun _ => by kernel_rfl) ?_
        refine plan_end ⟨rfl, x3.heap.size, by kernel_rfl, l4, ?_, r4.store.range, below_setCells _ l4 _ _ _ b4⟩
        rw [size_setCells]; exact r4.lt
      · skip
        refine plan_do (some 7) (.pointer (some ⟨x2.heap.size, 0, none⟩)) (x2.alloc (.cells (Fld zf) 30)) (by kernel_rfl) (by kernel_rfl) (by kernel_rfl) (.inl (alloc_op _ (by kernel_rfl) hz0)) (b2.alloc b2.size _) ?_
        have r3 := RowAt.new zf 30 x2
        have b3 : Below V.heap.size V (x2.alloc (.cells (Fld zf) 30)) := b2.alloc b2.size _
        have l3 : V.heap.size ≤ x2.heap.size := b2.size
        obtain ⟨x3, hx3⟩ : ∃ x, x2.alloc (.cells (Fld zf) 30) = x := ⟨_, rfl⟩
        rw [hx3] at r3 b3 ⊢
        clear hx3
        refine plan_call (some 22) 29 #[.agg (Grd G), .agg (Grd H)] (by kernel_rfl) (by kernel_rfl) (by kernel_rfl) (by kernel_rfl) ?_
        refine (implChanges_any G H _ HG.out HH.out (HT.out.below b3 (tab_lt HT.out))).mono ?_
        rintro _ x4 ⟨rfl, h4⟩
        have b4 : Below V.heap.size V x4 := below_step b3 h4 b3.size
        refine ⟨_, congrArg Ending.returned HV.out, b4, ?_⟩
        have r4 := r3.below h4 r3.lt
        refine plan_pure (some 17) (.tuple #[.agg (Fld of), .int .i64 on]) (by kernel_rfl) (by kernel_rfl) (by kernel_rfl) (fun _ => by kernel_rfl) ?_
        refine plan_pure (some 23) (.agg (Fld of)) (by kernel_rfl) (by kernel_rfl) (by kernel_rfl) (fun _ => by kernel_rfl) ?_
        refine plan_pure (some 24) (.int .i64 on) (by kernel_rfl) (by kernel_rfl) (by kernel_rfl) (fun _ => by kernel_rfl) ?_
        refine plan_do none undef (x4.setCells x2.heap.size 0 (Fld of).toList) (by kernel_rfl) (by kernel_rfl) (by kernel_rfl) (.inr ⟨store_op (x := .tmp 7) (y := .tmp 23) (by kernel_rfl) (by kernel_rfl) (by kernel_rfl) (by rw [Fld_size]; exact r4.there) (by rw [Fld_size]; exact infoField) (Fld_one _), rfl⟩) (below_setCells _ l3 _ _ _ b4) ?_
        refine plan_pure (some 8) (.int .i64 on) (by kernel_rfl) (by kernel_rfl) (by kernel_rfl) (fun _ => by kernel_rfl) ?_
        refine plan_end ⟨rfl, x2.heap.size, by kernel_rfl, l3, ?_, r4.store.range, below_setCells _ l3 _ _ _ b4⟩
        rw [size_setCells]; exact r4.lt
    · skip
      refine plan_do (some 7) (.pointer (some ⟨x1.heap.size, 0, none⟩)) (x1.alloc (.cells (Fld zf) 30)) (by kernel_rfl) (by kernel_rfl) (by kernel_rfl) (.inl (alloc_op _ (by kernel_rfl) hz0)) (b1.alloc b1.size _) ?_
      have r2 := RowAt.new zf 30 x1
      have b2 : Below V.heap.size V (x1.alloc (.cells (Fld zf) 30)) := b1.alloc b1.size _
      have l2 : V.heap.size ≤ x1.heap.size := b1.size
      obtain ⟨x2, hx2⟩ : ∃ x, x1.alloc (.cells (Fld zf) 30) = x := ⟨_, rfl⟩
      rw [hx2] at r2 b2 ⊢
      clear hx2
      refine plan_call (some 21) 18 #[.agg (Grd H)] (by kernel_rfl) (by kernel_rfl) (by kernel_rfl) (by kernel_rfl) ?_
      refine (toGround_any H _).mono ?_
      rintro _ x3 ⟨rfl, h3⟩
      have b3 : Below V.heap.size V x3 := below_step b2 h3 b2.size
      refine ⟨_, rfl, b3, ?_⟩
      have r3 := r2.below h3 r2.lt
      refine plan_call (some 22) 29 #[.agg (Grd G), .agg (Grd H)] (by kernel_rfl) (by kernel_rfl) (by kernel_rfl) (by kernel_rfl) ?_
      refine (implChanges_any G H _ HG.out HH.out (HT.out.below b3 (tab_lt HT.out))).mono ?_
      rintro _ x4 ⟨rfl, h4⟩
      have b4 : Below V.heap.size V x4 := below_step b3 h4 b3.size
      refine ⟨_, congrArg Ending.returned HV.out, b4, ?_⟩
      have r4 := r3.below h4 r3.lt
      refine plan_pure (some 17) (.tuple #[.agg (Fld of), .int .i64 on]) (by kernel_rfl) (by kernel_rfl) (by kernel_rfl) (fun _ => by kernel_rfl) ?_
      refine plan_pure (some 23) (.agg (Fld of)) (by kernel_rfl) (by kernel_rfl) (by kernel_rfl) (fun _ => by kernel_rfl) ?_
      refine plan_pure (some 24) (.int .i64 on) (by kernel_rfl) (by kernel_rfl) (by kernel_rfl) (fun _ => by kernel_rfl) ?_
      refine plan_do none undef (x4.setCells x1.heap.size 0 (Fld of).toList) (by kernel_rfl) (by kernel_rfl) (by kernel_rfl) (.inr ⟨store_op (x := .tmp 7) (y := .tmp 23) (by kernel_rfl) (by kernel_rfl) (by kernel_rfl) (by rw [Fld_size]; exact r4.there) (by rw [Fld_size]; exact infoField) (Fld_one _), rfl⟩) (below_setCells _ l2 _ _ _ b4) ?_
      refine plan_pure (some 8) (.int .i64 on) (by kernel_rfl) (by kernel_rfl) (by kernel_rfl) (fun _ => by kernel_rfl) ?_
      refine plan_end ⟨rfl, x1.heap.size, by kernel_rfl, l2, ?_, r4.store.range, below_setCells _ l2 _ _ _ b4⟩
      rw [size_setCells]; exact r4.lt
  · skip
    refine plan_do (some 7) (.pointer (some ⟨x0.heap.size, 0, none⟩)) (x0.alloc (.cells (Fld zf) 30)) (by kernel_rfl) (by kernel_rfl) (by kernel_rfl) (.inl (alloc_op _ (by kernel_rfl) hz0)) (b0.alloc b0.size _) ?_
    have r1 := RowAt.new zf 30 x0
    have b1 : Below V.heap.size V (x0.alloc (.cells (Fld zf) 30)) := b0.alloc b0.size _
    have l1 : V.heap.size ≤ x0.heap.size := b0.size
    obtain ⟨x1, hx1⟩ : ∃ x, x0.alloc (.cells (Fld zf) 30) = x := ⟨_, rfl⟩
    rw [hx1] at r1 b1 ⊢
    clear hx1
    refine plan_call (some 19) 18 #[.agg (Grd G)] (by kernel_rfl) (by kernel_rfl) (by kernel_rfl) (by kernel_rfl) ?_
    refine (toGround_any G _).mono ?_
    rintro _ x2 ⟨rfl, h2⟩
    have b2 : Below V.heap.size V x2 := below_step b1 h2 b1.size
    refine ⟨_, rfl, b2, ?_⟩
    have r2 := r1.below h2 r1.lt
    refine plan_call (some 21) 18 #[.agg (Grd H)] (by kernel_rfl) (by kernel_rfl) (by kernel_rfl) (by kernel_rfl) ?_
    refine (toGround_any H _).mono ?_
    rintro _ x3 ⟨rfl, h3⟩
    have b3 : Below V.heap.size V x3 := below_step b2 h3 b2.size
    refine ⟨_, rfl, b3, ?_⟩
    have r3 := r2.below h3 r2.lt
    refine plan_call (some 22) 29 #[.agg (Grd G), .agg (Grd H)] (by kernel_rfl) (by kernel_rfl) (by kernel_rfl) (by kernel_rfl) ?_
    refine (implChanges_any G H _ HG.out HH.out (HT.out.below b3 (tab_lt HT.out))).mono ?_
    rintro _ x4 ⟨rfl, h4⟩
    have b4 : Below V.heap.size V x4 := below_step b3 h4 b3.size
    refine ⟨_, congrArg Ending.returned HV.out, b4, ?_⟩
    have r4 := r3.below h4 r3.lt
    refine plan_pure (some 17) (.tuple #[.agg (Fld of), .int .i64 on]) (by kernel_rfl) (by kernel_rfl) (by kernel_rfl) (fun _ => by kernel_rfl) ?_
    refine plan_pure (some 23) (.agg (Fld of)) (by kernel_rfl) (by kernel_rfl) (by kernel_rfl) (fun _ => by kernel_rfl) ?_
    refine plan_pure (some 24) (.int .i64 on) (by kernel_rfl) (by kernel_rfl) (by kernel_rfl) (fun _ => by kernel_rfl) ?_
    refine plan_do none undef (x4.setCells x0.heap.size 0 (Fld of).toList) (by kernel_rfl) (by kernel_rfl) (by kernel_rfl) (.inr ⟨store_op (x := .tmp 7) (y := .tmp 23) (by kernel_rfl) (by kernel_rfl) (by kernel_rfl) (by rw [Fld_size]; exact r4.there) (by rw [Fld_size]; exact infoField) (Fld_one _), rfl⟩) (below_setCells _ l1 _ _ _ b4) ?_
    refine plan_pure (some 8) (.int .i64 on) (by kernel_rfl) (by kernel_rfl) (by kernel_rfl) (fun _ => by kernel_rfl) ?_
    refine plan_end ⟨rfl, x0.heap.size, by kernel_rfl, l1, ?_, r4.store.range, below_setCells _ l1 _ _ _ b4⟩
    rw [size_setCells]; exact r4.lt
  rintro _ _ U ⟨rfl, b2, rfl, lb2, sb2, rb2, hVU⟩
  have hz2 := hVU.size
  have r4 := range_kept R3.out (by omega) _ hVU
  have r5 := rb2
  have B2 := Lib.hid (HB1.out.trans (hVU.mono (by omega)))
  clear hVU rb2 HB1
  go_wp2_with (first | (refine wpList_load_mid rfl 30 _ rfl b2 0 rfl (Fld of).toList _ r5 Tryd.underlying30 rfl (by rw [Fld_length]; exact infoField) ?_) | (refine wpList_load_mid rfl 30 _ rfl b1 0 rfl (Fld of).toList _ r4 Tryd.underlying30 rfl (by rw [Fld_length]; exact infoField) ?_) | (go_at_call 30; refine (eqField_yes of _).mono ?_; rintro e Y ⟨rfl, hy⟩))
  go_ret
  exact ⟨rfl, B2.out.trans (hy.mono (by omega))⟩

set_option maxRecDepth 100000 in
theorem fnExactChangesBetween_walk (W : World) (base : Nat) (args : Array Value) (hn : args.size = Tryd.f7.params.size)
    (hv : ∀ (j : Nat) t v, Tryd.f7.params[j]? = some t → args[j]? = some v → Value.okWide Tryd.prog W .any base t v) (hT : TabAt W) :
    Calls Tryd.prog 7 args W fun e W' => e = .returned (.bool true) ∧ Below W.heap.size W W' := by
  rw [Tryd.params7] at hn hv
  obtain ⟨l⟩ := args
  match l, hn with
  | [v0, v1], _ =>
    obtain ⟨G, rfl, hG⟩ := okWide_grd (hv 0 _ v0 rfl rfl)
    obtain ⟨H, rfl, hH⟩ := okWide_grd (hv 1 _ v1 rfl rfl)
    exact fnExactChangesBetween_calls G H W hG hH hT
end Go.Proofs.YtdhnneidkdoplaaDoor
