/- The law FnExactMixBrines: for every input the call returns true. Condition: the table of math/bits is laid. -/
import Derived.Test.YtnochmlhimddpaaDoorBriL
import Derived.Test.YtnochmlhimddpaaDoorBrMi
namespace Go.Proofs.YtnochmlhimddpaaDoor
open Go.RowKit Go.WideShapes
set_option linter.unusedSimpArgs false
set_option linter.unusedVariables false

/-- A variable that is made in a region that draws. -/
theorem alloc_op {P : Program} {op : Oper} {a : Act} {ty : TypeId} {cs : Array Value} (w : World) (ho : op.op = .alloc ty) (hz : ∀ w, (zeroValue ty).run P w = .ok (.agg cs) w) :
    (execOp a.eval op).run P w = .ok (.value (.pointer (some ⟨w.heap.size, 0, none⟩))) (w.alloc (.cells cs ty)) := by
  unfold execOp
  simp only [ho, Sem.run_bind, hz, Result.andThen]
  go_simp

set_option maxRecDepth 100000 in
set_option maxHeartbeats 4000000 in
theorem fnExactMixBrines_calls (A B : Brn) (q : Nat) (w : World) (hA : BrnOk A) (hG : BrnOk B) (hT : TabAt w) :
    Calls Tryd.prog 5 #[.agg (BrnA A), .agg (BrnA B), .float .f32 q] w fun e w' => e = .returned (.bool true) ∧ Below w.heap.size w w' := by
  obtain ⟨C, on, oS, hV⟩ := mixV_is A B q
  have HV := Lib.hid hV
  clear hV
  have hz0 := (zero_of_info zeroBrine).1
  go_enter Tryd.func5, Tryd.ntmps5
  go_upto_region 1 with (fail)
  obtain ⟨W, hW, hz, g1, g2, hB⟩ := bbox2 A B 29 29 w
  rw [hW]
  clear hW
  have R1 := Lib.hid g1.range
  have R2 := Lib.hid g2.range
  have HB := Lib.hid hB
  have HA := Lib.hid hA
  have HG := Lib.hid hG
  have hlt := tab_lt hT
  have HT := Lib.hid (hT.below hB (tab_lt hT))
  clear g1 g2 hB hA hG hT
  refine Code.wp_mono (Q := fun e a w' => e = .normal ∧ ∃ (b : Nat) (p1 : Nat → Nat), a = ⟨#[.agg (BrnA A), .agg (BrnA B), .float .f32 q, .pointer (some ⟨w.heap.size, 0, none⟩), .pointer (some ⟨w.heap.size + 1, 0, none⟩), undef, .bool false, .pointer (some ⟨b, 0, none⟩), .int .i64 on, undef, undef, .tuple #[.agg (BrnA { C with s := p1 }), .int .i64 on], .agg (BrnA A), .agg (BrnA A), .agg (BrnA B), .agg (BrnA B), .float .f32 q, .tuple #[.agg (BrnA { C with s := p1 }), .int .i64 on], .agg (BrnA { C with s := p1 }), .int .i64 on, undef, undef, undef, undef, undef, undef, undef, undef, undef, undef, undef, undef, undef, undef, undef, undef, undef, undef], []⟩ ∧ W.heap.size ≤ b ∧ b < w'.heap.size ∧ w'.rangeAt b 0 (BrnL { C with s := p1 }) ∧ Below W.heap.size W w' ∧ ∀ i, i < 64 → num .f32 (p1 i) = oS i) ?_ (wp_region_plan (ops' := regOf Tryd.f5 1) (.take 0 (.take 2 (.take 4 (.two 1 9 (.two 3 9 (.two 5 9 (.take 6 (.take 7 (.take 8 (.run 9 (.run 10 (.take 11 .fin)))))) (.run 5 (.take 6 (.take 7 (.take 8 (.run 10 (.take 11 .fin))))))) (.run 3 (.run 5 (.take 6 (.take 7 (.take 8 (.run 10 (.take 11 .fin)))))))) (.run 1 (.run 3 (.run 5 (.take 6 (.take 7 (.take 8 (.run 10 (.take 11 .fin)))))))))))) (Below W.heap.size W) (by kernel_rfl) (by kernel_rfl) (by kernel_rfl) (by kernel_rfl) (by kernel_rfl) (Below.refl _ _).drew ?_)
  rotate_left
  refine plan_load (some 12) 29 (.tmp 3) w.heap.size 0 _ _ (by kernel_rfl) (by kernel_rfl) (by kernel_rfl) (by kernel_rfl) (by kernel_rfl) (fun w' hw' => range_kept (n := W.heap.size) R1.out (by omega) _ hw') Tryd.underlying29 rfl (by rw [BrnL_length]; exact infoLBrine) ?_
  refine plan_load (some 14) 29 (.tmp 4) (w.heap.size + 1) 0 _ _ (by kernel_rfl) (by kernel_rfl) (by kernel_rfl) (by kernel_rfl) (by kernel_rfl) (fun w' hw' => range_kept (n := W.heap.size) R2.out (by omega) _ hw') Tryd.underlying29 rfl (by rw [BrnL_length]; exact infoLBrine) ?_
  refine plan_pure (some 16) (.float .f32 q) (by kernel_rfl) (by kernel_rfl) (by kernel_rfl) (fun _ => by kernel_rfl) ?_
  have b0 : Below W.heap.size W W.drew := (Below.refl _ _).drew
  obtain ⟨x0, hx0⟩ : ∃ x, W.drew = x := ⟨_, rfl⟩
  rw [hx0] at b0 ⊢
  clear hx0
  refine plan_two ?_ ?_
  · skip
    refine plan_call (some 13) 14 #[.agg (BrnA A)] (by kernel_rfl) (by kernel_rfl) (by kernel_rfl) (by kernel_rfl) ?_
    refine (toBrine_any A _).mono ?_
    rintro _ x1 ⟨rfl, h1⟩
    have b1 : Below W.heap.size W x1 := below_step b0 h1 b0.size
    refine ⟨_, rfl, b1, ?_⟩
    refine plan_two ?_ ?_
    · skip
      refine plan_call (some 15) 14 #[.agg (BrnA B)] (by kernel_rfl) (by kernel_rfl) (by kernel_rfl) (by kernel_rfl) ?_
      refine (toBrine_any B _).mono ?_
      rintro _ x2 ⟨rfl, h2⟩
      have b2 : Below W.heap.size W x2 := below_step b1 h2 b1.size
      refine ⟨_, rfl, b2, ?_⟩
      refine plan_two ?_ ?_
      · skip
        refine plan_call (some 17) 19 #[.agg (BrnA A), .agg (BrnA B), .float .f32 q] (by kernel_rfl) (by kernel_rfl) (by kernel_rfl) (by kernel_rfl) ?_
        refine (specMix_any A B q _ HA.out HG.out).mono ?_
        rintro _ x3 ⟨he, h3⟩
        obtain ⟨p1, rfl, hp⟩ := HV.out _ he
        have b3 : Below W.heap.size W x3 := below_step b2 h3 b2.size
        refine ⟨_, rfl, b3, ?_⟩
        refine plan_pure (some 11) (.tuple #[.agg (BrnA { C with s := p1 }), .int .i64 on]) (by kernel_rfl) (by kernel_rfl) (by kernel_rfl) (fun _ => by kernel_rfl) ?_
        refine plan_pure (some 18) (.agg (BrnA { C with s := p1 })) (by kernel_rfl) (by kernel_rfl) (by kernel_rfl) (fun _ => by kernel_rfl) ?_
        refine plan_pure (some 19) (.int .i64 on) (by kernel_rfl) (by kernel_rfl) (by kernel_rfl) (fun _ => by kernel_rfl) ?_
        refine plan_do (some 7) (.pointer (some ⟨x3.heap.size, 0, none⟩)) (x3.alloc (.cells (BrnA zB) 36)) (by kernel_rfl) (by kernel_rfl) (by kernel_rfl) (.inl (alloc_op _ (by kernel_rfl) hz0)) (b3.alloc b3.size _) ?_
        have r4 : BrnBox (x3.alloc (.cells (BrnA zB) 36)) x3.heap.size zB := .of_row (heap_alloc_last x3 _)
        have b4 : Below W.heap.size W (x3.alloc (.cells (BrnA zB) 36)) := b3.alloc b3.size _
        have l4 : W.heap.size ≤ x3.heap.size := b3.size
        obtain ⟨x4, hx4⟩ : ∃ x, x3.alloc (.cells (BrnA zB) 36) = x := ⟨_, rfl⟩
        rw [hx4] at r4 b4 ⊢
        clear hx4
        refine plan_do none undef (x4.setCells x3.heap.size 0 (BrnA { C with s := p1 }).toList) (by kernel_rfl) (by kernel_rfl) (by kernel_rfl) (.inr ⟨store_op (x := .tmp 7) (y := .tmp 18) (by kernel_rfl) (by kernel_rfl) (by kernel_rfl) (by rw [BrnA_size]; exact r4.there) (by rw [BrnA_size]; exact infoBrine) (BrnA_one _), rfl⟩) (below_setCells _ l4 _ _ _ b4) ?_
        refine plan_pure (some 8) (.int .i64 on) (by kernel_rfl) (by kernel_rfl) (by kernel_rfl) (fun _ => by kernel_rfl) ?_
        refine plan_end ⟨rfl, x3.heap.size, p1, by kernel_rfl, l4, ?_, (r4.store (C := { C with s := p1 })).range, below_setCells _ l4 _ _ _ b4, hp⟩
        rw [size_setCells]; exact r4.lt
      · skip
        refine plan_do (some 7) (.pointer (some ⟨x2.heap.size, 0, none⟩)) (x2.alloc (.cells (BrnA zB) 36)) (by kernel_rfl) (by kernel_rfl) (by kernel_rfl) (.inl (alloc_op _ (by kernel_rfl) hz0)) (b2.alloc b2.size _) ?_
        have r3 : BrnBox (x2.alloc (.cells (BrnA zB) 36)) x2.heap.size zB := .of_row (heap_alloc_last x2 _)
        have b3 : Below W.heap.size W (x2.alloc (.cells (BrnA zB) 36)) := b2.alloc b2.size _
        have l3 : W.heap.size ≤ x2.heap.size := b2.size
        obtain ⟨x3, hx3⟩ : ∃ x, x2.alloc (.cells (BrnA zB) 36) = x := ⟨_, rfl⟩
        rw [hx3] at r3 b3 ⊢
        clear hx3
        refine plan_call (some 17) 19 #[.agg (BrnA A), .agg (BrnA B), .float .f32 q] (by kernel_rfl) (by kernel_rfl) (by kernel_rfl) (by kernel_rfl) ?_
        refine (specMix_any A B q _ HA.out HG.out).mono ?_
        rintro _ x4 ⟨he, h4⟩
        obtain ⟨p1, rfl, hp⟩ := HV.out _ he
        have b4 : Below W.heap.size W x4 := below_step b3 h4 b3.size
        refine ⟨_, rfl, b4, ?_⟩
        have r4 := r3.below h4 r3.lt
        refine plan_pure (some 11) (.tuple #[.agg (BrnA { C with s := p1 }), .int .i64 on]) (by kernel_rfl) (by kernel_rfl) (by kernel_rfl) (fun _ => by kernel_rfl) ?_
        refine plan_pure (some 18) (.agg (BrnA { C with s := p1 })) (by kernel_rfl) (by kernel_rfl) (by kernel_rfl) (fun _ => by kernel_rfl) ?_
        refine plan_pure (some 19) (.int .i64 on) (by kernel_rfl) (by kernel_rfl) (by kernel_rfl) (fun _ => by kernel_rfl) ?_
        refine plan_do none undef (x4.setCells x2.heap.size 0 (BrnA { C with s := p1 }).toList) (by kernel_rfl) (by kernel_rfl) (by kernel_rfl) (.inr ⟨store_op (x := .tmp 7) (y := .tmp 18) (by kernel_rfl) (by kernel_rfl) (by kernel_rfl) (by rw [BrnA_size]; exact r4.there) (by rw [BrnA_size]; exact infoBrine) (BrnA_one _), rfl⟩) (below_setCells _ l3 _ _ _ b4) ?_
        refine plan_pure (some 8) (.int .i64 on) (by kernel_rfl) (by kernel_rfl) (by kernel_rfl) (fun _ => by kernel_rfl) ?_
        refine plan_end ⟨rfl, x2.heap.size, p1, by kernel_rfl, l3, ?_, (r4.store (C := { C with s := p1 })).range, below_setCells _ l3 _ _ _ b4, hp⟩
        rw [size_setCells]; exact r4.lt
    · skip
      refine plan_do (some 7) (.pointer (some ⟨x1.heap.size, 0, none⟩)) (x1.alloc (.cells (BrnA zB) 36)) (by kernel_rfl) (by kernel_rfl) (by kernel_rfl) (.inl (alloc_op _ (by kernel_rfl) hz0)) (b1.alloc b1.size _) ?_
      have r2 : BrnBox (x1.alloc (.cells (BrnA zB) 36)) x1.heap.size zB := .of_row (heap_alloc_last x1 _)
      have b2 : Below W.heap.size W (x1.alloc (.cells (BrnA zB) 36)) := b1.alloc b1.size _
      have l2 : W.heap.size ≤ x1.heap.size := b1.size
      obtain ⟨x2, hx2⟩ : ∃ x, x1.alloc (.cells (BrnA zB) 36) = x := ⟨_, rfl⟩
      rw [hx2] at r2 b2 ⊢
      clear hx2
      refine plan_call (some 15) 14 #[.agg (BrnA B)] (by kernel_rfl) (by kernel_rfl) (by kernel_rfl) (by kernel_rfl) ?_
      refine (toBrine_any B _).mono ?_
      rintro _ x3 ⟨rfl, h3⟩
      have b3 : Below W.heap.size W x3 := below_step b2 h3 b2.size
      refine ⟨_, rfl, b3, ?_⟩
      have r3 := r2.below h3 r2.lt
      refine plan_call (some 17) 19 #[.agg (BrnA A), .agg (BrnA B), .float .f32 q] (by kernel_rfl) (by kernel_rfl) (by kernel_rfl) (by kernel_rfl) ?_
      refine (specMix_any A B q _ HA.out HG.out).mono ?_
      rintro _ x4 ⟨he, h4⟩
      obtain ⟨p1, rfl, hp⟩ := HV.out _ he
      have b4 : Below W.heap.size W x4 := below_step b3 h4 b3.size
      refine ⟨_, rfl, b4, ?_⟩
      have r4 := r3.below h4 r3.lt
      refine plan_pure (some 11) (.tuple #[.agg (BrnA { C with s := p1 }), .int .i64 on]) (by kernel_rfl) (by kernel_rfl) (by kernel_rfl) (fun _ => by kernel_rfl) ?_
      refine plan_pure (some 18) (.agg (BrnA { C with s := p1 })) (by kernel_rfl) (by kernel_rfl) (by kernel_rfl) (fun _ => by kernel_rfl) ?_
      refine plan_pure (some 19) (.int .i64 on) (by kernel_rfl) (by kernel_rfl) (by kernel_rfl) (fun _ => by kernel_rfl) ?_
      refine plan_do none undef (x4.setCells x1.heap.size 0 (BrnA { C with s := p1 }).toList) (by kernel_rfl) (by kernel_rfl) (by kernel_rfl) (.inr ⟨store_op (x := .tmp 7) (y := .tmp 18) (by kernel_rfl) (by kernel_rfl) (by kernel_rfl) (by rw [BrnA_size]; exact r4.there) (by rw [BrnA_size]; exact infoBrine) (BrnA_one _), rfl⟩) (below_setCells _ l2 _ _ _ b4) ?_
      refine plan_pure (some 8) (.int .i64 on) (by kernel_rfl) (by kernel_rfl) (by kernel_rfl) (fun _ => by kernel_rfl) ?_
      refine plan_end ⟨rfl, x1.heap.size, p1, by kernel_rfl, l2, ?_, (r4.store (C := { C with s := p1 })).range, below_setCells _ l2 _ _ _ b4, hp⟩
      rw [size_setCells]; exact r4.lt
  · skip
    refine plan_do (some 7) (.pointer (some ⟨x0.heap.size, 0, none⟩)) (x0.alloc (.cells (BrnA zB) 36)) (by kernel_rfl) (by kernel_rfl) (by kernel_rfl) (.inl (alloc_op _ (by kernel_rfl) hz0)) (b0.alloc b0.size _) ?_
    have r1 : BrnBox (x0.alloc (.cells (BrnA zB) 36)) x0.heap.size zB := .of_row (heap_alloc_last x0 _)
    have b1 : Below W.heap.size W (x0.alloc (.cells (BrnA zB) 36)) := b0.alloc b0.size _
    have l1 : W.heap.size ≤ x0.heap.size := b0.size
    obtain ⟨x1, hx1⟩ : ∃ x, x0.alloc (.cells (BrnA zB) 36) = x := ⟨_, rfl⟩
    rw [hx1] at r1 b1 ⊢
    clear hx1
    refine plan_call (some 13) 14 #[.agg (BrnA A)] (by kernel_rfl) (by kernel_rfl) (by kernel_rfl) (by kernel_rfl) ?_
    refine (toBrine_any A _).mono ?_
    rintro _ x2 ⟨rfl, h2⟩
    have b2 : Below W.heap.size W x2 := below_step b1 h2 b1.size
    refine ⟨_, rfl, b2, ?_⟩
    have r2 := r1.below h2 r1.lt
    refine plan_call (some 15) 14 #[.agg (BrnA B)] (by kernel_rfl) (by kernel_rfl) (by kernel_rfl) (by kernel_rfl) ?_
    refine (toBrine_any B _).mono ?_
    rintro _ x3 ⟨rfl, h3⟩
    have b3 : Below W.heap.size W x3 := below_step b2 h3 b2.size
    refine ⟨_, rfl, b3, ?_⟩
    have r3 := r2.below h3 r2.lt
    refine plan_call (some 17) 19 #[.agg (BrnA A), .agg (BrnA B), .float .f32 q] (by kernel_rfl) (by kernel_rfl) (by kernel_rfl) (by kernel_rfl) ?_
    refine (specMix_any A B q _ HA.out HG.out).mono ?_
    rintro _ x4 ⟨he, h4⟩
    obtain ⟨p1, rfl, hp⟩ := HV.out _ he
    have b4 : Below W.heap.size W x4 := below_step b3 h4 b3.size
    refine ⟨_, rfl, b4, ?_⟩
    have r4 := r3.below h4 r3.lt
    refine plan_pure (some 11) (.tuple #[.agg (BrnA { C with s := p1 }), .int .i64 on]) (by kernel_rfl) (by kernel_rfl) (by kernel_rfl) (fun _ => by kernel_rfl) ?_
    refine plan_pure (some 18) (.agg (BrnA { C with s := p1 })) (by kernel_rfl) (by kernel_rfl) (by kernel_rfl) (fun _ => by kernel_rfl) ?_
    refine plan_pure (some 19) (.int .i64 on) (by kernel_rfl) (by kernel_rfl) (by kernel_rfl) (fun _ => by kernel_rfl) ?_
    refine plan_do none undef (x4.setCells x0.heap.size 0 (BrnA { C with s := p1 }).toList) (by kernel_rfl) (by kernel_rfl) (by kernel_rfl) (.inr ⟨store_op (x := .tmp 7) (y := .tmp 18) (by kernel_rfl) (by kernel_rfl) (by kernel_rfl) (by rw [BrnA_size]; exact r4.there) (by rw [BrnA_size]; exact infoBrine) (BrnA_one _), rfl⟩) (below_setCells _ l1 _ _ _ b4) ?_
    refine plan_pure (some 8) (.int .i64 on) (by kernel_rfl) (by kernel_rfl) (by kernel_rfl) (fun _ => by kernel_rfl) ?_
    refine plan_end ⟨rfl, x0.heap.size, p1, by kernel_rfl, l1, ?_, (r4.store (C := { C with s := p1 })).range, below_setCells _ l1 _ _ _ b4, hp⟩
    rw [size_setCells]; exact r4.lt
  rintro _ _ V ⟨rfl, b1, p1, rfl, lb1, sb1, rb1, hWV, hp1⟩
  have hz1 := hWV.size
  have R3 := Lib.hid rb1
  have P1 := Lib.hid hp1
  have HB1 := Lib.hid (HB.out.trans (hWV.mono (by omega)))
  have HT := Lib.hid (HT.out.below hWV (tab_lt HT.out))
  have R1 := Lib.hid (range_kept R1.out (by omega) _ hWV)
  have R2 := Lib.hid (range_kept R2.out (by omega) _ hWV)
  clear hWV rb1 HB hp1
  go_upto_region 2 with (fail)
  refine Code.wp_mono (Q := fun e a w' => e = .normal ∧ ∃ (b : Nat) (p2 : Nat → Nat), a = ⟨#[.agg (BrnA A), .agg (BrnA B), .float .f32 q, .pointer (some ⟨w.heap.size, 0, none⟩), .pointer (some ⟨w.heap.size + 1, 0, none⟩), undef, .bool false, .pointer (some ⟨b1, 0, none⟩), .int .i64 on, .pointer (some ⟨b, 0, none⟩), .int .i64 on, .tuple #[.agg (BrnA { C with s := p1 }), .int .i64 on], .agg (BrnA A), .agg (BrnA A), .agg (BrnA B), .agg (BrnA B), .float .f32 q, .tuple #[.agg (BrnA { C with s := p1 }), .int .i64 on], .agg (BrnA { C with s := p1 }), .int .i64 on, .tuple #[.agg (BrnA { C with s := p2 }), .int .i64 on], .agg (BrnA A), .agg (BrnA A), .agg (BrnA B), .agg (BrnA B), .float .f32 q, .tuple #[.agg (BrnA { C with s := p2 }), .int .i64 on], .agg (BrnA { C with s := p2 }), .int .i64 on, undef, undef, undef, undef, undef, undef, undef, undef, undef], []⟩ ∧ V.heap.size ≤ b ∧ b < w'.heap.size ∧ w'.rangeAt b 0 (BrnL { C with s := p2 }) ∧ Below V.heap.size V w' ∧ ∀ i, i < 64 → num .f32 (p2 i) = oS i) ?_ (wp_region_plan (ops' := regOf Tryd.f5 2) (.take 0 (.take 2 (.take 4 (.two 1 9 (.two 3 9 (.two 5 9 (.take 6 (.take 7 (.take 8 (.run 9 (.run 10 (.take 11 .fin)))))) (.run 5 (.take 6 (.take 7 (.take 8 (.run 10 (.take 11 .fin))))))) (.run 3 (.run 5 (.take 6 (.take 7 (.take 8 (.run 10 (.take 11 .fin)))))))) (.run 1 (.run 3 (.run 5 (.take 6 (.take 7 (.take 8 (.run 10 (.take 11 .fin)))))))))))) (Below V.heap.size V) (by kernel_rfl) (by kernel_rfl) (by kernel_rfl) (by kernel_rfl) (by kernel_rfl) (Below.refl _ _).drew ?_)
  rotate_left
  refine plan_load (some 21) 29 (.tmp 3) w.heap.size 0 _ _ (by kernel_rfl) (by kernel_rfl) (by kernel_rfl) (by kernel_rfl) (by kernel_rfl) (fun w' hw' => range_kept (n := V.heap.size) R1.out (by omega) _ hw') Tryd.underlying29 rfl (by rw [BrnL_length]; exact infoLBrine) ?_
  refine plan_load (some 23) 29 (.tmp 4) (w.heap.size + 1) 0 _ _ (by kernel_rfl) (by kernel_rfl) (by kernel_rfl) (by kernel_rfl) (by kernel_rfl) (fun w' hw' => range_kept (n := V.heap.size) R2.out (by omega) _ hw') Tryd.underlying29 rfl (by rw [BrnL_length]; exact infoLBrine) ?_
  refine plan_pure (some 25) (.float .f32 q) (by kernel_rfl) (by kernel_rfl) (by kernel_rfl) (fun _ => by kernel_rfl) ?_
  have b0 : Below V.heap.size V V.drew := (Below.refl _ _).drew
  obtain ⟨x0, hx0⟩ : ∃ x, V.drew = x := ⟨_, rfl⟩
  rw [hx0] at b0 ⊢
  clear hx0
  refine plan_two ?_ ?_
  · skip
    refine plan_call (some 22) 14 #[.agg (BrnA A)] (by kernel_rfl) (by kernel_rfl) (by kernel_rfl) (by kernel_rfl) ?_
    refine (toBrine_any A _).mono ?_
    rintro _ x1 ⟨rfl, h1⟩
    have b1 : Below V.heap.size V x1 := below_step b0 h1 b0.size
    refine ⟨_, rfl, b1, ?_⟩
    refine plan_two ?_ ?_
    · skip
      refine plan_call (some 24) 14 #[.agg (BrnA B)] (by kernel_rfl) (by kernel_rfl) (by kernel_rfl) (by kernel_rfl) ?_
      refine (toBrine_any B _).mono ?_
      rintro _ x2 ⟨rfl, h2⟩
      have b2 : Below V.heap.size V x2 := below_step b1 h2 b1.size
      refine ⟨_, rfl, b2, ?_⟩
      refine plan_two ?_ ?_
      · skip
        refine plan_call (some 26) 20 #[.agg (BrnA A), .agg (BrnA B), .float .f32 q] (by kernel_rfl) (by kernel_rfl) (by kernel_rfl) (by kernel_rfl) ?_
        refine (implMix_any A B q _ HA.out HG.out (HT.out.below b2 (tab_lt HT.out))).mono ?_
        rintro _ x3 ⟨he, h3⟩
        obtain ⟨p2, rfl, hp⟩ := HV.out _ he
        have b3 : Below V.heap.size V x3 := below_step b2 h3 b2.size
        refine ⟨_, rfl, b3, ?_⟩
        refine plan_pure (some 20) (.tuple #[.agg (BrnA { C with s := p2 }), .int .i64 on]) (by kernel_rfl) (by kernel_rfl) (by kernel_rfl) (fun _ => by kernel_rfl) ?_
        refine plan_pure (some 27) (.agg (BrnA { C with s := p2 })) (by kernel_rfl) (by kernel_rfl) (by kernel_rfl) (fun _ => by kernel_rfl) ?_
        refine plan_pure (some 28) (.int .i64 on) (by kernel_rfl) (by kernel_rfl) (by kernel_rfl) (fun _ => by kernel_rfl) ?_
        refine plan_do (some 9) (.pointer (some ⟨x3.heap.size, 0, none⟩)) (x3.alloc (.cells (BrnA zB) 36)) (by kernel_rfl) (by kernel_rfl) (by kernel_rfl) (.inl (alloc_op _ (by kernel_rfl) hz0)) (b3.alloc b3.size _) ?_
        have r4 : BrnBox (x3.alloc (.cells (BrnA zB) 36)) x3.heap.size zB := .of_row (heap_alloc_last x3 _)
        have b4 : Below V.heap.size V (x3.alloc (.cells (BrnA zB) 36)) := b3.alloc b3.size _
        have l4 : V.heap.size ≤ x3.heap.size := b3.size
        obtain ⟨x4, hx4⟩ : ∃ x, x3.alloc (.cells (BrnA zB) 36) = x := ⟨_, rfl⟩
        rw [hx4] at r4 b4 ⊢
        clear hx4
        refine plan_do none undef (x4.setCells x3.heap.size 0 (BrnA { C with s := p2 }).toList) (by kernel_rfl) (by kernel_rfl) (by kernel_rfl) (.inr ⟨store_op (x := .tmp 9) (y := .tmp 27) (by kernel_rfl) (by kernel_rfl) (by kernel_rfl) (by rw [BrnA_size]; exact r4.there) (by rw [BrnA_size]; exact infoBrine) (BrnA_one _), rfl⟩) (below_setCells _ l4 _ _ _ b4) ?_
        refine plan_pure (some 10) (.int .i64 on) (by kernel_rfl) (by kernel_rfl) (by kernel_rfl) (fun _ => by kernel_rfl) ?_
        refine plan_end ⟨rfl, x3.heap.size, p2, by kernel_rfl, l4, ?_, (r4.store (C := { C with s := p2 })).range, below_setCells _ l4 _ _ _ b4, hp⟩
        rw [size_setCells]; exact r4.lt
      · skip
        refine plan_do (some 9) (.pointer (some ⟨x2.heap.size, 0, none⟩)) (x2.alloc (.cells (BrnA zB) 36)) (by kernel_rfl) (by kernel_rfl) (by kernel_rfl) (.inl (alloc_op _ (by kernel_rfl) hz0)) (b2.alloc b2.size _) ?_
        have r3 : BrnBox (x2.alloc (.cells (BrnA zB) 36)) x2.heap.size zB := .of_row (heap_alloc_last x2 _)
        have b3 : Below V.heap.size V (x2.alloc (.cells (BrnA zB) 36)) := b2.alloc b2.size _
        have l3 : V.heap.size ≤ x2.heap.size := b2.size
        obtain ⟨x3, hx3⟩ : ∃ x, x2.alloc (.cells (BrnA zB) 36) = x := ⟨_, rfl⟩
        rw [hx3] at r3 b3 ⊢
        clear hx3
        refine plan_call (some 26) 20 #[.agg (BrnA A), .agg (BrnA B), .float .f32 q] (by kernel_rfl) (by kernel_rfl) (by kernel_rfl) (by kernel_rfl) ?_
        refine (implMix_any A B q _ HA.out HG.out (HT.out.below b3 (tab_lt HT.out))).mono ?_
        rintro _ x4 ⟨he, h4⟩
        obtain ⟨p2, rfl, hp⟩ := HV.out _ he
        have b4 : Below V.heap.size V x4 := below_step b3 h4 b3.size
        refine ⟨_, rfl, b4, ?_⟩
        have r4 := r3.below h4 r3.lt
        refine plan_pure (some 20) (.tuple #[.agg (BrnA { C with s := p2 }), .int .i64 on]) (by kernel_rfl) (by kernel_rfl) (by kernel_rfl) (fun _ => by kernel_rfl) ?_
        refine plan_pure (some 27) (.agg (BrnA { C with s := p2 })) (by kernel_rfl) (by kernel_rfl) (by kernel_rfl) (fun _ => by kernel_rfl) ?_
        refine plan_pure (some 28) (.int .i64 on) (by kernel_rfl) (by kernel_rfl) (by kernel_rfl) (fun _ => by kernel_rfl) ?_
        refine plan_do none undef (x4.setCells x2.heap.size 0 (BrnA { C with s := p2 }).toList) (by kernel_rfl) (by kernel_rfl) (by kernel_rfl) (.inr ⟨store_op (x := .tmp 9) (y := .tmp 27) (by kernel_rfl) (by kernel_rfl) (by kernel_rfl) (by rw [BrnA_size]; exact r4.there) (by rw [BrnA_size]; exact infoBrine) (BrnA_one _), rfl⟩) (below_setCells _ l3 _ _ _ b4) ?_
        refine plan_pure (some 10) (.int .i64 on) (by kernel_rfl) (by kernel_rfl) (by kernel_rfl) (fun _ => by kernel_rfl) ?_
        refine plan_end ⟨rfl, x2.heap.size, p2, by kernel_rfl, l3, ?_, (r4.store (C := { C with s := p2 })).range, below_setCells _ l3 _ _ _ b4, hp⟩
        rw [size_setCells]; exact r4.lt
    · skip
      refine plan_do (some 9) (.pointer (some ⟨x1.heap.size, 0, none⟩)) (x1.alloc (.cells (BrnA zB) 36)) (by kernel_rfl) (by kernel_rfl) (by kernel_rfl) (.inl (alloc_op _ (by kernel_rfl) hz0)) (b1.alloc b1.size _) ?_
      have r2 : BrnBox (x1.alloc (.cells (BrnA zB) 36)) x1.heap.size zB := .of_row (heap_alloc_last x1 _)
      have b2 : Below V.heap.size V (x1.alloc (.cells (BrnA zB) 36)) := b1.alloc b1.size _
      have l2 : V.heap.size ≤ x1.heap.size := b1.size
      obtain ⟨x2, hx2⟩ : ∃ x, x1.alloc (.cells (BrnA zB) 36) = x := ⟨_, rfl⟩
      rw [hx2] at r2 b2 ⊢
      clear hx2
      refine plan_call (some 24) 14 #[.agg (BrnA B)] (by kernel_rfl) (by kernel_rfl) (by kernel_rfl) (by kernel_rfl) ?_
      refine (toBrine_any B _).mono ?_
      rintro _ x3 ⟨rfl, h3⟩
      have b3 : Below V.heap.size V x3 := below_step b2 h3 b2.size
      refine ⟨_, rfl, b3, ?_⟩
      have r3 := r2.below h3 r2.lt
      refine plan_call (some 26) 20 #[.agg (BrnA A), .agg (BrnA B), .float .f32 q] (by kernel_rfl) (by kernel_rfl) (by kernel_rfl) (by kernel_rfl) ?_
      refine (implMix_any A B q _ HA.out HG.out (HT.out.below b3 (tab_lt HT.out))).mono ?_
      rintro _ x4 ⟨he, h4⟩
      obtain ⟨p2, rfl, hp⟩ := HV.out _ he
      have b4 : Below V.heap.size V x4 := below_step b3 h4 b3.size
      refine ⟨_, rfl, b4, ?_⟩
      have r4 := r3.below h4 r3.lt
      refine plan_pure (some 20) (.tuple #[.agg (BrnA { C with s := p2 }), .int .i64 on]) (by kernel_rfl) (by kernel_rfl) (by kernel_rfl) (fun _ => by kernel_rfl) ?_
      refine plan_pure (some 27) (.agg (BrnA { C with s := p2 })) (by kernel_rfl) (by kernel_rfl) (by kernel_rfl) (fun _ => by kernel_rfl) ?_
      refine plan_pure (some 28) (.int .i64 on) (by kernel_rfl) (by kernel_rfl) (by kernel_rfl) (fun _ => by kernel_rfl) ?_
      refine plan_do none undef (x4.setCells x1.heap.size 0 (BrnA { C with s := p2 }).toList) (by kernel_rfl) (by kernel_rfl) (by kernel_rfl) (.inr ⟨store_op (x := .tmp 9) (y := .tmp 27) (by kernel_rfl) (by kernel_rfl) (by kernel_rfl) (by rw [BrnA_size]; exact r4.there) (by rw [BrnA_size]; exact infoBrine) (BrnA_one _), rfl⟩) (below_setCells _ l2 _ _ _ b4) ?_
      refine plan_pure (some 10) (.int .i64 on) (by kernel_rfl) (by kernel_rfl) (by kernel_rfl) (fun _ => by kernel_rfl) ?_
      refine plan_end ⟨rfl, x1.heap.size, p2, by kernel_rfl, l2, ?_, (r4.store (C := { C with s := p2 })).range, below_setCells _ l2 _ _ _ b4, hp⟩
      rw [size_setCells]; exact r4.lt
  · skip
    refine plan_do (some 9) (.pointer (some ⟨x0.heap.size, 0, none⟩)) (x0.alloc (.cells (BrnA zB) 36)) (by kernel_rfl) (by kernel_rfl) (by kernel_rfl) (.inl (alloc_op _ (by kernel_rfl) hz0)) (b0.alloc b0.size _) ?_
    have r1 : BrnBox (x0.alloc (.cells (BrnA zB) 36)) x0.heap.size zB := .of_row (heap_alloc_last x0 _)
    have b1 : Below V.heap.size V (x0.alloc (.cells (BrnA zB) 36)) := b0.alloc b0.size _
    have l1 : V.heap.size ≤ x0.heap.size := b0.size
    obtain ⟨x1, hx1⟩ : ∃ x, x0.alloc (.cells (BrnA zB) 36) = x := ⟨_, rfl⟩
    rw [hx1] at r1 b1 ⊢
    clear hx1
    refine plan_call (some 22) 14 #[.agg (BrnA A)] (by kernel_rfl) (by kernel_rfl) (by kernel_rfl) (by kernel_rfl) ?_
    refine (toBrine_any A _).mono ?_
    rintro _ x2 ⟨rfl, h2⟩
    have b2 : Below V.heap.size V x2 := below_step b1 h2 b1.size
    refine ⟨_, rfl, b2, ?_⟩
    have r2 := r1.below h2 r1.lt
    refine plan_call (some 24) 14 #[.agg (BrnA B)] (by kernel_rfl) (by kernel_rfl) (by kernel_rfl) (by kernel_rfl) ?_
    refine (toBrine_any B _).mono ?_
    rintro _ x3 ⟨rfl, h3⟩
    have b3 : Below V.heap.size V x3 := below_step b2 h3 b2.size
    refine ⟨_, rfl, b3, ?_⟩
    have r3 := r2.below h3 r2.lt
    refine plan_call (some 26) 20 #[.agg (BrnA A), .agg (BrnA B), .float .f32 q] (by kernel_rfl) (by kernel_rfl) (by kernel_rfl) (by kernel_rfl) ?_
    refine (implMix_any A B q _ HA.out HG.out (HT.out.below b3 (tab_lt HT.out))).mono ?_
    rintro _ x4 ⟨he, h4⟩
    obtain ⟨p2, rfl, hp⟩ := HV.out _ he
    have b4 : Below V.heap.size V x4 := below_step b3 h4 b3.size
    refine ⟨_, rfl, b4, ?_⟩
    have r4 := r3.below h4 r3.lt
    refine plan_pure (some 20) (.tuple #[.agg (BrnA { C with s := p2 }), .int .i64 on]) (by kernel_rfl) (by kernel_rfl) (by kernel_rfl) (fun _ => by kernel_rfl) ?_
    refine plan_pure (some 27) (.agg (BrnA { C with s := p2 })) (by kernel_rfl) (by kernel_rfl) (by kernel_rfl) (fun _ => by kernel_rfl) ?_
    refine plan_pure (some 28) (.int .i64 on) (by kernel_rfl) (by kernel_rfl) (by kernel_rfl) (fun _ => by kernel_rfl) ?_
    refine plan_do none undef (x4.setCells x0.heap.size 0 (BrnA { C with s := p2 }).toList) (by kernel_rfl) (by kernel_rfl) (by kernel_rfl) (.inr ⟨store_op (x := .tmp 9) (y := .tmp 27) (by kernel_rfl) (by kernel_rfl) (by kernel_rfl) (by rw [BrnA_size]; exact r4.there) (by rw [BrnA_size]; exact infoBrine) (BrnA_one _), rfl⟩) (below_setCells _ l1 _ _ _ b4) ?_
    refine plan_pure (some 10) (.int .i64 on) (by kernel_rfl) (by kernel_rfl) (by kernel_rfl) (fun _ => by kernel_rfl) ?_
    refine plan_end ⟨rfl, x0.heap.size, p2, by kernel_rfl, l1, ?_, (r4.store (C := { C with s := p2 })).range, below_setCells _ l1 _ _ _ b4, hp⟩
    rw [size_setCells]; exact r4.lt
  rintro _ _ U ⟨rfl, b2, p2, rfl, lb2, sb2, rb2, hVU, hp2⟩
  have hz2 := hVU.size
  have P2 := Lib.hid hp2
  have r4 := range_kept R3.out (by omega) _ hVU
  have r5 := rb2
  have B2 := Lib.hid (HB1.out.trans (hVU.mono (by omega)))
  clear hVU rb2 HB1 hp2
  go_wp2_with (first | (refine wpList_load_mid rfl 36 _ rfl b2 0 rfl (BrnL { C with s := p2 }) _ r5 Tryd.underlying36 rfl (by rw [BrnL_length]; exact infoBrine) ?_) | (refine wpList_load_mid rfl 36 _ rfl b1 0 rfl (BrnL { C with s := p1 }) _ r4 Tryd.underlying36 rfl (by rw [BrnL_length]; exact infoBrine) ?_) | (go_at_call 18; refine (eqBrine_num { C with s := p2 } p1 (fun i hi => (P2.out i hi).trans (P1.out i hi).symm) _).mono ?_; rintro e Y ⟨rfl, hy⟩))
  go_ret
  exact ⟨rfl, B2.out.trans (hy.mono (by omega))⟩

set_option maxRecDepth 100000 in
theorem fnExactMixBrines_walk (W : World) (base : Nat) (args : Array Value) (hn : args.size = Tryd.f5.params.size)
    (hv : ∀ (j : Nat) t v, Tryd.f5.params[j]? = some t → args[j]? = some v → Value.okWide Tryd.prog W .any base t v) (hT : TabAt W) :
    Calls Tryd.prog 5 args W fun e W' => e = .returned (.bool true) ∧ Below W.heap.size W W' := by
  rw [Tryd.params5] at hn hv
  obtain ⟨l⟩ := args
  match l, hn with
  | [v0, v1, v2], _ =>
    obtain ⟨A, rfl, hA⟩ := okWide_brn (hv 0 _ v0 rfl rfl)
    obtain ⟨B, rfl, hB⟩ := okWide_brn (hv 1 _ v1 rfl rfl)
    obtain ⟨q, rfl, hq⟩ := okWide_f32 (hv 2 _ v2 rfl rfl)
    exact fnExactMixBrines_calls A B q W hA hB hT
end Go.Proofs.YtnochmlhimddpaaDoor
