/- The law FnExactLoggedLevels: for every input the call returns true. Condition: the table of math/bits is laid. -/
import Derived.Test.YtjhaonfdapldcaaDoorLol
namespace Go.Proofs.YtjhaonfdapldcaaDoor
open Go Go.RowKit Go.WideShapes
set_option linter.unusedSimpArgs false
set_option linter.unusedVariables false
attribute [local go_sem] Oper.semAt_some
theorem neq_same16 {op : Oper} {a : Act} {x y : Operand} {v : Int} (ho : op.op = .binOp .neq 35 x y 35) (hx : a.eval x = .int .i16 v) (hy : a.eval y = .int .i16 v) (w : World) :
    (execOp a.eval op).run Tryd.prog w = .ok (.value (.bool false)) w := by
  unfold execOp
  simp only [ho, hx, hy]
  go_simp
theorem hf_two (f g : Nat → Int) (t u : TypeId) (w : World) : ∃ X, (w.alloc (.cells (Hf f) t)).alloc (.cells (Hf g) u) = X ∧ X.heap.size = w.heap.size + 1 + 1 ∧ HRow X w.heap.size f ∧ HRow X (w.heap.size + 1) g ∧ Below w.heap.size w X := by
  obtain ⟨A, hA, zA, rA, bA⟩ := hf_box f t w
  rw [hA]
  obtain ⟨B, hB, zB, rB, bB⟩ := hf_box g u A
  rw [hB]
  rw [zA] at rB
  exact ⟨_, rfl, by omega, rA.below bB (by omega), rB, bA.trans (bB.mono (by omega))⟩

set_option maxRecDepth 100000 in
set_option maxHeartbeats 4000000 in
theorem eqHf_yes (f : Nat → Int) (w : World) :
    Calls Tryd.prog 12 #[.agg (Hf f), .agg (Hf f)] w fun e w' => e = .returned (.bool true) ∧ Below w.heap.size w w' := by
  go_enter Tryd.func12, Tryd.ntmps12
  go_upto_region 1 with (fail)
  obtain ⟨W, hW, hs, r0, r1, hB⟩ := hf_two f f 36 36 w
  rw [hW]
  clear hW hs
  have R0 := Lib.hid r0
  have R1 := Lib.hid r1
  have HB := Lib.hid hB
  clear r0 r1 hB
  go_wp2
  go_loopw [5] (fun i wr => ∃ k : Nat, k ≤ 64 ∧ i = .int .i64 k ∧ Hid (Quiet W wr)) (fun i _ => 64 - (intOf i).toNat)
  case atStart => exact ⟨0, by omega, rfl, Lib.hid (Quiet.refl _)⟩
  case round =>
    obtain ⟨k, hk, rfl, hq⟩ := hrel
    by_cases hlt : k < 64
    · have hki : (k : Int) < 64 := by omega
      have q0 := fun w' (hw' : Quiet wr w') => (show w'.cell? ⟨w.heap.size, 0 + k, none⟩ = some (.int .i16 (f k)) by rw [Nat.zero_add]; exact (R0.out.quiet (hq.out.trans hw')).cell hlt)
      have q1 := fun w' (hw' : Quiet wr w') => (show w'.cell? ⟨w.heap.size + 1, 0 + k, none⟩ = some (.int .i16 (f k)) by rw [Nat.zero_add]; exact (R1.out.quiet (hq.out.trans hw')).cell hlt)
      go_upto_region 4 with (fail)
      refine wp_region_calm (ops' := regOf Tryd.f12 4) [0, 1, 2, 3, 4, 5, 6] [] .fin (Quiet wr) [(0, One (.int .i64 (k : Int))), (1, One (.pointer (some ⟨w.heap.size, 0 + k, none⟩))), (2, One (.int .i16 (f k))), (3, One (.int .i64 (k : Int))), (4, One (.pointer (some ⟨(w.heap.size + 1), 0 + k, none⟩))), (5, One (.int .i16 (f k))), (6, One (.bool false))] (by kernel_rfl) (by kernel_rfl) (by kernel_rfl) (by kernel_rfl) (by kernel_rfl) (by kernel_rfl) (by kernel_rfl) (by kernel_rfl) rfl ((Quiet.refl _).drewN 1) ?_
      refine calm_pure (some 10) (by kernel_rfl) (by kernel_rfl) (by kernel_rfl) (fun _ => by kernel_rfl) ?_
      refine calm_pure (some 11) (by kernel_rfl) (by kernel_rfl) (by kernel_rfl) (fun _ => index_H (x := .tmp 2) (y := .tmp 10) (by kernel_rfl) (by kernel_rfl) (by kernel_rfl) hlt _) ?_
      refine calm_read (some 12) (by kernel_rfl) (by kernel_rfl) (by kernel_rfl) (fun w' hw' => load_cell (ty := 35) (x := .tmp 11) (b := w.heap.size) (o := 0 + k) (by kernel_rfl) (by kernel_rfl) Tryd.underlying35 rfl (q0 w' hw')) ?_
      refine calm_pure (some 13) (by kernel_rfl) (by kernel_rfl) (by kernel_rfl) (fun _ => by kernel_rfl) ?_
      refine calm_pure (some 14) (by kernel_rfl) (by kernel_rfl) (by kernel_rfl) (fun _ => index_H (x := .tmp 3) (y := .tmp 13) (by kernel_rfl) (by kernel_rfl) (by kernel_rfl) hlt _) ?_
      refine calm_read (some 15) (by kernel_rfl) (by kernel_rfl) (by kernel_rfl) (fun w' hw' => load_cell (ty := 35) (x := .tmp 14) (b := (w.heap.size + 1)) (o := 0 + k) (by kernel_rfl) (by kernel_rfl) Tryd.underlying35 rfl (q1 w' hw')) ?_
      refine calm_pure (some 16) (by kernel_rfl) (by kernel_rfl) (by kernel_rfl) (fun _ => neq_same16 (x := .tmp 12) (y := .tmp 15) (v := f k) (by kernel_rfl) (by kernel_rfl) (by kernel_rfl) _) ?_
      refine calm_end fun w' hw' => plan_end (Clean.normal ?_)
      have HQ2 := Lib.hid (hq.out.trans hw')
      clear hw' q0 q1
      simp only [Act.put, List.setIfInBounds_toArray, List.set_cons_zero, List.set_cons_succ]
      go_wp2
      go_roundw
      case rel => exact ⟨k + 1, by omega, by go_num, HQ2⟩
      case measure => simp [intOf]; omega
    · obtain rfl : k = 64 := by omega
      go_wp2
      go_ret
      exact ⟨rfl, HB.out.trans (hq.out.below _)⟩
theorem llV_is (G : Gd) : ∃ (f : Nat → Int) (n : Int), llV G = .tuple #[.agg (Hf f), .int .i64 n] := by
  unfold llV
  split <;> exact ⟨_, _, rfl⟩

set_option maxRecDepth 100000 in
set_option maxHeartbeats 4000000 in
theorem fnExactLoggedLevels_calls (G : Gd) (w : World) (hG : GdOk G) (hT : TabAt w) :
    Calls Tryd.prog 4 #[.agg (Grd G)] w fun e w' => e = .returned (.bool true) ∧ Below w.heap.size w w' := by
  obtain ⟨f, n, hV⟩ := llV_is G
  have HV := Lib.hid hV
  have hz1 := (zero_of_info zeroH16).1
  clear hV
  go_enter Tryd.func4, Tryd.ntmps4
  go_upto_region 1 with (fail)
  obtain ⟨W, hW, hs, g1, hB, hT1⟩ := box_in G 27 w hT
  rw [hW]
  clear hW
  have HT := Lib.hid hT1
  have HB := Lib.hid hB
  have r1 := g1.range
  have G1 := Lib.hid g1
  have hn1 : w.heap.size < W.heap.size := by omega
  clear hT hT1 hB hs g1
  go_upto_region 2 with (first | (refine ld_stage 27 rfl ?_; refine wpList_load_mid rfl 27 _ rfl w.heap.size 0 rfl (GrdL G) _ r1 Tryd.underlying27 rfl (by rw [GrdL_length]; exact infoLGround) ?_) | (go_at_call 8; refine (toGround_any G _).mono ?_; rintro e U1 ⟨rfl, hu1⟩) | (go_at_call 10; have hc := (specLL_any G U1 hG); rw [HV.out] at hc; refine hc.mono ?_; clear hc; rintro e V1 ⟨rfl, hv1⟩) | (refine st_stage 36 rfl ?_; refine wpList_store_mid rfl 36 _ _ rfl _ 0 (Hf (f)) rfl rfl (by rw [Hf_size]; with_reducible exact (there_row (heap_alloc_last V1 _) (Hf_size zI))) (by rw [Hf_size]; exact infoH) (Hf_one _) ?_))
  obtain ⟨X1, hX1, zX1, rX1, bX1⟩ := hf_stored f 36 V1
  rw [hX1]
  obtain ⟨M1, hM1⟩ : ∃ M1, V1.heap.size = M1 := ⟨_, rfl⟩
  rw [hM1] at rX1 zX1 ⊢
  have q1 := hu1.trans (hv1.mono hu1.size)
  have k1 := q1.trans (bX1.mono q1.size)
  have r2 := (G1.out.below k1 hn1).range
  have B1 := Lib.hid (HB.out.trans (k1.mono (by omega)))
  have T1 := Lib.hid (HT.out.below k1 (tab_lt HT.out))
  have hn2 : w.heap.size < X1.heap.size := by have := k1.size; omega
  have hm1 : M1 < X1.heap.size := by omega
  have RX1 := Lib.hid rX1
  clear r1 hu1 hv1 q1 k1 hX1 zX1 rX1 bX1 hM1
  go_upto_region 3 with (first | (refine ld_stage 27 rfl ?_; refine wpList_load_mid rfl 27 _ rfl w.heap.size 0 rfl (GrdL G) _ r2 Tryd.underlying27 rfl (by rw [GrdL_length]; exact infoLGround) ?_) | (go_at_call 8; refine (toGround_any G _).mono ?_; rintro e U2 ⟨rfl, hu2⟩) | (go_at_call 11; have hc := (implLL_any G U2 hG (T1.out.below hu2 (tab_lt T1.out))); rw [HV.out] at hc; refine hc.mono ?_; clear hc; rintro e V2 ⟨rfl, hv2⟩) | (refine st_stage 36 rfl ?_; refine wpList_store_mid rfl 36 _ _ rfl _ 0 (Hf (f)) rfl rfl (by rw [Hf_size]; with_reducible exact (there_row (heap_alloc_last V2 _) (Hf_size zI))) (by rw [Hf_size]; exact infoH) (Hf_one _) ?_))
  obtain ⟨X2, hX2, zX2, rX2, bX2⟩ := hf_stored f 36 V2
  rw [hX2]
  obtain ⟨M2, hM2⟩ : ∃ M2, V2.heap.size = M2 := ⟨_, rfl⟩
  rw [hM2] at rX2 ⊢
  have q2 := hu2.trans (hv2.mono hu2.size)
  have k2 := q2.trans (bX2.mono q2.size)
  have m1 := (RX1.out.below k2 hm1).range
  have m2 := rX2.range
  have B2 := Lib.hid (B1.out.trans (k2.mono (by omega)))
  clear r2 hu2 hv2 q2 k2 hX2 zX2 rX2 bX2 hM2 hz1
  go_wp2_with (first | (refine ld_stage 36 rfl ?_; refine wpList_load_mid rfl 36 _ rfl (M1) 0 rfl (Hf (f)).toList _ m1 Tryd.underlying36 rfl (by rw [Hf_length]; exact infoH) ?_) | (refine ld_stage 36 rfl ?_; refine wpList_load_mid rfl 36 _ rfl (M2) 0 rfl (Hf (f)).toList _ m2 Tryd.underlying36 rfl (by rw [Hf_length]; exact infoH) ?_) | (go_at_call 12; refine (eqHf_yes f _).mono ?_; rintro e V5 ⟨rfl, hb5⟩))
  go_ret
  exact ⟨rfl, B2.out.trans (hb5.mono B2.out.size)⟩

set_option maxRecDepth 100000 in
theorem fnExactLoggedLevels_walk (W : World) (base : Nat) (args : Array Value) (hn : args.size = Tryd.f4.params.size)
    (hv : ∀ (j : Nat) t v, Tryd.f4.params[j]? = some t → args[j]? = some v → Value.okWide Tryd.prog W .any base t v) (hT : TabAt W) :
    Calls Tryd.prog 4 args W fun e W' => e = .returned (.bool true) ∧ Below W.heap.size W W' := by
  rw [Tryd.params4] at hn hv
  obtain ⟨l⟩ := args
  match l, hn with
  | [v0], _ =>
    obtain ⟨G, rfl, hG⟩ := okWide_grd (hv 0 _ v0 rfl rfl)
    exact fnExactLoggedLevels_calls G W hG hT
end Go.Proofs.YtjhaonfdapldcaaDoor
