/- The law FnExactSumOver: for every input the call returns true. Condition: the table of math/bits is laid. -/
import Derived.Test.YtjbldgefabbgpaaDoorNums
import Derived.Test.YtjbldgefabbgpaaDoorCell
namespace Go.Proofs.YtjbldgefabbgpaaDoor
open Go.RowKit Go.WideShapes
set_option linter.unusedSimpArgs false
set_option maxRecDepth 100000

theorem typesF : Tryd.prog.cellTypes Tryd.prog.depth 24 = some (List.replicate 64 23) := by kernel_rfl
theorem cellsF : Tryd.prog.cellsOf 24 = 64 := by kernel_rfl
theorem fin_is (b : Nat) (r : Bool) (h : finB b = r) (w : World) : Calls Tryd.prog 68 #[.float .f32 b] w fun e w' => e = .returned (.bool r) ∧ Quiet w w' := by
  subst h
  exact l01Finite_any b w
theorem okWide_fld {W : World} {base : Nat} {v : Value} (h : Value.okWide Tryd.prog W .any base 24 v) : ∃ f, v = .agg (Fld f) ∧ ∀ i, i < 64 → FloatKind.f32.has (f i) := by
  simp only [Value.okWide, Tryd.underlying24] at h
  obtain ⟨cs, rfl, hsz, ts, hts, _, hc⟩ := h
  rw [typesF] at hts
  obtain rfl := Option.some.inj hts
  rw [cellsF] at hsz
  have hf : ∀ i, ∃ b, i < 64 → cs[i]? = some (.float .f32 b) ∧ FloatKind.f32.has b := fun i => by
    by_cases hi : i < 64
    · have hv : cs[i]? = some cs[i] := Array.getElem?_eq_getElem (by omega)
      obtain ⟨u', hu', ho⟩ := hc i _ hv
      have : i % (List.replicate 64 (23 : Nat)).length < 64 := by simp; omega
      simp only [List.getElem?_replicate, this, if_true, Option.some.injEq] at hu'
      subst hu'
      obtain ⟨b, hb, hk⟩ := cell_f32 ho
      exact ⟨b, fun _ => ⟨by rw [hv, hb], hk⟩⟩
    · exact ⟨0, fun h => absurd h hi⟩
  refine ⟨fun i => Classical.choose (hf i), ?_, fun i hi => (Classical.choose_spec (hf i) hi).2⟩
  congr 1
  apply Array.ext_getElem?
  intro i
  by_cases hi : i < 64
  · rw [(Classical.choose_spec (hf i) hi).1, Fld_at _ i hi]
  · rw [Array.getElem?_eq_none (by omega), Array.getElem?_eq_none (by rw [Fld_size]; omega)]

set_option maxRecDepth 100000 in
set_option maxHeartbeats 1000000 in
theorem specSum_any (G : Gd) (f : Nat → Nat) (w : World) (hG : GdOk G) :
    Calls Tryd.prog 37 #[.agg (Grd G), .agg (Fld f)] w fun e w' => e = .returned (sumV G f) ∧ Below w.heap.size w w' := by
  go_enter Tryd.func37, Tryd.ntmps37
  go_upto_region 1 with (fail)
  obtain ⟨W, hW, hz, g1, r2, hB⟩ := gf_box G f 32 30 w
  rw [hW]
  clear hW
  have G1 := Lib.hid g1
  have R2 := Lib.hid r2
  have HB := Lib.hid hB
  have HG := Lib.hid hG
  clear g1 r2 hB hG hz
  cases hv : validB G
  · have Hv := Lib.hid hv
    have R := Lib.hid (show sumV G f = FI 0 1 by simp [sumV, hv])
    clear hv
    go_wp2_with (go_at_call 47; have hc := (l01Ok_any G _ _ G1.out.at' HG.out); rw [Hv.out] at hc; refine hc.mono ?_; clear hc; rintro e w' ⟨rfl, n, rfl⟩)
    go_ret2
    exact ⟨congrArg Ending.returned R.out.symm, HB.out.trans (Quiet.below ⟨n, rfl⟩ _)⟩
  · have Hv := Lib.hid hv
    have R := Lib.hid (show sumV G f = finV (sumTo G f 63) by simp [sumV, hv])
    clear hv
    go_upto_region 4 with (first | (go_at_call 47; have hc := (l01Ok_any G _ _ G1.out.at' HG.out); rw [Hv.out] at hc; refine hc.mono ?_; clear hc; rintro e w' ⟨rfl, n, rfl⟩) | (go_at_call 67; refine (l01Sum_any G f _ _ _ (Quiet.grd ⟨n, rfl⟩ G1.out.at') HG.out (Quiet.range ⟨n, rfl⟩ R2.out)).mono ?_; rintro e w' ⟨b, rfl, hb, n2, rfl⟩; have Hb := Lib.hid hb; clear hb))
    have HV := Lib.hid (finV_num Hb.out)
    cases hf : finB b
    · have Hf := Lib.hid hf
      have Hv2 := Lib.hid (show FI 0 4 = sumV G f by rw [R.out, ← HV.out, hf]; rfl)
      clear hf HV
      go_wp2_with (go_at_call 68; refine (fin_is b _ Hf.out _).mono ?_; rintro e w' ⟨rfl, n3, rfl⟩)
      go_ret2
      exact ⟨congrArg Ending.returned Hv2.out, HB.out.trans (Quiet.below ⟨_, rfl⟩ _)⟩
    · have Hf := Lib.hid hf
      have Hv2 := Lib.hid (show FI b 0 = sumV G f by rw [R.out, ← HV.out, hf]; rfl)
      clear hf HV
      go_wp2_with (go_at_call 68; refine (fin_is b _ Hf.out _).mono ?_; rintro e w' ⟨rfl, n3, rfl⟩)
      go_ret2
      exact ⟨congrArg Ending.returned Hv2.out, HB.out.trans (Quiet.below ⟨_, rfl⟩ _)⟩

set_option maxRecDepth 100000 in
set_option maxHeartbeats 1000000 in
theorem implSum_any (G : Gd) (f : Nat → Nat) (w : World) (hG : GdOk G) (hT : TabAt w) :
    Calls Tryd.prog 39 #[.agg (Grd G), .agg (Fld f)] w fun e w' => e = .returned (sumV G f) ∧ Below w.heap.size w w' := by
  cases hv : validB G
  · have Hv := Lib.hid hv
    have R := Lib.hid (show sumV G f = FI 0 1 by simp [sumV, hv])
    clear hv
    go_enter Tryd.func39, Tryd.ntmps39
    go_upto_region 1 with (fail)
    obtain ⟨W, hW, hz, g1, r2, hB⟩ := gf_box G f 32 30 w
    rw [hW]
    clear hW
    have r1 := g1.range
    have HB := Lib.hid hB
    have HG := Lib.hid hG
    have HT := Lib.hid (hT.below hB (tab_lt hT))
    clear g1 r2 hB hG hT
    go_wp2_with (first | (refine wpList_load_mid rfl 32 _ rfl w.heap.size 0 rfl (GrdL G) _ r1 Tryd.underlying32 rfl (by rw [GrdL_length]; exact infoGround) ?_) | (go_at_call 49; have hc := (validGround_any G W HG.out HT.out (tab_lt HT.out)); rw [Hv.out] at hc; refine hc.mono ?_; clear hc; rintro e w1 ⟨rfl, hb1⟩))
    go_ret2
    exact ⟨congrArg Ending.returned R.out.symm, HB.out.trans (hb1.mono (by omega))⟩
  · rw [show sumV G f = finV (sumTo G f 63) by simp [sumV, hv]]
    exact implSum_valid G f w hG hT hv

theorem sumV_is (G : Gd) (f : Nat → Nat) : ∃ b n, sumV G f = FI b n := by
  unfold sumV finV
  split
  · split
    · split
      · exact ⟨_, _, rfl⟩
      · exact ⟨_, _, rfl⟩
    · exact ⟨_, _, rfl⟩
  · exact ⟨_, _, rfl⟩

set_option maxRecDepth 100000 in
set_option maxHeartbeats 2000000 in
theorem fnExactSumOver_calls (G : Gd) (f : Nat → Nat) (w : World) (hG : GdOk G) (hT : TabAt w) :
    Calls Tryd.prog 12 #[.agg (Grd G), .agg (Fld f)] w fun e w' => e = .returned (.bool true) ∧ Below w.heap.size w w' := by
  obtain ⟨b, n, hbn⟩ := sumV_is G f
  have HV := Lib.hid hbn
  clear hbn
  go_enter Tryd.func12, Tryd.ntmps12
  go_upto_region 1 with (fail)
  obtain ⟨W, hW, hz, g1, r2, hB⟩ := gf_box G f 27 24 w
  rw [hW]
  clear hW
  have r1 := Lib.hid g1.range
  have R2 := Lib.hid r2
  have HB := Lib.hid hB
  have HG := Lib.hid hG
  have HT := Lib.hid (hT.below hB (tab_lt hT))
  have hlt : 0 < w.heap.size := tab_lt hT
  clear g1 r2 hB hG hT
  refine wp_region_calm (ops' := regOf Tryd.f12 1) [0, 1, 2, 3, 4, 5, 6, 7, 8, 9] [] .fin (Below (w.heap.size + 1 + 1) W) [(0, One (.agg (Grd G))), (1, One (.agg (Grd G))), (2, One (.agg (Fld f))), (3, One (.agg (Fld f))), (4, One (FI b n)), (5, One (FI b n)), (6, One (.float .f32 b)), (7, One (.int .i64 n)), (8, One (.float .f32 b)), (9, One (.int .i64 n))] (by kernel_rfl) (by kernel_rfl) (by kernel_rfl) (by kernel_rfl) (by kernel_rfl) (by kernel_rfl) (by kernel_rfl) (by kernel_rfl) rfl ((Below.refl _ _).drew) ?_
  refine calm_load (some 10) 27 (.tmp 2) (w.heap.size) 0 _ (by kernel_rfl) (by kernel_rfl) (by kernel_rfl) (by kernel_rfl) (by kernel_rfl) (fun w' hw' => range_kept (n := w.heap.size + 1 + 1) r1.out (by omega) _ ((fun _ h => h) w' hw')) Tryd.underlying27 rfl (by rw [Grd_toList, GrdL_length]; exact infoLGround) ?_
  refine calm_call (some 11) 17 #[.agg (Grd G)] ⟨_, rfl⟩ (by kernel_rfl) (by kernel_rfl) (by kernel_rfl) (fun _ => by kernel_rfl) (fun w' hw' => (toGround_any G w').mono fun e w2 h => ⟨_, h.1, rfl, below_step hw' h.2 (by have := hw'.size; omega)⟩) ?_
  rintro _ rfl
  refine calm_load (some 12) 24 (.tmp 3) (w.heap.size + 1) 0 _ (by kernel_rfl) (by kernel_rfl) (by kernel_rfl) (by kernel_rfl) (by kernel_rfl) (fun w' hw' => range_kept (n := w.heap.size + 1 + 1) R2.out (by omega) _ ((fun _ h => h) w' hw')) Tryd.underlying24 rfl (by rw [Fld_length]; exact info64) ?_
  refine calm_call (some 13) 38 #[.agg (Fld f)] ⟨_, rfl⟩ (by kernel_rfl) (by kernel_rfl) (by kernel_rfl) (fun _ => by kernel_rfl) (fun w' hw' => (toField_any f w').mono fun e w2 h => ⟨_, h.1, rfl, below_step hw' h.2 (by have := hw'.size; omega)⟩) ?_
  rintro _ rfl
  refine calm_call (some 14) 37 #[.agg (Grd G), .agg (Fld f)] ⟨_, rfl⟩ (by kernel_rfl) (by kernel_rfl) (by kernel_rfl) (fun _ => by kernel_rfl) (fun w' hw' => (specSum_any G f w' HG.out).mono fun e w2 h => ⟨_, h.1.trans (congrArg Ending.returned HV.out), rfl, below_step hw' h.2 (by have := hw'.size; omega)⟩) ?_
  rintro _ rfl
  refine calm_pure (some 9) (by kernel_rfl) (by kernel_rfl) (by kernel_rfl) (fun _ => by kernel_rfl) ?_
  refine calm_pure (some 15) (by kernel_rfl) (by kernel_rfl) (by kernel_rfl) (fun _ => by kernel_rfl) ?_
  refine calm_pure (some 16) (by kernel_rfl) (by kernel_rfl) (by kernel_rfl) (fun _ => by kernel_rfl) ?_
  refine calm_pure (some 5) (by kernel_rfl) (by kernel_rfl) (by kernel_rfl) (fun _ => by kernel_rfl) ?_
  refine calm_pure (some 6) (by kernel_rfl) (by kernel_rfl) (by kernel_rfl) (fun _ => by kernel_rfl) ?_
  refine calm_end fun w1 hw1 => plan_end (Clean.normal ?_)
  have z1 := hw1.size
  have H1 := Lib.hid hw1
  clear hw1
  simp only [Act.put, List.setIfInBounds_toArray, List.set_cons_zero, List.set_cons_succ]
  go_upto_region 2 with (fail)
  refine wp_region_calm (ops' := regOf Tryd.f12 2) [0, 1, 2, 3, 4, 5, 6, 7, 8, 9] [] .fin (Below (w.heap.size + 1 + 1) W) [(0, One (.agg (Grd G))), (1, One (.agg (Grd G))), (2, One (.agg (Fld f))), (3, One (.agg (Fld f))), (4, One (FI b n)), (5, One (FI b n)), (6, One (.float .f32 b)), (7, One (.int .i64 n)), (8, One (.float .f32 b)), (9, One (.int .i64 n))] (by kernel_rfl) (by kernel_rfl) (by kernel_rfl) (by kernel_rfl) (by kernel_rfl) (by kernel_rfl) (by kernel_rfl) (by kernel_rfl) rfl (H1.out.drew) ?_
  refine calm_load (some 18) 27 (.tmp 2) (w.heap.size) 0 _ (by kernel_rfl) (by kernel_rfl) (by kernel_rfl) (by kernel_rfl) (by kernel_rfl) (fun w' hw' => range_kept (n := w.heap.size + 1 + 1) r1.out (by omega) _ ((fun _ h => h) w' hw')) Tryd.underlying27 rfl (by rw [Grd_toList, GrdL_length]; exact infoLGround) ?_
  refine calm_call (some 19) 17 #[.agg (Grd G)] ⟨_, rfl⟩ (by kernel_rfl) (by kernel_rfl) (by kernel_rfl) (fun _ => by kernel_rfl) (fun w' hw' => (toGround_any G w').mono fun e w2 h => ⟨_, h.1, rfl, below_step hw' h.2 (by have := hw'.size; omega)⟩) ?_
  rintro _ rfl
  refine calm_load (some 20) 24 (.tmp 3) (w.heap.size + 1) 0 _ (by kernel_rfl) (by kernel_rfl) (by kernel_rfl) (by kernel_rfl) (by kernel_rfl) (fun w' hw' => range_kept (n := w.heap.size + 1 + 1) R2.out (by omega) _ ((fun _ h => h) w' hw')) Tryd.underlying24 rfl (by rw [Fld_length]; exact info64) ?_
  refine calm_call (some 21) 38 #[.agg (Fld f)] ⟨_, rfl⟩ (by kernel_rfl) (by kernel_rfl) (by kernel_rfl) (fun _ => by kernel_rfl) (fun w' hw' => (toField_any f w').mono fun e w2 h => ⟨_, h.1, rfl, below_step hw' h.2 (by have := hw'.size; omega)⟩) ?_
  rintro _ rfl
  refine calm_call (some 22) 39 #[.agg (Grd G), .agg (Fld f)] ⟨_, rfl⟩ (by kernel_rfl) (by kernel_rfl) (by kernel_rfl) (fun _ => by kernel_rfl) (fun w' hw' => (implSum_any G f w' HG.out (HT.out.below hw' (by omega))).mono fun e w2 h => ⟨_, h.1.trans (congrArg Ending.returned HV.out), rfl, below_step hw' h.2 (by have := hw'.size; omega)⟩) ?_
  rintro _ rfl
  refine calm_pure (some 17) (by kernel_rfl) (by kernel_rfl) (by kernel_rfl) (fun _ => by kernel_rfl) ?_
  refine calm_pure (some 23) (by kernel_rfl) (by kernel_rfl) (by kernel_rfl) (fun _ => by kernel_rfl) ?_
  refine calm_pure (some 24) (by kernel_rfl) (by kernel_rfl) (by kernel_rfl) (fun _ => by kernel_rfl) ?_
  refine calm_pure (some 7) (by kernel_rfl) (by kernel_rfl) (by kernel_rfl) (fun _ => by kernel_rfl) ?_
  refine calm_pure (some 8) (by kernel_rfl) (by kernel_rfl) (by kernel_rfl) (fun _ => by kernel_rfl) ?_
  refine calm_end fun w2 hw2 => plan_end (Clean.normal ?_)
  have z2 := hw2.size
  have H2 := Lib.hid hw2
  clear hw2
  have t1 : True := trivial
  simp only [Act.put, List.setIfInBounds_toArray, List.set_cons_zero, List.set_cons_succ]
  go_wp2_with (first | (have _t := t1; refine wpList_conv rfl _ _ _ rfl Tryd.underlying23 Tryd.underlying41 _ rfl ?_; intro x m hx; have X := Lib.hid hx; clear t1 hx) | (refine wpList_conv rfl _ _ _ rfl Tryd.underlying23 Tryd.underlying41 _ rfl ?_; intro y m' hy; have Y := Lib.hid hy; clear hy) | (go_at_call 25; refine (sameFloat_yes x y (by rw [X.out, Y.out]) _).mono ?_; rintro e w' ⟨rfl, k, rfl⟩))
  go_ret
  exact ⟨rfl, HB.out.trans ((H2.out.mono (by omega)).trans (Quiet.below ⟨_, rfl⟩ _))⟩

theorem fnExactSumOver_walk (W : World) (base : Nat) (args : Array Value) (hn : args.size = Tryd.f12.params.size)
    (hv : ∀ (j : Nat) t v, Tryd.f12.params[j]? = some t → args[j]? = some v → Value.okWide Tryd.prog W .any base t v) (hT : TabAt W) :
    Calls Tryd.prog 12 args W fun e W' => e = .returned (.bool true) ∧ Below W.heap.size W W' := by
  rw [Tryd.params12] at hn hv
  obtain ⟨l⟩ := args
  match l, hn with
  | [v0, v1], _ =>
    obtain ⟨G, rfl, hG⟩ := okWide_grd (hv 0 _ v0 rfl rfl)
    obtain ⟨f, rfl, _⟩ := okWide_fld (hv 1 _ v1 rfl rfl)
    exact fnExactSumOver_calls G f W hG hT
end Go.Proofs.YtjbldgefabbgpaaDoor
