/- The law FnExactWaveFrom of this commit: for every input the call returns true, and each argument reads afterwards as it read before. Condition: none. -/
import Derived.Test.YtbafbhaahpjmcaaLiftB
import Derived.Test.YtbafbhaahpjmcaaWvS
namespace Go.Proofs.Ytbafbhaahpjmcaa
open Go Go.ChangeShapes Go.WideShapes Go.ChangeAt Go.RowKit
set_option linter.unusedSimpArgs false
set_option linter.unusedVariables false

theorem cell_i16 {W : World} {r : Reach} {base : Nat} {v : Value} (h : Cell.okWide Try.prog W r base 29 v) : ∃ n, v = .int .i16 n ∧ IntKind.i16.has n := by
  simp only [Cell.okWide, Try.underlying29] at h
  cases v <;> simp_all [Cell.ok]
theorem okWide_L16 {W : World} {base : Nat} {v : Value} (h : Value.okWide Try.prog W .any base 30 v) : ∃ f, v = .agg (L16 f) ∧ ∀ i, i < 12 → -32768 ≤ f i ∧ f i ≤ 32767 := by
  simp only [Value.okWide, Try.underlying30] at h
  obtain ⟨cs, rfl, hsz, ts, hts, _, hc⟩ := h
  rw [show Try.prog.cellTypes Try.prog.depth 30 = some (List.replicate 12 29) by kernel_rfl] at hts
  obtain rfl := Option.some.inj hts
  rw [show Try.prog.cellsOf 30 = 12 by kernel_rfl] at hsz
  have hf : ∀ i, ∃ n, i < 12 → cs[i]? = some (.int .i16 n) ∧ IntKind.i16.has n := fun i => by
    by_cases hi : i < 12
    · have hv : cs[i]? = some cs[i] := Array.getElem?_eq_getElem (by omega)
      obtain ⟨u, hu, ho⟩ := hc i _ hv
      rw [List.length_replicate, Nat.mod_eq_of_lt hi] at hu
      rw [List.getElem?_replicate, if_pos hi] at hu
      obtain rfl := Option.some.inj hu
      obtain ⟨n, hn, hh⟩ := cell_i16 ho
      exact ⟨n, fun _ => ⟨by rw [hv, hn], hh⟩⟩
    · exact ⟨0, fun h => absurd h hi⟩
  refine ⟨fun i => Classical.choose (hf i), ?_, fun i hi => (Classical.choose_spec (hf i) hi).2⟩
  congr 1
  apply Array.ext_getElem?
  intro j
  by_cases hj : j < 12
  · rw [L16_at _ j hj]; exact (Classical.choose_spec (hf j) hj).1
  · rw [Array.getElem?_eq_none (by omega), Array.getElem?_eq_none (by rw [show (L16 _).size = 12 from R12_size _]; omega)]
set_option maxRecDepth 100000 in
set_option maxHeartbeats 4000000 in
theorem fnExactWaveFrom_calls (f : Nat → Int) (hf : ∀ i, i < 12 → -32768 ≤ f i ∧ f i ≤ 32767) (w : World) : Calls Try.prog 4 #[.agg (L16 f)] w fun e w' => e = .returned (.bool true) ∧ Below w.heap.size w w' := by
  have HF := Lib.hid hf
  clear hf
  go_enter Try.func4, Try.ntmps4
  go_upto_region 1 with (fail)
  obtain ⟨W, hW, hs, hr, hB⟩ := one_box (L16 f) 30 w
  rw [hW]
  clear hW
  have HS := Lib.hid (show w.heap.size < W.heap.size by omega)
  have r0 := Lib.hid (show ∀ w', Below W.heap.size W w' → w'.rangeAt w.heap.size 0 (L16 f).toList from range_kept hr (by omega))
  have HB := Lib.hid hB
  clear hs hr hB
  have t1 : True := trivial
  have t2 : True := trivial
  have t3 : True := trivial
  have B0 := Lib.hid (Below.refl W.heap.size W)
  go_upto_region 2 with (first | (refine wpList_load_mid rfl 30 _ rfl _ 0 rfl (L16 f).toList _ (r0.out W (Below.refl _ _)) Try.underlying30 rfl (by rw [show (L16 f).toList.length = 12 from R12_len _]; exact info12i) ?_; try rw [Array.toArray_toList]) | (go_at_call 9; refine (toInt16A12_any f _).mono ?_; rintro e V1 ⟨rfl, hb⟩; have B1 := Lib.hid hb; clear hb) | (go_at_call 8; refine (specWaveFrom_any f _).mono ?_; rintro e V2 ⟨⟨r, x, y, rfl, h1, h2, h3⟩, hb⟩; have B2 := Lib.hid (B1.out.trans (hb.mono B1.out.size)); have R1 := Lib.hid h1; have R2 := Lib.hid h2; have R3 := Lib.hid h3; clear hb h1 h2 h3))
  go_upto_region 3 with (first | (refine wpList_load_mid rfl 30 _ rfl _ 0 rfl (L16 f).toList _ (r0.out V2 B2.out) Try.underlying30 rfl (by rw [show (L16 f).toList.length = 12 from R12_len _]; exact info12i) ?_; try rw [Array.toArray_toList]) | (go_at_call 9; refine (toInt16A12_any f _).mono ?_; rintro e V3 ⟨rfl, hb⟩; have B3 := Lib.hid (B2.out.trans (hb.mono B2.out.size)); clear hb) | (go_at_call 10; refine (implWaveFrom_any f HF.out _).mono ?_; rintro e V4 ⟨⟨r', x', y', rfl, h1, h2, h3⟩, hb⟩; have B4 := Lib.hid (B3.out.trans (hb.mono B3.out.size)); have Q1 := Lib.hid h1; have Q2 := Lib.hid h2; have Q3 := Lib.hid h3; clear hb h1 h2 h3))
  go_wp2_with (first | (have _t := t1; refine wpList_conv_g (by kernel_rfl) _ _ _ rfl Try.underlying31 Try.underlying36 _ rfl ?_; intro a m ha; have A1 := Lib.hid ha; clear t1 ha) | (refine wpList_conv_g (by kernel_rfl) _ _ _ rfl Try.underlying31 Try.underlying36 _ rfl ?_; intro b m' ha; have A2 := Lib.hid ha; clear ha) | (have _t := t2; refine wpList_convC (by kernel_rfl) _ _ _ rfl Try.underlying23 Try.underlying27 _ _ rfl ?_; intro x1 x2 m1 hx1 hx2; have X1 := Lib.hid hx1; have X2 := Lib.hid hx2; clear t2 hx1 hx2) | (refine wpList_convC (by kernel_rfl) _ _ _ rfl Try.underlying23 Try.underlying27 _ _ rfl ?_; intro y1 y2 m2 hy1 hy2; have Y1 := Lib.hid hy1; have Y2 := Lib.hid hy2; clear hy1 hy2) | (go_at_call 11; refine (sameFloat_yes a b (by rw [A1.out, A2.out, Q1.out, R1.out]) _).mono ?_; rintro e w' ⟨rfl, k1, rfl⟩) | (go_at_call 7; refine (sameComplex_yes x1 x2 y1 y2 (by rw [X1.out, Y1.out, Q2.out, R2.out]) (by rw [X2.out, Y2.out, Q3.out, R3.out]) _).mono ?_; rintro e w' ⟨rfl, k2, rfl⟩))
  go_ret
  exact ⟨rfl, (HB.out.trans (B4.out.mono (by have := HS.out; omega))).trans (Quiet.below ⟨_, rfl⟩ _)⟩

set_option maxRecDepth 100000 in
theorem fnExactWaveFrom_walk (W : World) (base : Nat) (args : Array Value) (hn : args.size = Try.f4.params.size)
    (hv : ∀ (j : Nat) t v, Try.f4.params[j]? = some t → args[j]? = some v → Value.okWide Try.prog W .any base t v) :
    Calls Try.prog 4 args W fun e W' => e = .returned (.bool true) ∧ Below W.heap.size W W' := by
  rw [Try.params4] at hn hv
  obtain ⟨l⟩ := args
  match l, hn with
  | [v0], _ =>
    obtain ⟨f, rfl, hf⟩ := okWide_L16 (hv 0 _ v0 rfl rfl)
    exact fnExactWaveFrom_calls f hf W

set_option maxRecDepth 100000 in
theorem fnExactWaveFrom_holds : Rows.FnExactWaveFromSaid :=
  OpenClaim.holds_of_wide 4 Try.f4 rfl rfl rfl rfl rfl rfl rfl ⟨rfl, rfl, rfl, rfl, rfl⟩ rfl rfl rfl rfl rfl (by kernel_rfl) Try.func4 (by kernel_rfl)
    (of_decide_eq_true (by kernel_rfl)) (by unfold Func.isWrapper; first | (rw [if_pos (by decide +kernel)]; kernel_rfl) | (rw [if_neg (by decide +kernel)]; exact ⟨rfl, rfl⟩))
    (fun os started H enc _ => lift 4 Try.f4 Rows.fnExactWaveFromSpec Try.func4 rfl rfl
      (fun H ds h => match ds, h with | [d0], _ => rfl)
      (by rw [Try.params4]; exact (by decide +kernel))
      fnExactWaveFrom_walk os started H enc (by kernel_rfl)
      (ChangeSpec.witness6 (enc := enc) (C := Try.checked) false ⟨#[], #[.agg (L16 fun _ => 0)], []⟩ 16 (by kernel_rfl) (by kernel_rfl) (by kernel_rfl) (by kernel_rfl)))
#print axioms fnExactWaveFrom_holds
end Go.Proofs.Ytbafbhaahpjmcaa
