/- The law FnExactSameBrine: for every two brines the call returns true. Condition: none. -/
import Derived.Test.YtjmekgogaiokpabBriE
namespace Go.Proofs.Ytjmekgogaiokpab
open Go.RowKit
set_option linter.unusedSimpArgs false

set_option maxRecDepth 100000 in
set_option maxHeartbeats 1000000 in
theorem sameBrine_calls (f g : Brn) (w : World) :
    Calls Try.prog 3 #[.agg (BrnA f), .agg (BrnA g)] w fun e w' => e = .returned (.bool true) ∧ Below w.heap.size w w' := by
  obtain ⟨W, hW, hz, hp, hq, hb⟩ := two_boxes (BrnA f) (BrnA g) 29 29 w
  have HW := Lib.hid hW
  have Lf := range_kept (n := w.heap.size + 2) hp (by omega)
  have Lg := range_kept (n := w.heap.size + 2) hq (by omega)
  have hn : w.heap.size + 2 ≤ W.heap.size := by omega
  have Hz := Lib.hid hz
  clear hW hz hp hq
  go_enter Try.func3, Try.ntmps3
  go_wp2_with fail
  rw [HW.out]
  refine wp_region_noPanic ?_
  refine wp_region_held_drew (S := Below (w.heap.size + 2) W) (by kernel_rfl) (Below.refl _ _).drew (fun hHa0 => ?_)
  refine wpAnyH_take (i := 0) rfl (by kernel_rfl) (by kernel_rfl) (by kernel_rfl) (fun _ _ _ h => h) (yieldsIf_load_mid rfl _ _ rfl _ 0 rfl (BrnA f).toList _ Lf Try.underlying29 rfl (by rw [BrnA_toList, BrnL_length]; exact infoLBrine)) hHa0 ?_
  simp only [Act.put, List.setIfInBounds_toArray, List.set_cons_zero, List.set_cons_succ]
  refine wpAnyH_take (i := 2) rfl (by kernel_rfl) (by kernel_rfl) (by kernel_rfl) (fun _ _ _ h => h) (yieldsIf_load_mid rfl _ _ rfl _ 0 rfl (BrnA g).toList _ Lg Try.underlying29 rfl (by rw [BrnA_toList, BrnL_length]; exact infoLBrine)) hHa0 ?_
  simp only [Act.put, List.setIfInBounds_toArray, List.set_cons_zero, List.set_cons_succ]
  refine wpAnyH_ready (rs := [1]) (by kernel_rfl) (by simp) (AllReadyH.cons rfl (fun K hK => ?_) AllReadyH.nil)
  rw [if_pos (by rfl)]
  go_simp
  refine (toBrine_any f _).mono ?_
  rintro e wa1 ⟨rfl, hba1⟩
  refine hK.out _ _ (keepB hba1 hHa0 hn) (fun hHa1 => ?_)
  clear hK K
  refine wpAnyH_ready (rs := [3]) (by kernel_rfl) (by simp) (AllReadyH.cons rfl (fun K hK => ?_) AllReadyH.nil)
  rw [if_pos (by rfl)]
  go_simp
  refine (toBrine_any g _).mono ?_
  rintro e wa2 ⟨rfl, hba2⟩
  refine hK.out _ _ (keepB hba2 hHa1 hn) (fun hHa2 => ?_)
  clear hK K
  refine wpAnyH_ready (rs := [4]) (by kernel_rfl) (by simp) (AllReadyH.cons rfl (fun K hK => ?_) AllReadyH.nil)
  rw [if_pos (by rfl)]
  go_simp
  refine (specSameB_any f g _).mono ?_
  rintro e wa3 ⟨rfl, hba3⟩
  refine hK.out _ _ (keepB hba3 hHa2 hn) (fun hHa3 => ?_)
  clear hK K
  refine wpAnyH_ready (rs := [5]) (by kernel_rfl) (by simp) (AllReadyH.cons rfl (fun K hK => ?_) AllReadyH.nil)
  rw [if_pos (by rfl)]
  go_simp
  refine hK.out _ _ hHa3 (fun _ => ?_)
  clear hK K
  refine wpAnyH_done (by kernel_rfl) ?_ _
  refine NoPanic.normal ?_
  go_wp2_with fail
  refine wp_region_noPanic ?_
  refine wp_region_held_drew (S := Below (w.heap.size + 2) W) (by kernel_rfl) (hHa3).drew (fun hHb0 => ?_)
  refine wpAnyH_take (i := 0) rfl (by kernel_rfl) (by kernel_rfl) (by kernel_rfl) (fun _ _ _ h => h) (yieldsIf_load_mid rfl _ _ rfl _ 0 rfl (BrnA f).toList _ Lf Try.underlying29 rfl (by rw [BrnA_toList, BrnL_length]; exact infoLBrine)) hHb0 ?_
  simp only [Act.put, List.setIfInBounds_toArray, List.set_cons_zero, List.set_cons_succ]
  refine wpAnyH_take (i := 2) rfl (by kernel_rfl) (by kernel_rfl) (by kernel_rfl) (fun _ _ _ h => h) (yieldsIf_load_mid rfl _ _ rfl _ 0 rfl (BrnA g).toList _ Lg Try.underlying29 rfl (by rw [BrnA_toList, BrnL_length]; exact infoLBrine)) hHb0 ?_
  simp only [Act.put, List.setIfInBounds_toArray, List.set_cons_zero, List.set_cons_succ]
  refine wpAnyH_ready (rs := [1]) (by kernel_rfl) (by simp) (AllReadyH.cons rfl (fun K hK => ?_) AllReadyH.nil)
  rw [if_pos (by rfl)]
  go_simp
  refine (toBrine_any f _).mono ?_
  rintro e wb1 ⟨rfl, hbb1⟩
  refine hK.out _ _ (keepB hbb1 hHb0 hn) (fun hHb1 => ?_)
  clear hK K
  refine wpAnyH_ready (rs := [3]) (by kernel_rfl) (by simp) (AllReadyH.cons rfl (fun K hK => ?_) AllReadyH.nil)
  rw [if_pos (by rfl)]
  go_simp
  refine (toBrine_any g _).mono ?_
  rintro e wb2 ⟨rfl, hbb2⟩
  refine hK.out _ _ (keepB hbb2 hHb1 hn) (fun hHb2 => ?_)
  clear hK K
  refine wpAnyH_ready (rs := [4]) (by kernel_rfl) (by simp) (AllReadyH.cons rfl (fun K hK => ?_) AllReadyH.nil)
  rw [if_pos (by rfl)]
  go_simp
  refine (implSameB_any f g _).mono ?_
  rintro e wb3 ⟨rfl, hbb3⟩
  refine hK.out _ _ (keepB hbb3 hHb2 hn) (fun hHb3 => ?_)
  clear hK K
  refine wpAnyH_ready (rs := [5]) (by kernel_rfl) (by simp) (AllReadyH.cons rfl (fun K hK => ?_) AllReadyH.nil)
  rw [if_pos (by rfl)]
  go_simp
  refine hK.out _ _ hHb3 (fun _ => ?_)
  clear hK K
  refine wpAnyH_done (by kernel_rfl) ?_ _
  refine NoPanic.normal ?_
  go_wp2
  go_ret
  exact ⟨rfl, hb.trans (hHb3.mono (by omega))⟩

theorem fnExactSameBrine_walk (W : World) (base : Nat) (args : Array Value) (hn : args.size = Try.f3.params.size)
    (hv : ∀ (j : Nat) t v, Try.f3.params[j]? = some t → args[j]? = some v → Value.okWide Try.prog W .any base t v) :
    Calls Try.prog 3 args W fun e W' => e = .returned (.bool true) ∧ Below W.heap.size W W' := by
  rw [Try.params3] at hn hv
  obtain ⟨l⟩ := args
  match l, hn with
  | [v0, v1], _ =>
    obtain ⟨f, rfl, _⟩ := okWide_brn (hv 0 _ v0 rfl rfl)
    obtain ⟨g, rfl, _⟩ := okWide_brn (hv 1 _ v1 rfl rfl)
    exact sameBrine_calls f g W
end Go.Proofs.Ytjmekgogaiokpab
