/- BalancesOf: the model's and the program's. Condition (the program's): the table of math/bits is laid. -/
import Derived.Test.YtcfkkceidlpdkaaDoorBalsS
import Derived.Sort.CutIn
namespace Go.Proofs.YtcfkkceidlpdkaaDoor
open Go.RowKit Go.Shelf
attribute [local go_sem] Oper.semAt_some run_store_float
set_option linter.unusedSimpArgs false
set_option linter.unusedVariables false

def FN (f : Nat → Nat) (n : Int) : Value := .tuple #[.agg (Fld f), .int .i64 n]
/-- What BalancesOf says. -/
def balsV (G : Gd) : Value := if validB G = true then (if allFin G = true then FN (balF G) 0 else FN zf 4) else FN zf 1
theorem balsV_is (G : Gd) : ∃ (f : Nat → Nat) (n : Int), balsV G = .tuple #[.agg (Fld f), .int .i64 n] := by
  unfold balsV
  split
  · split <;> exact ⟨_, _, rfl⟩
  · exact ⟨_, _, rfl⟩
/-- A ground and a field are boxed, both may be written. -/
theorem gr_box (G : Gd) (f : Nat → Nat) (t u : TypeId) (w : World) : ∃ W, (w.alloc (.cells (Grd G) t)).alloc (.cells (Fld f) u) = W ∧ W.heap.size = w.heap.size + 1 + 1 ∧ GBox W w.heap.size G ∧ RowAt W (w.heap.size + 1) f ∧ Below w.heap.size w W := by
  obtain ⟨W1, h1, z1, g1, b1⟩ := gbox1 G t w
  have b2 : Below W1.heap.size W1 (W1.alloc (.cells (Fld f) u)) := (Below.refl _ _).alloc (Nat.le_refl _) _
  rw [h1]
  exact ⟨_, rfl, by simp [z1], g1.below b2 (by omega), by rw [← z1]; exact RowAt.new _ _ _, b1.trans (b2.mono (by omega))⟩

set_option maxRecDepth 100000 in
set_option maxHeartbeats 2000000 in
theorem specBalances_any (G : Gd) (w : World) (hG : GdOk G) :
    Calls Tryd.prog 21 #[.agg (Grd G)] w fun e w' => e = .returned (balsV G) ∧ Below w.heap.size w w' := by
  have hz := (zero_of_info zeroField).1
  go_enter Tryd.func21, Tryd.ntmps21
  go_upto_region 1 with (fail)
  obtain ⟨W, hW, hs, g1, q1, hB⟩ := gr_box G zf 32 30 w
  rw [hW]
  clear hW
  have HS := Lib.hid hs
  have hl : w.heap.size < W.heap.size := by omega
  have hl2 : w.heap.size + 1 < W.heap.size := by omega
  have G1 := Lib.hid g1
  have Q1 := Lib.hid q1
  have HB := Lib.hid hB
  have HG := Lib.hid hG
  clear hs g1 q1 hB hG
  cases hv : validB G
  · have Hv := Lib.hid hv
    have R := Lib.hid (show balsV G = FN zf 1 by simp [balsV, hv])
    have T1 := Lib.hid (fun n => (Q1.out.quiet ⟨n, rfl⟩ : RowAt (World.drewN W n) (w.heap.size + 1) zf))
    clear hv
    go_wp2_with (first | (go_at_call 55; have hc := (l01Ok_any G _ _ G1.out.at' HG.out); rw [Hv.out] at hc; refine hc.mono ?_; clear hc; rintro e w' ⟨rfl, n, rfl⟩; have t1 := (T1.out n).there) | (refine wpList_store_mid rfl 30 _ _ rfl _ 0 (Fld (zf)) rfl rfl (by rw [Fld_size]; with_reducible exact t1) (by rw [Fld_size]; exact infoField) (Fld_one _) ?_))
    refine bodyPost_ret (ret_fld (v := .int .i64 1) rfl rfl rfl ((T1.out n).store (g := zf)).range) rfl ⟨congrArg Ending.returned R.out.symm, below_setCells _ (by omega) _ _ _ (HB.out.trans (Quiet.below ⟨n, rfl⟩ _))⟩
  · have Hv := Lib.hid hv
    have R := Lib.hid (show balsV G = if allFin G = true then FN (balF G) 0 else FN zf 4 by simp [balsV, hv])
    clear hv
    go_upto_region 3 with (go_at_call 55; have hc := (l01Ok_any G _ _ G1.out.at' HG.out); rw [Hv.out] at hc; refine hc.mono ?_; clear hc; rintro e w' ⟨rfl, n, rfl⟩)
    obtain ⟨V, hV⟩ : ∃ V, W.drewN n = V := ⟨_, rfl⟩
    have b1 : Below w.heap.size w V := by rw [← hV]; exact HB.out.trans (Quiet.below ⟨n, rfl⟩ _)
    have g2 : GBox V w.heap.size G := by rw [← hV]; exact G1.out.below (Quiet.below ⟨n, rfl⟩ (w.heap.size + 1)) (by omega)
    have q2 : RowAt V (w.heap.size + 1) zf := by rw [← hV]; exact Q1.out.quiet ⟨n, rfl⟩
    rw [hV]
    have G2 := Lib.hid g2
    have Q2 := Lib.hid q2
    have B1 := Lib.hid b1
    clear hV G1 Q1 HB g2 q2 b1 hl hl2 HS
    have hg2 := G2.out.lt
    have hq2 := Q2.out.lt
    cases ha : allFin G
    · have R2 := Lib.hid (R.out.trans (show _ = FN zf 4 by rw [ha]; rfl))
      have C := Lib.hid (show balsB G = FB zf false by simp [balsB, ha])
      clear ha R
      go_upto_region 4 with (first | (go_at_call 56; have hc := l01Balances_any G Hv.out w.heap.size V G2.out.at' hg2 HG.out; rw [C.out] at hc; refine hc.mono ?_; clear hc; rintro e U ⟨rfl, hu⟩; unfold FB; have HU := Lib.hid hu; clear hu; have hth := new_thereF 30 U) | (refine wpList_store_mid rfl 30 _ _ rfl _ 0 (Fld (zf)) rfl rfl (by rw [Fld_size]; with_reducible exact hth) (by rw [Fld_size]; exact infoField) (Fld_one _) ?_))
      obtain ⟨X, hX, zX, gX, bX⟩ := stored_fld zf 30 U
      rw [hX]
      have hzu := HU.out.size
      have Q3 := Lib.hid ((Q2.out.below HU.out hq2).below bX (by omega))
      have B2 := Lib.hid (B1.out.trans (HU.out.mono (by omega)))
      have B3 := Lib.hid (B2.out.trans (bX.mono (by omega)))
      clear hX gX bX hth zX
      go_wp2_with (refine wpList_store_mid rfl 30 _ _ rfl _ 0 (Fld (zf)) rfl rfl (by rw [Fld_size]; with_reducible exact Q3.out.there) (by rw [Fld_size]; exact infoField) (Fld_one _) ?_)
      refine bodyPost_ret (ret_fld (v := .int .i64 4) rfl rfl rfl (Q3.out.store (g := zf)).range) rfl ⟨congrArg Ending.returned R2.out.symm, below_setCells _ (by omega) _ _ _ B3.out⟩
    · have R2 := Lib.hid (R.out.trans (show _ = FN (balF G) 0 by rw [ha]; rfl))
      have C := Lib.hid (show balsB G = FB (balF G) true by simp [balsB, ha])
      clear ha R
      go_upto_region 4 with (first | (go_at_call 56; have hc := l01Balances_any G Hv.out w.heap.size V G2.out.at' hg2 HG.out; rw [C.out] at hc; refine hc.mono ?_; clear hc; rintro e U ⟨rfl, hu⟩; unfold FB; have HU := Lib.hid hu; clear hu; have hth := new_thereF 30 U) | (refine wpList_store_mid rfl 30 _ _ rfl _ 0 (Fld (balF G)) rfl rfl (by rw [Fld_size]; with_reducible exact hth) (by rw [Fld_size]; exact infoField) (Fld_one _) ?_))
      obtain ⟨X, hX, zX, gX, bX⟩ := stored_fld (balF G) 30 U
      rw [hX]
      have hzu := HU.out.size
      have Q3 := Lib.hid ((Q2.out.below HU.out hq2).below bX (by omega))
      have B2 := Lib.hid (B1.out.trans (HU.out.mono (by omega)))
      have B3 := Lib.hid (B2.out.trans (bX.mono (by omega)))
      clear hX bX hth zX
      go_wp2_with (first | (refine wpList_load_mid rfl 30 _ rfl U.heap.size 0 rfl (Fld (balF G)).toList _ gX Tryd.underlying30 rfl (by rw [Fld_length]; exact infoField) ?_) | (refine wpList_store_mid rfl 30 _ _ rfl _ 0 (Fld (balF G)) rfl rfl (by rw [Fld_size]; with_reducible exact Q3.out.there) (by rw [Fld_size]; exact infoField) (Fld_one _) ?_))
      refine bodyPost_ret (ret_fld (v := .int .i64 0) rfl rfl rfl (Q3.out.store (g := balF G)).range) rfl ⟨congrArg Ending.returned R2.out.symm, below_setCells _ (by omega) _ _ _ B3.out⟩
end Go.Proofs.YtcfkkceidlpdkaaDoor
