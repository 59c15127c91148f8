/- The wave that is seen in levels, the model's. No condition. -/
import Derived.Test.YtbafbhaahpjmcaaWvI
namespace Go.Proofs.Ytbafbhaahpjmcaa
open Go Go.RowKit Ieee
attribute [local go_sem] run_store_float
set_option linter.unusedSimpArgs false
set_option linter.unusedVariables false

/-- The numbers are those that are told. -/
def NumsOf (o : Nat → Option Nat) (rs : List Nat) : Prop := ∀ j r, rs[j]? = some r → num .f32 r = o j
theorem NumsOf.snoc {o : Nat → Option Nat} {rs : List Nat} {z : Nat} (h : NumsOf o rs) (hz : num .f32 z = o rs.length) : NumsOf o (rs ++ [z]) := fun j r hj => by
  by_cases e : j < rs.length
  · rw [List.getElem?_append_left e] at hj; exact h j r hj
  · have hl := (List.getElem?_eq_some_iff.1 hj).1
    simp at hl
    obtain rfl : j = rs.length := by omega
    simp at hj
    subst hj
    exact hz
theorem mid_cell {w : World} {g cap k r : Nat} {rs : List Nat} (h : VRow w 31 g cap (rs.map (Value.float .f32))) (hr : rs[k]? = some r) : w.cell? ⟨g, k, none⟩ = some (.float .f32 r) := h.cell k _ (by simp [hr])

set_option maxRecDepth 100000 in
set_option maxHeartbeats 4000000 in
theorem specWaveFrom_any (f : Nat → Int) (w : World) :
    Calls Try.prog 8 #[.agg (L16 f)] w fun e w' => Seen f e ∧ Below w.heap.size w w' := by
  go_enter Try.func8, Try.ntmps8
  go_upto_region 1 with (fail)
  obtain ⟨W, hW, hs, hr, hB⟩ := one_box (L16 f) 30 w
  rw [hW]
  clear hW
  have HR := Lib.hid hr
  have HB := Lib.hid hB
  have HS := Lib.hid hs
  have V0 := Lib.hid (vrow_made W 31)
  rw [hs] at V0
  have HB0 := Lib.hid (show Below (w.heap.size + 1) W (W.alloc (.cells #[] 31)) from (Below.refl _ _).alloc (by omega) _)
  have hsz : W.heap.size = w.heap.size + 1 := hs
  clear hr hB hs
  go_upto_region 3 with (fail)
  clear hsz
  go_loopw [4, 5] (fun (v i : Value) (wr : World) => ∃ (k g cap : Nat) (rs : List Nat), k ≤ 12 ∧ i = .int .i64 (k : Int) ∧ v = .slice (some ⟨g, 0, none⟩) k cap ∧ Hid (VRow wr 31 g cap (rs.map (Value.float .f32))) ∧ Hid (rs.length = k) ∧ Hid (NumsOf (fun i => lvV (f i)) rs) ∧ Hid (Below (w.heap.size + 1) W wr ∧ (w.heap.size + 1) ≤ g)) (fun _ i _ => 12 - (intOf i).toNat)
  case atStart => exact ⟨0, w.heap.size + 1, 0, [], by omega, rfl, rfl, V0, Lib.hid rfl, Lib.hid (fun j r h => by simp at h), Lib.hid ⟨HB0.out, Nat.le_refl _⟩⟩
  case round =>
    obtain ⟨k, g, cap, rs, hk, rfl, rfl, hv, hl, ho, hb⟩ := hrel
    by_cases hlt : k < 12
    · have c1 : wr.cell? ⟨w.heap.size, k, none⟩ = some (.int .i16 (f k)) := (hb.out.1.cell (p := ⟨w.heap.size, k, none⟩) (show w.heap.size < w.heap.size + 1 by omega)).trans (by have := HR.out k _ (by rw [Array.getElem?_toList]; exact L16_at f k hlt); simpa using this)
      go_wp2_with (first | (refine wpList_float rfl _ _ _ _ _ rfl rfl .f32 _ _ rfl rfl ?_; intro z m hz; have HZ := Lib.hid hz; clear hz) | (refine wpList_appF (by kernel_rfl) _ _ rfl (hv.out.quiet ⟨m, rfl⟩) hl.out (by omega) z rfl (by simp [go_sem]; done) ?_; intro g2 cap2 w2 h1 h2 h3; have H1 := Lib.hid h1; have H2 := Lib.hid h2; have H3 := Lib.hid h3; clear h1 h2 h3))
      go_roundw
      case rel =>
        have hb1 : Below (w.heap.size + 1) W (wr.drewN m) := hb.out.1.trans (Quiet.below ⟨_, rfl⟩ _)
        refine ⟨k + 1, g2, cap2, rs ++ [z], by omega, by go_num, rfl, H1, Lib.hid (by simp [hl.out]), Lib.hid (ho.out.snoc (by rw [hl.out, HZ.out]; rfl)), Lib.hid ⟨hb1.trans (grown_below H2.out hb.out.2 (by have := hb1.size; have := HS.out; omega)), ?_⟩⟩
        have h3 := H3.out
        have hq : (wr.drewN m).heap.size = wr.heap.size := Quiet.size ⟨m, rfl⟩
        have h4 := hb1.size
        have h5 := HS.out
        have h6 := hb.out.2
        rcases h3 with h3 | h3 <;> omega
      case measure => simp [intOf]; omega
    · obtain rfl : k = 12 := by omega
      clear hk hlt
      have Hg := Lib.hid hv.out.lt
      go_upto_region 7 with (first | (go_at_call 16; have hc := l03Sum_any g cap rs (by rw [hl.out]; decide) wr (fun j r hj => mid_cell hv.out hj); rw [smN_sumQ ho.out _ (Nat.le_refl _), hl.out] at hc; refine hc.mono ?_; clear hc; rintro e V1 ⟨s, rfl, hs1, hq⟩; have HS1 := Lib.hid hs1; have HQ := Lib.hid hq; clear hs1 hq) | (refine wpList_float rfl _ _ _ _ _ rfl rfl .f32 _ _ rfl rfl ?_; intro m n1 hm; have HM := Lib.hid hm; clear hm))
      obtain ⟨V2, hV2⟩ : ∃ V2, V1.drewN n1 = V2 := ⟨_, rfl⟩
      have QV : Below wr.heap.size wr V2 := by rw [← hV2]; exact HQ.out.trans (Quiet.below ⟨_, rfl⟩ _)
      have MM := Lib.hid (show num .f32 m = meanO f by rw [HM.out, HS1.out]; rfl)
      have VH := Lib.hid (hv.out.below QV hv.out.lt)
      have HB2 := Lib.hid (hb.out.1.trans (QV.mono (by have := hb.out.1.size; have := HS.out; omega)))
      have HG := Lib.hid (show (w.heap.size + 1) ≤ g ∧ g < V2.heap.size from ⟨hb.out.2, Nat.lt_of_lt_of_le hv.out.lt QV.size⟩)
      rw [hV2]
      clear hV2 QV HQ HM HS1 hv hb Hg
      have v1 := vrow_made V2 31
      have v2 := vrow_made (V2.alloc (.cells #[] 31)) 31
      rw [show (V2.alloc (.cells #[] 31)).heap.size = V2.heap.size + 1 by simp] at v2
      have v1' : VRow ((V2.alloc (.cells #[] 31)).alloc (.cells #[] 31)) 31 V2.heap.size 0 [] := v1.kept (heap_alloc_old _ _ (by simp))
      have v0 : VRow ((V2.alloc (.cells #[] 31)).alloc (.cells #[] 31)) 31 g cap (rs.map (Value.float .f32)) := VH.out.kept ((heap_alloc_old _ _ (by simp; have := HG.out; omega)).trans (heap_alloc_old _ _ HG.out.2))
      have W1 := Lib.hid v1'
      have W2 := Lib.hid v2
      have W0 := Lib.hid v0
      have HB3 := Lib.hid (show Below (w.heap.size + 1) W ((V2.alloc (.cells #[] 31)).alloc (.cells #[] 31)) from (HB2.out.alloc (by have := HB2.out.size; have := HS.out; omega) _).alloc (by simp; have := HB2.out.size; have := HS.out; omega) _)
      clear v1 v2 v1' v0 VH HB2
      go_upto_region 11 with (fail)
      obtain ⟨V3, hV3⟩ : ∃ V3, (V2.alloc (.cells #[] 31)).alloc (.cells #[] 31) = V3 := ⟨_, rfl⟩
      rw [hV3] at W0 W1 W2 HB3 ⊢
      have HZ3 : V3.heap.size = V2.heap.size + 2 := by rw [← hV3]; simp
      have G1 := Lib.hid (show g ≠ V2.heap.size ∧ g ≠ V2.heap.size + 1 ∧ (w.heap.size + 1) ≤ V2.heap.size by have := HG.out; omega)
      clear hV3 HZ3
      go_loopw [7, 8, 10, 11, 12] (fun (v1 v2 i t d : Value) (wr : World) => ∃ (k g1 cap1 g2 cap2 : Nat) (xs cs : List Nat), k ≤ 12 ∧ i = .int .i64 (k : Int) ∧ v1 = .slice (some ⟨g1, 0, none⟩) k cap1 ∧ v2 = .slice (some ⟨g2, 0, none⟩) k cap2 ∧
        Hid (VRow wr 31 g cap (rs.map (Value.float .f32))) ∧ Hid (VRow wr 31 g1 cap1 (xs.map (Value.float .f32))) ∧ Hid (VRow wr 31 g2 cap2 (cs.map (Value.float .f32))) ∧ Hid (xs.length = k ∧ cs.length = k ∧ NumsOf (alongO f) xs ∧ NumsOf (acrossO f) cs) ∧
        Hid (Below (w.heap.size + 1) W wr ∧ (w.heap.size + 1) ≤ g1 ∧ (w.heap.size + 1) ≤ g2 ∧ g1 ≠ g2 ∧ g ≠ g1 ∧ g ≠ g2)) (fun _ _ i _ _ _ => 12 - (intOf i).toNat)
      case atStart => exact ⟨0, V2.heap.size, 0, V2.heap.size + 1, 0, [], [], by omega, rfl, rfl, rfl, W0, W1, W2, Lib.hid ⟨rfl, rfl, fun j r h => by simp at h, fun j r h => by simp at h⟩, Lib.hid ⟨HB3.out, G1.out.2.2, by have := G1.out; omega, by omega, G1.out.1, G1.out.2.1⟩⟩
      case round =>
        obtain ⟨k, g1, cap1, g2, cap2, xs, cs, hk, rfl, rfl, rfl, k0, k1, k2, hla, hb⟩ := hrel
        by_cases hlt : k < 12
        · obtain ⟨r, hr⟩ : ∃ r, rs[k]? = some r := ⟨_, List.getElem?_eq_getElem (by rw [hl.out]; exact hlt)⟩
          have HRK := Lib.hid (ho.out k r hr)
          have q0 : wr.cell? ⟨g, k, none⟩ = some (.float .f32 r) := mid_cell k0.out hr
          clear hr
          go_upto_region 14 with (go_at_call 13; refine (l06Turn_any (k : Int) (by omega) (by omega) _).mono ?_; rintro e V1 ⟨rfl, hq⟩; have HQ := Lib.hid hq; clear hq)
          have j0 := Lib.hid (k0.out.below HQ.out k0.out.lt)
          have j1 := Lib.hid (k1.out.below HQ.out k1.out.lt)
          have j2 := Lib.hid (k2.out.below HQ.out k2.out.lt)
          have c1 : V1.cell? ⟨g, k, none⟩ = some (.float .f32 r) := (HQ.out.cell (p := ⟨g, k, none⟩) k0.out.lt).trans q0
          have c2 : V1.cell? ⟨g, 0 + k, none⟩ = some (.float .f32 r) := by rw [Nat.zero_add]; exact c1
          have HB1 := Lib.hid (hb.out.1.trans (HQ.out.mono (by have := hb.out.1.size; have := HS.out; omega)))
          clear q0 k0 k1 k2 HQ
          go_upto_region 15 with (refine wpList_float rfl _ _ _ _ _ rfl rfl .f32 _ _ rfl rfl ?_; intro d n2 hd; have HD := Lib.hid hd; clear hd)
          go_upto_region 16 with (first | (go_at_call 17; refine (l06Re_any _ _ _).mono ?_; rintro e w' ⟨rfl, rfl⟩) | (refine wpList_float rfl _ _ _ _ _ rfl rfl .f32 _ _ rfl rfl ?_; intro p n3 hp; have HP := Lib.hid hp; clear hp) | (refine wpList_appF (by kernel_rfl) _ _ rfl (j1.out.quiet ⟨_, rfl⟩) hla.out.1 (by omega) p rfl (by simp [go_sem]; done) ?_; intro g3 cap3 w3 h1 h2 h3; have H1 := Lib.hid h1; have H2 := Lib.hid h2; have H3 := Lib.hid h3; clear h1 h2 h3))
          have i0 := Lib.hid ((j0.out.quiet ⟨n2 + n3, rfl⟩).grown H2.out hb.out.2.2.2.2.1)
          have i2 := Lib.hid ((j2.out.quiet ⟨n2 + n3, rfl⟩).grown H2.out (fun e => hb.out.2.2.2.1 e.symm))
          have HB4 := Lib.hid ((HB1.out.trans (Quiet.below ⟨n2 + n3, rfl⟩ _)).trans (grown_below H2.out hb.out.2.1 (by have := HB1.out.size; have := HS.out; have : (V1.drewN (n2 + n3)).heap.size = V1.heap.size := Quiet.size ⟨_, rfl⟩; omega)))
          have G4 := Lib.hid (show (w.heap.size + 1) ≤ g3 ∧ g3 ≠ g2 ∧ g ≠ g3 by
            have h := hb.out
            have h3 := H3.out
            have hs1 : (V1.drewN (n2 + n3)).heap.size = V1.heap.size := Quiet.size ⟨_, rfl⟩
            have l1 := j2.out.lt
            have l2 := j0.out.lt
            have l3 := HG.out
            rcases h3 with h3 | h3 <;> omega)
          clear c1 c2 j0 j1 j2 HB1 H2 H3
          have t1 : True := trivial
          go_wp2_with (first | (go_at_call 18; refine (l06Im_any _ _ _).mono ?_; rintro e w' ⟨rfl, rfl⟩) | (have _t := t1; refine wpList_float rfl _ _ _ _ _ rfl rfl .f32 _ _ rfl rfl ?_; intro q n4 hq; have HQ4 := Lib.hid hq; clear hq; clear t1) | (refine wpList_float rfl _ _ _ _ _ rfl rfl .f32 _ _ rfl rfl ?_; intro z n5 hz; have HZ5 := Lib.hid hz; clear hz) | (refine wpList_appF (by kernel_rfl) _ _ rfl (i2.out.quiet ⟨_, rfl⟩) hla.out.2.1 (by omega) z rfl (by simp [go_sem]; done) ?_; intro g5 cap5 w5 h1 h2 h3; have J1 := Lib.hid h1; have J2 := Lib.hid h2; have J3 := Lib.hid h3; clear h1 h2 h3))
          go_roundw
          case rel =>
            have hD : num .f32 d = offO f k := by rw [HD.out, MM.out, HRK.out]; rfl
            have h := hb.out
            refine ⟨k + 1, g3, cap3, g5, cap5, xs ++ [p], cs ++ [z], by omega, by go_num, rfl, rfl, Lib.hid ((i0.out.quiet ⟨n4 + n5, rfl⟩).grown J2.out h.2.2.2.2.2), Lib.hid ((H1.out.quiet ⟨n4 + n5, rfl⟩).grown J2.out G4.out.2.1), J1, Lib.hid ⟨by simp [hla.out.1], by simp [hla.out.2.1], hla.out.2.2.1.snoc (by rw [hla.out.1, HP.out, hD]; rfl), hla.out.2.2.2.snoc (by rw [hla.out.2.1, HZ5.out, HQ4.out, hD]; rfl)⟩, Lib.hid ⟨(HB4.out.trans (Quiet.below ⟨n4 + n5, rfl⟩ _)).trans (grown_below J2.out h.2.2.1 ?_), G4.out.1, ?_⟩⟩
            · have := HB4.out.size
              have := HS.out
              have : (w3.drewN (n4 + n5)).heap.size = w3.heap.size := Quiet.size ⟨_, rfl⟩
              omega
            · have h3 := J3.out
              have hs1 : (w3.drewN (n4 + n5)).heap.size = w3.heap.size := Quiet.size ⟨_, rfl⟩
              have l1 := H1.out.lt
              have l2 := i0.out.lt
              have l3 := HG.out
              have l4 := G4.out
              rcases h3 with h3 | h3 <;> omega
          case measure => simp [intOf]; omega
        · obtain rfl : k = 12 := by omega
          obtain ⟨la, lc, oa, oc⟩ := hla.out
          have s1 := fun W' hW => l03Sum_any g1 cap1 xs (by rw [la]; decide) W' hW
          have s2 := fun W' hW => l03Sum_any g2 cap2 cs (by rw [lc]; decide) W' hW
          rw [smN_sumQ oa _ (Nat.le_refl _), la] at s1
          rw [smN_sumQ oc _ (Nat.le_refl _), lc] at s2
          have S1 := Lib.hid s1
          have S2 := Lib.hid s2
          clear s1 s2 la lc oa oc
          have t1 : True := trivial
          have t2 : True := trivial
          go_wp2_with (first | (have _t := t1; go_at_call 16; refine (S1.out _ (fun j r hj => mid_cell k1.out hj)).mono ?_; rintro e V4 ⟨x, rfl, hx1, hq⟩; have HX := Lib.hid hx1; have HQ4 := Lib.hid hq; clear hx1 hq t1) | (have _t := t2; refine wpList_float rfl _ _ _ _ _ rfl rfl .f32 _ _ rfl rfl ?_; intro xq n6 hxq; have HXQ := Lib.hid hxq; clear hxq; clear t2) | (go_at_call 16; refine (S2.out _ (fun j r hj => mid_cell ((k2.out.below HQ4.out k2.out.lt).quiet ⟨n6, rfl⟩) hj)).mono ?_; rintro e V5 ⟨y, rfl, hy1, hq⟩; have HY := Lib.hid hy1; have HQ5 := Lib.hid hq; clear hy1 hq) | (refine wpList_float rfl _ _ _ _ _ rfl rfl .f32 _ _ rfl rfl ?_; intro yq n7 hyq; have HYQ := Lib.hid hyq; clear hyq) | (go_at_call 19; refine (l06Wave_any _ _ _).mono ?_; rintro e w' ⟨rfl, rfl⟩))
          go_ret2
          have Z5 : Below wr.heap.size wr V5 := (HQ4.out.trans (Quiet.below ⟨n6, rfl⟩ _)).trans (HQ5.out.mono (by have := HQ4.out.size; have : (V4.drewN n6).heap.size = V4.heap.size := Quiet.size ⟨_, rfl⟩; omega))
          exact ⟨⟨m, xq, yq, rfl, MM.out, by rw [HXQ.out, HX.out], by rw [HYQ.out, HY.out]⟩, (HB.out.trans (hb.out.1.mono (by omega))).trans ((Z5.mono (by have := hb.out.1.size; have := HS.out; omega)).trans (Quiet.below ⟨_, rfl⟩ _))⟩
end Go.Proofs.Ytbafbhaahpjmcaa
