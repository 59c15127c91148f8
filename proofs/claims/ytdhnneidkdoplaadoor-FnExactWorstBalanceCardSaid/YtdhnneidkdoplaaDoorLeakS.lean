/- LeakOf: the model's. No condition. -/
import Derived.Test.YtdhnneidkdoplaaDoorFlows
namespace Go.Proofs.YtdhnneidkdoplaaDoor
open Go.RowKit Go.Shelf
attribute [local go_sem] Oper.semAt_some run_store_float
set_option linter.unusedSimpArgs false
set_option linter.unusedVariables false

/-- The cells that are fixed, among the first ones. -/
def fxTo (G : Gd) (k : Nat) : List Nat := (List.range k).filter fun i => isB G i && G.x.toNat.testBit i
theorem fxTo_yes {G : Gd} {k : Nat} (h1 : isB G k = true) (h2 : G.x.toNat.testBit k = true) : fxTo G (k + 1) = fxTo G k ++ [k] := by
  unfold fxTo
  rw [List.range_succ, List.filter_append, List.filter_cons, if_pos (by rw [h1, h2]; rfl), List.filter_nil]
theorem fxTo_no {G : Gd} {k : Nat} (h : (isB G k && G.x.toNat.testBit k) = false) : fxTo G (k + 1) = fxTo G k := by
  unfold fxTo
  rw [List.range_succ, List.filter_append, List.filter_cons, if_neg (by rw [h]; decide), List.filter_nil, List.append_nil]
/-- The sum of a field's numbers over a list, beginning with the first one. -/
def sumO (f : Nat → Nat) : List Nat → Option Nat
  | [] => num .f32 0
  | a :: r => r.foldl (fun o i => fop .f32 .add o (num .f32 (f i))) (num .f32 (f a))
theorem sumO_one (f : Nat → Nat) (i : Nat) : sumO f ([] ++ [i]) = num .f32 (f i) := rfl
theorem sumO_snoc (f : Nat → Nat) (l : List Nat) (i : Nat) (h : l ≠ []) : sumO f (l ++ [i]) = fop .f32 .add (sumO f l) (num .f32 (f i)) := by
  cases l with
  | nil => exact absurd rfl h
  | cons a r => simp [sumO]
/-- What LeakOf says. -/
def leakV (G : Gd) : Value := if validB G = true then (if allFin G = true then finV (fop .f32 .sub (num .f32 0) (sumO (balF G) (fxTo G 64))) else FI 0 4) else FI 0 1
theorem leakV_is (G : Gd) : ∃ (b : Nat) (n : Int), leakV G = .tuple #[.float .f32 b, .int .i64 n] := by
  unfold leakV
  split
  · split
    · exact finV_is _
    · exact ⟨_, _, rfl⟩
  · exact ⟨_, _, rfl⟩

set_option maxRecDepth 100000 in
set_option maxHeartbeats 2000000 in
theorem specLeak_any (G : Gd) (w : World) (hG : GdOk G) :
    Calls Tryd.prog 23 #[.agg (Grd G)] w fun e w' => e = .returned (leakV G) ∧ Below w.heap.size w w' := by
  have hz := (zero_of_info zeroField).1
  go_enter Tryd.func23, Tryd.ntmps23
  go_upto_region 1 with (fail)
  obtain ⟨W, hW, hs, g1, hB⟩ := gbox1 G 32 w
  rw [hW]
  clear hW
  have hl : w.heap.size < W.heap.size := by omega
  have G1 := Lib.hid g1
  have HB := Lib.hid hB
  have HG := Lib.hid hG
  clear hs g1 hB hG
  cases hv : validB G
  · have Hv := Lib.hid hv
    have R := Lib.hid (show leakV G = FI 0 1 by simp [leakV, hv])
    clear hv
    go_wp2_with (go_at_call 49; have hc := (l01Ok_any G _ _ G1.out.at' HG.out); rw [Hv.out] at hc; refine hc.mono ?_; clear hc; rintro e w' ⟨rfl, n, rfl⟩)
    go_ret2
    exact ⟨congrArg Ending.returned R.out.symm, HB.out.trans (Quiet.below ⟨n, rfl⟩ _)⟩
  · have Hv := Lib.hid hv
    have R := Lib.hid (show leakV G = if allFin G = true then finV (fop .f32 .sub (num .f32 0) (sumO (balF G) (fxTo G 64))) else FI 0 4 by simp [leakV, hv])
    clear hv
    go_upto_region 3 with (go_at_call 49; have hc := (l01Ok_any G _ _ G1.out.at' HG.out); rw [Hv.out] at hc; refine hc.mono ?_; clear hc; rintro e w' ⟨rfl, n, rfl⟩)
    obtain ⟨V, hV⟩ : ∃ V, W.drewN n = V := ⟨_, rfl⟩
    have b1 : Below w.heap.size w V := by rw [← hV]; exact HB.out.trans (Quiet.below ⟨n, rfl⟩ _)
    have g2 : GBox V w.heap.size G := by rw [← hV]; exact G1.out.below (Quiet.below ⟨n, rfl⟩ (w.heap.size + 1)) (by omega)
    rw [hV]
    have G2 := Lib.hid g2
    have B1 := Lib.hid b1
    clear hV G1 HB g2 b1 hl
    have hg2 := G2.out.lt
    cases ha : allFin G
    · have R2 := Lib.hid (R.out.trans (show _ = FI 0 4 by rw [ha]; rfl))
      have C := Lib.hid (show balsB G = FB zf false by simp [balsB, ha])
      clear ha R
      go_upto_region 4 with (first | (go_at_call 50; have hc := l01Balances_any G Hv.out w.heap.size V G2.out.at' hg2 HG.out; rw [C.out] at hc; refine hc.mono ?_; clear hc; rintro e U ⟨rfl, hu⟩; unfold FB; have HU := Lib.hid hu; clear hu; have hth := new_thereF 30 U) | (refine wpList_store_mid rfl 30 _ _ rfl _ 0 (Fld (zf)) rfl rfl (by rw [Fld_size]; with_reducible exact hth) (by rw [Fld_size]; exact infoField) (Fld_one _) ?_))
      obtain ⟨X, hX, zX, gX, bX⟩ := stored_fld zf 30 U
      rw [hX]
      have hzu := HU.out.size
      have B2 := Lib.hid ((B1.out.trans (HU.out.mono (by omega))).trans (bX.mono (by omega)))
      clear hX gX bX hth zX
      go_wp2
      go_ret2
      exact ⟨congrArg Ending.returned R2.out.symm, B2.out⟩
    · have R2 := Lib.hid (R.out.trans (show _ = finV (fop .f32 .sub (num .f32 0) (sumO (balF G) (fxTo G 64))) by rw [ha]; rfl))
      have C := Lib.hid (show balsB G = FB (balF G) true by simp [balsB, ha])
      clear ha R
      go_upto_region 4 with (first | (go_at_call 50; have hc := l01Balances_any G Hv.out w.heap.size V G2.out.at' hg2 HG.out; rw [C.out] at hc; refine hc.mono ?_; clear hc; rintro e U ⟨rfl, hu⟩; unfold FB; have HU := Lib.hid hu; clear hu; have hth := new_thereF 30 U) | (refine wpList_store_mid rfl 30 _ _ rfl _ 0 (Fld (balF G)) rfl rfl (by rw [Fld_size]; with_reducible exact hth) (by rw [Fld_size]; exact infoField) (Fld_one _) ?_))
      obtain ⟨X, hX, zX, gX, bX⟩ := stored_fld (balF G) 30 U
      rw [hX]
      have hzu := HU.out.size
      have P1 := Lib.hid ((G2.out.below HU.out hg2).below bX (by omega))
      have B2 := Lib.hid ((B1.out.trans (HU.out.mono (by omega))).trans (bX.mono (by omega)))
      have Q1 := Lib.hid gX
      clear hX bX hth zX gX hzu hz G2
      go_wp2
      go_loopw [6, 7, 8] (fun s b i wr => ∃ (k r : Nat) (q : Bool), k ≤ 64 ∧ i = .int .i64 k ∧ s = .float .f32 r ∧ b = .bool q ∧ Hid (num .f32 r = sumO (balF G) (fxTo G k)) ∧ Hid (q = decide (fxTo G k = [])) ∧ Hid (Quiet X wr)) (fun _ _ i _ => 64 - (intOf i).toNat)
      case atStart => exact ⟨0, 0, true, by omega, rfl, rfl, rfl, rfl, rfl, Quiet.refl _⟩
      case round =>
        obtain ⟨k, r, q, hk, rfl, rfl, rfl, hr, hq, hQ⟩ := hrel
        by_cases hlt : k < 64
        · have gp := Lib.hid (P1.out.below (hQ.out.below (w.heap.size + 1)) (by omega))
          have hk2 : (k : Int) < 64 := by omega
          have ck := Grd_fld (hQ.out.range Q1.out) k hlt
          rw [Nat.zero_add] at ck
          cases hi : isB G k
          · have Hi := Lib.hid hi
            have E := Lib.hid (fxTo_no (G := G) (k := k) (by rw [hi]; rfl))
            clear hi
            go_wp2_with (go_at_call 51; refine (l01Is_is G k hlt false Hi.out _ _ gp.out.at' HG.out).mono ?_; rintro e w' ⟨rfl, rfl⟩)
            go_roundw
            case rel => exact ⟨k + 1, r, q, by omega, by go_num, rfl, rfl, by rw [E.out]; exact hr.out, by rw [E.out]; exact hq.out, hQ.out⟩
            case measure => simp [intOf]; omega
          · cases hf : G.x.toNat.testBit k
            · have Hi := Lib.hid hi
              have Hf := Lib.hid hf
              have E := Lib.hid (fxTo_no (G := G) (k := k) (by rw [hf]; simp))
              clear hi hf
              go_wp2_with (first | (go_at_call 51; refine (l01Is_is G k hlt true Hi.out _ _ gp.out.at' HG.out).mono ?_; rintro e w' ⟨rfl, rfl⟩) | (go_at_call 52; refine (l01Fixed_is G k hlt false Hf.out _ _ gp.out.at' HG.out).mono ?_; rintro e w' ⟨rfl, rfl⟩))
              go_roundw
              case rel => exact ⟨k + 1, r, q, by omega, by go_num, rfl, rfl, by rw [E.out]; exact hr.out, by rw [E.out]; exact hq.out, hQ.out⟩
              case measure => simp [intOf]; omega
            · have Hi := Lib.hid hi
              have Hf := Lib.hid hf
              have E := Lib.hid (fxTo_yes hi hf)
              clear hi hf
              have E2 := Lib.hid (show false = decide (fxTo G k ++ [k] = []) by simp)
              cases q
              · have hne : fxTo G k ≠ [] := fun e => by have := hq.out; rw [e] at this; simp at this
                have E3 := Lib.hid (sumO_snoc (balF G) _ k hne)
                clear hne
                go_wp2_with (first | (go_at_call 51; refine (l01Is_is G k hlt true Hi.out _ _ gp.out.at' HG.out).mono ?_; rintro e w' ⟨rfl, rfl⟩) | (go_at_call 52; refine (l01Fixed_is G k hlt true Hf.out _ _ gp.out.at' HG.out).mono ?_; rintro e w' ⟨rfl, rfl⟩) | (refine wpList_float rfl _ _ _ _ _ rfl rfl .f32 _ _ rfl rfl ?_; intro s n2 hs; have HS := Lib.hid hs; clear hs))
                go_roundw
                case rel => exact ⟨k + 1, s, false, by omega, by go_num, rfl, rfl, by rw [E.out, E3.out, HS.out, hr.out]; rfl, by rw [E.out]; exact E2.out, hQ.out.trans ⟨_, rfl⟩⟩
                case measure => simp [intOf]; omega
              · have hne : fxTo G k = [] := by have := hq.out; simpa using this.symm
                have E3 := Lib.hid (show sumO (balF G) (fxTo G k ++ [k]) = num .f32 (balF G k) by rw [hne]; rfl)
                clear hne
                go_wp2_with (first | (go_at_call 51; refine (l01Is_is G k hlt true Hi.out _ _ gp.out.at' HG.out).mono ?_; rintro e w' ⟨rfl, rfl⟩) | (go_at_call 52; refine (l01Fixed_is G k hlt true Hf.out _ _ gp.out.at' HG.out).mono ?_; rintro e w' ⟨rfl, rfl⟩))
                go_roundw
                case rel => exact ⟨k + 1, balF G k, false, by omega, by go_num, rfl, rfl, by rw [E.out, E3.out]; rfl, by rw [E.out]; exact E2.out, hQ.out⟩
                case measure => simp [intOf]; omega
        · obtain rfl : k = 64 := by omega
          go_upto_region 17 with (refine wpList_float rfl _ _ _ _ _ rfl rfl .f32 _ _ rfl rfl ?_; intro s n2 hs; have HS := Lib.hid hs; clear hs)
          have hs := HS.out.trans (show _ = fop .f32 .sub (num .f32 0) (sumO (balF G) (fxTo G 64)) by rw [hr.out])
          have HQ2 := Lib.hid (B2.out.trans ((hQ.out.trans ⟨n2, rfl⟩ : Quiet X (wr.drewN n2)).below _))
          cases hf : finB s
          · have V1 := Lib.hid (R2.out.trans (finV_no hs hf).symm)
            go_wp2_with (go_at_call 62; refine (l01Finite_is s _ hf _).mono ?_; rintro e w2 ⟨rfl, hq2⟩)
            go_ret2
            exact ⟨congrArg Ending.returned V1.out.symm, HQ2.out.trans (hq2.below _)⟩
          · have V1 := Lib.hid (R2.out.trans (finV_yes hs hf).symm)
            go_wp2_with (go_at_call 62; refine (l01Finite_is s _ hf _).mono ?_; rintro e w2 ⟨rfl, hq2⟩)
            go_ret2
            exact ⟨congrArg Ending.returned V1.out.symm, HQ2.out.trans (hq2.below _)⟩
end Go.Proofs.YtdhnneidkdoplaaDoor
