/- The line through readings, the program's. Condition: the sentinels lie where they are laid. -/
import Derived.Test.YtbiknpfcemfoeaaDoorLinU
namespace Go.Proofs.YtbiknpfcemfoeaaDoor
open Go Go.RowKit Ieee
set_option linter.unusedSimpArgs false
set_option linter.unusedVariables false
attribute [local go_sem] run_store_f32

theorem linK_lt {L : List R2} : ∀ i, linK L = some i → i < 5 := by
  intro i h
  unfold linK at h
  split at h
  · split at h
    · cases h; decide
    · split at h
      · cases h
      · cases h; decide
  · cases h; decide
set_option maxRecDepth 100000 in
set_option maxHeartbeats 4000000 in
theorem lineI_any {s : Nat → Addr} (p : Option Addr) (c : Nat) (L : List R2) (hL : L.length ≤ 1048576) (hc : L.length ≤ c) (w : World) (hp : RsAt w p L) (hS : Sents w s) :
    Calls Tryd.prog 32 #[.slice p L.length c] w fun e w' => ∃ r1 r2, e = .returned (.tuple #[.float .f32 r1, .float .f32 r2, erV s (linK L)]) ∧ LinP L r1 r2 ∧ Below w.heap.size w w' := by
  have T0 := checkReadings_any p c L hL w hp hS
  have HS := Lib.hid hS
  cases hok : okRs L
  · simp only [ckR, hok] at T0
    have hk : linK L = some 0 := by unfold linK; rw [hok]; rfl
    have HE := Lib.hid (show Value.iface 165 (.pointer (some (s 0))) = erV s (linK L) by rw [hk]; rfl)
    have RS := Lib.hid (show LinP L 0 0 by unfold LinP; rw [hk]; exact ⟨rfl, rfl⟩)
    obtain ⟨n, hn⟩ : ∃ n, L.length = n := ⟨_, rfl⟩
    rw [hn] at hL T0 hc ⊢
    simp only [Bool.false_eq_true, if_false, erV] at T0
    clear hn hok hp hS hk
    go_enter Tryd.func32, Tryd.ntmps32
    go_wp2_with (go_at_call 51; refine T0.mono ?_; rintro e V1 ⟨rfl, hq1⟩; have Q1 := Lib.hid hq1; clear hq1)
    go_ret3
    exact ⟨0, 0, by first | (rw [← HE.out]; done) | (rw [← HE.out]; rfl), RS.out, Q1.out⟩
  simp only [ckR, hok, if_true, erV] at T0
  by_cases h2 : L.length < 2
  · have hk : linK L = some 4 := by unfold linK; rw [hok, if_pos rfl, if_pos h2]
    have HE := Lib.hid (show Value.iface 165 (.pointer (some (s 4))) = erV s (linK L) by rw [hk]; rfl)
    have RS := Lib.hid (show LinP L 0 0 by unfold LinP; rw [hk]; exact ⟨rfl, rfl⟩)
    have GS : ∀ V, Below w.heap.size w V → V.cell? ⟨1, 0, none⟩ = some (.iface 165 (.pointer (some (s 4)))) := fun V hV => (HS.out.keep hV).cell 4 (by decide)
    obtain ⟨n, hn⟩ : ∃ n, L.length = n := ⟨_, rfl⟩
    rw [hn] at hL T0 hc h2 ⊢
    have h2i : (n : Int) < 2 := by omega
    clear hn hok hp hS hk
    go_enter Tryd.func32, Tryd.ntmps32
    go_wp2_with (go_at_call 51; refine T0.mono ?_; rintro e V1 ⟨rfl, hq1⟩; have Q1 := Lib.hid hq1; have g4 := GS V1 hq1; clear hq1 GS)
    go_quiet (fail)
    go_wp2
    go_ret3
    exact ⟨0, 0, by first | (rw [← HE.out]; done) | (rw [← HE.out]; rfl), RS.out, belowN Q1.out _⟩
  have h40 : L.length ≤ 40 := by
    have h := hok
    simp only [okRs, Bool.and_eq_true, decide_eq_true_eq] at h
    omega
  have T1 := Lib.hid (fun V (hV : Below w.heap.size w V) => sumsOf_any p c L h40 hc (by omega) (okRs_time hok) V (hp.keep hV))
  have hk : linK L = if liG L = true then none else some 2 := by unfold linK; rw [hok, if_pos rfl, if_neg h2]
  have HN1 := Lib.hid (show liN L = num .f32 (floatOfInt .f32 (L.length : Int)) from rfl)
  have HU := Lib.hid (show ∀ k, liU L k = suO L k (L.length - 1) from fun k => rfl)
  have GS : ∀ V, Below w.heap.size w V → V.cell? ⟨2, 0, none⟩ = some (.iface 165 (.pointer (some (s 2)))) := fun V hV => (HS.out.keep hV).cell 2 (by decide)
  obtain ⟨n, hn⟩ : ∃ n, L.length = n := ⟨_, rfl⟩
  rw [hn] at hL T0 T1 h2 HN1 HU h40 ⊢
  have h2i : ¬ (n : Int) < 2 := by omega
  have HK := Lib.hid hk
  clear hn hok hp hk hS
  go_enter Tryd.func32, Tryd.ntmps32
  go_upto_region 7 with (first | (go_at_call 51; refine T0.mono ?_; rintro e V1 ⟨rfl, hq1⟩; have Q1 := Lib.hid hq1; clear hq1) | (go_at_call 52; refine (T1.out _ Q1.out).mono ?_; rintro e V2 ⟨⟨h, rfl, hu⟩, hq2⟩; have U0 := Lib.hid hu; have Q2 := Lib.hid (Q1.out.trans (hq2.mono Q1.out.size)); clear hq2 hu))
  have S2 := sat_new V2 99 (h 0) (h 1) (h 2) (h 3)
  have Q3 := Lib.hid (Q2.out.alloc Q2.out.size (.cells #[.float .f32 (h 0), .float .f32 (h 1), .float .f32 (h 2), .float .f32 (h 3)] 99))
  have U := Lib.hid (fun j (hj : j < 4) => (U0.out j hj).trans (HU.out j).symm)
  have a0 := S2.2 0 (by decide)
  have a1 := S2.2 1 (by decide)
  have a2 := S2.2 2 (by decide)
  have a3 := S2.2 3 (by decide)
  simp only [if_pos] at a0
  clear S2
  go_quiet (fail)
  have f3 : True := trivial
  have f4 : True := trivial
  have f5 : True := trivial
  have f6 : True := trivial
  have f7 : True := trivial
  have f8 : True := trivial
  have f9 : True := trivial
  have f10 : True := trivial
  have f11 : True := trivial
  have f12 : True := trivial
  clear a0 a1 a2 a3
  go_upto_region 11 with (first | (have _t := f3; refine wpList_float rfl _ _ _ _ _ rfl rfl .f32 _ _ rfl rfl ?_; intro z3 n3 hz; have Z3 := Lib.hid hz; clear f3 hz) | (have _t := f4; refine wpList_float rfl _ _ _ _ _ rfl rfl .f32 _ _ rfl rfl ?_; intro z4 n4 hz; have Z4 := Lib.hid hz; clear f4 hz) | (have _t := f5; refine wpList_float rfl _ _ _ _ _ rfl rfl .f32 _ _ rfl rfl ?_; intro z5 n5 hz; have Z5 := Lib.hid hz; clear f5 hz) | (have _t := f6; refine wpList_float rfl _ _ _ _ _ rfl rfl .f32 _ _ rfl rfl ?_; intro z6 n6 hz; have Z6 := Lib.hid hz; clear f6 hz) | (have _t := f7; refine wpList_float rfl _ _ _ _ _ rfl rfl .f32 _ _ rfl rfl ?_; intro z7 n7 hz; have Z7 := Lib.hid hz; clear f7 hz) | (have _t := f8; refine wpList_float rfl _ _ _ _ _ rfl rfl .f32 _ _ rfl rfl ?_; intro z8 n8 hz; have Z8 := Lib.hid hz; clear f8 hz) | (have _t := f9; refine wpList_float rfl _ _ _ _ _ rfl rfl .f32 _ _ rfl rfl ?_; intro z9 n9 hz; have Z9 := Lib.hid hz; clear f9 hz) | (have _t := f10; refine wpList_float rfl _ _ _ _ _ rfl rfl .f32 _ _ rfl rfl ?_; intro z10 n10 hz; have Z10 := Lib.hid hz; clear f10 hz) | (have _t := f11; refine wpList_float rfl _ _ _ _ _ rfl rfl .f32 _ _ rfl rfl ?_; intro z11 n11 hz; have Z11 := Lib.hid hz; clear f11 hz) | (have _t := f12; refine wpList_float rfl _ _ _ _ _ rfl rfl .f32 _ _ rfl rfl ?_; intro z12 n12 hz; have Z12 := Lib.hid hz; clear f12 hz))
  have ED := Lib.hid (show num .f32 z5 = liD L by rw [Z5.out, Z3.out, Z4.out, U.out 2 (by decide), U.out 0 (by decide), ← HN1.out]; rfl)
  have ES := Lib.hid (show num .f32 z9 = liS L by rw [Z9.out, Z8.out, Z6.out, Z7.out, ED.out, U.out 3 (by decide), U.out 0 (by decide), U.out 1 (by decide), ← HN1.out]; rfl)
  have EL := Lib.hid (show num .f32 z12 = liL L by rw [Z12.out, Z11.out, Z10.out, ES.out, U.out 1 (by decide), U.out 0 (by decide), ← HN1.out]; rfl)
  have RS := Lib.hid (show ∀ b1 b2 b3 : Bool, gtO (liD L) (num .f32 0) = b1 → finO (liS L) = b2 → finO (liL L) = b3 → (b1 && b2 && b3) = true → Value.nilIface = erV s (linK L) ∧ LinP L z12 z9 from fun b1 b2 b3 h1 h2 h3 h4 => by
    have hk : linK L = none := by rw [HK.out]; unfold liG; rw [h1, h2, h3, h4]; rfl
    exact ⟨by rw [hk]; rfl, by unfold LinP; rw [hk]; exact ⟨EL.out, ES.out⟩⟩)
  have RF := Lib.hid (show ∀ b1 b2 b3 : Bool, gtO (liD L) (num .f32 0) = b1 → finO (liS L) = b2 → finO (liL L) = b3 → (b1 && b2 && b3) = false → Value.iface 165 (.pointer (some (s 2))) = erV s (linK L) ∧ LinP L 0 0 from fun b1 b2 b3 h1 h2 h3 h4 => by
    have hk : linK L = some 2 := by rw [HK.out]; unfold liG; rw [h1, h2, h3, h4]; rfl
    exact ⟨by rw [hk]; rfl, by unfold LinP; rw [hk]; exact ⟨rfl, rfl⟩⟩)
  have hgt : (FloatKind.f32.format.order z5 0 == some Ordering.gt) = gtO (liD L) (num .f32 0) := by rw [ordO_num ED.out rfl]; rfl
  have T1 := fun V => isFinite_any z9 V
  have T2 := fun V => isFinite_any z12 V
  have F1 : finB z9 = finO (liS L) := by rw [← ES.out]; exact (finO_num z9).symm
  have F2 : finB z12 = finO (liL L) := by rw [← EL.out]; exact (finO_num z12).symm
  rw [F1] at T1
  rw [F2] at T2
  have g2 := GS _ Q3.out
  clear F1 F2 Z3 Z4 Z5 Z6 Z7 Z8 Z9 Z10 Z11 Z12 U ED ES EL GS
  cases g1 : gtO (liD L) (num .f32 0) <;> cases g2' : finO (liS L) <;> cases g3 : finO (liL L) <;> (
    have RR := Lib.hid (RS.out _ _ _ g1 g2' g3)
    have RG := Lib.hid (RF.out _ _ _ g1 g2' g3)
    rw [g1] at hgt
    rw [g2'] at T1
    rw [g3] at T2
    clear g1 g2' g3 RS RF
    have t1 : True := trivial
    go_wp2_with (first | (have _t := t1; go_at_call 53; refine (T1 _).mono ?_; rintro e w1 ⟨rfl, j1, rfl⟩; clear t1) | (go_at_call 53; refine (T2 _).mono ?_; rintro e w2 ⟨rfl, j2, rfl⟩))
    try go_quiet (fail)
    try go_wp2
    go_ret3
    first
      | exact ⟨z12, z9, by first | (rw [← (RR.out rfl).1]; done) | (rw [← (RR.out rfl).1]; rfl), (RR.out rfl).2, by first | exact belowN Q3.out _ | exact belowN (belowN Q3.out _) _⟩
      | exact ⟨0, 0, by first | (rw [← (RG.out rfl).1]; done) | (rw [← (RG.out rfl).1]; rfl), (RG.out rfl).2, by first | exact belowN Q3.out _ | exact belowN (belowN Q3.out _) _⟩)
set_option maxRecDepth 100000 in
set_option maxHeartbeats 4000000 in
theorem implLin_any {s : Nat → Addr} (p : Option Addr) (c : Nat) (L : List R2) (hL : L.length ≤ 1048576) (hc : L.length ≤ c) (w : World) (hp : RsAt w p L) (hS : Sents w s) :
    Calls Tryd.prog 10 #[.slice p L.length c] w fun e w' => (∃ r1 r2, e = .returned (.tuple #[.float .f32 r1, .float .f32 r2, .int .i64 (codeE (linK L))]) ∧ LinP L r1 r2) ∧ Below w.heap.size w w' := by
  have T1 := lineI_any (s := s) p c L hL hc w hp hS
  have HS := Lib.hid hS
  have HK := Lib.hid (show ∀ i, linK L = some i → i < 5 from linK_lt)
  obtain ⟨k, hk⟩ : ∃ k, linK L = k := ⟨_, rfl⟩
  rw [hk] at T1 HK ⊢
  obtain ⟨q, hq⟩ : ∃ q : Nat → Nat → Prop, q = LinP L := ⟨_, rfl⟩
  rw [← hq] at T1 ⊢
  obtain ⟨n, hn⟩ : ∃ n, L.length = n := ⟨_, rfl⟩
  rw [hn] at hL T1 hc ⊢
  clear hp hk hn hS hq
  go_enter Tryd.func10, Tryd.ntmps10
  go_wp2_with (first | (go_at_call 32; refine T1.mono ?_; rintro e V1 ⟨r1, r2, rfl, ho, hq1⟩; have Q1 := Lib.hid hq1; have HO := Lib.hid ho; clear hq1 ho T1) | (go_at_call 33; refine (codeOf_any k HK.out _ (HS.out.keep Q1.out)).mono ?_; rintro e V2 ⟨rfl, hV⟩; rw [hV]; clear hV))
  go_ret3
  exact ⟨⟨r1, r2, rfl, HO.out⟩, Q1.out⟩
end Go.Proofs.YtbiknpfcemfoeaaDoor
