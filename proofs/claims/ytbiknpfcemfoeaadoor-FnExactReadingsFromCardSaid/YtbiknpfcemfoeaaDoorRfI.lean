/- ReadingsFrom, the program's, as a value of the times. Condition: at most 2^20 times. -/
import Derived.Test.YtbiknpfcemfoeaaDoorRfV
import Derived.Test.YtbiknpfcemfoeaaDoorMisC
import Derived.Test.YtbiknpfcemfoeaaDoorMkr
namespace Go.Proofs.YtbiknpfcemfoeaaDoor
open Go Go.RowKit Ieee
set_option linter.unusedSimpArgs false
set_option linter.unusedVariables false
attribute [local go_sem] run_store_f32

theorem made_rd {n k : Nat} (hk : k < n) : (madeCells (Value.cells (.agg (Rd 0 0))) (n * 2))[k * 2]? = some (.int .i64 0) ∧ (madeCells (Value.cells (.agg (Rd 0 0))) (n * 2))[k * 2 + 1]? = some (.int .i16 0) := by
  have e : Value.cells (.agg (Rd 0 0)) = #[.int .i64 0, .int .i16 0] := rfl
  rw [e]
  unfold madeCells
  constructor
  · simp [show k * 2 < n * 2 by omega]
  · simp [show k * 2 + 1 < n * 2 by omega, show (k * 2 + 1) % 2 = 1 by omega]
/-- The zero readings of a list that is made, told. -/
theorem makeRz (n : Nat) (hn : n ≤ 1048576) : ∃ C : Array Value, C.size = n * 2 ∧ (∀ k, k < n → C[k * 2]? = some (.int .i64 0) ∧ C[k * 2 + 1]? = some (.int .i16 0)) ∧ ∀ w, (Instr.makeSlice 27 (.int .i64 (n : Int)) (.int .i64 (n : Int))).run Tryd.prog w = .ok (.slice (some ⟨w.heap.size, 0, none⟩) n n) (w.alloc (.cells C 65)) := by
  obtain ⟨i, hi, hz, hs, hb⟩ := info_parts (P := Tryd.prog) (e := 65) (z := .agg (Rd 0 0)) (size := 2) (bytes := 16) (by kernel_rfl)
  refine ⟨madeCells (Value.cells (.agg (Rd 0 0))) (n * i.size), by rw [size_madeCells, hs], by rw [hs]; exact fun k hk => made_rd hk, fun w => ?_⟩
  have hr := run_make (P := Tryd.prog) w 27 65 i (.agg (Rd 0 0)) Tryd.underlying27 hi hz .i64 .i64 n n (by omega) (by omega) (by rw [hb]; omega) (by omega)
  simp only [Int.toNat_natCast] at hr
  exact hr
/-- One reading of a list is written over in part. -/
theorem setRd {wr V : World} {g n k j : Nat} {L : List Int} {F G : Nat → Int → R2} {v : Value} {t : Int} (hk : L[k]? = some t) (hn : L.length = n) (hT : wr.there g 0 (n * 2)) (hj : j < 2)
    (hA : ∀ (i : Nat) (u : Int), L[i]? = some u → wr.rangeAt g (0 + i * 2) (r2 (F i u))) (hFG : ∀ i u, i ≠ k → F i u = G i u) (hG : r2 (G k t) = (r2 (F k t)).set j v) (hV : V = wr.setCell ⟨g, k * 2 + j, none⟩ v) :
    V.there g 0 (n * 2) ∧ (∀ (i : Nat) (u : Int), L[i]? = some u → V.rangeAt g (0 + i * 2) (r2 (G i u))) ∧ V.heap.size = wr.heap.size := by
  have hkn : k < n := by rw [← hn]; exact (List.getElem?_eq_some_iff.1 hk).1
  have he : V = wr.setCells g (k * 2 + j) [v] := hV
  clear hV
  subst he
  have ht : wr.there g (k * 2 + j) 1 := fun i hi => by
    have := hT (k * 2 + j + i) (by omega)
    rwa [Nat.zero_add] at this
  refine ⟨World.there_setCells hT _ _ _, fun i u hu => ?_, size_setCellsW _ _ _ _⟩
  by_cases hik : i = k
  · subst hik
    rw [hk] at hu
    cases hu
    rw [hG, Nat.zero_add]
    intro m x hm
    by_cases hmj : m = j
    · subst hmj
      rw [List.getElem?_set_self (by rw [r2_len]; exact hj)] at hm
      cases hm
      exact World.rangeAt_setCells_same _ _ _ _ ht 0 _ rfl
    · rw [List.getElem?_set_ne (by omega)] at hm
      have h0 := hA i t hk m x hm
      rw [Nat.zero_add] at h0
      have hr : wr.rangeAt g (i * 2 + m) [x] := fun q y hq => by
        have h1 : q < 1 := (List.getElem?_eq_some_iff.1 hq).1
        obtain rfl : q = 0 := by omega
        cases hq
        exact h0
      have hm2 : m < 2 := by have := (List.getElem?_eq_some_iff.1 hm).1; rwa [r2_len] at this
      exact World.rangeAt_setCells_apart hr _ _ _ (.inr (by simp; omega)) 0 _ rfl
  · rw [← hFG i u hik]
    exact World.rangeAt_setCells_apart (hA i u hu) _ _ _ (.inr (by rw [r2_len]; simp; omega))

set_option maxRecDepth 100000 in
set_option maxHeartbeats 2000000 in
theorem readingsFrom_any {s : Nat → Addr} (T S : Nat) (hT : T < 4294967296) (hS : S < 4294967296) (X Y : Int) (R : Nat) (x y : Int) (hX : -128 ≤ X ∧ X ≤ 127) (hY : -128 ≤ Y ∧ Y ≤ 127) (hx : -128 ≤ x ∧ x ≤ 127) (hy : -128 ≤ y ∧ y ≤ 127) (p : Option Addr) (c : Nat) (L : List Int) (hL : L.length ≤ 1048576) (w : World) (hp : IsAt w p L) (hSe : Sents w s) :
    Calls Tryd.prog 41 #[.agg (Aq T S), .agg (Ste X Y R x y), .slice p L.length c] w fun e w' => ((rfC T S X Y R x y L = 0 ∧ ∃ g, e = .returned (.tuple #[.slice (some ⟨g, 0, none⟩) L.length L.length, erV s none]) ∧ w.heap.size ≤ g ∧ g < w'.heap.size ∧ w'.there g 0 (L.length * 2) ∧ RsAt w' (some ⟨g, 0, none⟩) (L.map (rfE T S X Y R x y))) ∨ (rfC T S X Y R x y L = 1 ∧ e = .returned (.tuple #[.slice none 0 0, erV s (some 0)])) ∨ (rfC T S X Y R x y L = 2 ∧ e = .returned (.tuple #[.slice none 0 0, erV s (some 1)]))) ∧ Below w.heap.size w w' := by
  obtain ⟨W, hW, B0, LD⟩ := two_rows T S X Y R x y w
  have BA := B0.alloc B0.size (.cells #[.float .f32 T, .float .f32 S] 43)
  have hrow := heap_alloc_last W (.cells #[.float .f32 T, .float .f32 S] 43)
  have T1 := checkTest_any T S X Y R x y none 0 W.heap.size 1 [] (by decide) hX hY hx hy _ (fun i e h => by simp at h) (hSe.keep BA) (cell_of_row _ _ 0 _ _ _ hrow) (cell_of_row _ _ 1 _ _ _ hrow) (by simp)
  have BW := Lib.hid B0
  have BAH := Lib.hid ((Below.refl W.heap.size W).alloc (Nat.le_refl _) (.cells #[.float .f32 T, .float .f32 S] 43))
  have HLD := Lib.hid LD
  have P0 := Lib.hid hp
  have HS := Lib.hid hSe
  obtain ⟨s0, s1, s2, s3, s4, s5, s6⟩ := LD W (Below.refl _ _)
  have hask : askB T S X Y R x y [] = (aqB T S && stB X Y R x y) := by simp [askB, okRs]
  clear B0 LD hp hSe hrow BA
  cases hk : (aqB T S && stB X Y R x y)
  · rw [hask, hk] at T1
    have HC := Lib.hid (show rfC T S X Y R x y L = 1 by simp [rfC, hk])
    obtain ⟨n, hn⟩ : ∃ n, L.length = n := ⟨_, rfl⟩
    rw [hn] at hL ⊢
    obtain ⟨RC, eRC⟩ : ∃ r, rfC T S X Y R x y L = r := ⟨_, rfl⟩
    rw [eRC] at HC ⊢
    clear hn hk hask eRC
    simp only [askK, erV, Bool.false_eq_true, if_false, List.length_nil] at T1 ⊢
    simp only [Aq, Ste] at T1 hW ⊢
    go_enter Tryd.func41, Tryd.ntmps41
    go_upto_region 1 with (fail)
    try rw [hW]
    clear hW
    go_wp2_with (go_at_call 48; refine T1.mono ?_; rintro e V1 ⟨rfl, hq1⟩; have Q1 := Lib.hid (BW.out.trans ((BAH.out.trans (hq1.mono BAH.out.size)).mono BW.out.size)); clear hq1)
    go_ret2
    exact ⟨.inr (.inl ⟨HC.out, rfl⟩), Q1.out⟩
  · rw [hask, hk] at T1
    have hk2 := hk
    simp only [Bool.and_eq_true] at hk2
    have hb := aq_bits hT hS hk2.1
    have hT' : 981467136 ≤ T ∧ T ≤ 1233125376 := ⟨hb.1, hb.2.1⟩
    have hS' : 897581056 ≤ S ∧ S ≤ 1065353216 := ⟨hb.2.2.1, hb.2.2.2⟩
    have h3 := hk2.2
    simp only [stB, weB, plB, Bool.and_eq_true, decide_eq_true_eq] at h3
    have pX : -100 ≤ X ∧ X ≤ 100 := by omega
    have pY : -100 ≤ Y ∧ Y ≤ 100 := by omega
    have px : -100 ≤ x ∧ x ≤ 100 := by omega
    have py : -100 ≤ y ∧ y ≤ 100 := by omega
    have HCy := Lib.hid (fun h : okRs (tz L) = true => (show rfC T S X Y R x y L = 0 by simp [rfC, hk, h]))
    have HCn := Lib.hid (fun h : okRs (tz L) = false => (show rfC T S X Y R x y L = 2 by simp [rfC, hk, h]))
    have DD := Lib.hid (fun (t : Int) (ht : 1 ≤ t ∧ t ≤ 100000) V => siteDrawdown_any X Y R x y T S t hT' hS' pX pY px py ht V)
    obtain ⟨n, hn⟩ : ∃ n, L.length = n := ⟨_, rfl⟩
    have HN := Lib.hid hn
    have hLz : (tz L).length ≤ 1048576 := by rw [tz_len]; exact hL
    have VR := Lib.hid (fun (q : Option Addr) (c : Nat) V (h : RsAt V q (tz L)) => implVr_any q c (tz L) hLz V h)
    rw [tz_len, hn] at VR
    rw [hn] at hL ⊢
    obtain ⟨C, hC, hCz, hmk⟩ := makeRz n hL
    obtain ⟨RC, eRC⟩ : ∃ r, rfC T S X Y R x y L = r := ⟨_, rfl⟩
    rw [eRC] at HCy HCn ⊢
    clear hn hk hk2 h3 hb hT' hS' pX pY px py hT hS hask hLz eRC
    simp only [askK, erV, if_true, List.length_nil] at T1 ⊢
    simp only [Aq, Ste] at T1 hW DD ⊢
    go_enter Tryd.func41, Tryd.ntmps41
    go_upto_region 1 with (fail)
    try rw [hW]
    clear hW
    go_upto_region 6 with (go_at_call 48; refine T1.mono ?_; rintro e V1 ⟨rfl, hq1⟩; have Q1 := Lib.hid (BAH.out.trans (hq1.mono BAH.out.size)); clear hq1 s0 s1 s2 s3 s4 s5 s6)
    obtain ⟨g, hg⟩ : ∃ g, V1.heap.size = g := ⟨_, rfl⟩
    have hrowC := heap_alloc_last V1 (.cells C 65)
    have hBM : Below W.heap.size W (V1.alloc (.cells C 65)) := Q1.out.alloc Q1.out.size _
    have hTH : (V1.alloc (.cells C 65)).there g 0 (n * 2) := by rw [← hg]; exact there_row hrowC hC
    have hgs : g < (V1.alloc (.cells C 65)).heap.size := by rw [← hg]; simp
    have hgW : W.heap.size ≤ g := by rw [← hg]; exact Q1.out.size
    have hZ : ∀ (i : Nat) (u : Int), L[i]? = some u → (V1.alloc (.cells C 65)).rangeAt g (0 + i * 2) (r2 ((fun (j : Nat) (u : Int) => ((if j < 0 then u else 0, 0) : R2)) i u)) := fun i u hu => by
      have hin : i < n := by rw [← HN.out]; exact (List.getElem?_eq_some_iff.1 hu).1
      obtain ⟨z0, z1⟩ := hCz i hin
      have hce : ∀ q v, C[q]? = some v → (V1.alloc (.cells C 65)).cell? ⟨g, q, none⟩ = some v := fun q v hq => by
        unfold World.cell?
        rw [← hg]
        simp only [hrowC]
        exact hq
      intro m v hm
      have hm2 : m < 2 := (List.getElem?_eq_some_iff.1 hm).1
      match m, hm2 with
      | 0, _ => cases hm; rw [Nat.zero_add]; exact hce _ _ z0
      | 1, _ => cases hm; rw [Nat.zero_add]; exact hce _ _ z1
    simp only [hg]
    obtain ⟨V2, hV2⟩ : ∃ V, V1.alloc (.cells C 65) = V := ⟨_, rfl⟩
    rw [hV2] at hBM hTH hgs hZ ⊢
    clear hrowC hV2 hg Q1 hmk hC hCz
    have HGW := Lib.hid hgW
    go_loopw [26] (fun i wr => ∃ k : Nat, k ≤ n ∧ i = .int .i64 k ∧ Hid (wr.there g 0 (n * 2) ∧ g < wr.heap.size) ∧ Hid (∀ (i : Nat) (u : Int), L[i]? = some u → wr.rangeAt g (0 + i * 2) (r2 ((fun (j : Nat) (u : Int) => ((if j < k then u else 0, 0) : R2)) i u))) ∧ Hid (Below W.heap.size W wr)) (fun i _ => n - (intOf i).toNat)
    case atStart => exact ⟨0, by omega, rfl, Lib.hid ⟨hTH, hgs⟩, Lib.hid hZ, Lib.hid hBM⟩
    case round =>
      clear hBM hTH hgs hZ
      obtain ⟨k, hk, rfl, hT, hA, hB⟩ := hrel
      by_cases hlt : k < n
      · have hki : (k : Int) < n := by omega
        obtain ⟨t, he⟩ : ∃ e, L[k]? = some e := ⟨_, List.getElem?_eq_getElem (by rw [HN.out]; exact hlt)⟩
        obtain ⟨b, o, rfl, c0'⟩ := P0.out k t he
        have hbw := World.block_lt_of_cell? w _ c0'
        have c0 := (hB.out.cell (p := ⟨b, o + k, none⟩) (Nat.lt_of_lt_of_le hbw BW.out.size)).trans ((BW.out.cell (p := ⟨b, o + k, none⟩) hbw).trans c0')
        have HE := Lib.hid he
        have hth := hT.out.1 (k * 2) (by omega)
        rw [Nat.zero_add] at hth
        obtain ⟨h1, f1⟩ := hth
        obtain ⟨v0, c1⟩ := Option.isSome_iff_exists.1 h1
        clear he h1 c0' hbw
        go_wp2
        have HR := setRd (F := fun (j : Nat) (u : Int) => ((if j < k then u else 0, 0) : R2)) (G := fun (j : Nat) (u : Int) => ((if j < k + 1 then u else 0, 0) : R2)) (j := 0) (v := .int .i64 t) HE.out HN.out hT.out.1 (by decide) hA.out (fun i u hi => by simp only [show (i < k) = (i < k + 1) by rw [eq_iff_iff]; omega]) (by simp [r2, Rd]) rfl
        go_roundw
        case rel => exact ⟨k + 1, by omega, by go_num, Lib.hid ⟨HR.1, by rw [World.size_setCell]; exact hT.out.2⟩, Lib.hid HR.2.1, Lib.hid (hB.out.setCell (p := ⟨g, k * 2, none⟩) HGW.out _)⟩
        case measure => simp [intOf]; omega
      · obtain rfl : n = k := by omega
        have hR : RsAt wr (some ⟨g, 0, none⟩) (tz L) := fun i e he => by
          obtain ⟨u, hu, rfl⟩ : ∃ u, L[i]? = some u ∧ (u, (0 : Int)) = e := by simpa [tz] using he
          have hin : i < n := by rw [← HN.out]; exact (List.getElem?_eq_some_iff.1 hu).1
          refine ⟨g, 0, rfl, ?_⟩
          have := hA.out i u hu
          simp only [hin, if_true] at this
          exact this
        have VC := Lib.hid (VR.out (some ⟨g, 0, none⟩) n wr hR)
        have HT := Lib.hid hT.out
        clear hR hT
        cases hok : okRs (tz L)
        · have hc := HCn.out hok
          rw [hok] at VC
          have KG := Lib.hid (fun V (h : Below W.heap.size W V) => (show V.cell? ⟨0, 0, none⟩ = some (.iface 165 (.pointer (some (s 1)))) from (HS.out.keep (BW.out.trans (h.mono BW.out.size))).cell 1 (by decide)))
          clear hA hok
          go_upto_region 11 with (go_at_call 58; refine VC.out.mono ?_; rintro e V3 ⟨rfl, hq3⟩; have Q3 := Lib.hid (hB.out.trans (hq3.mono hB.out.size)); have gg := KG.out V3 Q3.out; clear hq3)
          go_quiet (fail)
          go_wp2
          go_ret2
          exact ⟨.inr (.inr ⟨hc, rfl⟩), belowN (BW.out.trans (Q3.out.mono BW.out.size)) _⟩
        · have hc := HCy.out hok
          rw [hok] at VC
          have HOK := Lib.hid hok
          have HA := Lib.hid hA.out
          clear hok
          go_upto_region 13 with (go_at_call 58; refine VC.out.mono ?_; rintro e V3 ⟨rfl, hq3⟩; have Q3 := Lib.hid (hB.out.trans (hq3.mono hB.out.size)); have B3 := Lib.hid hq3; clear hq3)
          clear hA
          have RA := Lib.hid (fun V (h : Below wr.heap.size wr V) => (show ∀ (i : Nat) (u : Int), L[i]? = some u → V.rangeAt g (0 + i * 2) (r2 ((fun (j : Nat) (u : Int) => ((u, if j < 0 then lgN (drwV T S R (x - X) (y - Y) u) else 0) : R2)) i u)) from fun i u hu => by
            have hin : i < n := by rw [← HN.out]; exact (List.getElem?_eq_some_iff.1 hu).1
            have h1 := HA.out i u hu
            simp only [hin, if_true] at h1
            simp only [Nat.not_lt_zero, if_false]
            exact range_kept h1 HT.out.2 _ h))
          have TH := Lib.hid (there_keep HT.out.1 HT.out.2 B3.out)
          have GS := Lib.hid (Nat.lt_of_lt_of_le HT.out.2 B3.out.size)
          have RA2 := Lib.hid (RA.out V3 B3.out)
          have OKT := Lib.hid (fun (j : Nat) (t : Int) (hj : L[j]? = some t) => ok_time HOK.out hj)
          clear RA HA B3 hB HT
          go_loopw [43] (fun i wr => ∃ k : Nat, k ≤ n ∧ i = .int .i64 k ∧ Hid (wr.there g 0 (n * 2) ∧ g < wr.heap.size) ∧ Hid (∀ (i : Nat) (u : Int), L[i]? = some u → wr.rangeAt g (0 + i * 2) (r2 ((fun (j : Nat) (u : Int) => ((u, if j < k then lgN (drwV T S R (x - X) (y - Y) u) else 0) : R2)) i u))) ∧ Hid (Below W.heap.size W wr)) (fun i _ => n - (intOf i).toNat)
          case atStart => exact ⟨0, by omega, rfl, Lib.hid ⟨TH.out, GS.out⟩, RA2, Q3⟩
          case round =>
            clear TH GS RA2 Q3
            obtain ⟨k, hk, rfl, hT, hA, hB⟩ := hrel
            by_cases hlt : k < n
            · have hki : (k : Int) < n := by omega
              obtain ⟨t, he⟩ : ∃ e, L[k]? = some e := ⟨_, List.getElem?_eq_getElem (by rw [HN.out]; exact hlt)⟩
              obtain ⟨b, o, rfl, c0'⟩ := P0.out k t he
              have hbw := World.block_lt_of_cell? w _ c0'
              have c0 := (hB.out.cell (p := ⟨b, o + k, none⟩) (Nat.lt_of_lt_of_le hbw BW.out.size)).trans ((BW.out.cell (p := ⟨b, o + k, none⟩) hbw).trans c0')
              have HE := Lib.hid he
              have ht := OKT.out k t he
              have TD := Lib.hid (DD.out t ht)
              have KT := Lib.hid (fun V (h : Below wr.heap.size wr V) => there_keep hT.out.1 hT.out.2 h)
              obtain ⟨s0, s1, s2, s3, s4, s5, s6⟩ := HLD.out wr hB.out
              clear he c0' hbw ht
              go_upto_region 15 with (fail)
              go_wp2_with (first
                | (go_at_call 60; refine (TD.out _).mono ?_; rintro e V4 ⟨d, rfl, hd, hq4⟩; have LG := Lib.hid (lgs_num hd); have Q4 := Lib.hid hq4; clear hq4 hd)
                | (go_at_call 59; refine (implLogger_any d _ LG.out _).mono ?_; rintro e V5 ⟨rfl, hq5⟩; have Q5 := Lib.hid (Q4.out.trans (hq5.mono Q4.out.size)); have hth := KT.out V5 Q5.out (k * 2 + 1) (by omega); rw [Nat.zero_add] at hth; obtain ⟨h1, f1⟩ := hth; obtain ⟨v0, c1⟩ := Option.isSome_iff_exists.1 h1; clear h1 hq5))
              have HR := setRd (wr := V5) (F := fun (j : Nat) (u : Int) => ((u, if j < k then lgN (drwV T S R (x - X) (y - Y) u) else 0) : R2)) (G := fun (j : Nat) (u : Int) => ((u, if j < k + 1 then lgN (drwV T S R (x - X) (y - Y) u) else 0) : R2)) (j := 1) (v := .int .i16 (lgN (drwV T S R (x - X) (y - Y) t))) HE.out HN.out (KT.out V5 Q5.out) (by decide) (fun i u hu => range_kept (hA.out i u hu) hT.out.2 _ Q5.out) (fun i u hi => by simp only [show (i < k) = (i < k + 1) by rw [eq_iff_iff]; omega]) (by simp [r2, Rd]) rfl
              go_roundw
              case rel => exact ⟨k + 1, by omega, by go_num, Lib.hid ⟨HR.1, by rw [World.size_setCell]; exact Nat.lt_of_lt_of_le hT.out.2 Q5.out.size⟩, Lib.hid HR.2.1, Lib.hid ((hB.out.trans (Q5.out.mono hB.out.size)).setCell (p := ⟨g, k * 2 + 1, none⟩) HGW.out _)⟩
              case measure => simp [intOf]; omega
            · obtain rfl : n = k := by omega
              have hR : RsAt wr (some ⟨g, 0, none⟩) (L.map (rfE T S X Y R x y)) := fun i e he => by
                obtain ⟨u, hu, rfl⟩ : ∃ u, L[i]? = some u ∧ rfE T S X Y R x y u = e := by simpa using he
                have hin : i < n := by rw [← HN.out]; exact (List.getElem?_eq_some_iff.1 hu).1
                refine ⟨g, 0, rfl, ?_⟩
                have := hA.out i u hu
                simp only [hin, if_true] at this
                exact this
              have HR := Lib.hid hR
              have HTt := Lib.hid hT.out
              clear hR hA hT
              go_wp2
              go_ret2
              exact ⟨.inl ⟨hc, g, rfl, Nat.le_trans BW.out.size HGW.out, HTt.out.2, HTt.out.1, HR.out⟩, BW.out.trans (hB.out.mono BW.out.size)⟩

set_option maxRecDepth 100000 in
set_option maxHeartbeats 2000000 in
theorem implRf_any {s : Nat → Addr} (T S : Nat) (hT : T < 4294967296) (hS : S < 4294967296) (X Y : Int) (R : Nat) (x y : Int) (hX : -128 ≤ X ∧ X ≤ 127) (hY : -128 ≤ Y ∧ Y ≤ 127) (hx : -128 ≤ x ∧ x ≤ 127) (hy : -128 ≤ y ∧ y ≤ 127) (p : Option Addr) (c : Nat) (L : List Int) (hL : L.length ≤ 1048576) (w : World) (hp : IsAt w p L) (hSe : Sents w s) :
    Calls Tryd.prog 17 #[.agg (Aq T S), .agg (Ste X Y R x y), .slice p L.length c] w fun e w' => (∃ q cap, e = .returned (.tuple #[.slice q (rfL T S X Y R x y L).length cap, .int .i64 (rfC T S X Y R x y L)]) ∧ RsAt w' q (rfL T S X Y R x y L) ∧ ((rfL T S X Y R x y L).length = 0 ∨ ∃ g, q = some ⟨g, 0, none⟩ ∧ w.heap.size ≤ g ∧ g < w'.heap.size ∧ w'.there g 0 ((rfL T S X Y R x y L).length * 2))) ∧ Below w.heap.size w w' := by
  obtain ⟨W, hW, B0, LD⟩ := two_rows T S X Y R x y w
  have T1 := readingsFrom_any T S hT hS X Y R x y hX hY hx hy p c L hL W (hp.keep B0) (hSe.keep B0)
  have BW := Lib.hid B0
  have HS := Lib.hid hSe
  obtain ⟨s0, s1, s2, s3, s4, s5, s6⟩ := LD W (Below.refl _ _)
  have HL := Lib.hid (fun h : rfC T S X Y R x y L = 0 => (show rfL T S X Y R x y L = L.map (rfE T S X Y R x y) by simp [rfL, h]))
  have HE := Lib.hid (fun h : ¬ rfC T S X Y R x y L = 0 => (show rfL T S X Y R x y L = [] by simp [rfL, h]))
  have HM := Lib.hid (show (L.map (rfE T S X Y R x y)).length = L.length by simp)
  obtain ⟨n, hn⟩ : ∃ n, L.length = n := ⟨_, rfl⟩
  obtain ⟨RC, eRC⟩ : ∃ r, rfC T S X Y R x y L = r := ⟨_, rfl⟩
  obtain ⟨RL, eRL⟩ : ∃ r, rfL T S X Y R x y L = r := ⟨_, rfl⟩
  obtain ⟨ML, eML⟩ : ∃ r, L.map (rfE T S X Y R x y) = r := ⟨_, rfl⟩
  rw [eRC, eRL] at HL HE
  rw [eML] at HL HM
  rw [hn, eRC, eML] at T1
  rw [hn] at HM
  rw [hn, eRC, eRL]
  have T3 := Lib.hid (fun (k : Option Nat) (hk : ∀ i, k = some i → i < 5) V (h : Sents V s) => codeOf_any (s := s) k hk V h)
  have TT := Lib.hid (T1.mono (R' := fun e w' => ∃ q nn cap k, e = .returned (.tuple #[.slice q nn cap, erV s k]) ∧ (∀ i, k = some i → i < 5) ∧ codeE k = RC ∧ nn = RL.length ∧ RsAt w' q RL ∧ (RL.length = 0 ∨ ∃ g, q = some ⟨g, 0, none⟩ ∧ W.heap.size ≤ g ∧ g < w'.heap.size ∧ w'.there g 0 (RL.length * 2)) ∧ Below W.heap.size W w') (by
    rintro e w' ⟨h, hB⟩
    rcases h with ⟨h0, g, rfl, h1, h2, h3, h4⟩ | ⟨h0, rfl⟩ | ⟨h0, rfl⟩
    · have e1 := HL.out h0
      subst h0 e1
      exact ⟨_, _, _, none, rfl, (fun i h => by cases h), rfl, HM.out.symm, h4, .inr ⟨g, rfl, h1, h2, by rw [HM.out]; exact h3⟩, hB⟩
    · have e1 := HE.out (by rw [h0]; decide)
      subst h0 e1
      exact ⟨_, _, _, some 0, rfl, (fun i h => by cases h; decide), rfl, rfl, (fun i e h => by simp at h), .inl rfl, hB⟩
    · have e1 := HE.out (by rw [h0]; decide)
      subst h0 e1
      exact ⟨_, _, _, some 1, rfl, (fun i h => by cases h; decide), rfl, rfl, (fun i e h => by simp at h), .inl rfl, hB⟩))
  clear B0 LD hp hSe hn eRC eRL eML T1 hL hT hS HL HE HM
  simp only [Aq, Ste] at TT hW ⊢
  go_enter Tryd.func17, Tryd.ntmps17
  go_upto_region 1 with (fail)
  try rw [hW]
  clear hW
  go_wp2_with (first
    | (go_at_call 41; refine TT.out.mono ?_; rintro e V1 ⟨q, nn, cap, k, rfl, hk, hc, hn2, hR, hg, hq1⟩; have HR := Lib.hid hR; have HG := Lib.hid hg; have HK := Lib.hid hk; have HC := Lib.hid hc; have HNN := Lib.hid hn2; have Q1 := Lib.hid hq1; clear hR hg hk hc hq1 hn2 TT)
    | (go_at_call 33; refine (T3.out k HK.out _ (HS.out.keep (BW.out.trans (Q1.out.mono BW.out.size)))).mono ?_; rintro e V2 ⟨rfl, hV⟩; rw [hV]; clear hV))
  go_ret2
  rw [HC.out, HNN.out]
  refine ⟨⟨_, _, rfl, HR.out, ?_⟩, BW.out.trans (Q1.out.mono BW.out.size)⟩
  rcases HG.out with h | ⟨g, h1, h2, h3, h4⟩
  · exact .inl h
  · exact .inr ⟨g, h1, Nat.le_trans BW.out.size h2, h3, h4⟩
end Go.Proofs.YtbiknpfcemfoeaaDoor
