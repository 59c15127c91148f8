/- The span of transmits, the program's. Condition: the sentinels lie where they are laid. -/
import Derived.Test.YthacifhphoaioaaDoorTsR
namespace Go.Proofs.YthacifhphoaioaaDoor
open Go Go.RowKit Ieee
set_option linter.unusedSimpArgs false
set_option linter.unusedVariables false
attribute [local go_sem] run_store_f32
theorem run_neg32 (P : Program) (w : World) (k : FloatKind) (b : Nat) : (Op.unary .neg (.float k b)).run P w = .ok (.float k (Op.negFloat k b)) w := rfl
attribute [local go_sem] run_neg32

set_option maxRecDepth 100000 in
set_option maxHeartbeats 4000000 in
theorem flT1_any (g cap : Nat) (xs : List Nat) (h0 : 0 < xs.length) (hL : xs.length ≤ 1048576) (bg : Nat) (m : Nat → Option Nat) (w : World) (hp : VRow w 2 g cap (xs.map IV))
    (hm : ∀ (i j : Nat), xs[i]? = some j → ∀ w', Below w.heap.size w w' → Calls Tryd.prog 102 #[.int .i64 (j : Int), .pointer (some ⟨bg, 0, none⟩)] w' (GvB (m i) w')) :
    Calls Tryd.prog 101 #[.slice (some ⟨g, 0, none⟩) xs.length cap, .func (.func 102) #[] #[.pointer (some ⟨bg, 0, none⟩)]] w fun e w' => ∃ r, e = .returned (.tuple #[.int .i64 (flI m xs.length : Nat), .float .f32 r]) ∧ num .f32 r = m (flI m xs.length) ∧ Below w.heap.size w w' := by
  have P0 := Lib.hid hp
  have HM := Lib.hid hm
  obtain ⟨n, hn⟩ : ∃ n, xs.length = n := ⟨_, rfl⟩
  have HN := Lib.hid hn
  rw [hn] at h0 hL ⊢
  clear hp hm hn
  obtain ⟨e0, he0⟩ : ∃ e, xs[0]? = some e := ⟨_, List.getElem?_eq_getElem (by rw [HN.out]; exact h0)⟩
  have c0 : w.cell? ⟨g, 0, none⟩ = some (.int .i64 (e0 : Int)) := own_cell P0.out he0
  have T0 := HM.out 0 e0 he0 w (Below.refl _ _)
  have e00 : ((0 : Nat) : Int) = 0 := rfl
  clear he0
  go_enter Tryd.func101, Tryd.ntmps101
  go_upto_region 3 with (go_at_call 102; refine T0.mono ?_; rintro x V ⟨r0, rfl, hr, hq⟩; have HR0 := Lib.hid hr; have HQ0 := Lib.hid hq; clear hr hq)
  clear T0 c0
  go_loopw [6, 7, 18] (fun f a i wr => ∃ (k r : Nat), k ≤ n ∧ i = .int .i64 k ∧ f = .int .i64 (flI m k : Nat) ∧ a = .float .f32 r ∧ Hid (num .f32 r = m (flI m k)) ∧ Hid (Below w.heap.size w wr)) (fun _ _ i _ => n - (intOf i).toNat)
  case atStart => exact ⟨0, r0, by omega, rfl, rfl, rfl, HR0, HQ0⟩
  case round =>
    obtain ⟨k, r, hk, rfl, rfl, rfl, hR, hB⟩ := hrel
    by_cases hlt : k < n
    · have hki : (k : Int) < n := by omega
      obtain ⟨e, he⟩ : ∃ e, xs[k]? = some e := ⟨_, List.getElem?_eq_getElem (by rw [HN.out]; exact hlt)⟩
      have c0 : wr.cell? ⟨g, k, none⟩ = some (.int .i64 (e : Int)) := own_cell (P0.out.below hB.out P0.out.lt) he
      have T1 := Lib.hid (HM.out k e he)
      clear he
      go_upto_region 6 with (go_at_call 102; refine (T1.out _ hB.out).mono ?_; rintro x1 V1 ⟨d, rfl, hd, hq1⟩; have HD := Lib.hid hd; have Q1 := Lib.hid (hB.out.trans (hq1.mono hB.out.size)); clear hd hq1 c0)
      have hcmp : FloatKind.f32.format.order d r = ordO (m k) (m (flI m k)) := ordO_num HD.out hR.out
      cases hl : ltO (m k) (m (flI m k))
      · have hl2 : (FloatKind.f32.format.order d r == some Ordering.lt) = false := by rw [hcmp]; exact hl
        have E := Lib.hid (show flI m (k + 1) = flI m k by rw [flI, hl]; rfl)
        clear hcmp hl
        go_wp2
        go_roundw
        case rel => exact ⟨k + 1, r, by omega, by go_num, by rw [E.out], rfl, by rw [E.out]; exact hR, Q1⟩
        case measure => simp [intOf]; omega
      · have hl2 : (FloatKind.f32.format.order d r == some Ordering.lt) = true := by rw [hcmp]; exact hl
        have E := Lib.hid (show flI m (k + 1) = k by rw [flI, hl]; rfl)
        clear hcmp hl
        go_wp2
        go_roundw
        case rel => exact ⟨k + 1, d, by omega, by go_num, by rw [E.out], rfl, by rw [E.out]; exact HD, Q1⟩
        case measure => simp [intOf]; omega
    · obtain rfl : k = n := by omega
      go_wp2
      go_ret2
      exact ⟨r, rfl, hR.out, hB.out⟩
set_option maxRecDepth 100000 in
set_option maxHeartbeats 4000000 in
theorem flT2_any (g cap : Nat) (xs : List Nat) (h0 : 0 < xs.length) (hL : xs.length ≤ 1048576) (bg : Nat) (m : Nat → Option Nat) (w : World) (hp : VRow w 2 g cap (xs.map IV))
    (hm : ∀ (i j : Nat), xs[i]? = some j → ∀ w', Below w.heap.size w w' → Calls Tryd.prog 103 #[.int .i64 (j : Int), .pointer (some ⟨bg, 0, none⟩)] w' (GvB (m i) w')) :
    Calls Tryd.prog 101 #[.slice (some ⟨g, 0, none⟩) xs.length cap, .func (.func 103) #[] #[.pointer (some ⟨bg, 0, none⟩)]] w fun e w' => ∃ r, e = .returned (.tuple #[.int .i64 (flI m xs.length : Nat), .float .f32 r]) ∧ num .f32 r = m (flI m xs.length) ∧ Below w.heap.size w w' := by
  have P0 := Lib.hid hp
  have HM := Lib.hid hm
  obtain ⟨n, hn⟩ : ∃ n, xs.length = n := ⟨_, rfl⟩
  have HN := Lib.hid hn
  rw [hn] at h0 hL ⊢
  clear hp hm hn
  obtain ⟨e0, he0⟩ : ∃ e, xs[0]? = some e := ⟨_, List.getElem?_eq_getElem (by rw [HN.out]; exact h0)⟩
  have c0 : w.cell? ⟨g, 0, none⟩ = some (.int .i64 (e0 : Int)) := own_cell P0.out he0
  have T0 := HM.out 0 e0 he0 w (Below.refl _ _)
  have e00 : ((0 : Nat) : Int) = 0 := rfl
  clear he0
  go_enter Tryd.func101, Tryd.ntmps101
  go_upto_region 3 with (go_at_call 103; refine T0.mono ?_; rintro x V ⟨r0, rfl, hr, hq⟩; have HR0 := Lib.hid hr; have HQ0 := Lib.hid hq; clear hr hq)
  clear T0 c0
  go_loopw [6, 7, 18] (fun f a i wr => ∃ (k r : Nat), k ≤ n ∧ i = .int .i64 k ∧ f = .int .i64 (flI m k : Nat) ∧ a = .float .f32 r ∧ Hid (num .f32 r = m (flI m k)) ∧ Hid (Below w.heap.size w wr)) (fun _ _ i _ => n - (intOf i).toNat)
  case atStart => exact ⟨0, r0, by omega, rfl, rfl, rfl, HR0, HQ0⟩
  case round =>
    obtain ⟨k, r, hk, rfl, rfl, rfl, hR, hB⟩ := hrel
    by_cases hlt : k < n
    · have hki : (k : Int) < n := by omega
      obtain ⟨e, he⟩ : ∃ e, xs[k]? = some e := ⟨_, List.getElem?_eq_getElem (by rw [HN.out]; exact hlt)⟩
      have c0 : wr.cell? ⟨g, k, none⟩ = some (.int .i64 (e : Int)) := own_cell (P0.out.below hB.out P0.out.lt) he
      have T1 := Lib.hid (HM.out k e he)
      clear he
      go_upto_region 6 with (go_at_call 103; refine (T1.out _ hB.out).mono ?_; rintro x1 V1 ⟨d, rfl, hd, hq1⟩; have HD := Lib.hid hd; have Q1 := Lib.hid (hB.out.trans (hq1.mono hB.out.size)); clear hd hq1 c0)
      have hcmp : FloatKind.f32.format.order d r = ordO (m k) (m (flI m k)) := ordO_num HD.out hR.out
      cases hl : ltO (m k) (m (flI m k))
      · have hl2 : (FloatKind.f32.format.order d r == some Ordering.lt) = false := by rw [hcmp]; exact hl
        have E := Lib.hid (show flI m (k + 1) = flI m k by rw [flI, hl]; rfl)
        clear hcmp hl
        go_wp2
        go_roundw
        case rel => exact ⟨k + 1, r, by omega, by go_num, by rw [E.out], rfl, by rw [E.out]; exact hR, Q1⟩
        case measure => simp [intOf]; omega
      · have hl2 : (FloatKind.f32.format.order d r == some Ordering.lt) = true := by rw [hcmp]; exact hl
        have E := Lib.hid (show flI m (k + 1) = k by rw [flI, hl]; rfl)
        clear hcmp hl
        go_wp2
        go_roundw
        case rel => exact ⟨k + 1, d, by omega, by go_num, by rw [E.out], rfl, by rw [E.out]; exact HD, Q1⟩
        case measure => simp [intOf]; omega
    · obtain rfl : k = n := by omega
      go_wp2
      go_ret2
      exact ⟨r, rfl, hR.out, hB.out⟩
set_option maxRecDepth 100000 in
set_option maxHeartbeats 4000000 in
theorem trg1_any (pg : Option Addr) (m cg : Nat) (G : List A2) (hm : G.length = m) (hG : m ≤ 1048576) (j : Nat) (a : A2) (ha : G[j]? = some a) (bg : Nat) (w : World) (hc : w.cell? ⟨bg, 0, none⟩ = some (.slice pg m cg)) (hg : AsAt w pg G) :
    Calls Tryd.prog 102 #[.int .i64 (j : Int), .pointer (some ⟨bg, 0, none⟩)] w (GvB (num .f32 a.1) w) := by
  have hjm : j < m := by rw [← hm]; exact (List.getElem?_eq_some_iff.1 ha).1
  have hji : (j : Int) < m := by omega
  obtain ⟨b, o, rfl, hr⟩ := hg j a ha
  have c0 : w.cell? ⟨b, o + j * 2, none⟩ = some (.float .f32 a.1) := hr 0 _ rfl
  clear hr hg hm
  go_enter Tryd.func102, Tryd.ntmps102
  go_wp2
  go_ret
  exact ⟨_, rfl, rfl, Below.refl _ _⟩
set_option maxRecDepth 100000 in
set_option maxHeartbeats 4000000 in
theorem trg2_any (pg : Option Addr) (m cg : Nat) (G : List A2) (hm : G.length = m) (hG : m ≤ 1048576) (j : Nat) (a : A2) (ha : G[j]? = some a) (bg : Nat) (w : World) (hc : w.cell? ⟨bg, 0, none⟩ = some (.slice pg m cg)) (hg : AsAt w pg G) :
    Calls Tryd.prog 103 #[.int .i64 (j : Int), .pointer (some ⟨bg, 0, none⟩)] w (GvB (negO (num .f32 a.1)) w) := by
  have hjm : j < m := by rw [← hm]; exact (List.getElem?_eq_some_iff.1 ha).1
  have hji : (j : Int) < m := by omega
  obtain ⟨b, o, rfl, hr⟩ := hg j a ha
  have c0 : w.cell? ⟨b, o + j * 2, none⟩ = some (.float .f32 a.1) := hr 0 _ rfl
  clear hr hg hm
  go_enter Tryd.func103, Tryd.ntmps103
  go_wp2
  go_ret
  exact ⟨_, rfl, num_neg _, Below.refl _ _⟩
theorem ts_row (pg : Option Addr) (m cg : Nat) (X Y : Int) (R : Nat) (x y : Int) (w : World) : ∃ W, (w.alloc (.cells #[.slice pg m cg] 60) |>.alloc (.cells (Ste X Y R x y) 38)) = W ∧ W.heap.size = w.heap.size + 1 + 1 ∧ Below w.heap.size w W ∧ ∀ V, Below W.heap.size W V → V.cell? ⟨w.heap.size, 0, none⟩ = some (.slice pg m cg) ∧ V.cell? ⟨w.heap.size + 1, 0, none⟩ = some (.int .i8 X) ∧ V.cell? ⟨w.heap.size + 1, 1, none⟩ = some (.int .i8 Y) ∧ V.cell? ⟨w.heap.size + 1, 2, none⟩ = some (.float .f32 R) ∧ V.cell? ⟨w.heap.size + 1, 3, none⟩ = some (.int .i8 x) ∧ V.cell? ⟨w.heap.size + 1, 4, none⟩ = some (.int .i8 y) := by
  obtain ⟨z, b0, b1, B0⟩ := laid2 w (.cells #[.slice pg m cg] 60) (.cells (Ste X Y R x y) 38)
  refine ⟨_, rfl, z, B0, fun V hV => ?_⟩
  have h0 := (hV.block w.heap.size (by omega)).trans b0
  have h1 := (hV.block (w.heap.size + 1) (by omega)).trans b1
  exact ⟨cell_of_row _ _ 0 _ _ _ h0, cell_of_row _ _ 0 _ _ _ h1, cell_of_row _ _ 1 _ _ _ h1, cell_of_row _ _ 2 _ _ _ h1, cell_of_row _ _ 3 _ _ _ h1, cell_of_row _ _ 4 _ _ _ h1⟩
set_option maxRecDepth 100000 in
set_option maxHeartbeats 4000000 in
theorem spanI_any {s : Nat → Addr} (pg : Option Addr) (cg : Nat) (G : List A2) (hG : G.length ≤ 1048576) (X Y : Int) (R : Nat) (x y : Int) (p : Option Addr) (c : Nat) (L : List R2) (hL : L.length ≤ 1048576) (hX : -128 ≤ X ∧ X ≤ 127) (hY : -128 ≤ Y ∧ Y ≤ 127) (hx : -128 ≤ x ∧ x ≤ 127) (hy : -128 ≤ y ∧ y ≤ 127) (bd : Nat) (hok : ∀ a ∈ G, okA a) (w : World) (hg : AsAt w pg G) (hp : RsAt w p L) (hS : Sents w s) :
    Calls Tryd.prog 71 #[.slice pg G.length cg, .agg (Ste X Y R x y), .slice p L.length c, .float .f32 bd] w fun e w' => ∃ r1 r2, e = .returned (.tuple #[.float .f32 r1, .float .f32 r2, erV s (tsK (gueK (gueB G X Y R x y L) G.length) (ftL G R X Y x y L bd (gueK (gueB G X Y R x y L) G.length)))]) ∧ TsP G (gueK (gueB G X Y R x y L) G.length) (ftL G R X Y x y L bd (gueK (gueB G X Y R x y L) G.length)) r1 r2 ∧ Below w.heap.size w w' := by
  obtain ⟨W, hW, zw, B0, LD⟩ := ts_row pg G.length cg X Y R x y w
  have BW := Lib.hid B0
  have PG := Lib.hid hg
  have HLD := Lib.hid LD
  have HS := Lib.hid hS
  have ZW := Lib.hid zw
  have T0 := fitsI_any (s := s) pg cg G hG X Y R x y p c L hL hX hY hx hy bd hok W (hg.keep B0) (hp.keep B0) (hS.keep B0)
  obtain ⟨s0, s1, s2, s3, s4, s5⟩ := LD W (Below.refl _ _)
  obtain ⟨k, hk⟩ : ∃ k, (gueK (gueB G X Y R x y L) G.length) = k := ⟨_, rfl⟩
  have M20 := Lib.hid (fun (hK : k = none) => (gueK_none (hk.trans hK)).2.2)
  rw [hk] at T0 ⊢
  have HL := Lib.hid (show ∀ j ∈ ftL G R X Y x y L bd k, j < G.length from fun j hj => by
    unfold ftL at hj
    split at hj
    · exact fitI_lt _ _ _ j hj
    · simp at hj)
  have HLEN := Lib.hid (show (ftL G R X Y x y L bd k).length ≤ G.length from by
    unfold ftL
    split
    · exact fitI_len _ _ _
    · simp)
  obtain ⟨xs, hxs⟩ : ∃ xs, ftL G R X Y x y L bd k = xs := ⟨_, rfl⟩
  rw [hxs] at T0 HL HLEN ⊢
  obtain ⟨l, hl⟩ : ∃ l, xs.length = l := ⟨_, rfl⟩
  have HLL := Lib.hid hl
  rw [hl] at T0 HLEN
  obtain ⟨m, hm⟩ : ∃ m, G.length = m := ⟨_, rfl⟩
  have HN := Lib.hid hm
  obtain ⟨n, hn⟩ : ∃ n, L.length = n := ⟨_, rfl⟩
  rw [hm] at LD HLD hW s0
  rw [hm, hn] at T0 ⊢
  rw [hm] at hG HL HLEN M20
  rw [hn] at hL
  clear hg hp B0 LD hok hk hxs hm hn hl hS zw
  simp only [Ste] at T0 hW ⊢
  rcases k with _ | i
  · simp only [erV] at T0
    have hlm := HLEN.out
    have m20 := M20.out rfl
    rcases Nat.eq_zero_or_pos l with h0 | h0
    · subst h0
      have hx0 : xs = [] := List.length_eq_zero_iff.1 HLL.out
      have RS := Lib.hid (show TsP G none xs 0 0 from by subst hx0; exact ⟨rfl, rfl⟩)
      have HE := Lib.hid (show Value.iface 192 (.pointer (some (s 4))) = erV s (tsK none xs) from by subst hx0; rfl)
      have GS : ∀ V, Below w.heap.size w V → V.cell? ⟨4, 0, none⟩ = some (.iface 192 (.pointer (some (s 4)))) := fun V hV => (HS.out.keep hV).cell 4 (by decide)
      clear HL HLEN M20 hx0
      go_enter Tryd.func71, Tryd.ntmps71
      go_upto_region 1 with (fail)
      try rw [hW]
      clear hW
      go_wp2_with (go_at_call 70; refine T0.mono ?_; rintro e V1 ⟨p', cap, rfl, ho, hq1⟩; have Q1 := Lib.hid hq1; have HO := Lib.hid ho; clear hq1 ho s0 s1 s2 s3 s4 s5; have g4 := GS V1 (BW.out.trans (Q1.out.mono BW.out.size)); clear GS)
      go_quiet (fail)
      go_wp2
      go_ret3
      exact ⟨0, 0, by first | (rw [← HE.out]; done) | (rw [← HE.out]; rfl), RS.out, belowN (BW.out.trans (Q1.out.mono BW.out.size)) _⟩
    · have hxn : ¬ xs = [] := fun h => by have := HLL.out; rw [h] at this; simp at this; omega
      have hn2 : ¬ (l : Int) = 0 := by omega
      have hn3 : ((l : Int) == 0) = false := by simp; omega
      have HE := Lib.hid (show tsK none xs = none from by unfold tsK; rw [if_neg hxn])
      have RS := Lib.hid (show ∀ r1 r2, num .f32 r1 = trgO G xs (flI (trgO G xs) l) → num .f32 r2 = trgO G xs (flI (ntgO G xs) l) → TsP G none xs r1 r2 from fun r1 r2 h1 h2 => by
        unfold TsP
        rw [HE.out, HLL.out]
        exact ⟨h1, h2⟩)
      have TF := Lib.hid (fun (g cap : Nat) (V : World) (hV : Below W.heap.size W V) (hv : VRow V 2 g cap (xs.map IV)) => show _ ∧ _ from
        ⟨flT1_any g cap xs (by rw [HLL.out]; exact h0) (by rw [HLL.out]; omega) w.heap.size (trgO G xs) V hv (fun i j hi w' hw' => by
          obtain ⟨a, ha⟩ : ∃ a, G[j]? = some a := ⟨_, List.getElem?_eq_getElem (by rw [HN.out]; exact HL.out j (List.mem_of_getElem? hi))⟩
          rw [trgO_at hi ha]
          exact trg1_any pg m cg G HN.out hG j a ha w.heap.size w' (HLD.out _ (hV.trans (hw'.mono hV.size))).1 (PG.out.keep (BW.out.trans ((hV.trans (hw'.mono hV.size)).mono BW.out.size)))),
        flT2_any g cap xs (by rw [HLL.out]; exact h0) (by rw [HLL.out]; omega) w.heap.size (ntgO G xs) V hv (fun i j hi w' hw' => by
          obtain ⟨a, ha⟩ : ∃ a, G[j]? = some a := ⟨_, List.getElem?_eq_getElem (by rw [HN.out]; exact HL.out j (List.mem_of_getElem? hi))⟩
          rw [show ntgO G xs i = negO (trgO G xs i) from rfl, trgO_at hi ha]
          exact trg2_any pg m cg G HN.out hG j a ha w.heap.size w' (HLD.out _ (hV.trans (hw'.mono hV.size))).1 (PG.out.keep (BW.out.trans ((hV.trans (hw'.mono hV.size)).mono BW.out.size))))⟩)
      rw [HLL.out] at TF
      clear HLEN M20 hxn
      go_enter Tryd.func71, Tryd.ntmps71
      go_upto_region 1 with (fail)
      try rw [hW]
      clear hW
      go_upto_region 2 with (go_at_call 70; refine T0.mono ?_; rintro e V1 ⟨p', cap, rfl, ho, hq1⟩; have Q1 := Lib.hid hq1; have HO := Lib.hid ho; clear hq1 ho s0 s1 s2 s3 s4 s5)
      obtain ⟨g, rfl, hv⟩ : ∃ g, p' = some ⟨g, 0, none⟩ ∧ VRow V1 2 g cap (xs.map IV) := by
        rcases HO.out with ⟨_, _, h⟩ | ⟨g, h1, h2, _⟩
        · exfalso; have := HLL.out; rw [h] at this; simp at this; omega
        · exact ⟨g, h1, h2⟩
      have T1 := (TF.out g cap V1 Q1.out hv).1
      have T2 := Lib.hid (fun (V : World) (hV : Below V1.heap.size V1 V) => (TF.out g cap V (Q1.out.trans (hV.mono Q1.out.size)) (hv.below hV hv.lt)).2)
      clear hv HO TF
      go_upto_region 8 with (first | (go_at_call 101; refine T1.mono ?_; rintro e V2 ⟨r1, rfl, hr1, hq2⟩; have HR1 := Lib.hid hr1; have Q2 := Lib.hid hq2; clear hr1 hq2 T1) | (go_at_call 101; refine (T2.out _ Q2.out).mono ?_; rintro e V3 ⟨r2, rfl, hr2, hq3⟩; have HR2 := Lib.hid hr2; have Q3 := Lib.hid (Q2.out.trans (hq3.mono Q2.out.size)); clear hr2 hq3))
      go_wp2
      go_ret3
      exact ⟨r1, _, by rw [HE.out]; rfl, RS.out r1 _ HR1.out (by rw [num_neg, HR2.out]; exact neg_neg _), BW.out.trans ((Q1.out.trans (Q3.out.mono Q1.out.size)).mono BW.out.size)⟩
  · have RS := Lib.hid (show TsP G (some i) xs 0 0 from ⟨rfl, rfl⟩)
    have HE := Lib.hid (show tsK (some i) xs = some i from rfl)
    rw [HE.out]
    obtain ⟨a, ha⟩ : ∃ a, erV s (some i) = .iface 192 (.pointer (some a)) := ⟨_, rfl⟩
    rw [ha] at T0 ⊢
    clear ha HL HLEN M20
    go_enter Tryd.func71, Tryd.ntmps71
    go_upto_region 1 with (fail)
    try rw [hW]
    clear hW
    go_wp2_with (go_at_call 70; refine T0.mono ?_; rintro e V1 ⟨p', cap, rfl, ho, hq1⟩; have Q1 := Lib.hid hq1; have HO := Lib.hid ho; clear hq1 ho s0 s1 s2 s3 s4 s5)
    go_ret3
    exact ⟨0, 0, rfl, RS.out, BW.out.trans (Q1.out.mono BW.out.size)⟩

set_option maxRecDepth 100000 in
set_option maxHeartbeats 4000000 in
theorem implTS_any {s : Nat → Addr} (pg : Option Addr) (cg : Nat) (G : List A2) (hG : G.length ≤ 1048576) (X Y : Int) (R : Nat) (x y : Int) (p : Option Addr) (c : Nat) (L : List R2) (hL : L.length ≤ 1048576) (hX : -128 ≤ X ∧ X ≤ 127) (hY : -128 ≤ Y ∧ Y ≤ 127) (hx : -128 ≤ x ∧ x ≤ 127) (hy : -128 ≤ y ∧ y ≤ 127) (bd : Nat) (hok : ∀ a ∈ G, okA a) (w : World) (hg : AsAt w pg G) (hp : RsAt w p L) (hS : Sents w s) :
    Calls Tryd.prog 41 #[.slice pg G.length cg, .agg (Ste X Y R x y), .slice p L.length c, .float .f32 bd] w fun e w' => (∃ r1 r2, e = .returned (.tuple #[.float .f32 r1, .float .f32 r2, .int .i64 (codeE (tsK (gueK (gueB G X Y R x y L) G.length) (ftL G R X Y x y L bd (gueK (gueB G X Y R x y L) G.length))))]) ∧ TsP G (gueK (gueB G X Y R x y L) G.length) (ftL G R X Y x y L bd (gueK (gueB G X Y R x y L) G.length)) r1 r2) ∧ Below w.heap.size w w' := by
  obtain ⟨W, hW, B0, LD⟩ := one_row X Y R x y w
  have T1 := spanI_any (s := s) pg cg G hG X Y R x y p c L hL hX hY hx hy bd hok W (hg.keep B0) (hp.keep B0) (hS.keep B0)
  have BW := Lib.hid B0
  have HS := Lib.hid hS
  obtain ⟨s0, s1, s2, s3, s4⟩ := LD W (Below.refl _ _)
  have HK := Lib.hid (show ∀ i, tsK (gueK (gueB G X Y R x y L) G.length) (ftL G R X Y x y L bd (gueK (gueB G X Y R x y L) G.length)) = some i → i < 5 from tsK_lt gueK_lt)
  obtain ⟨k, hk⟩ : ∃ k, tsK (gueK (gueB G X Y R x y L) G.length) (ftL G R X Y x y L bd (gueK (gueB G X Y R x y L) G.length)) = k := ⟨_, rfl⟩
  rw [hk] at T1 HK ⊢
  obtain ⟨q, hq⟩ : ∃ q : Nat → Nat → Prop, q = TsP G (gueK (gueB G X Y R x y L) G.length) (ftL G R X Y x y L bd (gueK (gueB G X Y R x y L) G.length)) := ⟨_, rfl⟩
  rw [← hq] at T1 ⊢
  obtain ⟨m, hm⟩ : ∃ m, G.length = m := ⟨_, rfl⟩
  obtain ⟨n, hn⟩ : ∃ n, L.length = n := ⟨_, rfl⟩
  rw [hm, hn] at T1 ⊢
  rw [hm] at hG
  rw [hn] at hL
  clear hg hp B0 LD hok hk hm hn hS hq
  simp only [Ste] at T1 hW ⊢
  go_enter Tryd.func41, Tryd.ntmps41
  go_upto_region 1 with (fail)
  try rw [hW]
  clear hW
  go_wp2_with (first | (go_at_call 71; refine T1.mono ?_; rintro e V1 ⟨r1, r2, rfl, ho, hq1⟩; have Q1 := Lib.hid (BW.out.trans (hq1.mono BW.out.size)); have HO := Lib.hid ho; clear hq1 ho T1) | (go_at_call 51; refine (codeOf_any k HK.out _ (HS.out.keep Q1.out)).mono ?_; rintro e V2 ⟨rfl, hV⟩; rw [hV]; clear hV))
  go_ret3
  exact ⟨⟨r1, r2, rfl, HO.out⟩, Q1.out⟩
end Go.Proofs.YthacifhphoaioaaDoor
