/- ReadingsFrom, the model's, as a value of the times. Condition: at most 2^20 times. -/
import Derived.Test.YtbiknpfcemfoeaaDoorRfV
import Derived.Test.YtbiknpfcemfoeaaDoorMisS
import Derived.Test.YtbiknpfcemfoeaaDoorMkr
namespace Go.Proofs.YtbiknpfcemfoeaaDoor
open Go Go.RowKit Ieee
set_option linter.unusedSimpArgs false
set_option linter.unusedVariables false
attribute [local go_sem] run_store_f32

set_option maxRecDepth 100000 in
set_option maxHeartbeats 2000000 in
theorem specRf_any (T S : Nat) (hT : T < 4294967296) (hS : S < 4294967296) (X Y : Int) (R : Nat) (x y : Int) (hX : -128 ≤ X ∧ X ≤ 127) (hY : -128 ≤ Y ∧ Y ≤ 127) (hx : -128 ≤ x ∧ x ≤ 127) (hy : -128 ≤ y ∧ y ≤ 127) (p : Option Addr) (c : Nat) (L : List Int) (hL : L.length ≤ 1048576) (w : World) (hp : IsAt w p L) :
    Calls Tryd.prog 13 #[.agg (Aq T S), .agg (Ste X Y R x y), .slice p L.length c] w fun e w' => ∃ g cap, e = .returned (.tuple #[.slice (some ⟨g, 0, none⟩) (rfL T S X Y R x y L).length cap, .int .i64 (rfC T S X Y R x y L)]) ∧ RsAt w' (some ⟨g, 0, none⟩) (rfL T S X Y R x y L) ∧ g < w'.heap.size ∧ Below w.heap.size w w' := by
  have P0 := Lib.hid hp
  obtain ⟨n, hn⟩ : ∃ n, L.length = n := ⟨_, rfl⟩
  have HN := Lib.hid hn
  rw [hn] at hL ⊢
  clear hp hn
  obtain ⟨z, b0, b1, B0⟩ := laid2 w (.cells (Aq T S) 43) (.cells (Ste X Y R x y) 47)
  obtain ⟨W, hW⟩ : ∃ W, (w.alloc (.cells (Aq T S) 43) |>.alloc (.cells (Ste X Y R x y) 47)) = W := ⟨_, rfl⟩
  rw [hW] at z b0 b1 B0
  have hb1 : w.heap.size < W.heap.size := by rw [z]; omega
  have hb2 : w.heap.size + 1 < W.heap.size := by rw [z]; omega
  have R0 := Lib.hid (fun V (hV : Below W.heap.size W V) => range_kept (rangeAt_row b0) hb1 _ hV)
  have R1 := Lib.hid (fun V (hV : Below W.heap.size W V) => range_kept (rangeAt_row b1) hb2 _ hV)
  have LD : ∀ V, Below W.heap.size W V → V.cell? ⟨w.heap.size, 0, none⟩ = some (.float .f32 T) ∧ V.cell? ⟨w.heap.size, 1, none⟩ = some (.float .f32 S) ∧ V.cell? ⟨w.heap.size + 1, 0, none⟩ = some (.int .i8 X) ∧ V.cell? ⟨w.heap.size + 1, 1, none⟩ = some (.int .i8 Y) ∧ V.cell? ⟨w.heap.size + 1, 2, none⟩ = some (.float .f32 R) ∧ V.cell? ⟨w.heap.size + 1, 3, none⟩ = some (.int .i8 x) ∧ V.cell? ⟨w.heap.size + 1, 4, none⟩ = some (.int .i8 y) := fun V hV => ⟨R0.out V hV 0 _ rfl, R0.out V hV 1 _ rfl, R1.out V hV 0 _ rfl, R1.out V hV 1 _ rfl, R1.out V hV 2 _ rfl, R1.out V hV 3 _ rfl, R1.out V hV 4 _ rfl⟩
  have BW := Lib.hid B0
  have HLD := Lib.hid LD
  have T1 := fun V => l03Aq_any T S V
  have T2 := fun V => l04Site_any X Y R x y hX hY hx hy V
  obtain ⟨s0, s1, s2, s3, s4, s5, s6⟩ := LD W (Below.refl _ _)
  have N0 : RsAt W none [] := fun i e h => by simp at h
  clear LD b0 b1 B0 z N0
  cases h1 : aqB T S
  · have hC : rfC T S X Y R x y L = 1 := by simp [rfC, h1]
    have hE : rfL T S X Y R x y L = [] := by simp [rfL, hC]
    rw [hC, hE]
    rw [h1] at T1
    clear hC hE h1 T2
    simp only [Aq, Ste] at T1 hW ⊢
    go_enter Tryd.func13, Tryd.ntmps13
    go_upto_region 1 with (fail)
    try rw [hW]
    clear hW
    go_wp2_with (go_at_call 35; refine (T1 _).mono ?_; rintro e V1 ⟨rfl, hq1⟩; have Q1 := Lib.hid (BW.out.trans (hq1.mono BW.out.size)); clear hq1)
    go_ret2
    exact ⟨_, _, rfl, (fun i e h => by simp at h), by simp, Q1.out.alloc Q1.out.size _⟩
  · rw [h1] at T1
    cases h2 : stB X Y R x y
    · have hC : rfC T S X Y R x y L = 1 := by simp [rfC, h2]
      have hE : rfL T S X Y R x y L = [] := by simp [rfL, hC]
      rw [hC, hE]
      rw [h2] at T2
      clear hC hE h1 h2
      simp only [Aq, Ste] at T1 T2 hW ⊢
      go_enter Tryd.func13, Tryd.ntmps13
      go_upto_region 1 with (fail)
      try rw [hW]
      clear hW
      go_wp2_with (first | (go_at_call 35; refine (T1 _).mono ?_; rintro e V1 ⟨rfl, hq1⟩; have Q1 := Lib.hid hq1; obtain ⟨r0, r1, r2, r3, r4, r5, r6⟩ := HLD.out _ hq1; clear hq1 s0 s1 s2 s3 s4 s5 s6) | (go_at_call 36; refine (T2 _).mono ?_; rintro e V2 ⟨rfl, hq2⟩; have Q2 := Lib.hid (Q1.out.trans (hq2.mono Q1.out.size)); clear hq2))
      go_ret2
      exact ⟨_, _, rfl, (fun i e h => by simp at h), by simp, (BW.out.trans (Q2.out.mono BW.out.size)).alloc (BW.out.trans (Q2.out.mono BW.out.size)).size _⟩
    · rw [h2] at T2
      have hb := aq_bits hT hS h1
      have hT' : 981467136 ≤ T ∧ T ≤ 1233125376 := ⟨hb.1, hb.2.1⟩
      have hS' : 897581056 ≤ S ∧ S ≤ 1065353216 := ⟨hb.2.2.1, hb.2.2.2⟩
      have h3 := h2
      simp only [stB, weB, plB, Bool.and_eq_true, decide_eq_true_eq] at h3
      have pX : -100 ≤ X ∧ X ≤ 100 := by omega
      have pY : -100 ≤ Y ∧ Y ≤ 100 := by omega
      have px : -100 ≤ x ∧ x ≤ 100 := by omega
      have py : -100 ≤ y ∧ y ≤ 100 := by omega
      have HCy := Lib.hid (fun h : okRs (tz L) = true => (show rfC T S X Y R x y L = 0 by simp [rfC, h1, h2, h]))
      have HCn := Lib.hid (fun h : okRs (tz L) = false => (show rfC T S X Y R x y L = 2 by simp [rfC, h1, h2, h]))
      have DD := Lib.hid (fun (t : Int) (ht : 1 ≤ t ∧ t ≤ 100000) V => l04Drawdown_any X Y R x y T S t hT' hS' pX pY px py ht V)
      obtain ⟨RC, eRC⟩ : ∃ r, rfC T S X Y R x y L = r := ⟨_, rfl⟩
      obtain ⟨RL, eRL⟩ : ∃ r, rfL T S X Y R x y L = r := ⟨_, rfl⟩
      rw [eRC, eRL]
      have HRC := Lib.hid eRC
      have HRL := Lib.hid eRL
      clear eRC eRL h1 h2 h3 hb hT' hS' pX pY px py hT hS
      have TZ := Lib.hid (tz_len L)
      simp only [Aq, Ste] at T1 T2 hW ⊢
      go_enter Tryd.func13, Tryd.ntmps13
      go_upto_region 1 with (fail)
      try rw [hW]
      clear hW
      go_upto_region 6 with (first | (go_at_call 35; refine (T1 _).mono ?_; rintro e V1 ⟨rfl, hq1⟩; have Q1 := Lib.hid hq1; obtain ⟨r0, r1, r2, r3, r4, r5, r6⟩ := HLD.out _ hq1; clear hq1 s0 s1 s2 s3 s4 s5 s6) | (go_at_call 36; refine (T2 _).mono ?_; rintro e V2 ⟨rfl, hq2⟩; have Q2 := Lib.hid (Q1.out.trans (hq2.mono Q1.out.size)); clear hq2 r0 r1 r2 r3 r4 r5 r6))
      clear T1 T2 Q1
      go_loopw [8, 9, 10] (fun ok la i wr => ∃ (k : Nat) (b : Bool) (l : Int), k ≤ n ∧ i = .int .i64 k ∧ ok = .bool b ∧ la = .int .i64 l ∧ Hid (b = true → n ≤ 40 ∧ l = lastR (tz L) k ∧ ∀ j, j < k → goodR (tz L) j = true) ∧ Hid (b = false → okRs (tz L) = false) ∧ Hid (Below W.heap.size W wr)) (fun _ _ i _ => n - (intOf i).toNat)
      case atStart => exact ⟨0, decide (n ≤ 40), 0, by omega, rfl, by simp; omega, rfl, Lib.hid (fun h => ⟨by simpa using h, rfl, fun j hj => absurd hj (by omega)⟩), Lib.hid (fun h => okRs_long (TZ.out.trans HN.out) (by simpa using h)), Q2⟩
      case round =>
        obtain ⟨k, b, l, hk, rfl, rfl, rfl, hY1, hN1, hB⟩ := hrel
        cases b
        · have hno := hN1.out rfl
          have hc := HCn.out hno
          have hc2 : rfL T S X Y R x y L = [] := by simp [rfL, hc]
          rw [HRC.out] at hc
          rw [HRL.out] at hc2
          subst hc hc2
          by_cases hlt : k < n
          · have hki : (k : Int) < n := by omega
            go_wp2
            go_ret2
            exact ⟨_, ⟨_, rfl⟩, (fun i e h => by simp at h), by simp, (BW.out.trans (hB.out.mono BW.out.size)).alloc (BW.out.trans (hB.out.mono BW.out.size)).size _⟩
          · obtain rfl : k = n := by omega
            go_wp2
            go_ret2
            exact ⟨_, ⟨_, rfl⟩, (fun i e h => by simp at h), by simp, (BW.out.trans (hB.out.mono BW.out.size)).alloc (BW.out.trans (hB.out.mono BW.out.size)).size _⟩
        · obtain ⟨h40, hla, hgood⟩ := hY1.out rfl
          have hrng := lastR_rng (L := tz L) (n := n) (TZ.out.trans HN.out) hk hgood
          rw [← hla] at hrng
          have HLA := Lib.hid hla
          have HG := Lib.hid hgood
          clear hla hgood hY1 hN1
          by_cases hlt : k < n
          · have hki : (k : Int) < n := by omega
            obtain ⟨e, he⟩ : ∃ e, L[k]? = some e := ⟨_, List.getElem?_eq_getElem (by rw [HN.out]; exact hlt)⟩
            obtain ⟨b, o, rfl, c0'⟩ := P0.out k e he
            have hbw := World.block_lt_of_cell? w _ c0'
            have c0 := (hB.out.cell (p := ⟨b, o + k, none⟩) (Nat.lt_of_lt_of_le hbw BW.out.size)).trans ((BW.out.cell (p := ⟨b, o + k, none⟩) hbw).trans c0')
            have HE := Lib.hid (tz_at he)
            clear he c0' hbw
            obtain ⟨r1, r2⟩ := hrng
            cases hg : (decide (l + 1 ≤ e) && decide (e ≤ 100000))
            · have N := Lib.hid (okRs_no (TZ.out.trans HN.out) hlt (show goodR (tz L) k = false by simp only [goodR, HE.out, ← HLA.out, hg]))
              have HG2 := Lib.hid hg
              clear hg
              go_wp2_with (go_at_call 37; refine (in_is e (l + 1) 100000 false HG2.out _).mono ?_; rintro x V ⟨rfl, hV⟩; rw [hV]; clear hV)
              go_roundw
              case rel => exact ⟨k + 1, false, e, by omega, by go_num, rfl, rfl, Lib.hid (fun h => absurd h (by decide)), Lib.hid (fun _ => N.out), hB⟩
              case measure => simp [intOf]; omega
            · have N := Lib.hid (goodR_snoc HG.out (show goodR (tz L) k = true by simp only [goodR, HE.out, ← HLA.out, hg]))
              have HG2 := Lib.hid hg
              clear hg
              go_wp2_with (go_at_call 37; refine (in_is e (l + 1) 100000 true HG2.out _).mono ?_; rintro x V ⟨rfl, hV⟩; rw [hV]; clear hV)
              go_roundw
              case rel => exact ⟨k + 1, true, e, by omega, by go_num, rfl, rfl, Lib.hid (fun _ => ⟨h40, (lastR_succ HE.out).symm, N.out⟩), Lib.hid (fun h => absurd h (by decide)), hB⟩
              case measure => simp [intOf]; omega
          · obtain rfl : n = k := by omega
            have hyes : okRs (tz L) = true := okRs_yes (TZ.out.trans HN.out) h40 HG.out
            have HOK := Lib.hid hyes
            have hc := HCy.out hyes
            have hc2 : rfL T S X Y R x y L = L.map (rfE T S X Y R x y) := by simp [rfL, hc]
            rw [HRC.out] at hc
            rw [HRL.out] at hc2
            subst hc hc2
            clear hrng HG HCy HCn hyes
            have OKT := Lib.hid (fun (j : Nat) (t : Int) (hj : L[j]? = some t) => ok_time HOK.out hj)
            have hown0 : (wr.alloc (.cells #[] 65)).ownsRow wr.heap.size 65 2 (.slice (some ⟨wr.heap.size, 0, none⟩) 0 0) 0 (cellsR []) := World.ownsRow_made wr #[] 0 (Nat.le_refl _) (by unfold maxLen; omega) rfl
            have hb0 : Below W.heap.size W (wr.alloc (.cells #[] 65)) := hB.out.alloc hB.out.size _
            obtain ⟨w0, hw0⟩ : ∃ q, wr = q := ⟨_, rfl⟩
            have HW0 := Lib.hid hB.out.size
            rw [hw0] at hown0 hb0 HW0
            go_upto_region 14 with (fail)
            try rw [hw0]
            clear hw0
            go_loopw [11, 12] (fun v i wr => ∃ (j : Nat) (rs : List R2), j ≤ n ∧ i = .int .i64 j ∧ Hid (rs.length = j) ∧ Hid (rs = (L.take j).map (rfE T S X Y R x y)) ∧ Hid (wr.ownsRow w0.heap.size 65 2 v j (cellsR rs) ∧ ∃ g cap, v = .slice (some ⟨g, 0, none⟩) j cap) ∧ Hid (Below W.heap.size W wr ∧ w0.heap.size ≤ wr.heap.size)) (fun _ i _ => n - (intOf i).toNat)
            case atStart => exact ⟨0, [], by omega, rfl, Lib.hid rfl, Lib.hid (by simp), Lib.hid ⟨hown0, _, _, rfl⟩, Lib.hid ⟨hb0, by simp⟩⟩
            case round =>
              clear hown0 hb0 hB
              obtain ⟨j, rs, hj, rfl, hlen, hrs, hown, hB⟩ := hrel
              by_cases hlt : j < n
              · have hki : (j : Int) < n := by omega
                obtain ⟨t, he⟩ : ∃ e, L[j]? = some e := ⟨_, List.getElem?_eq_getElem (by rw [HN.out]; exact hlt)⟩
                obtain ⟨b, o, hpe, c0'⟩ := P0.out j t he
                subst hpe
                have hbw := World.block_lt_of_cell? w _ c0'
                have CT : ∀ w', Below W.heap.size W w' → w'.cell? ⟨b, o + j, none⟩ = some (.int .i64 t) := fun w' hw' => (hw'.cell (p := ⟨b, o + j, none⟩) (Nat.lt_of_lt_of_le hbw BW.out.size)).trans ((BW.out.cell (p := ⟨b, o + j, none⟩) hbw).trans c0')
                have ht := OKT.out j t he
                have HE := Lib.hid he
                clear he c0' hbw
                have hS0 : Below W.heap.size W wr.drew := hB.out.1.drew
                go_wp2
                refine wp_region_plan (ops' := regOf Tryd.f13 16) (.take 0 (.take 1 (.take 2 (.take 3 (.take 4 (.take 5 (.take 6 (.take 7 (.take 8 (.take 9 (.take 10 (.run 11 (.run 12 (.take 13 (.run 14 (.run 15 (.take 16 .fin))))))))))))))))) (Below W.heap.size W) (by kernel_rfl) (by kernel_rfl) (by kernel_rfl) (by kernel_rfl) (by kernel_rfl) hS0 ?_
                refine plan_pure (some 55) u11 (by kernel_rfl) (by kernel_rfl) (by kernel_rfl) (fun _ => (by kernel_rfl)) ?_
                refine plan_pure (some 56) (.slice (some ⟨b, o, none⟩) n c) (by kernel_rfl) (by kernel_rfl) (by kernel_rfl) (fun _ => (by kernel_rfl)) ?_
                refine plan_pure (some 57) (.int .i64 (j : Int)) (by kernel_rfl) (by kernel_rfl) (by kernel_rfl) (fun _ => (by kernel_rfl)) ?_
                refine plan_pure (some 58) (.pointer (some ⟨b, o + j, none⟩)) (by kernel_rfl) (by kernel_rfl) (by kernel_rfl) (index_is (n := n) (c := c) (x := .tmp 56) (y := .tmp 57) (by kernel_rfl) (by kernel_rfl) (by kernel_rfl) hlt) ?_
                refine plan_take (some 59) (.int .i64 t) (by kernel_rfl) (by kernel_rfl) (.inl ⟨(by kernel_rfl), fun w' hw' => load_cell (ty := 2) (x := .tmp 58) (b := b) (o := o + j) (by kernel_rfl) (by kernel_rfl) Tryd.underlying2 rfl (CT w' hw')⟩) ?_
                refine plan_load (some 60) 43 (.tmp 3) w.heap.size 0 _ _ (by kernel_rfl) (by kernel_rfl) (by kernel_rfl) (by kernel_rfl) (by kernel_rfl) (fun w' hw' => R0.out w' hw') Tryd.underlying43 rfl (by kernel_rfl) ?_
                refine plan_load (some 61) 47 (.tmp 4) (w.heap.size + 1) 0 _ _ (by kernel_rfl) (by kernel_rfl) (by kernel_rfl) (by kernel_rfl) (by kernel_rfl) (fun w' hw' => R1.out w' hw') Tryd.underlying47 rfl (by kernel_rfl) ?_
                refine plan_pure (some 62) (.slice (some ⟨b, o, none⟩) n c) (by kernel_rfl) (by kernel_rfl) (by kernel_rfl) (fun _ => (by kernel_rfl)) ?_
                refine plan_pure (some 63) (.int .i64 (j : Int)) (by kernel_rfl) (by kernel_rfl) (by kernel_rfl) (fun _ => (by kernel_rfl)) ?_
                refine plan_pure (some 64) (.pointer (some ⟨b, o + j, none⟩)) (by kernel_rfl) (by kernel_rfl) (by kernel_rfl) (index_is (n := n) (c := c) (x := .tmp 62) (y := .tmp 63) (by kernel_rfl) (by kernel_rfl) (by kernel_rfl) hlt) ?_
                refine plan_take (some 65) (.int .i64 t) (by kernel_rfl) (by kernel_rfl) (.inl ⟨(by kernel_rfl), fun w' hw' => load_cell (ty := 2) (x := .tmp 64) (b := b) (o := o + j) (by kernel_rfl) (by kernel_rfl) Tryd.underlying2 rfl (CT w' hw')⟩) ?_
                refine plan_call (some 66) 39 #[.agg (Aq T S), .agg (Ste X Y R x y), .int .i64 t] (by kernel_rfl) (by kernel_rfl) (by kernel_rfl) (by kernel_rfl) (Calls.mono (DD.out t ht _) ?_)
                rintro _ V1 ⟨d, rfl, hd, hq1⟩
                have Q1 : Below wr.heap.size wr V1 := (Below.refl _ _).drew.trans hq1
                refine ⟨_, rfl, hS0.trans (hq1.mono hS0.size), ?_⟩
                refine plan_call (some 67) 38 #[.float .f32 d] (by kernel_rfl) (by kernel_rfl) (by kernel_rfl) (by kernel_rfl) (Calls.mono (l04Logger_any d _ (lgs_num hd) _) ?_)
                rintro _ V2 ⟨rfl, hq2⟩
                have Q2 : Below wr.heap.size wr V2 := Q1.trans (hq2.mono Q1.size)
                have S2 : Below W.heap.size W V2 := hB.out.1.trans (Q2.mono hB.out.1.size)
                refine ⟨_, rfl, S2, ?_⟩
                obtain ⟨q, hq⟩ : ∃ q, rfE T S X Y R x y t = q := ⟨_, rfl⟩
                have hqe : lgN (drwV T S R (x - X) (y - Y) t) = q.2 := by rw [← hq]; rfl
                have hqt : t = q.1 := by rw [← hq]; rfl
                rw [hqe, hqt]
                have S3 : Below W.heap.size W (V2.alloc (.cells #[.int .i64 q.1, .int .i16 q.2] 65)) := S2.alloc S2.size _
                refine plan_pure (some 68) (.agg #[.int .i64 q.1, .int .i16 q.2]) (by kernel_rfl) (by kernel_rfl) (by kernel_rfl) (fun _ => (by kernel_rfl)) ?_
                refine plan_do (some 69) (.slice (some ⟨V2.heap.size, 0, none⟩) 1 1) (V2.alloc (.cells #[.int .i64 q.1, .int .i16 q.2] 65)) (by kernel_rfl) (by kernel_rfl) (by kernel_rfl) (.inl (by kernel_rfl)) S3 ?_
                obtain ⟨v', w', a1, a2, a3, a4⟩ := append_rd hown.out.1 hown.out.2 (by omega) hB.out.2 Q2 q (opOf (regOf Tryd.f13 16) 15).type
                have S4 := below_grown S3 a4 (fun k hk => Nat.le_trans HW0.out (hown.out.1.lt k hk).1) (Nat.le_refl _)
                refine plan_do (some 70) v' w' (by kernel_rfl) (by kernel_rfl) (by kernel_rfl) (.inl (exec_append (x := .tmp 55) (y := .tmp 69) (t := 27) (by kernel_rfl) (by kernel_rfl) (by kernel_rfl) a1)) S4 ?_
                refine plan_pure (some 11) v' (by kernel_rfl) (by kernel_rfl) (by kernel_rfl) (fun _ => (by kernel_rfl)) ?_
                refine plan_end (NoPanic.normal ?_)
                have A2 := Lib.hid (show w'.ownsRow w0.heap.size 65 2 v' (j + 1) (cellsR (rs ++ [q])) ∧ ∃ g cap, v' = .slice (some ⟨g, 0, none⟩) (j + 1) cap from ⟨a2, a3⟩)
                have A4 := Lib.hid (show Below W.heap.size W w' ∧ w0.heap.size ≤ w'.heap.size from ⟨S4, Nat.le_trans hB.out.2 (Nat.le_trans Q2.size (Nat.le_trans (by simp) a4.size))⟩)
                have RS := Lib.hid (show rs ++ [q] = (L.take (j + 1)).map (rfE T S X Y R x y) by rw [hrs.out, List.take_add_one, HE.out, Option.toList_some, List.map_append, List.map_singleton, hq])
                clear a1 a2 a3 a4 S4 S3 S2 Q2 Q1 hq1 hq2 hd hown hrs CT hqe hqt hq
                simp only [Act.put, List.setIfInBounds_toArray, List.set_cons_zero, List.set_cons_succ]
                go_wp2
                go_roundw
                case rel => exact ⟨j + 1, rs ++ [q], by omega, by go_num, Lib.hid (by simp [hlen.out]), RS, A2, A4⟩
                case measure => simp [intOf]; omega
              · obtain rfl : n = j := by omega
                have hrl : rs = L.map (rfE T S X Y R x y) := by rw [hrs.out, List.take_of_length_le (by rw [HN.out]; exact Nat.le_refl _)]
                obtain ⟨ho, g, cap, rfl⟩ := hown.out
                have F1 := Lib.hid (own_rs hlen.out ho)
                have F2 : g < wr.heap.size := (ho.lt g rfl).2
                have HL := Lib.hid hlen.out
                clear ho hown
                go_wp2
                go_ret2
                have hlen2 : (L.map (rfE T S X Y R x y)).length = n := by rw [← hrl]; exact HL.out
                have F3 := F1.out
                rw [hrl] at F3
                rw [hlen2]
                exact ⟨_, _, rfl, F3, F2, BW.out.trans (hB.out.1.mono BW.out.size)⟩
end Go.Proofs.YtbiknpfcemfoeaaDoor
