/- The law FnExactReadingsFrom of this commit: for every input the call returns true, and each argument reads afterwards as it read before. Condition: the five sentinel errors are as their initialisers lay them (the card ties them to the program's text). -/
import Derived.Test.YtbiknpfcemfoeaaDoorRfS
import Derived.Test.YtbiknpfcemfoeaaDoorRfI
import Derived.Test.YtbiknpfcemfoeaaDoorImk
namespace Go.Proofs.YtbiknpfcemfoeaaDoor
open Go Go.ChangeShapes Go.WideShapes Go.ChangeAt Go.RowKit Go.Deep
set_option linter.unusedSimpArgs false
set_option linter.unusedVariables false
attribute [local go_sem] run_store_f32
theorem RsAt.same {w w' : World} {b : Nat} {M : List R2} (h : RsAt w (some ⟨b, 0, none⟩) M) (hh : w'.heap[b]? = w.heap[b]?) : RsAt w' (some ⟨b, 0, none⟩) M := fun i e he => by
  obtain ⟨b', o', hb, hr⟩ := h i e he
  cases hb
  refine ⟨_, _, rfl, fun j v hj => ?_⟩
  have := hr j v hj
  unfold World.cell? at this ⊢
  rw [hh]
  exact this
theorem there_same {w w' : World} {b n : Nat} (h : w.there b 0 n) (hh : w'.heap[b]? = w.heap[b]?) : w'.there b 0 n := fun j hj => by
  have := h j hj
  unfold World.cell? World.frozen? at this ⊢
  rw [hh]
  exact this
theorem marks_below {w w' : World} {b n : Nat} {f : Nat → R2} (h : ∀ i, i < n → w.rangeAt b (0 + i * 2) (r2 (f i))) (hb : b < w.heap.size) (hB : Below w.heap.size w w') : ∀ i, i < n → w'.rangeAt b (0 + i * 2) (r2 (f i)) := fun i hi => range_kept (h i hi) hb _ hB
theorem mark1 (b c n : Nat) (hn : n ≤ 1048576) (w : World) (ht : w.there b 0 (n * 2)) : Calls Tryd.prog 20 #[.slice (some ⟨b, 0, none⟩) n c, .int .i64 1] w fun e w' => ∃ K : Int, (0 ≤ K ∧ K = 1 + 2 * n) ∧ e = .returned (.int .i64 K) ∧ (∀ i, i < n → w'.rangeAt b (0 + i * 2) (r2 (mkR (1 + 2 * i)))) ∧ Below b w w' ∧ w'.heap.size = w.heap.size ∧ ∀ x, x ≠ b → w'.heap[x]? = w.heap[x]? :=
  (markReadingS_any b 0 n c 1 hn (by omega) w ht).mono fun e w' h => ⟨_, ⟨by omega, by omega⟩, h.1, h.2⟩
theorem held1 (b c n : Nat) (hn : n ≤ 1000) (K : Int) (hK : 0 ≤ K ∧ K = 1 + 2 * n) (w : World) (hA : ∀ i, i < n → w.rangeAt b (0 + i * 2) (r2 (mkR (1 + 2 * i)))) : Calls Tryd.prog 21 #[.slice (some ⟨b, 0, none⟩) n c, .int .i64 1] w fun e w' => e = .returned (.int .i64 K) ∧ Below w.heap.size w w' :=
  (heldReadingS_any b 0 n c 1 hn (by omega) w hA).mono fun e w' h => ⟨by rw [h.1, hK.2]; first | rfl | (congr 2; done) | (congr 2; omega), h.2⟩
theorem mark0 (p : Option Addr) (c n : Nat) (hn : n = 0) (w : World) : Calls Tryd.prog 20 #[.slice p n c, .int .i64 1] w fun e w' => e = .returned (.int .i64 1) ∧ Below w.heap.size w w' := by
  subst hn
  exact (markReadingS_nil c 1 (by omega) p w).mono fun e w' h => ⟨h.1, by rw [h.2]; exact Below.refl _ _⟩
theorem held0 (p : Option Addr) (c n : Nat) (hn : n = 0) (w : World) : Calls Tryd.prog 21 #[.slice p n c, .int .i64 1] w fun e w' => e = .returned (.int .i64 1) ∧ Below w.heap.size w w' := by
  subst hn
  exact (heldReadingS_nil c 1 (by omega) p w).mono fun e w' h => ⟨h.1, by rw [h.2]; exact Below.refl _ _⟩
set_option maxRecDepth 100000 in
set_option maxHeartbeats 4000000 in
theorem fnExactReadingsFrom_near {s : Nat → Addr} (T S : Nat) (X Y : Int) (R : Nat) (x y : Int) (hT : T < 4294967296) (hS2 : S < 4294967296) (hX : -128 ≤ X ∧ X ≤ 127) (hY : -128 ≤ Y ∧ Y ≤ 127) (hx : -128 ≤ x ∧ x ≤ 127) (hy : -128 ≤ y ∧ y ≤ 127) (p : Option Addr) (c : Nat) (L : List Int) (hL : L.length ≤ 1048576) (w : World) (hp : IsAt w p L) (hS : Sents w s) : Calls Tryd.prog 4 #[.agg (Aq T S), .agg (Ste X Y R x y), .slice p L.length c] w fun e w' => e = .returned (.bool true) ∧ Below w.heap.size w w' := by
  have TOI := Lib.hid (fun (V : World) (h : IsAt V p L) => toInt64S_any p c L hL V h)
  have T3 := Lib.hid (fun (q : Option Addr) (c : Nat) (V : World) (h : IsAt V q L) => specRf_any T S hT hS2 X Y R x y hX hY hx hy q c L hL V h)
  have T4 := Lib.hid (fun (q : Option Addr) (c : Nat) (V : World) (h : IsAt V q L) (h2 : Sents V s) => implRf_any T S hT hS2 X Y R x y hX hY hx hy q c L hL V h h2)
  have TEI := Lib.hid (fun (p q : Option Addr) (c d : Nat) (V : World) (h1 : IsAt V p L) (h2 : IsAt V q L) => eqInt64S_is p q c d L hL V h1 h2)
  have hl40 : (rfL T S X Y R x y L).length ≤ 40 := by
    unfold rfL
    split
    · rename_i h
      unfold rfC at h
      split at h
      · split at h
        · rename_i h2
          simp only [okRs, Bool.and_eq_true, decide_eq_true_eq, tz_len] at h2
          rw [List.length_map]; exact h2.1
        · exact absurd h (by decide)
      · exact absurd h (by decide)
    · simp
  obtain ⟨kk, hk⟩ : ∃ kk, rfC T S X Y R x y L = kk := ⟨_, rfl⟩
  obtain ⟨M, hM⟩ : ∃ M, rfL T S X Y R x y L = M := ⟨_, rfl⟩
  rw [hk, hM] at T3 T4
  rw [hM] at hl40
  have TEQ := Lib.hid (fun (p q : Option Addr) (c d : Nat) (V : World) (h1 : RsAt V p M) (h2 : RsAt V q M) => eqReadingS_yes p q c d M (by omega) V h1 h2)
  obtain ⟨l, hl⟩ : ∃ l, M.length = l := ⟨_, rfl⟩
  obtain ⟨n, hn⟩ : ∃ n, L.length = n := ⟨_, rfl⟩
  have HLM := Lib.hid hl
  rw [hl] at TEQ hl40
  rw [hl, hn] at T3 T4
  rw [hn] at TOI TEI hL ⊢
  obtain ⟨z, b0, b1, B0⟩ := laid2 w (.cells (Aq T S) 34) (.cells (Ste X Y R x y) 39)
  obtain ⟨W, hW⟩ : ∃ W, (w.alloc (.cells (Aq T S) 34) |>.alloc (.cells (Ste X Y R x y) 39)) = W := ⟨_, rfl⟩
  rw [hW] at z b0 b1 B0
  have hb1 : w.heap.size < W.heap.size := by rw [z]; omega
  have hb2 : w.heap.size + 1 < W.heap.size := by rw [z]; omega
  have R0 := Lib.hid (fun V (hV : Below W.heap.size W V) => range_kept (rangeAt_row b0) hb1 _ hV)
  have R1 := Lib.hid (fun V (hV : Below W.heap.size W V) => range_kept (rangeAt_row b1) hb2 _ hV)
  have BW := Lib.hid B0
  have HS := Lib.hid hS
  have P0 := Lib.hid hp
  clear hp hS hk hM hl hn b0 b1 B0 z hb1 hb2 hT hS2 hX hY hx hy
  have BX : Below W.heap.size W W.drew := (Below.refl _ _).drew
  go_enter Tryd.func4, Tryd.ntmps4
  go_upto_region 1 with (fail)
  try rw [hW]
  clear hW
  go_wp2
  refine wp_region_plan (ops' := regOf Tryd.f4 3) (.take 0 (.take 2 (.take 4 (.run 1 (.run 3 (.run 5 (.run 6 (.take 7 (.take 8 (.take 9 (.take 10 (.take 11 .fin)))))))))))) (Below W.heap.size W) (by kernel_rfl) (by kernel_rfl) (by kernel_rfl) (by kernel_rfl) (by kernel_rfl) BX ?_
  refine plan_load (some 21) 34 (.tmp 3) w.heap.size 0 _ _ (by kernel_rfl) (by kernel_rfl) (by kernel_rfl) (by kernel_rfl) (by kernel_rfl) (fun w' hw' => R0.out w' hw') Tryd.underlying34 rfl (by kernel_rfl) ?_
  refine plan_load (some 23) 39 (.tmp 4) (w.heap.size + 1) 0 _ _ (by kernel_rfl) (by kernel_rfl) (by kernel_rfl) (by kernel_rfl) (by kernel_rfl) (fun w' hw' => R1.out w' hw') Tryd.underlying39 rfl (by kernel_rfl) ?_
  refine plan_pure (some 25) (.slice p n c) (by kernel_rfl) (by kernel_rfl) (by kernel_rfl) (fun _ => (by kernel_rfl)) ?_
  refine plan_call (some 22) 14 #[.agg (Aq T S)] (by kernel_rfl) (by kernel_rfl) (by kernel_rfl) (by kernel_rfl) (Calls.mono (toAquifer_any T S _) ?_)
  rintro _ Va ⟨rfl, ha⟩
  have BXa := BX.trans (ha.mono BX.size)
  refine ⟨_, rfl, BXa, ?_⟩
  refine plan_call (some 24) 15 #[.agg (Ste X Y R x y)] (by kernel_rfl) (by kernel_rfl) (by kernel_rfl) (by kernel_rfl) (Calls.mono (toSite_any X Y R x y _) ?_)
  rintro _ Vb ⟨rfl, hb⟩
  have BXb := BXa.trans (hb.mono BXa.size)
  refine ⟨_, rfl, BXb, ?_⟩
  refine plan_call (some 26) 16 #[.slice p n c] (by kernel_rfl) (by kernel_rfl) (by kernel_rfl) (by kernel_rfl) (Calls.mono (TOI.out _ (P0.out.keep (BW.out.trans (BXb.mono BW.out.size)))) ?_)
  rintro _ Vc ⟨b2, rfl, _, _, _, x1, hc⟩
  have BXc := BXb.trans (hc.mono BXb.size)
  refine ⟨_, rfl, BXc, ?_⟩
  refine plan_call (some 27) 13 #[.agg (Aq T S), .agg (Ste X Y R x y), .slice (some ⟨b2, 0, none⟩) n n] (by kernel_rfl) (by kernel_rfl) (by kernel_rfl) (by kernel_rfl) (Calls.mono (T3.out _ _ _ x1) ?_)
  rintro _ Vd ⟨gw, cw, rfl, ow, og, hd⟩
  have BXd := BXc.trans (hd.mono BXc.size)
  refine ⟨_, rfl, BXd, ?_⟩
  refine plan_pure (some 20) (.tuple #[.slice (some ⟨gw, 0, none⟩) l cw, .int .i64 kk]) (by kernel_rfl) (by kernel_rfl) (by kernel_rfl) (fun _ => (by kernel_rfl)) ?_
  refine plan_pure (some 28) (.slice (some ⟨gw, 0, none⟩) l cw) (by kernel_rfl) (by kernel_rfl) (by kernel_rfl) (fun _ => (by kernel_rfl)) ?_
  refine plan_pure (some 29) (.int .i64 kk) (by kernel_rfl) (by kernel_rfl) (by kernel_rfl) (fun _ => (by kernel_rfl)) ?_
  refine plan_pure (some 7) (.slice (some ⟨gw, 0, none⟩) l cw) (by kernel_rfl) (by kernel_rfl) (by kernel_rfl) (fun _ => (by kernel_rfl)) ?_
  refine plan_pure (some 8) (.int .i64 kk) (by kernel_rfl) (by kernel_rfl) (by kernel_rfl) (fun _ => (by kernel_rfl)) ?_
  refine plan_end (NoPanic.normal ?_)
  have FW := Lib.hid ow
  have HGW := Lib.hid og
  have BD := Lib.hid BXd
  clear ow og BXd BXc BXb BXa BX ha hb hc hd x1
  simp only [Act.put, List.setIfInBounds_toArray, List.set_cons_zero, List.set_cons_succ]
  go_upto_region 5 with (go_at_call 16; refine (TOI.out _ (P0.out.keep (BW.out.trans (BD.out.mono BW.out.size)))).mono ?_; rintro e V1 ⟨b3, rfl, hx1, hx2, y1, x1, hB1⟩; have BD1 := Lib.hid (BD.out.trans (hB1.mono BD.out.size)); have h3w := Lib.hid (Nat.le_trans BD.out.size hx1); have h3d := Lib.hid hx1; have h3s := Lib.hid hx2; have TX := Lib.hid y1; have FX := Lib.hid x1; have D1 := Lib.hid hB1; clear x1 y1 hx1 hx2 hB1 BD)
  have BX : Below W.heap.size W V1.drew := BD1.out.drew
  refine wp_region_plan (ops' := regOf Tryd.f4 5) (.take 0 (.take 2 (.take 4 (.run 1 (.run 3 (.run 5 (.take 6 (.take 7 (.take 8 (.take 9 (.take 10 .fin))))))))))) (Below W.heap.size W) (by kernel_rfl) (by kernel_rfl) (by kernel_rfl) (by kernel_rfl) (by kernel_rfl) BX ?_
  refine plan_load (some 33) 34 (.tmp 3) w.heap.size 0 _ _ (by kernel_rfl) (by kernel_rfl) (by kernel_rfl) (by kernel_rfl) (by kernel_rfl) (fun w' hw' => R0.out w' hw') Tryd.underlying34 rfl (by kernel_rfl) ?_
  refine plan_load (some 35) 39 (.tmp 4) (w.heap.size + 1) 0 _ _ (by kernel_rfl) (by kernel_rfl) (by kernel_rfl) (by kernel_rfl) (by kernel_rfl) (fun w' hw' => R1.out w' hw') Tryd.underlying39 rfl (by kernel_rfl) ?_
  refine plan_pure (some 37) (.slice (some ⟨b3, 0, none⟩) n n) (by kernel_rfl) (by kernel_rfl) (by kernel_rfl) (fun _ => (by kernel_rfl)) ?_
  refine plan_call (some 34) 14 #[.agg (Aq T S)] (by kernel_rfl) (by kernel_rfl) (by kernel_rfl) (by kernel_rfl) (Calls.mono (toAquifer_any T S _) ?_)
  rintro _ Va ⟨rfl, ha⟩
  have BXa := BX.trans (ha.mono BX.size)
  refine ⟨_, rfl, BXa, ?_⟩
  refine plan_call (some 36) 15 #[.agg (Ste X Y R x y)] (by kernel_rfl) (by kernel_rfl) (by kernel_rfl) (by kernel_rfl) (Calls.mono (toSite_any X Y R x y _) ?_)
  rintro _ Vb ⟨rfl, hb⟩
  have BXb := BXa.trans (hb.mono BXa.size)
  refine ⟨_, rfl, BXb, ?_⟩
  refine plan_call (some 38) 17 #[.agg (Aq T S), .agg (Ste X Y R x y), .slice (some ⟨b3, 0, none⟩) n n] (by kernel_rfl) (by kernel_rfl) (by kernel_rfl) (by kernel_rfl) (Calls.mono (T4.out _ _ _ (FX.out.keep ((Below.refl V1.heap.size V1).drew.trans (ha.trans (hb.mono ha.size)))) (HS.out.keep (BW.out.trans (BXb.mono BW.out.size)))) ?_)
  rintro _ Vd5 ⟨⟨pw, cq, rfl, ow, og⟩, hd⟩
  have BXd := BXb.trans (hd.mono BXb.size)
  refine ⟨_, rfl, BXd, ?_⟩
  refine plan_pure (some 32) (.tuple #[.slice pw l cq, .int .i64 kk]) (by kernel_rfl) (by kernel_rfl) (by kernel_rfl) (fun _ => (by kernel_rfl)) ?_
  refine plan_pure (some 39) (.slice pw l cq) (by kernel_rfl) (by kernel_rfl) (by kernel_rfl) (fun _ => (by kernel_rfl)) ?_
  refine plan_pure (some 40) (.int .i64 kk) (by kernel_rfl) (by kernel_rfl) (by kernel_rfl) (fun _ => (by kernel_rfl)) ?_
  refine plan_pure (some 10) (.slice pw l cq) (by kernel_rfl) (by kernel_rfl) (by kernel_rfl) (fun _ => (by kernel_rfl)) ?_
  refine plan_pure (some 11) (.int .i64 kk) (by kernel_rfl) (by kernel_rfl) (by kernel_rfl) (fun _ => (by kernel_rfl)) ?_
  refine plan_end (NoPanic.normal ?_)
  have D5 := Lib.hid ((Below.refl V1.heap.size V1).drew.trans ((ha.trans ((hb.trans (hd.mono hb.size)).mono ha.size)).mono (Nat.le_refl _)))
  have OQ := Lib.hid ow
  have OG := Lib.hid (show l = 0 ∨ ∃ g, pw = some ⟨g, 0, none⟩ ∧ V1.heap.size ≤ g ∧ g < Vd5.heap.size ∧ Vd5.there g 0 (l * 2) from og.elim .inl (fun ⟨g, h1, h2, h3, h4⟩ => .inr ⟨g, h1, Nat.le_trans ((Below.refl V1.heap.size V1).drew.trans (ha.trans (hb.mono ha.size))).size h2, h3, h4⟩))
  have B5 := Lib.hid BXd
  clear ow og BXd BXb BXa BX ha hb hd BD1
  simp only [Act.put, List.setIfInBounds_toArray, List.set_cons_zero, List.set_cons_succ]
  have E5 := Lib.hid (Below.refl Vd5.heap.size Vd5)
  have FW5 := Lib.hid (FW.out.keep (D1.out.trans (D5.out.mono D1.out.size)))
  have FX5 := Lib.hid (FX.out.keep D5.out)
  have TX5 := Lib.hid (there_keep TX.out h3s.out D5.out)
  have h35 := Lib.hid (Nat.lt_of_lt_of_le h3s.out D5.out.size)
  clear FW FX TX
  have t1 : True := trivial
  have t2 : True := trivial
  have t3 : True := trivial
  have t4 : True := trivial
  go_upto_region 12 with (first
    | (have _t := t1; go_at_call 12; refine (TEQ.out _ _ _ _ _ (OQ.out.keep E5.out) (FW5.out.keep E5.out)).mono ?_; rintro e V6 ⟨rfl, hB6⟩; have E6 := Lib.hid (E5.out.trans (hB6.mono E5.out.size)); clear t1 hB6 E5)
    | (have _t := t2; go_at_call 16; refine (TOI.out _ (P0.out.keep (BW.out.trans ((B5.out.trans (E6.out.mono B5.out.size)).mono BW.out.size)))).mono ?_; rintro e V7 ⟨b4, rfl, _, _, _, x1, hB7⟩; have E7 := Lib.hid (E6.out.trans (hB7.mono E6.out.size)); have FY := Lib.hid x1; clear t2 hB7 E6 x1)
    | (have _t := t3; go_at_call 18; refine (TEI.out _ _ _ _ _ (FX5.out.keep E7.out) FY.out).mono ?_; rintro e V8 ⟨rfl, hB8⟩; have E8 := Lib.hid (E7.out.trans (hB8.mono E7.out.size)); clear t3 hB8 E7 FY FX5)
    | (have _t := t4; go_at_call 19; refine (markInt64S_big b3 n n 1 hL (by omega) _ (there_keep TX5.out h35.out E8.out)).mono ?_; rintro e V9 ⟨rfl, _, hB9, hs9, hh9⟩; have HH := Lib.hid hh9; have HZ := Lib.hid hs9; have M9 := Lib.hid hB9; clear t4 hB9 hs9 hh9 TX5))
  have hgw := HGW.out
  have BW9 := Lib.hid ((B5.out.trans (E8.out.mono B5.out.size)).trans (M9.out.mono h3w.out))
  have FW9 := Lib.hid ((FW5.out.keep E8.out).same (HH.out gw (by have := h3d.out; omega)))
  have h39 := h3s.out
  have h3dd := h3d.out
  have h3ww := h3w.out
  rcases OG.out with h0 | ⟨g, hpw, hg1, hg2, hg3⟩
  · have hM0 : M = [] := List.eq_nil_of_length_eq_zero (by rw [HLM.out, h0])
    have RE := Lib.hid (fun (V : World) (q : Option Addr) => (show RsAt V q M from by rw [hM0]; exact fun i e h => by simp at h))
    have H0 := Lib.hid h0
    have F9 := Lib.hid (Below.refl V9.heap.size V9)
    clear OG OQ E8 M9 HH HZ h39 h3dd h3ww hgw B5 D5 D1 FW5 h35 h3s h3d h3w FW9 hM0 h0
    have t1 : True := trivial
    have t2 : True := trivial
    go_upto_region 22 with (first
      | (have _t := t1; go_at_call 12; refine (TEQ.out _ _ _ _ _ (RE.out _ _) (RE.out _ _)).mono ?_; rintro e V10 ⟨rfl, hB10⟩; have F10 := Lib.hid (F9.out.trans (hB10.mono F9.out.size)); clear t1 hB10 F9)
      | (have _t := t2; go_at_call 20; refine (mark0 _ _ l H0.out _).mono ?_; rintro e V11 ⟨rfl, hB11⟩; have F11 := Lib.hid (F10.out.trans (hB11.mono F10.out.size)); clear t2 hB11 F10)
      | (go_at_call 21; refine (held0 _ _ l H0.out _).mono ?_; rintro e V12 ⟨rfl, hB12⟩; have F12 := Lib.hid (F11.out.trans (hB12.mono F11.out.size)); clear hB12 F11))
    have BX : Below W.heap.size W V12.drew := (BW9.out.trans (F12.out.mono BW9.out.size)).drew
    refine wp_region_plan (ops' := regOf Tryd.f4 22) (.take 0 (.take 2 (.take 4 (.run 1 (.run 3 (.run 5 (.run 6 (.take 7 (.take 8 (.take 9 (.take 10 (.take 11 .fin)))))))))))) (Below W.heap.size W) (by kernel_rfl) (by kernel_rfl) (by kernel_rfl) (by kernel_rfl) (by kernel_rfl) BX ?_
    refine plan_load (some 83) 34 (.tmp 3) w.heap.size 0 _ _ (by kernel_rfl) (by kernel_rfl) (by kernel_rfl) (by kernel_rfl) (by kernel_rfl) (fun w' hw' => R0.out w' hw') Tryd.underlying34 rfl (by kernel_rfl) ?_
    refine plan_load (some 85) 39 (.tmp 4) (w.heap.size + 1) 0 _ _ (by kernel_rfl) (by kernel_rfl) (by kernel_rfl) (by kernel_rfl) (by kernel_rfl) (fun w' hw' => R1.out w' hw') Tryd.underlying39 rfl (by kernel_rfl) ?_
    refine plan_pure (some 87) (.slice p n c) (by kernel_rfl) (by kernel_rfl) (by kernel_rfl) (fun _ => (by kernel_rfl)) ?_
    refine plan_call (some 84) 14 #[.agg (Aq T S)] (by kernel_rfl) (by kernel_rfl) (by kernel_rfl) (by kernel_rfl) (Calls.mono (toAquifer_any T S _) ?_)
    rintro _ Va ⟨rfl, ha⟩
    have BXa := BX.trans (ha.mono BX.size)
    refine ⟨_, rfl, BXa, ?_⟩
    refine plan_call (some 86) 15 #[.agg (Ste X Y R x y)] (by kernel_rfl) (by kernel_rfl) (by kernel_rfl) (by kernel_rfl) (Calls.mono (toSite_any X Y R x y _) ?_)
    rintro _ Vb ⟨rfl, hb⟩
    have BXb := BXa.trans (hb.mono BXa.size)
    refine ⟨_, rfl, BXb, ?_⟩
    refine plan_call (some 88) 16 #[.slice p n c] (by kernel_rfl) (by kernel_rfl) (by kernel_rfl) (by kernel_rfl) (Calls.mono (TOI.out _ (P0.out.keep (BW.out.trans (BXb.mono BW.out.size)))) ?_)
    rintro _ Vc ⟨b2, rfl, _, _, _, x1, hc⟩
    have BXc := BXb.trans (hc.mono BXb.size)
    refine ⟨_, rfl, BXc, ?_⟩
    refine plan_call (some 89) 17 #[.agg (Aq T S), .agg (Ste X Y R x y), .slice (some ⟨b2, 0, none⟩) n n] (by kernel_rfl) (by kernel_rfl) (by kernel_rfl) (by kernel_rfl) (Calls.mono (T4.out _ _ _ x1 (HS.out.keep (BW.out.trans (BXc.mono BW.out.size)))) ?_)
    rintro _ Vz ⟨⟨pw, cw, rfl, ow, og⟩, hd⟩
    have BXd := BXc.trans (hd.mono BXc.size)
    refine ⟨_, rfl, BXd, ?_⟩
    refine plan_pure (some 82) (.tuple #[.slice pw l cw, .int .i64 kk]) (by kernel_rfl) (by kernel_rfl) (by kernel_rfl) (fun _ => (by kernel_rfl)) ?_
    refine plan_pure (some 90) (.slice pw l cw) (by kernel_rfl) (by kernel_rfl) (by kernel_rfl) (fun _ => (by kernel_rfl)) ?_
    refine plan_pure (some 91) (.int .i64 kk) (by kernel_rfl) (by kernel_rfl) (by kernel_rfl) (fun _ => (by kernel_rfl)) ?_
    refine plan_pure (some 15) (.slice pw l cw) (by kernel_rfl) (by kernel_rfl) (by kernel_rfl) (fun _ => (by kernel_rfl)) ?_
    refine plan_pure (some 16) (.int .i64 kk) (by kernel_rfl) (by kernel_rfl) (by kernel_rfl) (fun _ => (by kernel_rfl)) ?_
    refine plan_end (NoPanic.normal ?_)
    have BZ := Lib.hid BXd
    clear ow og BXd BXc BXb BXa BX ha hb hc hd x1 BW9 F12
    simp only [Act.put, List.setIfInBounds_toArray, List.set_cons_zero, List.set_cons_succ]
    go_wp2_with (first
      | (go_at_call 12; refine (TEQ.out _ _ _ _ _ (RE.out _ _) (RE.out _ _)).mono ?_; rintro e V23 ⟨rfl, hB23⟩; have F23 := Lib.hid hB23; clear hB23)
      | (go_at_call 21; refine (held0 _ _ l H0.out _).mono ?_; rintro e V24 ⟨rfl, hB24⟩; have F24 := Lib.hid (F23.out.trans (hB24.mono F23.out.size)); clear hB24))
    go_ret
    exact ⟨rfl, BW.out.trans ((BZ.out.trans (F24.out.mono BZ.out.size)).mono BW.out.size)⟩
  · subst hpw
    have hne : g ≠ b3 := by omega
    have OQ9 := Lib.hid ((OQ.out.keep E8.out).same (HH.out g hne))
    have TQ9 := Lib.hid (there_same (there_keep hg3 hg2 E8.out) (HH.out g hne))
    have hg9 : g < V9.heap.size := by rw [HZ.out]; exact Nat.lt_of_lt_of_le hg2 E8.out.size
    have G9 := Lib.hid hg9
    have hgne : gw ≠ g := by omega
    have hWg := Lib.hid (show W.heap.size ≤ g by omega)
    have G0 := Lib.hid hgne
    have F9 := Lib.hid (Below.refl V9.heap.size V9)
    clear OG OQ E8 M9 HH HZ hg3 hg2 hg1 hne hg9 hgne h39 h3dd h3ww hgw B5 D5 D1 FW5 h35 h3s h3d h3w
    have t1 : True := trivial
    have t2 : True := trivial
    go_upto_region 22 with (first
      | (have _t := t1; go_at_call 12; refine (TEQ.out _ _ _ _ _ (OQ9.out.keep F9.out) (FW9.out.keep F9.out)).mono ?_; rintro e V10 ⟨rfl, hB10⟩; have F10 := Lib.hid (F9.out.trans (hB10.mono F9.out.size)); clear t1 hB10 F9)
      | (have _t := t2; go_at_call 20; refine (mark1 g cq l (by omega) _ (there_keep TQ9.out G9.out F10.out)).mono ?_; rintro e V11 ⟨KK, hKK, rfl, mk, hB11, hs11, hh11⟩; have MK := Lib.hid mk; have HK := Lib.hid hKK; have hk0 : 0 ≤ KK := hKK.1; have BW11 := Lib.hid ((BW9.out.trans (F10.out.mono BW9.out.size)).trans (hB11.mono hWg.out)); have G11 := Lib.hid (show g < V11.heap.size by rw [hs11]; exact Nat.lt_of_lt_of_le G9.out F10.out.size); have FW11 := Lib.hid ((FW9.out.keep F10.out).same (hh11 gw G0.out)); clear t2 mk hKK hB11 hs11 hh11 F10 TQ9 OQ9 FW9 BW9 G9)
      | (go_at_call 21; refine (held1 g cq l (by omega) KK HK.out _ MK.out).mono ?_; rintro e V12 ⟨rfl, hB12⟩; have H12 := Lib.hid hB12; clear hB12))
    have BX : Below W.heap.size W V12.drew := (BW11.out.trans (H12.out.mono BW11.out.size)).drew
    refine wp_region_plan (ops' := regOf Tryd.f4 22) (.take 0 (.take 2 (.take 4 (.run 1 (.run 3 (.run 5 (.run 6 (.take 7 (.take 8 (.take 9 (.take 10 (.take 11 .fin)))))))))))) (Below W.heap.size W) (by kernel_rfl) (by kernel_rfl) (by kernel_rfl) (by kernel_rfl) (by kernel_rfl) BX ?_
    refine plan_load (some 83) 34 (.tmp 3) w.heap.size 0 _ _ (by kernel_rfl) (by kernel_rfl) (by kernel_rfl) (by kernel_rfl) (by kernel_rfl) (fun w' hw' => R0.out w' hw') Tryd.underlying34 rfl (by kernel_rfl) ?_
    refine plan_load (some 85) 39 (.tmp 4) (w.heap.size + 1) 0 _ _ (by kernel_rfl) (by kernel_rfl) (by kernel_rfl) (by kernel_rfl) (by kernel_rfl) (fun w' hw' => R1.out w' hw') Tryd.underlying39 rfl (by kernel_rfl) ?_
    refine plan_pure (some 87) (.slice p n c) (by kernel_rfl) (by kernel_rfl) (by kernel_rfl) (fun _ => (by kernel_rfl)) ?_
    refine plan_call (some 84) 14 #[.agg (Aq T S)] (by kernel_rfl) (by kernel_rfl) (by kernel_rfl) (by kernel_rfl) (Calls.mono (toAquifer_any T S _) ?_)
    rintro _ Va ⟨rfl, ha⟩
    have BXa := BX.trans (ha.mono BX.size)
    refine ⟨_, rfl, BXa, ?_⟩
    refine plan_call (some 86) 15 #[.agg (Ste X Y R x y)] (by kernel_rfl) (by kernel_rfl) (by kernel_rfl) (by kernel_rfl) (Calls.mono (toSite_any X Y R x y _) ?_)
    rintro _ Vb ⟨rfl, hb⟩
    have BXb := BXa.trans (hb.mono BXa.size)
    refine ⟨_, rfl, BXb, ?_⟩
    refine plan_call (some 88) 16 #[.slice p n c] (by kernel_rfl) (by kernel_rfl) (by kernel_rfl) (by kernel_rfl) (Calls.mono (TOI.out _ (P0.out.keep (BW.out.trans (BXb.mono BW.out.size)))) ?_)
    rintro _ Vc ⟨b2, rfl, _, _, _, x1, hc⟩
    have BXc := BXb.trans (hc.mono BXb.size)
    refine ⟨_, rfl, BXc, ?_⟩
    refine plan_call (some 89) 17 #[.agg (Aq T S), .agg (Ste X Y R x y), .slice (some ⟨b2, 0, none⟩) n n] (by kernel_rfl) (by kernel_rfl) (by kernel_rfl) (by kernel_rfl) (Calls.mono (T4.out _ _ _ x1 (HS.out.keep (BW.out.trans (BXc.mono BW.out.size)))) ?_)
    rintro _ Vz ⟨⟨pw, cw, rfl, ow, og⟩, hd⟩
    have BXd := BXc.trans (hd.mono BXc.size)
    refine ⟨_, rfl, BXd, ?_⟩
    refine plan_pure (some 82) (.tuple #[.slice pw l cw, .int .i64 kk]) (by kernel_rfl) (by kernel_rfl) (by kernel_rfl) (fun _ => (by kernel_rfl)) ?_
    refine plan_pure (some 90) (.slice pw l cw) (by kernel_rfl) (by kernel_rfl) (by kernel_rfl) (fun _ => (by kernel_rfl)) ?_
    refine plan_pure (some 91) (.int .i64 kk) (by kernel_rfl) (by kernel_rfl) (by kernel_rfl) (fun _ => (by kernel_rfl)) ?_
    refine plan_pure (some 15) (.slice pw l cw) (by kernel_rfl) (by kernel_rfl) (by kernel_rfl) (fun _ => (by kernel_rfl)) ?_
    refine plan_pure (some 16) (.int .i64 kk) (by kernel_rfl) (by kernel_rfl) (by kernel_rfl) (fun _ => (by kernel_rfl)) ?_
    refine plan_end (NoPanic.normal ?_)
    have hz := (Below.refl V12.heap.size V12).drew.trans ((ha.trans ((hb.trans ((hc.trans (hd.mono hc.size)).mono hb.size)).mono ha.size)).mono (Nat.le_refl _))
    have OZ := Lib.hid ow
    have BZ := Lib.hid BXd
    have FWz := Lib.hid (FW11.out.keep (H12.out.trans (hz.mono H12.out.size)))
    have MKz := Lib.hid (marks_below MK.out G11.out (H12.out.trans (hz.mono H12.out.size)))
    have Gz := Lib.hid (Nat.lt_of_lt_of_le G11.out (H12.out.trans (hz.mono H12.out.size)).size)
    clear ow og BXd BXc BXb BXa BX ha hb hc hd hz x1 FW11 MK BW11 H12
    simp only [Act.put, List.setIfInBounds_toArray, List.set_cons_zero, List.set_cons_succ]
    go_wp2_with (first
      | (go_at_call 12; refine (TEQ.out _ _ _ _ _ OZ.out FWz.out).mono ?_; rintro e V23 ⟨rfl, hB23⟩; have F23 := Lib.hid hB23; clear hB23)
      | (go_at_call 21; refine (held1 g cq l (by omega) KK HK.out _ (marks_below MKz.out Gz.out F23.out)).mono ?_; rintro e V24 ⟨rfl, hB24⟩; have F24 := Lib.hid (F23.out.trans (hB24.mono F23.out.size)); clear hB24))
    go_ret
    exact ⟨rfl, BW.out.trans ((BZ.out.trans (F24.out.mono BZ.out.size)).mono BW.out.size)⟩
end Go.Proofs.YtbiknpfcemfoeaaDoor
