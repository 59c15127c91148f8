/- The law FnExactWithImages of this commit, its walk. Condition: none. -/
import Derived.Test.YtdhgehmnjoclaaaWic
import Derived.Test.YtdhgehmnjoclaaaMk
namespace Go.Proofs.Ytdhgehmnjoclaaa
open Go Go.ChangeShapes Go.WideShapes Go.ChangeAt Go.RowKit
set_option linter.unusedSimpArgs false
set_option linter.unusedVariables false
attribute [local go_sem] run_store_f32
theorem markWellS_nil (c : Nat) (k0 : Nat) (hk : k0 ≤ 1048576) (p : Option Addr) (w : World) :
    Calls Try.prog 9 #[.slice p 0 c, .int .i64 (k0 : Int)] w fun e w' => e = .returned (.int .i64 (k0 : Int)) ∧ w' = w := by
  go_enter Try.func9, Try.ntmps9
  go_wp2
  refine wp_loop_rounds 1 ?_
  rw [rounds_succ]
  go_wp2
  go_ret
  exact ⟨rfl, rfl⟩
theorem heldWellS_nil (c : Nat) (k0 : Nat) (hk : k0 ≤ 1048576) (p : Option Addr) (w : World) :
    Calls Try.prog 10 #[.slice p 0 c, .int .i64 (k0 : Int)] w fun e w' => e = .returned (.int .i64 (k0 : Int)) ∧ w' = w := by
  go_enter Try.func10, Try.ntmps10
  go_wp2
  refine wp_loop_rounds 1 ?_
  rw [rounds_succ]
  go_wp2
  go_ret
  exact ⟨rfl, rfl⟩
theorem szWellS_yes (p : Option Addr) (n c l : Nat) (h : n ≤ l) (hl : l ≤ 1048576) (w : World) : Calls Try.prog 4 #[.slice p n c, .int .i64 (l : Int)] w fun e w' => e = .returned (.int .i64 ((l : Int) - n)) ∧ w' = w := by
  go_enter Try.func4, Try.ntmps4
  go_wp2
  go_ret
  exact ⟨rfl, rfl⟩
theorem szWellS_no (p : Option Addr) (n c l : Nat) (h : l < n) (hl : l ≤ 1048576) (hn : n ≤ maxLen) (w : World) : Calls Try.prog 4 #[.slice p n c, .int .i64 (l : Int)] w fun e w' => e = .returned (.int .i64 (-1)) ∧ w' = w := by
  unfold maxLen at hn
  go_enter Try.func4, Try.ntmps4
  go_wp2
  go_ret
  exact ⟨rfl, rfl⟩

set_option maxRecDepth 100000 in
set_option maxHeartbeats 1000000 in
theorem toWellS_th (p : Option Addr) (c : Nat) (L : List W3) (hL : L.length ≤ 1048576) (w : World) (hp : WsAt w p L) :
    Calls Try.prog 6 #[.slice p L.length c] w fun e w' => ∃ b, e = .returned (.slice (some ⟨b, 0, none⟩) L.length L.length) ∧ w.heap.size ≤ b ∧ b < w'.heap.size ∧ WsAt w' (some ⟨b, 0, none⟩) L ∧ w'.there b 0 (L.length * 3) ∧ Below w.heap.size w w' := by
  have P0 := Lib.hid hp
  obtain ⟨n, hn⟩ : ∃ n, L.length = n := ⟨_, rfl⟩
  have HN := Lib.hid hn
  rw [hn] at hL ⊢
  obtain ⟨C, hC, hmk⟩ := makeWs n hL
  clear hp hn
  go_enter Try.func6, Try.ntmps6
  go_wp2
  go_loopw [4] (fun i wr => ∃ k : Nat, k ≤ n ∧ i = .int .i64 k ∧ Hid (wr.there w.heap.size 0 (n * 3)) ∧ Hid (w.heap.size < wr.heap.size) ∧ Hid (∀ j e, j < k → L[j]? = some e → wr.rangeAt w.heap.size (0 + j * 3) (w3 e)) ∧ Hid (Below w.heap.size w wr)) (fun i _ => n - (intOf i).toNat)
  case atStart =>
    exact ⟨0, by omega, rfl, Lib.hid (there_row (heap_alloc_last w _) hC), Lib.hid (by simp), Lib.hid (fun j _ hj => absurd hj (by omega)), Lib.hid ((Below.refl _ _).alloc (Nat.le_refl _) _)⟩
  case round =>
    obtain ⟨k, hk, rfl, hT, hS, hA, hB⟩ := hrel
    by_cases hlt : k < n
    · have hki : (k : Int) < n := by omega
      obtain ⟨e, he⟩ : ∃ e, L[k]? = some e := ⟨_, List.getElem?_eq_getElem (by rw [HN.out]; exact hlt)⟩
      obtain ⟨b, o, rfl, hr⟩ := (P0.out.keep hB.out) k e he
      have R1 := Lib.hid hr
      have HE := Lib.hid he
      have T0 := fun V => toWell_any e.1 e.2.1 e.2.2 V
      have c0 : wr.cell? ⟨b, o + k * 3, none⟩ = some (.int .i8 e.1) := hr 0 _ rfl
      have c1 : wr.cell? ⟨b, o + k * 3 + 1, none⟩ = some (.int .i8 e.2.1) := hr 1 _ rfl
      have c2 : wr.cell? ⟨b, o + k * 3 + 2, none⟩ = some (.float .f32 e.2.2) := hr 2 _ rfl
      simp only [We] at T0
      clear hr he
      go_wp2_with (first | (go_at_call 13; refine (T0 _).mono ?_; rintro x V1 ⟨rfl, hq1⟩; have Q1 := Lib.hid hq1; have TH := Lib.hid (there_keep hT.out hS.out hq1); clear hq1 c0 c1 c2) | (refine wpList_store_mid rfl 35 _ _ rfl w.heap.size (k * 3) #[.int .i8 e.1, .int .i8 e.2.1, .float .f32 e.2.2] rfl rfl (there_part TH.out (show k * 3 + 3 ≤ n * 3 by omega)) (by kernel_rfl) (we_one e) ?_; obtain ⟨V2, hV2⟩ : ∃ V2, V1.setCells w.heap.size (k * 3) [.int .i8 e.1, .int .i8 e.2.1, .float .f32 e.2.2] = V2 := ⟨_, rfl⟩; try rw [hV2]; have HV := Lib.hid hV2; clear hV2))
      have HC := copied hlt hS.out hA.out hB.out HE.out Q1.out TH.out HV.out
      go_roundw
      case rel => exact ⟨k + 1, by omega, by go_num, Lib.hid HC.1, Lib.hid HC.2.1, Lib.hid HC.2.2.1, Lib.hid HC.2.2.2⟩
      case measure => simp [intOf]; omega
    · obtain rfl : k = n := by omega
      go_wp2
      go_ret
      exact ⟨_, rfl, Nat.le_refl _, hS.out, fun i e he => ⟨_, _, rfl, hA.out i e (by rw [← HN.out]; exact (List.getElem?_eq_some_iff.1 he).1) he⟩, hT.out, hB.out⟩
theorem WsAt.same {w w' : World} {b : Nat} {M : List W3} (h : WsAt w (some ⟨b, 0, none⟩) M) (hh : w'.heap[b]? = w.heap[b]?) : WsAt w' (some ⟨b, 0, none⟩) M := fun i e he => by
  obtain ⟨b', o', hb, hr⟩ := h i e he
  cases hb
  refine ⟨_, _, rfl, fun j v hj => ?_⟩
  have := hr j v hj
  unfold World.cell? at this ⊢
  rw [hh]
  exact this
theorem there_same {w w' : World} {b n : Nat} (h : w.there b 0 n) (hh : w'.heap[b]? = w.heap[b]?) : w'.there b 0 n := fun j hj => by
  have := h j hj
  unfold World.cell? World.frozen? at this ⊢
  rw [hh]
  exact this
theorem marks_below {w w' : World} {b n : Nat} {f : Nat → W3} (h : ∀ i, i < n → w.rangeAt b (0 + i * 3) (w3 (f i))) (hb : b < w.heap.size) (hB : Below w.heap.size w w') : ∀ i, i < n → w'.rangeAt b (0 + i * 3) (w3 (f i)) := fun i hi => range_kept (h i hi) hb _ hB
set_option maxRecDepth 100000 in
set_option maxHeartbeats 2000000 in
theorem fnExactWithImages_far (p : Option Addr) (n c : Nat) (tw : Int) (river : Bool) (hn : 1048576 < n) (hx : n ≤ maxLen) (w : World) : Calls Try.prog 3 #[.slice p n c, .int .i64 tw, .bool river] w fun e w' => e = .returned (.bool true) ∧ Below w.heap.size w w' := by
  have T := fun V => szWellS_no p n c 1048576 hn (by omega) hx V
  clear hn hx
  go_enter Try.func3, Try.ntmps3
  go_wp2_with (go_at_call 4; refine (T _).mono ?_; rintro e V ⟨rfl, hV⟩; rw [hV]; clear hV)
  go_ret
  exact ⟨rfl, Below.refl _ _⟩

theorem mark1 (b c n : Nat) (hn : n ≤ 1048576) (w : World) (ht : w.there b 0 (n * 3)) : Calls Try.prog 9 #[.slice (some ⟨b, 0, none⟩) n c, .int .i64 1] w fun e w' => ∃ K : Int, (0 ≤ K ∧ K = 1 + 3 * n) ∧ e = .returned (.int .i64 K) ∧ (∀ i, i < n → w'.rangeAt b (0 + i * 3) (w3 (mkW (1 + 3 * i)))) ∧ Below b w w' ∧ w'.heap.size = w.heap.size ∧ ∀ x, x ≠ b → w'.heap[x]? = w.heap[x]? :=
  (markWellS_any b 0 n c 1 hn (by omega) w ht).mono fun e w' h => ⟨_, ⟨by omega, by omega⟩, h.1, h.2⟩
theorem held1 (b c n : Nat) (hn : n ≤ 1000) (K : Int) (hK : 0 ≤ K ∧ K = 1 + 3 * n) (w : World) (hA : ∀ i, i < n → w.rangeAt b (0 + i * 3) (w3 (mkW (1 + 3 * i)))) : Calls Try.prog 10 #[.slice (some ⟨b, 0, none⟩) n c, .int .i64 1] w fun e w' => e = .returned (.int .i64 K) ∧ Below w.heap.size w w' :=
  (heldWellS_any b 0 n c 1 hn (by omega) w hA).mono fun e w' h => ⟨by rw [h.1, hK.2]; first | rfl | (congr 2; done) | (congr 2; omega), h.2⟩
theorem mark0 (p : Option Addr) (c n : Nat) (hn : n = 0) (w : World) : Calls Try.prog 9 #[.slice p n c, .int .i64 1] w fun e w' => e = .returned (.int .i64 1) ∧ Below w.heap.size w w' := by
  subst hn
  exact (markWellS_nil c 1 (by omega) p w).mono fun e w' h => ⟨h.1, by rw [h.2]; exact Below.refl _ _⟩
theorem held0 (p : Option Addr) (c n : Nat) (hn : n = 0) (w : World) : Calls Try.prog 10 #[.slice p n c, .int .i64 1] w fun e w' => e = .returned (.int .i64 1) ∧ Below w.heap.size w w' := by
  subst hn
  exact (heldWellS_nil c 1 (by omega) p w).mono fun e w' h => ⟨h.1, by rw [h.2]; exact Below.refl _ _⟩
set_option maxRecDepth 100000 in
set_option maxHeartbeats 1000000 in
theorem fnExactWithImages_near (p : Option Addr) (c : Nat) (L : List W3) (tw : Int) (river : Bool) (hn : L.length ≤ 1048576) (hO : ∀ e ∈ L, okW3 e) (w : World) (hp : WsAt w p L) : Calls Try.prog 3 #[.slice p L.length c, .int .i64 tw, .bool river] w fun e w' => e = .returned (.bool true) ∧ Below w.heap.size w w' := by
  have TS := fun V => szWellS_yes p L.length c 1048576 hn (by omega) V
  have e1 : ((1048576 : Nat) : Int) - (L.length : Int) = ((1048576 - L.length : Nat) : Int) := by omega
  simp only [e1] at TS
  obtain ⟨l, hl⟩ : ∃ l, 1048576 - L.length = l := ⟨_, rfl⟩
  have hL := Lib.hid hn
  rw [hl] at TS
  have hl2 : l ≤ 1048576 := by omega
  obtain ⟨M, hMe⟩ : ∃ M, wiV L tw river = M := ⟨_, rfl⟩
  have eM := hMe
  have hM4 : M.length ≤ 12 := by
    rw [← hMe]
    unfold wiV
    split
    · rename_i h
      have h6 : L.length ≤ 6 := by
        unfold wiK at h
        split at h
        · cases h
        · split at h
          · cases h
          · omega
      simp; omega
    · simp
  have hM := Lib.hid (show M.length ≤ 1048576 by omega)
  have hM40 := Lib.hid (show M.length ≤ 1000 by omega)
  obtain ⟨kk, hkk⟩ : ∃ kk, wiK L tw = kk := ⟨_, rfl⟩
  have specWi_any := fun (ab ao c : Nat) (L' : List W3) (hL : L.length ≤ 1048576) (hO : ∀ e ∈ L, okW3 e) (w : World) (hp : WsAt w (some ⟨ab, ao, none⟩) L) => specWi_any ⟨ab, ao, none⟩ c L tw river hL hO w hp
  have implWi_any := fun (ab ao c : Nat) (L' : List W3) (hL : L.length ≤ 1048576) (hO : ∀ e ∈ L, okW3 e) (w : World) (hp : WsAt w (some ⟨ab, ao, none⟩) L) (hb : ab < w.heap.size) => implWi_any ab ao c L tw river hL hO w hp hb
  simp only [WiP] at specWi_any implWi_any
  simp only [hMe, hkk] at specWi_any implWi_any
  have HP := Lib.hid hp
  have HO := Lib.hid hO
  have BW0 := Lib.hid (Below.refl w.heap.size w)
  clear hp hn e1 hl hO hkk
  have t0 : True := trivial
  have t1 : True := trivial
  have t2 : True := trivial
  have t3 : True := trivial
  have t4 : True := trivial
  have t5 : True := trivial
  have t6 : True := trivial
  have t7 : True := trivial
  have t8 : True := trivial
  have t9 : True := trivial
  have t10 : True := trivial
  have t11 : True := trivial
  have t12 : True := trivial
  have t13 : True := trivial
  have t14 : True := trivial
  have t15 : True := trivial
  by_cases hne : M = []
  · have HEMP := Lib.hid hne
    have HM0 := Lib.hid (show M.length = 0 by rw [hne]; rfl)
    clear hMe eM hM4 hne
    go_enter Try.func3, Try.ntmps3
    go_wp2_with (first | (have _t := t0; go_at_call 4; refine (TS _).mono ?_; rintro e V ⟨rfl, hV⟩; rw [hV]; clear hV t0) | (have _t := t1; go_at_call 6; refine (toWellS_th p c L hL.out _ (HP.out.keep BW0.out)).mono ?_; rintro e V1 ⟨b1, rfl, _, _, x1, y1, hB1⟩; have BW_1 := Lib.hid (BW0.out.trans (hB1.mono BW0.out.size)); have X1 := Lib.hid x1; clear t1 hB1 BW0 x1 y1) | (have _t := t2; go_at_call 5; refine (specWi_any b1 0 _ L hL.out HO.out _ X1.out).mono ?_; rintro e V2 ⟨pw, cw, rfl, rw1, mw, hB2⟩; have BW_2 := Lib.hid (BW_1.out.trans (hB2.mono BW_1.out.size)); have FW := Lib.hid rw1; have MW := Lib.hid mw; have B2 := Lib.hid (Below.refl V2.heap.size V2); clear t2 hB2 BW_1 rw1 mw X1) | (have _t := t3; go_at_call 6; refine (toWellS_th p c L hL.out _ (HP.out.keep BW_2.out)).mono ?_; rintro e V3 ⟨bx, rfl, hx1, hx2, x1, y1, hB3⟩; have BW_3 := Lib.hid (BW_2.out.trans (hB3.mono BW_2.out.size)); have B2_3 := Lib.hid (B2.out.trans (hB3.mono B2.out.size)); have hxw := Lib.hid (Nat.le_trans BW_2.out.size hx1); have hxb := Lib.hid (Nat.le_trans B2.out.size hx1); have HX2 := Lib.hid hx2; have FX := Lib.hid x1; have TX := Lib.hid y1; have B3 := Lib.hid (Below.refl V3.heap.size V3); clear t3 hB3 BW_2 B2 x1 y1 hx1 hx2) | (have _t := t4; go_at_call 7; refine (implWi_any bx 0 _ L hL.out HO.out _ FX.out HX2.out).mono ?_; rintro e V4 ⟨pg, cg, rfl, rg1, mg, hB4⟩; have BW_4 := Lib.hid (BW_3.out.trans (hB4.mono BW_3.out.size)); have B2_4 := Lib.hid (B2_3.out.trans (hB4.mono B2_3.out.size)); have B3_4 := Lib.hid (B3.out.trans (hB4.mono B3.out.size)); have FG := Lib.hid rg1; have MG := Lib.hid mg; have B4 := Lib.hid (Below.refl V4.heap.size V4); clear t4 hB4 BW_3 B2_3 B3 rg1 mg) | (have _t := t5; go_at_call 8; refine (eqWellS_yes _ _ _ _ M hM.out _ (FG.out.keep B4.out) (FW.out.keep B2_4.out)).mono ?_; rintro e V5 ⟨rfl, hB5⟩; have BW_5 := Lib.hid (BW_4.out.trans (hB5.mono BW_4.out.size)); have B2_5 := Lib.hid (B2_4.out.trans (hB5.mono B2_4.out.size)); have B3_5 := Lib.hid (B3_4.out.trans (hB5.mono B3_4.out.size)); have B4_5 := Lib.hid (B4.out.trans (hB5.mono B4.out.size)); clear t5 hB5 BW_4 B2_4 B3_4 B4) | (have _t := t6; go_at_call 6; refine (toWellS_th p c L hL.out _ (HP.out.keep BW_5.out)).mono ?_; rintro e V6 ⟨ba, rfl, _, _, x1, y1, hB6⟩; have BW_6 := Lib.hid (BW_5.out.trans (hB6.mono BW_5.out.size)); have B2_6 := Lib.hid (B2_5.out.trans (hB6.mono B2_5.out.size)); have B3_6 := Lib.hid (B3_5.out.trans (hB6.mono B3_5.out.size)); have B4_6 := Lib.hid (B4_5.out.trans (hB6.mono B4_5.out.size)); have XA := Lib.hid x1; clear t6 hB6 BW_5 B2_5 B3_5 B4_5 x1 y1) | (have _t := t7; go_at_call 8; refine (eqWellS_yes _ _ _ _ L hL.out _ (FX.out.keep B3_6.out) XA.out).mono ?_; rintro e V7 ⟨rfl, hB7⟩; have BW_7 := Lib.hid (BW_6.out.trans (hB7.mono BW_6.out.size)); have B2_7 := Lib.hid (B2_6.out.trans (hB7.mono B2_6.out.size)); have B3_7 := Lib.hid (B3_6.out.trans (hB7.mono B3_6.out.size)); have B4_7 := Lib.hid (B4_6.out.trans (hB7.mono B4_6.out.size)); clear t7 hB7 BW_6 B2_6 B3_6 B4_6 XA) | (have _t := t8; go_at_call 9; refine (mark1 bx _ L.length hL.out _ (there_keep TX.out HX2.out B3_7.out)).mono ?_; rintro e V8 ⟨K1, hK1, rfl, _, hB8, hs8, hh8⟩; have BW_8 := Lib.hid (BW_7.out.trans (hB8.mono hxw.out)); have B2_8 := Lib.hid (B2_7.out.trans (hB8.mono hxb.out)); clear t8 hB8 hs8 hh8 BW_7 B2_7 B3_7 B4_7) | (have _t := t9; go_at_call 8; refine (eqWellS_yes _ _ _ _ M hM.out _ (fun i e he => absurd he (by rw [HEMP.out]; simp)) (FW.out.keep B2_8.out)).mono ?_; rintro e V9 ⟨rfl, hB9⟩; have BW_9 := Lib.hid (BW_8.out.trans (hB9.mono BW_8.out.size)); have B2_9 := Lib.hid (B2_8.out.trans (hB9.mono B2_8.out.size)); clear t9 hB9 BW_8 B2_8) | (have _t := t10; go_at_call 9; refine (mark0 _ _ M.length HM0.out _).mono ?_; rintro e V10 ⟨rfl, hB10⟩; have BW_10 := Lib.hid (BW_9.out.trans (hB10.mono BW_9.out.size)); have B2_10 := Lib.hid (B2_9.out.trans (hB10.mono B2_9.out.size)); clear t10 hB10 BW_9 B2_9) | (have _t := t11; go_at_call 10; refine (held0 _ _ M.length HM0.out _).mono ?_; rintro e V11 ⟨rfl, hB11⟩; have BW_11 := Lib.hid (BW_10.out.trans (hB11.mono BW_10.out.size)); have B2_11 := Lib.hid (B2_10.out.trans (hB11.mono B2_10.out.size)); clear t11 hB11 BW_10 B2_10) | (have _t := t12; go_at_call 6; refine (toWellS_th p c L hL.out _ (HP.out.keep BW_11.out)).mono ?_; rintro e V12 ⟨bc, rfl, _, hcc, x1, y1, hB12⟩; have HCC := Lib.hid hcc; clear hcc; have BW_12 := Lib.hid (BW_11.out.trans (hB12.mono BW_11.out.size)); have B2_12 := Lib.hid (B2_11.out.trans (hB12.mono B2_11.out.size)); have XC := Lib.hid x1; clear t12 hB12 BW_11 B2_11 x1 y1) | (have _t := t13; go_at_call 7; refine (implWi_any bc 0 _ L hL.out HO.out _ XC.out HCC.out).mono ?_; rintro e V13 ⟨ph, ch, rfl, rh1, mh, hB13⟩; have BW_13 := Lib.hid (BW_12.out.trans (hB13.mono BW_12.out.size)); have B2_13 := Lib.hid (B2_12.out.trans (hB13.mono B2_12.out.size)); have FH := Lib.hid rh1; have B13 := Lib.hid (Below.refl V13.heap.size V13); clear t13 hB13 BW_12 B2_12 rh1 mh XC) | (have _t := t14; go_at_call 8; refine (eqWellS_yes _ _ _ _ M hM.out _ (FH.out.keep B13.out) (FW.out.keep B2_13.out)).mono ?_; rintro e V14 ⟨rfl, hB14⟩; have BW_14 := Lib.hid (BW_13.out.trans (hB14.mono BW_13.out.size)); have B2_14 := Lib.hid (B2_13.out.trans (hB14.mono B2_13.out.size)); have B13_14 := Lib.hid (B13.out.trans (hB14.mono B13.out.size)); clear t14 hB14 BW_13 B2_13 B13) | (have _t := t15; go_at_call 10; refine (held0 _ _ M.length HM0.out _).mono ?_; rintro e V15 ⟨rfl, hB15⟩; have BW_15 := Lib.hid (BW_14.out.trans (hB15.mono BW_14.out.size)); have B2_15 := Lib.hid (B2_14.out.trans (hB15.mono B2_14.out.size)); have B13_15 := Lib.hid (B13_14.out.trans (hB15.mono B13_14.out.size)); clear t15 hB15 BW_14 B2_14 B13_14))
    go_ret
    exact ⟨rfl, BW_15.out⟩
  · have HNE := Lib.hid hne
    clear hMe eM hM4 hne
    go_enter Try.func3, Try.ntmps3
    go_wp2_with (first | (have _t := t0; go_at_call 4; refine (TS _).mono ?_; rintro e V ⟨rfl, hV⟩; rw [hV]; clear hV t0) | (have _t := t1; go_at_call 6; refine (toWellS_th p c L hL.out _ (HP.out.keep BW0.out)).mono ?_; rintro e V1 ⟨b1, rfl, _, _, x1, y1, hB1⟩; have BW_1 := Lib.hid (BW0.out.trans (hB1.mono BW0.out.size)); have X1 := Lib.hid x1; clear t1 hB1 BW0 x1 y1) | (have _t := t2; go_at_call 5; refine (specWi_any b1 0 _ L hL.out HO.out _ X1.out).mono ?_; rintro e V2 ⟨pw, cw, rfl, rw1, mw, hB2⟩; have BW_2 := Lib.hid (BW_1.out.trans (hB2.mono BW_1.out.size)); have FW := Lib.hid rw1; have MW := Lib.hid mw; have B2 := Lib.hid (Below.refl V2.heap.size V2); clear t2 hB2 BW_1 rw1 mw X1) | (have _t := t3; go_at_call 6; refine (toWellS_th p c L hL.out _ (HP.out.keep BW_2.out)).mono ?_; rintro e V3 ⟨bx, rfl, hx1, hx2, x1, y1, hB3⟩; have BW_3 := Lib.hid (BW_2.out.trans (hB3.mono BW_2.out.size)); have B2_3 := Lib.hid (B2.out.trans (hB3.mono B2.out.size)); have hxw := Lib.hid (Nat.le_trans BW_2.out.size hx1); have hxb := Lib.hid (Nat.le_trans B2.out.size hx1); have HX2 := Lib.hid hx2; have FX := Lib.hid x1; have TX := Lib.hid y1; have B3 := Lib.hid (Below.refl V3.heap.size V3); clear t3 hB3 BW_2 B2 x1 y1 hx1 hx2) | (have _t := t4; go_at_call 7; refine (implWi_any bx 0 _ L hL.out HO.out _ FX.out HX2.out).mono ?_; rintro e V4 ⟨pg, cg, rfl, rg1, mg, hB4⟩; have BW_4 := Lib.hid (BW_3.out.trans (hB4.mono BW_3.out.size)); have B2_4 := Lib.hid (B2_3.out.trans (hB4.mono B2_3.out.size)); have B3_4 := Lib.hid (B3.out.trans (hB4.mono B3.out.size)); have FG := Lib.hid rg1; have MG := Lib.hid mg; have B4 := Lib.hid (Below.refl V4.heap.size V4); clear t4 hB4 BW_3 B2_3 B3 rg1 mg) | (have _t := t5; go_at_call 8; refine (eqWellS_yes _ _ _ _ M hM.out _ (FG.out.keep B4.out) (FW.out.keep B2_4.out)).mono ?_; rintro e V5 ⟨rfl, hB5⟩; have BW_5 := Lib.hid (BW_4.out.trans (hB5.mono BW_4.out.size)); have B2_5 := Lib.hid (B2_4.out.trans (hB5.mono B2_4.out.size)); have B3_5 := Lib.hid (B3_4.out.trans (hB5.mono B3_4.out.size)); have B4_5 := Lib.hid (B4.out.trans (hB5.mono B4.out.size)); clear t5 hB5 BW_4 B2_4 B3_4 B4) | (have _t := t6; go_at_call 6; refine (toWellS_th p c L hL.out _ (HP.out.keep BW_5.out)).mono ?_; rintro e V6 ⟨ba, rfl, _, _, x1, y1, hB6⟩; have BW_6 := Lib.hid (BW_5.out.trans (hB6.mono BW_5.out.size)); have B2_6 := Lib.hid (B2_5.out.trans (hB6.mono B2_5.out.size)); have B3_6 := Lib.hid (B3_5.out.trans (hB6.mono B3_5.out.size)); have B4_6 := Lib.hid (B4_5.out.trans (hB6.mono B4_5.out.size)); have XA := Lib.hid x1; clear t6 hB6 BW_5 B2_5 B3_5 B4_5 x1 y1) | (have _t := t7; go_at_call 8; refine (eqWellS_yes _ _ _ _ L hL.out _ (FX.out.keep B3_6.out) XA.out).mono ?_; rintro e V7 ⟨rfl, hB7⟩; have BW_7 := Lib.hid (BW_6.out.trans (hB7.mono BW_6.out.size)); have B2_7 := Lib.hid (B2_6.out.trans (hB7.mono B2_6.out.size)); have B3_7 := Lib.hid (B3_6.out.trans (hB7.mono B3_6.out.size)); have B4_7 := Lib.hid (B4_6.out.trans (hB7.mono B4_6.out.size)); clear t7 hB7 BW_6 B2_6 B3_6 B4_6 XA) | (have _t := t8; go_at_call 9; refine (mark1 bx _ L.length hL.out _ (there_keep TX.out HX2.out B3_7.out)).mono ?_; rintro e V8 ⟨K1, hK1, rfl, _, hB8, hs8, hh8⟩; have BW_8 := Lib.hid (BW_7.out.trans (hB8.mono hxw.out)); have B2_8 := Lib.hid (B2_7.out.trans (hB8.mono hxb.out)); obtain ⟨bg, hpg, hg1, hg2, hg3⟩ := MG.out HNE.out; have hgx := Lib.hid (show bx < bg from Nat.lt_of_lt_of_le HX2.out hg1); have hgt := Lib.hid (show bg < V8.heap.size by rw [hs8]; exact Nat.lt_of_lt_of_le hg2 B4_7.out.size); have hgw := Lib.hid (Nat.le_trans hxw.out (Nat.le_of_lt hgx.out)); have hgb := Lib.hid (Nat.le_trans hxb.out (Nat.le_of_lt hgx.out)); have G8 := Lib.hid (WsAt.same (hpg ▸ FG.out.keep B4_7.out) (hh8 bg (Nat.ne_of_gt hgx.out))); have T8 := Lib.hid (there_same (there_keep hg3 hg2 B4_7.out) (hh8 bg (Nat.ne_of_gt hgx.out))); have B8 := Lib.hid (Below.refl V8.heap.size V8); subst hpg; clear hg1 hg2 hg3; clear t8 hB8 hs8 hh8 BW_7 B2_7 B3_7 B4_7) | (have _t := t9; go_at_call 8; refine (eqWellS_yes _ _ _ _ M hM.out _ (G8.out.keep B8.out) (FW.out.keep B2_8.out)).mono ?_; rintro e V9 ⟨rfl, hB9⟩; have BW_9 := Lib.hid (BW_8.out.trans (hB9.mono BW_8.out.size)); have B2_9 := Lib.hid (B2_8.out.trans (hB9.mono B2_8.out.size)); have B8_9 := Lib.hid (B8.out.trans (hB9.mono B8.out.size)); clear t9 hB9 BW_8 B2_8 B8) | (have _t := t10; go_at_call 9; refine (mark1 bg _ M.length hM.out _ (there_keep T8.out hgt.out B8_9.out)).mono ?_; rintro e V10 ⟨K2, hK2, rfl, mk2, hB10, hs10, hh10⟩; have BW_10 := Lib.hid (BW_9.out.trans (hB10.mono hgw.out)); have B2_10 := Lib.hid (B2_9.out.trans (hB10.mono hgb.out)); have MK2 := Lib.hid mk2; have hgz := Lib.hid (show bg < V10.heap.size by rw [hs10]; exact Nat.lt_of_lt_of_le hgt.out B8_9.out.size); have B10 := Lib.hid (Below.refl V10.heap.size V10); clear t10 hB10 hs10 hh10 mk2 BW_9 B2_9 B8_9) | (have _t := t11; go_at_call 10; refine (held1 bg _ M.length hM40.out K2 hK2 _ (marks_below MK2.out hgz.out B10.out)).mono ?_; rintro e V11 ⟨rfl, hB11⟩; have BW_11 := Lib.hid (BW_10.out.trans (hB11.mono BW_10.out.size)); have B2_11 := Lib.hid (B2_10.out.trans (hB11.mono B2_10.out.size)); have B10_11 := Lib.hid (B10.out.trans (hB11.mono B10.out.size)); clear t11 hB11 BW_10 B2_10 B10) | (have _t := t12; go_at_call 6; refine (toWellS_th p c L hL.out _ (HP.out.keep BW_11.out)).mono ?_; rintro e V12 ⟨bc, rfl, _, hcc, x1, y1, hB12⟩; have HCC := Lib.hid hcc; clear hcc; have BW_12 := Lib.hid (BW_11.out.trans (hB12.mono BW_11.out.size)); have B2_12 := Lib.hid (B2_11.out.trans (hB12.mono B2_11.out.size)); have B10_12 := Lib.hid (B10_11.out.trans (hB12.mono B10_11.out.size)); have XC := Lib.hid x1; clear t12 hB12 BW_11 B2_11 B10_11 x1 y1) | (have _t := t13; go_at_call 7; refine (implWi_any bc 0 _ L hL.out HO.out _ XC.out HCC.out).mono ?_; rintro e V13 ⟨ph, ch, rfl, rh1, mh, hB13⟩; have BW_13 := Lib.hid (BW_12.out.trans (hB13.mono BW_12.out.size)); have B2_13 := Lib.hid (B2_12.out.trans (hB13.mono B2_12.out.size)); have B10_13 := Lib.hid (B10_12.out.trans (hB13.mono B10_12.out.size)); have FH := Lib.hid rh1; have B13 := Lib.hid (Below.refl V13.heap.size V13); clear t13 hB13 BW_12 B2_12 B10_12 rh1 mh XC) | (have _t := t14; go_at_call 8; refine (eqWellS_yes _ _ _ _ M hM.out _ (FH.out.keep B13.out) (FW.out.keep B2_13.out)).mono ?_; rintro e V14 ⟨rfl, hB14⟩; have BW_14 := Lib.hid (BW_13.out.trans (hB14.mono BW_13.out.size)); have B2_14 := Lib.hid (B2_13.out.trans (hB14.mono B2_13.out.size)); have B10_14 := Lib.hid (B10_13.out.trans (hB14.mono B10_13.out.size)); have B13_14 := Lib.hid (B13.out.trans (hB14.mono B13.out.size)); clear t14 hB14 BW_13 B2_13 B10_13 B13) | (have _t := t15; go_at_call 10; refine (held1 bg _ M.length hM40.out K2 hK2 _ (marks_below MK2.out hgz.out B10_14.out)).mono ?_; rintro e V15 ⟨rfl, hB15⟩; have BW_15 := Lib.hid (BW_14.out.trans (hB15.mono BW_14.out.size)); have B2_15 := Lib.hid (B2_14.out.trans (hB15.mono B2_14.out.size)); have B10_15 := Lib.hid (B10_14.out.trans (hB15.mono B10_14.out.size)); have B13_15 := Lib.hid (B13_14.out.trans (hB15.mono B13_14.out.size)); clear t15 hB15 BW_14 B2_14 B10_14 B13_14))
    go_ret
    exact ⟨rfl, BW_15.out⟩

end Go.Proofs.Ytdhgehmnjoclaaa
