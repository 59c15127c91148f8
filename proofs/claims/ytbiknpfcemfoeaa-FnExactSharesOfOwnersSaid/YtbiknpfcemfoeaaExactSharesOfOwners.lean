/- The law FnExactSharesOfOwners of this commit: for every input the call returns true, and each argument reads afterwards as it read before. Condition: none. -/
import Derived.Test.YtbiknpfcemfoeaaSh
import Derived.Test.YtbiknpfcemfoeaaLiftS
namespace Go.Proofs.Ytbiknpfcemfoeaa
open Go Go.ChangeShapes Go.WideShapes Go.ChangeAt Go.RowKit
set_option linter.unusedSimpArgs false
set_option linter.unusedVariables false
theorem szPermitS_yes (p : Option Addr) (n c l : Nat) (h : n ≤ l) (hl : l ≤ 1048576) (w : World) : Calls Try.prog 17 #[.slice p n c, .int .i64 (l : Int)] w fun e w' => e = .returned (.int .i64 ((l : Int) - n)) ∧ w' = w := by
  go_enter Try.func17, Try.ntmps17
  go_wp2
  go_ret
  exact ⟨rfl, rfl⟩
theorem szPermitS_no (p : Option Addr) (n c l : Nat) (h : l < n) (hl : l ≤ 1048576) (hn : n ≤ maxLen) (w : World) : Calls Try.prog 17 #[.slice p n c, .int .i64 (l : Int)] w fun e w' => e = .returned (.int .i64 (-1)) ∧ w' = w := by
  unfold maxLen at hn
  go_enter Try.func17, Try.ntmps17
  go_wp2
  go_ret
  exact ⟨rfl, rfl⟩
theorem neqI_same {op : Oper} {a : Act} {x y : Operand} {v : Int} (ho : op.op = .binOp .neq 2 x y 2) (hx : a.eval x = .int .i64 v) (hy : a.eval y = .int .i64 v) (w : World) :
    (execOp a.eval op).run Try.prog w = .ok (.value (.bool false)) w := by
  unfold execOp
  simp only [ho, hx, hy]
  go_simp
theorem stored_Eg (f : Nat → Int) (t : TypeId) (W : World) : ∃ X, (W.alloc (.cells (Ef zI) t)).setCells W.heap.size 0 (Ef f).toList = X ∧ X.heap.size = W.heap.size + 1 ∧ X.rangeAt W.heap.size 0 (Ef f).toList ∧ Below W.heap.size W X := by
  have hth := new_thereE t W
  exact ⟨_, rfl, by rw [sizeS]; simp, World.rangeAt_setCells_same _ _ _ _ (by rw [Ef_length]; exact hth), below_setCells _ (Nat.le_refl _) _ _ _ ((Below.refl _ _).alloc (Nat.le_refl _) _)⟩
set_option maxRecDepth 100000 in
set_option maxHeartbeats 2000000 in
theorem eqA8_yes (f : Nat → Int) (w : World) : Calls Try.prog 21 #[.agg (Ef f), .agg (Ef f)] w fun e w' => e = .returned (.bool true) ∧ Below w.heap.size w w' := by
  obtain ⟨W, hW, hz, p1, p2, hB⟩ := two_boxes (Ef f) (Ef f) 39 39 w
  have HW := Lib.hid hW
  have P1 := Lib.hid p1
  have P2 := Lib.hid p2
  have HB := Lib.hid hB
  clear hW hz p1 p2 hB
  go_enter Try.func21, Try.ntmps21
  go_upto_region 1 with (fail)
  rw [HW.out]
  go_upto_region 2 with (fail)
  go_loopw [5] (fun i wr => ∃ k : Nat, k ≤ 8 ∧ i = .int .i64 k ∧ Hid (Quiet W wr)) (fun i _ => 8 - (intOf i).toNat)
  case atStart => exact ⟨0, by omega, rfl, Lib.hid (Quiet.refl _)⟩
  case round =>
    obtain ⟨k, hk, rfl, HQ⟩ := hrel
    by_cases hk8 : k < 8
    · have hki : (k : Int) < 8 := by omega
      have ca := Ef_cell (HQ.out.range P1.out) k hk8
      have cb := Ef_cell (HQ.out.range P2.out) k hk8
      go_upto_region 4 with (fail)
      refine wp_region_calm (ops' := regOf Try.f21 4) [0, 1, 2, 3, 4, 5, 6] [] .fin (Quiet wr) [(0, One (.int .i64 (k : Int))), (1, One (.pointer (some ⟨w.heap.size, 0 + k, none⟩))), (2, One (.int .i64 (f k))), (3, One (.int .i64 (k : Int))), (4, One (.pointer (some ⟨w.heap.size + 1, 0 + k, none⟩))), (5, One (.int .i64 (f k))), (6, One (.bool false))] (by kernel_rfl) (by kernel_rfl) (by kernel_rfl) (by kernel_rfl) (by kernel_rfl) (by kernel_rfl) (by kernel_rfl) (by kernel_rfl) rfl ((Quiet.refl _).drewN 1) ?_
      refine calm_pure (some 10) (by kernel_rfl) (by kernel_rfl) (by kernel_rfl) (fun _ => by kernel_rfl) ?_
      refine calm_pure (some 11) (by kernel_rfl) (by kernel_rfl) (by kernel_rfl) (fun _ => index_E (x := .tmp 2) (y := .tmp 10) (o := 0) (by kernel_rfl) (by kernel_rfl) (by kernel_rfl) hk8 _) ?_
      refine calm_read (some 12) (by kernel_rfl) (by kernel_rfl) (by kernel_rfl) (fun w' hw' => load_cell (ty := 2) (x := .tmp 11) (b := w.heap.size) (o := 0 + k) (by kernel_rfl) (by kernel_rfl) Try.underlying2 rfl (kq ca w' hw')) ?_
      refine calm_pure (some 13) (by kernel_rfl) (by kernel_rfl) (by kernel_rfl) (fun _ => by kernel_rfl) ?_
      refine calm_pure (some 14) (by kernel_rfl) (by kernel_rfl) (by kernel_rfl) (fun _ => index_E (x := .tmp 3) (y := .tmp 13) (o := 0) (by kernel_rfl) (by kernel_rfl) (by kernel_rfl) hk8 _) ?_
      refine calm_read (some 15) (by kernel_rfl) (by kernel_rfl) (by kernel_rfl) (fun w' hw' => load_cell (ty := 2) (x := .tmp 14) (b := w.heap.size + 1) (o := 0 + k) (by kernel_rfl) (by kernel_rfl) Try.underlying2 rfl (kq cb w' hw')) ?_
      refine calm_pure (some 16) (by kernel_rfl) (by kernel_rfl) (by kernel_rfl) (fun _ => neqI_same (x := .tmp 12) (y := .tmp 15) (v := f k) (by kernel_rfl) (by kernel_rfl) (by kernel_rfl) _) ?_
      refine calm_end fun w' hw' => plan_end (Clean.normal ?_)
      simp only [Act.put, List.setIfInBounds_toArray, List.set_cons_zero, List.set_cons_succ]
      have HQ1 := Lib.hid (HQ.out.trans hw')
      clear ca cb hw'
      go_wp2
      go_roundw
      case rel => exact ⟨k + 1, by omega, by go_num, HQ1⟩
      case measure => simp [intOf]; omega
    · obtain rfl : k = 8 := by omega
      go_wp2
      go_ret
      exact ⟨rfl, HB.out.trans (HQ.out.below _)⟩

set_option maxRecDepth 100000 in
set_option maxHeartbeats 2000000 in
theorem fnExactSharesOfOwners_far (p : Option Addr) (n c : Nat) (hn : 1048576 < n) (hx : n ≤ maxLen) (w : World) : Calls Try.prog 5 #[.slice p n c] w fun e w' => e = .returned (.bool true) ∧ Below w.heap.size w w' := by
  have T := fun V => szPermitS_no p n c 1048576 hn (by omega) hx V
  clear hn hx
  go_enter Try.func5, Try.ntmps5
  go_wp2_with (go_at_call 17; refine (T _).mono ?_; rintro e V ⟨rfl, hV⟩; rw [hV]; clear hV)
  go_ret
  exact ⟨rfl, Below.refl _ _⟩

set_option maxRecDepth 100000 in
set_option maxHeartbeats 4000000 in
theorem fnExactSharesOfOwners_near (p : Option Addr) (c : Nat) (L : List P3) (hO : ∀ e ∈ L, okP3 e) (hn : L.length ≤ 1048576) (w : World) (hp : PsAt w p L) : Calls Try.prog 5 #[.slice p L.length c] w fun e w' => e = .returned (.bool true) ∧ Below w.heap.size w w' := by
  have T := fun V => szPermitS_yes p L.length c 1048576 hn (by omega) V
  have e1 : ((1048576 : Nat) : Int) - (L.length : Int) = ((1048576 - L.length : Nat) : Int) := by omega
  simp only [e1] at T
  obtain ⟨l, hl⟩ : ∃ l, 1048576 - L.length = l := ⟨_, rfl⟩
  rw [hl] at T
  have hl2 : l ≤ 1048576 := by omega
  obtain ⟨f, kk, hv⟩ : ∃ f kk, shareV L = .tuple #[.agg (Ef f), .int .i64 kk] := by unfold shareV; split <;> exact ⟨_, _, rfl⟩
  have T3 := Lib.hid (fun (p : Option Addr) (c : Nat) (V : World) (h1 : PsAt V p L) => specShare_any p c L hn hO V h1)
  have T4 := Lib.hid (fun (p : Option Addr) (c : Nat) (V : World) (h1 : PsAt V p L) => implShare_any p c L hn V h1)
  have TOH := Lib.hid (fun (V : World) (h : PsAt V p L) => toPermitS_any p c L hn V h)
  have TEQ := Lib.hid (fun (p q : Option Addr) (c d : Nat) (V : World) (h1 : PsAt V p L) (h2 : PsAt V q L) => eqPermitS_yes p q c d L hn V h1 h2)
  rw [hv] at T3 T4
  obtain ⟨n, hnn'⟩ : ∃ n, L.length = n := ⟨_, rfl⟩
  rw [hnn'] at T3 T4
  rw [hnn'] at TOH TEQ T hn ⊢
  have PA0 := Lib.hid hp
  have BW0 := Lib.hid (Below.refl w.heap.size w)
  have hz := (zero_of_info zeroE).1
  clear hp e1 hl hv hnn' hO
  have t1 : True := trivial
  have t2 : True := trivial
  have t3 : True := trivial
  have s1 : True := trivial
  go_enter Try.func5, Try.ntmps5
  go_upto_region 8 with (first | (go_at_call 17; refine (T _).mono ?_; rintro e V ⟨rfl, hV⟩; rw [hV]; clear hV) | (have _t := t1; go_at_call 19; refine (TOH.out _ PA0.out).mono ?_; rintro e V1 ⟨b1, rfl, _, _, x1, hB1⟩; have PA1 := Lib.hid (PA0.out.keep hB1); have XA := Lib.hid x1; have BW1 := Lib.hid (BW0.out.trans (hB1.mono BW0.out.size)); clear PA0 BW0 x1 hB1 t1) | (go_at_call 18; refine (T3.out _ _ _ XA.out).mono ?_; rintro e V2 ⟨rfl, hB2⟩; have PA2 := Lib.hid (PA1.out.keep hB2); have BW2 := Lib.hid (BW1.out.trans (hB2.mono BW1.out.size)); have hth := new_thereE 39 V2; clear PA1 BW1 XA hB2) | (have _t := s1; refine stS 39 rfl ?_; refine wpList_store_mid rfl 39 _ _ rfl _ 0 (Ef f) rfl rfl (by rw [Ef_size]; with_reducible exact hth) (by rw [Ef_size]; exact infoE) (Ef_one _) ?_; obtain ⟨X2, hX2, zX2, rX2, bX2⟩ := stored_Eg f 39 V2; rw [hX2]; have PA3 := Lib.hid (PA2.out.keep bX2); have BW3 := Lib.hid (BW2.out.trans (bX2.mono BW2.out.size)); have RX := Lib.hid rX2; obtain ⟨N1, hN1⟩ : ∃ N1, V2.heap.size = N1 := ⟨_, rfl⟩; rw [hN1] at RX ⊢; have HN1 := Lib.hid (show N1 < X2.heap.size by omega); clear PA2 BW2 bX2 rX2 hX2 zX2 hth s1 hN1) | (have _t := t2; go_at_call 19; refine (TOH.out _ PA3.out).mono ?_; rintro e V3 ⟨b2, rfl, _, _, x1, hB1⟩; have PA4 := Lib.hid (PA3.out.keep hB1); have YA := Lib.hid x1; have BW4 := Lib.hid (BW3.out.trans (hB1.mono BW3.out.size)); have RX4 := Lib.hid (range_kept RX.out HN1.out _ hB1); have HN4 := Lib.hid (Nat.lt_of_lt_of_le HN1.out hB1.size); clear PA3 BW3 RX HN1 x1 hB1 t2) | (go_at_call 20; refine (T4.out _ _ _ YA.out).mono ?_; rintro e V4 ⟨rfl, hB2⟩; have PA5 := Lib.hid (PA4.out.keep hB2); have YB := Lib.hid (YA.out.keep hB2); have BW5 := Lib.hid (BW4.out.trans (hB2.mono BW4.out.size)); have RX5 := Lib.hid (range_kept RX4.out HN4.out _ hB2); have HN5 := Lib.hid (Nat.lt_of_lt_of_le HN4.out hB2.size); have hth := new_thereE 39 V4; clear PA4 BW4 YA RX4 HN4 hB2) | (refine stS 39 rfl ?_; refine wpList_store_mid rfl 39 _ _ rfl _ 0 (Ef f) rfl rfl (by rw [Ef_size]; with_reducible exact hth) (by rw [Ef_size]; exact infoE) (Ef_one _) ?_; obtain ⟨X5, hX5, zX5, rX5, bX5⟩ := stored_Eg f 39 V4; rw [hX5]; have PA6 := Lib.hid (PA5.out.keep bX5); have YC := Lib.hid (YB.out.keep bX5); have BW6 := Lib.hid (BW5.out.trans (bX5.mono BW5.out.size)); have RA := range_kept RX5.out HN5.out _ bX5; have RB := rX5; obtain ⟨N2, hN2⟩ : ∃ N2, V4.heap.size = N2 := ⟨_, rfl⟩; rw [hN2] at RB ⊢; clear PA5 BW5 YB RX5 HN5 bX5 rX5 hX5 zX5 hth hN2))
  go_wp2_with (first | (refine ldS 39 rfl ?_; first | (refine wpList_load_mid rfl 39 _ rfl N1 0 rfl (Ef f).toList _ RA Try.underlying39 rfl (by rw [Ef_length]; exact infoE) ?_) | (refine wpList_load_mid rfl 39 _ rfl N2 0 rfl (Ef f).toList _ RB Try.underlying39 rfl (by rw [Ef_length]; exact infoE) ?_); try rw [Array.toArray_toList]) | (go_at_call 21; refine (eqA8_yes f _).mono ?_; rintro e V5 ⟨rfl, hB5⟩; have PA7 := Lib.hid (PA6.out.keep hB5); have YD := Lib.hid (YC.out.keep hB5); have BW7 := Lib.hid (BW6.out.trans (hB5.mono BW6.out.size)); clear PA6 YC BW6 RA RB hB5) | (go_at_call 19; refine (TOH.out _ PA7.out).mono ?_; rintro e Vi ⟨b6, rfl, _, _, x1, hi⟩; have YE := Lib.hid (YD.out.keep hi); have ZB := Lib.hid x1; have BW8 := Lib.hid (BW7.out.trans (hi.mono BW7.out.size)); clear x1 hi) | (go_at_call 22; refine (TEQ.out _ _ _ _ _ YE.out ZB.out).mono ?_; rintro e Vj ⟨rfl, hj⟩; have BW9 := Lib.hid (BW8.out.trans (hj.mono BW8.out.size)); clear hj))
  go_ret
  exact ⟨rfl, BW9.out⟩

theorem okP_P3 {e : P3} (h : okP e) : okP3 e := by
  obtain ⟨h1, h2, h3⟩ := h
  simp only [Lit.wf, IntKind.min, IntKind.max, IntKind.bits, IntKind.signed, Bool.and_eq_true, decide_eq_true_eq] at h1 h2 h3
  simp at h1 h2 h3
  exact ⟨h1, h2, h3⟩
set_option maxRecDepth 100000 in
theorem fnExactSharesOfOwners_walk (H : Type) (enc : TypeId × Value → H) (W : World) (base : Nat) (args : Array Value) (ds : List (DataW H)) (ps : List MemPlace) (hn : args.size = Try.f5.params.size)
    (hv : ∀ (j : Nat) t v, Try.f5.params[j]? = some t → args[j]? = some v → Value.okWide Try.prog W .any base t v)
    (hA : DataW.TrodAll enc Try.prog W 0 (fun _ => true) true Try.f5.params.toList args.toList ds ps) :
    Calls Try.prog 5 args W fun e W' => e = .returned (.bool true) ∧ Below W.heap.size W W' := by
  rw [Try.params5] at hn hv hA
  obtain ⟨l⟩ := args
  match l, hn with
  | [v0], _ =>
    obtain ⟨u0, us, d0, ds', a0, a1, he, _, _, h0, h1⟩ := trodAll_cons hA
    cases he
    obtain ⟨p, c, L, rfl, hL, hp, hok⟩ := open_ps (okWide_slice Try.underlying37 (hv 0 _ v0 rfl rfl)) h0
    by_cases h1 : L.length ≤ 1048576
    · exact fnExactSharesOfOwners_near p c L (fun e he => okP_P3 (hok e he)) h1 W hp
    · exact fnExactSharesOfOwners_far p _ c (by omega) hL W

set_option maxRecDepth 100000 in
theorem fnExactSharesOfOwners_holds : Rows.FnExactSharesOfOwnersSaid :=
  OpenClaim.holds_of_wide 5 Try.f5 rfl rfl rfl rfl rfl rfl rfl ⟨rfl, rfl, rfl, rfl, rfl⟩ rfl rfl rfl rfl rfl (by kernel_rfl) Try.func5 (by kernel_rfl)
    (of_decide_eq_true (by kernel_rfl)) (by unfold Func.isWrapper; first | (rw [if_pos (by decide +kernel)]; kernel_rfl) | (rw [if_neg (by decide +kernel)]; exact ⟨rfl, rfl⟩))
    (fun os started H enc _ => liftS 5 Try.f5 Rows.fnExactSharesOfOwnersSpec Try.func5 rfl rfl
      (fun H ds h => match ds, h with | [d0], _ => rfl)
      (by rw [Try.params5]; exact (by decide +kernel))
      fnExactSharesOfOwners_walk os started H enc (by kernel_rfl)
      (ChangeSpec.witness6 (enc := enc) (C := Try.checked) false ⟨#[], #[.slice none 0 0], []⟩ 16 (by kernel_rfl) (by kernel_rfl) (by kernel_rfl) (by kernel_rfl)))
#print axioms fnExactSharesOfOwners_holds
end Go.Proofs.Ytbiknpfcemfoeaa
