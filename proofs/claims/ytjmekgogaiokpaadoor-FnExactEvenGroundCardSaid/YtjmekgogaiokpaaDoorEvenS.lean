/- EvenGround: the model's. No condition. -/
import Derived.Test.YtjmekgogaiokpaaDoorNums
namespace Go.Proofs.YtjmekgogaiokpaaDoor
open Go.RowKit
attribute [local go_sem] run_store_float
set_option linter.unusedSimpArgs false

theorem f32_zero : FloatKind.f32.has 0 := by
  unfold FloatKind.has
  decide +kernel
/-- A ground with extents alone, the first cell fixed. -/
def ev0 (W H : Int) : Gd := { wide := W, high := H, c := zf, g := zf, h := zf, x := 1 }
def evS (c h : Nat) (X : Gd) (i : Nat) : Gd := { X with c := upd X.c i c, h := upd X.h i h }
def evL (W H : Int) (c h : Nat) (l : List Nat) : Gd := l.foldl (evS c h) (ev0 W H)
theorem evL_snoc (W H : Int) (c h : Nat) (l : List Nat) (i : Nat) : evL W H c h (l ++ [i]) = evS c h (evL W H c h l) i := by simp [evL]
theorem evL_ext (W H : Int) (c h : Nat) (l : List Nat) : (evL W H c h l).wide = W ∧ (evL W H c h l).high = H := by
  rw [← List.reverse_reverse l]
  induction l.reverse with
  | nil => exact ⟨rfl, rfl⟩
  | cons i r ih => rw [List.reverse_cons, evL_snoc]; exact ih
theorem evL_is (W H : Int) (c h : Nat) (l : List Nat) (i : Nat) : isB (evL W H c h l) i = isB (ev0 W H) i := by
  obtain ⟨h1, h2⟩ := evL_ext W H c h l
  unfold isB
  rw [h1, h2]
  rfl

def numOk (c h : Nat) : Bool := plainB c && (!negB c && plainB h)
def evN (W H : Int) (c h : Nat) : Int := if numOk c h = true then (if (extN W && extN H) = true then 0 else 2) else 1
def evG (W H : Int) (c h : Nat) : Gd := if evN W H c h = 0 then evL W H c h (cellL (ev0 W H)) else zG

theorem build_even (W H : Int) (w : World) : (Instr.build 31 #[(0, .int .i8 W), (1, .int .i8 H), (5, .int .u64 1)]).run Tryd.prog w = .ok (.agg (Grd (ev0 W H))) w := by kernel_rfl

theorem ev_build (W H : Int) : (((Grd zG).setIfInBounds 0 (Value.int IntKind.i8 W)).setIfInBounds 1 (Value.int IntKind.i8 H)).setIfInBounds 194 (Value.int IntKind.u64 1) = Grd (ev0 W H) := by kernel_rfl

/-- Whether a number is a cell of a ground with such extents. -/
theorem isAt_is {X : Gd} (W H : Int) (k : Nat) (hk : k < 64) (r : Bool) (h : isB (ev0 W H) k = r) (p : Nat) (w : World) (hx : X.wide = W ∧ X.high = H) (hp : GrdAt w p 0 X) (hG : GdOk (ev0 W H)) :
    Calls Tryd.prog 57 #[.pointer (some ⟨p, 0, none⟩), .int .i64 k] w fun e w' => e = .returned (.bool r) ∧ w = w' := by
  have h1 : isB X k = r := by rw [← h]; unfold isB; rw [hx.1, hx.2]; rfl
  subst h1
  clear h
  have a0 := hp.wide; have a1 := hp.high
  rw [Nat.zero_add] at a1
  have k0 := hG.wide'; have k1 := hG.high'
  have e0 : -128 ≤ X.wide ∧ X.wide ≤ 127 := by rw [hx.1]; exact k0
  have e1 : -128 ≤ X.high ∧ X.high ≤ 127 := by rw [hx.2]; exact k1
  obtain ⟨k0, k0'⟩ := e0
  obtain ⟨k1, k1'⟩ := e1
  clear hp hG hx
  go_enter Tryd.func57, Tryd.ntmps57
  go_wp2
  all_goals (rename_i h; go_ret; refine ⟨ret_bool ?_, rfl⟩)
  · simp [isB, h]
  · have : ¬ ((k : Int) % 8 < X.wide) := by omega
    simp [isB, this]

/-- A structure is built. -/
theorem wpList_build {P : Program} {ops : Array Oper} {rest : List Oper} {o : Oper} {a : Act} {w : World} {Q : Exit → Act → World → Prop} (hg : o.guard = none) (t : TypeId) (parts : Array (Nat × Operand)) (vs : Array (Nat × Value)) (v : Value)
    (ho : o.op = .build t parts) (hp : parts.map (fun (i, x) => (i, a.eval x)) = vs) (hv : (Instr.build t vs).run P w = .ok v w) (h : wpList P ops Q rest (a.put o.dst v) w) : wpList P ops Q (o :: rest) a w :=
  wpList_plain hg fun K hK => by
    unfold Oper.wp execOp
    simp only [ho, hp]
    simp only [Sem.run_bind, hv, Result.andThen]
    exact hK _ _ h

theorem in_is (n lo hi : Int) (r : Bool) (h : (decide (lo ≤ n) && decide (n ≤ hi)) = r) (w : World) : Calls Tryd.prog 56 #[.int .i64 n, .int .i64 lo, .int .i64 hi] w fun e w' => e = .returned (.bool r) ∧ w = w' := by
  subst h
  exact l00In_any n lo hi w
theorem plainS_is (b : Nat) (r : Bool) (h : plainB b = r) (w : World) : Calls Tryd.prog 55 #[.float .f32 b] w fun e w' => e = .returned (.bool r) ∧ w = w' :=
  (l01Plain_is b r h w).mono fun _ _ ⟨h1, h2⟩ => ⟨h1, h2.symm⟩

set_option maxRecDepth 100000 in
set_option maxHeartbeats 2000000 in
theorem specEven_any (W H : Int) (c hd : Nat) (w : World) :
    Calls Tryd.prog 19 #[.int .i64 W, .int .i64 H, .float .f32 c, .float .f32 hd] w fun e w' => e = .returned (GN (evG W H c hd) (evN W H c hd)) ∧ Below w.heap.size w w' := by
  have hz := (zero_of_info zeroGround).1
  go_enter Tryd.func19, Tryd.ntmps19
  go_upto_region 1 with (fail)
  obtain ⟨V, hV, hs, g1, hB⟩ := gbox1 zG 31 w
  rw [hV]
  clear hV
  have G1 := Lib.hid g1
  have HB := Lib.hid hB
  have Hs := Lib.hid hs
  clear g1 hB hs
  cases hn : numOk c hd
  · have R1 := Lib.hid (show evN W H c hd = 1 by simp [evN, hn])
    have R2 := Lib.hid (show evG W H c hd = zG by simp [evG, evN, hn])
    unfold numOk at hn
    cases pc : plainB c
    · have Pc := Lib.hid pc
      clear hn pc
      go_wp2_with (first | (go_at_call 55; refine (plainS_is c false Pc.out _).mono ?_; rintro e w' ⟨rfl, rfl⟩) | (refine wpList_store_mid rfl 31 _ _ rfl _ 0 (Grd zG) rfl rfl (by rw [Grd_size]; exact G1.out.there) (by rw [Grd_size]; exact infoGround) (Grd_one _) ?_))
      refine bodyPost_ret (ret_GN rfl rfl rfl G1.out.store.range) rfl ⟨by rw [R1.out, R2.out], below_setCells _ (Nat.le_refl _) _ _ _ HB.out⟩
    · cases nc : negB c
      · have ph : plainB hd = false := by simpa [pc, nc] using hn
        have Pc := Lib.hid pc
        have Ph := Lib.hid ph
        have tk : True := trivial
        clear hn pc ph
        unfold negB at nc
        go_wp2_with (first | (have _t := tk; go_at_call 55; refine (plainS_is c true Pc.out _).mono ?_; rintro e w' ⟨rfl, rfl⟩; clear tk) | (go_at_call 55; refine (plainS_is hd false Ph.out _).mono ?_; rintro e w' ⟨rfl, rfl⟩) | (refine wpList_store_mid rfl 31 _ _ rfl _ 0 (Grd zG) rfl rfl (by rw [Grd_size]; exact G1.out.there) (by rw [Grd_size]; exact infoGround) (Grd_one _) ?_))
        refine bodyPost_ret (ret_GN rfl rfl rfl G1.out.store.range) rfl ⟨by rw [R1.out, R2.out], below_setCells _ (Nat.le_refl _) _ _ _ HB.out⟩
      · have Pc := Lib.hid pc
        clear hn pc
        unfold negB at nc
        go_wp2_with (first | (go_at_call 55; refine (plainS_is c true Pc.out _).mono ?_; rintro e w' ⟨rfl, rfl⟩) | (refine wpList_store_mid rfl 31 _ _ rfl _ 0 (Grd zG) rfl rfl (by rw [Grd_size]; exact G1.out.there) (by rw [Grd_size]; exact infoGround) (Grd_one _) ?_))
        refine bodyPost_ret (ret_GN rfl rfl rfl G1.out.store.range) rfl ⟨by rw [R1.out, R2.out], below_setCells _ (Nat.le_refl _) _ _ _ HB.out⟩
  · have hn' : plainB c = true ∧ negB c = false ∧ plainB hd = true := by
      unfold numOk at hn
      simpa using hn
    obtain ⟨pc, nc, ph⟩ := hn'
    have Pc := Lib.hid pc
    have Ph := Lib.hid ph
    clear pc ph
    unfold negB at nc
    have tk : True := trivial
    cases eW : extN W
    · have R1 := Lib.hid (show evN W H c hd = 2 by simp [evN, hn, eW])
      have R2 := Lib.hid (show evG W H c hd = zG by simp [evG, evN, hn, eW])
      have EW := Lib.hid eW
      clear hn eW
      go_wp2_with (first | (have _t := tk; go_at_call 55; refine (plainS_is c true Pc.out _).mono ?_; rintro e w' ⟨rfl, rfl⟩; clear tk) | (go_at_call 55; refine (plainS_is hd true Ph.out _).mono ?_; rintro e w' ⟨rfl, rfl⟩) | (go_at_call 56; refine (in_is W 2 8 false EW.out _).mono ?_; rintro e w' ⟨rfl, rfl⟩) | (refine wpList_store_mid rfl 31 _ _ rfl _ 0 (Grd zG) rfl rfl (by rw [Grd_size]; exact G1.out.there) (by rw [Grd_size]; exact infoGround) (Grd_one _) ?_))
      refine bodyPost_ret (ret_GN rfl rfl rfl G1.out.store.range) rfl ⟨by rw [R1.out, R2.out], below_setCells _ (Nat.le_refl _) _ _ _ HB.out⟩
    · cases eH : extN H
      · have R1 := Lib.hid (show evN W H c hd = 2 by simp [evN, hn, eH])
        have R2 := Lib.hid (show evG W H c hd = zG by simp [evG, evN, hn, eH])
        have EW := Lib.hid eW
        have EH := Lib.hid eH
        have tk2 : True := trivial
        clear hn eW eH
        go_wp2_with (first | (have _t := tk; go_at_call 55; refine (plainS_is c true Pc.out _).mono ?_; rintro e w' ⟨rfl, rfl⟩; clear tk) | (go_at_call 55; refine (plainS_is hd true Ph.out _).mono ?_; rintro e w' ⟨rfl, rfl⟩) | (have _t := tk2; go_at_call 56; refine (in_is W 2 8 true EW.out _).mono ?_; rintro e w' ⟨rfl, rfl⟩; clear tk2) | (go_at_call 56; refine (in_is H 2 8 false EH.out _).mono ?_; rintro e w' ⟨rfl, rfl⟩) | (refine wpList_store_mid rfl 31 _ _ rfl _ 0 (Grd zG) rfl rfl (by rw [Grd_size]; exact G1.out.there) (by rw [Grd_size]; exact infoGround) (Grd_one _) ?_))
        refine bodyPost_ret (ret_GN rfl rfl rfl G1.out.store.range) rfl ⟨by rw [R1.out, R2.out], below_setCells _ (Nat.le_refl _) _ _ _ HB.out⟩
      · have R1 := Lib.hid (show evN W H c hd = 0 by simp [evN, hn, eW, eH])
        have R2 := Lib.hid (show evG W H c hd = evL W H c hd (cellL (ev0 W H)) by simp [evG, evN, hn, eW, eH])
        have EW := Lib.hid eW
        have EH := Lib.hid eH
        have bW : 2 ≤ W ∧ W ≤ 8 := by simpa [extN] using eW
        have bH : 2 ≤ H ∧ H ≤ 8 := by simpa [extN] using eH
        obtain ⟨w2, w8⟩ := bW
        obtain ⟨h2, h8⟩ := bH
        have tk2 : True := trivial
        clear hn eW eH hz
        go_upto_region 5 with (first | (have _t := tk; go_at_call 55; refine (plainS_is c true Pc.out _).mono ?_; rintro e w' ⟨rfl, rfl⟩; clear tk) | (go_at_call 55; refine (plainS_is hd true Ph.out _).mono ?_; rintro e w' ⟨rfl, rfl⟩) | (have _t := tk2; go_at_call 56; refine (in_is W 2 8 true EW.out _).mono ?_; rintro e w' ⟨rfl, rfl⟩; clear tk2) | (go_at_call 56; refine (in_is H 2 8 true EH.out _).mono ?_; rintro e w' ⟨rfl, rfl⟩))
        have hz := (zero_of_info zeroGround).1
        go_upto_region 6 with (rw [ev_build]; refine wpList_store_mid rfl 31 _ _ rfl _ 0 (Grd (ev0 W H)) rfl rfl (by rw [Grd_size]; exact new_there _ V) (by rw [Grd_size]; exact infoGround) (Grd_one _) ?_; obtain ⟨X, hX, zX, gX, bX⟩ := stored_box (ev0 W H) 31 V; rw [hX]; have hx : V.heap.size < X.heap.size := (by omega); clear hX zX)
        have hs := Hs.out
        obtain ⟨N, hN⟩ : ∃ N, V.heap.size = N := ⟨_, rfl⟩
        rw [hN] at gX bX hx ⊢
        have PX := Lib.hid gX
        have PXr := Lib.hid (G1.out.below (hN ▸ bX) (by rw [hN]; omega))
        have BX := Lib.hid (HB.out.trans ((hN ▸ bX : Below V.heap.size V X).mono (by rw [hN]; omega)))
        have okG : GdOk (ev0 W H) := ⟨⟨by show (-128 : Int) ≤ W; omega, by show W ≤ 127; omega⟩, ⟨by show (-128 : Int) ≤ H; omega, by show H ≤ 127; omega⟩, ⟨(show IntKind.u64.min ≤ 1 by decide), (show 1 ≤ IntKind.u64.max by decide)⟩, fun _ _ => f32_zero, fun _ _ => f32_zero, fun _ _ => trivial⟩
        have OK := Lib.hid okG
        have wN : w.heap.size < N := by omega
        clear gX bX hz okG G1 HB hN hx hs
        go_wp2
        go_loopw [11] (fun i wr => ∃ k : Nat, k ≤ 64 ∧ i = .int .i64 k ∧ Hid (GBox wr N (evL W H c hd (cellTo (ev0 W H) k))) ∧ Hid (GBox wr w.heap.size zG) ∧ Hid (Below w.heap.size w wr)) (fun i _ => 64 - (intOf i).toNat)
        case atStart => exact ⟨0, by omega, rfl, PX, PXr, BX⟩
        case round =>
          clear PX PXr BX
          obtain ⟨k, hk, rfl, Q0, Q0r, D0⟩ := hrel
          have Hx := Lib.hid (evL_ext W H c hd (cellTo (ev0 W H) k))
          have Hok : Hid (GdOk (evL W H c hd (cellTo (ev0 W H) k)) ∨ True) := Lib.hid (.inr trivial)
          by_cases hlt : k < 64
          · cases hi : isB (ev0 W H) k
            · have Hi := Lib.hid hi
              have E := Lib.hid (show cellTo (ev0 W H) (k + 1) = cellTo (ev0 W H) k by rw [cellTo_succ, hi]; simp)
              clear hi
              go_wp2_with (go_at_call 57; refine (isAt_is W H k hlt false Hi.out _ _ Hx.out Q0.out.at' OK.out).mono ?_; rintro e w' ⟨rfl, rfl⟩)
              go_roundw
              case rel => exact ⟨k + 1, by omega, by go_num, by rw [E.out]; exact Q0, Q0r, D0⟩
              case measure => simp [intOf]; omega
            · have Hi := Lib.hid hi
              have E := Lib.hid (show cellTo (ev0 W H) (k + 1) = cellTo (ev0 W H) k ++ [k] by rw [cellTo_succ, hi]; simp)
              clear hi
              have b0 := Q0.out.at_some (2 + k) (by omega)
              obtain ⟨u, hu⟩ := Option.isSome_iff_exists.1 b0
              have f0 := Q0.out.free (2 + k) (by omega)
              have Qa := Lib.hid (Q0.out.putC hlt (x := c))
              have Qar := Lib.hid (Q0r.out.far (b' := N) (k := 2 + k) (v := .float .f32 c) (by omega))
              have Da := Lib.hid (D0.out.setCell (p := ⟨N, 2 + k, none⟩) (by simp; omega) (.float .f32 c))
              clear b0
              go_upto_region 11 with (go_at_call 57; refine (isAt_is W H k hlt true Hi.out _ _ Hx.out Q0.out.at' OK.out).mono ?_; rintro e w' ⟨rfl, rfl⟩)
              obtain ⟨Wa, hW⟩ : ∃ W', World.setCell wr ⟨N, 2 + k, none⟩ (.float .f32 c) = W' := ⟨_, rfl⟩
              rw [hW] at Qa Qar Da ⊢
              clear hW hu f0 u Q0 Q0r D0
              have b0 := Qa.out.at_some (130 + k) (by omega)
              obtain ⟨u, hu⟩ := Option.isSome_iff_exists.1 b0
              have f0 := Qa.out.free (130 + k) (by omega)
              have Qb := Lib.hid (Qa.out.putH hlt (x := hd))
              have Qbr := Lib.hid (Qar.out.far (b' := N) (k := 130 + k) (v := .float .f32 hd) (by omega))
              have Db := Lib.hid (Da.out.setCell (p := ⟨N, 130 + k, none⟩) (by simp; omega) (.float .f32 hd))
              clear b0 Qa Qar Da
              go_wp2
              go_roundw
              case rel => exact ⟨k + 1, by omega, by go_num, by rw [E.out, evL_snoc]; exact Qb, Qbr, Db⟩
              case measure => simp [intOf]; omega
          · obtain rfl : k = 64 := by omega
            have rr := Q0.out.range
            go_wp2_with (first | (refine wpList_load_mid rfl 31 _ rfl N 0 rfl (GrdL (evL W H c hd (cellTo (ev0 W H) 64))) _ rr Tryd.underlying31 rfl (by rw [GrdL_length]; exact infoGround) ?_) | (refine wpList_store_mid rfl 31 _ _ rfl _ 0 (Grd (evL W H c hd (cellTo (ev0 W H) 64))) rfl rfl (by rw [Grd_size]; exact Q0r.out.there) (by rw [Grd_size]; exact infoGround) (Grd_one _) ?_))
            refine bodyPost_ret (ret_GN rfl rfl rfl Q0r.out.store.range) rfl ⟨by rw [R1.out, R2.out]; rfl, below_setCells _ (by omega) _ _ _ D0.out⟩
end Go.Proofs.YtjmekgogaiokpaaDoor
