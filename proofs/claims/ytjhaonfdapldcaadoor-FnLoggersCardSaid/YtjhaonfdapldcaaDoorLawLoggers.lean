/- The law FnLoggers: for every input the call returns true. Condition: the table of math/bits is laid. -/
import Derived.Test.YtjhaonfdapldcaaDoorLawLoggedLevels
import Derived.Test.YtjhaonfdapldcaaDoorDrop
import Derived.Test.YtjhaonfdapldcaaDoorGd2
import Derived.Test.YtjhaonfdapldcaaDoorDrv
namespace Go.Proofs.YtjhaonfdapldcaaDoor
open Go Go.RowKit
set_option linter.unusedSimpArgs false
set_option linter.unusedVariables false
attribute [local go_sem] Oper.semAt_some

theorem lgN_in (s : Bool) (A : Nat) : -32768 ≤ lgN s A ∧ lgN s A ≤ 32767 := by unfold lgN; split <;> omega
theorem lgO_in (h : Nat) : -32768 ≤ lgO h ∧ lgO h ≤ 32767 := by
  unfold lgO
  split
  · exact lgN_in _ _
  · omega
theorem llF_in (G : Gd) : In16 (llF G) := fun i _ => by
  unfold llF
  split
  · exact lgO_in _
  · omega
/-- What is drawn is kept as it is. -/
theorem off_ok : ∀ n, n < 65 → fop .f64 .sub (num .f64 (floatOfInt .f64 (lgO (hedT n)))) (fop .f64 .mul (num .f64 4636737291354636288) ((num .f32 (hedT n)).map cv)) = some 0 := by decide +kernel
theorem off_cmp : (FloatKind.f64.format.order 0 4602678819172646912 == some Ordering.gt) = false ∧ (FloatKind.f64.format.order 0 13826050856027422720 == some Ordering.lt) = false := by decide +kernel
theorem mxd_max (d : Nat → Int) : ∀ k i, i ≤ k → d i ≤ d (mxd d k) ∧ (i < mxd d k → d i < d (mxd d k))
  | 0, i, h => by
    obtain rfl : i = 0 := by omega
    exact ⟨Int.le_refl _, fun h => by simp [mxd] at h⟩
  | k + 1, i, h => by
    unfold mxd
    by_cases hd : d (mxd d k) < d (k + 1)
    · rw [if_pos hd]
      by_cases e : i = k + 1
      · subst e; exact ⟨Int.le_refl _, fun h => by omega⟩
      · have := (mxd_max d k i (by omega)).1
        exact ⟨by omega, fun _ => by omega⟩
    · rw [if_neg hd]
      by_cases e : i = k + 1
      · subst e
        refine ⟨by omega, fun h => ?_⟩
        have := mxd_le d k
        omega
      · exact mxd_max d k i (by omega)
theorem wpList_load_gL {P : Program} {ops : Array Oper} {rest : List Oper} {op : Oper} {a : Act} {w : World} {Q : Exit → Act → World → Prop} (hgd : Region.wanted op (yielded ops a.tmps) = true) (ty : TypeId) (x : Operand) (ho : op.op = .load ty x)
    (b o : Nat) (hx : a.eval x = .pointer (some ⟨b, o, none⟩)) (cs : List Value) (D : TypeDesc) (hc : w.rangeAt b o cs) (hu : P.underlying ty = some D) (hd : D.isRow = true) (hi : (P.info? ty).map (·.size) = some cs.length)
    (h : wpList P ops Q rest (a.put op.dst (.agg cs.toArray)) w) : wpList P ops Q (op :: rest) a w :=
  wpList_step fun K hK => by
    rw [if_pos hgd]
    exact wp_load_mid ty x ho b o hx cs D hc hu hd hi (hK _ _ h)
theorem guard_h16 : Tryd.prog.eqGuardType Tryd.prog.depth 36 = false := by kernel_rfl
theorem eqlH16 (f g : Nat → Int) (w : World) : (Op.equalIn 10000 36 (.agg (Hf f)) (.agg (Hf g))).run Tryd.prog w = .ok (eqH f g) w := by
  obtain ⟨i, hi⟩ := info_i16
  rw [show (10000 : Nat) = 9998 + 1 + 1 from rfl, run_equalIn_array w (9998 + 1) (Hf f) (Hf g) Tryd.underlying36 hi, cells_i16]
  exact eqItems_hf 9998 f g w (List.range 64) (fun i hi => by simpa using hi)
theorem eqH_self (f : Nat → Int) : eqH f f = true := by unfold eqH; rw [List.all_eq_true]; intro i _; simp
theorem cvI_op {op : Oper} {a : Act} {x : Operand} {n : Int} (ho : op.op = .convert 35 53 x) (hx : a.eval x = .int .i16 n) (w : World) :
    (execOp a.eval op).run Tryd.prog w = .ok (.value (.float .f64 (floatOfInt .f64 n))) w := by
  unfold execOp
  simp only [ho, hx]
  have h := run_convert_int_float w 35 53 .i16 .f64 n (by rw [Tryd.underlying35]; rfl) Tryd.underlying53
  simp only [Sem.run_bind, h, Result.andThen]
  rfl
theorem lss_op {op : Oper} {a : Act} {x y : Operand} {u v : Int} (b : Bool) (ho : op.op = .binOp .lss 2 x y 2) (hx : a.eval x = .int .i64 u) (hy : a.eval y = .int .i64 v) (hb : decide (u < v) = b) (w : World) :
    (execOp a.eval op).run Tryd.prog w = .ok (.value (.bool b)) w := by
  subst hb
  unfold execOp
  simp only [ho, hx, hy]
  go_simp
theorem gtr_op {op : Oper} {a : Act} {x y : Operand} {u v : Int} (b : Bool) (ho : op.op = .binOp .gtr 2 x y 2) (hx : a.eval x = .int .i64 u) (hy : a.eval y = .int .i64 v) (hb : decide (v < u) = b) (w : World) :
    (execOp a.eval op).run Tryd.prog w = .ok (.value (.bool b)) w := by
  subst hb
  unfold execOp
  simp only [ho, hx, hy]
  go_simp
theorem eql_op {op : Oper} {a : Act} {x y : Operand} {u v : Int} (ho : op.op = .binOp .eql 2 x y 2) (hx : a.eval x = .int .i64 u) (hy : a.eval y = .int .i64 v) (hb : u ≠ v) (w : World) :
    (execOp a.eval op).run Tryd.prog w = .ok (.value (.bool false)) w := by
  unfold execOp
  simp only [ho, hx, hy]
  go_simp
theorem neq_op {op : Oper} {a : Act} {x y : Operand} {v : Int} (ho : op.op = .binOp .neq 2 x y 2) (hx : a.eval x = .int .i64 v) (hy : a.eval y = .int .i64 v) (w : World) :
    (execOp a.eval op).run Tryd.prog w = .ok (.value (.bool false)) w := by
  unfold execOp
  simp only [ho, hx, hy]
  go_simp

set_option maxRecDepth 100000 in
set_option maxHeartbeats 4000000 in
theorem A2Is_isL (G : Gd) (i : Nat) (hi : i < 64) (r : Bool) (h : isB G i = r) (hG : GdOk G) (w : World) :
    Calls Tryd.prog 20 #[.agg (Grd G), .int .i64 i] w fun e w' => e = .returned (.bool r) ∧ Below w.heap.size w w' := by
  have HI := Lib.hid h
  have HG := Lib.hid hG
  clear h hG
  go_enter Tryd.func20, Tryd.ntmps20
  go_upto_region 1 with (fail)
  obtain ⟨W, hW, zW, gW, bW⟩ := gbox1 G 32 w
  rw [hW]
  have GW := Lib.hid gW
  have BW := Lib.hid bW
  clear hW gW bW zW
  go_wp2_with (go_at_call 34; refine (l01Is_is G i hi r HI.out _ _ GW.out.at' HG.out).mono ?_; rintro e V1 ⟨rfl, hw1⟩; cases hw1; dsimp only)
  go_ret
  exact ⟨rfl, BW.out⟩

theorem Drw.ll {G : Gd} (h : Drw G) : llV G = .tuple #[.agg (Hf (llF G)), .int .i64 0] := by unfold llV; rw [h.valid]; rfl

set_option maxRecDepth 100000 in
set_option maxHeartbeats 4000000 in
theorem fnLoggers_far (p q : Option Addr) (n c m d : Nat) (hn : n ≤ maxLen) (hm : m ≤ maxLen) (hl : 3000 < n ∨ 3000 < m) (w : World) :
    Calls Tryd.prog 6 #[.slice p n c, .slice q m d] w fun e w' => e = .returned (.bool true) ∧ Below w.heap.size w w' := by
  have hlg := fun V => a2Long_any p q n m c d hn hm V
  rw [show (decide (3000 < n) || decide (3000 < m)) = true by rcases hl with h | h <;> simp [h]] at hlg
  have HL := Lib.hid hlg
  clear hlg
  go_enter Tryd.func6, Tryd.ntmps6
  go_wp2_with (go_at_call 13; refine (HL.out _).mono ?_; rintro e V0 ⟨rfl, hw⟩; rw [hw]; clear hw)
  go_ret
  exact ⟨rfl, Below.refl _ _⟩

set_option maxRecDepth 100000 in
set_option maxHeartbeats 4000000 in
theorem fnLoggers_near (p q : Option Addr) (n c m d : Nat) (hn : n ≤ maxLen) (hm : m ≤ maxLen) (hl : ¬ 3000 < n ∧ ¬ 3000 < m) (w : World) (hp : BytesAt w w.heap.size p n) (hq : BytesAt w w.heap.size q m) (hT : TabAt w) :
    Calls Tryd.prog 6 #[.slice p n c, .slice q m d] w fun e w' => e = .returned (.bool true) ∧ Below w.heap.size w w' := by
  have hlg := fun V => a2Long_any p q n m c d hn hm V
  rw [show (decide (3000 < n) || decide (3000 < m)) = false by simp [hl]] at hlg
  have HL := Lib.hid hlg
  have HP := Lib.hid hp
  have HQ := Lib.hid hq
  have HN := Lib.hid hn
  have HM := Lib.hid hm
  have HT := Lib.hid hT
  clear hlg hp hq hn hm hl hT
  have hz0 := (zero_of_info zeroGround).1
  have hz1 := (zero_of_info zeroH16).1
  go_enter Tryd.func6, Tryd.ntmps6
  go_upto_region 4 with (first | (go_at_call 13; refine (HL.out _).mono ?_; rintro e V0 ⟨rfl, hw⟩; rw [hw]; clear hw) | (go_at_call 14; refine (A2Ground_any p n c HN.out _ HP.out).mono ?_; rintro e V1 ⟨⟨G, rfl, hD⟩, hb⟩; have DD := Lib.hid hD; have B1 := Lib.hid hb; clear hD hb) | (refine st_stage 32 rfl ?_; refine wpList_store_mid rfl 32 _ _ rfl V1.heap.size 0 (Grd G) rfl rfl (by rw [Grd_size]; exact new_there _ V1) (by rw [Grd_size]; exact infoGround) (Grd_one _) ?_))
  obtain ⟨U, hU, zU, gU, bU⟩ := stored_box G 32 V1
  rw [hU]
  obtain ⟨N, hN⟩ : ∃ N, V1.heap.size = N := ⟨_, rfl⟩
  have hwN : w.heap.size ≤ N := by have := B1.out.size; omega
  have BU := Lib.hid (B1.out.trans (bU.mono B1.out.size))
  rw [hN] at gU zU ⊢
  have GU := Lib.hid gU
  have TU := Lib.hid (HT.out.below BU.out (tab_lt HT.out))
  have hNU : N < U.heap.size := by omega
  clear hU gU bU zU hN B1 HL HP HT
  go_upto_region 5 with (first | (go_at_call 14; refine (A2Ground_any q m d HM.out _ (HQ.out.atG BU.out)).mono ?_; rintro e V2 ⟨⟨K, rfl, hD⟩, hb⟩; have DK := Lib.hid hD; have B2 := Lib.hid hb; clear hD hb) | (refine st_stage 32 rfl ?_; refine wpList_store_mid rfl 32 _ _ rfl V2.heap.size 0 (Grd K) rfl rfl (by rw [Grd_size]; exact new_there _ V2) (by rw [Grd_size]; exact infoGround) (Grd_one _) ?_))
  obtain ⟨X, hX, zX, gX, bX⟩ := stored_box K 32 V2
  rw [hX]
  obtain ⟨J, hJ⟩ : ∃ J, V2.heap.size = J := ⟨_, rfl⟩
  have k2 := B2.out.trans (bX.mono B2.out.size)
  rw [hJ] at gX zX ⊢
  have GX := Lib.hid (GU.out.below k2 hNU)
  have KX := Lib.hid gX
  have BX := Lib.hid (BU.out.trans (k2.mono BU.out.size))
  have TX := Lib.hid (TU.out.below k2 (tab_lt TU.out))
  have hNX : N < X.heap.size := Nat.lt_of_lt_of_le hNU k2.size
  have hJX : J < X.heap.size := by omega
  have r1 := GX.out.range
  clear hX gX bX zX hJ B2 k2 GU BU TU hNU HQ
  go_upto_region 6 with (first | (refine ld_stage 32 rfl ?_; refine wpList_load_mid rfl 32 _ rfl N 0 rfl (GrdL G) _ r1 Tryd.underlying32 rfl (by rw [GrdL_length]; exact infoGround) ?_) | (go_at_call 11; have hc := (implLL_any G X DD.out.ok TX.out); rw [DD.out.ll] at hc; refine hc.mono ?_; clear hc; rintro e V3 ⟨rfl, hv⟩) | (refine st_stage 36 rfl ?_; refine wpList_store_mid rfl 36 _ _ rfl _ 0 (Hf (llF G)) rfl rfl (by rw [Hf_size]; with_reducible exact (there_row (heap_alloc_last V3 _) (Hf_size zI))) (by rw [Hf_size]; exact infoH) (Hf_one _) ?_))
  obtain ⟨X3, hX, zX, rX, bX⟩ := hf_stored (llF G) 36 V3
  rw [hX]
  obtain ⟨M3, hM⟩ : ∃ M3, V3.heap.size = M3 := ⟨_, rfl⟩
  rw [hM] at rX zX ⊢
  have k3 := hv.trans (bX.mono hv.size)
  have G3 := Lib.hid (GX.out.below k3 hNX)
  have K3 := Lib.hid (KX.out.below k3 hJX)
  have B3 := Lib.hid (BX.out.trans (k3.mono BX.out.size))
  have T3 := Lib.hid (TX.out.below k3 (tab_lt TX.out))
  have hN3 : N < X3.heap.size := Nat.lt_of_lt_of_le hNX k3.size
  have hJ3 : J < X3.heap.size := Nat.lt_of_lt_of_le hJX k3.size
  have hM3 : M3 < X3.heap.size := by omega
  have R3 := Lib.hid rX
  have r1 := G3.out.range
  clear hX rX bX zX hM hv k3 GX KX BX TX hNX hJX
  go_upto_region 7 with (first | (refine ld_stage 32 rfl ?_; refine wpList_load_mid rfl 32 _ rfl N 0 rfl (GrdL G) _ r1 Tryd.underlying32 rfl (by rw [GrdL_length]; exact infoGround) ?_) | (go_at_call 10; have hc := (specLL_any G X3 DD.out.ok); rw [DD.out.ll] at hc; refine hc.mono ?_; clear hc; rintro e V4 ⟨rfl, hv⟩) | (refine st_stage 36 rfl ?_; refine wpList_store_mid rfl 36 _ _ rfl _ 0 (Hf (llF G)) rfl rfl (by rw [Hf_size]; with_reducible exact (there_row (heap_alloc_last V4 _) (Hf_size zI))) (by rw [Hf_size]; exact infoH) (Hf_one _) ?_))
  obtain ⟨X4, hX, zX, rX, bX⟩ := hf_stored (llF G) 36 V4
  rw [hX]
  obtain ⟨M4, hM⟩ : ∃ M4, V4.heap.size = M4 := ⟨_, rfl⟩
  rw [hM] at rX zX ⊢
  have k4 := hv.trans (bX.mono hv.size)
  have G4 := Lib.hid (G3.out.below k4 hN3)
  have K4 := Lib.hid (K3.out.below k4 hJ3)
  have B4 := Lib.hid (B3.out.trans (k4.mono B3.out.size))
  have T4 := Lib.hid (T3.out.below k4 (tab_lt T3.out))
  have R34 := Lib.hid (R3.out.below k4 hM3)
  have hN4 : N < X4.heap.size := Nat.lt_of_lt_of_le hN3 k4.size
  have hM34 : M3 < X4.heap.size := Nat.lt_of_lt_of_le hM3 k4.size
  have hM4 : M4 < X4.heap.size := by omega
  have R4 := Lib.hid rX
  have r1 := K4.out.range
  clear hX rX bX zX hM hv k4 G3 K3 B3 T3 hN3 hJ3 hM3 R3
  go_upto_region 8 with (first | (refine ld_stage 32 rfl ?_; refine wpList_load_mid rfl 32 _ rfl J 0 rfl (GrdL K) _ r1 Tryd.underlying32 rfl (by rw [GrdL_length]; exact infoGround) ?_) | (go_at_call 11; have hc := (implLL_any K X4 DK.out.ok T4.out); rw [DK.out.ll] at hc; refine hc.mono ?_; clear hc; rintro e V5 ⟨rfl, hv⟩) | (refine st_stage 36 rfl ?_; refine wpList_store_mid rfl 36 _ _ rfl _ 0 (Hf (llF K)) rfl rfl (by rw [Hf_size]; with_reducible exact (there_row (heap_alloc_last V5 _) (Hf_size zI))) (by rw [Hf_size]; exact infoH) (Hf_one _) ?_))
  obtain ⟨X5, hX, zX, rX, bX⟩ := hf_stored (llF K) 36 V5
  rw [hX]
  obtain ⟨M5, hM⟩ : ∃ M5, V5.heap.size = M5 := ⟨_, rfl⟩
  rw [hM] at rX zX ⊢
  have k5 := hv.trans (bX.mono hv.size)
  have G5 := Lib.hid (G4.out.below k5 hN4)
  have B5 := Lib.hid (B4.out.trans (k5.mono B4.out.size))
  have R35 := Lib.hid (R34.out.below k5 hM34)
  have R45 := Lib.hid (R4.out.below k5 hM4)
  have hN5 : N < X5.heap.size := Nat.lt_of_lt_of_le hN4 k5.size
  have hM45 : M4 < X5.heap.size := Nat.lt_of_lt_of_le hM4 k5.size
  have hM5 : M5 < X5.heap.size := by omega
  have R5 := Lib.hid rX
  have ra := R35.out.range
  have rb := R45.out.range
  have he1 := eqlH16
  have he2 := guard_h16
  have he3 := eqH_self (llF G)
  clear hX rX bX zX hM hv k5 G4 K4 B4 T4 hN4 hM34 hM4 R4 R34 hz0 hz1 r1
  go_upto_region 10 with (first | (refine ld_stage 36 rfl ?_; refine wpList_load_gL (by kernel_rfl) 36 _ rfl (M3) 0 rfl (Hf (llF G)).toList _ ra Tryd.underlying36 rfl (by rw [Hf_length]; exact infoH) ?_) | (refine ld_stage 36 rfl ?_; refine wpList_load_gL (by kernel_rfl) 36 _ rfl (M4) 0 rfl (Hf (llF G)).toList _ rb Tryd.underlying36 rfl (by rw [Hf_length]; exact infoH) ?_))
  clear he1 he2 he3 ra rb
  go_upto_region 11 with (fail)
  go_loopw [13] (fun iv wr => ∃ i : Nat, i ≤ 64 ∧ iv = .int .i64 (i : Int) ∧ Hid (Below X5.heap.size X5 wr)) (fun iv _ => 64 - (intOf iv).toNat)
  case atStart => exact ⟨0, by omega, rfl, Lib.hid (Below.refl _ _)⟩
  case round =>
    obtain ⟨i, hi64, rfl, hB⟩ := hrel
    have r1 := (G5.out.below hB.out hN5).range
    by_cases hlt : i < 64
    · have hii : (i : Int) < 64 := by omega
      cases hib : isB G i
      · have HI := Lib.hid (A2Is_isL G i hlt false hib DD.out.ok)
        have hz : llF G i = 0 := by unfold llF; rw [hib]; rfl
        clear hib
        go_upto_region 14 with (first | (refine ld_stage 32 rfl ?_; refine wpList_load_mid rfl 32 _ rfl N 0 rfl (GrdL G) _ r1 Tryd.underlying32 rfl (by rw [GrdL_length]; exact infoGround) ?_) | (go_at_call 20; refine (HI.out _).mono ?_; rintro e V8 ⟨rfl, hb⟩; have B8 := Lib.hid (hB.out.trans (hb.mono hB.out.size)); clear hb))
        have c0 := (R45.out.below B8.out hM45).cell hlt
        rw [hz] at c0
        go_wp2
        go_roundw
        case rel => exact ⟨i + 1, by omega, by go_num, B8⟩
        case measure => simp [intOf]; omega
      · have HI := Lib.hid (A2Is_isL G i hlt true hib DD.out.ok)
        obtain ⟨k, hk, ek⟩ := (DD.out.cells hlt hib).2.2
        have hz : llF G i = lgO (G.h i) := by unfold llF; rw [hib]; rfl
        have OF := Lib.hid (show fop .f64 .sub (num .f64 (floatOfInt .f64 (llF G i))) (fop .f64 .mul (num .f64 4636737291354636288) ((num .f32 (G.h i)).map cv)) = some 0 by rw [hz, ek]; exact off_ok k hk)
        clear hib hz ek
        obtain ⟨o1, o2⟩ := off_cmp
        go_upto_region 16 with (first | (refine ld_stage 32 rfl ?_; refine wpList_load_mid rfl 32 _ rfl N 0 rfl (GrdL G) _ r1 Tryd.underlying32 rfl (by rw [GrdL_length]; exact infoGround) ?_) | (go_at_call 20; refine (HI.out _).mono ?_; rintro e V8 ⟨rfl, hb⟩; have B8 := Lib.hid (hB.out.trans (hb.mono hB.out.size)); clear hb))
        have c0 := (R45.out.below B8.out hM45).cell hlt
        have c1 := Grd_fld (G5.out.below B8.out hN5).at'.h i hlt
        rw [Nat.zero_add] at c1
        have q0 := fun w' (hw' : Quiet V8 w') => (show w'.cell? ⟨M4, 0 + i, none⟩ = some (.int .i16 (llF G i)) by rw [Nat.zero_add]; exact (hw'.cell _).trans c0)
        have q1 := fun w' (hw' : Quiet V8 w') => (hw'.cell _).trans c1
        clear c0 c1
        refine wp_region_calm (ops' := regOf Tryd.f6 16) [0, 1, 2, 3, 4, 5, 6, 7, 8, 9, 10, 11] [] .fin (Quiet V8) [(0, One (.int .i64 (i : Int))), (1, One (.pointer (some ⟨M4, 0 + i, none⟩))), (2, One (.int .i16 (llF G i))), (3, One (.float .f64 (floatOfInt .f64 (llF G i)))), (4, One (.int .i64 (i : Int))), (5, One (.pointer (some ⟨N, 130, none⟩))), (6, One (.pointer (some ⟨N, 130 + i, none⟩))), (7, One (.float .f32 (G.h i))), (8, Numv .f64 ((num .f32 (G.h i)).map cv)), (9, Numv .f64 (fop .f64 .mul (num .f64 4636737291354636288) ((num .f32 (G.h i)).map cv))), (10, Numv .f64 (fop .f64 .sub (num .f64 (floatOfInt .f64 (llF G i))) (fop .f64 .mul (num .f64 4636737291354636288) ((num .f32 (G.h i)).map cv)))), (11, Numv .f64 (fop .f64 .sub (num .f64 (floatOfInt .f64 (llF G i))) (fop .f64 .mul (num .f64 4636737291354636288) ((num .f32 (G.h i)).map cv))))] (by kernel_rfl) (by kernel_rfl) (by kernel_rfl) (by kernel_rfl) (by kernel_rfl) (by kernel_rfl) (by kernel_rfl) (by kernel_rfl) rfl ((Quiet.refl _).drewN 1) ?_
        refine calm_pure (some 70) (by kernel_rfl) (by kernel_rfl) (by kernel_rfl) (fun _ => by kernel_rfl) ?_
        refine calm_pure (some 71) (by kernel_rfl) (by kernel_rfl) (by kernel_rfl) (fun _ => index_H (x := .tmp 9) (y := .tmp 70) (by kernel_rfl) (by kernel_rfl) (by kernel_rfl) hlt _) ?_
        refine calm_read (some 72) (by kernel_rfl) (by kernel_rfl) (by kernel_rfl) (fun w' hw' => load_cell (ty := 35) (x := .tmp 71) (b := M4) (o := 0 + i) (by kernel_rfl) (by kernel_rfl) Tryd.underlying35 rfl (q0 w' hw')) ?_
        refine calm_pure (some 73) (by kernel_rfl) (by kernel_rfl) (by kernel_rfl) (fun _ => cvI_op (x := .tmp 72) (by kernel_rfl) (by kernel_rfl) _) ?_
        refine calm_pure (some 74) (by kernel_rfl) (by kernel_rfl) (by kernel_rfl) (fun _ => by kernel_rfl) ?_
        refine calm_pure (some 75) (by kernel_rfl) (by kernel_rfl) (by kernel_rfl) (fun _ => by kernel_rfl) ?_
        refine calm_pure (some 76) (by kernel_rfl) (by kernel_rfl) (by kernel_rfl) (index_fld (x := .tmp 75) (y := .tmp 74) (o := 130) (by kernel_rfl) (by kernel_rfl) (by kernel_rfl) hlt) ?_
        refine calm_read (some 77) (by kernel_rfl) (by kernel_rfl) (by kernel_rfl) (fun w' hw' => load_cell (ty := 23) (x := .tmp 76) (b := N) (o := 130 + i) (by kernel_rfl) (by kernel_rfl) Tryd.underlying23 rfl (q1 w' hw')) ?_
        refine calm_conv (some 78) 23 53 (.tmp 77) ((G.h i)) (by kernel_rfl) (by kernel_rfl) (by kernel_rfl) (by kernel_rfl) Tryd.underlying23 Tryd.underlying53 (by kernel_rfl) (fun _ n h => h.drewN n) (rfl) ?_
        intro r78 hr78
        refine calm_float (some 79) .f64 .mul 53 53 ((.const (.float .f64 4636737291354636288))) (.tmp 78) (4636737291354636288) (r78) (by kernel_rfl) (by kernel_rfl) (by kernel_rfl) (by kernel_rfl) rfl (by kernel_rfl) (by kernel_rfl) (fun _ n h => h.drewN n) (fop_eq (rfl) hr78) ?_
        intro r79 hr79
        refine calm_float (some 80) .f64 .sub 53 53 (.tmp 73) (.tmp 79) ((floatOfInt .f64 (llF G i))) (r79) (by kernel_rfl) (by kernel_rfl) (by kernel_rfl) (by kernel_rfl) rfl (by kernel_rfl) (by kernel_rfl) (fun _ n h => h.drewN n) (fop_eq (rfl) hr79) ?_
        intro r80 hr80
        refine calm_pureV (some 14) (.float .f64 r80) ⟨_, rfl, hr80⟩ (by kernel_rfl) (by kernel_rfl) (by kernel_rfl) (fun _ => by kernel_rfl) ?_
        rintro _ ⟨r14, rfl, hr14⟩
        refine calm_end fun w' hw' => plan_end (Clean.normal ?_)
        obtain rfl := (num_eq_some (hr14.trans OF.out)).1
        have B9 := Lib.hid (B8.out.trans (hw'.below _))
        clear hw' q0 q1 hr14 hr80 hr79 hr78
        simp only [Act.put, List.setIfInBounds_toArray, List.set_cons_zero, List.set_cons_succ]
        go_wp2
        go_roundw
        case rel => exact ⟨i + 1, by omega, by go_num, B9⟩
        case measure => simp [intOf]; omega
    · have es : ((i : Nat) : Int) = 64 := by omega
      rw [es]
      have R46 := Lib.hid (R45.out.below hB.out hM45)
      have R56 := Lib.hid (R5.out.below hB.out hM5)
      have B6 := Lib.hid (B5.out.trans (hB.out.mono B5.out.size))
      have hM46 : M4 < wr.heap.size := Nat.lt_of_lt_of_le hM45 hB.out.size
      have hM56 : M5 < wr.heap.size := Nat.lt_of_lt_of_le hM5 hB.out.size
      have ra := R46.out.range
      have rb := R56.out.range
      have TD := Lib.hid (fun V => implDrops_any (llF G) (llF K) (llF_in G) (llF_in K) V)
      have TS := Lib.hid (fun V => specDrops_any (llF G) (llF K) (llF_in G) (llF_in K) V)
      have HDR : drpV (llF G) (llF K) = .tuple #[.int .i64 (mxd (fun i => llF G i - llF K i) 63 : Int), .int .i64 (llF G (mxd (fun i => llF G i - llF K i) 63) - llF K (mxd (fun i => llF G i - llF K i) 63))] := rfl
      have HMX := Lib.hid (mxd_max (fun i => llF G i - llF K i) 63)
      have hm63 := mxd_le (fun i => llF G i - llF K i) 63
      rw [HDR] at TD TS
      generalize mxd (fun i => llF G i - llF K i) 63 = m at TD TS HMX hm63
      obtain ⟨z, hz⟩ : ∃ z, llF G m - llF K m = z := ⟨_, rfl⟩
      rw [hz] at TD TS
      have HZ := Lib.hid hz
      have hm64 : m < 64 := by omega
      clear hB r1 G5 R45 R5 B5 hN5 hM45 hM5 hi64 hlt es HDR R35 hz
      go_upto_region 20 with (first | (refine ld_stage 36 rfl ?_; refine wpList_load_mid rfl 36 _ rfl (M4) 0 rfl (Hf (llF G)).toList _ ra Tryd.underlying36 rfl (by rw [Hf_length]; exact infoH) ?_) | (refine ld_stage 36 rfl ?_; refine wpList_load_mid rfl 36 _ rfl (M5) 0 rfl (Hf (llF K)).toList _ rb Tryd.underlying36 rfl (by rw [Hf_length]; exact infoH) ?_) | (go_at_call 24; refine (TD.out _).mono ?_; rintro e V6 ⟨rfl, hb⟩; have B7 := Lib.hid hb; clear hb))
      have R47 := Lib.hid (R46.out.below B7.out hM46)
      have R57 := Lib.hid (R56.out.below B7.out hM56)
      have ra := R47.out.range
      have rb := R57.out.range
      have BB7 := Lib.hid (B6.out.trans (B7.out.mono B6.out.size))
      have hM47 : M4 < V6.heap.size := Nat.lt_of_lt_of_le hM46 B7.out.size
      have hM57 : M5 < V6.heap.size := Nat.lt_of_lt_of_le hM56 B7.out.size
      clear B6 B7 R46 R56 hM46 hM56
      go_upto_region 21 with (first | (refine ld_stage 36 rfl ?_; refine wpList_load_mid rfl 36 _ rfl (M4) 0 rfl (Hf (llF G)).toList _ ra Tryd.underlying36 rfl (by rw [Hf_length]; exact infoH) ?_) | (refine ld_stage 36 rfl ?_; refine wpList_load_mid rfl 36 _ rfl (M5) 0 rfl (Hf (llF K)).toList _ rb Tryd.underlying36 rfl (by rw [Hf_length]; exact infoH) ?_) | (go_at_call 25; refine (TS.out _).mono ?_; rintro e V7 ⟨rfl, hb⟩; have B8 := Lib.hid hb; clear hb))
      have R48 := Lib.hid (R47.out.below B8.out hM47)
      have R58 := Lib.hid (R57.out.below B8.out hM57)
      have BB8 := Lib.hid (BB7.out.trans (B8.out.mono BB7.out.size))
      clear BB7 B8 R47 R57 hM47 hM57 ra rb TD TS
      have IG := Lib.hid (llF_in G)
      have IK := Lib.hid (llF_in K)
      have q0 := fun w' (hw' : Quiet V7 w') => (show w'.cell? ⟨M4, 0 + m, none⟩ = some (.int .i16 (llF G m)) by rw [Nat.zero_add]; exact (R48.out.quiet hw').cell hm64)
      have q1 := fun w' (hw' : Quiet V7 w') => (show w'.cell? ⟨M5, 0 + m, none⟩ = some (.int .i16 (llF K m)) by rw [Nat.zero_add]; exact (R58.out.quiet hw').cell hm64)
      have zb := in_sub16 (IG.out m hm64) (IK.out m hm64)
      refine wp_region_calm (ops' := regOf Tryd.f6 21) [0, 1, 2, 3, 4, 5, 6, 7, 8, 9, 10, 11, 12, 13, 14, 15, 16, 17, 18, 19, 20, 21, 22, 23, 24, 25, 26, 27, 28] [] .fin (Quiet V7) [(0, One (.int .i64 (m : Int))), (1, One (.int .i64 (m : Int))), (2, One (.bool false)), (3, One (.bool false)), (4, One (.int .i64 z)), (5, One (.int .i64 z)), (6, One (.bool false)), (7, One (.bool false)), (8, One (.bool false)), (9, One (.int .i64 (m : Int))), (10, One (.bool false)), (11, One (.bool false)), (12, One (.bool false)), (13, One (.int .i64 (m : Int))), (14, One (.bool false)), (15, One (.bool false)), (16, One (.bool false)), (17, One (.int .i64 (m : Int))), (18, One (.pointer (some ⟨M4, 0 + m, none⟩))), (19, One (.int .i16 (llF G m))), (20, One (.int .i64 (llF G m))), (21, One (.int .i64 (m : Int))), (22, One (.pointer (some ⟨M5, 0 + m, none⟩))), (23, One (.int .i16 (llF K m))), (24, One (.int .i64 (llF K m))), (25, One (.int .i64 z)), (26, One (.int .i64 z)), (27, One (.bool false)), (28, One (.bool false))] (by kernel_rfl) (by kernel_rfl) (by kernel_rfl) (by kernel_rfl) (by kernel_rfl) (by kernel_rfl) (by kernel_rfl) (by kernel_rfl) rfl ((Quiet.refl _).drewN 1) ?_
      refine calm_pure (some 99) (by kernel_rfl) (by kernel_rfl) (by kernel_rfl) (fun _ => by kernel_rfl) ?_
      refine calm_pure (some 100) (by kernel_rfl) (by kernel_rfl) (by kernel_rfl) (fun _ => by kernel_rfl) ?_
      refine calm_pure (some 101) (by kernel_rfl) (by kernel_rfl) (by kernel_rfl) (fun _ => neq_op (v := (m : Int)) (x := .tmp 99) (y := .tmp 100) (by kernel_rfl) (by kernel_rfl) (by kernel_rfl) _) ?_
      refine calm_pure (some 102) (by kernel_rfl) (by kernel_rfl) (by kernel_rfl) (fun _ => by kernel_rfl) ?_
      refine calm_pure (some 103) (by kernel_rfl) (by kernel_rfl) (by kernel_rfl) (fun _ => by kernel_rfl) ?_
      refine calm_pure (some 104) (by kernel_rfl) (by kernel_rfl) (by kernel_rfl) (fun _ => by kernel_rfl) ?_
      refine calm_pure (some 105) (by kernel_rfl) (by kernel_rfl) (by kernel_rfl) (fun _ => neq_op (v := z) (x := .tmp 103) (y := .tmp 104) (by kernel_rfl) (by kernel_rfl) (by kernel_rfl) _) ?_
      refine calm_pure (some 106) (by kernel_rfl) (by kernel_rfl) (by kernel_rfl) (fun _ => by kernel_rfl) ?_
      refine calm_pure (some 107) (by kernel_rfl) (by kernel_rfl) (by kernel_rfl) (fun _ => by kernel_rfl) ?_
      refine calm_pure (some 108) (by kernel_rfl) (by kernel_rfl) (by kernel_rfl) (fun _ => by kernel_rfl) ?_
      refine calm_pure (some 109) (by kernel_rfl) (by kernel_rfl) (by kernel_rfl) (fun _ => lss_op (u := (m : Int)) (v := 0) (x := .tmp 108) (y := .const (.int .i64 0)) false (by kernel_rfl) (by kernel_rfl) (by kernel_rfl) (by rw [decide_eq_false_iff_not]; omega) _) ?_
      refine calm_pure (some 110) (by kernel_rfl) (by kernel_rfl) (by kernel_rfl) (fun _ => by kernel_rfl) ?_
      refine calm_pure (some 111) (by kernel_rfl) (by kernel_rfl) (by kernel_rfl) (fun _ => by kernel_rfl) ?_
      refine calm_pure (some 112) (by kernel_rfl) (by kernel_rfl) (by kernel_rfl) (fun _ => by kernel_rfl) ?_
      refine calm_pure (some 113) (by kernel_rfl) (by kernel_rfl) (by kernel_rfl) (fun _ => gtr_op (u := (m : Int)) (v := 63) (x := .tmp 112) (y := .const (.int .i64 63)) false (by kernel_rfl) (by kernel_rfl) (by kernel_rfl) (by rw [decide_eq_false_iff_not]; omega) _) ?_
      refine calm_pure (some 114) (by kernel_rfl) (by kernel_rfl) (by kernel_rfl) (fun _ => by kernel_rfl) ?_
      refine calm_pure (some 115) (by kernel_rfl) (by kernel_rfl) (by kernel_rfl) (fun _ => by kernel_rfl) ?_
      refine calm_pure (some 116) (by kernel_rfl) (by kernel_rfl) (by kernel_rfl) (fun _ => by kernel_rfl) ?_
      refine calm_pure (some 117) (by kernel_rfl) (by kernel_rfl) (by kernel_rfl) (fun _ => index_H (x := .tmp 9) (y := .tmp 116) (by kernel_rfl) (by kernel_rfl) (by kernel_rfl) hm64 _) ?_
      refine calm_read (some 118) (by kernel_rfl) (by kernel_rfl) (by kernel_rfl) (fun w' hw' => load_cell (ty := 35) (x := .tmp 117) (b := M4) (o := 0 + m) (by kernel_rfl) (by kernel_rfl) Tryd.underlying35 rfl (q0 w' hw')) ?_
      refine calm_pure (some 119) (by kernel_rfl) (by kernel_rfl) (by kernel_rfl) (fun _ => cv16 (x := .tmp 118) (by kernel_rfl) (by kernel_rfl) (IG.out m hm64) _) ?_
      refine calm_pure (some 120) (by kernel_rfl) (by kernel_rfl) (by kernel_rfl) (fun _ => by kernel_rfl) ?_
      refine calm_pure (some 121) (by kernel_rfl) (by kernel_rfl) (by kernel_rfl) (fun _ => index_H (x := .tmp 11) (y := .tmp 120) (by kernel_rfl) (by kernel_rfl) (by kernel_rfl) hm64 _) ?_
      refine calm_read (some 122) (by kernel_rfl) (by kernel_rfl) (by kernel_rfl) (fun w' hw' => load_cell (ty := 35) (x := .tmp 121) (b := M5) (o := 0 + m) (by kernel_rfl) (by kernel_rfl) Tryd.underlying35 rfl (q1 w' hw')) ?_
      refine calm_pure (some 123) (by kernel_rfl) (by kernel_rfl) (by kernel_rfl) (fun _ => cv16 (x := .tmp 122) (by kernel_rfl) (by kernel_rfl) (IK.out m hm64) _) ?_
      refine calm_pure (some 124) (by kernel_rfl) (by kernel_rfl) (by kernel_rfl) (fun _ => subI (ty := 2) (tz := 2) (p := .tmp 119) (q := .tmp 123) (by kernel_rfl) (by kernel_rfl) (by kernel_rfl) HZ.out.symm (by rw [← HZ.out]; exact zb) _) ?_
      refine calm_pure (some 125) (by kernel_rfl) (by kernel_rfl) (by kernel_rfl) (fun _ => by kernel_rfl) ?_
      refine calm_pure (some 126) (by kernel_rfl) (by kernel_rfl) (by kernel_rfl) (fun _ => neq_op (v := z) (x := .tmp 124) (y := .tmp 125) (by kernel_rfl) (by kernel_rfl) (by kernel_rfl) _) ?_
      refine calm_pure (some 127) (by kernel_rfl) (by kernel_rfl) (by kernel_rfl) (fun _ => by kernel_rfl) ?_
      refine calm_end fun w' hw' => plan_end (Clean.normal ?_)
      have B9 := Lib.hid (BB8.out.trans (hw'.below _))
      have R49 := Lib.hid (R48.out.quiet hw')
      have R59 := Lib.hid (R58.out.quiet hw')
      clear hw' q0 q1 BB8 R48 R58 zb
      simp only [Act.put, List.setIfInBounds_toArray, List.set_cons_zero, List.set_cons_succ]
      go_wp2
      go_loopw [19] (fun iv wr2 => ∃ j : Nat, j ≤ 64 ∧ iv = .int .i64 (j : Int) ∧ Hid (Quiet w' wr2)) (fun iv _ => 64 - (intOf iv).toNat)
      case atStart => exact ⟨0, by omega, rfl, Lib.hid (Quiet.refl _)⟩
      case round =>
        obtain ⟨j, hj, rfl, hQ⟩ := hrel
        by_cases hlt : j < 64
        · have hji : (j : Int) < 64 := by omega
          obtain ⟨mx1, mx2⟩ := HMX.out j (by omega)
          simp only [HZ.out] at mx1 mx2
          have q0 := fun w2 (hw2 : Quiet wr w2) => (show w2.cell? ⟨M4, 0 + j, none⟩ = some (.int .i16 (llF G j)) by rw [Nat.zero_add]; exact (R49.out.quiet (hQ.out.trans hw2)).cell hlt)
          have q1 := fun w2 (hw2 : Quiet wr w2) => (show w2.cell? ⟨M5, 0 + j, none⟩ = some (.int .i16 (llF K j)) by rw [Nat.zero_add]; exact (R59.out.quiet (hQ.out.trans hw2)).cell hlt)
          have zb := in_sub16 (IG.out j hlt) (IK.out j hlt)
          by_cases hjm : j < m
          · have mx3 := mx2 hjm
            go_upto_region 26 with (fail)
            refine wp_region_calm (ops' := regOf Tryd.f6 26) [0, 1, 2, 3, 4, 5, 6, 7, 8, 9, 10, 11, 12, 13, 14, 15, 16, 17, 18, 19, 20, 21, 22, 23, 24, 25, 26, 27, 28] [] .fin (Quiet wr) [(0, One (.int .i64 (j : Int))), (1, One (.pointer (some ⟨M4, 0 + j, none⟩))), (2, One (.int .i16 (llF G j))), (3, One (.int .i64 (llF G j))), (4, One (.int .i64 (j : Int))), (5, One (.pointer (some ⟨M5, 0 + j, none⟩))), (6, One (.int .i16 (llF K j))), (7, One (.int .i64 (llF K j))), (8, One (.int .i64 (llF G j - llF K j))), (9, One (.int .i64 z)), (10, One (.bool false)), (11, One (.bool false)), (12, One (.int .i64 (j : Int))), (13, One (.int .i64 (m : Int))), (14, One (.bool true)), (15, One (.bool true)), (16, One (.int .i64 (j : Int))), (17, One (.pointer (some ⟨M4, 0 + j, none⟩))), (18, One (.int .i16 (llF G j))), (19, One (.int .i64 (llF G j))), (20, One (.int .i64 (j : Int))), (21, One (.pointer (some ⟨M5, 0 + j, none⟩))), (22, One (.int .i16 (llF K j))), (23, One (.int .i64 (llF K j))), (24, One (.int .i64 (llF G j - llF K j))), (25, One (.int .i64 z)), (26, One (.bool false)), (27, One (.bool false)), (28, One (.bool false))] (by kernel_rfl) (by kernel_rfl) (by kernel_rfl) (by kernel_rfl) (by kernel_rfl) (by kernel_rfl) (by kernel_rfl) (by kernel_rfl) rfl ((Quiet.refl _).drewN 1) ?_
            refine calm_pure (some 132) (by kernel_rfl) (by kernel_rfl) (by kernel_rfl) (fun _ => by kernel_rfl) ?_
            refine calm_pure (some 133) (by kernel_rfl) (by kernel_rfl) (by kernel_rfl) (fun _ => index_H (x := .tmp 9) (y := .tmp 132) (by kernel_rfl) (by kernel_rfl) (by kernel_rfl) hlt _) ?_
            refine calm_read (some 134) (by kernel_rfl) (by kernel_rfl) (by kernel_rfl) (fun w' hw' => load_cell (ty := 35) (x := .tmp 133) (b := M4) (o := 0 + j) (by kernel_rfl) (by kernel_rfl) Tryd.underlying35 rfl (q0 w' hw')) ?_
            refine calm_pure (some 135) (by kernel_rfl) (by kernel_rfl) (by kernel_rfl) (fun _ => cv16 (x := .tmp 134) (by kernel_rfl) (by kernel_rfl) (IG.out j hlt) _) ?_
            refine calm_pure (some 136) (by kernel_rfl) (by kernel_rfl) (by kernel_rfl) (fun _ => by kernel_rfl) ?_
            refine calm_pure (some 137) (by kernel_rfl) (by kernel_rfl) (by kernel_rfl) (fun _ => index_H (x := .tmp 11) (y := .tmp 136) (by kernel_rfl) (by kernel_rfl) (by kernel_rfl) hlt _) ?_
            refine calm_read (some 138) (by kernel_rfl) (by kernel_rfl) (by kernel_rfl) (fun w' hw' => load_cell (ty := 35) (x := .tmp 137) (b := M5) (o := 0 + j) (by kernel_rfl) (by kernel_rfl) Tryd.underlying35 rfl (q1 w' hw')) ?_
            refine calm_pure (some 139) (by kernel_rfl) (by kernel_rfl) (by kernel_rfl) (fun _ => cv16 (x := .tmp 138) (by kernel_rfl) (by kernel_rfl) (IK.out j hlt) _) ?_
            refine calm_pure (some 140) (by kernel_rfl) (by kernel_rfl) (by kernel_rfl) (fun _ => subI (ty := 2) (tz := 2) (p := .tmp 135) (q := .tmp 139) (by kernel_rfl) (by kernel_rfl) (by kernel_rfl) rfl zb _) ?_
            refine calm_pure (some 141) (by kernel_rfl) (by kernel_rfl) (by kernel_rfl) (fun _ => by kernel_rfl) ?_
            refine calm_pure (some 142) (by kernel_rfl) (by kernel_rfl) (by kernel_rfl) (fun _ => gtr_op (u := llF G j - llF K j) (v := z) (x := .tmp 140) (y := .tmp 141) false (by kernel_rfl) (by kernel_rfl) (by kernel_rfl) (by rw [decide_eq_false_iff_not]; omega) _) ?_
            refine calm_pure (some 143) (by kernel_rfl) (by kernel_rfl) (by kernel_rfl) (fun _ => by kernel_rfl) ?_
            refine calm_pure (some 144) (by kernel_rfl) (by kernel_rfl) (by kernel_rfl) (fun _ => by kernel_rfl) ?_
            refine calm_pure (some 145) (by kernel_rfl) (by kernel_rfl) (by kernel_rfl) (fun _ => by kernel_rfl) ?_
            refine calm_pure (some 146) (by kernel_rfl) (by kernel_rfl) (by kernel_rfl) (fun _ => lss_op (u := (j : Int)) (v := (m : Int)) (x := .tmp 144) (y := .tmp 145) true (by kernel_rfl) (by kernel_rfl) (by kernel_rfl) (by rw [decide_eq_true_eq]; omega) _) ?_
            refine calm_pure (some 147) (by kernel_rfl) (by kernel_rfl) (by kernel_rfl) (fun _ => by kernel_rfl) ?_
            refine calm_pure (some 148) (by kernel_rfl) (by kernel_rfl) (by kernel_rfl) (fun _ => by kernel_rfl) ?_
            refine calm_pure (some 149) (by kernel_rfl) (by kernel_rfl) (by kernel_rfl) (fun _ => index_H (x := .tmp 9) (y := .tmp 148) (by kernel_rfl) (by kernel_rfl) (by kernel_rfl) hlt _) ?_
            refine calm_read (some 150) (by kernel_rfl) (by kernel_rfl) (by kernel_rfl) (fun w' hw' => load_cell (ty := 35) (x := .tmp 149) (b := M4) (o := 0 + j) (by kernel_rfl) (by kernel_rfl) Tryd.underlying35 rfl (q0 w' hw')) ?_
            refine calm_pure (some 151) (by kernel_rfl) (by kernel_rfl) (by kernel_rfl) (fun _ => cv16 (x := .tmp 150) (by kernel_rfl) (by kernel_rfl) (IG.out j hlt) _) ?_
            refine calm_pure (some 152) (by kernel_rfl) (by kernel_rfl) (by kernel_rfl) (fun _ => by kernel_rfl) ?_
            refine calm_pure (some 153) (by kernel_rfl) (by kernel_rfl) (by kernel_rfl) (fun _ => index_H (x := .tmp 11) (y := .tmp 152) (by kernel_rfl) (by kernel_rfl) (by kernel_rfl) hlt _) ?_
            refine calm_read (some 154) (by kernel_rfl) (by kernel_rfl) (by kernel_rfl) (fun w' hw' => load_cell (ty := 35) (x := .tmp 153) (b := M5) (o := 0 + j) (by kernel_rfl) (by kernel_rfl) Tryd.underlying35 rfl (q1 w' hw')) ?_
            refine calm_pure (some 155) (by kernel_rfl) (by kernel_rfl) (by kernel_rfl) (fun _ => cv16 (x := .tmp 154) (by kernel_rfl) (by kernel_rfl) (IK.out j hlt) _) ?_
            refine calm_pure (some 156) (by kernel_rfl) (by kernel_rfl) (by kernel_rfl) (fun _ => subI (ty := 2) (tz := 2) (p := .tmp 151) (q := .tmp 155) (by kernel_rfl) (by kernel_rfl) (by kernel_rfl) rfl zb _) ?_
            refine calm_pure (some 157) (by kernel_rfl) (by kernel_rfl) (by kernel_rfl) (fun _ => by kernel_rfl) ?_
            refine calm_pure (some 158) (by kernel_rfl) (by kernel_rfl) (by kernel_rfl) (fun _ => eql_op (u := llF G j - llF K j) (v := z) (x := .tmp 156) (y := .tmp 157) (by kernel_rfl) (by kernel_rfl) (by kernel_rfl) (by omega) _) ?_
            refine calm_pure (some 159) (by kernel_rfl) (by kernel_rfl) (by kernel_rfl) (fun _ => by kernel_rfl) ?_
            refine calm_pure (some 160) (by kernel_rfl) (by kernel_rfl) (by kernel_rfl) (fun _ => by kernel_rfl) ?_
            refine calm_end fun w2 hw2 => plan_end (Clean.normal ?_)
            have HQ2 := Lib.hid (hQ.out.trans hw2)
            clear hw2 q0 q1 zb
            simp only [Act.put, List.setIfInBounds_toArray, List.set_cons_zero, List.set_cons_succ]
            go_wp2
            go_roundw
            case rel => exact ⟨j + 1, by omega, by go_num, HQ2⟩
            case measure => simp [intOf]; omega
          · go_upto_region 26 with (fail)
            refine wp_region_calm (ops' := regOf Tryd.f6 26) [0, 1, 2, 3, 4, 5, 6, 7, 8, 9, 10, 11, 12, 13, 14, 15, 16, 17, 18, 19, 20, 21, 22, 23, 24, 25, 26, 27, 28] [] .fin (Quiet wr) [(0, One (.int .i64 (j : Int))), (1, One (.pointer (some ⟨M4, 0 + j, none⟩))), (2, One (.int .i16 (llF G j))), (3, One (.int .i64 (llF G j))), (4, One (.int .i64 (j : Int))), (5, One (.pointer (some ⟨M5, 0 + j, none⟩))), (6, One (.int .i16 (llF K j))), (7, One (.int .i64 (llF K j))), (8, One (.int .i64 (llF G j - llF K j))), (9, One (.int .i64 z)), (10, One (.bool false)), (11, One (.bool false)), (12, One (.int .i64 (j : Int))), (13, One (.int .i64 (m : Int))), (14, One (.bool false)), (15, One (.bool false)), (16, One undef), (17, One undef), (18, One undef), (19, One undef), (20, One undef), (21, One undef), (22, One undef), (23, One undef), (24, One undef), (25, One undef), (26, One undef), (27, One (.bool false)), (28, One (.bool false))] (by kernel_rfl) (by kernel_rfl) (by kernel_rfl) (by kernel_rfl) (by kernel_rfl) (by kernel_rfl) (by kernel_rfl) (by kernel_rfl) rfl ((Quiet.refl _).drewN 1) ?_
            refine calm_pure (some 132) (by kernel_rfl) (by kernel_rfl) (by kernel_rfl) (fun _ => by kernel_rfl) ?_
            refine calm_pure (some 133) (by kernel_rfl) (by kernel_rfl) (by kernel_rfl) (fun _ => index_H (x := .tmp 9) (y := .tmp 132) (by kernel_rfl) (by kernel_rfl) (by kernel_rfl) hlt _) ?_
            refine calm_read (some 134) (by kernel_rfl) (by kernel_rfl) (by kernel_rfl) (fun w' hw' => load_cell (ty := 35) (x := .tmp 133) (b := M4) (o := 0 + j) (by kernel_rfl) (by kernel_rfl) Tryd.underlying35 rfl (q0 w' hw')) ?_
            refine calm_pure (some 135) (by kernel_rfl) (by kernel_rfl) (by kernel_rfl) (fun _ => cv16 (x := .tmp 134) (by kernel_rfl) (by kernel_rfl) (IG.out j hlt) _) ?_
            refine calm_pure (some 136) (by kernel_rfl) (by kernel_rfl) (by kernel_rfl) (fun _ => by kernel_rfl) ?_
            refine calm_pure (some 137) (by kernel_rfl) (by kernel_rfl) (by kernel_rfl) (fun _ => index_H (x := .tmp 11) (y := .tmp 136) (by kernel_rfl) (by kernel_rfl) (by kernel_rfl) hlt _) ?_
            refine calm_read (some 138) (by kernel_rfl) (by kernel_rfl) (by kernel_rfl) (fun w' hw' => load_cell (ty := 35) (x := .tmp 137) (b := M5) (o := 0 + j) (by kernel_rfl) (by kernel_rfl) Tryd.underlying35 rfl (q1 w' hw')) ?_
            refine calm_pure (some 139) (by kernel_rfl) (by kernel_rfl) (by kernel_rfl) (fun _ => cv16 (x := .tmp 138) (by kernel_rfl) (by kernel_rfl) (IK.out j hlt) _) ?_
            refine calm_pure (some 140) (by kernel_rfl) (by kernel_rfl) (by kernel_rfl) (fun _ => subI (ty := 2) (tz := 2) (p := .tmp 135) (q := .tmp 139) (by kernel_rfl) (by kernel_rfl) (by kernel_rfl) rfl zb _) ?_
            refine calm_pure (some 141) (by kernel_rfl) (by kernel_rfl) (by kernel_rfl) (fun _ => by kernel_rfl) ?_
            refine calm_pure (some 142) (by kernel_rfl) (by kernel_rfl) (by kernel_rfl) (fun _ => gtr_op (u := llF G j - llF K j) (v := z) (x := .tmp 140) (y := .tmp 141) false (by kernel_rfl) (by kernel_rfl) (by kernel_rfl) (by rw [decide_eq_false_iff_not]; omega) _) ?_
            refine calm_pure (some 143) (by kernel_rfl) (by kernel_rfl) (by kernel_rfl) (fun _ => by kernel_rfl) ?_
            refine calm_pure (some 144) (by kernel_rfl) (by kernel_rfl) (by kernel_rfl) (fun _ => by kernel_rfl) ?_
            refine calm_pure (some 145) (by kernel_rfl) (by kernel_rfl) (by kernel_rfl) (fun _ => by kernel_rfl) ?_
            refine calm_pure (some 146) (by kernel_rfl) (by kernel_rfl) (by kernel_rfl) (fun _ => lss_op (u := (j : Int)) (v := (m : Int)) (x := .tmp 144) (y := .tmp 145) false (by kernel_rfl) (by kernel_rfl) (by kernel_rfl) (by rw [decide_eq_false_iff_not]; omega) _) ?_
            refine calm_pure (some 147) (by kernel_rfl) (by kernel_rfl) (by kernel_rfl) (fun _ => by kernel_rfl) ?_
            refine calm_skip (some 148) (by kernel_rfl) (by kernel_rfl) (by kernel_rfl) ?_
            refine calm_skip (some 149) (by kernel_rfl) (by kernel_rfl) (by kernel_rfl) ?_
            refine calm_skip (some 150) (by kernel_rfl) (by kernel_rfl) (by kernel_rfl) ?_
            refine calm_skip (some 151) (by kernel_rfl) (by kernel_rfl) (by kernel_rfl) ?_
            refine calm_skip (some 152) (by kernel_rfl) (by kernel_rfl) (by kernel_rfl) ?_
            refine calm_skip (some 153) (by kernel_rfl) (by kernel_rfl) (by kernel_rfl) ?_
            refine calm_skip (some 154) (by kernel_rfl) (by kernel_rfl) (by kernel_rfl) ?_
            refine calm_skip (some 155) (by kernel_rfl) (by kernel_rfl) (by kernel_rfl) ?_
            refine calm_skip (some 156) (by kernel_rfl) (by kernel_rfl) (by kernel_rfl) ?_
            refine calm_skip (some 157) (by kernel_rfl) (by kernel_rfl) (by kernel_rfl) ?_
            refine calm_skip (some 158) (by kernel_rfl) (by kernel_rfl) (by kernel_rfl) ?_
            refine calm_pure (some 159) (by kernel_rfl) (by kernel_rfl) (by kernel_rfl) (fun _ => by kernel_rfl) ?_
            refine calm_pure (some 160) (by kernel_rfl) (by kernel_rfl) (by kernel_rfl) (fun _ => by kernel_rfl) ?_
            refine calm_end fun w2 hw2 => plan_end (Clean.normal ?_)
            have HQ2 := Lib.hid (hQ.out.trans hw2)
            clear hw2 q0 q1 zb
            simp only [Act.put, List.setIfInBounds_toArray, List.set_cons_zero, List.set_cons_succ]
            go_wp2
            go_roundw
            case rel => exact ⟨j + 1, by omega, by go_num, HQ2⟩
            case measure => simp [intOf]; omega
        · obtain rfl : j = 64 := by omega
          go_wp2
          go_ret
          exact ⟨rfl, B9.out.trans (hQ.out.below _)⟩
end Go.Proofs.YtjhaonfdapldcaaDoor
