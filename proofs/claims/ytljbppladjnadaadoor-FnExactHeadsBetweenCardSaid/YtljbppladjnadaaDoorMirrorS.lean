/- MirrorGround: the model's. No condition. -/
import Derived.Test.YtljbppladjnadaaDoorMade
import Derived.Test.YtljbppladjnadaaDoorSumI
import Derived.Test.YtljbppladjnadaaDoorLawKit
namespace Go.Proofs.YtljbppladjnadaaDoor
open Go.RowKit
attribute [local go_sem] run_store_float
set_option linter.unusedSimpArgs false

/-- The mirrored number of a cell. -/
def mir (G : Gd) (i : Nat) : Nat := i - i % 8 + (G.wide.toNat - 1 - i % 8)

/-- A bit of a mask, moved. -/
def mvX (G : Gd) (x : Nat) (i : Nat) : Nat := if G.x.toNat.testBit i = true then x ||| 2 ^ mir G i else x
/-- One cell is mirrored. -/
def mirS (G : Gd) (H : Gd) (i : Nat) : Gd := { H with c := upd H.c (mir G i) (G.c i), g := upd H.g (mir G i) (G.g i), h := upd H.h (mir G i) (G.h i), x := (mvX G H.x.toNat i : Nat) }
def mirL (G : Gd) (l : List Nat) : Gd := l.foldl (mirS G) { G with x := 0 }
theorem mirS_eq {G H : Gd} {k j : Nat} {V : Int} (hj : mir G k = j) (hV : V = ((mvX G H.x.toNat k : Nat) : Int)) : mirS G H k = { H with c := upd H.c j (G.c k), g := upd H.g j (G.g k), h := upd H.h j (G.h k), x := V } := by
  subst hj
  subst hV
  rfl
theorem mirL_snoc (G : Gd) (l : List Nat) (i : Nat) : mirL G (l ++ [i]) = mirS G (mirL G l) i := by simp [mirL]

theorem mir_lt {G : Gd} {i : Nat} (hv : validB G = true) (hi : i < 64) (hb : isB G i = true) : mir G i < 64 ∧ mir G i = i - i % 8 + (G.wide.toNat - 1 - i % 8) ∧ i % 8 < G.wide.toNat ∧ i - i % 8 + 8 ≤ 64 := by
  obtain ⟨v1, v2, v3, v4⟩ := valid_ext hv
  simp only [isB, Bool.and_eq_true, decide_eq_true_eq] at hb
  unfold mir
  omega

/-- The list of the cells, in order. -/
def cellL (G : Gd) : List Nat := (List.range 64).filter (isB G)
theorem cellL_bits (G : Gd) : bitsL (cellsN G) = cellL G := by
  unfold bitsL cellL
  refine List.filter_congr fun i hi => ?_
  rw [cellsN_testBit]
  simp at hi
  simp [hi]
/-- The first of them. -/
def cellTo (G : Gd) (k : Nat) : List Nat := (List.range k).filter (isB G)
theorem cellTo_succ (G : Gd) (k : Nat) : cellTo G (k + 1) = if isB G k = true then cellTo G k ++ [k] else cellTo G k := by
  unfold cellTo
  rw [List.range_succ, List.filter_append]
  cases h : isB G k <;> simp [h]

def mirG (G : Gd) : Gd := if validB G = true then mirL G (cellL G) else zG
def mirN (G : Gd) : Int := if validB G = true then 0 else 1

/-- Of one bit of a mask, moved, as the model computes it. -/
theorem mv_val (X x i j : Nat) (hX : X < 18446744073709551616) (hj : j < 64) :
    bits .or .u64 (X : Int) (IntKind.u64.wrap (((x : Int) / 2 ^ i).tmod 2 * 2 ^ j)) = (((if x.testBit i = true then X ||| 2 ^ j else X) : Nat) : Int) := by
  have e1 : ((x : Int) / 2 ^ i).tmod 2 = ((x / 2 ^ i % 2 : Nat) : Int) := by
    rw [Int.tmod_eq_emod_of_nonneg (Int.ediv_nonneg (by omega) (by have := Int.pow_pos (n := 2) (m := i) (by omega); omega))]
    simp
  have e2 : x / 2 ^ i % 2 = (x.testBit i).toNat := by
    rw [Nat.testBit_eq_decide_div_mod_eq]
    have : x / 2 ^ i % 2 = 0 ∨ x / 2 ^ i % 2 = 1 := by omega
    rcases this with h | h <;> simp [h]
  rw [e1, e2]
  cases x.testBit i
  · have : IntKind.u64.wrap (((false.toNat : Nat) : Int) * 2 ^ j) = ((0 : Nat) : Int) := by simp [IntKind.wrap_u64]
    rw [this, bits_or_u64_nat X 0 hX (by omega)]
    simp
  · have : IntKind.u64.wrap (((true.toNat : Nat) : Int) * 2 ^ j) = ((2 ^ j : Nat) : Int) := by
      rw [← wrap_pow j hj]; simp
    rw [this, bits_or_u64_nat X _ hX (by have : 2 ^ j < 2 ^ 64 := Nat.pow_lt_pow_right (by decide) hj; simpa using this)]
    simp

/-- Masks stay within their kind. -/
theorem mirL_x (G : Gd) (hv : validB G = true) : ∀ (l : List Nat), (∀ i ∈ l, i < 64 ∧ isB G i = true) → ∃ n : Nat, (mirL G l).x = n ∧ n < 18446744073709551616 := by
  intro l
  rw [← List.reverse_reverse l]
  induction l.reverse with
  | nil => intro _; exact ⟨0, rfl, by omega⟩
  | cons i r ih =>
    intro h
    rw [List.reverse_cons] at h ⊢
    obtain ⟨n, h1, h2⟩ := ih (fun j hj => h j (by simp at hj ⊢; exact .inl hj))
    obtain ⟨m1, _⟩ := mir_lt hv (h i (by simp)).1 (h i (by simp)).2
    rw [mirL_snoc]
    refine ⟨mvX G (mirL G r.reverse).x.toNat i, rfl, ?_⟩
    rw [h1, Int.toNat_natCast]
    unfold mvX
    split
    · have : n ||| 2 ^ mir G i < 2 ^ 64 := Nat.or_lt_two_pow (by simpa using h2) (Nat.pow_lt_pow_right (by decide) m1)
      simpa using this
    · exact h2

theorem cellTo_ok (G : Gd) (k : Nat) (hk : k ≤ 64) : ∀ i ∈ cellTo G k, i < 64 ∧ isB G i = true := fun i hi => by
  simp only [cellTo, List.mem_filter, List.mem_range] at hi
  exact ⟨by omega, hi.2⟩
/-- The mask of a round. -/
theorem mv_ground (G : Gd) (k j : Nat) (hv : validB G = true) (hk : k < 64) (hj : mir G k = j) (hj2 : j < 64) (hG : GdOk G) :
    bits .or .u64 (mirL G (cellTo G k)).x (IntKind.u64.wrap ((G.x / 2 ^ k).tmod 2 * 2 ^ j)) = ((mvX G (mirL G (cellTo G k)).x.toNat k : Nat) : Int) := by
  obtain ⟨n, h1, h2⟩ := mirL_x G hv _ (cellTo_ok G k (by omega))
  have hx := hG.x'
  obtain ⟨x, h3⟩ : ∃ x : Nat, G.x = x := ⟨G.x.toNat, by omega⟩
  rw [h1, h3, mv_val n x k j h2 hj2, Int.toNat_natCast]
  unfold mvX
  rw [h3, hj, Int.toNat_natCast]

set_option maxRecDepth 100000 in
set_option maxHeartbeats 2000000 in
theorem specMirror_any (G : Gd) (w : World) (hG : GdOk G) :
    Calls Tryd.prog 36 #[.agg (Grd G)] w fun e w' => e = .returned (GN (mirG G) (mirN G)) ∧ Below w.heap.size w w' := by
  have hz := (zero_of_info zeroGround).1
  go_enter Tryd.func36, Tryd.ntmps36
  go_upto_region 1 with (fail)
  obtain ⟨W, hW, hs, g1, g2, hB⟩ := gbox2 G zG 31 31 w
  rw [hW]
  clear hW
  have G1 := Lib.hid g1
  have HB := Lib.hid hB
  have HG := Lib.hid hG
  have Hs := Lib.hid hs
  have q2 := Lib.hid (fun n => (g2.below (Quiet.below ⟨n, rfl⟩ (w.heap.size + 1 + 1)) (by omega) : GBox (World.drewN W n) (w.heap.size + 1) zG))
  have q1 := Lib.hid (fun n => (g1.below (Quiet.below ⟨n, rfl⟩ (w.heap.size + 1)) (by omega) : GBox (World.drewN W n) w.heap.size G))
  clear g1 g2 hB hG hs
  cases hv : validB G
  · have Hv := Lib.hid hv
    have R1 := Lib.hid (show mirG G = zG by simp [mirG, hv])
    have R2 := Lib.hid (show mirN G = 1 by simp [mirN, hv])
    clear hv
    go_wp2_with (first | (go_at_call 43; have hc := (l01Ok_any G _ _ G1.out.at' HG.out); rw [Hv.out] at hc; refine hc.mono ?_; clear hc; rintro e w' ⟨rfl, n, rfl⟩) | (refine wpList_store_mid rfl 31 _ _ rfl _ 0 (Grd zG) rfl rfl (by rw [Grd_size]; exact (q2.out n).there) (by rw [Grd_size]; exact infoGround) (Grd_one _) ?_))
    refine bodyPost_ret (ret_GN rfl rfl rfl (q2.out n).store.range) rfl ⟨by rw [R1.out, R2.out], below_setCells _ (by omega) _ _ _ (HB.out.trans (Quiet.below ⟨n, rfl⟩ _))⟩
  · have Hv := Lib.hid hv
    have R1 := Lib.hid (show mirG G = mirL G (cellL G) by simp [mirG, hv])
    have R2 := Lib.hid (show mirN G = 0 by simp [mirN, hv])
    clear hv
    go_upto_region 3 with (go_at_call 43; have hc := (l01Ok_any G _ _ G1.out.at' HG.out); rw [Hv.out] at hc; refine hc.mono ?_; clear hc; rintro e w' ⟨rfl, n, rfl⟩)
    obtain ⟨V, hV⟩ : ∃ V, World.drewN W n = V := ⟨_, rfl⟩
    have p1 := q1.out n
    have p2 := q2.out n
    have B1 := Lib.hid (HB.out.trans (Quiet.below ⟨n, rfl⟩ _ : Below w.heap.size W (World.drewN W n)))
    have z1 : V.heap.size = w.heap.size + 1 + 1 := by rw [← hV]; exact Hs.out
    rw [hV] at p1 p2 B1 ⊢
    clear hV q1 q2 G1
    have r1 := p1.range
    have P1 := Lib.hid p1
    have P2 := Lib.hid p2
    have Z1 := Lib.hid z1
    clear p1 p2 z1
    go_upto_region 4 with (first | (refine wpList_load_mid rfl 31 _ rfl w.heap.size 0 rfl (GrdL G) _ r1 Tryd.underlying31 rfl (by rw [GrdL_length]; exact infoGround) ?_) | (refine wpList_store_mid rfl 31 _ _ rfl _ 0 (Grd G) rfl rfl (by rw [Grd_size]; exact new_there _ V) (by rw [Grd_size]; exact infoGround) (Grd_one _) ?_; obtain ⟨X, hX, zX, gX, bX⟩ := stored_box G 31 V; rw [hX]; have hx : V.heap.size < X.heap.size := (by omega); clear hX zX))
    have z1 := Z1.out
    rw [z1]
    have gX' : GBox X (w.heap.size + 1 + 1) G := by rw [← z1]; exact gX
    have hx' : w.heap.size + 1 + 1 < X.heap.size := by omega
    clear z1 hx Z1
    have z1' : w.heap.size < V.heap.size := by have := P1.out.lt; exact this
    have z2' : w.heap.size + 1 < V.heap.size := by have := P2.out.lt; exact this
    have PX := Lib.hid (gX'.putX (x := 0))
    have PXs := Lib.hid ((P1.out.below bX (by omega)).far (b' := w.heap.size + 1 + 1) (k := 194) (v := .int .u64 0) (by omega))
    have PXr := Lib.hid ((P2.out.below bX (by omega)).far (b' := w.heap.size + 1 + 1) (k := 194) (v := .int .u64 0) (by omega))
    have BX := Lib.hid ((B1.out.trans (bX.mono (by omega))).setCell (p := ⟨w.heap.size + 1 + 1, 194, none⟩) (by simp; omega) (.int .u64 0))
    have b0 := gX'.at_some 194 (by omega)
    obtain ⟨u, hu⟩ := Option.isSome_iff_exists.1 b0
    have f0 := gX'.free 194 (by omega)
    clear b0 gX gX' bX r1 hz P1 P2 B1
    go_upto_region 5 with (fail)
    obtain ⟨Y, hY⟩ : ∃ Y, X.setCell ⟨w.heap.size + 1 + 1, 194, none⟩ (.int .u64 0) = Y := ⟨_, rfl⟩
    have zY : w.heap.size + 1 + 1 < Y.heap.size := by rw [← hY, World.size_setCell]; omega
    rw [hY] at PX PXs PXr BX ⊢
    clear hY hu f0 u
    go_wp2
    go_loopw [5, 6] (fun i _ wr => ∃ k : Nat, k ≤ 64 ∧ i = .int .i64 k ∧ Hid (GBox wr (w.heap.size + 1 + 1) (mirL G (cellTo G k))) ∧ Hid (GBox wr w.heap.size G) ∧ Hid (GBox wr (w.heap.size + 1) zG) ∧ Hid (Below w.heap.size w wr)) (fun i _ _ => 64 - (intOf i).toNat)
    case atStart => exact ⟨0, by omega, rfl, PX, PXs, PXr, BX⟩
    case round =>
      clear PX PXs PXr BX
      obtain ⟨k, hk, rfl, Q0, Q0s, Q0r, D0⟩ := hrel
      by_cases hlt : k < 64
      · cases hi : isB G k
        · have Hi := Lib.hid hi
          have E := Lib.hid (show cellTo G (k + 1) = cellTo G k by rw [cellTo_succ, hi]; simp)
          clear hi
          go_wp2_with (go_at_call 63; refine (l01Is_is G k hlt false Hi.out _ _ Q0s.out.at' HG.out).mono ?_; rintro e w' ⟨rfl, rfl⟩)
          go_roundw
          case rel => exact ⟨k + 1, by omega, by go_num, by rw [E.out]; exact Q0, Q0s, Q0r, D0⟩
          case measure => simp [intOf]; omega
        · have Hi := Lib.hid hi
          have E := Lib.hid (show cellTo G (k + 1) = cellTo G k ++ [k] by rw [cellTo_succ, hi]; simp)
          obtain ⟨hm, hmE, hm2, hm3⟩ := mir_lt Hv.out hlt hi
          obtain ⟨v1, v2, v3, v4⟩ := valid_ext Hv.out
          have key : (k : Int) - (k : Int) % 8 + G.wide - 1 - (k : Int) % 8 = ((mir G k : Nat) : Int) := by omega
          obtain ⟨j, hj⟩ : ∃ j, mir G k = j := ⟨_, rfl⟩
          rw [hj] at hm key
          have Key := Lib.hid key
          have HJ := Lib.hid hj
          have aw := Q0s.out.at'.wide
          clear hi key hmE hj hm2 hm3
          go_upto_region 10 with (go_at_call 63; refine (l01Is_is G k hlt true Hi.out _ _ Q0s.out.at' HG.out).mono ?_; rintro e w' ⟨rfl, rfl⟩)
          rw [Key.out]
          clear aw
          have b0 := Q0.out.at_some (2 + j) (by omega)
          obtain ⟨u, hu⟩ := Option.isSome_iff_exists.1 b0
          have f0 := Q0.out.free (2 + j) (by omega)
          have Qa := Lib.hid (Q0.out.putC hm (x := G.c k))
          have Qas := Lib.hid (Q0s.out.far (b' := w.heap.size + 1 + 1) (k := 2 + j) (v := .float .f32 (G.c k)) (by omega))
          have Qar := Lib.hid (Q0r.out.far (b' := w.heap.size + 1 + 1) (k := 2 + j) (v := .float .f32 (G.c k)) (by omega))
          have Da := Lib.hid (D0.out.setCell (p := ⟨w.heap.size + 1 + 1, 2 + j, none⟩) (by simp; omega) (.float .f32 (G.c k)))
          have s0 := Grd_fld Q0s.out.at'.c k hlt
          rw [Nat.zero_add] at s0
          clear b0
          go_upto_region 11 with (fail)
          obtain ⟨Wa, hW⟩ : ∃ W', World.setCell w' ⟨w.heap.size + 1 + 1, 2 + j, none⟩ (.float .f32 (G.c k)) = W' := ⟨_, rfl⟩
          rw [hW] at Qa Qas Qar Da ⊢
          clear hW hu f0 s0 Q0 Q0s Q0r D0 u
          have b0 := Qa.out.at_some (66 + j) (by omega)
          obtain ⟨u, hu⟩ := Option.isSome_iff_exists.1 b0
          have f0 := Qa.out.free (66 + j) (by omega)
          have Qb := Lib.hid (Qa.out.putG hm (x := G.g k))
          have Qbs := Lib.hid (Qas.out.far (b' := w.heap.size + 1 + 1) (k := 66 + j) (v := .float .f32 (G.g k)) (by omega))
          have Qbr := Lib.hid (Qar.out.far (b' := w.heap.size + 1 + 1) (k := 66 + j) (v := .float .f32 (G.g k)) (by omega))
          have Db := Lib.hid (Da.out.setCell (p := ⟨w.heap.size + 1 + 1, 66 + j, none⟩) (by simp; omega) (.float .f32 (G.g k)))
          have s0 := Grd_fld Qas.out.at'.g k hlt
          rw [Nat.zero_add] at s0
          clear b0
          go_upto_region 12 with (fail)
          obtain ⟨Wb, hW⟩ : ∃ W', World.setCell Wa ⟨w.heap.size + 1 + 1, 66 + j, none⟩ (.float .f32 (G.g k)) = W' := ⟨_, rfl⟩
          rw [hW] at Qb Qbs Qbr Db ⊢
          clear hW hu f0 s0 Qa Qas Qar Da u
          have b0 := Qb.out.at_some (130 + j) (by omega)
          obtain ⟨u, hu⟩ := Option.isSome_iff_exists.1 b0
          have f0 := Qb.out.free (130 + j) (by omega)
          have Qc := Lib.hid (Qb.out.putH hm (x := G.h k))
          have Qcs := Lib.hid (Qbs.out.far (b' := w.heap.size + 1 + 1) (k := 130 + j) (v := .float .f32 (G.h k)) (by omega))
          have Qcr := Lib.hid (Qbr.out.far (b' := w.heap.size + 1 + 1) (k := 130 + j) (v := .float .f32 (G.h k)) (by omega))
          have Dc := Lib.hid (Db.out.setCell (p := ⟨w.heap.size + 1 + 1, 130 + j, none⟩) (by simp; omega) (.float .f32 (G.h k)))
          have s0 := Grd_fld Qbs.out.at'.h k hlt
          rw [Nat.zero_add] at s0
          clear b0
          go_upto_region 13 with (fail)
          obtain ⟨Wc, hW⟩ : ∃ W', World.setCell Wb ⟨w.heap.size + 1 + 1, 130 + j, none⟩ (.float .f32 (G.h k)) = W' := ⟨_, rfl⟩
          rw [hW] at Qc Qcs Qcr Dc ⊢
          clear hW hu f0 s0 Qb Qbs Qbr Db u
          have ax := Qc.out.at'.x
          have bx := Qcs.out.at'.x
          rw [Nat.zero_add] at ax bx
          have fx := Qc.out.free 194 (by omega)
          have xx := HG.out.x'
          have EV := Lib.hid (mv_ground G k j Hv.out hlt HJ.out (by have := hm; exact this) HG.out)
          have Qd := Lib.hid (Qc.out.putX (x := bits .or .u64 (mirL G (cellTo G k)).x (IntKind.u64.wrap ((G.x / 2 ^ k).tmod 2 * 2 ^ j))))
          have Qds := Lib.hid (Qcs.out.far (b' := w.heap.size + 1 + 1) (k := 194) (v := .int .u64 (bits .or .u64 (mirL G (cellTo G k)).x (IntKind.u64.wrap ((G.x / 2 ^ k).tmod 2 * 2 ^ j)))) (by omega))
          have Qdr := Lib.hid (Qcr.out.far (b' := w.heap.size + 1 + 1) (k := 194) (v := .int .u64 (bits .or .u64 (mirL G (cellTo G k)).x (IntKind.u64.wrap ((G.x / 2 ^ k).tmod 2 * 2 ^ j)))) (by omega))
          have Dd := Lib.hid (Dc.out.setCell (p := ⟨w.heap.size + 1 + 1, 194, none⟩) (by simp; omega) (.int .u64 (bits .or .u64 (mirL G (cellTo G k)).x (IntKind.u64.wrap ((G.x / 2 ^ k).tmod 2 * 2 ^ j)))))
          clear Qc Qcs Qcr Dc xx
          go_wp2
          go_roundw
          case rel => exact ⟨k + 1, by omega, by go_num, (by rw [E.out, mirL_snoc, mirS_eq HJ.out EV.out]; exact Qd), Qds, Qdr, Dd⟩
          case measure => simp [intOf]; omega
      · obtain rfl : k = 64 := by omega
        have rr := Q0.out.range
        go_wp2_with (first | (refine wpList_load_mid rfl 31 _ rfl (w.heap.size + 1 + 1) 0 rfl (GrdL (mirL G (cellTo G 64))) _ rr Tryd.underlying31 rfl (by rw [GrdL_length]; exact infoGround) ?_) | (refine wpList_store_mid rfl 31 _ _ rfl _ 0 (Grd (mirL G (cellTo G 64))) rfl rfl (by rw [Grd_size]; exact Q0r.out.there) (by rw [Grd_size]; exact infoGround) (Grd_one _) ?_))
        refine bodyPost_ret (ret_GN rfl rfl rfl Q0r.out.store.range) rfl ⟨by rw [R1.out, R2.out]; rfl, below_setCells _ (by omega) _ _ _ D0.out⟩
end Go.Proofs.YtljbppladjnadaaDoor
