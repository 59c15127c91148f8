/- ChangesBetween: the model's. No condition. -/
import Derived.Test.YtdhnneidkdoplaaDoorPlain
namespace Go.Proofs.YtdhnneidkdoplaaDoor
open Go.RowKit Go.Shelf
attribute [local go_sem] Oper.semAt_some run_store_float
set_option linter.unusedSimpArgs false
set_option linter.unusedVariables false

/-- The changes, as a field. -/
def chF (G H : Gd) (i : Nat) : Nat := if isB G i = true then (fop .f32 .sub (num .f32 (H.h i)) (num .f32 (G.h i))).getD 0 else 0
def sameE (G H : Gd) : Bool := (G.wide == H.wide) && (G.high == H.high)
def chB (G H : Gd) : Value := if sameE G H = true then FB (chF G H) true else FB zf false
theorem valid_heads {G : Gd} (hv : validB G = true) {i : Nat} (hi : i < 64) (hb : isB G i = true) : plainB (G.h i) = true := by
  unfold validB at hv
  simp only [Bool.and_eq_true] at hv
  have h := hv.2.2.2.1
  unfold fieldB at h
  have := List.all_eq_true.1 h i (by simpa using hi)
  simpa [okAt, hb] using this
theorem isB_ext {G H : Gd} (h : sameE G H = true) (i : Nat) : isB H i = isB G i := by
  unfold sameE at h
  simp only [Bool.and_eq_true, beq_iff_eq] at h
  unfold isB
  rw [h.1, h.2]
theorem chF_is {G H : Gd} (hG : validB G = true) (hH : validB H = true) (he : sameE G H = true) {i : Nat} (hi : i < 64) (hb : isB G i = true) {r : Nat} (hr : num .f32 r = fop .f32 .sub (num .f32 (H.h i)) (num .f32 (G.h i))) : r = chF G H i ∧ finB r = true := by
  obtain ⟨s, h1, h2, _⟩ := plain_sub (valid_heads hH hi (by rw [isB_ext he]; exact hb)) (valid_heads hG hi hb)
  rw [h1] at hr
  obtain ⟨rfl, _⟩ := num_eq_some hr
  exact ⟨by simp [chF, hb, h1], h2⟩

set_option maxRecDepth 100000 in
set_option maxHeartbeats 2000000 in
theorem l02Changes_any (G H : Gd) (hG : GdOk G) (hH : GdOk H) (hvG : validB G = true) (hvH : validB H = true) (p q : Nat) (w : World) (hp : GrdAt w p 0 G) (hq : GrdAt w q 0 H) (hpl : p < w.heap.size) (hql : q < w.heap.size) :
    Calls Tryd.prog 69 #[.pointer (some ⟨p, 0, none⟩), .pointer (some ⟨q, 0, none⟩)] w fun e w' => e = .returned (chB G H) ∧ Below w.heap.size w w' := by
  have hz := (zero_of_info zeroField).1
  have HG := Lib.hid hG
  have HP := Lib.hid hp
  have HQ := Lib.hid hq
  clear hG hH hp hq
  go_enter Tryd.func69, Tryd.ntmps69
  go_upto_region 1 with (fail)
  obtain ⟨W, hW⟩ : ∃ W, w.alloc (.cells (Fld zf) 30) = W := ⟨_, rfl⟩
  have q1 : RowAt W w.heap.size zf := by rw [← hW]; exact RowAt.new _ _ _
  have zW : W.heap.size = w.heap.size + 1 := by rw [← hW]; simp
  have bW : Below w.heap.size w W := by rw [← hW]; exact (Below.refl _ _).alloc (Nat.le_refl _) _
  have ZW := Lib.hid zW
  rw [hW]
  clear hW zW
  have hthere := new_thereF 30 W
  go_upto_region 2 with (refine st_stage 30 rfl ?_; refine wpList_store_mid rfl 30 _ _ rfl _ 0 (Fld (zf)) rfl rfl (by rw [Fld_size]; with_reducible exact hthere) (by rw [Fld_size]; exact infoField) (Fld_one _) ?_)
  obtain ⟨X, hX, zX, gX, bX⟩ := stored_fld zf 30 W
  have tX : X.there W.heap.size 0 64 := by
    rw [← hX]
    exact there_setCells (new_thereF _ W)
  rw [hX]
  clear hX hthere
  have zW := ZW.out
  have Q1 := Lib.hid (q1.below bX (by omega))
  have Q2 := Lib.hid (⟨gX, tX⟩ : RowAt X W.heap.size zf)
  have BX := Lib.hid (bW.trans (bX.mono (by omega)))
  clear q1 gX tX bX bW zX
  rw [zW] at Q2 ⊢
  clear zW ZW
  have gp := HP.out.below BX.out hpl
  have gq := HQ.out.below BX.out hql
  have a0 := gp.wide; have a1 := gp.high; have b0 := gq.wide; have b1 := gq.high
  rw [Nat.zero_add] at a1 b1
  have tt := Q1.out.there
  cases e0 : (G.wide != H.wide)
  · cases e1 : (G.high != H.high)
    · have he : sameE G H = true := by
        unfold sameE
        simp only [bne, Bool.not_eq_false'] at e0 e1
        rw [e0, e1]; rfl
      have HE := Lib.hid he
      have Q2' := Lib.hid (RowAt.congr Q2.out (cutF_zero (chF G H)))
      have hpl' := Lib.hid hpl
      go_quiet (fail)
      obtain ⟨V, hV⟩ : ∃ V, X.drewN nq = V := ⟨_, rfl⟩
      have qV : Quiet X V := by rw [← hV]; exact ⟨nq, rfl⟩
      rw [hV]
      have P1 := Lib.hid (Q1.out.quiet qV)
      have P2 := Lib.hid (Q2'.out.quiet qV)
      have BV := Lib.hid (BX.out.trans (qV.below _))
      clear hV qV a0 a1 b0 b1 gp gq e0 e1 tt Q1 Q2 Q2' BX
      go_wp2
      go_loopw [7] (fun i wr => ∃ k : Nat, k ≤ 64 ∧ i = .int .i64 k ∧ Hid (RowAt wr w.heap.size zf) ∧ Hid (RowAt wr (w.heap.size + 1) (cutF (chF G H) k)) ∧ Hid (Below w.heap.size w wr)) (fun i _ => 64 - (intOf i).toNat)
      case atStart => exact ⟨0, by omega, rfl, P1, P2, BV⟩
      case round =>
        clear P1 P2 BV
        obtain ⟨k, hk, rfl, R1, R2, hB⟩ := hrel
        have gp := Lib.hid (HP.out.below hB.out hpl)
        have gq := Lib.hid (HQ.out.below hB.out hql)
        by_cases hlt : k < 64
        · have hk2 : (k : Int) < 64 := by omega
          cases hi : isB G k
          · have Hi := Lib.hid hi
            have N := Lib.hid (RowAt.congr R2.out (cutF_skip (chF G H) k (by simp [chF, hi])))
            clear hi
            go_wp2_with (go_at_call 51; refine (l01Is_is G k hlt false Hi.out _ _ gp.out HG.out).mono ?_; rintro e w' ⟨rfl, rfl⟩)
            go_roundw
            case rel => exact ⟨k + 1, by omega, by go_num, R1, N, hB⟩
            case measure => simp [intOf]; omega
          · have Hi := Lib.hid hi
            clear hi
            have hh := gp.out.h
            have hh2 := gq.out.h
            rw [Nat.zero_add] at hh hh2
            have cG := Grd_fld hh k hlt
            have cH := Grd_fld hh2 k hlt
            clear hh hh2
            go_upto_region 8 with (go_at_call 51; refine (l01Is_is G k hlt true Hi.out _ _ gp.out HG.out).mono ?_; rintro e w' ⟨rfl, hww⟩; rw [hww]; clear hww w')
            refine wp_region_calm (ops' := regOf Tryd.f69 8) [0, 1, 2, 3, 4, 5, 6, 7, 8, 9, 10, 11, 12, 13, 14] [15] (.run 15 .fin) (Quiet wr) [(0, One (.int .i64 (k : Int))), (1, One (.pointer (some ⟨q, 0, none⟩))), (2, One (.int .i64 (k : Int))), (3, One (.pointer (some ⟨q, 0, none⟩))), (4, One (.pointer (some ⟨q, 130, none⟩))), (5, One (.pointer (some ⟨q, 130 + k, none⟩))), (6, One (.float .f32 (H.h k))), (7, One (.pointer (some ⟨p, 0, none⟩))), (8, One (.int .i64 (k : Int))), (9, One (.pointer (some ⟨p, 0, none⟩))), (10, One (.pointer (some ⟨p, 130, none⟩))), (11, One (.pointer (some ⟨p, 130 + k, none⟩))), (12, One (.float .f32 (G.h k))), (13, Numv .f32 (fop .f32 .sub (num .f32 (H.h k)) (num .f32 (G.h k)))), (14, One (.pointer (some ⟨(w.heap.size + 1), 0 + k, none⟩)))] (by kernel_rfl) (by kernel_rfl) (by kernel_rfl) (by kernel_rfl) (by kernel_rfl) (by kernel_rfl) (by kernel_rfl) (by kernel_rfl) rfl ((Quiet.refl _).drewN 1) ?_
            refine calm_pure (some 37) (by kernel_rfl) (by kernel_rfl) (by kernel_rfl) (fun _ => by kernel_rfl) ?_
            refine calm_pure (some 38) (by kernel_rfl) (by kernel_rfl) (by kernel_rfl) (fun _ => by kernel_rfl) ?_
            refine calm_pure (some 39) (by kernel_rfl) (by kernel_rfl) (by kernel_rfl) (fun _ => by kernel_rfl) ?_
            refine calm_pure (some 40) (by kernel_rfl) (by kernel_rfl) (by kernel_rfl) (fun _ => by kernel_rfl) ?_
            refine calm_pure (some 41) (by kernel_rfl) (by kernel_rfl) (by kernel_rfl) (fun _ => by kernel_rfl) ?_
            refine calm_pure (some 42) (by kernel_rfl) (by kernel_rfl) (by kernel_rfl) (index_fld (x := .tmp 41) (y := .tmp 39) (o := 130) (by kernel_rfl) (by kernel_rfl) (by kernel_rfl) hlt) ?_
            refine calm_read (some 43) (by kernel_rfl) (by kernel_rfl) (by kernel_rfl) (fun w' hw' => load_cell (ty := 23) (x := .tmp 42) (b := q) (o := 130 + k) (by kernel_rfl) (by kernel_rfl) Tryd.underlying23 rfl (kq cH w' hw')) ?_
            refine calm_pure (some 44) (by kernel_rfl) (by kernel_rfl) (by kernel_rfl) (fun _ => by kernel_rfl) ?_
            refine calm_pure (some 45) (by kernel_rfl) (by kernel_rfl) (by kernel_rfl) (fun _ => by kernel_rfl) ?_
            refine calm_pure (some 46) (by kernel_rfl) (by kernel_rfl) (by kernel_rfl) (fun _ => by kernel_rfl) ?_
            refine calm_pure (some 47) (by kernel_rfl) (by kernel_rfl) (by kernel_rfl) (fun _ => by kernel_rfl) ?_
            refine calm_pure (some 48) (by kernel_rfl) (by kernel_rfl) (by kernel_rfl) (index_fld (x := .tmp 47) (y := .tmp 45) (o := 130) (by kernel_rfl) (by kernel_rfl) (by kernel_rfl) hlt) ?_
            refine calm_read (some 49) (by kernel_rfl) (by kernel_rfl) (by kernel_rfl) (fun w' hw' => load_cell (ty := 23) (x := .tmp 48) (b := p) (o := 130 + k) (by kernel_rfl) (by kernel_rfl) Tryd.underlying23 rfl (kq cG w' hw')) ?_
            refine calm_float (some 50) .f32 .sub 23 23 (.tmp 43) (.tmp 49) ((H.h k)) ((G.h k)) (by kernel_rfl) (by kernel_rfl) (by kernel_rfl) (by kernel_rfl) rfl (by kernel_rfl) (by kernel_rfl) (fun _ n h => h.drewN n) (rfl) ?_
            intro r50 hr50
            refine calm_pure (some 51) (by kernel_rfl) (by kernel_rfl) (by kernel_rfl) (index_fld (x := .tmp 6) (y := .tmp 37) (o := 0) (by kernel_rfl) (by kernel_rfl) (by kernel_rfl) hlt) ?_
            refine calm_end fun w' hw' => plan_do none undef (w'.setCell ⟨w.heap.size + 1, 0 + k, none⟩ (.float .f32 r50)) (by kernel_rfl) (by kernel_rfl) (by kernel_rfl) (.inr ⟨store_f32 (x := .tmp 51) (y := .tmp 50) (by kernel_rfl) (by kernel_rfl) (by kernel_rfl) infoF32 (u := .float .f32 (cutF (chF G H) k k)) (by rw [Nat.zero_add]; exact (R2.out.quiet hw').cell k hlt) (by rw [Nat.zero_add]; exact (R2.out.quiet hw').free k hlt), rfl⟩) trivial (plan_end (Clean.normal ?_))
            rw [Nat.zero_add]
            have HN := Lib.hid (RowAt.congr ((R2.out.quiet hw').put k r50 hlt) (cutF_put (chF G H) k r50 (chF_is hvG hvH HE.out hlt Hi.out hr50).1))
            have HR := Lib.hid ((R1.out.quiet hw').far (b' := w.heap.size + 1) k (.float .f32 r50) (by omega))
            have HBW := Lib.hid ((hB.out.trans (hw'.below _)).setCell (p := ⟨w.heap.size + 1, k, none⟩) (by simp) (.float .f32 r50))
            clear hr50 cG cH
            simp only [Act.put, List.setIfInBounds_toArray, List.set_cons_zero, List.set_cons_succ]
            go_wp2
            go_roundw
            case rel => exact ⟨k + 1, by omega, by go_num, HR, HN, HBW⟩
            case measure => simp [intOf]; omega
        · obtain rfl : k = 64 := by omega
          have rr := (RowAt.congr R2.out (cutF_full (chF G H))).range
          have tt := R1.out.there
          have E := Lib.hid (show FB (chF G H) true = chB G H by simp [chB, HE.out])
          go_wp2_with (first | (refine ld_stage 30 rfl ?_; refine wpList_load_mid rfl 30 _ rfl (w.heap.size + 1) 0 rfl (Fld (chF G H)).toList _ rr Tryd.underlying30 rfl (by rw [Fld_length]; exact infoField) ?_) | (refine st_stage 30 rfl ?_; refine wpList_store_mid rfl 30 _ _ rfl _ 0 (Fld (chF G H)) rfl rfl (by rw [Fld_size]; with_reducible exact tt) (by rw [Fld_size]; exact infoField) (Fld_one _) ?_))
          refine bodyPost_ret (ret_fld (v := .bool true) rfl rfl rfl (R1.out.store (g := chF G H)).range) rfl ⟨congrArg Ending.returned E.out, below_setCells _ (by omega) _ _ _ hB.out⟩
    · have E := Lib.hid (show FB zf false = chB G H by
        have : sameE G H = false := by
          unfold sameE
          simp only [bne, Bool.not_eq_true'] at e1
          rw [e1]; simp
        simp [chB, this])
      go_quiet (fail)
      have tn := (Q1.out.quiet ⟨nq, rfl⟩ : RowAt (World.drewN X nq) _ _).there
      have rn := (Q2.out.quiet ⟨nq, rfl⟩ : RowAt (World.drewN X nq) _ _).range
      have SN := Lib.hid ((Q1.out.quiet ⟨nq, rfl⟩ : RowAt (World.drewN X nq) _ _).store (g := zf))
      have BN := Lib.hid (below_setCells _ (by omega) (Fld zf).toList 0 _ (BX.out.trans (Quiet.below ⟨nq, rfl⟩ _)) : Below w.heap.size w ((World.drewN X nq).setCells w.heap.size 0 (Fld zf).toList))
      clear a0 a1 b0 b1 gp gq e0 e1 tt
      go_wp2_with (first | (refine ld_stage 30 rfl ?_; refine wpList_load_mid rfl 30 _ rfl (w.heap.size + 1) 0 rfl (Fld (zf)).toList _ rn Tryd.underlying30 rfl (by rw [Fld_length]; exact infoField) ?_) | (refine st_stage 30 rfl ?_; refine wpList_store_mid rfl 30 _ _ rfl _ 0 (Fld (zf)) rfl rfl (by rw [Fld_size]; with_reducible exact tn) (by rw [Fld_size]; exact infoField) (Fld_one _) ?_))
      refine bodyPost_ret (ret_fld (v := .bool false) rfl rfl rfl SN.out.range) rfl ⟨congrArg Ending.returned E.out, BN.out⟩
  · have E := Lib.hid (show FB zf false = chB G H by
      have : sameE G H = false := by
        unfold sameE
        simp only [bne, Bool.not_eq_true'] at e0
        rw [e0]; simp
      simp [chB, this])
    refine wp_region_calm (ops' := regOf Tryd.f69 2) [0, 1, 2, 3, 4, 5, 6, 7, 8, 9, 10, 11, 12, 13, 14, 15, 16, 17, 18, 19] [] .fin (Quiet X) [(0, One (.pointer (some ⟨p, 0, none⟩))), (1, One (.pointer (some ⟨p, 0, none⟩))), (2, One (.pointer (some ⟨p, 0, none⟩))), (3, One (.int .i8 G.wide)), (4, One (.pointer (some ⟨q, 0, none⟩))), (5, One (.pointer (some ⟨q, 0, none⟩))), (6, One (.pointer (some ⟨q, 0, none⟩))), (7, One (.int .i8 H.wide)), (8, One (.bool true)), (9, One (.bool true)), (10, One undef), (11, One undef), (12, One undef), (13, One undef), (14, One undef), (15, One undef), (16, One undef), (17, One undef), (18, One undef), (19, One (.bool true))] (by kernel_rfl) (by kernel_rfl) (by kernel_rfl) (by kernel_rfl) (by kernel_rfl) (by kernel_rfl) (by kernel_rfl) (by kernel_rfl) rfl ((Quiet.refl _).drewN 1) ?_
    refine calm_pure (some 9) (by kernel_rfl) (by kernel_rfl) (by kernel_rfl) (fun _ => by kernel_rfl) ?_
    refine calm_pure (some 10) (by kernel_rfl) (by kernel_rfl) (by kernel_rfl) (fun _ => by kernel_rfl) ?_
    refine calm_pure (some 11) (by kernel_rfl) (by kernel_rfl) (by kernel_rfl) (fun _ => by kernel_rfl) ?_
    refine calm_read (some 12) (by kernel_rfl) (by kernel_rfl) (by kernel_rfl) (fun w' hw' => load_cell (ty := 22) (x := .tmp 11) (b := p) (o := 0) (by kernel_rfl) (by kernel_rfl) Tryd.underlying22 rfl (kq a0 w' hw')) ?_
    refine calm_pure (some 13) (by kernel_rfl) (by kernel_rfl) (by kernel_rfl) (fun _ => by kernel_rfl) ?_
    refine calm_pure (some 14) (by kernel_rfl) (by kernel_rfl) (by kernel_rfl) (fun _ => by kernel_rfl) ?_
    refine calm_pure (some 15) (by kernel_rfl) (by kernel_rfl) (by kernel_rfl) (fun _ => by kernel_rfl) ?_
    refine calm_read (some 16) (by kernel_rfl) (by kernel_rfl) (by kernel_rfl) (fun w' hw' => load_cell (ty := 22) (x := .tmp 15) (b := q) (o := 0) (by kernel_rfl) (by kernel_rfl) Tryd.underlying22 rfl (kq b0 w' hw')) ?_
    refine calm_pure (some 17) (by kernel_rfl) (by kernel_rfl) (by kernel_rfl) (fun _ => by rw [← e0]; kernel_rfl) ?_
    refine calm_pure (some 18) (by kernel_rfl) (by kernel_rfl) (by kernel_rfl) (fun _ => by kernel_rfl) ?_
    refine calm_skip (some 19) (by kernel_rfl) (by kernel_rfl) (by kernel_rfl) ?_
    refine calm_skip (some 20) (by kernel_rfl) (by kernel_rfl) (by kernel_rfl) ?_
    refine calm_skip (some 21) (by kernel_rfl) (by kernel_rfl) (by kernel_rfl) ?_
    refine calm_skip (some 22) (by kernel_rfl) (by kernel_rfl) (by kernel_rfl) ?_
    refine calm_skip (some 23) (by kernel_rfl) (by kernel_rfl) (by kernel_rfl) ?_
    refine calm_skip (some 24) (by kernel_rfl) (by kernel_rfl) (by kernel_rfl) ?_
    refine calm_skip (some 25) (by kernel_rfl) (by kernel_rfl) (by kernel_rfl) ?_
    refine calm_skip (some 26) (by kernel_rfl) (by kernel_rfl) (by kernel_rfl) ?_
    refine calm_skip (some 27) (by kernel_rfl) (by kernel_rfl) (by kernel_rfl) ?_
    refine calm_pure (some 28) (by kernel_rfl) (by kernel_rfl) (by kernel_rfl) (fun _ => by kernel_rfl) ?_
    refine calm_end fun w' hw' => plan_end (Clean.normal ?_)
    simp only [Act.put, List.setIfInBounds_toArray, List.set_cons_zero, List.set_cons_succ]
    have tn := (Q1.out.quiet hw').there
    have rn := (Q2.out.quiet hw').range
    have SN := Lib.hid ((Q1.out.quiet hw').store (g := zf))
    have BN := Lib.hid (below_setCells _ (by omega) (Fld zf).toList 0 _ (BX.out.trans (hw'.below _)) : Below w.heap.size w (w'.setCells w.heap.size 0 (Fld zf).toList))
    clear a0 a1 b0 b1 gp gq e0 tt
    go_wp2_with (first | (refine ld_stage 30 rfl ?_; refine wpList_load_mid rfl 30 _ rfl (w.heap.size + 1) 0 rfl (Fld (zf)).toList _ rn Tryd.underlying30 rfl (by rw [Fld_length]; exact infoField) ?_) | (refine st_stage 30 rfl ?_; refine wpList_store_mid rfl 30 _ _ rfl _ 0 (Fld (zf)) rfl rfl (by rw [Fld_size]; with_reducible exact tn) (by rw [Fld_size]; exact infoField) (Fld_one _) ?_))
    refine bodyPost_ret (ret_fld (v := .bool false) rfl rfl rfl SN.out.range) rfl ⟨congrArg Ending.returned E.out, BN.out⟩

/-- What ChangesBetween says. -/
def chV (G H : Gd) : Value := if (validB G && validB H) = true then (if sameE G H = true then FN (chF G H) 0 else FN zf 4) else FN zf 1
theorem chV_is (G H : Gd) : ∃ (f : Nat → Nat) (n : Int), chV G H = .tuple #[.agg (Fld f), .int .i64 n] := by
  unfold chV
  split
  · split <;> exact ⟨_, _, rfl⟩
  · exact ⟨_, _, rfl⟩
/-- Two grounds and a field are boxed. -/
theorem ggr_box (G H : Gd) (f : Nat → Nat) (t u v : TypeId) (w : World) : ∃ W, ((w.alloc (.cells (Grd G) t)).alloc (.cells (Grd H) u)).alloc (.cells (Fld f) v) = W ∧ W.heap.size = w.heap.size + 1 + 1 + 1 ∧ GBox W w.heap.size G ∧ GBox W (w.heap.size + 1) H ∧ RowAt W (w.heap.size + 1 + 1) f ∧ Below w.heap.size w W := by
  obtain ⟨W1, h1, z1, g1, g2, b1⟩ := gbox2 G H t u w
  have b2 : Below W1.heap.size W1 (W1.alloc (.cells (Fld f) v)) := (Below.refl _ _).alloc (Nat.le_refl _) _
  rw [h1]
  exact ⟨_, rfl, by simp [z1], g1.below b2 (by omega), g2.below b2 (by omega), by rw [← z1]; exact RowAt.new _ _ _, b1.trans (b2.mono (by omega))⟩

set_option maxRecDepth 100000 in
set_option maxHeartbeats 2000000 in
theorem specChanges_any (G H : Gd) (w : World) (hG : GdOk G) (hH : GdOk H) :
    Calls Tryd.prog 28 #[.agg (Grd G), .agg (Grd H)] w fun e w' => e = .returned (chV G H) ∧ Below w.heap.size w w' := by
  obtain ⟨EV, hE⟩ : ∃ v, chV G H = v := ⟨_, rfl⟩
  rw [hE]
  have HE := Lib.hid hE
  clear hE
  have hz := (zero_of_info zeroField).1
  go_enter Tryd.func28, Tryd.ntmps28
  go_upto_region 1 with (fail)
  obtain ⟨W, hW, hs, g1, g2, q1, hB⟩ := ggr_box G H zf 32 32 30 w
  rw [hW]
  clear hW
  have hl : w.heap.size < W.heap.size := by omega
  have hl1 : w.heap.size + 1 < W.heap.size := by omega
  have hl2 : w.heap.size + 1 + 1 < W.heap.size := by omega
  have G1 := Lib.hid g1
  have G2 := Lib.hid g2
  have Q1 := Lib.hid q1
  have HB := Lib.hid hB
  have HG := Lib.hid hG
  have HH := Lib.hid hH
  clear hs g1 g2 q1 hB hG hH
  cases hv : validB G
  · have Hv := Lib.hid hv
    have R := Lib.hid (show FN zf 1 = EV by rw [← HE.out]; simp [chV, hv])
    have T1 := Lib.hid (fun n => (Q1.out.quiet ⟨n, rfl⟩ : RowAt (World.drewN W n) (w.heap.size + 1 + 1) zf))
    clear hv
    go_wp2_with (first | (go_at_call 49; have hc := (l01Ok_any G _ _ G1.out.at' HG.out); rw [Hv.out] at hc; refine hc.mono ?_; clear hc; rintro e w' ⟨rfl, n, rfl⟩; have t1 := (T1.out n).there) | (refine st_stage 30 rfl ?_; refine wpList_store_mid rfl 30 _ _ rfl _ 0 (Fld (zf)) rfl rfl (by rw [Fld_size]; with_reducible exact t1) (by rw [Fld_size]; exact infoField) (Fld_one _) ?_))
    refine bodyPost_ret (ret_fld (v := .int .i64 1) rfl rfl rfl ((T1.out n).store (g := zf)).range) rfl ⟨congrArg Ending.returned R.out, below_setCells _ (by omega) _ _ _ (HB.out.trans (Quiet.below ⟨n, rfl⟩ _))⟩
  · have Hv := Lib.hid hv
    cases hv2 : validB H
    · have Hv2 := Lib.hid hv2
      have R := Lib.hid (show FN zf 1 = EV by rw [← HE.out]; simp [chV, hv2])
      have T1 := Lib.hid (fun n => (Q1.out.quiet ⟨n, rfl⟩ : RowAt (World.drewN W n) (w.heap.size + 1 + 1) zf))
      clear hv hv2
      have tk : True := trivial
      go_wp2_with (first | (have _t := tk; go_at_call 49; have hc := (l01Ok_any G _ _ G1.out.at' HG.out); rw [Hv.out] at hc; refine hc.mono ?_; clear hc; rintro e w' ⟨rfl, n, rfl⟩; clear tk) | (go_at_call 49; have hc := (l01Ok_any H _ _ (Quiet.grd ⟨n, rfl⟩ G2.out.at') HH.out); rw [Hv2.out] at hc; refine hc.mono ?_; clear hc; rintro e w' ⟨rfl, n2, rfl⟩; have t1 := (T1.out (n + n2)).there) | (refine st_stage 30 rfl ?_; refine wpList_store_mid rfl 30 _ _ rfl _ 0 (Fld (zf)) rfl rfl (by rw [Fld_size]; with_reducible exact t1) (by rw [Fld_size]; exact infoField) (Fld_one _) ?_))
      refine bodyPost_ret (ret_fld (v := .int .i64 1) rfl rfl rfl ((T1.out (n + n2)).store (g := zf)).range) rfl ⟨congrArg Ending.returned R.out, below_setCells _ (by omega) _ _ _ (HB.out.trans (Quiet.below ⟨n + n2, rfl⟩ _))⟩
    · have Hv2 := Lib.hid hv2
      have tk : True := trivial
      go_upto_region 3 with (first | (have _t := tk; go_at_call 49; have hc := (l01Ok_any G _ _ G1.out.at' HG.out); rw [Hv.out] at hc; refine hc.mono ?_; clear hc; rintro e w' ⟨rfl, n, rfl⟩; clear tk) | (go_at_call 49; have hc := (l01Ok_any H _ _ (Quiet.grd ⟨n, rfl⟩ G2.out.at') HH.out); rw [Hv2.out] at hc; refine hc.mono ?_; clear hc; rintro e w' ⟨rfl, n2, rfl⟩))
      obtain ⟨V, hV⟩ : ∃ V, W.drewN (n + n2) = V := ⟨_, rfl⟩
      have qV : Quiet W V := by rw [← hV]; exact ⟨_, rfl⟩
      rw [hV]
      have V1 := Lib.hid (G1.out.below (qV.below (w.heap.size + 1)) (by omega))
      have V2 := Lib.hid (G2.out.below (qV.below (w.heap.size + 1 + 1)) (by omega))
      have V3 := Lib.hid (Q1.out.quiet qV)
      have BV := Lib.hid (HB.out.trans (qV.below _))
      have hv1l : w.heap.size < V.heap.size := by rw [qV.size]; exact hl
      have hv2l : w.heap.size + 1 < V.heap.size := by rw [qV.size]; exact hl1
      have hv3l : w.heap.size + 1 + 1 < V.heap.size := by rw [qV.size]; exact hl2
      clear hV qV G1 G2 Q1 HB hl hl1 hl2
      cases he : sameE G H
      · have R := Lib.hid (show FN zf 4 = EV by rw [← HE.out]; simp [chV, hv, hv2, he])
        have C := Lib.hid (show chB G H = FB zf false by simp [chB, he])
        clear hv hv2 he
        go_upto_region 4 with (first | (go_at_call 69; have hc := l02Changes_any G H HG.out HH.out Hv.out Hv2.out w.heap.size (w.heap.size + 1) V V1.out.at' V2.out.at' hv1l hv2l; rw [C.out] at hc; refine hc.mono ?_; clear hc; rintro e U ⟨rfl, hu⟩; unfold FB; have HU := Lib.hid hu; clear hu; have hth := new_thereF 30 U) | (refine st_stage 30 rfl ?_; refine wpList_store_mid rfl 30 _ _ rfl _ 0 (Fld (zf)) rfl rfl (by rw [Fld_size]; with_reducible exact hth) (by rw [Fld_size]; exact infoField) (Fld_one _) ?_))
        obtain ⟨X, hX, zX, gX, bX⟩ := stored_fld zf 30 U
        rw [hX]
        have hzu := HU.out.size
        have Q3 := Lib.hid ((V3.out.below HU.out hv3l).below bX (by omega))
        have B3 := Lib.hid ((BV.out.trans (HU.out.mono (by omega))).trans (bX.mono (by omega)))
        have tt := Q3.out.there
        clear hX gX bX hth zX
        go_wp2_with (refine st_stage 30 rfl ?_; refine wpList_store_mid rfl 30 _ _ rfl _ 0 (Fld (zf)) rfl rfl (by rw [Fld_size]; with_reducible exact tt) (by rw [Fld_size]; exact infoField) (Fld_one _) ?_)
        refine bodyPost_ret (ret_fld (v := .int .i64 4) rfl rfl rfl (Q3.out.store (g := zf)).range) rfl ⟨congrArg Ending.returned R.out, below_setCells _ (by omega) _ _ _ B3.out⟩
      · have R := Lib.hid (show FN (chF G H) 0 = EV by rw [← HE.out]; simp [chV, hv, hv2, he])
        have C := Lib.hid (show chB G H = FB (chF G H) true by simp [chB, he])
        clear hv hv2 he
        go_upto_region 4 with (first | (go_at_call 69; have hc := l02Changes_any G H HG.out HH.out Hv.out Hv2.out w.heap.size (w.heap.size + 1) V V1.out.at' V2.out.at' hv1l hv2l; rw [C.out] at hc; refine hc.mono ?_; clear hc; rintro e U ⟨rfl, hu⟩; unfold FB; have HU := Lib.hid hu; clear hu; have hth := new_thereF 30 U) | (refine st_stage 30 rfl ?_; refine wpList_store_mid rfl 30 _ _ rfl _ 0 (Fld (chF G H)) rfl rfl (by rw [Fld_size]; with_reducible exact hth) (by rw [Fld_size]; exact infoField) (Fld_one _) ?_))
        obtain ⟨X, hX, zX, gX, bX⟩ := stored_fld (chF G H) 30 U
        rw [hX]
        have hzu := HU.out.size
        have Q3 := Lib.hid ((V3.out.below HU.out hv3l).below bX (by omega))
        have B3 := Lib.hid ((BV.out.trans (HU.out.mono (by omega))).trans (bX.mono (by omega)))
        have tt := Q3.out.there
        clear hX bX hth zX
        go_wp2_with (first | (refine ld_stage 30 rfl ?_; refine wpList_load_mid rfl 30 _ rfl (U.heap.size) 0 rfl (Fld (chF G H)).toList _ gX Tryd.underlying30 rfl (by rw [Fld_length]; exact infoField) ?_) | (refine st_stage 30 rfl ?_; refine wpList_store_mid rfl 30 _ _ rfl _ 0 (Fld (chF G H)) rfl rfl (by rw [Fld_size]; with_reducible exact tt) (by rw [Fld_size]; exact infoField) (Fld_one _) ?_))
        refine bodyPost_ret (ret_fld (v := .int .i64 0) rfl rfl rfl (Q3.out.store (g := chF G H)).range) rfl ⟨congrArg Ending.returned R.out, below_setCells _ (by omega) _ _ _ B3.out⟩
end Go.Proofs.YtdhnneidkdoplaaDoor
