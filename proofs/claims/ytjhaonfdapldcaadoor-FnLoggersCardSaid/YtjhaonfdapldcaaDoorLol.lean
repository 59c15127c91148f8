/- LoggedLevels: both sides. Condition (the program's): the table of math/bits is laid. -/
import Derived.Test.YtjhaonfdapldcaaDoorRou
import Derived.Test.YtjhaonfdapldcaaDoorArr
import Derived.Test.YtjhaonfdapldcaaDoorCell
namespace Go.Proofs.YtjhaonfdapldcaaDoor
open Go Go.RowKit
set_option linter.unusedSimpArgs false
set_option linter.unusedVariables false
attribute [local go_sem] Oper.semAt_some

/-- What a logger keeps of a head. -/
def lgO (h : Nat) : Int := match fop .f64 .mul (num .f64 4636737291354636288) ((num .f32 h).map cv) with
  | some x => lgN (x / 9223372036854775808 == 1) (x % 9223372036854775808)
  | none => 0
theorem mul_ok {u x y : Nat} (hu : Ieee.double.mul u x = some y) : nanK .f64 u = false ∧ nanK .f64 x = false := by
  unfold Ieee.Format.mul at hu
  have h1 : ∀ z, (Ieee.double.read z).isNaN = false → nanK .f64 z = false := fun z hz => by rw [nanK_read]; exact hz
  cases hx : Ieee.double.read x with
  | nan => rw [hx] at hu; cases hk : Ieee.double.read u <;> rw [hk] at hu <;> simp [Ieee.Datum.product] at hu
  | number a b c =>
    cases hk : Ieee.double.read u with
    | nan => rw [hk] at hu; simp [Ieee.Datum.product] at hu
    | number => exact ⟨h1 _ (by rw [hk]; rfl), h1 _ (by rw [hx]; rfl)⟩
    | infinity => exact ⟨h1 _ (by rw [hk]; rfl), h1 _ (by rw [hx]; rfl)⟩
  | infinity a =>
    cases hk : Ieee.double.read u with
    | nan => rw [hk] at hu; simp [Ieee.Datum.product] at hu
    | number => exact ⟨h1 _ (by rw [hk]; rfl), h1 _ (by rw [hx]; rfl)⟩
    | infinity => exact ⟨h1 _ (by rw [hk]; rfl), h1 _ (by rw [hx]; rfl)⟩
theorem lgO_is {h : Nat} (hp : plainB h = true) : ∃ s R A, (num .f32 h).map cv = some (wd s R) ∧ Ieee.double.mul 4636737291354636288 (wd s R) = some (wd s A) ∧ Ieee.double.mul (wd s R) 4636737291354636288 = some (wd s A) ∧ A ≤ 4728779608739020800 ∧ lgO h = lgN s A := by
  obtain ⟨s, R, A, h1, h2, h3, h4⟩ := hx_is hp
  refine ⟨s, R, A, h1, h2, h3, h4, ?_⟩
  obtain ⟨n1, n2⟩ := mul_ok h2
  have e : fop .f64 .mul (num .f64 4636737291354636288) ((num .f32 h).map cv) = some (wd s A) := by
    rw [h1, num_some n1]; exact h2
  unfold lgO
  rw [e]
  simp only []
  have e1 : (wd s A / 9223372036854775808 == 1) = s := by
    have : wd s A / 9223372036854775808 = s.toNat := by unfold wd; cases s <;> simp <;> omega
    rw [this]; cases s <;> rfl
  have e2 : wd s A % 9223372036854775808 = A := by unfold wd; split <;> omega
  rw [e1, e2]
theorem head_plainL {G : Gd} (hv : validB G = true) {k : Nat} (hk : k < 64) (hb : isB G k = true) : plainB (G.h k) = true := by
  unfold validB at hv
  simp only [Bool.and_eq_true] at hv
  have h := hv.2.2.2.1
  unfold fieldB at h
  rw [List.all_eq_true] at h
  have h2 := h k (by simpa using hk)
  unfold okAt at h2
  rw [if_pos hb] at h2
  exact h2
def llF (G : Gd) (i : Nat) : Int := if isB G i = true then lgO (G.h i) else 0
def llV (G : Gd) : Value := if validB G = true then .tuple #[.agg (Hf (llF G)), .int .i64 0] else .tuple #[.agg (Hf zI), .int .i64 1]
/-- A block with 64 whole numbers. -/
structure HRow (w : World) (b : Nat) (f : Nat → Int) : Prop where
  range : w.rangeAt b 0 (Hf f).toList
  there : w.there b 0 64
theorem HRow.below {w w' : World} {n b : Nat} {f : Nat → Int} (h : HRow w b f) (hb : Below n w w') (hn : b < n) : HRow w' b f := ⟨range_kept h.range hn _ hb, there_below h.there hb hn⟩
theorem HRow.lt {w : World} {b : Nat} {f : Nat → Int} (h : HRow w b f) : b < w.heap.size := by
  obtain ⟨v, hv⟩ := Option.isSome_iff_exists.1 (h.there 0 (by omega)).1
  exact World.block_lt_of_cell? w _ hv
theorem HRow.quiet {w w' : World} {b : Nat} {f : Nat → Int} (h : HRow w b f) (hq : Quiet w w') : HRow w' b f := h.below (hq.below (b + 1)) (by omega)
def updI (f : Nat → Int) (k : Nat) (x : Int) : Nat → Int := fun i => if i = k then x else f i
theorem HRow.put {w : World} {b k : Nat} {f : Nat → Int} {x : Int} (h : HRow w b f) (hk : k < 64) : HRow (w.setCell ⟨b, k, none⟩ (.int .i16 x)) b (updI f k x) := by
  refine ⟨fun j v hv => ?_, fun j hj => ?_⟩
  · have hj : j < 64 := by have := (List.getElem?_eq_some_iff.1 hv).1; rwa [Hf_length] at this
    rw [Nat.zero_add]
    have e : (Hf (updI f k x)).toList[j]? = some (.int .i16 (updI f k x j)) := by simpa using Hf_at (updI f k x) j hj
    rw [e] at hv
    obtain rfl := Option.some.inj hv
    by_cases hjk : j = k
    · subst hjk
      unfold updI
      rw [if_pos rfl]
      refine World.cell?_setCell_same' _ _ _ ?_
      have := (h.there j hj).1
      rwa [Nat.zero_add] at this
    · unfold updI
      rw [if_neg hjk]
      refine (cell_other (fun e => hjk (by injection e with _ h2 _; omega))).trans ?_
      have := h.range j _ (by simpa using Hf_at f j hj)
      rwa [Nat.zero_add] at this
  · have := h.there j hj
    exact there_setCell h.there j hj
theorem HRow.far {w : World} {b b' k : Nat} {f : Nat → Int} {v : Value} (h : HRow w b f) (hne : b' ≠ b) : HRow (w.setCell ⟨b', k, none⟩ v) b f :=
  ⟨range_setCell_far h.range (.inl hne), there_setCell h.there⟩
theorem HRow.cell {w : World} {b k : Nat} {f : Nat → Int} (h : HRow w b f) (hk : k < 64) : w.cell? ⟨b, k, none⟩ = some (.int .i16 (f k)) := by
  have := Hf_cell h.range k hk
  rwa [Nat.zero_add] at this
theorem HRow.free {w : World} {b k : Nat} {f : Nat → Int} (h : HRow w b f) (hk : k < 64) : w.frozen? ⟨b, k, none⟩ = false := by
  have := (h.there k hk).2
  rwa [Nat.zero_add] at this
theorem HRow.store {w : World} {b : Nat} {f g : Nat → Int} (h : HRow w b f) : HRow (w.setCells b 0 (Hf g).toList) b g :=
  ⟨World.rangeAt_setCells_same _ _ _ _ (by rw [Hf_length]; exact h.there), World.there_setCells h.there _ _ _⟩
theorem zeroH16 : (Tryd.prog.info? 36).map (fun i => (i.zero, i.size)) = some (some (.agg (Hf zI)), 64) := by kernel_rfl
theorem zeroHLG : (Tryd.prog.info? 70).map (fun i => (i.zero, i.size)) = some (some (.agg (Hf zI)), 64) := by kernel_rfl
theorem hf_box (f : Nat → Int) (t : TypeId) (w : World) : ∃ W, w.alloc (.cells (Hf f) t) = W ∧ W.heap.size = w.heap.size + 1 ∧ HRow W w.heap.size f ∧ Below w.heap.size w W :=
  ⟨_, rfl, by simp, ⟨rangeAt_row (heap_alloc_last w (.cells (Hf f) t)), there_row (heap_alloc_last w _) (Hf_size f)⟩, (Below.refl _ _).alloc (Nat.le_refl _) _⟩
/-- A ground and a result, one behind the other. -/
theorem gh_box (G : Gd) (t u : TypeId) (w : World) : ∃ X, (w.alloc (.cells (Grd G) t)).alloc (.cells (Hf zI) u) = X ∧ X.heap.size = w.heap.size + 1 + 1 ∧ GBox X w.heap.size G ∧ HRow X (w.heap.size + 1) zI ∧ Below w.heap.size w X := by
  obtain ⟨A, hA, zA, gA, bA⟩ := gbox1 G t w
  rw [hA]
  obtain ⟨B, hB, zB, rB, bB⟩ := hf_box zI u A
  rw [hB]
  rw [zA] at rB
  exact ⟨_, rfl, by omega, gA.below bB (by omega), rB, bA.trans (bB.mono (by omega))⟩
theorem hf_stored (f : Nat → Int) (t : TypeId) (w : World) : ∃ X, (w.alloc (.cells (Hf zI) t)).setCells w.heap.size 0 (Hf f).toList = X ∧ X.heap.size = w.heap.size + 1 ∧ HRow X w.heap.size f ∧ Below w.heap.size w X := by
  obtain ⟨B, hB, zB, rB, bB⟩ := hf_box zI t w
  rw [hB]
  exact ⟨_, rfl, by rw [size_setCells, zB], rB.store, below_setCells _ (Nat.le_refl _) _ _ _ bB⟩
theorem results_hf {P : Program} {fn : Func} {p q : Tmp} {ty : TypeId} {D : TypeDesc} (h : fn.results = #[.cell p ty, .tmp q]) (tmps : Array Value) (w : World) (b : Nat) (f : Nat → Int) (n : Int)
    (hp : tmps.getD p undef = .pointer (some ⟨b, 0, none⟩)) (hq : tmps.getD q undef = .int .i64 n) (hc : w.rangeAt b 0 (Hf f).toList) (hu : P.underlying ty = some D) (hd : D.isRow = true) (hi : (P.info? ty).map (·.size) = some 64) :
    (results fn tmps).run P w = .ok (.tuple #[.agg (Hf f), .int .i64 n]) w := by
  have hp' : tmps[p]?.getD undef = .pointer (some ⟨b, 0, none⟩) := by simpa using hp
  have hq' : tmps[q]?.getD undef = .int .i64 n := by simpa using hq
  have := run_loadVar_mid (P := P) w b 0 ty (Hf f).toList D hc hu hd (by rw [Hf_length]; exact hi)
  simp [results, h, hp', hq', asAddr, this]

set_option maxRecDepth 100000 in
set_option maxHeartbeats 2000000 in
theorem specLL_any (G : Gd) (w : World) (hG : GdOk G) :
    Calls Tryd.prog 10 #[.agg (Grd G)] w fun e w' => e = .returned (llV G) ∧ Below w.heap.size w w' := by
  have hz := (zero_of_info zeroH16).1
  go_enter Tryd.func10, Tryd.ntmps10
  go_upto_region 1 with (fail)
  obtain ⟨W, hW, hs, g1, r1, hB⟩ := gh_box G 32 36 w
  rw [hW]
  have hlW : w.heap.size + 1 < W.heap.size := by omega
  clear hW hs
  go_upto_region 2 with (refine st_stage 36 rfl ?_; refine wpList_store_mid rfl 36 _ _ rfl _ 0 (Hf (zI)) rfl rfl (by rw [Hf_size]; with_reducible exact (there_row (heap_alloc_last W _) (Hf_size zI))) (by rw [Hf_size]; exact infoH) (Hf_one _) ?_)
  obtain ⟨X, hX, zX, rX, bX⟩ := hf_stored zI 36 W
  rw [hX]
  obtain ⟨M, hM⟩ : ∃ M, W.heap.size = M := ⟨_, rfl⟩
  have hM2 : w.heap.size + 1 < M := by omega
  rw [hM] at rX ⊢
  have GX := Lib.hid (g1.below bX (by omega))
  have RX := Lib.hid (r1.below bX (by omega))
  have MX := Lib.hid rX
  have HX := Lib.hid (hB.trans (bX.mono (by omega)))
  have HG := Lib.hid hG
  clear hX rX bX zX g1 r1 hB hG hM hz hlW
  cases hv : validB G
  · have Hv := Lib.hid hv
    have R := Lib.hid (show llV G = .tuple #[.agg (Hf zI), .int .i64 1] by unfold llV; rw [hv]; rfl)
    clear hv
    go_upto_region 3 with (go_at_call 26; have hc := (l01Ok_any G _ _ GX.out.at' HG.out); rw [Hv.out] at hc; refine hc.mono ?_; clear hc; rintro e w1 ⟨rfl, hq⟩; have HQ := Lib.hid hq; clear hq)
    have m1 := (MX.out.quiet HQ.out).range
    have RQ := Lib.hid (RX.out.quiet HQ.out)
    have thr := RQ.out.there
    have HQ1 := Lib.hid (HX.out.trans (HQ.out.below _))
    clear GX RX MX HX HQ
    go_wp2_with (first | (refine ld_stage 36 rfl ?_; refine wpList_load_mid rfl 36 _ rfl (M) 0 rfl (Hf (zI)).toList _ m1 Tryd.underlying36 rfl (by rw [Hf_length]; exact infoH) ?_) | (refine st_stage 36 rfl ?_; refine wpList_store_mid rfl 36 _ _ rfl _ 0 (Hf (zI)) rfl rfl (by rw [Hf_size]; with_reducible exact thr) (by rw [Hf_size]; exact infoH) (Hf_one _) ?_))
    refine bodyPost_ret (results_hf rfl _ _ (w.heap.size + 1) zI 1 rfl rfl (RQ.out.store (g := zI)).range Tryd.underlying36 rfl infoH) rfl ⟨congrArg Ending.returned R.out.symm, below_setCells _ (by omega) _ _ _ HQ1.out⟩
  · have Hv := Lib.hid hv
    have HV := Lib.hid hv
    have R := Lib.hid (show llV G = .tuple #[.agg (Hf (llF G)), .int .i64 0] by unfold llV; rw [hv]; rfl)
    clear hv
    go_upto_region 4 with (go_at_call 26; have hc := (l01Ok_any G _ _ GX.out.at' HG.out); rw [Hv.out] at hc; refine hc.mono ?_; clear hc; rintro e w1 ⟨rfl, hq⟩; have HQ := Lib.hid hq; clear hq)
    have GX := Lib.hid (GX.out.below (HQ.out.below (w.heap.size + 1)) (by omega))
    have RX := Lib.hid (RX.out.quiet HQ.out)
    have MX := Lib.hid (MX.out.quiet HQ.out)
    have HX := Lib.hid (HX.out.trans (HQ.out.below _))
    clear HQ
    go_wp2
    go_loopw [5] (fun iv wr => ∃ (k : Nat) (f : Nat → Int), k ≤ 64 ∧ iv = .int .i64 (k : Int) ∧ Hid (∀ i, i < 64 → f i = if i < k then llF G i else 0) ∧ Hid (HRow wr M f) ∧ Hid (Below M w1 wr)) (fun iv _ => 64 - (intOf iv).toNat)
    case atStart => exact ⟨0, zI, by omega, rfl, Lib.hid (fun i _ => by rw [if_neg (by omega)]; rfl), MX, Lib.hid (Below.refl _ _)⟩
    case round =>
      obtain ⟨k, f, hk, rfl, hf, hr, hB⟩ := hrel
      have GW := Lib.hid (GX.out.below hB.out (by omega))
      by_cases hlt : k < 64
      · have hki : (k : Int) < 64 := by omega
        cases hi : isB G k
        · have HI := Lib.hid hi
          have HF := Lib.hid (show ∀ i, i < 64 → f i = if i < k + 1 then llF G i else 0 from fun i h64 => by
            rw [hf.out i h64]
            by_cases e : i = k
            · subst e; rw [if_neg (by omega), if_pos (by omega)]; unfold llF; rw [hi]; rfl
            · by_cases e2 : i < k
              · rw [if_pos e2, if_pos (by omega)]
              · rw [if_neg e2, if_neg (by omega)])
          clear hi
          go_wp2_with (go_at_call 34; refine (l01Is_is G k hlt false HI.out _ _ GW.out.at' HG.out).mono ?_; rintro e V1 ⟨rfl, hw1⟩; cases hw1; dsimp only)
          go_roundw
          case rel => exact ⟨k + 1, f, by omega, by go_num, HF, hr, hB⟩
          case measure => simp [intOf]; omega
        · have HI := Lib.hid hi
          obtain ⟨s, R0, A, e1, e2, _, e4, e5⟩ := lgO_is (head_plainL HV.out hlt hi)
          have HF := Lib.hid (show ∀ i, i < 64 → updI f k (lgN s A) i = if i < k + 1 then llF G i else 0 from fun i h64 => by
            unfold updI
            by_cases e : i = k
            · subst e; rw [if_pos rfl, if_pos (by omega)]; unfold llF; rw [hi, if_pos rfl, e5]
            · rw [if_neg e, hf.out i h64]
              by_cases e3 : i < k
              · rw [if_pos e3, if_pos (by omega)]
              · rw [if_neg e3, if_neg (by omega)])
          have TL := Lib.hid (fun V => l07Logged_any (G.h k) s R0 A e1 e2 e4 V)
          have c0 := Grd_fld GW.out.at'.h k hlt
          rw [Nat.zero_add] at c0
          clear hi e1 e2 e4 e5
          go_wp2_with (first | (go_at_call 34; refine (l01Is_is G k hlt true HI.out _ _ GW.out.at' HG.out).mono ?_; rintro e V1 ⟨rfl, hw1⟩; cases hw1; dsimp only) | (go_at_call 35; refine (TL.out _).mono ?_; rintro e V2 ⟨rfl, hq⟩; have RQ2 := Lib.hid (hr.out.quiet hq); have BQ2 := Lib.hid (hB.out.trans (hq.below _)); have c1 := RQ2.out.cell hlt; have f1 := RQ2.out.free hlt; clear hq c0))
          go_roundw
          case rel => exact ⟨k + 1, _, by omega, by go_num, HF, Lib.hid (RQ2.out.put hlt), Lib.hid (BQ2.out.setCell (p := ⟨M, k, none⟩) (Nat.le_refl _) _)⟩
          case measure => simp [intOf]; omega
      · obtain rfl : k = 64 := by omega
        have hff : Hf f = Hf (llF G) := Hf_congr fun i h64 => by rw [hf.out i h64, if_pos h64]
        have m1 := hr.out.range
        rw [hff] at m1
        have RQ := Lib.hid (RX.out.below hB.out (by omega))
        have thr := RQ.out.there
        have HQ1 := Lib.hid (HX.out.trans (hB.out.mono (by omega)))
        clear hr hB GW hf hff
        go_wp2_with (first | (refine ld_stage 36 rfl ?_; refine wpList_load_mid rfl 36 _ rfl (M) 0 rfl (Hf (llF G)).toList _ m1 Tryd.underlying36 rfl (by rw [Hf_length]; exact infoH) ?_) | (refine st_stage 36 rfl ?_; refine wpList_store_mid rfl 36 _ _ rfl _ 0 (Hf (llF G)) rfl rfl (by rw [Hf_size]; with_reducible exact thr) (by rw [Hf_size]; exact infoH) (Hf_one _) ?_))
        refine bodyPost_ret (results_hf rfl _ _ (w.heap.size + 1) (llF G) 0 rfl rfl (RQ.out.store (g := llF G)).range Tryd.underlying36 rfl infoH) rfl ⟨congrArg Ending.returned R.out.symm, below_setCells _ (by omega) _ _ _ HQ1.out⟩

set_option maxRecDepth 100000 in
set_option maxHeartbeats 2000000 in
theorem implLL_any (G : Gd) (w : World) (hG : GdOk G) (hT : TabAt w) :
    Calls Tryd.prog 11 #[.agg (Grd G)] w fun e w' => e = .returned (llV G) ∧ Below w.heap.size w w' := by
  have hz1 := (zero_of_info zeroH16).1
  have hz2 := (zero_of_info zeroHLG).1
  have m64 := cellsN_lt G
  have hgl := tab_lt hT
  cases hv : validB G
  · have Hv := Lib.hid hv
    have R := Lib.hid (show llV G = .tuple #[.agg (Hf zI), .int .i64 1] by unfold llV; rw [hv]; rfl)
    clear hv
    go_enter Tryd.func11, Tryd.ntmps11
    go_upto_region 1 with (fail)
    obtain ⟨W, hW, hs, g1, r1, hB⟩ := gh_box G 32 36 w
    rw [hW]
    have hlW : w.heap.size + 1 < W.heap.size := by omega
    clear hW hs
    go_upto_region 2 with (refine st_stage 70 rfl ?_; refine wpList_store_mid rfl 70 _ _ rfl _ 0 (Hf (zI)) rfl rfl (by rw [Hf_size]; with_reducible exact (there_row (heap_alloc_last W _) (Hf_size zI))) (by rw [Hf_size]; exact infoLG) (Hf_one _) ?_)
    obtain ⟨X, hX, zX, rX, bX⟩ := hf_stored zI 70 W
    rw [hX]
    obtain ⟨M, hM⟩ : ∃ M, W.heap.size = M := ⟨_, rfl⟩
    have hM2 : w.heap.size + 1 < M := by omega
    rw [hM] at rX ⊢
    have hXM : M < X.heap.size := by omega
    have GX := Lib.hid (g1.below bX (by omega))
    have RX := Lib.hid (r1.below bX (by omega))
    have MX := Lib.hid rX
    have HX := Lib.hid (hB.trans (bX.mono (by omega)))
    have TX := Lib.hid (hT.below HX.out hgl)
    have HG := Lib.hid hG
    have rg := GX.out.range
    clear hX rX bX zX g1 r1 hB hG hM hz1 hz2 hT hlW
    go_upto_region 3 with (first | (refine ld_stage 32 rfl ?_; refine wpList_load_mid rfl 32 _ rfl w.heap.size 0 rfl (GrdL G) _ rg Tryd.underlying32 rfl (by rw [GrdL_length]; exact infoGround) ?_) | (go_at_call 29; have hc := (validGround_any G X HG.out TX.out (tab_lt TX.out)); rw [Hv.out] at hc; refine hc.mono ?_; clear hc; rintro e V ⟨rfl, hb1⟩; have Hb1 := Lib.hid hb1; clear hb1))
    have m1 := (MX.out.below Hb1.out hXM).range
    have RQ := Lib.hid (RX.out.below Hb1.out (by omega))
    have thr := RQ.out.there
    have HQ1 := Lib.hid (HX.out.trans (Hb1.out.mono HX.out.size))
    clear GX RX MX HX Hb1 TX rg
    go_wp2_with (first | (refine ld_stage 70 rfl ?_; refine wpList_load_mid rfl 70 _ rfl (M) 0 rfl (Hf (zI)).toList _ m1 Tryd.underlying70 rfl (by rw [Hf_length]; exact infoLG) ?_) | (refine st_stage 36 rfl ?_; refine wpList_store_mid rfl 36 _ _ rfl _ 0 (Hf (zI)) rfl rfl (by rw [Hf_size]; with_reducible exact thr) (by rw [Hf_size]; exact infoH) (Hf_one _) ?_))
    refine bodyPost_ret (results_hf rfl _ _ (w.heap.size + 1) zI 1 rfl rfl (RQ.out.store (g := zI)).range Tryd.underlying36 rfl infoH) rfl ⟨congrArg Ending.returned R.out.symm, below_setCells _ (by omega) _ _ _ HQ1.out⟩
  · have Hv := Lib.hid hv
    have HV := Lib.hid hv
    have wd := valid_ext hv
    have R := Lib.hid (show llV G = .tuple #[.agg (Hf (llF G)), .int .i64 0] by unfold llV; rw [hv]; rfl)
    clear hv
    refine (callsIn_wide (n := 6)).1 (callsIn_of_wp_marks Tryd.func11 rfl trivial ?_ rfl)
    simp only [Tryd.ntmps11, List.size_toArray, List.length_cons, List.length_nil, Nat.reduceAdd, Nat.reduceSub, Array.replicate_succ, Array.replicate_zero, List.push_toArray, List.append_toArray, List.nil_append, List.cons_append]
    refine wpIn_wide.2 ?_
    go_upto_region 1 with (fail)
    obtain ⟨W, hW, hs, g1, r1, hB⟩ := gh_box G 32 36 w
    rw [hW]
    have hlW : w.heap.size + 1 < W.heap.size := by omega
    clear hW hs
    go_upto_region 2 with (refine st_stage 70 rfl ?_; refine wpList_store_mid rfl 70 _ _ rfl _ 0 (Hf (zI)) rfl rfl (by rw [Hf_size]; with_reducible exact (there_row (heap_alloc_last W _) (Hf_size zI))) (by rw [Hf_size]; exact infoLG) (Hf_one _) ?_)
    obtain ⟨X, hX, zX, rX, bX⟩ := hf_stored zI 70 W
    rw [hX]
    obtain ⟨M, hM⟩ : ∃ M, W.heap.size = M := ⟨_, rfl⟩
    have hM2 : w.heap.size + 1 < M := by omega
    rw [hM] at rX ⊢
    have hXM : M < X.heap.size := by omega
    have GX := Lib.hid (g1.below bX (by omega))
    have RX := Lib.hid (r1.below bX (by omega))
    have MX := Lib.hid rX
    have HX := Lib.hid (hB.trans (bX.mono (by omega)))
    have TX := Lib.hid (hT.below HX.out hgl)
    have HG := Lib.hid hG
    have rg := GX.out.range
    clear hX rX bX zX g1 r1 hB hG hM hz1 hz2 hT hlW
    go_upto_region 4 with (first | (refine ld_stage 32 rfl ?_; refine wpList_load_mid rfl 32 _ rfl w.heap.size 0 rfl (GrdL G) _ rg Tryd.underlying32 rfl (by rw [GrdL_length]; exact infoGround) ?_) | (go_at_call 29; have hc := (validGround_any G X HG.out TX.out (tab_lt TX.out)); rw [Hv.out] at hc; refine hc.mono ?_; clear hc; rintro e V ⟨rfl, hb1⟩; have Hb1 := Lib.hid hb1; clear hb1))
    have GV := Lib.hid (GX.out.below Hb1.out (by omega))
    have RV := Lib.hid (RX.out.below Hb1.out (by omega))
    have MV := Lib.hid (MX.out.below Hb1.out hXM)
    have HVB := Lib.hid (HX.out.trans (Hb1.out.mono HX.out.size))
    have TV := Lib.hid (TX.out.below Hb1.out (tab_lt TX.out))
    have hVM : M < V.heap.size := Nat.lt_of_lt_of_le hXM Hb1.out.size
    clear GX RX MX HX Hb1 TX rg hXM
    go_upto_region 5 with (first | (go_at_call 36; refine (cells_valid G HV.out _ _ GV.out.at').mono ?_; rintro e w2 ⟨rfl, rfl⟩) | (go_at_call 30; refine (bitsIn_any (cellsN G) _).mono ?_; rintro e w' ⟨rfl, rfl⟩))
    obtain ⟨Y, hY, zY, rY, hbY⟩ := one_box #[.int .u64 (cellsN G)] 25 V
    rw [hY]
    have hm0 := rY 0 _ rfl
    rw [Nat.zero_add] at hm0
    have GY := Lib.hid (GV.out.below hbY (by omega))
    have RY := Lib.hid (RV.out.below hbY (by omega))
    have MY := Lib.hid (MV.out.below hbY hVM)
    have TY := TV.out.below hbY (tab_lt TV.out)
    have HY := Lib.hid (HVB.out.trans (hbY.mono HVB.out.size))
    have hTl := tab_lt TV.out
    clear hY rY hbY GV RV MV TV HVB
    refine (wpIn_wide (n := 6)).1 (wp_bits 12 13 5 V.heap.size M (cellsN G) m64 rfl hm0 TY (by omega) (by omega)
      (fun pre W2 => ∃ f : Nat → Int, HRow W2 M f ∧ ∀ i, i < 64 → f i = if i ∈ pre then llF G i else 0) (fun _ _ _ => False)
      (fun s A B h ⟨f, h1, h2⟩ => ⟨f, ⟨h.range h1.range, h.there h1.there⟩, h2⟩) (fun _ _ _ _ _ h => h) ⟨zI, MY.out, fun i _ => by rw [if_neg (by simp)]; rfl⟩ ?assign ?body ?done ?stop)
    case assign =>
      intro l x W K hK
      simp only [List.setIfInBounds_toArray, List.set_cons_zero, List.set_cons_succ] at hK ⊢
      gi_wp2
      exact hK
    case body =>
      rintro l pre y W2 ⟨f, h1, h2⟩ hB2 hbit hi
      simp only [List.setIfInBounds_toArray, List.set_cons_zero, List.set_cons_succ]
      have hN' : nos (pre ++ [y]) = nos pre ++ [y.1] := nos_snoc _ _
      generalize y.1 = i at hi hN' hbit ⊢
      have HN' := Lib.hid hN'
      have hib : isB G i = true := by rw [cellsN_testBit] at hbit; simp at hbit; exact hbit.2
      obtain ⟨s, R0, A, e1, e2, e3, e4, e5⟩ := lgO_is (head_plainL HV.out hi hib)
      have HF := Lib.hid (show ∀ j, j < 64 → updI f i (lgN s A) j = if j ∈ nos pre ++ [i] then llF G j else 0 from fun j h64 => by
        unfold updI
        by_cases e : j = i
        · subst e; rw [if_pos rfl, if_pos (by simp)]; unfold llF; rw [hib, if_pos rfl, e5]
        · rw [if_neg e, h2 j h64]
          simp [e])
      have TL := Lib.hid (fun V => loggedHead_any (G.h i) s R0 A e1 e3 e4 V)
      have c0 := Grd_fld (GY.out.below hB2 (by omega)).at'.h i hi
      rw [Nat.zero_add] at c0
      have HB2 := Lib.hid hB2
      have hi2 : (i : Int) < 64 := by omega
      have hMW := h1.lt
      clear hN' hB2 hbit h2 e1 e2 e3 e4 e5 hib
      refine wpIn_block ?_
      gi_wp2_with (refine ⟨trivial, ?_⟩; gi_at_call 37; refine (callsIn_wide.2 (TL.out _)).mono ?_; rintro e V2 ⟨rfl, hq⟩; have RQ2 := Lib.hid (h1.quiet hq); have BQ2 := Lib.hid (hq.below (W2.heap.size)); have c1 := RQ2.out.cell hi; have f1 := RQ2.out.free hi; clear hq c0)
      have BM := ((BQ2.out.mono (show M ≤ W2.heap.size by omega)).setCell (p := ⟨M, i, none⟩) (Nat.le_refl _) (Value.int .i16 (lgN s A)))
      exact ⟨KeepsOthers.trans (B := V2) (KeepsOthers.of_below' BQ2.out) (KeepsOthers.setCell _ _ _), BM, ⟨_, RQ2.out.put hi, by rw [HN'.out]; exact HF.out⟩, HB2.out.trans BM⟩
    case done =>
      rintro D W2 hD ⟨f, h1, h2⟩ hB2 hK
      have hff : Hf f = Hf (llF G) := Hf_congr fun i h64 => by
        rw [h2 i h64]
        by_cases hm : i ∈ bitsL (cellsN G)
        · rw [if_pos hm]
        · rw [if_neg hm]
          unfold llF
          cases hb : isB G i
          · rfl
          · exact absurd (mem_bitsL.2 ⟨h64, by rw [cellsN_testBit, hb]; simp [h64]⟩) hm
      have m1 := h1.range
      rw [hff] at m1
      have RQ := Lib.hid (RY.out.below hB2 (by omega))
      have thr := RQ.out.there
      have HQ1 := Lib.hid (HY.out.trans (hB2.mono (by omega)))
      have hwD : w.heap.size ≤ D := by omega
      have hDn : D ≠ w.heap.size + 1 := by omega
      have HK := Lib.hid hK
      clear h1 h2 hff hB2 hK hm0 RY MY GY HY TY
      go_wp2_with (first | (refine ld_stage 70 rfl ?_; refine wpList_load_mid rfl 70 _ rfl (M) 0 rfl (Hf (llF G)).toList _ m1 Tryd.underlying70 rfl (by rw [Hf_length]; exact infoLG) ?_) | (refine st_stage 36 rfl ?_; refine wpList_store_mid rfl 36 _ _ rfl _ 0 (Hf (llF G)) rfl rfl (by rw [Hf_size]; with_reducible exact thr) (by rw [Hf_size]; exact infoH) (Hf_one _) ?_))
      exact ret_marks (v := .tuple #[.agg (Hf (llF G)), .int .i64 0]) ((heap_setCells_other _ hDn).trans HK.out) (fun W' hc => results_hf rfl _ _ (w.heap.size + 1) (llF G) 0 rfl rfl (hc.range (RQ.out.store (g := llF G)).range) Tryd.underlying36 rfl infoH) (fun W' _ hb => ⟨congrArg Ending.returned R.out.symm, (below_setCells _ (by omega) _ _ _ HQ1.out).trans (hb _ hwD)⟩)
    case stop =>
      rintro D c pre W _ _ h _ _
      exact h.elim
end Go.Proofs.YtjhaonfdapldcaaDoor
