/- The law FnExactWaterPath: for every input the call returns true. Condition: the table of math/bits is laid. -/
import Derived.Test.YtabolokiiepjkaaDoorPti
namespace Go.Proofs.YtabolokiiepjkaaDoor
open Go Go.RowKit Go.WideShapes
set_option linter.unusedSimpArgs false
set_option linter.unusedVariables false

set_option maxRecDepth 100000 in
set_option maxHeartbeats 2000000 in
theorem implWP_any (G : Gd) (c : Int) (w : World) (hG : GdOk G) (l1 : -9223372036854775808 ≤ c) (l2 : c ≤ 9223372036854775807) (hT : TabAt w) :
    Calls Tryd.prog 9 #[.agg (Grd G), .int .i64 c] w fun e w' => ∃ q cap, e = .returned (.tuple #[.slice q (wpV G c).1.length cap, .int .i64 (wpV G c).2]) ∧ CellsI w' q (wpV G c).1 ∧ ((wpV G c).1.length = 0 ∨ ∃ g, q = some ⟨g, 0, none⟩ ∧ w.heap.size ≤ g ∧ g < w'.heap.size ∧ w'.there g 0 (wpV G c).1.length) ∧ Below w.heap.size w w' := by
  go_enter Tryd.func9, Tryd.ntmps9
  go_upto_region 1 with (fail)
  obtain ⟨W, hW, hs, g1, hB, hT1⟩ := box_in G 33 w hT
  rw [hW]
  clear hW
  have HB := Lib.hid hB
  have HG := Lib.hid hG
  have hl : w.heap.size < W.heap.size := by omega
  have TC := Lib.hid (checkCell_any G c l1 l2 w.heap.size W g1.at' hl hG hT1)
  have G1 := Lib.hid g1
  clear g1 hB hs hG hT hT1
  by_cases ha : askedN G c = 0
  · obtain ⟨k, rfl, hk, hv, hb⟩ := asked_in ha
    rw [ha] at TC
    have TP := Lib.hid (fun V (h : Below W.heap.size W V) => pathFrom_any G k hk hb hv w.heap.size V ((G1.out.below h hl).at') (Nat.lt_of_lt_of_le hl h.size) HG.out)
    obtain ⟨LL, ob, hp⟩ : ∃ LL ob, ptV G k = (LL, ob) := ⟨_, _, rfl⟩
    have HPO := Lib.hid (show ob = false → LL = [] from fun h => by
      subst h
      unfold ptV at hp
      split at hp
      · cases hp
      · exact (Prod.mk.inj hp).1.symm)
    have HR := Lib.hid (show wpV G (k : Int) = (LL, if ob = true then 0 else 4) by
      simp only [wpV, ha, hp, Int.toNat_natCast, if_true]
      cases ob
      · rw [HPO.out rfl]; rfl
      · rfl)
    simp only [hp] at TP
    obtain ⟨n4, hn4⟩ : ∃ n : Int, (if ob = true then (0 : Int) else 4) = n := ⟨_, rfl⟩
    rw [hn4] at TP HR
    obtain ⟨r, hr⟩ : ∃ r, LL.length = r := ⟨_, rfl⟩
    rw [hr] at TP
    have HLR := Lib.hid hr
    clear ha hp hr hl hn4 HPO
    go_wp2_with (first | (go_at_call 23; refine TC.out.mono ?_; rintro e V ⟨rfl, hV⟩; have HV := Lib.hid hV; clear hV) | (go_at_call 24; refine (TP.out _ HV.out).mono ?_; rintro e V2 ⟨q, cap, rfl, hc, ho, hV⟩; have HC := Lib.hid hc; have HO := Lib.hid ho; have HV2 := Lib.hid hV; clear hc ho hV))
    go_ret2
    rw [HR.out]
    simp only [HLR.out]
    exact ⟨q, cap, rfl, HC.out, HO.out.imp id (fun ⟨g, h1, h2, h3, h4⟩ => ⟨g, h1, Nat.le_trans (Nat.le_trans HB.out.size HV.out.size) h2, h3, h4⟩), HB.out.trans ((HV.out.trans (HV2.out.mono HV.out.size)).mono HB.out.size)⟩
  · have hne : (askedN G c != 0) = true := by simpa [bne] using ha
    have R := Lib.hid (show wpV G c = ([], askedN G c) by simp [wpV, ha])
    clear ha
    go_wp2_with (go_at_call 23; refine TC.out.mono ?_; rintro e V ⟨rfl, hV⟩; have HV := Lib.hid (HB.out.trans (hV.mono HB.out.size)); clear hV)
    go_ret2
    exact ⟨_, _, by rw [R.out]; rfl, by rw [R.out]; exact cellsI_nilP _ _, .inl (by rw [R.out]; rfl), HV.out⟩
theorem wpV_len (G : Gd) (c : Int) : (wpV G c).1.length ≤ 65 := by
  unfold wpV
  split
  · split
    · unfold ptV
      split
      · exact way_len G _
      · simp
    · simp
  · simp
/-- A list of its own: at a block that is new. -/
def OwnG (w : World) (p : Option Addr) (r B : Nat) : Prop := r = 0 ∨ ∃ g, p = some ⟨g, 0, none⟩ ∧ B ≤ g ∧ g < w.heap.size ∧ w.there g 0 r
def HeldG (w : World) (p : Option Addr) (r : Nat) : Prop := r = 0 ∨ ∃ g, p = some ⟨g, 0, none⟩ ∧ g < w.heap.size ∧ ∀ i, i < r → w.cell? ⟨g, i, none⟩ = some (.int .i64 ((1 + i : Nat) : Int))
/-- Blocks from B on are as they were. -/
def Abv (B : Nat) (w w' : World) : Prop := w.heap.size ≤ w'.heap.size ∧ ∀ x, B ≤ x → x < w.heap.size → w'.heap[x]? = w.heap[x]?
theorem Abv.of_below {B : Nat} {w w' : World} (h : Below w.heap.size w w') : Abv B w w' := ⟨h.size, fun x _ hx => h.block x hx⟩
theorem there_sameG {w w' : World} {b n : Nat} (h : w.there b 0 n) (hh : w'.heap[b]? = w.heap[b]?) : w'.there b 0 n := fun j hj => by
  have := h j hj
  unfold World.cell? World.frozen? at this ⊢
  rw [hh]
  exact this
theorem cell_sameG {w w' : World} {b i : Nat} (hh : w'.heap[b]? = w.heap[b]?) : w'.cell? ⟨b, i, none⟩ = w.cell? ⟨b, i, none⟩ := by
  unfold World.cell?
  simp only [hh]
theorem OwnG.abv {w w' : World} {p : Option Addr} {r B : Nat} (h : OwnG w p r B) (ha : Abv B w w') : OwnG w' p r B := by
  rcases h with h | ⟨g, h1, h2, h3, h4⟩
  · exact .inl h
  · exact .inr ⟨g, h1, h2, Nat.lt_of_lt_of_le h3 ha.1, there_sameG h4 (ha.2 g h2 h3)⟩
theorem CellsI.keep {w w' : World} {p : Option Addr} {xs : List Nat} (h : CellsI w p xs) (hB : Below w.heap.size w w') : CellsI w' p xs := fun i v hv => by
  obtain ⟨b, h1, h2⟩ := h i v hv
  exact ⟨b, h1, (hB.cell (p := ⟨b, i, none⟩) (World.block_lt_of_cell? w _ h2)).trans h2⟩
theorem CellsI.abv {w w' : World} {p : Option Addr} {xs : List Nat} {B : Nat} (h : CellsI w p xs) (ho : OwnG w p xs.length B) (ha : Abv B w w') : CellsI w' p xs := fun i v hv => by
  obtain ⟨b, h1, h2⟩ := h i v hv
  refine ⟨b, h1, ?_⟩
  rcases ho with h0 | ⟨g, g1, g2, g3, _⟩
  · have := (List.getElem?_eq_some_iff.1 hv).1
    omega
  · obtain rfl : g = b := by rw [g1] at h1; cases h1; rfl
    rw [cell_sameG (ha.2 g g2 g3)]
    exact h2
theorem HeldG.keep {w w' : World} {p : Option Addr} {r : Nat} (h : HeldG w p r) (hB : Below w.heap.size w w') : HeldG w' p r := by
  rcases h with h | ⟨g, h1, h2, h3⟩
  · exact .inl h
  · exact .inr ⟨g, h1, Nat.lt_of_lt_of_le h2 hB.size, fun i hi => (hB.cell (p := ⟨g, i, none⟩) h2).trans (h3 i hi)⟩
theorem mkG1 (p : Option Addr) (r c B : Nat) (hr : r ≤ 65) (w : World) (h : OwnG w p r B) : Calls Tryd.prog 11 #[.slice p r c, .int .i64 1] w fun e w' => e = .returned (.int .i64 ((1 + r : Nat) : Int)) ∧ HeldG w' p r ∧ Below B w w' := by
  rcases h with rfl | ⟨g, rfl, h2, h3, h4⟩
  · exact Calls.mono (markInt64S_nil c 1 (by omega) p w) fun e w' h => ⟨h.1, .inl rfl, by rw [h.2]; exact Below.refl _ _⟩
  · exact Calls.mono (markInt64S_any g r c 1 (by omega) (by omega) w h4) fun e w' h => ⟨h.1, .inr ⟨g, rfl, by rw [h.2.2.2]; exact h3, h.2.1⟩, h.2.2.1.mono h2⟩
theorem hdG1 (p : Option Addr) (r c : Nat) (hr : r ≤ 65) (w : World) (h : HeldG w p r) : Calls Tryd.prog 12 #[.slice p r c, .int .i64 1] w fun e w' => e = .returned (.int .i64 ((1 + r : Nat) : Int)) ∧ Below w.heap.size w w' := by
  rcases h with h0 | ⟨g, hp, hl, h4⟩
  · subst h0
    exact Calls.mono (heldInt64S_nil c 1 (by omega) p w) fun e w' h => ⟨h.1, by rw [h.2]; exact Below.refl _ _⟩
  · subst hp
    exact heldInt64S_any g r c 1 (by omega) (by omega) w h4

set_option maxRecDepth 100000 in
set_option maxHeartbeats 4000000 in
theorem fnExactWaterPath_calls (G : Gd) (x : Int) (w : World) (hG : GdOk G) (l1 : -9223372036854775808 ≤ x) (l2 : x ≤ 9223372036854775807) (hT : TabAt w) :
    Calls Tryd.prog 3 #[.agg (Grd G), .int .i64 x] w fun e w' => e = .returned (.bool true) ∧ Below w.heap.size w w' := by
  have h65 := wpV_len G x
  have TS := Lib.hid (fun V => specWP_any G x V hG)
  have TI := Lib.hid (fun V (ht : TabAt V) => implWP_any G x V hG l1 l2 ht)
  obtain ⟨J, n0, hJ⟩ : ∃ J n0, wpV G x = (J, n0) := ⟨_, _, rfl⟩
  simp only [hJ] at TS TI h65
  have TF := Lib.hid (fun (p q : Option Addr) (c d : Nat) V (h1 : CellsI V p J) (h2 : CellsI V q J) => eqInt64S_yes p q c d J (by omega) V h1 h2)
  have CA := Lib.hid (fun (V V' : World) (p : Option Addr) (B : Nat) (h : CellsI V p J) (ho : OwnG V p J.length B) (ha : Abv B V V') => CellsI.abv h ho ha)
  obtain ⟨r, hr⟩ : ∃ r, J.length = r := ⟨_, rfl⟩
  simp only [hr] at TS TI TF CA h65
  have TMF := Lib.hid (fun (p : Option Addr) (c B : Nat) V (h : OwnG V p r B) => mkG1 p r c B h65 V h)
  have THF := Lib.hid (fun (p : Option Addr) (c : Nat) V (h : HeldG V p r) => hdG1 p r c h65 V h)
  obtain ⟨k3, hk3⟩ : ∃ k3 : Nat, 1 + r = k3 := ⟨_, rfl⟩
  simp only [hk3] at TMF THF
  have z3 : ¬ ((k3 : Int) < 0) := by omega
  obtain ⟨W, hW, hs, g1, hB, hT1⟩ := box_in G 27 w hT
  have hn1 : w.heap.size < W.heap.size := by omega
  have HB := Lib.hid hB
  have HT := Lib.hid hT1
  have HR := Lib.hid (fun V (hV : Below W.heap.size W V) => (g1.below hV hn1).range)
  have BX0 := Lib.hid (Below.refl W.heap.size W)
  have HTT := Lib.hid (fun V (hV : Below W.heap.size W V) => hT1.below hV (tab_lt hT1))
  clear hJ hr hk3 h65 hT hT1 hB hs g1 hG
  go_enter Tryd.func3, Tryd.ntmps3
  go_upto_region 1 with (fail)
  try rw [hW]
  clear hW
  have r1 := HR.out W BX0.out
  go_upto_region 2 with (first | (refine wpList_load_mid rfl 27 _ rfl w.heap.size 0 rfl (GrdL G) _ r1 Tryd.underlying27 rfl (by rw [GrdL_length]; exact infoLGround) ?_) | (go_at_call 8; refine (toGround_any G _).mono ?_; rintro e U1 ⟨rfl, hV⟩; have BX1 := Lib.hid hV; clear hV r1) | (go_at_call 7; refine (TS.out _).mono ?_; rintro e V1 ⟨p1, c1, rfl, hc, hV⟩; have P1 := Lib.hid hc; have BX2 := Lib.hid (BX1.out.trans (hV.mono BX1.out.size)); clear hV hc))
  have r2 := HR.out V1 BX2.out
  go_upto_region 3 with (first | (refine wpList_load_mid rfl 27 _ rfl w.heap.size 0 rfl (GrdL G) _ r2 Tryd.underlying27 rfl (by rw [GrdL_length]; exact infoLGround) ?_) | (go_at_call 8; refine (toGround_any G _).mono ?_; rintro e U2 ⟨rfl, hV⟩; have BX3 := Lib.hid (BX2.out.trans (hV.mono BX2.out.size)); have P13 := Lib.hid (P1.out.keep hV); have C23 := Lib.hid hV; clear hV r2) | (go_at_call 9; refine (TI.out _ (HTT.out _ BX3.out)).mono ?_; rintro e V2 ⟨p2, c2, rfl, hc, ho, hV⟩; have P2 := Lib.hid hc; have O2 := Lib.hid (show OwnG V2 p2 r U2.heap.size from ho); have P14 := Lib.hid (P13.out.keep hV); have BX4 := Lib.hid (BX3.out.trans (hV.mono BX3.out.size)); have C24 := Lib.hid hV; clear hV hc ho))
  go_upto_region 6 with (go_at_call 10; refine (TF.out _ _ _ _ _ P2.out P14.out).mono ?_; rintro e V3 ⟨rfl, hV⟩; have P15 := Lib.hid (P14.out.keep hV); have O3 := Lib.hid (O2.out.abv (.of_below hV)); have BX5 := Lib.hid (BX4.out.trans (hV.mono BX4.out.size)); have C25 := Lib.hid (C24.out.trans (hV.mono C24.out.size)); clear hV)
  have hU2 := Lib.hid BX3.out.size
  go_upto_region 7 with (go_at_call 11; refine (TMF.out _ _ _ _ O3.out).mono ?_; rintro e V4 ⟨rfl, hh, hV⟩; have HD4 := Lib.hid hh; have C26 := Lib.hid (C25.out.trans hV); have BX6 := Lib.hid (BX3.out.trans (C26.out.mono hU2.out)); have P16 := Lib.hid (P13.out.keep C26.out); clear hV hh)
  go_upto_region 13 with (go_at_call 12; refine (THF.out _ _ _ HD4.out).mono ?_; rintro e V5 ⟨rfl, hV⟩; have HD5 := Lib.hid (HD4.out.keep hV); have P17 := Lib.hid (P16.out.keep hV); have BX7 := Lib.hid (BX6.out.trans (hV.mono BX6.out.size)); clear hV)
  have r7 := HR.out V5 BX7.out
  go_upto_region 14 with (first | (refine wpList_load_mid rfl 27 _ rfl w.heap.size 0 rfl (GrdL G) _ r7 Tryd.underlying27 rfl (by rw [GrdL_length]; exact infoLGround) ?_) | (go_at_call 8; refine (toGround_any G _).mono ?_; rintro e U6 ⟨rfl, hV⟩; have BX8 := Lib.hid (BX7.out.trans (hV.mono BX7.out.size)); have P18 := Lib.hid (P17.out.keep hV); have HD6 := Lib.hid (HD5.out.keep hV); clear hV r7) | (go_at_call 9; refine (TI.out _ (HTT.out _ BX8.out)).mono ?_; rintro e V7 ⟨p3, c3, rfl, hc, _, hV⟩; have P3 := Lib.hid hc; have P19 := Lib.hid (P18.out.keep hV); have HD7 := Lib.hid (HD6.out.keep hV); have BX9 := Lib.hid (BX8.out.trans (hV.mono BX8.out.size)); clear hV hc))
  go_wp2_with (first | (go_at_call 10; refine (TF.out _ _ _ _ _ P3.out P19.out).mono ?_; rintro e V8 ⟨rfl, hV⟩; have HD8 := Lib.hid (HD7.out.keep hV); have BX10 := Lib.hid (BX9.out.trans (hV.mono BX9.out.size)); clear hV) | (go_at_call 12; refine (THF.out _ _ _ HD8.out).mono ?_; rintro e V9 ⟨rfl, hV⟩; have HZ := Lib.hid (HB.out.trans ((BX10.out.trans (hV.mono BX10.out.size)).mono HB.out.size)); clear hV))
  go_ret
  exact ⟨rfl, HZ.out⟩

set_option maxRecDepth 100000 in
theorem fnExactWaterPath_walk (W : World) (base : Nat) (args : Array Value) (hn : args.size = Tryd.f3.params.size)
    (hv : ∀ (j : Nat) t v, Tryd.f3.params[j]? = some t → args[j]? = some v → Value.okWide Tryd.prog W .any base t v) (hT : TabAt W) :
    Calls Tryd.prog 3 args W fun e W' => e = .returned (.bool true) ∧ Below W.heap.size W W' := by
  rw [Tryd.params3] at hn hv
  obtain ⟨l⟩ := args
  match l, hn with
  | [v0, v1], _ =>
    obtain ⟨G, rfl, hG⟩ := okWide_grd (hv 0 _ v0 rfl rfl)
    obtain ⟨x, rfl, hx⟩ := okWide_i64 (hv 1 _ v1 rfl rfl)
    exact fnExactWaterPath_calls G x W hG hx.1 hx.2 hT
end Go.Proofs.YtabolokiiepjkaaDoor
