/- Where water goes: l02Path and WaterPath, the model's. No condition. -/
import Derived.Test.YtjhaonfdapldcaaDoorWay
import Derived.Test.YtjhaonfdapldcaaDoorIntE
import Derived.Test.YtjhaonfdapldcaaDoorCell
namespace Go.Proofs.YtjhaonfdapldcaaDoor
open Go Go.RowKit
set_option linter.unusedSimpArgs false
set_option linter.unusedVariables false
attribute [local go_sem] Oper.semAt_some

/-- All flows from a cell are finite. -/
def okW (G : Gd) (c : Nat) : Bool := (List.range 4).all fun s => finO (flowS G c (s : Int))
/-- What WaterPath says of a cell. -/
def ptV (G : Gd) (c : Nat) : List Nat × Bool := if (wayL G c).all (okW G) = true then (wayL G c, true) else ([], false)
/-- The bits of some cells. -/
def maskL : List Nat → Nat
  | [] => 0
  | c :: l => maskL l ||| 2 ^ c
theorem maskL_lt : ∀ {l : List Nat}, (∀ c ∈ l, c < 64) → maskL l < 18446744073709551616
  | [], _ => by decide
  | c :: l, h => by
    have := maskL_lt (l := l) fun d hd => h d (by simp [hd])
    unfold maskL
    exact Nat.or_lt_two_pow (n := 64) this (Nat.pow_lt_pow_right (by decide) (h c (by simp)))
theorem maskL_bit (j : Nat) : ∀ l : List Nat, (maskL l).testBit j = decide (j ∈ l)
  | [] => by simp [maskL]
  | c :: l => by
    unfold maskL
    rw [Nat.testBit_or, maskL_bit j l, Nat.testBit_two_pow]
    by_cases e : c = j
    · subst e; simp
    · have e2 : ¬ j = c := fun h => e h.symm
      simp [e, e2]
theorem maskL_push (l : List Nat) (c : Nat) : maskL (c :: l) = maskL l ||| 2 ^ c := rfl
theorem shl_one (k : Nat) (hk : k < 64) : IntKind.u64.wrap (2 ^ k) = ((maskL [k] : Nat) : Int) := by
  rw [wrap_pow k hk]
  simp [maskL]
def bestI (o : Option Nat) : Int := match o with | none => -1 | some s => (s : Int)
theorem okW_no {G : Gd} {c n : Nat} (hn : n < 4) (h : finO (flowS G c (n : Int)) = false) : okW G c = false := by
  unfold okW
  rw [← Bool.not_eq_true, List.all_eq_true]
  intro h2
  have := h2 n (List.mem_range.2 hn)
  rw [h] at this; cases this
theorem okW_yes {G : Gd} {c : Nat} (h : ∀ s : Nat, s < 4 → finO (flowS G c (s : Int)) = true) : okW G c = true := by
  unfold okW
  rw [List.all_eq_true]
  intro s hs
  exact h s (List.mem_range.1 hs)
theorem bsTo_snd (G : Gd) (c n : Nat) : ∃ r, (bsTo G c n).2 = some r := by
  rcases bsTo_is G c n with e | ⟨s, r, _, e, _⟩ <;> rw [e] <;> exact ⟨_, rfl⟩
theorem bsTo_yes {G : Gd} {c n : Nat} (h : gtO (flowS G c (n : Int)) (bsTo G c n).2 = true) : bsTo G c (n + 1) = (some n, flowS G c (n : Int)) := by simp [bsTo, h]
theorem bsTo_no {G : Gd} {c n : Nat} (h : gtO (flowS G c (n : Int)) (bsTo G c n).2 = false) : bsTo G c (n + 1) = bsTo G c n := by simp [bsTo, h]
theorem way_ne (G : Gd) (c : Nat) : wayL G c ≠ [] := by
  unfold wayL wayN
  simp
/-- What is known in the middle of a way. -/
structure MidW (G : Gd) (c0 : Nat) (pre : List Nat) (c : Nat) : Prop where
  all : pre ++ wayL G c = wayL G c0
  lt : c < 64
  is : isB G c = true
  below : ∀ j ∈ pre, j < 64 ∧ valW (G.h c) < valW (G.h j)
  ok : ∀ j ∈ pre, okW G j = true
theorem MidW.start {G : Gd} {c : Nat} (h : c < 64) (hb : isB G c = true) : MidW G c [] c := ⟨rfl, h, hb, fun j hj => by simp at hj, fun j hj => by simp at hj⟩
theorem MidW.next {G : Gd} (hv : validB G = true) {c0 c k : Nat} {pre : List Nat} (h : MidW G c0 pre c) (hk : nxtW G c = some k) (ho : okW G c = true) : MidW G c0 (pre ++ [c]) k := by
  obtain ⟨h1, h2, h3, _⟩ := nxtW_down hv h.lt h.is hk
  refine ⟨?_, h1, h2, fun j hj => ?_, fun j hj => ?_⟩
  · rw [← h.all, wayL_on hv h.lt h.is hk]; simp
  · rw [List.mem_append] at hj
    rcases hj with hj | hj
    · have := h.below j hj; exact ⟨this.1, by omega⟩
    · simp at hj; subst hj; exact ⟨h.lt, h3⟩
  · rw [List.mem_append] at hj
    rcases hj with hj | hj
    · exact h.ok j hj
    · simp at hj; subst hj; exact ho
theorem MidW.new {G : Gd} {c0 c : Nat} {pre : List Nat} (h : MidW G c0 pre c) : c ∉ pre := fun hc => by
  have := (h.below c hc).2; omega
theorem MidW.end {G : Gd} {c0 c : Nat} {pre : List Nat} (h : MidW G c0 pre c) (hn : nxtW G c = none) (ho : okW G c = true) : ptV G c0 = (pre ++ [c], true) := by
  have e : wayL G c0 = pre ++ [c] := by rw [← h.all, wayL_end hn]
  unfold ptV
  rw [e, if_pos]
  rw [List.all_eq_true]
  intro j hj
  rw [List.mem_append] at hj
  rcases hj with hj | hj
  · exact h.ok j hj
  · simp at hj; subst hj; exact ho
theorem gtO_num {x y : Nat} {a b : Option Nat} (h1 : num .f32 x = a) (h2 : num .f32 y = b) : gtO a b = (FloatKind.f32.format.order x y == some Ordering.gt) := by
  unfold gtO
  rw [ordO_num h1 h2]
theorem cellsI_nilP (w : World) (p : Option Addr) : CellsI w p [] := fun i v h => by simp at h
theorem wayN_len (G : Gd) : ∀ (f c : Nat), (wayN G f c).length ≤ f
  | 0, _ => Nat.le_refl _
  | f + 1, c => by
    unfold wayN
    split
    · simp
    · simp only [List.length_cons]
      have := wayN_len G f
      rename_i k _
      have := this k
      omega
theorem rank_lt (G : Gd) (c : Nat) (hc : c < 64) : rankW G c < 64 := by
  unfold rankW
  have h1 : (List.range 64).countP (fun j => decide (valW (G.h j) < valW (G.h c))) < (List.range 64).countP (fun _ => true) := countP_lt (x := c) (List.mem_range.2 hc) (fun _ _ => rfl) (by simp) rfl
  have h2 : (List.range 64).countP (fun _ => true) = 64 := by decide
  omega
theorem vrow_one (w : World) (c : Nat) : VRow (w.alloc (.cells #[.int .i64 (c : Int)] 2)) 2 w.heap.size 1 ([c].map IV) := ⟨#[.int .i64 (c : Int)], heap_alloc_new w _, by simp, by decide, rfl, rfl⟩
theorem way_head (G : Gd) (c : Nat) : ∃ t, wayL G c = c :: t := ⟨_, rfl⟩
theorem MidW.bad {G : Gd} {c0 c : Nat} {pre : List Nat} (h : MidW G c0 pre c) (ho : okW G c = false) : ptV G c0 = ([], false) := by
  unfold ptV
  rw [if_neg]
  rw [List.all_eq_true]
  intro ha
  obtain ⟨t, ht⟩ := way_head G c
  have := ha c (by rw [← h.all, ht]; simp)
  rw [ho] at this; cases this
set_option maxRecDepth 100000 in
set_option maxHeartbeats 2000000 in
theorem l02Path_any (G : Gd) (c0 : Nat) (hc0 : c0 < 64) (hb0 : isB G c0 = true) (hv : validB G = true) (hG : GdOk G) (p : Nat) (w : World) (hp : GrdAt w p 0 G) (hpl : p < w.heap.size) :
    Calls Tryd.prog 44 #[.pointer (some ⟨p, 0, none⟩), .int .i64 c0] w fun e w' => ∃ g cap, e = .returned (.tuple #[.slice (some ⟨g, 0, none⟩) (ptV G c0).1.length cap, .bool (ptV G c0).2]) ∧ CellsI w' (some ⟨g, 0, none⟩) (ptV G c0).1 ∧ Below w.heap.size w w' := by
  have GP := Lib.hid (fun W (h : Below w.heap.size w W) => hp.below h hpl)
  have HV := Lib.hid hv
  have HG := Lib.hid hG
  have HM0 := Lib.hid (MidW.start hc0 hb0)
  have HSH := Lib.hid (shl_one c0 hc0)
  have hc0i : (c0 : Int) < 64 := by omega
  have V1 := Lib.hid (vrow_one w c0)
  have HX := Lib.hid (show Below w.heap.size w (w.alloc (.cells #[.int .i64 (c0 : Int)] 2)) from (Below.refl _ _).alloc (Nat.le_refl _) _)
  clear hv hG hp hpl hb0
  go_enter Tryd.func44, Tryd.ntmps44
  go_upto_region 3 with (fail)
  have HMK := Lib.hid (show (IntKind.u64.wrap (2 ^ c0) : Int) = ((maskL [c0] : Nat) : Int) from HSH.out)
  try rw [HMK.out]
  go_loopw [1, 6, 7] (fun (cv ov bv : Value) (wr : World) => ∃ (pre : List Nat) (c m g cap : Nat) (V : List Nat), cv = .int .i64 (c : Int) ∧ Hid (MidW G c0 pre c) ∧ Hid (pre.length + 1 = m ∧ m ≤ 64) ∧ ov = .slice (some ⟨g, 0, none⟩) m cap ∧ Hid (VRow wr 2 g cap ((pre ++ [c]).map IV)) ∧ bv = .int .u64 ((maskL V : Nat) : Int) ∧ Hid (∀ j, j ∈ V ↔ j ∈ pre ++ [c]) ∧ Hid (Below w.heap.size w wr ∧ w.heap.size ≤ g)) (fun cv _ _ _ => rankW G (intOf cv).toNat)
  case atStart => exact ⟨[], c0, 1, w.heap.size, 1, [c0], rfl, HM0, Lib.hid ⟨rfl, by omega⟩, rfl, V1, rfl, Lib.hid (fun j => Iff.rfl), Lib.hid ⟨HX.out, Nat.le_refl _⟩⟩
  case round =>
    obtain ⟨pre, c, m, g, cap, V, rfl, hmid, hm, rfl, hvr, rfl, hV, hB⟩ := hrel
    have hc64 := hmid.out.lt
    go_upto_region 6 with (fail)
    go_loopw [8, 9, 10] (fun (bv mv sv : Value) (wr2 : World) => ∃ n r0 : Nat, n ≤ 4 ∧ sv = .int .i64 (n : Int) ∧ bv = .int .i64 (bestI (bsTo G c n).1) ∧ mv = .float .f32 r0 ∧ Hid (num .f32 r0 = (bsTo G c n).2) ∧ Hid (∀ s : Nat, s < n → finO (flowS G c (s : Int)) = true) ∧ Hid (Quiet wr wr2)) (fun _ _ sv _ => 4 - (intOf sv).toNat)
    case atStart => exact ⟨0, 0, by omega, rfl, rfl, rfl, Lib.hid (show num .f32 0 = some 0 by decide), Lib.hid (fun s hs => absurd hs (by omega)), Lib.hid (Quiet.refl _)⟩
    case round =>
      obtain ⟨n, r0, hn, rfl, rfl, rfl, hr0, hfin, hq⟩ := hrel
      by_cases hlt : n < 4
      · have hside : sideB (n : Int) = true := by simp [sideB]; omega
        have hlti : (n : Int) < 4 := by omega
        obtain ⟨bb, hbb⟩ : ∃ bb, bestI (bsTo G c n).1 = bb := ⟨_, rfl⟩
        have HBB := Lib.hid hbb
        rw [hbb]
        clear hbb
        go_upto_region 9 with (first | (go_at_call 70; refine (l01Flow_any G c hc64 HV.out (n : Int) hside p wr (GP.out wr (hB.out.1.trans (hq.out.below _))) HG.out).mono ?_; rintro e V ⟨r, rfl, hnum, hV⟩; have HNM := Lib.hid hnum; have HVQ := Lib.hid hV; clear hV hnum) | fail)
        have hfo : finO (flowS G c (n : Int)) = finB r := by rw [← HNM.out]; exact finO_num r
        cases hf : finB r
        · have HFI := Lib.hid hf
          have HBAD := Lib.hid (hmid.out.bad (okW_no hlt (by rw [hfo]; exact hf)))
          clear hfo hf
          go_wp2_with (go_at_call 71; refine (l01Finite_is r false HFI.out _).mono ?_; rintro e V2 ⟨rfl, hV⟩; have HVQ2 := Lib.hid (HVQ.out.trans hV); clear hV)
          go_ret2
          exact ⟨_, _, by rw [HBAD.out]; rfl, by rw [HBAD.out]; exact cellsI_nilP _ _, ((hB.out.1.trans ((hq.out.trans HVQ2.out).below _))).alloc (Nat.le_trans hB.out.1.size ((hq.out.trans HVQ2.out).below 0).size) _⟩
        · have HFI := Lib.hid hf
          have HFN := Lib.hid (show ∀ s : Nat, s < n + 1 → finO (flowS G c (s : Int)) = true from fun s hs => by
            by_cases e : s = n
            · subst e; rw [hfo]; exact hf
            · exact hfin.out s (by omega))
          have hgt := gtO_num HNM.out hr0.out
          clear hfo hf
          go_upto_region 11 with ((go_at_call 71; refine (l01Finite_is r true HFI.out _).mono ?_; rintro e V2 ⟨rfl, hV⟩; have HVQ2 := Lib.hid (HVQ.out.trans hV); clear hV))
          cases hg : (FloatKind.f32.format.order r r0 == some Ordering.gt)
          · have HGT := Lib.hid (bsTo_no (hgt.trans hg))
            clear hgt
            go_wp2
            go_roundw
            case rel => exact ⟨n + 1, r0, by omega, by go_num, by rw [HGT.out, HBB.out], rfl, Lib.hid (by rw [HGT.out]; exact hr0.out), HFN, Lib.hid (hq.out.trans HVQ2.out)⟩
            case measure => simp [intOf]; omega
          · have HGT := Lib.hid (bsTo_yes (hgt.trans hg))
            clear hgt
            go_wp2
            go_roundw
            case rel => exact ⟨n + 1, r, by omega, by go_num, by rw [HGT.out]; rfl, rfl, Lib.hid (by rw [HGT.out]; exact HNM.out), HFN, Lib.hid (hq.out.trans HVQ2.out)⟩
            case measure => simp [intOf]; omega
      · obtain rfl : n = 4 := by omega
        have HOK := Lib.hid (okW_yes hfin.out)
        have HW2 := Lib.hid (show Below w.heap.size w wr from hB.out.1.trans (hq.out.below _))
        have HVR := Lib.hid (hvr.out.quiet hq.out)
        cases hbs : (bsTo G c 4).1 with
        | none =>
          have HE := Lib.hid (hmid.out.end (show nxtW G c = none by simp [nxtW, hbs]) HOK.out)
          simp only [bestI]
          clear hbs
          go_wp2
          go_ret2
          refine ⟨g, cap, by rw [HE.out]; simp only [List.length_append, List.length_singleton, hm.out.1]; try rfl, ?_, HW2.out⟩
          rw [HE.out]
          exact fun i v hv => ⟨g, rfl, HVR.out.cell i _ (by rw [List.getElem?_map, hv]; rfl)⟩
        | some s =>
          obtain ⟨k, hk⟩ : ∃ k, nbN c (s : Int) = k := ⟨_, rfl⟩
          have hkn : nxtW G c = some k := by simp [nxtW, hbs, hk]
          obtain ⟨hk64, hkb, hvl, s2, hs4, hbs2, hnb, hke⟩ := nxtW_down HV.out hc64 hmid.out.is hkn
          clear hke
          obtain rfl : s2 = s := by rw [hbs] at hbs2; exact (Option.some.inj hbs2).symm
          have hside : sideB (s2 : Int) = true := by simp [sideB]; omega
          have HBN := Lib.hid (show besideN G c (s2 : Int) = (k : Int) by unfold besideN; rw [if_pos hnb, (nbN_is HV.out hnb).1, hk])
          have HMN := Lib.hid (hmid.out.next HV.out hkn HOK.out)
          have hkV : k ∉ V := fun h => HMN.out.new ((hV.out k).1 h)
          have HBT := Lib.hid (show (((maskL V : Nat) : Int) / 2 ^ k % 2 == 1) = false by rw [bit_rem, maskL_bit]; simp [hkV])
          have HOR := Lib.hid (or_bit (maskL V) k (maskL_lt fun j hj => by
            have := (hV.out j).1 hj
            rw [List.mem_append] at this
            rcases this with h | h
            · exact (hmid.out.below j h).1
            · simp at h; omega) hk64)
          have HRK := Lib.hid (rank_down hk64 hvl)
          have hm64 : m + 1 ≤ 64 := by
            have h1 := wayN_len G (rankW G c0 + 1) c0
            have h2 := congrArg List.length HMN.out.all
            obtain ⟨t, ht⟩ := way_head G k
            rw [ht] at h2
            simp at h2
            have h3 : (wayL G c0).length ≤ rankW G c0 + 1 := h1
            have h4 := rank_lt G c0 hc0
            have h5 := hm.out.1
            omega
          have hs0 : ¬ ((s2 : Int) < 0) := by omega
          have hkI : (k : Int) < 64 := by omega
          have hk0 : (0 : Int) ≤ k := by omega
          simp only [bestI]
          clear hbs hbs2 hkn hnb hkV hvl
          go_upto_region 17 with ((go_at_call 72; refine (l01Beside_any G c hc64 (s2 : Int) hside p wr (GP.out wr HW2.out) HG.out).mono ?_; rintro e V5 ⟨rfl, hw5⟩; rw [HBN.out]; cases hw5; dsimp only))
          clear hk hn hlt hs4 hside hs0
          have hbt := HBT.out
          have hbt2 : ((((maskL V : Nat) : Int) / 2 ^ k).tmod 2 == 1) = false := by rw [Int.tmod_eq_emod_of_nonneg (Int.ediv_nonneg (Int.natCast_nonneg _) (Int.le_of_lt (Int.pow_pos (by decide))))]; exact HBT.out
          have hwk : IntKind.u64.wrap ((k : Nat) : Int) = (k : Int) := by rw [IntKind.wrap_u64]; omega
          go_upto_region 19 with (fail)
          clear hbt hbt2
          have hor := HOR.out
          go_upto_region 20 with (fail)
          clear hor
          go_wp2_with (refine wpList_appI (by kernel_rfl) _ _ rfl HVR.out (by rw [List.length_append, List.length_singleton]; exact hm.out.1) (by omega) k rfl (by simp [go_sem]; done) ?_; intro g2 cap2 w2 h1 h2 h3; have H1 := Lib.hid h1; have H2 := Lib.hid h2; have H3 := Lib.hid h3; clear h1 h2 h3)
          go_roundw
          case rel => exact ⟨pre ++ [c], k, m + 1, g2, cap2, k :: V, rfl, HMN, Lib.hid ⟨by rw [List.length_append, List.length_singleton]; have := hm.out.1; omega, hm64⟩, rfl, H1, by rw [maskL_push, ← HOR.out], Lib.hid (fun j => by rw [List.mem_cons, hV.out j]; exact ⟨fun h => h.elim (fun e => List.mem_append.2 (.inr (by simp [e]))) (fun h => List.mem_append.2 (.inl h)), fun h => (List.mem_append.1 h).elim .inr (fun h => .inl (by simpa using h))⟩), Lib.hid ⟨HW2.out.trans (grown_below H2.out hB.out.2 HW2.out.size), by have h3 := H3.out; have h4 := HW2.out.size; have h5 := hB.out.2; rcases h3 with h3 | h3 <;> omega⟩⟩
          case measure => simp [intOf]; exact HRK.out
/-- What WaterPath answers. -/
def wpV (G : Gd) (c : Int) : List Nat × Int := if askedN G c = 0 then (if (ptV G c.toNat).2 = true then ((ptV G c.toNat).1, 0) else ([], 4)) else ([], askedN G c)
set_option maxRecDepth 100000 in
set_option maxHeartbeats 2000000 in
theorem specWP_any (G : Gd) (c : Int) (w : World) (hG : GdOk G) :
    Calls Tryd.prog 17 #[.agg (Grd G), .int .i64 c] w fun e w' => ∃ p cap, e = .returned (.tuple #[.slice p (wpV G c).1.length cap, .int .i64 (wpV G c).2]) ∧ CellsI w' p (wpV G c).1 ∧ Below w.heap.size w w' := by
  go_enter Tryd.func17, Tryd.ntmps17
  go_upto_region 1 with (fail)
  obtain ⟨W, hW, hs, g1, hB⟩ := gbox1 G 32 w
  rw [hW]
  clear hW
  have G1 := Lib.hid g1
  have HB := Lib.hid hB
  have HG := Lib.hid hG
  have hl : w.heap.size < W.heap.size := by omega
  clear g1 hB hs hG
  by_cases ha : askedN G c = 0
  · obtain ⟨k, rfl, hk, hv, hb⟩ := asked_in ha
    have Ha := Lib.hid ha
    have TP := Lib.hid (fun V (h : Below W.heap.size W V) => l02Path_any G k hk hb hv HG.out w.heap.size V ((G1.out.below h hl).at') (Nat.lt_of_lt_of_le hl h.size))
    obtain ⟨LL, ob, hp⟩ : ∃ LL ob, ptV G k = (LL, ob) := ⟨_, _, rfl⟩
    have HR := Lib.hid (show wpV G (k : Int) = (if ob = true then (LL, 0) else ([], 4)) by simp [wpV, ha, hp])
    simp only [hp] at TP
    obtain ⟨r, hr⟩ : ∃ r, LL.length = r := ⟨_, rfl⟩
    rw [hr] at TP
    have HLR := Lib.hid hr
    clear ha hp hr hl
    cases ob
    · go_wp2_with (first | (go_at_call 43; have hc := (l01Asked_any G k _ _ G1.out.at' HG.out); rw [Ha.out] at hc; refine hc.mono ?_; clear hc; rintro e w' ⟨rfl, hq⟩; have HQ := Lib.hid (hq.below W.heap.size); clear hq) | (go_at_call 44; refine (TP.out _ HQ.out).mono ?_; rintro e V ⟨g, cap, rfl, hc, hV⟩; have HC := Lib.hid hc; have HV := Lib.hid (HB.out.trans ((HQ.out.trans (hV.mono HQ.out.size)).mono HB.out.size)); clear hc hV))
      go_ret2
      exact ⟨_, _, by rw [HR.out]; rfl, by rw [HR.out]; exact cellsI_nilP _ _, HV.out.alloc HV.out.size _⟩
    · go_wp2_with (first | (go_at_call 43; have hc := (l01Asked_any G k _ _ G1.out.at' HG.out); rw [Ha.out] at hc; refine hc.mono ?_; clear hc; rintro e w' ⟨rfl, hq⟩; have HQ := Lib.hid (hq.below W.heap.size); clear hq) | (go_at_call 44; refine (TP.out _ HQ.out).mono ?_; rintro e V ⟨g, cap, rfl, hc, hV⟩; have HC := Lib.hid hc; have HV := Lib.hid (HB.out.trans ((HQ.out.trans (hV.mono HQ.out.size)).mono HB.out.size)); clear hc hV))
      go_ret2
      exact ⟨some ⟨g, 0, none⟩, cap, by rw [HR.out]; simp only [if_true, HLR.out]; try rfl, by rw [HR.out]; exact HC.out, HV.out⟩
  · have hne : (askedN G c != 0) = true := by simpa [bne] using ha
    have R := Lib.hid (show wpV G c = ([], askedN G c) by simp [wpV, ha])
    clear ha
    go_wp2_with (go_at_call 43; refine (l01Asked_any G c _ _ G1.out.at' HG.out).mono ?_; rintro e w' ⟨rfl, n, rfl⟩)
    go_ret2
    exact ⟨_, _, by rw [R.out]; rfl, by rw [R.out]; exact cellsI_nilP _ _, (HB.out.trans (Quiet.below ⟨n, rfl⟩ _)).alloc (by have := HB.out.size; exact this) _⟩
end Go.Proofs.YtjhaonfdapldcaaDoor
