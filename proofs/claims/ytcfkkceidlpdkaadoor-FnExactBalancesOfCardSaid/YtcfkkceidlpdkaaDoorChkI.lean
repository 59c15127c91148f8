/- The program's checks of grounds, cells and sides. Condition: the table of math/bits is laid. -/
import Derived.Test.YtcfkkceidlpdkaaDoorMade
namespace Go.Proofs.YtcfkkceidlpdkaaDoor
open Go.RowKit
set_option linter.unusedSimpArgs false

/-- A place. -/
def Plc (x y : Int) : Value := .agg #[.int .i64 x, .int .i64 y]

theorem tdm (c : Int) : (0 ≤ c → c.tdiv 8 = c / 8 ∧ c.tmod 8 = c % 8) ∧ (c < 0 → c.tdiv 8 = -((-c) / 8) ∧ c.tmod 8 = -((-c) % 8)) := by
  refine ⟨fun h => ⟨Int.tdiv_eq_ediv_of_nonneg h, Int.tmod_eq_emod_of_nonneg h⟩, fun h => ?_⟩
  have h0 : 0 ≤ -c := by omega
  have e1 : c.tdiv 8 = -((-c).tdiv 8) := by rw [Int.neg_tdiv]; omega
  have e2 : c.tmod 8 = -((-c).tmod 8) := by rw [Int.neg_tmod]; omega
  rw [e1, e2, Int.tdiv_eq_ediv_of_nonneg h0, Int.tmod_eq_emod_of_nonneg h0]
  exact ⟨rfl, rfl⟩

theorem placeOf_int (c : Int) (h1 : -9223372036854775808 ≤ c) (h2 : c ≤ 9223372036854775807) (w : World) :
    Calls Tryd.prog 83 #[.int .i64 c] w fun e w' => e = .returned (Plc (c.tmod 8) (c.tdiv 8)) ∧ Below w.heap.size w w' := by
  have e2 : wrap64 (c.tdiv 8) = c.tdiv 8 := by
    have ht := tdm c
    unfold wrap64
    by_cases h0 : 0 ≤ c
    · rw [(ht.1 h0).1]; omega
    · rw [(ht.2 (by omega)).1]; omega
  go_enter Tryd.func83, Tryd.ntmps83
  go_wp2
  refine bodyPost_ret (v := .agg #[.int .i64 (c.tmod 8), .int .i64 (c.tdiv 8)]) (by simp [results, Tryd.results83, go_sem]) rfl ⟨rfl, (Below.refl _ _).alloc (Nat.le_refl _) _⟩

theorem number_any (x y : Int) (h1 : 0 ≤ x) (h2 : x ≤ 1000) (h3 : 0 ≤ y) (h4 : y ≤ 1000) (w : World) :
    Calls Tryd.prog 85 #[Plc x y] w fun e w' => e = .returned (.int .i64 (x + 8 * y)) ∧ Below w.heap.size w w' := by
  unfold Plc
  go_enter Tryd.func85, Tryd.ntmps85
  go_wp2
  go_ret
  exact ⟨rfl, (Below.refl _ _).alloc (Nat.le_refl _) _⟩

/-- A place is one of a cell. -/
def holdB (G : Gd) (x y : Int) : Bool := decide (0 ≤ x) && (decide (x < G.wide) && (decide (0 ≤ y) && decide (y < G.high)))

set_option maxRecDepth 100000 in
set_option maxHeartbeats 1000000 in
theorem holds_any (G : Gd) (x y : Int) (p : Nat) (w : World) (hp : GrdAt w p 0 G) (hpl : p < w.heap.size) (hG : GdOk G) :
    Calls Tryd.prog 84 #[.pointer (some ⟨p, 0, none⟩), Plc x y] w fun e w' => e = .returned (.bool (holdB G x y)) ∧ Below w.heap.size w w' := by
  unfold Plc
  obtain ⟨k0, k0'⟩ := hG.wide'
  obtain ⟨k1, k1'⟩ := hG.high'
  go_enter Tryd.func84, Tryd.ntmps84
  go_wp2
  obtain ⟨W, hW⟩ : ∃ W, w.alloc (.cells #[.int .i64 x, .int .i64 y] 94) = W := ⟨_, rfl⟩
  have hB : Below w.heap.size w W := by rw [← hW]; exact (Below.refl _ _).alloc (Nat.le_refl _) _
  have x0 : W.cell? ⟨w.heap.size, 0, none⟩ = some (.int .i64 x) := by rw [← hW]; exact cell_of_row _ _ 0 _ _ _ (heap_alloc_last w _)
  have x1 : W.cell? ⟨w.heap.size, 1, none⟩ = some (.int .i64 y) := by rw [← hW]; exact cell_of_row _ _ 1 _ _ _ (heap_alloc_last w _)
  have hp' := hp.below hB hpl
  have a0 := hp'.wide; have a1 := hp'.high
  rw [Nat.zero_add] at a1
  rw [hW]
  clear hW hp hp' hG
  have HB := Lib.hid hB
  clear hB
  by_cases e0 : 0 ≤ x
  · by_cases e1 : x < G.wide
    · by_cases e2 : 0 ≤ y
      · by_cases e3 : y < G.high
        · have R := Lib.hid (show holdB G x y = true by simp [holdB, e0, e1, e2, e3])
          go_quiet (fail)
          go_wp2
          go_ret
          exact ⟨ret_bool R.out.symm, HB.out.trans (Quiet.below ⟨_, rfl⟩ _)⟩
        · have R := Lib.hid (show holdB G x y = false by simp [holdB, e3])
          have d : decide (y < G.high) = false := by simpa using e3
          go_quiet (fail)
          go_wp2
          go_ret
          exact ⟨ret_bool R.out.symm, HB.out.trans (Quiet.below ⟨_, rfl⟩ _)⟩
      · have R := Lib.hid (show holdB G x y = false by simp [holdB, e2])
        have d : decide (0 ≤ y) = false := by simpa using e2
        go_quiet (fail)
        go_wp2
        go_ret
        exact ⟨ret_bool R.out.symm, HB.out.trans (Quiet.below ⟨_, rfl⟩ _)⟩
    · have R := Lib.hid (show holdB G x y = false by simp [holdB, e1])
      have d : decide (x < G.wide) = false := by simpa using e1
      go_quiet (fail)
      go_wp2
      go_ret
      exact ⟨ret_bool R.out.symm, HB.out.trans (Quiet.below ⟨_, rfl⟩ _)⟩
  · have R := Lib.hid (show holdB G x y = false by simp [holdB, e0])
    have d : decide (0 ≤ x) = false := by simpa using e0
    go_quiet (fail)
    go_wp2
    go_ret
    exact ⟨ret_bool R.out.symm, HB.out.trans (Quiet.below ⟨_, rfl⟩ _)⟩

/-- A number of a cell, as the program finds out. -/
theorem hold_in (G : Gd) (c : Int) (hv : validB G = true) : holdB G (c.tmod 8) (c.tdiv 8) = inB G c := by
  obtain ⟨v1, v2, v3, v4⟩ := valid_ext hv
  rw [Bool.eq_iff_iff]
  simp only [holdB, inB, isB, Bool.and_eq_true, decide_eq_true_eq]
  have ht := tdm c
  by_cases h0 : 0 ≤ c
  · rw [(ht.1 h0).1, (ht.1 h0).2]
    clear ht
    constructor
    · rintro ⟨h1, h2, h3, h4⟩
      refine ⟨⟨h0, by omega⟩, by omega, by omega⟩
    · rintro ⟨⟨h1, h2⟩, h3, h4⟩
      refine ⟨by omega, by omega, by omega, by omega⟩
  · rw [(ht.2 (by omega)).1, (ht.2 (by omega)).2]
    clear ht
    constructor
    · rintro ⟨h1, h2, h3, h4⟩
      exfalso
      omega
    · rintro ⟨⟨h1, h2⟩, h3, h4⟩
      exfalso
      omega

set_option maxRecDepth 100000 in
theorem hasCell_any (G : Gd) (c : Int) (h1 : -9223372036854775808 ≤ c) (h2 : c ≤ 9223372036854775807) (p : Nat) (w : World) (hp : GrdAt w p 0 G) (hpl : p < w.heap.size) (hG : GdOk G) :
    Calls Tryd.prog 87 #[.pointer (some ⟨p, 0, none⟩), .int .i64 c] w fun e w' => e = .returned (.bool (holdB G (c.tmod 8) (c.tdiv 8))) ∧ Below w.heap.size w w' := by
  have Hp := Lib.hid hp
  have HG := Lib.hid hG
  clear hp hG
  go_enter Tryd.func87, Tryd.ntmps87
  go_wp2_with (first | (go_at_call 83; refine (placeOf_int c h1 h2 _).mono ?_; rintro e w1 ⟨rfl, hb1⟩) | (go_at_call 84; refine (holds_any G _ _ p w1 (Hp.out.below hb1 hpl) (by have := hb1.size; omega) HG.out).mono ?_; rintro e w2 ⟨rfl, hb2⟩))
  go_ret
  exact ⟨rfl, hb1.trans (hb2.mono hb1.size)⟩

set_option maxRecDepth 100000 in
set_option maxHeartbeats 1000000 in
theorem checkCell_any (G : Gd) (c : Int) (h1 : -9223372036854775808 ≤ c) (h2 : c ≤ 9223372036854775807) (p : Nat) (w : World) (hp : GrdAt w p 0 G) (hpl : p < w.heap.size) (hG : GdOk G) (hT : TabAt w) :
    Calls Tryd.prog 53 #[.pointer (some ⟨p, 0, none⟩), .int .i64 c] w fun e w' => e = .returned (.int .i64 (askedN G c)) ∧ Below w.heap.size w w' := by
  have r1 := hp.range
  have Hp := Lib.hid hp
  have HG := Lib.hid hG
  have HT := Lib.hid hT
  clear hp hG hT
  cases hv : validB G
  · have R := Lib.hid (show askedN G c = 1 by simp [askedN, hv])
    have Hv := Lib.hid hv
    clear hv
    go_enter Tryd.func53, Tryd.ntmps53
    go_wp2_with (first | (refine wpList_load_mid rfl 32 _ rfl p 0 rfl (GrdL G) _ r1 Tryd.underlying32 rfl (by rw [GrdL_length]; exact infoGround) ?_) | (go_at_call 57; have hc := (validGround_any G w HG.out HT.out (tab_lt HT.out)); rw [Hv.out] at hc; refine hc.mono ?_; clear hc; rintro e w1 ⟨rfl, hb1⟩))
    go_ret
    exact ⟨ret_i64 R.out.symm, hb1⟩
  · have hh := hold_in G c hv
    cases hi : inB G c
    · have R := Lib.hid (show askedN G c = 2 by simp [askedN, hv, hi])
      have Hv := Lib.hid hv
      have Hi := Lib.hid (hh.trans hi)
      clear hv hi hh
      go_enter Tryd.func53, Tryd.ntmps53
      go_wp2_with (first | (refine wpList_load_mid rfl 32 _ rfl p 0 rfl (GrdL G) _ r1 Tryd.underlying32 rfl (by rw [GrdL_length]; exact infoGround) ?_) | (go_at_call 57; have hc := (validGround_any G w HG.out HT.out (tab_lt HT.out)); rw [Hv.out] at hc; refine hc.mono ?_; clear hc; rintro e w1 ⟨rfl, hb1⟩) | (go_at_call 87; have hc := (hasCell_any G c h1 h2 p w1 (Hp.out.below hb1 hpl) (by have := hb1.size; omega) HG.out); rw [Hi.out] at hc; refine hc.mono ?_; clear hc; rintro e w2 ⟨rfl, hb2⟩))
      go_ret
      exact ⟨ret_i64 R.out.symm, hb1.trans (hb2.mono hb1.size)⟩
    · have R := Lib.hid (show askedN G c = 0 by simp [askedN, hv, hi])
      have Hv := Lib.hid hv
      have Hi := Lib.hid (hh.trans hi)
      clear hv hi hh
      go_enter Tryd.func53, Tryd.ntmps53
      go_wp2_with (first | (refine wpList_load_mid rfl 32 _ rfl p 0 rfl (GrdL G) _ r1 Tryd.underlying32 rfl (by rw [GrdL_length]; exact infoGround) ?_) | (go_at_call 57; have hc := (validGround_any G w HG.out HT.out (tab_lt HT.out)); rw [Hv.out] at hc; refine hc.mono ?_; clear hc; rintro e w1 ⟨rfl, hb1⟩) | (go_at_call 87; have hc := (hasCell_any G c h1 h2 p w1 (Hp.out.below hb1 hpl) (by have := hb1.size; omega) HG.out); rw [Hi.out] at hc; refine hc.mono ?_; clear hc; rintro e w2 ⟨rfl, hb2⟩))
      go_ret
      exact ⟨ret_i64 R.out.symm, hb1.trans (hb2.mono hb1.size)⟩

theorem isSide_any (s : Int) (w : World) : Calls Tryd.prog 81 #[.int .i64 s] w fun e w' => e = .returned (.bool (sideB s)) ∧ w = w' := by
  by_cases h : 0 ≤ s
  · go_enter Tryd.func81, Tryd.ntmps81
    go_wp2
    go_ret
    exact ⟨ret_bool (by simp [sideB, h]), rfl⟩
  · have d : decide (0 ≤ s) = false := by simpa using h
    go_enter Tryd.func81, Tryd.ntmps81
    go_wp2
    go_ret
    exact ⟨ret_bool (by simp [sideB]; omega), rfl⟩

set_option maxRecDepth 100000 in
theorem checkSide_any (G : Gd) (c s : Int) (h1 : -9223372036854775808 ≤ c) (h2 : c ≤ 9223372036854775807) (p : Nat) (w : World) (hp : GrdAt w p 0 G) (hpl : p < w.heap.size) (hG : GdOk G) (hT : TabAt w) :
    Calls Tryd.prog 47 #[.pointer (some ⟨p, 0, none⟩), .int .i64 c, .int .i64 s] w fun e w' => e = .returned (.int .i64 (sidedN G c s)) ∧ Below w.heap.size w w' := by
  have Hp := Lib.hid hp
  have HG := Lib.hid hG
  have HT := Lib.hid hT
  clear hp hG hT
  by_cases ha : askedN G c = 0
  · cases hs : sideB s
    · have R := Lib.hid (show sidedN G c s = 2 by simp [sidedN, ha, hs])
      have Ha := Lib.hid ha
      have Hs := Lib.hid hs
      clear ha hs
      go_enter Tryd.func47, Tryd.ntmps47
      go_wp2_with (first | (go_at_call 53; have hc := (checkCell_any G c h1 h2 p _ Hp.out hpl HG.out HT.out); rw [Ha.out] at hc; refine hc.mono ?_; clear hc; rintro e w1 ⟨rfl, hb1⟩) | (go_at_call 81; have hc := (isSide_any s w1); rw [Hs.out] at hc; refine hc.mono ?_; clear hc; rintro e w' ⟨rfl, rfl⟩))
      go_ret
      exact ⟨ret_i64 R.out.symm, hb1⟩
    · have R := Lib.hid (show sidedN G c s = 0 by simp [sidedN, ha, hs])
      have Ha := Lib.hid ha
      have Hs := Lib.hid hs
      clear ha hs
      go_enter Tryd.func47, Tryd.ntmps47
      go_wp2_with (first | (go_at_call 53; have hc := (checkCell_any G c h1 h2 p _ Hp.out hpl HG.out HT.out); rw [Ha.out] at hc; refine hc.mono ?_; clear hc; rintro e w1 ⟨rfl, hb1⟩) | (go_at_call 81; have hc := (isSide_any s w1); rw [Hs.out] at hc; refine hc.mono ?_; clear hc; rintro e w' ⟨rfl, rfl⟩))
      go_ret
      exact ⟨ret_i64 R.out.symm, hb1⟩
  · have R := Lib.hid (show sidedN G c s = askedN G c by simp [sidedN, ha])
    have hne : (askedN G c == 0) = false := by simpa using ha
    go_enter Tryd.func47, Tryd.ntmps47
    go_wp2_with (go_at_call 53; refine (checkCell_any G c h1 h2 p _ Hp.out hpl HG.out HT.out).mono ?_; rintro e w1 ⟨rfl, hb1⟩)
    go_ret
    exact ⟨ret_i64 R.out.symm, hb1⟩
end Go.Proofs.YtcfkkceidlpdkaaDoor
