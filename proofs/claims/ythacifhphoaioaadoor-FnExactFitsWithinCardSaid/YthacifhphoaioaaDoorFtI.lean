/- The guesses that fit, the program's. Condition: the sentinels lie where they are laid. -/
import Derived.Test.YthacifhphoaioaaDoorFtR
namespace Go.Proofs.YthacifhphoaioaaDoor
open Go Go.RowKit Ieee
set_option linter.unusedSimpArgs false
set_option linter.unusedVariables false
attribute [local go_sem] run_store_f32

set_option maxRecDepth 100000 in
set_option maxHeartbeats 4000000 in
theorem fitsI_any {s : Nat → Addr} (pg : Option Addr) (cg : Nat) (G : List A2) (hG : G.length ≤ 1048576) (X Y : Int) (R : Nat) (x y : Int) (p : Option Addr) (c : Nat) (L : List R2) (hL : L.length ≤ 1048576) (hX : -128 ≤ X ∧ X ≤ 127) (hY : -128 ≤ Y ∧ Y ≤ 127) (hx : -128 ≤ x ∧ x ≤ 127) (hy : -128 ≤ y ∧ y ≤ 127) (bd : Nat) (hok : ∀ a ∈ G, okA a) (w : World) (hg : AsAt w pg G) (hp : RsAt w p L) (hS : Sents w s) :
    Calls Tryd.prog 70 #[.slice pg G.length cg, .agg (Ste X Y R x y), .slice p L.length c, .float .f32 bd] w fun e w' => ∃ p' cap, e = .returned (.tuple #[.slice p' (ftL G R X Y x y L bd (gueK (gueB G X Y R x y L) G.length)).length cap, erV s (gueK (gueB G X Y R x y L) G.length)]) ∧ OwnI w' p' cap (ftL G R X Y x y L bd (gueK (gueB G X Y R x y L) G.length)) w.heap.size ∧ Below w.heap.size w w' := by
  obtain ⟨z, _⟩ := laid1 w (.cells (Ste X Y R x y) 38)
  obtain ⟨W, hW, B0, LD⟩ := one_row X Y R x y w
  rw [hW] at z
  have BW := Lib.hid B0
  have HLD := Lib.hid LD
  have PG := Lib.hid hg
  have PP := Lib.hid hp
  have T0 := checkGuesses_any (s := s) pg cg G hG X Y R x y p c L hL hX hY hx hy W (hp.keep B0) (hS.keep B0) (hg.keep B0)
  obtain ⟨s0, s1, s2, s3, s4⟩ := LD W (Below.refl _ _)
  have TM := Lib.hid (fun (hK : gueK (gueB G X Y R x y L) G.length = none) (j : Nat) (a : A2) (ha : G[j]? = some a) (V : World) (hV : RsAt V p L) => show Calls Tryd.prog 92 #[.agg (Ste X Y R x y), .agg (Aq a.1 a.2), .slice p L.length c] V (GvB (guO R X Y x y L G j) V) by
    have hb := (gueK_none hK).1
    have ho := hok a (List.mem_of_getElem? ha)
    obtain ⟨p1, p2, p3, p4, p5, p6, p7⟩ := ask_parts ho.1 ho.2 (gue_ask hb ha)
    rw [guO_at ha]
    exact siteMisfit_any X Y R x y a.1 a.2 p c L hL p1 p2 p3 p4 p5 p6 (fun k e he => okRs_time p7 k e he) V hV)
  have M20 := Lib.hid (fun (hK : gueK (gueB G X Y R x y L) G.length = none) => (gueK_none hK).2.2)
  obtain ⟨k0, hk⟩ : ∃ k, gueK (gueB G X Y R x y L) G.length = k := ⟨_, rfl⟩
  rw [hk] at T0 TM M20 ⊢
  clear hg hp B0 LD hok hk hS
  rcases k0 with _ | i
  · have T1 := Lib.hid (TM.out rfl)
    have m20 := M20.out rfl
    rw [show ftL G R X Y x y L bd none = fitI (guO R X Y x y L G) (num .f32 bd) G.length from rfl]
    obtain ⟨m, hm⟩ : ∃ m, G.length = m := ⟨_, rfl⟩
    have HN := Lib.hid hm
    obtain ⟨n, hn⟩ : ∃ n, L.length = n := ⟨_, rfl⟩
    rw [hm] at hG m20 T0 ⊢
    rw [hn] at hL T0 T1 ⊢
    have RS := Lib.hid (show ∀ (g cap l : Nat) (xs : List Nat) (V : World), xs.length = l → xs = fitI (guO R X Y x y L G) (num .f32 bd) m → VRow V 2 g cap (xs.map IV) → Below W.heap.size W V → W.heap.size ≤ g → ∃ p' cap', Ending.returned (.tuple #[.slice (some ⟨g, 0, none⟩) l cap, .nilIface]) = .returned (.tuple #[.slice p' (fitI (guO R X Y x y L G) (num .f32 bd) m).length cap', erV s none]) ∧ OwnI V p' cap' (fitI (guO R X Y x y L G) (num .f32 bd) m) w.heap.size ∧ Below w.heap.size w V from
      fun g cap l xs V h1 h2 h3 h4 h5 => by
        subst h2
        exact ⟨_, _, by rw [h1]; rfl, .inr ⟨g, rfl, h3, Nat.le_trans BW.out.size h5⟩, BW.out.trans (h4.mono BW.out.size)⟩)
    clear hn hm TM M20
    simp only [erV] at T0
    simp only [Ste] at hW T0 T1 ⊢
    go_enter Tryd.func70, Tryd.ntmps70
    go_upto_region 1 with (fail)
    try rw [hW]
    clear hW
    go_upto_region 4 with (go_at_call 89; refine T0.mono ?_; rintro e V1 ⟨rfl, hq1⟩; have Q1 := Lib.hid hq1; clear hq1 s0 s1 s2 s3 s4)
    have V0 := Lib.hid (vrow_made V1 2)
    have B1 := Lib.hid (Q1.out.alloc Q1.out.size (.cells #[] 2))
    have G0 := Lib.hid Q1.out.size
    go_upto_region 6 with (fail)
    have e00 : ((0 : Nat) : Int) = 0 := rfl
    go_loopw [11, 24] (fun (ou i : Value) (wr : World) => ∃ (k g cap l : Nat) (xs : List Nat), k ≤ m ∧ i = .int .i64 (k : Int) ∧ ou = .slice (some ⟨g, 0, none⟩) l cap ∧ Hid (xs.length = l ∧ l ≤ k) ∧ Hid (xs = fitI (guO R X Y x y L G) (num .f32 bd) k) ∧ Hid (VRow wr 2 g cap (xs.map IV)) ∧ Hid (Below W.heap.size W wr ∧ W.heap.size ≤ g)) (fun _ i _ => m - (intOf i).toNat)
    case atStart => exact ⟨0, V1.heap.size, 0, 0, [], by omega, rfl, rfl, Lib.hid ⟨rfl, Nat.le_refl _⟩, Lib.hid rfl, V0, Lib.hid ⟨B1.out, G0.out⟩⟩
    case round =>
      obtain ⟨k, g, cap, l, xs, hk, rfl, rfl, HL, HX, HV, HB⟩ := hrel
      by_cases hlt : k < m
      · have hki : (k : Int) < m := by omega
        obtain ⟨e, he⟩ : ∃ e, G[k]? = some e := ⟨_, List.getElem?_eq_getElem (by rw [HN.out]; exact hlt)⟩
        obtain ⟨b, o, rfl, hr⟩ := (PG.out.keep (BW.out.trans (HB.out.1.mono BW.out.size))) k e he
        have c0 : wr.cell? ⟨b, o + k * 2, none⟩ = some (.float .f32 e.1) := hr 0 _ rfl
        have c1 : wr.cell? ⟨b, o + k * 2 + 1, none⟩ = some (.float .f32 e.2) := hr 1 _ rfl
        have hne : b ≠ wr.heap.size := Nat.ne_of_lt (World.block_lt_of_cell? wr _ c0)
        have hsw : w.heap.size ≠ wr.heap.size := by have := HB.out.1.size; omega
        have BA := Lib.hid (HB.out.1.alloc HB.out.1.size (.cells #[.float .f32 e.1, .float .f32 e.2] 34))
        obtain ⟨s0, s1, s2, s3, s4⟩ := HLD.out _ BA.out
        have VA := Lib.hid (show VRow (wr.alloc (.cells #[.float .f32 e.1, .float .f32 e.2] 34)) 2 g cap (xs.map IV) from HV.out.kept (heap_alloc_old _ _ HV.out.lt))
        have T2 := Lib.hid (T1.out k e he)
        simp only [Aq] at T2
        obtain ⟨q, hl⟩ : ∃ q, leO (guO R X Y x y L G k) (num .f32 bd) = q := ⟨_, rfl⟩
        have HQL := Lib.hid (fun d (h : num .f32 d = guO R X Y x y L G k) => (leO_is (bd := bd) h).trans hl)
        clear hr he
        go_upto_region 8 with (fail)
        cases q
        · go_wp2_with (go_at_call 92; refine (T2.out _ (PP.out.keep (BW.out.trans (BA.out.mono BW.out.size)))).mono ?_; rintro x1 V2 ⟨d, rfl, hd, hq2⟩; have hle := HQL.out d hd; have HW2 := Lib.hid (BA.out.trans (hq2.mono BA.out.size)); have HV1 := Lib.hid (VA.out.below hq2 VA.out.lt); clear hq2 hd s0 s1 s2 s3 s4 c0 c1)
          go_roundw
          case rel => exact ⟨k + 1, g, cap, l, xs, by omega, by go_num, rfl, Lib.hid ⟨HL.out.1, by have := HL.out.2; omega⟩, Lib.hid (by rw [fitI, hl, if_neg (by decide), HX.out]), HV1, Lib.hid ⟨HW2.out, HB.out.2⟩⟩
          case measure => simp [intOf]; omega
        · go_wp2_with (first | (go_at_call 92; refine (T2.out _ (PP.out.keep (BW.out.trans (BA.out.mono BW.out.size)))).mono ?_; rintro x1 V2 ⟨d, rfl, hd, hq2⟩; have hle := HQL.out d hd; have HW2 := Lib.hid (BA.out.trans (hq2.mono BA.out.size)); have HV1 := Lib.hid (VA.out.below hq2 VA.out.lt); clear hq2 hd s0 s1 s2 s3 s4 c0 c1) | (refine wpList_appI (by kernel_rfl) _ _ rfl HV1.out HL.out.1 (by have := HL.out.2; omega) k rfl (by simp [go_sem]; done) ?_; intro g2 cap2 w2 h1 h2 h3; have H1 := Lib.hid h1; have H2 := Lib.hid h2; have H3 := Lib.hid h3; clear h1 h2 h3))
          go_roundw
          case rel =>
        have H9 := Lib.hid (HW2.out.trans (grown_below H2.out HB.out.2 HW2.out.size))
        refine ⟨k + 1, g2, cap2, l + 1, xs ++ [k], by omega, by go_num, rfl, Lib.hid ⟨by rw [List.length_append, HL.out.1]; rfl, by have := HL.out.2; omega⟩, Lib.hid (by rw [fitI, hl, if_pos rfl, HX.out]), H1, H9.out, ?_⟩
        have h3 := H3.out
        have h4 := HW2.out.size
        have h6 := HB.out.2
        rcases h3 with h3 | h3 <;> omega
          case measure => simp [intOf]; omega
      · obtain rfl : k = m := by omega
        go_wp2
        go_ret2
        exact RS.out g cap l xs wr HL.out.1 HX.out HV.out HB.out.1 HB.out.2
  · rw [show ftL G R X Y x y L bd (some i) = [] from rfl]
    obtain ⟨a, ha⟩ : ∃ a, erV s (some i) = .iface 192 (.pointer (some a)) := ⟨_, rfl⟩
    rw [ha] at T0 ⊢
    obtain ⟨m, hm⟩ : ∃ m, G.length = m := ⟨_, rfl⟩
    obtain ⟨n, hn⟩ : ∃ n, L.length = n := ⟨_, rfl⟩
    rw [hm] at hG T0 ⊢
    rw [hn] at hL T0 ⊢
    clear ha TM M20 hm hn
    simp only [Ste] at hW T0 ⊢
    go_enter Tryd.func70, Tryd.ntmps70
    go_upto_region 1 with (fail)
    try rw [hW]
    clear hW
    go_wp2_with (go_at_call 89; refine T0.mono ?_; rintro e V1 ⟨rfl, hq1⟩; have Q1 := Lib.hid hq1; clear hq1 s0 s1 s2 s3 s4)
    go_ret2
    exact ⟨none, 0, rfl, .inl ⟨rfl, rfl, rfl⟩, BW.out.trans (Q1.out.mono BW.out.size)⟩

theorem OwnI.below {w w' : World} {p : Option Addr} {cap B : Nat} {xs : List Nat} (h : OwnI w p cap xs B) (hb : Below w.heap.size w w') : OwnI w' p cap xs B := by
  rcases h with h | ⟨g, h1, h2, h3⟩
  · exact .inl h
  · exact .inr ⟨g, h1, h2.below hb h2.lt, h3⟩
theorem OwnI.lower {w : World} {p : Option Addr} {cap B B' : Nat} {xs : List Nat} (h : OwnI w p cap xs B) (hb : B' ≤ B) : OwnI w p cap xs B' := by
  rcases h with h | ⟨g, h1, h2, h3⟩
  · exact .inl h
  · exact .inr ⟨g, h1, h2, Nat.le_trans hb h3⟩
set_option maxRecDepth 100000 in
set_option maxHeartbeats 4000000 in
theorem implFW_any {s : Nat → Addr} (pg : Option Addr) (cg : Nat) (G : List A2) (hG : G.length ≤ 1048576) (X Y : Int) (R : Nat) (x y : Int) (p : Option Addr) (c : Nat) (L : List R2) (hL : L.length ≤ 1048576) (hX : -128 ≤ X ∧ X ≤ 127) (hY : -128 ≤ Y ∧ Y ≤ 127) (hx : -128 ≤ x ∧ x ≤ 127) (hy : -128 ≤ y ∧ y ≤ 127) (bd : Nat) (hok : ∀ a ∈ G, okA a) (w : World) (hg : AsAt w pg G) (hp : RsAt w p L) (hS : Sents w s) :
    Calls Tryd.prog 37 #[.slice pg G.length cg, .agg (Ste X Y R x y), .slice p L.length c, .float .f32 bd] w fun e w' => ∃ p' cap, e = .returned (.tuple #[.slice p' (ftL G R X Y x y L bd (gueK (gueB G X Y R x y L) G.length)).length cap, .int .i64 (codeE (gueK (gueB G X Y R x y L) G.length))]) ∧ OwnI w' p' cap (ftL G R X Y x y L bd (gueK (gueB G X Y R x y L) G.length)) w.heap.size ∧ Below w.heap.size w w' := by
  obtain ⟨W, hW, B0, LD⟩ := one_row X Y R x y w
  have T1 := fitsI_any (s := s) pg cg G hG X Y R x y p c L hL hX hY hx hy bd hok W (hg.keep B0) (hp.keep B0) (hS.keep B0)
  have BW := Lib.hid B0
  have HS := Lib.hid hS
  obtain ⟨s0, s1, s2, s3, s4⟩ := LD W (Below.refl _ _)
  obtain ⟨k, hk⟩ : ∃ k, gueK (gueB G X Y R x y L) G.length = k := ⟨_, rfl⟩
  have HK := Lib.hid (show ∀ i, k = some i → i < 5 by rw [← hk]; exact gueK_lt)
  rw [hk] at T1 ⊢
  obtain ⟨xs, hxs⟩ : ∃ xs, ftL G R X Y x y L bd k = xs := ⟨_, rfl⟩
  rw [hxs] at T1 ⊢
  obtain ⟨l, hl⟩ : ∃ l, xs.length = l := ⟨_, rfl⟩
  rw [hl] at T1 ⊢
  obtain ⟨m, hm⟩ : ∃ m, G.length = m := ⟨_, rfl⟩
  obtain ⟨n, hn⟩ : ∃ n, L.length = n := ⟨_, rfl⟩
  rw [hm, hn] at T1 ⊢
  rw [hm] at hG
  rw [hn] at hL
  clear hg hp B0 LD hok hk hm hn hS hxs hl
  simp only [Ste] at T1 hW ⊢
  go_enter Tryd.func37, Tryd.ntmps37
  go_upto_region 1 with (fail)
  try rw [hW]
  clear hW
  go_wp2_with (first | (go_at_call 70; refine T1.mono ?_; rintro e V1 ⟨p', cap, rfl, ho, hq1⟩; have Q1 := Lib.hid (BW.out.trans (hq1.mono BW.out.size)); have HO := Lib.hid ho; clear hq1 ho T1) | (go_at_call 51; refine (codeOf_any k HK.out _ (HS.out.keep Q1.out)).mono ?_; rintro e V2 ⟨rfl, hV⟩; rw [hV]; clear hV))
  go_ret2
  exact ⟨p', cap, rfl, HO.out.lower BW.out.size, Q1.out⟩
end Go.Proofs.YthacifhphoaioaaDoor
