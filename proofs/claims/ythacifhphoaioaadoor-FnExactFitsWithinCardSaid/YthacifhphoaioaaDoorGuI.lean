/- The best guess, the program's. Condition: the sentinels lie where they are laid. -/
import Derived.Test.YthacifhphoaioaaDoorGuR
namespace Go.Proofs.YthacifhphoaioaaDoor
open Go Go.RowKit Ieee
set_option linter.unusedSimpArgs false
set_option linter.unusedVariables false
attribute [local go_sem] run_store_f32

/-- A site and a list lie in two blocks. -/
def SlAt (R : Nat) (X Y x y : Int) (p : Option Addr) (n c : Nat) (bs bl : Nat) (V : World) : Prop := V.cell? ⟨bs, 0, none⟩ = some (.int .i8 X) ∧ V.cell? ⟨bs, 1, none⟩ = some (.int .i8 Y) ∧ V.cell? ⟨bs, 2, none⟩ = some (.float .f32 R) ∧ V.cell? ⟨bs, 3, none⟩ = some (.int .i8 x) ∧ V.cell? ⟨bs, 4, none⟩ = some (.int .i8 y) ∧ V.cell? ⟨bl, 0, none⟩ = some (.slice p n c)
theorem SlAt.keep {R : Nat} {X Y x y : Int} {p : Option Addr} {m c : Nat} {bs bl n : Nat} {V V' : World} (h : SlAt R X Y x y p m c bs bl V) (hb : Below n V V') (h1 : bs < n) (h2 : bl < n) : SlAt R X Y x y p m c bs bl V' := by
  obtain ⟨c0, c1, c2, c3, c4, c5⟩ := h
  exact ⟨(hb.cell (p := ⟨bs, 0, none⟩) h1).trans c0, (hb.cell (p := ⟨bs, 1, none⟩) h1).trans c1, (hb.cell (p := ⟨bs, 2, none⟩) h1).trans c2, (hb.cell (p := ⟨bs, 3, none⟩) h1).trans c3, (hb.cell (p := ⟨bs, 4, none⟩) h1).trans c4, (hb.cell (p := ⟨bl, 0, none⟩) h2).trans c5⟩
theorem sl_row (X Y : Int) (R : Nat) (x y : Int) (p : Option Addr) (n c : Nat) (w : World) : ∃ W, (w.alloc (.cells (Ste X Y R x y) 38) |>.alloc (.cells #[.slice p n c] 31)) = W ∧ W.heap.size = w.heap.size + 1 + 1 ∧ Below w.heap.size w W ∧ SlAt R X Y x y p n c w.heap.size (w.heap.size + 1) W := by
  obtain ⟨z, b0, b1, B0⟩ := laid2 w (.cells (Ste X Y R x y) 38) (.cells #[.slice p n c] 31)
  exact ⟨_, rfl, z, B0, cell_of_row _ _ 0 _ _ _ b0, cell_of_row _ _ 1 _ _ _ b0, cell_of_row _ _ 2 _ _ _ b0, cell_of_row _ _ 3 _ _ _ b0, cell_of_row _ _ 4 _ _ _ b0, cell_of_row _ _ 0 _ _ _ b1⟩

set_option maxRecDepth 100000 in
set_option maxHeartbeats 4000000 in
theorem best1_any (T S : Nat) (X Y : Int) (R : Nat) (x y : Int) (p : Option Addr) (c : Nat) (L : List R2) (hL : L.length ≤ 1048576) (hT : T < 4294967296) (hS : S < 4294967296) (hk : askB T S X Y R x y L = true) (bs bl : Nat) (w : World) (hA : SlAt R X Y x y p L.length c bs bl w) (h1 : bs < w.heap.size) (h2 : bl < w.heap.size) (hp : RsAt w p L) :
    Calls Tryd.prog 91 #[.agg (Aq T S), .pointer (some ⟨bs, 0, none⟩), .pointer (some ⟨bl, 0, none⟩)] w (GvB (mf T S R X Y x y L L.length) w) := by
  obtain ⟨p1, p2, p3, p4, p5, p6, p7⟩ := ask_parts hT hS hk
  have BA : Below w.heap.size w (w.alloc (.cells (Aq T S) 34)) := (Below.refl _ _).alloc (Nat.le_refl _) _
  have T1 := Lib.hid (fun V (hV : Below w.heap.size w V) => siteMisfit_any X Y R x y T S p c L hL p1 p2 p3 p4 p5 p6 (fun k e he => okRs_time p7 k e he) V (hp.keep hV))
  have hrow := heap_alloc_last w (.cells (Aq T S) 34)
  have c0 := cell_of_row _ _ 0 _ _ _ hrow
  have c1 := cell_of_row _ _ 1 _ _ _ hrow
  obtain ⟨s0, s1, s2, s3, s4, l0⟩ := hA.keep BA h1 h2
  have n1 : bs ≠ w.heap.size := by omega
  have n2 : bl ≠ w.heap.size := by omega
  have HB := Lib.hid BA
  obtain ⟨n, hn⟩ : ∃ n, L.length = n := ⟨_, rfl⟩
  obtain ⟨o, ho⟩ : ∃ o, mf T S R X Y x y L n = o := ⟨_, rfl⟩
  rw [hn] at T1 l0 hL ⊢
  rw [ho] at T1 ⊢
  clear BA hrow hA hp hn ho p1 p2 p3 p4 p5 p6 p7 hk
  simp only [Ste, Aq] at T1 HB c0 c1 s0 s1 s2 s3 s4 l0 ⊢
  go_enter Tryd.func91, Tryd.ntmps91
  go_wp2_with (go_at_call 92; refine (T1.out _ HB.out).mono ?_; rintro q1 V1 ⟨d, rfl, hd, hq1⟩; have HD := Lib.hid hd; have Q1 := Lib.hid (HB.out.trans (hq1.mono HB.out.size)); clear hd hq1)
  go_ret
  exact ⟨_, rfl, HD.out, Q1.out⟩

set_option maxRecDepth 100000 in
set_option maxHeartbeats 4000000 in
theorem bestI_any {s : Nat → Addr} (pg : Option Addr) (cg : Nat) (G : List A2) (hG : G.length ≤ 1048576) (X Y : Int) (R : Nat) (x y : Int) (p : Option Addr) (c : Nat) (L : List R2) (hL : L.length ≤ 1048576) (hX : -128 ≤ X ∧ X ≤ 127) (hY : -128 ≤ Y ∧ Y ≤ 127) (hx : -128 ≤ x ∧ x ≤ 127) (hy : -128 ≤ y ∧ y ≤ 127) (hok : ∀ a ∈ G, okA a) (w : World) (hg : AsAt w pg G) (hp : RsAt w p L) (hS : Sents w s) :
    Calls Tryd.prog 65 #[.slice pg G.length cg, .agg (Ste X Y R x y), .slice p L.length c] w fun e w' => ∃ r, e = .returned (.tuple #[.int .i64 (gueI (gueK (gueB G X Y R x y L) G.length) (flI (guO R X Y x y L G) G.length) : Nat), .float .f32 r, erV s (gueK (gueB G X Y R x y L) G.length)]) ∧ num .f32 r = gueO (gueK (gueB G X Y R x y L) G.length) (guO R X Y x y L G (flI (guO R X Y x y L G) G.length)) ∧ Below w.heap.size w w' := by
  obtain ⟨W, hW, zw, B0, SL⟩ := sl_row X Y R x y p L.length c w
  have BW := Lib.hid B0
  have T1 := checkGuesses_any (s := s) pg cg G hG X Y R x y p c L hL hX hY hx hy W (hp.keep B0) (hS.keep B0) (hg.keep B0)
  have T2 := Lib.hid (fun (hK : gueK (gueB G X Y R x y L) G.length = none) (V : World) (hV : Below W.heap.size W V) => flA_any pg cg G (gueK_none hK).2.1 hG w.heap.size (w.heap.size + 1) (guO R X Y x y L G) V ((hg.keep B0).keep hV) (fun j a ha w' hw' => by
    have hs := hV.size
    have hs2 := hw'.size
    have ho := hok a (List.mem_of_getElem? ha)
    rw [guO_at ha]
    exact best1_any a.1 a.2 X Y R x y p c L hL ho.1 ho.2 (gue_ask (gueK_none hK).1 ha) w.heap.size (w.heap.size + 1) w' ((SL.keep hV (by omega) (by omega)).keep hw' (by omega) (by omega)) (by omega) (by omega) (((hp.keep B0).keep hV).keep hw')))
  obtain ⟨s0, s1, s2, s3, s4, l0⟩ := SL
  obtain ⟨i0, hi0⟩ : ∃ i, flI (guO R X Y x y L G) G.length = i := ⟨_, rfl⟩
  rw [hi0] at T2 ⊢
  obtain ⟨o, ho⟩ : ∃ o, guO R X Y x y L G i0 = o := ⟨_, rfl⟩
  rw [ho] at T2 ⊢
  obtain ⟨k, hk⟩ : ∃ k, gueK (gueB G X Y R x y L) G.length = k := ⟨_, rfl⟩
  have hk5 : ∀ i, k = some i → i < 5 := by rw [← hk]; exact gueK_lt
  rw [hk] at T1 T2 ⊢
  obtain ⟨m, hm⟩ : ∃ m, G.length = m := ⟨_, rfl⟩
  obtain ⟨n, hn⟩ : ∃ n, L.length = n := ⟨_, rfl⟩
  rw [hm, hn] at T1 ⊢
  rw [hm] at T2
  rw [hm] at hG
  rw [hn] at hL hW l0
  clear hg hp B0 hok hi0 ho hk hm hn hS zw
  rcases k with _ | i
  · have T2N := Lib.hid (T2.out rfl)
    clear T2
    simp only [erV] at T1 ⊢
    simp only [Ste] at T1 hW ⊢
    go_enter Tryd.func65, Tryd.ntmps65
    go_upto_region 1 with (fail)
    try rw [hW]
    clear hW
    go_wp2_with (first | (go_at_call 89; refine T1.mono ?_; rintro e V1 ⟨rfl, hq1⟩; have Q1 := Lib.hid hq1; clear hq1 s0 s1 s2 s3 s4 l0) | (go_at_call 90; refine (T2N.out _ Q1.out).mono ?_; rintro e V2 ⟨r, rfl, hr, hq2⟩; have HR := Lib.hid hr; have Q2 := Lib.hid (Q1.out.trans (hq2.mono Q1.out.size)); clear hq2 hr))
    go_ret3
    exact ⟨r, rfl, HR.out, BW.out.trans (Q2.out.mono BW.out.size)⟩
  · have HE := Lib.hid (show gueI (some i) i0 = 0 from rfl)
    have hv : ∃ a, erV s (some i) = .iface 192 (.pointer (some a)) := ⟨_, rfl⟩
    obtain ⟨a, ha⟩ := hv
    rw [ha] at T1 ⊢
    clear ha hk5 T2
    simp only [Ste] at T1 hW ⊢
    go_enter Tryd.func65, Tryd.ntmps65
    go_upto_region 1 with (fail)
    try rw [hW]
    clear hW
    go_wp2_with (go_at_call 89; refine T1.mono ?_; rintro e V1 ⟨rfl, hq1⟩; have Q1 := Lib.hid hq1; clear hq1 s0 s1 s2 s3 s4 l0)
    go_ret3
    exact ⟨0, by rw [HE.out]; rfl, rfl, BW.out.trans (Q1.out.mono BW.out.size)⟩

set_option maxRecDepth 100000 in
set_option maxHeartbeats 4000000 in
theorem implBG_any {s : Nat → Addr} (pg : Option Addr) (cg : Nat) (G : List A2) (hG : G.length ≤ 1048576) (X Y : Int) (R : Nat) (x y : Int) (p : Option Addr) (c : Nat) (L : List R2) (hL : L.length ≤ 1048576) (hX : -128 ≤ X ∧ X ≤ 127) (hY : -128 ≤ Y ∧ Y ≤ 127) (hx : -128 ≤ x ∧ x ≤ 127) (hy : -128 ≤ y ∧ y ≤ 127) (hok : ∀ a ∈ G, okA a) (w : World) (hg : AsAt w pg G) (hp : RsAt w p L) (hS : Sents w s) :
    Calls Tryd.prog 31 #[.slice pg G.length cg, .agg (Ste X Y R x y), .slice p L.length c] w fun e w' => GuV G R X Y x y L e ∧ Below w.heap.size w w' := by
  obtain ⟨W, hW, B0, LD⟩ := one_row X Y R x y w
  have BW := Lib.hid B0
  have T1 := bestI_any (s := s) pg cg G hG X Y R x y p c L hL hX hY hx hy hok W (hg.keep B0) (hp.keep B0) (hS.keep B0)
  have HS := Lib.hid hS
  obtain ⟨s0, s1, s2, s3, s4⟩ := LD W (Below.refl _ _)
  unfold GuV
  obtain ⟨k, hk⟩ : ∃ k, gueK (gueB G X Y R x y L) G.length = k := ⟨_, rfl⟩
  have hk5 : ∀ i, k = some i → i < 5 := by rw [← hk]; exact gueK_lt
  have HK := Lib.hid hk5
  rw [hk] at T1 ⊢
  obtain ⟨i0, hi0⟩ : ∃ i, gueI k (flI (guO R X Y x y L G) G.length) = i := ⟨_, rfl⟩
  obtain ⟨o, ho⟩ : ∃ o, gueO k (guO R X Y x y L G (flI (guO R X Y x y L G) G.length)) = o := ⟨_, rfl⟩
  rw [hi0, ho] at T1 ⊢
  obtain ⟨m, hm⟩ : ∃ m, G.length = m := ⟨_, rfl⟩
  obtain ⟨n, hn⟩ : ∃ n, L.length = n := ⟨_, rfl⟩
  rw [hm, hn] at T1 ⊢
  rw [hm] at hG
  rw [hn] at hL
  clear hg hp B0 LD hok hi0 ho hk hm hn hS hk5
  simp only [Ste] at T1 hW ⊢
  go_enter Tryd.func31, Tryd.ntmps31
  go_upto_region 1 with (fail)
  try rw [hW]
  clear hW
  go_wp2_with (first | (go_at_call 65; refine T1.mono ?_; rintro e V1 ⟨r, rfl, hr, hq1⟩; have Q1 := Lib.hid (BW.out.trans (hq1.mono BW.out.size)); have HR := Lib.hid hr; clear hq1 hr T1) | (go_at_call 51; refine (codeOf_any k HK.out _ (HS.out.keep Q1.out)).mono ?_; rintro e V2 ⟨rfl, hV⟩; rw [hV]; clear hV))
  go_ret3
  exact ⟨⟨r, rfl, HR.out⟩, Q1.out⟩
end Go.Proofs.YthacifhphoaioaaDoor
