/- Offices and permits whose copies a law writes over. Condition: at most 2^20 watches, 2^20 permits. -/
import Derived.Test.YtaghnminpfgdcaaGreatDoorMkp
import Derived.Test.YtaghnminpfgdcaaGreatDoorOfV
namespace Go.Proofs.YtaghnminpfgdcaaGreatDoor
open Go Go.RowKit Go.Shelf Ieee
set_option linter.unusedSimpArgs false
set_option linter.unusedVariables false
attribute [local go_sem] Oper.semAt_some run_store_float

theorem set1_th {w wr : World} {b n k : Nat} (u : Value) (h : wr.there b 0 n ∧ (Below b w wr ∧ wr.heap.size = w.heap.size) ∧ ∀ x, x ≠ b → wr.heap[x]? = w.heap[x]?) :
    (wr.setCell ⟨b, k, none⟩ u).there b 0 n ∧ (Below b w (wr.setCell ⟨b, k, none⟩ u) ∧ (wr.setCell ⟨b, k, none⟩ u).heap.size = w.heap.size) ∧ ∀ x, x ≠ b → (wr.setCell ⟨b, k, none⟩ u).heap[x]? = w.heap[x]? :=
  ⟨there_setCell h.1, ⟨h.2.1.1.setCell (Nat.le_refl _) _, (size_setCellsW b [u] k wr).trans h.2.1.2⟩, fun x hx => (heap_setCellsP (o := k) [u] hx).trans (h.2.2 x hx)⟩
set_option maxRecDepth 100000 in
set_option maxHeartbeats 4000000 in
theorem markWatchS_th (b n c k0 : Nat) (hn : n ≤ 1048576) (hk : k0 ≤ 4194304) (w : World) (ht : w.there b 0 (n * 2)) :
    Calls Tryz.prog 59 #[.slice (some ⟨b, 0, none⟩) n c, .int .i64 (k0 : Int)] w fun e w' => e = .returned (.int .i64 ((k0 + 2 * n : Nat) : Int)) ∧ Below b w w' ∧ w'.heap.size = w.heap.size ∧ ∀ x, x ≠ b → w'.heap[x]? = w.heap[x]? := by
  have T0 := Lib.hid ht
  clear ht
  go_enter Tryz.func59, Tryz.ntmps59
  go_wp2
  go_loopw [5, 1] (fun i kk wr => ∃ k : Nat, k ≤ n ∧ i = .int .i64 k ∧ kk = .int .i64 ((k0 + 2 * k : Nat) : Int) ∧ Hid (wr.there b 0 (n * 2) ∧ (Below b w wr ∧ wr.heap.size = w.heap.size) ∧ ∀ x, x ≠ b → wr.heap[x]? = w.heap[x]?)) (fun i _ _ => n - (intOf i).toNat)
  case atStart => exact ⟨0, by omega, rfl, rfl, Lib.hid ⟨T0.out, ⟨Below.refl _ _, rfl⟩, fun _ _ => rfl⟩⟩
  case round =>
    obtain ⟨k, hk, rfl, rfl, hT⟩ := hrel
    by_cases hlt : k < n
    · have hki : (k : Int) < n := by omega
      obtain ⟨u0, hu0⟩ := Option.isSome_iff_exists.1 (hT.out.1 (k * 2) (by omega)).1
      have f0 := (hT.out.1 (k * 2) (by omega)).2
      obtain ⟨u1, hu1⟩ := Option.isSome_iff_exists.1 (hT.out.1 (k * 2 + 1) (by omega)).1
      have f1 := (hT.out.1 (k * 2 + 1) (by omega)).2
      simp only [Nat.zero_add] at hu0 f0 hu1 f1
      go_wp2
      go_roundw
      case rel => exact ⟨k + 1, by omega, by go_num, by go_num, Lib.hid (set1_th _ (set1_th _ (hT.out)))⟩
      case measure => simp [intOf]; omega
    · obtain rfl : k = n := by omega
      go_wp2
      go_ret
      exact ⟨rfl, hT.out.2.1.1, hT.out.2.1.2, hT.out.2.2⟩
set_option maxRecDepth 100000 in
set_option maxHeartbeats 4000000 in
theorem markPermitS_th (b n c k0 : Nat) (hn : n ≤ 1048576) (hk : k0 ≤ 4194304) (w : World) (ht : w.there b 0 (n * 3)) :
    Calls Tryz.prog 25 #[.slice (some ⟨b, 0, none⟩) n c, .int .i64 (k0 : Int)] w fun e w' => e = .returned (.int .i64 ((k0 + 3 * n : Nat) : Int)) ∧ Below b w w' ∧ w'.heap.size = w.heap.size ∧ ∀ x, x ≠ b → w'.heap[x]? = w.heap[x]? := by
  have T0 := Lib.hid ht
  clear ht
  go_enter Tryz.func25, Tryz.ntmps25
  go_wp2
  go_loopw [5, 1] (fun i kk wr => ∃ k : Nat, k ≤ n ∧ i = .int .i64 k ∧ kk = .int .i64 ((k0 + 3 * k : Nat) : Int) ∧ Hid (wr.there b 0 (n * 3) ∧ (Below b w wr ∧ wr.heap.size = w.heap.size) ∧ ∀ x, x ≠ b → wr.heap[x]? = w.heap[x]?)) (fun i _ _ => n - (intOf i).toNat)
  case atStart => exact ⟨0, by omega, rfl, rfl, Lib.hid ⟨T0.out, ⟨Below.refl _ _, rfl⟩, fun _ _ => rfl⟩⟩
  case round =>
    obtain ⟨k, hk, rfl, rfl, hT⟩ := hrel
    by_cases hlt : k < n
    · have hki : (k : Int) < n := by omega
      obtain ⟨u0, hu0⟩ := Option.isSome_iff_exists.1 (hT.out.1 (k * 3) (by omega)).1
      have f0 := (hT.out.1 (k * 3) (by omega)).2
      obtain ⟨u1, hu1⟩ := Option.isSome_iff_exists.1 (hT.out.1 (k * 3 + 1) (by omega)).1
      have f1 := (hT.out.1 (k * 3 + 1) (by omega)).2
      obtain ⟨u2, hu2⟩ := Option.isSome_iff_exists.1 (hT.out.1 (k * 3 + 2) (by omega)).1
      have f2 := (hT.out.1 (k * 3 + 2) (by omega)).2
      simp only [Nat.zero_add] at hu0 f0 hu1 f1 hu2 f2
      go_wp2
      go_roundw
      case rel => exact ⟨k + 1, by omega, by go_num, by go_num, Lib.hid (set1_th _ (set1_th _ (set1_th _ (hT.out))))⟩
      case measure => simp [intOf]; omega
    · obtain rfl : k = n := by omega
      go_wp2
      go_ret
      exact ⟨rfl, hT.out.2.1.1, hT.out.2.1.2, hT.out.2.2⟩
set_option maxRecDepth 100000 in
set_option maxHeartbeats 4000000 in
theorem toWatchS_th (p : Option Addr) (c : Nat) (L : List T2) (hL : L.length ≤ 1048576) (w : World) (hp : TsAt w p L) :
    Calls Tryz.prog 51 #[.slice p L.length c] w fun e w' => ∃ b, e = .returned (.slice (some ⟨b, 0, none⟩) L.length L.length) ∧ w.heap.size ≤ b ∧ b < w'.heap.size ∧ TsAt w' (some ⟨b, 0, none⟩) L ∧ w'.there b 0 (L.length * 2) ∧ Below w.heap.size w w' := by
  have P0 := Lib.hid hp
  obtain ⟨n, hn⟩ : ∃ n, L.length = n := ⟨_, rfl⟩
  have HN := Lib.hid hn
  rw [hn] at hL ⊢
  obtain ⟨C, hC, hmk⟩ := makeTs n hL
  clear hp hn
  go_enter Tryz.func51, Tryz.ntmps51
  go_wp2
  go_loopw [4] (fun i wr => ∃ k : Nat, k ≤ n ∧ i = .int .i64 k ∧ Hid (wr.there w.heap.size 0 (n * 2)) ∧ Hid (w.heap.size < wr.heap.size) ∧ Hid (∀ j e, j < k → L[j]? = some e → wr.rangeAt w.heap.size (0 + j * 2) (t2 e)) ∧ Hid (Below w.heap.size w wr)) (fun i _ => n - (intOf i).toNat)
  case atStart =>
    exact ⟨0, by omega, rfl, Lib.hid (there_row (heap_alloc_last w _) hC), Lib.hid (by simp), Lib.hid (fun j _ hj => absurd hj (by omega)), Lib.hid ((Below.refl _ _).alloc (Nat.le_refl _) _)⟩
  case round =>
    obtain ⟨k, hk, rfl, hT, hS, hA, hB⟩ := hrel
    by_cases hlt : k < n
    · have hki : (k : Int) < n := by omega
      obtain ⟨e, he⟩ : ∃ e, L[k]? = some e := ⟨_, List.getElem?_eq_getElem (by rw [HN.out]; exact hlt)⟩
      obtain ⟨b, o, rfl, hr⟩ := (P0.out.keep hB.out) k e he
      have R1 := Lib.hid hr
      have HE := Lib.hid he
      have T0 := fun V => toWatch_any e.1 e.2 V
      have c0 : wr.cell? ⟨b, o + k * 2, none⟩ = some (.int .i8 e.1) := hr 0 _ rfl
      have c1 : wr.cell? ⟨b, o + k * 2 + 1, none⟩ = some (.float .f32 e.2) := hr 1 _ rfl
      simp only [Wt] at T0
      clear hr he
      go_wp2_with (first | (go_at_call 85; refine (T0 _).mono ?_; rintro x V1 ⟨rfl, hq1⟩; have Q1 := Lib.hid hq1; have TH := Lib.hid (there_keep hT.out hS.out hq1); clear hq1 c0 c1) | (refine wpList_store_mid rfl 94 _ _ rfl w.heap.size (k * 2) #[.int .i8 e.1, .float .f32 e.2] rfl rfl (there_part TH.out (show k * 2 + 2 ≤ n * 2 by omega)) (by kernel_rfl) (wt_one e) ?_; obtain ⟨V2, hV2⟩ : ∃ V2, V1.setCells w.heap.size (k * 2) [.int .i8 e.1, .float .f32 e.2] = V2 := ⟨_, rfl⟩; try rw [hV2]; have HV := Lib.hid hV2; clear hV2))
      have HC := copiedT hlt hS.out hA.out hB.out HE.out Q1.out TH.out HV.out
      go_roundw
      case rel => exact ⟨k + 1, by omega, by go_num, Lib.hid HC.1, Lib.hid HC.2.1, Lib.hid HC.2.2.1, Lib.hid HC.2.2.2⟩
      case measure => simp [intOf]; omega
    · obtain rfl : k = n := by omega
      go_wp2
      go_ret
      exact ⟨_, rfl, Nat.le_refl _, hS.out, fun i e he => ⟨_, _, rfl, hA.out i e (by rw [← HN.out]; exact (List.getElem?_eq_some_iff.1 he).1) he⟩, by (try rw [HN.out]); exact hT.out, hB.out⟩
set_option maxRecDepth 100000 in
set_option maxHeartbeats 4000000 in
theorem toPermitS_th (p : Option Addr) (c : Nat) (L : List P3) (hL : L.length ≤ 1048576) (w : World) (hp : PsAt w p L) :
    Calls Tryz.prog 16 #[.slice p L.length c] w fun e w' => ∃ b, e = .returned (.slice (some ⟨b, 0, none⟩) L.length L.length) ∧ w.heap.size ≤ b ∧ b < w'.heap.size ∧ PsAt w' (some ⟨b, 0, none⟩) L ∧ w'.there b 0 (L.length * 3) ∧ Below w.heap.size w w' := by
  have P0 := Lib.hid hp
  obtain ⟨n, hn⟩ : ∃ n, L.length = n := ⟨_, rfl⟩
  have HN := Lib.hid hn
  rw [hn] at hL ⊢
  obtain ⟨C, hC, hmk⟩ := makePs n hL
  clear hp hn
  go_enter Tryz.func16, Tryz.ntmps16
  go_wp2
  go_loopw [4] (fun i wr => ∃ k : Nat, k ≤ n ∧ i = .int .i64 k ∧ Hid (wr.there w.heap.size 0 (n * 3)) ∧ Hid (w.heap.size < wr.heap.size) ∧ Hid (∀ j e, j < k → L[j]? = some e → wr.rangeAt w.heap.size (0 + j * 3) (p3 e)) ∧ Hid (Below w.heap.size w wr)) (fun i _ => n - (intOf i).toNat)
  case atStart =>
    exact ⟨0, by omega, rfl, Lib.hid (there_row (heap_alloc_last w _) hC), Lib.hid (by simp), Lib.hid (fun j _ hj => absurd hj (by omega)), Lib.hid ((Below.refl _ _).alloc (Nat.le_refl _) _)⟩
  case round =>
    obtain ⟨k, hk, rfl, hT, hS, hA, hB⟩ := hrel
    by_cases hlt : k < n
    · have hki : (k : Int) < n := by omega
      obtain ⟨e, he⟩ : ∃ e, L[k]? = some e := ⟨_, List.getElem?_eq_getElem (by rw [HN.out]; exact hlt)⟩
      obtain ⟨b, o, rfl, hr⟩ := (P0.out.keep hB.out) k e he
      have R1 := Lib.hid hr
      have HE := Lib.hid he
      have T0 := fun V => toPermit_any e.1 e.2.1 e.2.2 V
      have c0 : wr.cell? ⟨b, o + k * 3, none⟩ = some (.int .i8 e.1) := hr 0 _ rfl
      have c1 : wr.cell? ⟨b, o + k * 3 + 1, none⟩ = some (.int .i8 e.2.1) := hr 1 _ rfl
      have c2 : wr.cell? ⟨b, o + k * 3 + 2, none⟩ = some (.int .i16 e.2.2) := hr 2 _ rfl
      simp only [Pm] at T0
      clear hr he
      go_wp2_with (first | (go_at_call 52; refine (T0 _).mono ?_; rintro x V1 ⟨rfl, hq1⟩; have Q1 := Lib.hid hq1; have TH := Lib.hid (there_keep hT.out hS.out hq1); clear hq1 c0 c1 c2) | (refine wpList_store_mid rfl 82 _ _ rfl w.heap.size (k * 3) #[.int .i8 e.1, .int .i8 e.2.1, .int .i16 e.2.2] rfl rfl (there_part TH.out (show k * 3 + 3 ≤ n * 3 by omega)) (by kernel_rfl) (pm_one e) ?_; obtain ⟨V2, hV2⟩ : ∃ V2, V1.setCells w.heap.size (k * 3) [.int .i8 e.1, .int .i8 e.2.1, .int .i16 e.2.2] = V2 := ⟨_, rfl⟩; try rw [hV2]; have HV := Lib.hid hV2; clear hV2))
      have HC := copiedP hlt hS.out hA.out hB.out HE.out Q1.out TH.out HV.out
      go_roundw
      case rel => exact ⟨k + 1, by omega, by go_num, Lib.hid HC.1, Lib.hid HC.2.1, Lib.hid HC.2.2.1, Lib.hid HC.2.2.2⟩
      case measure => simp [intOf]; omega
    · obtain rfl : k = n := by omega
      go_wp2
      go_ret
      exact ⟨_, rfl, Nat.le_refl _, hS.out, fun i e he => ⟨_, _, rfl, hA.out i e (by rw [← HN.out]; exact (List.getElem?_eq_some_iff.1 he).1) he⟩, hT.out, hB.out⟩
set_option maxRecDepth 100000 in
set_option maxHeartbeats 4000000 in
theorem toOffice_th (G : Gd) (p : Option Addr) (c : Nat) (L : List T2) (hL : L.length ≤ 1048576) (w : World) (hp : TsAt w p L) :
    Calls Tryz.prog 15 #[.agg (OfA ⟨G, p, L.length, c⟩)] w fun e w' => ∃ b, e = .returned (.agg (OfA ⟨G, some ⟨b, 0, none⟩, L.length, L.length⟩)) ∧ w.heap.size ≤ b ∧ b < w'.heap.size ∧ TsAt w' (some ⟨b, 0, none⟩) L ∧ w'.there b 0 (L.length * 2) ∧ Below w.heap.size w w' := by
  have hz := (zero_of_info zeroOffice).1
  have TW := Lib.hid (fun V (h : TsAt V p L) => toWatchS_th p c L hL V h)
  have HP := Lib.hid hp
  obtain ⟨n, hn⟩ : ∃ n, L.length = n := ⟨_, rfl⟩
  rw [hn] at TW ⊢
  obtain ⟨B, hBe⟩ : ∃ B : Ofc, (⟨G, p, n, c⟩ : Ofc) = B := ⟨_, rfl⟩
  rw [hBe]
  clear hp hn hL
  go_enter Tryz.func15, Tryz.ntmps15
  go_upto_region 2 with (fail)
  clear hz
  obtain ⟨W, hW, hs, b1, b2, b3, hB⟩ := obox3 B zO zO 30 41 41 w
  rw [hW]
  clear hW
  have n1 : w.heap.size < W.heap.size := by omega
  have n2 : w.heap.size + 1 < W.heap.size := by omega
  have n3 : w.heap.size + 1 + 1 < W.heap.size := by omega
  clear hs
  have r1 : W.rangeAt w.heap.size 0 (GrdL G) := by have := b1.grd.range; rwa [← hBe] at this
  go_upto_region 3 with (first | (refine wpList_load_mid rfl 27 _ rfl (w.heap.size) 0 rfl (GrdL G) _ r1 Tryz.underlying27 rfl (by rw [GrdL_length]; exact infoLGround) ?_) | (go_at_call 50; refine (toGround_any G _).mono ?_; rintro e V1 ⟨rfl, hb1⟩; have t1 := there_lessO (m := 195) (b3.below hb1 n3).there (by omega)) | (refine wpList_store_mid rfl 36 _ _ rfl _ 0 (Grd G) rfl rfl (by rw [Grd_size]; exact t1) (by rw [Grd_size]; exact infoGround) (Grd_one G) ?_))
  obtain ⟨W1, hW1⟩ : ∃ W, V1.setCells (w.heap.size + 1 + 1) 0 (Grd G).toList = W := ⟨_, rfl⟩
  have c1 : OfBox W1 w.heap.size B := by rw [← hW1]; exact (b1.below hb1 n1).fars (by omega)
  have c2 : OfBox W1 (w.heap.size + 1) zO := by rw [← hW1]; exact (b2.below hb1 n2).fars (by omega)
  have c3 : OfBox W1 (w.heap.size + 1 + 1) { zO with G := G } := by rw [← hW1]; exact (b3.below hb1 n3).storeGr
  have cB : Below w.heap.size w W1 := by rw [← hW1]; exact below_setCells _ (by omega) _ _ _ (hB.trans (hb1.mono (by omega)))
  rw [hW1]
  clear hW1 r1 b1 b2 b3 hB n1 n2 n3 hb1 t1
  have s1 : W1.cell? ⟨w.heap.size, 195, none⟩ = some (.slice p n c) := by have := c1.s; rwa [← hBe] at this
  clear hBe
  have m1 := c1.lt
  have m2 := c2.lt
  have m3 := c3.lt
  go_upto_region 4 with (go_at_call 51; refine (TW.out _ (HP.out.keep cB)).mono ?_; rintro e V2 ⟨b, rfl, hb1, hb2, ht, hth, hq⟩; have d2 := c2.below hq m2; have d3 := c3.below hq m3; have dB := cB.trans (hq.mono cB.size); have HT := Lib.hid ht; have HTH := Lib.hid hth; obtain ⟨u, hu⟩ := Option.isSome_iff_exists.1 (d3.at_some 195 (by omega)); have f4 := d3.free 195 (by omega); have n2 := Lib.hid d2.lt; have hb1' := Lib.hid (Nat.le_trans cB.size hb1); have hb9 := Lib.hid hb1; clear s1 c1 c2 c3 hq ht hth m1 hb1 TW)
  obtain ⟨W4, hW4⟩ : ∃ X, V2.setCell ⟨w.heap.size + 1 + 1, 195, none⟩ (.slice (some ⟨b, 0, none⟩) n n) = X := ⟨_, rfl⟩
  have c2 : OfBox W4 (w.heap.size + 1) zO := by rw [← hW4]; exact d2.far (by omega)
  have c3 : OfBox W4 (w.heap.size + 1 + 1) ⟨G, some ⟨b, 0, none⟩, n, n⟩ := by rw [← hW4]; exact d3.putS
  have cB4 : Below w.heap.size w W4 := by rw [← hW4]; exact dB.setCell (p := ⟨w.heap.size + 1 + 1, 195, none⟩) (by simp; omega) _
  have hbz : w.heap.size + 1 + 1 < b := by have := hb9.out; omega
  have ht4 : TsAt W4 (some ⟨b, 0, none⟩) L := by
    rw [← hW4]
    intro i e he
    obtain ⟨b', o', hbo, hr⟩ := HT.out i e he
    cases hbo
    exact ⟨_, _, rfl, range_setCell_far hr (.inl (by omega))⟩
  have hth4 := Lib.hid (show W4.there b 0 (n * 2) by rw [← hW4]; exact there_setCell HTH.out)
  have hz4 : b < W4.heap.size := by rw [← hW4]; simpa using hb2
  rw [hW4]
  clear hW4 hu f4 d2 d3 dB cB
  have r5 := c3.range
  have t5 := c2.there
  have HT4 := Lib.hid ht4
  have HZ4 := Lib.hid hz4
  clear ht4 hz4 HT
  go_wp2_with (first | (refine wpList_load_mid rfl 41 _ rfl (w.heap.size + 1 + 1) 0 rfl (OfL ⟨G, some ⟨b, 0, none⟩, n, n⟩) _ r5 Tryz.underlying41 rfl (by rw [OfL_length]; exact infoOffice) ?_) | (refine wpList_store_mid rfl 41 _ _ rfl _ 0 (OfA ⟨G, some ⟨b, 0, none⟩, n, n⟩) rfl rfl (by rw [OfA_size]; exact t5) (by rw [OfA_size]; exact infoOffice) (OfA_one _) ?_))
  refine bodyPost_ret (results_cell_mid rfl _ _ _ 0 (OfA ⟨G, some ⟨b, 0, none⟩, n, n⟩).toList _ rfl c2.store.range Tryz.underlying41 rfl (by rw [OfA_toList, OfL_length]; exact infoOffice)) rfl ⟨b, by rw [Array.toArray_toList], hb1'.out, by rw [size_setCells]; exact HZ4.out, ?_, World.there_setCells hth4.out _ _ _, below_setCells _ (by omega) _ _ _ cB4⟩
  intro i e he
  obtain ⟨b', o', hbo, hr⟩ := HT4.out i e he
  cases hbo
  exact ⟨_, _, rfl, World.rangeAt_setCells_apart hr _ _ _ (.inl (by omega))⟩
set_option maxRecDepth 100000 in
set_option maxHeartbeats 4000000 in
theorem markOffice_th (G : Gd) (b m cw k0 : Nat) (hm : m ≤ 1048576) (hk : k0 ≤ 4194304) (w : World) (ht : w.there b 0 (m * 2)) (hb : b < w.heap.size) :
    Calls Tryz.prog 24 #[.agg (OfA ⟨G, some ⟨b, 0, none⟩, m, cw⟩), .int .i64 (k0 : Int)] w fun e w' => e = .returned (.int .i64 ((k0 + 2 * m : Nat) : Int)) ∧ Below b w w' ∧ w.heap.size ≤ w'.heap.size ∧ ∀ x, x ≠ b → x < w.heap.size → w'.heap[x]? = w.heap[x]? := by
  obtain ⟨W, hW, hs, b1, hB⟩ := obox1 ⟨G, some ⟨b, 0, none⟩, m, cw⟩ 41 w
  have T := Lib.hid (markWatchS_th b m cw k0 hm hk W (there_below ht hB hb))
  have s0 : W.cell? ⟨w.heap.size, 195, none⟩ = some (.slice (some ⟨b, 0, none⟩) m cw) := b1.s
  have HB := Lib.hid hB
  obtain ⟨K, hK⟩ : ∃ K : Nat, k0 + 2 * m = K := ⟨_, rfl⟩
  rw [hK] at T ⊢
  obtain ⟨A, hA⟩ : ∃ A, OfA ⟨G, some ⟨b, 0, none⟩, m, cw⟩ = A := ⟨_, rfl⟩
  rw [hA] at hW ⊢
  clear b1 hB ht hA hK
  go_enter Tryz.func24, Tryz.ntmps24
  go_upto_region 1 with (fail)
  try rw [hW]
  clear hW
  go_wp2_with (go_at_call 59; refine T.out.mono ?_; rintro e V ⟨rfl, h1, h2, h3⟩; have H1 := Lib.hid h1; have H3 := Lib.hid h3; clear h1 h3)
  go_ret
  refine ⟨rfl, (HB.out.mono (Nat.le_of_lt hb)).trans H1.out, by omega, fun x hx hl => (H3.out x hx).trans (HB.out.block x hl)⟩
end Go.Proofs.YtaghnminpfgdcaaGreatDoor
