/- Levels with permits: the program's. Condition: the table of math/bits is laid. -/
import Derived.Test.YtaghnminpfgdcaaGreatDoorGwI
namespace Go.Proofs.YtaghnminpfgdcaaGreatDoor
open Go Go.RowKit Go.Shelf
attribute [local go_sem] Oper.semAt_some run_store_float
set_option linter.unusedSimpArgs false
set_option linter.unusedVariables false

set_option maxRecDepth 100000 in
set_option maxHeartbeats 2000000 in
theorem headOf_any (K : Gd) (q : Nat) (hq : q < 64) (l B : Nat) (w : World) (hB : GBox w B K) :
    Calls Tryz.prog 90 #[.pointer (some ⟨B, 0, none⟩), .agg (Wt (q : Int) l)] w fun e w' => e = .returned (.float .f32 (K.h q)) ∧ Below w.heap.size w w' := by
  obtain ⟨V, hV, hs, c0, c1, b2⟩ := wt_box (q : Int) l 94 w
  have hh := (hB.below b2 hB.lt).at'.h
  rw [Nat.zero_add] at hh
  have cK := Grd_fld hh q hq
  have HB := Lib.hid b2
  clear hB b2 hh c1 hs
  simp only [Wt]
  go_enter Tryz.func90, Tryz.ntmps90
  go_upto_region 1 with (fail)
  try rw [hV]
  clear hV
  refine wp_region_calm (ops' := regOf Tryz.f90 1) [0, 1, 2, 3, 4, 5, 6, 7] [] .fin (Quiet V) [(0, One (.pointer (some ⟨B, 0, none⟩))), (1, One (.pointer (some ⟨w.heap.size, 0, none⟩))), (2, One (.int .i8 (q : Int))), (3, One (.pointer (some ⟨B, 0, none⟩))), (4, One (.pointer (some ⟨B, 130, none⟩))), (5, One (.pointer (some ⟨B, 130 + q, none⟩))), (6, One (.float .f32 (K.h q))), (7, One (.float .f32 (K.h q)))] (by kernel_rfl) (by kernel_rfl) (by kernel_rfl) (by kernel_rfl) (by kernel_rfl) (by kernel_rfl) (by kernel_rfl) (by kernel_rfl) rfl ((Quiet.refl _).drewN 1) ?_
  refine calm_pure (some 5) (by kernel_rfl) (by kernel_rfl) (by kernel_rfl) (fun _ => by kernel_rfl) ?_
  refine calm_pure (some 6) (by kernel_rfl) (by kernel_rfl) (by kernel_rfl) (fun _ => by kernel_rfl) ?_
  refine calm_read (some 7) (by kernel_rfl) (by kernel_rfl) (by kernel_rfl) (fun w' hw' => load_cell (ty := 22) (x := .tmp 6) (b := w.heap.size) (o := 0) (by kernel_rfl) (by kernel_rfl) Tryz.underlying22 rfl (kq c0 w' hw')) ?_
  refine calm_pure (some 8) (by kernel_rfl) (by kernel_rfl) (by kernel_rfl) (fun _ => by kernel_rfl) ?_
  refine calm_pure (some 9) (by kernel_rfl) (by kernel_rfl) (by kernel_rfl) (fun _ => by kernel_rfl) ?_
  refine calm_pure (some 10) (by kernel_rfl) (by kernel_rfl) (by kernel_rfl) (fun _ => index_fld8 (x := .tmp 9) (y := .tmp 7) (o := 130) (by kernel_rfl) (by kernel_rfl) (by kernel_rfl) hq _) ?_
  refine calm_read (some 11) (by kernel_rfl) (by kernel_rfl) (by kernel_rfl) (fun w' hw' => load_cell (ty := 23) (x := .tmp 10) (b := B) (o := 130 + q) (by kernel_rfl) (by kernel_rfl) Tryz.underlying23 rfl (kq cK w' hw')) ?_
  refine calm_pure (some 4) (by kernel_rfl) (by kernel_rfl) (by kernel_rfl) (fun _ => by kernel_rfl) ?_
  refine calm_end fun w' hw' => plan_end (Clean.normal ?_)
  simp only [Act.put, List.setIfInBounds_toArray, List.set_cons_zero, List.set_cons_succ]
  have BW := Lib.hid (HB.out.trans (hw'.below _))
  clear c0 cK hw'
  go_wp2
  go_ret
  exact ⟨rfl, BW.out⟩
theorem makeFs (n : Nat) (hn : n ≤ 1048576) : ∃ C : Array Value, C.size = n ∧ ∀ w, (Instr.makeSlice 49 (.int .i64 (n : Int)) (.int .i64 (n : Int))).run Tryz.prog w = .ok (.slice (some ⟨w.heap.size, 0, none⟩) n n) (w.alloc (.cells C 23)) := by
  obtain ⟨i, hi, hz, hs, hb⟩ := info_parts (P := Tryz.prog) (e := 23) (z := .float .f32 0) (size := 1) (bytes := 4) (by kernel_rfl)
  refine ⟨madeCells (Value.cells (.float .f32 0)) (n * i.size), by rw [size_madeCells, hs, Nat.mul_one], fun w => ?_⟩
  have hr := run_make (P := Tryz.prog) w 49 23 i (.float .f32 0) Tryz.underlying49 hi hz .i64 .i64 n n (by omega) (by omega) (by rw [hb]; omega) (by omega)
  simp only [Int.toNat_natCast] at hr
  exact hr
/-- The heads of watches lie in a block. -/
def LvAt (V : World) (g : Nat) (Lw : List T2) (K : Gd) : Prop := ∀ (j : Nat) (e : T2), Lw[j]? = some e → V.cell? ⟨g, j, none⟩ = some (.float .f32 (K.h e.1.toNat))
/-- How levelsWith ends. -/
def LvP (m : Nat) (Lw : List T2) (R : Gd × Int) (w : World) (e : Ending) (w' : World) : Prop := Below w.heap.size w w' ∧
  ((R.2 = 0 ∧ ∃ g, e = .returned (.tuple #[.slice (some ⟨g, 0, none⟩) m m, .nilIface]) ∧ w.heap.size ≤ g ∧ g < w'.heap.size ∧ w'.there g 0 m ∧ LvAt w' g Lw R.1) ∨ (R.2 ≠ 0 ∧ e = .returned (.tuple #[.slice none 0 0, errG R.2])))
theorem lvls_put {wr V : World} {g k m : Nat} {Lw : List T2} {K : Gd} {e : T2} (hk : Lw[k]? = some e) (hm : Lw.length = m) (ht : wr.there g 0 m) (hA : ∀ (j : Nat) (e : T2), j < k → Lw[j]? = some e → wr.cell? ⟨g, j, none⟩ = some (.float .f32 (K.h e.1.toNat)))
    (hV : wr.setCell ⟨g, k, none⟩ (.float .f32 (K.h e.1.toNat)) = V) : V.there g 0 m ∧ ∀ (j : Nat) (e : T2), j < k + 1 → Lw[j]? = some e → V.cell? ⟨g, j, none⟩ = some (.float .f32 (K.h e.1.toNat)) := by
  have hkm : k < m := by rw [← hm]; exact (List.getElem?_eq_some_iff.1 hk).1
  have h0 := ht k hkm
  rw [Nat.zero_add] at h0
  subst hV
  refine ⟨?_, fun j e' hj he => ?_⟩
  · have := World.there_setCells ht g k [.float .f32 (K.h e.1.toNat)]
    exact this
  · by_cases e0 : j = k
    · subst e0
      rw [hk] at he
      cases he
      exact World.cell?_setCell_same' _ _ _ h0.1
    · exact (cell_other (fun h => by injection h; omega)).trans (hA j e' (by omega) he)

set_option maxRecDepth 100000 in
set_option maxHeartbeats 4000000 in
theorem levelsWith_any (G : Gd) (pw : Option Addr) (cw : Nat) (Lw : List T2) (hLw : Lw.length ≤ 1048576) (hOw : ∀ e ∈ Lw, okT2 e) (p : Option Addr) (c : Nat) (L : List P3) (hL : L.length ≤ 1048576) (hO : ∀ e ∈ L, okPQ e) (b0 : Nat) (w : World) (hb : OfBox w b0 ⟨G, pw, Lw.length, cw⟩) (hpw : TsAt w pw Lw) (hp : PsAt w p L) (hG : GdOk G) (hT : TabAt w) :
    Calls Tryz.prog 58 #[.pointer (some ⟨b0, 0, none⟩), .slice p L.length c] w (LvP Lw.length Lw (gwV G Lw L) w) := by
  have hz := (zero_of_info zeroGround).1
  have hmf : ∀ (fn : Fn) (first cap : Array Value) (w : World), (Instr.makeFunc fn first cap).run Tryz.prog w = .ok (.func fn first cap) w := fun _ _ _ _ => rfl
  have hbl := hb.lt
  have HGW := Lib.hid (groundWith_any G pw cw Lw hLw hOw p c L hL hO b0 w hb hpw hp hG hT)
  obtain ⟨R, hR⟩ : ∃ R, gwV G Lw L = R := ⟨_, rfl⟩
  have hmw : R.2 = 0 → prmB G Lw L = true := fun h => by
    rw [← hR] at h
    unfold gwV at h
    split at h
    · assumption
    · cases h
  have hgd : R.2 = 0 → R.1.wide = G.wide ∧ R.1.high = G.high := fun h => by
    have hp := hmw h
    obtain ⟨hv, _, hpm, _, _⟩ := prm_is hp
    have e : R = gwR L G := by rw [← hR]; simp [gwV, hp]
    rw [e] at h ⊢
    exact ((gwR_good L G hv hG hpm).1 h).2.2
  have hzg : R.2 ≠ 0 → R.1 = zG := fun h => by
    rw [← hR] at h ⊢
    unfold gwV at h ⊢
    split
    · rename_i hp
      rw [if_pos hp] at h
      obtain ⟨hv, _, hpm, _, _⟩ := prm_is hp
      exact (gwR_good L G hv hG hpm).2 h
    · rfl
  obtain ⟨m, hm⟩ : ∃ m, Lw.length = m := ⟨_, rfl⟩
  obtain ⟨n, hn⟩ : ∃ n, L.length = n := ⟨_, rfl⟩
  rw [hR, hn] at HGW
  rw [hm] at hb ⊢
  rw [hn, hR]
  have HM := Lib.hid hm
  have HB0 := Lib.hid hb
  have PW := Lib.hid hpw
  clear hR hpw hp hG hT hn hL hO hOw hLw hb
  by_cases h0 : R.2 = 0
  · obtain ⟨hv, _, _, hm6, hwt⟩ := prm_is (hmw h0)
    obtain ⟨K, y⟩ := R
    obtain rfl : y = 0 := h0
    have HE := Lib.hid (show Calls Tryz.prog 53 #[.pointer (some ⟨b0, 0, none⟩), .slice p n c] w fun e w' => e = .returned (.tuple #[.agg (Grd K), .nilIface]) ∧ Below w.heap.size w w' from HGW.out)
    have HWT := Lib.hid (show ∀ e ∈ Lw, ∃ q : Nat, e.1 = (q : Int) ∧ q < 64 from fun e he => by
      have := hwt e he
      simp only [wtB, Bool.and_eq_true] at this
      obtain ⟨q, h1, h2, _⟩ := inB_cast this.1
      exact ⟨q, h1, h2⟩)
    rw [hm] at hm6
    clear HGW hmw hgd hzg hv hwt hm
    go_enter Tryz.func58, Tryz.ntmps58
    go_upto_region 2 with (first | (go_at_call 53; refine HE.out.mono ?_; rintro e V ⟨rfl, hb⟩; have hnt := new_thereG 36 V) | (refine st_stage 36 rfl ?_; refine wpList_store_mid rfl 36 _ _ rfl _ 0 (Grd (K)) rfl rfl (by rw [Grd_size]; with_reducible exact hnt) (by rw [Grd_size]; exact infoGround) (Grd_one _) ?_))
    obtain ⟨X, hX, zX, gX, bX⟩ := stored_box K 36 V
    rw [hX]
    have BX0 := hb.trans (bX.mono hb.size)
    have X0 := Lib.hid (HB0.out.below BX0 hbl)
    have BX := Lib.hid BX0
    have XG := Lib.hid gX
    have hwB : w.heap.size ≤ V.heap.size := hb.size
    obtain ⟨B, hBB⟩ : ∃ B, V.heap.size = B := ⟨_, rfl⟩
    rw [hBB] at XG hwB zX ⊢
    have s1 := X0.out.s
    clear hX hb bX gX hnt BX0 hBB
    obtain ⟨C, hC, hmk⟩ := makeFs m (by omega)
    have hXB : B < X.heap.size := by omega
    clear zX
    go_upto_region 6 with (fail)
    obtain ⟨g, hg⟩ : ∃ g, X.heap.size = g := ⟨_, rfl⟩
    have hrowC := heap_alloc_last X (.cells C 23)
    have hBM : Below X.heap.size X (X.alloc (.cells C 23)) := (Below.refl _ _).alloc (Nat.le_refl _) _
    have hTH : (X.alloc (.cells C 23)).there g 0 m := by rw [← hg]; exact there_row hrowC hC
    have hgs : g < (X.alloc (.cells C 23)).heap.size := by rw [← hg]; simp
    have Y0 := Lib.hid (X0.out.below hBM X0.out.lt)
    have YG := Lib.hid (XG.out.below hBM XG.out.lt)
    have YB := Lib.hid (BX.out.trans (hBM.mono BX.out.size))
    obtain ⟨V2, hV2⟩ : ∃ V, X.alloc (.cells C 23) = V := ⟨_, rfl⟩
    have hgX : w.heap.size ≤ g := by omega
    have hBg : B < g := by omega
    simp only [hg]
    rw [hV2] at hTH hgs Y0 YG YB ⊢
    have s2 := Y0.out.s
    have TH := Lib.hid hTH
    clear hrowC hBM hV2 hg hC hmk s1 hTH X0 XG BX hXB
    go_wp2
    go_loopw [33] (fun i wr => ∃ k : Nat, k ≤ m ∧ i = .int .i64 k ∧ Hid (wr.there g 0 m ∧ g < wr.heap.size) ∧ Hid (∀ (j : Nat) (e : T2), j < k → Lw[j]? = some e → wr.cell? ⟨g, j, none⟩ = some (.float .f32 (K.h e.1.toNat))) ∧ Hid (GBox wr B K) ∧ Hid (Below w.heap.size w wr)) (fun i _ => m - (intOf i).toNat)
    case atStart => exact ⟨0, by omega, rfl, Lib.hid ⟨TH.out, hgs⟩, Lib.hid (fun j e h => absurd h (Nat.not_lt_zero _)), YG, YB⟩
    case round =>
      clear TH YG YB hgs s2 Y0
      obtain ⟨k, hk, rfl, hTg, hA, QG, QB⟩ := hrel
      by_cases hlt : k < m
      · have hki : (k : Int) < m := by omega
        obtain ⟨e, he⟩ : ∃ e, Lw[k]? = some e := ⟨_, List.getElem?_eq_getElem (by rw [HM.out]; exact hlt)⟩
        obtain ⟨b, o, rfl, hr⟩ := (PW.out.keep QB.out) k e he
        obtain ⟨q, hq, hq64⟩ := HWT.out e (List.mem_of_getElem? he)
        obtain ⟨x, l⟩ := e
        obtain rfl : x = (q : Int) := hq
        have c0 : wr.cell? ⟨b, o + k * 2, none⟩ = some (.int .i8 (q : Int)) := hr 0 _ rfl
        have c1 : wr.cell? ⟨b, o + k * 2 + 1, none⟩ = some (.float .f32 l) := hr 1 _ rfl
        obtain ⟨Vw, hVw, hsw, d0, d1, b2⟩ := wt_box (q : Int) l 94 wr
        have DG := Lib.hid (QG.out.below b2 QG.out.lt)
        have DB := Lib.hid (QB.out.trans (b2.mono QB.out.size))
        have DT := Lib.hid (there_keep hTg.out.1 hTg.out.2 b2)
        have DA := Lib.hid (show ∀ (j : Nat) (e : T2), j < k → Lw[j]? = some e → Vw.cell? ⟨g, j, none⟩ = some (.float .f32 (K.h e.1.toNat)) from fun j e h1 h2 => (b2.cell (p := ⟨g, j, none⟩) hTg.out.2).trans (hA.out j e h1 h2))
        have hgV : g < Vw.heap.size := by have := hTg.out.2; omega
        have HE2 := Lib.hid he
        clear he hr b2
        go_upto_region 9 with (fail)
        try rw [hVw]
        clear hVw c0 c1 hsw
        go_wp2_with (go_at_call 90; refine (headOf_any K q hq64 l B _ DG.out).mono ?_; rintro e V3 ⟨rfl, hb3⟩; have ET0 := there_keep DT.out hgV hb3; have ET := Lib.hid ET0; have EA := Lib.hid (show ∀ (j : Nat) (e : T2), j < k → Lw[j]? = some e → V3.cell? ⟨g, j, none⟩ = some (.float .f32 (K.h e.1.toNat)) from fun j e h1 h2 => (hb3.cell (p := ⟨g, j, none⟩) hgV).trans (DA.out j e h1 h2)); have EG := Lib.hid (DG.out.below hb3 DG.out.lt); have EB := Lib.hid (DB.out.trans (hb3.mono DB.out.size)); have hg3 : g < V3.heap.size := Nat.lt_of_lt_of_le hgV hb3.size; obtain ⟨hq1, hq2⟩ := ET0 k hlt; rw [Nat.zero_add] at hq1 hq2; obtain ⟨v0, hv0⟩ := Option.isSome_iff_exists.1 hq1; clear hb3 ET0 hq1)
        have HP := lvls_put HE2.out HM.out ET.out EA.out rfl
        have HP1 := Lib.hid HP.1
        have HP2 := Lib.hid HP.2
        have HP3 := Lib.hid (EG.out.far (b' := g) (k := k) (v := .float .f32 (K.h q)) (by omega))
        have HP4 := Lib.hid (EB.out.setCell (p := ⟨g, k, none⟩) hgX (.float .f32 (K.h q)))
        clear HP
        go_roundw
        case rel => exact ⟨k + 1, by omega, by go_num, Lib.hid ⟨HP1.out, by rw [World.size_setCell]; exact hg3⟩, Lib.hid HP2.out, Lib.hid HP3.out, Lib.hid HP4.out⟩
        case measure => simp [intOf]; omega
      · obtain rfl : m = k := by omega
        have HA := Lib.hid (show LvAt wr g Lw K from fun j e he => hA.out j e (by rw [← HM.out]; exact (List.getElem?_eq_some_iff.1 he).1) he)
        clear hA
        go_wp2
        go_ret2
        exact ⟨QB.out, .inl ⟨rfl, g, rfl, hgX, hTg.out.2, hTg.out.1, HA.out⟩⟩
  · obtain ⟨K, y⟩ := R
    obtain rfl : K = zG := hzg h0
    have hne : (y : Int) ≠ 0 := h0
    have HE := Lib.hid (show Calls Tryz.prog 53 #[.pointer (some ⟨b0, 0, none⟩), .slice p n c] w fun e w' => e = .returned (.tuple #[.agg (Grd zG), .iface 138 (.int .i64 y)]) ∧ Below w.heap.size w w' from by rw [← errG_ne hne]; exact HGW.out)
    have HY := Lib.hid (show (y : Int) ≠ 0 from hne)
    clear HGW hmw hgd hzg h0 hne
    go_enter Tryz.func58, Tryz.ntmps58
    go_wp2_with (first | (go_at_call 53; refine HE.out.mono ?_; rintro e V ⟨rfl, hb⟩; have Hb := Lib.hid hb; have hnt := new_thereG 36 V; clear hb) | (refine st_stage 36 rfl ?_; refine wpList_store_mid rfl 36 _ _ rfl _ 0 (Grd (zG)) rfl rfl (by rw [Grd_size]; with_reducible exact hnt) (by rw [Grd_size]; exact infoGround) (Grd_one _) ?_; obtain ⟨X, hX, zX, gX, bX⟩ := stored_box zG 36 V; rw [hX]; have BX := Lib.hid (Hb.out.trans (bX.mono Hb.out.size)); clear hX zX gX bX hnt))
    go_ret2
    exact ⟨BX.out, .inr ⟨HY.out, by rw [errG_ne HY.out]; rfl⟩⟩
end Go.Proofs.YtaghnminpfgdcaaGreatDoor
