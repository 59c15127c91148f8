/- Are permits kept: the model's and the program's. Condition (the program's): the table of math/bits is laid. -/
import Derived.Test.YtaghnminpfgdcaaGreatDoorRff
namespace Go.Proofs.YtaghnminpfgdcaaGreatDoor
open Go Go.RowKit Go.Shelf
attribute [local go_sem] Oper.semAt_some run_store_float
set_option linter.unusedSimpArgs false
set_option linter.unusedVariables false

/-- The first watch whose head is less than its level, -1 if there is none. -/
def lowI (K : Gd) (Lw : List T2) : Int := match Lw.findIdx? (lowB K) with | some i => (i : Int) | none => -1
theorem lowI_at {K : Gd} {Lw : List T2} {i : Nat} {x : T2} (hx : Lw[i]? = some x) (hl : lowB K x = true) (hb : ∀ (j : Nat) (y : T2), j < i → Lw[j]? = some y → lowB K y = false) : lowI K Lw = (i : Int) := by
  have h : Lw.findIdx? (lowB K) = some i := by
    rw [List.findIdx?_eq_some_iff_getElem]
    obtain ⟨h1, rfl⟩ := List.getElem?_eq_some_iff.1 hx
    refine ⟨h1, hl, fun j hj => ?_⟩
    have := hb j _ hj (List.getElem?_eq_getElem (by omega))
    simp [this]
  simp [lowI, h]
theorem lowI_none {K : Gd} {Lw : List T2} (hb : ∀ (j : Nat) (y : T2), Lw[j]? = some y → lowB K y = false) : lowI K Lw = -1 := by
  have h : Lw.findIdx? (lowB K) = none := by
    rw [List.findIdx?_eq_none_iff]
    intro x hx
    obtain ⟨j, hj, rfl⟩ := List.getElem_of_mem hx
    exact hb j _ (List.getElem?_eq_getElem hj)
  simp [lowI, h]

set_option maxRecDepth 100000 in
set_option maxHeartbeats 4000000 in
theorem l07Below_any (K : Gd) (G : Gd) (pw : Option Addr) (cw : Nat) (Lw : List T2) (hm6 : Lw.length ≤ 1048576) (hwt : ∀ e ∈ Lw, ∃ q : Nat, e.1 = (q : Int) ∧ q < 64) (b0 B : Nat) (w : World) (hb : OfBox w b0 ⟨G, pw, Lw.length, cw⟩) (hpw : TsAt w pw Lw) (hK : GBox w B K) :
    Calls Tryz.prog 60 #[.pointer (some ⟨b0, 0, none⟩), .pointer (some ⟨B, 0, none⟩)] w fun e w' => e = .returned (.int .i64 (lowI K Lw)) ∧ Below w.heap.size w w' := by
  obtain ⟨m, hm⟩ : ∃ m, Lw.length = m := ⟨_, rfl⟩
  rw [hm] at hb hm6
  have HM := Lib.hid hm
  have HB0 := Lib.hid hb
  have PW := Lib.hid hpw
  have QK := Lib.hid hK
  have HWT := Lib.hid hwt
  clear hm hb hpw hK hwt
  go_enter Tryz.func60, Tryz.ntmps60
  go_upto_region 2 with (fail)
  go_loopw [5] (fun i wr => ∃ k : Nat, k ≤ m ∧ i = .int .i64 k ∧ Hid (∀ (j : Nat) (e : T2), j < k → Lw[j]? = some e → lowB K e = false) ∧ Hid (Below w.heap.size w wr)) (fun i _ => m - (intOf i).toNat)
  case atStart => exact ⟨0, by omega, rfl, Lib.hid (fun j e h => absurd h (Nat.not_lt_zero _)), Lib.hid (Below.refl _ _)⟩
  case round =>
    obtain ⟨k, hk, rfl, hA, QB⟩ := hrel
    have cs := (HB0.out.below QB.out HB0.out.lt).s
    by_cases hlt : k < m
    · have hki : (k : Int) < m := by omega
      obtain ⟨e, he⟩ : ∃ e, Lw[k]? = some e := ⟨_, List.getElem?_eq_getElem (by rw [HM.out]; exact hlt)⟩
      obtain ⟨b, o, rfl, hr⟩ := (PW.out.keep QB.out) k e he
      obtain ⟨q, hq, hq64⟩ := HWT.out e (List.mem_of_getElem? he)
      obtain ⟨x, l⟩ := e
      obtain rfl : x = (q : Int) := hq
      have c0 : wr.cell? ⟨b, o + k * 2, none⟩ = some (.int .i8 (q : Int)) := hr 0 _ rfl
      have c1 : wr.cell? ⟨b, o + k * 2 + 1, none⟩ = some (.float .f32 l) := hr 1 _ rfl
      have hh := (QK.out.below QB.out QK.out.lt).at'.h
      rw [Nat.zero_add] at hh
      have cK := Grd_fld hh q hq64
      have HE2 := Lib.hid he
      obtain ⟨LB, hLB⟩ : ∃ b, lowB K ((q : Int), l) = b := ⟨_, rfl⟩
      have HLB := Lib.hid (show (FloatKind.f32.format.order (K.h q) l == some Ordering.lt) = LB by rw [← hLB]; simp [lowB])
      have HLB2 := Lib.hid hLB
      clear he hr hLB hh
      go_upto_region 4 with (fail)
      refine wp_region_calm (ops' := regOf Tryz.f60 4) [0, 1, 2, 3, 4, 5, 6, 7, 8, 9, 10, 11, 12, 13, 14, 15, 16, 17, 18, 19, 20, 21] [] .fin (Quiet wr) [(0, One (.pointer (some ⟨B, 0, none⟩))), (1, One (.pointer (some ⟨b0, 0, none⟩))), (2, One (.pointer (some ⟨b0, 0, none⟩))), (3, One (.pointer (some ⟨b0, 195, none⟩))), (4, One (.slice (some ⟨b, o, none⟩) m cw)), (5, One (.int .i64 (k : Int))), (6, One (.pointer (some ⟨b, o + k * 2, none⟩))), (7, One (.pointer (some ⟨b, o + k * 2, none⟩))), (8, One (.int .i8 (q : Int))), (9, One (.pointer (some ⟨B, 0, none⟩))), (10, One (.pointer (some ⟨B, 130, none⟩))), (11, One (.pointer (some ⟨B, 130 + q, none⟩))), (12, One (.float .f32 (K.h q))), (13, One (.pointer (some ⟨b0, 0, none⟩))), (14, One (.pointer (some ⟨b0, 0, none⟩))), (15, One (.pointer (some ⟨b0, 195, none⟩))), (16, One (.slice (some ⟨b, o, none⟩) m cw)), (17, One (.int .i64 (k : Int))), (18, One (.pointer (some ⟨b, o + k * 2, none⟩))), (19, One (.pointer (some ⟨b, o + k * 2 + 1, none⟩))), (20, One (.float .f32 l)), (21, One (.bool LB))] (by kernel_rfl) (by kernel_rfl) (by kernel_rfl) (by kernel_rfl) (by kernel_rfl) (by kernel_rfl) (by kernel_rfl) (by kernel_rfl) rfl ((Quiet.refl _).drewN 1) ?_
      refine calm_pure (some 15) (by kernel_rfl) (by kernel_rfl) (by kernel_rfl) (fun _ => by kernel_rfl) ?_
      refine calm_pure (some 16) (by kernel_rfl) (by kernel_rfl) (by kernel_rfl) (fun _ => by kernel_rfl) ?_
      refine calm_pure (some 17) (by kernel_rfl) (by kernel_rfl) (by kernel_rfl) (fun _ => by kernel_rfl) ?_
      refine calm_pure (some 18) (by kernel_rfl) (by kernel_rfl) (by kernel_rfl) (fun _ => by kernel_rfl) ?_
      refine calm_read (some 19) (by kernel_rfl) (by kernel_rfl) (by kernel_rfl) (fun w' hw' => load_cell (ty := 39) (x := .tmp 18) (b := b0) (o := 195) (by kernel_rfl) (by kernel_rfl) Tryz.underlying39 rfl (kq cs w' hw')) ?_
      refine calm_pure (some 20) (by kernel_rfl) (by kernel_rfl) (by kernel_rfl) (fun _ => by kernel_rfl) ?_
      refine calm_pure (some 21) (by kernel_rfl) (by kernel_rfl) (by kernel_rfl) (fun _ => index_wt (T := 39) (n := m) (c := cw) (x := .tmp 19) (y := .tmp 20) (by kernel_rfl) (.inl rfl) (by kernel_rfl) (by kernel_rfl) hlt _) ?_
      refine calm_pure (some 22) (by kernel_rfl) (by kernel_rfl) (by kernel_rfl) (fun _ => by kernel_rfl) ?_
      refine calm_read (some 23) (by kernel_rfl) (by kernel_rfl) (by kernel_rfl) (fun w' hw' => load_cell (ty := 22) (x := .tmp 22) (b := b) (o := o + k * 2) (by kernel_rfl) (by kernel_rfl) Tryz.underlying22 rfl (kq c0 w' hw')) ?_
      refine calm_pure (some 24) (by kernel_rfl) (by kernel_rfl) (by kernel_rfl) (fun _ => by kernel_rfl) ?_
      refine calm_pure (some 25) (by kernel_rfl) (by kernel_rfl) (by kernel_rfl) (fun _ => by kernel_rfl) ?_
      refine calm_pure (some 26) (by kernel_rfl) (by kernel_rfl) (by kernel_rfl) (fun _ => index_fld8 (x := .tmp 25) (y := .tmp 23) (o := 130) (by kernel_rfl) (by kernel_rfl) (by kernel_rfl) hq64 _) ?_
      refine calm_read (some 27) (by kernel_rfl) (by kernel_rfl) (by kernel_rfl) (fun w' hw' => load_cell (ty := 23) (x := .tmp 26) (b := B) (o := 130 + q) (by kernel_rfl) (by kernel_rfl) Tryz.underlying23 rfl (kq cK w' hw')) ?_
      refine calm_pure (some 28) (by kernel_rfl) (by kernel_rfl) (by kernel_rfl) (fun _ => by kernel_rfl) ?_
      refine calm_pure (some 29) (by kernel_rfl) (by kernel_rfl) (by kernel_rfl) (fun _ => by kernel_rfl) ?_
      refine calm_pure (some 30) (by kernel_rfl) (by kernel_rfl) (by kernel_rfl) (fun _ => by kernel_rfl) ?_
      refine calm_read (some 31) (by kernel_rfl) (by kernel_rfl) (by kernel_rfl) (fun w' hw' => load_cell (ty := 39) (x := .tmp 30) (b := b0) (o := 195) (by kernel_rfl) (by kernel_rfl) Tryz.underlying39 rfl (kq cs w' hw')) ?_
      refine calm_pure (some 32) (by kernel_rfl) (by kernel_rfl) (by kernel_rfl) (fun _ => by kernel_rfl) ?_
      refine calm_pure (some 33) (by kernel_rfl) (by kernel_rfl) (by kernel_rfl) (fun _ => index_wt (T := 39) (n := m) (c := cw) (x := .tmp 31) (y := .tmp 32) (by kernel_rfl) (.inl rfl) (by kernel_rfl) (by kernel_rfl) hlt _) ?_
      refine calm_pure (some 34) (by kernel_rfl) (by kernel_rfl) (by kernel_rfl) (fun _ => by kernel_rfl) ?_
      refine calm_read (some 35) (by kernel_rfl) (by kernel_rfl) (by kernel_rfl) (fun w' hw' => load_cell (ty := 23) (x := .tmp 34) (b := b) (o := o + k * 2 + 1) (by kernel_rfl) (by kernel_rfl) Tryz.underlying23 rfl (kq c1 w' hw')) ?_
      refine calm_pure (some 36) (by kernel_rfl) (by kernel_rfl) (by kernel_rfl) (fun _ => by rw [← HLB.out]; kernel_rfl) ?_
      refine calm_end fun V7 hV7 => plan_end (Clean.normal ?_)
      simp only [Act.put, List.setIfInBounds_toArray, List.set_cons_zero, List.set_cons_succ]
      have EB := Lib.hid (QB.out.trans (hV7.below _))
      clear c0 c1 cK hV7 cs
      cases LB
      · have HA2 := Lib.hid (show ∀ (j : Nat) (e : T2), j < k + 1 → Lw[j]? = some e → lowB K e = false from fun j e hj he => by
          by_cases e0 : j = k
          · subst e0
            rw [HE2.out] at he
            cases he
            exact HLB2.out
          · exact hA.out j e (by omega) he)
        go_wp2
        go_roundw
        case rel => exact ⟨k + 1, by omega, by go_num, HA2, EB⟩
        case measure => simp [intOf]; omega
      · have HI := Lib.hid (lowI_at HE2.out HLB2.out hA.out)
        go_wp2
        go_ret
        exact ⟨by rw [HI.out]; rfl, EB.out⟩
    · obtain rfl : m = k := by omega
      have HI := Lib.hid (lowI_none (K := K) (Lw := Lw) fun j e he => hA.out j e (by rw [← HM.out]; exact (List.getElem?_eq_some_iff.1 he).1) he)
      clear hA
      go_wp2
      go_ret
      exact ⟨by rw [HI.out]; rfl, QB.out⟩

/-- Are valid permits kept? -/
def keptB (G : Gd) (Lw : List T2) (L : List P3) : Bool := decide ((gwR L G).2 = 0) && decide (lowI (gwR L G).1 Lw < 0)
theorem lowI_lo (K : Gd) (Lw : List T2) : -1 ≤ lowI K Lw := by
  unfold lowI
  split <;> omega
theorem findIdx_lt {α : Type} {f : α → Bool} {L : List α} {i : Nat} (h : L.findIdx? f = some i) : i < L.length := by
  rw [List.findIdx?_eq_some_iff_getElem] at h
  exact h.1
theorem lowI_hi (K : Gd) (Lw : List T2) : lowI K Lw ≤ Lw.length := by
  unfold lowI
  split
  · rename_i h
    have := findIdx_lt h
    omega
  · omega
set_option maxRecDepth 100000 in
set_option maxHeartbeats 4000000 in
theorem l07Kept_any (G : Gd) (pw : Option Addr) (cw : Nat) (Lw : List T2) (hLw : Lw.length ≤ 1048576) (hwt : ∀ e ∈ Lw, ∃ q : Nat, e.1 = (q : Int) ∧ q < 64) (p : Option Addr) (c : Nat) (L : List P3) (hL : L.length ≤ 6) (hpm : ∀ e ∈ L, pmB G e = true) (hv : validB G = true) (hG : GdOk G) (b0 : Nat) (w : World) (hb : OfBox w b0 ⟨G, pw, Lw.length, cw⟩) (hpw : TsAt w pw Lw) (hp : PsAt w p L) :
    Calls Tryz.prog 63 #[.pointer (some ⟨b0, 0, none⟩), .slice p L.length c] w fun e w' => e = .returned (.bool (keptB G Lw L)) ∧ Below w.heap.size w w' := by
  have hz := (zero_of_info zeroGround).1
  have HLG := l07Ground_any G pw Lw.length cw p c L hL hpm hv hG b0 w hb hp
  obtain ⟨A, n0, hA⟩ : ∃ A n, gwR L G = (A, n) := ⟨_, _, rfl⟩
  rw [hA] at HLG
  have HLG := Lib.hid (show Calls Tryz.prog 49 #[.pointer (some ⟨b0, 0, none⟩), .slice p L.length c] w fun e w' => e = .returned (.tuple #[.agg (Grd A), .int .i64 n0]) ∧ Below w.heap.size w w' from HLG)
  have HBL := Lib.hid (fun V B (h1 : OfBox V b0 ⟨G, pw, Lw.length, cw⟩) (h2 : TsAt V pw Lw) (h3 : GBox V B A) => l07Below_any A G pw cw Lw hLw hwt b0 B V h1 h2 h3)
  have l1 := lowI_lo A Lw
  have l2 := lowI_hi A Lw
  have HR := Lib.hid (show keptB G Lw L = (decide (n0 = 0) && decide (lowI A Lw < 0)) by simp [keptB, hA])
  rw [HR.out]
  obtain ⟨li, hli⟩ : ∃ li, lowI A Lw = li := ⟨_, rfl⟩
  rw [hli] at HBL l1 l2 ⊢
  have HB0 := Lib.hid hb
  have PW := Lib.hid hpw
  have hbl := hb.lt
  obtain ⟨m, hm⟩ : ∃ m, Lw.length = m := ⟨_, rfl⟩
  obtain ⟨n, hn⟩ : ∃ n, L.length = n := ⟨_, rfl⟩
  rw [hm] at HBL HB0 hLw l2
  rw [hn] at HLG ⊢
  clear HR hA hli hb hpw hp hm hn hv hG hpm hwt
  have hl3 : li ≤ 1048576 := by omega
  clear l2
  by_cases h0 : n0 = 0
  · subst h0
    cases hl : decide (li < 0)
    · have hl2 : ¬ li < 0 := by simpa using hl
      clear hl
      go_enter Tryz.func63, Tryz.ntmps63
      go_wp2_with (first | (go_at_call 49; refine HLG.out.mono ?_; rintro e V ⟨rfl, hb⟩; have Hb := Lib.hid hb; have hnt := new_thereG 36 V; clear hb) | (refine st_stage 36 rfl ?_; refine wpList_store_mid rfl 36 _ _ rfl _ 0 (Grd (A)) rfl rfl (by rw [Grd_size]; with_reducible exact hnt) (by rw [Grd_size]; exact infoGround) (Grd_one _) ?_; obtain ⟨X, hX, zX, gX, bX⟩ := stored_box A 36 V; rw [hX]; have BX := Lib.hid (Hb.out.trans (bX.mono Hb.out.size)); have XG := Lib.hid gX; clear hX zX gX bX hnt) | (go_at_call 60; refine (HBL.out _ _ (HB0.out.below BX.out hbl) (PW.out.keep BX.out) XG.out).mono ?_; rintro e V2 ⟨rfl, hb⟩; have BY := Lib.hid (BX.out.trans (hb.mono BX.out.size)); clear hb))
      go_ret
      exact ⟨by
        have e : decide (li < 0) = false := by simpa using hl2
        show Ending.returned (Value.bool (decide (li < 0))) = _
        rw [e]
        rfl, BY.out⟩
    · have hl2 : li < 0 := by simpa using hl
      clear hl
      go_enter Tryz.func63, Tryz.ntmps63
      go_wp2_with (first | (go_at_call 49; refine HLG.out.mono ?_; rintro e V ⟨rfl, hb⟩; have Hb := Lib.hid hb; have hnt := new_thereG 36 V; clear hb) | (refine st_stage 36 rfl ?_; refine wpList_store_mid rfl 36 _ _ rfl _ 0 (Grd (A)) rfl rfl (by rw [Grd_size]; with_reducible exact hnt) (by rw [Grd_size]; exact infoGround) (Grd_one _) ?_; obtain ⟨X, hX, zX, gX, bX⟩ := stored_box A 36 V; rw [hX]; have BX := Lib.hid (Hb.out.trans (bX.mono Hb.out.size)); have XG := Lib.hid gX; clear hX zX gX bX hnt) | (go_at_call 60; refine (HBL.out _ _ (HB0.out.below BX.out hbl) (PW.out.keep BX.out) XG.out).mono ?_; rintro e V2 ⟨rfl, hb⟩; have BY := Lib.hid (BX.out.trans (hb.mono BX.out.size)); clear hb))
      go_ret
      exact ⟨rfl, BY.out⟩
  · have h2 : (n0 == 0) = false := by simpa using h0
    have HD := Lib.hid (show decide (n0 = 0) = false by simpa using h0)
    rw [HD.out]
    go_enter Tryz.func63, Tryz.ntmps63
    go_wp2_with (first | (go_at_call 49; refine HLG.out.mono ?_; rintro e V ⟨rfl, hb⟩; have Hb := Lib.hid hb; have hnt := new_thereG 36 V; clear hb) | (refine st_stage 36 rfl ?_; refine wpList_store_mid rfl 36 _ _ rfl _ 0 (Grd (A)) rfl rfl (by rw [Grd_size]; with_reducible exact hnt) (by rw [Grd_size]; exact infoGround) (Grd_one _) ?_; obtain ⟨X, hX, zX, gX, bX⟩ := stored_box A 36 V; rw [hX]; have BX := Lib.hid (Hb.out.trans (bX.mono Hb.out.size)); clear hX zX gX bX hnt))
    go_ret
    exact ⟨rfl, BX.out⟩
theorem wt_cells {G : Gd} {Lw : List T2} (h : ∀ e ∈ Lw, wtB G e = true) : ∀ e ∈ Lw, ∃ q : Nat, e.1 = (q : Int) ∧ q < 64 := fun e he => by
  have := h e he
  simp only [wtB, Bool.and_eq_true] at this
  obtain ⟨q, h1, h2, _⟩ := inB_cast this.1
  exact ⟨q, h1, h2⟩
/-- What AreKept says. -/
def akV (G : Gd) (Lw : List T2) (L : List P3) : Bool × Int := if prmB G Lw L = true then (keptB G Lw L, 0) else (false, 1)
set_option maxRecDepth 100000 in
set_option maxHeartbeats 4000000 in
theorem specAreKept_any (G : Gd) (pw : Option Addr) (cw : Nat) (Lw : List T2) (hLw : Lw.length ≤ 1048576) (hOw : ∀ e ∈ Lw, okT2 e) (p : Option Addr) (c : Nat) (L : List P3) (hL : L.length ≤ 1048576) (hO : ∀ e ∈ L, okPQ e) (w : World) (hpw : TsAt w pw Lw) (hp : PsAt w p L) (hG : GdOk G) :
    Calls Tryz.prog 31 #[.agg (OfA ⟨G, pw, Lw.length, cw⟩), .slice p L.length c] w fun e w' => e = .returned (.tuple #[.bool (akV G Lw L).1, .int .i64 (akV G Lw L).2]) ∧ Below w.heap.size w w' := by
  obtain ⟨W, hW, hs, b1, hB⟩ := obox1 ⟨G, pw, Lw.length, cw⟩ 41 w
  have T := l07Fits_any G pw cw Lw hLw hOw p c L hL hO w.heap.size W b1.at' (by omega) (hpw.keep hB) (hp.keep hB) hG
  have HB := Lib.hid hB
  cases hpr : prmB G Lw L
  · rw [hpr] at T
    have T := Lib.hid T
    have HR := Lib.hid (show akV G Lw L = (false, 1) by simp [akV, hpr])
    obtain ⟨A, hA⟩ : ∃ A, OfA ⟨G, pw, Lw.length, cw⟩ = A := ⟨_, rfl⟩
    rw [hA] at hW ⊢
    obtain ⟨n, hn⟩ : ∃ n, L.length = n := ⟨_, rfl⟩
    rw [hn] at T ⊢
    clear b1 hs hp hB hA hn hpw hOw hO hpr
    go_enter Tryz.func31, Tryz.ntmps31
    go_upto_region 1 with (fail)
    try rw [hW]
    clear hW
    go_wp2_with (go_at_call 48; refine T.out.mono ?_; rintro e V ⟨rfl, hV⟩; have HV := Lib.hid (HB.out.trans (hV.mono HB.out.size)); clear hV)
    go_ret2
    exact ⟨by rw [HR.out]; rfl, HV.out⟩
  · obtain ⟨hv, hL6, hpm, hm6, hwt⟩ := prm_is hpr
    rw [hpr] at T
    have T := Lib.hid T
    have B1 := Lib.hid b1
    have PW := Lib.hid (hpw.keep hB)
    have PP := Lib.hid (hp.keep hB)
    have hl : w.heap.size < W.heap.size := by omega
    have TK := Lib.hid (fun V (h : Below W.heap.size W V) => l07Kept_any G pw cw Lw (by omega) (wt_cells hwt) p c L hL6 hpm hv hG w.heap.size V (B1.out.below h hl) (PW.out.keep h) (PP.out.keep h))
    have HR := Lib.hid (show akV G Lw L = (keptB G Lw L, 0) by simp [akV, hpr])
    obtain ⟨r, hr⟩ : ∃ r, keptB G Lw L = r := ⟨_, rfl⟩
    rw [hr] at TK HR
    obtain ⟨A, hA⟩ : ∃ A, OfA ⟨G, pw, Lw.length, cw⟩ = A := ⟨_, rfl⟩
    rw [hA] at hW ⊢
    obtain ⟨n, hn⟩ : ∃ n, L.length = n := ⟨_, rfl⟩
    rw [hn] at T TK ⊢
    clear b1 hs hp hB hA hn hpw hOw hO hpr hr hv hL6 hpm hm6 hwt hL hLw hG
    go_enter Tryz.func31, Tryz.ntmps31
    go_upto_region 1 with (fail)
    try rw [hW]
    clear hW
    go_wp2_with (first | (go_at_call 48; refine T.out.mono ?_; rintro e V ⟨rfl, hV⟩; have HV := Lib.hid hV; clear hV) | (go_at_call 63; refine (TK.out _ HV.out).mono ?_; rintro e V2 ⟨rfl, hV⟩; have HV2 := Lib.hid (HB.out.trans ((HV.out.trans (hV.mono HV.out.size)).mono HB.out.size)); clear hV))
    go_ret2
    exact ⟨by rw [HR.out]; rfl, HV2.out⟩

set_option maxRecDepth 100000 in
set_option maxHeartbeats 4000000 in
theorem implAreKept_any (G : Gd) (pw : Option Addr) (cw : Nat) (Lw : List T2) (hLw : Lw.length ≤ 1048576) (hOw : ∀ e ∈ Lw, okT2 e) (p : Option Addr) (c : Nat) (L : List P3) (hL : L.length ≤ 1048576) (hO : ∀ e ∈ L, okPQ e) (w : World) (hpw : TsAt w pw Lw) (hp : PsAt w p L) (hG : GdOk G) (hT : TabAt w) :
    Calls Tryz.prog 32 #[.agg (OfA ⟨G, pw, Lw.length, cw⟩), .slice p L.length c] w fun e w' => e = .returned (.tuple #[.bool (akV G Lw L).1, .int .i64 (akV G Lw L).2]) ∧ Below w.heap.size w w' := by
  obtain ⟨W, hW, hs, b1, hB⟩ := obox1 ⟨G, pw, Lw.length, cw⟩ 41 w
  have T := implValidPermits_any G pw cw Lw hLw hOw p c L hL hO W (hpw.keep hB) (hp.keep hB) hG (hT.below hB (tab_lt hT))
  have HB := Lib.hid hB
  have r1 := b1.range
  cases hpr : prmB G Lw L
  · rw [hpr] at T
    have T := Lib.hid T
    have HR := Lib.hid (show akV G Lw L = (false, 1) by simp [akV, hpr])
    obtain ⟨m, hm⟩ : ∃ m, Lw.length = m := ⟨_, rfl⟩
    rw [hm] at hW r1 T ⊢
    obtain ⟨n, hn⟩ : ∃ n, L.length = n := ⟨_, rfl⟩
    rw [hn] at T ⊢
    clear b1 hs hp hB hm hn hpw hOw hO hpr
    go_enter Tryz.func32, Tryz.ntmps32
    go_upto_region 1 with (fail)
    try rw [hW]
    clear hW
    go_wp2_with (first | (refine ld_stage 41 rfl ?_; refine wpList_load_mid rfl 41 _ rfl (w.heap.size) 0 rfl (OfL ⟨G, pw, m, cw⟩) _ r1 Tryz.underlying41 rfl (by rw [OfL_length]; exact infoOffice) ?_) | (go_at_call 64; refine T.out.mono ?_; rintro e V ⟨rfl, hV⟩; have HV := Lib.hid (HB.out.trans (hV.mono HB.out.size)); clear hV))
    go_ret2
    exact ⟨by rw [HR.out]; rfl, HV.out⟩
  · obtain ⟨hv, hL6, hpm, hm6, hwt⟩ := prm_is hpr
    rw [hpr] at T
    have T := Lib.hid T
    have B1 := Lib.hid b1
    have PW := Lib.hid (hpw.keep hB)
    have PP := Lib.hid (hp.keep hB)
    have HT := Lib.hid (hT.below hB (tab_lt hT))
    have hl : w.heap.size < W.heap.size := by omega
    have TK := Lib.hid (fun V (h : Below W.heap.size W V) => refusalOf_any G pw cw Lw hLw hOw p c L hL hO w.heap.size V (B1.out.below h hl) (PW.out.keep h) (PP.out.keep h) hG (HT.out.below h (tab_lt HT.out)))
    have hgw : gwV G Lw L = gwR L G := by simp [gwV, hpr]
    have HR := Lib.hid (show akV G Lw L = (keptB G Lw L, 0) by simp [akV, hpr])
    rw [hgw] at TK
    have HKB := Lib.hid (show keptB G Lw L = (decide ((gwR L G).2 = 0) && decide (lowI (gwR L G).1 Lw < 0)) from rfl)
    obtain ⟨R, hR⟩ : ∃ R, gwR L G = R := ⟨_, rfl⟩
    rw [hR] at TK HKB
    obtain ⟨m, hm⟩ : ∃ m, Lw.length = m := ⟨_, rfl⟩
    rw [hm] at hW r1 T ⊢
    obtain ⟨n, hn⟩ : ∃ n, L.length = n := ⟨_, rfl⟩
    rw [hn] at T TK ⊢
    clear b1 hs hp hB hm hn hpw hOw hO hpr hv hL6 hpm hm6 hwt hL hLw hG hgw hT hR
    go_enter Tryz.func32, Tryz.ntmps32
    go_upto_region 1 with (fail)
    try rw [hW]
    clear hW
    go_wp2_with (first | (refine ld_stage 41 rfl ?_; refine wpList_load_mid rfl 41 _ rfl (w.heap.size) 0 rfl (OfL ⟨G, pw, m, cw⟩) _ r1 Tryz.underlying41 rfl (by rw [OfL_length]; exact infoOffice) ?_) | (go_at_call 64; refine T.out.mono ?_; rintro e V ⟨rfl, hV⟩; have HV := Lib.hid hV; clear hV) | (go_at_call 61; fail))
    refine (TK.out _ HV.out).mono ?_
    rintro e V2 ⟨hb, ⟨hne, rfl⟩ | ⟨h0, hn, rfl⟩ | ⟨h0, i, x, z, hx, hl, hlo, rfl, _⟩⟩
    · have HV2 := Lib.hid (HB.out.trans ((HV.out.trans (hb.mono HV.out.size)).mono HB.out.size))
      have HK := Lib.hid (show keptB G Lw L = false by rw [HKB.out]; simp [hne])
      rw [errG_ne hne]
      clear hb hne TK
      go_wp2
      go_ret2
      exact ⟨by rw [HR.out, HK.out]; rfl, HV2.out⟩
    · have HV2 := Lib.hid (HB.out.trans ((HV.out.trans (hb.mono HV.out.size)).mono HB.out.size))
      have HK := Lib.hid (show keptB G Lw L = true by rw [HKB.out, lowI_none hn]; simp [h0])
      clear hb h0 hn TK
      go_wp2
      go_ret2
      exact ⟨by rw [HR.out, HK.out]; rfl, HV2.out⟩
    · have HV2 := Lib.hid (HB.out.trans ((HV.out.trans (hb.mono HV.out.size)).mono HB.out.size))
      have HK := Lib.hid (show keptB G Lw L = false by rw [HKB.out, lowI_at hx hl hlo]; simp)
      clear hb h0 hx hl hlo TK
      simp only [tooL]
      go_wp2
      go_ret2
      exact ⟨by rw [HR.out, HK.out]; rfl, HV2.out⟩
end Go.Proofs.YtaghnminpfgdcaaGreatDoor
