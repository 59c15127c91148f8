/- Refusals of permits: the program's. Condition: the table of math/bits is laid. -/
import Derived.Test.YtaghnminpfgdcaaGreatDoorLv
namespace Go.Proofs.YtaghnminpfgdcaaGreatDoor
open Go Go.RowKit Go.Shelf
attribute [local go_sem] Oper.semAt_some run_store_float
set_option linter.unusedSimpArgs false
set_option linter.unusedVariables false

theorem index_fs {op : Oper} {a : Act} {x y : Operand} {b n c k : Nat} (ho : op.op = .indexAddr 49 x y) (hx : a.eval x = .slice (some ⟨b, 0, none⟩) n c) (hy : a.eval y = .int .i64 k) (hk : k < n) (w : World) :
    (execOp a.eval op).run Tryz.prog w = .ok (.value (.pointer (some ⟨b, k, none⟩))) w := by
  unfold execOp
  simp only [ho, hx, hy]
  go_simp
/-- Is the head at a watch less than its level? -/
def lowB (K : Gd) (e : T2) : Bool := FloatKind.f32.format.order (K.h e.1.toNat) e.2 == some Ordering.lt
/-- A refusal for a watch. -/
def tooL (i z : Nat) : Value := .iface 102 (.agg #[.int .i64 (i : Int), .float .f32 z])
/-- How refusalOf ends. -/
def RfP (Lw : List T2) (R : Gd × Int) (w : World) (e : Ending) (w' : World) : Prop := Below w.heap.size w w' ∧
  ((R.2 ≠ 0 ∧ e = .returned (errG R.2)) ∨ (R.2 = 0 ∧ (∀ (i : Nat) (x : T2), Lw[i]? = some x → lowB R.1 x = false) ∧ e = .returned .nilIface) ∨
   (R.2 = 0 ∧ ∃ (i : Nat) (x : T2) (z : Nat), Lw[i]? = some x ∧ lowB R.1 x = true ∧ (∀ (j : Nat) (y : T2), j < i → Lw[j]? = some y → lowB R.1 y = false) ∧ e = .returned (tooL i z) ∧ num .f32 z = fop .f32 .sub (num .f32 x.2) (num .f32 (R.1.h x.1.toNat))))
theorem gwV_prm {G : Gd} {Lw : List T2} {L : List P3} (h : (gwV G Lw L).2 = 0) : prmB G Lw L = true := by
  unfold gwV at h
  split at h
  · assumption
  · cases h
theorem gwV_zG {G : Gd} {Lw : List T2} {L : List P3} (hG : GdOk G) (h : (gwV G Lw L).2 ≠ 0) : (gwV G Lw L).1 = zG := by
  unfold gwV at h ⊢
  split
  · rename_i hp
    rw [if_pos hp] at h
    obtain ⟨hv, _, hpm, _, _⟩ := prm_is hp
    exact (gwR_good L G hv hG hpm).2 h
  · rfl
theorem gwV_good {G : Gd} {Lw : List T2} {L : List P3} (hG : GdOk G) (h : (gwV G Lw L).2 = 0) : validB (gwV G Lw L).1 = true ∧ GdOk (gwV G Lw L).1 ∧ (gwV G Lw L).1.wide = G.wide ∧ (gwV G Lw L).1.high = G.high := by
  have hp := gwV_prm h
  obtain ⟨hv, _, hpm, _, _⟩ := prm_is hp
  have e : gwV G Lw L = gwR L G := by simp [gwV, hp]
  rw [e] at h ⊢
  exact (gwR_good L G hv hG hpm).1 h
theorem num_of_fop {x y t : Nat} (h : fop .f32 .sub (num .f32 x) (num .f32 y) = some t) : num .f32 t = some t := by
  obtain ⟨r, hr⟩ := fop_any2 x y
  rw [h] at hr
  obtain ⟨rfl, hn⟩ := num_eq_some hr
  exact num_some hn

set_option maxRecDepth 100000 in
set_option maxHeartbeats 4000000 in
theorem refusalOf_any (G : Gd) (pw : Option Addr) (cw : Nat) (Lw : List T2) (hLw : Lw.length ≤ 1048576) (hOw : ∀ e ∈ Lw, okT2 e) (p : Option Addr) (c : Nat) (L : List P3) (hL : L.length ≤ 1048576) (hO : ∀ e ∈ L, okPQ e) (b0 : Nat) (w : World) (hb : OfBox w b0 ⟨G, pw, Lw.length, cw⟩) (hpw : TsAt w pw Lw) (hp : PsAt w p L) (hG : GdOk G) (hT : TabAt w) :
    Calls Tryz.prog 61 #[.pointer (some ⟨b0, 0, none⟩), .slice p L.length c] w (RfP Lw (gwV G Lw L) w) := by
  have hbl := hb.lt
  have HLV := Lib.hid (levelsWith_any G pw cw Lw hLw hOw p c L hL hO b0 w hb hpw hp hG hT)
  have hmw := gwV_prm (G := G) (Lw := Lw) (L := L)
  obtain ⟨R, hR⟩ : ∃ R, gwV G Lw L = R := ⟨_, rfl⟩
  obtain ⟨m, hm⟩ : ∃ m, Lw.length = m := ⟨_, rfl⟩
  obtain ⟨n, hn⟩ : ∃ n, L.length = n := ⟨_, rfl⟩
  rw [hR, hn, hm] at HLV
  rw [hR] at hmw ⊢
  rw [hm] at hb
  rw [hn]
  have hR0 := Lib.hid hR
  have hG0 := Lib.hid hG
  have HM := Lib.hid hm
  have HB0 := Lib.hid hb
  have PW := Lib.hid hpw
  clear hR hpw hp hG hT hn hL hO hOw hLw hb
  obtain ⟨K, y⟩ := R
  go_enter Tryz.func61, Tryz.ntmps61
  go_wp2_with (go_at_call 58; fail)
  refine HLV.out.mono ?_
  rintro e V ⟨hb, ⟨h0, g, rfl, hwg, hgV, hth, hlv⟩ | ⟨hne, rfl⟩⟩
  · obtain rfl : y = 0 := h0
    obtain ⟨hv, _, _, hm6, hwt⟩ := prm_is (hmw rfl)
    have hgood := gwV_good hG0.out (show (gwV G Lw L).2 = 0 by rw [hR0.out])
    rw [hR0.out] at hgood
    have HWT := Lib.hid (show ∀ e ∈ Lw, ∃ q : Nat, e.1 = (q : Int) ∧ q < 64 ∧ plainB e.2 = true ∧ plainB (K.h q) = true from fun e he => by
      have := hwt e he
      simp only [wtB, Bool.and_eq_true] at this
      obtain ⟨q, h1, h2, h3⟩ := inB_cast this.1
      refine ⟨q, h1, h2, this.2, valid_heads hgood.1 h2 ?_⟩
      unfold isB at h3 ⊢
      rw [hgood.2.2.1, hgood.2.2.2]
      exact h3)
    have s1 := (HB0.out.below hb hbl).s
    have LA := Lib.hid (show LvAt V g Lw K from hlv)
    have YB := Lib.hid hb
    have HGV := Lib.hid hgV
    clear HLV hmw hv hwt hb hth hlv
    rw [hm] at hm6
    clear hm
    go_wp2
    go_loopw [23] (fun i wr => ∃ k : Nat, k ≤ m ∧ i = .int .i64 k ∧ Hid (∀ (j : Nat) (e : T2), j < k → Lw[j]? = some e → lowB K e = false) ∧ Hid (Below V.heap.size V wr)) (fun i _ => m - (intOf i).toNat)
    case atStart => exact ⟨0, by omega, rfl, Lib.hid (fun j e h => absurd h (Nat.not_lt_zero _)), Lib.hid (Below.refl _ _)⟩
    case round =>
      clear s1
      obtain ⟨k, hk, rfl, hA, QB⟩ := hrel
      by_cases hlt : k < m
      · have hki : (k : Int) < m := by omega
        obtain ⟨e, he⟩ : ∃ e, Lw[k]? = some e := ⟨_, List.getElem?_eq_getElem (by rw [HM.out]; exact hlt)⟩
        obtain ⟨b, o, rfl, hr⟩ := (PW.out.keep (YB.out.trans (QB.out.mono YB.out.size))) k e he
        obtain ⟨q, hq, hq64, hp1, hp2⟩ := HWT.out e (List.mem_of_getElem? he)
        obtain ⟨x, l⟩ := e
        obtain rfl : x = (q : Int) := hq
        have c0 : wr.cell? ⟨b, o + k * 2, none⟩ = some (.int .i8 (q : Int)) := hr 0 _ rfl
        have c1 : wr.cell? ⟨b, o + k * 2 + 1, none⟩ = some (.float .f32 l) := hr 1 _ rfl
        obtain ⟨Vw, hVw, hsw, d0, d1, b2⟩ := wt_box (q : Int) l 94 wr
        have DB := Lib.hid (QB.out.trans (b2.mono QB.out.size))
        have cK : Vw.cell? ⟨g, k, none⟩ = some (.float .f32 (K.h q)) := (DB.out.cell (p := ⟨g, k, none⟩) HGV.out).trans (by have := LA.out k _ he; simpa using this)
        have HE2 := Lib.hid he
        obtain ⟨LB, hLB⟩ : ∃ b, lowB K ((q : Int), l) = b := ⟨_, rfl⟩
        have HLB := Lib.hid (show (FloatKind.f32.format.order (K.h q) l == some Ordering.lt) = LB by rw [← hLB]; simp [lowB])
        have HLB2 := Lib.hid hLB
        obtain ⟨pb, hpb⟩ : ∃ pb, wr.heap.size = pb := ⟨_, rfl⟩
        rw [hpb] at d0 d1
        obtain ⟨t, ht, _, _⟩ := plain_sub hp1 hp2
        have ht : fop .f32 .sub (num .f32 l) (num .f32 (K.h q)) = some t := ht
        have HTT := Lib.hid ht
        clear he hr b2 hLB d0 hp1 hp2 ht
        go_upto_region 7 with (fail)
        try rw [hVw]
        try rw [hpb]
        clear hVw c0 c1 hsw hpb
        refine wp_region_calm (ops' := regOf Tryz.f61 7) [0, 1, 2, 3, 4, 5, 6] [] .fin (Quiet Vw) [(0, One (.slice (some ⟨g, 0, none⟩) m m)), (1, One (.int .i64 (k : Int))), (2, One (.pointer (some ⟨g, k, none⟩))), (3, One (.float .f32 (K.h q))), (4, One (.pointer (some ⟨pb, 1, none⟩))), (5, One (.float .f32 l)), (6, One (.bool LB))] (by kernel_rfl) (by kernel_rfl) (by kernel_rfl) (by kernel_rfl) (by kernel_rfl) (by kernel_rfl) (by kernel_rfl) (by kernel_rfl) rfl ((Quiet.refl _).drewN 1) ?_
        refine calm_pure (some 28) (by kernel_rfl) (by kernel_rfl) (by kernel_rfl) (fun _ => by kernel_rfl) ?_
        refine calm_pure (some 29) (by kernel_rfl) (by kernel_rfl) (by kernel_rfl) (fun _ => by kernel_rfl) ?_
        refine calm_pure (some 30) (by kernel_rfl) (by kernel_rfl) (by kernel_rfl) (fun _ => index_fs (n := m) (c := m) (x := .tmp 28) (y := .tmp 29) (by kernel_rfl) (by kernel_rfl) (by kernel_rfl) hlt _) ?_
        refine calm_read (some 31) (by kernel_rfl) (by kernel_rfl) (by kernel_rfl) (fun w' hw' => load_cell (ty := 23) (x := .tmp 30) (b := g) (o := k) (by kernel_rfl) (by kernel_rfl) Tryz.underlying23 rfl (kq cK w' hw')) ?_
        refine calm_pure (some 32) (by kernel_rfl) (by kernel_rfl) (by kernel_rfl) (fun _ => by kernel_rfl) ?_
        refine calm_read (some 33) (by kernel_rfl) (by kernel_rfl) (by kernel_rfl) (fun w' hw' => load_cell (ty := 23) (x := .tmp 32) (b := pb) (o := 1) (by kernel_rfl) (by kernel_rfl) Tryz.underlying23 rfl (kq d1 w' hw')) ?_
        refine calm_pure (some 34) (by kernel_rfl) (by kernel_rfl) (by kernel_rfl) (fun _ => by rw [← HLB.out]; kernel_rfl) ?_
        refine calm_end fun V7 hV7 => plan_end (Clean.normal ?_)
        simp only [Act.put, List.setIfInBounds_toArray, List.set_cons_zero, List.set_cons_succ]
        have e1 := kq d1 V7 hV7
        have ek := kq cK V7 hV7
        have EB := Lib.hid (DB.out.trans (hV7.below _))
        clear d1 cK DB hV7
        cases LB
        · have HA2 := Lib.hid (show ∀ (j : Nat) (e : T2), j < k + 1 → Lw[j]? = some e → lowB K e = false from fun j e hj he => by
            by_cases e0 : j = k
            · subst e0
              rw [HE2.out] at he
              cases he
              exact HLB2.out
            · exact hA.out j e (by omega) he)
          clear e1 ek
          go_wp2
          go_roundw
          case rel => exact ⟨k + 1, by omega, by go_num, HA2, EB⟩
          case measure => simp [intOf]; omega
        · have ht := HTT.out
          go_upto_region 8 with (fail)
          refine wp_region_calm (ops' := regOf Tryz.f61 8) [0, 1, 2, 3, 4, 5, 6, 7, 8, 9, 10] [] .fin (Quiet V7) [(0, One (.int .i64 (k : Int))), (1, One (.pointer (some ⟨pb, 1, none⟩))), (2, One (.float .f32 l)), (3, One (.slice (some ⟨g, 0, none⟩) m m)), (4, One (.int .i64 (k : Int))), (5, One (.pointer (some ⟨g, k, none⟩))), (6, One (.float .f32 (K.h q))), (7, One (.float .f32 t)), (8, One (.agg #[.int .i64 (k : Int), .float .f32 t])), (9, One (.iface 102 (.agg #[.int .i64 (k : Int), .float .f32 t]))), (10, One (.iface 102 (.agg #[.int .i64 (k : Int), .float .f32 t])))] (by kernel_rfl) (by kernel_rfl) (by kernel_rfl) (by kernel_rfl) (by kernel_rfl) (by kernel_rfl) (by kernel_rfl) (by kernel_rfl) rfl ((Quiet.refl _).drewN 1) ?_
          refine calm_pure (some 35) (by kernel_rfl) (by kernel_rfl) (by kernel_rfl) (fun _ => by kernel_rfl) ?_
          refine calm_pure (some 36) (by kernel_rfl) (by kernel_rfl) (by kernel_rfl) (fun _ => by kernel_rfl) ?_
          refine calm_read (some 37) (by kernel_rfl) (by kernel_rfl) (by kernel_rfl) (fun w' hw' => load_cell (ty := 23) (x := .tmp 36) (b := pb) (o := 1) (by kernel_rfl) (by kernel_rfl) Tryz.underlying23 rfl (kq e1 w' hw')) ?_
          refine calm_pure (some 38) (by kernel_rfl) (by kernel_rfl) (by kernel_rfl) (fun _ => by kernel_rfl) ?_
          refine calm_pure (some 39) (by kernel_rfl) (by kernel_rfl) (by kernel_rfl) (fun _ => by kernel_rfl) ?_
          refine calm_pure (some 40) (by kernel_rfl) (by kernel_rfl) (by kernel_rfl) (fun _ => index_fs (n := m) (c := m) (x := .tmp 38) (y := .tmp 39) (by kernel_rfl) (by kernel_rfl) (by kernel_rfl) hlt _) ?_
          refine calm_read (some 41) (by kernel_rfl) (by kernel_rfl) (by kernel_rfl) (fun w' hw' => load_cell (ty := 23) (x := .tmp 40) (b := g) (o := k) (by kernel_rfl) (by kernel_rfl) Tryz.underlying23 rfl (kq ek w' hw')) ?_
          refine calm_pure (some 42) (by kernel_rfl) (by kernel_rfl) (by kernel_rfl) (fun _ => sub_op (ty := 23) (tz := 23) (p := .tmp 37) (q := .tmp 41) (by kernel_rfl) (by kernel_rfl) (by kernel_rfl) ht _) ?_
          refine calm_pure (some 43) (by kernel_rfl) (by kernel_rfl) (by kernel_rfl) (fun _ => by kernel_rfl) ?_
          refine calm_pure (some 44) (by kernel_rfl) (by kernel_rfl) (by kernel_rfl) (fun _ => by kernel_rfl) ?_
          refine calm_pure (some 4) (by kernel_rfl) (by kernel_rfl) (by kernel_rfl) (fun _ => by kernel_rfl) ?_
          refine calm_end fun V8 hV8 => plan_end (Clean.normal ?_)
          simp only [Act.put, List.setIfInBounds_toArray, List.set_cons_zero, List.set_cons_succ]
          have BE := Lib.hid (YB.out.trans ((EB.out.trans (hV8.below _)).mono YB.out.size))
          have HZ := Lib.hid (show num .f32 t = fop .f32 .sub (num .f32 l) (num .f32 (K.h q)) by rw [ht]; exact num_of_fop ht)
          clear e1 ek hV8 ht
          go_wp2
          go_ret
          exact ⟨BE.out, .inr (.inr ⟨rfl, k, ((q : Int), l), t, HE2.out, HLB2.out, hA.out, rfl, by simpa using HZ.out⟩)⟩
      · obtain rfl : m = k := by omega
        have HA2 := Lib.hid (show ∀ (j : Nat) (e : T2), Lw[j]? = some e → lowB K e = false from fun j e he => hA.out j e (by rw [← HM.out]; exact (List.getElem?_eq_some_iff.1 he).1) he)
        have BE := Lib.hid (YB.out.trans (QB.out.mono YB.out.size))
        clear hA
        go_wp2
        go_ret
        exact ⟨BE.out, .inr (.inl ⟨rfl, HA2.out, rfl⟩)⟩
  · have HY := Lib.hid (show (y : Int) ≠ 0 from hne)
    have BE := Lib.hid hb
    have HE := Lib.hid (errG_ne (n := y) hne)
    dsimp only
    rw [HE.out]
    clear HLV hmw hne hb
    go_wp2
    go_ret
    exact ⟨BE.out, .inl ⟨HY.out, by rw [HE.out]; rfl⟩⟩
end Go.Proofs.YtaghnminpfgdcaaGreatDoor
