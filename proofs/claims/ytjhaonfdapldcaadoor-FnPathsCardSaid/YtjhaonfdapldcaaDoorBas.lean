/- BasinOf, of both sides. Condition: the table of math/bits is laid (the program's). -/
import Derived.Test.YtjhaonfdapldcaaDoorPti
namespace Go.Proofs.YtjhaonfdapldcaaDoor
open Go Go.RowKit Go.Shelf
attribute [local go_sem] Oper.semAt_some
set_option linter.unusedSimpArgs false
set_option linter.unusedVariables false

/-- Where a cell's water comes to. -/
def endW (G : Gd) (i : Nat) : Nat := (ptV G i).1.getD ((ptV G i).1.length - 1) 0
/-- Of the first n cells, those whose water comes to a cell. -/
def baTo (G : Gd) (c : Nat) : Nat → Option (List Nat)
  | 0 => some []
  | n + 1 => (baTo G c n).bind fun V => if isB G n = true then (if (ptV G n).2 = true then some (if endW G n = c then n :: V else V) else none) else some V
def baV (G : Gd) (c : Int) : Int × Int := if askedN G c = 0 then (match baTo G c.toNat 64 with | some V => (((maskL V : Nat) : Int), 0) | none => (0, 4)) else (0, askedN G c)
theorem baTo_dead {G : Gd} {c n : Nat} (h : baTo G c n = none) : ∀ m, n ≤ m → baTo G c m = none
  | 0, hm => by obtain rfl : n = 0 := by omega
                exact h
  | m + 1, hm => by
    by_cases e : n = m + 1
    · subst e; exact h
    · have := baTo_dead h m (by omega)
      simp [baTo, this]
theorem baTo_skip {G : Gd} {c n : Nat} {V : List Nat} (h : baTo G c n = some V) (hi : isB G n = false) : baTo G c (n + 1) = some V := by simp [baTo, h, hi]
theorem baTo_bad {G : Gd} {c n : Nat} {V : List Nat} (h : baTo G c n = some V) (hi : isB G n = true) (ho : (ptV G n).2 = false) : baTo G c (n + 1) = none := by simp [baTo, h, hi, ho]
theorem baTo_in {G : Gd} {c n : Nat} {V : List Nat} (h : baTo G c n = some V) (hi : isB G n = true) (ho : (ptV G n).2 = true) (he : endW G n = c) : baTo G c (n + 1) = some (n :: V) := by simp [baTo, h, hi, ho, he]
theorem baTo_out {G : Gd} {c n : Nat} {V : List Nat} (h : baTo G c n = some V) (hi : isB G n = true) (ho : (ptV G n).2 = true) (he : endW G n ≠ c) : baTo G c (n + 1) = some V := by simp [baTo, h, hi, ho, he]
theorem cons_lt {n : Nat} {V : List Nat} (h : n < 64) (hV : ∀ j ∈ V, j < 64) : ∀ j ∈ n :: V, j < 64 := fun j hj => by
  rw [List.mem_cons] at hj
  rcases hj with rfl | hj
  · exact h
  · exact hV j hj
theorem pt_end {G : Gd} {i : Nat} (ho : (ptV G i).2 = true) : ∃ r, (ptV G i).1.length = r + 1 ∧ r ≤ 64 ∧ (ptV G i).1[r]? = some (endW G i) := by
  have hw : (ptV G i).1 = wayL G i := by
    unfold ptV at ho ⊢
    split
    · rfl
    · rename_i h; rw [if_neg h] at ho; cases ho
  obtain ⟨t, ht⟩ := way_head G i
  have hl : (ptV G i).1.length = t.length + 1 := by rw [hw, ht]; rfl
  have h65 := way_len G i
  rw [ht, List.length_cons] at h65
  refine ⟨t.length, hl, by omega, ?_⟩
  unfold endW
  rw [hl, Nat.add_sub_cancel, List.getD, List.getElem?_eq_getElem (by omega)]
  rfl
set_option maxRecDepth 100000 in
set_option maxHeartbeats 2000000 in
theorem specBA_any (G : Gd) (c : Int) (w : World) (hG : GdOk G) :
    Calls Tryd.prog 22 #[.agg (Grd G), .int .i64 c] w fun e w' => e = .returned (.tuple #[.int .u64 (baV G c).1, .int .i64 (baV G c).2]) ∧ Below w.heap.size w w' := by
  go_enter Tryd.func22, Tryd.ntmps22
  go_upto_region 1 with (fail)
  obtain ⟨W, hW, hs, g1, hB⟩ := gbox1 G 32 w
  rw [hW]
  clear hW
  have G1 := Lib.hid g1
  have HB := Lib.hid hB
  have HG := Lib.hid hG
  have hl : w.heap.size < W.heap.size := by omega
  clear g1 hB hs hG
  by_cases ha : askedN G c = 0
  · obtain ⟨k, rfl, hk, hv, hb⟩ := asked_in ha
    have Ha := Lib.hid ha
    have GP := Lib.hid (fun V (h : Below W.heap.size W V) => (G1.out.below h hl).at')
    have TP0 := Lib.hid (fun (i : Nat) (hi : i < 64) (hib : isB G i = true) V (h : Below W.heap.size W V) => l02Path_any G i hi hib hv HG.out w.heap.size V ((G1.out.below h hl).at') (Nat.lt_of_lt_of_le hl h.size))
    have HR := Lib.hid (show baV G (k : Int) = (match baTo G k 64 with | some V => (((maskL V : Nat) : Int), (0 : Int)) | none => (0, 4)) by simp [baV, ha])
    have hki : (k : Int) < 64 := by omega
    clear ha hl
    go_upto_region 6 with (go_at_call 43; have hc := (l01Asked_any G k _ _ G1.out.at' HG.out); rw [Ha.out] at hc; refine hc.mono ?_; clear hc; rintro e w' ⟨rfl, hq⟩; have HQ := Lib.hid (hq.below W.heap.size); clear hq)
    go_loopw [7, 8] (fun (ov iv : Value) (wr : World) => ∃ (n : Nat) (V : List Nat), n ≤ 64 ∧ iv = .int .i64 (n : Int) ∧ ov = .int .u64 ((maskL V : Nat) : Int) ∧ Hid (baTo G k n = some V) ∧ Hid (∀ j ∈ V, j < 64) ∧ Hid (Below W.heap.size W wr)) (fun _ iv _ => 64 - (intOf iv).toNat)
    case atStart => exact ⟨0, [], by omega, rfl, rfl, Lib.hid rfl, Lib.hid (fun j hj => by cases hj), HQ⟩
    case round =>
      obtain ⟨n, V, hn, rfl, rfl, hba, hV, hB⟩ := hrel
      by_cases hlt : n < 64
      · have hni : (n : Int) < 64 := by omega
        cases hib : isB G n
        · have HIB := Lib.hid hib
          have HE := Lib.hid (baTo_skip hba.out hib)
          clear hib
          go_wp2_with (go_at_call 34; refine (l01Is_is G n hlt false HIB.out _ _ (GP.out wr hB.out) HG.out).mono ?_; rintro e V1 ⟨rfl, hw1⟩; cases hw1; dsimp only)
          go_roundw
          case rel => exact ⟨n + 1, V, by omega, by go_num, rfl, HE, hV, hB⟩
          case measure => simp [intOf]; omega
        · have HIB := Lib.hid hib
          have TP := Lib.hid (fun V (h : Below W.heap.size W V) => TP0.out n hlt hib V h)
          obtain ⟨LL, ob, hp⟩ : ∃ LL ob, ptV G n = (LL, ob) := ⟨_, _, rfl⟩
          cases ob
          · have HE := Lib.hid (baTo_dead (baTo_bad hba.out hib (by rw [hp])) 64 (by omega))
            simp only [hp] at TP
            obtain ⟨r, hr⟩ : ∃ r, LL.length = r := ⟨_, rfl⟩
            rw [hr] at TP
            clear hib hp hr
            go_wp2_with (first | (go_at_call 34; refine (l01Is_is G n hlt true HIB.out _ _ (GP.out wr hB.out) HG.out).mono ?_; rintro e V1 ⟨rfl, hw1⟩; cases hw1; dsimp only) | (go_at_call 44; refine (TP.out wr hB.out).mono ?_; rintro e V2 ⟨g, cap, rfl, hc, hV⟩; have HC := Lib.hid hc; have HV2 := Lib.hid (hB.out.trans (hV.mono hB.out.size)); clear hc hV))
            go_ret2
            exact ⟨by rw [HR.out, HE.out]; rfl, HB.out.trans (HV2.out.mono HB.out.size)⟩
          · obtain ⟨r, hr, hr64, hlast⟩ := pt_end (G := G) (i := n) (by rw [hp])
            have ho : (ptV G n).2 = true := by rw [hp]
            obtain ⟨e, he⟩ : ∃ e, endW G n = e := ⟨_, rfl⟩
            have HLA := Lib.hid (show LL[r]? = some e by rw [hp] at hlast; rw [← he]; exact hlast)
            simp only [hp] at TP hr
            rw [hr] at TP
            by_cases hec : e = k
            · have HE := Lib.hid (baTo_in hba.out hib ho (by rw [he, hec]))
              have HOR := Lib.hid (or_bit (maskL V) n (maskL_lt hV.out) hlt)
              have hwk : IntKind.u64.wrap ((n : Nat) : Int) = (n : Int) := by rw [IntKind.wrap_u64]; omega
              subst hec
              clear hib hp hr ho he hlast
              go_upto_region 12 with (first | (go_at_call 34; refine (l01Is_is G n hlt true HIB.out _ _ (GP.out wr hB.out) HG.out).mono ?_; rintro e V1 ⟨rfl, hw1⟩; cases hw1; dsimp only) | (go_at_call 44; refine (TP.out wr hB.out).mono ?_; rintro e V2 ⟨g, cap, rfl, hc, hV⟩; have HC := Lib.hid hc; have HV2 := Lib.hid (hB.out.trans (hV.mono hB.out.size)); clear hc hV))
              obtain ⟨g0, hg0, hc0⟩ := HC.out r e HLA.out
              cases hg0
              go_wp2
              go_roundw
              case rel => exact ⟨n + 1, n :: V, by omega, by go_num, by rw [maskL_push, ← HOR.out], HE, Lib.hid (cons_lt hlt hV.out), HV2⟩
              case measure => simp [intOf]; omega
            · have HE := Lib.hid (baTo_out hba.out hib ho (by rw [he]; exact hec))
              have hei : ((e : Int) == (k : Int)) = false := by simp; omega
              have heq : (e : Int) ≠ k := by omega
              clear hib hp hr ho he hlast
              go_upto_region 12 with (first | (go_at_call 34; refine (l01Is_is G n hlt true HIB.out _ _ (GP.out wr hB.out) HG.out).mono ?_; rintro e V1 ⟨rfl, hw1⟩; cases hw1; dsimp only) | (go_at_call 44; refine (TP.out wr hB.out).mono ?_; rintro e V2 ⟨g, cap, rfl, hc, hV⟩; have HC := Lib.hid hc; have HV2 := Lib.hid (hB.out.trans (hV.mono hB.out.size)); clear hc hV))
              obtain ⟨g0, hg0, hc0⟩ := HC.out r e HLA.out
              cases hg0
              go_wp2
              go_roundw
              case rel => exact ⟨n + 1, V, by omega, by go_num, rfl, HE, hV, HV2⟩
              case measure => simp [intOf]; omega
      · obtain rfl : n = 64 := by omega
        go_wp2
        go_ret2
        exact ⟨by rw [HR.out, hba.out]; rfl, HB.out.trans (hB.out.mono HB.out.size)⟩
  · have hne : (askedN G c != 0) = true := by simpa [bne] using ha
    have R := Lib.hid (show baV G c = (0, askedN G c) by simp [baV, ha])
    clear ha
    go_wp2_with (go_at_call 43; refine (l01Asked_any G c _ _ G1.out.at' HG.out).mono ?_; rintro e w' ⟨rfl, n, rfl⟩)
    go_ret2
    exact ⟨by rw [R.out]; rfl, HB.out.trans (Quiet.below ⟨n, rfl⟩ _)⟩
/-- The cells of a list whose water comes to a cell. -/
def baL (G : Gd) (c : Nat) (l : List Nat) : Option (List Nat) := l.foldl (fun o n => o.bind fun V => if (ptV G n).2 = true then some (if endW G n = c then n :: V else V) else none) (some [])
theorem baL_snoc (G : Gd) (c : Nat) (l : List Nat) (n : Nat) : baL G c (l ++ [n]) = (baL G c l).bind fun V => if (ptV G n).2 = true then some (if endW G n = c then n :: V else V) else none := by
  unfold baL
  rw [List.foldl_append]
  rfl
theorem baL_cells (G : Gd) (c : Nat) : ∀ n, baL G c ((List.range n).filter fun i => isB G i) = baTo G c n
  | 0 => rfl
  | n + 1 => by
    have ih := baL_cells G c n
    rw [List.range_succ, List.filter_append]
    cases hi : isB G n
    · rw [List.filter_cons_of_neg (by rw [hi]; decide), List.filter_nil, List.append_nil, ih]
      cases hb : baTo G c n <;> simp [baTo, hb, hi]
    · rw [List.filter_cons_of_pos hi, List.filter_nil, baL_snoc, ih]
      cases hb : baTo G c n <;> simp [baTo, hb, hi]
theorem baL_bits (G : Gd) (c : Nat) : baL G c (bitsL (cellsN G)) = baTo G c 64 := by
  rw [← baL_cells]
  congr 1
  unfold bitsL
  refine List.filter_congr fun i hi => ?_
  rw [cellsN_testBit]
  have := List.mem_range.1 hi
  simp [this]
theorem baL_dead {G : Gd} {c : Nat} {l r : List Nat} (h : baL G c l = none) (hp : l <+: r) : baL G c r = none := by
  obtain ⟨t, rfl⟩ := hp
  unfold baL at h ⊢
  rw [List.foldl_append, h]
  induction t with
  | nil => rfl
  | cons x t ih => exact ih
theorem eqI_same {op : Oper} {a : Act} {x y : Operand} {v : Int} (ho : op.op = .binOp .eql 2 x y 2) (hx : a.eval x = .int .i64 v) (hy : a.eval y = .int .i64 v) (w : World) :
    (execOp a.eval op).run Tryd.prog w = .ok (.value (.bool true)) w := by
  unfold execOp
  simp only [ho, hx, hy]
  go_simp
theorem eqI_diff {op : Oper} {a : Act} {x y : Operand} {u v : Int} (ho : op.op = .binOp .eql 2 x y 2) (hx : a.eval x = .int .i64 u) (hy : a.eval y = .int .i64 v) (h : u ≠ v) (w : World) :
    (execOp a.eval op).run Tryd.prog w = .ok (.value (.bool false)) w := by
  unfold execOp
  simp only [ho, hx, hy]
  go_simp
theorem subB {P : Program} {op : Oper} {a : Act} {ty tz : TypeId} {p q : Operand} {x y z : Int} (ho : op.op = .binOp .sub ty p q tz) (hx : a.eval p = .int .i64 x) (hy : a.eval q = .int .i64 y) (hz : z = x - y) (hb : -9223372036854775808 ≤ z ∧ z ≤ 9223372036854775807) (w : World) :
    (execOp a.eval op).run P w = .ok (.value (.int .i64 z)) w := by
  subst hz
  unfold execOp
  simp only [ho, hx, hy]
  go_simp
  simp only [IntWalk.i64_left, IntWalk.wrap64_in _ hb]
theorem ba_boxes (c : Int) (W : World) : ∃ X, ((W.alloc (.cells #[.int .i64 c] 2)).alloc (.cells #[.int .u64 0] 25)).alloc (.cells #[.int .i64 0] 2) = X ∧ X.heap.size = W.heap.size + 1 + 1 + 1 ∧ Boxed X W.heap.size 2 (.int .i64 c) ∧ Boxed X (W.heap.size + 1) 25 (.int .u64 0) ∧ Boxed X (W.heap.size + 1 + 1) 2 (.int .i64 0) ∧ Below W.heap.size W X := by
  obtain ⟨W1, h1⟩ : ∃ W1, W.alloc (.cells #[.int .i64 c] 2) = W1 := ⟨_, rfl⟩
  have z1 : W1.heap.size = W.heap.size + 1 := by rw [← h1]; simp
  have c1 : Boxed W1 W.heap.size 2 (.int .i64 c) := by rw [← h1]; exact Boxed.new _ _ _
  have l1 : Below W.heap.size W W1 := by rw [← h1]; exact (Below.refl _ _).alloc (Nat.le_refl _) _
  obtain ⟨W2, h2⟩ : ∃ W2, W1.alloc (.cells #[.int .u64 0] 25) = W2 := ⟨_, rfl⟩
  have z2 : W2.heap.size = W.heap.size + 1 + 1 := by rw [← h2]; simp [z1]
  have c2 : Boxed W2 (W.heap.size + 1) 25 (.int .u64 0) := by have := Boxed.new W1 25 (.int .u64 0); rwa [z1, h2] at this
  obtain ⟨W3, h3⟩ : ∃ W3, W2.alloc (.cells #[.int .i64 0] 2) = W3 := ⟨_, rfl⟩
  have z3 : W3.heap.size = W.heap.size + 1 + 1 + 1 := by rw [← h3]; simp [z2]
  have c3 : Boxed W3 (W.heap.size + 1 + 1) 2 (.int .i64 0) := by have := Boxed.new W2 2 (.int .i64 0); rwa [z2, h3] at this
  exact ⟨W3, by rw [h1, h2, h3], z3, by rw [← h3, ← h2]; exact (c1.alloc _).alloc _, by rw [← h3]; exact c2.alloc _, c3, by rw [← h3, ← h2]; exact (l1.alloc l1.size _).alloc (by simp; omega) _⟩
set_option maxRecDepth 100000 in
theorem results_ba (tmps : Array Value) (w : World) (b1 b2 : Nat) (m n : Int) (h4 : tmps.getD 4 undef = .pointer (some ⟨b1, 0, none⟩)) (h5 : tmps.getD 5 undef = .pointer (some ⟨b2, 0, none⟩)) (c1 : w.cell? ⟨b1, 0, none⟩ = some (.int .u64 m)) (c2 : w.cell? ⟨b2, 0, none⟩ = some (.int .i64 n)) : (results Tryd.f21 tmps).run Tryd.prog w = .ok (.tuple #[.int .u64 m, .int .i64 n]) w := by
  have h4' : tmps[4]?.getD undef = .pointer (some ⟨b1, 0, none⟩) := by simpa using h4
  have h5' : tmps[5]?.getD undef = .pointer (some ⟨b2, 0, none⟩) := by simpa using h5
  simp [results, Tryd.results21, h4', h5', asAddr, isAgg, run_underlying Tryd.underlying25, run_underlying Tryd.underlying2, go_sem, c1, c2]
set_option maxRecDepth 100000 in
set_option maxHeartbeats 2000000 in
theorem implBA_bad (G : Gd) (c : Int) (w : World) (hG : GdOk G) (l1 : -9223372036854775808 ≤ c) (l2 : c ≤ 9223372036854775807) (hT : TabAt w) (ha : askedN G c ≠ 0) :
    Calls Tryd.prog 21 #[.agg (Grd G), .int .i64 c] w fun e w' => e = .returned (.tuple #[.int .u64 0, .int .i64 (askedN G c)]) ∧ Below w.heap.size w w' := by
  go_enter Tryd.func21, Tryd.ntmps21
  go_upto_region 1 with (fail)
  obtain ⟨W, hW, hs, g1, hB, hT1⟩ := box_in G 32 w hT
  rw [hW]
  clear hW
  obtain ⟨X, hX, zX, b1, b2, b3, bX⟩ := ba_boxes c W
  rw [hs] at zX b1 b2 b3
  try simp only [hs]
  rw [hX]
  clear hX
  have hl : w.heap.size < X.heap.size := by omega
  have TC := Lib.hid (checkCell_any G c l1 l2 w.heap.size X (g1.below bX (by omega)).at' hl hG (hT1.below bX (tab_lt hT1)))
  have c1 := b1.cell
  have c2 := b2.cell
  have f2 := b2.frozen
  have c3 := b3.cell
  have f3 := b3.frozen
  have HB := Lib.hid (hB.trans (bX.mono hB.size))
  have hne : (askedN G c != 0) = true := by simpa [bne] using ha
  have B2 := Lib.hid b2
  have B3 := Lib.hid b3
  have hz2 : w.heap.size + 1 + 1 < X.heap.size := by omega
  have hz3 : w.heap.size + 1 + 1 + 1 < X.heap.size := by omega
  obtain ⟨ac, hac⟩ : ∃ ac, askedN G c = ac := ⟨_, rfl⟩
  rw [hac] at TC hne
  have HAC := Lib.hid hac
  clear ha g1 hB hs hG hT hT1 b1 b2 b3 bX zX hac
  go_wp2_with (go_at_call 41; refine TC.out.mono ?_; rintro e V ⟨rfl, hV⟩; have k2 := (B2.out.kept (grown_of_below hV) (by simp)).cell; have g2 := (B2.out.kept (grown_of_below hV) (by simp)).frozen; have k3 := (B3.out.kept (grown_of_below hV) (by simp)).cell; have g3 := (B3.out.kept (grown_of_below hV) (by simp)).frozen; have HV := Lib.hid hV; clear hV c1 c2 f2 c3 f3)
  have e2 := (B2.out.kept (grown_of_below HV.out) (by simp)).set (.int .u64 0)
  have e2' := e2.kept (grownBy_setCell' _ (w.heap.size + 1 + 1 + 1) (.int .i64 ac)) (fun e => by have := Option.some.inj e; omega)
  have e3 := ((B3.out.kept (grown_of_below HV.out) (by simp)).kept (grownBy_setCell' V (w.heap.size + 1 + 1) (.int .u64 0)) (fun e => by have := Option.some.inj e; omega)).set (.int .i64 ac)
  refine bodyPost_ret (results_ba _ _ _ _ _ _ rfl rfl e2'.cell e3.cell) rfl ⟨by rw [HAC.out], ?_⟩
  exact ((HB.out.trans (HV.out.mono HB.out.size)).setCell (p := ⟨w.heap.size + 1 + 1, 0, none⟩) (by show w.heap.size ≤ w.heap.size + 1 + 1; omega) _).setCell (p := ⟨w.heap.size + 1 + 1 + 1, 0, none⟩) (by show w.heap.size ≤ w.heap.size + 1 + 1 + 1; omega) _
set_option maxRecDepth 100000 in
set_option maxHeartbeats 4000000 in
theorem implBA_good (G : Gd) (k : Nat) (hk : k < 64) (hv : validB G = true) (hkb : isB G k = true) (ha : askedN G (k : Int) = 0) (w : World) (hG : GdOk G) (hT : TabAt w) :
    Calls Tryd.prog 21 #[.agg (Grd G), .int .i64 (k : Int)] w fun e w' => e = .returned (.tuple #[.int .u64 (baV G (k : Int)).1, .int .i64 (baV G (k : Int)).2]) ∧ Below w.heap.size w w' := by
  obtain ⟨m0, n0, hR⟩ : ∃ m0 n0, baV G (k : Int) = (m0, n0) := ⟨_, _, rfl⟩
  rw [hR]
  have HR := Lib.hid (show (match baTo G k 64 with | some V => (((maskL V : Nat) : Int), (0 : Int)) | none => (0, 4)) = (m0, n0) by rw [← hR]; simp [baV, ha])
  clear hR
  refine (callsIn_wide (n := 6)).1 (callsIn_of_wp_marks Tryd.func21 rfl trivial ?_ rfl)
  simp only [Tryd.ntmps21, List.size_toArray, List.length_cons, List.length_nil, Nat.reduceAdd, Nat.reduceSub, Array.replicate_succ, Array.replicate_zero, List.push_toArray, List.append_toArray, List.nil_append, List.cons_append]
  refine wpIn_wide.2 ?_
  go_upto_region 1 with (fail)
  obtain ⟨W, hW, hs, g1, hB, hT1⟩ := box_in G 32 w hT
  rw [hW]
  clear hW
  obtain ⟨X, hX, zX, b1, b2, b3, bX⟩ := ba_boxes (k : Int) W
  rw [hs] at zX b1 b2 b3
  try simp only [hs]
  rw [hX]
  clear hX
  have hl : w.heap.size < X.heap.size := by omega
  have TC := checkCell_any G (k : Int) (by omega) (by omega) w.heap.size X (g1.below bX (by omega)).at' hl hG (hT1.below bX (tab_lt hT1))
  rw [ha] at TC
  have TC := Lib.hid TC
  have c1 := b1.cell
  have HB := Lib.hid (hB.trans (bX.mono hB.size))
  have GX := Lib.hid (g1.below bX (by omega))
  have HTX := Lib.hid (hT1.below bX (tab_lt hT1))
  have glt := tab_lt hT
  have HV := Lib.hid hv
  have HG := Lib.hid hG
  have B1 := Lib.hid b1
  have B2 := Lib.hid b2
  have B3 := Lib.hid b3
  have hki : (k : Int) < 64 := by omega
  clear ha g1 hB hs hG hT hT1 b1 b2 b3 bX hv
  go_upto_region 5 with (go_at_call 41; refine TC.out.mono ?_; rintro e V ⟨rfl, hV⟩; have HVX := Lib.hid hV; clear hV c1)
  obtain ⟨Y, hY, zY, cN, hbY⟩ : ∃ Y, V.alloc (.cells #[.int .u64 0] 25) = Y ∧ Y.heap.size = V.heap.size + 1 ∧ Boxed Y V.heap.size 25 (.int .u64 0) ∧ Below V.heap.size V Y := ⟨_, rfl, by simp, Boxed.new _ _ _, (Below.refl _ _).alloc (Nat.le_refl _) _⟩
  rw [hY]
  clear hY
  have hXY : Below X.heap.size X Y := HVX.out.trans (hbY.mono HVX.out.size)
  have GY := Lib.hid (GX.out.below hXY (by omega))
  have hVs := HVX.out.size
  obtain ⟨N, hN⟩ : ∃ N, V.heap.size = N := ⟨_, rfl⟩
  rw [hN] at cN zY hVs
  try simp only [hN]
  have hgy := grown_of_below hXY
  have y1 := Lib.hid (B1.out.kept hgy (by simp))
  have y2 := Lib.hid (B2.out.kept hgy (by simp))
  have y3 := Lib.hid (B3.out.kept hgy (by simp))
  have BY := Lib.hid (HB.out.trans (hXY.mono HB.out.size))
  have TY := Lib.hid (HTX.out.below hXY (tab_lt HTX.out))
  have CN := Lib.hid cN
  have m64 := cellsN_lt G
  clear hN hgy hXY hbY cN B1 B2 B3 HB HTX GX TC
  go_wp2_with (first | (go_at_call 36; refine (cells_valid G HV.out _ _ GY.out.at').mono ?_; rintro e w' ⟨rfl, hw'⟩; cases hw'; dsimp only) | (go_at_call 30; refine (bitsIn_any (cellsN G) _).mono ?_; rintro e w' ⟨rfl, rfl⟩))
  obtain ⟨U, hU⟩ : ∃ U, Y.alloc (.cells #[.int .u64 (cellsN G)] 25) = U := ⟨_, rfl⟩
  have hbU : Below Y.heap.size Y U := by rw [← hU]; exact (Below.refl _ _).alloc (Nat.le_refl _) _
  have cM : U.cell? ⟨Y.heap.size, 0, none⟩ = some (.int .u64 (cellsN G)) := by rw [← hU]; exact cell_of_row _ _ 0 _ _ _ (heap_alloc_last Y _)
  have zU : Y.heap.size < U.heap.size := by rw [← hU]; simp
  have hgu := grown_of_below hbU
  have u1 := (y1.out.kept hgu (by simp)).cell
  have u2 := (y2.out.kept hgu (by simp))
  have u3 := (y3.out.kept hgu (by simp))
  have uN := (CN.out.kept hgu (by simp))
  have GU := Lib.hid (GY.out.below hbU (by omega))
  have BU := Lib.hid (BY.out.trans (hbU.mono BY.out.size))
  have TU := TY.out.below hbU (tab_lt TY.out)
  rw [hU]
  rw [zY] at cM
  clear hU hbU hgu y1 y2 y3 CN GY BY TY
  refine (wpIn_wide (n := 6)).1 (wp_bits 17 18 8 (N + 1) (w.heap.size + 1 + 1) (cellsN G) m64 rfl cM TU (by omega) (by omega)
    (fun pre W2 => ∃ V : List Nat, baL G k pre = some V ∧ (∀ j ∈ V, j < 64) ∧ W2.cell? ⟨N, 0, none⟩ = some (.int .u64 ((maskL V : Nat) : Int)) ∧ W2.frozen? ⟨N, 0, none⟩ = false ∧ W2.cell? ⟨w.heap.size + 1 + 1, 0, none⟩ = some (.int .u64 0) ∧ W2.frozen? ⟨w.heap.size + 1 + 1, 0, none⟩ = false ∧ W2.cell? ⟨w.heap.size + 1 + 1 + 1, 0, none⟩ = some (.int .i64 0) ∧ W2.frozen? ⟨w.heap.size + 1 + 1 + 1, 0, none⟩ = false)
    (fun c pre W2 => c = .ret ∧ W2.cell? ⟨w.heap.size + 1 + 1, 0, none⟩ = some (.int .u64 0) ∧ W2.cell? ⟨w.heap.size + 1 + 1 + 1, 0, none⟩ = some (.int .i64 4) ∧ baL G k pre = none)
    (fun s A B h ⟨V, a1, a2, a3, a4, a5, a6, a7, a8⟩ => ⟨V, a1, a2, h.cell a3, (h.frozen a3).trans a4, h.cell a5, (h.frozen a5).trans a6, h.cell a7, (h.frozen a7).trans a8⟩) (fun _ _ _ _ h ⟨a1, a2, a3, a4⟩ => ⟨a1, h.cell a2, h.cell a3, a4⟩)
    ⟨[], rfl, fun j hj => (by cases hj), uN.cell, uN.frozen, u2.cell, u2.frozen, u3.cell, u3.frozen⟩ ?assign ?body ?done ?stop)
  case assign =>
    intro l x W K hK
    simp only [List.setIfInBounds_toArray, List.set_cons_zero, List.set_cons_succ] at hK ⊢
    gi_wp2
    exact hK
  case body =>
    rintro l pre x W2 ⟨V2, a1, a2, a3, a4, a5, a6, a7, a8⟩ hB2 hbit hx64
    simp only [List.setIfInBounds_toArray, List.set_cons_zero, List.set_cons_succ]
    have hib : isB G x.1 = true := by have := hbit; rw [cellsN_testBit] at this; simp at this; exact this.2
    obtain ⟨y, hy⟩ : ∃ y, x.1 = y := ⟨_, rfl⟩
    rw [hy] at hib hx64 hbit ⊢
    have HYY := Lib.hid hy
    have gp := Lib.hid (GU.out.below hB2 (by omega))
    have hzB := hB2.size
    have hl6 : w.heap.size < W2.heap.size := by omega
    have TP := Lib.hid (pathFrom_any G y hx64 hib HV.out w.heap.size W2 gp.out.at' hl6 HG.out)
    have k1 := (hB2.cell (p := ⟨w.heap.size + 1, 0, none⟩) (by show w.heap.size + 1 < w.heap.size + 1 + 1; omega)).trans u1
    have hsn := Lib.hid (show baL G k (nos (pre ++ [x])) = (if (ptV G y).2 = true then some (if endW G y = k then y :: V2 else V2) else none) by rw [nos_snoc, HYY.out, baL_snoc, a1]; rfl)
    obtain ⟨LL, ob, hp⟩ : ∃ LL ob, ptV G y = (LL, ob) := ⟨_, _, rfl⟩
    have hN2 : N < W2.heap.size := World.block_lt_of_cell? W2 _ a3
    have hyi : (y : Int) < 64 := by omega
    have HB2 := Lib.hid hB2
    have A1 := Lib.hid a1
    have A2 := Lib.hid a2
    clear hB2 hbit a1 a2 hy
    cases ob
    · have HN := Lib.hid (show baL G k (nos (pre ++ [x])) = none by rw [hsn.out, hp]; rfl)
      simp only [hp] at TP
      obtain ⟨r, hr⟩ : ∃ r, LL.length = r := ⟨_, rfl⟩
      rw [hr] at TP
      clear hp hr hsn
      gi_wp2_with (first | (refine ⟨trivial, ?_⟩; gi_at_call 42; refine (callsIn_wide.2 TP.out).mono ?_; rintro e W6 ⟨q, cap, rfl, _, _, hb⟩; have Hb := Lib.hid hb; have d2 := (hb.cell (p := ⟨w.heap.size + 1 + 1, 0, none⟩) (by show w.heap.size + 1 + 1 < W2.heap.size; omega)).trans a5; have g2 := (hb.frozen (p := ⟨w.heap.size + 1 + 1, 0, none⟩) (by show w.heap.size + 1 + 1 < W2.heap.size; omega)).trans a6; have d3 := (hb.cell (p := ⟨w.heap.size + 1 + 1 + 1, 0, none⟩) (by show w.heap.size + 1 + 1 + 1 < W2.heap.size; omega)).trans a7; have g3 := (hb.frozen (p := ⟨w.heap.size + 1 + 1 + 1, 0, none⟩) (by show w.heap.size + 1 + 1 + 1 < W2.heap.size; omega)).trans a8; clear hb) | (refine ⟨trivial, ?_⟩))
      have ne : (⟨w.heap.size + 1 + 1 + 1, 0, none⟩ : Addr) ≠ ⟨w.heap.size + 1 + 1, 0, none⟩ := fun e => by have := congrArg Addr.block e; simp at this
      have z2 : ((W6.setCell ⟨w.heap.size + 1 + 1, 0, none⟩ (.int .u64 0)).setCell ⟨w.heap.size + 1 + 1 + 1, 0, none⟩ (.int .i64 4)).cell? ⟨w.heap.size + 1 + 1, 0, none⟩ = some (.int .u64 0) := Eq.trans (first_other ne) (World.cell?_setCell_same' _ _ _ (by rw [d2]; rfl))
      have z3 : ((W6.setCell ⟨w.heap.size + 1 + 1, 0, none⟩ (.int .u64 0)).setCell ⟨w.heap.size + 1 + 1 + 1, 0, none⟩ (.int .i64 4)).cell? ⟨w.heap.size + 1 + 1 + 1, 0, none⟩ = some (.int .i64 4) := World.cell?_setCell_same' _ _ _ (by rw [first_other ne.symm, d3]; rfl)
      have kb : Below (w.heap.size + 1 + 1) W2 ((W6.setCell ⟨w.heap.size + 1 + 1, 0, none⟩ (.int .u64 0)).setCell ⟨w.heap.size + 1 + 1 + 1, 0, none⟩ (.int .i64 4)) := ((Hb.out.mono (show w.heap.size + 1 + 1 ≤ W2.heap.size by omega)).setCell (p := ⟨w.heap.size + 1 + 1, 0, none⟩) (Nat.le_refl _) _).setCell (p := ⟨w.heap.size + 1 + 1 + 1, 0, none⟩) (by show w.heap.size + 1 + 1 ≤ w.heap.size + 1 + 1 + 1; omega) _
      exact ⟨((KeepsOthers.of_below' Hb.out).trans (KeepsOthers.setCell _ _ _)).trans (KeepsOthers.setCell _ _ _), ⟨rfl, z2, z3, HN.out⟩, HB2.out.trans kb⟩
    · obtain ⟨r, hr, hr64, hlast⟩ := pt_end (G := G) (i := y) (by rw [hp])
      obtain ⟨e0, he⟩ : ∃ e, endW G y = e := ⟨_, rfl⟩
      have HLA := Lib.hid (show LL[r]? = some e0 by rw [hp] at hlast; rw [← he]; exact hlast)
      have HN := Lib.hid (show baL G k (nos (pre ++ [x])) = some (if e0 = k then y :: V2 else V2) by rw [hsn.out, hp, he]; rfl)
      simp only [hp] at TP hr
      rw [hr] at TP
      clear hp hr hsn he hlast
      gi_upto_region 10 with (first | (refine ⟨trivial, ?_⟩; gi_at_call 42; refine (callsIn_wide.2 TP.out).mono ?_; rintro e W6 ⟨q, cap, rfl, hc, _, hb⟩; have HC := Lib.hid hc; have Hb := Lib.hid hb; clear hb hc) | (refine ⟨trivial, ?_⟩))
      obtain ⟨g, hg, cE⟩ := HC.out r e0 HLA.out
      subst hg
      have k16 := (Hb.out.cell (p := ⟨w.heap.size + 1, 0, none⟩) (by show w.heap.size + 1 < W2.heap.size; omega)).trans k1
      by_cases hek : e0 = k
      · subst hek
        rw [if_pos rfl] at HN
        refine wpIn_region_calm (ops' := regOf Tryd.f21 10) [0, 1, 2, 3, 4, 5, 6, 7] [] .fin (Quiet W6) [(0, One (.slice (some ⟨g, 0, none⟩) (r + 1) cap)), (1, One (.slice (some ⟨g, 0, none⟩) (r + 1) cap)), (2, One (.int .i64 ((r + 1 : Nat) : Int))), (3, One (.int .i64 (r : Int))), (4, One (.pointer (some ⟨g, r, none⟩))), (5, One (.int .i64 (e0 : Int))), (6, One (.int .i64 (e0 : Int))), (7, One (.bool true))] (by kernel_rfl) (by kernel_rfl) (by kernel_rfl) (by kernel_rfl) (by kernel_rfl) (by kernel_rfl) (by kernel_rfl) (by kernel_rfl) (by kernel_rfl) rfl ((Quiet.refl _).drewN 1) ?_
        refine calm_pure (some 27) (by kernel_rfl) (by kernel_rfl) (by kernel_rfl) (fun _ => (by kernel_rfl)) ?_
        refine calm_pure (some 28) (by kernel_rfl) (by kernel_rfl) (by kernel_rfl) (fun _ => (by kernel_rfl)) ?_
        refine calm_pure (some 29) (by kernel_rfl) (by kernel_rfl) (by kernel_rfl) (fun _ => (by kernel_rfl)) ?_
        refine calm_pure (some 30) (by kernel_rfl) (by kernel_rfl) (by kernel_rfl) (fun w' => subB (ty := 3) (tz := 3) (p := .tmp 29) (q := .const (.int .i64 1)) (x := ((r + 1 : Nat) : Int)) (y := 1) (z := (r : Int)) (by kernel_rfl) (by kernel_rfl) (by kernel_rfl) (by omega) (by omega) w') ?_
        refine calm_pure (some 31) (by kernel_rfl) (by kernel_rfl) (by kernel_rfl) (fun w' => index_i64 (n := r + 1) (c := cap) (k := r) (x := .tmp 27) (y := .tmp 30) (by kernel_rfl) (by kernel_rfl) (by kernel_rfl) (by omega) w') ?_
        refine calm_read (some 32) (by kernel_rfl) (by kernel_rfl) (by kernel_rfl) (fun w' hw' => load_cell (ty := 2) (x := .tmp 31) (b := g) (o := r) (by kernel_rfl) (by kernel_rfl) Tryd.underlying2 rfl (kq cE w' hw')) ?_
        refine calm_read (some 33) (by kernel_rfl) (by kernel_rfl) (by kernel_rfl) (fun w' hw' => load_cell (ty := 2) (x := .tmp 3) (b := w.heap.size + 1) (o := 0) (by kernel_rfl) (by kernel_rfl) Tryd.underlying2 rfl (kq k16 w' hw')) ?_
        refine calm_pure (some 34) (by kernel_rfl) (by kernel_rfl) (by kernel_rfl) (fun w' => eqI_same (v := (e0 : Int)) (x := .tmp 32) (y := .tmp 33) (by kernel_rfl) (by kernel_rfl) (by kernel_rfl) w') ?_
        refine calm_end fun w7 hw7 => plan_end (Clean.normal ?_)
        simp only [Act.put, List.setIfInBounds_toArray, List.set_cons_zero, List.set_cons_succ]
        have hb7 := hw7.below W6.heap.size
        have B7 := Lib.hid (Hb.out.trans (hb7.mono Hb.out.size))
        have kN := (B7.out.cell (p := ⟨N, 0, none⟩) hN2).trans a3
        have fN := (B7.out.frozen (p := ⟨N, 0, none⟩) hN2).trans a4
        have k5 := (B7.out.cell (p := ⟨w.heap.size + 1 + 1, 0, none⟩) (by show w.heap.size + 1 + 1 < W2.heap.size; omega)).trans a5
        have k6 := (B7.out.frozen (p := ⟨w.heap.size + 1 + 1, 0, none⟩) (by show w.heap.size + 1 + 1 < W2.heap.size; omega)).trans a6
        have k7 := (B7.out.cell (p := ⟨w.heap.size + 1 + 1 + 1, 0, none⟩) (by show w.heap.size + 1 + 1 + 1 < W2.heap.size; omega)).trans a7
        have k8 := (B7.out.frozen (p := ⟨w.heap.size + 1 + 1 + 1, 0, none⟩) (by show w.heap.size + 1 + 1 + 1 < W2.heap.size; omega)).trans a8
        have kO := KeepsOthers.of_below' B7.out
        have kB : Below (w.heap.size + 1 + 1) W2 w7 := B7.out.mono (by omega)
        clear hw7 hb7
        have hM2 := maskL_lt A2.out
        obtain ⟨M1, hM⟩ : ∃ M1 : Int, ((maskL V2 : Nat) : Int) = M1 := ⟨_, rfl⟩
        have HOR := Lib.hid (show bits .or .u64 M1 (IntKind.u64.wrap (2 ^ y)) = ((maskL (y :: V2) : Nat) : Int) by rw [← hM, or_bit _ _ hM2 hx64]; rfl)
        rw [hM] at kN
        gi_upto_region 11 with (fail)
        refine wpIn_region_calm (ops' := regOf Tryd.f21 11) [0, 1, 2, 3] [4] (.run 4 .fin) (Quiet w7) [(0, One (.int .u64 M1)), (1, One (.int .i64 (y : Int))), (2, One (.int .u64 (IntKind.u64.wrap (2 ^ y)))), (3, One (.int .u64 (bits .or .u64 M1 (IntKind.u64.wrap (2 ^ y)))))] (by kernel_rfl) (by kernel_rfl) (by kernel_rfl) (by kernel_rfl) (by kernel_rfl) (by kernel_rfl) (by kernel_rfl) (by kernel_rfl) (by kernel_rfl) rfl ((Quiet.refl _).drewN 1) ?_
        refine calm_read (some 35) (by kernel_rfl) (by kernel_rfl) (by kernel_rfl) (fun w' hw' => load_cell (ty := 25) (x := .tmp 7) (b := N) (o := 0) (by kernel_rfl) (by kernel_rfl) Tryd.underlying25 rfl (kq kN w' hw')) ?_
        refine calm_pure (some 36) (by kernel_rfl) (by kernel_rfl) (by kernel_rfl) (fun _ => (by kernel_rfl)) ?_
        refine calm_pure (some 37) (by kernel_rfl) (by kernel_rfl) (by kernel_rfl) (fun w' => shlU_op (x := .const (.int .u64 1)) (y := .tmp 36) (by kernel_rfl) (by kernel_rfl) (by kernel_rfl) hx64 w') ?_
        refine calm_pure (some 38) (by kernel_rfl) (by kernel_rfl) (by kernel_rfl) (fun w' => orU_op (x := .tmp 35) (y := .tmp 37) (by kernel_rfl) (by kernel_rfl) (by kernel_rfl) w') ?_
        refine calm_end fun w8 hw8 => plan_do none undef (w8.setCell ⟨N, 0, none⟩ (.int .u64 (bits .or .u64 M1 (IntKind.u64.wrap (2 ^ y))))) (by kernel_rfl) (by kernel_rfl) (by kernel_rfl) (.inr ⟨stU64 (x := .tmp 7) (y := .tmp 38) (by kernel_rfl) (by kernel_rfl) (by kernel_rfl) (kq kN w8 hw8) (hw8.frozen fN), rfl⟩) trivial (plan_end (Clean.normal ?_))
        simp only [Act.put, List.setIfInBounds_toArray, List.set_cons_zero, List.set_cons_succ]
        have neN2 : (⟨N, 0, none⟩ : Addr) ≠ ⟨w.heap.size + 1 + 1, 0, none⟩ := fun e => by have := congrArg Addr.block e; simp at this; omega
        have neN3 : (⟨N, 0, none⟩ : Addr) ≠ ⟨w.heap.size + 1 + 1 + 1, 0, none⟩ := fun e => by have := congrArg Addr.block e; simp at this; omega
        have e1 : (w8.setCell ⟨N, 0, none⟩ (.int .u64 (bits .or .u64 M1 (IntKind.u64.wrap (2 ^ y))))).cell? ⟨N, 0, none⟩ = some (.int .u64 ((maskL (y :: V2) : Nat) : Int)) := by
          rw [HOR.out]
          exact World.cell?_setCell_same' _ _ _ (by rw [kq kN w8 hw8]; rfl)
        have kb8 : Below (w.heap.size + 1 + 1) w7 (w8.setCell ⟨N, 0, none⟩ (.int .u64 (bits .or .u64 M1 (IntKind.u64.wrap (2 ^ y))))) := (hw8.below _).setCell (p := ⟨N, 0, none⟩) (by show w.heap.size + 1 + 1 ≤ N; omega) _
        exact ⟨(kO.trans (KeepsOthers.of_below' (hw8.below _))).trans (KeepsOthers.setCell _ _ _), kB.trans kb8, ⟨y :: V2, HN.out, cons_lt hx64 A2.out, e1, by rw [World.frozen?_setCell]; exact hw8.frozen fN, (first_other neN2).trans (kq k5 w8 hw8), by rw [World.frozen?_setCell]; exact hw8.frozen k6, (first_other neN3).trans (kq k7 w8 hw8), by rw [World.frozen?_setCell]; exact hw8.frozen k8⟩, HB2.out.trans (kB.trans kb8)⟩
      · have hne : (e0 : Int) ≠ (k : Int) := by omega
        rw [if_neg hek] at HN
        refine wpIn_region_calm (ops' := regOf Tryd.f21 10) [0, 1, 2, 3, 4, 5, 6, 7] [] .fin (Quiet W6) [(0, One (.slice (some ⟨g, 0, none⟩) (r + 1) cap)), (1, One (.slice (some ⟨g, 0, none⟩) (r + 1) cap)), (2, One (.int .i64 ((r + 1 : Nat) : Int))), (3, One (.int .i64 (r : Int))), (4, One (.pointer (some ⟨g, r, none⟩))), (5, One (.int .i64 (e0 : Int))), (6, One (.int .i64 (k : Int))), (7, One (.bool false))] (by kernel_rfl) (by kernel_rfl) (by kernel_rfl) (by kernel_rfl) (by kernel_rfl) (by kernel_rfl) (by kernel_rfl) (by kernel_rfl) (by kernel_rfl) rfl ((Quiet.refl _).drewN 1) ?_
        refine calm_pure (some 27) (by kernel_rfl) (by kernel_rfl) (by kernel_rfl) (fun _ => (by kernel_rfl)) ?_
        refine calm_pure (some 28) (by kernel_rfl) (by kernel_rfl) (by kernel_rfl) (fun _ => (by kernel_rfl)) ?_
        refine calm_pure (some 29) (by kernel_rfl) (by kernel_rfl) (by kernel_rfl) (fun _ => (by kernel_rfl)) ?_
        refine calm_pure (some 30) (by kernel_rfl) (by kernel_rfl) (by kernel_rfl) (fun w' => subB (ty := 3) (tz := 3) (p := .tmp 29) (q := .const (.int .i64 1)) (x := ((r + 1 : Nat) : Int)) (y := 1) (z := (r : Int)) (by kernel_rfl) (by kernel_rfl) (by kernel_rfl) (by omega) (by omega) w') ?_
        refine calm_pure (some 31) (by kernel_rfl) (by kernel_rfl) (by kernel_rfl) (fun w' => index_i64 (n := r + 1) (c := cap) (k := r) (x := .tmp 27) (y := .tmp 30) (by kernel_rfl) (by kernel_rfl) (by kernel_rfl) (by omega) w') ?_
        refine calm_read (some 32) (by kernel_rfl) (by kernel_rfl) (by kernel_rfl) (fun w' hw' => load_cell (ty := 2) (x := .tmp 31) (b := g) (o := r) (by kernel_rfl) (by kernel_rfl) Tryd.underlying2 rfl (kq cE w' hw')) ?_
        refine calm_read (some 33) (by kernel_rfl) (by kernel_rfl) (by kernel_rfl) (fun w' hw' => load_cell (ty := 2) (x := .tmp 3) (b := w.heap.size + 1) (o := 0) (by kernel_rfl) (by kernel_rfl) Tryd.underlying2 rfl (kq k16 w' hw')) ?_
        refine calm_pure (some 34) (by kernel_rfl) (by kernel_rfl) (by kernel_rfl) (fun w' => eqI_diff (u := (e0 : Int)) (v := (k : Int)) (x := .tmp 32) (y := .tmp 33) (by kernel_rfl) (by kernel_rfl) (by kernel_rfl) hne w') ?_
        refine calm_end fun w7 hw7 => plan_end (Clean.normal ?_)
        simp only [Act.put, List.setIfInBounds_toArray, List.set_cons_zero, List.set_cons_succ]
        have hb7 := hw7.below W6.heap.size
        have B7 := Lib.hid (Hb.out.trans (hb7.mono Hb.out.size))
        have kN := (B7.out.cell (p := ⟨N, 0, none⟩) hN2).trans a3
        have fN := (B7.out.frozen (p := ⟨N, 0, none⟩) hN2).trans a4
        have k5 := (B7.out.cell (p := ⟨w.heap.size + 1 + 1, 0, none⟩) (by show w.heap.size + 1 + 1 < W2.heap.size; omega)).trans a5
        have k6 := (B7.out.frozen (p := ⟨w.heap.size + 1 + 1, 0, none⟩) (by show w.heap.size + 1 + 1 < W2.heap.size; omega)).trans a6
        have k7 := (B7.out.cell (p := ⟨w.heap.size + 1 + 1 + 1, 0, none⟩) (by show w.heap.size + 1 + 1 + 1 < W2.heap.size; omega)).trans a7
        have k8 := (B7.out.frozen (p := ⟨w.heap.size + 1 + 1 + 1, 0, none⟩) (by show w.heap.size + 1 + 1 + 1 < W2.heap.size; omega)).trans a8
        have kO := KeepsOthers.of_below' B7.out
        have kB : Below (w.heap.size + 1 + 1) W2 w7 := B7.out.mono (by omega)
        clear hw7 hb7
        gi_wp2
        exact ⟨kO, kB, ⟨V2, HN.out, A2.out, kN, fN, k5, k6, k7, k8⟩, HB2.out.trans kB⟩
  case done =>
    rintro D W2 hD ⟨V2, a1, a2, a3, a4, a5, a6, a7, a8⟩ hB2 hK
    rw [baL_bits] at a1
    have e := HR.out
    rw [a1] at e
    cases e
    have HB3 := Lib.hid (BU.out.trans (hB2.mono (by omega)))
    have hwD : w.heap.size ≤ D := by omega
    have hD3 : w.heap.size + 1 + 1 + 1 < D := by omega
    clear cM u1 u2 u3 uN zU zX zY hD TU
    go_wp2
    have ne : (⟨w.heap.size + 1 + 1 + 1, 0, none⟩ : Addr) ≠ ⟨w.heap.size + 1 + 1, 0, none⟩ := fun e => by have := congrArg Addr.block e; simp at this
    have z2 : ((W2.setCell ⟨w.heap.size + 1 + 1, 0, none⟩ (.int .u64 ((maskL V2 : Nat) : Int))).setCell ⟨w.heap.size + 1 + 1 + 1, 0, none⟩ (.int .i64 0)).cell? ⟨w.heap.size + 1 + 1, 0, none⟩ = some (.int .u64 ((maskL V2 : Nat) : Int)) := Eq.trans (first_other ne) (World.cell?_setCell_same' _ _ _ (by rw [a5]; rfl))
    have z3 : ((W2.setCell ⟨w.heap.size + 1 + 1, 0, none⟩ (.int .u64 ((maskL V2 : Nat) : Int))).setCell ⟨w.heap.size + 1 + 1 + 1, 0, none⟩ (.int .i64 0)).cell? ⟨w.heap.size + 1 + 1 + 1, 0, none⟩ = some (.int .i64 0) := World.cell?_setCell_same' _ _ _ (by rw [first_other ne.symm, a7]; rfl)
    have gz1 := grownBy_setCell' W2 (w.heap.size + 1 + 1) (.int .u64 ((maskL V2 : Nat) : Int))
    have gz2 := grownBy_setCell' (W2.setCell ⟨w.heap.size + 1 + 1, 0, none⟩ (.int .u64 ((maskL V2 : Nat) : Int))) (w.heap.size + 1 + 1 + 1) (.int .i64 0)
    have hK1 := (gz1.block D (Array.getElem?_eq_some_iff.1 hK).1 (fun e => by have := Option.some.inj e; omega)).trans hK
    have hK2 := (gz2.block D (Array.getElem?_eq_some_iff.1 hK1).1 (fun e => by have := Option.some.inj e; omega)).trans hK1
    have HBZ := (HB3.out.setCell (p := ⟨w.heap.size + 1 + 1, 0, none⟩) (by show w.heap.size ≤ w.heap.size + 1 + 1; omega) (.int .u64 ((maskL V2 : Nat) : Int))).setCell (p := ⟨w.heap.size + 1 + 1 + 1, 0, none⟩) (by show w.heap.size ≤ w.heap.size + 1 + 1 + 1; omega) (.int .i64 0)
    exact ret_marks hK2 (fun W' hc => results_ba _ _ _ _ _ _ rfl rfl (hc.cell z2) (hc.cell z3)) (fun W' hc hb => ⟨rfl, HBZ.trans (hb _ hwD)⟩)
  case stop =>
    rintro D c pre W2 hD hp ⟨rfl, a1, a2, a3⟩ hB2 hK
    have e := HR.out
    rw [← baL_bits, baL_dead a3 hp] at e
    cases e
    have HB3 := Lib.hid (BU.out.trans (hB2.mono (by omega)))
    have hwD : w.heap.size ≤ D := by omega
    gi_wp2
    exact ret_marks hK (fun W' hc => results_ba _ _ _ _ _ _ rfl rfl (hc.cell a1) (hc.cell a2)) (fun W' hc hb => ⟨rfl, HB3.out.trans (hb _ hwD)⟩)
theorem implBA_any (G : Gd) (c : Int) (w : World) (hG : GdOk G) (l1 : -9223372036854775808 ≤ c) (l2 : c ≤ 9223372036854775807) (hT : TabAt w) :
    Calls Tryd.prog 21 #[.agg (Grd G), .int .i64 c] w fun e w' => e = .returned (.tuple #[.int .u64 (baV G c).1, .int .i64 (baV G c).2]) ∧ Below w.heap.size w w' := by
  by_cases ha : askedN G c = 0
  · obtain ⟨k, rfl, hk, hv, hb⟩ := asked_in ha
    exact implBA_good G k hk hv hb ha w hG hT
  · have e : baV G c = (0, askedN G c) := by simp [baV, ha]
    rw [e]
    exact implBA_bad G c w hG l1 l2 hT ha
end Go.Proofs.YtjhaonfdapldcaaDoor
