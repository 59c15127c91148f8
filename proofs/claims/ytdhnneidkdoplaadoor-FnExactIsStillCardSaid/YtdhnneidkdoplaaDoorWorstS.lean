/- WorstBalance: the model's. No condition. -/
import Derived.Test.YtdhnneidkdoplaaDoorLeakS
namespace Go.Proofs.YtdhnneidkdoplaaDoor
open Go.RowKit Go.Shelf
attribute [local go_sem] Oper.semAt_some run_store_float
set_option linter.unusedSimpArgs false
set_option linter.unusedVariables false

/-- The size of a number, as bits. -/
def szB (x : Nat) : Nat := if nanK .f32 x = true then x else absN x
theorem szB_num (x : Nat) : num .f32 (szB x) = sizeO (num .f32 x) := by
  unfold szB
  cases hn : nanK .f32 x
  · rw [if_neg (by simp), num_some hn]
    have h2 : nanK .f32 (absN x) = false := by
      rw [nanK_read] at hn ⊢
      show (Ieee.single.read (absN x)).isNaN = false
      have hn' : (Ieee.single.read x).isNaN = false := hn
      rw [absN_read]
      cases h : Ieee.single.read x <;> simp [h, Ieee.Datum.isNaN] at hn' ⊢
    rw [num_some h2]
    rfl
  · rw [if_pos rfl, num_none hn]; rfl
theorem size_ex (x : Nat) : ∃ r, num .f32 r = sizeO (num .f32 x) := ⟨szB x, szB_num x⟩
/-- The size of one number of a field is greater than that of another. -/
def gtS (f : Nat → Nat) (i j : Nat) : Bool := FloatKind.f32.format.order (szB (f i)) (szB (f j)) == some Ordering.gt
theorem gtS_is {f : Nat → Nat} {i j r s : Nat} (hr : num .f32 r = sizeO (num .f32 (f i))) (hs : num .f32 s = sizeO (num .f32 (f j))) : (FloatKind.f32.format.order r s == some Ordering.gt) = gtS f i j := by
  unfold gtS
  rw [order_num (hr.trans (szB_num _).symm) (hs.trans (szB_num _).symm)]
theorem gtS_self (f : Nat → Nat) (i : Nat) : gtS f i i = false := by
  unfold gtS Ieee.Format.order
  cases FloatKind.f32.format.read (szB (f i)) <;> simp [Ieee.Datum.order, compare, compareOfLessAndEq]
/-- The first one with the greatest size. -/
def wst (f : Nat → Nat) (a : Nat) (l : List Nat) : Nat := l.foldl (fun a i => if gtS f i a = true then i else a) a
theorem wst_snoc (f : Nat → Nat) (a : Nat) (l : List Nat) (i : Nat) : wst f a (l ++ [i]) = if gtS f i (wst f a l) = true then i else wst f a l := by unfold wst; rw [List.foldl_append]; rfl
/-- The cells that are not fixed, among the first ones. -/
def freeTo (G : Gd) (k : Nat) : List Nat := (List.range k).filter fun i => isB G i && !G.x.toNat.testBit i
theorem freeTo_yes {G : Gd} {k : Nat} (h1 : isB G k = true) (h2 : G.x.toNat.testBit k = false) : freeTo G (k + 1) = freeTo G k ++ [k] := by
  unfold freeTo
  rw [List.range_succ, List.filter_append, List.filter_cons, if_pos (by rw [h1, h2]; rfl), List.filter_nil]
theorem freeTo_no {G : Gd} {k : Nat} (h : (isB G k && !G.x.toNat.testBit k) = false) : freeTo G (k + 1) = freeTo G k := by
  unfold freeTo
  rw [List.range_succ, List.filter_append, List.filter_cons, if_neg (by rw [h]; decide), List.filter_nil, List.append_nil]
/-- The worst one so far, or -1. -/
def wsN (f : Nat → Nat) : List Nat → Int
  | [] => -1
  | a :: r => (wst f a r : Int)
theorem wsN_first (f : Nat → Nat) (i : Nat) : wsN f ([] ++ [i]) = (i : Int) := rfl
theorem wsN_snoc (f : Nat → Nat) (l : List Nat) (i j : Nat) (h : wsN f l = (j : Int)) : wsN f (l ++ [i]) = if gtS f i j = true then (i : Int) else (j : Int) := by
  cases l with
  | nil => exact absurd h (by simp [wsN])
  | cons a r =>
    simp only [wsN] at h
    have e : wst f a r = j := by omega
    simp only [List.cons_append, wsN, wst_snoc, e]
    split <;> rfl
theorem wsN_neg {f : Nat → Nat} {l : List Nat} (h : wsN f l = -1) : l = [] := by
  cases l with
  | nil => rfl
  | cons a r => exact absurd h (by simp [wsN])
theorem wst_mem (f : Nat → Nat) : ∀ (l : List Nat) (a : Nat), wst f a l = a ∨ wst f a l ∈ l
  | [], _ => .inl rfl
  | i :: l, a => by
    show wst f (if gtS f i a = true then i else a) l = a ∨ wst f (if gtS f i a = true then i else a) l ∈ i :: l
    split
    · rcases wst_mem f l i with h | h
      · exact .inr (by rw [h]; simp)
      · exact .inr (by simp [h])
    · rcases wst_mem f l a with h | h
      · exact .inl h
      · exact .inr (by simp [h])
theorem wsN_range {f : Nat → Nat} {G : Gd} {k : Nat} (hk : k ≤ 64) : wsN f (freeTo G k) = -1 ∨ ∃ j : Nat, wsN f (freeTo G k) = (j : Int) ∧ j < 64 := by
  have hm : ∀ i ∈ freeTo G k, i < 64 := fun i hi => by
    have := List.mem_filter.1 hi
    have h2 : i < k := by simpa using this.1
    omega
  generalize freeTo G k = l at hm
  cases l with
  | nil => exact .inl rfl
  | cons a r =>
    refine .inr ⟨wst f a r, rfl, ?_⟩
    rcases wst_mem f r a with h | h
    · rw [h]; exact hm a (by simp)
    · exact hm _ (by simp [h])
theorem word_lt (s : Bool) (r : Nat) (h : r ≤ 2139095040) : Ieee.single.word s r < 4294967296 := by
  unfold Ieee.Format.word
  rw [s1]
  cases s <;> simp <;> omega
theorem nearest_lt (s : Bool) (m : Nat) (i : Int) : Ieee.single.nearest s m i < 4294967296 := by
  unfold Ieee.Format.nearest
  split
  · exact word_lt _ _ (by omega)
  · exact word_lt _ _ (by rw [s2]; exact Nat.min_le_right _ _)
theorem write_lt (d : Ieee.Datum) (h : d.isNaN = false) : Ieee.single.write d < 4294967296 := by
  cases d with
  | number s m i => exact nearest_lt s m i
  | infinity s => exact word_lt s _ (by rw [s2]; omega)
  | nan s f => simp [Ieee.Datum.isNaN] at h
theorem floatBits_lt {op : BinOp} {x y r : Nat} (h : floatBits op .f32 x y = some r) : r < 4294967296 := by
  unfold floatBits at h
  have hf : FloatKind.f32.format = Ieee.single := rfl
  split at h
  · simp only [Ieee.Format.add, Option.map_eq_some_iff] at h
    obtain ⟨d, hd, rfl⟩ := h
    exact write_lt d (sum_notnan hd)
  · simp only [Ieee.Format.sub, Option.map_eq_some_iff] at h
    obtain ⟨d, hd, rfl⟩ := h
    exact write_lt d (sum_notnan hd)
  · simp only [Ieee.Format.mul, Option.map_eq_some_iff] at h
    obtain ⟨d, hd, rfl⟩ := h
    exact write_lt d (product_notnan hd)
  · simp only [Ieee.Format.div, Option.map_eq_some_iff] at h
    obtain ⟨d, hd, rfl⟩ := h
    exact write_lt d (quotient_notnan hd)
  · cases h
theorem fop_lt {op : BinOp} {x y : Option Nat} {r : Nat} (h : fop .f32 op x y = some r) : r < 4294967296 := by
  unfold fop at h
  cases x with
  | none => cases h
  | some a =>
    cases y with
    | none => cases h
    | some b => exact floatBits_lt h
theorem num_lt {b r : Nat} (hb : b < 4294967296) (h : num .f32 b = some r) : r < 4294967296 := by
  obtain ⟨rfl, _⟩ := num_eq_some h
  exact hb
theorem has_lt {b : Nat} (h : FloatKind.f32.has b) : b < 4294967296 := h
theorem balTo_lt {G : Gd} (hG : GdOk G) {i : Nat} (hi : i < 64) : ∀ (n r : Nat), balTo G i n = some r → r < 4294967296
  | 0, r, h => num_lt (has_lt (hG.g i hi)) h
  | n + 1, r, h => by
    unfold balTo at h
    split at h
    · exact fop_lt h
    · exact balTo_lt hG hi n r h
theorem balF_lt {G : Gd} (hG : GdOk G) {i : Nat} (hi : i < 64) : balF G i < 4294967296 := by
  unfold balF
  split
  · cases h : balO G i with
    | none => simp
    | some r => exact balTo_lt hG hi 4 r h
  · omega
def IFI (a : Int) (b : Nat) (n : Int) : Value := .tuple #[.int .i64 a, .float .f32 b, .int .i64 n]
/-- What WorstBalance says. -/
def worstV (G : Gd) : Value := if validB G = true then (if allFin G = true then (if wsN (balF G) (freeTo G 64) = -1 then IFI 0 0 6 else IFI (wsN (balF G) (freeTo G 64)) (balF G (wsN (balF G) (freeTo G 64)).toNat) 0) else IFI 0 0 4) else IFI 0 0 1
theorem worstV_is (G : Gd) : ∃ (a : Int) (b : Nat) (n : Int), worstV G = .tuple #[.int .i64 a, .float .f32 b, .int .i64 n] := by
  unfold worstV
  split
  · split
    · split <;> exact ⟨_, _, _, rfl⟩
    · exact ⟨_, _, _, rfl⟩
  · exact ⟨_, _, _, rfl⟩

set_option maxRecDepth 100000 in
set_option maxHeartbeats 2000000 in
theorem specWorst_any (G : Gd) (w : World) (hG : GdOk G) :
    Calls Tryd.prog 17 #[.agg (Grd G)] w fun e w' => e = .returned (worstV G) ∧ Below w.heap.size w w' := by
  obtain ⟨EV, hE⟩ : ∃ v, worstV G = v := ⟨_, rfl⟩
  rw [hE]
  have HE := Lib.hid hE
  clear hE
  have hz := (zero_of_info zeroField).1
  go_enter Tryd.func17, Tryd.ntmps17
  go_upto_region 1 with (fail)
  obtain ⟨W, hW, hs, g1, hB⟩ := gbox1 G 32 w
  rw [hW]
  clear hW
  have hl : w.heap.size < W.heap.size := by omega
  have G1 := Lib.hid g1
  have HB := Lib.hid hB
  have HG := Lib.hid hG
  clear hs g1 hB hG
  cases hv : validB G
  · have Hv := Lib.hid hv
    have R := Lib.hid (show IFI 0 0 1 = EV by rw [← HE.out]; simp [worstV, hv])
    clear hv
    go_wp2_with (go_at_call 49; have hc := (l01Ok_any G _ _ G1.out.at' HG.out); rw [Hv.out] at hc; refine hc.mono ?_; clear hc; rintro e w' ⟨rfl, n, rfl⟩)
    go_ret3
    exact ⟨congrArg Ending.returned R.out, HB.out.trans (Quiet.below ⟨n, rfl⟩ _)⟩
  · have Hv := Lib.hid hv
    go_upto_region 3 with (go_at_call 49; have hc := (l01Ok_any G _ _ G1.out.at' HG.out); rw [Hv.out] at hc; refine hc.mono ?_; clear hc; rintro e w' ⟨rfl, n, rfl⟩)
    obtain ⟨V, hV⟩ : ∃ V, W.drewN n = V := ⟨_, rfl⟩
    have b1 : Below w.heap.size w V := by rw [← hV]; exact HB.out.trans (Quiet.below ⟨n, rfl⟩ _)
    have g2 : GBox V w.heap.size G := by rw [← hV]; exact G1.out.below (Quiet.below ⟨n, rfl⟩ (w.heap.size + 1)) (by omega)
    rw [hV]
    have G2 := Lib.hid g2
    have B1 := Lib.hid b1
    clear hV G1 HB g2 b1 hl
    have hg2 := G2.out.lt
    cases ha : allFin G
    · have R := Lib.hid (show IFI 0 0 4 = EV by rw [← HE.out]; simp [worstV, hv, ha])
      have C := Lib.hid (show balsB G = FB zf false by simp [balsB, ha])
      clear ha hv
      go_upto_region 4 with (first | (go_at_call 50; have hc := l01Balances_any G Hv.out w.heap.size V G2.out.at' hg2 HG.out; rw [C.out] at hc; refine hc.mono ?_; clear hc; rintro e U ⟨rfl, hu⟩; unfold FB; have HU := Lib.hid hu; clear hu; have hth := new_thereF 30 U) | (refine st_stage 30 rfl ?_; refine wpList_store_mid rfl 30 _ _ rfl _ 0 (Fld (zf)) rfl rfl (by rw [Fld_size]; with_reducible exact hth) (by rw [Fld_size]; exact infoField) (Fld_one _) ?_))
      obtain ⟨X, hX, zX, gX, bX⟩ := stored_fld zf 30 U
      rw [hX]
      have hzu := HU.out.size
      have B2 := Lib.hid ((B1.out.trans (HU.out.mono (by omega))).trans (bX.mono (by omega)))
      clear hX gX bX hth zX
      go_wp2
      go_ret3
      exact ⟨congrArg Ending.returned R.out, B2.out⟩
    · have R := Lib.hid (show (if wsN (balF G) (freeTo G 64) = -1 then IFI 0 0 6 else IFI (wsN (balF G) (freeTo G 64)) (balF G (wsN (balF G) (freeTo G 64)).toNat) 0) = EV by rw [← HE.out]; simp [worstV, hv, ha])
      have C := Lib.hid (show balsB G = FB (balF G) true by simp [balsB, ha])
      clear ha hv
      go_upto_region 4 with (first | (go_at_call 50; have hc := l01Balances_any G Hv.out w.heap.size V G2.out.at' hg2 HG.out; rw [C.out] at hc; refine hc.mono ?_; clear hc; rintro e U ⟨rfl, hu⟩; unfold FB; have HU := Lib.hid hu; clear hu; have hth := new_thereF 30 U) | (refine st_stage 30 rfl ?_; refine wpList_store_mid rfl 30 _ _ rfl _ 0 (Fld (balF G)) rfl rfl (by rw [Fld_size]; with_reducible exact hth) (by rw [Fld_size]; exact infoField) (Fld_one _) ?_))
      obtain ⟨X, hX, zX, gX, bX⟩ := stored_fld (balF G) 30 U
      rw [hX]
      have hzu := HU.out.size
      have P1 := Lib.hid ((G2.out.below HU.out hg2).below bX (by omega))
      have B2 := Lib.hid ((B1.out.trans (HU.out.mono (by omega))).trans (bX.mono (by omega)))
      have Q1 := Lib.hid gX
      clear hX bX hth zX gX hzu hz G2
      go_wp2
      go_loopw [7, 8] (fun a i wr => ∃ (k : Nat), k ≤ 64 ∧ i = .int .i64 k ∧ a = .int .i64 (wsN (balF G) (freeTo G k)) ∧ Hid (Quiet X wr)) (fun _ i _ => 64 - (intOf i).toNat)
      case atStart => exact ⟨0, by omega, rfl, rfl, Quiet.refl _⟩
      case round =>
        obtain ⟨k, hk, rfl, rfl, hQ⟩ := hrel
        obtain ⟨z, hzz⟩ : ∃ z, wsN (balF G) (freeTo G k) = z := ⟨_, rfl⟩
        have hrg := wsN_range (f := balF G) (G := G) hk
        rw [hzz] at hrg ⊢
        have HZ := Lib.hid hzz
        clear hzz
        by_cases hlt : k < 64
        · have gp := Lib.hid (P1.out.below (hQ.out.below (w.heap.size + 1)) (by omega))
          have ck := Grd_fld (hQ.out.range Q1.out) k hlt
          cases hi : isB G k
          · have Hi := Lib.hid hi
            have E := Lib.hid (freeTo_no (G := G) (k := k) (by rw [hi]; rfl))
            clear hi hrg
            go_upto_region 10 with (fail)
            refine wp_region_calm (ops' := regOf Tryd.f17 10) [0, 1, 2, 3, 4, 5, 6, 7, 8, 9, 10, 11, 12, 13, 14, 15, 16, 17, 18, 19, 20, 21] [] .fin (Quiet wr) [(0, One (.int .i64 (k : Int))), (1, One (.bool false)), (2, One (.bool false)), (3, One undef), (4, One undef), (5, One undef), (6, One (.bool false)), (7, One (.bool false)), (8, One undef), (9, One undef), (10, One undef), (11, One undef), (12, One undef), (13, One undef), (14, One undef), (15, One undef), (16, One undef), (17, One undef), (18, One undef), (19, One undef), (20, One undef), (21, One (.bool false))] (by kernel_rfl) (by kernel_rfl) (by kernel_rfl) (by kernel_rfl) (by kernel_rfl) (by kernel_rfl) (by kernel_rfl) (by kernel_rfl) rfl ((Quiet.refl _).drewN 1) ?_
            refine calm_pure (some 21) (by kernel_rfl) (by kernel_rfl) (by kernel_rfl) (fun _ => by kernel_rfl) ?_
            refine calm_call (some 22) 51 #[.pointer (some ⟨w.heap.size, 0, none⟩), .int .i64 (k : Int)] ⟨_, rfl⟩ (by kernel_rfl) (by kernel_rfl) (by kernel_rfl) (fun _ => by kernel_rfl) (fun w' hw' => ((l01Is_is G k hlt false Hi.out _ w' ((gp.out.below (hw'.below (w.heap.size + 1)) (by omega)).at') HG.out).mono (fun _ _ h => (⟨h.1, h.2.symm⟩ : _ ∧ w' = _))).mono fun e w2 h => ⟨_, h.1, rfl, h.2 ▸ hw'⟩) ?_
            rintro _ rfl
            refine calm_pure (some 23) (by kernel_rfl) (by kernel_rfl) (by kernel_rfl) (fun _ => by kernel_rfl) ?_
            refine calm_skip (some 24) (by kernel_rfl) (by kernel_rfl) (by kernel_rfl) ?_
            refine calm_skip (some 25) (by kernel_rfl) (by kernel_rfl) (by kernel_rfl) ?_
            refine calm_skip (some 26) (by kernel_rfl) (by kernel_rfl) (by kernel_rfl) ?_
            refine calm_pure (some 27) (by kernel_rfl) (by kernel_rfl) (by kernel_rfl) (fun _ => by kernel_rfl) ?_
            refine calm_pure (some 28) (by kernel_rfl) (by kernel_rfl) (by kernel_rfl) (fun _ => by kernel_rfl) ?_
            refine calm_skip (some 29) (by kernel_rfl) (by kernel_rfl) (by kernel_rfl) ?_
            refine calm_skip (some 30) (by kernel_rfl) (by kernel_rfl) (by kernel_rfl) ?_
            refine calm_skip (some 31) (by kernel_rfl) (by kernel_rfl) (by kernel_rfl) ?_
            refine calm_skip (some 32) (by kernel_rfl) (by kernel_rfl) (by kernel_rfl) ?_
            refine calm_skip (some 33) (by kernel_rfl) (by kernel_rfl) (by kernel_rfl) ?_
            refine calm_skip (some 34) (by kernel_rfl) (by kernel_rfl) (by kernel_rfl) ?_
            refine calm_skip (some 35) (by kernel_rfl) (by kernel_rfl) (by kernel_rfl) ?_
            refine calm_skip (some 36) (by kernel_rfl) (by kernel_rfl) (by kernel_rfl) ?_
            refine calm_skip (some 37) (by kernel_rfl) (by kernel_rfl) (by kernel_rfl) ?_
            refine calm_skip (some 38) (by kernel_rfl) (by kernel_rfl) (by kernel_rfl) ?_
            refine calm_skip (some 39) (by kernel_rfl) (by kernel_rfl) (by kernel_rfl) ?_
            refine calm_skip (some 40) (by kernel_rfl) (by kernel_rfl) (by kernel_rfl) ?_
            refine calm_skip (some 41) (by kernel_rfl) (by kernel_rfl) (by kernel_rfl) ?_
            refine calm_pure (some 42) (by kernel_rfl) (by kernel_rfl) (by kernel_rfl) (fun _ => by kernel_rfl) ?_
            refine calm_end fun w2 hw2 => plan_end (Clean.normal ?_)
            simp only [Act.put, List.setIfInBounds_toArray, List.set_cons_zero, List.set_cons_succ]
            go_wp2
            go_roundw
            case rel => exact ⟨k + 1, by omega, by go_num, by rw [E.out, HZ.out], hQ.out.trans hw2⟩
            case measure => simp [intOf]; omega
          · cases hf : G.x.toNat.testBit k
            · have Hi := Lib.hid hi
              have Hf := Lib.hid hf
              have E := Lib.hid (freeTo_yes hi hf)
              clear hi hf
              rcases hrg with rfl | ⟨j, rfl, hj⟩
              · have E2 := Lib.hid (show wsN (balF G) (freeTo G (k + 1)) = (k : Int) by rw [E.out, wsN_neg HZ.out]; rfl)
                go_upto_region 10 with (fail)
                refine wp_region_calm (ops' := regOf Tryd.f17 10) [0, 1, 2, 3, 4, 5, 6, 7, 8, 9, 10, 11, 12, 13, 14, 15, 16, 17, 18, 19, 20, 21] [] .fin (Quiet wr) [(0, One (.int .i64 (k : Int))), (1, One (.bool true)), (2, One (.bool true)), (3, One (.int .i64 (k : Int))), (4, One (.bool false)), (5, One (.bool true)), (6, One (.bool true)), (7, One (.bool true)), (8, One (.int .i64 (-1))), (9, One (.bool true)), (10, One (.bool true)), (11, One undef), (12, One undef), (13, One undef), (14, One undef), (15, One undef), (16, One undef), (17, One undef), (18, One undef), (19, One undef), (20, One (.bool true)), (21, One (.bool true))] (by kernel_rfl) (by kernel_rfl) (by kernel_rfl) (by kernel_rfl) (by kernel_rfl) (by kernel_rfl) (by kernel_rfl) (by kernel_rfl) rfl ((Quiet.refl _).drewN 1) ?_
                refine calm_pure (some 21) (by kernel_rfl) (by kernel_rfl) (by kernel_rfl) (fun _ => by kernel_rfl) ?_
                refine calm_call (some 22) 51 #[.pointer (some ⟨w.heap.size, 0, none⟩), .int .i64 (k : Int)] ⟨_, rfl⟩ (by kernel_rfl) (by kernel_rfl) (by kernel_rfl) (fun _ => by kernel_rfl) (fun w' hw' => ((l01Is_is G k hlt true Hi.out _ w' ((gp.out.below (hw'.below (w.heap.size + 1)) (by omega)).at') HG.out).mono (fun _ _ h => (⟨h.1, h.2.symm⟩ : _ ∧ w' = _))).mono fun e w2 h => ⟨_, h.1, rfl, h.2 ▸ hw'⟩) ?_
                rintro _ rfl
                refine calm_pure (some 23) (by kernel_rfl) (by kernel_rfl) (by kernel_rfl) (fun _ => by kernel_rfl) ?_
                refine calm_pure (some 24) (by kernel_rfl) (by kernel_rfl) (by kernel_rfl) (fun _ => by kernel_rfl) ?_
                refine calm_call (some 25) 52 #[.pointer (some ⟨w.heap.size, 0, none⟩), .int .i64 (k : Int)] ⟨_, rfl⟩ (by kernel_rfl) (by kernel_rfl) (by kernel_rfl) (fun _ => by kernel_rfl) (fun w' hw' => (l01Fixed_is G k hlt false Hf.out _ w' ((gp.out.below (hw'.below (w.heap.size + 1)) (by omega)).at') HG.out).mono fun e w2 h => ⟨_, h.1, rfl, h.2 ▸ hw'⟩) ?_
                rintro _ rfl
                refine calm_pure (some 26) (by kernel_rfl) (by kernel_rfl) (by kernel_rfl) (fun _ => by kernel_rfl) ?_
                refine calm_pure (some 27) (by kernel_rfl) (by kernel_rfl) (by kernel_rfl) (fun _ => by kernel_rfl) ?_
                refine calm_pure (some 28) (by kernel_rfl) (by kernel_rfl) (by kernel_rfl) (fun _ => by kernel_rfl) ?_
                refine calm_pure (some 29) (by kernel_rfl) (by kernel_rfl) (by kernel_rfl) (fun _ => by kernel_rfl) ?_
                refine calm_pure (some 30) (by kernel_rfl) (by kernel_rfl) (by kernel_rfl) (fun _ => by kernel_rfl) ?_
                refine calm_pure (some 31) (by kernel_rfl) (by kernel_rfl) (by kernel_rfl) (fun _ => by kernel_rfl) ?_
                refine calm_skip (some 32) (by kernel_rfl) (by kernel_rfl) (by kernel_rfl) ?_
                refine calm_skip (some 33) (by kernel_rfl) (by kernel_rfl) (by kernel_rfl) ?_
                refine calm_skip (some 34) (by kernel_rfl) (by kernel_rfl) (by kernel_rfl) ?_
                refine calm_skip (some 35) (by kernel_rfl) (by kernel_rfl) (by kernel_rfl) ?_
                refine calm_skip (some 36) (by kernel_rfl) (by kernel_rfl) (by kernel_rfl) ?_
                refine calm_skip (some 37) (by kernel_rfl) (by kernel_rfl) (by kernel_rfl) ?_
                refine calm_skip (some 38) (by kernel_rfl) (by kernel_rfl) (by kernel_rfl) ?_
                refine calm_skip (some 39) (by kernel_rfl) (by kernel_rfl) (by kernel_rfl) ?_
                refine calm_skip (some 40) (by kernel_rfl) (by kernel_rfl) (by kernel_rfl) ?_
                refine calm_pure (some 41) (by kernel_rfl) (by kernel_rfl) (by kernel_rfl) (fun _ => by kernel_rfl) ?_
                refine calm_pure (some 42) (by kernel_rfl) (by kernel_rfl) (by kernel_rfl) (fun _ => by kernel_rfl) ?_
                refine calm_end fun w2 hw2 => plan_end (Clean.normal ?_)
                simp only [Act.put, List.setIfInBounds_toArray, List.set_cons_zero, List.set_cons_succ]
                go_wp2
                go_roundw
                case rel => exact ⟨k + 1, by omega, by go_num, by rw [E2.out], hQ.out.trans hw2⟩
                case measure => simp [intOf]; omega
              · have cj := Grd_fld (hQ.out.range Q1.out) j hj
                have E2 := Lib.hid ((congrArg (wsN (balF G)) E.out).trans (wsN_snoc (balF G) _ k j HZ.out))
                go_upto_region 10 with (fail)
                refine wp_region_calm (ops' := regOf Tryd.f17 10) [0, 1, 2, 3, 4, 5, 6, 7, 8, 9, 10, 11, 12, 13, 14, 15, 16, 17, 18, 19, 20, 21] [] .fin (Quiet wr) [(0, One (.int .i64 (k : Int))), (1, One (.bool true)), (2, One (.bool true)), (3, One (.int .i64 (k : Int))), (4, One (.bool false)), (5, One (.bool true)), (6, One (.bool true)), (7, One (.bool true)), (8, One (.int .i64 (j : Int))), (9, One (.bool false)), (10, One (.bool false)), (11, One (.int .i64 (k : Int))), (12, One (.pointer (some ⟨U.heap.size, 0 + k, none⟩))), (13, One (.float .f32 (balF G k))), (14, Numv .f32 (sizeO (num .f32 (balF G k)))), (15, One (.int .i64 (j : Int))), (16, One (.pointer (some ⟨U.heap.size, 0 + j, none⟩))), (17, One (.float .f32 (balF G j))), (18, Numv .f32 (sizeO (num .f32 (balF G j)))), (19, One (.bool (gtS (balF G) k j))), (20, One (.bool (gtS (balF G) k j))), (21, One (.bool (gtS (balF G) k j)))] (by kernel_rfl) (by kernel_rfl) (by kernel_rfl) (by kernel_rfl) (by kernel_rfl) (by kernel_rfl) (by kernel_rfl) (by kernel_rfl) rfl ((Quiet.refl _).drewN 1) ?_
                refine calm_pure (some 21) (by kernel_rfl) (by kernel_rfl) (by kernel_rfl) (fun _ => by kernel_rfl) ?_
                refine calm_call (some 22) 51 #[.pointer (some ⟨w.heap.size, 0, none⟩), .int .i64 (k : Int)] ⟨_, rfl⟩ (by kernel_rfl) (by kernel_rfl) (by kernel_rfl) (fun _ => by kernel_rfl) (fun w' hw' => ((l01Is_is G k hlt true Hi.out _ w' ((gp.out.below (hw'.below (w.heap.size + 1)) (by omega)).at') HG.out).mono (fun _ _ h => (⟨h.1, h.2.symm⟩ : _ ∧ w' = _))).mono fun e w2 h => ⟨_, h.1, rfl, h.2 ▸ hw'⟩) ?_
                rintro _ rfl
                refine calm_pure (some 23) (by kernel_rfl) (by kernel_rfl) (by kernel_rfl) (fun _ => by kernel_rfl) ?_
                refine calm_pure (some 24) (by kernel_rfl) (by kernel_rfl) (by kernel_rfl) (fun _ => by kernel_rfl) ?_
                refine calm_call (some 25) 52 #[.pointer (some ⟨w.heap.size, 0, none⟩), .int .i64 (k : Int)] ⟨_, rfl⟩ (by kernel_rfl) (by kernel_rfl) (by kernel_rfl) (fun _ => by kernel_rfl) (fun w' hw' => (l01Fixed_is G k hlt false Hf.out _ w' ((gp.out.below (hw'.below (w.heap.size + 1)) (by omega)).at') HG.out).mono fun e w2 h => ⟨_, h.1, rfl, h.2 ▸ hw'⟩) ?_
                rintro _ rfl
                refine calm_pure (some 26) (by kernel_rfl) (by kernel_rfl) (by kernel_rfl) (fun _ => by kernel_rfl) ?_
                refine calm_pure (some 27) (by kernel_rfl) (by kernel_rfl) (by kernel_rfl) (fun _ => by kernel_rfl) ?_
                refine calm_pure (some 28) (by kernel_rfl) (by kernel_rfl) (by kernel_rfl) (fun _ => by kernel_rfl) ?_
                refine calm_pure (some 29) (by kernel_rfl) (by kernel_rfl) (by kernel_rfl) (fun _ => by kernel_rfl) ?_
                refine calm_pure (some 30) (by kernel_rfl) (by kernel_rfl) (by kernel_rfl) (fun _ => by kernel_rfl) ?_
                refine calm_pure (some 31) (by kernel_rfl) (by kernel_rfl) (by kernel_rfl) (fun _ => by kernel_rfl) ?_
                refine calm_pure (some 32) (by kernel_rfl) (by kernel_rfl) (by kernel_rfl) (fun _ => by kernel_rfl) ?_
                refine calm_pure (some 33) (by kernel_rfl) (by kernel_rfl) (by kernel_rfl) (index_fld (x := .tmp 5) (y := .tmp 32) (o := 0) (by kernel_rfl) (by kernel_rfl) (by kernel_rfl) hlt) ?_
                refine calm_read (some 34) (by kernel_rfl) (by kernel_rfl) (by kernel_rfl) (fun w' hw' => load_cell (ty := 23) (x := .tmp 33) (b := U.heap.size) (o := 0 + k) (by kernel_rfl) (by kernel_rfl) Tryd.underlying23 rfl (kq ck w' hw')) ?_
                refine calm_call (some 35) 53 #[.float .f32 (balF G k)] (numv_ne (size_ex (balF G k))) (by kernel_rfl) (by kernel_rfl) (by kernel_rfl) (fun _ => by kernel_rfl) (fun w' hw' => (l01Size_any (balF G k) (balF_lt HG.out hlt) w').mono fun e w2 ⟨r, he, hr, hq⟩ => ⟨_, he, ⟨r, rfl, hr⟩, hw'.trans hq⟩) ?_
                rintro _ ⟨r35, rfl, hr35⟩
                refine calm_pure (some 36) (by kernel_rfl) (by kernel_rfl) (by kernel_rfl) (fun _ => by kernel_rfl) ?_
                refine calm_pure (some 37) (by kernel_rfl) (by kernel_rfl) (by kernel_rfl) (index_fld (x := .tmp 5) (y := .tmp 36) (o := 0) (by kernel_rfl) (by kernel_rfl) (by kernel_rfl) hj) ?_
                refine calm_read (some 38) (by kernel_rfl) (by kernel_rfl) (by kernel_rfl) (fun w' hw' => load_cell (ty := 23) (x := .tmp 37) (b := U.heap.size) (o := 0 + j) (by kernel_rfl) (by kernel_rfl) Tryd.underlying23 rfl (kq cj w' hw')) ?_
                refine calm_call (some 39) 53 #[.float .f32 (balF G j)] (numv_ne (size_ex (balF G j))) (by kernel_rfl) (by kernel_rfl) (by kernel_rfl) (fun _ => by kernel_rfl) (fun w' hw' => (l01Size_any (balF G j) (balF_lt HG.out hj) w').mono fun e w2 ⟨r, he, hr, hq⟩ => ⟨_, he, ⟨r, rfl, hr⟩, hw'.trans hq⟩) ?_
                rintro _ ⟨r39, rfl, hr39⟩
                refine calm_pure (some 40) (by kernel_rfl) (by kernel_rfl) (by kernel_rfl) (fun _ => by rw [← gtS_is hr35 hr39]; kernel_rfl) ?_
                refine calm_pure (some 41) (by kernel_rfl) (by kernel_rfl) (by kernel_rfl) (fun _ => by kernel_rfl) ?_
                refine calm_pure (some 42) (by kernel_rfl) (by kernel_rfl) (by kernel_rfl) (fun _ => by kernel_rfl) ?_
                refine calm_end fun w2 hw2 => plan_end (Clean.normal ?_)
                simp only [Act.put, List.setIfInBounds_toArray, List.set_cons_zero, List.set_cons_succ]
                cases hg : gtS (balF G) k j
                · have E3 := Lib.hid (E2.out.trans (show _ = (j : Int) by rw [hg]; rfl))
                  go_wp2
                  go_roundw
                  case rel => exact ⟨k + 1, by omega, by go_num, by rw [E3.out], hQ.out.trans hw2⟩
                  case measure => simp [intOf]; omega
                · have E3 := Lib.hid (E2.out.trans (show _ = (k : Int) by rw [hg]; rfl))
                  go_wp2
                  go_roundw
                  case rel => exact ⟨k + 1, by omega, by go_num, by rw [E3.out], hQ.out.trans hw2⟩
                  case measure => simp [intOf]; omega
            · have Hi := Lib.hid hi
              have Hf := Lib.hid hf
              have E := Lib.hid (freeTo_no (G := G) (k := k) (by rw [hf]; simp))
              clear hi hf hrg
              go_upto_region 10 with (fail)
              refine wp_region_calm (ops' := regOf Tryd.f17 10) [0, 1, 2, 3, 4, 5, 6, 7, 8, 9, 10, 11, 12, 13, 14, 15, 16, 17, 18, 19, 20, 21] [] .fin (Quiet wr) [(0, One (.int .i64 (k : Int))), (1, One (.bool true)), (2, One (.bool true)), (3, One (.int .i64 (k : Int))), (4, One (.bool true)), (5, One (.bool false)), (6, One (.bool false)), (7, One (.bool false)), (8, One undef), (9, One undef), (10, One undef), (11, One undef), (12, One undef), (13, One undef), (14, One undef), (15, One undef), (16, One undef), (17, One undef), (18, One undef), (19, One undef), (20, One undef), (21, One (.bool false))] (by kernel_rfl) (by kernel_rfl) (by kernel_rfl) (by kernel_rfl) (by kernel_rfl) (by kernel_rfl) (by kernel_rfl) (by kernel_rfl) rfl ((Quiet.refl _).drewN 1) ?_
              refine calm_pure (some 21) (by kernel_rfl) (by kernel_rfl) (by kernel_rfl) (fun _ => by kernel_rfl) ?_
              refine calm_call (some 22) 51 #[.pointer (some ⟨w.heap.size, 0, none⟩), .int .i64 (k : Int)] ⟨_, rfl⟩ (by kernel_rfl) (by kernel_rfl) (by kernel_rfl) (fun _ => by kernel_rfl) (fun w' hw' => ((l01Is_is G k hlt true Hi.out _ w' ((gp.out.below (hw'.below (w.heap.size + 1)) (by omega)).at') HG.out).mono (fun _ _ h => (⟨h.1, h.2.symm⟩ : _ ∧ w' = _))).mono fun e w2 h => ⟨_, h.1, rfl, h.2 ▸ hw'⟩) ?_
              rintro _ rfl
              refine calm_pure (some 23) (by kernel_rfl) (by kernel_rfl) (by kernel_rfl) (fun _ => by kernel_rfl) ?_
              refine calm_pure (some 24) (by kernel_rfl) (by kernel_rfl) (by kernel_rfl) (fun _ => by kernel_rfl) ?_
              refine calm_call (some 25) 52 #[.pointer (some ⟨w.heap.size, 0, none⟩), .int .i64 (k : Int)] ⟨_, rfl⟩ (by kernel_rfl) (by kernel_rfl) (by kernel_rfl) (fun _ => by kernel_rfl) (fun w' hw' => (l01Fixed_is G k hlt true Hf.out _ w' ((gp.out.below (hw'.below (w.heap.size + 1)) (by omega)).at') HG.out).mono fun e w2 h => ⟨_, h.1, rfl, h.2 ▸ hw'⟩) ?_
              rintro _ rfl
              refine calm_pure (some 26) (by kernel_rfl) (by kernel_rfl) (by kernel_rfl) (fun _ => by kernel_rfl) ?_
              refine calm_pure (some 27) (by kernel_rfl) (by kernel_rfl) (by kernel_rfl) (fun _ => by kernel_rfl) ?_
              refine calm_pure (some 28) (by kernel_rfl) (by kernel_rfl) (by kernel_rfl) (fun _ => by kernel_rfl) ?_
              refine calm_skip (some 29) (by kernel_rfl) (by kernel_rfl) (by kernel_rfl) ?_
              refine calm_skip (some 30) (by kernel_rfl) (by kernel_rfl) (by kernel_rfl) ?_
              refine calm_skip (some 31) (by kernel_rfl) (by kernel_rfl) (by kernel_rfl) ?_
              refine calm_skip (some 32) (by kernel_rfl) (by kernel_rfl) (by kernel_rfl) ?_
              refine calm_skip (some 33) (by kernel_rfl) (by kernel_rfl) (by kernel_rfl) ?_
              refine calm_skip (some 34) (by kernel_rfl) (by kernel_rfl) (by kernel_rfl) ?_
              refine calm_skip (some 35) (by kernel_rfl) (by kernel_rfl) (by kernel_rfl) ?_
              refine calm_skip (some 36) (by kernel_rfl) (by kernel_rfl) (by kernel_rfl) ?_
              refine calm_skip (some 37) (by kernel_rfl) (by kernel_rfl) (by kernel_rfl) ?_
              refine calm_skip (some 38) (by kernel_rfl) (by kernel_rfl) (by kernel_rfl) ?_
              refine calm_skip (some 39) (by kernel_rfl) (by kernel_rfl) (by kernel_rfl) ?_
              refine calm_skip (some 40) (by kernel_rfl) (by kernel_rfl) (by kernel_rfl) ?_
              refine calm_skip (some 41) (by kernel_rfl) (by kernel_rfl) (by kernel_rfl) ?_
              refine calm_pure (some 42) (by kernel_rfl) (by kernel_rfl) (by kernel_rfl) (fun _ => by kernel_rfl) ?_
              refine calm_end fun w2 hw2 => plan_end (Clean.normal ?_)
              simp only [Act.put, List.setIfInBounds_toArray, List.set_cons_zero, List.set_cons_succ]
              go_wp2
              go_roundw
              case rel => exact ⟨k + 1, by omega, by go_num, by rw [E.out, HZ.out], hQ.out.trans hw2⟩
              case measure => simp [intOf]; omega
        · obtain rfl : k = 64 := by omega
          rcases hrg with rfl | ⟨j, rfl, hj⟩
          · have R2 := Lib.hid ((show IFI 0 0 6 = _ by rw [HZ.out]; rfl : _).trans R.out)
            go_wp2
            go_ret3
            exact ⟨congrArg Ending.returned R2.out, B2.out.trans (hQ.out.below _)⟩
          · have R2 := Lib.hid ((show IFI j (balF G j) 0 = _ by rw [HZ.out]; rfl : _).trans R.out)
            have cj := Grd_fld (hQ.out.range Q1.out) j hj
            rw [Nat.zero_add] at cj
            have hj2 : (j : Int) < 64 := by omega
            go_wp2
            go_quiet (fail)
            go_wp2
            go_ret3
            exact ⟨congrArg Ending.returned R2.out, (B2.out.trans (hQ.out.below _)).trans (Quiet.below ⟨_, rfl⟩ _)⟩
end Go.Proofs.YtdhnneidkdoplaaDoor
