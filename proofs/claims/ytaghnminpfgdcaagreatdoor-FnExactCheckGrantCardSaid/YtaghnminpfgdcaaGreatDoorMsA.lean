/- The model's sweeps: what they have in common. No condition. · The model's end of a sweep, and its StepAtOnce. No condition. · The model's sweep of a colour, or in order. No condition. -/
import Derived.Test.YtaghnminpfgdcaaGreatDoorSwA
namespace Go.Proofs.YtaghnminpfgdcaaGreatDoor

section
open Go.RowKit Go.Shelf
attribute [local go_sem] Oper.semAt_some run_store_float
set_option linter.unusedSimpArgs false
set_option linter.unusedVariables false

theorem order_swap (x y : Nat) : FloatKind.f32.format.order y x = (FloatKind.f32.format.order x y).map Ordering.swap := by
  unfold Ieee.Format.order
  cases FloatKind.f32.format.read x with
  | nan s f => cases FloatKind.f32.format.read y <;> simp [Ieee.Datum.order]
  | infinity s =>
    cases FloatKind.f32.format.read y with
    | nan t g => simp [Ieee.Datum.order]
    | infinity t => cases s <;> cases t <;> simp [Ieee.Datum.order] <;> decide
    | number t n j => cases s <;> simp [Ieee.Datum.order]
  | number s m i =>
    cases FloatKind.f32.format.read y with
    | nan t g => simp [Ieee.Datum.order]
    | infinity t => cases t <;> simp [Ieee.Datum.order]
    | number t n j =>
      simp only [Ieee.Datum.order, Option.map_some]
      rw [show min j i = min i j from Int.min_comm _ _, ← Int.compare_swap]
theorem maxN_gt (x y : Nat) : maxN x y = if (FloatKind.f32.format.order y x == some Ordering.gt) = true then y else x := by
  unfold maxN
  rw [order_swap x y]
  cases FloatKind.f32.format.order x y with
  | none => rfl
  | some o => cases o <;> rfl
theorem signed_pos (m k : Nat) : 0 ≤ Ieee.signed false m k := by
  unfold Ieee.signed
  rw [if_neg (by decide)]
  exact Int.natCast_nonneg _
theorem size_sign {s : Nat} (hs : s < 2147483648) : (FloatKind.f32.format.read s).neg = false := by
  have h0 : s / FloatKind.f32.format.signWeight % 2 = 0 := by
    rw [show FloatKind.f32.format.signWeight = 2147483648 by decide +kernel]
    omega
  unfold Ieee.Format.read
  simp only [h0]
  repeat' split
  all_goals simp [Ieee.Datum.neg]
theorem zero_reads : FloatKind.f32.format.read 0 = .number false 0 (-149) := by decide +kernel
theorem maxN_0 {m : Nat} (hm : m < 2147483648) : maxN m 0 = m := by
  unfold maxN
  rw [if_neg]
  have h := size_sign hm
  unfold Ieee.Format.order
  rw [zero_reads]
  cases hr : FloatKind.f32.format.read m with
  | nan s f => simp [Ieee.Datum.order]
  | infinity s => rw [hr] at h; simp only [Ieee.Datum.neg] at h; subst h; simp [Ieee.Datum.order]
  | number s n j =>
    rw [hr] at h
    simp only [Ieee.Datum.neg] at h
    subst h
    simp only [Ieee.Datum.order]
    have h1 := signed_pos n (j - min j (-149)).toNat
    have h2 : Ieee.signed false 0 (-149 - min j (-149)).toNat = 0 := by simp [Ieee.signed]
    rw [h2]
    simp only [compare, compareOfLessAndEq]
    rw [if_neg (by omega)]
    split <;> simp
theorem maxN_of0 {s : Nat} (hs : s < 2147483648) (hn : nanK .f32 s = false) : maxN 0 s = s := by
  unfold maxN
  by_cases h : FloatKind.f32.format.order 0 s = some Ordering.lt
  · rw [if_pos h]
  · rw [if_neg h]
    have hg := size_sign hs
    have hz : s % 2147483648 = s := Nat.mod_eq_of_lt hs
    unfold Ieee.Format.order at h
    rw [zero_reads] at h
    rw [nanK_read] at hn
    cases hr : FloatKind.f32.format.read s with
    | nan t f => rw [hr] at hn; simp [Ieee.Datum.isNaN] at hn
    | infinity t => rw [hr] at hg h; simp only [Ieee.Datum.neg] at hg; subst hg; simp [Ieee.Datum.order] at h
    | number t n j =>
      rw [hr] at hg h
      simp only [Ieee.Datum.neg] at hg
      subst hg
      have hn0 : n = 0 := by
        rcases Nat.eq_zero_or_pos n with e | e
        · exact e
        · exfalso
          apply h
          simp only [Ieee.Datum.order]
          have h2 : Ieee.signed false 0 (-149 - min (-149) j).toNat = 0 := by simp [Ieee.signed]
          have h3 : 0 < Ieee.signed false n (j - min (-149) j).toNat := by
            unfold Ieee.signed
            rw [if_neg (by decide), Nat.shiftLeft_eq]
            exact Int.natCast_pos.2 (Nat.mul_pos e (Nat.two_pow_pos _))
          rw [h2]
          simp only [compare, compareOfLessAndEq]
          rw [if_pos h3]
      subst hn0
      unfold Ieee.Format.read at hr
      simp only [show FloatKind.f32.format.signWeight = 2147483648 by decide +kernel, show FloatKind.f32.format.binade = 8388608 by decide +kernel, show FloatKind.f32.format.infRung = 2139095040 by decide +kernel, hz] at hr
      by_cases c1 : s < 8388608
      · rw [if_pos c1] at hr
        injection hr with _ e _
        exact e.symm
      · rw [if_neg c1] at hr
        by_cases c2 : s < 2139095040
        · rw [if_pos c2] at hr
          injection hr with _ e _
          omega
        · rw [if_neg c2] at hr
          split at hr <;> cases hr

/-- The greatest size of the changes at the cells of a list. -/
def mxL (A O : Gd) (l : List Nat) : Nat := l.foldl (fun m k => maxN m (chgN (O.h k) (A.h k))) 0
theorem mxL_snoc (A O : Gd) (l : List Nat) (k : Nat) : mxL A O (l ++ [k]) = maxN (mxL A O l) (chgN (O.h k) (A.h k)) := by simp [mxL]
theorem foldl_cong {f g : Nat → Nat → Nat} : ∀ (l : List Nat) (a : Nat), (∀ m, ∀ k ∈ l, f m k = g m k) → l.foldl f a = l.foldl g a
  | [], _, _ => rfl
  | k :: l, a, h => by
    rw [List.foldl_cons, List.foldl_cons, h a k (by simp)]
    exact foldl_cong l _ fun m j hj => h m j (by simp [hj])
theorem mxL_cong {A O P : Gd} {l : List Nat} (h : ∀ k ∈ l, O.h k = P.h k) : mxL A O l = mxL A P l := foldl_cong l 0 fun m k hk => by rw [h k hk]
theorem swp_other (nx : Gd → Nat → Option Nat) (G : Gd) (k : Nat) : ∀ (n : Nat), n ≤ k → (swp nx G (cellTo G n)).1.h k = G.h k
  | 0, _ => rfl
  | n + 1, h => by
    have ih := swp_other nx G k n (by omega)
    rw [cellTo_succ]
    split
    · rw [swp_snoc]
      show upd (swp nx G (cellTo G n)).1.h n _ k = _
      unfold upd
      rw [if_neg (by omega), ih]
    · exact ih
theorem swp_mx (nx : Gd → Nat → Option Nat) (G : Gd) : ∀ (n : Nat), (swp nx G (cellTo G n)).2.2 = mxL G (swp nx G (cellTo G n)).1 (cellTo G n)
  | 0 => rfl
  | n + 1 => by
    have ih := swp_mx nx G n
    have ho := swp_other nx G n n (Nat.le_refl _)
    rw [cellTo_succ]
    split
    · rw [swp_snoc, mxL_snoc]
      have e1 : (swStep nx (swp nx G (cellTo G n)) n).1.h n = (nx (swp nx G (cellTo G n)).1 n).getD 0 := by simp [swStep, putHd, upd]
      have e2 : mxL G (swStep nx (swp nx G (cellTo G n)) n).1 (cellTo G n) = mxL G (swp nx G (cellTo G n)).1 (cellTo G n) := mxL_cong fun k hk => by
        have : k < n := by
          have := (List.mem_filter.1 hk).1
          simpa using this
        simp [swStep, putHd, upd, show k ≠ n by omega]
      rw [e1, e2, ← ih]
      show maxN (swp nx G (cellTo G n)).2.2 (chgN _ ((swp nx G (cellTo G n)).1.h n)) = _
      rw [ho]
    · exact ih

/-- How the model's ground stands behind the first cells: as the program's, or some head is not plain. -/
structure Mst (nx : Gd → Nat → Option Nat) (G : Gd) (k : Nat) (O : Gd) : Prop where
  wide : O.wide = G.wide
  high : O.high = G.high
  c : O.c = G.c
  g : O.g = G.g
  x : O.x = G.x
  heads : ((swp nx G (cellTo G k)).2.1 = true ∧ O = (swp nx G (cellTo G k)).1) ∨ ((swp nx G (cellTo G k)).2.1 = false ∧ ∃ j, j < k ∧ isB G j = true ∧ plainB (O.h j) = false)
theorem Mst.start (nx : Gd → Nat → Option Nat) (G : Gd) : Mst nx G 0 G := ⟨rfl, rfl, rfl, rfl, rfl, .inl ⟨rfl, rfl⟩⟩
theorem Mst.ok {nx : Gd → Nat → Option Nat} {G O : Gd} {k : Nat} (h : Mst nx G k O) (hG : GdOk G) : GdOk O := by
  obtain ⟨h1, h2, h3, h4, h5, _⟩ := h
  exact ⟨by rw [h1]; exact hG.wide, by rw [h2]; exact hG.high, by rw [h5]; exact hG.x, by rw [h3]; exact hG.c, by rw [h4]; exact hG.g, fun _ _ => trivial⟩
theorem Mst.isB {nx : Gd → Nat → Option Nat} {G O : Gd} {k : Nat} (h : Mst nx G k O) (i : Nat) : isB O i = Go.Proofs.YtaghnminpfgdcaaGreatDoor.isB G i := by
  unfold Go.Proofs.YtaghnminpfgdcaaGreatDoor.isB
  rw [h.wide, h.high]
theorem Mst.ext {nx : Gd → Nat → Option Nat} {G O : Gd} {k : Nat} (h : Mst nx G k O) (hv : validB G = true) : extB O = true := by
  have := ext_of_valid hv
  unfold extB at this ⊢
  rw [h.wide, h.high]
  exact this
theorem Mst.skip {nx : Gd → Nat → Option Nat} {G O : Gd} {k : Nat} (h : Mst nx G k O) (hi : Go.Proofs.YtaghnminpfgdcaaGreatDoor.isB G k = false) : Mst nx G (k + 1) O := by
  refine ⟨h.wide, h.high, h.c, h.g, h.x, ?_⟩
  rw [cellTo_succ, hi]
  rcases h.heads with a | ⟨a, j, b, c⟩
  · exact .inl a
  · exact .inr ⟨a, j, by omega, c⟩
theorem Mst.put {nx : Gd → Nat → Option Nat} {G O : Gd} {k r : Nat} (h : Mst nx G k O) (hi : Go.Proofs.YtaghnminpfgdcaaGreatDoor.isB G k = true) (hr : num .f32 r = nx O k) : Mst nx G (k + 1) (putHd O k r) := by
  refine ⟨h.wide, h.high, h.c, h.g, h.x, ?_⟩
  rw [cellTo_succ, if_pos hi, swp_snoc]
  rcases h.heads with ⟨a, e⟩ | ⟨a, j, b, c, d⟩
  · have hp : plainO (nx O k) = plainB r := by rw [← hr, plainO_num]
    have h1 : (swStep nx (swp nx G (cellTo G k)) k).2.1 = plainB r := by
      show ((swp nx G (cellTo G k)).2.1 && plainO (nx (swp nx G (cellTo G k)).1 k)) = _
      rw [a, ← e, hp]
      rfl
    have h2 : (swStep nx (swp nx G (cellTo G k)) k).1 = putHd O k ((nx O k).getD 0) := by
      show putHd (swp nx G (cellTo G k)).1 k _ = _
      rw [← e]
    rw [h1, h2]
    cases hb : plainB r
    · exact .inr ⟨rfl, k, by omega, hi, by simp [putHd, upd, hb]⟩
    · refine .inl ⟨rfl, ?_⟩
      have hs : nx O k = some r := by
        rw [← hr]
        cases hn : nanK .f32 r
        · simp [num, hn]
        · rw [plain_nan hn] at hb; cases hb
      rw [hs]
      rfl
  · refine .inr ⟨?_, j, by omega, c, ?_⟩
    · show ((swp nx G (cellTo G k)).2.1 && _) = false
      rw [a]; rfl
    · simpa [putHd, upd, show j ≠ k by omega] using d
theorem putHd_self (O : Gd) (k : Nat) : putHd O k (O.h k) = O := by
  have : upd O.h k (O.h k) = O.h := by
    funext i
    unfold upd
    split
    · rename_i h; rw [h]
    · rfl
  unfold putHd
  rw [this]
theorem Mst.keep {nx : Gd → Nat → Option Nat} {G O : Gd} {k : Nat} (h : Mst nx G k O) (hi : Go.Proofs.YtaghnminpfgdcaaGreatDoor.isB G k = true) (hr : num .f32 (O.h k) = nx O k) : Mst nx G (k + 1) O := by
  have := h.put hi hr
  rwa [putHd_self] at this
theorem Mst.valid {nx : Gd → Nat → Option Nat} {G O : Gd} (h : Mst nx G 64 O) (hv : validB G = true) (hG : GdOk G) : validB O = (swp nx G (bitsL (cellsN G))).2.1 := by
  have e : bitsL (cellsN G) = cellTo G 64 := cellL_bits G
  rw [e]
  rcases h.heads with ⟨a, b⟩ | ⟨a, j, b, c, d⟩
  · rw [a, b]
    exact (swp_valid nx hv hG (cellTo G 64) (cellTo_ok G 64 (Nat.le_refl _)) a).1
  · rw [a]
    cases hO : validB O
    · rfl
    · have := valid_heads hO b (by rw [h.isB]; exact c)
      rw [this] at d
      cases d
/-- What the model's end of a sweep hands back. -/
def endV (G O : Gd) : Value := if validB O = true then .tuple #[.agg (Grd O), .float .f32 (mxL G O (cellTo G 64)), .int .i64 0] else .tuple #[.agg (Grd zG), .float .f32 0, .int .i64 4]
theorem Mst.endV {nx : Gd → Nat → Option Nat} {G O : Gd} (h : Mst nx G 64 O) (hv : validB G = true) (hG : GdOk G) : endV G O = sweptV nx G := by
  have e : bitsL (cellsN G) = cellTo G 64 := cellL_bits G
  have hV := h.valid hv hG
  unfold Go.Proofs.YtaghnminpfgdcaaGreatDoor.endV sweptV
  rw [hV]
  cases hs : (swp nx G (bitsL (cellsN G))).2.1
  · rfl
  · rw [e] at hs ⊢
    rcases h.heads with ⟨a, b⟩ | ⟨a, _⟩
    · simp only [if_true]
      rw [swp_mx, b]
    · rw [a] at hs; cases hs

set_option maxRecDepth 100000 in
set_option maxHeartbeats 2000000 in
theorem l02Greater_any (a b : Nat) (w : World) : Calls Tryz.prog 165 #[.float .f32 a, .float .f32 b] w fun e w' => e = .returned (.float .f32 (maxN a b)) ∧ w' = w := by
  cases h : (FloatKind.f32.format.order b a == some Ordering.gt)
  · have E := Lib.hid (show maxN a b = a by rw [maxN_gt, h]; rfl)
    go_enter Tryz.func165, Tryz.ntmps165
    go_wp2
    go_ret
    exact ⟨by first | (rw [E.out]; done) | (rw [E.out]; rfl), rfl⟩
  · have E := Lib.hid (show maxN a b = b by rw [maxN_gt, h]; rfl)
    go_enter Tryz.func165, Tryz.ntmps165
    go_wp2
    go_ret
    exact ⟨by first | (rw [E.out]; done) | (rw [E.out]; rfl), rfl⟩

theorem cellZ {G : Gd} (hv : validB G = true) : isB G 0 = true := by
  obtain ⟨v1, v2, v3, v4⟩ := valid_ext hv
  simp only [isB, Bool.and_eq_true, decide_eq_true_eq]
  omega
theorem fop_any2 (x y : Nat) : ∃ r, num .f32 r = fop .f32 .sub (num .f32 x) (num .f32 y) := fop_ex .f32 .sub rfl _ _ (num_ex _ _) (num_ex _ _)
theorem sub_lt {x y r : Nat} (hx : plainB x = true) (hy : plainB y = true) (hr : num .f32 r = fop .f32 .sub (num .f32 x) (num .f32 y)) : r < 4294967296 := by
  obtain ⟨t, h1, _, h3⟩ := plain_sub hx hy
  rw [h1] at hr
  obtain ⟨rfl, _⟩ := num_eq_some hr
  exact h3
theorem chg_size {x y r s : Nat} (hx : plainB x = true) (hy : plainB y = true) (hr : num .f32 r = fop .f32 .sub (num .f32 x) (num .f32 y)) (hs : num .f32 s = sizeO (num .f32 r)) : s = chgN x y := by
  obtain ⟨t, h1, _, _⟩ := plain_sub hx hy
  rw [hr] at hs
  exact (chg_is h1 hs).1
theorem chgN_ok {x y : Nat} (hx : plainB x = true) (hy : plainB y = true) : nanK .f32 (chgN x y) = false ∧ chgN x y < 2147483648 := by
  obtain ⟨t, h1, _, _⟩ := plain_sub hx hy
  have hs : num .f32 (szB t) = sizeO (fop .f32 .sub (num .f32 x) (num .f32 y)) := by
    rw [h1]
    have h2 := szB_num t
    have hn : num .f32 t = some t := by
      obtain ⟨r, hr⟩ := fop_any2 x y
      rw [h1] at hr
      obtain ⟨rfl, hn⟩ := num_eq_some hr
      simp [num, hn]
    rw [hn] at h2
    exact h2
  obtain ⟨e, h2, h3⟩ := chg_is h1 hs
  rw [← e]
  exact ⟨h2, h3⟩

set_option maxRecDepth 100000 in
set_option maxHeartbeats 2000000 in
theorem l02Change_any (G O : Gd) (hG : GdOk G) (hvG : validB G = true) (hvO : ∀ k, k < 64 → isB G k = true → plainB (O.h k) = true) (p q : Nat) (w : World) (hp : GrdAt w p 0 G) (hq : GrdAt w q 0 O) :
    Calls Tryz.prog 152 #[.pointer (some ⟨p, 0, none⟩), .pointer (some ⟨q, 0, none⟩)] w fun e w' => e = .returned (.float .f32 (mxL G O (cellTo G 64))) ∧ Quiet w w' := by
  have HG := Lib.hid hG
  have hv := Lib.hid hvG
  have hO := Lib.hid hvO
  have hA := Lib.hid (fun k (hk : k < 64) (hb : isB G k = true) => valid_heads hvG hk hb)
  have HP := Lib.hid hp
  have HQ := Lib.hid hq
  have hh := hp.h
  have hh2 := hq.h
  rw [Nat.zero_add] at hh hh2
  have CP := Lib.hid (fun k hk => Grd_fld hh k hk)
  have CQ := Lib.hid (fun k hk => Grd_fld hh2 k hk)
  have c0 := CP.out 0 (by omega)
  have d0 := CQ.out 0 (by omega)
  have M1 := Lib.hid (show mxL G O (cellTo G 1) = chgN (O.h 0) (G.h 0) by
    rw [cellTo_succ, if_pos (cellZ hvG)]
    show maxN 0 _ = _
    obtain ⟨n1, n2⟩ := chgN_ok (hvO 0 (by omega) (cellZ hvG)) (valid_heads hvG (by omega) (cellZ hvG))
    exact maxN_of0 n2 n1)
  clear hG hvG hvO hp hq hh hh2
  go_enter Tryz.func152, Tryz.ntmps152
  go_upto_region 1 with (fail)
  refine wp_region_calm (ops' := regOf Tryz.f152 1) [0, 1, 2, 3, 4, 5, 6, 7, 8, 9, 10, 11, 12] [] .fin (Quiet w) [(0, One (.pointer (some ⟨q, 0, none⟩))), (1, One (.pointer (some ⟨q, 0, none⟩))), (2, One (.pointer (some ⟨q, 130, none⟩))), (3, One (.pointer (some ⟨q, 130 + 0, none⟩))), (4, One (.float .f32 (O.h 0))), (5, One (.pointer (some ⟨p, 0, none⟩))), (6, One (.pointer (some ⟨p, 0, none⟩))), (7, One (.pointer (some ⟨p, 130, none⟩))), (8, One (.pointer (some ⟨p, 130 + 0, none⟩))), (9, One (.float .f32 (G.h 0))), (10, Numv .f32 (fop .f32 .sub (num .f32 (O.h 0)) (num .f32 (G.h 0)))), (11, One (.float .f32 (chgN (O.h 0) (G.h 0)))), (12, One (.float .f32 (chgN (O.h 0) (G.h 0))))] (by kernel_rfl) (by kernel_rfl) (by kernel_rfl) (by kernel_rfl) (by kernel_rfl) (by kernel_rfl) (by kernel_rfl) (by kernel_rfl) rfl ((Quiet.refl _).drewN 1) ?_
  refine calm_pure (some 7) (by kernel_rfl) (by kernel_rfl) (by kernel_rfl) (fun _ => by kernel_rfl) ?_
  refine calm_pure (some 8) (by kernel_rfl) (by kernel_rfl) (by kernel_rfl) (fun _ => by kernel_rfl) ?_
  refine calm_pure (some 9) (by kernel_rfl) (by kernel_rfl) (by kernel_rfl) (fun _ => by kernel_rfl) ?_
  refine calm_pure (some 10) (by kernel_rfl) (by kernel_rfl) (by kernel_rfl) (index_fld (x := .tmp 9) (y := (.const (.int .i64 0))) (o := 130) (by kernel_rfl) (by kernel_rfl) (by kernel_rfl) (by omega)) ?_
  refine calm_read (some 11) (by kernel_rfl) (by kernel_rfl) (by kernel_rfl) (fun w' hw' => load_cell (ty := 23) (x := .tmp 10) (b := q) (o := 130 + 0) (by kernel_rfl) (by kernel_rfl) Tryz.underlying23 rfl (kq d0 w' hw')) ?_
  refine calm_pure (some 12) (by kernel_rfl) (by kernel_rfl) (by kernel_rfl) (fun _ => by kernel_rfl) ?_
  refine calm_pure (some 13) (by kernel_rfl) (by kernel_rfl) (by kernel_rfl) (fun _ => by kernel_rfl) ?_
  refine calm_pure (some 14) (by kernel_rfl) (by kernel_rfl) (by kernel_rfl) (fun _ => by kernel_rfl) ?_
  refine calm_pure (some 15) (by kernel_rfl) (by kernel_rfl) (by kernel_rfl) (index_fld (x := .tmp 14) (y := (.const (.int .i64 0))) (o := 130) (by kernel_rfl) (by kernel_rfl) (by kernel_rfl) (by omega)) ?_
  refine calm_read (some 16) (by kernel_rfl) (by kernel_rfl) (by kernel_rfl) (fun w' hw' => load_cell (ty := 23) (x := .tmp 15) (b := p) (o := 130 + 0) (by kernel_rfl) (by kernel_rfl) Tryz.underlying23 rfl (kq c0 w' hw')) ?_
  refine calm_float (some 17) .f32 .sub 23 23 (.tmp 11) (.tmp 16) ((O.h 0)) ((G.h 0)) (by kernel_rfl) (by kernel_rfl) (by kernel_rfl) (by kernel_rfl) rfl (by kernel_rfl) (by kernel_rfl) (fun _ n h => h.drewN n) (rfl) ?_
  intro r17 hr17
  refine calm_call (some 18) 164 #[.float .f32 r17] ⟨_, rfl⟩ (by kernel_rfl) (by kernel_rfl) (by kernel_rfl) (fun _ => by kernel_rfl) (fun w' hw' => (l01Size_any r17 (sub_lt (hO.out 0 (by omega) (cellZ hv.out)) (hA.out 0 (by omega) (cellZ hv.out)) hr17) w').mono fun e w2 ⟨s, he, hr, hq⟩ => ⟨_, he.trans (by rw [(chg_size (hO.out 0 (by omega) (cellZ hv.out)) (hA.out 0 (by omega) (cellZ hv.out)) hr17 hr)]), rfl, hw'.trans hq⟩) ?_
  rintro _ rfl
  refine calm_pure (some 5) (by kernel_rfl) (by kernel_rfl) (by kernel_rfl) (fun _ => by kernel_rfl) ?_
  refine calm_end fun w1 hw1 => plan_end (Clean.normal ?_)
  simp only [Act.put, List.setIfInBounds_toArray, List.set_cons_zero, List.set_cons_succ, Nat.add_zero]
  clear c0 d0
  go_wp2
  go_loopw [5, 6] (fun s i wr => ∃ k m : Nat, 1 ≤ k ∧ k ≤ 64 ∧ i = .int .i64 k ∧ s = .float .f32 m ∧ Hid (mxL G O (cellTo G k) = m) ∧ Hid (Quiet w wr)) (fun _ i _ => 64 - (intOf i).toNat)
  case atStart => exact ⟨1, _, by omega, by omega, rfl, rfl, M1, Lib.hid hw1⟩
  case round =>
    obtain ⟨k, m, hk1, hk, rfl, rfl, hm, hQ⟩ := hrel
    by_cases hlt : k < 64
    · have hk2 : (k : Int) < 64 := by omega
      cases hi : isB G k
      · have Hi := Lib.hid hi
        have E := Lib.hid (show mxL G O (cellTo G (k + 1)) = m by rw [cellTo_succ, hi]; exact hm.out)
        clear hi
        go_wp2_with (go_at_call 81; refine (l01Is_is G k hlt false Hi.out _ _ (Quiet.grd hQ.out HP.out) HG.out).mono ?_; rintro e w' ⟨rfl, rfl⟩)
        go_roundw
        case rel =>
          exact ⟨k + 1, m, by omega, by omega, by go_num, rfl, E, hQ⟩
        case measure => simp [intOf]; omega
      · have Hi := Lib.hid hi
        have E := Lib.hid (show mxL G O (cellTo G (k + 1)) = maxN m (chgN (O.h k) (G.h k)) by rw [cellTo_succ, hi, if_pos rfl, mxL_snoc, hm.out])
        clear hi
        have ck := kq (CP.out k hlt) _ hQ.out
        have dk := kq (CQ.out k hlt) _ hQ.out
        go_upto_region 6 with (go_at_call 81; refine (l01Is_is G k hlt true Hi.out _ _ (Quiet.grd hQ.out HP.out) HG.out).mono ?_; rintro e w' ⟨rfl, hww⟩; rw [hww]; clear hww w')
        refine wp_region_calm (ops' := regOf Tryz.f152 6) [0, 1, 2, 3, 4, 5, 6, 7, 8, 9, 10, 11, 12, 13, 14, 15, 16] [] .fin (Quiet wr) [(0, One (.float .f32 m)), (1, One (.pointer (some ⟨q, 0, none⟩))), (2, One (.int .i64 (k : Int))), (3, One (.pointer (some ⟨q, 0, none⟩))), (4, One (.pointer (some ⟨q, 130, none⟩))), (5, One (.pointer (some ⟨q, 130 + k, none⟩))), (6, One (.float .f32 (O.h k))), (7, One (.pointer (some ⟨p, 0, none⟩))), (8, One (.int .i64 (k : Int))), (9, One (.pointer (some ⟨p, 0, none⟩))), (10, One (.pointer (some ⟨p, 130, none⟩))), (11, One (.pointer (some ⟨p, 130 + k, none⟩))), (12, One (.float .f32 (G.h k))), (13, Numv .f32 (fop .f32 .sub (num .f32 (O.h k)) (num .f32 (G.h k)))), (14, One (.float .f32 (chgN (O.h k) (G.h k)))), (15, One (.float .f32 (maxN m (chgN (O.h k) (G.h k))))), (16, One (.float .f32 (maxN m (chgN (O.h k) (G.h k)))))] (by kernel_rfl) (by kernel_rfl) (by kernel_rfl) (by kernel_rfl) (by kernel_rfl) (by kernel_rfl) (by kernel_rfl) (by kernel_rfl) rfl ((Quiet.refl _).drewN 1) ?_
        refine calm_pure (some 26) (by kernel_rfl) (by kernel_rfl) (by kernel_rfl) (fun _ => by kernel_rfl) ?_
        refine calm_pure (some 27) (by kernel_rfl) (by kernel_rfl) (by kernel_rfl) (fun _ => by kernel_rfl) ?_
        refine calm_pure (some 28) (by kernel_rfl) (by kernel_rfl) (by kernel_rfl) (fun _ => by kernel_rfl) ?_
        refine calm_pure (some 29) (by kernel_rfl) (by kernel_rfl) (by kernel_rfl) (fun _ => by kernel_rfl) ?_
        refine calm_pure (some 30) (by kernel_rfl) (by kernel_rfl) (by kernel_rfl) (fun _ => by kernel_rfl) ?_
        refine calm_pure (some 31) (by kernel_rfl) (by kernel_rfl) (by kernel_rfl) (index_fld (x := .tmp 30) (y := .tmp 28) (o := 130) (by kernel_rfl) (by kernel_rfl) (by kernel_rfl) hlt) ?_
        refine calm_read (some 32) (by kernel_rfl) (by kernel_rfl) (by kernel_rfl) (fun w' hw' => load_cell (ty := 23) (x := .tmp 31) (b := q) (o := 130 + k) (by kernel_rfl) (by kernel_rfl) Tryz.underlying23 rfl (kq dk w' hw')) ?_
        refine calm_pure (some 33) (by kernel_rfl) (by kernel_rfl) (by kernel_rfl) (fun _ => by kernel_rfl) ?_
        refine calm_pure (some 34) (by kernel_rfl) (by kernel_rfl) (by kernel_rfl) (fun _ => by kernel_rfl) ?_
        refine calm_pure (some 35) (by kernel_rfl) (by kernel_rfl) (by kernel_rfl) (fun _ => by kernel_rfl) ?_
        refine calm_pure (some 36) (by kernel_rfl) (by kernel_rfl) (by kernel_rfl) (fun _ => by kernel_rfl) ?_
        refine calm_pure (some 37) (by kernel_rfl) (by kernel_rfl) (by kernel_rfl) (index_fld (x := .tmp 36) (y := .tmp 34) (o := 130) (by kernel_rfl) (by kernel_rfl) (by kernel_rfl) hlt) ?_
        refine calm_read (some 38) (by kernel_rfl) (by kernel_rfl) (by kernel_rfl) (fun w' hw' => load_cell (ty := 23) (x := .tmp 37) (b := p) (o := 130 + k) (by kernel_rfl) (by kernel_rfl) Tryz.underlying23 rfl (kq ck w' hw')) ?_
        refine calm_float (some 39) .f32 .sub 23 23 (.tmp 32) (.tmp 38) ((O.h k)) ((G.h k)) (by kernel_rfl) (by kernel_rfl) (by kernel_rfl) (by kernel_rfl) rfl (by kernel_rfl) (by kernel_rfl) (fun _ n h => h.drewN n) (rfl) ?_
        intro r39 hr39
        refine calm_call (some 40) 164 #[.float .f32 r39] ⟨_, rfl⟩ (by kernel_rfl) (by kernel_rfl) (by kernel_rfl) (fun _ => by kernel_rfl) (fun w' hw' => (l01Size_any r39 (sub_lt (hO.out k hlt Hi.out) (hA.out k hlt Hi.out) hr39) w').mono fun e w2 ⟨s, he, hr, hq⟩ => ⟨_, he.trans (by rw [(chg_size (hO.out k hlt Hi.out) (hA.out k hlt Hi.out) hr39 hr)]), rfl, hw'.trans hq⟩) ?_
        rintro _ rfl
        refine calm_call (some 41) 165 #[.float .f32 m, .float .f32 (chgN (O.h k) (G.h k))] ⟨_, rfl⟩ (by kernel_rfl) (by kernel_rfl) (by kernel_rfl) (fun _ => by kernel_rfl) (fun w' hw' => (l02Greater_any m (chgN (O.h k) (G.h k)) w').mono fun e w2 h => ⟨_, h.1, rfl, h.2 ▸ hw'⟩) ?_
        rintro _ rfl
        refine calm_pure (some 5) (by kernel_rfl) (by kernel_rfl) (by kernel_rfl) (fun _ => by kernel_rfl) ?_
        refine calm_end fun w2 hw2 => plan_end (Clean.normal ?_)
        simp only [Act.put, List.setIfInBounds_toArray, List.set_cons_zero, List.set_cons_succ]
        go_wp2
        go_roundw
        case rel => exact ⟨k + 1, _, by omega, by omega, by go_num, rfl, E, hQ.out.trans hw2⟩
        case measure => simp [intOf]; omega
    · obtain rfl : k = 64 := by omega
      go_wp2
      go_ret
      exact ⟨by rw [hm.out]; rfl, hQ.out⟩
end

section
open Go.RowKit Go.Shelf
attribute [local go_sem] Oper.semAt_some run_store_float
set_option linter.unusedSimpArgs false
set_option linter.unusedVariables false

set_option maxRecDepth 100000 in
set_option maxHeartbeats 2000000 in
theorem l02Swept_any (G O : Gd) (hG : GdOk G) (hK : GdOk O) (hv : validB G = true) (he : ∀ i, isB O i = isB G i) (p q : Nat) (w : World) (hp : GBox w p G) (hq : GBox w q O) :
    Calls Tryz.prog 134 #[.pointer (some ⟨p, 0, none⟩), .pointer (some ⟨q, 0, none⟩)] w fun e w' => e = .returned (endV G O) ∧ Below w.heap.size w w' := by
  have hz := (zero_of_info zeroGround).1
  have hpl := hp.lt
  have hql := hq.lt
  go_enter Tryz.func134, Tryz.ntmps134
  go_upto_region 1 with (fail)
  obtain ⟨W, hW, zW, g1, hB⟩ := gbox1 zG 36 w
  rw [hW]
  clear hW
  have gP := Lib.hid (hp.below hB hpl)
  have gQ := Lib.hid (hq.below hB hql)
  have gR := Lib.hid g1
  have HB := Lib.hid hB
  have HG := Lib.hid hG
  have HK := Lib.hid hK
  have HV := Lib.hid hv
  have HE := Lib.hid he
  clear g1 hB hG hK hv he hp hq
  cases ho : validB O
  · have Ho := Lib.hid ho
    have HR := Lib.hid (show endV G O = .tuple #[.agg (Grd zG), .float .f32 0, .int .i64 4] by simp [endV, ho])
    clear ho
    go_wp2_with (first | (go_at_call 82; have hc := (l01Ok_any O q W gQ.out.at' HK.out); rw [Ho.out] at hc; refine hc.mono ?_; clear hc; rintro e w' ⟨rfl, n, rfl⟩; have t1 := (gR.out.below (Quiet.below ⟨n, rfl⟩ (w.heap.size + 1) : Below (w.heap.size + 1) W (World.drewN W n)) (by omega)).there; have SR := Lib.hid (gR.out.below (Quiet.below ⟨n, rfl⟩ (w.heap.size + 1) : Below (w.heap.size + 1) W (World.drewN W n)) (by omega)); have BW := Lib.hid (HB.out.trans (Quiet.below ⟨n, rfl⟩ _) : Below w.heap.size w (World.drewN W n))) | (refine st_stage 36 rfl ?_; refine wpList_store_mid rfl 36 _ _ rfl _ 0 (Grd (zG)) rfl rfl (by rw [Grd_size]; with_reducible exact t1) (by rw [Grd_size]; exact infoGround) (Grd_one _) ?_))
    refine bodyPost_ret (results_gfn rfl _ _ _ zG 0 4 rfl rfl rfl SR.out.store.range Tryz.underlying36 rfl infoG195) rfl ⟨by rw [HR.out], below_setCells _ (by omega) _ _ _ BW.out⟩
  · have Ho := Lib.hid ho
    have HO := Lib.hid (fun k (hk : k < 64) (hb : isB G k = true) => valid_heads ho hk ((HE.out k).trans hb))
    have HR := Lib.hid (show endV G O = .tuple #[.agg (Grd O), .float .f32 (mxL G O (cellTo G 64)), .int .i64 0] by simp [endV, ho])
    clear ho
    go_upto_region 3 with (go_at_call 82; have hc := (l01Ok_any O q W gQ.out.at' HK.out); rw [Ho.out] at hc; refine hc.mono ?_; clear hc; rintro e w' ⟨rfl, n, rfl⟩)
    obtain ⟨V, hV⟩ : ∃ V, World.drewN W n = V := ⟨_, rfl⟩
    have qV : Quiet W V := by rw [← hV]; exact ⟨n, rfl⟩
    rw [hV]
    have gP := Lib.hid (gP.out.below (qV.below (w.heap.size + 1)) (by omega))
    have gQ := Lib.hid (gQ.out.below (qV.below (w.heap.size + 1)) (by omega))
    have gR := Lib.hid (gR.out.below (qV.below (w.heap.size + 1)) (by omega))
    have HB := Lib.hid (HB.out.trans (qV.below _))
    have rO := gQ.out.range
    clear hV qV
    refine wp_region_plan (ops' := regOf Tryz.f134 3) (.take 0 (.take 1 (.take 2 (.take 3 (.take 4 (.run 5 (.run 6 (.take 7 (.take 8 .fin))))))))) (Below w.heap.size V) (by kernel_rfl) (by kernel_rfl) (by kernel_rfl) (by kernel_rfl) (by kernel_rfl) (Below.refl _ _).drew ?_
    refine plan_pure (some 11) (.pointer (some ⟨q, 0, none⟩)) (by kernel_rfl) (by kernel_rfl) (by kernel_rfl) (fun _ => by kernel_rfl) ?_
    refine plan_pure (some 12) (.pointer (some ⟨q, 0, none⟩)) (by kernel_rfl) (by kernel_rfl) (by kernel_rfl) (fun _ => by kernel_rfl) ?_
    refine plan_load (some 13) 36 (.tmp 12) q 0 (GrdL O) _ (by kernel_rfl) (by kernel_rfl) (by kernel_rfl) (by kernel_rfl) (by kernel_rfl) (fun w' hw' => range_kept (n := w.heap.size) rO hql _ hw') Tryz.underlying36 rfl (by rw [GrdL_length]; exact infoGround) ?_
    refine plan_pure (some 14) (.pointer (some ⟨p, 0, none⟩)) (by kernel_rfl) (by kernel_rfl) (by kernel_rfl) (fun _ => by kernel_rfl) ?_
    refine plan_pure (some 15) (.pointer (some ⟨q, 0, none⟩)) (by kernel_rfl) (by kernel_rfl) (by kernel_rfl) (fun _ => by kernel_rfl) ?_
    have qd : Quiet V V.drew := (Quiet.refl _).drewN 1
    refine plan_call (some 16) 152 #[.pointer (some ⟨p, 0, none⟩), .pointer (some ⟨q, 0, none⟩)] (by kernel_rfl) (by kernel_rfl) (by kernel_rfl) (by kernel_rfl) ((l02Change_any G O HG.out HV.out HO.out p q _ (Quiet.grd qd gP.out.at') (Quiet.grd qd gQ.out.at')).mono ?_)
    rintro e w1 ⟨rfl, hq1⟩
    have hw1 := qd.trans hq1
    have SR := Lib.hid (gR.out.below (hw1.below (w.heap.size + 1)) (by omega))
    refine ⟨_, rfl, hw1.below _, plan_do none undef (w1.setCells w.heap.size 0 (Grd O).toList) (by kernel_rfl) (by kernel_rfl) (by kernel_rfl) (.inr ⟨store_op (x := .tmp 4) (y := .tmp 13) (cs := Grd O) (by kernel_rfl) (by kernel_rfl) (by kernel_rfl) (by rw [Grd_size]; exact SR.out.there) (by rw [Grd_size]; exact infoGround) (Grd_one _), rfl⟩) (below_setCells _ (Nat.le_refl _) _ _ _ (hw1.below _)) (plan_pure (some 5) (.float .f32 (mxL G O (cellTo G 64))) (by kernel_rfl) (by kernel_rfl) (by kernel_rfl) (fun _ => by kernel_rfl) (plan_pure (some 6) (.int .i64 0) (by kernel_rfl) (by kernel_rfl) (by kernel_rfl) (fun _ => by kernel_rfl) (plan_end (NoPanic.normal ?_))))⟩
    simp only [Act.put, List.setIfInBounds_toArray, List.set_cons_zero, List.set_cons_succ]
    go_wp2
    refine bodyPost_ret (results_gfn rfl _ _ _ O (mxL G O (cellTo G 64)) 0 rfl rfl rfl SR.out.store.range Tryz.underlying36 rfl infoG195) rfl ⟨by rw [HR.out], below_setCells _ (by omega) _ _ _ (HB.out.trans (hw1.below _))⟩

theorem stepV_is (G : Gd) : ∃ (A : Gd) (m : Nat) (n : Int), stepV G = .tuple #[.agg (Grd A), .float .f32 m, .int .i64 n] := by
  unfold stepV
  split
  · exact sweptV_is _ _
  · exact ⟨_, _, _, rfl⟩
end

section
open Go.RowKit Go.Shelf
attribute [local go_sem] Oper.semAt_some run_store_float
set_option linter.unusedSimpArgs false
set_option linter.unusedVariables false

/-- Is a cell of the colour? All are, if it is less than 0. -/
def colB (c : Int) (k : Nat) : Bool := decide (c < 0) || decide ((((k % 8 + k / 8) % 2 : Nat) : Int) = c)
/-- The next head in a sweep of a colour. -/
def nxC (c : Int) (H : Gd) (k : Nat) : Option Nat := if colB c k = true then headO H k else num .f32 (H.h k)
theorem nxC_all : nxC (-1) = headO := by
  funext H k
  simp [nxC, colB]
theorem nxC_yes {c : Int} {H : Gd} {k : Nat} (h : colB c k = true) : nxC c H k = headO H k := by simp [nxC, h]
theorem nxC_no {c : Int} {H : Gd} {k : Nat} (h : colB c k = false) : nxC c H k = num .f32 (H.h k) := by simp [nxC, h]
theorem ordV_is (G : Gd) : ∃ (A : Gd) (m : Nat) (n : Int), ordV G = .tuple #[.agg (Grd A), .float .f32 m, .int .i64 n] := by
  unfold ordV
  split
  · exact sweptV_is _ _
  · exact ⟨_, _, _, rfl⟩
theorem col_rem (k : Nat) : ((k : Int).tmod 8 + (k : Int).tdiv 8).tmod 2 = (((k % 8 + k / 8) % 2 : Nat) : Int) := by
  have e1 : (k : Int).tmod 8 = (k : Int) % 8 := Int.tmod_eq_emod_of_nonneg (by omega)
  have e2 : (k : Int).tdiv 8 = (k : Int) / 8 := Int.tdiv_eq_ediv_of_nonneg (by omega)
  rw [e1, e2, Int.tmod_eq_emod_of_nonneg (by omega)]
  omega

set_option maxRecDepth 100000 in
set_option maxHeartbeats 2000000 in
theorem l02Sweep_any (G : Gd) (c : Int) (hc : c = -1 ∨ c = 0 ∨ c = 1) (p : Nat) (w : World) (hp : GBox w p G) (hv : validB G = true) (hG : GdOk G) :
    Calls Tryz.prog 113 #[.pointer (some ⟨p, 0, none⟩), .int .i64 c] w fun e w' => e = .returned (sweptV (nxC c) G) ∧ Below w.heap.size w w' := by
  have hz := (zero_of_info zeroGround).1
  have hpl := hp.lt
  go_enter Tryz.func113, Tryz.ntmps113
  go_upto_region 1 with (fail)
  obtain ⟨V, hV, zV, g1, hB⟩ := gbox1 zG 36 w
  rw [hV]
  clear hV
  have zv : w.heap.size < V.heap.size := by omega
  clear zV
  have gP := hp.below hB hpl
  have G1 := Lib.hid gP
  have G2 := Lib.hid g1
  have HB := Lib.hid hB
  have HG := Lib.hid hG
  have HV := Lib.hid hv
  have r1 := gP.range
  have hnt := new_thereG 36 V
  clear g1 hB hG hv hp gP
  go_upto_region 2 with (first | (refine ld_stage 36 rfl ?_; refine wpList_load_mid rfl 36 _ rfl (p) 0 rfl (GrdL (G)) _ r1 Tryz.underlying36 rfl (by rw [GrdL_length]; exact infoGround) ?_) | (refine st_stage 36 rfl ?_; refine wpList_store_mid rfl 36 _ _ rfl _ 0 (Grd (G)) rfl rfl (by rw [Grd_size]; with_reducible exact hnt) (by rw [Grd_size]; exact infoGround) (Grd_one _) ?_))
  obtain ⟨U, hU, zU, gU, bU⟩ := stored_box G 36 V
  rw [hU]
  have P1 := Lib.hid (G1.out.below bU (by omega))
  have P2 := Lib.hid (G2.out.below bU (by omega))
  have P0 := Lib.hid gU
  have PB := Lib.hid (HB.out.trans (bU.mono (by omega)))
  have PM := Lib.hid (Mst.start (nxC c) G)
  clear r1 hnt hU zU gU bU
  go_wp2
  go_loopw [8] (fun i wr => ∃ (k : Nat) (O : Gd), k ≤ 64 ∧ i = .int .i64 k ∧ Hid (Mst (nxC c) G k O) ∧ Hid (GBox wr V.heap.size O) ∧ Hid (GBox wr p G) ∧ Hid (GBox wr w.heap.size zG) ∧ Hid (Below w.heap.size w wr)) (fun i _ => 64 - (intOf i).toNat)
  case atStart => exact ⟨0, G, by omega, rfl, PM, P0, P1, P2, PB⟩
  case round =>
    clear P0 P1 P2 PB PM
    obtain ⟨k, O, hk, rfl, M, Q0, Q1, Q2, QB⟩ := hrel
    have zr := Q0.out.lt
    by_cases hlt : k < 64
    · have hk2 : (k : Int) < 64 := by omega
      cases hi : isB G k
      · have Hi := Lib.hid hi
        clear hi
        go_wp2_with (go_at_call 81; refine (l01Is_is G k hlt false Hi.out _ _ Q1.out.at' HG.out).mono ?_; rintro e w' ⟨rfl, rfl⟩)
        go_roundw
        case rel => exact ⟨k + 1, O, by omega, by go_num, Lib.hid (M.out.skip Hi.out), Q0, Q1, Q2, QB⟩
        case measure => simp [intOf]; omega
      · have Hi := Lib.hid hi
        clear hi
        by_cases hn : c < 0
        · have HC := Lib.hid (show colB c k = true by simp [colB, hn])
          go_wp2_with (first | (go_at_call 81; refine (l01Is_is G k hlt true Hi.out _ _ Q1.out.at' HG.out).mono ?_; rintro e w' ⟨rfl, rfl⟩) | (go_at_call 133; refine (l02Head_ext O k hlt (M.out.ext HV.out) V.heap.size _ Q0.out.at' (M.out.ok HG.out)).mono ?_; rintro e w1 ⟨r, rfl, hr, hq⟩; have HRr := Lib.hid hr; have S0 := Lib.hid (Q0.out.below (hq.below (V.heap.size + 1)) (by omega)); have S1 := Lib.hid (Q1.out.below (hq.below (V.heap.size + 1)) (by omega)); have S2 := Lib.hid (Q2.out.below (hq.below (V.heap.size + 1)) (by omega)); have SB := Lib.hid (QB.out.trans (hq.below _)); have b0 := S0.out.at_some (130 + k) (by omega); obtain ⟨u, hu⟩ := Option.isSome_iff_exists.1 b0; have f0 := S0.out.free (130 + k) (by omega); clear hr hq b0))
          go_roundw
          case rel => exact ⟨k + 1, putHd O k r, by omega, by go_num, Lib.hid (M.out.put Hi.out (HRr.out.trans (nxC_yes HC.out).symm)), Lib.hid (S0.out.putH hlt), Lib.hid (S1.out.far (by omega)), Lib.hid (S2.out.far (by omega)), Lib.hid (SB.out.setCell (p := ⟨V.heap.size, 130 + k, none⟩) (by show w.heap.size ≤ V.heap.size; omega) _)⟩
          case measure => simp [intOf]; omega
        · have h2 : (0 : Int) ≤ c ∧ c ≤ 1 := by omega
          have hrem := col_rem k
          cases hcb : colB c k
          · have HC := Lib.hid hcb
            have hne : (((k : Int) % 8 + (k : Int) / 8) % 2 == c) = false := by
              have h1 : ¬ (((k % 8 + k / 8) % 2 : Nat) : Int) = c := by
                intro h
                simp [colB, h] at hcb
              have h3 : ¬ ((k : Int) % 8 + (k : Int) / 8) % 2 = c := by omega
              simpa using h3
            have hne2 : ¬ ((k : Int) % 8 + (k : Int) / 8) % 2 = c := by simpa using hne
            go_wp2_with (go_at_call 81; refine (l01Is_is G k hlt true Hi.out _ _ Q1.out.at' HG.out).mono ?_; rintro e w' ⟨rfl, rfl⟩)
            go_roundw
            case rel => exact ⟨k + 1, O, by omega, by go_num, Lib.hid (M.out.keep Hi.out (nxC_no HC.out).symm), Q0, Q1, Q2, QB⟩
            case measure => simp [intOf]; omega
          · have HC := Lib.hid hcb
            have heq : (((k : Int) % 8 + (k : Int) / 8) % 2 == c) = true := by
              have h1 : (((k % 8 + k / 8) % 2 : Nat) : Int) = c := by simpa [colB, hn] using hcb
              have h3 : ((k : Int) % 8 + (k : Int) / 8) % 2 = c := by omega
              simpa using h3
            go_wp2_with (first | (go_at_call 81; refine (l01Is_is G k hlt true Hi.out _ _ Q1.out.at' HG.out).mono ?_; rintro e w' ⟨rfl, rfl⟩) | (go_at_call 133; refine (l02Head_ext O k hlt (M.out.ext HV.out) V.heap.size _ Q0.out.at' (M.out.ok HG.out)).mono ?_; rintro e w1 ⟨r, rfl, hr, hq⟩; have HRr := Lib.hid hr; have S0 := Lib.hid (Q0.out.below (hq.below (V.heap.size + 1)) (by omega)); have S1 := Lib.hid (Q1.out.below (hq.below (V.heap.size + 1)) (by omega)); have S2 := Lib.hid (Q2.out.below (hq.below (V.heap.size + 1)) (by omega)); have SB := Lib.hid (QB.out.trans (hq.below _)); have b0 := S0.out.at_some (130 + k) (by omega); obtain ⟨u, hu⟩ := Option.isSome_iff_exists.1 b0; have f0 := S0.out.free (130 + k) (by omega); clear hr hq b0))
            go_roundw
            case rel => exact ⟨k + 1, putHd O k r, by omega, by go_num, Lib.hid (M.out.put Hi.out (HRr.out.trans (nxC_yes HC.out).symm)), Lib.hid (S0.out.putH hlt), Lib.hid (S1.out.far (by omega)), Lib.hid (S2.out.far (by omega)), Lib.hid (SB.out.setCell (p := ⟨V.heap.size, 130 + k, none⟩) (by show w.heap.size ≤ V.heap.size; omega) _)⟩
            case measure => simp [intOf]; omega
    · obtain rfl : k = 64 := by omega
      have hE := M.out.endV HV.out HG.out
      obtain ⟨A, m, n, hA⟩ := sweptV_is (nxC c) G
      rw [hA] at hE
      have HE := Lib.hid hE
      have HA := Lib.hid hA
      clear hA hE
      go_wp2_with (first | (go_at_call 134; have hc := l02Swept_any G O HG.out (M.out.ok HG.out) HV.out (fun i => M.out.isB i) p V.heap.size wr Q1.out Q0.out; rw [HE.out] at hc; refine hc.mono ?_; clear hc; rintro e w1 ⟨rfl, hq⟩; have SR := Lib.hid (Q2.out.below hq (by omega)); have t1 := SR.out.there; have SB := Lib.hid (QB.out.trans (hq.mono (by omega))); clear hq) | (refine st_stage 36 rfl ?_; refine wpList_store_mid rfl 36 _ _ rfl _ 0 (Grd (A)) rfl rfl (by rw [Grd_size]; with_reducible exact t1) (by rw [Grd_size]; exact infoGround) (Grd_one _) ?_))
      refine bodyPost_ret (results_gfn rfl _ _ _ A m n rfl rfl rfl SR.out.store.range Tryz.underlying36 rfl infoG195) rfl ⟨by rw [HA.out], below_setCells _ (by omega) _ _ _ SB.out⟩

end
end Go.Proofs.YtaghnminpfgdcaaGreatDoor
