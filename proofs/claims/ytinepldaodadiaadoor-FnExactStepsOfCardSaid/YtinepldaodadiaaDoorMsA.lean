/- The model's sweeps: what they have in common. No condition. · The model's end of a sweep, and its StepAtOnce. No condition. · The model's sweep of a colour, or in order. No condition. -/
import Derived.Test.YtinepldaodadiaaDoorSwA
namespace Go.Proofs.YtinepldaodadiaaDoor

section
open Go.RowKit Go.Shelf
attribute [local go_sem] Oper.semAt_some run_store_float
set_option linter.unusedSimpArgs false
set_option linter.unusedVariables false

theorem order_swap (x y : Nat) : FloatKind.f32.format.order y x = (FloatKind.f32.format.order x y).map Ordering.swap := by
  unfold Ieee.Format.order
  cases FloatKind.f32.format.read x with
  | nan s f => cases FloatKind.f32.format.read y <;> simp [Ieee.Datum.order]
  | infinity s =>
    cases FloatKind.f32.format.read y with
    | nan t g => simp [Ieee.Datum.order]
    | infinity t => cases s <;> cases t <;> simp [Ieee.Datum.order] <;> decide
    | number t n j => cases s <;> simp [Ieee.Datum.order]
  | number s m i =>
    cases FloatKind.f32.format.read y with
    | nan t g => simp [Ieee.Datum.order]
    | infinity t => cases t <;> simp [Ieee.Datum.order]
    | number t n j =>
      simp only [Ieee.Datum.order, Option.map_some]
      rw [show min j i = min i j from Int.min_comm _ _, ← Int.compare_swap]
theorem maxN_gt (x y : Nat) : maxN x y = if (FloatKind.f32.format.order y x == some Ordering.gt) = true then y else x := by
  unfold maxN
  rw [order_swap x y]
  cases FloatKind.f32.format.order x y with
  | none => rfl
  | some o => cases o <;> rfl
theorem signed_pos (m k : Nat) : 0 ≤ Ieee.signed false m k := by
  unfold Ieee.signed
  rw [if_neg (by decide)]
  exact Int.natCast_nonneg _
theorem size_sign {s : Nat} (hs : s < 2147483648) : (FloatKind.f32.format.read s).neg = false := by
  have h0 : s / FloatKind.f32.format.signWeight % 2 = 0 := by
    rw [show FloatKind.f32.format.signWeight = 2147483648 by decide +kernel]
    omega
  unfold Ieee.Format.read
  simp only [h0]
  repeat' split
  all_goals simp [Ieee.Datum.neg]
theorem zero_reads : FloatKind.f32.format.read 0 = .number false 0 (-149) := by decide +kernel
theorem maxN_0 {m : Nat} (hm : m < 2147483648) : maxN m 0 = m := by
  unfold maxN
  rw [if_neg]
  have h := size_sign hm
  unfold Ieee.Format.order
  rw [zero_reads]
  cases hr : FloatKind.f32.format.read m with
  | nan s f => simp [Ieee.Datum.order]
  | infinity s => rw [hr] at h; simp only [Ieee.Datum.neg] at h; subst h; simp [Ieee.Datum.order]
  | number s n j =>
    rw [hr] at h
    simp only [Ieee.Datum.neg] at h
    subst h
    simp only [Ieee.Datum.order]
    have h1 := signed_pos n (j - min j (-149)).toNat
    have h2 : Ieee.signed false 0 (-149 - min j (-149)).toNat = 0 := by simp [Ieee.signed]
    rw [h2]
    simp only [compare, compareOfLessAndEq]
    rw [if_neg (by omega)]
    split <;> simp
theorem maxN_of0 {s : Nat} (hs : s < 2147483648) (hn : nanK .f32 s = false) : maxN 0 s = s := by
  unfold maxN
  by_cases h : FloatKind.f32.format.order 0 s = some Ordering.lt
  · rw [if_pos h]
  · rw [if_neg h]
    have hg := size_sign hs
    have hz : s % 2147483648 = s := Nat.mod_eq_of_lt hs
    unfold Ieee.Format.order at h
    rw [zero_reads] at h
    rw [nanK_read] at hn
    cases hr : FloatKind.f32.format.read s with
    | nan t f => rw [hr] at hn; simp [Ieee.Datum.isNaN] at hn
    | infinity t => rw [hr] at hg h; simp only [Ieee.Datum.neg] at hg; subst hg; simp [Ieee.Datum.order] at h
    | number t n j =>
      rw [hr] at hg h
      simp only [Ieee.Datum.neg] at hg
      subst hg
      have hn0 : n = 0 := by
        rcases Nat.eq_zero_or_pos n with e | e
        · exact e
        · exfalso
          apply h
          simp only [Ieee.Datum.order]
          have h2 : Ieee.signed false 0 (-149 - min (-149) j).toNat = 0 := by simp [Ieee.signed]
          have h3 : 0 < Ieee.signed false n (j - min (-149) j).toNat := by
            unfold Ieee.signed
            rw [if_neg (by decide), Nat.shiftLeft_eq]
            exact Int.natCast_pos.2 (Nat.mul_pos e (Nat.two_pow_pos _))
          rw [h2]
          simp only [compare, compareOfLessAndEq]
          rw [if_pos h3]
      subst hn0
      unfold Ieee.Format.read at hr
      simp only [show FloatKind.f32.format.signWeight = 2147483648 by decide +kernel, show FloatKind.f32.format.binade = 8388608 by decide +kernel, show FloatKind.f32.format.infRung = 2139095040 by decide +kernel, hz] at hr
      by_cases c1 : s < 8388608
      · rw [if_pos c1] at hr
        injection hr with _ e _
        exact e.symm
      · rw [if_neg c1] at hr
        by_cases c2 : s < 2139095040
        · rw [if_pos c2] at hr
          injection hr with _ e _
          omega
        · rw [if_neg c2] at hr
          split at hr <;> cases hr

/-- The greatest size of the changes at the cells of a list. -/
def mxL (A O : Gd) (l : List Nat) : Nat := l.foldl (fun m k => maxN m (chgN (O.h k) (A.h k))) 0
theorem mxL_snoc (A O : Gd) (l : List Nat) (k : Nat) : mxL A O (l ++ [k]) = maxN (mxL A O l) (chgN (O.h k) (A.h k)) := by simp [mxL]
theorem foldl_cong {f g : Nat → Nat → Nat} : ∀ (l : List Nat) (a : Nat), (∀ m, ∀ k ∈ l, f m k = g m k) → l.foldl f a = l.foldl g a
  | [], _, _ => rfl
  | k :: l, a, h => by
    rw [List.foldl_cons, List.foldl_cons, h a k (by simp)]
    exact foldl_cong l _ fun m j hj => h m j (by simp [hj])
theorem mxL_cong {A O P : Gd} {l : List Nat} (h : ∀ k ∈ l, O.h k = P.h k) : mxL A O l = mxL A P l := foldl_cong l 0 fun m k hk => by rw [h k hk]
theorem swp_other (nx : Gd → Nat → Option Nat) (G : Gd) (k : Nat) : ∀ (n : Nat), n ≤ k → (swp nx G (cellTo G n)).1.h k = G.h k
  | 0, _ => rfl
  | n + 1, h => by
    have ih := swp_other nx G k n (by omega)
    rw [cellTo_succ]
    split
    · rw [swp_snoc]
      show upd (swp nx G (cellTo G n)).1.h n _ k = _
      unfold upd
      rw [if_neg (by omega), ih]
    · exact ih
theorem swp_mx (nx : Gd → Nat → Option Nat) (G : Gd) : ∀ (n : Nat), (swp nx G (cellTo G n)).2.2 = mxL G (swp nx G (cellTo G n)).1 (cellTo G n)
  | 0 => rfl
  | n + 1 => by
    have ih := swp_mx nx G n
    have ho := swp_other nx G n n (Nat.le_refl _)
    rw [cellTo_succ]
    split
    · rw [swp_snoc, mxL_snoc]
      have e1 : (swStep nx (swp nx G (cellTo G n)) n).1.h n = (nx (swp nx G (cellTo G n)).1 n).getD 0 := by simp [swStep, putHd, upd]
      have e2 : mxL G (swStep nx (swp nx G (cellTo G n)) n).1 (cellTo G n) = mxL G (swp nx G (cellTo G n)).1 (cellTo G n) := mxL_cong fun k hk => by
        have : k < n := by
          have := (List.mem_filter.1 hk).1
          simpa using this
        simp [swStep, putHd, upd, show k ≠ n by omega]
      rw [e1, e2, ← ih]
      show maxN (swp nx G (cellTo G n)).2.2 (chgN _ ((swp nx G (cellTo G n)).1.h n)) = _
      rw [ho]
    · exact ih

/-- How the model's ground stands behind the first cells: as the program's, or some head is not plain. -/
structure Mst (nx : Gd → Nat → Option Nat) (G : Gd) (k : Nat) (O : Gd) : Prop where
  wide : O.wide = G.wide
  high : O.high = G.high
  c : O.c = G.c
  g : O.g = G.g
  x : O.x = G.x
  heads : ((swp nx G (cellTo G k)).2.1 = true ∧ O = (swp nx G (cellTo G k)).1) ∨ ((swp nx G (cellTo G k)).2.1 = false ∧ ∃ j, j < k ∧ isB G j = true ∧ plainB (O.h j) = false)
theorem Mst.start (nx : Gd → Nat → Option Nat) (G : Gd) : Mst nx G 0 G := ⟨rfl, rfl, rfl, rfl, rfl, .inl ⟨rfl, rfl⟩⟩
theorem Mst.ok {nx : Gd → Nat → Option Nat} {G O : Gd} {k : Nat} (h : Mst nx G k O) (hG : GdOk G) : GdOk O := by
  obtain ⟨h1, h2, h3, h4, h5, _⟩ := h
  exact ⟨by rw [h1]; exact hG.wide, by rw [h2]; exact hG.high, by rw [h5]; exact hG.x, by rw [h3]; exact hG.c, by rw [h4]; exact hG.g, fun _ _ => trivial⟩
theorem Mst.isB {nx : Gd → Nat → Option Nat} {G O : Gd} {k : Nat} (h : Mst nx G k O) (i : Nat) : isB O i = Go.Proofs.YtinepldaodadiaaDoor.isB G i := by
  unfold Go.Proofs.YtinepldaodadiaaDoor.isB
  rw [h.wide, h.high]
theorem Mst.ext {nx : Gd → Nat → Option Nat} {G O : Gd} {k : Nat} (h : Mst nx G k O) (hv : validB G = true) : extB O = true := by
  have := ext_of_valid hv
  unfold extB at this ⊢
  rw [h.wide, h.high]
  exact this
theorem Mst.skip {nx : Gd → Nat → Option Nat} {G O : Gd} {k : Nat} (h : Mst nx G k O) (hi : Go.Proofs.YtinepldaodadiaaDoor.isB G k = false) : Mst nx G (k + 1) O := by
  refine ⟨h.wide, h.high, h.c, h.g, h.x, ?_⟩
  rw [cellTo_succ, hi]
  rcases h.heads with a | ⟨a, j, b, c⟩
  · exact .inl a
  · exact .inr ⟨a, j, by omega, c⟩
theorem Mst.put {nx : Gd → Nat → Option Nat} {G O : Gd} {k r : Nat} (h : Mst nx G k O) (hi : Go.Proofs.YtinepldaodadiaaDoor.isB G k = true) (hr : num .f32 r = nx O k) : Mst nx G (k + 1) (putHd O k r) := by
  refine ⟨h.wide, h.high, h.c, h.g, h.x, ?_⟩
  rw [cellTo_succ, if_pos hi, swp_snoc]
  rcases h.heads with ⟨a, e⟩ | ⟨a, j, b, c, d⟩
  · have hp : plainO (nx O k) = plainB r := by rw [← hr, plainO_num]
    have h1 : (swStep nx (swp nx G (cellTo G k)) k).2.1 = plainB r := by
      show ((swp nx G (cellTo G k)).2.1 && plainO (nx (swp nx G (cellTo G k)).1 k)) = _
      rw [a, ← e, hp]
      rfl
    have h2 : (swStep nx (swp nx G (cellTo G k)) k).1 = putHd O k ((nx O k).getD 0) := by
      show putHd (swp nx G (cellTo G k)).1 k _ = _
      rw [← e]
    rw [h1, h2]
    cases hb : plainB r
    · exact .inr ⟨rfl, k, by omega, hi, by simp [putHd, upd, hb]⟩
    · refine .inl ⟨rfl, ?_⟩
      have hs : nx O k = some r := by
        rw [← hr]
        cases hn : nanK .f32 r
        · simp [num, hn]
        · rw [plain_nan hn] at hb; cases hb
      rw [hs]
      rfl
  · refine .inr ⟨?_, j, by omega, c, ?_⟩
    · show ((swp nx G (cellTo G k)).2.1 && _) = false
      rw [a]; rfl
    · simpa [putHd, upd, show j ≠ k by omega] using d
theorem putHd_self (O : Gd) (k : Nat) : putHd O k (O.h k) = O := by
  have : upd O.h k (O.h k) = O.h := by
    funext i
    unfold upd
    split
    · rename_i h; rw [h]
    · rfl
  unfold putHd
  rw [this]
theorem Mst.keep {nx : Gd → Nat → Option Nat} {G O : Gd} {k : Nat} (h : Mst nx G k O) (hi : Go.Proofs.YtinepldaodadiaaDoor.isB G k = true) (hr : num .f32 (O.h k) = nx O k) : Mst nx G (k + 1) O := by
  have := h.put hi hr
  rwa [putHd_self] at this
theorem Mst.valid {nx : Gd → Nat → Option Nat} {G O : Gd} (h : Mst nx G 64 O) (hv : validB G = true) (hG : GdOk G) : validB O = (swp nx G (bitsL (cellsN G))).2.1 := by
  have e : bitsL (cellsN G) = cellTo G 64 := cellL_bits G
  rw [e]
  rcases h.heads with ⟨a, b⟩ | ⟨a, j, b, c, d⟩
  · rw [a, b]
    exact (swp_valid nx hv hG (cellTo G 64) (cellTo_ok G 64 (Nat.le_refl _)) a).1
  · rw [a]
    cases hO : validB O
    · rfl
    · have := valid_heads hO b (by rw [h.isB]; exact c)
      rw [this] at d
      cases d
/-- What the model's end of a sweep hands back. -/
def endV (G O : Gd) : Value := if validB O = true then .tuple #[.agg (Grd O), .float .f32 (mxL G O (cellTo G 64)), .int .i64 0] else .tuple #[.agg (Grd zG), .float .f32 0, .int .i64 4]
theorem Mst.endV {nx : Gd → Nat → Option Nat} {G O : Gd} (h : Mst nx G 64 O) (hv : validB G = true) (hG : GdOk G) : endV G O = sweptV nx G := by
  have e : bitsL (cellsN G) = cellTo G 64 := cellL_bits G
  have hV := h.valid hv hG
  unfold Go.Proofs.YtinepldaodadiaaDoor.endV sweptV
  rw [hV]
  cases hs : (swp nx G (bitsL (cellsN G))).2.1
  · rfl
  · rw [e] at hs ⊢
    rcases h.heads with ⟨a, b⟩ | ⟨a, _⟩
    · simp only [if_true]
      rw [swp_mx, b]
    · rw [a] at hs; cases hs

theorem cellZ {G : Gd} (hv : validB G = true) : isB G 0 = true := by
  obtain ⟨v1, v2, v3, v4⟩ := valid_ext hv
  simp only [isB, Bool.and_eq_true, decide_eq_true_eq]
  omega
theorem fop_any2 (x y : Nat) : ∃ r, num .f32 r = fop .f32 .sub (num .f32 x) (num .f32 y) := fop_ex .f32 .sub rfl _ _ (num_ex _ _) (num_ex _ _)
theorem sub_lt {x y r : Nat} (hx : plainB x = true) (hy : plainB y = true) (hr : num .f32 r = fop .f32 .sub (num .f32 x) (num .f32 y)) : r < 4294967296 := by
  obtain ⟨t, h1, _, h3⟩ := plain_sub hx hy
  rw [h1] at hr
  obtain ⟨rfl, _⟩ := num_eq_some hr
  exact h3
theorem chg_size {x y r s : Nat} (hx : plainB x = true) (hy : plainB y = true) (hr : num .f32 r = fop .f32 .sub (num .f32 x) (num .f32 y)) (hs : num .f32 s = sizeO (num .f32 r)) : s = chgN x y := by
  obtain ⟨t, h1, _, _⟩ := plain_sub hx hy
  rw [hr] at hs
  exact (chg_is h1 hs).1
theorem chgN_ok {x y : Nat} (hx : plainB x = true) (hy : plainB y = true) : nanK .f32 (chgN x y) = false ∧ chgN x y < 2147483648 := by
  obtain ⟨t, h1, _, _⟩ := plain_sub hx hy
  have hs : num .f32 (szB t) = sizeO (fop .f32 .sub (num .f32 x) (num .f32 y)) := by
    rw [h1]
    have h2 := szB_num t
    have hn : num .f32 t = some t := by
      obtain ⟨r, hr⟩ := fop_any2 x y
      rw [h1] at hr
      obtain ⟨rfl, hn⟩ := num_eq_some hr
      simp [num, hn]
    rw [hn] at h2
    exact h2
  obtain ⟨e, h2, h3⟩ := chg_is h1 hs
  rw [← e]
  exact ⟨h2, h3⟩

end

section
open Go.RowKit Go.Shelf
attribute [local go_sem] Oper.semAt_some run_store_float
set_option linter.unusedSimpArgs false
set_option linter.unusedVariables false

theorem stepV_is (G : Gd) : ∃ (A : Gd) (m : Nat) (n : Int), stepV G = .tuple #[.agg (Grd A), .float .f32 m, .int .i64 n] := by
  unfold stepV
  split
  · exact sweptV_is _ _
  · exact ⟨_, _, _, rfl⟩
end

section
open Go.RowKit Go.Shelf
attribute [local go_sem] Oper.semAt_some run_store_float
set_option linter.unusedSimpArgs false
set_option linter.unusedVariables false

/-- Is a cell of the colour? All are, if it is less than 0. -/
def colB (c : Int) (k : Nat) : Bool := decide (c < 0) || decide ((((k % 8 + k / 8) % 2 : Nat) : Int) = c)
/-- The next head in a sweep of a colour. -/
def nxC (c : Int) (H : Gd) (k : Nat) : Option Nat := if colB c k = true then headO H k else num .f32 (H.h k)
theorem nxC_all : nxC (-1) = headO := by
  funext H k
  simp [nxC, colB]
theorem nxC_yes {c : Int} {H : Gd} {k : Nat} (h : colB c k = true) : nxC c H k = headO H k := by simp [nxC, h]
theorem nxC_no {c : Int} {H : Gd} {k : Nat} (h : colB c k = false) : nxC c H k = num .f32 (H.h k) := by simp [nxC, h]
theorem ordV_is (G : Gd) : ∃ (A : Gd) (m : Nat) (n : Int), ordV G = .tuple #[.agg (Grd A), .float .f32 m, .int .i64 n] := by
  unfold ordV
  split
  · exact sweptV_is _ _
  · exact ⟨_, _, _, rfl⟩
theorem col_rem (k : Nat) : ((k : Int).tmod 8 + (k : Int).tdiv 8).tmod 2 = (((k % 8 + k / 8) % 2 : Nat) : Int) := by
  have e1 : (k : Int).tmod 8 = (k : Int) % 8 := Int.tmod_eq_emod_of_nonneg (by omega)
  have e2 : (k : Int).tdiv 8 = (k : Int) / 8 := Int.tdiv_eq_ediv_of_nonneg (by omega)
  rw [e1, e2, Int.tmod_eq_emod_of_nonneg (by omega)]
  omega

end
end Go.Proofs.YtinepldaodadiaaDoor
