/- SafeStep: the model's. Conditions: none. -/
import Derived.Test.YtikefaollfaejaaDoorBrSs
import Derived.Test.YtikefaollfaejaaDoorQuo
namespace Go.Proofs.YtikefaollfaejaaDoor
open Go.RowKit Go.Shelf
attribute [local go_sem] Oper.semAt_some run_store_float
set_option linter.unusedSimpArgs false
set_option linter.unusedVariables false

section
open Ieee
theorem read_mod (b : Nat) : single.read b = single.read (b % 4294967296) := by
  have h1 : b / 2147483648 % 2 = b % 4294967296 / 2147483648 % 2 := by omega
  have h2 : b % 2147483648 = b % 4294967296 % 2147483648 := by omega
  unfold Format.read
  simp only [sw32]
  rw [h1, h2]
/-- What is no less than a number that is greater than 0 has no sign. -/
theorem ge_word {b c : Nat} (hb : b < 4294967296) (h0 : 0 < c) (hc : c < 2139095040) (h : single.order b c = some Ordering.gt ∨ single.order b c = some Ordering.eq) : 0 < b ∧ b ≤ 2139095040 := by
  obtain ⟨n, j, hr, hj, hv⟩ := read_posM hc
  have hn : 0 < n := by
    rcases Nat.eq_zero_or_pos n with e | e
    · have := val32_pos h0
      rw [e, Nat.zero_mul] at hv
      omega
    · exact e
  by_cases hw : b ≤ 2139095040
  · refine ⟨?_, hw⟩
    rcases Nat.eq_zero_or_pos b with e | e
    · exfalso
      subst e
      rw [word_order (by omega) (by omega)] at h
      simp only [compare, compareOfLessAndEq, if_pos h0] at h
      simp at h
    · exact e
  · exfalso
    unfold Format.order at h
    rw [hr] at h
    by_cases hs : b < 2147483648
    · have e : b % 2147483648 = b := by omega
      unfold Format.read at h
      simp only [sw32, bin32, inf32, lp32, e] at h
      rw [if_neg (by omega), if_neg (by omega), if_neg (by omega)] at h
      simp [Datum.order] at h
    · have hp : ∀ (m k : Nat) (i : Int), compare (signed true m k) (signed false n (j - i).toNat) = Ordering.lt := by
        intro m k i
        refine cmpI_of (Int.lt_of_le_of_lt (sgn_neg m k) ?_)
        simp only [signed, Bool.false_eq_true, if_false, Nat.shiftLeft_eq]
        exact Int.natCast_pos.2 (Nat.mul_pos hn (Nat.two_pow_pos _))
      have e : (b / 2147483648 % 2 == 1) = true := by rw [beq_iff_eq]; omega
      unfold Format.read at h
      simp only [sw32, bin32, inf32, lp32, e] at h
      split at h
      · simp only [Datum.order, hp] at h; simp at h
      · split at h
        · simp only [Datum.order, hp] at h; simp at h
        · split at h
          · simp [Datum.order] at h
          · simp [Datum.order] at h
end

/-- The room of a brine that is valid, as a word. -/
def roomN (B : Brn) : Nat := B.r % 4294967296
theorem room_is {B : Brn} (h : brnB B = true) : 0 < roomN B ∧ roomN B < 2139095040 ∧ nanK .f32 B.r = false := by
  have hp : plainB B.r = true := by
    cases e : plainB B.r
    · unfold brnB at h; rw [e] at h; simp at h
    · rfl
  have ht : tinyB B.r = false := by
    cases e : tinyB B.r
    · rfl
    · unfold brnB at h; rw [e] at h; simp at h
  have hn : nanK .f32 B.r = false := by
    cases e : nanK .f32 B.r
    · rfl
    · unfold plainB at hp; rw [ord_none e, ord_none e] at hp; simp at hp
  have ho : ∀ c, FloatKind.f32.format.order B.r c = Ieee.single.order (roomN B) c := by
    intro c
    show (Ieee.single.read B.r).order _ = (Ieee.single.read (roomN B)).order _
    rw [read_mod B.r]
    rfl
  unfold tinyB at ht
  unfold plainB at hp
  rw [Bool.and_eq_true] at hp
  have h2 := hp.2
  rw [ho] at ht h2
  obtain ⟨o, ho2⟩ := ord_some (k := .f32) hn (show nanK .f32 981467136 = false by decide +kernel)
  rw [ho] at ho2
  rw [ho2] at ht
  have hge : Ieee.single.order (roomN B) 981467136 = some Ordering.gt ∨ Ieee.single.order (roomN B) 981467136 = some Ordering.eq := by
    rw [ho2]
    cases o
    · simp at ht
    · exact .inr rfl
    · exact .inl rfl
  have hw := ge_word (show roomN B < 4294967296 by unfold roomN; omega) (by decide) (by decide) hge
  refine ⟨hw.1, ?_, hn⟩
  rw [word_order hw.2 (by decide)] at h2
  rcases Nat.lt_trichotomy (roomN B) 1233125376 with z | z | z
  · omega
  · omega
  · exfalso
    simp only [compare, compareOfLessAndEq, if_neg (show ¬ roomN B < 1233125376 by omega), if_neg (show ¬ roomN B = 1233125376 by omega)] at h2
    simp at h2
/-- What goes out of a cell, as a word. -/
def outN (G : Gd) (k : Nat) : Nat := (outO G k).getD 0
theorem word_notnan {b : Nat} (h : b ≤ 2139095040) : nanK .f32 b = false := by
  unfold nanK
  rw [show FloatKind.f32.format.order b b = some (compare b b) from word_order h h]
  simp [compare, compareOfLessAndEq]
theorem flowS_lt {G : Gd} {k : Nat} {s : Int} {r : Nat} (h : flowS G k s = some r) : r < 4294967296 := by
  unfold flowS at h
  split at h
  · exact fop_lt h
  · rw [num_some (by decide +kernel)] at h
    cases h
    decide
theorem outL_word (G : Gd) (k : Nat) (l : List Nat) : ∃ v, outL G k l = some v ∧ v ≤ 2139095040 := by
  unfold outL
  suffices h : ∀ (l : List Nat) (o : Option Nat), (∃ v, o = some v ∧ v ≤ 2139095040) → ∃ v, l.foldl (outStep G k) o = some v ∧ v ≤ 2139095040 from h l _ ⟨0, num_some (by decide +kernel), by decide⟩
  intro l
  induction l with
  | nil => intro o h; exact h
  | cons s l ih =>
    rintro _ ⟨v, rfl, hv⟩
    refine ih _ ?_
    unfold outStep
    split
    · rename_i hp
      cases hf : flowS G k (s : Int) with
      | none => rw [hf] at hp; cases hp
      | some r =>
        rw [hf] at hp
        have hg := gt_word (flowS_lt hf) (by simp only [posO, beq_iff_eq] at hp; exact hp)
        obtain ⟨c, hc, hl⟩ := add_pos hv hg.2
        exact ⟨c, hc, hl⟩
    · exact ⟨v, rfl, hv⟩
theorem outO_word (G : Gd) (k : Nat) : outO G k = some (outN G k) ∧ outN G k ≤ 2139095040 := by
  suffices h : ∃ v, outO G k = some v ∧ v ≤ 2139095040 by
    obtain ⟨v, h1, h2⟩ := h
    unfold outN
    rw [h1]
    exact ⟨rfl, h2⟩
  obtain ⟨v, hv, hl⟩ := outL_word G k (List.range 4)
  unfold outO
  rw [hv]
  split
  · rename_i hn
    obtain ⟨c, hc, hcl⟩ := sub_neg (b := G.g k) (by simp only [negB, beq_iff_eq] at hn; exact hn)
    have : fop .f32 .sub (num .f32 0) (num .f32 (G.g k)) = some c := by
      rw [fop_num]; exact hc
    rw [this]
    obtain ⟨d, hd, hdl⟩ := add_pos hl hcl
    exact ⟨d, hd, hdl⟩
  · exact ⟨v, rfl, hl⟩
/-- The safe step of a cell, or of the cell from which most goes out. -/
def safeN (B : Brn) (m : Nat) : Nat := qd32 (roomN B) (tw32 m)
theorem tw_fop {m : Nat} (hm : m ≤ 2139095040) : fop .f32 .mul (num .f32 1073741824) (num .f32 m) = some (tw32 m) := by
  rw [fop_num]; exact tw32_is hm
theorem safe_fop {B : Brn} (h : brnB B = true) {m : Nat} (h0 : 0 < m) (hm : m ≤ 2139095040) : fop .f32 .quo (num .f32 B.r) (fop .f32 .mul (num .f32 1073741824) (num .f32 m)) = some (safeN B m) := by
  obtain ⟨r0, r1, rn⟩ := room_is h
  obtain ⟨_, t1, t0⟩ := tw32_mono (x := m) (y := m) h0 (Nat.le_refl _) hm
  rw [tw_fop hm, num_some rn]
  show (((Ieee.single.read B.r).quotient 25 (Ieee.single.read (tw32 m))).map Ieee.single.write) = _
  rw [read_mod B.r]
  exact qd32_is r1 t0 t1
theorem safe_le {B : Brn} (h : brnB B = true) {m : Nat} (h0 : 0 < m) (hm : m ≤ 2139095040) : safeN B m ≤ 2139095040 := by
  obtain ⟨r0, r1, rn⟩ := room_is h
  obtain ⟨_, t1, t0⟩ := tw32_mono (x := m) (y := m) h0 (Nat.le_refl _) hm
  exact qd32_le r1 r0 t0 t1
theorem safe_anti {B : Brn} (h : brnB B = true) {m n : Nat} (h0 : 0 < m) (hmn : m ≤ n) (hn : n ≤ 2139095040) : safeN B n ≤ safeN B m := by
  obtain ⟨r0, r1, rn⟩ := room_is h
  obtain ⟨t, t1, t0⟩ := tw32_mono (x := m) (y := n) h0 hmn hn
  exact qd32_anti r1 r0 t0 t t1
/-- The greatest of what goes out of cells. -/
def mxO (G : Gd) (l : List Nat) : Nat := l.foldl (fun m k => max m (outN G k)) 0
theorem mxO_snoc (G : Gd) (l : List Nat) (k : Nat) : mxO G (l ++ [k]) = max (mxO G l) (outN G k) := by simp [mxO]
theorem mxO_le (G : Gd) (l : List Nat) : mxO G l ≤ 2139095040 := by
  unfold mxO
  suffices h : ∀ (l : List Nat) (m : Nat), m ≤ 2139095040 → l.foldl (fun m k => max m (outN G k)) m ≤ 2139095040 from h l 0 (by omega)
  intro l
  induction l with
  | nil => intro m h; exact h
  | cons k l ih => intro m h; exact ih _ (Nat.max_le.2 ⟨h, (outO_word G k).2⟩)
def frO (G : Gd) (k : Nat) : List Nat := (List.range k).filter (frB G)
theorem frO_yes {G : Gd} {k : Nat} (h : frB G k = true) : frO G (k + 1) = frO G k ++ [k] := by
  unfold frO; rw [List.range_succ, List.filter_append]; simp [h]
theorem frO_no {G : Gd} {k : Nat} (h : frB G k = false) : frO G (k + 1) = frO G k := by
  unfold frO; rw [List.range_succ, List.filter_append]; simp [h]
def safeV (B : Brn) : Value :=
  if brnB B = true then
    (if mxO B.G (frO B.G 64) = 0 then FI 0 6 else if plainB (safeN B (mxO B.G (frO B.G 64))) = true then FI (safeN B (mxO B.G (frO B.G 64))) 0 else FI 0 4)
  else FI 0 1
theorem safeV_is (B : Brn) : ∃ (b : Nat) (n : Int), safeV B = .tuple #[.float .f32 b, .int .i64 n] := by
  unfold safeV
  repeat' split
  all_goals exact ⟨_, _, rfl⟩
/-- The model's state: whether a cell was found, and the least step. -/
def fndB (G : Gd) (k : Nat) : Bool := decide (0 < mxO G (frO G k))
def lstN (B : Brn) (k : Nat) : Nat := if mxO B.G (frO B.G k) = 0 then 0 else safeN B (mxO B.G (frO B.G k))
theorem word_lt_is {a b : Nat} (ha : a ≤ 2139095040) (hb : b ≤ 2139095040) : (FloatKind.f32.format.order a b == some Ordering.lt) = decide (a < b) := by
  rw [show FloatKind.f32.format.order a b = some (compare a b) from word_order ha hb]
  by_cases h : a < b
  · simp [compare, compareOfLessAndEq, h]
  · rw [show decide (a < b) = false by simpa using h]
    simp only [compare, compareOfLessAndEq, if_neg h]
    split <;> rfl
theorem word_gt_is {a b : Nat} (ha : a ≤ 2139095040) (hb : b ≤ 2139095040) : (FloatKind.f32.format.order a b == some Ordering.gt) = decide (b < a) := by
  rw [show FloatKind.f32.format.order a b = some (compare a b) from word_order ha hb]
  rcases Nat.lt_trichotomy a b with h | h | h
  · rw [show decide (b < a) = false by simp; omega]
    simp [compare, compareOfLessAndEq, h]
  · subst h
    simp [compare, compareOfLessAndEq]
  · rw [show decide (b < a) = true by simpa using h]
    simp only [compare, compareOfLessAndEq, if_neg (show ¬ a < b by omega), if_neg (show ¬ a = b by omega)]
    rfl
theorem lst_no {B : Brn} {k : Nat} (h : frB B.G k = false) : fndB B.G (k + 1) = fndB B.G k ∧ lstN B (k + 1) = lstN B k := by
  unfold fndB lstN; rw [frO_no h]; exact ⟨rfl, rfl⟩
theorem lst_zero {B : Brn} {k : Nat} (h : frB B.G k = true) (h0 : outN B.G k = 0) : fndB B.G (k + 1) = fndB B.G k ∧ lstN B (k + 1) = lstN B k := by
  unfold fndB lstN; rw [frO_yes h, mxO_snoc, h0, Nat.max_eq_left (Nat.zero_le _)]; exact ⟨rfl, rfl⟩
theorem lst_take {B : Brn} {k : Nat} (hv : brnB B = true) (h : frB B.G k = true) (h0 : 0 < outN B.G k) (ht : fndB B.G k = false ∨ safeN B (outN B.G k) < lstN B k) : fndB B.G (k + 1) = true ∧ lstN B (k + 1) = safeN B (outN B.G k) := by
  have hw := (outO_word B.G k).2
  have hm := mxO_le B.G (frO B.G k)
  have hge : mxO B.G (frO B.G k) ≤ outN B.G k := by
    rcases ht with ht | ht
    · unfold fndB at ht; simp at ht; omega
    · rcases Nat.lt_or_ge (outN B.G k) (mxO B.G (frO B.G k)) with g | g
      · exfalso
        have := safe_anti hv h0 (Nat.le_of_lt g) hm
        unfold lstN at ht
        rw [if_neg (by omega)] at ht
        omega
      · exact g
  unfold fndB lstN
  rw [frO_yes h, mxO_snoc, Nat.max_eq_right hge, if_neg (by omega)]
  exact ⟨by simpa using h0, rfl⟩
theorem lst_keep {B : Brn} {k : Nat} (hv : brnB B = true) (h : frB B.G k = true) (h0 : 0 < outN B.G k) (hf : fndB B.G k = true) (ht : ¬ safeN B (outN B.G k) < lstN B k) : fndB B.G (k + 1) = true ∧ lstN B (k + 1) = lstN B k := by
  have hw := (outO_word B.G k).2
  have hm := mxO_le B.G (frO B.G k)
  unfold fndB at hf
  simp at hf
  unfold fndB lstN at *
  rw [frO_yes h, mxO_snoc]
  rw [if_neg (by omega)] at ht ⊢
  refine ⟨by simp; omega, ?_⟩
  rw [if_neg (by omega)]
  rcases Nat.lt_or_ge (mxO B.G (frO B.G k)) (outN B.G k) with g | g
  · rw [Nat.max_eq_right (Nat.le_of_lt g)]
    have := safe_anti hv hf (Nat.le_of_lt g) hw
    omega
  · rw [Nat.max_eq_left g]
theorem lstN_le {B : Brn} (hv : brnB B = true) (k : Nat) : lstN B k ≤ 2139095040 := by
  unfold lstN
  split
  · omega
  · exact safe_le hv (by omega) (mxO_le _ _)
--SPEC

set_option maxRecDepth 100000 in
set_option maxHeartbeats 4000000 in
theorem specSafe_any (B : Brn) (w : World) (hG : BrnOk B) :
    Calls Tryd.prog 4 #[.agg (BrnA B)] w fun e w' => e = .returned (safeV B) ∧ Below w.heap.size w w' := by
  go_enter Tryd.func4, Tryd.ntmps4
  go_upto_region 1 with (fail)
  obtain ⟨W, hW, hs, b1, hB⟩ := bbox1 B 36 w
  rw [hW]
  clear hW
  have B1 := Lib.hid b1
  have HB := Lib.hid hB
  have HG := Lib.hid hG
  clear b1 hB hG
  cases hv : brnB B
  · have Hv := Lib.hid hv
    have R := Lib.hid (show safeV B = FI 0 1 by unfold safeV; rw [hv]; rfl)
    clear hv
    go_wp2_with (go_at_call 8; have hc := (l05Ok_any B (w.heap.size) W B1.out.at' HG.out); rw [Hv.out] at hc; refine hc.mono ?_; clear hc; rintro e w1 ⟨rfl, hq⟩; have HQ := Lib.hid hq; clear hq)
    go_ret2
    exact ⟨congrArg Ending.returned R.out.symm, HB.out.trans (HQ.out.below _)⟩
  · have Hv := Lib.hid hv
    have HVB := Lib.hid (brn_valid hv)
    have R := Lib.hid (show safeV B = (if mxO B.G (frO B.G 64) = 0 then FI 0 6 else if plainB (safeN B (mxO B.G (frO B.G 64))) = true then FI (safeN B (mxO B.G (frO B.G 64))) 0 else FI 0 4) by unfold safeV; rw [hv]; rfl)
    clear hv
    go_upto_region 3 with (go_at_call 8; have hc := (l05Ok_any B (w.heap.size) W B1.out.at' HG.out); rw [Hv.out] at hc; refine hc.mono ?_; clear hc; rintro e w1 ⟨rfl, hq⟩; have HQ := Lib.hid hq; clear hq)
    have b2 := B1.out.below (HQ.out.below (w.heap.size + 1)) (by omega)
    have BW := Lib.hid b2
    have HB1 := Lib.hid (HB.out.trans (HQ.out.below _))
    clear B1 b2 HB HQ
    go_wp2
    go_loopw [4, 5, 6] (fun f l i wr => ∃ k : Nat, k ≤ 64 ∧ i = .int .i64 k ∧ f = .bool (fndB B.G k) ∧ l = .float .f32 (lstN B k) ∧ Hid (Quiet w1 wr)) (fun _ _ i _ => 64 - (intOf i).toNat)
    case atStart => exact ⟨0, by omega, rfl, rfl, rfl, Lib.hid (Quiet.refl _)⟩
    case round =>
      obtain ⟨k, hk, rfl, rfl, rfl, HQ⟩ := hrel
      by_cases hlt : k < 64
      · have hk2 : (k : Int) < 64 := by omega
        cases hf : frB B.G k
        · have Hf := Lib.hid hf
          have E := Lib.hid (lst_no (B := B) hf)
          clear hf
          go_wp2_with (go_at_call 9; refine (l05Free_is B k hlt false Hf.out _ _ ((BW.out.at'.below (HQ.out.below (w.heap.size + 1)) (by omega))) HG.out).mono ?_; rintro e w' ⟨rfl, rfl⟩)
          go_roundw
          case rel => exact ⟨k + 1, by omega, by go_num, by rw [E.out.1], by rw [E.out.2], HQ⟩
          case measure => simp [intOf]; omega
        · have Hf := Lib.hid hf
          obtain ⟨u, hu⟩ : ∃ u, outN B.G k = u := ⟨_, rfl⟩
          have hw := outO_word B.G k
          rw [hu] at hw
          have HO := Lib.hid hw.1
          by_cases h0 : u = 0
          · have E := Lib.hid (lst_zero (B := B) hf (hu.trans h0))
            subst h0
            have hz := order_zero
            clear hf hu hw
            go_wp2_with (first | (go_at_call 9; refine (l05Free_is B k hlt true Hf.out _ _ ((BW.out.at'.below (HQ.out.below (w.heap.size + 1)) (by omega))) HG.out).mono ?_; rintro e w' ⟨rfl, rfl⟩) | (go_at_call 10; refine (l05Out_any B k hlt HVB.out w.heap.size _ ((BW.out.at'.below (HQ.out.below (w.heap.size + 1)) (by omega))) HG.out).mono ?_; rintro e w3 ⟨r, rfl, hr, hq⟩; rw [HO.out] at hr; obtain rfl := (num_eq_some hr).1; have HQ3 := Lib.hid (HQ.out.trans hq); clear hr hq))
            go_roundw
            case rel => exact ⟨k + 1, by omega, by go_num, by rw [E.out.1], by rw [E.out.2], HQ3⟩
            case measure => simp [intOf]; omega
          · have h1 : 0 < u := by omega
            have hgt : (FloatKind.f32.format.order u 0 == some Ordering.gt) = true := by rw [word_gt_is hw.2 (by omega)]; simpa using h1
            obtain ⟨s, hs⟩ : ∃ s, safeN B u = s := ⟨_, rfl⟩
            have SF := Lib.hid (show fop .f32 .quo (num .f32 B.r) (fop .f32 .mul (num .f32 1073741824) (num .f32 u)) = some s by rw [safe_fop Hv.out h1 hw.2, hs])
            have hsl : s ≤ 2139095040 := by rw [← hs]; exact safe_le Hv.out h1 hw.2
            have hll := lstN_le Hv.out k
            have tk : True := trivial
            cases hb : fndB B.G k
            · have E := Lib.hid (lst_take Hv.out hf (by rw [hu]; exact h1) (.inl hb))
              rw [hu, hs] at E
              clear hf hu hw hs hb hsl hll
              go_wp2_with (first | (go_at_call 9; refine (l05Free_is B k hlt true Hf.out _ _ ((BW.out.at'.below (HQ.out.below (w.heap.size + 1)) (by omega))) HG.out).mono ?_; rintro e w' ⟨rfl, rfl⟩) | (go_at_call 10; refine (l05Out_any B k hlt HVB.out w.heap.size _ ((BW.out.at'.below (HQ.out.below (w.heap.size + 1)) (by omega))) HG.out).mono ?_; rintro e w3 ⟨r, rfl, hr, hq⟩; rw [HO.out] at hr; obtain rfl := (num_eq_some hr).1; have HQ3 := Lib.hid (HQ.out.trans hq); clear hr hq; have cr := (BW.out.below (HQ3.out.below (w.heap.size + 1)) (by omega)).r; have q2 := Lib.hid (fun n => ((World.cell?_drewN _ n _).trans cr : (World.drewN w3 n).cell? ⟨w.heap.size, 323, none⟩ = _))) | (have _t := tk; refine wpList_float rfl _ _ _ _ _ rfl rfl .f32 _ _ rfl rfl ?_; intro r1 F1n F1h; have F1 := Lib.hid F1h; clear tk F1h) | (refine wpList_float rfl _ _ _ _ _ rfl rfl .f32 _ _ rfl rfl ?_; intro r2 F2n F2h; have hs2 := (F2h.trans (fop_eq rfl F1.out)).trans SF.out; obtain rfl := (num_eq_some hs2).1; clear F2h hs2))
              go_roundw
              case rel => exact ⟨k + 1, by omega, by go_num, by rw [E.out.1], by rw [E.out.2], Lib.hid (HQ3.out.drewN _)⟩
              case measure => simp [intOf]; omega
            · by_cases hl : s < lstN B k
              · have E := Lib.hid (lst_take Hv.out hf (by rw [hu]; exact h1) (.inr (by rw [hu, hs]; exact hl)))
                rw [hu, hs] at E
                have hol : (FloatKind.f32.format.order s (lstN B k) == some Ordering.lt) = true := by rw [word_lt_is hsl hll]; simpa using hl
                clear hf hu hw hs hb hsl hll hl
                generalize lstN B k = lk at hol ⊢
                go_wp2_with (first | (go_at_call 9; refine (l05Free_is B k hlt true Hf.out _ _ ((BW.out.at'.below (HQ.out.below (w.heap.size + 1)) (by omega))) HG.out).mono ?_; rintro e w' ⟨rfl, rfl⟩) | (go_at_call 10; refine (l05Out_any B k hlt HVB.out w.heap.size _ ((BW.out.at'.below (HQ.out.below (w.heap.size + 1)) (by omega))) HG.out).mono ?_; rintro e w3 ⟨r, rfl, hr, hq⟩; rw [HO.out] at hr; obtain rfl := (num_eq_some hr).1; have HQ3 := Lib.hid (HQ.out.trans hq); clear hr hq; have cr := (BW.out.below (HQ3.out.below (w.heap.size + 1)) (by omega)).r; have q2 := Lib.hid (fun n => ((World.cell?_drewN _ n _).trans cr : (World.drewN w3 n).cell? ⟨w.heap.size, 323, none⟩ = _))) | (have _t := tk; refine wpList_float rfl _ _ _ _ _ rfl rfl .f32 _ _ rfl rfl ?_; intro r1 F1n F1h; have F1 := Lib.hid F1h; clear tk F1h) | (refine wpList_float rfl _ _ _ _ _ rfl rfl .f32 _ _ rfl rfl ?_; intro r2 F2n F2h; have hs2 := (F2h.trans (fop_eq rfl F1.out)).trans SF.out; obtain rfl := (num_eq_some hs2).1; clear F2h hs2))
                go_roundw
                case rel => exact ⟨k + 1, by omega, by go_num, by rw [E.out.1], by rw [E.out.2], Lib.hid (HQ3.out.drewN _)⟩
                case measure => simp [intOf]; omega
              · have E := Lib.hid (lst_keep Hv.out hf (by rw [hu]; exact h1) hb (by rw [hu, hs]; exact hl))
                have hol : (FloatKind.f32.format.order s (lstN B k) == some Ordering.lt) = false := by rw [word_lt_is hsl hll]; simpa using hl
                have hlk := Lib.hid E.out.2
                clear hf hu hw hs hb hsl hll hl
                generalize lstN B k = lk at hol hlk ⊢
                go_wp2_with (first | (go_at_call 9; refine (l05Free_is B k hlt true Hf.out _ _ ((BW.out.at'.below (HQ.out.below (w.heap.size + 1)) (by omega))) HG.out).mono ?_; rintro e w' ⟨rfl, rfl⟩) | (go_at_call 10; refine (l05Out_any B k hlt HVB.out w.heap.size _ ((BW.out.at'.below (HQ.out.below (w.heap.size + 1)) (by omega))) HG.out).mono ?_; rintro e w3 ⟨r, rfl, hr, hq⟩; rw [HO.out] at hr; obtain rfl := (num_eq_some hr).1; have HQ3 := Lib.hid (HQ.out.trans hq); clear hr hq; have cr := (BW.out.below (HQ3.out.below (w.heap.size + 1)) (by omega)).r; have q2 := Lib.hid (fun n => ((World.cell?_drewN _ n _).trans cr : (World.drewN w3 n).cell? ⟨w.heap.size, 323, none⟩ = _))) | (have _t := tk; refine wpList_float rfl _ _ _ _ _ rfl rfl .f32 _ _ rfl rfl ?_; intro r1 F1n F1h; have F1 := Lib.hid F1h; clear tk F1h) | (refine wpList_float rfl _ _ _ _ _ rfl rfl .f32 _ _ rfl rfl ?_; intro r2 F2n F2h; have hs2 := (F2h.trans (fop_eq rfl F1.out)).trans SF.out; obtain rfl := (num_eq_some hs2).1; clear F2h hs2))
                go_roundw
                case rel => exact ⟨k + 1, by omega, by go_num, by rw [E.out.1], by rw [hlk.out], Lib.hid (HQ3.out.drewN _)⟩
                case measure => simp [intOf]; omega
      · obtain rfl : k = 64 := by omega
        by_cases hm : mxO B.G (frO B.G 64) = 0
        · have V1 := Lib.hid (show safeV B = FI 0 6 by rw [R.out, if_pos hm])
          have hb : fndB B.G 64 = false := by unfold fndB; simp [hm]
          rw [hb]
          clear hm hb
          go_wp2
          go_ret2
          exact ⟨congrArg Ending.returned V1.out.symm, HB1.out.trans (HQ.out.below _)⟩
        · have hb : fndB B.G 64 = true := by unfold fndB; simp; omega
          have hl : lstN B 64 = safeN B (mxO B.G (frO B.G 64)) := by unfold lstN; rw [if_neg hm]
          rw [hb, hl]
          have R2 := R.out
          rw [if_neg hm] at R2
          clear R hm hb hl
          generalize safeN B (mxO B.G (frO B.G 64)) = m at R2 ⊢
          cases hp : plainB m
          · rw [hp, if_neg (by simp)] at R2
            have V1 := Lib.hid R2
            have Hp := Lib.hid hp
            clear R2 hp
            go_wp2_with (go_at_call 11; refine (l01Plain_is m false Hp.out _).mono ?_; rintro e w' ⟨rfl, hww⟩; rw [hww]; clear hww w')
            go_ret2
            exact ⟨congrArg Ending.returned V1.out.symm, HB1.out.trans (HQ.out.below _)⟩
          · rw [hp, if_pos rfl] at R2
            have V1 := Lib.hid R2
            have Hp := Lib.hid hp
            clear R2 hp
            go_wp2_with (go_at_call 11; refine (l01Plain_is m true Hp.out _).mono ?_; rintro e w' ⟨rfl, hww⟩; rw [hww]; clear hww w')
            go_ret2
            exact ⟨congrArg Ending.returned V1.out.symm, HB1.out.trans (HQ.out.below _)⟩
end Go.Proofs.YtikefaollfaejaaDoor
