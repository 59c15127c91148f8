/- Ways and basins of a ground that is drawn. No condition; no program but two functions of the model. -/
import Derived.Test.YtjhaonfdapldcaaDoorGd2
import Derived.Test.YtjhaonfdapldcaaDoorDrv
import Derived.Test.YtjhaonfdapldcaaDoorBas
namespace Go.Proofs.YtjhaonfdapldcaaDoor
open Go Go.RowKit
set_option linter.unusedSimpArgs false
set_option linter.unusedVariables false
attribute [local go_sem] Oper.semAt_some

/-- What is known of a way: it begins at c, ends at e, from which no water goes; heads fall. -/
structure WayF (G : Gd) (c e : Nat) (L : List Nat) : Prop where
  head : L[0]? = some c
  last : L[L.length - 1]? = some e
  pos : 0 < L.length
  is : ∀ j ∈ L, j < 64 ∧ isB G j = true
  fall : ∀ i x y, L[i]? = some x → L[i + 1]? = some y → FloatKind.f32.format.order (G.h y) (G.h x) = some Ordering.lt
  fin : ∀ s : Nat, s < 4 → ∀ r, flowS G e (s : Int) = some r → FloatKind.f32.format.order r 0 ≠ some Ordering.gt
theorem order_swapP (x y : Nat) : FloatKind.f32.format.order y x = (FloatKind.f32.format.order x y).map Ordering.swap := by
  unfold Ieee.Format.order
  cases FloatKind.f32.format.read x with
  | nan s f => cases FloatKind.f32.format.read y <;> simp [Ieee.Datum.order]
  | infinity s =>
    cases FloatKind.f32.format.read y with
    | nan t g => simp [Ieee.Datum.order]
    | infinity t => cases s <;> cases t <;> simp [Ieee.Datum.order] <;> decide
    | number t n j => cases s <;> simp [Ieee.Datum.order]
  | number s m i =>
    cases FloatKind.f32.format.read y with
    | nan t g => simp [Ieee.Datum.order]
    | infinity t => cases t <;> simp [Ieee.Datum.order]
    | number t n j =>
      simp only [Ieee.Datum.order, Option.map_some]
      rw [show min j i = min i j from Int.min_comm _ _, ← Int.compare_swap]
/-- Where water goes to, the head is less. -/
theorem next_lt {G : Gd} (hv : validB G = true) {c k : Nat} (hc : c < 64) (hb : isB G c = true) (h : nxtW G c = some k) : FloatKind.f32.format.order (G.h k) (G.h c) = some Ordering.lt := by
  obtain ⟨hk, hkb, _, s, hs, hbs, hnb, hke⟩ := nxtW_down hv hc hb h
  rcases bsTo_is G c 4 with e | ⟨s2, r, _, e, e1, e2⟩
  · rw [e] at hbs; cases hbs
  · rw [e] at hbs
    cases hbs
    unfold flowS at e1
    rw [if_pos hnb] at e1
    rw [← hke] at e1
    have := flow_down (head_plain hv hc hb) (head_plain hv hk hkb) e1 e2
    rw [order_swapP, this]; rfl
/-- Where no next cell is, no flow is above 0. -/
theorem none_le {G : Gd} {c : Nat} (h : nxtW G c = none) : ∀ s : Nat, s < 4 → ∀ r, flowS G c (s : Int) = some r → FloatKind.f32.format.order r 0 ≠ some Ordering.gt := by
  have h4 : (bsTo G c 4).1 = none := by
    unfold nxtW at h
    cases hb : (bsTo G c 4).1 with
    | none => rfl
    | some s => rw [hb] at h; cases h
  have key : ∀ n, (bsTo G c n).1 = none → bsTo G c n = (none, some 0) := fun n hn => by
    rcases bsTo_is G c n with e | ⟨s, r, _, e, _⟩
    · exact e
    · rw [e] at hn; cases hn
  have down : ∀ n, (bsTo G c (n + 1)).1 = none → (bsTo G c n).1 = none ∧ gtO (flowS G c (n : Int)) (bsTo G c n).2 = false := fun n hn => by
    unfold bsTo at hn
    split at hn
    · cases hn
    · rename_i hg
      exact ⟨hn, by simpa using hg⟩
  have all : ∀ n, (bsTo G c n).1 = none → ∀ s : Nat, s < n → gtO (flowS G c (s : Int)) (some 0) = false := by
    intro n
    induction n with
    | zero => intro _ s hs; omega
    | succ n ih =>
      intro hn s hs
      obtain ⟨h1, h2⟩ := down n hn
      rw [key n h1] at h2
      by_cases e : s = n
      · subst e; exact h2
      · exact ih h1 s (by omega)
  intro s hs r hr hgt
  have := all 4 h4 s hs
  rw [hr] at this
  unfold gtO at this
  simp only [ordO] at this
  rw [show FloatKind.f32.format.order r 0 = some Ordering.gt from hgt] at this
  simp at this
theorem way_facts {G : Gd} (hv : validB G = true) : ∀ (n c : Nat), rankW G c ≤ n → c < 64 → isB G c = true → ∃ e, WayF G c e (wayL G c) ∧ nxtW G e = none := by
  intro n
  induction n with
  | zero =>
    intro c hn hc hb
    cases h : nxtW G c with
    | none =>
      refine ⟨c, ⟨by rw [wayL_end h]; rfl, by rw [wayL_end h]; rfl, by rw [wayL_end h]; simp, fun j hj => ?_, fun i x y h1 h2 => ?_, none_le h⟩, h⟩
      · rw [wayL_end h] at hj; simp at hj; subst hj; exact ⟨hc, hb⟩
      · rw [wayL_end h] at h2; simp at h2
    | some k =>
      obtain ⟨h1, _, h2, _⟩ := nxtW_down hv hc hb h
      have := rank_down h1 h2
      omega
  | succ n ih =>
    intro c hn hc hb
    cases h : nxtW G c with
    | none =>
      refine ⟨c, ⟨by rw [wayL_end h]; rfl, by rw [wayL_end h]; rfl, by rw [wayL_end h]; simp, fun j hj => ?_, fun i x y h1 h2 => ?_, none_le h⟩, h⟩
      · rw [wayL_end h] at hj; simp at hj; subst hj; exact ⟨hc, hb⟩
      · rw [wayL_end h] at h2; simp at h2
    | some k =>
      obtain ⟨h1, hkb, h2, _⟩ := nxtW_down hv hc hb h
      have hr := rank_down h1 h2
      obtain ⟨e, f, he⟩ := ih k (by omega) h1 hkb
      have hw := wayL_on hv hc hb h
      refine ⟨e, ⟨by rw [hw]; rfl, ?_, by rw [hw]; simp, fun j hj => ?_, fun i x y g1 g2 => ?_, f.fin⟩, he⟩
      · rw [hw]
        have hp := f.pos
        have hl := f.last
        simp only [List.length_cons, Nat.add_sub_cancel]
        rw [show (wayL G k).length = (wayL G k).length - 1 + 1 by omega, List.getElem?_cons_succ]
        exact hl
      · rw [hw, List.mem_cons] at hj
        rcases hj with rfl | hj
        · exact ⟨hc, hb⟩
        · exact f.is j hj
      · rw [hw] at g1 g2
        rw [List.getElem?_cons_succ] at g2
        cases i with
        | zero =>
          simp at g1
          subst g1
          rw [f.head] at g2
          cases g2
          exact next_lt hv hc hb h
        | succ i =>
          rw [List.getElem?_cons_succ] at g1
          exact f.fall i x y g1 g2
/-- Of a ground that is drawn: the way from a cell, and where it ends. -/
theorem Drw.way {G : Gd} (h : Drw G) {c : Nat} (hc : c < 64) (hb : isB G c = true) : ∃ L e, ptV G c = (L, true) ∧ wpV G (c : Int) = (L, 0) ∧ endW G c = e ∧ WayF G c e L ∧ L.length ≤ 65 ∧ e < 64 ∧ isB G e = true := by
  obtain ⟨e, f, he⟩ := way_facts h.valid _ c (Nat.le_refl _) hc hb
  have hall : (wayL G c).all (Go.Proofs.YtjhaonfdapldcaaDoor.okW G) = true := by
    rw [List.all_eq_true]
    intro j hj
    exact h.okW (f.is j hj).1 (f.is j hj).2
  have hp : ptV G c = (wayL G c, true) := by unfold ptV; rw [if_pos hall]
  have ha : askedN G (c : Int) = 0 := by
    unfold askedN
    rw [if_pos h.valid]
    have : inB G (c : Int) = true := by rw [inB_nat G c hc, hb]
    rw [this]; rfl
  have hend : endW G c = e := by
    unfold endW
    rw [hp]
    show (wayL G c).getD ((wayL G c).length - 1) 0 = e
    rw [List.getD_eq_getElem?_getD, f.last]; rfl
  have hm : e ∈ wayL G c := List.mem_of_getElem? f.last
  refine ⟨wayL G c, e, hp, ?_, hend, f, way_len G c, (f.is e hm).1, (f.is e hm).2⟩
  unfold wpV
  rw [if_pos ha, Int.toNat_natCast, hp]
  rfl
theorem maskL_ext {A B : List Nat} (h : ∀ j, j ∈ A ↔ j ∈ B) : maskL A = maskL B := by
  refine Nat.eq_of_testBit_eq fun i => ?_
  rw [maskL_bit, maskL_bit]
  exact decide_eq_decide.2 (h i)
/-- The cells whose water comes to cells before k. -/
def endL (G : Gd) (k : Nat) : List Nat := (List.range 64).filter fun j => isB G j && decide (endW G j < k)
/-- The cells whose water comes to k. -/
def basL (G : Gd) (k : Nat) : List Nat := (List.range 64).filter fun j => isB G j && decide (endW G j = k)
theorem mem_endL {G : Gd} {k j : Nat} : j ∈ endL G k ↔ j < 64 ∧ isB G j = true ∧ endW G j < k := by unfold endL; simp
theorem mem_basL {G : Gd} {k j : Nat} : j ∈ basL G k ↔ j < 64 ∧ isB G j = true ∧ endW G j = k := by unfold basL; simp
theorem baTo_drw {G : Gd} (h : Drw G) (k : Nat) : ∀ n, n ≤ 64 → ∃ V, baTo G k n = some V ∧ ∀ j, j ∈ V ↔ j < n ∧ isB G j = true ∧ endW G j = k
  | 0, _ => ⟨[], rfl, fun j => by simp⟩
  | n + 1, hn => by
    obtain ⟨V, hV, hm⟩ := baTo_drw h k n (by omega)
    cases hb : isB G n
    · refine ⟨V, baTo_skip hV hb, fun j => ?_⟩
      rw [hm j]
      constructor
      · rintro ⟨h1, h2⟩; exact ⟨by omega, h2⟩
      · rintro ⟨h1, h2, h3⟩
        refine ⟨?_, h2, h3⟩
        rcases Nat.lt_or_ge j n with e | e
        · exact e
        · obtain rfl : j = n := by omega
          rw [hb] at h2; cases h2
    · obtain ⟨L, e, hp, _⟩ := h.way (c := n) (by omega) hb
      have ho : (ptV G n).2 = true := by rw [hp]
      by_cases he : endW G n = k
      · refine ⟨n :: V, baTo_in hV hb ho he, fun j => ?_⟩
        rw [List.mem_cons, hm j]
        constructor
        · rintro (rfl | ⟨h1, h2⟩)
          · exact ⟨by omega, hb, he⟩
          · exact ⟨by omega, h2⟩
        · rintro ⟨h1, h2, h3⟩
          by_cases e : j = n
          · exact .inl e
          · exact .inr ⟨by omega, h2, h3⟩
      · refine ⟨V, baTo_out hV hb ho he, fun j => ?_⟩
        rw [hm j]
        constructor
        · rintro ⟨h1, h2⟩; exact ⟨by omega, h2⟩
        · rintro ⟨h1, h2, h3⟩
          refine ⟨?_, h2, h3⟩
          rcases Nat.lt_or_ge j n with e | e
          · exact e
          · obtain rfl : j = n := by omega
            exact absurd h3 he
theorem Drw.asked {G : Gd} (h : Drw G) {c : Nat} (hc : c < 64) (hb : isB G c = true) : askedN G (c : Int) = 0 := by
  unfold askedN
  rw [if_pos h.valid]
  have : inB G (c : Int) = true := by rw [inB_nat G c hc, hb]
  rw [this]; rfl
theorem Drw.basin {G : Gd} (h : Drw G) {k : Nat} (hk : k < 64) (hb : isB G k = true) : baV G (k : Int) = (((maskL (basL G k) : Nat) : Int), 0) := by
  obtain ⟨V, hV, hm⟩ := baTo_drw h k 64 (Nat.le_refl _)
  unfold baV
  rw [if_pos (h.asked hk hb), Int.toNat_natCast, hV]
  simp only
  rw [maskL_ext (A := V) (B := basL G k) fun j => by rw [hm j, mem_basL]]
theorem endL_lt (G : Gd) (k : Nat) : maskL (endL G k) < 18446744073709551616 := maskL_lt fun j hj => (mem_endL.1 hj).1
theorem basL_lt (G : Gd) (k : Nat) : maskL (basL G k) < 18446744073709551616 := maskL_lt fun j hj => (mem_basL.1 hj).1
theorem end_and (G : Gd) (k : Nat) : bits .and .u64 ((maskL (endL G k) : Nat) : Int) ((maskL (basL G k) : Nat) : Int) = 0 := by
  have e := u64_and ((maskL (endL G k) : Nat) : Int) ((maskL (basL G k) : Nat) : Int) (by omega) (by have := endL_lt G k; omega) (by omega) (by have := basL_lt G k; omega)
  rw [e, Int.toNat_natCast, Int.toNat_natCast]
  have : maskL (endL G k) &&& maskL (basL G k) = 0 := by
    refine Nat.eq_of_testBit_eq fun i => ?_
    rw [Nat.testBit_and, maskL_bit, maskL_bit, Nat.zero_testBit]
    by_cases h1 : i ∈ endL G k
    · by_cases h2 : i ∈ basL G k
      · have := (mem_endL.1 h1).2.2
        have := (mem_basL.1 h2).2.2
        omega
      · simp [h2]
    · simp [h1]
  rw [this]; rfl
theorem end_or (G : Gd) (k : Nat) : bits .or .u64 ((maskL (endL G k) : Nat) : Int) ((maskL (basL G k) : Nat) : Int) = ((maskL (endL G (k + 1)) : Nat) : Int) := by
  rw [bits_or_u64_nat _ _ (endL_lt G k) (basL_lt G k)]
  have : maskL (endL G k) ||| maskL (basL G k) = maskL (endL G (k + 1)) := by
    refine Nat.eq_of_testBit_eq fun i => ?_
    rw [Nat.testBit_or, maskL_bit, maskL_bit, maskL_bit, ← Bool.decide_or]
    refine decide_eq_decide.2 ?_
    rw [mem_endL, mem_basL, mem_endL]
    constructor
    · rintro (⟨a, b, c⟩ | ⟨a, b, c⟩)
      · exact ⟨a, b, by omega⟩
      · exact ⟨a, b, by omega⟩
    · rintro ⟨a, b, c⟩
      by_cases e : endW G i = k
      · exact .inr ⟨a, b, e⟩
      · exact .inl ⟨a, b, by omega⟩
  rw [this]
theorem end_skip {G : Gd} (h : Drw G) {k : Nat} (hb : isB G k = false) : maskL (endL G (k + 1)) = maskL (endL G k) := maskL_ext fun j => by
  rw [mem_endL, mem_endL]
  constructor
  · rintro ⟨a, b, c⟩
    obtain ⟨L, e, _, _, he, _, _, _, heb⟩ := h.way a b
    refine ⟨a, b, ?_⟩
    rcases Nat.lt_or_ge (endW G j) k with g | g
    · exact g
    · have : e = k := by omega
      rw [this, hb] at heb; cases heb
  · rintro ⟨a, b, c⟩; exact ⟨a, b, by omega⟩
theorem end_all {G : Gd} (h : Drw G) : maskL (endL G 64) = cellsN G := by
  refine Nat.eq_of_testBit_eq fun i => ?_
  rw [maskL_bit, cellsN_testBit, ← Bool.decide_eq_true (b := isB G i), ← Bool.decide_and]
  refine decide_eq_decide.2 ?_
  rw [mem_endL]
  constructor
  · rintro ⟨a, b, c⟩; exact ⟨a, b⟩
  · rintro ⟨a, b⟩
    obtain ⟨L, e, _, _, he, _, _, hel, _⟩ := h.way a b
    exact ⟨a, b, by omega⟩
theorem end_none (G : Gd) : maskL (endL G 0) = 0 := by
  have : endL G 0 = [] := by
    rw [List.eq_nil_iff_forall_not_mem]
    intro j hj
    have := (mem_endL.1 hj).2.2
    omega
  rw [this]; rfl
/-- The bit of a cell in a basin. -/
theorem bas_bit {G : Gd} (k c : Nat) (hc : c < 64) (hb : isB G c = true) : (((maskL (basL G k) : Nat) : Int) / 2 ^ c % 2 == 1) = decide (endW G c = k) := by
  rw [bit_rem, maskL_bit]
  exact decide_eq_decide.2 ⟨fun h => (mem_basL.1 h).2.2, fun h => mem_basL.2 ⟨hc, hb, h⟩⟩
end Go.Proofs.YtjhaonfdapldcaaDoor
