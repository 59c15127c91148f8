/- Permits of rate 0 change nothing: so what is kept depends on the meter alone. No condition. -/
import Derived.Test.YtaghnminpfgdcaaGreatDoorKeA
namespace Go.Proofs.YtaghnminpfgdcaaGreatDoor
open Go Go.RowKit Ieee
set_option linter.unusedSimpArgs false
set_option linter.unusedVariables false

theorem log2_mul_pow {m : Nat} (hm : m ≠ 0) (e : Nat) : (m * 2 ^ e).log2 = m.log2 + e := by
  have h := (Nat.log2_eq_iff hm).1 rfl
  have hp : 0 < 2 ^ e := Nat.two_pow_pos e
  refine (Nat.log2_eq_iff (Nat.mul_ne_zero hm (Nat.ne_of_gt hp))).2 ⟨?_, ?_⟩
  · rw [Nat.pow_add]; exact Nat.mul_le_mul_right _ h.1
  · rw [show m.log2 + e + 1 = (m.log2 + 1) + e by omega, Nat.pow_add]; exact Nat.mul_lt_mul_of_pos_right h.2 hp
theorem cut_zero (neg : Bool) (n : Nat) : Toward.even.cut neg n 0 = n := by
  unfold Toward.cut
  simp [Nat.shiftLeft_eq, Nat.mod_one]
theorem cut_shift (neg : Bool) (m e : Nat) (hm : 0 < m) : Toward.even.cut neg (m * 2 ^ e) e = m := by
  unfold Toward.cut
  have hl : (m * 2 ^ e).log2 = m.log2 + e := log2_mul_pow (by omega) e
  have h1 : min e ((m * 2 ^ e).log2 + 2) = e := by omega
  have hp : 0 < 2 ^ e := Nat.two_pow_pos e
  simp only [h1, Nat.one_shiftLeft]
  have h2 : m * 2 ^ e / 2 ^ e = m := Nat.mul_div_cancel _ hp
  have h3 : m * 2 ^ e % 2 ^ e = 0 := Nat.mul_mod_left _ _
  rw [h2, h3]
  have h4 : (2 ^ e == 2 * 0) = false := by simp
  simp
theorem nearest_sub (s : Bool) (r : Nat) (hr : r < 8388608) : single.nearest s r (-149) = single.word s r := by
  unfold Format.nearest
  by_cases h0 : r = 0
  · rw [if_pos h0, h0]
  · rw [if_neg h0]
    have hl : r.log2 < 23 := (Nat.log2_lt h0).2 hr
    have e1 : max (-149 + (r.log2 : Int) - ((single.fractionBits : Nat) : Int)) single.leastPlace = -149 := by
      have a : single.leastPlace = -149 := by decide
      have b : single.fractionBits = 23 := rfl
      rw [a, b]
      omega
    simp only [e1]
    have a : single.leastPlace = -149 := by decide
    rw [a]
    have b : ((-149 : Int) - -149).toNat = 0 := by decide
    rw [b, Nat.shiftLeft_zero, cut_zero]
    have c : single.infRung = 2139095040 := by decide
    rw [c]
    congr 1
    omega
theorem nearest_nrm (s : Bool) (m e : Nat) (h1 : 8388608 ≤ m) (h2 : m < 16777216) (he : e ≤ 253) : single.nearest s (m * 2 ^ e) (-149) = single.word s (e * 8388608 + m) := by
  unfold Format.nearest
  have hp : 0 < 2 ^ e := Nat.two_pow_pos e
  have h0 : m * 2 ^ e ≠ 0 := Nat.ne_of_gt (Nat.mul_pos (by omega) hp)
  rw [if_neg h0]
  have hl : (m * 2 ^ e).log2 = 23 + e := by
    rw [log2_mul_pow (by omega) e]
    have : m.log2 = 23 := (Nat.log2_eq_iff (by omega)).2 ⟨h1, h2⟩
    omega
  have a : single.leastPlace = -149 := by decide
  have e1 : max (-149 + ((m * 2 ^ e).log2 : Int) - ((single.fractionBits : Nat) : Int)) single.leastPlace = -149 + e := by
    have b : single.fractionBits = 23 := rfl
    rw [a, b, hl]
    omega
  simp only [e1]
  rw [a]
  have b : ((-149 : Int) - (-149 + (e : Int))).toNat = 0 := by omega
  have c : ((-149 : Int) + (e : Int) - -149).toNat = e := by omega
  rw [b, c, Nat.shiftLeft_zero, cut_shift s m e (by omega)]
  have d : single.infRung = 2139095040 := by decide
  have f : single.binade = 8388608 := by decide
  rw [d, f]
  have g : e * 8388608 + m ≤ 2139095040 := by omega
  rw [Nat.min_eq_left g]
theorem word_self (x : Nat) (hx : x < 4294967296) : single.word (x / single.signWeight % 2 == 1) (x % single.signWeight) = x := by
  have a : single.signWeight = 2147483648 := by decide
  unfold Format.word
  rw [a]
  have hd := Nat.div_add_mod x 2147483648
  obtain ⟨q, hq⟩ : ∃ q, x / 2147483648 = q := ⟨_, rfl⟩
  obtain ⟨r, hr⟩ : ∃ r, x % 2147483648 = r := ⟨_, rfl⟩
  rw [hq, hr] at hd ⊢
  have h : q = 0 ∨ q = 1 := by omega
  clear hq hr a
  rcases h with rfl | rfl
  · rw [if_neg (by decide)]; omega
  · rw [if_pos (by decide)]; omega
theorem sum_zero (s : Bool) (m : Nat) (i : Int) (hi : -149 ≤ i) : (Datum.number s m i).sum (.number true 0 (-149)) = some (.number s (m * 2 ^ (i + 149).toNat) (-149)) := by
  have hb : min i (-149) = -149 := by omega
  have e1 : (i - -149).toNat = (i + 149).toNat := by congr 1
  have e2 : ((-149 : Int) - -149).toNat = 0 := by decide
  have hz : signed true 0 0 = 0 := by decide
  simp only [Datum.sum, hb, e1, e2, hz, Int.add_zero]
  have hp : 0 < 2 ^ (i + 149).toNat := Nat.two_pow_pos _
  have hna : (signed s m (i + 149).toNat).natAbs = m * 2 ^ (i + 149).toNat := by
    unfold signed
    cases s
    · rw [if_neg (by decide), Int.natAbs_natCast, Nat.shiftLeft_eq]
    · rw [if_pos rfl, Int.natAbs_neg, Int.natAbs_natCast, Nat.shiftLeft_eq]
  rw [hna]
  congr 2
  by_cases h : signed s m (i + 149).toNat = 0
  · rw [if_pos h]; simp
  · rw [if_neg h]
    clear hna
    unfold signed at h ⊢
    obtain ⟨z, hz⟩ : ∃ z, m <<< (i + 149).toNat = z := ⟨_, rfl⟩
    rw [hz] at h ⊢
    cases s
    · rw [if_neg (by decide)] at h ⊢
      exact decide_eq_false (by omega)
    · rw [if_pos rfl] at h ⊢
      exact decide_eq_true (by omega)
theorem sub_nil {x : Nat} (hx : x < 4294967296) (hf : x % 2147483648 < 2139095040) : Format.sub single x 0 = some x := by
  have a : single.signWeight = 2147483648 := by decide
  have b : single.binade = 8388608 := by decide
  have c : single.infRung = 2139095040 := by decide
  have d : single.leastPlace = -149 := by decide
  have hz : (single.read 0).opposite = .number true 0 (-149) := by decide
  have hw := word_self x hx
  unfold Format.sub
  rw [hz]
  unfold Format.read
  rw [a] at hw ⊢
  obtain ⟨s, hs⟩ : ∃ s, (x / 2147483648 % 2 == 1) = s := ⟨_, rfl⟩
  obtain ⟨r, hr⟩ : ∃ r, x % 2147483648 = r := ⟨_, rfl⟩
  simp only [b, c, d, hs, hr] at hw hf ⊢
  by_cases h1 : r < 8388608
  · rw [if_pos h1, sum_zero s r _ (by omega)]
    show some (single.nearest s _ (-149)) = _
    have : ((-149 : Int) + 149).toNat = 0 := by decide
    rw [this, Nat.pow_zero, Nat.mul_one, nearest_sub s r h1, hw]
  · rw [if_neg h1, if_pos hf, sum_zero s _ _ (by omega)]
    show some (single.nearest s _ (-149)) = _
    have hdm := Nat.div_add_mod r 8388608
    have hd1 : 1 ≤ r / 8388608 := (Nat.le_div_iff_mul_le (by omega)).2 (by omega)
    have hd2 : r / 8388608 < 255 := Nat.div_lt_of_lt_mul (by omega)
    have hm := Nat.mod_lt r (show 0 < 8388608 by omega)
    obtain ⟨q, hq⟩ : ∃ q, r / 8388608 = q := ⟨_, rfl⟩
    obtain ⟨t, ht⟩ : ∃ t, r % 8388608 = t := ⟨_, rfl⟩
    rw [hq] at hd1 hd2 hdm ⊢
    rw [ht] at hm hdm ⊢
    have e : ((-149 : Int) + ((q - 1 : Nat) : Int) + 149).toNat = q - 1 := by omega
    rw [e, nearest_nrm s _ _ (by omega) (by omega) (by omega)]
    have : (q - 1) * 8388608 + (8388608 + t) = r := by
      have : q = q - 1 + 1 := by omega
      rw [this] at hdm
      omega
    rw [this, hw]

theorem plain_mag {x : Nat} (h : plainB x = true) : x % 2147483648 < 2139095040 := by
  obtain ⟨s, m, i, hr, _⟩ := plain_read h
  have a : single.signWeight = 2147483648 := by decide
  have c : single.infRung = 2139095040 := by decide
  have b : single.binade = 8388608 := by decide
  unfold Format.read at hr
  rw [a, b, c] at hr
  obtain ⟨r, hrr⟩ : ∃ r, x % 2147483648 = r := ⟨_, rfl⟩
  simp only [hrr] at hr ⊢
  by_cases h1 : r < 8388608
  · omega
  · rw [if_neg h1] at hr
    by_cases h2 : r < 2139095040
    · exact h2
    · rw [if_neg h2] at hr
      by_cases h3 : r = 2139095040
      · rw [if_pos h3] at hr; cases hr
      · rw [if_neg h3] at hr; cases hr
theorem fop_nil {x : Nat} (h : plainB x = true) (hx : x < 4294967296) : fop .f32 .sub (num .f32 x) (num .f32 0) = some x := by
  rw [fop_num]
  show Format.sub single x 0 = some x
  exact sub_nil hx (plain_mag h)
theorem wat_nil : watN 0 = 0 := by decide +kernel
theorem upd_self (f : Nat → Nat) (k : Nat) : upd f k (f k) = f := by
  funext i
  unfold upd
  by_cases e : i = k
  · rw [if_pos e, e]
  · rw [if_neg e]
theorem take_nil {K : Gd} (hv : validB K = true) (hG : GdOk K) {e : P3} (he : pmB K e = true) (hr : e.2.2 = 0) : takeG K e = K := by
  obtain ⟨xo, xc, r⟩ := e
  simp only at hr
  subst hr
  simp only [pmB, Bool.and_eq_true] at he
  obtain ⟨q, rfl, hq, hi⟩ := inB_cast he.2.1
  show pmpG K (q : Int).toNat (watN 0) = K
  rw [Int.toNat_natCast, wat_nil]
  unfold pmpG
  rw [fop_nil (valid_gain hv hq hi) (hG.g q hq)]
  simp only [Option.getD_some, upd_self]
/-- A permit that takes something. -/
def nzB (e : P3) : Bool := e.2.2 != 0
theorem gwR_nz : ∀ (l : List P3) (K : Gd), validB K = true → GdOk K → (∀ e ∈ l, pmB K e = true) → gwR (l.filter nzB) K = gwR l K
  | [], K, _, _, _ => rfl
  | e :: l, K, hv, hG, hl => by
    have he := hl e (by simp)
    by_cases hr : e.2.2 = 0
    · have h1 : nzB e = false := by simp [nzB, hr]
      have h2 := take_nil hv hG he hr
      rw [List.filter_cons_of_neg (by rw [h1]; decide), gwR_yes (by rw [h2]; exact hv), h2]
      exact gwR_nz l K hv hG (fun x hx => hl x (by simp [hx]))
    · have h1 : nzB e = true := by simp [nzB, hr]
      rw [List.filter_cons_of_pos h1]
      cases hk : validB (takeG K e)
      · rw [gwR_no hk, gwR_no hk]
      · rw [gwR_yes hk, gwR_yes hk]
        obtain ⟨xo, xc, r⟩ := e
        simp only [pmB, Bool.and_eq_true] at he
        obtain ⟨q, rfl, hq, hi⟩ := inB_cast he.2.1
        obtain ⟨h1, h2, h3⟩ := water_is (r := r) he.2.2
        obtain ⟨t, ht, hf, hp⟩ := sub_is hv hq hi h2
        have hO : GdOk (takeG K (xo, (q : Int), r)) := by
          show GdOk (pmpG K (q : Int).toNat (watN r))
          rw [Int.toNat_natCast, hp]
          exact ok_pmp hG hf
        exact gwR_nz l _ hk hO (fun x hx => hl x (by simp [hx]))
theorem keptB_nz {G : Gd} {Lw : List T2} {L : List P3} (hv : validB G = true) (hG : GdOk G) (h : ∀ e ∈ L, pmB G e = true) : keptB G Lw (L.filter nzB) = keptB G Lw L := by
  unfold keptB
  rw [gwR_nz L G hv hG h]

/-- Some indices of a list of this length, ascending. -/
def Asc (n : Nat) (J : List Nat) : Prop := J.Pairwise (· < ·) ∧ ∀ j ∈ J, j < n
theorem asc_nil (n : Nat) : Asc n [] := ⟨List.Pairwise.nil, fun j hj => by simp at hj⟩
theorem Asc.up {n m : Nat} {J : List Nat} (h : Asc n J) (hm : n ≤ m) : Asc m J := ⟨h.1, fun j hj => Nat.lt_of_lt_of_le (h.2 j hj) hm⟩
theorem Asc.push {n i : Nat} {J : List Nat} (h : Asc n J) (hi : n ≤ i) : Asc (i + 1) (J ++ [i]) := by
  refine ⟨List.pairwise_append.2 ⟨h.1, List.pairwise_singleton _ _, fun a ha b hb => ?_⟩, fun j hj => ?_⟩
  · simp at hb; have := h.2 a ha; omega
  · rw [List.mem_append] at hj
    rcases hj with hj | hj
    · have := h.2 j hj; omega
    · simp at hj; omega
theorem asc_eq : ∀ {A B : List Nat}, A.Pairwise (· < ·) → B.Pairwise (· < ·) → (∀ j, j ∈ A ↔ j ∈ B) → A = B
  | [], [], _, _, _ => rfl
  | [], b :: B, _, _, h => by have := (h b).2 (by simp); simp at this
  | a :: A, [], _, _, h => by have := (h a).1 (by simp); simp at this
  | a :: A, b :: B, hA, hB, h => by
    obtain ⟨hA1, hA2⟩ := List.pairwise_cons.1 hA
    obtain ⟨hB1, hB2⟩ := List.pairwise_cons.1 hB
    have e : a = b := by
      have h1 := (h a).1 (by simp)
      have h2 := (h b).2 (by simp)
      rw [List.mem_cons] at h1 h2
      rcases h1 with h1 | h1
      · exact h1
      · rcases h2 with h2 | h2
        · exact h2.symm
        · have := hB1 a h1; have := hA1 b h2; omega
    subst e
    rw [asc_eq hA2 hB2 fun j => ⟨fun hj => ?_, fun hj => ?_⟩]
    · have h1 := (h j).1 (by simp [hj])
      rw [List.mem_cons] at h1
      rcases h1 with rfl | h1
      · exact absurd (hA1 j hj) (Nat.lt_irrefl _)
      · exact h1
    · have h1 := (h j).2 (by simp [hj])
      rw [List.mem_cons] at h1
      rcases h1 with rfl | h1
      · exact absurd (hB1 j hj) (Nat.lt_irrefl _)
      · exact h1
theorem range_asc : ∀ n : Nat, (List.range n).Pairwise (· < ·)
  | 0 => List.Pairwise.nil
  | n + 1 => by
    rw [List.range_succ, List.pairwise_append]
    exact ⟨range_asc n, List.pairwise_singleton _ _, fun a ha b hb => by simp at ha hb; omega⟩
theorem Asc.is {n : Nat} {J : List Nat} (h : Asc n J) : J = (List.range n).filter fun j => decide (j ∈ J) :=
  asc_eq h.1 ((range_asc n).filter _) fun j => by
    simp only [List.mem_filter, List.mem_range, decide_eq_true_eq]
    exact ⟨fun hj => ⟨h.2 j hj, hj⟩, fun hj => hj.2⟩
theorem Asc.len : ∀ {n : Nat} {J : List Nat}, Asc n J → J.length ≤ n := fun {n J} h => by
  rw [h.is]
  exact Nat.le_trans (List.length_filter_le _ _) (by simp)
/-- Those of a list. -/
def selL (L0 : List P3) (J : List Nat) : List P3 := J.map fun j => L0.getD j (0, 0, 0)
/-- Indices, as the program's. -/
def idxI (J : List Nat) : List Int := J.map fun (j : Nat) => (j : Int)
theorem idxI_len (J : List Nat) : (idxI J).length = J.length := by simp [idxI]
theorem selL_len (L0 : List P3) (J : List Nat) : (selL L0 J).length = J.length := by simp [selL]
theorem selL_push {L0 : List P3} {i : Nat} {e : P3} (J : List Nat) (h : L0[i]? = some e) : selL L0 (J ++ [i]) = selL L0 J ++ [e] := by simp [selL, List.getD, h]
theorem idxI_push (J : List Nat) (i : Nat) : idxI (J ++ [i]) = idxI J ++ [(i : Int)] := by simp [idxI]
theorem selL_mem {L0 : List P3} {J : List Nat} (h : Asc L0.length J) : ∀ e ∈ selL L0 J, e ∈ L0 := fun e he => by
  simp only [selL, List.mem_map] at he
  obtain ⟨j, hj, rfl⟩ := he
  have hl := h.2 j hj
  rw [List.getD, List.getElem?_eq_getElem hl]
  exact List.getElem_mem hl
theorem idxI_in {n : Nat} {J : List Nat} (h : Asc n J) (hn : n ≤ 6) : ∀ i ∈ idxI J, ∃ q : Nat, i = (q : Int) ∧ q < 6 := fun i hi => by
  simp only [idxI, List.mem_map] at hi
  obtain ⟨q, hq, rfl⟩ := hi
  exact ⟨q, rfl, by have := h.2 q hq; omega⟩
theorem mtS_sel (L0 : List P3) (J : List Nat) : ∀ k, k ≤ J.length → ∀ j, mtS (idxI J) (selL L0 J) k j = if j ∈ J.take k then (L0.getD j (0, 0, 0)).2.2 else 0
  | 0, _, j => by simp [mtS]
  | k + 1, hk, j => by
    have ih := mtS_sel L0 J k (by omega) j
    obtain ⟨q, hq⟩ : ∃ q, J[k]? = some q := ⟨_, List.getElem?_eq_getElem (by omega)⟩
    have h1 : (idxI J).getD k 0 = (q : Int) := by simp [idxI, List.getD, hq]
    have h2 : (selL L0 J).getD k (0, 0, 0) = L0.getD q (0, 0, 0) := by simp [selL, List.getD, hq]
    have h3 : J.take (k + 1) = J.take k ++ [q] := by rw [List.take_add_one, hq]; rfl
    simp only [mtS, h1, h2, Int.toNat_natCast, h3]
    by_cases e : j = q
    · subst e; simp
    · rw [if_neg e, ih]; simp [e]
/-- What a meter has of an index. -/
def rateM (A : Array Value) (j : Nat) : Int := match A[j]? with | some (.int _ x) => x | _ => 0
theorem rateM_m6 (f : Nat → Int) (j : Nat) (hj : j < 6) : rateM (M6 f) j = f j := by
  simp [rateM, M6_at f j hj]
/-- Of a list, those of which a meter has more than 0. -/
def metL (L0 : List P3) (A : Array Value) : List P3 := selL L0 ((List.range L0.length).filter fun j => decide (rateM A j ≠ 0))
theorem sel_nz (L0 : List P3) (h6 : L0.length ≤ 6) {J : List Nat} (h : Asc L0.length J) : metL L0 (M6 (mtS (idxI J) (selL L0 J) J.length)) = (selL L0 J).filter nzB := by
  have e1 : (selL L0 J).filter nzB = selL L0 (J.filter fun j => nzB (L0.getD j (0, 0, 0))) := by
    unfold selL
    rw [List.filter_map]
    rfl
  rw [e1]
  unfold metL
  congr 1
  conv => rhs; rw [h.is]
  rw [List.filter_filter]
  refine List.filter_congr fun j hj => ?_
  have hj := List.mem_range.1 hj
  rw [rateM_m6 _ j (by omega), mtS_sel L0 J J.length (Nat.le_refl _) j, List.take_length]
  by_cases e : j ∈ J
  · rw [Bool.eq_iff_iff]; simp [e, nzB, bne]
  · simp [e]
/-- Is a choice kept, by its meter. -/
def Kfm (G : Gd) (Lw : List T2) (L0 : List P3) (A : Array Value) : Bool := keptB G Lw (metL L0 A)
theorem kfm_is {G : Gd} {Lw : List T2} {L0 : List P3} (h6 : L0.length ≤ 6) (hv : validB G = true) (hG : GdOk G) (hp : ∀ e ∈ L0, pmB G e = true) {J : List Nat} (h : Asc L0.length J) : Kfm G Lw L0 (M6 (mtS (idxI J) (selL L0 J) J.length)) = keptB G Lw (selL L0 J) := by
  unfold Kfm
  rw [sel_nz L0 h6 h, keptB_nz hv hG fun e he => hp e (selL_mem h e he)]
end Go.Proofs.YtaghnminpfgdcaaGreatDoor
