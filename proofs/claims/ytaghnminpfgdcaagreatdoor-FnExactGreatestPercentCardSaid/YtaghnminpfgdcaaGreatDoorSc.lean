/- ScaledPermits, on both sides. Condition: the list is short, and its numbers fit. -/
import Derived.Test.YtaghnminpfgdcaaGreatDoorApP
import Derived.Test.YtaghnminpfgdcaaGreatDoorSh
namespace Go.Proofs.YtaghnminpfgdcaaGreatDoor
open Go Go.RowKit
set_option linter.unusedSimpArgs false
set_option linter.unusedVariables false
/-- A permit with a percentage of its rate. -/
def scE (y : Int) (e : P3) : P3 := (e.1, e.2.1, Int.tdiv (e.2.2 * y) 100)
/-- The first k are scaled. -/
def scTo (L : List P3) (y : Int) (k : Nat) : List P3 := (L.take k).map (scE y) ++ L.drop k
theorem scTo_len (L : List P3) (y : Int) (k : Nat) : (scTo L y k).length = L.length := by
  simp only [scTo, List.length_append, List.length_map, List.length_take, List.length_drop]; omega
theorem scTo_zero (L : List P3) (y : Int) : scTo L y 0 = L := by simp [scTo]
theorem scTo_at {L : List P3} {y : Int} {k j : Nat} {e : P3} (h : L[j]? = some e) : (scTo L y k)[j]? = some (if j < k then scE y e else e) := by
  have hj : j < L.length := (List.getElem?_eq_some_iff.1 h).1
  unfold scTo
  by_cases hk : j < k
  · rw [List.getElem?_append_left (by simp; omega), List.getElem?_map, List.getElem?_take_of_lt hk, h, if_pos hk]; rfl
  · rw [List.getElem?_append_right (by simp; omega), if_neg hk]
    simp only [List.length_map, List.length_take, List.getElem?_drop]
    rw [show k + (j - min k L.length) = j by omega]
    exact h
/-- One round: one permit more is scaled. -/
theorem sc_step {wr : World} {b n k : Nat} {L : List P3} {y : Int} {e : P3} (hn : L.length = n) (hk : k < n) (hR : PsAt wr (some ⟨b, 0, none⟩) (scTo L y k)) (hT : wr.there b 0 (n * 3)) (he : L[k]? = some e) :
    PsAt (wr.setCell ⟨b, 0 + k * 3 + 2, none⟩ (.int .i16 (Int.tdiv (e.2.2 * y) 100))) (some ⟨b, 0, none⟩) (scTo L y (k + 1)) ∧ (wr.setCell ⟨b, 0 + k * 3 + 2, none⟩ (.int .i16 (Int.tdiv (e.2.2 * y) 100))).there b 0 (n * 3) := by
  refine ⟨fun i f hf => ?_, World.there_setCells hT b _ [_]⟩
  have hi : i < n := by have := (List.getElem?_eq_some_iff.1 hf).1; rw [scTo_len] at this; omega
  obtain ⟨g, hg⟩ : ∃ g, L[i]? = some g := ⟨_, List.getElem?_eq_getElem (by omega)⟩
  rw [scTo_at hg] at hf
  obtain ⟨b', o', hbo, hr⟩ := hR i _ (scTo_at hg)
  cases hbo
  refine ⟨_, _, rfl, ?_⟩
  by_cases hik : i = k
  · subst hik
    rw [he] at hg
    cases hg
    rw [if_pos (Nat.lt_succ_self _)] at hf
    cases hf
    rw [if_neg (Nat.lt_irrefl _)] at hr
    have h0 := hr 0 _ rfl
    have h1 := hr 1 _ rfl
    intro j v hv
    have hj : j < 3 := (List.getElem?_eq_some_iff.1 hv).1
    match j, hj with
    | 0, _ =>
      cases hv
      rw [cell_other (fun h => by injection h with _ h2; omega)]; exact h0
    | 1, _ =>
      cases hv
      rw [cell_other (fun h => by injection h with _ h2; omega)]; exact h1
    | 2, _ =>
      cases hv
      exact World.cell?_setCell_same' _ _ _ (by have := (hT (i * 3 + 2) (by omega)).1; rwa [← Nat.add_assoc] at this)
  · have e1 : (if i < k + 1 then scE y g else g) = (if i < k then scE y g else g) := by
      by_cases h : i < k
      · rw [if_pos h, if_pos (by omega)]
      · rw [if_neg h, if_neg (by omega)]
    rw [e1] at hf
    cases hf
    intro j v hv
    have hj : j < 3 := (List.getElem?_eq_some_iff.1 hv).1
    rw [cell_other (fun h => by injection h with _ h2; omega)]
    exact hr j v hv
theorem sc_in {r y : Int} (hr : 0 ≤ r ∧ r ≤ 400) (hy : 0 ≤ y ∧ y ≤ 100) : 0 ≤ r * y ∧ r * y ≤ 40000 := by
  refine ⟨Int.mul_nonneg hr.1 hy.1, ?_⟩
  have h1 : r * y ≤ 400 * y := Int.mul_le_mul_of_nonneg_right hr.2 hy.1
  omega
theorem sc_div {m : Int} (h : 0 ≤ m ∧ m ≤ 40000) : 0 ≤ Int.tdiv m 100 ∧ Int.tdiv m 100 ≤ 400 := by
  rw [Int.tdiv_eq_ediv_of_nonneg h.1]; omega
theorem wrap16i {n : Int} (h : -32768 ≤ n ∧ n ≤ 32767) : IntKind.i16.wrap n = n := by
  simp [IntKind.wrap, IntKind.bits, IntKind.signed]
  split <;> omega
/-- What is handed back, and its code. -/
def rateL (L : List P3) : Bool := decide (L.length ≤ 6) && L.all rateB
def scK (L : List P3) (y : Int) : Int := if rateL L = true then (if (decide (0 ≤ y) && decide (y ≤ 100)) = true then 0 else 2) else 1
def scV (L : List P3) (y : Int) : List P3 := if scK L y = 0 then scTo L y L.length else []
set_option maxRecDepth 100000 in
set_option maxHeartbeats 4000000 in
theorem l07Scaled_any (ap : Addr) (c : Nat) (L : List P3) (y : Int) (hy : 0 ≤ y ∧ y ≤ 100) (h0 : 0 < L.length) (h6 : L.length ≤ 6) (hr : ∀ e ∈ L, 0 ≤ e.2.2 ∧ e.2.2 ≤ 400) (w : World) (hp : PsAt w (some ap) L) :
    Calls Tryz.prog 76 #[.slice (some ap) L.length c, .int .i64 y] w fun e w' => ∃ b cap, e = .returned (.slice (some ⟨b, 0, none⟩) L.length cap) ∧ w.heap.size ≤ b ∧ b < w'.heap.size ∧ PsAt w' (some ⟨b, 0, none⟩) (scTo L y L.length) ∧ w'.there b 0 (L.length * 3) ∧ Below w.heap.size w w' := by
  obtain ⟨n, hn⟩ : ∃ n, L.length = n := ⟨_, rfl⟩
  obtain ⟨ab, ao, hap⟩ : ∃ ab ao, ap = ⟨ab, ao, none⟩ := by
    obtain ⟨b, o, h, _⟩ := hp 0 _ (List.getElem?_eq_getElem h0)
    exact ⟨b, o, Option.some.inj h⟩
  subst hap
  have P0 := Lib.hid hp
  have HN := Lib.hid hn
  have HR := Lib.hid hr
  rw [hn] at h0 h6 ⊢
  have BA : Below w.heap.size w (w.alloc (.cells #[] 82)) := (Below.refl _ _).alloc (Nat.le_refl _) _
  obtain ⟨cap, W', hm, hR, hT, hB, hz⟩ := appP_run (b0 := ⟨w.heap.size, 0, none⟩) (c := c) HN.out h0 (by omega) (P0.out.keep BA)
  have hsz : (w.alloc (.cells #[] 82)).heap.size = w.heap.size + 1 := by simp
  rw [hsz] at hR hT hz
  have HM := Lib.hid hm
  have RV := Lib.hid hR
  have TV := Lib.hid hT
  have HB := Lib.hid (BA.trans (hB.mono BA.size))
  have HZ := Lib.hid hz
  clear hm hR hT hB hz hn hp hr BA
  go_enter Tryz.func76, Tryz.ntmps76
  go_upto_region 2 with (refine wpList_appendP rfl _ _ rfl ⟨w.heap.size, 0, none⟩ ⟨ab, ao, none⟩ n c cap rfl rfl HM.out ?_)
  try rw [hsz]
  obtain ⟨b, hb⟩ : ∃ b, w.heap.size + 1 = b := ⟨_, rfl⟩
  rw [hb] at RV TV HZ ⊢
  have HBB := Lib.hid hb
  clear hsz hb HM
  go_upto_region 3 with (fail)
  go_loopw [6] (fun i wr => ∃ k : Nat, k ≤ n ∧ i = .int .i64 k ∧ Hid (PsAt wr (some ⟨b, 0, none⟩) (scTo L y k)) ∧ Hid (wr.there b 0 (n * 3)) ∧ Hid (Below w.heap.size w wr) ∧ Hid (b < wr.heap.size)) (fun i _ => n - (intOf i).toNat)
  case atStart => exact ⟨0, by omega, rfl, Lib.hid (by rw [scTo_zero]; exact RV.out), TV, HB, Lib.hid (by have := HZ.out; omega)⟩
  case round =>
    obtain ⟨k, hk, rfl, hR, hT, hB, hbz⟩ := hrel
    by_cases hlt : k < n
    · have hki : (k : Int) < n := by omega
      obtain ⟨e, he⟩ : ∃ e, L[k]? = some e := ⟨_, List.getElem?_eq_getElem (by rw [HN.out]; exact hlt)⟩
      have hre := HR.out e (List.mem_of_getElem? he)
      have hs := sc_step HN.out hlt hR.out hT.out he
      obtain ⟨b', o', hbo, hr⟩ := hR.out k _ (scTo_at he)
      cases hbo
      rw [if_neg (Nat.lt_irrefl _)] at hr
      have c2 : wr.cell? ⟨b, k * 3 + 2, none⟩ = some (.int .i16 e.2.2) := by have := hr 2 _ rfl; rwa [Nat.zero_add] at this
      have f2 : wr.frozen? ⟨b, k * 3 + 2, none⟩ = false := by have := (hT.out (k * 3 + 2) (by omega)).2; rwa [Nat.zero_add] at this
      rw [Nat.zero_add] at hs
      obtain ⟨xo, xc, r⟩ := e
      simp only at c2 hre hs
      obtain ⟨m, hm⟩ : ∃ m, r * y = m := ⟨_, rfl⟩
      have hm2 := sc_in hre hy
      rw [hm] at hm2 hs
      obtain ⟨q, hq⟩ : ∃ q, Int.tdiv m 100 = q := ⟨_, rfl⟩
      have hq2 := sc_div hm2
      rw [hq] at hq2 hs
      have HS := Lib.hid hs
      have HW := Lib.hid (wrap16i (n := q) (by omega))
      clear hr he hs
      have hB9 : Below w.heap.size w (wr.setCell ⟨b, k * 3 + 2, none⟩ (.int .i16 q)) := hB.out.setCell (p := ⟨b, k * 3 + 2, none⟩) (by show w.heap.size ≤ b; have := HBB.out; omega) _
      have hz9 : b < (wr.setCell ⟨b, k * 3 + 2, none⟩ (.int .i16 q)).heap.size := by simpa using hbz.out
      have H9 := Lib.hid hB9
      have Z9 := Lib.hid hz9
      clear hB9 hz9
      go_wp2
      go_roundw
      case rel => exact ⟨k + 1, by omega, by go_num, Lib.hid HS.out.1, Lib.hid HS.out.2, H9, Z9⟩
      case measure => simp [intOf]; omega
    · obtain rfl : k = n := by omega
      go_wp2
      go_ret
      exact ⟨b, cap, rfl, by have := HBB.out; omega, hbz.out, hR.out, hT.out, hB.out⟩
set_option maxRecDepth 100000 in
set_option maxHeartbeats 4000000 in
theorem scaledBy_any (ap : Addr) (c : Nat) (L : List P3) (y : Int) (hy : 0 ≤ y ∧ y ≤ 100) (h0 : 0 < L.length) (h6 : L.length ≤ 6) (hr : ∀ e ∈ L, 0 ≤ e.2.2 ∧ e.2.2 ≤ 400) (w : World) (hp : PsAt w (some ap) L) :
    Calls Tryz.prog 78 #[.slice (some ap) L.length c, .int .i64 y] w fun e w' => ∃ b cap, e = .returned (.slice (some ⟨b, 0, none⟩) L.length cap) ∧ w.heap.size ≤ b ∧ b < w'.heap.size ∧ PsAt w' (some ⟨b, 0, none⟩) (scTo L y L.length) ∧ w'.there b 0 (L.length * 3) ∧ Below w.heap.size w w' := by
  obtain ⟨n, hn⟩ : ∃ n, L.length = n := ⟨_, rfl⟩
  obtain ⟨ab, ao, hap⟩ : ∃ ab ao, ap = ⟨ab, ao, none⟩ := by
    obtain ⟨b, o, h, _⟩ := hp 0 _ (List.getElem?_eq_getElem h0)
    exact ⟨b, o, Option.some.inj h⟩
  subst hap
  have P0 := Lib.hid hp
  have HN := Lib.hid hn
  have HR := Lib.hid hr
  have TC := Lib.hid (fun V (h : PsAt V (some ⟨ab, ao, none⟩) L) => cloneP_any ⟨ab, ao, none⟩ c L h0 (by omega) V h)
  rw [hn] at h0 h6 TC ⊢
  clear hn hp hr
  go_enter Tryz.func78, Tryz.ntmps78
  go_upto_region 3 with (go_at_call 108; refine (TC.out _ P0.out).mono ?_; rintro e V ⟨b, cap, rfl, hb1, hb2, hR, hT, hB⟩; have RV := Lib.hid hR; have TV := Lib.hid hT; have HB := Lib.hid hB; have HB1 := Lib.hid hb1; have HB2 := Lib.hid hb2; clear hR hT hB hb1 hb2 TC)
  go_loopw [12] (fun i wr => ∃ k : Nat, k ≤ n ∧ i = .int .i64 k ∧ Hid (PsAt wr (some ⟨b, 0, none⟩) (scTo L y k)) ∧ Hid (wr.there b 0 (n * 3)) ∧ Hid (Below w.heap.size w wr) ∧ Hid (b < wr.heap.size)) (fun i _ => n - (intOf i).toNat)
  case atStart => exact ⟨0, by omega, rfl, Lib.hid (by rw [scTo_zero]; exact RV.out), TV, HB, HB2⟩
  case round =>
    obtain ⟨k, hk, rfl, hR, hT, hB, hbz⟩ := hrel
    by_cases hlt : k < n
    · have hki : (k : Int) < n := by omega
      obtain ⟨e, he⟩ : ∃ e, L[k]? = some e := ⟨_, List.getElem?_eq_getElem (by rw [HN.out]; exact hlt)⟩
      have hre := HR.out e (List.mem_of_getElem? he)
      obtain ⟨xo, xc, r⟩ := e
      obtain ⟨b0, o0, hbo0, hr0⟩ := (P0.out.keep hB.out) k _ he
      cases hbo0
      have d0 : wr.cell? ⟨ab, ao + k * 3, none⟩ = some (.int .i8 xo) := hr0 0 _ rfl
      have d1 : wr.cell? ⟨ab, ao + k * 3 + 1, none⟩ = some (.int .i8 xc) := hr0 1 _ rfl
      have d2 : wr.cell? ⟨ab, ao + k * 3 + 2, none⟩ = some (.int .i16 r) := hr0 2 _ rfl
      obtain ⟨V2, hV2, z2, e0, e2, b2⟩ := pm_box (xo, xc, r) 82 wr
      have hT2 := there_keep hT.out hbz.out b2
      have hR2 := hR.out.keep b2
      have hs := sc_step HN.out hlt hR2 hT2 he
      obtain ⟨b', o', hbo, hr⟩ := hR2 k _ (scTo_at he)
      cases hbo
      rw [if_neg (Nat.lt_irrefl _)] at hr
      have c2 : V2.cell? ⟨b, k * 3 + 2, none⟩ = some (.int .i16 r) := by have := hr 2 _ rfl; rwa [Nat.zero_add] at this
      have f2 : V2.frozen? ⟨b, k * 3 + 2, none⟩ = false := by have := (hT2 (k * 3 + 2) (by omega)).2; rwa [Nat.zero_add] at this
      rw [Nat.zero_add] at hs
      simp only at hre hs
      obtain ⟨m, hm⟩ : ∃ m, r * y = m := ⟨_, rfl⟩
      have hm2 := sc_in hre hy
      rw [hm] at hm2 hs
      obtain ⟨q, hq⟩ : ∃ q, Int.tdiv m 100 = q := ⟨_, rfl⟩
      have hq2 := sc_div hm2
      rw [hq] at hq2 hs
      have HS := Lib.hid hs
      have HW := Lib.hid (wrap16i (n := q) (by omega))
      have hB9 : Below w.heap.size w (V2.setCell ⟨b, k * 3 + 2, none⟩ (.int .i16 q)) := (hB.out.trans (b2.mono hB.out.size)).setCell (p := ⟨b, k * 3 + 2, none⟩) (by show w.heap.size ≤ b; exact HB1.out) _
      have hz9 : b < (V2.setCell ⟨b, k * 3 + 2, none⟩ (.int .i16 q)).heap.size := by have := hbz.out; simp; omega
      have H9 := Lib.hid hB9
      have Z9 := Lib.hid hz9
      obtain ⟨q0, hq0⟩ : ∃ q0, wr.heap.size = q0 := ⟨_, rfl⟩
      rw [hq0] at e0 e2
      clear hB9 hz9 hr he hs hr0 hT2 hR2 b2 z2
      go_upto_region 5 with (fail)
      try rw [hV2]
      clear hV2 hq0 d0 d1 d2
      go_wp2
      go_roundw
      case rel => exact ⟨k + 1, by omega, by go_num, Lib.hid HS.out.1, Lib.hid HS.out.2, H9, Z9⟩
      case measure => simp [intOf]; omega
    · obtain rfl : k = n := by omega
      go_wp2
      go_ret
      exact ⟨b, cap, rfl, HB1.out, hbz.out, hR.out, hT.out, hB.out⟩
theorem l07Scaled_nil (ab ao c : Nat) (y : Int) (w : World) : Calls Tryz.prog 76 #[.slice (some ⟨ab, ao, none⟩) 0 c, .int .i64 y] w fun e w' => ∃ b cap, e = .returned (.slice (some ⟨b, 0, none⟩) 0 cap) ∧ Below w.heap.size w w' := by
  go_enter Tryz.func76, Tryz.ntmps76
  go_wp2
  refine wp_loop_rounds 1 ?_
  rw [rounds_succ]
  go_wp2
  go_ret
  exact ⟨_, _, rfl, (Below.refl _ _).alloc (Nat.le_refl _) _⟩
theorem scaledBy_nil (ab ao c : Nat) (y : Int) (w : World) : Calls Tryz.prog 78 #[.slice (some ⟨ab, ao, none⟩) 0 c, .int .i64 y] w fun e w' => ∃ b cap, e = .returned (.slice (some ⟨b, 0, none⟩) 0 cap) ∧ Below w.heap.size w w' := by
  go_enter Tryz.func78, Tryz.ntmps78
  go_wp2_with (go_at_call 108; refine (cloneP_nil ab ao c _).mono ?_; rintro e V ⟨b, cap, rfl, hB⟩; have HB := Lib.hid hB; clear hB)
  refine wp_loop_rounds 1 ?_
  rw [rounds_succ]
  go_wp2
  go_ret
  exact ⟨_, _, rfl, HB.out⟩
theorem rateL_of {L : List P3} (h : rateL L = true) : L.length ≤ 6 ∧ ∀ e ∈ L, 0 ≤ e.2.2 ∧ e.2.2 ≤ 400 := by
  unfold rateL at h
  rw [Bool.and_eq_true] at h
  refine ⟨by simpa using h.1, fun e he => ?_⟩
  have := List.all_eq_true.1 h.2 e he
  unfold rateB at this
  simpa using this

end Go.Proofs.YtaghnminpfgdcaaGreatDoor
