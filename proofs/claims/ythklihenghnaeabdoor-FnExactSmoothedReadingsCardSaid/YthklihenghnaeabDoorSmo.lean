/- SmoothedReadings, the program's and the model's, as a list. Condition: the sentinels lie where they are laid; at most 2^20 readings. -/
import Derived.Test.YthklihenghnaeabDoorApp
import Derived.Test.YthklihenghnaeabDoorTies
import Derived.Test.YthklihenghnaeabDoorLogI
namespace Go.Proofs.YthklihenghnaeabDoor
open Go Go.RowKit Ieee
set_option linter.unusedSimpArgs false
set_option linter.unusedVariables false
attribute [local go_sem] run_store_f32

def mnI (x y : Int) : Int := if y < x then y else x
def mxI (x y : Int) : Int := if y > x then y else x
/-- The median of three. -/
def med3 (a b c : Int) : Int := mxI (mnI a b) (mnI (mxI a b) c)
theorem med3_rng {a b c lo hi : Int} (ha : lo ≤ a ∧ a ≤ hi) (hb : lo ≤ b ∧ b ≤ hi) (hc : lo ≤ c ∧ c ≤ hi) : lo ≤ med3 a b c ∧ med3 a b c ≤ hi := by
  unfold med3 mnI mxI
  repeat' split
  all_goals omega
theorem ret_i16 {x y : Int} (h : x = y) : Ending.returned (.int .i16 x) = .returned (.int .i16 y) := by rw [h]
theorem implMedian_any (a b c : Int) (w : World) : Calls Tryd.prog 67 #[.int .i16 a, .int .i16 b, .int .i16 c] w fun e w' => e = .returned (.int .i16 (med3 a b c)) ∧ w' = w := by
  go_enter Tryd.func67, Tryd.ntmps67
  go_wp2
  all_goals
    go_ret
    exact ⟨ret_i16 (by simp only [med3, mnI, mxI]; (repeat' split) <;> omega), rfl⟩
theorem l00Max_is (a b r : Int) (h : mxI a b = r) (w : World) : Calls Tryd.prog 100 #[.int .i64 a, .int .i64 b] w fun e w' => e = .returned (.int .i64 r) ∧ w' = w := by
  subst h
  by_cases h1 : a < b
  · have e1 : ¬ b < a := by omega
    rw [show mxI a b = b by simp [mxI, h1]]
    go_enter Tryd.func100, Tryd.ntmps100
    go_wp2
    go_ret
    exact ⟨rfl, rfl⟩
  · rw [show mxI a b = a by simp [mxI, h1]]
    by_cases h2 : b < a
    · go_enter Tryd.func100, Tryd.ntmps100
      go_wp2
      go_ret
      exact ⟨rfl, rfl⟩
    · obtain rfl : a = b := by omega
      go_enter Tryd.func100, Tryd.ntmps100
      go_wp2
      go_ret
      exact ⟨rfl, rfl⟩
theorem l00Min_is (a b r : Int) (h : mnI a b = r) (w : World) : Calls Tryd.prog 101 #[.int .i64 a, .int .i64 b] w fun e w' => e = .returned (.int .i64 r) ∧ w' = w := by
  subst h
  by_cases h1 : a < b
  · have e1 : ¬ b < a := by omega
    rw [show mnI a b = a by simp [mnI, e1]]
    go_enter Tryd.func101, Tryd.ntmps101
    go_wp2
    go_ret
    exact ⟨rfl, rfl⟩
  · have e1 : mnI a b = b := by
      unfold mnI
      split
      · rfl
      · omega
    rw [e1]
    clear e1
    go_enter Tryd.func101, Tryd.ntmps101
    go_wp2
    go_ret
    exact ⟨rfl, rfl⟩
theorem specMedian_any (a b c : Int) (w : World) : Calls Tryd.prog 65 #[.int .i64 a, .int .i64 b, .int .i64 c] w fun e w' => e = .returned (.int .i64 (med3 a b c)) ∧ w' = w := by
  obtain ⟨x, hx⟩ : ∃ x, mnI a b = x := ⟨_, rfl⟩
  obtain ⟨y, hy⟩ : ∃ y, mxI a b = y := ⟨_, rfl⟩
  obtain ⟨z, hz⟩ : ∃ z, mnI y c = z := ⟨_, rfl⟩
  obtain ⟨r, hr⟩ : ∃ r, mxI x z = r := ⟨_, rfl⟩
  have HM := Lib.hid (show r = med3 a b c by rw [← hr, ← hz, ← hy, ← hx]; rfl)
  have T1 := Lib.hid (fun V => l00Min_is a b x hx V)
  have T2 := Lib.hid (fun V => l00Max_is a b y hy V)
  have T3 := Lib.hid (fun V => l00Min_is y c z hz V)
  have T4 := Lib.hid (fun V => l00Max_is x z r hr V)
  clear hx hy hz hr
  have t1 : True := trivial
  have t2 : True := trivial
  have t3 : True := trivial
  go_enter Tryd.func65, Tryd.ntmps65
  go_wp2_with (first | (have _t := t1; go_at_call 101; refine (T1.out _).mono ?_; rintro e V ⟨rfl, hV⟩; rw [hV]; clear hV t1) | (have _t := t2; go_at_call 100; refine (T2.out _).mono ?_; rintro e V ⟨rfl, hV⟩; rw [hV]; clear hV t2) | (have _t := t3; go_at_call 101; refine (T3.out _).mono ?_; rintro e V ⟨rfl, hV⟩; rw [hV]; clear hV t3) | (go_at_call 100; refine (T4.out _).mono ?_; rintro e V ⟨rfl, hV⟩; rw [hV]; clear hV))
  go_ret
  exact ⟨by first | (rw [HM.out]; done) | (rw [HM.out]; rfl), rfl⟩

/-- The list behind k rounds. -/
def lvAt (L : List R2) (i : Nat) : Int := match L[i]? with | some e => e.2 | none => 0
def smE (L : List R2) (k i : Nat) (e : R2) : R2 := if 1 ≤ i ∧ i < k then (e.1, med3 (lvAt L (i - 1)) e.2 (lvAt L (i + 1))) else e
def smTo (L : List R2) (k : Nat) : List R2 := L.mapIdx (smE L k)
theorem smTo_len (L : List R2) (k : Nat) : (smTo L k).length = L.length := by simp [smTo]
theorem smTo_at {L : List R2} {k i : Nat} {f : R2} (h : (smTo L k)[i]? = some f) : ∃ e, L[i]? = some e ∧ f = smE L k i e := by
  simp only [smTo, List.getElem?_mapIdx, Option.map_eq_some_iff] at h
  obtain ⟨e, he, rfl⟩ := h
  exact ⟨e, he, rfl⟩
theorem smTo_of {L : List R2} {k i : Nat} {e : R2} (h : L[i]? = some e) : (smTo L k)[i]? = some (smE L k i e) := by simp [smTo, h]
theorem smTo_one (L : List R2) (k : Nat) (hk : k ≤ 1) : smTo L k = L := by
  refine List.ext_getElem? fun i => ?_
  simp only [smTo, List.getElem?_mapIdx]
  cases L[i]? with
  | none => rfl
  | some e => simp only [Option.map_some, smE, if_neg (show ¬ (1 ≤ i ∧ i < k) by omega)]
/-- One round. -/
theorem smooth_step {wr : World} {b n k : Nat} {L : List R2} {e : R2} {v : Int} (hn : L.length = n) (hk : 1 ≤ k) (hkn : k < n) (hR : RsAt wr (some ⟨b, 0, none⟩) (smTo L k)) (hT : wr.there b 0 (n * 2)) (he : L[k]? = some e)
    (hv : v = med3 (lvAt L (k - 1)) e.2 (lvAt L (k + 1))) : RsAt (wr.setCell ⟨b, k * 2 + 1, none⟩ (.int .i16 v)) (some ⟨b, 0, none⟩) (smTo L (k + 1)) ∧ (wr.setCell ⟨b, k * 2 + 1, none⟩ (.int .i16 v)).there b 0 (n * 2) := by
  refine ⟨fun j f hf => ?_, there_setCell hT⟩
  obtain ⟨g, hg, rfl⟩ := smTo_at hf
  obtain ⟨b', o', hb, hr⟩ := hR j _ (smTo_of hg)
  cases hb
  refine ⟨b, 0, rfl, ?_⟩
  rw [Nat.zero_add] at hr ⊢
  by_cases hjk : j = k
  · subst hjk
    rw [hg] at he
    cases he
    have e1 : smE L j j e = e := by simp only [smE, if_neg (show ¬ (1 ≤ j ∧ j < j) by omega)]
    have e2 : smE L (j + 1) j e = (e.1, v) := by simp only [smE, if_pos (show 1 ≤ j ∧ j < j + 1 by omega), hv]
    rw [e1] at hr
    rw [e2]
    have h0 : wr.rangeAt b (j * 2) [.int .i64 e.1] := fun i u hu => by
      have hi : i < 1 := (List.getElem?_eq_some_iff.1 hu).1
      obtain rfl : i = 0 := by omega
      exact hr 0 u (by simpa [r2, Rd] using hu)
    have k0 := World.rangeAt_setCells_apart h0 b (j * 2 + 1) [.int .i16 v] (.inr (.inl (by simp)))
    have k1 := World.rangeAt_setCells_same wr b (j * 2 + 1) [.int .i16 v] (there_part hT (by simp; omega))
    intro i u hu
    have hi : i < 2 := (List.getElem?_eq_some_iff.1 hu).1
    match i, hi with
    | 0, _ => exact k0 0 u (by simpa [r2, Rd] using hu)
    | 1, _ =>
      have := k1 0 u (by simpa [r2, Rd] using hu)
      rwa [Nat.add_zero] at this
  · have e1 : smE L (k + 1) j g = smE L k j g := by
      simp only [smE]
      by_cases h : 1 ≤ j ∧ j < k
      · rw [if_pos h, if_pos (by omega)]
      · rw [if_neg h, if_neg (by omega)]
    rw [e1]
    exact World.rangeAt_setCells_apart hr b (k * 2 + 1) [.int .i16 v] (by rw [r2_len]; simp only [List.length_cons, List.length_nil]; omega)
theorem int_sub {P : Program} {op : Oper} {a : Act} {ty tz : TypeId} {p q : Operand} {x y z : Int} (ho : op.op = .binOp .sub ty p q tz) (hx : a.eval p = .int .i64 x) (hy : a.eval q = .int .i64 y) (hz : z = x - y) (hb : -9223372036854775808 ≤ z ∧ z ≤ 9223372036854775807) (w : World) :
    (execOp a.eval op).run P w = .ok (.value (.int .i64 z)) w := by
  subst hz
  unfold execOp
  simp only [ho, hx, hy]
  go_simp
  simp only [IntWalk.i64_left, IntWalk.wrap64_in _ hb]
theorem int_add {P : Program} {op : Oper} {a : Act} {ty tz : TypeId} {p q : Operand} {x y z : Int} (ho : op.op = .binOp .add ty p q tz) (hx : a.eval p = .int .i64 x) (hy : a.eval q = .int .i64 y) (hz : z = x + y) (hb : -9223372036854775808 ≤ z ∧ z ≤ 9223372036854775807) (w : World) :
    (execOp a.eval op).run P w = .ok (.value (.int .i64 z)) w := by
  subst hz
  unfold execOp
  simp only [ho, hx, hy]
  go_simp
  simp only [IntWalk.i64_left, IntWalk.wrap64_in _ hb]
theorem store_i16 {op : Oper} {a : Act} {x y : Operand} {w : World} {b o : Nat} {v : Int} (ho : op.op = .store 90 x y) (hx : a.eval x = .pointer (some ⟨b, o, none⟩)) (hy : a.eval y = .int .i16 v) (h : w.there b o 1) :
    (execOp a.eval op).run Tryd.prog w = .ok .skip (w.setCell ⟨b, o, none⟩ (.int .i16 v)) := by
  obtain ⟨h1, h2⟩ := h 0 (by omega)
  rw [Nat.add_zero] at h1 h2
  obtain ⟨u, hu⟩ := Option.isSome_iff_exists.1 h1
  clear h h1
  unfold execOp
  simp only [ho, hx, hy]
  go_simp

theorem cell_apart {w : World} {b' o' b o : Nat} {v u : Value} (hc : w.cell? ⟨b', o', none⟩ = some u) (hne : b' ≠ b) : (w.setCell ⟨b, o, none⟩ v).cell? ⟨b', o', none⟩ = some u := by
  have h : w.rangeAt b' o' [u] := fun j x hx => by
    have hj : j < 1 := (List.getElem?_eq_some_iff.1 hx).1
    obtain rfl : j = 0 := by omega
    rw [Nat.add_zero, hc]
    simpa using hx
  have := (World.rangeAt_setCells_apart h b o [v] (.inl hne)) 0 u rfl
  rwa [Nat.add_zero] at this
/-- What is given back. -/
def smV (L : List R2) : List R2 := if okRs L = true then smTo L (L.length - 1) else []
theorem smTo_end (L : List R2) {n k : Nat} (hn : L.length = n) (h1 : 1 ≤ k) (h2 : k = n - 1 ∨ k = 1 ∧ n ≤ 2) : smTo L k = smTo L (n - 1) := by
  rcases h2 with rfl | ⟨rfl, h⟩
  · rfl
  · rw [smTo_one L 1 (by omega), smTo_one L (n - 1) (by omega)]
theorem conv16 {op : Oper} {a : Act} {x : Operand} {v : Int} (ho : op.op = .convert 2 90 x) (hx : a.eval x = .int .i64 v) (hv : -32768 ≤ v ∧ v ≤ 32767) (w : World) : (execOp a.eval op).run Tryd.prog w = .ok (.value (.int .i16 v)) w := by
  unfold execOp
  simp only [ho, hx]
  go_simp
  rw [wrap16_in v hv.1 hv.2]
theorem conv64 {op : Oper} {a : Act} {x : Operand} {v : Int} (ho : op.op = .convert 90 2 x) (hx : a.eval x = .int .i16 v) (hv : -32768 ≤ v ∧ v ≤ 32767) (w : World) : (execOp a.eval op).run Tryd.prog w = .ok (.value (.int .i64 v)) w := by
  unfold execOp
  simp only [ho, hx]
  go_simp
  simp only [IntWalk.i64_left]
  rw [IntWalk.wrap64_in v (by omega)]
set_option maxRecDepth 100000 in
theorem cloneR_nil (ab ao : Nat) (c : Nat) (w : World) : Calls Tryd.prog 66 #[.slice (some ⟨ab, ao, none⟩) 0 c] w fun e w' => ∃ b cap, e = .returned (.slice (some ⟨b, 0, none⟩) 0 cap) ∧ Below w.heap.size w w' := by
  have hnil : ∀ w, (binOp BinOp.eql 41 (.slice (some ⟨ab, ao, none⟩) 0 c) (.slice none 0 0)).run Tryd.prog w = .ok (.bool false) w := fun _ => by kernel_rfl
  go_enter Tryd.func66, Tryd.ntmps66
  go_wp2
  go_ret
  exact ⟨_, _, rfl, (Below.refl _ _).alloc (Nat.le_refl _) _⟩

set_option maxRecDepth 100000 in
set_option maxHeartbeats 2000000 in
theorem implSmooth_any {s : Nat → Addr} (ab ao c : Nat) (L : List R2) (hL : L.length ≤ 1048576) (hO : ∀ e ∈ L, -32768 ≤ e.2 ∧ e.2 ≤ 32767) (w : World) (hp : RsAt w (some ⟨ab, ao, none⟩) L) (hS : Sents w s) :
    Calls Tryd.prog 25 #[.slice (some ⟨ab, ao, none⟩) L.length c] w fun e w' => ∃ P cap, e = .returned (.tuple #[.slice P (smV L).length cap, .int .i64 (tieK L)]) ∧ RsAt w' P (smV L) ∧ (smV L ≠ [] → ∃ b, P = some ⟨b, 0, none⟩ ∧ w.heap.size ≤ b ∧ b < w'.heap.size ∧ w'.there b 0 (L.length * 2)) ∧ Below w.heap.size w w' := by
  have hSS := hS
  cases hk : okRs L
  · have hke : ckR L = some 0 := by simp [ckR, hk]
    have T := checkReadings_any (some ⟨ab, ao, none⟩) c L hL w hp hS
    rw [hke] at T
    have TC := fun (V : World) (h : Sents V s) => codeOf_any (s := s) (some 0) (by decide) V h
    simp only [erV] at T TC
    have HE := Lib.hid (show smV L = [] ∧ tieK L = 1 by simp [smV, tieK, hk])
    clear hk hke hS
    have HS := Lib.hid hSS
    obtain ⟨n, hn⟩ : ∃ n, L.length = n := ⟨_, rfl⟩
    rw [hn] at T ⊢
    clear hn hSS
    go_enter Tryd.func25, Tryd.ntmps25
    go_wp2_with (first | (go_at_call 63; refine T.mono ?_; rintro e V ⟨rfl, hV⟩; have HV := Lib.hid hV; clear hV) | (go_at_call 60; refine (TC _ (HS.out.keep HV.out)).mono ?_; rintro e V2 ⟨rfl, hV⟩; rw [hV]; clear hV))
    go_ret2
    exact ⟨none, 0, by rw [HE.out.1, HE.out.2]; rfl, (by rw [HE.out.1]; intro i e he; simp at he), (fun h => absurd HE.out.1 h), HV.out⟩
  · have hke : ckR L = none := by simp [ckR, hk]
    have T := checkReadings_any (some ⟨ab, ao, none⟩) c L hL w hp hS
    rw [hke] at T
    simp only [erV] at T
    have h40 := okRs_le hk
    have HE := Lib.hid (show smV L = smTo L (L.length - 1) ∧ tieK L = 0 by simp [smV, tieK, hk])
    have P0 := Lib.hid hp
    have HO := Lib.hid hO
    obtain ⟨n, hn⟩ : ∃ n, L.length = n := ⟨_, rfl⟩
    have HN := Lib.hid hn
    rw [hn] at T hL h40 HE ⊢
    clear hk hke hS hSS hn hp hO
    by_cases hn0 : n = 0
    · subst hn0
      have HE2 := Lib.hid (show smV L = [] ∧ tieK L = 0 by rw [HE.out.1, HE.out.2, List.eq_nil_of_length_eq_zero HN.out]; exact ⟨rfl, rfl⟩)
      go_enter Tryd.func25, Tryd.ntmps25
      go_wp2_with (first | (go_at_call 63; refine T.mono ?_; rintro e V ⟨rfl, hV⟩; have HV := Lib.hid hV; have PV := Lib.hid (P0.out.keep hV); clear hV T) | (go_at_call 66; refine (cloneR_nil ab ao c _).mono ?_; rintro e V2 ⟨b, cap, rfl, hV2⟩; have HV2 := Lib.hid (HV.out.trans (hV2.mono HV.out.size)); clear hV2))
      refine wp_loop_rounds 1 ?_
      rw [rounds_succ]
      go_wp2
      go_ret2
      exact ⟨_, cap, by rw [HE2.out.1, HE2.out.2]; rfl, (by rw [HE2.out.1]; intro i e he; simp at he), (fun h => absurd HE2.out.1 h), HV2.out⟩
    · have TC := fun (V : World) (h : RsAt V (some ⟨ab, ao, none⟩) L) => cloneR_any ⟨ab, ao, none⟩ c L (by rw [HN.out]; omega) (by rw [HN.out]; exact h40) V h
      rw [HN.out] at TC
      go_enter Tryd.func25, Tryd.ntmps25
      go_wp2_with (first | (go_at_call 63; refine T.mono ?_; rintro e V ⟨rfl, hV⟩; have HV := Lib.hid hV; have PV := Lib.hid (P0.out.keep hV); clear hV T) | (go_at_call 66; refine (TC _ PV.out).mono ?_; rintro e V2 ⟨b, cap, rfl, hb1, hb2, hR, hT, hB⟩; have HV2 := Lib.hid (HV.out.trans (hB.mono HV.out.size)); have hbw := Nat.le_trans HV.out.size hb1; have RV := Lib.hid hR; have TV := Lib.hid hT; have BV := Lib.hid hb2; clear hB hR hT hb1 hb2 TC))
      go_loopw [6] (fun i wr => ∃ k : Nat, 1 ≤ k ∧ (k ≤ n - 1 ∨ k = 1 ∧ n ≤ 2) ∧ i = .int .i64 (k : Int) ∧ Hid (RsAt wr (some ⟨b, 0, none⟩) (smTo L k)) ∧ Hid (wr.there b 0 (n * 2)) ∧ Hid (Below w.heap.size w wr) ∧ Hid (b < wr.heap.size)) (fun i _ => n - (intOf i).toNat)
      case atStart => exact ⟨1, by omega, by omega, rfl, Lib.hid (by rw [smTo_one L 1 (Nat.le_refl _)]; exact RV.out), TV, HV2, BV⟩
      case round =>
        obtain ⟨k, hk1, hk2, rfl, hR, hT, hB, hbz⟩ := hrel
        by_cases hlt : k + 1 < n
        · obtain ⟨j, hj⟩ : ∃ j, j + 1 = k := ⟨k - 1, by omega⟩
          obtain ⟨m, hm⟩ : ∃ m, k + 1 = m := ⟨_, rfl⟩
          have hki : (k : Int) < (n : Int) - 1 := by omega
          have hki2 : (k : Int) + 1 < (n : Int) := by omega
          have hjn : j < n := by omega
          have hkn : k < n := by omega
          have hmn : m < n := by omega
          obtain ⟨el, hel⟩ : ∃ e, L[j]? = some e := ⟨_, List.getElem?_eq_getElem (by rw [HN.out]; omega)⟩
          obtain ⟨e, he⟩ : ∃ e, L[k]? = some e := ⟨_, List.getElem?_eq_getElem (by rw [HN.out]; omega)⟩
          obtain ⟨er, her⟩ : ∃ e, L[m]? = some e := ⟨_, List.getElem?_eq_getElem (by rw [HN.out]; omega)⟩
          have PW := P0.out.keep hB.out
          obtain ⟨b0, o0, hbo, hr0⟩ := PW j el hel
          obtain ⟨b1, o1, hbo1, hr1⟩ := PW k e he
          obtain ⟨b2, o2, hbo2, hr2⟩ := PW m er her
          cases hbo; cases hbo1; cases hbo2
          have hlt0 : ab < w.heap.size := by
            obtain ⟨b3, o3, h3, hr3⟩ := P0.out j el hel
            cases h3
            exact World.block_lt_of_cell? w _ (hr3 0 _ rfl)
          have hne : ab ≠ b := by omega
          have HS : wr.drew.cell? ⟨ab, ao + j * 2 + 1, none⟩ = some (.int .i16 el.2) ∧ wr.drew.cell? ⟨ab, ao + k * 2 + 1, none⟩ = some (.int .i16 e.2) ∧ wr.drew.cell? ⟨ab, ao + m * 2 + 1, none⟩ = some (.int .i16 er.2) := ⟨hr0 1 _ rfl, hr1 1 _ rfl, hr2 1 _ rfl⟩
          have ht1 : wr.drew.there b (0 + k * 2 + 1) 1 := there_part (show wr.drew.there b 0 (n * 2) from hT.out) (by omega)
          have rl := HO.out el (List.mem_of_getElem? hel)
          have rm := HO.out e (List.mem_of_getElem? he)
          have rr := HO.out er (List.mem_of_getElem? her)
          have hmr := med3_rng (HO.out el (List.mem_of_getElem? hel)) (HO.out e (List.mem_of_getElem? he)) (HO.out er (List.mem_of_getElem? her))
          have hstep := smooth_step (wr := wr.drew) (v := med3 el.2 e.2 er.2) HN.out hk1 hkn hR.out hT.out he (by simp only [lvAt, show k - 1 = j by omega, hm, hel, her])
          rw [show k * 2 + 1 = 0 + k * 2 + 1 by omega] at hstep
          clear hr0 hr1 hr2 PW hel he her hlt0
          have HJ := Lib.hid hj
          have HMM := Lib.hid hm
          have HSTEP := Lib.hid hstep
          clear hstep
          go_wp2
          refine wp_region_plan (ops' := regOf Tryd.f25 8) (.take 0 (.take 1 (.take 2 (.take 3 (.take 4 (.take 5 (.take 6 (.take 7 (.take 8 (.take 9 (.take 10 (.take 11 (.take 12 (.take 13 (.take 14 (.take 15 (.take 16 (.take 17 (.take 18 (.run 19 (.take 20 (.take 21 (.run 22 .fin))))))))))))))))))))))) (fun w' => w'.cell? ⟨ab, ao + j * 2 + 1, none⟩ = some (.int .i16 el.2) ∧ w'.cell? ⟨ab, ao + k * 2 + 1, none⟩ = some (.int .i16 e.2) ∧ w'.cell? ⟨ab, ao + m * 2 + 1, none⟩ = some (.int .i16 er.2)) (by kernel_rfl) (by kernel_rfl) (by kernel_rfl) (by kernel_rfl) (by kernel_rfl) HS ?_
          refine plan_pure (some 22) (.slice (some ⟨b, 0, none⟩) n cap) (by kernel_rfl) (by kernel_rfl) (by kernel_rfl) (fun _ => (by kernel_rfl)) ?_
          refine plan_pure (some 23) (.int .i64 (k : Int)) (by kernel_rfl) (by kernel_rfl) (by kernel_rfl) (fun _ => (by kernel_rfl)) ?_
          refine plan_pure (some 24) (.slice (some ⟨ab, ao, none⟩) n c) (by kernel_rfl) (by kernel_rfl) (by kernel_rfl) (fun _ => (by kernel_rfl)) ?_
          refine plan_pure (some 25) (.int .i64 (k : Int)) (by kernel_rfl) (by kernel_rfl) (by kernel_rfl) (fun _ => (by kernel_rfl)) ?_
          refine plan_pure (some 26) (.int .i64 (j : Int)) (by kernel_rfl) (by kernel_rfl) (by kernel_rfl) (int_sub (ty := 3) (tz := 3) (p := .tmp 25) (q := .const (.int .i64 1)) (x := (k : Int)) (y := 1) (by kernel_rfl) (by kernel_rfl) (by kernel_rfl) (by omega) (by omega)) ?_
          refine plan_pure (some 27) (.pointer (some ⟨ab, ao + j * 2, none⟩)) (by kernel_rfl) (by kernel_rfl) (by kernel_rfl) (index_rd (T := 41) (n := n) (c := c) (x := .tmp 24) (y := .tmp 26) (by kernel_rfl) (.inl rfl) (by kernel_rfl) (by kernel_rfl) hjn) ?_
          refine plan_pure (some 28) (.pointer (some ⟨ab, ao + j * 2 + 1, none⟩)) (by kernel_rfl) (by kernel_rfl) (by kernel_rfl) (fun _ => (by kernel_rfl)) ?_
          refine plan_take (some 29) (.int .i16 el.2) (by kernel_rfl) (by kernel_rfl) (.inl ⟨(by kernel_rfl), fun w' hw' => load_cell (ty := 90) (x := .tmp 28) (b := ab) (o := ao + j * 2 + 1) (by kernel_rfl) (by kernel_rfl) Tryd.underlying90 rfl hw'.1⟩) ?_
          refine plan_pure (some 30) (.slice (some ⟨ab, ao, none⟩) n c) (by kernel_rfl) (by kernel_rfl) (by kernel_rfl) (fun _ => (by kernel_rfl)) ?_
          refine plan_pure (some 31) (.int .i64 (k : Int)) (by kernel_rfl) (by kernel_rfl) (by kernel_rfl) (fun _ => (by kernel_rfl)) ?_
          refine plan_pure (some 32) (.pointer (some ⟨ab, ao + k * 2, none⟩)) (by kernel_rfl) (by kernel_rfl) (by kernel_rfl) (index_rd (T := 41) (n := n) (c := c) (x := .tmp 30) (y := .tmp 31) (by kernel_rfl) (.inl rfl) (by kernel_rfl) (by kernel_rfl) hkn) ?_
          refine plan_pure (some 33) (.pointer (some ⟨ab, ao + k * 2 + 1, none⟩)) (by kernel_rfl) (by kernel_rfl) (by kernel_rfl) (fun _ => (by kernel_rfl)) ?_
          refine plan_take (some 34) (.int .i16 e.2) (by kernel_rfl) (by kernel_rfl) (.inl ⟨(by kernel_rfl), fun w' hw' => load_cell (ty := 90) (x := .tmp 33) (b := ab) (o := ao + k * 2 + 1) (by kernel_rfl) (by kernel_rfl) Tryd.underlying90 rfl hw'.2.1⟩) ?_
          refine plan_pure (some 35) (.slice (some ⟨ab, ao, none⟩) n c) (by kernel_rfl) (by kernel_rfl) (by kernel_rfl) (fun _ => (by kernel_rfl)) ?_
          refine plan_pure (some 36) (.int .i64 (k : Int)) (by kernel_rfl) (by kernel_rfl) (by kernel_rfl) (fun _ => (by kernel_rfl)) ?_
          refine plan_pure (some 37) (.int .i64 (m : Int)) (by kernel_rfl) (by kernel_rfl) (by kernel_rfl) (int_add (ty := 3) (tz := 3) (p := .tmp 36) (q := .const (.int .i64 1)) (x := (k : Int)) (y := 1) (by kernel_rfl) (by kernel_rfl) (by kernel_rfl) (by omega) (by omega)) ?_
          refine plan_pure (some 38) (.pointer (some ⟨ab, ao + m * 2, none⟩)) (by kernel_rfl) (by kernel_rfl) (by kernel_rfl) (index_rd (T := 41) (n := n) (c := c) (x := .tmp 35) (y := .tmp 37) (by kernel_rfl) (.inl rfl) (by kernel_rfl) (by kernel_rfl) hmn) ?_
          refine plan_pure (some 39) (.pointer (some ⟨ab, ao + m * 2 + 1, none⟩)) (by kernel_rfl) (by kernel_rfl) (by kernel_rfl) (fun _ => (by kernel_rfl)) ?_
          refine plan_take (some 40) (.int .i16 er.2) (by kernel_rfl) (by kernel_rfl) (.inl ⟨(by kernel_rfl), fun w' hw' => load_cell (ty := 90) (x := .tmp 39) (b := ab) (o := ao + m * 2 + 1) (by kernel_rfl) (by kernel_rfl) Tryd.underlying90 rfl hw'.2.2⟩) ?_
          refine plan_call (some 41) 67 #[.int .i16 el.2, .int .i16 e.2, .int .i16 er.2] (by kernel_rfl) (by kernel_rfl) (by kernel_rfl) (by kernel_rfl) (Calls.mono (implMedian_any el.2 e.2 er.2 _) ?_)
          rintro _ _ ⟨rfl, rfl⟩
          refine ⟨_, rfl, HS, ?_⟩
          refine plan_pure (some 42) (.pointer (some ⟨b, 0 + k * 2, none⟩)) (by kernel_rfl) (by kernel_rfl) (by kernel_rfl) (index_rd (T := 41) (n := n) (c := cap) (x := .tmp 22) (y := .tmp 23) (by kernel_rfl) (.inl rfl) (by kernel_rfl) (by kernel_rfl) hkn) ?_
          refine plan_pure (some 43) (.pointer (some ⟨b, 0 + k * 2 + 1, none⟩)) (by kernel_rfl) (by kernel_rfl) (by kernel_rfl) (fun _ => (by kernel_rfl)) ?_
          refine plan_do none undef (wr.drew.setCell ⟨b, 0 + k * 2 + 1, none⟩ (.int .i16 (med3 el.2 e.2 er.2))) (by kernel_rfl) (by kernel_rfl) (by kernel_rfl) (.inr ⟨store_i16 (x := .tmp 43) (y := .tmp 41) (b := b) (o := 0 + k * 2 + 1) (v := med3 el.2 e.2 er.2) (by kernel_rfl) (by kernel_rfl) (by kernel_rfl) ht1, rfl⟩) ⟨cell_apart HS.1 hne, cell_apart HS.2.1 hne, cell_apart HS.2.2 hne⟩ ?_
          refine plan_end (NoPanic.normal ?_)
          have hst := HSTEP.out
          have hb9 : Below w.heap.size w (wr.drew.setCell ⟨b, 0 + k * 2 + 1, none⟩ (.int .i16 (med3 el.2 e.2 er.2))) := (hB.out.drew).setCell (p := ⟨b, 0 + k * 2 + 1, none⟩) hbw _
          have hz9 : b < (wr.drew.setCell ⟨b, 0 + k * 2 + 1, none⟩ (.int .i16 (med3 el.2 e.2 er.2))).heap.size := by simpa using hbz.out
          obtain ⟨V9, hV9⟩ : ∃ V9, wr.drew.setCell ⟨b, 0 + k * 2 + 1, none⟩ (.int .i16 (med3 el.2 e.2 er.2)) = V9 := ⟨_, rfl⟩
          rw [hV9] at hst hb9 hz9 ⊢
          have H9 := Lib.hid hst
          have B9 := Lib.hid hb9
          have Z9 := Lib.hid hz9
          clear hst hb9 hz9 hV9 HSTEP
          simp only [Act.put, List.setIfInBounds_toArray, List.set_cons_zero, List.set_cons_succ]
          go_wp2
          go_roundw
          case rel => exact ⟨k + 1, by omega, by omega, by go_num, Lib.hid H9.out.1, Lib.hid H9.out.2, B9, Z9⟩
          case measure => simp [intOf]; omega
        · have hki : ¬ (k : Int) < (n : Int) - 1 := by omega
          have hki2 : ¬ (k : Int) + 1 < (n : Int) := by omega
          have hend := smTo_end L (k := k) HN.out hk1 (by omega)
          have HE3 := Lib.hid (show smV L = smTo L k ∧ tieK L = 0 by rw [HE.out.1, hend]; exact ⟨rfl, HE.out.2⟩)
          clear hend
          go_wp2
          go_ret2
          exact ⟨_, ⟨cap, by rw [HE3.out.1, HE3.out.2, smTo_len, HN.out]; rfl⟩, (by rw [HE3.out.1]; exact hR.out), (fun _ => ⟨b, rfl, hbw, hbz.out, by first | exact hT.out | (rw [HN.out]; exact hT.out)⟩), hB.out⟩

set_option maxRecDepth 100000 in
set_option maxHeartbeats 2000000 in
theorem specSmooth_any (ab ao c : Nat) (L : List R2) (hL : L.length ≤ 1048576) (hO : ∀ e ∈ L, -32768 ≤ e.2 ∧ e.2 ≤ 32767) (w : World) (hp : RsAt w (some ⟨ab, ao, none⟩) L) :
    Calls Tryd.prog 24 #[.slice (some ⟨ab, ao, none⟩) L.length c] w fun e w' => ∃ P cap, e = .returned (.tuple #[.slice P (smV L).length cap, .int .i64 (tieK L)]) ∧ RsAt w' P (smV L) ∧ (smV L ≠ [] → ∃ b, P = some ⟨b, 0, none⟩ ∧ w.heap.size ≤ b ∧ b < w'.heap.size ∧ w'.there b 0 (L.length * 2)) ∧ Below w.heap.size w w' := by
  skip
  cases hk : okRs L
  · have T := l04Ok_any (some ⟨ab, ao, none⟩) c L hL w hp
    rw [hk] at T
    have HE := Lib.hid (show smV L = [] ∧ tieK L = 1 by simp [smV, tieK, hk])
    clear hk
    obtain ⟨n, hn⟩ : ∃ n, L.length = n := ⟨_, rfl⟩
    rw [hn] at T ⊢
    clear hn
    go_enter Tryd.func24, Tryd.ntmps24
    go_wp2_with (go_at_call 61; refine T.mono ?_; rintro e V ⟨rfl, hV⟩; have HV := Lib.hid hV; clear hV)
    go_ret2
    exact ⟨_, 0, by rw [HE.out.1, HE.out.2]; rfl, (by rw [HE.out.1]; intro i e he; simp at he), (fun h => absurd HE.out.1 h), HV.out.alloc HV.out.size _⟩
  · have T := l04Ok_any (some ⟨ab, ao, none⟩) c L hL w hp
    rw [hk] at T
    have h40 := okRs_le hk
    have HE := Lib.hid (show smV L = smTo L (L.length - 1) ∧ tieK L = 0 by simp [smV, tieK, hk])
    have P0 := Lib.hid hp
    have HO := Lib.hid hO
    obtain ⟨n, hn⟩ : ∃ n, L.length = n := ⟨_, rfl⟩
    have HN := Lib.hid hn
    rw [hn] at T hL h40 HE ⊢
    clear hk hn hp hO
    by_cases hn0 : n = 0
    · subst hn0
      have HE2 := Lib.hid (show smV L = [] ∧ tieK L = 0 by rw [HE.out.1, HE.out.2, List.eq_nil_of_length_eq_zero HN.out]; exact ⟨rfl, rfl⟩)
      go_enter Tryd.func24, Tryd.ntmps24
      go_wp2_with (go_at_call 61; refine T.mono ?_; rintro e V ⟨rfl, hV⟩; have HV := Lib.hid hV; have PV := Lib.hid (P0.out.keep hV); clear hV T)
      refine wp_loop_rounds 1 ?_
      rw [rounds_succ]
      go_wp2
      go_ret2
      exact ⟨_, _, by rw [HE2.out.1, HE2.out.2]; rfl, (by rw [HE2.out.1]; intro i e he; simp at he), (fun h => absurd HE2.out.1 h), HV.out.alloc HV.out.size _⟩
    · go_enter Tryd.func24, Tryd.ntmps24
      go_upto_region 3 with (go_at_call 61; refine T.mono ?_; rintro e V ⟨rfl, hV⟩; have HV := Lib.hid hV; have PV := Lib.hid (P0.out.keep hV); clear hV T)
      have BA : Below w.heap.size w (V.alloc (.cells #[] 92)) := HV.out.alloc HV.out.size _
      have hsz : (V.alloc (.cells #[] 92)).heap.size = V.heap.size + 1 := by simp
      obtain ⟨cap, V2, hm, hR, hT, hB, hz⟩ := appR_run (b0 := ⟨V.heap.size, 0, none⟩) (c := c) HN.out (by omega) h40 (P0.out.keep BA)
      rw [hsz] at hR hT hz
      have HM := Lib.hid hm
      have HV2 := Lib.hid (BA.trans (hB.mono BA.size))
      have RV' := Lib.hid hR
      have TV' := Lib.hid hT
      have hbw' : w.heap.size ≤ V.heap.size + 1 := Nat.le_succ_of_le HV.out.size
      have BV' := Lib.hid (show V.heap.size + 1 < V2.heap.size by rw [hz]; omega)
      clear hm hR hT hB BA hz
      go_upto_region 4 with (refine wpList_appendR rfl _ _ rfl ⟨V.heap.size, 0, none⟩ ⟨ab, ao, none⟩ n c cap rfl rfl HM.out ?_)
      try rw [hsz]
      obtain ⟨b, hbe⟩ : ∃ b, V.heap.size + 1 = b := ⟨_, rfl⟩
      rw [hbe] at RV' TV' hbw' BV' ⊢
      have RV := RV'
      have TV := TV'
      have BV := BV'
      have hbw := hbw'
      clear RV' TV' BV' hbw' hsz hbe HM
      go_wp2
      go_loopw [5] (fun i wr => ∃ k : Nat, 1 ≤ k ∧ (k ≤ n - 1 ∨ k = 1 ∧ n ≤ 2) ∧ i = .int .i64 (k : Int) ∧ Hid (RsAt wr (some ⟨b, 0, none⟩) (smTo L k)) ∧ Hid (wr.there b 0 (n * 2)) ∧ Hid (Below w.heap.size w wr) ∧ Hid (b < wr.heap.size)) (fun i _ => n - (intOf i).toNat)
      case atStart => exact ⟨1, by omega, by omega, rfl, Lib.hid (by rw [smTo_one L 1 (Nat.le_refl _)]; exact RV.out), TV, HV2, BV⟩
      case round =>
        obtain ⟨k, hk1, hk2, rfl, hR, hT, hB, hbz⟩ := hrel
        by_cases hlt : k + 1 < n
        · obtain ⟨j, hj⟩ : ∃ j, j + 1 = k := ⟨k - 1, by omega⟩
          obtain ⟨m, hm⟩ : ∃ m, k + 1 = m := ⟨_, rfl⟩
          have hki : (k : Int) < (n : Int) - 1 := by omega
          have hki2 : (k : Int) + 1 < (n : Int) := by omega
          have hjn : j < n := by omega
          have hkn : k < n := by omega
          have hmn : m < n := by omega
          obtain ⟨el, hel⟩ : ∃ e, L[j]? = some e := ⟨_, List.getElem?_eq_getElem (by rw [HN.out]; omega)⟩
          obtain ⟨e, he⟩ : ∃ e, L[k]? = some e := ⟨_, List.getElem?_eq_getElem (by rw [HN.out]; omega)⟩
          obtain ⟨er, her⟩ : ∃ e, L[m]? = some e := ⟨_, List.getElem?_eq_getElem (by rw [HN.out]; omega)⟩
          have PW := P0.out.keep hB.out
          obtain ⟨b0, o0, hbo, hr0⟩ := PW j el hel
          obtain ⟨b1, o1, hbo1, hr1⟩ := PW k e he
          obtain ⟨b2, o2, hbo2, hr2⟩ := PW m er her
          cases hbo; cases hbo1; cases hbo2
          have hlt0 : ab < w.heap.size := by
            obtain ⟨b3, o3, h3, hr3⟩ := P0.out j el hel
            cases h3
            exact World.block_lt_of_cell? w _ (hr3 0 _ rfl)
          have hne : ab ≠ b := by omega
          have HS : wr.drew.cell? ⟨ab, ao + j * 2 + 1, none⟩ = some (.int .i16 el.2) ∧ wr.drew.cell? ⟨ab, ao + k * 2 + 1, none⟩ = some (.int .i16 e.2) ∧ wr.drew.cell? ⟨ab, ao + m * 2 + 1, none⟩ = some (.int .i16 er.2) := ⟨hr0 1 _ rfl, hr1 1 _ rfl, hr2 1 _ rfl⟩
          have ht1 : wr.drew.there b (0 + k * 2 + 1) 1 := there_part (show wr.drew.there b 0 (n * 2) from hT.out) (by omega)
          have rl := HO.out el (List.mem_of_getElem? hel)
          have rm := HO.out e (List.mem_of_getElem? he)
          have rr := HO.out er (List.mem_of_getElem? her)
          have hmr := med3_rng (HO.out el (List.mem_of_getElem? hel)) (HO.out e (List.mem_of_getElem? he)) (HO.out er (List.mem_of_getElem? her))
          have hstep := smooth_step (wr := wr.drew) (v := med3 el.2 e.2 er.2) HN.out hk1 hkn hR.out hT.out he (by simp only [lvAt, show k - 1 = j by omega, hm, hel, her])
          rw [show k * 2 + 1 = 0 + k * 2 + 1 by omega] at hstep
          clear hr0 hr1 hr2 PW hel he her hlt0
          have HJ := Lib.hid hj
          have HMM := Lib.hid hm
          have HSTEP := Lib.hid hstep
          clear hstep
          go_wp2
          refine wp_region_plan (ops' := regOf Tryd.f24 7) (.take 0 (.take 1 (.take 2 (.take 3 (.take 4 (.take 5 (.take 6 (.take 7 (.take 8 (.take 9 (.take 10 (.take 11 (.take 12 (.take 13 (.take 14 (.take 15 (.take 16 (.take 17 (.take 18 (.take 19 (.take 20 (.take 21 (.run 22 (.take 23 (.take 24 (.take 25 (.run 26 .fin))))))))))))))))))))))))))) (fun w' => w'.cell? ⟨ab, ao + j * 2 + 1, none⟩ = some (.int .i16 el.2) ∧ w'.cell? ⟨ab, ao + k * 2 + 1, none⟩ = some (.int .i16 e.2) ∧ w'.cell? ⟨ab, ao + m * 2 + 1, none⟩ = some (.int .i16 er.2)) (by kernel_rfl) (by kernel_rfl) (by kernel_rfl) (by kernel_rfl) (by kernel_rfl) HS ?_
          refine plan_pure (some 20) (.slice (some ⟨b, 0, none⟩) n cap) (by kernel_rfl) (by kernel_rfl) (by kernel_rfl) (fun _ => (by kernel_rfl)) ?_
          refine plan_pure (some 21) (.int .i64 (k : Int)) (by kernel_rfl) (by kernel_rfl) (by kernel_rfl) (fun _ => (by kernel_rfl)) ?_
          refine plan_pure (some 22) (.slice (some ⟨ab, ao, none⟩) n c) (by kernel_rfl) (by kernel_rfl) (by kernel_rfl) (fun _ => (by kernel_rfl)) ?_
          refine plan_pure (some 23) (.int .i64 (k : Int)) (by kernel_rfl) (by kernel_rfl) (by kernel_rfl) (fun _ => (by kernel_rfl)) ?_
          refine plan_pure (some 24) (.int .i64 (j : Int)) (by kernel_rfl) (by kernel_rfl) (by kernel_rfl) (int_sub (ty := 3) (tz := 3) (p := .tmp 23) (q := .const (.int .i64 1)) (x := (k : Int)) (y := 1) (by kernel_rfl) (by kernel_rfl) (by kernel_rfl) (by omega) (by omega)) ?_
          refine plan_pure (some 25) (.pointer (some ⟨ab, ao + j * 2, none⟩)) (by kernel_rfl) (by kernel_rfl) (by kernel_rfl) (index_rd (T := 41) (n := n) (c := c) (x := .tmp 22) (y := .tmp 24) (by kernel_rfl) (.inl rfl) (by kernel_rfl) (by kernel_rfl) hjn) ?_
          refine plan_pure (some 26) (.pointer (some ⟨ab, ao + j * 2 + 1, none⟩)) (by kernel_rfl) (by kernel_rfl) (by kernel_rfl) (fun _ => (by kernel_rfl)) ?_
          refine plan_take (some 27) (.int .i16 el.2) (by kernel_rfl) (by kernel_rfl) (.inl ⟨(by kernel_rfl), fun w' hw' => load_cell (ty := 90) (x := .tmp 26) (b := ab) (o := ao + j * 2 + 1) (by kernel_rfl) (by kernel_rfl) Tryd.underlying90 rfl hw'.1⟩) ?_
          refine plan_pure (some 28) (.int .i64 el.2) (by kernel_rfl) (by kernel_rfl) (by kernel_rfl) (conv64 (x := .tmp 27) (by kernel_rfl) (by kernel_rfl) rl) ?_
          refine plan_pure (some 29) (.slice (some ⟨ab, ao, none⟩) n c) (by kernel_rfl) (by kernel_rfl) (by kernel_rfl) (fun _ => (by kernel_rfl)) ?_
          refine plan_pure (some 30) (.int .i64 (k : Int)) (by kernel_rfl) (by kernel_rfl) (by kernel_rfl) (fun _ => (by kernel_rfl)) ?_
          refine plan_pure (some 31) (.pointer (some ⟨ab, ao + k * 2, none⟩)) (by kernel_rfl) (by kernel_rfl) (by kernel_rfl) (index_rd (T := 41) (n := n) (c := c) (x := .tmp 29) (y := .tmp 30) (by kernel_rfl) (.inl rfl) (by kernel_rfl) (by kernel_rfl) hkn) ?_
          refine plan_pure (some 32) (.pointer (some ⟨ab, ao + k * 2 + 1, none⟩)) (by kernel_rfl) (by kernel_rfl) (by kernel_rfl) (fun _ => (by kernel_rfl)) ?_
          refine plan_take (some 33) (.int .i16 e.2) (by kernel_rfl) (by kernel_rfl) (.inl ⟨(by kernel_rfl), fun w' hw' => load_cell (ty := 90) (x := .tmp 32) (b := ab) (o := ao + k * 2 + 1) (by kernel_rfl) (by kernel_rfl) Tryd.underlying90 rfl hw'.2.1⟩) ?_
          refine plan_pure (some 34) (.int .i64 e.2) (by kernel_rfl) (by kernel_rfl) (by kernel_rfl) (conv64 (x := .tmp 33) (by kernel_rfl) (by kernel_rfl) rm) ?_
          refine plan_pure (some 35) (.slice (some ⟨ab, ao, none⟩) n c) (by kernel_rfl) (by kernel_rfl) (by kernel_rfl) (fun _ => (by kernel_rfl)) ?_
          refine plan_pure (some 36) (.int .i64 (k : Int)) (by kernel_rfl) (by kernel_rfl) (by kernel_rfl) (fun _ => (by kernel_rfl)) ?_
          refine plan_pure (some 37) (.int .i64 (m : Int)) (by kernel_rfl) (by kernel_rfl) (by kernel_rfl) (int_add (ty := 3) (tz := 3) (p := .tmp 36) (q := .const (.int .i64 1)) (x := (k : Int)) (y := 1) (by kernel_rfl) (by kernel_rfl) (by kernel_rfl) (by omega) (by omega)) ?_
          refine plan_pure (some 38) (.pointer (some ⟨ab, ao + m * 2, none⟩)) (by kernel_rfl) (by kernel_rfl) (by kernel_rfl) (index_rd (T := 41) (n := n) (c := c) (x := .tmp 35) (y := .tmp 37) (by kernel_rfl) (.inl rfl) (by kernel_rfl) (by kernel_rfl) hmn) ?_
          refine plan_pure (some 39) (.pointer (some ⟨ab, ao + m * 2 + 1, none⟩)) (by kernel_rfl) (by kernel_rfl) (by kernel_rfl) (fun _ => (by kernel_rfl)) ?_
          refine plan_take (some 40) (.int .i16 er.2) (by kernel_rfl) (by kernel_rfl) (.inl ⟨(by kernel_rfl), fun w' hw' => load_cell (ty := 90) (x := .tmp 39) (b := ab) (o := ao + m * 2 + 1) (by kernel_rfl) (by kernel_rfl) Tryd.underlying90 rfl hw'.2.2⟩) ?_
          refine plan_pure (some 41) (.int .i64 er.2) (by kernel_rfl) (by kernel_rfl) (by kernel_rfl) (conv64 (x := .tmp 40) (by kernel_rfl) (by kernel_rfl) rr) ?_
          refine plan_call (some 42) 65 #[.int .i64 el.2, .int .i64 e.2, .int .i64 er.2] (by kernel_rfl) (by kernel_rfl) (by kernel_rfl) (by kernel_rfl) (Calls.mono (specMedian_any el.2 e.2 er.2 _) ?_)
          rintro _ _ ⟨rfl, rfl⟩
          refine ⟨_, rfl, HS, ?_⟩
          refine plan_pure (some 43) (.int .i16 (med3 el.2 e.2 er.2)) (by kernel_rfl) (by kernel_rfl) (by kernel_rfl) (conv16 (x := .tmp 42) (by kernel_rfl) (by kernel_rfl) hmr) ?_
          refine plan_pure (some 44) (.pointer (some ⟨b, 0 + k * 2, none⟩)) (by kernel_rfl) (by kernel_rfl) (by kernel_rfl) (index_rd (T := 41) (n := n) (c := cap) (x := .tmp 20) (y := .tmp 21) (by kernel_rfl) (.inl rfl) (by kernel_rfl) (by kernel_rfl) hkn) ?_
          refine plan_pure (some 45) (.pointer (some ⟨b, 0 + k * 2 + 1, none⟩)) (by kernel_rfl) (by kernel_rfl) (by kernel_rfl) (fun _ => (by kernel_rfl)) ?_
          refine plan_do none undef (wr.drew.setCell ⟨b, 0 + k * 2 + 1, none⟩ (.int .i16 (med3 el.2 e.2 er.2))) (by kernel_rfl) (by kernel_rfl) (by kernel_rfl) (.inr ⟨store_i16 (x := .tmp 45) (y := .tmp 43) (b := b) (o := 0 + k * 2 + 1) (v := med3 el.2 e.2 er.2) (by kernel_rfl) (by kernel_rfl) (by kernel_rfl) ht1, rfl⟩) ⟨cell_apart HS.1 hne, cell_apart HS.2.1 hne, cell_apart HS.2.2 hne⟩ ?_
          refine plan_end (NoPanic.normal ?_)
          have hst := HSTEP.out
          have hb9 : Below w.heap.size w (wr.drew.setCell ⟨b, 0 + k * 2 + 1, none⟩ (.int .i16 (med3 el.2 e.2 er.2))) := (hB.out.drew).setCell (p := ⟨b, 0 + k * 2 + 1, none⟩) hbw _
          have hz9 : b < (wr.drew.setCell ⟨b, 0 + k * 2 + 1, none⟩ (.int .i16 (med3 el.2 e.2 er.2))).heap.size := by simpa using hbz.out
          obtain ⟨V9, hV9⟩ : ∃ V9, wr.drew.setCell ⟨b, 0 + k * 2 + 1, none⟩ (.int .i16 (med3 el.2 e.2 er.2)) = V9 := ⟨_, rfl⟩
          rw [hV9] at hst hb9 hz9 ⊢
          have H9 := Lib.hid hst
          have B9 := Lib.hid hb9
          have Z9 := Lib.hid hz9
          clear hst hb9 hz9 hV9 HSTEP
          simp only [Act.put, List.setIfInBounds_toArray, List.set_cons_zero, List.set_cons_succ]
          go_wp2
          go_roundw
          case rel => exact ⟨k + 1, by omega, by omega, by go_num, Lib.hid H9.out.1, Lib.hid H9.out.2, B9, Z9⟩
          case measure => simp [intOf]; omega
        · have hki : ¬ (k : Int) < (n : Int) - 1 := by omega
          have hki2 : ¬ (k : Int) + 1 < (n : Int) := by omega
          have hend := smTo_end L (k := k) HN.out hk1 (by omega)
          have HE3 := Lib.hid (show smV L = smTo L k ∧ tieK L = 0 by rw [HE.out.1, hend]; exact ⟨rfl, HE.out.2⟩)
          clear hend
          go_wp2
          go_ret2
          exact ⟨_, ⟨cap, by rw [HE3.out.1, HE3.out.2, smTo_len, HN.out]; rfl⟩, (by rw [HE3.out.1]; exact hR.out), (fun _ => ⟨b, rfl, hbw, hbz.out, by first | exact hT.out | (rw [HN.out]; exact hT.out)⟩), hB.out⟩
end Go.Proofs.YthklihenghnaeabDoor
