/- SharesOfOwners, on both sides. Condition: the list is short, and its numbers fit. -/
import Derived.Test.YtbiknpfcemfoeaaAre
import Derived.Test.YtbiknpfcemfoeaaArr
namespace Go.Proofs.Ytbiknpfcemfoeaa
open Go Go.RowKit
set_option linter.unusedSimpArgs false
set_option linter.unusedVariables false
/-- An array of 8 whole numbers. -/
def Ef (f : Nat → Int) : Array Value := ((List.range 8).map fun i => Value.int .i64 (f i)).toArray
theorem Ef_size (f : Nat → Int) : (Ef f).size = 8 := by simp [Ef]
theorem Ef_at (f : Nat → Int) (i : Nat) (h : i < 8) : (Ef f)[i]? = some (.int .i64 (f i)) := by
  simp [Ef, h]
theorem Ef_congr {f g : Nat → Int} (h : ∀ i, i < 8 → f i = g i) : Ef f = Ef g := by
  have : (List.range 8).map (fun i => Value.int .i64 (f i)) = (List.range 8).map (fun i => Value.int .i64 (g i)) :=
    List.map_congr_left fun i hi => by rw [h i (by simpa using hi)]
  unfold Ef
  rw [this]
theorem Ef_put (f : Nat → Int) (k : Nat) (b : Int) : (Ef f).setIfInBounds k (.int .i64 b) = Ef (fun i => if i = k then b else f i) := by
  apply Array.ext
  · simp [Ef]
  · intro i h1 h2
    rw [Array.getElem_setIfInBounds]
    · simp only [Ef, List.getElem_toArray, List.getElem_map, List.getElem_range]
      by_cases e : k = i
      · subst e; simp
      · rw [if_neg e, if_neg (fun h => e h.symm)]
    · simpa [Ef] using h2
theorem Ef_length (f : Nat → Int) : (Ef f).toList.length = 8 := by simp [Ef]
theorem Ef_one (f : Nat → Int) : (Ef f).all (·.oneCell') = true := by
  refine all_oneCell_toArray fun v hv => ?_
  simp only [List.mem_map] at hv
  obtain ⟨i, _, rfl⟩ := hv
  rfl
theorem index_E8 {op : Oper} {a : Act} {x y : Operand} {b o k : Nat} (ho : op.op = .indexAddr 39 x y) (hx : a.eval x = .pointer (some ⟨b, o, none⟩)) (hy : a.eval y = .int .i8 k) (hk : k < 8) (w : World) :
    (execOp a.eval op).run Try.prog w = .ok (.value (.pointer (some ⟨b, o + k, none⟩))) w := by
  unfold execOp
  simp only [ho, hx, hy]
  go_simp
  intro h
  omega
theorem index_E {op : Oper} {a : Act} {x y : Operand} {b o k : Nat} (ho : op.op = .indexAddr 39 x y) (hx : a.eval x = .pointer (some ⟨b, o, none⟩)) (hy : a.eval y = .int .i64 k) (hk : k < 8) (w : World) :
    (execOp a.eval op).run Try.prog w = .ok (.value (.pointer (some ⟨b, o + k, none⟩))) w := by
  unfold execOp
  simp only [ho, hx, hy]
  go_simp
  intro h
  omega

theorem infoE : (Try.prog.info? 39).map (·.size) = some 8 := by kernel_rfl
theorem zeroE : (Try.prog.info? 39).map (fun i => (i.zero, i.size)) = some (some (.agg (Ef zI)), 8) := by kernel_rfl
theorem Ef_cell {w : World} {b o : Nat} {f : Nat → Int} (h : w.rangeAt b o (Ef f).toList) (k : Nat) (hk : k < 8) : w.cell? ⟨b, o + k, none⟩ = some (.int .i64 (f k)) := h k _ (by simpa using Ef_at f k hk)
theorem new_thereE (t : TypeId) (w : World) : (w.alloc (.cells (Ef zI) t)).there w.heap.size 0 8 := there_row (heap_alloc_last w _) (Ef_size zI)
theorem stored_E (t : TypeId) (W : World) : ∃ X, (W.alloc (.cells (Ef zI) t)).setCells W.heap.size 0 (Ef zI).toList = X ∧ X.heap.size = W.heap.size + 1 ∧ X.rangeAt W.heap.size 0 (Ef zI).toList ∧ X.there W.heap.size 0 8 ∧ Below W.heap.size W X := by
  have hth := new_thereE t W
  exact ⟨_, rfl, by rw [sizeS]; simp, World.rangeAt_setCells_same _ _ _ _ (by rw [Ef_length]; exact hth), World.there_setCells hth _ _ _, below_setCells _ (Nat.le_refl _) _ _ _ ((Below.refl _ _).alloc (Nat.le_refl _) _)⟩
theorem Ef_upd {W : World} {b k : Nat} {x : Int} {f : Nat → Int} (h : W.rangeAt b 0 (Ef f).toList) (hk : k < 8) (ht : (W.cell? ⟨b, k, none⟩).isSome = true) :
    (W.setCell ⟨b, k, none⟩ (.int .i64 x)).rangeAt b 0 (Ef (fun i => if i = k then x else f i)).toList := fun j v hv => by
  have hj : j < 8 := by have := (List.getElem?_eq_some_iff.1 hv).1; rwa [Ef_length] at this
  rw [Nat.zero_add]
  have hv2 : v = .int .i64 (if j = k then x else f j) := by
    have := Ef_at (fun i => if i = k then x else f i) j hj
    rw [Array.getElem?_toList, this] at hv
    exact (Option.some.inj hv).symm
  subst hv2
  by_cases e : j = k
  · subst e
    rw [if_pos rfl]
    exact World.cell?_setCell_same' _ _ _ ht
  · rw [if_neg e, cell_other (fun h => e (by injection h with _ h2; exact h2.symm))]
    have := h j (.int .i64 (f j)) (by rw [Array.getElem?_toList]; exact Ef_at f j hj)
    rwa [Nat.zero_add] at this
theorem there1 {w : World} {b n k : Nat} (h : w.there b 0 n) (hk : k < n) : w.there b (0 + k) 1 := fun j hj => by
  have := h k hk
  have e : 0 + k + j = 0 + k := by omega
  rw [e]; exact this
theorem thereQ {w w' : World} {b n : Nat} (h : w.there b 0 n) (hq : Quiet w w') : w'.there b 0 n := by
  obtain ⟨m, rfl⟩ := hq
  exact h
theorem thereSet {W : World} {b b' k n : Nat} {v : Value} (h : W.there b 0 n) : (W.setCell ⟨b', k, none⟩ v).there b 0 n := World.there_setCells h b' k [v]

/-- The sums of rates. -/
def shStep (f : Nat → Int) (e : P3) : Nat → Int := fun i => if i = e.1.toNat then f i + e.2.2 else f i
def shF (L : List P3) : Nat → Int := L.foldl shStep zI
theorem shF_snoc (L : List P3) (e : P3) : shF (L ++ [e]) = shStep (shF L) e := by simp [shF]
theorem shF_take {L : List P3} {k : Nat} {e : P3} (h : L[k]? = some e) : shF (L.take (k + 1)) = shStep (shF (L.take k)) e := by
  rw [List.take_add_one, h]; exact shF_snoc _ _
theorem shF_le {L : List P3} (h : ∀ e ∈ L, 0 ≤ e.2.2 ∧ e.2.2 ≤ 400) : ∀ k, k ≤ L.length → ∀ i, 0 ≤ shF (L.take k) i ∧ shF (L.take k) i ≤ 400 * (k : Int)
  | 0, _, i => by simp [shF, zI]
  | k + 1, hk, i => by
    obtain ⟨e, he⟩ : ∃ e, L[k]? = some e := ⟨_, List.getElem?_eq_getElem (by omega)⟩
    rw [shF_take he]
    have h1 := shF_le h k (by omega) i
    have h2 := h e (List.mem_of_getElem? he)
    unfold shStep
    split
    · omega
    · omega
/-- Are all permits as they should be? -/
def shareB (L : List P3) : Bool := decide (L.length ≤ 6) && L.all fun x => ownB x && rateB x
def shareV (L : List P3) : Value := if shareB L = true then .tuple #[.agg (Ef (shF L)), .int .i64 0] else .tuple #[.agg (Ef zI), .int .i64 1]

set_option maxRecDepth 100000 in
set_option maxHeartbeats 4000000 in
theorem l00InP (x y z : Int) (w : World) : Calls Try.prog 35 #[.int .i64 x, .int .i64 y, .int .i64 z] w fun e w' => e = .returned (.bool (decide (y ≤ x) && decide (x ≤ z))) ∧ w' = w := by
  by_cases h1 : y ≤ x
  · by_cases h2 : x ≤ z
    · rw [show (decide (y ≤ x) && decide (x ≤ z)) = true by simp [h1, h2]]
      go_enter Try.func35, Try.ntmps35
      go_wp2
      go_ret
      exact ⟨rfl, rfl⟩
    · rw [show (decide (y ≤ x) && decide (x ≤ z)) = false by simp [h2]]
      go_enter Try.func35, Try.ntmps35
      go_wp2
      go_ret
      exact ⟨rfl, rfl⟩
  · rw [show (decide (y ≤ x) && decide (x ≤ z)) = false by simp [h1]]
    go_enter Try.func35, Try.ntmps35
    go_wp2
    go_ret
    exact ⟨rfl, rfl⟩
/-- The numbers fit. -/
def okP3 (e : P3) : Prop := (-128 ≤ e.1 ∧ e.1 ≤ 127) ∧ (-128 ≤ e.2.1 ∧ e.2.1 ≤ 127) ∧ (-32768 ≤ e.2.2 ∧ e.2.2 ≤ 32767)
set_option maxRecDepth 100000 in
set_option maxHeartbeats 4000000 in
theorem l07Rates_any (p : Option Addr) (c : Nat) (L : List P3) (hL : L.length ≤ 1048576) (hO : ∀ e ∈ L, okP3 e) (w : World) (hp : PsAt w p L) :
    Calls Try.prog 34 #[.slice p L.length c] w fun e w' => e = .returned (.bool (decide (L.length ≤ 6) && L.all rateB)) ∧ w' = w := by
  have P0 := Lib.hid hp
  have HO := Lib.hid hO
  obtain ⟨n, hn⟩ : ∃ n, L.length = n := ⟨_, rfl⟩
  have HN := Lib.hid hn
  rw [hn] at hL ⊢
  clear hp hn hO
  go_enter Try.func34, Try.ntmps34
  go_upto_region 2 with (fail)
  go_loopw [3] (fun i wr => ∃ k : Nat, k ≤ n ∧ i = .int .i64 k ∧ Hid ((L.take k).all rateB = true) ∧ wr = w) (fun i _ => n - (intOf i).toNat)
  case atStart => exact ⟨0, by omega, rfl, Lib.hid (by simp), rfl⟩
  case round =>
    obtain ⟨k, hk, rfl, HA, rfl⟩ := hrel
    by_cases hlt : k < n
    · have hki : (k : Int) < n := by omega
      obtain ⟨x, hx⟩ : ∃ x, L[k]? = some x := ⟨_, List.getElem?_eq_getElem (by rw [HN.out]; exact hlt)⟩
      obtain ⟨b, o, rfl, hr⟩ := P0.out k x hx
      have c2 : wr.cell? ⟨b, o + k * 3 + 2, none⟩ = some (.int .i16 x.2.2) := hr 2 _ rfl
      have hr16 := (HO.out x (List.mem_of_getElem? hx)).2.2
      have HT : (L.take (k + 1)).all rateB = ((L.take k).all rateB && rateB x) := by
        rw [List.take_add_one, hx]; simp
      rw [HA.out, Bool.true_and] at HT
      cases hb : rateB x
      · have HF := Lib.hid (show L.all rateB = false by
          rw [List.all_eq_false]
          exact ⟨x, List.mem_of_getElem? hx, by rw [hb]; decide⟩)
        have HB := Lib.hid (show (decide (0 ≤ x.2.2) && decide (x.2.2 ≤ 400)) = false from hb)
        clear hr hx HT hb
        go_wp2_with (go_at_call 35; refine (l00InP x.2.2 0 400 _).mono ?_; rintro e V ⟨rfl, hV⟩; rw [hV, HB.out]; clear hV)
        go_ret
        exact ⟨by rw [HF.out, Bool.and_false]; rfl, rfl⟩
      · rw [hb] at HT
        have HT2 := Lib.hid HT
        have HB := Lib.hid (show (decide (0 ≤ x.2.2) && decide (x.2.2 ≤ 400)) = true from hb)
        clear hr hx HT hb
        go_wp2_with (go_at_call 35; refine (l00InP x.2.2 0 400 _).mono ?_; rintro e V ⟨rfl, hV⟩; rw [hV, HB.out]; clear hV)
        go_roundw
        case rel => exact ⟨k + 1, by omega, by go_num, HT2, trivial⟩
        case measure => simp [intOf]; omega
    · obtain rfl : k = n := by omega
      have HF := Lib.hid (show L.all rateB = true by
        have := HA.out
        rwa [← HN.out, List.take_length] at this)
      go_wp2
      go_ret
      exact ⟨by rw [HF.out, Bool.and_true, ← show decide ((k : Int) ≤ 6) = decide (k ≤ 6) from decide_eq_decide.2 (by omega)]; rfl, rfl⟩

theorem all_and2 (f g : P3 → Bool) : ∀ L : List P3, (L.all f && L.all g) = L.all fun x => g x && f x
  | [] => rfl
  | x :: L => by
    have h := all_and2 f g L
    simp only [List.all_cons]
    rw [← h]
    cases f x <;> cases g x <;> simp
theorem shareB_of {L : List P3} (h : shareB L = true) : L.length ≤ 6 ∧ ∀ e ∈ L, (0 ≤ e.1 ∧ e.1 ≤ 7) ∧ (0 ≤ e.2.2 ∧ e.2.2 ≤ 400) := by
  unfold shareB at h
  rw [Bool.and_eq_true] at h
  refine ⟨by simpa using h.1, fun e he => ?_⟩
  have := List.all_eq_true.1 h.2 e he
  unfold ownB rateB at this
  simp only [Bool.and_eq_true, decide_eq_true_eq] at this
  exact this
/-- A sum more, in the block. -/
theorem sh_put {W : World} {N : Nat} {L : List P3} {k j : Nat} {xc r : Int} (h : W.rangeAt N 0 (Ef (shF (L.take k))).toList) (ht : W.there N 0 8) (hj : j < 8) (hx : L[k]? = some ((j : Int), xc, r)) :
    (W.setCell ⟨N, 0 + j, none⟩ (.int .i64 (shF (L.take k) j + r))).rangeAt N 0 (Ef (shF (L.take (k + 1)))).toList := by
  have e : (fun i => if i = j then shF (L.take k) j + r else shF (L.take k) i) = shF (L.take (k + 1)) := by
    rw [shF_take hx]
    funext i
    unfold shStep
    rw [Int.toNat_natCast]
    by_cases h : i = j
    · subst h; simp
    · rw [if_neg h, if_neg h]
  rw [← e, Nat.zero_add]
  exact Ef_upd h hj (by have := (ht j hj).1; rwa [Nat.zero_add] at this)
theorem take_all_no {f : P3 → Bool} {L : List P3} {k : Nat} (h : (L.take k).all f = false) : L.all f = false := by
  rw [List.all_eq_false] at h ⊢
  obtain ⟨x, hx, hf⟩ := h
  exact ⟨x, List.mem_of_mem_take hx, hf⟩
theorem there_belowN {w w' : World} {b n B : Nat} (h : w.there b 0 n) (hb : b < B) (hB : Below B w w') : w'.there b 0 n := fun j hj => by
  obtain ⟨h1, h2⟩ := h j hj
  exact ⟨by rw [hB.cell (p := ⟨b, 0 + j, none⟩) hb]; exact h1, by rw [hB.frozen (p := ⟨b, 0 + j, none⟩) hb]; exact h2⟩
theorem results_rt {P : Program} {fn : Func} {p q : Tmp} {ty : TypeId} (h : fn.results = #[.cell p ty, .tmp q]) (tmps : Array Value) (w : World) (b : Nat) (cs : List Value) (x : Value) {d : TypeDesc}
    (hp : tmps.getD p undef = .pointer (some ⟨b, 0, none⟩)) (hq : tmps.getD q undef = x) (hc : w.rangeAt b 0 cs)
    (hu : P.underlying ty = some d) (hd : d.isRow = true) (hi : (P.info? ty).map (·.size) = some cs.length) :
    (results fn tmps).run P w = .ok (.tuple #[.agg cs.toArray, x]) w := by
  have hp' : tmps[p]?.getD undef = .pointer (some ⟨b, 0, none⟩) := by simpa using hp
  have hq' : tmps[q]?.getD undef = x := by simpa using hq
  simp [results, h, hp', hq', asAddr, run_loadVar_mid w b 0 ty cs d hc hu hd hi]
set_option maxRecDepth 100000 in
set_option maxHeartbeats 4000000 in
theorem specShare_any (p : Option Addr) (c : Nat) (L : List P3) (hL : L.length ≤ 1048576) (hO : ∀ e ∈ L, okP3 e) (w : World) (hp : PsAt w p L) :
    Calls Try.prog 18 #[.slice p L.length c] w fun e w' => e = .returned (shareV L) ∧ Below w.heap.size w w' := by
  have hz := (zero_of_info zeroE).1
  obtain ⟨W0, hW0⟩ : ∃ W0, w.alloc (.cells (Ef zI) 39) = W0 := ⟨_, rfl⟩
  have z0 : W0.heap.size = w.heap.size + 1 := by rw [← hW0]; simp
  have b0 : Below w.heap.size w W0 := by rw [← hW0]; exact (Below.refl _ _).alloc (Nat.le_refl _) _
  have t0 : W0.there w.heap.size 0 8 := by rw [← hW0]; exact new_thereE _ _
  have hth := new_thereE 39 W0
  obtain ⟨X, hX, zX, rX, tX, bX⟩ := stored_E 39 W0
  have HBX := Lib.hid (b0.trans (bX.mono (by omega)))
  have HRX := Lib.hid (show X.rangeAt (w.heap.size + 1) 0 (Ef zI).toList by rw [← z0]; exact rX)
  have HTX := Lib.hid (show X.there (w.heap.size + 1) 0 8 by rw [← z0]; exact tX)
  have HT0 := Lib.hid (show X.there w.heap.size 0 8 from there_keep t0 (by omega) bX)
  have HZX := Lib.hid (show X.heap.size = w.heap.size + 1 + 1 by omega)
  have Z0 := Lib.hid z0
  have PX := Lib.hid (hp.keep HBX.out)
  have PW := Lib.hid hp
  clear rX tX bX zX b0 t0 hp
  rw [z0] at hth hX
  have TR := Lib.hid (fun V (h : PsAt V p L) => l07Rates_any p c L hL hO V h)
  have HO := Lib.hid hO
  obtain ⟨n, hn⟩ : ∃ n, L.length = n := ⟨_, rfl⟩
  have HN := Lib.hid hn
  rw [hn] at hL TR ⊢
  have HBV := Lib.hid (show ∀ b1 b2, decide (n ≤ 6) = b1 → L.all rateB = b2 → shareB L = (b1 && b2 && L.all ownB) from fun b1 b2 h1 h2 => by
    unfold shareB
    rw [HN.out, h1, ← h2, Bool.and_assoc]
    congr 1
    exact (all_and2 rateB ownB L).symm)
  clear hn hO
  go_enter Try.func18, Try.ntmps18
  go_upto_region 1 with (fail)
  try rw [hW0]
  go_upto_region 4 with (first | (go_at_call 34; refine (TR.out _ PX.out).mono ?_; rintro e V ⟨rfl, hV⟩; rw [hV]; clear hV) | refine stS 39 rfl ?_; refine wpList_store_mid rfl 39 _ _ rfl _ 0 (Ef zI) rfl rfl (by rw [Ef_size]; with_reducible exact hth) (by rw [Ef_size]; exact infoE) (Ef_one _) ?_; rw [hX]; clear hX hth)
  clear hW0 TR hz
  obtain ⟨Q, hQ⟩ : ∃ Q, (decide (n ≤ 6) && L.all rateB) = Q := ⟨_, rfl⟩
  have HQ := Lib.hid (show shareB L = (Q && L.all ownB) by rw [← hQ]; exact HBV.out _ _ rfl rfl)
  rw [hQ]
  clear hQ HBV
  go_loopw [5, 6] (fun q i wr => ∃ (k : Nat) (b : Bool), k ≤ n ∧ i = .int .i64 k ∧ q = .bool b ∧ Hid ((Q && (L.take k).all ownB) = b) ∧ wr = X) (fun _ i _ => n - (intOf i).toNat)
  case atStart => exact ⟨0, Q, by omega, rfl, rfl, Lib.hid (by simp), rfl⟩
  case round =>
    obtain ⟨k, b, hk, rfl, rfl, HA, hww⟩ := hrel
    have hww' := hww.symm
    clear hww
    subst hww'
    cases b
    · have HF := Lib.hid (show shareV L = .tuple #[.agg (Ef zI), .int .i64 1] by
        have h1 := HA.out
        have : shareB L = false := by
          rw [HQ.out]
          cases hq : Q
          · rfl
          · rw [hq, Bool.true_and] at h1
            rw [Bool.true_and]
            exact take_all_no h1
        unfold shareV
        rw [this]; rfl)
      have rF := HRX.out
      have tR := HT0.out
      have HW := Lib.hid (below_setCells (B := w.heap.size) (a := w) w.heap.size (Nat.le_refl _) (Ef zI).toList 0 _ HBX.out)
      have RW := Lib.hid (World.rangeAt_setCells_same X w.heap.size 0 (Ef zI).toList (by rw [Ef_length]; exact tR))
      by_cases hlt : (k : Int) < n
      · go_wp2_with (first | (refine ldS 39 rfl ?_; refine wpList_load_mid rfl 39 _ rfl (w.heap.size + 1) 0 rfl (Ef zI).toList _ rF Try.underlying39 rfl (by rw [Ef_length]; exact infoE) ?_; try rw [Array.toArray_toList]) | (refine stS 39 rfl ?_; refine wpList_store_mid rfl 39 _ _ rfl w.heap.size 0 (Ef zI) rfl rfl (by rw [Ef_size]; with_reducible exact tR) (by rw [Ef_size]; exact infoE) (Ef_one _) ?_))
        rw [show Value.agg (Ef zI) = .agg (Ef zI).toList.toArray by rw [Array.toArray_toList]] at HF
        refine bodyPost_ret (results_rt rfl _ _ _ (Ef zI).toList _ rfl rfl RW.out Try.underlying39 rfl (by rw [Ef_length]; exact infoE)) rfl ⟨by rw [HF.out]; rfl, HW.out⟩
      · go_wp2_with (first | (refine ldS 39 rfl ?_; refine wpList_load_mid rfl 39 _ rfl (w.heap.size + 1) 0 rfl (Ef zI).toList _ rF Try.underlying39 rfl (by rw [Ef_length]; exact infoE) ?_; try rw [Array.toArray_toList]) | (refine stS 39 rfl ?_; refine wpList_store_mid rfl 39 _ _ rfl w.heap.size 0 (Ef zI) rfl rfl (by rw [Ef_size]; with_reducible exact tR) (by rw [Ef_size]; exact infoE) (Ef_one _) ?_))
        rw [show Value.agg (Ef zI) = .agg (Ef zI).toList.toArray by rw [Array.toArray_toList]] at HF
        refine bodyPost_ret (results_rt rfl _ _ _ (Ef zI).toList _ rfl rfl RW.out Try.underlying39 rfl (by rw [Ef_length]; exact infoE)) rfl ⟨by rw [HF.out]; rfl, HW.out⟩
    by_cases hlt : k < n
    · have hki : (k : Int) < n := by omega
      obtain ⟨x, hx⟩ : ∃ x, L[k]? = some x := ⟨_, List.getElem?_eq_getElem (by rw [HN.out]; exact hlt)⟩
      obtain ⟨b, o, rfl, hr⟩ := PX.out k x hx
      have c0 : X.cell? ⟨b, o + k * 3, none⟩ = some (.int .i8 x.1) := hr 0 _ rfl
      have h8 := (HO.out x (List.mem_of_getElem? hx)).1
      have HT : (Q && (L.take (k + 1)).all ownB) = ((Q && (L.take k).all ownB) && ownB x) := by
        rw [List.take_add_one, hx]; simp [Bool.and_assoc]
      rw [HA.out, Bool.true_and] at HT
      have HT2 := Lib.hid HT
      obtain ⟨y, hy⟩ : ∃ y, ownB x = y := ⟨_, rfl⟩
      rw [hy] at HT2
      have HB := Lib.hid (show (decide (0 ≤ x.1) && decide (x.1 ≤ 7)) = y from hy)
      clear hr hx HT hy
      go_wp2_with (go_at_call 35; refine (l00InP x.1 0 7 _).mono ?_; rintro e V ⟨rfl, hV⟩; rw [hV, HB.out]; clear hV)
      go_roundw
      case rel => exact ⟨k + 1, y, by omega, by go_num, rfl, HT2, trivial⟩
      case measure => simp [intOf]; omega
    · obtain rfl : k = n := by omega
      have HS := Lib.hid (show shareB L = true by rw [HQ.out]; have := HA.out; rwa [← HN.out, List.take_length] at this)
      have HOK := Lib.hid (shareB_of HS.out)
      clear HA hk hlt
      go_upto_region 10 with (fail)
      go_loopw [7] (fun i wr => ∃ k2 : Nat, k2 ≤ k ∧ i = .int .i64 k2 ∧ Hid (wr.rangeAt (w.heap.size + 1) 0 (Ef (shF (L.take k2))).toList) ∧ Hid (wr.there (w.heap.size + 1) 0 8) ∧ Hid (Below (w.heap.size + 1) X wr)) (fun i _ => k - (intOf i).toNat)
      case atStart => exact ⟨0, by omega, rfl, HRX, HTX, Lib.hid (Below.refl _ _)⟩
      case round =>
        obtain ⟨k2, hk2, rfl, HR, HT, HB2⟩ := hrel
        by_cases hlt2 : k2 < k
        · have hki2 : (k2 : Int) < k := by omega
          obtain ⟨x, hx⟩ : ∃ x, L[k2]? = some x := ⟨_, List.getElem?_eq_getElem (by rw [HN.out]; exact hlt2)⟩
          have hxm := List.mem_of_getElem? hx
          have hok := HOK.out.2 x hxm
          obtain ⟨xo, xc, r⟩ := x
          obtain ⟨j, rfl⟩ : ∃ j : Nat, xo = j := ⟨xo.toNat, by have := hok.1.1; simp only at this; omega⟩
          have hj8 : j < 8 := by have := hok.1.2; simp only at this; omega
          have hr16 := Lib.hid (show -32768 ≤ r ∧ r ≤ 32767 by have := hok.2; simp only at this; omega)
          have hbd := shF_le (L := L) (fun e he => (HOK.out.2 e he).2) k2 (by rw [HN.out]; omega) j
          have h6 := HOK.out.1
          have hsum := Lib.hid (show -9223372036854775808 ≤ shF (L.take k2) j + r ∧ shF (L.take k2) j + r ≤ 9223372036854775807 by have := hr16.out; have := HN.out; omega)
          have HWW := HBX.out
          have hlw : ∀ b o, p = some ⟨b, o, none⟩ → b < w.heap.size := fun b o e => by
            obtain ⟨b', o', e', hr'⟩ := PW.out k2 _ hx
            rw [e] at e'; cases e'
            exact World.block_lt_of_cell? w _ (hr' 0 _ rfl)
          have PL2 := PW.out.below hlw (HBX.out.trans (HB2.out.mono (by omega)))
          obtain ⟨b, o, rfl, hr⟩ := PL2 k2 _ hx
          have c0 : wr.cell? ⟨b, o + k2 * 3, none⟩ = some (.int .i8 (j : Int)) := hr 0 _ rfl
          have c2 : wr.cell? ⟨b, o + k2 * 3 + 2, none⟩ = some (.int .i16 r) := hr 2 _ rfl
          have cF := Ef_cell HR.out j hj8
          have HXX := Lib.hid hx
          obtain ⟨F, hF⟩ : ∃ F, shF (L.take k2) = F := ⟨_, rfl⟩
          have HFF := Lib.hid hF
          rw [hF] at cF hsum
          clear hr hx hok hbd PL2 hlw hF hxm h6 HWW
          go_upto_region 12 with (fail)
          refine wp_region_calm (ops' := regOf Try.f18 12) [0, 1, 2, 3, 4, 5, 6, 7, 8, 9, 10, 11, 12, 13, 14] [15] (.run 15 .fin) (Quiet wr) [(0, One (.slice (some ⟨b, o, none⟩) k c)), (1, One (.int .i64 (k2 : Int))), (2, One (.pointer (some ⟨b, o + k2 * 3, none⟩))), (3, One (.pointer (some ⟨b, o + k2 * 3, none⟩))), (4, One (.int .i8 (j : Int))), (5, One (.pointer (some ⟨w.heap.size + 1, 0 + j, none⟩))), (6, One (.int .i64 (F j))), (7, One (.slice (some ⟨b, o, none⟩) k c)), (8, One (.int .i64 (k2 : Int))), (9, One (.pointer (some ⟨b, o + k2 * 3, none⟩))), (10, One (.pointer (some ⟨b, o + k2 * 3 + 2, none⟩))), (11, One (.int .i16 r)), (12, One (.int .i64 r)), (13, One (.int .i64 (F j + r))), (14, One (.pointer (some ⟨w.heap.size + 1, 0 + j, none⟩)))] (by kernel_rfl) (by kernel_rfl) (by kernel_rfl) (by kernel_rfl) (by kernel_rfl) (by kernel_rfl) (by kernel_rfl) (by kernel_rfl) rfl ((Quiet.refl _).drewN 1) ?_
          refine calm_pure (some 36) (by kernel_rfl) (by kernel_rfl) (by kernel_rfl) (fun _ => by kernel_rfl) ?_
          refine calm_pure (some 37) (by kernel_rfl) (by kernel_rfl) (by kernel_rfl) (fun _ => by kernel_rfl) ?_
          refine calm_pure (some 38) (by kernel_rfl) (by kernel_rfl) (by kernel_rfl) (fun _ => index_pm (T := 42) (n := k) (c := c) (x := .tmp 36) (y := .tmp 37) (by kernel_rfl) (.inl rfl) (by kernel_rfl) (by kernel_rfl) hlt2 _) ?_
          refine calm_pure (some 39) (by kernel_rfl) (by kernel_rfl) (by kernel_rfl) (fun _ => by kernel_rfl) ?_
          refine calm_read (some 40) (by kernel_rfl) (by kernel_rfl) (by kernel_rfl) (fun w' hw' => load_cell (ty := 52) (x := .tmp 39) (b := b) (o := o + k2 * 3) (by kernel_rfl) (by kernel_rfl) Try.underlying52 rfl (kq c0 w' hw')) ?_
          refine calm_pure (some 41) (by kernel_rfl) (by kernel_rfl) (by kernel_rfl) (fun _ => index_E8 (x := .tmp 4) (y := .tmp 40) (o := 0) (by kernel_rfl) (by kernel_rfl) (by kernel_rfl) hj8 _) ?_
          refine calm_read (some 42) (by kernel_rfl) (by kernel_rfl) (by kernel_rfl) (fun w' hw' => load_cell (ty := 2) (x := .tmp 41) (b := w.heap.size + 1) (o := 0 + j) (by kernel_rfl) (by kernel_rfl) Try.underlying2 rfl (kq cF w' hw')) ?_
          refine calm_pure (some 43) (by kernel_rfl) (by kernel_rfl) (by kernel_rfl) (fun _ => by kernel_rfl) ?_
          refine calm_pure (some 44) (by kernel_rfl) (by kernel_rfl) (by kernel_rfl) (fun _ => by kernel_rfl) ?_
          refine calm_pure (some 45) (by kernel_rfl) (by kernel_rfl) (by kernel_rfl) (fun _ => index_pm (T := 42) (n := k) (c := c) (x := .tmp 43) (y := .tmp 44) (by kernel_rfl) (.inl rfl) (by kernel_rfl) (by kernel_rfl) hlt2 _) ?_
          refine calm_pure (some 46) (by kernel_rfl) (by kernel_rfl) (by kernel_rfl) (fun _ => by kernel_rfl) ?_
          refine calm_read (some 47) (by kernel_rfl) (by kernel_rfl) (by kernel_rfl) (fun w' hw' => load_cell (ty := 31) (x := .tmp 46) (b := b) (o := o + k2 * 3 + 2) (by kernel_rfl) (by kernel_rfl) Try.underlying31 rfl (kq c2 w' hw')) ?_
          refine calm_pure (some 48) (by kernel_rfl) (by kernel_rfl) (by kernel_rfl) (fun _ => cv16 (x := .tmp 47) (by kernel_rfl) (by kernel_rfl) hr16.out _) ?_
          refine calm_pure (some 49) (by kernel_rfl) (by kernel_rfl) (by kernel_rfl) (fun _ => addI (ty := 2) (tz := 2) (p := .tmp 42) (q := .tmp 48) (by kernel_rfl) (by kernel_rfl) (by kernel_rfl) rfl hsum.out _) ?_
          refine calm_pure (some 50) (by kernel_rfl) (by kernel_rfl) (by kernel_rfl) (fun _ => index_E8 (x := .tmp 4) (y := .tmp 40) (o := 0) (by kernel_rfl) (by kernel_rfl) (by kernel_rfl) hj8 _) ?_
          refine calm_end fun w' hw' => plan_do none undef (w'.setCell ⟨w.heap.size + 1, 0 + j, none⟩ (.int .i64 (F j + r))) (by kernel_rfl) (by kernel_rfl) (by kernel_rfl) (.inr ⟨stI64 (x := .tmp 50) (y := .tmp 49) (by kernel_rfl) (by kernel_rfl) (by kernel_rfl) (there1 (thereQ HT.out hw') hj8), rfl⟩) trivial (plan_end (Clean.normal ?_))
          simp only [Act.put, List.setIfInBounds_toArray, List.set_cons_zero, List.set_cons_succ]
          have y1 := sh_put (hw'.range HR.out) (thereQ HT.out hw') hj8 HXX.out
          rw [HFF.out] at y1
          have y2 := thereSet (b' := w.heap.size + 1) (k := 0 + j) (v := .int .i64 (F j + r)) (thereQ HT.out hw')
          have y3 : Below (w.heap.size + 1) X (w'.setCell ⟨w.heap.size + 1, 0 + j, none⟩ (.int .i64 (F j + r))) := (HB2.out.trans (hw'.below _)).setCell (p := ⟨w.heap.size + 1, 0 + j, none⟩) (Nat.le_refl _) _
          obtain ⟨Y, hY⟩ : ∃ Y, w'.setCell ⟨w.heap.size + 1, 0 + j, none⟩ (.int .i64 (F j + r)) = Y := ⟨_, rfl⟩
          rw [hY] at y1 y2 y3 ⊢
          have Y1 := Lib.hid y1
          have Y2 := Lib.hid y2
          have Y3 := Lib.hid y3
          clear y1 y2 y3 hY c0 c2 cF hw' HFF HXX hsum hr16
          go_wp2
          go_roundw
          case rel => exact ⟨k2 + 1, by omega, by go_num, Y1, Y2, Y3⟩
          case measure => simp [intOf]; omega
        · obtain rfl : k2 = k := by omega
          have rF := HR.out
          rw [← HN.out, List.take_length] at rF
          have tR := there_belowN HT0.out (Nat.lt_succ_self _) HB2.out
          have HBW := HBX.out.trans (HB2.out.mono (Nat.le_succ _))
          have HF := Lib.hid (show shareV L = .tuple #[.agg (Ef (shF L)).toList.toArray, .int .i64 0] by
            unfold shareV
            rw [HS.out, if_pos rfl, Array.toArray_toList])
          have HW := Lib.hid (below_setCells (B := w.heap.size) (a := w) w.heap.size (Nat.le_refl _) (Ef (shF L)).toList 0 _ HBW)
          have RW := Lib.hid (World.rangeAt_setCells_same wr w.heap.size 0 (Ef (shF L)).toList (by rw [Ef_length]; exact tR))
          go_wp2_with (first | (refine ldS 39 rfl ?_; refine wpList_load_mid rfl 39 _ rfl (w.heap.size + 1) 0 rfl (Ef (shF L)).toList _ rF Try.underlying39 rfl (by rw [Ef_length]; exact infoE) ?_; try rw [Array.toArray_toList]) | (refine stS 39 rfl ?_; refine wpList_store_mid rfl 39 _ _ rfl w.heap.size 0 (Ef (shF L)) rfl rfl (by rw [Ef_size]; with_reducible exact tR) (by rw [Ef_size]; exact infoE) (Ef_one _) ?_))
          refine bodyPost_ret (results_rt rfl _ _ _ (Ef (shF L)).toList _ rfl rfl RW.out Try.underlying39 rfl (by rw [Ef_length]; exact infoE)) rfl ⟨by rw [HF.out]; rfl, HW.out⟩

theorem pm_box (x : P3) (t : TypeId) (w : World) : ∃ V, w.alloc (.cells #[.int .i8 x.1, .int .i8 x.2.1, .int .i16 x.2.2] t) = V ∧ V.heap.size = w.heap.size + 1 ∧ V.cell? ⟨w.heap.size, 0, none⟩ = some (.int .i8 x.1) ∧ V.cell? ⟨w.heap.size, 2, none⟩ = some (.int .i16 x.2.2) ∧ Below w.heap.size w V :=
  ⟨_, rfl, by simp, cell_of_row _ _ 0 _ _ _ (heap_alloc_last w _), cell_of_row _ _ 2 _ _ _ (heap_alloc_last w _), (Below.refl _ _).alloc (Nat.le_refl _) _⟩
set_option maxRecDepth 100000 in
set_option maxHeartbeats 4000000 in
theorem implShare_any (p : Option Addr) (c : Nat) (L : List P3) (hL : L.length ≤ 1048576) (w : World) (hp : PsAt w p L) :
    Calls Try.prog 20 #[.slice p L.length c] w fun e w' => e = .returned (shareV L) ∧ Below w.heap.size w w' := by
  have hz := (zero_of_info zeroE).1
  obtain ⟨W0, hW0⟩ : ∃ W0, w.alloc (.cells (Ef zI) 39) = W0 := ⟨_, rfl⟩
  have z0 : W0.heap.size = w.heap.size + 1 := by rw [← hW0]; simp
  have b0 : Below w.heap.size w W0 := by rw [← hW0]; exact (Below.refl _ _).alloc (Nat.le_refl _) _
  have t0 : W0.there w.heap.size 0 8 := by rw [← hW0]; exact new_thereE _ _
  have hth := new_thereE 39 W0
  obtain ⟨X, hX, zX, rX, tX, bX⟩ := stored_E 39 W0
  have HBX := Lib.hid (b0.trans (bX.mono (by omega)))
  have HRX := Lib.hid (show X.rangeAt (w.heap.size + 1) 0 (Ef zI).toList by rw [← z0]; exact rX)
  have HTX := Lib.hid (show X.there (w.heap.size + 1) 0 8 by rw [← z0]; exact tX)
  have HT0 := Lib.hid (show X.there w.heap.size 0 8 from there_keep t0 (by omega) bX)
  have HZX := Lib.hid (show X.heap.size = w.heap.size + 1 + 1 by omega)
  have Z0 := Lib.hid z0
  have PX := Lib.hid (hp.keep HBX.out)
  have PW := Lib.hid hp
  clear rX tX bX zX b0 t0 hp
  rw [z0] at hth hX
  have TR := Lib.hid (are_S (fun x => ownB x && rateB x) p c L hL X PX.out (fun x _ V _ => shareOne x V))
  obtain ⟨n, hn⟩ : ∃ n, L.length = n := ⟨_, rfl⟩
  have HN := Lib.hid hn
  have HQ := Lib.hid (show shareB L = (decide (L.length ≤ 6) && L.all fun x => ownB x && rateB x) from rfl)
  rw [← HQ.out] at TR
  rw [hn] at hL TR ⊢
  clear hn
  cases hs : shareB L
  · rw [hs] at TR
    have HF := Lib.hid (show shareV L = .tuple #[.agg (Ef zI).toList.toArray, .int .i64 1] by unfold shareV; rw [hs, Array.toArray_toList]; rfl)
    clear hs HQ
    go_enter Try.func20, Try.ntmps20
    go_upto_region 1 with (fail)
    try rw [hW0]
    go_upto_region 3 with (first | (go_at_call 37; refine TR.out.mono ?_; rintro e V ⟨rfl, hV⟩; have HV := Lib.hid hV; clear hV) | refine stS 39 rfl ?_; refine wpList_store_mid rfl 39 _ _ rfl _ 0 (Ef zI) rfl rfl (by rw [Ef_size]; with_reducible exact hth) (by rw [Ef_size]; exact infoE) (Ef_one _) ?_; rw [hX]; clear hX hth)
    have rF := range_kept HRX.out (by have := HZX.out; omega) _ HV.out
    have tR := there_keep HT0.out (by have := HZX.out; omega) HV.out
    have HBW := HBX.out.trans (HV.out.mono HBX.out.size)
    have HW := Lib.hid (below_setCells (B := w.heap.size) (a := w) w.heap.size (Nat.le_refl _) (Ef zI).toList 0 _ HBW)
    have RW := Lib.hid (World.rangeAt_setCells_same V w.heap.size 0 (Ef zI).toList (by rw [Ef_length]; exact tR))
    clear HBW
    go_wp2_with (first | (refine ldS 39 rfl ?_; refine wpList_load_mid rfl 39 _ rfl (w.heap.size + 1) 0 rfl (Ef zI).toList _ rF Try.underlying39 rfl (by rw [Ef_length]; exact infoE) ?_; try rw [Array.toArray_toList]) | (refine stS 39 rfl ?_; refine wpList_store_mid rfl 39 _ _ rfl w.heap.size 0 (Ef zI) rfl rfl (by rw [Ef_size]; with_reducible exact tR) (by rw [Ef_size]; exact infoE) (Ef_one _) ?_))
    refine bodyPost_ret (results_rt rfl _ _ _ (Ef zI).toList _ rfl rfl RW.out Try.underlying39 rfl (by rw [Ef_length]; exact infoE)) rfl ⟨by rw [HF.out]; rfl, HW.out⟩
  · rw [hs] at TR
    have HOK := Lib.hid (shareB_of hs)
    have HF := Lib.hid (show shareV L = .tuple #[.agg (Ef (shF L)).toList.toArray, .int .i64 0] by unfold shareV; rw [hs, if_pos rfl, Array.toArray_toList])
    clear hs HQ
    go_enter Try.func20, Try.ntmps20
    go_upto_region 1 with (fail)
    try rw [hW0]
    go_upto_region 5 with (first | (go_at_call 37; refine TR.out.mono ?_; rintro e V ⟨rfl, hV⟩; have HV := Lib.hid hV; clear hV) | refine stS 39 rfl ?_; refine wpList_store_mid rfl 39 _ _ rfl _ 0 (Ef zI) rfl rfl (by rw [Ef_size]; with_reducible exact hth) (by rw [Ef_size]; exact infoE) (Ef_one _) ?_; rw [hX]; clear hX hth)
    have HRV := Lib.hid (range_kept HRX.out (by have := HZX.out; omega) _ HV.out)
    have HTV := Lib.hid (there_keep HTX.out (by have := HZX.out; omega) HV.out)
    have HT0V := Lib.hid (there_keep HT0.out (by have := HZX.out; omega) HV.out)
    have HBV := Lib.hid (HBX.out.trans (HV.out.mono HBX.out.size))
    have HZV := Lib.hid (show w.heap.size + 1 < V.heap.size by have := HZX.out; have := HV.out.size; omega)
    clear hW0 TR hz HRX HTX HT0 HBX HZX PX Z0 HV z0
    go_loopw [14] (fun i wr => ∃ k : Nat, k ≤ n ∧ i = .int .i64 k ∧ Hid (wr.rangeAt (w.heap.size + 1) 0 (Ef (shF (L.take k))).toList) ∧ Hid (wr.there (w.heap.size + 1) 0 8) ∧ Hid (Below (w.heap.size + 1) V wr)) (fun i _ => n - (intOf i).toNat)
    case atStart => exact ⟨0, by omega, rfl, HRV, HTV, Lib.hid (Below.refl _ _)⟩
    case round =>
      obtain ⟨k, hk, rfl, HR, HT, HB2⟩ := hrel
      by_cases hlt : k < n
      · have hki : (k : Int) < n := by omega
        obtain ⟨x, hx⟩ : ∃ x, L[k]? = some x := ⟨_, List.getElem?_eq_getElem (by rw [HN.out]; exact hlt)⟩
        have hxm := List.mem_of_getElem? hx
        have hok := HOK.out.2 x hxm
        obtain ⟨xo, xc, r⟩ := x
        obtain ⟨j, rfl⟩ : ∃ j : Nat, xo = j := ⟨xo.toNat, by have := hok.1.1; simp only at this; omega⟩
        have hj8 : j < 8 := by have := hok.1.2; simp only at this; omega
        have hr16 := Lib.hid (show -32768 ≤ r ∧ r ≤ 32767 by have := hok.2; simp only at this; omega)
        have hbd := shF_le (L := L) (fun e he => (HOK.out.2 e he).2) k (by rw [HN.out]; omega) j
        have h6 := HOK.out.1
        have hsum := Lib.hid (show -9223372036854775808 ≤ shF (L.take k) j + r ∧ shF (L.take k) j + r ≤ 9223372036854775807 by have := hr16.out; have := HN.out; omega)
        have hlw : ∀ b o, p = some ⟨b, o, none⟩ → b < w.heap.size := fun b o e => by
          obtain ⟨b', o', e', hr'⟩ := PW.out k _ hx
          rw [e] at e'; cases e'
          exact World.block_lt_of_cell? w _ (hr' 0 _ rfl)
        have PL2 := PW.out.below hlw (HBV.out.trans (HB2.out.mono (by omega)))
        obtain ⟨b, o, rfl, hr⟩ := PL2 k _ hx
        have c0 : wr.cell? ⟨b, o + k * 3, none⟩ = some (.int .i8 (j : Int)) := hr 0 _ rfl
        have c1 : wr.cell? ⟨b, o + k * 3 + 1, none⟩ = some (.int .i8 xc) := hr 1 _ rfl
        have c2 : wr.cell? ⟨b, o + k * 3 + 2, none⟩ = some (.int .i16 r) := hr 2 _ rfl
        have HXX := Lib.hid hx
        obtain ⟨F, hF⟩ : ∃ F, shF (L.take k) = F := ⟨_, rfl⟩
        have HFF := Lib.hid hF
        rw [hF] at hsum
        obtain ⟨wr2, hwr2, z2, d0, d2, b2⟩ := pm_box ((j : Int), xc, r) 70 wr
        have hsz := HB2.out.size
        have HR2 := Lib.hid (range_kept HR.out (by have := HZV.out; omega) _ b2)
        have HT2 := Lib.hid (there_keep HT.out (by have := HZV.out; omega) b2)
        have HB3 := Lib.hid (HB2.out.trans (b2.mono (by have := HZV.out; omega)))
        have cF := Ef_cell HR2.out j hj8
        rw [hF] at cF
        obtain ⟨q, hq⟩ : ∃ q, wr.heap.size = q := ⟨_, rfl⟩
        rw [hq] at d0 d2
        have hq1 : w.heap.size + 1 < q := by have := HZV.out; omega
        clear hr hx hok hbd PL2 hlw hF hxm h6 b2 HR HT HB2 hsz z2
        go_upto_region 7 with (fail)
        try rw [hwr2]
        clear hwr2 hq c0 c1 c2
        refine wp_region_calm (ops' := regOf Try.f20 7) [0, 1, 2, 3, 4, 5, 6, 7, 8] [9] (.run 9 .fin) (Quiet wr2) [(0, One (.pointer (some ⟨q, 0, none⟩))), (1, One (.int .i8 (j : Int))), (2, One (.pointer (some ⟨w.heap.size + 1, 0 + j, none⟩))), (3, One (.int .i64 (F j))), (4, One (.pointer (some ⟨q, 2, none⟩))), (5, One (.int .i16 r)), (6, One (.int .i64 r)), (7, One (.int .i64 (F j + r))), (8, One (.pointer (some ⟨w.heap.size + 1, 0 + j, none⟩)))] (by kernel_rfl) (by kernel_rfl) (by kernel_rfl) (by kernel_rfl) (by kernel_rfl) (by kernel_rfl) (by kernel_rfl) (by kernel_rfl) rfl ((Quiet.refl _).drewN 1) ?_
        refine calm_pure (some 18) (by kernel_rfl) (by kernel_rfl) (by kernel_rfl) (fun _ => by kernel_rfl) ?_
        refine calm_read (some 19) (by kernel_rfl) (by kernel_rfl) (by kernel_rfl) (fun w' hw' => load_cell (ty := 52) (x := .tmp 18) (b := q) (o := 0) (by kernel_rfl) (by kernel_rfl) Try.underlying52 rfl (kq d0 w' hw')) ?_
        refine calm_pure (some 20) (by kernel_rfl) (by kernel_rfl) (by kernel_rfl) (fun _ => index_E8 (x := .tmp 4) (y := .tmp 19) (o := 0) (by kernel_rfl) (by kernel_rfl) (by kernel_rfl) hj8 _) ?_
        refine calm_read (some 21) (by kernel_rfl) (by kernel_rfl) (by kernel_rfl) (fun w' hw' => load_cell (ty := 2) (x := .tmp 20) (b := w.heap.size + 1) (o := 0 + j) (by kernel_rfl) (by kernel_rfl) Try.underlying2 rfl (kq cF w' hw')) ?_
        refine calm_pure (some 22) (by kernel_rfl) (by kernel_rfl) (by kernel_rfl) (fun _ => by kernel_rfl) ?_
        refine calm_read (some 23) (by kernel_rfl) (by kernel_rfl) (by kernel_rfl) (fun w' hw' => load_cell (ty := 31) (x := .tmp 22) (b := q) (o := 2) (by kernel_rfl) (by kernel_rfl) Try.underlying31 rfl (kq d2 w' hw')) ?_
        refine calm_pure (some 24) (by kernel_rfl) (by kernel_rfl) (by kernel_rfl) (fun _ => cv16 (x := .tmp 23) (by kernel_rfl) (by kernel_rfl) hr16.out _) ?_
        refine calm_pure (some 25) (by kernel_rfl) (by kernel_rfl) (by kernel_rfl) (fun _ => addI (ty := 2) (tz := 2) (p := .tmp 21) (q := .tmp 24) (by kernel_rfl) (by kernel_rfl) (by kernel_rfl) rfl hsum.out _) ?_
        refine calm_pure (some 26) (by kernel_rfl) (by kernel_rfl) (by kernel_rfl) (fun _ => index_E8 (x := .tmp 4) (y := .tmp 19) (o := 0) (by kernel_rfl) (by kernel_rfl) (by kernel_rfl) hj8 _) ?_
        refine calm_end fun w' hw' => plan_do none undef (w'.setCell ⟨w.heap.size + 1, 0 + j, none⟩ (.int .i64 (F j + r))) (by kernel_rfl) (by kernel_rfl) (by kernel_rfl) (.inr ⟨stI64 (x := .tmp 26) (y := .tmp 25) (by kernel_rfl) (by kernel_rfl) (by kernel_rfl) (there1 (thereQ HT2.out hw') hj8), rfl⟩) trivial (plan_end (Clean.normal ?_))
        simp only [Act.put, List.setIfInBounds_toArray, List.set_cons_zero, List.set_cons_succ]
        have y1 := sh_put (hw'.range HR2.out) (thereQ HT2.out hw') hj8 HXX.out
        rw [HFF.out] at y1
        have y2 := thereSet (b' := w.heap.size + 1) (k := 0 + j) (v := .int .i64 (F j + r)) (thereQ HT2.out hw')
        have y3 : Below (w.heap.size + 1) V (w'.setCell ⟨w.heap.size + 1, 0 + j, none⟩ (.int .i64 (F j + r))) := (HB3.out.trans (hw'.below _)).setCell (p := ⟨w.heap.size + 1, 0 + j, none⟩) (Nat.le_refl _) _
        obtain ⟨Y, hY⟩ : ∃ Y, w'.setCell ⟨w.heap.size + 1, 0 + j, none⟩ (.int .i64 (F j + r)) = Y := ⟨_, rfl⟩
        rw [hY] at y1 y2 y3 ⊢
        have Y1 := Lib.hid y1
        have Y2 := Lib.hid y2
        have Y3 := Lib.hid y3
        clear y1 y2 y3 hY d0 d2 cF hw' HFF HXX hsum hr16
        go_wp2
        go_roundw
        case rel => exact ⟨k + 1, by omega, by go_num, Y1, Y2, Y3⟩
        case measure => simp [intOf]; omega
      · obtain rfl : k = n := by omega
        have rF := HR.out
        rw [← HN.out, List.take_length] at rF
        have tR := there_belowN HT0V.out (Nat.lt_succ_self _) HB2.out
        have HBW := HBV.out.trans (HB2.out.mono (Nat.le_succ _))
        have HW := Lib.hid (below_setCells (B := w.heap.size) (a := w) w.heap.size (Nat.le_refl _) (Ef (shF L)).toList 0 _ HBW)
        have RW := Lib.hid (World.rangeAt_setCells_same wr w.heap.size 0 (Ef (shF L)).toList (by rw [Ef_length]; exact tR))
        go_wp2_with (first | (refine ldS 39 rfl ?_; refine wpList_load_mid rfl 39 _ rfl (w.heap.size + 1) 0 rfl (Ef (shF L)).toList _ rF Try.underlying39 rfl (by rw [Ef_length]; exact infoE) ?_; try rw [Array.toArray_toList]) | (refine stS 39 rfl ?_; refine wpList_store_mid rfl 39 _ _ rfl w.heap.size 0 (Ef (shF L)) rfl rfl (by rw [Ef_size]; with_reducible exact tR) (by rw [Ef_size]; exact infoE) (Ef_one _) ?_))
        refine bodyPost_ret (results_rt rfl _ _ _ (Ef (shF L)).toList _ rfl rfl RW.out Try.underlying39 rfl (by rw [Ef_length]; exact infoE)) rfl ⟨by rw [HF.out]; rfl, HW.out⟩
end Go.Proofs.Ytbiknpfcemfoeaa
