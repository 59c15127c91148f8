/- SumOver: the model's and the program's. Condition (the program's): the table of math/bits is laid. -/
import Derived.Test.YtljbppladjnadaaDoorRange
import Derived.Test.YtljbppladjnadaaDoorFin
import Derived.Test.YtljbppladjnadaaDoorSumS
import Derived.Test.YtljbppladjnadaaDoorCellsOf
namespace Go.Proofs.YtljbppladjnadaaDoor
open Go.RowKit Go.Shelf
attribute [local go_sem] Oper.semAt_some run_store_float
set_option linter.unusedSimpArgs false

theorem bits_andNot (a b : Nat) (ha : a < 18446744073709551616) (hb : b < 18446744073709551616) : ∃ n : Nat, bits .andNot .u64 (a : Int) (b : Int) = (n : Int) ∧ n < 18446744073709551616 ∧ ∀ i, i < 64 → n.testBit i = (a.testBit i && !b.testBit i) := by
  have h1 : (BitVec.ofInt 64 (a : Int)).toNat = a := by
    rw [BitVec.ofInt_natCast, BitVec.toNat_ofNat]; exact Nat.mod_eq_of_lt (by omega)
  have h2 : (BitVec.ofInt 64 (b : Int)).toNat = b := by
    rw [BitVec.ofInt_natCast, BitVec.toNat_ofNat]; exact Nat.mod_eq_of_lt (by omega)
  refine ⟨(BitVec.ofInt 64 (a : Int) &&& ~~~ BitVec.ofInt 64 (b : Int)).toNat, ?_, ?_, fun i hi => ?_⟩
  · show IntKind.u64.wrap ((BitVec.ofInt 64 (a : Int) &&& ~~~ BitVec.ofInt 64 (b : Int)).toNat : Int) = _
    have := (BitVec.ofInt 64 (a : Int) &&& ~~~ BitVec.ofInt 64 (b : Int)).isLt
    rw [IntKind.wrap_u64]
    omega
  · have := (BitVec.ofInt 64 (a : Int) &&& ~~~ BitVec.ofInt 64 (b : Int)).isLt
    omega
  · rw [BitVec.testBit_toNat, BitVec.getLsbD_and, BitVec.getLsbD_not, ← BitVec.testBit_toNat, ← BitVec.testBit_toNat, h1, h2]
    simp [hi]

/-- A ground and a field are boxed. -/
theorem gf_box (G : Gd) (f : Nat → Nat) (t u : TypeId) (w : World) : ∃ W, (w.alloc (.cells (Grd G) t)).alloc (.cells (Fld f) u) = W ∧ W.heap.size = w.heap.size + 1 + 1 ∧ GBox W w.heap.size G ∧ W.rangeAt (w.heap.size + 1) 0 (Fld f).toList ∧ Below w.heap.size w W := by
  obtain ⟨W1, h1, z1, g1, b1⟩ := gbox1 G t w
  have b2 : Below W1.heap.size W1 (W1.alloc (.cells (Fld f) u)) := (Below.refl _ _).alloc (Nat.le_refl _) _
  rw [h1]
  exact ⟨_, rfl, by simp [z1], g1.below b2 (by omega), by rw [← z1]; exact rangeAt_row (heap_alloc_last W1 _), b1.trans (b2.mono (by omega))⟩


/-- A store of one number. -/
theorem store_f32 {P : Program} {op : Oper} {a : Act} {ty : TypeId} {x y : Operand} {b o v : Nat} {w : World} (ho : op.op = .store ty x y) (hx : a.eval x = .pointer (some ⟨b, o, none⟩)) (hy : a.eval y = .float .f32 v) (hi : (P.info? ty).map (·.size) = some 1) {u : Value} (hu : w.cell? ⟨b, o, none⟩ = some u) (hf : w.frozen? ⟨b, o, none⟩ = false) :
    (execOp a.eval op).run P w = .ok .skip (w.setCell ⟨b, o, none⟩ (.float .f32 v)) := by
  have hs : (sizeOf ty).run P w = .ok 1 w := by
    cases hq : P.info? ty with
    | none => simp [hq] at hi
    | some i => simp [hq] at hi; simp [sizeOf, typeInfo, hq, hi]
  unfold execOp
  simp only [ho, hx, hy]
  go_simp
theorem infoF32 : (Tryd.prog.info? 23).map (·.size) = some 1 := by kernel_rfl

/-- The sum over a list. -/
def sumL (f : Nat → Nat) (l : List Nat) : Option Nat := l.foldl (fun o i => fop .f32 .add o (num .f32 (f i))) (num .f32 (f 0))
theorem sumL_snoc (f : Nat → Nat) (l : List Nat) (i : Nat) : sumL f (l ++ [i]) = fop .f32 .add (sumL f l) (num .f32 (f i)) := by simp [sumL]
theorem sumL_bits (G : Gd) (f : Nat → Nat) (m : Nat) (h : ∀ i, i < 64 → m.testBit i = (isB G i && decide (i ≠ 0))) : sumL f (bitsL m) = sumTo G f 63 := by
  have key : ∀ k, k ≤ 63 → sumL f ((List.range (k + 1)).filter fun i => m.testBit i) = sumTo G f k := by
    intro k
    induction k with
    | zero =>
      intro _
      have h0 := h 0 (by omega)
      simp at h0
      simp [List.range_succ, h0, sumTo, sumL]
    | succ k ih =>
      intro hk
      rw [List.range_succ, List.filter_append]
      have h1 := h (k + 1) (by omega)
      have h2 : m.testBit (k + 1) = isB G (k + 1) := by rw [h1]; simp
      cases hi : isB G (k + 1)
      · rw [hi] at h2
        rw [List.filter_cons, h2, if_neg (by simp), List.filter_nil, List.append_nil, ih (by omega)]
        simp [sumTo, hi]
      · rw [hi] at h2
        rw [List.filter_cons, h2, if_pos rfl, List.filter_nil, sumL_snoc, ih (by omega)]
        simp [sumTo, hi]
  exact key 63 (by omega)

/-- A number that must be finite, and its code. -/
def finV : Option Nat → Value
  | some b => if finB b = true then FI b 0 else FI 0 4
  | none => FI 0 4
theorem finV_num {r : Nat} {o : Option Nat} (h : num .f32 r = o) : (if finB r = true then FI r 0 else FI 0 4) = finV o := by
  subst h
  cases hn : nanK .f32 r
  · rw [num_some hn]; rfl
  · rw [num_none hn]
    have : finB r = false := by
      rw [← finO_num, num_none hn]; rfl
    rw [this]
    rfl
def sumV (G : Gd) (f : Nat → Nat) : Value := if validB G = true then finV (sumTo G f 63) else FI 0 1

set_option maxRecDepth 100000 in
set_option maxHeartbeats 4000000 in
theorem implSum_valid (G : Gd) (f : Nat → Nat) (w : World) (hG : GdOk G) (hT : TabAt w) (hv : validB G = true) :
    Calls Tryd.prog 42 #[.agg (Grd G), .agg (Fld f)] w fun e w' => e = .returned (finV (sumTo G f 63)) ∧ Below w.heap.size w w' := by
  refine (callsIn_wide (n := 6)).1 (callsIn_of_wp_marks Tryd.func42 rfl trivial ?_ rfl)
  simp only [Tryd.ntmps42, List.size_toArray, List.length_cons, List.length_nil, Nat.reduceAdd, Nat.reduceSub, Array.replicate_succ, Array.replicate_zero, List.push_toArray, List.append_toArray, List.nil_append, List.cons_append]
  refine wpIn_wide.2 ?_
  go_upto_region 1 with (fail)
  obtain ⟨W, hW, hz, g1, r2, hB⟩ := gf_box G f 31 29 w
  rw [hW]
  clear hW
  have r1 := g1.range
  have c0 := Grd_fld r2 0 (by omega)
  rw [Nat.zero_add] at c0
  have G1 := Lib.hid g1
  have R2 := Lib.hid r2
  have HB := Lib.hid hB
  have HG := Lib.hid hG
  have HT := Lib.hid (hT.below hB (tab_lt hT))
  have Hv := Lib.hid hv
  clear g1 r2 hB hG hT hv
  go_upto_region 3 with (first | (refine wpList_load_mid rfl 31 _ rfl w.heap.size 0 rfl (GrdL G) _ r1 Tryd.underlying31 rfl (by rw [GrdL_length]; exact infoGround) ?_) | (go_at_call 17; have hc := (validGround_any G W HG.out HT.out (tab_lt HT.out)); rw [Hv.out] at hc; refine hc.mono ?_; clear hc; rintro e w1 ⟨rfl, hb1⟩))
  have z1 := hb1.size
  have p1 := G1.out.below hb1 (by omega)
  have q1 := Lib.hid (range_kept (n := W.heap.size) R2.out (by omega) _ hb1)
  have d0 := (hb1.cell (p := ⟨w.heap.size + 1, 0, none⟩) (by simp; omega)).trans c0
  have P1 := Lib.hid p1
  have HB1 := Lib.hid (HB.out.trans (hb1.mono (by omega)))
  have HT1 := Lib.hid (HT.out.below hb1 (tab_lt HT.out))
  clear r1 c0 p1 hb1
  go_upto_region 4 with (fail)
  obtain ⟨V, hV⟩ : ∃ V, w1.alloc (.cells #[.float .f32 (f 0)] 23) = V := ⟨_, rfl⟩
  rw [hV]
  have hbV : Below w1.heap.size w1 V := by rw [← hV]; exact (Below.refl _ _).alloc (Nat.le_refl _) _
  have P2 := Lib.hid (P1.out.below hbV (by omega))
  obtain ⟨m, hm, hm64, hmt⟩ := bits_andNot (cellsN G) 1 (cellsN_lt G) (by omega)
  have hm' : bits .andNot .u64 (cellsN G : Int) 1 = (m : Int) := hm
  have hS := sumL_bits G f m (fun i hi => by rw [hmt i hi, cellsN_testBit, show (1 : Nat) = 2 ^ 0 from rfl, Nat.testBit_two_pow]; simp [hi]; cases i <;> simp)
  have HS := Lib.hid hS
  clear hS hmt
  go_wp2_with (first | (go_at_call 45; refine (cells_valid G Hv.out _ _ P2.out.at').mono ?_; rintro e w' ⟨rfl, rfl⟩) | (go_at_call 46; refine (bitsIn_any m _).mono ?_; rintro e w' ⟨rfl, rfl⟩))
  have zV : V.heap.size = w1.heap.size + 1 := by rw [← hV]; simp
  have cS : V.cell? ⟨w1.heap.size, 0, none⟩ = some (.float .f32 (f 0)) := by rw [← hV]; exact cell_of_row _ _ 0 _ _ _ (heap_alloc_last w1 _)
  have fS : V.frozen? ⟨w1.heap.size, 0, none⟩ = false := by rw [← hV]; have := (there_row (n := 1) (heap_alloc_last w1 (.cells #[.float .f32 (f 0)] 23)) rfl 0 (by omega)).2; rwa [Nat.zero_add] at this
  obtain ⟨X, hX⟩ : ∃ X, V.alloc (.cells #[.int .u64 m] 25) = X := ⟨_, rfl⟩
  have hbX : Below V.heap.size V X := by rw [← hX]; exact (Below.refl _ _).alloc (Nat.le_refl _) _
  have cM : X.cell? ⟨V.heap.size, 0, none⟩ = some (.int .u64 m) := by rw [← hX]; exact cell_of_row _ _ 0 _ _ _ (heap_alloc_last V _)
  have zX : X.heap.size = V.heap.size + 1 := by rw [← hX]; simp
  have cS' := (hbX.cell (p := ⟨w1.heap.size, 0, none⟩) (by simp; omega)).trans cS
  have fS' := (hbX.frozen (p := ⟨w1.heap.size, 0, none⟩) (by simp; omega)).trans fS
  have hB1X := below_step (hbV) (hbX) (by omega)
  have TX := (HT1.out.below hB1X (tab_lt HT1.out))
  have qX := range_kept (n := w1.heap.size) q1.out (by omega) _ hB1X
  have glt : 0 < w1.heap.size := tab_lt HT1.out
  have HBX := Lib.hid (HB1.out.trans (hB1X.mono (by omega)))
  rw [hX]
  clear hX hV hbV hbX cS fS d0 hm' hm P2 P1
  refine (wpIn_wide (n := 6)).1 (wp_bits 15 16 7 V.heap.size w1.heap.size m hm64 rfl cM TX glt (by omega)
    (fun pre W2 => ∃ b, W2.cell? ⟨w1.heap.size, 0, none⟩ = some (.float .f32 b) ∧ W2.frozen? ⟨w1.heap.size, 0, none⟩ = false ∧ num .f32 b = sumL f pre)
    (fun _ _ _ => False)
    (fun s A B h ⟨b, h1, h2, h3⟩ => ⟨b, h.cell h1, (h.frozen h1).trans h2, h3⟩) (fun _ _ _ _ _ h => h) ⟨f 0, cS', fS', rfl⟩ ?assign ?body ?done ?stop)
  case assign =>
    intro l x W K hK
    simp only [List.setIfInBounds_toArray, List.set_cons_zero, List.set_cons_succ] at hK ⊢
    gi_wp2
    exact hK
  case body =>
    rintro l pre x W2 ⟨b, h1, h2, h3⟩ hB2 _ hx64
    simp only [List.setIfInBounds_toArray, List.set_cons_zero, List.set_cons_succ]
    have c1 := Grd_fld (range_kept (n := w1.heap.size) qX (by omega) _ hB2) x.1 hx64
    have C0 : ∀ w', Quiet W2 w' → w'.cell? ⟨w1.heap.size, 0, none⟩ = some (.float .f32 b) := fun w' h => (h.cell _).trans h1
    have C1 : ∀ w', Quiet W2 w' → w'.cell? ⟨w.heap.size + 1, 0 + x.1, none⟩ = some (.float .f32 (f x.1)) := fun w' h => (h.cell _).trans c1
    refine wpIn_block ?_
    refine wpIn_region_calm (ops' := regOf Tryd.f42 6) [0, 1, 2, 3, 4] [5] (.run 5 .fin) (Quiet W2) [(0, One (.float .f32 b)), (1, One (.int .i64 x.1)), (2, One (.pointer (some ⟨w.heap.size + 1, 0 + x.1, none⟩))), (3, One (.float .f32 (f x.1))), (4, Numv .f32 (fop .f32 .add (num .f32 b) (num .f32 (f x.1))))] (by kernel_rfl) (by kernel_rfl) (by kernel_rfl) (by kernel_rfl) (by kernel_rfl) (by kernel_rfl) (by kernel_rfl) (by kernel_rfl) (by kernel_rfl) rfl ((Quiet.refl _).drewN 1) ?_
    refine calm_read (some 17) (by kernel_rfl) (by kernel_rfl) (by kernel_rfl) (fun w' hw' => load_cell (ty := 23) (x := .tmp 6) (b := w1.heap.size) (o := 0) (by kernel_rfl) (by kernel_rfl) Tryd.underlying23 rfl (C0 w' hw')) ?_
    refine calm_pure (some 18) (by kernel_rfl) (by kernel_rfl) (by kernel_rfl) (fun _ => by kernel_rfl) ?_
    refine calm_pure (some 19) (by kernel_rfl) (by kernel_rfl) (by kernel_rfl) (index_fld (x := .tmp 3) (y := .tmp 18) (o := 0) (by kernel_rfl) (by kernel_rfl) (by kernel_rfl) hx64) ?_
    refine calm_read (some 20) (by kernel_rfl) (by kernel_rfl) (by kernel_rfl) (fun w' hw' => load_cell (ty := 23) (x := .tmp 19) (b := w.heap.size + 1) (o := 0 + x.1) (by kernel_rfl) (by kernel_rfl) Tryd.underlying23 rfl (C1 w' hw')) ?_
    refine calm_float (some 21) .f32 .add 23 23 (.tmp 17) (.tmp 20) (b) (f x.1) (by kernel_rfl) (by kernel_rfl) (by kernel_rfl) (by kernel_rfl) rfl (by kernel_rfl) (by kernel_rfl) (fun _ n h => h.drewN n) (rfl) ?_
    intro r hr
    refine calm_end fun w' hw' => plan_do none undef (w'.setCell ⟨w1.heap.size, 0, none⟩ (.float .f32 r)) (by kernel_rfl) (by kernel_rfl) (by kernel_rfl) (.inr ⟨store_f32 (x := .tmp 6) (y := .tmp 21) (by kernel_rfl) (by kernel_rfl) (by kernel_rfl) infoF32 (C0 w' hw') (by obtain ⟨n, rfl⟩ := hw'; exact h2), rfl⟩) trivial (plan_end (Clean.normal ?_))
    obtain ⟨n, rfl⟩ := hw'
    have k1 : KeepsOthers W2 ((World.drewN W2 n).setCell ⟨w1.heap.size, 0, none⟩ (.float .f32 r)) := KeepsOthers.trans (B := World.drewN W2 n) ⟨Nat.le_refl _, fun _ _ h _ => h⟩ (KeepsOthers.setCell _ _ _)
    have k2 : Below w1.heap.size W2 ((World.drewN W2 n).setCell ⟨w1.heap.size, 0, none⟩ (.float .f32 r)) := (Quiet.below ⟨n, rfl⟩ _).setCell (p := ⟨w1.heap.size, 0, none⟩) (Nat.le_refl _) _
    have k3 : (fun pre W2 => ∃ b, World.cell? W2 ⟨w1.heap.size, 0, none⟩ = some (.float .f32 b) ∧ W2.frozen? ⟨w1.heap.size, 0, none⟩ = false ∧ num .f32 b = sumL f pre) (nos (pre ++ [x])) ((World.drewN W2 n).setCell ⟨w1.heap.size, 0, none⟩ (.float .f32 r)) := ⟨r, World.cell?_setCell_same' _ _ _ (by rw [show (World.drewN W2 n).cell? ⟨w1.heap.size, 0, none⟩ = _ from h1]; rfl), (by rw [World.frozen?_setCell]; exact h2), (by rw [nos_snoc, sumL_snoc, hr, h3])⟩
    exact ⟨k1, k2, k3, hB2.trans k2⟩
  case done =>
    rintro D W2 hD ⟨b, h1, h2, h3⟩ hB2 hK
    have HV := Lib.hid (finV_num (h3.trans HS.out))
    have HB3 := Lib.hid (HBX.out.trans (hB2.mono (by omega)))
    clear h2 h3 cS' fS' cM TX qX hB1X hB2
    cases hf : finB b
    · have Hf := Lib.hid hf
      have Hv2 := Lib.hid (show FI 0 4 = finV (sumTo G f 63) by rw [← HV.out, hf]; rfl)
      clear hf HV
      go_wp2_with (go_at_call 69; have hc := (ifFinite_any b W2); rw [Hf.out, if_neg (by decide)] at hc; refine hc.mono ?_; clear hc; rintro e w' ⟨rfl, rfl⟩; unfold FI)
      exact ret_marks hK (fun W' _ => by simp [results, Tryd.results42, go_sem]; rfl) (fun W' _ hb => ⟨congrArg Ending.returned Hv2.out, HB3.out.trans (hb _ (by omega))⟩)
    · have Hf := Lib.hid hf
      have Hv2 := Lib.hid (show FI b 0 = finV (sumTo G f 63) by rw [← HV.out, hf]; rfl)
      clear hf HV
      go_wp2_with (go_at_call 69; have hc := (ifFinite_any b W2); rw [Hf.out, if_pos rfl] at hc; refine hc.mono ?_; clear hc; rintro e w' ⟨rfl, rfl⟩; unfold FI)
      exact ret_marks hK (fun W' _ => by simp [results, Tryd.results42, go_sem]; rfl) (fun W' _ hb => ⟨congrArg Ending.returned Hv2.out, HB3.out.trans (hb _ (by omega))⟩)
  case stop =>
    rintro D c pre W _ _ h _ _
    exact h.elim
end Go.Proofs.YtljbppladjnadaaDoor
