/- The line through readings, the model's. Condition: none beyond the readings' own. -/
import Derived.Test.YtbiknpfcemfoeaaDoorLn
import Derived.Test.YtbiknpfcemfoeaaDoorMisC
import Derived.Test.YtbiknpfcemfoeaaDoorNeg
namespace Go.Proofs.YtbiknpfcemfoeaaDoor
open Go Go.RowKit Ieee
set_option linter.unusedSimpArgs false
set_option linter.unusedVariables false
attribute [local go_sem] run_store_f32

theorem store_f32 {P : Program} {op : Oper} {a : Act} {ty : TypeId} {x y : Operand} {b o v : Nat} {w : World} (ho : op.op = .store ty x y) (hx : a.eval x = .pointer (some ⟨b, o, none⟩)) (hy : a.eval y = .float .f32 v) (hi : (P.info? ty).map (·.size) = some 1) {u : Value} (hu : w.cell? ⟨b, o, none⟩ = some u) (hf : w.frozen? ⟨b, o, none⟩ = false) :
    (execOp a.eval op).run P w = .ok .skip (w.setCell ⟨b, o, none⟩ (.float .f32 v)) := by
  have hs : (sizeOf ty).run P w = .ok 1 w := by
    cases hq : P.info? ty with
    | none => simp [hq] at hi
    | some i => simp [hq] at hi; simp [sizeOf, typeInfo, hq, hi]
  unfold execOp
  simp only [ho, hx, hy]
  go_simp
theorem infoF32 : (Tryd.prog.info? 24).map (·.size) = some 1 := by kernel_rfl

/-- What a reading adds to the four sums. -/
def tmO (e : R2) : Nat → Option Nat
  | 0 => lnV (floatOfInt .f32 e.1)
  | 1 => lvV e.2
  | 2 => fop .f32 .mul (lnV (floatOfInt .f32 e.1)) (lnV (floatOfInt .f32 e.1))
  | _ => fop .f32 .mul (lnV (floatOfInt .f32 e.1)) (lvV e.2)
def tmA (L : List R2) (i k : Nat) : Option Nat := match L[i]? with | some e => tmO e k | none => none
theorem tmA_at {L : List R2} {i k : Nat} {e : R2} (h : L[i]? = some e) : tmA L i k = tmO e k := by unfold tmA; rw [h]
/-- A sum over so many readings and one. -/
def suO (L : List R2) (k : Nat) : Nat → Option Nat
  | 0 => tmA L 0 k
  | i + 1 => fop .f32 .add (suO L k i) (tmA L (i + 1) k)
def liN (L : List R2) : Option Nat := num .f32 (floatOfInt .f32 (L.length : Int))
def liU (L : List R2) (k : Nat) : Option Nat := suO L k (L.length - 1)
def liD (L : List R2) : Option Nat := fop .f32 .sub (fop .f32 .mul (liN L) (liU L 2)) (fop .f32 .mul (liU L 0) (liU L 0))
def liS (L : List R2) : Option Nat := fop .f32 .quo (fop .f32 .sub (fop .f32 .mul (liN L) (liU L 3)) (fop .f32 .mul (liU L 0) (liU L 1))) (liD L)
def liL (L : List R2) : Option Nat := fop .f32 .quo (fop .f32 .sub (liU L 1) (fop .f32 .mul (liS L) (liU L 0))) (liN L)
def liG (L : List R2) : Bool := gtO (liD L) (num .f32 0) && finO (liS L) && finO (liL L)
def linK (L : List R2) : Option Nat := if okRs L = true then (if L.length < 2 then some 4 else if liG L = true then none else some 2) else some 0
def linO (k : Option Nat) (o : Option Nat) : Option Nat := if k = none then o else num .f32 0
def LinP (L : List R2) (r1 r2 : Nat) : Prop := num .f32 r1 = linO (linK L) (liL L) ∧ num .f32 r2 = linO (linK L) (liS L)
/-- Four numbers lie in a block. -/
def SAt (w : World) (g : Nat) (h : Nat → Nat) : Prop := w.there g 0 4 ∧ ∀ j, j < 4 → w.cell? ⟨g, j, none⟩ = some (.float .f32 (h j))
theorem SAt.lt {w : World} {g : Nat} {h : Nat → Nat} (s : SAt w g h) : g < w.heap.size := World.block_lt_of_cell? w _ (s.2 0 (by decide))
theorem SAt.keep {w w' : World} {g : Nat} {h : Nat → Nat} (s : SAt w g h) (hB : Below w.heap.size w w') : SAt w' g h := ⟨there_keep s.1 s.lt hB, fun j hj => (hB.cell (p := ⟨g, j, none⟩) s.lt).trans (s.2 j hj)⟩
theorem SAt.free {w : World} {g : Nat} {h : Nat → Nat} (s : SAt w g h) {k : Nat} (hk : k < 4) : w.frozen? ⟨g, k, none⟩ = false := by have := (s.1 k hk).2; rwa [Nat.zero_add] at this
theorem SAt.put {w : World} {g k r : Nat} {h : Nat → Nat} (s : SAt w g h) (hk : k < 4) : SAt (w.setCell ⟨g, k, none⟩ (.float .f32 r)) g (fun j => if j = k then r else h j) := by
  have e : w.setCell ⟨g, k, none⟩ (.float .f32 r) = w.setCells g k [.float .f32 r] := rfl
  rw [e]
  have ht : w.there g k 1 := fun j hj => by
    have := s.1 (k + j) (by omega)
    rwa [Nat.zero_add] at this
  refine ⟨World.there_setCells s.1 _ _ _, fun j hj => ?_⟩
  show _ = some (Value.float .f32 (if j = k then r else h j))
  by_cases hjk : j = k
  · subst hjk
    rw [if_pos rfl]
    exact World.rangeAt_setCells_same _ _ _ _ ht 0 _ rfl
  · rw [if_neg hjk]
    have hr : w.rangeAt g j [.float .f32 (h j)] := fun i v hi => by
      have h1 : i < 1 := (List.getElem?_eq_some_iff.1 hi).1
      obtain rfl : i = 0 := by omega
      cases hi
      exact s.2 j hj
    rcases Nat.lt_or_gt_of_ne hjk with hl | hl
    · exact World.rangeAt_setCells_apart hr _ _ _ (.inr (.inl (by simp; omega))) 0 _ rfl
    · exact World.rangeAt_setCells_apart hr _ _ _ (.inr (.inr (by simp; omega))) 0 _ rfl
theorem SAt.apart {w : World} {g g' k : Nat} {v : Value} {h : Nat → Nat} (s : SAt w g h) (hne : g ≠ g') : SAt (w.setCell ⟨g', k, none⟩ v) g h := by
  have e : w.setCell ⟨g', k, none⟩ v = w.setCells g' k [v] := rfl
  rw [e]
  refine ⟨World.there_setCells s.1 _ _ _, fun j hj => ?_⟩
  have hr : w.rangeAt g j [.float .f32 (h j)] := fun i v hi => by
    have h1 : i < 1 := (List.getElem?_eq_some_iff.1 hi).1
    obtain rfl : i = 0 := by omega
    cases hi
    exact s.2 j hj
  exact World.rangeAt_setCells_apart hr _ _ _ (.inl hne) 0 _ rfl
theorem sat_new (w : World) (T : TypeId) (a b c d : Nat) : SAt (w.alloc (.cells #[.float .f32 a, .float .f32 b, .float .f32 c, .float .f32 d] T)) w.heap.size (fun j => if j = 0 then a else if j = 1 then b else if j = 2 then c else d) := by
  have hrow := heap_alloc_last w (.cells #[.float .f32 a, .float .f32 b, .float .f32 c, .float .f32 d] T)
  have hc : ∀ j, j < 4 → (w.alloc (.cells #[.float .f32 a, .float .f32 b, .float .f32 c, .float .f32 d] T)).cell? ⟨w.heap.size, j, none⟩ = some (.float .f32 (if j = 0 then a else if j = 1 then b else if j = 2 then c else d)) := fun j hj => by
    rcases j with _ | _ | _ | _ | j
    · exact cell_of_row _ _ 0 _ _ _ hrow
    · exact cell_of_row _ _ 1 _ _ _ hrow
    · exact cell_of_row _ _ 2 _ _ _ hrow
    · exact cell_of_row _ _ 3 _ _ _ hrow
    · omega
  exact ⟨fun j hj => ⟨by rw [Nat.zero_add, hc j hj]; rfl, frozen_of_row _ _ _ _ _ hrow⟩, hc⟩
theorem s4_one (a b c d : Nat) : (#[Value.float .f32 a, .float .f32 b, .float .f32 c, .float .f32 d] : Array Value).all (·.oneCell') = true := by simp [Value.oneCell']
theorem s4_set {w V : World} {g a b c d : Nat} (hV : w.setCells g 0 [.float .f32 a, .float .f32 b, .float .f32 c, .float .f32 d] = V) (ht : w.there g 0 4) : SAt V g (fun j => if j = 0 then a else if j = 1 then b else if j = 2 then c else d) := by
  subst hV
  have hr := World.rangeAt_setCells_same w g 0 [.float .f32 a, .float .f32 b, .float .f32 c, .float .f32 d] ht
  refine ⟨World.there_setCells ht _ _ _, fun j hj => ?_⟩
  rcases j with _ | _ | _ | _ | j
  · exact hr 0 _ rfl
  · have := hr 1 _ rfl; rwa [Nat.zero_add] at this
  · have := hr 2 _ rfl; rwa [Nat.zero_add] at this
  · have := hr 3 _ rfl; rwa [Nat.zero_add] at this
  · omega
theorem index_s4 {op : Oper} {a : Act} {x y : Operand} {T : TypeId} {b k : Nat} (ho : op.op = .indexAddr T x y) (hT : T = 61 ∨ T = 99) (hx : a.eval x = .pointer (some ⟨b, 0, none⟩)) (hy : a.eval y = .int .i64 k) (hk : k < 4) (w : World) :
    (execOp a.eval op).run Tryd.prog w = .ok (.value (.pointer (some ⟨b, k, none⟩))) w := by
  unfold execOp
  simp only [ho, hx, hy]
  rcases hT with rfl | rfl
  · go_simp
    intro h
    omega
  · go_simp
    intro h
    omega
theorem ln_rng (t : Int) (h : 1 ≤ t ∧ t ≤ 100000) : 562036736 ≤ floatOfInt .f32 t ∧ floatOfInt .f32 t ≤ 1568669696 := by
  obtain ⟨n, rfl⟩ := Int.eq_ofNat_of_zero_le (show 0 ≤ t by omega)
  have := int_norm n (by omega) (by omega)
  omega
set_option maxRecDepth 100000 in
set_option maxHeartbeats 4000000 in
theorem specLin_any (p : Option Addr) (c : Nat) (L : List R2) (hL : L.length ≤ 1048576) (w : World) (hp : RsAt w p L) :
    Calls Tryd.prog 8 #[.slice p L.length c] w fun e w' => (∃ r1 r2, e = .returned (.tuple #[.float .f32 r1, .float .f32 r2, .int .i64 (codeE (linK L))]) ∧ LinP L r1 r2) ∧ Below w.heap.size w w' := by
  have T0 := l04Ok_any p c L hL w hp
  have PP := Lib.hid hp
  cases hok : okRs L
  · rw [hok] at T0
    have HE := Lib.hid (show linK L = some 0 by unfold linK; rw [hok]; rfl)
    have RS := Lib.hid (show LinP L 0 0 by unfold LinP; rw [HE.out]; exact ⟨rfl, rfl⟩)
    obtain ⟨n, hn⟩ : ∃ n, L.length = n := ⟨_, rfl⟩
    rw [hn] at hL T0 ⊢
    clear hn hok hp
    go_enter Tryd.func8, Tryd.ntmps8
    go_wp2_with (go_at_call 27; refine T0.mono ?_; rintro e V1 ⟨rfl, hq1⟩; have Q1 := Lib.hid hq1; clear hq1)
    go_ret3
    exact ⟨⟨0, 0, by rw [HE.out]; rfl, RS.out⟩, Q1.out⟩
  rw [hok] at T0
  have OKT := Lib.hid (okRs_time hok)
  by_cases h2 : L.length < 2
  · have HE := Lib.hid (show linK L = some 4 by unfold linK; rw [hok, if_pos rfl, if_pos h2])
    have RS := Lib.hid (show LinP L 0 0 by unfold LinP; rw [HE.out]; exact ⟨rfl, rfl⟩)
    obtain ⟨n, hn⟩ : ∃ n, L.length = n := ⟨_, rfl⟩
    rw [hn] at hL T0 h2 ⊢
    have h2i : (n : Int) < 2 := by omega
    clear hn hok hp
    go_enter Tryd.func8, Tryd.ntmps8
    go_wp2_with (go_at_call 27; refine T0.mono ?_; rintro e V1 ⟨rfl, hq1⟩; have Q1 := Lib.hid hq1; clear hq1)
    go_ret3
    exact ⟨⟨0, 0, by rw [HE.out]; rfl, RS.out⟩, Q1.out⟩
  have hk : linK L = if liG L = true then none else some 2 := by unfold linK; rw [hok, if_pos rfl, if_neg h2]
  have HN1 := Lib.hid (show liN L = num .f32 (floatOfInt .f32 (L.length : Int)) from rfl)
  have HU := Lib.hid (show ∀ k, liU L k = suO L k (L.length - 1) from fun k => rfl)
  obtain ⟨n, hn⟩ : ∃ n, L.length = n := ⟨_, rfl⟩
  have HN := Lib.hid hn
  rw [hn] at hL T0 h2 HN1 HU ⊢
  have h2i : ¬ (n : Int) < 2 := by omega
  have HK := Lib.hid hk
  clear hn hok hp hk
  go_enter Tryd.func8, Tryd.ntmps8
  go_upto_region 5 with (go_at_call 27; refine T0.mono ?_; rintro e V1 ⟨rfl, hq1⟩; have Q1 := Lib.hid hq1; clear hq1)
  obtain ⟨g, hg⟩ : ∃ g, V1.heap.size = g := ⟨_, rfl⟩
  have S0 := Lib.hid (sat_new V1 61 0 0 0 0)
  have B1 := Lib.hid (Q1.out.alloc Q1.out.size (.cells #[.float .f32 0, .float .f32 0, .float .f32 0, .float .f32 0] 61))
  have HG := Lib.hid (show w.heap.size ≤ g by rw [← hg]; exact Q1.out.size)
  have e00 : ((0 : Nat) : Int) = 0 := rfl
  go_upto_region 7 with (fail)
  rw [hg] at S0
  try rw [hg]
  clear hg
  go_loopw [6] (fun (i : Value) (wr : World) => ∃ (k : Nat), k ≤ n ∧ i = .int .i64 (k : Int) ∧ Hid (∃ h : Nat → Nat, SAt wr g h ∧ (0 < k → ∀ j, j < 4 → num .f32 (h j) = suO L j (k - 1))) ∧ Hid (Below w.heap.size w wr)) (fun i _ => n - (intOf i).toNat)
  case atStart => exact ⟨0, by omega, rfl, Lib.hid ⟨_, S0.out, fun h => by omega⟩, B1⟩
  case round =>
    obtain ⟨i, hi, rfl, hs, hB⟩ := hrel
    by_cases hlt : i < n
    · have hii : (i : Int) < n := by omega
      obtain ⟨h0, hs0, hs1⟩ := hs.out
      have HS0 := Lib.hid hs0
      have HS1 := Lib.hid hs1
      obtain ⟨e, he⟩ : ∃ e, L[i]? = some e := ⟨_, List.getElem?_eq_getElem (by rw [HN.out]; exact hlt)⟩
      obtain ⟨b, o, rfl, hr⟩ := (PP.out.keep hB.out) i e he
      have c0 : wr.cell? ⟨b, o + i * 2, none⟩ = some (.int .i64 e.1) := hr 0 _ rfl
      have c1 : wr.cell? ⟨b, o + i * 2 + 1, none⟩ = some (.int .i16 e.2) := hr 1 _ rfl
      have HC := Lib.hid (fun V (hV : Below wr.heap.size wr V) => show V.cell? ⟨b, o + i * 2, none⟩ = some (.int .i64 e.1) ∧ V.cell? ⟨b, o + i * 2 + 1, none⟩ = some (.int .i16 e.2) from ⟨(hV.cell (p := ⟨b, o + i * 2, none⟩) (World.block_lt_of_cell? wr _ c0)).trans c0, (hV.cell (p := ⟨b, o + i * 2 + 1, none⟩) (World.block_lt_of_cell? wr _ c1)).trans c1⟩)
      have TL := Lib.hid (fun V => l03Ln_any (floatOfInt .f32 e.1) (ln_rng _ (OKT.out i e he)).1 (ln_rng _ (OKT.out i e he)).2 V)
      have TV := Lib.hid (fun V => l04Level_any e.1 e.2 V)
      have HT := Lib.hid (fun j => tmA_at (k := j) he)
      clear hr he hs hs0 hs1
      have f1 : True := trivial
      have f2 : True := trivial
      go_upto_region 12 with (first | (go_at_call 28; refine (TL.out _).mono ?_; rintro x1 V2 ⟨x, rfl, hx, hq2⟩; have HX := Lib.hid hx; have Q2 := Lib.hid hq2; clear c0 c1; obtain ⟨c0, c1⟩ := HC.out V2 hq2; clear hq2 hx) | (go_at_call 29; refine (TV.out _).mono ?_; rintro x2 V3 ⟨y, rfl, hy, hq3⟩; have HY := Lib.hid hy; have Q3 := Lib.hid (Q2.out.trans (hq3.mono Q2.out.size)); clear hq3 hy c0 c1) | (have _t := f1; refine wpList_float rfl _ _ _ _ _ rfl rfl .f32 _ _ rfl rfl ?_; intro z1 n1 hz; have Z1 := Lib.hid hz; clear f1 hz) | (have _t := f2; refine wpList_float rfl _ _ _ _ _ rfl rfl .f32 _ _ rfl rfl ?_; intro z2 n2 hz; have Z2 := Lib.hid hz; clear f2 hz) | (refine wpList_store_mid rfl 61 _ _ rfl V3.heap.size 0 #[.float .f32 x, .float .f32 y, .float .f32 z1, .float .f32 z2] rfl rfl (sat_new (V3.drewN (n1 + n2)) 61 0 0 0 0).1 (by kernel_rfl) (s4_one x y z1 z2) ?_; obtain ⟨V4, hV4⟩ : ∃ V4, ((V3.drewN (n1 + n2)).alloc (.cells #[.float .f32 0, .float .f32 0, .float .f32 0, .float .f32 0] 61)).setCells V3.heap.size 0 [.float .f32 x, .float .f32 y, .float .f32 z1, .float .f32 z2] = V4 := ⟨_, rfl⟩; try rw [hV4]; have HV4 := Lib.hid hV4; clear hV4))
      have SN := sat_new (V3.drewN (n1 + n2)) 61 0 0 0 0
      have Q4 := Lib.hid (show Below wr.heap.size wr ((V3.drewN (n1 + n2)).alloc (.cells #[.float .f32 0, .float .f32 0, .float .f32 0, .float .f32 0] 61)) from (belowN Q3.out _).alloc (belowN Q3.out _).size _)
      have Q5 := Lib.hid (show Below wr.heap.size wr V4 from by rw [← HV4.out]; exact below_setCells _ (Q3.out.size) _ _ _ Q4.out)
      have hq0 : ∃ q : Nat → Nat, SAt V4 V3.heap.size q ∧ ∀ j, j < 4 → num .f32 (q j) = tmA L i j := ⟨_, s4_set HV4.out SN.1, fun j hj => by
        rw [HT.out]
        rcases j with _ | _ | _ | _ | j
        · exact HX.out
        · exact HY.out
        · show num .f32 z1 = fop .f32 .mul _ _
          rw [Z1.out, HX.out]
        · show num .f32 z2 = fop .f32 .mul _ _
          rw [Z2.out, HX.out, HY.out]
        · omega⟩
      obtain ⟨q, hq, hqt⟩ := hq0
      have HQ := Lib.hid hq
      have HQT := Lib.hid hqt
      have HSS := Lib.hid (HS0.out.keep Q5.out)
      have B5 := Lib.hid (hB.out.trans (Q5.out.mono hB.out.size))
      have HG9 := Lib.hid (show w.heap.size ≤ V3.heap.size ∧ g < V3.heap.size from ⟨Nat.le_trans hB.out.size Q3.out.size, Nat.lt_of_lt_of_le HS0.out.lt Q3.out.size⟩)
      clear hq hqt Z1 Z2 HX HY HC TL TV HT Q2 Q3 Q4 SN HV4
      go_upto_region 13 with (fail)
      go_loopw [10] (fun (kk : Value) (wi : World) => ∃ (k : Nat), k ≤ 4 ∧ kk = .int .i64 (k : Int) ∧ Hid (∃ h : Nat → Nat, SAt wi g h ∧ ∀ j, j < 4 → num .f32 (h j) = if j < k then suO L j i else num .f32 (h0 j)) ∧ Hid (SAt wi V3.heap.size q) ∧ Hid (Below w.heap.size w wi)) (fun kk _ => 4 - (intOf kk).toNat)
      case atStart => exact ⟨0, by omega, rfl, Lib.hid ⟨h0, HSS.out, fun j hj => by rw [if_neg (by omega)]⟩, Lib.hid HQ.out, B5⟩
      case round =>
        obtain ⟨k, hk, rfl, hs, hq, hB2⟩ := hrel
        by_cases hk4 : k < 4
        · have hki : (k : Int) < 4 := by omega
          obtain ⟨h, hh, hn⟩ := hs.out
          have cs := hh.2 k hk4
          have cq := hq.out.2 k hk4
          have fs := hh.free hk4
          have HH := Lib.hid hh
          have HHN := Lib.hid hn
          clear hs hh hn
          by_cases hi0 : i = 0
          · subst hi0
            go_wp2
            go_roundw
            case rel => exact ⟨k + 1, by omega, by go_num, Lib.hid ⟨_, HH.out.put (r := q k) hk4, fun j hj => by
              by_cases hjk : j = k
              · subst hjk
                rw [if_pos rfl, if_pos (by omega)]
                exact HQT.out j hj
              · rw [if_neg hjk, HHN.out j hj]
                by_cases hl : j < k
                · rw [if_pos hl, if_pos (by omega)]
                · rw [if_neg hl, if_neg (by omega)]⟩, Lib.hid (hq.out.apart (by have := HG9.out.2; omega)), Lib.hid (hB2.out.setCell HG.out _)⟩
            case measure => simp [intOf]; omega
          · have hii0 : ¬ (i : Int) = 0 := by omega
            go_upto_region 17 with (fail)
            refine wp_region_calm (ops' := regOf Tryd.f8 17) [0, 1, 2, 3, 4, 5, 6, 7, 8] [9] (.run 9 .fin) (Quiet wr) [(0, One (.int .i64 (k : Int))), (1, One (.int .i64 (k : Int))), (2, One (.pointer (some ⟨g, k, none⟩))), (3, One (.float .f32 (h k))), (4, One (.int .i64 (k : Int))), (5, One (.pointer (some ⟨V3.heap.size, k, none⟩))), (6, One (.float .f32 (q k))), (7, Numv .f32 (fop .f32 .add (num .f32 (h k)) (num .f32 (q k)))), (8, One (.pointer (some ⟨g, k, none⟩)))] (by kernel_rfl) (by kernel_rfl) (by kernel_rfl) (by kernel_rfl) (by kernel_rfl) (by kernel_rfl) (by kernel_rfl) (by kernel_rfl) rfl ((Quiet.refl _).drewN 1) ?_
            refine calm_pure (some 60) (by kernel_rfl) (by kernel_rfl) (by kernel_rfl) (fun _ => by kernel_rfl) ?_
            refine calm_pure (some 61) (by kernel_rfl) (by kernel_rfl) (by kernel_rfl) (fun _ => by kernel_rfl) ?_
            refine calm_pure (some 62) (by kernel_rfl) (by kernel_rfl) (by kernel_rfl) (fun _ => (index_s4 (T := 61) (k := k) (x := .tmp 5) (y := .tmp 61) (by kernel_rfl) (.inl rfl) (by kernel_rfl) (by kernel_rfl) hk4 _)) ?_
            refine calm_read (some 63) (by kernel_rfl) (by kernel_rfl) (by kernel_rfl) (fun w' hw' => load_cell (ty := 24) (x := .tmp 62) (b := g) (o := k) (by kernel_rfl) (by kernel_rfl) Tryd.underlying24 rfl ((fun w' (hw' : Quiet wr w') => (hw'.cell _).trans cs) w' hw')) ?_
            refine calm_pure (some 64) (by kernel_rfl) (by kernel_rfl) (by kernel_rfl) (fun _ => by kernel_rfl) ?_
            refine calm_pure (some 65) (by kernel_rfl) (by kernel_rfl) (by kernel_rfl) (fun _ => (index_s4 (T := 61) (k := k) (x := .tmp 9) (y := .tmp 64) (by kernel_rfl) (.inl rfl) (by kernel_rfl) (by kernel_rfl) hk4 _)) ?_
            refine calm_read (some 66) (by kernel_rfl) (by kernel_rfl) (by kernel_rfl) (fun w' hw' => load_cell (ty := 24) (x := .tmp 65) (b := V3.heap.size) (o := k) (by kernel_rfl) (by kernel_rfl) Tryd.underlying24 rfl ((fun w' (hw' : Quiet wr w') => (hw'.cell _).trans cq) w' hw')) ?_
            refine calm_float (some 67) .f32 .add 24 24 (.tmp 63) (.tmp 66) ((h k)) ((q k)) (by kernel_rfl) (by kernel_rfl) (by kernel_rfl) (by kernel_rfl) rfl (by kernel_rfl) (by kernel_rfl) (fun _ n h => h.drewN n) (rfl) ?_
            intro r67 hr67
            refine calm_pure (some 68) (by kernel_rfl) (by kernel_rfl) (by kernel_rfl) (fun _ => (index_s4 (T := 61) (k := k) (x := .tmp 5) (y := .tmp 60) (by kernel_rfl) (.inl rfl) (by kernel_rfl) (by kernel_rfl) hk4 _)) ?_
            refine calm_end fun w' hw' => plan_do none undef (w'.setCell ⟨g, k, none⟩ (.float .f32 r67)) (by kernel_rfl) (by kernel_rfl) (by kernel_rfl) (.inr ⟨store_f32 (x := .tmp 68) (y := .tmp 67) (by kernel_rfl) (by kernel_rfl) (by kernel_rfl) infoF32 ((hw'.cell _).trans cs) (by obtain ⟨mm, rfl⟩ := hw'; exact fs), rfl⟩) trivial (plan_end (Clean.normal ?_))
            have HW := Lib.hid (hw'.below wr.heap.size)
            have HR := Lib.hid hr67
            clear hw' hr67 cs cq fs
            simp only [Act.put, List.setIfInBounds_toArray, List.set_cons_zero, List.set_cons_succ]
            go_wp2
            go_roundw
            case rel => exact ⟨k + 1, by omega, by go_num, Lib.hid ⟨_, (HH.out.keep HW.out).put (r := r67) hk4, fun j hj => by
              by_cases hjk : j = k
              · subst hjk
                rw [if_pos rfl, if_pos (by omega), HR.out, HHN.out j hj, if_neg (by omega), HS1.out (by omega) j hj, HQT.out j hj]
                obtain ⟨i', rfl⟩ : ∃ i', i = i' + 1 := ⟨i - 1, by omega⟩
                rfl
              · rw [if_neg hjk, HHN.out j hj]
                by_cases hl : j < k
                · rw [if_pos hl, if_pos (by omega)]
                · rw [if_neg hl, if_neg (by omega)]⟩, Lib.hid ((hq.out.keep HW.out).apart (by have := HG9.out.2; omega)), Lib.hid ((hB2.out.trans (HW.out.mono hB2.out.size)).setCell HG.out _)⟩
            case measure => simp [intOf]; omega
        · obtain rfl : k = 4 := by omega
          have HF := Lib.hid hs.out
          clear hs hq
          go_wp2
          go_roundw
          case rel => exact ⟨i + 1, by omega, by go_num, Lib.hid (by
            obtain ⟨h, hh, hn⟩ := HF.out
            exact ⟨h, hh, fun _ j hj => by rw [hn j hj, if_pos hj]; rfl⟩), hB2⟩
          case measure => simp [intOf]; omega
    · obtain rfl : i = n := by omega
      obtain ⟨h, hs0, hs1⟩ := hs.out
      have a0 := hs0.2 0 (by decide)
      have a1 := hs0.2 1 (by decide)
      have a2 := hs0.2 2 (by decide)
      have a3 := hs0.2 3 (by decide)
      have U := Lib.hid (fun j (hj : j < 4) => (hs1 (by omega) j hj).trans (HU.out j).symm)
      clear hs hs0 hs1
      have f3 : True := trivial
      have f4 : True := trivial
      have f5 : True := trivial
      have f6 : True := trivial
      have f7 : True := trivial
      have f8 : True := trivial
      have f9 : True := trivial
      have f10 : True := trivial
      have f11 : True := trivial
      have f12 : True := trivial
      go_upto_region 22 with (first | (have _t := f3; refine wpList_float rfl _ _ _ _ _ rfl rfl .f32 _ _ rfl rfl ?_; intro z3 n3 hz; have Z3 := Lib.hid hz; clear f3 hz) | (have _t := f4; refine wpList_float rfl _ _ _ _ _ rfl rfl .f32 _ _ rfl rfl ?_; intro z4 n4 hz; have Z4 := Lib.hid hz; clear f4 hz) | (have _t := f5; refine wpList_float rfl _ _ _ _ _ rfl rfl .f32 _ _ rfl rfl ?_; intro z5 n5 hz; have Z5 := Lib.hid hz; clear f5 hz) | (have _t := f6; refine wpList_float rfl _ _ _ _ _ rfl rfl .f32 _ _ rfl rfl ?_; intro z6 n6 hz; have Z6 := Lib.hid hz; clear f6 hz) | (have _t := f7; refine wpList_float rfl _ _ _ _ _ rfl rfl .f32 _ _ rfl rfl ?_; intro z7 n7 hz; have Z7 := Lib.hid hz; clear f7 hz) | (have _t := f8; refine wpList_float rfl _ _ _ _ _ rfl rfl .f32 _ _ rfl rfl ?_; intro z8 n8 hz; have Z8 := Lib.hid hz; clear f8 hz) | (have _t := f9; refine wpList_float rfl _ _ _ _ _ rfl rfl .f32 _ _ rfl rfl ?_; intro z9 n9 hz; have Z9 := Lib.hid hz; clear f9 hz) | (have _t := f10; refine wpList_float rfl _ _ _ _ _ rfl rfl .f32 _ _ rfl rfl ?_; intro z10 n10 hz; have Z10 := Lib.hid hz; clear f10 hz) | (have _t := f11; refine wpList_float rfl _ _ _ _ _ rfl rfl .f32 _ _ rfl rfl ?_; intro z11 n11 hz; have Z11 := Lib.hid hz; clear f11 hz) | (have _t := f12; refine wpList_float rfl _ _ _ _ _ rfl rfl .f32 _ _ rfl rfl ?_; intro z12 n12 hz; have Z12 := Lib.hid hz; clear f12 hz))
      have ED := Lib.hid (show num .f32 z5 = liD L by rw [Z5.out, Z3.out, Z4.out, U.out 2 (by decide), U.out 0 (by decide), ← HN1.out]; rfl)
      have ES := Lib.hid (show num .f32 z9 = liS L by rw [Z9.out, Z8.out, Z6.out, Z7.out, ED.out, U.out 3 (by decide), U.out 0 (by decide), U.out 1 (by decide), ← HN1.out]; rfl)
      have EL := Lib.hid (show num .f32 z12 = liL L by rw [Z12.out, Z11.out, Z10.out, ES.out, U.out 1 (by decide), U.out 0 (by decide), ← HN1.out]; rfl)
      have RS := Lib.hid (show ∀ b1 b2 b3 : Bool, gtO (liD L) (num .f32 0) = b1 → finO (liS L) = b2 → finO (liL L) = b3 → (b1 && b2 && b3) = true → linK L = none ∧ LinP L z12 z9 from fun b1 b2 b3 h1 h2 h3 h4 => by
        have hk : linK L = none := by rw [HK.out]; unfold liG; rw [h1, h2, h3, h4]; rfl
        exact ⟨hk, by unfold LinP; rw [hk]; exact ⟨EL.out, ES.out⟩⟩)
      have RF := Lib.hid (show ∀ b1 b2 b3 : Bool, gtO (liD L) (num .f32 0) = b1 → finO (liS L) = b2 → finO (liL L) = b3 → (b1 && b2 && b3) = false → linK L = some 2 ∧ LinP L 0 0 from fun b1 b2 b3 h1 h2 h3 h4 => by
        have hk : linK L = some 2 := by rw [HK.out]; unfold liG; rw [h1, h2, h3, h4]; rfl
        exact ⟨hk, by unfold LinP; rw [hk]; exact ⟨rfl, rfl⟩⟩)
      have hgt : (FloatKind.f32.format.order z5 0 == some Ordering.gt) = gtO (liD L) (num .f32 0) := by rw [ordO_num ED.out rfl]; rfl
      have T1 := fun V => l01Finite_any z9 V
      have T2 := fun V => l01Finite_any z12 V
      have F1 : finB z9 = finO (liS L) := by rw [← ES.out]; exact (finO_num z9).symm
      have F2 : finB z12 = finO (liL L) := by rw [← EL.out]; exact (finO_num z12).symm
      rw [F1] at T1
      rw [F2] at T2
      clear F1 F2 Z3 Z4 Z5 Z6 Z7 Z8 Z9 Z10 Z11 Z12 U ED ES EL a0 a1 a2 a3
      cases g1 : gtO (liD L) (num .f32 0) <;> cases g2 : finO (liS L) <;> cases g3 : finO (liL L) <;> (
        have RR := Lib.hid (RS.out _ _ _ g1 g2 g3)
        have RG := Lib.hid (RF.out _ _ _ g1 g2 g3)
        rw [g1] at hgt
        rw [g2] at T1
        rw [g3] at T2
        clear g1 g2 g3 RS RF
        have t1 : True := trivial
        go_wp2_with (first | (have _t := t1; go_at_call 30; refine (T1 _).mono ?_; rintro e w1 ⟨rfl, j1, rfl⟩; clear t1) | (go_at_call 30; refine (T2 _).mono ?_; rintro e w2 ⟨rfl, j2, rfl⟩))
        go_ret3
        first
          | exact ⟨⟨z12, z9, by rw [(RR.out rfl).1]; rfl, (RR.out rfl).2⟩, belowN hB.out _⟩
          | exact ⟨⟨0, 0, by rw [(RG.out rfl).1]; rfl, (RG.out rfl).2⟩, belowN hB.out _⟩)
end Go.Proofs.YtbiknpfcemfoeaaDoor
