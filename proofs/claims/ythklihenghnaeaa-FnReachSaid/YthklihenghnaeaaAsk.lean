/- What is asked of an aquifer, one well, a place and times: the program's and the model's. No condition. -/
import Derived.Test.YthklihenghnaeaaOk
namespace Go.Proofs.Ythklihenghnaeaa
open Go Go.RowKit Ieee
set_option linter.unusedSimpArgs false
set_option linter.unusedVariables false
attribute [local go_sem] run_store_f32

/-- The code of what is asked. -/
def askV (T S : Nat) (X Y : Int) (R : Nat) (x y : Int) (ts : List Int) : Int := if (aqB T S && weB X Y R) = true then (if (plB x && plB y && ts.all tmB) = true then 0 else 2) else 1

theorem below_a (cs : Array Value) (t : TypeId) (w : World) : Below w.heap.size w (w.alloc (.cells cs t)) := (Below.refl _ _).alloc (Nat.le_refl _) _

set_option maxRecDepth 100000 in
set_option maxHeartbeats 2000000 in
theorem l03Asked_any (T S : Nat) (X Y : Int) (R : Nat) (hX : -128 ≤ X ∧ X ≤ 127) (hY : -128 ≤ Y ∧ Y ≤ 127) (x y t : Int) (b cap : Nat) (w : World) (hb : b < w.heap.size) (hr : w.rangeAt b 0 (We X Y R).toList) :
    Calls Try.prog 58 #[.agg (Aq T S), .slice (some ⟨b, 0, none⟩) 1 cap, .int .i64 x, .int .i64 y, .int .i64 t] w fun e w' => e = .returned (.int .i64 (askV T S X Y R x y [t])) ∧ Below w.heap.size w w' := by
  have hc0 : w.cell? ⟨b, 0, none⟩ = some (.int .i8 X) := hr 0 _ rfl
  have hc1 : w.cell? ⟨b, 1, none⟩ = some (.int .i8 Y) := hr 1 _ rfl
  have hc2 : w.cell? ⟨b, 2, none⟩ = some (.float .f32 R) := hr 2 _ rfl
  clear hr
  cases ca : aqB T S
  · have HV := Lib.hid (show askV T S X Y R x y [t] = 1 by simp only [askV, List.all, ca]; rfl)
    simp only [Aq]
    have ha := l03Aq_any T S
    rw [ca] at ha
    go_enter Try.func58, Try.ntmps58
    go_wp2_with (go_at_call 62; refine (ha _).mono ?_; rintro e V1 ⟨rfl, hq1⟩; have Q1 := Lib.hid ((below_a _ _ w).trans (hq1.mono (below_a _ _ w).size)); clear hq1)
    go_loopw [11, 12] (fun o i wr => i = .int .i64 0 ∧ o = .bool false ∧ Hid (Below w.heap.size w wr)) (fun _ _ _ => 0)
    case atStart => exact ⟨rfl, rfl, Q1.out⟩
    case round =>
      obtain ⟨rfl, rfl, hQ⟩ := hrel
      go_wp2
      go_ret
      exact ⟨by first | (rw [HV.out]; done) | (rw [HV.out]; rfl), hQ.out⟩
  · skip
    cases cw : weB X Y R
    · have HV := Lib.hid (show askV T S X Y R x y [t] = 1 by simp only [askV, List.all, ca, cw]; rfl)
      simp only [Aq]
      have ha := l03Aq_any T S
      rw [ca] at ha
      go_enter Try.func58, Try.ntmps58
      go_wp2_with (go_at_call 62; refine (ha _).mono ?_; rintro e V1 ⟨rfl, hq1⟩; have Q1 := Lib.hid ((below_a _ _ w).trans (hq1.mono (below_a _ _ w).size)); clear hq1)
      go_loopw [11, 12] (fun o i wr => ∃ k : Nat, k ≤ 1 ∧ i = .int .i64 (k : Int) ∧ o = .bool (k == 0 || false) ∧ Hid (Below w.heap.size w wr)) (fun _ i _ => 1 - (intOf i).toNat)
      case atStart => exact ⟨0, by omega, rfl, rfl, Q1.out⟩
      case round =>
        obtain ⟨k, hk, rfl, rfl, hQ⟩ := hrel
        by_cases hlt : k < 1
        · obtain rfl : k = 0 := by omega
          have c0 := (hQ.out.cell (p := ⟨b, 0, none⟩) hb).trans hc0
          have c1 := (hQ.out.cell (p := ⟨b, 1, none⟩) hb).trans hc1
          have c2 := (hQ.out.cell (p := ⟨b, 2, none⟩) hb).trans hc2
          go_wp2_with (go_at_call 80; have hc := l03Ok_any X Y R hX hY wr; rw [cw] at hc; unfold We at hc; refine hc.mono ?_; clear hc; rintro e V2 ⟨rfl, hq2⟩; have Q2 := Lib.hid (hQ.out.trans (hq2.mono hQ.out.size)); clear hq2)
          go_roundw
          case rel => exact ⟨1, by omega, rfl, rfl, Q2.out⟩
          case measure => simp [intOf]
        · obtain rfl : k = 1 := by omega
          have t1 : True := trivial
          have t2 : True := trivial
          go_wp2
          go_ret
          exact ⟨by first | (rw [HV.out]; done) | (rw [HV.out]; rfl), hQ.out⟩
    · skip
      cases cx : plB x
      · have HV := Lib.hid (show askV T S X Y R x y [t] = 2 by simp only [askV, List.all, ca, cw, cx]; rfl)
        simp only [Aq]
        have ha := l03Aq_any T S
        rw [ca] at ha
        go_enter Try.func58, Try.ntmps58
        go_wp2_with (go_at_call 62; refine (ha _).mono ?_; rintro e V1 ⟨rfl, hq1⟩; have Q1 := Lib.hid ((below_a _ _ w).trans (hq1.mono (below_a _ _ w).size)); clear hq1)
        go_loopw [11, 12] (fun o i wr => ∃ k : Nat, k ≤ 1 ∧ i = .int .i64 (k : Int) ∧ o = .bool (k == 0 || true) ∧ Hid (Below w.heap.size w wr)) (fun _ i _ => 1 - (intOf i).toNat)
        case atStart => exact ⟨0, by omega, rfl, rfl, Q1.out⟩
        case round =>
          obtain ⟨k, hk, rfl, rfl, hQ⟩ := hrel
          by_cases hlt : k < 1
          · obtain rfl : k = 0 := by omega
            have c0 := (hQ.out.cell (p := ⟨b, 0, none⟩) hb).trans hc0
            have c1 := (hQ.out.cell (p := ⟨b, 1, none⟩) hb).trans hc1
            have c2 := (hQ.out.cell (p := ⟨b, 2, none⟩) hb).trans hc2
            go_wp2_with (go_at_call 80; have hc := l03Ok_any X Y R hX hY wr; rw [cw] at hc; unfold We at hc; refine hc.mono ?_; clear hc; rintro e V2 ⟨rfl, hq2⟩; have Q2 := Lib.hid (hQ.out.trans (hq2.mono hQ.out.size)); clear hq2)
            go_roundw
            case rel => exact ⟨1, by omega, rfl, rfl, Q2.out⟩
            case measure => simp [intOf]
          · obtain rfl : k = 1 := by omega
            have t1 : True := trivial
            have t2 : True := trivial
            go_wp2_with (first | (have _t := t1; go_at_call 81; refine (place_is x false cx _).mono ?_; rintro e w' ⟨rfl, rfl⟩; clear t1))
            go_ret
            exact ⟨by first | (rw [HV.out]; done) | (rw [HV.out]; rfl), hQ.out⟩
      · skip
        cases cy : plB y
        · have HV := Lib.hid (show askV T S X Y R x y [t] = 2 by simp only [askV, List.all, ca, cw, cx, cy]; rfl)
          simp only [Aq]
          have ha := l03Aq_any T S
          rw [ca] at ha
          go_enter Try.func58, Try.ntmps58
          go_wp2_with (go_at_call 62; refine (ha _).mono ?_; rintro e V1 ⟨rfl, hq1⟩; have Q1 := Lib.hid ((below_a _ _ w).trans (hq1.mono (below_a _ _ w).size)); clear hq1)
          go_loopw [11, 12] (fun o i wr => ∃ k : Nat, k ≤ 1 ∧ i = .int .i64 (k : Int) ∧ o = .bool (k == 0 || true) ∧ Hid (Below w.heap.size w wr)) (fun _ i _ => 1 - (intOf i).toNat)
          case atStart => exact ⟨0, by omega, rfl, rfl, Q1.out⟩
          case round =>
            obtain ⟨k, hk, rfl, rfl, hQ⟩ := hrel
            by_cases hlt : k < 1
            · obtain rfl : k = 0 := by omega
              have c0 := (hQ.out.cell (p := ⟨b, 0, none⟩) hb).trans hc0
              have c1 := (hQ.out.cell (p := ⟨b, 1, none⟩) hb).trans hc1
              have c2 := (hQ.out.cell (p := ⟨b, 2, none⟩) hb).trans hc2
              go_wp2_with (go_at_call 80; have hc := l03Ok_any X Y R hX hY wr; rw [cw] at hc; unfold We at hc; refine hc.mono ?_; clear hc; rintro e V2 ⟨rfl, hq2⟩; have Q2 := Lib.hid (hQ.out.trans (hq2.mono hQ.out.size)); clear hq2)
              go_roundw
              case rel => exact ⟨1, by omega, rfl, rfl, Q2.out⟩
              case measure => simp [intOf]
            · obtain rfl : k = 1 := by omega
              have t1 : True := trivial
              have t2 : True := trivial
              go_wp2_with (first | (have _t := t1; go_at_call 81; refine (place_is x true cx _).mono ?_; rintro e w' ⟨rfl, rfl⟩; clear t1) | (have _t := t2; go_at_call 81; refine (place_is y false cy _).mono ?_; rintro e w' ⟨rfl, rfl⟩; clear t2))
              go_ret
              exact ⟨by first | (rw [HV.out]; done) | (rw [HV.out]; rfl), hQ.out⟩
        · skip
          cases ct : tmB t
          · have HV := Lib.hid (show askV T S X Y R x y [t] = 2 by simp only [askV, List.all, ca, cw, cx, cy, ct]; rfl)
            simp only [Aq]
            have ha := l03Aq_any T S
            rw [ca] at ha
            go_enter Try.func58, Try.ntmps58
            go_wp2_with (go_at_call 62; refine (ha _).mono ?_; rintro e V1 ⟨rfl, hq1⟩; have Q1 := Lib.hid ((below_a _ _ w).trans (hq1.mono (below_a _ _ w).size)); clear hq1)
            go_loopw [11, 12] (fun o i wr => ∃ k : Nat, k ≤ 1 ∧ i = .int .i64 (k : Int) ∧ o = .bool (k == 0 || true) ∧ Hid (Below w.heap.size w wr)) (fun _ i _ => 1 - (intOf i).toNat)
            case atStart => exact ⟨0, by omega, rfl, rfl, Q1.out⟩
            case round =>
              obtain ⟨k, hk, rfl, rfl, hQ⟩ := hrel
              by_cases hlt : k < 1
              · obtain rfl : k = 0 := by omega
                have c0 := (hQ.out.cell (p := ⟨b, 0, none⟩) hb).trans hc0
                have c1 := (hQ.out.cell (p := ⟨b, 1, none⟩) hb).trans hc1
                have c2 := (hQ.out.cell (p := ⟨b, 2, none⟩) hb).trans hc2
                go_wp2_with (go_at_call 80; have hc := l03Ok_any X Y R hX hY wr; rw [cw] at hc; unfold We at hc; refine hc.mono ?_; clear hc; rintro e V2 ⟨rfl, hq2⟩; have Q2 := Lib.hid (hQ.out.trans (hq2.mono hQ.out.size)); clear hq2)
                go_roundw
                case rel => exact ⟨1, by omega, rfl, rfl, Q2.out⟩
                case measure => simp [intOf]
              · obtain rfl : k = 1 := by omega
                have t1 : True := trivial
                have t2 : True := trivial
                go_wp2_with (first | (have _t := t1; go_at_call 81; refine (place_is x true cx _).mono ?_; rintro e w' ⟨rfl, rfl⟩; clear t1) | (have _t := t2; go_at_call 81; refine (place_is y true cy _).mono ?_; rintro e w' ⟨rfl, rfl⟩; clear t2) | (go_at_call 67; refine (moment_is t false ct _).mono ?_; rintro e w' ⟨rfl, rfl⟩))
                go_ret
                exact ⟨by first | (rw [HV.out]; done) | (rw [HV.out]; rfl), hQ.out⟩
          · have HV := Lib.hid (show askV T S X Y R x y [t] = 0 by simp only [askV, List.all, ca, cw, cx, cy, ct]; rfl)
            simp only [Aq]
            have ha := l03Aq_any T S
            rw [ca] at ha
            go_enter Try.func58, Try.ntmps58
            go_wp2_with (go_at_call 62; refine (ha _).mono ?_; rintro e V1 ⟨rfl, hq1⟩; have Q1 := Lib.hid ((below_a _ _ w).trans (hq1.mono (below_a _ _ w).size)); clear hq1)
            go_loopw [11, 12] (fun o i wr => ∃ k : Nat, k ≤ 1 ∧ i = .int .i64 (k : Int) ∧ o = .bool (k == 0 || true) ∧ Hid (Below w.heap.size w wr)) (fun _ i _ => 1 - (intOf i).toNat)
            case atStart => exact ⟨0, by omega, rfl, rfl, Q1.out⟩
            case round =>
              obtain ⟨k, hk, rfl, rfl, hQ⟩ := hrel
              by_cases hlt : k < 1
              · obtain rfl : k = 0 := by omega
                have c0 := (hQ.out.cell (p := ⟨b, 0, none⟩) hb).trans hc0
                have c1 := (hQ.out.cell (p := ⟨b, 1, none⟩) hb).trans hc1
                have c2 := (hQ.out.cell (p := ⟨b, 2, none⟩) hb).trans hc2
                go_wp2_with (go_at_call 80; have hc := l03Ok_any X Y R hX hY wr; rw [cw] at hc; unfold We at hc; refine hc.mono ?_; clear hc; rintro e V2 ⟨rfl, hq2⟩; have Q2 := Lib.hid (hQ.out.trans (hq2.mono hQ.out.size)); clear hq2)
                go_roundw
                case rel => exact ⟨1, by omega, rfl, rfl, Q2.out⟩
                case measure => simp [intOf]
              · obtain rfl : k = 1 := by omega
                have t1 : True := trivial
                have t2 : True := trivial
                go_wp2_with (first | (have _t := t1; go_at_call 81; refine (place_is x true cx _).mono ?_; rintro e w' ⟨rfl, rfl⟩; clear t1) | (have _t := t2; go_at_call 81; refine (place_is y true cy _).mono ?_; rintro e w' ⟨rfl, rfl⟩; clear t2) | (go_at_call 67; refine (moment_is t true ct _).mono ?_; rintro e w' ⟨rfl, rfl⟩))
                go_ret
                exact ⟨by first | (rw [HV.out]; done) | (rw [HV.out]; rfl), hQ.out⟩

-- THE PROGRAM

set_option maxRecDepth 100000 in
set_option maxHeartbeats 2000000 in
theorem areValid_any (X Y : Int) (R : Nat) (hX : -128 ≤ X ∧ X ≤ 127) (hY : -128 ≤ Y ∧ Y ≤ 127) (b cap : Nat) (w : World) (hb : b < w.heap.size) (hr : w.rangeAt b 0 (We X Y R).toList) :
    Calls Try.prog 86 #[.slice (some ⟨b, 0, none⟩) 1 cap] w fun e w' => e = .returned (.bool (weB X Y R)) ∧ Below w.heap.size w w' := by
  have hc0 : w.cell? ⟨b, 0, none⟩ = some (.int .i8 X) := hr 0 _ rfl
  have hc1 : w.cell? ⟨b, 1, none⟩ = some (.int .i8 Y) := hr 1 _ rfl
  have hc2 : w.cell? ⟨b, 2, none⟩ = some (.float .f32 R) := hr 2 _ rfl
  clear hr
  cases cw : weB X Y R
  · go_enter Try.func86, Try.ntmps86
    go_wp2
    go_loopw [7] (fun i wr => ∃ k : Nat, k ≤ 0 ∧ i = .int .i64 (k : Int) ∧ Hid (Below w.heap.size w wr)) (fun i _ => 1 - (intOf i).toNat)
    case atStart => exact ⟨0, by omega, rfl, Lib.hid (Below.refl _ _)⟩
    case round =>
      obtain ⟨k, hk, rfl, hQ⟩ := hrel
      by_cases hlt : k < 1
      · obtain rfl : k = 0 := by omega
        have c0 := (hQ.out.cell (p := ⟨b, 0, none⟩) hb).trans hc0
        have c1 := (hQ.out.cell (p := ⟨b, 1, none⟩) hb).trans hc1
        have c2 := (hQ.out.cell (p := ⟨b, 2, none⟩) hb).trans hc2
        go_wp2_with (go_at_call 75; have hc := validWell_any X Y R hX hY (wr.alloc (.cells #[.int .i8 X, .int .i8 Y, .float .f32 R] 30)); rw [cw] at hc; unfold We at hc; refine hc.mono ?_; clear hc; rintro e V2 ⟨rfl, hq2⟩; have Q2 := Lib.hid (hQ.out.trans ((below_a _ _ wr).trans (hq2.mono (below_a _ _ wr).size) |>.mono hQ.out.size)); clear hq2)
        go_ret
        exact ⟨rfl, Q2.out⟩
      · omega
  · go_enter Try.func86, Try.ntmps86
    go_wp2
    go_loopw [7] (fun i wr => ∃ k : Nat, k ≤ 1 ∧ i = .int .i64 (k : Int) ∧ Hid (Below w.heap.size w wr)) (fun i _ => 1 - (intOf i).toNat)
    case atStart => exact ⟨0, by omega, rfl, Lib.hid (Below.refl _ _)⟩
    case round =>
      obtain ⟨k, hk, rfl, hQ⟩ := hrel
      by_cases hlt : k < 1
      · obtain rfl : k = 0 := by omega
        have c0 := (hQ.out.cell (p := ⟨b, 0, none⟩) hb).trans hc0
        have c1 := (hQ.out.cell (p := ⟨b, 1, none⟩) hb).trans hc1
        have c2 := (hQ.out.cell (p := ⟨b, 2, none⟩) hb).trans hc2
        go_wp2_with (go_at_call 75; have hc := validWell_any X Y R hX hY (wr.alloc (.cells #[.int .i8 X, .int .i8 Y, .float .f32 R] 30)); rw [cw] at hc; unfold We at hc; refine hc.mono ?_; clear hc; rintro e V2 ⟨rfl, hq2⟩; have Q2 := Lib.hid (hQ.out.trans ((below_a _ _ wr).trans (hq2.mono (below_a _ _ wr).size) |>.mono hQ.out.size)); clear hq2)
        go_roundw
        case rel => exact ⟨1, by omega, rfl, Q2.out⟩
        case measure => simp [intOf]
      · obtain rfl : k = 1 := by omega
        go_wp2
        go_ret
        exact ⟨rfl, hQ.out⟩

theorem rangeAt_below {n : Nat} {w V : World} {b o : Nat} {cs : List Value} (hV : Below n w V) (hb : b < n) (h : w.rangeAt b o cs) : V.rangeAt b o cs := fun i v hi => (hV.cell (p := ⟨b, o + i, none⟩) hb).trans (h i v hi)

set_option maxRecDepth 100000 in
set_option maxHeartbeats 2000000 in
theorem checkWells_any (T S : Nat) (X Y : Int) (R : Nat) (hX : -128 ≤ X ∧ X ≤ 127) (hY : -128 ≤ Y ∧ Y ≤ 127) (x y t : Int) (b cap c cap2 : Nat) (w : World) (hb : b < w.heap.size) (hr : w.rangeAt b 0 (We X Y R).toList) (hc : c < w.heap.size) (hrt : w.rangeAt c 0 [.int .i64 t]) :
    Calls Try.prog 78 #[.agg (Aq T S), .slice (some ⟨b, 0, none⟩) 1 cap, .agg (Pc x y), .slice (some ⟨c, 0, none⟩) 1 cap2] w fun e w' => e = .returned (.int .i64 (askV T S X Y R x y [t])) ∧ Below w.heap.size w w' := by
  have hd0 : w.cell? ⟨c, 0, none⟩ = some (.int .i64 t) := hrt 0 _ rfl
  clear hrt
  have B0 : Below w.heap.size w ((w.alloc (.cells #[.float .f32 T, .float .f32 S] 26)).alloc (.cells #[.int .i64 x, .int .i64 y] 82)) := ((Below.refl _ _).alloc (Nat.le_refl _) _).alloc (by simp) _
  have HZ : ((w.alloc (.cells #[.float .f32 T, .float .f32 S] 26)).alloc (.cells #[.int .i64 x, .int .i64 y] 82)).heap.size = w.heap.size + 2 := by simp
  have P0 : ((w.alloc (.cells #[.float .f32 T, .float .f32 S] 26)).alloc (.cells #[.int .i64 x, .int .i64 y] 82)).cell? ⟨w.heap.size + 1, 0, none⟩ = some (.int .i64 x) := by
    rw [← show (w.alloc (.cells #[.float .f32 T, .float .f32 S] 26)).heap.size = w.heap.size + 1 by simp]
    exact cell_of_row _ _ 0 _ _ _ (heap_alloc_last _ _)
  have P1 : ((w.alloc (.cells #[.float .f32 T, .float .f32 S] 26)).alloc (.cells #[.int .i64 x, .int .i64 y] 82)).cell? ⟨w.heap.size + 1, 1, none⟩ = some (.int .i64 y) := by
    rw [← show (w.alloc (.cells #[.float .f32 T, .float .f32 S] 26)).heap.size = w.heap.size + 1 by simp]
    exact cell_of_row _ _ 1 _ _ _ (heap_alloc_last _ _)
  have HR := fun V (hV : Below w.heap.size w V) => rangeAt_below hV hb hr
  have HB := Lib.hid (show b < ((w.alloc (.cells #[.float .f32 T, .float .f32 S] 26)).alloc (.cells #[.int .i64 x, .int .i64 y] 82)).heap.size by omega)
  clear hr
  simp only [Aq, Pc]
  cases ca : aqB T S
  · skip
    have HV := Lib.hid (show askV T S X Y R x y [t] = 1 by simp only [askV, List.all, ca]; rfl)
    go_enter Try.func78, Try.ntmps78
    go_wp2_with (first | (go_at_call 27; have hq := implAq_any T S ((w.alloc (.cells #[.float .f32 T, .float .f32 S] 26)).alloc (.cells #[.int .i64 x, .int .i64 y] 82)); rw [ca] at hq; unfold Aq at hq; refine hq.mono ?_; clear hq; rintro e V1 ⟨rfl, hq1⟩; have Q1 := Lib.hid hq1; clear hq1))
    go_ret
    exact ⟨by first | (rw [HV.out]; done) | (rw [HV.out]; rfl), B0.trans (Q1.out.mono B0.size)⟩
  · skip
    cases cw : weB X Y R
    · skip
      have HV := Lib.hid (show askV T S X Y R x y [t] = 1 by simp only [askV, List.all, ca, cw]; rfl)
      go_enter Try.func78, Try.ntmps78
      go_wp2_with (first | (go_at_call 27; have hq := implAq_any T S ((w.alloc (.cells #[.float .f32 T, .float .f32 S] 26)).alloc (.cells #[.int .i64 x, .int .i64 y] 82)); rw [ca] at hq; unfold Aq at hq; refine hq.mono ?_; clear hq; rintro e V1 ⟨rfl, hq1⟩; have Q1 := Lib.hid hq1; clear hq1) | (go_at_call 86; have hq := areValid_any X Y R hX hY b cap V1 (Nat.lt_of_lt_of_le HB.out Q1.out.size) (HR _ (B0.trans (Q1.out.mono B0.size))); rw [cw] at hq; refine hq.mono ?_; clear hq; rintro e V2 ⟨rfl, hq2⟩; have Q2 := Lib.hid (Q1.out.trans (hq2.mono Q1.out.size)); clear hq2; have p0 := (Q2.out.cell (p := ⟨w.heap.size + 1, 0, none⟩) (by show w.heap.size + 1 < _; omega)).trans P0; have p1 := (Q2.out.cell (p := ⟨w.heap.size + 1, 1, none⟩) (by show w.heap.size + 1 < _; omega)).trans P1; clear HR))
      go_ret
      exact ⟨by first | (rw [HV.out]; done) | (rw [HV.out]; rfl), B0.trans (Q2.out.mono B0.size)⟩
    · skip
      cases cn : (plB x && plB y)
      · skip
        have HV := Lib.hid (show askV T S X Y R x y [t] = 2 by simp only [askV, List.all, ca, cw, cn]; rfl)
        go_enter Try.func78, Try.ntmps78
        go_wp2_with (first | (go_at_call 27; have hq := implAq_any T S ((w.alloc (.cells #[.float .f32 T, .float .f32 S] 26)).alloc (.cells #[.int .i64 x, .int .i64 y] 82)); rw [ca] at hq; unfold Aq at hq; refine hq.mono ?_; clear hq; rintro e V1 ⟨rfl, hq1⟩; have Q1 := Lib.hid hq1; clear hq1) | (go_at_call 86; have hq := areValid_any X Y R hX hY b cap V1 (Nat.lt_of_lt_of_le HB.out Q1.out.size) (HR _ (B0.trans (Q1.out.mono B0.size))); rw [cw] at hq; refine hq.mono ?_; clear hq; rintro e V2 ⟨rfl, hq2⟩; have Q2 := Lib.hid (Q1.out.trans (hq2.mono Q1.out.size)); clear hq2; have p0 := (Q2.out.cell (p := ⟨w.heap.size + 1, 0, none⟩) (by show w.heap.size + 1 < _; omega)).trans P0; have p1 := (Q2.out.cell (p := ⟨w.heap.size + 1, 1, none⟩) (by show w.heap.size + 1 < _; omega)).trans P1; clear HR) | (go_at_call 60; have hq := isNear_is x y V2; rw [cn] at hq; unfold Pc at hq; refine hq.mono ?_; clear hq; rintro e V3 ⟨rfl, hq3⟩; have Q3 := Lib.hid (Q2.out.trans (hq3.mono Q2.out.size)); clear hq3))
        go_ret
        exact ⟨by first | (rw [HV.out]; done) | (rw [HV.out]; rfl), B0.trans (Q3.out.mono B0.size)⟩
      · skip
        cases ct0 : tmB t
        · skip
          have HV := Lib.hid (show askV T S X Y R x y [t] = 2 by simp only [askV, List.all, ca, cw, cn, ct0]; rfl)
          go_enter Try.func78, Try.ntmps78
          go_wp2_with (first | (go_at_call 27; have hq := implAq_any T S ((w.alloc (.cells #[.float .f32 T, .float .f32 S] 26)).alloc (.cells #[.int .i64 x, .int .i64 y] 82)); rw [ca] at hq; unfold Aq at hq; refine hq.mono ?_; clear hq; rintro e V1 ⟨rfl, hq1⟩; have Q1 := Lib.hid hq1; clear hq1) | (go_at_call 86; have hq := areValid_any X Y R hX hY b cap V1 (Nat.lt_of_lt_of_le HB.out Q1.out.size) (HR _ (B0.trans (Q1.out.mono B0.size))); rw [cw] at hq; refine hq.mono ?_; clear hq; rintro e V2 ⟨rfl, hq2⟩; have Q2 := Lib.hid (Q1.out.trans (hq2.mono Q1.out.size)); clear hq2; have p0 := (Q2.out.cell (p := ⟨w.heap.size + 1, 0, none⟩) (by show w.heap.size + 1 < _; omega)).trans P0; have p1 := (Q2.out.cell (p := ⟨w.heap.size + 1, 1, none⟩) (by show w.heap.size + 1 < _; omega)).trans P1; clear HR) | (go_at_call 60; have hq := isNear_is x y V2; rw [cn] at hq; unfold Pc at hq; refine hq.mono ?_; clear hq; rintro e V3 ⟨rfl, hq3⟩; have Q3 := Lib.hid (Q2.out.trans (hq3.mono Q2.out.size)); clear hq3))
          go_loopw [27] (fun i wr => ∃ k : Nat, k ≤ 0 ∧ i = .int .i64 (k : Int) ∧ Hid (Below ((w.alloc (.cells #[.float .f32 T, .float .f32 S] 26)).alloc (.cells #[.int .i64 x, .int .i64 y] 82)).heap.size ((w.alloc (.cells #[.float .f32 T, .float .f32 S] 26)).alloc (.cells #[.int .i64 x, .int .i64 y] 82)) wr)) (fun i _ => 1 - (intOf i).toNat)
          case atStart => exact ⟨0, by omega, rfl, Q3⟩
          case round =>
            obtain ⟨k, hk, rfl, hQ⟩ := hrel
            by_cases hlt0 : k < 1
            · obtain rfl : k = 0 := by omega
              have d := (hQ.out.cell (p := ⟨c, 0, none⟩) (by show c < _; omega)).trans ((B0.cell (p := ⟨c, 0, none⟩) hc).trans hd0)
              go_wp2_with (go_at_call 71; refine (isMoment_is t _ ct0 _).mono ?_; rintro e w' ⟨rfl, rfl⟩)
              go_ret
              exact ⟨by first | (rw [HV.out]; done) | (rw [HV.out]; rfl), B0.trans (hQ.out.mono B0.size)⟩
            · skip
              omega
        · skip
          have HV := Lib.hid (show askV T S X Y R x y [t] = 0 by simp only [askV, List.all, ca, cw, cn, ct0]; rfl)
          go_enter Try.func78, Try.ntmps78
          go_wp2_with (first | (go_at_call 27; have hq := implAq_any T S ((w.alloc (.cells #[.float .f32 T, .float .f32 S] 26)).alloc (.cells #[.int .i64 x, .int .i64 y] 82)); rw [ca] at hq; unfold Aq at hq; refine hq.mono ?_; clear hq; rintro e V1 ⟨rfl, hq1⟩; have Q1 := Lib.hid hq1; clear hq1) | (go_at_call 86; have hq := areValid_any X Y R hX hY b cap V1 (Nat.lt_of_lt_of_le HB.out Q1.out.size) (HR _ (B0.trans (Q1.out.mono B0.size))); rw [cw] at hq; refine hq.mono ?_; clear hq; rintro e V2 ⟨rfl, hq2⟩; have Q2 := Lib.hid (Q1.out.trans (hq2.mono Q1.out.size)); clear hq2; have p0 := (Q2.out.cell (p := ⟨w.heap.size + 1, 0, none⟩) (by show w.heap.size + 1 < _; omega)).trans P0; have p1 := (Q2.out.cell (p := ⟨w.heap.size + 1, 1, none⟩) (by show w.heap.size + 1 < _; omega)).trans P1; clear HR) | (go_at_call 60; have hq := isNear_is x y V2; rw [cn] at hq; unfold Pc at hq; refine hq.mono ?_; clear hq; rintro e V3 ⟨rfl, hq3⟩; have Q3 := Lib.hid (Q2.out.trans (hq3.mono Q2.out.size)); clear hq3))
          go_loopw [27] (fun i wr => ∃ k : Nat, k ≤ 1 ∧ i = .int .i64 (k : Int) ∧ Hid (Below ((w.alloc (.cells #[.float .f32 T, .float .f32 S] 26)).alloc (.cells #[.int .i64 x, .int .i64 y] 82)).heap.size ((w.alloc (.cells #[.float .f32 T, .float .f32 S] 26)).alloc (.cells #[.int .i64 x, .int .i64 y] 82)) wr)) (fun i _ => 1 - (intOf i).toNat)
          case atStart => exact ⟨0, by omega, rfl, Q3⟩
          case round =>
            obtain ⟨k, hk, rfl, hQ⟩ := hrel
            by_cases hlt0 : k < 1
            · obtain rfl : k = 0 := by omega
              have d := (hQ.out.cell (p := ⟨c, 0, none⟩) (by show c < _; omega)).trans ((B0.cell (p := ⟨c, 0, none⟩) hc).trans hd0)
              go_wp2_with (go_at_call 71; refine (isMoment_is t _ ct0 _).mono ?_; rintro e w' ⟨rfl, rfl⟩)
              go_roundw
              case rel => exact ⟨1, by omega, rfl, hQ⟩
              case measure => simp [intOf]
            · skip
              obtain rfl : k = 1 := by omega
              go_wp2
              go_ret
              exact ⟨by first | (rw [HV.out]; done) | (rw [HV.out]; rfl), B0.trans (hQ.out.mono B0.size)⟩

set_option maxRecDepth 100000 in
set_option maxHeartbeats 2000000 in
theorem checkWells2_any (T S : Nat) (X Y : Int) (R : Nat) (hX : -128 ≤ X ∧ X ≤ 127) (hY : -128 ≤ Y ∧ Y ≤ 127) (x y t0 t1 : Int) (b cap c cap2 : Nat) (w : World) (hb : b < w.heap.size) (hr : w.rangeAt b 0 (We X Y R).toList) (hc : c < w.heap.size) (hrt : w.rangeAt c 0 [.int .i64 t0, .int .i64 t1]) :
    Calls Try.prog 78 #[.agg (Aq T S), .slice (some ⟨b, 0, none⟩) 1 cap, .agg (Pc x y), .slice (some ⟨c, 0, none⟩) 2 cap2] w fun e w' => e = .returned (.int .i64 (askV T S X Y R x y [t0, t1])) ∧ Below w.heap.size w w' := by
  have hd0 : w.cell? ⟨c, 0, none⟩ = some (.int .i64 t0) := hrt 0 _ rfl
  have hd1 : w.cell? ⟨c, 1, none⟩ = some (.int .i64 t1) := hrt 1 _ rfl
  clear hrt
  have B0 : Below w.heap.size w ((w.alloc (.cells #[.float .f32 T, .float .f32 S] 26)).alloc (.cells #[.int .i64 x, .int .i64 y] 82)) := ((Below.refl _ _).alloc (Nat.le_refl _) _).alloc (by simp) _
  have HZ : ((w.alloc (.cells #[.float .f32 T, .float .f32 S] 26)).alloc (.cells #[.int .i64 x, .int .i64 y] 82)).heap.size = w.heap.size + 2 := by simp
  have P0 : ((w.alloc (.cells #[.float .f32 T, .float .f32 S] 26)).alloc (.cells #[.int .i64 x, .int .i64 y] 82)).cell? ⟨w.heap.size + 1, 0, none⟩ = some (.int .i64 x) := by
    rw [← show (w.alloc (.cells #[.float .f32 T, .float .f32 S] 26)).heap.size = w.heap.size + 1 by simp]
    exact cell_of_row _ _ 0 _ _ _ (heap_alloc_last _ _)
  have P1 : ((w.alloc (.cells #[.float .f32 T, .float .f32 S] 26)).alloc (.cells #[.int .i64 x, .int .i64 y] 82)).cell? ⟨w.heap.size + 1, 1, none⟩ = some (.int .i64 y) := by
    rw [← show (w.alloc (.cells #[.float .f32 T, .float .f32 S] 26)).heap.size = w.heap.size + 1 by simp]
    exact cell_of_row _ _ 1 _ _ _ (heap_alloc_last _ _)
  have HR := fun V (hV : Below w.heap.size w V) => rangeAt_below hV hb hr
  have HB := Lib.hid (show b < ((w.alloc (.cells #[.float .f32 T, .float .f32 S] 26)).alloc (.cells #[.int .i64 x, .int .i64 y] 82)).heap.size by omega)
  clear hr
  simp only [Aq, Pc]
  cases ca : aqB T S
  · skip
    have HV := Lib.hid (show askV T S X Y R x y [t0, t1] = 1 by simp only [askV, List.all, ca]; rfl)
    go_enter Try.func78, Try.ntmps78
    go_wp2_with (first | (go_at_call 27; have hq := implAq_any T S ((w.alloc (.cells #[.float .f32 T, .float .f32 S] 26)).alloc (.cells #[.int .i64 x, .int .i64 y] 82)); rw [ca] at hq; unfold Aq at hq; refine hq.mono ?_; clear hq; rintro e V1 ⟨rfl, hq1⟩; have Q1 := Lib.hid hq1; clear hq1))
    go_ret
    exact ⟨by first | (rw [HV.out]; done) | (rw [HV.out]; rfl), B0.trans (Q1.out.mono B0.size)⟩
  · skip
    cases cw : weB X Y R
    · skip
      have HV := Lib.hid (show askV T S X Y R x y [t0, t1] = 1 by simp only [askV, List.all, ca, cw]; rfl)
      go_enter Try.func78, Try.ntmps78
      go_wp2_with (first | (go_at_call 27; have hq := implAq_any T S ((w.alloc (.cells #[.float .f32 T, .float .f32 S] 26)).alloc (.cells #[.int .i64 x, .int .i64 y] 82)); rw [ca] at hq; unfold Aq at hq; refine hq.mono ?_; clear hq; rintro e V1 ⟨rfl, hq1⟩; have Q1 := Lib.hid hq1; clear hq1) | (go_at_call 86; have hq := areValid_any X Y R hX hY b cap V1 (Nat.lt_of_lt_of_le HB.out Q1.out.size) (HR _ (B0.trans (Q1.out.mono B0.size))); rw [cw] at hq; refine hq.mono ?_; clear hq; rintro e V2 ⟨rfl, hq2⟩; have Q2 := Lib.hid (Q1.out.trans (hq2.mono Q1.out.size)); clear hq2; have p0 := (Q2.out.cell (p := ⟨w.heap.size + 1, 0, none⟩) (by show w.heap.size + 1 < _; omega)).trans P0; have p1 := (Q2.out.cell (p := ⟨w.heap.size + 1, 1, none⟩) (by show w.heap.size + 1 < _; omega)).trans P1; clear HR))
      go_ret
      exact ⟨by first | (rw [HV.out]; done) | (rw [HV.out]; rfl), B0.trans (Q2.out.mono B0.size)⟩
    · skip
      cases cn : (plB x && plB y)
      · skip
        have HV := Lib.hid (show askV T S X Y R x y [t0, t1] = 2 by simp only [askV, List.all, ca, cw, cn]; rfl)
        go_enter Try.func78, Try.ntmps78
        go_wp2_with (first | (go_at_call 27; have hq := implAq_any T S ((w.alloc (.cells #[.float .f32 T, .float .f32 S] 26)).alloc (.cells #[.int .i64 x, .int .i64 y] 82)); rw [ca] at hq; unfold Aq at hq; refine hq.mono ?_; clear hq; rintro e V1 ⟨rfl, hq1⟩; have Q1 := Lib.hid hq1; clear hq1) | (go_at_call 86; have hq := areValid_any X Y R hX hY b cap V1 (Nat.lt_of_lt_of_le HB.out Q1.out.size) (HR _ (B0.trans (Q1.out.mono B0.size))); rw [cw] at hq; refine hq.mono ?_; clear hq; rintro e V2 ⟨rfl, hq2⟩; have Q2 := Lib.hid (Q1.out.trans (hq2.mono Q1.out.size)); clear hq2; have p0 := (Q2.out.cell (p := ⟨w.heap.size + 1, 0, none⟩) (by show w.heap.size + 1 < _; omega)).trans P0; have p1 := (Q2.out.cell (p := ⟨w.heap.size + 1, 1, none⟩) (by show w.heap.size + 1 < _; omega)).trans P1; clear HR) | (go_at_call 60; have hq := isNear_is x y V2; rw [cn] at hq; unfold Pc at hq; refine hq.mono ?_; clear hq; rintro e V3 ⟨rfl, hq3⟩; have Q3 := Lib.hid (Q2.out.trans (hq3.mono Q2.out.size)); clear hq3))
        go_ret
        exact ⟨by first | (rw [HV.out]; done) | (rw [HV.out]; rfl), B0.trans (Q3.out.mono B0.size)⟩
      · skip
        cases ct0 : tmB t0
        · skip
          have HV := Lib.hid (show askV T S X Y R x y [t0, t1] = 2 by simp only [askV, List.all, ca, cw, cn, ct0]; rfl)
          go_enter Try.func78, Try.ntmps78
          go_wp2_with (first | (go_at_call 27; have hq := implAq_any T S ((w.alloc (.cells #[.float .f32 T, .float .f32 S] 26)).alloc (.cells #[.int .i64 x, .int .i64 y] 82)); rw [ca] at hq; unfold Aq at hq; refine hq.mono ?_; clear hq; rintro e V1 ⟨rfl, hq1⟩; have Q1 := Lib.hid hq1; clear hq1) | (go_at_call 86; have hq := areValid_any X Y R hX hY b cap V1 (Nat.lt_of_lt_of_le HB.out Q1.out.size) (HR _ (B0.trans (Q1.out.mono B0.size))); rw [cw] at hq; refine hq.mono ?_; clear hq; rintro e V2 ⟨rfl, hq2⟩; have Q2 := Lib.hid (Q1.out.trans (hq2.mono Q1.out.size)); clear hq2; have p0 := (Q2.out.cell (p := ⟨w.heap.size + 1, 0, none⟩) (by show w.heap.size + 1 < _; omega)).trans P0; have p1 := (Q2.out.cell (p := ⟨w.heap.size + 1, 1, none⟩) (by show w.heap.size + 1 < _; omega)).trans P1; clear HR) | (go_at_call 60; have hq := isNear_is x y V2; rw [cn] at hq; unfold Pc at hq; refine hq.mono ?_; clear hq; rintro e V3 ⟨rfl, hq3⟩; have Q3 := Lib.hid (Q2.out.trans (hq3.mono Q2.out.size)); clear hq3))
          go_loopw [27] (fun i wr => ∃ k : Nat, k ≤ 0 ∧ i = .int .i64 (k : Int) ∧ Hid (Below ((w.alloc (.cells #[.float .f32 T, .float .f32 S] 26)).alloc (.cells #[.int .i64 x, .int .i64 y] 82)).heap.size ((w.alloc (.cells #[.float .f32 T, .float .f32 S] 26)).alloc (.cells #[.int .i64 x, .int .i64 y] 82)) wr)) (fun i _ => 2 - (intOf i).toNat)
          case atStart => exact ⟨0, by omega, rfl, Q3⟩
          case round =>
            obtain ⟨k, hk, rfl, hQ⟩ := hrel
            by_cases hlt0 : k < 1
            · obtain rfl : k = 0 := by omega
              have d := (hQ.out.cell (p := ⟨c, 0, none⟩) (by show c < _; omega)).trans ((B0.cell (p := ⟨c, 0, none⟩) hc).trans hd0)
              go_wp2_with (go_at_call 71; refine (isMoment_is t0 _ ct0 _).mono ?_; rintro e w' ⟨rfl, rfl⟩)
              go_ret
              exact ⟨by first | (rw [HV.out]; done) | (rw [HV.out]; rfl), B0.trans (hQ.out.mono B0.size)⟩
            · skip
              omega
        · skip
          cases ct1 : tmB t1
          · skip
            have HV := Lib.hid (show askV T S X Y R x y [t0, t1] = 2 by simp only [askV, List.all, ca, cw, cn, ct0, ct1]; rfl)
            go_enter Try.func78, Try.ntmps78
            go_wp2_with (first | (go_at_call 27; have hq := implAq_any T S ((w.alloc (.cells #[.float .f32 T, .float .f32 S] 26)).alloc (.cells #[.int .i64 x, .int .i64 y] 82)); rw [ca] at hq; unfold Aq at hq; refine hq.mono ?_; clear hq; rintro e V1 ⟨rfl, hq1⟩; have Q1 := Lib.hid hq1; clear hq1) | (go_at_call 86; have hq := areValid_any X Y R hX hY b cap V1 (Nat.lt_of_lt_of_le HB.out Q1.out.size) (HR _ (B0.trans (Q1.out.mono B0.size))); rw [cw] at hq; refine hq.mono ?_; clear hq; rintro e V2 ⟨rfl, hq2⟩; have Q2 := Lib.hid (Q1.out.trans (hq2.mono Q1.out.size)); clear hq2; have p0 := (Q2.out.cell (p := ⟨w.heap.size + 1, 0, none⟩) (by show w.heap.size + 1 < _; omega)).trans P0; have p1 := (Q2.out.cell (p := ⟨w.heap.size + 1, 1, none⟩) (by show w.heap.size + 1 < _; omega)).trans P1; clear HR) | (go_at_call 60; have hq := isNear_is x y V2; rw [cn] at hq; unfold Pc at hq; refine hq.mono ?_; clear hq; rintro e V3 ⟨rfl, hq3⟩; have Q3 := Lib.hid (Q2.out.trans (hq3.mono Q2.out.size)); clear hq3))
            go_loopw [27] (fun i wr => ∃ k : Nat, k ≤ 1 ∧ i = .int .i64 (k : Int) ∧ Hid (Below ((w.alloc (.cells #[.float .f32 T, .float .f32 S] 26)).alloc (.cells #[.int .i64 x, .int .i64 y] 82)).heap.size ((w.alloc (.cells #[.float .f32 T, .float .f32 S] 26)).alloc (.cells #[.int .i64 x, .int .i64 y] 82)) wr)) (fun i _ => 2 - (intOf i).toNat)
            case atStart => exact ⟨0, by omega, rfl, Q3⟩
            case round =>
              obtain ⟨k, hk, rfl, hQ⟩ := hrel
              by_cases hlt0 : k < 1
              · obtain rfl : k = 0 := by omega
                have d := (hQ.out.cell (p := ⟨c, 0, none⟩) (by show c < _; omega)).trans ((B0.cell (p := ⟨c, 0, none⟩) hc).trans hd0)
                go_wp2_with (go_at_call 71; refine (isMoment_is t0 _ ct0 _).mono ?_; rintro e w' ⟨rfl, rfl⟩)
                go_roundw
                case rel => exact ⟨1, by omega, rfl, hQ⟩
                case measure => simp [intOf]
              · skip
                by_cases hlt1 : k < 2
                · obtain rfl : k = 1 := by omega
                  have d := (hQ.out.cell (p := ⟨c, 1, none⟩) (by show c < _; omega)).trans ((B0.cell (p := ⟨c, 1, none⟩) hc).trans hd1)
                  go_wp2_with (go_at_call 71; refine (isMoment_is t1 _ ct1 _).mono ?_; rintro e w' ⟨rfl, rfl⟩)
                  go_ret
                  exact ⟨by first | (rw [HV.out]; done) | (rw [HV.out]; rfl), B0.trans (hQ.out.mono B0.size)⟩
                · skip
                  omega
          · skip
            have HV := Lib.hid (show askV T S X Y R x y [t0, t1] = 0 by simp only [askV, List.all, ca, cw, cn, ct0, ct1]; rfl)
            go_enter Try.func78, Try.ntmps78
            go_wp2_with (first | (go_at_call 27; have hq := implAq_any T S ((w.alloc (.cells #[.float .f32 T, .float .f32 S] 26)).alloc (.cells #[.int .i64 x, .int .i64 y] 82)); rw [ca] at hq; unfold Aq at hq; refine hq.mono ?_; clear hq; rintro e V1 ⟨rfl, hq1⟩; have Q1 := Lib.hid hq1; clear hq1) | (go_at_call 86; have hq := areValid_any X Y R hX hY b cap V1 (Nat.lt_of_lt_of_le HB.out Q1.out.size) (HR _ (B0.trans (Q1.out.mono B0.size))); rw [cw] at hq; refine hq.mono ?_; clear hq; rintro e V2 ⟨rfl, hq2⟩; have Q2 := Lib.hid (Q1.out.trans (hq2.mono Q1.out.size)); clear hq2; have p0 := (Q2.out.cell (p := ⟨w.heap.size + 1, 0, none⟩) (by show w.heap.size + 1 < _; omega)).trans P0; have p1 := (Q2.out.cell (p := ⟨w.heap.size + 1, 1, none⟩) (by show w.heap.size + 1 < _; omega)).trans P1; clear HR) | (go_at_call 60; have hq := isNear_is x y V2; rw [cn] at hq; unfold Pc at hq; refine hq.mono ?_; clear hq; rintro e V3 ⟨rfl, hq3⟩; have Q3 := Lib.hid (Q2.out.trans (hq3.mono Q2.out.size)); clear hq3))
            go_loopw [27] (fun i wr => ∃ k : Nat, k ≤ 2 ∧ i = .int .i64 (k : Int) ∧ Hid (Below ((w.alloc (.cells #[.float .f32 T, .float .f32 S] 26)).alloc (.cells #[.int .i64 x, .int .i64 y] 82)).heap.size ((w.alloc (.cells #[.float .f32 T, .float .f32 S] 26)).alloc (.cells #[.int .i64 x, .int .i64 y] 82)) wr)) (fun i _ => 2 - (intOf i).toNat)
            case atStart => exact ⟨0, by omega, rfl, Q3⟩
            case round =>
              obtain ⟨k, hk, rfl, hQ⟩ := hrel
              by_cases hlt0 : k < 1
              · obtain rfl : k = 0 := by omega
                have d := (hQ.out.cell (p := ⟨c, 0, none⟩) (by show c < _; omega)).trans ((B0.cell (p := ⟨c, 0, none⟩) hc).trans hd0)
                go_wp2_with (go_at_call 71; refine (isMoment_is t0 _ ct0 _).mono ?_; rintro e w' ⟨rfl, rfl⟩)
                go_roundw
                case rel => exact ⟨1, by omega, rfl, hQ⟩
                case measure => simp [intOf]
              · skip
                by_cases hlt1 : k < 2
                · obtain rfl : k = 1 := by omega
                  have d := (hQ.out.cell (p := ⟨c, 1, none⟩) (by show c < _; omega)).trans ((B0.cell (p := ⟨c, 1, none⟩) hc).trans hd1)
                  go_wp2_with (go_at_call 71; refine (isMoment_is t1 _ ct1 _).mono ?_; rintro e w' ⟨rfl, rfl⟩)
                  go_roundw
                  case rel => exact ⟨2, by omega, rfl, hQ⟩
                  case measure => simp [intOf]
                · skip
                  obtain rfl : k = 2 := by omega
                  go_wp2
                  go_ret
                  exact ⟨by first | (rw [HV.out]; done) | (rw [HV.out]; rfl), B0.trans (hQ.out.mono B0.size)⟩

set_option maxRecDepth 100000 in
set_option maxHeartbeats 2000000 in
theorem checkWell_any (T S : Nat) (X Y : Int) (R : Nat) (hX : -128 ≤ X ∧ X ≤ 127) (hY : -128 ≤ Y ∧ Y ≤ 127) (x y t : Int) (c cap2 : Nat) (w : World) (hc : c < w.heap.size) (hrt : w.rangeAt c 0 [.int .i64 t]) :
    Calls Try.prog 54 #[.agg (Aq T S), .agg (We X Y R), .agg (Pc x y), .slice (some ⟨c, 0, none⟩) 1 cap2] w fun e w' => e = .returned (.int .i64 (askV T S X Y R x y [t])) ∧ Below w.heap.size w w' := by
  have B4 : Below w.heap.size w ((((w.alloc (.cells #[.float .f32 T, .float .f32 S] 26)).alloc (.cells #[.int .i8 X, .int .i8 Y, .float .f32 R] 30)).alloc (.cells #[.int .i64 x, .int .i64 y] 82)).alloc (.cells #[.int .i8 X, .int .i8 Y, .float .f32 R] 30)) := (((((Below.refl _ _).alloc (Nat.le_refl _) _).alloc (by simp) _).alloc (by simp; omega) _).alloc (by simp; omega) _)
  have Z4 : w.heap.size + 1 + 1 + 1 < ((((w.alloc (.cells #[.float .f32 T, .float .f32 S] 26)).alloc (.cells #[.int .i8 X, .int .i8 Y, .float .f32 R] 30)).alloc (.cells #[.int .i64 x, .int .i64 y] 82)).alloc (.cells #[.int .i8 X, .int .i8 Y, .float .f32 R] 30)).heap.size := by simp
  have R4 : ((((w.alloc (.cells #[.float .f32 T, .float .f32 S] 26)).alloc (.cells #[.int .i8 X, .int .i8 Y, .float .f32 R] 30)).alloc (.cells #[.int .i64 x, .int .i64 y] 82)).alloc (.cells #[.int .i8 X, .int .i8 Y, .float .f32 R] 30)).rangeAt (w.heap.size + 1 + 1 + 1) 0 (We X Y R).toList := by
    rw [← show (((w.alloc (.cells #[.float .f32 T, .float .f32 S] 26)).alloc (.cells #[.int .i8 X, .int .i8 Y, .float .f32 R] 30)).alloc (.cells #[.int .i64 x, .int .i64 y] 82)).heap.size = w.heap.size + 1 + 1 + 1 by simp]
    exact rangeAt_row (heap_alloc_last _ _)
  have H4 := checkWells_any T S X Y R hX hY x y t _ 1 c cap2 _ Z4 R4 (Nat.lt_of_lt_of_le hc B4.size) (rangeAt_below B4 hc hrt)
  simp only [Aq, We, Pc] at H4 ⊢
  clear R4 Z4 hrt hc
  go_enter Try.func54, Try.ntmps54
  go_wp2_with (go_at_call 78; refine H4.mono ?_; clear H4; rintro e V1 ⟨rfl, hq1⟩; have Q1 := Lib.hid (B4.trans (hq1.mono B4.size)); clear hq1 B4)
  go_ret
  exact ⟨rfl, Q1.out⟩

set_option maxRecDepth 100000 in
set_option maxHeartbeats 2000000 in
theorem checkWell2_any (T S : Nat) (X Y : Int) (R : Nat) (hX : -128 ≤ X ∧ X ≤ 127) (hY : -128 ≤ Y ∧ Y ≤ 127) (x y t0 t1 : Int) (c cap2 : Nat) (w : World) (hc : c < w.heap.size) (hrt : w.rangeAt c 0 [.int .i64 t0, .int .i64 t1]) :
    Calls Try.prog 54 #[.agg (Aq T S), .agg (We X Y R), .agg (Pc x y), .slice (some ⟨c, 0, none⟩) 2 cap2] w fun e w' => e = .returned (.int .i64 (askV T S X Y R x y [t0, t1])) ∧ Below w.heap.size w w' := by
  have B4 : Below w.heap.size w ((((w.alloc (.cells #[.float .f32 T, .float .f32 S] 26)).alloc (.cells #[.int .i8 X, .int .i8 Y, .float .f32 R] 30)).alloc (.cells #[.int .i64 x, .int .i64 y] 82)).alloc (.cells #[.int .i8 X, .int .i8 Y, .float .f32 R] 30)) := (((((Below.refl _ _).alloc (Nat.le_refl _) _).alloc (by simp) _).alloc (by simp; omega) _).alloc (by simp; omega) _)
  have Z4 : w.heap.size + 1 + 1 + 1 < ((((w.alloc (.cells #[.float .f32 T, .float .f32 S] 26)).alloc (.cells #[.int .i8 X, .int .i8 Y, .float .f32 R] 30)).alloc (.cells #[.int .i64 x, .int .i64 y] 82)).alloc (.cells #[.int .i8 X, .int .i8 Y, .float .f32 R] 30)).heap.size := by simp
  have R4 : ((((w.alloc (.cells #[.float .f32 T, .float .f32 S] 26)).alloc (.cells #[.int .i8 X, .int .i8 Y, .float .f32 R] 30)).alloc (.cells #[.int .i64 x, .int .i64 y] 82)).alloc (.cells #[.int .i8 X, .int .i8 Y, .float .f32 R] 30)).rangeAt (w.heap.size + 1 + 1 + 1) 0 (We X Y R).toList := by
    rw [← show (((w.alloc (.cells #[.float .f32 T, .float .f32 S] 26)).alloc (.cells #[.int .i8 X, .int .i8 Y, .float .f32 R] 30)).alloc (.cells #[.int .i64 x, .int .i64 y] 82)).heap.size = w.heap.size + 1 + 1 + 1 by simp]
    exact rangeAt_row (heap_alloc_last _ _)
  have H4 := checkWells2_any T S X Y R hX hY x y t0 t1 _ 1 c cap2 _ Z4 R4 (Nat.lt_of_lt_of_le hc B4.size) (rangeAt_below B4 hc hrt)
  simp only [Aq, We, Pc] at H4 ⊢
  clear R4 Z4 hrt hc
  go_enter Try.func54, Try.ntmps54
  go_wp2_with (go_at_call 78; refine H4.mono ?_; clear H4; rintro e V1 ⟨rfl, hq1⟩; have Q1 := Lib.hid (B4.trans (hq1.mono B4.size)); clear hq1 B4)
  go_ret
  exact ⟨rfl, Q1.out⟩
end Go.Proofs.Ythklihenghnaeaa
