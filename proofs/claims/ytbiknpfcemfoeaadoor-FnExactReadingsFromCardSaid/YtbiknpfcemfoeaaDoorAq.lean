/- Aquifers and wells: the law's copies, and which are valid: the program's and the model's. No condition. -/
import Derived.Test.YtbiknpfcemfoeaaDoorAqV
import Derived.Test.YtbiknpfcemfoeaaDoorHelp
namespace Go.Proofs.YtbiknpfcemfoeaaDoor
open Go Go.RowKit Ieee
set_option linter.unusedSimpArgs false
set_option linter.unusedVariables false

def Aq (T S : Nat) : Array Value := #[.float .f32 T, .float .f32 S]
def We (X Y : Int) (R : Nat) : Array Value := #[.int .i8 X, .int .i8 Y, .float .f32 R]
def Pc (x y : Int) : Array Value := #[.int .i64 x, .int .i64 y]
def Sk (X Y : Int) (R : Nat) : Array Value := #[.int .i64 X, .int .i64 Y, .float .f32 R]
def Oc (T S q t : Nat) : Array Value := #[.float .f32 T, .float .f32 S, .float .f32 q, .float .f32 t]
theorem run_store_f32 (P : Program) (w : World) (a : Addr) (m : Mode) (k : FloatKind) (b : Nat) : (store a (.float k b) m).run P w = stored P w a (.float k b) m := run_store P w a _ m rfl
attribute [local go_sem] run_store_f32

/-- An operation on numbers whose result is no NaN. -/
theorem wpList_floatD {P : Program} {ops : Array Oper} {rest : List Oper} {o : Oper} {a : Act} {w : World} {Q : Exit → Act → World → Prop} (hg : o.guard = none) (op : BinOp) (t t' : TypeId) (x y : Operand)
    (ho : o.op = .binOp op t x y t') (hop : arith op = true) (k : FloatKind) (u v r : Nat) (hx : a.eval x = .float k u) (hy : a.eval y = .float k v) (hr : fop k op (num k u) (num k v) = some r)
    (h : wpList P ops Q rest (a.put o.dst (.float k r)) w) : wpList P ops Q (o :: rest) a w :=
  wpList_plain hg fun K hK => by
    rw [fop_num] at hr
    have hrun := run_float_arith (P := P) w op t k u v r hr
    have hq : (eqGuard op t x y (.float k u) (.float k v)).run P w = .ok () w := by
      cases op <;> first | (simp [arith] at hop; done) | simp [eqGuard]
    unfold Oper.wp execOp
    simp only [ho, hx, hy]
    simp only [Sem.run_bind, hq, hrun, Result.andThen]
    exact hK _ _ h

set_option maxRecDepth 100000 in
set_option maxHeartbeats 1000000 in
theorem ratio_same (a b c : Nat) (n d : Int) (hn : floatOfInt .f32 n = a) (hd : floatOfInt .f32 d = b) (hc : fop .f32 .quo (num .f32 a) (num .f32 b) = some c) (w : World) :
    Calls Tryd.prog 50 #[.int .i64 n, .int .i64 d] w fun e w' => e = .returned (.float .f32 c) ∧ w = w' := by
  subst hn hd
  go_enter Tryd.func50, Tryd.ntmps50
  go_wp2_with (refine wpList_floatD rfl _ _ _ _ _ rfl rfl .f32 _ _ c rfl rfl hc ?_)
  go_ret
  exact ⟨rfl, rfl⟩

set_option maxRecDepth 100000 in
set_option maxHeartbeats 1000000 in
theorem toAquifer_any (T S : Nat) (w : World) : Calls Tryd.prog 14 #[.agg (Aq T S)] w fun e w' => e = .returned (.agg (Aq T S)) ∧ Below w.heap.size w w' := by
  simp only [Aq, We, Pc, Sk, Oc]
  go_enter Tryd.func14, Tryd.ntmps14
  go_wp2
  refine bodyPost_ret (by simp [results, Tryd.results14, go_sem] <;> rfl) rfl ⟨rfl, ?_⟩
  exact (((Below.refl _ _).alloc (Nat.le_refl _) _).alloc (by simp) _).alloc (by simp; omega) _

set_option maxRecDepth 100000 in
set_option maxHeartbeats 1000000 in
theorem toWell_any (X Y : Int) (R : Nat) (w : World) : Calls Tryd.prog 40 #[.agg (We X Y R)] w fun e w' => e = .returned (.agg (We X Y R)) ∧ Below w.heap.size w w' := by
  simp only [Aq, We, Pc, Sk, Oc]
  go_enter Tryd.func40, Tryd.ntmps40
  go_wp2
  refine bodyPost_ret (by simp [results, Tryd.results40, go_sem] <;> rfl) rfl ⟨rfl, ?_⟩
  exact (((Below.refl _ _).alloc (Nat.le_refl _) _).alloc (by simp) _).alloc (by simp; omega) _

set_option maxRecDepth 100000 in
set_option maxHeartbeats 1000000 in
theorem sunk_any (X Y : Int) (R : Nat) (hX : -128 ≤ X ∧ X ≤ 127) (hY : -128 ≤ Y ∧ Y ≤ 127) (w : World) : Calls Tryd.prog 83 #[.agg (We X Y R)] w fun e w' => e = .returned (.agg (Sk X Y R)) ∧ Below w.heap.size w w' := by
  simp only [Aq, We, Pc, Sk, Oc]
  go_enter Tryd.func83, Tryd.ntmps83
  go_wp2
  refine bodyPost_ret (by simp [results, Tryd.results83, go_sem] <;> rfl) rfl ⟨rfl, ?_⟩
  exact ((Below.refl _ _).alloc (Nat.le_refl _) _).alloc (by simp) _

/-- A Transmit that is one. -/
def trB (T : Nat) : Bool := geB T 981467136 && leBB T 1233125376
set_option maxRecDepth 100000 in
set_option maxHeartbeats 1000000 in
theorem isTransmit_any (T : Nat) (w : World) : Calls Tryd.prog 93 #[.float .f32 T] w fun e w' => e = .returned (.bool (trB T)) ∧ w' = w := by
  cases c1 : (FloatKind.f32.format.order T 981467136 == some Ordering.gt || FloatKind.f32.format.order T 981467136 == some Ordering.eq)
  · have HV := Lib.hid (show trB T = false by simp only [trB, geB, leBB, c1]; rfl)
    go_enter Tryd.func93, Tryd.ntmps93
    go_wp2
    go_ret
    exact ⟨by first | (rw [HV.out]; done) | (rw [HV.out]; rfl), rfl⟩
  · cases c2 : (FloatKind.f32.format.order T 1233125376 == some Ordering.lt || FloatKind.f32.format.order T 1233125376 == some Ordering.eq)
    · have HV := Lib.hid (show trB T = false by simp only [trB, geB, leBB, c1, c2]; rfl)
      go_enter Tryd.func93, Tryd.ntmps93
      go_wp2
      go_ret
      exact ⟨by first | (rw [HV.out]; done) | (rw [HV.out]; rfl), rfl⟩
    · have HV := Lib.hid (show trB T = true by simp only [trB, geB, leBB, c1, c2]; rfl)
      go_enter Tryd.func93, Tryd.ntmps93
      go_wp2
      go_ret
      exact ⟨by first | (rw [HV.out]; done) | (rw [HV.out]; rfl), rfl⟩
theorem isTransmit_is (T : Nat) (r : Bool) (h : trB T = r) (w : World) : Calls Tryd.prog 93 #[.float .f32 T] w fun e w' => e = .returned (.bool r) ∧ w' = w := by
  subst h
  exact isTransmit_any T w

set_option maxRecDepth 100000 in
set_option maxHeartbeats 1000000 in
theorem implAq_any (T S : Nat) (w : World) : Calls Tryd.prog 70 #[.agg (Aq T S)] w fun e w' => e = .returned (.bool (aqB T S)) ∧ Below w.heap.size w w' := by
  have ha : aqB T S = (trB T && geB S 897581056 && leBB S 1065353216) := rfl
  cases c1 : trB T
  · have HT := Lib.hid (fun V => isTransmit_is T false c1 V)
    rw [c1] at ha
    have HV := Lib.hid (show aqB T S = false by rw [ha]; rfl)
    simp only [Aq]
    go_enter Tryd.func70, Tryd.ntmps70
    go_wp2_with (go_at_call 93; refine (HT.out _).mono ?_; rintro e V ⟨rfl, hV⟩; rw [hV]; clear hV)
    go_ret
    exact ⟨by first | (rw [HV.out]; done) | (rw [HV.out]; rfl), (Below.refl _ _).alloc (Nat.le_refl _) _⟩
  · have HT := Lib.hid (fun V => isTransmit_is T true c1 V)
    rw [c1] at ha
    cases c3 : (FloatKind.f32.format.order S 897581056 == some Ordering.gt || FloatKind.f32.format.order S 897581056 == some Ordering.eq)
    · have HV := Lib.hid (show aqB T S = false by rw [ha]; simp only [geB, leBB, c3]; rfl)
      simp only [Aq]
      go_enter Tryd.func70, Tryd.ntmps70
      go_wp2_with (go_at_call 93; refine (HT.out _).mono ?_; rintro e V ⟨rfl, hV⟩; rw [hV]; clear hV)
      go_ret
      exact ⟨by first | (rw [HV.out]; done) | (rw [HV.out]; rfl), (Below.refl _ _).alloc (Nat.le_refl _) _⟩
    · cases c4 : (FloatKind.f32.format.order S 1065353216 == some Ordering.lt || FloatKind.f32.format.order S 1065353216 == some Ordering.eq)
      · have HV := Lib.hid (show aqB T S = false by rw [ha]; simp only [geB, leBB, c3, c4]; rfl)
        simp only [Aq]
        go_enter Tryd.func70, Tryd.ntmps70
        go_wp2_with (go_at_call 93; refine (HT.out _).mono ?_; rintro e V ⟨rfl, hV⟩; rw [hV]; clear hV)
        go_ret
        exact ⟨by first | (rw [HV.out]; done) | (rw [HV.out]; rfl), (Below.refl _ _).alloc (Nat.le_refl _) _⟩
      · have HV := Lib.hid (show aqB T S = true by rw [ha]; simp only [geB, leBB, c3, c4]; rfl)
        simp only [Aq]
        go_enter Tryd.func70, Tryd.ntmps70
        go_wp2_with (go_at_call 93; refine (HT.out _).mono ?_; rintro e V ⟨rfl, hV⟩; rw [hV]; clear hV)
        go_ret
        exact ⟨by first | (rw [HV.out]; done) | (rw [HV.out]; rfl), (Below.refl _ _).alloc (Nat.le_refl _) _⟩

set_option maxRecDepth 100000 in
set_option maxHeartbeats 1000000 in
theorem l03Aq_any (T S : Nat) (w : World) : Calls Tryd.prog 35 #[.agg (Aq T S)] w fun e w' => e = .returned (.bool (aqB T S)) ∧ Below w.heap.size w w' := by
  cases c1 : (FloatKind.f32.format.order T 981467136 == some Ordering.gt || FloatKind.f32.format.order T 981467136 == some Ordering.eq)
  · have hv : aqB T S = false := by simp only [aqB, geB, leBB, c1]; rfl
    have HV := Lib.hid hv
    clear hv
    simp only [Aq]
    go_enter Tryd.func35, Tryd.ntmps35
    go_upto_region 1 with (fail)
    have C0 : (w.alloc (.cells #[.float .f32 T, .float .f32 S] 43)).cell? ⟨w.heap.size, 0, none⟩ = some (.float .f32 T) := cell_of_row _ _ 0 _ _ _ (heap_alloc_last w _)
    have C1 : (w.alloc (.cells #[.float .f32 T, .float .f32 S] 43)).cell? ⟨w.heap.size, 1, none⟩ = some (.float .f32 S) := cell_of_row _ _ 1 _ _ _ (heap_alloc_last w _)
    refine wp_region_calm (ops' := regOf Tryd.f35 1) [0, 1, 2, 3, 4, 5, 6, 7, 8, 9, 10, 11, 12, 13, 14, 15, 16, 17, 18, 19, 20] [] .fin (Quiet (w.alloc (.cells #[.float .f32 T, .float .f32 S] 43))) [(0, One (.pointer (some ⟨w.heap.size, 0, none⟩))), (1, One (.float .f32 T)), (2, One (.float .f32 981467136)), (3, One (.bool false)), (4, One (.bool false)), (5, One undef), (6, One undef), (7, One undef), (8, One (.bool false)), (9, One (.bool false)), (10, One undef), (11, One undef), (12, One undef), (13, One undef), (14, One (.bool false)), (15, One (.bool false)), (16, One undef), (17, One undef), (18, One undef), (19, One (.bool false)), (20, One (.bool false))] (by kernel_rfl) (by kernel_rfl) (by kernel_rfl) (by kernel_rfl) (by kernel_rfl) (by kernel_rfl) (by kernel_rfl) (by kernel_rfl) rfl ((Quiet.refl _).drewN 1) ?_
    refine calm_pure (some 3) (by kernel_rfl) (by kernel_rfl) (by kernel_rfl) (fun _ => by kernel_rfl) ?_
    refine calm_read (some 4) (by kernel_rfl) (by kernel_rfl) (by kernel_rfl) (fun w' hw' => load_cell (ty := 24) (x := .tmp 3) (b := w.heap.size) (o := 0) (by kernel_rfl) (by kernel_rfl) Tryd.underlying24 rfl (kq C0 w' hw')) ?_
    refine calm_call (some 5) 50 #[.int .i64 1, .int .i64 1024] ⟨_, rfl⟩ (by kernel_rfl) (by kernel_rfl) (by kernel_rfl) (fun _ => by kernel_rfl) (fun w' hw' => ((ratio_same 1065353216 1149239296 981467136 1 1024 (by decide +kernel) (by decide +kernel) (by decide +kernel) w').mono fun _ _ h => (⟨h.1, h.2 ▸ Quiet.refl _⟩ : _ ∧ Quiet w' _)).mono fun e w2 h => ⟨_, h.1, rfl, hw'.trans h.2⟩) ?_
    rintro _ rfl
    refine calm_pure (some 6) (by kernel_rfl) (by kernel_rfl) (by kernel_rfl) (fun _ => by rw [← c1]; kernel_rfl) ?_
    refine calm_pure (some 7) (by kernel_rfl) (by kernel_rfl) (by kernel_rfl) (fun _ => by kernel_rfl) ?_
    refine calm_skip (some 8) (by kernel_rfl) (by kernel_rfl) (by kernel_rfl) ?_
    refine calm_skip (some 9) (by kernel_rfl) (by kernel_rfl) (by kernel_rfl) ?_
    refine calm_skip (some 10) (by kernel_rfl) (by kernel_rfl) (by kernel_rfl) ?_
    refine calm_pure (some 11) (by kernel_rfl) (by kernel_rfl) (by kernel_rfl) (fun _ => by kernel_rfl) ?_
    refine calm_pure (some 12) (by kernel_rfl) (by kernel_rfl) (by kernel_rfl) (fun _ => by kernel_rfl) ?_
    refine calm_skip (some 13) (by kernel_rfl) (by kernel_rfl) (by kernel_rfl) ?_
    refine calm_skip (some 14) (by kernel_rfl) (by kernel_rfl) (by kernel_rfl) ?_
    refine calm_skip (some 15) (by kernel_rfl) (by kernel_rfl) (by kernel_rfl) ?_
    refine calm_skip (some 16) (by kernel_rfl) (by kernel_rfl) (by kernel_rfl) ?_
    refine calm_pure (some 17) (by kernel_rfl) (by kernel_rfl) (by kernel_rfl) (fun _ => by kernel_rfl) ?_
    refine calm_pure (some 18) (by kernel_rfl) (by kernel_rfl) (by kernel_rfl) (fun _ => by kernel_rfl) ?_
    refine calm_skip (some 19) (by kernel_rfl) (by kernel_rfl) (by kernel_rfl) ?_
    refine calm_skip (some 20) (by kernel_rfl) (by kernel_rfl) (by kernel_rfl) ?_
    refine calm_skip (some 21) (by kernel_rfl) (by kernel_rfl) (by kernel_rfl) ?_
    refine calm_pure (some 22) (by kernel_rfl) (by kernel_rfl) (by kernel_rfl) (fun _ => by kernel_rfl) ?_
    refine calm_pure (some 2) (by kernel_rfl) (by kernel_rfl) (by kernel_rfl) (fun _ => by kernel_rfl) ?_
    refine calm_end fun w' hw' => plan_end (Clean.normal ?_)
    simp only [Act.put, List.setIfInBounds_toArray, List.set_cons_zero, List.set_cons_succ]
    go_wp2
    go_ret
    exact ⟨by first | (rw [HV.out]; done) | (rw [HV.out]; rfl), ((Below.refl _ _).alloc (Nat.le_refl _) _).trans (hw'.below _)⟩
  · skip
    cases c2 : (FloatKind.f32.format.order T 1233125376 == some Ordering.lt || FloatKind.f32.format.order T 1233125376 == some Ordering.eq)
    · have hv : aqB T S = false := by simp only [aqB, geB, leBB, c1, c2]; rfl
      have HV := Lib.hid hv
      clear hv
      simp only [Aq]
      go_enter Tryd.func35, Tryd.ntmps35
      go_upto_region 1 with (fail)
      have C0 : (w.alloc (.cells #[.float .f32 T, .float .f32 S] 43)).cell? ⟨w.heap.size, 0, none⟩ = some (.float .f32 T) := cell_of_row _ _ 0 _ _ _ (heap_alloc_last w _)
      have C1 : (w.alloc (.cells #[.float .f32 T, .float .f32 S] 43)).cell? ⟨w.heap.size, 1, none⟩ = some (.float .f32 S) := cell_of_row _ _ 1 _ _ _ (heap_alloc_last w _)
      refine wp_region_calm (ops' := regOf Tryd.f35 1) [0, 1, 2, 3, 4, 5, 6, 7, 8, 9, 10, 11, 12, 13, 14, 15, 16, 17, 18, 19, 20] [] .fin (Quiet (w.alloc (.cells #[.float .f32 T, .float .f32 S] 43))) [(0, One (.pointer (some ⟨w.heap.size, 0, none⟩))), (1, One (.float .f32 T)), (2, One (.float .f32 981467136)), (3, One (.bool true)), (4, One (.bool true)), (5, One (.pointer (some ⟨w.heap.size, 0, none⟩))), (6, One (.float .f32 T)), (7, One (.bool false)), (8, One (.bool false)), (9, One (.bool false)), (10, One undef), (11, One undef), (12, One undef), (13, One undef), (14, One (.bool false)), (15, One (.bool false)), (16, One undef), (17, One undef), (18, One undef), (19, One (.bool false)), (20, One (.bool false))] (by kernel_rfl) (by kernel_rfl) (by kernel_rfl) (by kernel_rfl) (by kernel_rfl) (by kernel_rfl) (by kernel_rfl) (by kernel_rfl) rfl ((Quiet.refl _).drewN 1) ?_
      refine calm_pure (some 3) (by kernel_rfl) (by kernel_rfl) (by kernel_rfl) (fun _ => by kernel_rfl) ?_
      refine calm_read (some 4) (by kernel_rfl) (by kernel_rfl) (by kernel_rfl) (fun w' hw' => load_cell (ty := 24) (x := .tmp 3) (b := w.heap.size) (o := 0) (by kernel_rfl) (by kernel_rfl) Tryd.underlying24 rfl (kq C0 w' hw')) ?_
      refine calm_call (some 5) 50 #[.int .i64 1, .int .i64 1024] ⟨_, rfl⟩ (by kernel_rfl) (by kernel_rfl) (by kernel_rfl) (fun _ => by kernel_rfl) (fun w' hw' => ((ratio_same 1065353216 1149239296 981467136 1 1024 (by decide +kernel) (by decide +kernel) (by decide +kernel) w').mono fun _ _ h => (⟨h.1, h.2 ▸ Quiet.refl _⟩ : _ ∧ Quiet w' _)).mono fun e w2 h => ⟨_, h.1, rfl, hw'.trans h.2⟩) ?_
      rintro _ rfl
      refine calm_pure (some 6) (by kernel_rfl) (by kernel_rfl) (by kernel_rfl) (fun _ => by rw [← c1]; kernel_rfl) ?_
      refine calm_pure (some 7) (by kernel_rfl) (by kernel_rfl) (by kernel_rfl) (fun _ => by kernel_rfl) ?_
      refine calm_pure (some 8) (by kernel_rfl) (by kernel_rfl) (by kernel_rfl) (fun _ => by kernel_rfl) ?_
      refine calm_read (some 9) (by kernel_rfl) (by kernel_rfl) (by kernel_rfl) (fun w' hw' => load_cell (ty := 24) (x := .tmp 8) (b := w.heap.size) (o := 0) (by kernel_rfl) (by kernel_rfl) Tryd.underlying24 rfl (kq C0 w' hw')) ?_
      refine calm_pure (some 10) (by kernel_rfl) (by kernel_rfl) (by kernel_rfl) (fun _ => by rw [← c2]; kernel_rfl) ?_
      refine calm_pure (some 11) (by kernel_rfl) (by kernel_rfl) (by kernel_rfl) (fun _ => by kernel_rfl) ?_
      refine calm_pure (some 12) (by kernel_rfl) (by kernel_rfl) (by kernel_rfl) (fun _ => by kernel_rfl) ?_
      refine calm_skip (some 13) (by kernel_rfl) (by kernel_rfl) (by kernel_rfl) ?_
      refine calm_skip (some 14) (by kernel_rfl) (by kernel_rfl) (by kernel_rfl) ?_
      refine calm_skip (some 15) (by kernel_rfl) (by kernel_rfl) (by kernel_rfl) ?_
      refine calm_skip (some 16) (by kernel_rfl) (by kernel_rfl) (by kernel_rfl) ?_
      refine calm_pure (some 17) (by kernel_rfl) (by kernel_rfl) (by kernel_rfl) (fun _ => by kernel_rfl) ?_
      refine calm_pure (some 18) (by kernel_rfl) (by kernel_rfl) (by kernel_rfl) (fun _ => by kernel_rfl) ?_
      refine calm_skip (some 19) (by kernel_rfl) (by kernel_rfl) (by kernel_rfl) ?_
      refine calm_skip (some 20) (by kernel_rfl) (by kernel_rfl) (by kernel_rfl) ?_
      refine calm_skip (some 21) (by kernel_rfl) (by kernel_rfl) (by kernel_rfl) ?_
      refine calm_pure (some 22) (by kernel_rfl) (by kernel_rfl) (by kernel_rfl) (fun _ => by kernel_rfl) ?_
      refine calm_pure (some 2) (by kernel_rfl) (by kernel_rfl) (by kernel_rfl) (fun _ => by kernel_rfl) ?_
      refine calm_end fun w' hw' => plan_end (Clean.normal ?_)
      simp only [Act.put, List.setIfInBounds_toArray, List.set_cons_zero, List.set_cons_succ]
      go_wp2
      go_ret
      exact ⟨by first | (rw [HV.out]; done) | (rw [HV.out]; rfl), ((Below.refl _ _).alloc (Nat.le_refl _) _).trans (hw'.below _)⟩
    · skip
      cases c3 : (FloatKind.f32.format.order S 897581056 == some Ordering.gt || FloatKind.f32.format.order S 897581056 == some Ordering.eq)
      · have hv : aqB T S = false := by simp only [aqB, geB, leBB, c1, c2, c3]; rfl
        have HV := Lib.hid hv
        clear hv
        simp only [Aq]
        go_enter Tryd.func35, Tryd.ntmps35
        go_upto_region 1 with (fail)
        have C0 : (w.alloc (.cells #[.float .f32 T, .float .f32 S] 43)).cell? ⟨w.heap.size, 0, none⟩ = some (.float .f32 T) := cell_of_row _ _ 0 _ _ _ (heap_alloc_last w _)
        have C1 : (w.alloc (.cells #[.float .f32 T, .float .f32 S] 43)).cell? ⟨w.heap.size, 1, none⟩ = some (.float .f32 S) := cell_of_row _ _ 1 _ _ _ (heap_alloc_last w _)
        refine wp_region_calm (ops' := regOf Tryd.f35 1) [0, 1, 2, 3, 4, 5, 6, 7, 8, 9, 10, 11, 12, 13, 14, 15, 16, 17, 18, 19, 20] [] .fin (Quiet (w.alloc (.cells #[.float .f32 T, .float .f32 S] 43))) [(0, One (.pointer (some ⟨w.heap.size, 0, none⟩))), (1, One (.float .f32 T)), (2, One (.float .f32 981467136)), (3, One (.bool true)), (4, One (.bool true)), (5, One (.pointer (some ⟨w.heap.size, 0, none⟩))), (6, One (.float .f32 T)), (7, One (.bool true)), (8, One (.bool true)), (9, One (.bool true)), (10, One (.pointer (some ⟨w.heap.size, 1, none⟩))), (11, One (.float .f32 S)), (12, One (.float .f32 897581056)), (13, One (.bool false)), (14, One (.bool false)), (15, One (.bool false)), (16, One undef), (17, One undef), (18, One undef), (19, One (.bool false)), (20, One (.bool false))] (by kernel_rfl) (by kernel_rfl) (by kernel_rfl) (by kernel_rfl) (by kernel_rfl) (by kernel_rfl) (by kernel_rfl) (by kernel_rfl) rfl ((Quiet.refl _).drewN 1) ?_
        refine calm_pure (some 3) (by kernel_rfl) (by kernel_rfl) (by kernel_rfl) (fun _ => by kernel_rfl) ?_
        refine calm_read (some 4) (by kernel_rfl) (by kernel_rfl) (by kernel_rfl) (fun w' hw' => load_cell (ty := 24) (x := .tmp 3) (b := w.heap.size) (o := 0) (by kernel_rfl) (by kernel_rfl) Tryd.underlying24 rfl (kq C0 w' hw')) ?_
        refine calm_call (some 5) 50 #[.int .i64 1, .int .i64 1024] ⟨_, rfl⟩ (by kernel_rfl) (by kernel_rfl) (by kernel_rfl) (fun _ => by kernel_rfl) (fun w' hw' => ((ratio_same 1065353216 1149239296 981467136 1 1024 (by decide +kernel) (by decide +kernel) (by decide +kernel) w').mono fun _ _ h => (⟨h.1, h.2 ▸ Quiet.refl _⟩ : _ ∧ Quiet w' _)).mono fun e w2 h => ⟨_, h.1, rfl, hw'.trans h.2⟩) ?_
        rintro _ rfl
        refine calm_pure (some 6) (by kernel_rfl) (by kernel_rfl) (by kernel_rfl) (fun _ => by rw [← c1]; kernel_rfl) ?_
        refine calm_pure (some 7) (by kernel_rfl) (by kernel_rfl) (by kernel_rfl) (fun _ => by kernel_rfl) ?_
        refine calm_pure (some 8) (by kernel_rfl) (by kernel_rfl) (by kernel_rfl) (fun _ => by kernel_rfl) ?_
        refine calm_read (some 9) (by kernel_rfl) (by kernel_rfl) (by kernel_rfl) (fun w' hw' => load_cell (ty := 24) (x := .tmp 8) (b := w.heap.size) (o := 0) (by kernel_rfl) (by kernel_rfl) Tryd.underlying24 rfl (kq C0 w' hw')) ?_
        refine calm_pure (some 10) (by kernel_rfl) (by kernel_rfl) (by kernel_rfl) (fun _ => by rw [← c2]; kernel_rfl) ?_
        refine calm_pure (some 11) (by kernel_rfl) (by kernel_rfl) (by kernel_rfl) (fun _ => by kernel_rfl) ?_
        refine calm_pure (some 12) (by kernel_rfl) (by kernel_rfl) (by kernel_rfl) (fun _ => by kernel_rfl) ?_
        refine calm_pure (some 13) (by kernel_rfl) (by kernel_rfl) (by kernel_rfl) (fun _ => by kernel_rfl) ?_
        refine calm_read (some 14) (by kernel_rfl) (by kernel_rfl) (by kernel_rfl) (fun w' hw' => load_cell (ty := 24) (x := .tmp 13) (b := w.heap.size) (o := 1) (by kernel_rfl) (by kernel_rfl) Tryd.underlying24 rfl (kq C1 w' hw')) ?_
        refine calm_call (some 15) 50 #[.int .i64 1, .int .i64 1048576] ⟨_, rfl⟩ (by kernel_rfl) (by kernel_rfl) (by kernel_rfl) (fun _ => by kernel_rfl) (fun w' hw' => ((ratio_same 1065353216 1233125376 897581056 1 1048576 (by decide +kernel) (by decide +kernel) (by decide +kernel) w').mono fun _ _ h => (⟨h.1, h.2 ▸ Quiet.refl _⟩ : _ ∧ Quiet w' _)).mono fun e w2 h => ⟨_, h.1, rfl, hw'.trans h.2⟩) ?_
        rintro _ rfl
        refine calm_pure (some 16) (by kernel_rfl) (by kernel_rfl) (by kernel_rfl) (fun _ => by rw [← c3]; kernel_rfl) ?_
        refine calm_pure (some 17) (by kernel_rfl) (by kernel_rfl) (by kernel_rfl) (fun _ => by kernel_rfl) ?_
        refine calm_pure (some 18) (by kernel_rfl) (by kernel_rfl) (by kernel_rfl) (fun _ => by kernel_rfl) ?_
        refine calm_skip (some 19) (by kernel_rfl) (by kernel_rfl) (by kernel_rfl) ?_
        refine calm_skip (some 20) (by kernel_rfl) (by kernel_rfl) (by kernel_rfl) ?_
        refine calm_skip (some 21) (by kernel_rfl) (by kernel_rfl) (by kernel_rfl) ?_
        refine calm_pure (some 22) (by kernel_rfl) (by kernel_rfl) (by kernel_rfl) (fun _ => by kernel_rfl) ?_
        refine calm_pure (some 2) (by kernel_rfl) (by kernel_rfl) (by kernel_rfl) (fun _ => by kernel_rfl) ?_
        refine calm_end fun w' hw' => plan_end (Clean.normal ?_)
        simp only [Act.put, List.setIfInBounds_toArray, List.set_cons_zero, List.set_cons_succ]
        go_wp2
        go_ret
        exact ⟨by first | (rw [HV.out]; done) | (rw [HV.out]; rfl), ((Below.refl _ _).alloc (Nat.le_refl _) _).trans (hw'.below _)⟩
      · skip
        cases c4 : (FloatKind.f32.format.order S 1065353216 == some Ordering.lt || FloatKind.f32.format.order S 1065353216 == some Ordering.eq)
        · have hv : aqB T S = false := by simp only [aqB, geB, leBB, c1, c2, c3, c4]; rfl
          have HV := Lib.hid hv
          clear hv
          simp only [Aq]
          go_enter Tryd.func35, Tryd.ntmps35
          go_upto_region 1 with (fail)
          have C0 : (w.alloc (.cells #[.float .f32 T, .float .f32 S] 43)).cell? ⟨w.heap.size, 0, none⟩ = some (.float .f32 T) := cell_of_row _ _ 0 _ _ _ (heap_alloc_last w _)
          have C1 : (w.alloc (.cells #[.float .f32 T, .float .f32 S] 43)).cell? ⟨w.heap.size, 1, none⟩ = some (.float .f32 S) := cell_of_row _ _ 1 _ _ _ (heap_alloc_last w _)
          refine wp_region_calm (ops' := regOf Tryd.f35 1) [0, 1, 2, 3, 4, 5, 6, 7, 8, 9, 10, 11, 12, 13, 14, 15, 16, 17, 18, 19, 20] [] .fin (Quiet (w.alloc (.cells #[.float .f32 T, .float .f32 S] 43))) [(0, One (.pointer (some ⟨w.heap.size, 0, none⟩))), (1, One (.float .f32 T)), (2, One (.float .f32 981467136)), (3, One (.bool true)), (4, One (.bool true)), (5, One (.pointer (some ⟨w.heap.size, 0, none⟩))), (6, One (.float .f32 T)), (7, One (.bool true)), (8, One (.bool true)), (9, One (.bool true)), (10, One (.pointer (some ⟨w.heap.size, 1, none⟩))), (11, One (.float .f32 S)), (12, One (.float .f32 897581056)), (13, One (.bool true)), (14, One (.bool true)), (15, One (.bool true)), (16, One (.pointer (some ⟨w.heap.size, 1, none⟩))), (17, One (.float .f32 S)), (18, One (.bool false)), (19, One (.bool false)), (20, One (.bool false))] (by kernel_rfl) (by kernel_rfl) (by kernel_rfl) (by kernel_rfl) (by kernel_rfl) (by kernel_rfl) (by kernel_rfl) (by kernel_rfl) rfl ((Quiet.refl _).drewN 1) ?_
          refine calm_pure (some 3) (by kernel_rfl) (by kernel_rfl) (by kernel_rfl) (fun _ => by kernel_rfl) ?_
          refine calm_read (some 4) (by kernel_rfl) (by kernel_rfl) (by kernel_rfl) (fun w' hw' => load_cell (ty := 24) (x := .tmp 3) (b := w.heap.size) (o := 0) (by kernel_rfl) (by kernel_rfl) Tryd.underlying24 rfl (kq C0 w' hw')) ?_
          refine calm_call (some 5) 50 #[.int .i64 1, .int .i64 1024] ⟨_, rfl⟩ (by kernel_rfl) (by kernel_rfl) (by kernel_rfl) (fun _ => by kernel_rfl) (fun w' hw' => ((ratio_same 1065353216 1149239296 981467136 1 1024 (by decide +kernel) (by decide +kernel) (by decide +kernel) w').mono fun _ _ h => (⟨h.1, h.2 ▸ Quiet.refl _⟩ : _ ∧ Quiet w' _)).mono fun e w2 h => ⟨_, h.1, rfl, hw'.trans h.2⟩) ?_
          rintro _ rfl
          refine calm_pure (some 6) (by kernel_rfl) (by kernel_rfl) (by kernel_rfl) (fun _ => by rw [← c1]; kernel_rfl) ?_
          refine calm_pure (some 7) (by kernel_rfl) (by kernel_rfl) (by kernel_rfl) (fun _ => by kernel_rfl) ?_
          refine calm_pure (some 8) (by kernel_rfl) (by kernel_rfl) (by kernel_rfl) (fun _ => by kernel_rfl) ?_
          refine calm_read (some 9) (by kernel_rfl) (by kernel_rfl) (by kernel_rfl) (fun w' hw' => load_cell (ty := 24) (x := .tmp 8) (b := w.heap.size) (o := 0) (by kernel_rfl) (by kernel_rfl) Tryd.underlying24 rfl (kq C0 w' hw')) ?_
          refine calm_pure (some 10) (by kernel_rfl) (by kernel_rfl) (by kernel_rfl) (fun _ => by rw [← c2]; kernel_rfl) ?_
          refine calm_pure (some 11) (by kernel_rfl) (by kernel_rfl) (by kernel_rfl) (fun _ => by kernel_rfl) ?_
          refine calm_pure (some 12) (by kernel_rfl) (by kernel_rfl) (by kernel_rfl) (fun _ => by kernel_rfl) ?_
          refine calm_pure (some 13) (by kernel_rfl) (by kernel_rfl) (by kernel_rfl) (fun _ => by kernel_rfl) ?_
          refine calm_read (some 14) (by kernel_rfl) (by kernel_rfl) (by kernel_rfl) (fun w' hw' => load_cell (ty := 24) (x := .tmp 13) (b := w.heap.size) (o := 1) (by kernel_rfl) (by kernel_rfl) Tryd.underlying24 rfl (kq C1 w' hw')) ?_
          refine calm_call (some 15) 50 #[.int .i64 1, .int .i64 1048576] ⟨_, rfl⟩ (by kernel_rfl) (by kernel_rfl) (by kernel_rfl) (fun _ => by kernel_rfl) (fun w' hw' => ((ratio_same 1065353216 1233125376 897581056 1 1048576 (by decide +kernel) (by decide +kernel) (by decide +kernel) w').mono fun _ _ h => (⟨h.1, h.2 ▸ Quiet.refl _⟩ : _ ∧ Quiet w' _)).mono fun e w2 h => ⟨_, h.1, rfl, hw'.trans h.2⟩) ?_
          rintro _ rfl
          refine calm_pure (some 16) (by kernel_rfl) (by kernel_rfl) (by kernel_rfl) (fun _ => by rw [← c3]; kernel_rfl) ?_
          refine calm_pure (some 17) (by kernel_rfl) (by kernel_rfl) (by kernel_rfl) (fun _ => by kernel_rfl) ?_
          refine calm_pure (some 18) (by kernel_rfl) (by kernel_rfl) (by kernel_rfl) (fun _ => by kernel_rfl) ?_
          refine calm_pure (some 19) (by kernel_rfl) (by kernel_rfl) (by kernel_rfl) (fun _ => by kernel_rfl) ?_
          refine calm_read (some 20) (by kernel_rfl) (by kernel_rfl) (by kernel_rfl) (fun w' hw' => load_cell (ty := 24) (x := .tmp 19) (b := w.heap.size) (o := 1) (by kernel_rfl) (by kernel_rfl) Tryd.underlying24 rfl (kq C1 w' hw')) ?_
          refine calm_pure (some 21) (by kernel_rfl) (by kernel_rfl) (by kernel_rfl) (fun _ => by rw [← c4]; kernel_rfl) ?_
          refine calm_pure (some 22) (by kernel_rfl) (by kernel_rfl) (by kernel_rfl) (fun _ => by kernel_rfl) ?_
          refine calm_pure (some 2) (by kernel_rfl) (by kernel_rfl) (by kernel_rfl) (fun _ => by kernel_rfl) ?_
          refine calm_end fun w' hw' => plan_end (Clean.normal ?_)
          simp only [Act.put, List.setIfInBounds_toArray, List.set_cons_zero, List.set_cons_succ]
          go_wp2
          go_ret
          exact ⟨by first | (rw [HV.out]; done) | (rw [HV.out]; rfl), ((Below.refl _ _).alloc (Nat.le_refl _) _).trans (hw'.below _)⟩
        · have hv : aqB T S = true := by simp only [aqB, geB, leBB, c1, c2, c3, c4]; rfl
          have HV := Lib.hid hv
          clear hv
          simp only [Aq]
          go_enter Tryd.func35, Tryd.ntmps35
          go_upto_region 1 with (fail)
          have C0 : (w.alloc (.cells #[.float .f32 T, .float .f32 S] 43)).cell? ⟨w.heap.size, 0, none⟩ = some (.float .f32 T) := cell_of_row _ _ 0 _ _ _ (heap_alloc_last w _)
          have C1 : (w.alloc (.cells #[.float .f32 T, .float .f32 S] 43)).cell? ⟨w.heap.size, 1, none⟩ = some (.float .f32 S) := cell_of_row _ _ 1 _ _ _ (heap_alloc_last w _)
          refine wp_region_calm (ops' := regOf Tryd.f35 1) [0, 1, 2, 3, 4, 5, 6, 7, 8, 9, 10, 11, 12, 13, 14, 15, 16, 17, 18, 19, 20] [] .fin (Quiet (w.alloc (.cells #[.float .f32 T, .float .f32 S] 43))) [(0, One (.pointer (some ⟨w.heap.size, 0, none⟩))), (1, One (.float .f32 T)), (2, One (.float .f32 981467136)), (3, One (.bool true)), (4, One (.bool true)), (5, One (.pointer (some ⟨w.heap.size, 0, none⟩))), (6, One (.float .f32 T)), (7, One (.bool true)), (8, One (.bool true)), (9, One (.bool true)), (10, One (.pointer (some ⟨w.heap.size, 1, none⟩))), (11, One (.float .f32 S)), (12, One (.float .f32 897581056)), (13, One (.bool true)), (14, One (.bool true)), (15, One (.bool true)), (16, One (.pointer (some ⟨w.heap.size, 1, none⟩))), (17, One (.float .f32 S)), (18, One (.bool true)), (19, One (.bool true)), (20, One (.bool true))] (by kernel_rfl) (by kernel_rfl) (by kernel_rfl) (by kernel_rfl) (by kernel_rfl) (by kernel_rfl) (by kernel_rfl) (by kernel_rfl) rfl ((Quiet.refl _).drewN 1) ?_
          refine calm_pure (some 3) (by kernel_rfl) (by kernel_rfl) (by kernel_rfl) (fun _ => by kernel_rfl) ?_
          refine calm_read (some 4) (by kernel_rfl) (by kernel_rfl) (by kernel_rfl) (fun w' hw' => load_cell (ty := 24) (x := .tmp 3) (b := w.heap.size) (o := 0) (by kernel_rfl) (by kernel_rfl) Tryd.underlying24 rfl (kq C0 w' hw')) ?_
          refine calm_call (some 5) 50 #[.int .i64 1, .int .i64 1024] ⟨_, rfl⟩ (by kernel_rfl) (by kernel_rfl) (by kernel_rfl) (fun _ => by kernel_rfl) (fun w' hw' => ((ratio_same 1065353216 1149239296 981467136 1 1024 (by decide +kernel) (by decide +kernel) (by decide +kernel) w').mono fun _ _ h => (⟨h.1, h.2 ▸ Quiet.refl _⟩ : _ ∧ Quiet w' _)).mono fun e w2 h => ⟨_, h.1, rfl, hw'.trans h.2⟩) ?_
          rintro _ rfl
          refine calm_pure (some 6) (by kernel_rfl) (by kernel_rfl) (by kernel_rfl) (fun _ => by rw [← c1]; kernel_rfl) ?_
          refine calm_pure (some 7) (by kernel_rfl) (by kernel_rfl) (by kernel_rfl) (fun _ => by kernel_rfl) ?_
          refine calm_pure (some 8) (by kernel_rfl) (by kernel_rfl) (by kernel_rfl) (fun _ => by kernel_rfl) ?_
          refine calm_read (some 9) (by kernel_rfl) (by kernel_rfl) (by kernel_rfl) (fun w' hw' => load_cell (ty := 24) (x := .tmp 8) (b := w.heap.size) (o := 0) (by kernel_rfl) (by kernel_rfl) Tryd.underlying24 rfl (kq C0 w' hw')) ?_
          refine calm_pure (some 10) (by kernel_rfl) (by kernel_rfl) (by kernel_rfl) (fun _ => by rw [← c2]; kernel_rfl) ?_
          refine calm_pure (some 11) (by kernel_rfl) (by kernel_rfl) (by kernel_rfl) (fun _ => by kernel_rfl) ?_
          refine calm_pure (some 12) (by kernel_rfl) (by kernel_rfl) (by kernel_rfl) (fun _ => by kernel_rfl) ?_
          refine calm_pure (some 13) (by kernel_rfl) (by kernel_rfl) (by kernel_rfl) (fun _ => by kernel_rfl) ?_
          refine calm_read (some 14) (by kernel_rfl) (by kernel_rfl) (by kernel_rfl) (fun w' hw' => load_cell (ty := 24) (x := .tmp 13) (b := w.heap.size) (o := 1) (by kernel_rfl) (by kernel_rfl) Tryd.underlying24 rfl (kq C1 w' hw')) ?_
          refine calm_call (some 15) 50 #[.int .i64 1, .int .i64 1048576] ⟨_, rfl⟩ (by kernel_rfl) (by kernel_rfl) (by kernel_rfl) (fun _ => by kernel_rfl) (fun w' hw' => ((ratio_same 1065353216 1233125376 897581056 1 1048576 (by decide +kernel) (by decide +kernel) (by decide +kernel) w').mono fun _ _ h => (⟨h.1, h.2 ▸ Quiet.refl _⟩ : _ ∧ Quiet w' _)).mono fun e w2 h => ⟨_, h.1, rfl, hw'.trans h.2⟩) ?_
          rintro _ rfl
          refine calm_pure (some 16) (by kernel_rfl) (by kernel_rfl) (by kernel_rfl) (fun _ => by rw [← c3]; kernel_rfl) ?_
          refine calm_pure (some 17) (by kernel_rfl) (by kernel_rfl) (by kernel_rfl) (fun _ => by kernel_rfl) ?_
          refine calm_pure (some 18) (by kernel_rfl) (by kernel_rfl) (by kernel_rfl) (fun _ => by kernel_rfl) ?_
          refine calm_pure (some 19) (by kernel_rfl) (by kernel_rfl) (by kernel_rfl) (fun _ => by kernel_rfl) ?_
          refine calm_read (some 20) (by kernel_rfl) (by kernel_rfl) (by kernel_rfl) (fun w' hw' => load_cell (ty := 24) (x := .tmp 19) (b := w.heap.size) (o := 1) (by kernel_rfl) (by kernel_rfl) Tryd.underlying24 rfl (kq C1 w' hw')) ?_
          refine calm_pure (some 21) (by kernel_rfl) (by kernel_rfl) (by kernel_rfl) (fun _ => by rw [← c4]; kernel_rfl) ?_
          refine calm_pure (some 22) (by kernel_rfl) (by kernel_rfl) (by kernel_rfl) (fun _ => by kernel_rfl) ?_
          refine calm_pure (some 2) (by kernel_rfl) (by kernel_rfl) (by kernel_rfl) (fun _ => by kernel_rfl) ?_
          refine calm_end fun w' hw' => plan_end (Clean.normal ?_)
          simp only [Act.put, List.setIfInBounds_toArray, List.set_cons_zero, List.set_cons_succ]
          go_wp2
          go_ret
          exact ⟨by first | (rw [HV.out]; done) | (rw [HV.out]; rfl), ((Below.refl _ _).alloc (Nat.le_refl _) _).trans (hw'.below _)⟩
end Go.Proofs.YtbiknpfcemfoeaaDoor
