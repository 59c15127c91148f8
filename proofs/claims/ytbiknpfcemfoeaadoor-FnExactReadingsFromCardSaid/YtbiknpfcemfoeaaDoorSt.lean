/- Sites as values: which are valid (the program's and the model's), the law's copy, and an argument that is one. Condition: none. -/
import Derived.Test.YtbiknpfcemfoeaaDoorLogI
import Derived.Test.YtbiknpfcemfoeaaDoorStr
import Derived.Test.YtbiknpfcemfoeaaDoorDrwI
namespace Go.Proofs.YtbiknpfcemfoeaaDoor
open Go Go.RowKit Ieee
set_option linter.unusedSimpArgs false
set_option linter.unusedVariables false
attribute [local go_sem] run_store_f32
/-- A site. -/
def Ste (X Y : Int) (R : Nat) (x y : Int) : Array Value := #[.int .i8 X, .int .i8 Y, .float .f32 R, .int .i8 x, .int .i8 y]
def stB (X Y : Int) (R : Nat) (x y : Int) : Bool := weB X Y R && plB x && plB y
theorem there_cut {w : World} {b n k m : Nat} (h : w.there b 0 n) (hk : k + m ≤ n) : w.there b k m := fun j hj => by
  have := h (k + j) (by omega)
  rwa [Nat.zero_add] at this
theorem results_agg1 {P : Program} {fn : Func} {p : Tmp} {ty : TypeId} {D : TypeDesc} (h : fn.results = #[.cell p ty]) (tmps : Array Value) (w : World) (b : Nat) (cs : Array Value)
    (hp : tmps.getD p undef = .pointer (some ⟨b, 0, none⟩)) (hc : w.rangeAt b 0 cs.toList) (hu : P.underlying ty = some D) (hd : D.isRow = true) (hi : (P.info? ty).map (·.size) = some cs.toList.length) :
    (results fn tmps).run P w = .ok (.agg cs) w := by
  have hp' : tmps[p]?.getD undef = .pointer (some ⟨b, 0, none⟩) := by simpa using hp
  have := run_loadVar_mid (P := P) w b 0 ty cs.toList D hc hu hd hi
  simp [results, h, hp', asAddr, this]

set_option maxRecDepth 100000 in
set_option maxHeartbeats 1000000 in
theorem sitePlace_any (X Y : Int) (R : Nat) (x y : Int) (hX : -128 ≤ X ∧ X ≤ 127) (hY : -128 ≤ Y ∧ Y ≤ 127) (hx : -128 ≤ x ∧ x ≤ 127) (hy : -128 ≤ y ∧ y ≤ 127) (w : World) : Calls Tryd.prog 85 #[.agg (Ste X Y R x y)] w fun e w' => e = .returned (.agg (Pc x y)) ∧ Below w.heap.size w w' := by
  simp only [Ste, Pc]
  go_enter Tryd.func85, Tryd.ntmps85
  go_wp2
  refine bodyPost_ret (by simp [results, Tryd.results85, go_sem] <;> rfl) rfl ⟨rfl, ?_⟩
  exact ((Below.refl _ _).alloc (Nat.le_refl _) _).alloc (by simp) _

set_option maxRecDepth 100000 in
set_option maxHeartbeats 2000000 in
theorem validSite_any (X Y : Int) (R : Nat) (x y : Int) (hX : -128 ≤ X ∧ X ≤ 127) (hY : -128 ≤ Y ∧ Y ≤ 127) (hx : -128 ≤ x ∧ x ≤ 127) (hy : -128 ≤ y ∧ y ≤ 127) (w : World) : Calls Tryd.prog 67 #[.agg (Ste X Y R x y)] w fun e w' => e = .returned (.bool (stB X Y R x y)) ∧ Below w.heap.size w w' := by
  cases hc : weB X Y R
  · have HV := Lib.hid (show stB X Y R x y = false by simp only [stB, hc]; rfl)
    have T1 := fun V => validWell_any X Y R hX hY V
    have T2 := fun V => sitePlace_any X Y R x y hX hY hx hy V
    have T3 := fun V => isNear_is x y V
    rw [hc] at T1
    have B0 : Below w.heap.size w (w.alloc (.cells #[.int .i8 X, .int .i8 Y, .float .f32 R, .int .i8 x, .int .i8 y] 47)) := (Below.refl _ _).alloc (Nat.le_refl _) _
    have C0 : ∀ V, Below (w.alloc (.cells #[.int .i8 X, .int .i8 Y, .float .f32 R, .int .i8 x, .int .i8 y] 47)).heap.size (w.alloc (.cells #[.int .i8 X, .int .i8 Y, .float .f32 R, .int .i8 x, .int .i8 y] 47)) V → V.cell? ⟨w.heap.size, 0, none⟩ = some (.int .i8 X) := fun V hV => (hV.cell (p := ⟨w.heap.size, 0, none⟩) (by simp)).trans (cell_of_row _ _ 0 _ _ _ (heap_alloc_last w _))
    have C1 : ∀ V, Below (w.alloc (.cells #[.int .i8 X, .int .i8 Y, .float .f32 R, .int .i8 x, .int .i8 y] 47)).heap.size (w.alloc (.cells #[.int .i8 X, .int .i8 Y, .float .f32 R, .int .i8 x, .int .i8 y] 47)) V → V.cell? ⟨w.heap.size, 1, none⟩ = some (.int .i8 Y) := fun V hV => (hV.cell (p := ⟨w.heap.size, 1, none⟩) (by simp)).trans (cell_of_row _ _ 1 _ _ _ (heap_alloc_last w _))
    have C2 : ∀ V, Below (w.alloc (.cells #[.int .i8 X, .int .i8 Y, .float .f32 R, .int .i8 x, .int .i8 y] 47)).heap.size (w.alloc (.cells #[.int .i8 X, .int .i8 Y, .float .f32 R, .int .i8 x, .int .i8 y] 47)) V → V.cell? ⟨w.heap.size, 2, none⟩ = some (.float .f32 R) := fun V hV => (hV.cell (p := ⟨w.heap.size, 2, none⟩) (by simp)).trans (cell_of_row _ _ 2 _ _ _ (heap_alloc_last w _))
    have C3 : ∀ V, Below (w.alloc (.cells #[.int .i8 X, .int .i8 Y, .float .f32 R, .int .i8 x, .int .i8 y] 47)).heap.size (w.alloc (.cells #[.int .i8 X, .int .i8 Y, .float .f32 R, .int .i8 x, .int .i8 y] 47)) V → V.cell? ⟨w.heap.size, 3, none⟩ = some (.int .i8 x) := fun V hV => (hV.cell (p := ⟨w.heap.size, 3, none⟩) (by simp)).trans (cell_of_row _ _ 3 _ _ _ (heap_alloc_last w _))
    have C4 : ∀ V, Below (w.alloc (.cells #[.int .i8 X, .int .i8 Y, .float .f32 R, .int .i8 x, .int .i8 y] 47)).heap.size (w.alloc (.cells #[.int .i8 X, .int .i8 Y, .float .f32 R, .int .i8 x, .int .i8 y] 47)) V → V.cell? ⟨w.heap.size, 4, none⟩ = some (.int .i8 y) := fun V hV => (hV.cell (p := ⟨w.heap.size, 4, none⟩) (by simp)).trans (cell_of_row _ _ 4 _ _ _ (heap_alloc_last w _))
    simp only [We] at T1
    simp only [Ste, Pc] at T2 T3 ⊢
    go_enter Tryd.func67, Tryd.ntmps67
    go_wp2_with ((go_at_call 90; refine (T1 _).mono ?_; rintro e V1 ⟨rfl, hq1⟩; have c0 := C0 V1 hq1; have c1 := C1 V1 hq1; have c2 := C2 V1 hq1; have c3 := C3 V1 hq1; have c4 := C4 V1 hq1; have Q1 := Lib.hid (B0.trans (hq1.mono B0.size)); clear hq1 B0 C0 C1 C2 C3 C4))
    go_ret
    exact ⟨by first | (rw [HV.out]; done) | (rw [HV.out]; rfl), Q1.out⟩
  · have HV := Lib.hid (show stB X Y R x y = (plB x && plB y) by simp only [stB, hc, Bool.true_and])
    have T1 := fun V => validWell_any X Y R hX hY V
    have T2 := fun V => sitePlace_any X Y R x y hX hY hx hy V
    have T3 := fun V => isNear_is x y V
    rw [hc] at T1
    have B0 : Below w.heap.size w (w.alloc (.cells #[.int .i8 X, .int .i8 Y, .float .f32 R, .int .i8 x, .int .i8 y] 47)) := (Below.refl _ _).alloc (Nat.le_refl _) _
    have C0 : ∀ V, Below (w.alloc (.cells #[.int .i8 X, .int .i8 Y, .float .f32 R, .int .i8 x, .int .i8 y] 47)).heap.size (w.alloc (.cells #[.int .i8 X, .int .i8 Y, .float .f32 R, .int .i8 x, .int .i8 y] 47)) V → V.cell? ⟨w.heap.size, 0, none⟩ = some (.int .i8 X) := fun V hV => (hV.cell (p := ⟨w.heap.size, 0, none⟩) (by simp)).trans (cell_of_row _ _ 0 _ _ _ (heap_alloc_last w _))
    have C1 : ∀ V, Below (w.alloc (.cells #[.int .i8 X, .int .i8 Y, .float .f32 R, .int .i8 x, .int .i8 y] 47)).heap.size (w.alloc (.cells #[.int .i8 X, .int .i8 Y, .float .f32 R, .int .i8 x, .int .i8 y] 47)) V → V.cell? ⟨w.heap.size, 1, none⟩ = some (.int .i8 Y) := fun V hV => (hV.cell (p := ⟨w.heap.size, 1, none⟩) (by simp)).trans (cell_of_row _ _ 1 _ _ _ (heap_alloc_last w _))
    have C2 : ∀ V, Below (w.alloc (.cells #[.int .i8 X, .int .i8 Y, .float .f32 R, .int .i8 x, .int .i8 y] 47)).heap.size (w.alloc (.cells #[.int .i8 X, .int .i8 Y, .float .f32 R, .int .i8 x, .int .i8 y] 47)) V → V.cell? ⟨w.heap.size, 2, none⟩ = some (.float .f32 R) := fun V hV => (hV.cell (p := ⟨w.heap.size, 2, none⟩) (by simp)).trans (cell_of_row _ _ 2 _ _ _ (heap_alloc_last w _))
    have C3 : ∀ V, Below (w.alloc (.cells #[.int .i8 X, .int .i8 Y, .float .f32 R, .int .i8 x, .int .i8 y] 47)).heap.size (w.alloc (.cells #[.int .i8 X, .int .i8 Y, .float .f32 R, .int .i8 x, .int .i8 y] 47)) V → V.cell? ⟨w.heap.size, 3, none⟩ = some (.int .i8 x) := fun V hV => (hV.cell (p := ⟨w.heap.size, 3, none⟩) (by simp)).trans (cell_of_row _ _ 3 _ _ _ (heap_alloc_last w _))
    have C4 : ∀ V, Below (w.alloc (.cells #[.int .i8 X, .int .i8 Y, .float .f32 R, .int .i8 x, .int .i8 y] 47)).heap.size (w.alloc (.cells #[.int .i8 X, .int .i8 Y, .float .f32 R, .int .i8 x, .int .i8 y] 47)) V → V.cell? ⟨w.heap.size, 4, none⟩ = some (.int .i8 y) := fun V hV => (hV.cell (p := ⟨w.heap.size, 4, none⟩) (by simp)).trans (cell_of_row _ _ 4 _ _ _ (heap_alloc_last w _))
    simp only [We] at T1
    simp only [Ste, Pc] at T2 T3 ⊢
    go_enter Tryd.func67, Tryd.ntmps67
    obtain ⟨r, hr⟩ : ∃ r, (plB x && plB y) = r := ⟨_, rfl⟩
    rw [hr] at T3
    have HR := Lib.hid (HV.out.trans hr)
    clear HV hr
    go_wp2_with (first | (go_at_call 90; refine (T1 _).mono ?_; rintro e V1 ⟨rfl, hq1⟩; have c0 := C0 V1 hq1; have c1 := C1 V1 hq1; have c2 := C2 V1 hq1; have c3 := C3 V1 hq1; have c4 := C4 V1 hq1; have Q1 := Lib.hid (B0.trans (hq1.mono B0.size)); clear hq1 B0 C0 C1 C2 C3 C4) | (go_at_call 85; refine (T2 _).mono ?_; rintro e V2 ⟨rfl, hq2⟩; have Q2 := Lib.hid (Q1.out.trans (hq2.mono Q1.out.size)); clear hq2) | (go_at_call 91; refine (T3 _).mono ?_; rintro e V3 ⟨rfl, hq3⟩; have Q3 := Lib.hid (Q2.out.trans (hq3.mono Q2.out.size)); clear hq3))
    go_ret
    exact ⟨by first | (rw [HR.out]; done) | (rw [HR.out]; rfl) | simp [HR.out], Q3.out⟩

set_option maxRecDepth 100000 in
set_option maxHeartbeats 2000000 in
theorem l04Site_any (X Y : Int) (R : Nat) (x y : Int) (hX : -128 ≤ X ∧ X ≤ 127) (hY : -128 ≤ Y ∧ Y ≤ 127) (hx : -128 ≤ x ∧ x ≤ 127) (hy : -128 ≤ y ∧ y ≤ 127) (w : World) : Calls Tryd.prog 36 #[.agg (Ste X Y R x y)] w fun e w' => e = .returned (.bool (stB X Y R x y)) ∧ Below w.heap.size w w' := by
  cases hc : weB X Y R
  · have HV := Lib.hid (show stB X Y R x y = false by simp only [stB, hc]; rfl)
    have T1 := fun V => l03Ok_any X Y R hX hY V
    rw [hc] at T1
    have B0 : Below w.heap.size w (w.alloc (.cells #[.int .i8 X, .int .i8 Y, .float .f32 R, .int .i8 x, .int .i8 y] 47)) := (Below.refl _ _).alloc (Nat.le_refl _) _
    have C0 : ∀ V, Below (w.alloc (.cells #[.int .i8 X, .int .i8 Y, .float .f32 R, .int .i8 x, .int .i8 y] 47)).heap.size (w.alloc (.cells #[.int .i8 X, .int .i8 Y, .float .f32 R, .int .i8 x, .int .i8 y] 47)) V → V.cell? ⟨w.heap.size, 0, none⟩ = some (.int .i8 X) := fun V hV => (hV.cell (p := ⟨w.heap.size, 0, none⟩) (by simp)).trans (cell_of_row _ _ 0 _ _ _ (heap_alloc_last w _))
    have C1 : ∀ V, Below (w.alloc (.cells #[.int .i8 X, .int .i8 Y, .float .f32 R, .int .i8 x, .int .i8 y] 47)).heap.size (w.alloc (.cells #[.int .i8 X, .int .i8 Y, .float .f32 R, .int .i8 x, .int .i8 y] 47)) V → V.cell? ⟨w.heap.size, 1, none⟩ = some (.int .i8 Y) := fun V hV => (hV.cell (p := ⟨w.heap.size, 1, none⟩) (by simp)).trans (cell_of_row _ _ 1 _ _ _ (heap_alloc_last w _))
    have C2 : ∀ V, Below (w.alloc (.cells #[.int .i8 X, .int .i8 Y, .float .f32 R, .int .i8 x, .int .i8 y] 47)).heap.size (w.alloc (.cells #[.int .i8 X, .int .i8 Y, .float .f32 R, .int .i8 x, .int .i8 y] 47)) V → V.cell? ⟨w.heap.size, 2, none⟩ = some (.float .f32 R) := fun V hV => (hV.cell (p := ⟨w.heap.size, 2, none⟩) (by simp)).trans (cell_of_row _ _ 2 _ _ _ (heap_alloc_last w _))
    have C3 : ∀ V, Below (w.alloc (.cells #[.int .i8 X, .int .i8 Y, .float .f32 R, .int .i8 x, .int .i8 y] 47)).heap.size (w.alloc (.cells #[.int .i8 X, .int .i8 Y, .float .f32 R, .int .i8 x, .int .i8 y] 47)) V → V.cell? ⟨w.heap.size, 3, none⟩ = some (.int .i8 x) := fun V hV => (hV.cell (p := ⟨w.heap.size, 3, none⟩) (by simp)).trans (cell_of_row _ _ 3 _ _ _ (heap_alloc_last w _))
    have C4 : ∀ V, Below (w.alloc (.cells #[.int .i8 X, .int .i8 Y, .float .f32 R, .int .i8 x, .int .i8 y] 47)).heap.size (w.alloc (.cells #[.int .i8 X, .int .i8 Y, .float .f32 R, .int .i8 x, .int .i8 y] 47)) V → V.cell? ⟨w.heap.size, 4, none⟩ = some (.int .i8 y) := fun V hV => (hV.cell (p := ⟨w.heap.size, 4, none⟩) (by simp)).trans (cell_of_row _ _ 4 _ _ _ (heap_alloc_last w _))
    simp only [We] at T1
    simp only [Ste] at ⊢
    go_enter Tryd.func36, Tryd.ntmps36
    go_wp2_with (first | (go_at_call 55; refine (T1 _).mono ?_; rintro e V1 ⟨rfl, hq1⟩; have c0 := C0 V1 hq1; have c1 := C1 V1 hq1; have c2 := C2 V1 hq1; have c3 := C3 V1 hq1; have c4 := C4 V1 hq1; have Q1 := Lib.hid (B0.trans (hq1.mono B0.size)); clear hq1 B0 C0 C1 C2 C3 C4))
    go_ret
    exact ⟨by first | (rw [HV.out]; done) | (rw [HV.out]; rfl), Q1.out⟩
  · cases hx' : plB x
    · have HV := Lib.hid (show stB X Y R x y = false by simp only [stB, hc, hx']; rfl)
      have T1 := fun V => l03Ok_any X Y R hX hY V
      rw [hc] at T1
      have B0 : Below w.heap.size w (w.alloc (.cells #[.int .i8 X, .int .i8 Y, .float .f32 R, .int .i8 x, .int .i8 y] 47)) := (Below.refl _ _).alloc (Nat.le_refl _) _
      have C0 : ∀ V, Below (w.alloc (.cells #[.int .i8 X, .int .i8 Y, .float .f32 R, .int .i8 x, .int .i8 y] 47)).heap.size (w.alloc (.cells #[.int .i8 X, .int .i8 Y, .float .f32 R, .int .i8 x, .int .i8 y] 47)) V → V.cell? ⟨w.heap.size, 0, none⟩ = some (.int .i8 X) := fun V hV => (hV.cell (p := ⟨w.heap.size, 0, none⟩) (by simp)).trans (cell_of_row _ _ 0 _ _ _ (heap_alloc_last w _))
      have C1 : ∀ V, Below (w.alloc (.cells #[.int .i8 X, .int .i8 Y, .float .f32 R, .int .i8 x, .int .i8 y] 47)).heap.size (w.alloc (.cells #[.int .i8 X, .int .i8 Y, .float .f32 R, .int .i8 x, .int .i8 y] 47)) V → V.cell? ⟨w.heap.size, 1, none⟩ = some (.int .i8 Y) := fun V hV => (hV.cell (p := ⟨w.heap.size, 1, none⟩) (by simp)).trans (cell_of_row _ _ 1 _ _ _ (heap_alloc_last w _))
      have C2 : ∀ V, Below (w.alloc (.cells #[.int .i8 X, .int .i8 Y, .float .f32 R, .int .i8 x, .int .i8 y] 47)).heap.size (w.alloc (.cells #[.int .i8 X, .int .i8 Y, .float .f32 R, .int .i8 x, .int .i8 y] 47)) V → V.cell? ⟨w.heap.size, 2, none⟩ = some (.float .f32 R) := fun V hV => (hV.cell (p := ⟨w.heap.size, 2, none⟩) (by simp)).trans (cell_of_row _ _ 2 _ _ _ (heap_alloc_last w _))
      have C3 : ∀ V, Below (w.alloc (.cells #[.int .i8 X, .int .i8 Y, .float .f32 R, .int .i8 x, .int .i8 y] 47)).heap.size (w.alloc (.cells #[.int .i8 X, .int .i8 Y, .float .f32 R, .int .i8 x, .int .i8 y] 47)) V → V.cell? ⟨w.heap.size, 3, none⟩ = some (.int .i8 x) := fun V hV => (hV.cell (p := ⟨w.heap.size, 3, none⟩) (by simp)).trans (cell_of_row _ _ 3 _ _ _ (heap_alloc_last w _))
      have C4 : ∀ V, Below (w.alloc (.cells #[.int .i8 X, .int .i8 Y, .float .f32 R, .int .i8 x, .int .i8 y] 47)).heap.size (w.alloc (.cells #[.int .i8 X, .int .i8 Y, .float .f32 R, .int .i8 x, .int .i8 y] 47)) V → V.cell? ⟨w.heap.size, 4, none⟩ = some (.int .i8 y) := fun V hV => (hV.cell (p := ⟨w.heap.size, 4, none⟩) (by simp)).trans (cell_of_row _ _ 4 _ _ _ (heap_alloc_last w _))
      simp only [We] at T1
      simp only [Ste] at ⊢
      go_enter Tryd.func36, Tryd.ntmps36
      go_wp2_with (first | (go_at_call 55; refine (T1 _).mono ?_; rintro e V1 ⟨rfl, hq1⟩; have c0 := C0 V1 hq1; have c1 := C1 V1 hq1; have c2 := C2 V1 hq1; have c3 := C3 V1 hq1; have c4 := C4 V1 hq1; have Q1 := Lib.hid (B0.trans (hq1.mono B0.size)); clear hq1 B0 C0 C1 C2 C3 C4) | (go_at_call 56; refine (place_is x false hx' _).mono ?_; rintro e Vx ⟨rfl, hV⟩; rw [← hV]; clear hV))
      go_ret
      exact ⟨by first | (rw [HV.out]; done) | (rw [HV.out]; rfl), Q1.out⟩
    · cases hy' : plB y
      · have HV := Lib.hid (show stB X Y R x y = false by simp only [stB, hc, hx', hy']; rfl)
        have T1 := fun V => l03Ok_any X Y R hX hY V
        rw [hc] at T1
        have B0 : Below w.heap.size w (w.alloc (.cells #[.int .i8 X, .int .i8 Y, .float .f32 R, .int .i8 x, .int .i8 y] 47)) := (Below.refl _ _).alloc (Nat.le_refl _) _
        have C0 : ∀ V, Below (w.alloc (.cells #[.int .i8 X, .int .i8 Y, .float .f32 R, .int .i8 x, .int .i8 y] 47)).heap.size (w.alloc (.cells #[.int .i8 X, .int .i8 Y, .float .f32 R, .int .i8 x, .int .i8 y] 47)) V → V.cell? ⟨w.heap.size, 0, none⟩ = some (.int .i8 X) := fun V hV => (hV.cell (p := ⟨w.heap.size, 0, none⟩) (by simp)).trans (cell_of_row _ _ 0 _ _ _ (heap_alloc_last w _))
        have C1 : ∀ V, Below (w.alloc (.cells #[.int .i8 X, .int .i8 Y, .float .f32 R, .int .i8 x, .int .i8 y] 47)).heap.size (w.alloc (.cells #[.int .i8 X, .int .i8 Y, .float .f32 R, .int .i8 x, .int .i8 y] 47)) V → V.cell? ⟨w.heap.size, 1, none⟩ = some (.int .i8 Y) := fun V hV => (hV.cell (p := ⟨w.heap.size, 1, none⟩) (by simp)).trans (cell_of_row _ _ 1 _ _ _ (heap_alloc_last w _))
        have C2 : ∀ V, Below (w.alloc (.cells #[.int .i8 X, .int .i8 Y, .float .f32 R, .int .i8 x, .int .i8 y] 47)).heap.size (w.alloc (.cells #[.int .i8 X, .int .i8 Y, .float .f32 R, .int .i8 x, .int .i8 y] 47)) V → V.cell? ⟨w.heap.size, 2, none⟩ = some (.float .f32 R) := fun V hV => (hV.cell (p := ⟨w.heap.size, 2, none⟩) (by simp)).trans (cell_of_row _ _ 2 _ _ _ (heap_alloc_last w _))
        have C3 : ∀ V, Below (w.alloc (.cells #[.int .i8 X, .int .i8 Y, .float .f32 R, .int .i8 x, .int .i8 y] 47)).heap.size (w.alloc (.cells #[.int .i8 X, .int .i8 Y, .float .f32 R, .int .i8 x, .int .i8 y] 47)) V → V.cell? ⟨w.heap.size, 3, none⟩ = some (.int .i8 x) := fun V hV => (hV.cell (p := ⟨w.heap.size, 3, none⟩) (by simp)).trans (cell_of_row _ _ 3 _ _ _ (heap_alloc_last w _))
        have C4 : ∀ V, Below (w.alloc (.cells #[.int .i8 X, .int .i8 Y, .float .f32 R, .int .i8 x, .int .i8 y] 47)).heap.size (w.alloc (.cells #[.int .i8 X, .int .i8 Y, .float .f32 R, .int .i8 x, .int .i8 y] 47)) V → V.cell? ⟨w.heap.size, 4, none⟩ = some (.int .i8 y) := fun V hV => (hV.cell (p := ⟨w.heap.size, 4, none⟩) (by simp)).trans (cell_of_row _ _ 4 _ _ _ (heap_alloc_last w _))
        simp only [We] at T1
        simp only [Ste] at ⊢
        go_enter Tryd.func36, Tryd.ntmps36
        have t1 : True := trivial
        go_wp2_with (first | (go_at_call 55; refine (T1 _).mono ?_; rintro e V1 ⟨rfl, hq1⟩; have c0 := C0 V1 hq1; have c1 := C1 V1 hq1; have c2 := C2 V1 hq1; have c3 := C3 V1 hq1; have c4 := C4 V1 hq1; have Q1 := Lib.hid (B0.trans (hq1.mono B0.size)); clear hq1 B0 C0 C1 C2 C3 C4) | (have _t := t1; go_at_call 56; refine (place_is x true hx' _).mono ?_; rintro e Vx ⟨rfl, hV⟩; rw [← hV]; clear hV t1) | (go_at_call 56; refine (place_is y false hy' _).mono ?_; rintro e Vy ⟨rfl, hV⟩; rw [← hV]; clear hV))
        go_ret
        exact ⟨by first | (rw [HV.out]; done) | (rw [HV.out]; rfl), Q1.out⟩
      · have HV := Lib.hid (show stB X Y R x y = true by simp only [stB, hc, hx', hy']; rfl)
        have T1 := fun V => l03Ok_any X Y R hX hY V
        rw [hc] at T1
        have B0 : Below w.heap.size w (w.alloc (.cells #[.int .i8 X, .int .i8 Y, .float .f32 R, .int .i8 x, .int .i8 y] 47)) := (Below.refl _ _).alloc (Nat.le_refl _) _
        have C0 : ∀ V, Below (w.alloc (.cells #[.int .i8 X, .int .i8 Y, .float .f32 R, .int .i8 x, .int .i8 y] 47)).heap.size (w.alloc (.cells #[.int .i8 X, .int .i8 Y, .float .f32 R, .int .i8 x, .int .i8 y] 47)) V → V.cell? ⟨w.heap.size, 0, none⟩ = some (.int .i8 X) := fun V hV => (hV.cell (p := ⟨w.heap.size, 0, none⟩) (by simp)).trans (cell_of_row _ _ 0 _ _ _ (heap_alloc_last w _))
        have C1 : ∀ V, Below (w.alloc (.cells #[.int .i8 X, .int .i8 Y, .float .f32 R, .int .i8 x, .int .i8 y] 47)).heap.size (w.alloc (.cells #[.int .i8 X, .int .i8 Y, .float .f32 R, .int .i8 x, .int .i8 y] 47)) V → V.cell? ⟨w.heap.size, 1, none⟩ = some (.int .i8 Y) := fun V hV => (hV.cell (p := ⟨w.heap.size, 1, none⟩) (by simp)).trans (cell_of_row _ _ 1 _ _ _ (heap_alloc_last w _))
        have C2 : ∀ V, Below (w.alloc (.cells #[.int .i8 X, .int .i8 Y, .float .f32 R, .int .i8 x, .int .i8 y] 47)).heap.size (w.alloc (.cells #[.int .i8 X, .int .i8 Y, .float .f32 R, .int .i8 x, .int .i8 y] 47)) V → V.cell? ⟨w.heap.size, 2, none⟩ = some (.float .f32 R) := fun V hV => (hV.cell (p := ⟨w.heap.size, 2, none⟩) (by simp)).trans (cell_of_row _ _ 2 _ _ _ (heap_alloc_last w _))
        have C3 : ∀ V, Below (w.alloc (.cells #[.int .i8 X, .int .i8 Y, .float .f32 R, .int .i8 x, .int .i8 y] 47)).heap.size (w.alloc (.cells #[.int .i8 X, .int .i8 Y, .float .f32 R, .int .i8 x, .int .i8 y] 47)) V → V.cell? ⟨w.heap.size, 3, none⟩ = some (.int .i8 x) := fun V hV => (hV.cell (p := ⟨w.heap.size, 3, none⟩) (by simp)).trans (cell_of_row _ _ 3 _ _ _ (heap_alloc_last w _))
        have C4 : ∀ V, Below (w.alloc (.cells #[.int .i8 X, .int .i8 Y, .float .f32 R, .int .i8 x, .int .i8 y] 47)).heap.size (w.alloc (.cells #[.int .i8 X, .int .i8 Y, .float .f32 R, .int .i8 x, .int .i8 y] 47)) V → V.cell? ⟨w.heap.size, 4, none⟩ = some (.int .i8 y) := fun V hV => (hV.cell (p := ⟨w.heap.size, 4, none⟩) (by simp)).trans (cell_of_row _ _ 4 _ _ _ (heap_alloc_last w _))
        simp only [We] at T1
        simp only [Ste] at ⊢
        go_enter Tryd.func36, Tryd.ntmps36
        have t1 : True := trivial
        go_wp2_with (first | (go_at_call 55; refine (T1 _).mono ?_; rintro e V1 ⟨rfl, hq1⟩; have c0 := C0 V1 hq1; have c1 := C1 V1 hq1; have c2 := C2 V1 hq1; have c3 := C3 V1 hq1; have c4 := C4 V1 hq1; have Q1 := Lib.hid (B0.trans (hq1.mono B0.size)); clear hq1 B0 C0 C1 C2 C3 C4) | (have _t := t1; go_at_call 56; refine (place_is x true hx' _).mono ?_; rintro e Vx ⟨rfl, hV⟩; rw [← hV]; clear hV t1) | (go_at_call 56; refine (place_is y true hy' _).mono ?_; rintro e Vy ⟨rfl, hV⟩; rw [← hV]; clear hV))
        go_ret
        exact ⟨by first | (rw [HV.out]; done) | (rw [HV.out]; rfl), Q1.out⟩

set_option maxRecDepth 100000 in
set_option maxHeartbeats 2000000 in
theorem toSite_any (X Y : Int) (R : Nat) (x y : Int) (w : World) : Calls Tryd.prog 15 #[.agg (Ste X Y R x y)] w fun e w' => e = .returned (.agg (Ste X Y R x y)) ∧ Below w.heap.size w w' := by
  have T1 := fun V => toWell_any X Y R V
  obtain ⟨z, b0, b1, b2, B0⟩ := laid3 w (.cells #[.int .i8 X, .int .i8 Y, .float .f32 R, .int .i8 x, .int .i8 y] 39) (.cells #[.int .i8 0, .int .i8 0, .float .f32 0, .int .i8 0, .int .i8 0] 47) (.cells #[.int .i8 0, .int .i8 0, .float .f32 0, .int .i8 0, .int .i8 0] 47)
  have K0 := Lib.hid b0
  have K1 := Lib.hid b1
  have K2 := Lib.hid b2
  have BW := Lib.hid B0
  have Z := Lib.hid z
  clear b0 b1 b2 B0 z
  simp only [We] at T1
  simp only [Ste]
  go_enter Tryd.func15, Tryd.ntmps15
  go_upto_region 3 with (first
    | (go_at_call 40; refine (T1 _).mono ?_; rintro e V1 ⟨rfl, hq1⟩; have k0 := Lib.hid ((hq1.block w.heap.size (by rw [Z.out]; omega)).trans K0.out); have k1 := Lib.hid ((hq1.block (w.heap.size + 1) (by rw [Z.out]; omega)).trans K1.out); have k2 := Lib.hid ((hq1.block (w.heap.size + 1 + 1) (by rw [Z.out]; omega)).trans K2.out); have Q1 := Lib.hid (BW.out.trans (hq1.mono BW.out.size)); have TH := Lib.hid (there_cut (there_row k2.out rfl) (show 0 + 3 ≤ 5 by omega)); clear hq1 K0 K1 K2 BW Z)
    | (refine wpList_store_mid rfl 45 _ _ rfl (w.heap.size + 1 + 1) 0 #[.int .i8 X, .int .i8 Y, .float .f32 R] rfl rfl TH.out (by kernel_rfl) (by simp [Value.oneCell']) ?_))
  obtain ⟨U, hU⟩ : ∃ U, V1.setCells (w.heap.size + 1 + 1) 0 [.int .i8 X, .int .i8 Y, .float .f32 R] = U := ⟨_, rfl⟩
  try rw [hU]
  have BU : Below (w.heap.size + 1 + 1) V1 U := by rw [← hU]; exact below_setCells _ (Nat.le_refl _) _ _ _ (Below.refl _ _)
  have L0 : U.heap[w.heap.size + 1 + 1]? = some (.cells #[.int .i8 X, .int .i8 Y, .float .f32 R, .int .i8 0, .int .i8 0] 47 (0, 0)) := by
    rw [← hU]
    have h1 := heap_setCell_same (v := .int .i8 X) V1 (w.heap.size + 1 + 1) 0 _ _ k2.out
    have h2 := heap_setCell_same (v := .int .i8 Y) _ (w.heap.size + 1 + 1) 1 _ _ h1
    exact heap_setCell_same (v := .float .f32 R) _ (w.heap.size + 1 + 1) 2 _ _ h2
  have kb0 := (BU.block w.heap.size (by omega)).trans k0.out
  have c3 : U.cell? ⟨w.heap.size, 3, none⟩ = some (.int .i8 x) := cell_of_row U _ 3 _ _ _ kb0
  have d3 : U.cell? ⟨w.heap.size + 1 + 1, 3, none⟩ = some (.int .i8 0) := cell_of_row U _ 3 _ _ _ L0
  have f3 := frozen_of_row U (w.heap.size + 1 + 1) 3 _ _ L0
  have J0 := Lib.hid kb0
  have J1 := Lib.hid ((BU.block (w.heap.size + 1) (by omega)).trans k1.out)
  have J2 := Lib.hid L0
  have BJ := Lib.hid (Q1.out.trans (BU.mono (by omega)))
  clear hU BU L0 kb0 k0 k1 k2 Q1 TH T1
  go_upto_region 4 with (fail)
  obtain ⟨U5, hU5⟩ : ∃ U5, U.setCell ⟨w.heap.size + 1 + 1, 3, none⟩ (.int .i8 x) = U5 := ⟨_, rfl⟩
  rw [hU5]
  have BU : Below (w.heap.size + 1 + 1) U U5 := by rw [← hU5]; exact (Below.refl _ _).setCell (p := ⟨w.heap.size + 1 + 1, 3, none⟩) (Nat.le_refl _) _
  have L0 : U5.heap[w.heap.size + 1 + 1]? = some (.cells #[.int .i8 X, .int .i8 Y, .float .f32 R, .int .i8 x, .int .i8 0] 47 (0, 0)) := by rw [← hU5]; exact heap_setCell_same U (w.heap.size + 1 + 1) 3 _ _ _ J2.out
  have kb0 := (BU.block w.heap.size (by omega)).trans J0.out
  have c4 : U5.cell? ⟨w.heap.size, 4, none⟩ = some (.int .i8 y) := cell_of_row U5 _ 4 _ _ _ kb0
  have d4 : U5.cell? ⟨w.heap.size + 1 + 1, 4, none⟩ = some (.int .i8 0) := cell_of_row U5 _ 4 _ _ _ L0
  have f4 := frozen_of_row U5 (w.heap.size + 1 + 1) 4 _ _ L0
  have M1 := Lib.hid ((BU.block (w.heap.size + 1) (by omega)).trans J1.out)
  have M2 := Lib.hid L0
  have BM := Lib.hid (BJ.out.trans (BU.mono (by omega)))
  clear hU5 BU L0 kb0 J0 J1 J2 BJ c3 d3 f3
  go_upto_region 5 with (fail)
  obtain ⟨U6, hU6⟩ : ∃ U6, U5.setCell ⟨w.heap.size + 1 + 1, 4, none⟩ (.int .i8 y) = U6 := ⟨_, rfl⟩
  rw [hU6]
  have BU : Below (w.heap.size + 1 + 1) U5 U6 := by rw [← hU6]; exact (Below.refl _ _).setCell (p := ⟨w.heap.size + 1 + 1, 4, none⟩) (Nat.le_refl _) _
  have L0 : U6.heap[w.heap.size + 1 + 1]? = some (.cells #[.int .i8 X, .int .i8 Y, .float .f32 R, .int .i8 x, .int .i8 y] 47 (0, 0)) := by rw [← hU6]; exact heap_setCell_same U5 (w.heap.size + 1 + 1) 4 _ _ _ M2.out
  have RL := Lib.hid (rangeAt_row L0)
  have TK := Lib.hid (there_row ((BU.block (w.heap.size + 1) (by omega)).trans M1.out) rfl)
  have B9 := Lib.hid (BM.out.trans (BU.mono (by omega)))
  clear hU6 BU L0 M1 M2 BM c4 d4 f4
  go_wp2_with (first
    | (refine wpList_load_mid rfl 47 _ rfl (w.heap.size + 1 + 1) 0 rfl _ _ RL.out Tryd.underlying47 rfl (by kernel_rfl) ?_)
    | (refine wpList_store_mid rfl 47 _ _ rfl (w.heap.size + 1) 0 #[.int .i8 X, .int .i8 Y, .float .f32 R, .int .i8 x, .int .i8 y] rfl rfl TK.out (by kernel_rfl) (by simp [Value.oneCell']) ?_))
  refine bodyPost_ret (results_agg1 rfl _ _ (w.heap.size + 1) #[.int .i8 X, .int .i8 Y, .float .f32 R, .int .i8 x, .int .i8 y] rfl (World.rangeAt_setCells_same U6 (w.heap.size + 1) 0 [.int .i8 X, .int .i8 Y, .float .f32 R, .int .i8 x, .int .i8 y] TK.out) Tryd.underlying47 rfl (by kernel_rfl)) rfl ⟨rfl, ?_⟩
  exact below_setCells _ (by omega) _ _ _ B9.out
set_option maxRecDepth 100000 in
theorem okWide_st {W : World} {base : Nat} {v : Value} (h : Value.okWide Tryd.prog W .any base 39 v) : ∃ X Y R x y, v = .agg (Ste X Y R x y) ∧ (-128 ≤ X ∧ X ≤ 127) ∧ (-128 ≤ Y ∧ Y ≤ 127) ∧ R < 4294967296 ∧ (-128 ≤ x ∧ x ≤ 127) ∧ (-128 ≤ y ∧ y ≤ 127) := by
  simp only [Value.okWide, Tryd.underlying39] at h
  obtain ⟨cs, rfl, hsz, ts, hts, _, hc⟩ := h
  rw [show Tryd.prog.cellTypes Tryd.prog.depth 39 = some [35, 35, 24, 35, 35] by kernel_rfl] at hts
  obtain rfl := Option.some.inj hts
  rw [show Tryd.prog.cellsOf 39 = 5 by kernel_rfl] at hsz
  obtain ⟨l⟩ := cs
  match l, hsz with
  | [v0, v1, v2, v3, v4], _ =>
    obtain ⟨u0, hu0, o0⟩ := hc 0 v0 rfl
    obtain ⟨u1, hu1, o1⟩ := hc 1 v1 rfl
    obtain ⟨u2, hu2, o2⟩ := hc 2 v2 rfl
    obtain ⟨u3, hu3, o3⟩ := hc 3 v3 rfl
    obtain ⟨u4, hu4, o4⟩ := hc 4 v4 rfl
    obtain rfl := Option.some.inj hu0
    obtain rfl := Option.some.inj hu1
    obtain rfl := Option.some.inj hu2
    obtain rfl := Option.some.inj hu3
    obtain rfl := Option.some.inj hu4
    obtain ⟨X, rfl, h1, h2⟩ := cellStr_i8 o0
    obtain ⟨Y, rfl, h3, h4⟩ := cellStr_i8 o1
    obtain ⟨R, rfl, hR⟩ := cellStr_f32 o2
    obtain ⟨x, rfl, h5, h6⟩ := cellStr_i8 o3
    obtain ⟨y, rfl, h7, h8⟩ := cellStr_i8 o4
    exact ⟨X, Y, R, x, y, rfl, ⟨h1, h2⟩, ⟨h3, h4⟩, hR, ⟨h5, h6⟩, ⟨h7, h8⟩⟩
end Go.Proofs.YtbiknpfcemfoeaaDoor
