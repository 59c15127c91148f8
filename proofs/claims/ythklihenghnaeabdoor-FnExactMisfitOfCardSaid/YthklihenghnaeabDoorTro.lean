/- TransmitOf, the program's and the model's, as a value. Condition: the sentinels lie where they are laid. -/
import Derived.Test.YthklihenghnaeabDoorIsE
import Derived.Test.YthklihenghnaeabDoorSt
namespace Go.Proofs.YthklihenghnaeabDoor
open Go Go.RowKit Ieee
set_option linter.unusedSimpArgs false
set_option linter.unusedVariables false
attribute [local go_sem] run_store_f32
theorem below_drewN' {n : Nat} {w w' : World} (h : Below n w w') (k : Nat) : Below n w (w'.drewN k) := h.trans (⟨rfl, rfl, rfl, Nat.le_refl _, fun _ _ => rfl⟩)
/-- What a slope says. -/
def trQ (R l : Nat) : Option Nat := fop .f32 .quo (num .f32 R) (fop .f32 .mul (num .f32 1095307227) (num .f32 l))
def trBo : Option Nat → Bool | some c => trB c | none => false
theorem trB_num {r : Nat} {o : Option Nat} (h : num .f32 r = o) : trB r = trBo o := by
  subst h
  cases hn : nanK .f32 r
  · rw [num_some hn]; rfl
  · rw [num_none hn]
    simp only [trBo, trB, geB, order_nan _ hn]
    rfl
def geBo : Option Nat → Bool | some c => geB c 981467136 | none => false
def leBo : Option Nat → Bool | some c => leBB c 1233125376 | none => false
theorem trBo_is (o : Option Nat) : trBo o = (geBo o && leBo o) := by cases o <;> rfl
theorem geB_num {r : Nat} {o : Option Nat} (h : num .f32 r = o) : (FloatKind.f32.format.order r 981467136 == some Ordering.gt || FloatKind.f32.format.order r 981467136 == some Ordering.eq) = geBo o := by
  subst h
  cases hn : nanK .f32 r
  · rw [num_some hn]; rfl
  · rw [num_none hn, order_nan _ hn]; rfl
theorem leB_num {r : Nat} {o : Option Nat} (h : num .f32 r = o) : (FloatKind.f32.format.order r 1233125376 == some Ordering.lt || FloatKind.f32.format.order r 1233125376 == some Ordering.eq) = leBo o := by
  subst h
  cases hn : nanK .f32 r
  · rw [num_some hn]; rfl
  · rw [num_none hn, order_nan _ hn]; rfl
def trK (b : Bool) (o : Option Nat) : Option Nat := if b = true then (if trBo o = true then none else some 2) else some 0
def trO (b : Bool) (o : Option Nat) : Option Nat := if b = true then (if trBo o = true then o else num .f32 0) else num .f32 0
theorem trK_lt {b : Bool} {o : Option Nat} : ∀ i, trK b o = some i → i < 5 := by
  intro i h
  unfold trK at h
  split at h
  · split at h
    · cases h
    · cases h; decide
  · cases h; decide

set_option maxRecDepth 100000 in
set_option maxHeartbeats 2000000 in
theorem transmitI_any {s : Nat → Addr} (X Y : Int) (R : Nat) (x y : Int) (l : Nat) (hX : -128 ≤ X ∧ X ≤ 127) (hY : -128 ≤ Y ∧ Y ≤ 127) (hx : -128 ≤ x ∧ x ≤ 127) (hy : -128 ≤ y ∧ y ≤ 127) (w : World) (hS : Sents w s) :
    Calls Tryd.prog 59 #[.agg (Ste X Y R x y), .float .f32 l] w fun e w' => ∃ r, e = .returned (.tuple #[.float .f32 r, erV s (trK (stB X Y R x y) (trQ R l))]) ∧ num .f32 r = trO (stB X Y R x y) (trQ R l) ∧ Below w.heap.size w w' := by
  have B0 : Below w.heap.size w (w.alloc (.cells #[.int .i8 X, .int .i8 Y, .float .f32 R, .int .i8 x, .int .i8 y] 32)) := (Below.refl _ _).alloc (Nat.le_refl _) _
  have C0 : ∀ V, Below (w.alloc (.cells #[.int .i8 X, .int .i8 Y, .float .f32 R, .int .i8 x, .int .i8 y] 32)).heap.size (w.alloc (.cells #[.int .i8 X, .int .i8 Y, .float .f32 R, .int .i8 x, .int .i8 y] 32)) V → V.cell? ⟨w.heap.size, 0, none⟩ = some (.int .i8 X) := fun V hV => (hV.cell (p := ⟨w.heap.size, 0, none⟩) (by simp)).trans (cell_of_row _ _ 0 _ _ _ (heap_alloc_last w _))
  have C1 : ∀ V, Below (w.alloc (.cells #[.int .i8 X, .int .i8 Y, .float .f32 R, .int .i8 x, .int .i8 y] 32)).heap.size (w.alloc (.cells #[.int .i8 X, .int .i8 Y, .float .f32 R, .int .i8 x, .int .i8 y] 32)) V → V.cell? ⟨w.heap.size, 1, none⟩ = some (.int .i8 Y) := fun V hV => (hV.cell (p := ⟨w.heap.size, 1, none⟩) (by simp)).trans (cell_of_row _ _ 1 _ _ _ (heap_alloc_last w _))
  have C2 : ∀ V, Below (w.alloc (.cells #[.int .i8 X, .int .i8 Y, .float .f32 R, .int .i8 x, .int .i8 y] 32)).heap.size (w.alloc (.cells #[.int .i8 X, .int .i8 Y, .float .f32 R, .int .i8 x, .int .i8 y] 32)) V → V.cell? ⟨w.heap.size, 2, none⟩ = some (.float .f32 R) := fun V hV => (hV.cell (p := ⟨w.heap.size, 2, none⟩) (by simp)).trans (cell_of_row _ _ 2 _ _ _ (heap_alloc_last w _))
  have C3 : ∀ V, Below (w.alloc (.cells #[.int .i8 X, .int .i8 Y, .float .f32 R, .int .i8 x, .int .i8 y] 32)).heap.size (w.alloc (.cells #[.int .i8 X, .int .i8 Y, .float .f32 R, .int .i8 x, .int .i8 y] 32)) V → V.cell? ⟨w.heap.size, 3, none⟩ = some (.int .i8 x) := fun V hV => (hV.cell (p := ⟨w.heap.size, 3, none⟩) (by simp)).trans (cell_of_row _ _ 3 _ _ _ (heap_alloc_last w _))
  have C4 : ∀ V, Below (w.alloc (.cells #[.int .i8 X, .int .i8 Y, .float .f32 R, .int .i8 x, .int .i8 y] 32)).heap.size (w.alloc (.cells #[.int .i8 X, .int .i8 Y, .float .f32 R, .int .i8 x, .int .i8 y] 32)) V → V.cell? ⟨w.heap.size, 4, none⟩ = some (.int .i8 y) := fun V hV => (hV.cell (p := ⟨w.heap.size, 4, none⟩) (by simp)).trans (cell_of_row _ _ 4 _ _ _ (heap_alloc_last w _))
  have HS := Lib.hid hS
  have T1 := fun V => validSite_any X Y R x y hX hY hx hy V
  simp only [Ste] at T1 ⊢
  cases hb : stB X Y R x y
  · rw [hb] at T1
    have G : ∀ V, Below w.heap.size w V → V.cell? ⟨1, 0, none⟩ = some (.iface 203 (.pointer (some (s 0)))) := fun V hV => (HS.out.keep hV).cell 0 (by decide)
    have HE := Lib.hid (show Value.iface 203 (.pointer (some (s 0))) = erV s (trK false (trQ R l)) from rfl)
    clear C0 C1 C2 C3 C4 hS hb
    go_enter Tryd.func59, Tryd.ntmps59
    go_wp2_with (go_at_call 95; refine (T1 _).mono ?_; rintro e V1 ⟨rfl, hq1⟩; have g0 := G V1 (B0.trans (hq1.mono B0.size)); have Q1 := Lib.hid (B0.trans (hq1.mono B0.size)); clear hq1 B0 G)
    go_quiet (fail)
    go_wp2
    go_ret2
    exact ⟨0, by first | (rw [HE.out]; done) | (rw [HE.out]; rfl), rfl, (below_drewN' Q1.out _)⟩
  · rw [hb] at T1
    cases ht : trBo (trQ R l)
    · have G : ∀ V, Below w.heap.size w V → V.cell? ⟨2, 0, none⟩ = some (.iface 203 (.pointer (some (s 2)))) := fun V hV => (HS.out.keep hV).cell 2 (by decide)
      have HE := Lib.hid (show Value.iface 203 (.pointer (some (s 2))) = erV s (trK true (trQ R l)) by simp only [trK, ht]; rfl)
      have HO := Lib.hid (show num .f32 0 = trO true (trQ R l) by simp only [trO, ht]; rfl)
      have HT := Lib.hid ht
      clear hS ht hb
      go_enter Tryd.func59, Tryd.ntmps59
      go_wp2_with (first | (go_at_call 95; refine (T1 _).mono ?_; rintro e V1 ⟨rfl, hq1⟩; have c2 := C2 V1 hq1; have Q1 := Lib.hid (B0.trans (hq1.mono B0.size)); clear hq1 B0 C0 C1 C2 C3 C4) | (go_at_call 96; refine (overFourPi_any R l _).mono ?_; rintro e V2 ⟨r, rfl, hr, hq2⟩; have htr := (trB_num hr).trans HT.out; have Q2 := Lib.hid (Q1.out.trans (hq2.mono Q1.out.size)); have TI := Lib.hid (fun V => isTransmit_is r false htr V); clear hq2 hr htr) | (go_at_call 97; refine (TI.out _).mono ?_; rintro e V3 ⟨rfl, hV⟩; rw [hV]; clear hV; have g2 := G V2 Q2.out; clear G))
      go_quiet (fail)
      go_wp2
      go_ret2
      exact ⟨0, by first | (rw [HE.out]; done) | (rw [HE.out]; rfl), HO.out, (below_drewN' Q2.out _)⟩
    · have HE := Lib.hid (show Value.nilIface = erV s (trK true (trQ R l)) by simp only [trK, ht]; rfl)
      have HO := Lib.hid (show trQ R l = trO true (trQ R l) by simp only [trO, ht]; rfl)
      have HT := Lib.hid ht
      clear hS ht hb
      go_enter Tryd.func59, Tryd.ntmps59
      go_wp2_with (first | (go_at_call 95; refine (T1 _).mono ?_; rintro e V1 ⟨rfl, hq1⟩; have c2 := C2 V1 hq1; have Q1 := Lib.hid (B0.trans (hq1.mono B0.size)); clear hq1 B0 C0 C1 C2 C3 C4) | (go_at_call 96; refine (overFourPi_any R l _).mono ?_; rintro e V2 ⟨r, rfl, hr, hq2⟩; have htr := (trB_num hr).trans HT.out; have HR := Lib.hid hr; have Q2 := Lib.hid (Q1.out.trans (hq2.mono Q1.out.size)); have TI := Lib.hid (fun V => isTransmit_is r true htr V); clear hq2 hr htr) | (go_at_call 97; refine (TI.out _).mono ?_; rintro e V3 ⟨rfl, hV⟩; rw [hV]; clear hV))
      go_ret2
      exact ⟨r, by first | (rw [HE.out]; done) | (rw [HE.out]; rfl), HR.out.trans HO.out, Q2.out⟩

set_option maxRecDepth 100000 in
set_option maxHeartbeats 1000000 in
theorem implTransmit_any {s : Nat → Addr} (X Y : Int) (R : Nat) (x y : Int) (l : Nat) (hX : -128 ≤ X ∧ X ≤ 127) (hY : -128 ≤ Y ∧ Y ≤ 127) (hx : -128 ≤ x ∧ x ≤ 127) (hy : -128 ≤ y ∧ y ≤ 127) (w : World) (hS : Sents w s) :
    Calls Tryd.prog 17 #[.agg (Ste X Y R x y), .float .f32 l] w fun e w' => ∃ r, e = .returned (.tuple #[.float .f32 r, .int .i64 (codeE (trK (stB X Y R x y) (trQ R l)))]) ∧ num .f32 r = trO (stB X Y R x y) (trQ R l) ∧ Below w.heap.size w w' := by
  have B0 : Below w.heap.size w (w.alloc (.cells #[.int .i8 X, .int .i8 Y, .float .f32 R, .int .i8 x, .int .i8 y] 32)) := (Below.refl _ _).alloc (Nat.le_refl _) _
  have T1 := transmitI_any X Y R x y l hX hY hx hy (w.alloc (.cells #[.int .i8 X, .int .i8 Y, .float .f32 R, .int .i8 x, .int .i8 y] 32)) (hS.keep B0)
  have HS := Lib.hid hS
  obtain ⟨k, hk⟩ : ∃ k, trK (stB X Y R x y) (trQ R l) = k := ⟨_, rfl⟩
  have hk5 : ∀ i, k = some i → i < 5 := by rw [← hk]; exact trK_lt
  have HK := Lib.hid hk5
  rw [hk] at T1 ⊢
  obtain ⟨o, ho⟩ : ∃ o, trO (stB X Y R x y) (trQ R l) = o := ⟨_, rfl⟩
  rw [ho] at T1 ⊢
  clear hk ho hS hk5
  simp only [Ste] at T1 ⊢
  go_enter Tryd.func17, Tryd.ntmps17
  go_wp2_with (first | (go_at_call 59; refine T1.mono ?_; rintro e V1 ⟨r, rfl, hr, hq1⟩; have Q1 := Lib.hid (B0.trans (hq1.mono B0.size)); have HR := Lib.hid hr; clear hq1 hr B0 T1) | (go_at_call 60; refine (codeOf_any k HK.out _ (HS.out.keep Q1.out)).mono ?_; rintro e V2 ⟨rfl, hV⟩; rw [hV]; clear hV))
  go_ret2
  exact ⟨r, rfl, HR.out, Q1.out⟩

set_option maxRecDepth 100000 in
set_option maxHeartbeats 2000000 in
theorem specTransmit_any (X Y : Int) (R : Nat) (x y : Int) (l : Nat) (hX : -128 ≤ X ∧ X ≤ 127) (hY : -128 ≤ Y ∧ Y ≤ 127) (hx : -128 ≤ x ∧ x ≤ 127) (hy : -128 ≤ y ∧ y ≤ 127) (w : World) :
    Calls Tryd.prog 15 #[.agg (Ste X Y R x y), .float .f32 l] w fun e w' => ∃ r, e = .returned (.tuple #[.float .f32 r, .int .i64 (codeE (trK (stB X Y R x y) (trQ R l)))]) ∧ num .f32 r = trO (stB X Y R x y) (trQ R l) ∧ Below w.heap.size w w' := by
  have B0 : Below w.heap.size w (w.alloc (.cells #[.int .i8 X, .int .i8 Y, .float .f32 R, .int .i8 x, .int .i8 y] 32)) := (Below.refl _ _).alloc (Nat.le_refl _) _
  have C0 : ∀ V, Below (w.alloc (.cells #[.int .i8 X, .int .i8 Y, .float .f32 R, .int .i8 x, .int .i8 y] 32)).heap.size (w.alloc (.cells #[.int .i8 X, .int .i8 Y, .float .f32 R, .int .i8 x, .int .i8 y] 32)) V → V.cell? ⟨w.heap.size, 0, none⟩ = some (.int .i8 X) := fun V hV => (hV.cell (p := ⟨w.heap.size, 0, none⟩) (by simp)).trans (cell_of_row _ _ 0 _ _ _ (heap_alloc_last w _))
  have C1 : ∀ V, Below (w.alloc (.cells #[.int .i8 X, .int .i8 Y, .float .f32 R, .int .i8 x, .int .i8 y] 32)).heap.size (w.alloc (.cells #[.int .i8 X, .int .i8 Y, .float .f32 R, .int .i8 x, .int .i8 y] 32)) V → V.cell? ⟨w.heap.size, 1, none⟩ = some (.int .i8 Y) := fun V hV => (hV.cell (p := ⟨w.heap.size, 1, none⟩) (by simp)).trans (cell_of_row _ _ 1 _ _ _ (heap_alloc_last w _))
  have C2 : ∀ V, Below (w.alloc (.cells #[.int .i8 X, .int .i8 Y, .float .f32 R, .int .i8 x, .int .i8 y] 32)).heap.size (w.alloc (.cells #[.int .i8 X, .int .i8 Y, .float .f32 R, .int .i8 x, .int .i8 y] 32)) V → V.cell? ⟨w.heap.size, 2, none⟩ = some (.float .f32 R) := fun V hV => (hV.cell (p := ⟨w.heap.size, 2, none⟩) (by simp)).trans (cell_of_row _ _ 2 _ _ _ (heap_alloc_last w _))
  have C3 : ∀ V, Below (w.alloc (.cells #[.int .i8 X, .int .i8 Y, .float .f32 R, .int .i8 x, .int .i8 y] 32)).heap.size (w.alloc (.cells #[.int .i8 X, .int .i8 Y, .float .f32 R, .int .i8 x, .int .i8 y] 32)) V → V.cell? ⟨w.heap.size, 3, none⟩ = some (.int .i8 x) := fun V hV => (hV.cell (p := ⟨w.heap.size, 3, none⟩) (by simp)).trans (cell_of_row _ _ 3 _ _ _ (heap_alloc_last w _))
  have C4 : ∀ V, Below (w.alloc (.cells #[.int .i8 X, .int .i8 Y, .float .f32 R, .int .i8 x, .int .i8 y] 32)).heap.size (w.alloc (.cells #[.int .i8 X, .int .i8 Y, .float .f32 R, .int .i8 x, .int .i8 y] 32)) V → V.cell? ⟨w.heap.size, 4, none⟩ = some (.int .i8 y) := fun V hV => (hV.cell (p := ⟨w.heap.size, 4, none⟩) (by simp)).trans (cell_of_row _ _ 4 _ _ _ (heap_alloc_last w _))
  have T1 := fun V => l04Site_any X Y R x y hX hY hx hy V
  have TR := fun V => ratio_same 1065353216 1149239296 981467136 1 1024 (by decide +kernel) (by decide +kernel) (by decide +kernel) V
  have t1 : True := trivial
  simp only [Ste] at T1 ⊢
  cases hb : stB X Y R x y
  · rw [hb] at T1
    have HK := Lib.hid (show (1 : Int) = codeE (trK false (trQ R l)) from rfl)
    clear C0 C1 C2 C3 C4 hb TR t1
    go_enter Tryd.func15, Tryd.ntmps15
    go_wp2_with (go_at_call 56; refine (T1 _).mono ?_; rintro e V1 ⟨rfl, hq1⟩; have Q1 := Lib.hid (B0.trans (hq1.mono B0.size)); clear hq1 B0)
    go_ret2
    exact ⟨0, by first | (rw [← HK.out]; done) | (rw [← HK.out]; rfl), rfl, Q1.out⟩
  · rw [hb] at T1
    have HQ := Lib.hid (show fop .f32 .quo (num .f32 R) (fop .f32 .mul (num .f32 1095307227) (num .f32 l)) = trQ R l from rfl)
    have hB := trBo_is (trQ R l)
    cases hg : geBo (trQ R l)
    · have ht : trBo (trQ R l) = false := by rw [hB, hg]; rfl
      have HK := Lib.hid (show (4 : Int) = codeE (trK true (trQ R l)) by simp only [trK, ht]; rfl)
      have HO := Lib.hid (show num .f32 0 = trO true (trQ R l) by simp only [trO, ht]; rfl)
      have HG := Lib.hid hg
      clear ht hb hB hg
      go_enter Tryd.func15, Tryd.ntmps15
      go_wp2_with (first | (go_at_call 56; refine (T1 _).mono ?_; rintro e V1 ⟨rfl, hq1⟩; have c2 := C2 V1 hq1; have Q1 := Lib.hid (B0.trans (hq1.mono B0.size)); clear hq1 B0 C0 C1 C2 C3 C4) | (have _t := t1; refine wpList_float rfl _ _ _ _ _ rfl rfl .f32 _ _ rfl rfl ?_; intro r1 n1 hr1; have R1 := Lib.hid hr1; clear t1 hr1) | (refine wpList_float rfl _ _ _ _ _ rfl rfl .f32 _ _ rfl rfl ?_; intro r n2 hr; have hr' : num .f32 r = trQ R l := (by rw [hr, R1.out]; exact HQ.out); have og := (geB_num hr').trans HG.out; have HR := Lib.hid hr'; clear hr hr') | (go_at_call 57; refine (TR _).mono ?_; rintro e V2 ⟨rfl, hV⟩; rw [← hV]; clear hV))
      go_ret2
      exact ⟨0, by first | (rw [← HK.out]; done) | (rw [← HK.out]; rfl), HO.out, by first | exact Q1.out | exact below_drewN' Q1.out _ | exact below_drewN' (below_drewN' Q1.out _) _⟩
    · cases hl : leBo (trQ R l)
      · have ht : trBo (trQ R l) = false := by rw [hB, hg, hl]; rfl
        have HK := Lib.hid (show (4 : Int) = codeE (trK true (trQ R l)) by simp only [trK, ht]; rfl)
        have HO := Lib.hid (show num .f32 0 = trO true (trQ R l) by simp only [trO, ht]; rfl)
        have HG := Lib.hid hg
        have HL := Lib.hid hl
        clear ht hb hB hg hl
        go_enter Tryd.func15, Tryd.ntmps15
        go_wp2_with (first | (go_at_call 56; refine (T1 _).mono ?_; rintro e V1 ⟨rfl, hq1⟩; have c2 := C2 V1 hq1; have Q1 := Lib.hid (B0.trans (hq1.mono B0.size)); clear hq1 B0 C0 C1 C2 C3 C4) | (have _t := t1; refine wpList_float rfl _ _ _ _ _ rfl rfl .f32 _ _ rfl rfl ?_; intro r1 n1 hr1; have R1 := Lib.hid hr1; clear t1 hr1) | (refine wpList_float rfl _ _ _ _ _ rfl rfl .f32 _ _ rfl rfl ?_; intro r n2 hr; have hr' : num .f32 r = trQ R l := (by rw [hr, R1.out]; exact HQ.out); have og := (geB_num hr').trans HG.out; have ol := (leB_num hr').trans HL.out; have HR := Lib.hid hr'; clear hr hr') | (go_at_call 57; refine (TR _).mono ?_; rintro e V2 ⟨rfl, hV⟩; rw [← hV]; clear hV))
        go_ret2
        exact ⟨0, by first | (rw [← HK.out]; done) | (rw [← HK.out]; rfl), HO.out, by first | exact Q1.out | exact below_drewN' Q1.out _ | exact below_drewN' (below_drewN' Q1.out _) _⟩
      · have ht : trBo (trQ R l) = true := by rw [hB, hg, hl]; rfl
        have HK := Lib.hid (show (0 : Int) = codeE (trK true (trQ R l)) by simp only [trK, ht]; rfl)
        have HO := Lib.hid (show trQ R l = trO true (trQ R l) by simp only [trO, ht]; rfl)
        have HG := Lib.hid hg
        have HL := Lib.hid hl
        clear ht hb hB hg hl
        go_enter Tryd.func15, Tryd.ntmps15
        go_wp2_with (first | (go_at_call 56; refine (T1 _).mono ?_; rintro e V1 ⟨rfl, hq1⟩; have c2 := C2 V1 hq1; have Q1 := Lib.hid (B0.trans (hq1.mono B0.size)); clear hq1 B0 C0 C1 C2 C3 C4) | (have _t := t1; refine wpList_float rfl _ _ _ _ _ rfl rfl .f32 _ _ rfl rfl ?_; intro r1 n1 hr1; have R1 := Lib.hid hr1; clear t1 hr1) | (refine wpList_float rfl _ _ _ _ _ rfl rfl .f32 _ _ rfl rfl ?_; intro r n2 hr; have hr' : num .f32 r = trQ R l := (by rw [hr, R1.out]; exact HQ.out); have og := (geB_num hr').trans HG.out; have ol := (leB_num hr').trans HL.out; have HR := Lib.hid hr'; clear hr hr') | (go_at_call 57; refine (TR _).mono ?_; rintro e V2 ⟨rfl, hV⟩; rw [← hV]; clear hV))
        go_ret2
        exact ⟨r, by first | (rw [← HK.out]; done) | (rw [← HK.out]; rfl), HR.out.trans HO.out, by first | exact Q1.out | exact below_drewN' Q1.out _ | exact below_drewN' (below_drewN' Q1.out _) _⟩
end Go.Proofs.YthklihenghnaeabDoor
