/- ImageOf, the program's and the model's, as values. No condition. -/
import Derived.Test.YtdhgehmnjoclaaaOut
namespace Go.Proofs.Ytdhgehmnjoclaaa
open Go Go.RowKit Ieee
set_option linter.unusedSimpArgs false
set_option linter.unusedVariables false
attribute [local go_sem] run_store_f32

/-- The code of an image of a well that is valid. -/
def imC (X tw : Int) : Int := if (decide (-400 ≤ tw) && decide (tw ≤ 400) && plB (tw - X)) = true then 0 else 2
def imR (R : Nat) (river : Bool) : Nat := if river = true then Op.negFloat .f32 R else R
def imW (X Y : Int) (R : Nat) (tw : Int) (river : Bool) : Array Value := if imC X tw = 0 then We (tw - X) Y (imR R river) else We 0 0 0
theorem imC_lo {X tw : Int} (h : ¬ -400 ≤ tw) : imC X tw = 2 := by simp [imC, h]
theorem imC_hi {X tw : Int} (h : ¬ tw ≤ 400) : imC X tw = 2 := by simp [imC, h]
theorem imC_far {X tw : Int} (h : plB (tw - X) = false) : imC X tw = 2 := by simp [imC, h]
theorem imC_ok {X tw : Int} (h1 : -400 ≤ tw) (h2 : tw ≤ 400) (h : plB (tw - X) = true) : imC X tw = 0 := by simp [imC, h1, h2, h]
theorem imW_no {X Y : Int} {R : Nat} {tw : Int} {river : Bool} (h : imC X tw = 2) : imW X Y R tw river = We 0 0 0 := by simp [imW, h]
theorem imW_ok {X Y : Int} {R : Nat} {tw : Int} {river : Bool} (h : imC X tw = 0) : imW X Y R tw river = We (tw - X) Y (imR R river) := by simp [imW, h]
theorem We_size (X Y : Int) (R : Nat) : (We X Y R).size = 3 := rfl
theorem below2 (a b : Array Value) (t u : TypeId) (w : World) : Below w.heap.size w ((w.alloc (.cells a t)).alloc (.cells b u)) := ((Below.refl _ _).alloc (Nat.le_refl _) _).alloc (by simp) _
theorem infoWell : (Try.prog.info? 35).map (·.size) = some 3 := by kernel_rfl
theorem results_we {P : Program} {fn : Func} {p q : Tmp} {ty : TypeId} {D : TypeDesc} (h : fn.results = #[.cell p ty, .tmp q]) (tmps : Array Value) (w : World) (b : Nat) (X Y : Int) (R : Nat) (n : Int)
    (hp : tmps.getD p undef = .pointer (some ⟨b, 0, none⟩)) (hq : tmps.getD q undef = .int .i64 n) (hc : w.rangeAt b 0 (We X Y R).toList)
    (hu : P.underlying ty = some D) (hd : D.isRow = true) (hi : (P.info? ty).map (·.size) = some 3) :
    (results fn tmps).run P w = .ok (.tuple #[.agg (We X Y R), .int .i64 n]) w := by
  have hp' : tmps[p]?.getD undef = .pointer (some ⟨b, 0, none⟩) := by simpa using hp
  have hq' : tmps[q]?.getD undef = .int .i64 n := by simpa using hq
  have := run_loadVar_mid (P := P) w b 0 ty (We X Y R).toList D hc hu hd hi
  simp [results, h, hp', hq', asAddr, this]

set_option maxRecDepth 100000 in
set_option maxHeartbeats 2000000 in
theorem imageI_any (X Y : Int) (R : Nat) (hX : -100 ≤ X ∧ X ≤ 100) (hY : -100 ≤ Y ∧ Y ≤ 100) (tw : Int) (river : Bool) (w : World) : Calls Try.prog 23 #[.agg (We X Y R), .int .i64 tw, .bool river] w fun e w' => e = .returned (.tuple #[.agg (imW X Y R tw river), .int .i64 (imC X tw)]) ∧ Below w.heap.size w w' := by
  simp only [We]
  by_cases h1 : -400 ≤ tw
  · have g1 : ¬ tw < -400 := by omega
    by_cases h2 : tw ≤ 400
    · have g2 : ¬ 400 < tw := by omega
      obtain ⟨z, b0, b1, b2, B0⟩ := laid3 w (.cells #[.int .i8 X, .int .i8 Y, .float .f32 R] 35) (.cells #[.int .i8 0, .int .i8 0, .float .f32 0] 35) (.cells #[.int .i64 (tw - X), .int .i64 Y] 52)
      have hy : plB Y = true := by simp [plB]; omega
      cases h3 : plB (tw - X)
      · have HC := Lib.hid (imC_far h3)
        have HW := Lib.hid (imW_no (Y := Y) (R := R) (river := river) HC.out)
        have hnear : (plB (tw - X) && plB Y) = false := by rw [h3]; rfl
        go_enter Try.func23, Try.ntmps23
        go_wp2_with (go_at_call 26; have hc := isNear_is (tw - X) Y ((w.alloc (.cells #[.int .i8 X, .int .i8 Y, .float .f32 R] 35) |>.alloc (.cells #[.int .i8 0, .int .i8 0, .float .f32 0] 35)).alloc (.cells #[.int .i64 (tw - X), .int .i64 Y] 52)); rw [hnear] at hc; simp only [Pc] at hc; refine hc.mono ?_; clear hc; rintro e V2 ⟨rfl, hq2⟩; have hA := (hq2.block w.heap.size (by omega)).trans b0; have hB := (hq2.block (w.heap.size + 1) (by omega)).trans b1; have hC := (hq2.block (w.heap.size + 1 + 1) (by omega)).trans b2; have QN := Lib.hid (B0.trans (hq2.mono (by omega))); have zv := hq2.size; rw [z] at zv; clear hq2 B0 b0 b1 b2 z; have c0 := cell_of_row _ _ 0 _ _ _ hA; have c1 := cell_of_row _ _ 1 _ _ _ hA; have c2 := cell_of_row _ _ 2 _ _ _ hA; have r0 := cell_of_row _ _ 0 _ _ _ hB; have r1 := cell_of_row _ _ 1 _ _ _ hB; have r2 := cell_of_row _ _ 2 _ _ _ hB; have p0 := cell_of_row _ _ 0 _ _ _ hC; have p1 := cell_of_row _ _ 1 _ _ _ hC; have f0 := ((there_row (n := 3) hB rfl) 0 (by omega)).2; have f1 := ((there_row (n := 3) hB rfl) 1 (by omega)).2; have f2 := ((there_row (n := 3) hB rfl) 2 (by omega)).2; rw [Nat.zero_add] at f0 f1 f2; have C2 := fun o => cell_of_row (V2.alloc o) _ 2 _ _ _ (laid_old hA); have R0 := fun o => cell_of_row (V2.alloc o) _ 0 _ _ _ (laid_old hB); have R1 := fun o => cell_of_row (V2.alloc o) _ 1 _ _ _ (laid_old hB); have R2 := fun o => cell_of_row (V2.alloc o) _ 2 _ _ _ (laid_old hB); have F0 := fun o => ((there_row (w := V2.alloc o) (n := 3) (laid_old hB) rfl) 0 (by omega)).2; have F1 := fun o => ((there_row (w := V2.alloc o) (n := 3) (laid_old hB) rfl) 1 (by omega)).2; have F2 := fun o => ((there_row (w := V2.alloc o) (n := 3) (laid_old hB) rfl) 2 (by omega)).2; simp only [Nat.zero_add] at F0 F1 F2; have tV : V2.there (w.heap.size + 1) 0 3 := there_row hB rfl; have tO : ∀ o, (V2.alloc o).there (w.heap.size + 1) 0 3 := fun o => there_row (laid_old hB) rfl; clear hA hB hC)
        refine bodyPost_ret (results_we rfl _ _ (w.heap.size + 1) 0 0 0 2 rfl rfl (World.rangeAt_setCells_same V2 (w.heap.size + 1) 0 [.int .i8 0, .int .i8 0, .float .f32 0] tV) Try.underlying35 rfl infoWell) rfl ⟨by first | (rw [HW.out, HC.out]; done) | (rw [HW.out, HC.out]; rfl), (((QN.out.setCell (p := ⟨w.heap.size + 1, 0, none⟩) (by show w.heap.size ≤ w.heap.size + 1; omega) _).setCell (p := ⟨w.heap.size + 1, 1, none⟩) (by show w.heap.size ≤ w.heap.size + 1; omega) _).setCell (p := ⟨w.heap.size + 1, 2, none⟩) (by show w.heap.size ≤ w.heap.size + 1; omega) _)⟩
      · have HC := Lib.hid (imC_ok h1 h2 h3)
        have hb := pl_bounds h3
        have hnear : (plB (tw - X) && plB Y) = true := by rw [h3, hy]; rfl
        cases river
        · have HW := Lib.hid (imW_ok (Y := Y) (R := R) (river := false) HC.out)
          go_enter Try.func23, Try.ntmps23
          go_wp2_with (go_at_call 26; have hc := isNear_is (tw - X) Y ((w.alloc (.cells #[.int .i8 X, .int .i8 Y, .float .f32 R] 35) |>.alloc (.cells #[.int .i8 0, .int .i8 0, .float .f32 0] 35)).alloc (.cells #[.int .i64 (tw - X), .int .i64 Y] 52)); rw [hnear] at hc; simp only [Pc] at hc; refine hc.mono ?_; clear hc; rintro e V2 ⟨rfl, hq2⟩; have hA := (hq2.block w.heap.size (by omega)).trans b0; have hB := (hq2.block (w.heap.size + 1) (by omega)).trans b1; have hC := (hq2.block (w.heap.size + 1 + 1) (by omega)).trans b2; have QN := Lib.hid (B0.trans (hq2.mono (by omega))); have zv := hq2.size; rw [z] at zv; clear hq2 B0 b0 b1 b2 z; have c0 := cell_of_row _ _ 0 _ _ _ hA; have c1 := cell_of_row _ _ 1 _ _ _ hA; have c2 := cell_of_row _ _ 2 _ _ _ hA; have r0 := cell_of_row _ _ 0 _ _ _ hB; have r1 := cell_of_row _ _ 1 _ _ _ hB; have r2 := cell_of_row _ _ 2 _ _ _ hB; have p0 := cell_of_row _ _ 0 _ _ _ hC; have p1 := cell_of_row _ _ 1 _ _ _ hC; have f0 := ((there_row (n := 3) hB rfl) 0 (by omega)).2; have f1 := ((there_row (n := 3) hB rfl) 1 (by omega)).2; have f2 := ((there_row (n := 3) hB rfl) 2 (by omega)).2; rw [Nat.zero_add] at f0 f1 f2; have C2 := fun o => cell_of_row (V2.alloc o) _ 2 _ _ _ (laid_old hA); have R0 := fun o => cell_of_row (V2.alloc o) _ 0 _ _ _ (laid_old hB); have R1 := fun o => cell_of_row (V2.alloc o) _ 1 _ _ _ (laid_old hB); have R2 := fun o => cell_of_row (V2.alloc o) _ 2 _ _ _ (laid_old hB); have F0 := fun o => ((there_row (w := V2.alloc o) (n := 3) (laid_old hB) rfl) 0 (by omega)).2; have F1 := fun o => ((there_row (w := V2.alloc o) (n := 3) (laid_old hB) rfl) 1 (by omega)).2; have F2 := fun o => ((there_row (w := V2.alloc o) (n := 3) (laid_old hB) rfl) 2 (by omega)).2; simp only [Nat.zero_add] at F0 F1 F2; have tV : V2.there (w.heap.size + 1) 0 3 := there_row hB rfl; have tO : ∀ o, (V2.alloc o).there (w.heap.size + 1) 0 3 := fun o => there_row (laid_old hB) rfl; clear hA hB hC)
          refine bodyPost_ret (results_we rfl _ _ (w.heap.size + 1) (tw - X) Y R 0 rfl rfl (World.rangeAt_setCells_same _ (w.heap.size + 1) 0 [.int .i8 (tw - X), .int .i8 Y, .float .f32 R] (tO _)) Try.underlying35 rfl infoWell) rfl ⟨by first | (rw [HW.out, HC.out]; done) | (rw [HW.out, HC.out]; rfl), ((((belowMore QN.out _).setCell (p := ⟨w.heap.size + 1, 0, none⟩) (by show w.heap.size ≤ w.heap.size + 1; omega) _).setCell (p := ⟨w.heap.size + 1, 1, none⟩) (by show w.heap.size ≤ w.heap.size + 1; omega) _).setCell (p := ⟨w.heap.size + 1, 2, none⟩) (by show w.heap.size ≤ w.heap.size + 1; omega) _)⟩
        · have HW := Lib.hid (imW_ok (Y := Y) (R := R) (river := true) HC.out)
          have hneg : ∀ w, (Op.unary UnOp.neg (.float .f32 R)).run Try.prog w = .ok (.float .f32 (Op.negFloat .f32 R)) w := fun _ => rfl
          go_enter Try.func23, Try.ntmps23
          go_wp2_with (go_at_call 26; have hc := isNear_is (tw - X) Y ((w.alloc (.cells #[.int .i8 X, .int .i8 Y, .float .f32 R] 35) |>.alloc (.cells #[.int .i8 0, .int .i8 0, .float .f32 0] 35)).alloc (.cells #[.int .i64 (tw - X), .int .i64 Y] 52)); rw [hnear] at hc; simp only [Pc] at hc; refine hc.mono ?_; clear hc; rintro e V2 ⟨rfl, hq2⟩; have hA := (hq2.block w.heap.size (by omega)).trans b0; have hB := (hq2.block (w.heap.size + 1) (by omega)).trans b1; have hC := (hq2.block (w.heap.size + 1 + 1) (by omega)).trans b2; have QN := Lib.hid (B0.trans (hq2.mono (by omega))); have zv := hq2.size; rw [z] at zv; clear hq2 B0 b0 b1 b2 z; have c0 := cell_of_row _ _ 0 _ _ _ hA; have c1 := cell_of_row _ _ 1 _ _ _ hA; have c2 := cell_of_row _ _ 2 _ _ _ hA; have r0 := cell_of_row _ _ 0 _ _ _ hB; have r1 := cell_of_row _ _ 1 _ _ _ hB; have r2 := cell_of_row _ _ 2 _ _ _ hB; have p0 := cell_of_row _ _ 0 _ _ _ hC; have p1 := cell_of_row _ _ 1 _ _ _ hC; have f0 := ((there_row (n := 3) hB rfl) 0 (by omega)).2; have f1 := ((there_row (n := 3) hB rfl) 1 (by omega)).2; have f2 := ((there_row (n := 3) hB rfl) 2 (by omega)).2; rw [Nat.zero_add] at f0 f1 f2; have C2 := fun o => cell_of_row (V2.alloc o) _ 2 _ _ _ (laid_old hA); have R0 := fun o => cell_of_row (V2.alloc o) _ 0 _ _ _ (laid_old hB); have R1 := fun o => cell_of_row (V2.alloc o) _ 1 _ _ _ (laid_old hB); have R2 := fun o => cell_of_row (V2.alloc o) _ 2 _ _ _ (laid_old hB); have F0 := fun o => ((there_row (w := V2.alloc o) (n := 3) (laid_old hB) rfl) 0 (by omega)).2; have F1 := fun o => ((there_row (w := V2.alloc o) (n := 3) (laid_old hB) rfl) 1 (by omega)).2; have F2 := fun o => ((there_row (w := V2.alloc o) (n := 3) (laid_old hB) rfl) 2 (by omega)).2; simp only [Nat.zero_add] at F0 F1 F2; have tV : V2.there (w.heap.size + 1) 0 3 := there_row hB rfl; have tO : ∀ o, (V2.alloc o).there (w.heap.size + 1) 0 3 := fun o => there_row (laid_old hB) rfl; clear hA hB hC)
          refine bodyPost_ret (results_we rfl _ _ (w.heap.size + 1) (tw - X) Y (Op.negFloat .f32 R) 0 rfl rfl (World.rangeAt_setCells_same _ (w.heap.size + 1) 0 [.int .i8 (tw - X), .int .i8 Y, .float .f32 (Op.negFloat .f32 R)] (tO _)) Try.underlying35 rfl infoWell) rfl ⟨by first | (rw [HW.out, HC.out]; done) | (rw [HW.out, HC.out]; rfl), ((((belowMore QN.out _).setCell (p := ⟨w.heap.size + 1, 0, none⟩) (by show w.heap.size ≤ w.heap.size + 1; omega) _).setCell (p := ⟨w.heap.size + 1, 1, none⟩) (by show w.heap.size ≤ w.heap.size + 1; omega) _).setCell (p := ⟨w.heap.size + 1, 2, none⟩) (by show w.heap.size ≤ w.heap.size + 1; omega) _)⟩
    · have HC := Lib.hid (imC_hi (X := X) h2)
      have g2 : 400 < tw := by omega
      have HW := Lib.hid (imW_no (Y := Y) (R := R) (river := river) HC.out)
      go_enter Try.func23, Try.ntmps23
      go_wp2
      refine bodyPost_ret (v := .tuple #[.agg #[.int .i8 0, .int .i8 0, .float .f32 0], .int .i64 2]) (by simp [results, Try.results23, go_sem] <;> rfl) rfl ⟨by first | (rw [HW.out, HC.out]; done) | (rw [HW.out, HC.out]; rfl), below2 _ _ _ _ _⟩
  · have HC := Lib.hid (imC_lo (X := X) h1)
    have g1 : tw < -400 := by omega
    have HW := Lib.hid (imW_no (Y := Y) (R := R) (river := river) HC.out)
    go_enter Try.func23, Try.ntmps23
    go_wp2
    refine bodyPost_ret (v := .tuple #[.agg #[.int .i8 0, .int .i8 0, .float .f32 0], .int .i64 2]) (by simp [results, Try.results23, go_sem] <;> rfl) rfl ⟨by first | (rw [HW.out, HC.out]; done) | (rw [HW.out, HC.out]; rfl), below2 _ _ _ _ _⟩

def imgC (X Y : Int) (R : Nat) (tw : Int) : Int := if weB X Y R = true then imC X tw else 1
def imgW (X Y : Int) (R : Nat) (tw : Int) (river : Bool) : Array Value := if weB X Y R = true then imW X Y R tw river else We 0 0 0
theorem imW_is (X Y : Int) (R : Nat) (tw : Int) (river : Bool) : ∃ a b r, imW X Y R tw river = We a b r := by
  unfold imW
  split
  · exact ⟨_, _, _, rfl⟩
  · exact ⟨_, _, _, rfl⟩
theorem imgW_is (X Y : Int) (R : Nat) (tw : Int) (river : Bool) : ∃ a b r, imgW X Y R tw river = We a b r := by
  unfold imgW
  split
  · exact imW_is _ _ _ _ _
  · exact ⟨_, _, _, rfl⟩
theorem imC_is (X tw : Int) : imC X tw = 0 ∨ imC X tw = 2 := by
  unfold imC
  split
  · exact .inl rfl
  · exact .inr rfl

set_option maxRecDepth 100000 in
set_option maxHeartbeats 2000000 in
theorem l00In_is (n a b : Int) (r : Bool) (h : (decide (a ≤ n) && decide (n ≤ b)) = r) (w : World) : Calls Try.prog 19 #[.int .i64 n, .int .i64 a, .int .i64 b] w fun e w' => e = .returned (.bool r) ∧ w = w' := by
  subst h
  by_cases h1 : a ≤ n
  · by_cases h2 : n ≤ b
    · rw [show (decide (a ≤ n) && decide (n ≤ b)) = true by simp [h1, h2]]
      go_enter Try.func19, Try.ntmps19
      go_wp2
      go_ret
      exact ⟨rfl, rfl⟩
    · rw [show (decide (a ≤ n) && decide (n ≤ b)) = false by simp [h2]]
      go_enter Try.func19, Try.ntmps19
      go_wp2
      go_ret
      exact ⟨rfl, rfl⟩
  · rw [show (decide (a ≤ n) && decide (n ≤ b)) = false by simp [h1]]
    go_enter Try.func19, Try.ntmps19
    go_wp2
    go_ret
    exact ⟨rfl, rfl⟩

set_option maxRecDepth 100000 in
set_option maxHeartbeats 2000000 in
theorem l03Image_any (X Y : Int) (R : Nat) (hX : -100 ≤ X ∧ X ≤ 100) (hY : -100 ≤ Y ∧ Y ≤ 100) (tw : Int) (h1 : -400 ≤ tw) (h2 : tw ≤ 400) (river : Bool) (w : World) : Calls Try.prog 20 #[.agg (We X Y R), .int .i64 tw, .bool river] w fun e w' => e = .returned (.tuple #[.agg (imW X Y R tw river), .int .i64 (imC X tw)]) ∧ Below w.heap.size w w' := by
  simp only [We]
  cases h3 : plB (tw - X)
  · have HC := Lib.hid (imC_far h3)
    have HW := Lib.hid (imW_no (Y := Y) (R := R) (river := river) HC.out)
    go_enter Try.func20, Try.ntmps20
    go_wp2_with (first | (go_at_call 19; refine (l00In_is tw (-400) 400 true (by simp; omega) _).mono ?_; rintro e w' ⟨rfl, rfl⟩) | go_at_call 17; refine (place_is (tw - X) false h3 _).mono ?_; rintro e w' ⟨rfl, rfl⟩)
    refine bodyPost_ret (v := .tuple #[.agg #[.int .i8 0, .int .i8 0, .float .f32 0], .int .i64 2]) (by simp [results, Try.results20, go_sem] <;> rfl) rfl ⟨by first | (rw [HW.out, HC.out]; done) | (rw [HW.out, HC.out]; rfl), below2 _ _ _ _ _⟩
  · have HC := Lib.hid (imC_ok h1 h2 h3)
    have hb := pl_bounds h3
    cases river
    · have HW := Lib.hid (imW_ok (Y := Y) (R := R) (river := false) HC.out)
      go_enter Try.func20, Try.ntmps20
      go_wp2_with (first | (go_at_call 19; refine (l00In_is tw (-400) 400 true (by simp; omega) _).mono ?_; rintro e w' ⟨rfl, rfl⟩) | go_at_call 17; refine (place_is (tw - X) true h3 _).mono ?_; rintro e w' ⟨rfl, rfl⟩)
      refine bodyPost_ret (v := .tuple #[.agg #[.int .i8 (tw - X), .int .i8 Y, .float .f32 R], .int .i64 0]) (by simp [results, Try.results20, go_sem] <;> rfl) rfl ⟨by first | (rw [HW.out, HC.out]; done) | (rw [HW.out, HC.out]; rfl), belowMore (below2 _ _ _ _ _) _⟩
    · have HW := Lib.hid (imW_ok (Y := Y) (R := R) (river := true) HC.out)
      have hneg : ∀ w, (Op.unary UnOp.neg (.float .f32 R)).run Try.prog w = .ok (.float .f32 (Op.negFloat .f32 R)) w := fun _ => rfl
      go_enter Try.func20, Try.ntmps20
      go_wp2_with (first | (go_at_call 19; refine (l00In_is tw (-400) 400 true (by simp; omega) _).mono ?_; rintro e w' ⟨rfl, rfl⟩) | go_at_call 17; refine (place_is (tw - X) true h3 _).mono ?_; rintro e w' ⟨rfl, rfl⟩)
      refine bodyPost_ret (v := .tuple #[.agg #[.int .i8 (tw - X), .int .i8 Y, .float .f32 (Op.negFloat .f32 R)], .int .i64 0]) (by simp [results, Try.results20, go_sem] <;> rfl) rfl ⟨by first | (rw [HW.out, HC.out]; done) | (rw [HW.out, HC.out]; rfl), belowMore (below2 _ _ _ _ _) _⟩

set_option maxRecDepth 100000 in
set_option maxHeartbeats 2000000 in
theorem specImageOf_any (X Y : Int) (R : Nat) (hX : -128 ≤ X ∧ X ≤ 127) (hY : -128 ≤ Y ∧ Y ≤ 127) (tw : Int) (river : Bool) (w : World) : Calls Try.prog 12 #[.agg (We X Y R), .int .i64 tw, .bool river] w fun e w' => e = .returned (.tuple #[.agg (imgW X Y R tw river), .int .i64 (imgC X Y R tw)]) ∧ Below w.heap.size w w' := by
  cases cw : weB X Y R
  · have HC := Lib.hid (show imgC X Y R tw = 1 by simp [imgC, cw])
    have HW := Lib.hid (show imgW X Y R tw river = We 0 0 0 by simp [imgW, cw])
    obtain ⟨z, b0, b1, B0⟩ := laid2 w (.cells #[.int .i8 X, .int .i8 Y, .float .f32 R] 35) (.cells #[.int .i8 0, .int .i8 0, .float .f32 0] 35)
    simp only [We]
    go_enter Try.func12, Try.ntmps12
    go_wp2_with (go_at_call 11; have hc := l03Ok_any X Y R hX hY (w.alloc (.cells #[.int .i8 X, .int .i8 Y, .float .f32 R] 35) |>.alloc (.cells #[.int .i8 0, .int .i8 0, .float .f32 0] 35)); rw [cw] at hc; simp only [We] at hc; refine hc.mono ?_; clear hc; rintro e V2 ⟨rfl, hq2⟩; have hB := (hq2.block (w.heap.size + 1) (by omega)).trans b1; have hA := (hq2.block w.heap.size (by omega)).trans b0; have QN := Lib.hid (B0.trans (hq2.mono (by omega))); have zv := hq2.size; rw [z] at zv; clear hq2 B0 b0 b1 z; have c0 := cell_of_row _ _ 0 _ _ _ hA; have c1 := cell_of_row _ _ 1 _ _ _ hA; have c2 := cell_of_row _ _ 2 _ _ _ hA; have r0 := cell_of_row _ _ 0 _ _ _ hB; have r1 := cell_of_row _ _ 1 _ _ _ hB; have r2 := cell_of_row _ _ 2 _ _ _ hB; have f0 := ((there_row (n := 3) hB rfl) 0 (by omega)).2; have f1 := ((there_row (n := 3) hB rfl) 1 (by omega)).2; have f2 := ((there_row (n := 3) hB rfl) 2 (by omega)).2; rw [Nat.zero_add] at f0 f1 f2; have tV : V2.there (w.heap.size + 1) 0 3 := there_row hB rfl)
    refine bodyPost_ret (results_we rfl _ _ (w.heap.size + 1) 0 0 0 1 rfl rfl (World.rangeAt_setCells_same V2 (w.heap.size + 1) 0 [.int .i8 0, .int .i8 0, .float .f32 0] tV) Try.underlying35 rfl infoWell) rfl ⟨by first | (rw [HW.out, HC.out]; done) | (rw [HW.out, HC.out]; rfl), (((QN.out.setCell (p := ⟨w.heap.size + 1, 0, none⟩) (by show w.heap.size ≤ w.heap.size + 1; omega) _).setCell (p := ⟨w.heap.size + 1, 1, none⟩) (by show w.heap.size ≤ w.heap.size + 1; omega) _).setCell (p := ⟨w.heap.size + 1, 2, none⟩) (by show w.heap.size ≤ w.heap.size + 1; omega) _)⟩
  · by_cases h1 : -400 ≤ tw
    · by_cases h2 : tw ≤ 400
      · have hcw := cw
        revert cw
        intro cw
        obtain ⟨kX, kY⟩ := we_bounds cw
        obtain ⟨a, b, r, hW⟩ := imW_is X Y R tw river
        obtain ⟨n, hC⟩ : ∃ n, imC X tw = n := ⟨_, rfl⟩
        have HC := Lib.hid (show imgC X Y R tw = n by simp [imgC, cw, hC])
        have HW := Lib.hid (show imgW X Y R tw river = We a b r by simp [imgW, cw, hW])
        obtain ⟨z, b0, b1, B0⟩ := laid2 w (.cells #[.int .i8 X, .int .i8 Y, .float .f32 R] 35) (.cells #[.int .i8 0, .int .i8 0, .float .f32 0] 35)
        simp only [We]
        go_enter Try.func12, Try.ntmps12
        go_wp2_with (first | (go_at_call 11; have hc := l03Ok_any X Y R hX hY (w.alloc (.cells #[.int .i8 X, .int .i8 Y, .float .f32 R] 35) |>.alloc (.cells #[.int .i8 0, .int .i8 0, .float .f32 0] 35)); rw [cw] at hc; simp only [We] at hc; refine hc.mono ?_; clear hc; rintro e V2 ⟨rfl, hq2⟩; have hB := (hq2.block (w.heap.size + 1) (by omega)).trans b1; have hA := (hq2.block w.heap.size (by omega)).trans b0; have QN := Lib.hid (B0.trans (hq2.mono (by omega))); have zv := hq2.size; rw [z] at zv; clear hq2 B0 b0 b1 z; have c0 := cell_of_row _ _ 0 _ _ _ hA; have c1 := cell_of_row _ _ 1 _ _ _ hA; have c2 := cell_of_row _ _ 2 _ _ _ hA; have r0 := cell_of_row _ _ 0 _ _ _ hB; have r1 := cell_of_row _ _ 1 _ _ _ hB; have r2 := cell_of_row _ _ 2 _ _ _ hB; have f0 := ((there_row (n := 3) hB rfl) 0 (by omega)).2; have f1 := ((there_row (n := 3) hB rfl) 1 (by omega)).2; have f2 := ((there_row (n := 3) hB rfl) 2 (by omega)).2; rw [Nat.zero_add] at f0 f1 f2; have tV : V2.there (w.heap.size + 1) 0 3 := there_row hB rfl) | (go_at_call 19; refine (l00In_is tw (-400) 400 true (by simp; omega) _).mono ?_; rintro e w' ⟨rfl, rfl⟩) | (go_at_call 20; have hc := l03Image_any X Y R kX kY tw h1 h2 river V2; rw [hW, hC] at hc; simp only [We] at hc; refine hc.mono ?_; clear hc; rintro e V3 ⟨rfl, hq3⟩; have hB := (hq3.block (w.heap.size + 1) (by omega)).trans hB; have QN := Lib.hid (QN.out.trans (hq3.mono (by omega))); have r0 := cell_of_row _ _ 0 _ _ _ hB; have r1 := cell_of_row _ _ 1 _ _ _ hB; have r2 := cell_of_row _ _ 2 _ _ _ hB; have f0 := ((there_row (n := 3) hB rfl) 0 (by omega)).2; have f1 := ((there_row (n := 3) hB rfl) 1 (by omega)).2; have f2 := ((there_row (n := 3) hB rfl) 2 (by omega)).2; rw [Nat.zero_add] at f0 f1 f2; have tV : V3.there (w.heap.size + 1) 0 3 := there_row hB rfl; clear hq3))
        refine bodyPost_ret (results_we rfl _ _ (w.heap.size + 1) a b r n rfl rfl (World.rangeAt_setCells_same V3 (w.heap.size + 1) 0 [.int .i8 a, .int .i8 b, .float .f32 r] tV) Try.underlying35 rfl infoWell) rfl ⟨by first | (rw [HW.out, HC.out]; done) | (rw [HW.out, HC.out]; rfl), (((QN.out.setCell (p := ⟨w.heap.size + 1, 0, none⟩) (by show w.heap.size ≤ w.heap.size + 1; omega) _).setCell (p := ⟨w.heap.size + 1, 1, none⟩) (by show w.heap.size ≤ w.heap.size + 1; omega) _).setCell (p := ⟨w.heap.size + 1, 2, none⟩) (by show w.heap.size ≤ w.heap.size + 1; omega) _)⟩
      · have HC := Lib.hid (show imgC X Y R tw = 2 by simp [imgC, cw, imC_hi h2])
        have HW := Lib.hid (show imgW X Y R tw river = We 0 0 0 by simp [imgW, cw, imW_no (imC_hi h2)])
        obtain ⟨z, b0, b1, B0⟩ := laid2 w (.cells #[.int .i8 X, .int .i8 Y, .float .f32 R] 35) (.cells #[.int .i8 0, .int .i8 0, .float .f32 0] 35)
        simp only [We]
        go_enter Try.func12, Try.ntmps12
        go_wp2_with (first | (go_at_call 11; have hc := l03Ok_any X Y R hX hY (w.alloc (.cells #[.int .i8 X, .int .i8 Y, .float .f32 R] 35) |>.alloc (.cells #[.int .i8 0, .int .i8 0, .float .f32 0] 35)); rw [cw] at hc; simp only [We] at hc; refine hc.mono ?_; clear hc; rintro e V2 ⟨rfl, hq2⟩; have hB := (hq2.block (w.heap.size + 1) (by omega)).trans b1; have hA := (hq2.block w.heap.size (by omega)).trans b0; have QN := Lib.hid (B0.trans (hq2.mono (by omega))); have zv := hq2.size; rw [z] at zv; clear hq2 B0 b0 b1 z; have c0 := cell_of_row _ _ 0 _ _ _ hA; have c1 := cell_of_row _ _ 1 _ _ _ hA; have c2 := cell_of_row _ _ 2 _ _ _ hA; have r0 := cell_of_row _ _ 0 _ _ _ hB; have r1 := cell_of_row _ _ 1 _ _ _ hB; have r2 := cell_of_row _ _ 2 _ _ _ hB; have f0 := ((there_row (n := 3) hB rfl) 0 (by omega)).2; have f1 := ((there_row (n := 3) hB rfl) 1 (by omega)).2; have f2 := ((there_row (n := 3) hB rfl) 2 (by omega)).2; rw [Nat.zero_add] at f0 f1 f2; have tV : V2.there (w.heap.size + 1) 0 3 := there_row hB rfl) | (go_at_call 19; refine (l00In_is tw (-400) 400 false (by simp; omega) _).mono ?_; rintro e w' ⟨rfl, rfl⟩))
        refine bodyPost_ret (results_we rfl _ _ (w.heap.size + 1) 0 0 0 2 rfl rfl (World.rangeAt_setCells_same V2 (w.heap.size + 1) 0 [.int .i8 0, .int .i8 0, .float .f32 0] tV) Try.underlying35 rfl infoWell) rfl ⟨by first | (rw [HW.out, HC.out]; done) | (rw [HW.out, HC.out]; rfl), (((QN.out.setCell (p := ⟨w.heap.size + 1, 0, none⟩) (by show w.heap.size ≤ w.heap.size + 1; omega) _).setCell (p := ⟨w.heap.size + 1, 1, none⟩) (by show w.heap.size ≤ w.heap.size + 1; omega) _).setCell (p := ⟨w.heap.size + 1, 2, none⟩) (by show w.heap.size ≤ w.heap.size + 1; omega) _)⟩
    · have HC := Lib.hid (show imgC X Y R tw = 2 by simp [imgC, cw, imC_lo h1])
      have HW := Lib.hid (show imgW X Y R tw river = We 0 0 0 by simp [imgW, cw, imW_no (imC_lo h1)])
      obtain ⟨z, b0, b1, B0⟩ := laid2 w (.cells #[.int .i8 X, .int .i8 Y, .float .f32 R] 35) (.cells #[.int .i8 0, .int .i8 0, .float .f32 0] 35)
      simp only [We]
      go_enter Try.func12, Try.ntmps12
      go_wp2_with (first | (go_at_call 11; have hc := l03Ok_any X Y R hX hY (w.alloc (.cells #[.int .i8 X, .int .i8 Y, .float .f32 R] 35) |>.alloc (.cells #[.int .i8 0, .int .i8 0, .float .f32 0] 35)); rw [cw] at hc; simp only [We] at hc; refine hc.mono ?_; clear hc; rintro e V2 ⟨rfl, hq2⟩; have hB := (hq2.block (w.heap.size + 1) (by omega)).trans b1; have hA := (hq2.block w.heap.size (by omega)).trans b0; have QN := Lib.hid (B0.trans (hq2.mono (by omega))); have zv := hq2.size; rw [z] at zv; clear hq2 B0 b0 b1 z; have c0 := cell_of_row _ _ 0 _ _ _ hA; have c1 := cell_of_row _ _ 1 _ _ _ hA; have c2 := cell_of_row _ _ 2 _ _ _ hA; have r0 := cell_of_row _ _ 0 _ _ _ hB; have r1 := cell_of_row _ _ 1 _ _ _ hB; have r2 := cell_of_row _ _ 2 _ _ _ hB; have f0 := ((there_row (n := 3) hB rfl) 0 (by omega)).2; have f1 := ((there_row (n := 3) hB rfl) 1 (by omega)).2; have f2 := ((there_row (n := 3) hB rfl) 2 (by omega)).2; rw [Nat.zero_add] at f0 f1 f2; have tV : V2.there (w.heap.size + 1) 0 3 := there_row hB rfl) | (go_at_call 19; refine (l00In_is tw (-400) 400 false (by simp; omega) _).mono ?_; rintro e w' ⟨rfl, rfl⟩))
      refine bodyPost_ret (results_we rfl _ _ (w.heap.size + 1) 0 0 0 2 rfl rfl (World.rangeAt_setCells_same V2 (w.heap.size + 1) 0 [.int .i8 0, .int .i8 0, .float .f32 0] tV) Try.underlying35 rfl infoWell) rfl ⟨by first | (rw [HW.out, HC.out]; done) | (rw [HW.out, HC.out]; rfl), (((QN.out.setCell (p := ⟨w.heap.size + 1, 0, none⟩) (by show w.heap.size ≤ w.heap.size + 1; omega) _).setCell (p := ⟨w.heap.size + 1, 1, none⟩) (by show w.heap.size ≤ w.heap.size + 1; omega) _).setCell (p := ⟨w.heap.size + 1, 2, none⟩) (by show w.heap.size ≤ w.heap.size + 1; omega) _)⟩

set_option maxRecDepth 100000 in
set_option maxHeartbeats 2000000 in
theorem eqWell_any (a b : Int) (r r' : Nat) (h : num .f32 r = num .f32 r') (w : World) : Calls Try.prog 16 #[.agg (We a b r), .agg (We a b r')] w fun e w' => e = .returned (.bool true) ∧ Below w.heap.size w w' := by
  have H := Lib.hid h
  clear h
  simp only [We]
  have t1 : True := trivial
  go_enter Try.func16, Try.ntmps16
  go_wp2_with (first | (have _t := t1; refine wpList_conv rfl _ _ _ rfl Try.underlying33 Try.underlying50 _ rfl ?_; intro xx m hx; have XX := Lib.hid hx; clear t1 hx) | (refine wpList_conv rfl _ _ _ rfl Try.underlying33 Try.underlying50 _ rfl ?_; intro yy m' hy; have YY := Lib.hid hy; clear hy) | (go_at_call 24; refine (sameFloat_yes xx yy (by rw [XX.out, YY.out, H.out]) _).mono ?_; rintro e w' ⟨rfl, k, rfl⟩))
  go_ret
  exact ⟨rfl, by repeat (first | exact Below.refl _ _ | (refine belowN ?_ _) | (refine belowMore ?_ _))⟩
end Go.Proofs.Ytdhgehmnjoclaaa
