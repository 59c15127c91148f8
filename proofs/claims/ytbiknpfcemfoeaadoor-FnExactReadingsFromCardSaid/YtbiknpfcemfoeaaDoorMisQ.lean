/- What is asked before a misfit is summed, the model's; MisfitOf of the model. No condition on what comes in. -/
import Derived.Test.YtbiknpfcemfoeaaDoorMisS
import Derived.Test.YtbiknpfcemfoeaaDoorSt
namespace Go.Proofs.YtbiknpfcemfoeaaDoor
open Go Go.RowKit Ieee
set_option linter.unusedSimpArgs false
set_option linter.unusedVariables false

def askB (T S : Nat) (X Y : Int) (R : Nat) (x y : Int) (L : List R2) : Bool := aqB T S && stB X Y R x y && okRs L
def askC (b : Bool) : Int := if b = true then 0 else 1
theorem two_rows (T S : Nat) (X Y : Int) (R : Nat) (x y : Int) (w : World) : ∃ W, (w.alloc (.cells (Aq T S) 43) |>.alloc (.cells (Ste X Y R x y) 47)) = W ∧ Below w.heap.size w W ∧ ∀ V, Below W.heap.size W V → V.cell? ⟨w.heap.size, 0, none⟩ = some (.float .f32 T) ∧ V.cell? ⟨w.heap.size, 1, none⟩ = some (.float .f32 S) ∧ V.cell? ⟨w.heap.size + 1, 0, none⟩ = some (.int .i8 X) ∧ V.cell? ⟨w.heap.size + 1, 1, none⟩ = some (.int .i8 Y) ∧ V.cell? ⟨w.heap.size + 1, 2, none⟩ = some (.float .f32 R) ∧ V.cell? ⟨w.heap.size + 1, 3, none⟩ = some (.int .i8 x) ∧ V.cell? ⟨w.heap.size + 1, 4, none⟩ = some (.int .i8 y) := by
  obtain ⟨z, b0, b1, B0⟩ := laid2 w (.cells (Aq T S) 43) (.cells (Ste X Y R x y) 47)
  refine ⟨_, rfl, B0, fun V hV => ?_⟩
  have h0 := (hV.block w.heap.size (by omega)).trans b0
  have h1 := (hV.block (w.heap.size + 1) (by omega)).trans b1
  exact ⟨cell_of_row _ _ 0 _ _ _ h0, cell_of_row _ _ 1 _ _ _ h0, cell_of_row _ _ 0 _ _ _ h1, cell_of_row _ _ 1 _ _ _ h1, cell_of_row _ _ 2 _ _ _ h1, cell_of_row _ _ 3 _ _ _ h1, cell_of_row _ _ 4 _ _ _ h1⟩

set_option maxRecDepth 100000 in
set_option maxHeartbeats 2000000 in
theorem l04Asked_any (T S : Nat) (X Y : Int) (R : Nat) (x y : Int) (p : Option Addr) (c : Nat) (L : List R2) (hL : L.length ≤ 1048576) (hX : -128 ≤ X ∧ X ≤ 127) (hY : -128 ≤ Y ∧ Y ≤ 127) (hx : -128 ≤ x ∧ x ≤ 127) (hy : -128 ≤ y ∧ y ≤ 127) (w : World) (hp : RsAt w p L) :
    Calls Tryd.prog 44 #[.agg (Aq T S), .agg (Ste X Y R x y), .slice p L.length c] w fun e w' => e = .returned (.int .i64 (askC (askB T S X Y R x y L))) ∧ Below w.heap.size w w' := by
  obtain ⟨W, hW, B0, LD⟩ := two_rows T S X Y R x y w
  have BW := Lib.hid B0
  have HLD := Lib.hid LD
  have HP := Lib.hid hp
  have T1 := fun V => l03Aq_any T S V
  have T2 := fun V => l04Site_any X Y R x y hX hY hx hy V
  have T3 := fun V (h : RsAt V p L) => l04Ok_any p c L hL V h
  have HC : askB T S X Y R x y L = (aqB T S && stB X Y R x y && okRs L) := rfl
  have T3H := Lib.hid T3
  obtain ⟨s0, s1, s2, s3, s4, s5, s6⟩ := LD W (Below.refl _ _)
  clear T3 B0 LD hp
  cases h1 : aqB T S
  · rw [h1] at T1 HC
    have HE := Lib.hid (show (1 : Int) = askC (askB T S X Y R x y L) by rw [HC]; rfl)
    obtain ⟨n, hn⟩ : ∃ n, L.length = n := ⟨_, rfl⟩
    rw [hn] at hL ⊢
    clear hn h1 T2 T3H HC
    simp only [Aq, Ste] at T1 hW ⊢
    go_enter Tryd.func44, Tryd.ntmps44
    go_upto_region 1 with (fail)
    try rw [hW]
    clear hW
    go_wp2_with (go_at_call 35; refine (T1 _).mono ?_; rintro e V1 ⟨rfl, hq1⟩; have Q1 := Lib.hid (BW.out.trans (hq1.mono BW.out.size)); clear hq1)
    go_ret
    exact ⟨by rw [← HE.out]; rfl, Q1.out⟩
  · rw [h1] at T1 HC
    cases h2 : stB X Y R x y
    · rw [h2] at T2 HC
      have HE := Lib.hid (show (1 : Int) = askC (askB T S X Y R x y L) by rw [HC]; rfl)
      obtain ⟨n, hn⟩ : ∃ n, L.length = n := ⟨_, rfl⟩
      rw [hn] at hL ⊢
      clear hn h1 h2 T3H HC
      simp only [Aq, Ste] at T1 T2 hW ⊢
      go_enter Tryd.func44, Tryd.ntmps44
      go_upto_region 1 with (fail)
      try rw [hW]
      clear hW
      go_wp2_with (first | (go_at_call 35; refine (T1 _).mono ?_; rintro e V1 ⟨rfl, hq1⟩; have Q1 := Lib.hid hq1; obtain ⟨r0, r1, r2, r3, r4, r5, r6⟩ := HLD.out _ hq1; clear hq1 s0 s1 s2 s3 s4 s5 s6) | (go_at_call 36; refine (T2 _).mono ?_; rintro e V2 ⟨rfl, hq2⟩; have Q2 := Lib.hid (Q1.out.trans (hq2.mono Q1.out.size)); clear hq2))
      go_ret
      exact ⟨by rw [← HE.out]; rfl, BW.out.trans (Q2.out.mono BW.out.size)⟩
    · rw [h2] at T2 HC
      obtain ⟨q, hq⟩ : ∃ q, okRs L = q := ⟨_, rfl⟩
      have HE := Lib.hid (show askC q = askC (askB T S X Y R x y L) by rw [HC, hq]; rfl)
      obtain ⟨n, hn⟩ : ∃ n, L.length = n := ⟨_, rfl⟩
      rw [hq, hn] at T3H
      rw [hn] at hL ⊢
      clear hn h1 h2 HC hq
      simp only [Aq, Ste] at T1 T2 hW ⊢
      cases q <;>
        (go_enter Tryd.func44, Tryd.ntmps44
         go_upto_region 1 with (fail)
         try rw [hW]
         clear hW
         go_wp2_with (first | (go_at_call 35; refine (T1 _).mono ?_; rintro e V1 ⟨rfl, hq1⟩; have Q1 := Lib.hid hq1; obtain ⟨r0, r1, r2, r3, r4, r5, r6⟩ := HLD.out _ hq1; clear hq1 s0 s1 s2 s3 s4 s5 s6) | (go_at_call 36; refine (T2 _).mono ?_; rintro e V2 ⟨rfl, hq2⟩; have Q2 := Lib.hid (Q1.out.trans (hq2.mono Q1.out.size)); clear hq2) | (go_at_call 27; refine (T3H.out _ (HP.out.keep (BW.out.trans (Q2.out.mono BW.out.size)))).mono ?_; rintro e V3 ⟨rfl, hq3⟩; have Q3 := Lib.hid (Q2.out.trans (hq3.mono Q2.out.size)); clear hq3))
         go_ret
         exact ⟨by rw [← HE.out]; rfl, BW.out.trans (Q3.out.mono BW.out.size)⟩)
def misO (b : Bool) (o : Option Nat) : Option Nat := if b = true then o else num .f32 0
theorem ask_parts {T S : Nat} {X Y : Int} {R : Nat} {x y : Int} {L : List R2} (hT : T < 4294967296) (hS : S < 4294967296) (h : askB T S X Y R x y L = true) :
    (981467136 ≤ T ∧ T ≤ 1233125376) ∧ (897581056 ≤ S ∧ S ≤ 1065353216) ∧ (-100 ≤ X ∧ X ≤ 100) ∧ (-100 ≤ Y ∧ Y ≤ 100) ∧ (-100 ≤ x ∧ x ≤ 100) ∧ (-100 ≤ y ∧ y ≤ 100) ∧ okRs L = true := by
  simp only [askB, Bool.and_eq_true] at h
  obtain ⟨⟨h1, h2⟩, h3⟩ := h
  have hb := aq_bits hT hS h1
  simp only [stB, weB, plB, Bool.and_eq_true, decide_eq_true_eq] at h2
  refine ⟨⟨hb.1, hb.2.1⟩, ⟨hb.2.2.1, hb.2.2.2⟩, ?_, ?_, ?_, ?_, h3⟩ <;> omega

end Go.Proofs.YtbiknpfcemfoeaaDoor
