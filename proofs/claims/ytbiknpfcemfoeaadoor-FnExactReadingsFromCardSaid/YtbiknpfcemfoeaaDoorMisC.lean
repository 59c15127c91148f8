/- What is asked before a misfit is summed, the program's; MisfitOf of the program. Condition: the sentinels lie where they are laid. -/
import Derived.Test.YtbiknpfcemfoeaaDoorMisQ
import Derived.Test.YtbiknpfcemfoeaaDoorTies
import Derived.Test.YtbiknpfcemfoeaaDoorTro
namespace Go.Proofs.YtbiknpfcemfoeaaDoor
open Go Go.RowKit Ieee
set_option linter.unusedSimpArgs false
set_option linter.unusedVariables false

set_option maxRecDepth 100000 in
set_option maxHeartbeats 1000000 in
theorem notAq_any (T S : Nat) (w : World) : Calls Tryd.prog 69 #[.agg (Aq T S)] w fun e w' => e = .returned (.bool (!aqB T S)) ∧ Below w.heap.size w w' := by
  have B0 : Below w.heap.size w (w.alloc (.cells (Aq T S) 43)) := (Below.refl _ _).alloc (Nat.le_refl _) _
  have c0 : (w.alloc (.cells (Aq T S) 43)).cell? ⟨w.heap.size, 0, none⟩ = some (.float .f32 T) := cell_of_row _ _ 0 _ _ _ (heap_alloc_last w _)
  have c1 : (w.alloc (.cells (Aq T S) 43)).cell? ⟨w.heap.size, 1, none⟩ = some (.float .f32 S) := cell_of_row _ _ 1 _ _ _ (heap_alloc_last w _)
  have T1 := fun V => implAq_any T S V
  obtain ⟨q, hq⟩ : ∃ q, aqB T S = q := ⟨_, rfl⟩
  rw [hq] at T1 ⊢
  clear hq
  have BB := Lib.hid B0
  clear B0
  simp only [Aq] at T1 BB c0 c1 ⊢
  go_enter Tryd.func69, Tryd.ntmps69
  go_wp2_with (go_at_call 70; refine (T1 _).mono ?_; rintro e V1 ⟨rfl, hq1⟩; have Q1 := Lib.hid (BB.out.trans (hq1.mono BB.out.size)); clear hq1)
  go_ret
  exact ⟨rfl, Q1.out⟩

set_option maxRecDepth 100000 in
set_option maxHeartbeats 1000000 in
theorem indexAq_any (T S b cap : Nat) (w : World) (h0 : w.cell? ⟨b, 0, none⟩ = some (.float .f32 T)) (h1 : w.cell? ⟨b, 1, none⟩ = some (.float .f32 S)) (hb : b < w.heap.size) : Calls Tryd.prog 92 #[.slice (some ⟨b, 0, none⟩) 1 cap, .func (.func 69) #[] #[]] w fun e w' => e = .returned (.int .i64 (if aqB T S = true then -1 else 0)) ∧ Below w.heap.size w w' := by
  have T1 := fun V => notAq_any T S V
  obtain ⟨q, hq⟩ : ∃ q, aqB T S = q := ⟨_, rfl⟩
  rw [hq] at T1 ⊢
  have TT := Lib.hid T1
  have H0 := Lib.hid h0
  have H1 := Lib.hid h1
  clear hq T1 h0 h1
  simp only [Aq] at TT
  go_enter Tryd.func92, Tryd.ntmps92
  go_wp2
  go_loopw [8] (fun (i : Value) (wr : World) => ∃ k : Nat, k ≤ 1 ∧ (k = 0 ∨ q = true) ∧ i = .int .i64 (k : Int) ∧ Hid (Below w.heap.size w wr)) (fun i _ => 1 - (intOf i).toNat)
  case atStart => exact ⟨0, by omega, .inl rfl, rfl, Lib.hid (Below.refl _ _)⟩
  case round =>
    obtain ⟨k, hk, hq, rfl, hB⟩ := hrel
    by_cases hlt : k < 1
    · obtain rfl : k = 0 := by omega
      have c0 : wr.cell? ⟨b, 0, none⟩ = some (.float .f32 T) := (hB.out.cell (p := ⟨b, 0, none⟩) hb).trans H0.out
      have c1 : wr.cell? ⟨b, 1, none⟩ = some (.float .f32 S) := (hB.out.cell (p := ⟨b, 1, none⟩) hb).trans H1.out
      cases q
      · go_wp2_with (go_at_call 69; refine (TT.out _).mono ?_; rintro e V1 ⟨rfl, hq1⟩; have Q1 := Lib.hid (hB.out.trans (hq1.mono hB.out.size)); clear hq1)
        go_ret
        exact ⟨rfl, Q1.out⟩
      · go_wp2_with (go_at_call 69; refine (TT.out _).mono ?_; rintro e V1 ⟨rfl, hq1⟩; have Q1 := Lib.hid (hB.out.trans (hq1.mono hB.out.size)); clear hq1)
        go_roundw
        case rel => exact ⟨1, by omega, .inr trivial, rfl, Q1⟩
        case measure => simp [intOf]
    · obtain rfl : k = 1 := by omega
      obtain rfl : q = true := by simpa using hq
      go_wp2
      go_ret
      exact ⟨rfl, hB.out⟩
theorem containsAq_any (T S b cap : Nat) (w : World) (h0 : w.cell? ⟨b, 0, none⟩ = some (.float .f32 T)) (h1 : w.cell? ⟨b, 1, none⟩ = some (.float .f32 S)) (hb : b < w.heap.size) : Calls Tryd.prog 68 #[.slice (some ⟨b, 0, none⟩) 1 cap, .func (.func 69) #[] #[]] w fun e w' => e = .returned (.bool (!aqB T S)) ∧ Below w.heap.size w w' := by
  have T1 := indexAq_any T S b cap w h0 h1 hb
  clear h0 h1
  cases hq : aqB T S <;>
  · rw [hq] at T1
    clear hq
    go_enter Tryd.func68, Tryd.ntmps68
    go_wp2_with (go_at_call 92; refine T1.mono ?_; rintro e V1 ⟨rfl, hq1⟩; have Q1 := Lib.hid hq1; clear hq1)
    go_ret
    exact ⟨rfl, Q1.out⟩
def askK (b : Bool) : Option Nat := if b = true then none else some 0
set_option maxRecDepth 100000 in
set_option maxHeartbeats 2000000 in
theorem checkTest_any {s : Nat → Addr} (T S : Nat) (X Y : Int) (R : Nat) (x y : Int) (p : Option Addr) (c b cap : Nat) (L : List R2) (hL : L.length ≤ 1048576) (hX : -128 ≤ X ∧ X ≤ 127) (hY : -128 ≤ Y ∧ Y ≤ 127) (hx : -128 ≤ x ∧ x ≤ 127) (hy : -128 ≤ y ∧ y ≤ 127) (w : World) (hp : RsAt w p L) (hS : Sents w s)
    (h0 : w.cell? ⟨b, 0, none⟩ = some (.float .f32 T)) (h1 : w.cell? ⟨b, 1, none⟩ = some (.float .f32 S)) (hb : b < w.heap.size) :
    Calls Tryd.prog 48 #[.agg (Ste X Y R x y), .slice p L.length c, .slice (some ⟨b, 0, none⟩) 1 cap] w fun e w' => e = .returned (erV s (askK (askB T S X Y R x y L))) ∧ Below w.heap.size w w' := by
  have B0 : Below w.heap.size w (w.alloc (.cells (Ste X Y R x y) 47)) := (Below.refl _ _).alloc (Nat.le_refl _) _
  have hrow := heap_alloc_last w (.cells (Ste X Y R x y) 47)
  have s0 : (w.alloc (.cells (Ste X Y R x y) 47)).cell? ⟨w.heap.size, 0, none⟩ = some (.int .i8 X) := cell_of_row _ _ 0 _ _ _ hrow
  have s1 : (w.alloc (.cells (Ste X Y R x y) 47)).cell? ⟨w.heap.size, 1, none⟩ = some (.int .i8 Y) := cell_of_row _ _ 1 _ _ _ hrow
  have s2 : (w.alloc (.cells (Ste X Y R x y) 47)).cell? ⟨w.heap.size, 2, none⟩ = some (.float .f32 R) := cell_of_row _ _ 2 _ _ _ hrow
  have s3 : (w.alloc (.cells (Ste X Y R x y) 47)).cell? ⟨w.heap.size, 3, none⟩ = some (.int .i8 x) := cell_of_row _ _ 3 _ _ _ hrow
  have s4 : (w.alloc (.cells (Ste X Y R x y) 47)).cell? ⟨w.heap.size, 4, none⟩ = some (.int .i8 y) := cell_of_row _ _ 4 _ _ _ hrow
  clear hrow
  have BB := Lib.hid B0
  clear B0
  have HS := Lib.hid hS
  have HP := Lib.hid hp
  have T1 := fun V => validSite_any X Y R x y hX hY hx hy V
  have TC := Lib.hid (fun V (hV : Below w.heap.size w V) => containsAq_any T S b cap V ((hV.cell (p := ⟨b, 0, none⟩) hb).trans h0) ((hV.cell (p := ⟨b, 1, none⟩) hb).trans h1) (Nat.lt_of_lt_of_le hb hV.size))
  have TR := Lib.hid (fun V (hV : Below w.heap.size w V) => checkReadings_any p c L hL V (hp.keep hV) (hS.keep hV))
  have G := Lib.hid (show ∀ V, Below w.heap.size w V → V.cell? ⟨3, 0, none⟩ = some (.iface 165 (.pointer (some (s 0)))) from fun V hV => (hS.keep hV).cell 0 (by decide))
  have HC : askB T S X Y R x y L = (aqB T S && stB X Y R x y && okRs L) := rfl
  clear h0 h1 hp hS
  obtain ⟨n, hn⟩ : ∃ n, L.length = n := ⟨_, rfl⟩
  cases h2 : stB X Y R x y
  · rw [h2] at T1 HC
    have HE := Lib.hid (show Value.iface 165 (.pointer (some (s 0))) = erV s (askK (askB T S X Y R x y L)) by rw [HC]; cases aqB T S <;> rfl)
    rw [hn] at hL TR ⊢
    clear hn h2 HC TC TR
    simp only [Ste] at T1 BB s0 s1 s2 s3 s4 ⊢
    go_enter Tryd.func48, Tryd.ntmps48
    go_wp2_with (go_at_call 67; refine (T1 _).mono ?_; rintro e V1 ⟨rfl, hq1⟩; have Q1 := Lib.hid (BB.out.trans (hq1.mono BB.out.size)); have g := G.out V1 Q1.out; clear hq1)
    go_ret
    exact ⟨by first | (rw [HE.out]; done) | (rw [HE.out]; rfl), Q1.out⟩
  · rw [h2] at T1 HC
    cases h1 : aqB T S
    · rw [h1] at HC TC
      have HE := Lib.hid (show Value.iface 165 (.pointer (some (s 0))) = erV s (askK (askB T S X Y R x y L)) by rw [HC]; rfl)
      rw [hn] at hL TR ⊢
      clear hn h1 h2 HC TR
      simp only [Ste] at T1 BB s0 s1 s2 s3 s4 ⊢
      go_enter Tryd.func48, Tryd.ntmps48
      go_wp2_with (first | (go_at_call 67; refine (T1 _).mono ?_; rintro e V1 ⟨rfl, hq1⟩; have Q1 := Lib.hid (BB.out.trans (hq1.mono BB.out.size)); clear hq1) | (go_at_call 68; refine (TC.out _ Q1.out).mono ?_; rintro e V2 ⟨rfl, hq2⟩; have Q2 := Lib.hid (Q1.out.trans (hq2.mono Q1.out.size)); have g := G.out V2 Q2.out; clear hq2))
      go_ret
      exact ⟨by first | (rw [HE.out]; done) | (rw [HE.out]; rfl), Q2.out⟩
    · rw [h1] at HC TC
      have HE := Lib.hid (show erV s (ckR L) = erV s (askK (askB T S X Y R x y L)) by rw [HC]; cases h : okRs L <;> simp only [ckR, h] <;> rfl)
      obtain ⟨v, hv⟩ : ∃ v, erV s (ckR L) = v := ⟨_, rfl⟩
      rw [hn] at hL TR ⊢
      rw [hv] at TR HE
      clear hn h1 h2 HC hv
      simp only [Ste] at T1 BB s0 s1 s2 s3 s4 ⊢
      go_enter Tryd.func48, Tryd.ntmps48
      go_wp2_with (first | (go_at_call 67; refine (T1 _).mono ?_; rintro e V1 ⟨rfl, hq1⟩; have Q1 := Lib.hid (BB.out.trans (hq1.mono BB.out.size)); clear hq1) | (go_at_call 68; refine (TC.out _ Q1.out).mono ?_; rintro e V2 ⟨rfl, hq2⟩; have Q2 := Lib.hid (Q1.out.trans (hq2.mono Q1.out.size)); clear hq2) | (go_at_call 51; refine (TR.out _ Q2.out).mono ?_; rintro e V3 ⟨rfl, hq3⟩; have Q3 := Lib.hid (Q2.out.trans (hq3.mono Q2.out.size)); clear hq3))
      go_ret
      exact ⟨by first | (rw [HE.out]; done) | (rw [HE.out]; rfl), Q3.out⟩
end Go.Proofs.YtbiknpfcemfoeaaDoor
