/- ImageOf, the program's and the model's, as values. No condition. -/
import Derived.Test.YtbiknpfcemfoeaaDoorOut
namespace Go.Proofs.YtbiknpfcemfoeaaDoor
open Go Go.RowKit Ieee
set_option linter.unusedSimpArgs false
set_option linter.unusedVariables false
attribute [local go_sem] run_store_f32

/-- The code of an image of a well that is valid. -/
def imC (X tw : Int) : Int := if (decide (-400 ≤ tw) && decide (tw ≤ 400) && plB (tw - X)) = true then 0 else 2
def imR (R : Nat) (river : Bool) : Nat := if river = true then Op.negFloat .f32 R else R
def imW (X Y : Int) (R : Nat) (tw : Int) (river : Bool) : Array Value := if imC X tw = 0 then We (tw - X) Y (imR R river) else We 0 0 0
theorem imC_lo {X tw : Int} (h : ¬ -400 ≤ tw) : imC X tw = 2 := by simp [imC, h]
theorem imC_hi {X tw : Int} (h : ¬ tw ≤ 400) : imC X tw = 2 := by simp [imC, h]
theorem imC_far {X tw : Int} (h : plB (tw - X) = false) : imC X tw = 2 := by simp [imC, h]
theorem imC_ok {X tw : Int} (h1 : -400 ≤ tw) (h2 : tw ≤ 400) (h : plB (tw - X) = true) : imC X tw = 0 := by simp [imC, h1, h2, h]
theorem imW_no {X Y : Int} {R : Nat} {tw : Int} {river : Bool} (h : imC X tw = 2) : imW X Y R tw river = We 0 0 0 := by simp [imW, h]
theorem imW_ok {X Y : Int} {R : Nat} {tw : Int} {river : Bool} (h : imC X tw = 0) : imW X Y R tw river = We (tw - X) Y (imR R river) := by simp [imW, h]
theorem We_size (X Y : Int) (R : Nat) : (We X Y R).size = 3 := rfl
theorem below2 (a b : Array Value) (t u : TypeId) (w : World) : Below w.heap.size w ((w.alloc (.cells a t)).alloc (.cells b u)) := ((Below.refl _ _).alloc (Nat.le_refl _) _).alloc (by simp) _
theorem infoWell : (Tryd.prog.info? 45).map (·.size) = some 3 := by kernel_rfl
theorem results_we {P : Program} {fn : Func} {p q : Tmp} {ty : TypeId} {D : TypeDesc} (h : fn.results = #[.cell p ty, .tmp q]) (tmps : Array Value) (w : World) (b : Nat) (X Y : Int) (R : Nat) (n : Int)
    (hp : tmps.getD p undef = .pointer (some ⟨b, 0, none⟩)) (hq : tmps.getD q undef = .int .i64 n) (hc : w.rangeAt b 0 (We X Y R).toList)
    (hu : P.underlying ty = some D) (hd : D.isRow = true) (hi : (P.info? ty).map (·.size) = some 3) :
    (results fn tmps).run P w = .ok (.tuple #[.agg (We X Y R), .int .i64 n]) w := by
  have hp' : tmps[p]?.getD undef = .pointer (some ⟨b, 0, none⟩) := by simpa using hp
  have hq' : tmps[q]?.getD undef = .int .i64 n := by simpa using hq
  have := run_loadVar_mid (P := P) w b 0 ty (We X Y R).toList D hc hu hd hi
  simp [results, h, hp', hq', asAddr, this]

def imgC (X Y : Int) (R : Nat) (tw : Int) : Int := if weB X Y R = true then imC X tw else 1
def imgW (X Y : Int) (R : Nat) (tw : Int) (river : Bool) : Array Value := if weB X Y R = true then imW X Y R tw river else We 0 0 0
theorem imW_is (X Y : Int) (R : Nat) (tw : Int) (river : Bool) : ∃ a b r, imW X Y R tw river = We a b r := by
  unfold imW
  split
  · exact ⟨_, _, _, rfl⟩
  · exact ⟨_, _, _, rfl⟩
theorem imgW_is (X Y : Int) (R : Nat) (tw : Int) (river : Bool) : ∃ a b r, imgW X Y R tw river = We a b r := by
  unfold imgW
  split
  · exact imW_is _ _ _ _ _
  · exact ⟨_, _, _, rfl⟩
theorem imC_is (X tw : Int) : imC X tw = 0 ∨ imC X tw = 2 := by
  unfold imC
  split
  · exact .inl rfl
  · exact .inr rfl

set_option maxRecDepth 100000 in
set_option maxHeartbeats 2000000 in
theorem l00In_is (n a b : Int) (r : Bool) (h : (decide (a ≤ n) && decide (n ≤ b)) = r) (w : World) : Calls Tryd.prog 37 #[.int .i64 n, .int .i64 a, .int .i64 b] w fun e w' => e = .returned (.bool r) ∧ w = w' := by
  subst h
  by_cases h1 : a ≤ n
  · by_cases h2 : n ≤ b
    · rw [show (decide (a ≤ n) && decide (n ≤ b)) = true by simp [h1, h2]]
      go_enter Tryd.func37, Tryd.ntmps37
      go_wp2
      go_ret
      exact ⟨rfl, rfl⟩
    · rw [show (decide (a ≤ n) && decide (n ≤ b)) = false by simp [h2]]
      go_enter Tryd.func37, Tryd.ntmps37
      go_wp2
      go_ret
      exact ⟨rfl, rfl⟩
  · rw [show (decide (a ≤ n) && decide (n ≤ b)) = false by simp [h1]]
    go_enter Tryd.func37, Tryd.ntmps37
    go_wp2
    go_ret
    exact ⟨rfl, rfl⟩

end Go.Proofs.YtbiknpfcemfoeaaDoor
