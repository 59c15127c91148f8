/- An argument that is bytes, opened. Condition: none. -/
import Derived.Test.YtjhaonfdapldcaaDoorLs
import Derived.Test.YtjhaonfdapldcaaDoorPick
namespace Go.Proofs.YtjhaonfdapldcaaDoor
open Go Go.ChangeShapes Go.WideShapes Go.ChangeAt Go.RowKit Go.Deep
set_option linter.unusedSimpArgs false
set_option linter.unusedVariables false

section
variable {H : Type} {enc : TypeId × Value → H} {w : World} {base : Nat} {spare : Nat → Bool} {held : Bool}
theorem cellsU8G : Tryd.prog.cellsOf 5 = 1 := by kernel_rfl
/-- Bytes, opened. -/
theorem open_bytesG {v : Value} {d : DataW H} {ps : List MemPlace} (hv : ∃ a len cap, v = .slice a len cap) (h : DataW.Trod enc Tryd.prog w base spare held 40 v d ps) :
    ∃ (p : Option Addr) (n c : Nat), v = .slice p n c ∧ n ≤ maxLen ∧ BytesAt w w.heap.size p n := by
  obtain ⟨a, len, cap, rfl⟩ := hv
  obtain ⟨fuel, hf⟩ := h
  rcases open_slice1 Tryd.underlying40 cellsU8G hf with ⟨h0, _⟩ | ⟨a', len', cap', m, n, V, D, Pl, hcs, _, hlc, hcm, hm, _, hi⟩
  · have h0' : [Value.slice a len cap] = [Value.slice none 0 0] := h0
    cases h0'
    exact ⟨none, 0, 0, rfl, Nat.zero_le _, fun i hi => absurd hi (by omega)⟩
  · have hcs' : [Value.slice a len cap] = [Value.slice (some a') len' cap'] := hcs
    cases hcs'
    have hlm : len ≤ m := by rw [hm]; split <;> omega
    have hx : ∀ i, i < len → ∃ x : Int, w.cell? (a'.add i) = some (.int .u8 x) ∧ 0 ≤ x ∧ x ≤ 255 := fun i hil => by
      obtain ⟨h1, h2⟩ := hi i (by omega)
      obtain ⟨x, hX, _, wX⟩ := DataW.trod_int Tryd.underlying5 h2
      have hb := bounds_u8 wX
      have hV : V i = .int .u8 x := by simpa using hX
      exact ⟨x, by rw [h1, hV], hb⟩
    refine ⟨some a', len, cap, rfl, by omega, fun i hil => ?_⟩
    obtain ⟨x, hc, hb⟩ := hx i hil
    obtain ⟨x0, hc0, _⟩ := hx 0 (by omega)
    obtain ⟨bb, oo, sp⟩ := a'
    have hsp : sp = none := by
      cases sp with
      | none => rfl
      | some s =>
        exfalso
        have ha : (⟨bb, oo, some s⟩ : Addr).add 0 = ⟨bb, oo, some s⟩ := rfl
        rw [ha] at hc0
        unfold World.cell? at hc0
        cases hh : w.heap[bb]? with
        | none => simp [hh] at hc0
        | some ob => cases ob <;> simp [hh] at hc0
    subst hsp
    rw [Addr.add_mid] at hc
    exact ⟨bb, oo, x, rfl, World.block_lt_of_cell? w _ hc, hc, hb⟩
end
end Go.Proofs.YtjhaonfdapldcaaDoor
