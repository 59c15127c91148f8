/- A lemma for laws whose arguments lie in memory: if the call returns true and leaves all memory that was there as it was, the row's step follows; and an argument that is a list of wells, opened. Condition: none of its own. -/
import Derived.Test.YtdhgehmnjoclaaaLiftB
import Derived.Test.YtdhgehmnjoclaaaLs
import Derived.Test.YtdhgehmnjoclaaaWs
import Derived.Deep.Slices
import Derived.Deep.Fields
namespace Go.Proofs.Ytdhgehmnjoclaaa
open Go Go.ChangeShapes Go.WideShapes Go.ChangeAt Go.RowKit Go.Deep


section
variable {H : Type} {enc : TypeId × Value → H} {w : World} {base : Nat} {spare : Nat → Bool} {held : Bool}
/-- A well in memory, opened. -/
def okW (e : W3) : Prop := (Lit.int .i8 e.1).wf = true ∧ (Lit.int .i8 e.2.1).wf = true ∧ (Lit.float .f32 e.2.2).wf = true
set_option maxRecDepth 100000 in
theorem weFields : ∃ f0 f1 f2 : Field, Try.prog.underlying 39 = some (.struct #[f0, f1, f2]) ∧ oneCellFields Try.prog #[f0, f1, f2] = true ∧ f0.type = 32 ∧ f1.type = 32 ∧ f2.type = 33 := by
  have h := Try.underlying39
  refine ⟨_, _, _, h, ?_, ?_, ?_, ?_⟩
  all_goals kernel_rfl
set_option maxRecDepth 100000 in
theorem open_we {n : Nat} {cs : List Value} {y : DataW H × List MemPlace} (hl : cs.length = 3) (h : DataW.trod enc Try.prog w base spare held n 39 cs = some y) : ∃ e : W3, cs = w3 e ∧ okW e := by
  obtain ⟨f0, f1, f2, hu, hone, t0, t1, t2⟩ := weFields
  obtain ⟨xs, m, _, _, _, hxl, hf⟩ := DataW.trod_struct hu h
  match cs, hl, xs, hxl with
  | [c0, c1, c2], _, [y0, y1, y2], _ =>
    obtain ⟨o0, k0⟩ := hone_of hone 0 f0 rfl
    obtain ⟨o1, k1⟩ := hone_of hone 1 f1 rfl
    obtain ⟨o2, k2⟩ := hone_of hone 2 f2 rfl
    have g0 := hf 0 f0 rfl
    have g1 := hf 1 f1 rfl
    have g2 := hf 2 f2 rfl
    rw [o0, k0, t0] at g0
    rw [o1, k1, t1] at g1
    rw [o2, k2, t2] at g2
    obtain ⟨X, hX, _, wX⟩ := DataW.trod_int Try.underlying32 (show DataW.trod enc Try.prog w base spare held m 32 [c0] = some y0 from g0)
    obtain ⟨Y, hY, _, wY⟩ := DataW.trod_int Try.underlying32 (show DataW.trod enc Try.prog w base spare held m 32 [c1] = some y1 from g1)
    obtain ⟨R, hR, wR⟩ := trod_f32 Try.underlying33 (show DataW.trod enc Try.prog w base spare held m 33 [c2] = some y2 from g2)
    cases hX; cases hY; cases hR
    exact ⟨(X, Y, R), rfl, wX, wY, wR⟩
theorem cellsWe : Try.prog.cellsOf 39 = 3 := by kernel_rfl
/-- A list of wells, opened. -/
theorem open_ws {v : Value} {d : DataW H} {ps : List MemPlace} (hv : ∃ a len cap, v = .slice a len cap) (h : DataW.Trod enc Try.prog w base spare held 22 v d ps) :
    ∃ (p : Option Addr) (c : Nat) (L : List W3), v = .slice p L.length c ∧ L.length ≤ maxLen ∧ WsAt w p L ∧ ∀ e ∈ L, okW e := by
  obtain ⟨a, len, cap, rfl⟩ := hv
  obtain ⟨fuel, hf⟩ := h
  rcases open_slice Try.underlying22 hf with ⟨h0, _⟩ | ⟨a', len', cap', m, n, D, Pl, hcs, _, hlc, hcm, hm, _, hi⟩
  · have h0' : [Value.slice a len cap] = [Value.slice none 0 0] := h0
    cases h0'
    exact ⟨none, 0, [], rfl, Nat.zero_le _, (fun i e he => by simp at he), (fun e he => by cases he)⟩
  · have hcs' : [Value.slice a len cap] = [Value.slice (some a') len' cap'] := hcs
    cases hcs'
    have hlm : len ≤ m := by rw [hm]; split <;> omega
    have hex : ∀ i, i < len → ∃ e : W3, (∀ j v, (w3 e)[j]? = some v → w.cell? (a'.add (i * 3 + j)) = some v) ∧ okW e := fun i hil => by
      obtain ⟨cs', h1, h2⟩ := hi i (by omega)
      rw [cellsWe] at h1
      obtain ⟨_, hl, hc⟩ := World.cells?_some h1
      obtain ⟨e, rfl, ok⟩ := open_we hl h2
      refine ⟨e, fun j v hj => ?_, ok⟩
      have hj3 : j < 3 := (List.getElem?_eq_some_iff.1 hj).1
      rw [← add_add, hc j hj3, hj]
    obtain ⟨F, hF⟩ := choose_lt hex
    refine ⟨some a', cap, (List.range len).map F, by simp, by simp; omega, fun i e he => ?_, fun e he => ?_⟩
    · have hil : i < len := by simpa using (List.getElem?_eq_some_iff.1 he).1
      have hFe : F i = e := by simpa [List.getElem?_range hil] using he
      subst hFe
      have hc := (hF i hil).1
      have h0 := (hF 0 (by omega)).1 0 _ rfl
      obtain ⟨bb, oo, sp⟩ := a'
      have hsp : sp = none := by
        cases sp with
        | none => rfl
        | some x =>
          exfalso
          have ha : (⟨bb, oo, some x⟩ : Addr).add (0 * 3 + 0) = ⟨bb, oo, some x⟩ := rfl
          rw [ha] at h0
          unfold World.cell? at h0
          cases hh : w.heap[bb]? with
          | none => simp [hh] at h0
          | some ob => cases ob <;> simp [hh] at h0
      subst hsp
      exact ⟨bb, oo, rfl, fun j v hj => by have := hc j v hj; rw [Addr.add_mid] at this; rwa [Nat.add_assoc]⟩
    · simp only [List.mem_map, List.mem_range] at he
      obtain ⟨i, hil, rfl⟩ := he
      exact (hF i hil).2
end
end Go.Proofs.Ytdhgehmnjoclaaa
