/- WithHead, WithGain, WithConduct: the model's and the program's. Condition (the program's): the table of math/bits is laid. -/
import Derived.Test.YtcfkkceidlpdkaaDoorChkI
namespace Go.Proofs.YtcfkkceidlpdkaaDoor
open Go.RowKit
attribute [local go_sem] run_store_float
set_option linter.unusedSimpArgs false

/-- The code, and the ground, of a change at a cell that leads to H. -/
def withN (G H : Gd) (c : Int) : Int := if askedN G c = 0 then madeN H else askedN G c
def withG (G H : Gd) (c : Int) : Gd := if askedN G c = 0 then madeG H else zG

theorem asked_in {G : Gd} {c : Int} (h : askedN G c = 0) : ∃ k : Nat, c = k ∧ k < 64 ∧ validB G = true ∧ isB G k = true := by
  unfold askedN at h
  split at h
  · rename_i hv
    split at h
    · rename_i hi
      obtain ⟨k, h1, h2, h3⟩ := inB_cast hi
      exact ⟨k, h1, h2, hv, h3⟩
    · cases h
  · cases h
theorem upd_has {f : Nat → Nat} {k b : Nat} (hf : ∀ i, i < 64 → FloatKind.f32.has (f i)) (hb : FloatKind.f32.has b) : ∀ i, i < 64 → FloatKind.f32.has (upd f k b i) := fun i hi => by
  unfold upd
  split
  · exact hb
  · exact hf i hi

theorem ok_h {G : Gd} {k b : Nat} (hG : GdOk G) (hb : FloatKind.f32.has b) : GdOk { G with h := upd G.h k b } := ⟨hG.wide, hG.high, hG.x, hG.c, hG.g, upd_has hG.h hb⟩

theorem ok_g {G : Gd} {k b : Nat} (hG : GdOk G) (hb : FloatKind.f32.has b) : GdOk { G with g := upd G.g k b } := ⟨hG.wide, hG.high, hG.x, hG.c, upd_has hG.g hb, hG.h⟩

theorem ok_c {G : Gd} {k b : Nat} (hG : GdOk G) (hb : FloatKind.f32.has b) : GdOk { G with c := upd G.c k b } := ⟨hG.wide, hG.high, hG.x, upd_has hG.c hb, hG.g, hG.h⟩

end Go.Proofs.YtcfkkceidlpdkaaDoor
