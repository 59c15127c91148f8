/- A range over the bits of a mask, for every loop body; what a loop's book-keeping leaves alone; the end of a function that held such a loop. Condition: the table of math/bits is laid. -/
import Derived.Test.YtcfkkceidlpdkaaDoorIter
import Derived.Test.YtcfkkceidlpdkaaDoorBox
import Derived.Test.YtcfkkceidlpdkaaDoorCalm
namespace Go.Proofs.YtcfkkceidlpdkaaDoor
open Go.RowKit Go.Shelf
attribute [local go_sem] Oper.semAt_some
set_option linter.unusedSimpArgs false

/-- Cells and their marks are as they were. -/
structure CK (A B : World) : Prop where
  cell : ∀ {p : Addr} {v : Value}, A.cell? p = some v → B.cell? p = some v
  frozen : ∀ {p : Addr} {v : Value}, A.cell? p = some v → B.frozen? p = A.frozen? p
  size : A.heap.size ≤ B.heap.size
theorem CK.of_grown {A B : World} {row : Option Nat} (hg : A.grownBy B row) (hr : ∀ r, row = some r → ∃ o : Obj, A.heap[r]? = some o ∧ o.isCells = false) : CK A B :=
  ⟨fun h => cell_kept h hg hr, fun h => frozen_kept h hg hr, (by obtain ⟨_, _, _, h, _⟩ := hg; exact h)⟩
theorem CK.put {A : World} {D : Nat} {x : Obj} (hD : A.heap[D]? = some (.deferred (some []))) : CK A (A.putObj D x) :=
  CK.of_grown (grownBy_putObj' A D x) (fun r e => by cases e; exact ⟨_, hD, rfl⟩)
theorem CK.refl (A : World) : CK A A := ⟨fun h => h, fun _ => rfl, Nat.le_refl _⟩
theorem CK.range {A B : World} (h : CK A B) {b o : Nat} {cs : List Value} (g : A.rangeAt b o cs) : B.rangeAt b o cs := fun j v hv => h.cell (g j v hv)
theorem CK.there {A B : World} (h : CK A B) {b o n : Nat} (g : A.there b o n) : B.there b o n := fun j hj => by
  obtain ⟨v, hv⟩ := Option.isSome_iff_exists.1 (g j hj).1
  exact ⟨by rw [h.cell hv]; rfl, (h.frozen hv).trans (g j hj).2⟩
theorem CK.grd {A B : World} (h : CK A B) {b o : Nat} {G : Gd} (g : GrdAt A b o G) : GrdAt B b o G :=
  ⟨h.cell g.wide, h.cell g.high, h.range g.c, h.range g.g, h.range g.h, h.cell g.x⟩
theorem CK.box {A B : World} (h : CK A B) {b : Nat} {G : Gd} (g : GBox A b G) : GBox B b G := ⟨h.grd g.at', h.there g.there⟩
theorem CK.tab {A B : World} (h : CK A B) (g : TabAt A) : TabAt B := fun j hj => h.cell (g j hj)

/-- How a round ends well. -/
theorem round_ok {α : Type} {Kp : World → World → Prop} {I : List α → World → Prop} {Ix : Code → List α → World → Prop} {xs : List α} {W W' : World} {a : Act} (h1 : KeepsOthers W W') (h2 : Kp W W') (h3 : I xs W') : ownPostK Kp I Ix xs W .normal a W' := ⟨h1, h2, h3⟩

/-- The numbers, out of the bits. -/
def nos {m : Nat} (xs : List (BitOf m)) : List Nat := xs.map (·.1)
theorem nos_snoc {m : Nat} (xs : List (BitOf m)) (x : BitOf m) : nos (xs ++ [x]) = nos xs ++ [x.1] := by simp [nos]

theorem wp_bits {assign body : Code} {Q : Exit → Act → World → Prop} {T : Array Value} {df : List Deferred} {w : World} (gs ps vs Bn n₀ m : Nat) (hm : m < 18446744073709551616)
    (hg : (Act.eval { tmps := T, defers := df } (.tmp gs)) = .func (.func 92) #[] #[.pointer (some ⟨Bn, 0, none⟩)])
    (hc : w.cell? ⟨Bn, 0, none⟩ = some (.int .u64 m)) (hT : TabAt w) (hg0 : 0 < n₀) (hle : n₀ ≤ w.heap.size)
    (I : List Nat → World → Prop) (Ix : Code → List Nat → World → Prop) (hI : ∀ s A B, CK A B → I s A → I s B) (hIx : ∀ c s A B, CK A B → Ix c s A → Ix c s B) (h0 : I [] w)
    (hassign : ∀ (l : Nat) (x : Nat) (W : World) (K : Act → World → Prop), K { tmps := (T.setIfInBounds ps (.int .i64 x)).setIfInBounds vs (.int .i64 x), defers := [] } W →
      assign.wpIn (Fence.wide.inRound l) 4 Tryd.prog (Exit.then K (fun _ _ _ => False)) { tmps := T.setIfInBounds ps (.int .i64 x), defers := [] } W)
    (hbody : ∀ (l : Nat) (pre : List (BitOf m)) (x : BitOf m) (W : World), I (nos pre) W → Below n₀ w W → m.testBit x.1 = true → x.1 < 64 →
      body.wpIn (Fence.wide.inRound l) 4 Tryd.prog (ownPostK (Below n₀) (fun p W => I (nos p) W ∧ Below n₀ w W) (fun c p W => Ix c (nos p) W ∧ Below n₀ w W) (pre ++ [x]) W) { tmps := (T.setIfInBounds ps (.int .i64 x.1)).setIfInBounds vs (.int .i64 x.1), defers := [] } W)
    (hdone : ∀ (D : Nat) (W : World), w.heap.size ≤ D → I (bitsL m) W → Below n₀ w W → W.heap[D]? = some (.deferred (some [])) → Q .normal { tmps := T, defers := { target := .collected D, args := #[] } :: df } W)
    (hstop : ∀ (D : Nat) (c : Code) (pre : List Nat) (W : World), w.heap.size ≤ D → pre <+: bitsL m → Ix c pre W → Below n₀ w W → W.heap[D]? = some (.deferred (some [])) → c.wpIn Fence.wide 6 Tryd.prog Q { tmps := T, defers := { target := .collected D, args := #[] } :: df } W) :
    (Code.rangeFunc (.tmp gs) #[ps] assign body).wpIn Fence.wide 6 Tryd.prog Q { tmps := T, defers := df } w := by
  have hBn : Bn < w.heap.size := World.block_lt_of_cell? w ⟨Bn, 0, none⟩ hc
  refine wpIn_rangeFunc_ownF rfl (by omega) (gf := 92) (lb := #[.pointer (some ⟨Bn, 0, none⟩)]) hg trivial (enters_of Tryd.func92 (by kernel_rfl) rfl)
    (bits_stops m hm 5 (by omega) Bn n₀ w hBn hg0 hle hc hT) belowK_t (belowK_b hle) (Below.refl _ _) (fun _ => rfl)
    (fun p W => I (nos p) W ∧ Below n₀ w W) (fun c p W => Ix c (nos p) W ∧ Below n₀ w W)
    (OwnFrom.and (Own.from (I := fun (p : List (BitOf m)) W => I (nos p) W) (fun s A B row hs hg hr => hI _ _ _ (CK.of_grown hg hr) hs) _) (ownFrom_below hle hle))
    (fun c => OwnFrom.and (Own.from (I := fun (p : List (BitOf m)) W => Ix c (nos p) W) (fun s A B row hs hg hr => hIx c _ _ _ (CK.of_grown hg hr) hs) _) (ownFrom_below hle hle))
    ⟨h0, Below.refl _ _⟩ (fun x => { tmps := (T.setIfInBounds ps (.int .i64 x.1)).setIfInBounds vs (.int .i64 x.1), defers := [] })
    (fun l x W K hK => by have := hassign l x.1 W K hK; simpa [encB] using this) (fun l pre x W h _ => hbody l pre x W h.1 h.2 (mem_bitsL.1 x.2).2 (mem_bitsL.1 x.2).1)
    (fun D ys W hD hys h hK => hdone D W hD (by have h1 := h.1; rwa [show nos ys = bitsL m from hys] at h1) h.2 hK)
    (fun D c pre W hD hp h hK => hstop D c _ W hD hp h.1 h.2 hK)

/-- The end of a function behind such a loop. -/
theorem ret_marks {fn : Func} {R : Ending → World → Prop} {T : Array Value} {W : World} {D : Nat} {v : Value} (hK : W.heap[D]? = some (.deferred (some [])))
    (hres : ∀ W', CK W W' → (results fn T).run Tryd.prog W' = .ok v W') (h : ∀ W', CK W W' → (∀ n, n ≤ D → Below n W W') → R (.returned v) W') :
    bodyPostM Fence.wide 6 Tryd.prog fn R .ret { tmps := T, defers := [{ target := .collected D, args := #[] }] } W := by
  have hDl : D < W.heap.size := (Array.getElem?_eq_some_iff.1 hK).1
  refine ⟨by simp, .inl ⟨_, _, rfl, run_takeDeferred hK, ?_⟩⟩
  exact ⟨_, hres _ (CK.put hK), h _ (CK.put hK) fun n hn => (Below.refl n W).grown (grownBy_putObj' W D _) (by omega) (fun k e => by cases e; omega)⟩
end Go.Proofs.YtcfkkceidlpdkaaDoor
