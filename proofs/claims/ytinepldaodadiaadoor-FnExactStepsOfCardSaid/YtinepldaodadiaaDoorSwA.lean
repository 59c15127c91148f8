/- The program's swept: what recovers. No condition. · swept with the settled head itself: the program's sweep in order. Condition: the table of math/bits is laid. · The program's StepAtOnce. Condition: the table of math/bits is laid. -/
import Derived.Test.YtinepldaodadiaaDoorSweepI
import Derived.Tactics
import Derived.Tactics2
import Derived.Defers
import Derived.Recover
import Derived.Laws.Pointers
namespace Go.Proofs.YtinepldaodadiaaDoor

section
open Go Go.RowKit
set_option linter.unusedSimpArgs false
set_option linter.unusedVariables false

theorem ta_nil (w : World) : (Instr.typeAssert .nilIface 20 89 true).run Tryd.prog w = .ok (.tuple #[.nilIface, .bool false]) w := by kernel_rfl

/-- The code's variable of attempt, in a world of its own. -/
theorem code_cell (w : World) : ∃ W, w.alloc (.cells #[.int .i64 0] 2) = W ∧ W.heap.size = w.heap.size + 1 ∧ W.cell? ⟨w.heap.size, 0, none⟩ = some (.int .i64 0) ∧ W.frozen? ⟨w.heap.size, 0, none⟩ = false ∧ Below w.heap.size w W := by
  refine ⟨_, rfl, World.size_alloc _ _, cell_of_row _ _ 0 _ _ _ (heap_alloc_last _ _), ?_, (Below.refl _ _).alloc (Nat.le_refl _) _⟩
  have := (there_row (n := 1) (heap_alloc_last w (.cells #[.int .i64 0] 2)) rfl 0 (by omega)).2
  rwa [Nat.zero_add] at this

theorem results_tt {P : Program} {fn : Func} {p q : Tmp} (h : fn.results = #[.tmp p, .tmp q]) (tmps : Array Value) (w : World) (x y : Value) (hp : tmps.getD p undef = x) (hq : tmps.getD q undef = y) :
    (results fn tmps).run P w = .ok (.tuple #[x, y]) w := by
  have hp' : tmps[p]?.getD undef = x := by simpa using hp
  have hq' : tmps[q]?.getD undef = y := by simpa using hq
  simp [results, h, hp', hq']
theorem results_tc {P : Program} {fn : Func} {p r : Tmp} {ti : TypeId} {Di : TypeDesc} (h : fn.results = #[.tmp p, .cell r ti]) (tmps : Array Value) (w : World) (c : Nat) (x : Value) (n : Int)
    (hp : tmps.getD p undef = x) (hr : tmps.getD r undef = .pointer (some ⟨c, 0, none⟩)) (hn : w.cell? ⟨c, 0, none⟩ = some (.int .i64 n)) (hui : P.underlying ti = some Di) (hdi : Di.isRow = false) :
    (results fn tmps).run P w = .ok (.tuple #[x, .int .i64 n]) w := by
  have hp' : tmps[p]?.getD undef = x := by simpa using hp
  have hr' : tmps[r]?.getD undef = .pointer (some ⟨c, 0, none⟩) := by simpa using hr
  have hagg : (isAgg ti).run P w = .ok false w := by
    unfold isAgg
    rw [Sem.run_bind, run_underlying hui w]
    cases Di <;> simp_all
  have h2 : (loadVar ti ⟨c, 0, none⟩).run P w = .ok (.int .i64 n) w := by
    unfold loadVar
    go_simp
  simp [results, h, hp', hr', asAddr, h2]
theorem results_gft {P : Program} {fn : Func} {p q r : Tmp} {ty : TypeId} {D : TypeDesc} (h : fn.results = #[.cell p ty, .tmp q, .tmp r]) (tmps : Array Value) (w : World) (b : Nat) (G : Gd) (m : Nat) (n : Int)
    (hp : tmps.getD p undef = .pointer (some ⟨b, 0, none⟩)) (hq : tmps.getD q undef = .float .f32 m) (hr : tmps.getD r undef = .int .i64 n) (hc : w.rangeAt b 0 (GrdL G))
    (hu : P.underlying ty = some D) (hd : D.isRow = true) (hi : (P.info? ty).map (·.size) = some 195) :
    (results fn tmps).run P w = .ok (.tuple #[.agg (Grd G), .float .f32 m, .int .i64 n]) w := by
  have hp' : tmps[p]?.getD undef = .pointer (some ⟨b, 0, none⟩) := by simpa using hp
  have hq' : tmps[q]?.getD undef = .float .f32 m := by simpa using hq
  have hr' : tmps[r]?.getD undef = .int .i64 n := by simpa using hr
  have := run_loadVar_mid (P := P) w b 0 ty (GrdL G) D hc hu hd (by rw [GrdL_length]; exact hi)
  simp [results, h, hp', hq', hr', asAddr, this, Grd]
/-- A ground, one cell and a ground are boxed. -/
theorem gxg_box (G H : Gd) (x : Value) (t u v : TypeId) (w : World) : ∃ W, ((w.alloc (.cells (Grd G) t)).alloc (.cells #[x] u)).alloc (.cells (Grd H) v) = W ∧ W.heap.size = w.heap.size + 1 + 1 + 1 ∧ GBox W w.heap.size G ∧ W.cell? ⟨w.heap.size + 1, 0, none⟩ = some x ∧ GBox W (w.heap.size + 1 + 1) H ∧ Below w.heap.size w W := by
  obtain ⟨W1, h1, z1, g1, b1⟩ := gbox1 G t w
  rw [h1]
  obtain ⟨W2, h2⟩ : ∃ W2, W1.alloc (.cells #[x] u) = W2 := ⟨_, rfl⟩
  have z2 : W2.heap.size = w.heap.size + 1 + 1 := by rw [← h2]; simp [z1]
  have b2 : Below W1.heap.size W1 W2 := by rw [← h2]; exact (Below.refl _ _).alloc (Nat.le_refl _) _
  have c2 : W2.cell? ⟨w.heap.size + 1, 0, none⟩ = some x := by rw [← h2, ← z1]; exact cell_of_row _ _ 0 _ _ _ (heap_alloc_last W1 _)
  rw [h2]
  obtain ⟨W3, h3, z3, g3, b3⟩ := gbox1 H v W2
  rw [z2] at g3
  exact ⟨W3, h3, by rw [z3, z2], (g1.below b2 (by omega)).below b3 (by omega), kc c2 (by omega) _ b3, g3, b1.trans ((b2.mono (by omega)).trans (b3.mono (by omega)))⟩
theorem there_away {W V : World} {B n b k : Nat} (h : W.there b 0 k) (ha : AwayC B n W V) (hb : b < n) (hne : b ≠ B) : V.there b 0 k := fun j hj => by
  obtain ⟨v, hv⟩ := Option.isSome_iff_exists.1 (h j hj).1
  have h1 := ha.cell ⟨b, 0 + j, none⟩ v hb hne hv
  exact ⟨by rw [h1.1]; rfl, h1.2.trans (h j hj).2⟩

end

section
open Go Go.RowKit
set_option linter.unusedSimpArgs false
set_option linter.unusedVariables false

/-- What swept hands back. -/
def sweptV (nx : Gd → Nat → Option Nat) (G : Gd) : Value := if (swp nx G (bitsL (cellsN G))).2.1 = true then .tuple #[.agg (Grd (swp nx G (bitsL (cellsN G))).1), .float .f32 (swp nx G (bitsL (cellsN G))).2.2, .int .i64 0] else .tuple #[.agg (Grd zG), .float .f32 0, .int .i64 4]
theorem results_gfn {P : Program} {fn : Func} {p q r : Tmp} {ty : TypeId} {D : TypeDesc} (h : fn.results = #[.cell p ty, .tmp q, .tmp r]) (tmps : Array Value) (w : World) (b : Nat) (G : Gd) (m : Nat) (n : Int)
    (hp : tmps.getD p undef = .pointer (some ⟨b, 0, none⟩)) (hq : tmps.getD q undef = .float .f32 m) (hr : tmps.getD r undef = .int .i64 n) (hc : w.rangeAt b 0 (GrdL G))
    (hu : P.underlying ty = some D) (hd : D.isRow = true) (hi : (P.info? ty).map (·.size) = some 195) :
    (results fn tmps).run P w = .ok (.tuple #[.agg (Grd G), .float .f32 m, .int .i64 n]) w := by
  have hp' : tmps[p]?.getD undef = .pointer (some ⟨b, 0, none⟩) := by simpa using hp
  have hq' : tmps[q]?.getD undef = .float .f32 m := by simpa using hq
  have hr' : tmps[r]?.getD undef = .int .i64 n := by simpa using hr
  have := run_loadVar_mid (P := P) w b 0 ty (GrdL G) D hc hu hd (by rw [GrdL_length]; exact hi)
  simp [results, h, hp', hq', hr', asAddr, this, Grd]

/-- What the sweep in order hands back. -/
def ordV (G : Gd) : Value := if validB G = true then sweptV headO G else .tuple #[.agg (Grd zG), .float .f32 0, .int .i64 1]
theorem sweptV_is (nx : Gd → Nat → Option Nat) (G : Gd) : ∃ (A : Gd) (m : Nat) (n : Int), sweptV nx G = .tuple #[.agg (Grd A), .float .f32 m, .int .i64 n] := by
  unfold sweptV
  split
  · exact ⟨_, _, _, rfl⟩
  · exact ⟨_, _, _, rfl⟩

end

section
open Go Go.RowKit
set_option linter.unusedSimpArgs false
set_option linter.unusedVariables false

theorem new_thereG (t : TypeId) (w : World) : (w.alloc (.cells (Grd zG) t)).there w.heap.size 0 195 := there_row (heap_alloc_last w _) (Grd_size zG)

/-- What a step at once hands back. -/
def stepV (G : Gd) : Value := if validB G = true then sweptV (fun _ k => headO G k) G else .tuple #[.agg (Grd zG), .float .f32 0, .int .i64 1]

end
end Go.Proofs.YtinepldaodadiaaDoor
