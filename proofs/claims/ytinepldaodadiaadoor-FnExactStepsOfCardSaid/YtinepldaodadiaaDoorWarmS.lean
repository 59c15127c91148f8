/- WarmUp: the model's and the program's. Condition (the program's): the table of math/bits is laid. -/
import Derived.Test.YtinepldaodadiaaDoorLeakI
namespace Go.Proofs.YtinepldaodadiaaDoor
open Go.RowKit Go.Shelf
attribute [local go_sem] Oper.semAt_some run_store_float
set_option linter.unusedSimpArgs false
set_option linter.unusedVariables false

/-- One head at the cells of a list. -/
def wrm (G : Gd) (h : Nat) (l : List Nat) : Gd := { G with h := fun i => if i ∈ l then h else G.h i }
theorem wrm_nil (G : Gd) (h : Nat) : wrm G h [] = G := by simp [wrm]
theorem wrm_snoc (G : Gd) (h : Nat) (l : List Nat) (k : Nat) : { wrm G h l with h := upd (wrm G h l).h k h } = wrm G h (l ++ [k]) := by
  have e : upd (wrm G h l).h k h = fun i => if i ∈ l ++ [k] then h else G.h i := by
    funext i
    unfold upd wrm
    by_cases e : i = k
    · subst e; simp
    · simp [e]
  rw [e]
  rfl
theorem ok_wrm {G : Gd} {h : Nat} {l : List Nat} (hG : GdOk G) (_hh : FloatKind.f32.has h) : GdOk (wrm G h l) := ⟨hG.wide, hG.high, hG.x, hG.c, hG.g, fun _ _ => trivial⟩
/-- The cells that are not fixed, among the first ones. -/
def frTo (G : Gd) (k : Nat) : List Nat := (List.range k).filter fun i => isB G i && !G.x.toNat.testBit i
theorem frTo_yes {G : Gd} {k : Nat} (h1 : isB G k = true) (h2 : G.x.toNat.testBit k = false) : frTo G (k + 1) = frTo G k ++ [k] := by
  unfold frTo
  rw [List.range_succ, List.filter_append, List.filter_cons, if_pos (by rw [h1, h2]; rfl), List.filter_nil]
theorem frTo_no {G : Gd} {k : Nat} (h : (isB G k && !G.x.toNat.testBit k) = false) : frTo G (k + 1) = frTo G k := by
  unfold frTo
  rw [List.range_succ, List.filter_append, List.filter_cons, if_neg (by rw [h]; decide), List.filter_nil, List.append_nil]
def warmN (G : Gd) (h : Nat) : Int := if validB G = true then (if plainB h = true then 0 else 2) else 1
def warmG (G : Gd) (h : Nat) : Gd := if warmN G h = 0 then wrm G h (frTo G 64) else zG
theorem warm_is (G : Gd) (h : Nat) : ∃ (A : Gd) (n : Int), GN (warmG G h) (warmN G h) = .tuple #[.agg (Grd A), .int .i64 n] := ⟨_, _, rfl⟩

end Go.Proofs.YtinepldaodadiaaDoor
