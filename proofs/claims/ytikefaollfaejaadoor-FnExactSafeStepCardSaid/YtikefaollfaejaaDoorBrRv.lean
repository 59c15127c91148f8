/- ReverseBrine: both sides; ifValidBrine. Condition (the program's): the table of math/bits is laid. -/
import Derived.Test.YtikefaollfaejaaDoorBrSc
import Derived.Test.YtikefaollfaejaaDoorPlain
namespace Go.Proofs.YtikefaollfaejaaDoor
open Go.RowKit Go.Shelf
attribute [local go_sem] Oper.semAt_some run_store_float
set_option linter.unusedSimpArgs false
set_option linter.unusedVariables false

theorem ret_BN {fn : Func} {p q : Tmp} (h : fn.results = #[.cell p 36, .tmp q]) {tmps : Array Value} {w : World} {b : Nat} {B : Brn} {n : Int}
    (hp : tmps.getD p undef = .pointer (some ⟨b, 0, none⟩)) (hq : tmps.getD q undef = .int .i64 n) (hc : w.rangeAt b 0 (BrnL B)) : (results fn tmps).run Tryd.prog w = .ok (BN B n) w := by
  have hp' : tmps[p]?.getD undef = .pointer (some ⟨b, 0, none⟩) := by simpa using hp
  have hq' : tmps[q]?.getD undef = .int .i64 n := by simpa using hq
  simp [results, h, hp', hq', asAddr, run_loadVar_mid w b 0 36 (BrnL B) _ hc Tryd.underlying36 rfl (by rw [BrnL_length]; exact infoBrine)]
  rfl
def madeB (C : Brn) : Value := if brnB C = true then BN C 0 else BN zB 4
theorem madeB_is (C : Brn) : ∃ (A : Brn) (n : Int), madeB C = .tuple #[.agg (BrnA A), .int .i64 n] := by
  unfold madeB
  split <;> exact ⟨_, _, rfl⟩

/-- 0 less a number. -/
def negN (b : Nat) : Nat := (fop .f32 .sub (num .f32 0) (num .f32 b)).getD 0
theorem plain_zero : plainB 0 = true := by decide +kernel
theorem neg_is {b : Nat} (h : plainB b = true) : fop .f32 .sub (num .f32 0) (num .f32 b) = some (negN b) ∧ negN b < 4294967296 := by
  obtain ⟨r, hr, _, hl⟩ := plain_sub plain_zero h
  unfold negN
  rw [hr]
  exact ⟨rfl, hl⟩
theorem neg_num {b r : Nat} (h : plainB b = true) (hr : num .f32 r = fop .f32 .sub (num .f32 0) (num .f32 b)) : r = negN b := by
  rw [(neg_is h).1] at hr
  exact (num_eq_some hr).1
/-- The heads of some cells and the gains of some have changed their sign. -/
def rvB (B : Brn) (lh lg : List Nat) : Brn := { B with G := { B.G with h := fun i => if i ∈ lh then negN (B.G.h i) else B.G.h i, g := fun i => if i ∈ lg then negN (B.G.g i) else B.G.g i } }
theorem rv_fun (f : Nat → Nat) (l : List Nat) (k : Nat) : upd (fun i => if i ∈ l then negN (f i) else f i) k (negN (f k)) = fun i => if i ∈ l ++ [k] then negN (f i) else f i := by
  funext i
  unfold upd
  by_cases e : i = k
  · subst e; simp
  · simp [e]
theorem rvB_h (B : Brn) (lh lg : List Nat) (k : Nat) : { rvB B lh lg with G := { (rvB B lh lg).G with h := upd (rvB B lh lg).G.h k (negN (B.G.h k)) } } = rvB B (lh ++ [k]) lg := by
  unfold rvB
  rw [rv_fun]
theorem rvB_g (B : Brn) (lh lg : List Nat) (k : Nat) : { rvB B lh lg with G := { (rvB B lh lg).G with g := upd (rvB B lh lg).G.g k (negN (B.G.g k)) } } = rvB B lh (lg ++ [k]) := by
  unfold rvB
  rw [rv_fun]
theorem rvB_nil (B : Brn) : rvB B [] [] = B := by simp [rvB]
theorem rvB_ok {B : Brn} {lh lg : List Nat} (hG : BrnOk B) (hl : ∀ i ∈ lg, plainB (B.G.g i) = true) : BrnOk (rvB B lh lg) :=
  ⟨⟨hG.g.wide, hG.g.high, hG.g.x, hG.g.c, fun i hi => by
    unfold rvB
    dsimp only
    split
    · next h => exact (neg_is (hl i h)).2
    · exact hG.g.g i hi, fun _ _ => trivial⟩, hG.s, hG.p, hG.r⟩
theorem cell_plain {G : Gd} {k : Nat} (hv : validB G = true) (hk : k < 64) (hi : isB G k = true) : plainB (G.g k) = true ∧ plainB (G.h k) = true := by
  rw [validB_eq] at hv
  simp only [Bool.and_eq_true] at hv
  have h := (List.all_eq_true.1 hv.2.2.2.1) k (by simpa using hk)
  rw [hi] at h
  simp only [Bool.not_true, Bool.false_or] at h
  unfold cellOk at h
  simp only [Bool.and_eq_true] at h
  exact ⟨h.2.2.1, h.2.2.2⟩
theorem not_mem_isL {G : Gd} {k : Nat} : ¬ k ∈ isL G k := by simp [isL]
def revB (B : Brn) (k : Nat) : Brn := rvB B (isL B.G k) (isL B.G k)
def revV (B : Brn) : Value := if brnB B = true then madeB (revB B 64) else BN zB 1
theorem revV_is (B : Brn) : ∃ (A : Brn) (n : Int), revV B = .tuple #[.agg (BrnA A), .int .i64 n] := by
  unfold revV
  split
  · exact madeB_is _
  · exact ⟨_, _, rfl⟩
theorem revB_ok {B : Brn} (hG : BrnOk B) (hv : validB B.G = true) (k : Nat) (hk : k ≤ 64) : BrnOk (revB B k) := rvB_ok hG fun i hi => (cell_plain hv (isL_lt hk i hi) (List.mem_filter.1 hi).2).1

theorem rv_next {B C : Brn} {l : List Nat} {i r q : Nat} (hv : validB B.G = true) (hi : i < 64) (hb : isB B.G i = true) (hC : l.Nodup → C = rvB B l l)
    (hr : num .f32 r = fop .f32 .sub (num .f32 0) (num .f32 (C.G.h i))) (hq : num .f32 q = fop .f32 .sub (num .f32 0) (num .f32 (C.G.g i))) (hn : (l ++ [i]).Nodup) :
    { C with G := { C.G with h := upd C.G.h i r, g := upd C.G.g i q } } = rvB B (l ++ [i]) (l ++ [i]) := by
  rw [List.nodup_append] at hn
  obtain ⟨h1, _, h3⟩ := hn
  have hni : ¬ i ∈ l := fun hm => (h3 i hm i (by simp)) rfl
  have pl := cell_plain hv hi hb
  have e := hC h1
  subst e
  have eh : (rvB B l l).G.h i = B.G.h i := if_neg hni
  have eg : (rvB B l l).G.g i = B.G.g i := if_neg hni
  rw [eh] at hr
  rw [eg] at hq
  have e1 := neg_num pl.2 hr
  have e2 := neg_num pl.1 hq
  subst e1 e2
  rw [← rvB_g B (l ++ [i]) l i, ← rvB_h B l l i]
theorem bitsL_once (x : Nat) : (bitsL x).Nodup := List.Pairwise.filter _ List.nodup_range

end Go.Proofs.YtikefaollfaejaaDoor
