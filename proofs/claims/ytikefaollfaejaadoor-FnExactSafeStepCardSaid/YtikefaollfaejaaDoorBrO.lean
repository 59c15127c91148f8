/- What goes out of a cell and what salt comes in: the model's. Conditions: none. -/
import Derived.Test.YtikefaollfaejaaDoorBriV
namespace Go.Proofs.YtikefaollfaejaaDoor
open Go.RowKit Go.Shelf
attribute [local go_sem] Oper.semAt_some run_store_float
set_option linter.unusedSimpArgs false
set_option linter.unusedVariables false

def posO : Option Nat → Bool
  | none => false
  | some b => FloatKind.f32.format.order b 0 == some Ordering.gt
def negO : Option Nat → Bool
  | none => false
  | some b => FloatKind.f32.format.order b 0 == some Ordering.lt
theorem posO_of {r : Nat} {o : Option Nat} (h : num .f32 r = o) : (FloatKind.f32.format.order r 0 == some Ordering.gt) = posO o := by
  subst h
  cases hn : nanK .f32 r
  · rw [num_some hn]; rfl
  · rw [num_none hn, ord_none hn]; rfl
theorem negO_of {r : Nat} {o : Option Nat} (h : num .f32 r = o) : (FloatKind.f32.format.order r 0 == some Ordering.lt) = negO o := by
  subst h
  cases hn : nanK .f32 r
  · rw [num_some hn]; rfl
  · rw [num_none hn, ord_none hn]; rfl
theorem posO_zero : posO (num .f32 0) = false := by decide +kernel
theorem negO_zero : negO (num .f32 0) = false := by decide +kernel
/-- What one side adds to what goes out. -/
def outStep (G : Gd) (k : Nat) (o : Option Nat) (s : Nat) : Option Nat := if posO (flowS G k (s : Int)) = true then fop .f32 .add o (flowS G k (s : Int)) else o
def outL (G : Gd) (k : Nat) (l : List Nat) : Option Nat := l.foldl (outStep G k) (num .f32 0)
theorem outL_snoc (G : Gd) (k : Nat) (l : List Nat) (s : Nat) : outL G k (l ++ [s]) = outStep G k (outL G k l) s := by simp [outL]
/-- What goes out of a cell. -/
def outO (G : Gd) (k : Nat) : Option Nat := if negB (G.g k) = true then fop .f32 .add (outL G k (List.range 4)) (fop .f32 .sub (num .f32 0) (num .f32 (G.g k))) else outL G k (List.range 4)
theorem foldl_side {α : Type} (G : Gd) (k : Nat) (f : α → Nat → α) (h : ∀ (a : α) (s : Nat), nbB G k (s : Int) = false → f a s = a) (a : α) : (sidesL G k).foldl f a = (List.range 4).foldl f a := by
  unfold sidesL sidesTo
  rw [List.foldl_filter]
  congr 1
  funext a s
  cases hn : nbB G k (s : Int)
  · rw [if_neg (by simp), h a s hn]
  · rw [if_pos rfl]
theorem flowS_no {G : Gd} {k s : Nat} (h : nbB G k (s : Int) = false) : flowS G k (s : Int) = num .f32 0 := by simp [flowS, h]
theorem flowS_yes {G : Gd} {k s : Nat} (h : nbB G k (s : Int) = true) : flowS G k (s : Int) = flowO G k (nbN k (s : Int)) := by simp [flowS, h]
theorem outL_sides (G : Gd) (k : Nat) : outL G k (sidesL G k) = outL G k (List.range 4) := foldl_side G k _ (fun a s h => by unfold outStep; rw [flowS_no h, posO_zero]; rfl) _
/-- What one side adds to what comes in. -/
def inStep (B : Brn) (k : Nat) (o : Option Nat) (s : Nat) : Option Nat := if negO (flowS B.G k (s : Int)) = true then fop .f32 .add o (fop .f32 .mul (fop .f32 .sub (num .f32 0) (flowS B.G k (s : Int))) (num .f32 (B.s (nbN k (s : Int))))) else o
def inL (B : Brn) (k : Nat) (l : List Nat) : Option Nat := l.foldl (inStep B k) (num .f32 0)
theorem inL_snoc (B : Brn) (k : Nat) (l : List Nat) (s : Nat) : inL B k (l ++ [s]) = inStep B k (inL B k l) s := by simp [inL]
def posB (x : Nat) : Bool := FloatKind.f32.format.order x 0 == some Ordering.gt
/-- What salt comes in. -/
def inO (B : Brn) (k : Nat) : Option Nat := if posB (B.G.g k) = true then fop .f32 .add (inL B k (List.range 4)) (fop .f32 .mul (num .f32 (B.G.g k)) (num .f32 (B.p k))) else inL B k (List.range 4)
theorem inL_sides (B : Brn) (k : Nat) : inL B k (sidesL B.G k) = inL B k (List.range 4) := foldl_side B.G k _ (fun a s h => by unfold inStep; rw [flowS_no h, negO_zero]; rfl) _
theorem range_snoc (j : Nat) : List.range (j + 1) = List.range j ++ [j] := List.range_succ
theorem outL_ex (G : Gd) (k : Nat) (l : List Nat) : ∃ r, num .f32 r = outL G k l := by
  unfold outL
  suffices h : ∀ (l : List Nat) (o : Option Nat), (∃ r, num .f32 r = o) → ∃ r, num .f32 r = l.foldl (outStep G k) o from h l _ (num_ex _ _)
  intro l
  induction l with
  | nil => intro o h; exact h
  | cons s l ih =>
    intro o h
    refine ih _ ?_
    unfold outStep
    split
    · exact fop_ex _ _ rfl _ _ h (flowS_ex _ _ _)
    · exact h
theorem outO_ex (G : Gd) (k : Nat) : ∃ r, num .f32 r = outO G k := by
  unfold outO
  split
  · exact fop_ex _ _ rfl _ _ (outL_ex _ _ _) (fop_ex _ _ rfl _ _ (num_ex _ _) (num_ex _ _))
  · exact outL_ex _ _ _
theorem inL_ex (B : Brn) (k : Nat) (l : List Nat) : ∃ r, num .f32 r = inL B k l := by
  unfold inL
  suffices h : ∀ (l : List Nat) (o : Option Nat), (∃ r, num .f32 r = o) → ∃ r, num .f32 r = l.foldl (inStep B k) o from h l _ (num_ex _ _)
  intro l
  induction l with
  | nil => intro o h; exact h
  | cons s l ih =>
    intro o h
    refine ih _ ?_
    unfold inStep
    split
    · exact fop_ex _ _ rfl _ _ h (fop_ex _ _ rfl _ _ (fop_ex _ _ rfl _ _ (num_ex _ _) (flowS_ex _ _ _)) (num_ex _ _))
    · exact h
theorem inO_ex (B : Brn) (k : Nat) : ∃ r, num .f32 r = inO B k := by
  unfold inO
  split
  · exact fop_ex _ _ rfl _ _ (inL_ex _ _ _) (fop_ex _ _ rfl _ _ (num_ex _ _) (num_ex _ _))
  · exact inL_ex _ _ _

set_option maxRecDepth 100000 in
set_option maxHeartbeats 4000000 in
theorem l05Out_any (B : Brn) (k : Nat) (hk : k < 64) (hv : validB B.G = true) (p : Nat) (w : World) (hB : BrnAt w p 0 B) (hG : BrnOk B) :
    Calls Tryd.prog 10 #[.pointer (some ⟨p, 0, none⟩), .int .i64 k] w (GivesN (outO B.G k) w) := by
  have hg := hB.g.g
  rw [Nat.zero_add] at hg
  have cg := Grd_fld hg k hk
  have cp := Grd_fld hB.p0 k hk
  have Cs := Lib.hid (Grd_fld hB.s0)
  have HB := Lib.hid hB
  have HG := Lib.hid hG
  have HV := Lib.hid hv
  have hk2 : (k : Int) < 64 := by omega
  clear hB hG hv hg
  go_enter Tryd.func10, Tryd.ntmps10
  go_wp2
  go_loopw [5, 6] (fun s i wr => ∃ j : Nat, j ≤ 4 ∧ i = .int .i64 j ∧ (∃ b : Nat, s = .float .f32 b ∧ Hid (num .f32 b = outL B.G k (List.range j))) ∧ Hid (Quiet w wr)) (fun s i _ => 4 - (intOf i).toNat)
  case atStart => exact ⟨0, by omega, rfl, ⟨0, rfl, rfl⟩, Lib.hid (Quiet.refl _)⟩
  case round =>
    obtain ⟨j, hj, rfl, ⟨b, rfl, hb⟩, HQ⟩ := hrel
    by_cases hj4 : j < 4
    · have hj2 : (j : Int) < 4 := by omega
      have hsd : sideB (j : Int) = true := by unfold sideB; simp; omega
      cases hp : posO (flowS B.G k (j : Int))
      · have E := Lib.hid (show outL B.G k (List.range (j + 1)) = outL B.G k (List.range j) by rw [range_snoc, outL_snoc]; unfold outStep; rw [hp]; rfl)
        have Hp := Lib.hid hp
        clear hp
        go_wp2_with (go_at_call 24; refine (l01Flow_any B.G k hk HV.out j hsd _ _ (HQ.out.grd HB.out.g) HG.out.g).mono ?_; rintro e w1 ⟨r, rfl, hr, hq⟩; have hs := (posO_of hr).trans Hp.out; have HR := Lib.hid hr; have HQ1 := Lib.hid (HQ.out.trans hq); clear hr hq)
        go_roundw
        case rel => exact ⟨j + 1, by omega, by go_num, ⟨b, rfl, by rw [E.out]; exact hb.out⟩, HQ1⟩
        case measure => simp [intOf]; omega
      · have E := Lib.hid (show outL B.G k (List.range (j + 1)) = fop .f32 .add (outL B.G k (List.range j)) (flowS B.G k (j : Int)) by rw [range_snoc, outL_snoc]; unfold outStep; rw [hp]; rfl)
        have Hp := Lib.hid hp
        clear hp
        go_wp2_with (first | (go_at_call 24; refine (l01Flow_any B.G k hk HV.out j hsd _ _ (HQ.out.grd HB.out.g) HG.out.g).mono ?_; rintro e w1 ⟨r, rfl, hr, hq⟩; have hs := (posO_of hr).trans Hp.out; have HR := Lib.hid hr; have HQ1 := Lib.hid (HQ.out.trans hq); clear hr hq) | (refine wpList_float rfl _ _ _ _ _ rfl rfl .f32 _ _ rfl rfl ?_; intro r2 F1n F1h; have F1 := Lib.hid F1h; clear  F1h))
        go_roundw
        case rel => exact ⟨j + 1, by omega, by go_num, ⟨r2, rfl, by rw [E.out]; exact F1.out.trans (fop_eq hb.out HR.out)⟩, Lib.hid (HQ1.out.drewN _)⟩
        case measure => simp [intOf]; omega
    · obtain rfl : j = 4 := by omega
      have cg := (HQ.out.cell _).trans cg
      have cp := (HQ.out.cell _).trans cp
      cases hn : negB (B.G.g k)
      · have E := Lib.hid (show outO B.G k = outL B.G k (List.range 4) by unfold outO; rw [hn]; rfl)
        unfold negB at hn
        go_wp2
        go_ret
        exact ⟨b, rfl, by rw [E.out]; exact hb.out, HQ.out⟩
      · have E := Lib.hid (show outO B.G k = fop .f32 .add (outL B.G k (List.range 4)) (fop .f32 .sub (num .f32 0) (num .f32 (B.G.g k))) by unfold outO; rw [hn]; rfl)
        unfold negB at hn
        have tk : True := trivial
        go_wp2_with (first | (have _t := tk; refine wpList_float rfl _ _ _ _ _ rfl rfl .f32 _ _ rfl rfl ?_; intro r1 F1n F1h; have F1 := Lib.hid F1h; clear tk F1h) | (refine wpList_float rfl _ _ _ _ _ rfl rfl .f32 _ _ rfl rfl ?_; intro r2 F2n F2h; have F2 := Lib.hid F2h; clear  F2h))
        go_ret
        exact ⟨r2, rfl, by rw [E.out]; exact F2.out.trans (fop_eq hb.out F1.out), HQ.out.drewN _⟩
end Go.Proofs.YtikefaollfaejaaDoor
