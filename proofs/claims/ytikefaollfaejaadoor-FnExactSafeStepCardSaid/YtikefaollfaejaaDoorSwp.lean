/- What a sweep reckons: the ground, whether all heads so far are plain, the greatest change. No condition. -/
import Derived.Test.YtikefaollfaejaaDoorSweep
import Derived.Test.YtikefaollfaejaaDoorWorstS
import Derived.Test.YtikefaollfaejaaDoorPlain
namespace Go.Proofs.YtikefaollfaejaaDoor
open Go Go.RowKit
set_option linter.unusedSimpArgs false

def plainO : Option Nat → Bool
  | some b => plainB b
  | none => false
/-- A ground with another head. -/
def putHd (H : Gd) (k b : Nat) : Gd := { H with h := upd H.h k b }
/-- The greater one of two sizes, as max says. -/
def maxN (x y : Nat) : Nat := if FloatKind.f32.format.order x y = some Ordering.lt then y else x
/-- The size of a change. -/
def chgN (x y : Nat) : Nat := absN ((fop .f32 .sub (num .f32 x) (num .f32 y)).getD 0)
/-- One cell's turn. -/
def swStep (nx : Gd → Nat → Option Nat) (s : Gd × Bool × Nat) (k : Nat) : Gd × Bool × Nat :=
  (putHd s.1 k ((nx s.1 k).getD 0), s.2.1 && plainO (nx s.1 k), maxN s.2.2 (chgN ((nx s.1 k).getD 0) (s.1.h k)))
def swp (nx : Gd → Nat → Option Nat) (G : Gd) (l : List Nat) : Gd × Bool × Nat := l.foldl (swStep nx) (G, true, 0)
theorem swp_snoc (nx : Gd → Nat → Option Nat) (G : Gd) (l : List Nat) (k : Nat) : swp nx G (l ++ [k]) = swStep nx (swp nx G l) k := by simp [swp]

theorem swFold_no (nx : Gd → Nat → Option Nat) : ∀ (l : List Nat) (s : Gd × Bool × Nat), s.2.1 = false → (l.foldl (swStep nx) s).2.1 = false
  | [], s, h => h
  | k :: l, s, h => swFold_no nx l _ (by simp [swStep, h])
/-- A head that is not plain is not forgotten. -/
theorem swp_no (nx : Gd → Nat → Option Nat) (G : Gd) {l L : List Nat} (hp : l <+: L) (h : (swp nx G l).2.1 = false) : (swp nx G L).2.1 = false := by
  obtain ⟨r, rfl⟩ := hp
  unfold swp at h ⊢
  rw [List.foldl_append]
  exact swFold_no nx r _ h

theorem putHd_is (H : Gd) (k b i : Nat) : isB (putHd H k b) i = isB H i := rfl
/-- A ground stays valid if a cell gets a head that is plain. -/
theorem valid_put {H : Gd} {k b : Nat} (hv : validB H = true) (hk : isB H k = true) (hb : plainB b = true) : validB (putHd H k b) = true := by
  simp only [validB, Bool.and_eq_true] at hv ⊢
  obtain ⟨h1, h2, h3, h4, h5, h6, h7⟩ := hv
  refine ⟨h1, h2, h3, ?_, h5, h6, h7⟩
  rw [fieldB, List.all_eq_true] at h4 ⊢
  intro i hi
  have h := h4 i hi
  by_cases e : i = k
  · subst e
    have hx : isB (putHd H i b) i = true := hk
    have hy : (putHd H i b).h i = b := by simp [putHd, upd]
    simp [okAt, hx, hy, hb]
  · have hy : (putHd H k b).h i = H.h i := by simp [putHd, upd, e]
    have hx : isB (putHd H k b) i = isB H i := rfl
    simpa [okAt, hx, hy] using h

theorem ok_put {H : Gd} {k b : Nat} (hG : GdOk H) : GdOk (putHd H k b) := ⟨hG.wide, hG.high, hG.x, hG.c, hG.g, fun _ _ => trivial⟩

theorem swFold_ext (nx : Gd → Nat → Option Nat) : ∀ (l : List Nat) (s : Gd × Bool × Nat), (l.foldl (swStep nx) s).1.wide = s.1.wide ∧ (l.foldl (swStep nx) s).1.high = s.1.high ∧ (l.foldl (swStep nx) s).1.x = s.1.x ∧ (l.foldl (swStep nx) s).1.c = s.1.c ∧ (l.foldl (swStep nx) s).1.g = s.1.g
  | [], _ => ⟨rfl, rfl, rfl, rfl, rfl⟩
  | _ :: l, _ => swFold_ext nx l _
theorem swp_isB (nx : Gd → Nat → Option Nat) (G : Gd) (l : List Nat) (i : Nat) : isB (swp nx G l).1 i = isB G i := by
  obtain ⟨h1, h2, _⟩ := swFold_ext nx l (G, true, 0)
  simp only [isB, swp, h1, h2]
theorem swFold_valid (nx : Gd → Nat → Option Nat) : ∀ (l : List Nat) (s : Gd × Bool × Nat), validB s.1 = true → GdOk s.1 → (∀ k ∈ l, k < 64 ∧ isB s.1 k = true) → (l.foldl (swStep nx) s).2.1 = true →
    validB (l.foldl (swStep nx) s).1 = true ∧ GdOk (l.foldl (swStep nx) s).1
  | [], s, hv, hG, _, _ => ⟨hv, hG⟩
  | k :: l, s, hv, hG, hl, ho => by
    rw [List.foldl_cons] at ho ⊢
    cases hs : (swStep nx s k).2.1 with
    | false => rw [swFold_no nx l _ hs] at ho; cases ho
    | true =>
      simp only [swStep, Bool.and_eq_true] at hs
      cases hb : nx s.1 k with
      | none => rw [hb] at hs; simp [plainO] at hs
      | some b =>
        rw [hb] at hs
        have e : (swStep nx s k).1 = putHd s.1 k b := by simp [swStep, hb]
        refine swFold_valid nx l _ ?_ ?_ ?_ ho
        · rw [e]; exact valid_put hv (hl k (by simp)).2 hs.2
        · rw [e]; exact ok_put hG
        · intro i hi; rw [e, putHd_is]; exact hl i (by simp [hi])
/-- As long as all heads are plain, the ground is valid. -/
theorem swp_valid (nx : Gd → Nat → Option Nat) {G : Gd} (hv : validB G = true) (hG : GdOk G) (l : List Nat) (hl : ∀ k ∈ l, k < 64 ∧ isB G k = true) (ho : (swp nx G l).2.1 = true) : validB (swp nx G l).1 = true ∧ GdOk (swp nx G l).1 :=
  swFold_valid nx l _ hv hG hl ho

/-- max of two sizes that are no NaN. -/
theorem max_sizes {P : Program} (w : World) (ts : Array TypeId) (t : TypeId) (x y : Nat) (hx : nanK .f32 x = false) (hy : nanK .f32 y = false) (hs : x < 2147483648) : (Builtin.max_ ts t #[.float .f32 x, .float .f32 y]).run P w = .ok (.float .f32 (maxN x y)) w := by
  have hneg : (FloatKind.f32.decode x).neg = false := by
    have h0 : x / FloatKind.f32.format.signWeight % 2 = 0 := by
      rw [show FloatKind.f32.format.signWeight = 2147483648 by decide +kernel]
      omega
    show (FloatKind.f32.format.read x).neg = false
    unfold Ieee.Format.read
    simp only [h0]
    repeat' split
    all_goals simp [Ieee.Datum.neg]
  obtain ⟨o, ho⟩ : ∃ o, FloatKind.f32.format.order x y = some o := by
    rw [nanK_read] at hx hy
    unfold Ieee.Format.order
    cases h1 : FloatKind.f32.format.read x <;> cases h2 : FloatKind.f32.format.read y <;> simp_all [Ieee.Datum.isNaN, Ieee.Datum.order]
  unfold Builtin.max_ maxN
  simp only [List.foldlM, Builtin.max2, ho]
  cases o <;> simp [hneg, go_sem]
end Go.Proofs.YtikefaollfaejaaDoor
