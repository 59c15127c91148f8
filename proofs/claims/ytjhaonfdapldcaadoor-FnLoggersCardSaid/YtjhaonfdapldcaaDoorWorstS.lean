/- WorstBalance: the model's. No condition. -/
import Derived.Test.YtjhaonfdapldcaaDoorLeakS
namespace Go.Proofs.YtjhaonfdapldcaaDoor
open Go.RowKit Go.Shelf
attribute [local go_sem] Oper.semAt_some run_store_float
set_option linter.unusedSimpArgs false
set_option linter.unusedVariables false

/-- The size of a number, as bits. -/
def szB (x : Nat) : Nat := if nanK .f32 x = true then x else absN x
theorem szB_num (x : Nat) : num .f32 (szB x) = sizeO (num .f32 x) := by
  unfold szB
  cases hn : nanK .f32 x
  · rw [if_neg (by simp), num_some hn]
    have h2 : nanK .f32 (absN x) = false := by
      rw [nanK_read] at hn ⊢
      show (Ieee.single.read (absN x)).isNaN = false
      have hn' : (Ieee.single.read x).isNaN = false := hn
      rw [absN_read]
      cases h : Ieee.single.read x <;> simp [h, Ieee.Datum.isNaN] at hn' ⊢
    rw [num_some h2]
    rfl
  · rw [if_pos rfl, num_none hn]; rfl
theorem size_ex (x : Nat) : ∃ r, num .f32 r = sizeO (num .f32 x) := ⟨szB x, szB_num x⟩
/-- The size of one number of a field is greater than that of another. -/
def gtS (f : Nat → Nat) (i j : Nat) : Bool := FloatKind.f32.format.order (szB (f i)) (szB (f j)) == some Ordering.gt
theorem gtS_is {f : Nat → Nat} {i j r s : Nat} (hr : num .f32 r = sizeO (num .f32 (f i))) (hs : num .f32 s = sizeO (num .f32 (f j))) : (FloatKind.f32.format.order r s == some Ordering.gt) = gtS f i j := by
  unfold gtS
  rw [order_num (hr.trans (szB_num _).symm) (hs.trans (szB_num _).symm)]
theorem gtS_self (f : Nat → Nat) (i : Nat) : gtS f i i = false := by
  unfold gtS Ieee.Format.order
  cases FloatKind.f32.format.read (szB (f i)) <;> simp [Ieee.Datum.order, compare, compareOfLessAndEq]
/-- The first one with the greatest size. -/
def wst (f : Nat → Nat) (a : Nat) (l : List Nat) : Nat := l.foldl (fun a i => if gtS f i a = true then i else a) a
theorem wst_snoc (f : Nat → Nat) (a : Nat) (l : List Nat) (i : Nat) : wst f a (l ++ [i]) = if gtS f i (wst f a l) = true then i else wst f a l := by unfold wst; rw [List.foldl_append]; rfl
/-- The cells that are not fixed, among the first ones. -/
def freeTo (G : Gd) (k : Nat) : List Nat := (List.range k).filter fun i => isB G i && !G.x.toNat.testBit i
theorem freeTo_yes {G : Gd} {k : Nat} (h1 : isB G k = true) (h2 : G.x.toNat.testBit k = false) : freeTo G (k + 1) = freeTo G k ++ [k] := by
  unfold freeTo
  rw [List.range_succ, List.filter_append, List.filter_cons, if_pos (by rw [h1, h2]; rfl), List.filter_nil]
theorem freeTo_no {G : Gd} {k : Nat} (h : (isB G k && !G.x.toNat.testBit k) = false) : freeTo G (k + 1) = freeTo G k := by
  unfold freeTo
  rw [List.range_succ, List.filter_append, List.filter_cons, if_neg (by rw [h]; decide), List.filter_nil, List.append_nil]
/-- The worst one so far, or -1. -/
def wsN (f : Nat → Nat) : List Nat → Int
  | [] => -1
  | a :: r => (wst f a r : Int)
theorem wsN_first (f : Nat → Nat) (i : Nat) : wsN f ([] ++ [i]) = (i : Int) := rfl
theorem wsN_snoc (f : Nat → Nat) (l : List Nat) (i j : Nat) (h : wsN f l = (j : Int)) : wsN f (l ++ [i]) = if gtS f i j = true then (i : Int) else (j : Int) := by
  cases l with
  | nil => exact absurd h (by simp [wsN])
  | cons a r =>
    simp only [wsN] at h
    have e : wst f a r = j := by omega
    simp only [List.cons_append, wsN, wst_snoc, e]
    split <;> rfl
theorem wsN_neg {f : Nat → Nat} {l : List Nat} (h : wsN f l = -1) : l = [] := by
  cases l with
  | nil => rfl
  | cons a r => exact absurd h (by simp [wsN])
theorem wst_mem (f : Nat → Nat) : ∀ (l : List Nat) (a : Nat), wst f a l = a ∨ wst f a l ∈ l
  | [], _ => .inl rfl
  | i :: l, a => by
    show wst f (if gtS f i a = true then i else a) l = a ∨ wst f (if gtS f i a = true then i else a) l ∈ i :: l
    split
    · rcases wst_mem f l i with h | h
      · exact .inr (by rw [h]; simp)
      · exact .inr (by simp [h])
    · rcases wst_mem f l a with h | h
      · exact .inl h
      · exact .inr (by simp [h])
theorem wsN_range {f : Nat → Nat} {G : Gd} {k : Nat} (hk : k ≤ 64) : wsN f (freeTo G k) = -1 ∨ ∃ j : Nat, wsN f (freeTo G k) = (j : Int) ∧ j < 64 := by
  have hm : ∀ i ∈ freeTo G k, i < 64 := fun i hi => by
    have := List.mem_filter.1 hi
    have h2 : i < k := by simpa using this.1
    omega
  generalize freeTo G k = l at hm
  cases l with
  | nil => exact .inl rfl
  | cons a r =>
    refine .inr ⟨wst f a r, rfl, ?_⟩
    rcases wst_mem f r a with h | h
    · rw [h]; exact hm a (by simp)
    · exact hm _ (by simp [h])
theorem word_lt (s : Bool) (r : Nat) (h : r ≤ 2139095040) : Ieee.single.word s r < 4294967296 := by
  unfold Ieee.Format.word
  rw [s1]
  cases s <;> simp <;> omega
theorem nearest_lt (s : Bool) (m : Nat) (i : Int) : Ieee.single.nearest s m i < 4294967296 := by
  unfold Ieee.Format.nearest
  split
  · exact word_lt _ _ (by omega)
  · exact word_lt _ _ (by rw [s2]; exact Nat.min_le_right _ _)
theorem write_lt (d : Ieee.Datum) (h : d.isNaN = false) : Ieee.single.write d < 4294967296 := by
  cases d with
  | number s m i => exact nearest_lt s m i
  | infinity s => exact word_lt s _ (by rw [s2]; omega)
  | nan s f => simp [Ieee.Datum.isNaN] at h
theorem floatBits_lt {op : BinOp} {x y r : Nat} (h : floatBits op .f32 x y = some r) : r < 4294967296 := by
  unfold floatBits at h
  have hf : FloatKind.f32.format = Ieee.single := rfl
  split at h
  · simp only [Ieee.Format.add, Option.map_eq_some_iff] at h
    obtain ⟨d, hd, rfl⟩ := h
    exact write_lt d (sum_notnan hd)
  · simp only [Ieee.Format.sub, Option.map_eq_some_iff] at h
    obtain ⟨d, hd, rfl⟩ := h
    exact write_lt d (sum_notnan hd)
  · simp only [Ieee.Format.mul, Option.map_eq_some_iff] at h
    obtain ⟨d, hd, rfl⟩ := h
    exact write_lt d (product_notnan hd)
  · simp only [Ieee.Format.div, Option.map_eq_some_iff] at h
    obtain ⟨d, hd, rfl⟩ := h
    exact write_lt d (quotient_notnan hd)
  · cases h
theorem fop_lt {op : BinOp} {x y : Option Nat} {r : Nat} (h : fop .f32 op x y = some r) : r < 4294967296 := by
  unfold fop at h
  cases x with
  | none => cases h
  | some a =>
    cases y with
    | none => cases h
    | some b => exact floatBits_lt h
theorem num_lt {b r : Nat} (hb : b < 4294967296) (h : num .f32 b = some r) : r < 4294967296 := by
  obtain ⟨rfl, _⟩ := num_eq_some h
  exact hb
theorem has_lt {b : Nat} (h : FloatKind.f32.has b) : b < 4294967296 := h
theorem balTo_lt {G : Gd} (hG : GdOk G) {i : Nat} (hi : i < 64) : ∀ (n r : Nat), balTo G i n = some r → r < 4294967296
  | 0, r, h => num_lt (has_lt (hG.g i hi)) h
  | n + 1, r, h => by
    unfold balTo at h
    split at h
    · exact fop_lt h
    · exact balTo_lt hG hi n r h
theorem balF_lt {G : Gd} (hG : GdOk G) {i : Nat} (hi : i < 64) : balF G i < 4294967296 := by
  unfold balF
  split
  · cases h : balO G i with
    | none => simp
    | some r => exact balTo_lt hG hi 4 r h
  · omega
def IFI (a : Int) (b : Nat) (n : Int) : Value := .tuple #[.int .i64 a, .float .f32 b, .int .i64 n]
/-- What WorstBalance says. -/
def worstV (G : Gd) : Value := if validB G = true then (if allFin G = true then (if wsN (balF G) (freeTo G 64) = -1 then IFI 0 0 6 else IFI (wsN (balF G) (freeTo G 64)) (balF G (wsN (balF G) (freeTo G 64)).toNat) 0) else IFI 0 0 4) else IFI 0 0 1
theorem worstV_is (G : Gd) : ∃ (a : Int) (b : Nat) (n : Int), worstV G = .tuple #[.int .i64 a, .float .f32 b, .int .i64 n] := by
  unfold worstV
  split
  · split
    · split <;> exact ⟨_, _, _, rfl⟩
    · exact ⟨_, _, _, rfl⟩
  · exact ⟨_, _, _, rfl⟩

end Go.Proofs.YtjhaonfdapldcaaDoor
