/- A value that fits the type of a ground is a ground's. No condition. -/
import Derived.Test.YtcfkkceidlpdkaaDoorGrd
import Derived.Deep.RegionHeld3
namespace Go.Proofs.YtcfkkceidlpdkaaDoor
open Go.RowKit
set_option maxRecDepth 100000

/-- The numbers of a ground fit their kinds. -/
structure GdOk (G : Gd) : Prop where
  wide : IntKind.i8.has G.wide
  high : IntKind.i8.has G.high
  x : IntKind.u64.has G.x
  c : ∀ i, i < 64 → FloatKind.f32.has (G.c i)
  g : ∀ i, i < 64 → FloatKind.f32.has (G.g i)
  h : ∀ i, i < 64 → FloatKind.f32.has (G.h i)

theorem typesG : Tryd.prog.cellTypes Tryd.prog.depth 27 = some (22 :: 22 :: (List.replicate 192 23 ++ [25])) := by kernel_rfl
theorem cellsG : Tryd.prog.cellsOf 27 = 195 := by kernel_rfl

theorem cell_i8 {W : World} {r : Reach} {base : Nat} {v : Value} (h : Cell.okWide Tryd.prog W r base 22 v) : ∃ n, v = .int .i8 n ∧ IntKind.i8.has n := by
  simp only [Cell.okWide, Tryd.underlying22] at h
  cases v <;> simp_all [Cell.ok]
theorem cell_u64 {W : World} {r : Reach} {base : Nat} {v : Value} (h : Cell.okWide Tryd.prog W r base 25 v) : ∃ n, v = .int .u64 n ∧ IntKind.u64.has n := by
  simp only [Cell.okWide, Tryd.underlying25] at h
  cases v <;> simp_all [Cell.ok]
theorem cell_f32 {W : World} {r : Reach} {base : Nat} {v : Value} (h : Cell.okWide Tryd.prog W r base 23 v) : ∃ n, v = .float .f32 n ∧ FloatKind.f32.has n := by
  simp only [Cell.okWide, Tryd.underlying23] at h
  cases v <;> simp_all [Cell.ok]
theorem mid_len (n a b c d : Nat) : (a :: b :: (List.replicate n c ++ [d])).length = n + 1 + 1 + 1 := by simp
theorem mid_at (n i a b c d : Nat) (h : i < n) : (a :: b :: (List.replicate n c ++ [d]))[2 + i]? = some c := by
  rw [show 2 + i = i + 1 + 1 by omega, List.getElem?_cons_succ, List.getElem?_cons_succ, List.getElem?_append_left (by simpa using h)]
  simp [h]
theorem mid_last (n a b c d : Nat) : (a :: b :: (List.replicate n c ++ [d]))[n + 1 + 1]? = some d := by
  rw [List.getElem?_cons_succ, List.getElem?_cons_succ, List.getElem?_append_right (by simp)]
  simp

theorem okWide_grd {W : World} {base : Nat} {v : Value} (h : Value.okWide Tryd.prog W .any base 27 v) : ∃ G, v = .agg (Grd G) ∧ GdOk G := by
  simp only [Value.okWide, Tryd.underlying27] at h
  obtain ⟨cs, rfl, hsz, ts, hts, _, hc⟩ := h
  rw [typesG] at hts
  obtain rfl := Option.some.inj hts
  rw [cellsG] at hsz
  have hlen : (22 :: 22 :: (List.replicate 192 23 ++ [(25 : Nat)])).length = 195 := mid_len 192 _ _ _ _
  have at' : ∀ i u, i < 195 → (22 :: 22 :: (List.replicate 192 23 ++ [(25 : Nat)]))[i]? = some u → ∃ v, cs[i]? = some v ∧ Cell.okWide Tryd.prog W .any base u v := fun i u hi hu => by
    have hv : cs[i]? = some cs[i] := Array.getElem?_eq_getElem (by omega)
    obtain ⟨u', hu', ho⟩ := hc i _ hv
    rw [hlen, Nat.mod_eq_of_lt hi, hu] at hu'
    obtain rfl := Option.some.inj hu'
    exact ⟨_, hv, ho⟩
  obtain ⟨v0, h0, o0⟩ := at' 0 _ (by omega) rfl
  obtain ⟨wide, rfl, kw⟩ := cell_i8 o0
  obtain ⟨v1, h1, o1⟩ := at' 1 _ (by omega) rfl
  obtain ⟨high, rfl, kh⟩ := cell_i8 o1
  obtain ⟨v2, h2, o2⟩ := at' 194 _ (by omega) (mid_last 192 _ _ _ _)
  obtain ⟨x, rfl, kx⟩ := cell_u64 o2
  have hf : ∀ i, ∃ b, i < 192 → cs[2 + i]? = some (.float .f32 b) ∧ FloatKind.f32.has b := fun i => by
    by_cases hi : i < 192
    · obtain ⟨v, hv, ho⟩ := at' (2 + i) 23 (by omega) (mid_at 192 i _ _ _ _ hi)
      obtain ⟨b, rfl, hb⟩ := cell_f32 ho
      exact ⟨b, fun _ => ⟨hv, hb⟩⟩
    · exact ⟨0, fun h => absurd h hi⟩
  refine ⟨{ wide := wide, high := high, c := fun i => Classical.choose (hf i), g := fun i => Classical.choose (hf (64 + i)), h := fun i => Classical.choose (hf (128 + i)), x := x }, ?_, kw, kh, kx, fun i hi => (Classical.choose_spec (hf i) (by omega)).2, fun i hi => (Classical.choose_spec (hf (64 + i)) (by omega)).2, fun i hi => (Classical.choose_spec (hf (128 + i)) (by omega)).2⟩
  congr 1
  apply Array.ext_getElem?
  intro j
  have hl : ∀ G, (Grd G)[j]? = (GrdL G)[j]? := fun G => by simp [Grd]
  rw [hl]
  by_cases e0 : j = 0
  · subst e0; exact h0
  by_cases e1 : j = 1
  · subst e1; exact h1
  obtain ⟨i, rfl⟩ : ∃ i, j = i + 1 + 1 := ⟨j - 2, by omega⟩
  simp only [GrdL, List.getElem?_cons_succ]
  by_cases a1 : i < 64
  · rw [List.getElem?_append_left (by rw [Fld_length]; exact a1), Array.getElem?_toList, Fld_at _ i a1, show i + 1 + 1 = 2 + i by omega]
    exact (Classical.choose_spec (hf i) (by omega)).1
  rw [List.getElem?_append_right (by rw [Fld_length]; omega), Fld_length]
  by_cases a2 : i - 64 < 64
  · rw [List.getElem?_append_left (by rw [Fld_length]; exact a2), Array.getElem?_toList, Fld_at _ _ a2, show i + 1 + 1 = 2 + (64 + (i - 64)) by omega]
    exact (Classical.choose_spec (hf (64 + (i - 64))) (by omega)).1
  rw [List.getElem?_append_right (by rw [Fld_length]; omega), Fld_length]
  by_cases a3 : i - 64 - 64 < 64
  · rw [List.getElem?_append_left (by rw [Fld_length]; exact a3), Array.getElem?_toList, Fld_at _ _ a3, show i + 1 + 1 = 2 + (128 + (i - 64 - 64)) by omega]
    exact (Classical.choose_spec (hf (128 + (i - 64 - 64))) (by omega)).1
  rw [List.getElem?_append_right (by rw [Fld_length]; omega), Fld_length]
  by_cases a4 : i = 192
  · subst a4; exact h2
  · rw [Array.getElem?_eq_none (by omega), List.getElem?_eq_none (by simp; omega)]
end Go.Proofs.YtcfkkceidlpdkaaDoor
