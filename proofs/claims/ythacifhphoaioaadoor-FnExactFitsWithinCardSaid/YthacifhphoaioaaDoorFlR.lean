/- The first one of several with the least measure: over readings. Condition: the measure's contract. -/
import Derived.Test.YthacifhphoaioaaDoorNeg
import Derived.Test.YthacifhphoaioaaDoorMisI
namespace Go.Proofs.YthacifhphoaioaaDoor
open Go Go.RowKit Ieee
set_option linter.unusedSimpArgs false
set_option linter.unusedVariables false
attribute [local go_sem] run_store_f32

/-- The index of the first least one of so many. -/
def flI (m : Nat → Option Nat) : Nat → Nat
  | 0 => 0
  | k + 1 => if ltO (m k) (m (flI m k)) = true then k else flI m k
theorem flI_lt (m : Nat → Option Nat) : ∀ k, 0 < k → flI m k < k
  | 0, h => by omega
  | k + 1, _ => by
    unfold flI
    split
    · omega
    · rcases Nat.eq_zero_or_pos k with e | e
      · subst e; simp [flI]
      · have := flI_lt m k e; omega

set_option maxRecDepth 100000 in
set_option maxHeartbeats 2000000 in
theorem flR_any (p : Option Addr) (c : Nat) (L : List R2) (h0 : 0 < L.length) (hL : L.length ≤ 1048576) (bs ba : Nat) (m : Nat → Option Nat) (w : World) (hp : RsAt w p L)
    (hm : ∀ (j : Nat) (e : R2), L[j]? = some e → ∀ w', Below w.heap.size w w' → Calls Tryd.prog 86 #[.agg (Rd e.1 e.2), .pointer (some ⟨bs, 0, none⟩), .pointer (some ⟨ba, 0, none⟩)] w' (GvB (m j) w')) :
    Calls Tryd.prog 85 #[.slice p L.length c, .func (.func 86) #[] #[.pointer (some ⟨bs, 0, none⟩), .pointer (some ⟨ba, 0, none⟩)]] w fun e w' => ∃ r, e = .returned (.tuple #[.int .i64 (flI m L.length : Nat), .float .f32 r]) ∧ num .f32 r = m (flI m L.length) ∧ Below w.heap.size w w' := by
  have P0 := Lib.hid hp
  have HM := Lib.hid hm
  obtain ⟨n, hn⟩ : ∃ n, L.length = n := ⟨_, rfl⟩
  have HN := Lib.hid hn
  rw [hn] at h0 hL ⊢
  clear hp hm hn
  obtain ⟨e0, he0⟩ : ∃ e, L[0]? = some e := ⟨_, List.getElem?_eq_getElem (by rw [HN.out]; exact h0)⟩
  obtain ⟨b, o, rfl, hr0⟩ := P0.out 0 e0 he0
  have c0 : w.cell? ⟨b, o, none⟩ = some (.int .i64 e0.1) := by have := hr0 0 _ rfl; simpa using this
  have c1 : w.cell? ⟨b, o + 1, none⟩ = some (.int .i16 e0.2) := by have := hr0 1 _ rfl; simpa using this
  have T0 := HM.out 0 e0 he0 w (Below.refl _ _)
  have e00 : ((0 : Nat) : Int) = 0 := rfl
  simp only [Rd] at T0
  clear hr0 he0
  go_enter Tryd.func85, Tryd.ntmps85
  go_upto_region 3 with (go_at_call 86; refine T0.mono ?_; rintro x V ⟨r0, rfl, hr, hq⟩; have HR0 := Lib.hid hr; have HQ0 := Lib.hid hq; clear hr hq)
  clear T0 c0 c1
  go_loopw [6, 7, 18] (fun f a i wr => ∃ (k r : Nat), k ≤ n ∧ i = .int .i64 k ∧ f = .int .i64 (flI m k : Nat) ∧ a = .float .f32 r ∧ Hid (num .f32 r = m (flI m k)) ∧ Hid (Below w.heap.size w wr)) (fun _ _ i _ => n - (intOf i).toNat)
  case atStart => exact ⟨0, r0, by omega, rfl, rfl, rfl, HR0, HQ0⟩
  case round =>
    obtain ⟨k, r, hk, rfl, rfl, rfl, hR, hB⟩ := hrel
    by_cases hlt : k < n
    · have hki : (k : Int) < n := by omega
      obtain ⟨e, he⟩ : ∃ e, L[k]? = some e := ⟨_, List.getElem?_eq_getElem (by rw [HN.out]; exact hlt)⟩
      obtain ⟨b', o', hbo, hr⟩ := (P0.out.keep hB.out) k e he
      cases hbo
      have c0 : wr.cell? ⟨b, o + k * 2, none⟩ = some (.int .i64 e.1) := hr 0 _ rfl
      have c1 : wr.cell? ⟨b, o + k * 2 + 1, none⟩ = some (.int .i16 e.2) := hr 1 _ rfl
      have BA := Lib.hid (hB.out.alloc hB.out.size (.cells #[.int .i64 e.1, .int .i16 e.2] 82))
      have T1 := Lib.hid (HM.out k e he)
      simp only [Rd] at T1
      have hne : b ≠ wr.heap.size := Nat.ne_of_lt (World.block_lt_of_cell? wr _ c0)
      clear hr he
      go_upto_region 6 with (go_at_call 86; refine (T1.out _ BA.out).mono ?_; rintro x1 V1 ⟨d, rfl, hd, hq1⟩; have HD := Lib.hid hd; have Q1 := Lib.hid (BA.out.trans (hq1.mono BA.out.size)); clear hd hq1 c0 c1 BA)
      have hcmp : FloatKind.f32.format.order d r = ordO (m k) (m (flI m k)) := ordO_num HD.out hR.out
      cases hl : ltO (m k) (m (flI m k))
      · have hl2 : (FloatKind.f32.format.order d r == some Ordering.lt) = false := by rw [hcmp]; exact hl
        have E := Lib.hid (show flI m (k + 1) = flI m k by rw [flI, hl]; rfl)
        clear hcmp hl
        go_wp2
        go_roundw
        case rel => exact ⟨k + 1, r, by omega, by go_num, by rw [E.out], rfl, by rw [E.out]; exact hR, Q1⟩
        case measure => simp [intOf]; omega
      · have hl2 : (FloatKind.f32.format.order d r == some Ordering.lt) = true := by rw [hcmp]; exact hl
        have E := Lib.hid (show flI m (k + 1) = k by rw [flI, hl]; rfl)
        clear hcmp hl
        go_wp2
        go_roundw
        case rel => exact ⟨k + 1, d, by omega, by go_num, by rw [E.out], rfl, by rw [E.out]; exact HD, Q1⟩
        case measure => simp [intOf]; omega
    · obtain rfl : k = n := by omega
      go_wp2
      go_ret2
      exact ⟨r, rfl, hR.out, hB.out⟩
end Go.Proofs.YthacifhphoaioaaDoor
