/- Arrays of twelve, one for each hour of a day. No condition. -/
import Derived.Test.YtbafbhaahpjmcaaRow1
import Derived.Test.YtbafbhaahpjmcaaSmN
import Derived.Test.YtbafbhaahpjmcaaLogI
import Derived.Test.YtbafbhaahpjmcaaWav
namespace Go.Proofs.Ytbafbhaahpjmcaa
open Go Go.RowKit Ieee
set_option linter.unusedSimpArgs false
set_option linter.unusedVariables false
attribute [local go_sem] run_store_float

/-- Twelve values. -/
def R12 (f : Nat → Value) : Array Value := ((List.range 12).map f).toArray
theorem R12_size (f : Nat → Value) : (R12 f).size = 12 := by simp [R12]
theorem R12_at (f : Nat → Value) (i : Nat) (h : i < 12) : (R12 f)[i]? = some (f i) := by
  simp [R12, h]
theorem R12_len (f : Nat → Value) : (R12 f).toList.length = 12 := by simp [R12]
theorem R12_congr {f g : Nat → Value} (h : ∀ i, i < 12 → f i = g i) : R12 f = R12 g := by
  unfold R12
  congr 1
  exact List.map_congr_left fun i hi => h i (by simpa using hi)
def updV (f : Nat → Value) (k : Nat) (v : Value) : Nat → Value := fun i => if i = k then v else f i
theorem R12_put (f : Nat → Value) (k : Nat) (v : Value) : (R12 f).setIfInBounds k v = R12 (updV f k v) := by
  apply Array.ext_getElem?
  intro j
  by_cases hj : j < 12
  · rw [R12_at _ j hj, Array.getElem?_setIfInBounds]
    unfold updV
    by_cases e : k = j
    · subst e
      simp [R12_size, hj]
    · rw [if_neg e, if_neg (fun h => e h.symm), R12_at _ j hj]
  · rw [Array.getElem?_eq_none (by simp [R12_size]; omega), Array.getElem?_eq_none (by rw [R12_size]; omega)]
def L16 (f : Nat → Int) : Array Value := R12 fun i => .int .i16 (f i)
def F12 (f : Nat → Nat) : Array Value := R12 fun i => .float .f32 (f i)
theorem L16_at (f : Nat → Int) (i : Nat) (h : i < 12) : (L16 f)[i]? = some (.int .i16 (f i)) := R12_at _ i h
theorem F12_at (f : Nat → Nat) (i : Nat) (h : i < 12) : (F12 f)[i]? = some (.float .f32 (f i)) := R12_at _ i h
theorem L16_one (f : Nat → Int) : (L16 f).all (·.oneCell') = true := by
  simp [L16, R12, Value.oneCell']
theorem info12i : (Try.prog.info? 30).map (·.size) = some 12 := by kernel_rfl
theorem info12f : (Try.prog.info? 43).map (·.size) = some 12 := by kernel_rfl

def mixI (f : Nat → Int) (k : Nat) : Nat → Int := fun i => if i < k then f i else 0
theorem L16_put (f : Nat → Int) (k : Nat) : (L16 (mixI f k)).setIfInBounds k (.int .i16 (f k)) = L16 (mixI f (k + 1)) := by
  unfold L16
  rw [R12_put]
  refine R12_congr fun i hi => ?_
  unfold updV mixI
  by_cases e : i = k
  · subst e; simp
  · rw [if_neg e]
    show Value.int .i16 (if i < k then f i else 0) = Value.int .i16 (if i < k + 1 then f i else 0)
    by_cases h : i < k
    · rw [if_pos h, if_pos (by omega)]
    · rw [if_neg h, if_neg (by omega)]
theorem L16_full (f : Nat → Int) : L16 (mixI f 12) = L16 f := R12_congr fun i hi => by
  show Value.int .i16 (if i < 12 then f i else 0) = _
  rw [if_pos hi]

set_option maxRecDepth 100000 in
set_option maxHeartbeats 1000000 in
theorem toInt16A12_any (f : Nat → Int) (w : World) :
    Calls Try.prog 9 #[.agg (L16 f)] w fun e w' => e = .returned (.agg (L16 f)) ∧ Below w.heap.size w w' := by
  have hat := L16_at f
  have hset := L16_put f
  go_enter Try.func9, Try.ntmps9
  go_wp2
  go_loopw [4] (fun i wr => ∃ k : Nat, k ≤ 12 ∧ i = .int .i64 k ∧ wr = ((w.alloc (.cells (L16 f) 30)).alloc (.cells (L16 (mixI f 0)) 30)).alloc (.cells (L16 (mixI f k)) 30)) (fun i _ => 12 - (intOf i).toNat)
  case atStart => exact ⟨0, by omega, rfl, rfl⟩
  case round =>
    obtain ⟨k, hk, rfl, rfl⟩ := hrel
    by_cases hlt : k < 12
    · have h1 := hat k hlt
      have h2 := L16_at (mixI f k) k hlt
      have h3 := hset k
      clear hat hset
      go_wp2
      go_roundw
      case rel => exact ⟨k + 1, by omega, by go_num, rfl⟩
      case measure => simp [intOf]; omega
    · obtain rfl : k = 12 := by omega
      rw [L16_full]
      obtain ⟨W1, hW1⟩ : ∃ W1, (w.alloc (.cells (L16 f) 30)) = W1 := ⟨_, rfl⟩
      have hb1 : Below w.heap.size w W1 := by rw [← hW1]; exact (Below.refl _ _).alloc (Nat.le_refl _) _
      have hz1 : W1.heap.size = w.heap.size + 1 := by rw [← hW1]; simp
      obtain ⟨W3, hW3⟩ : ∃ W3, ((w.alloc (.cells (L16 f) 30)).alloc (.cells (L16 (mixI f 0)) 30)).alloc (.cells (L16 f) 30) = W3 := ⟨_, rfl⟩
      have hr : W3.rangeAt (w.heap.size + 1 + 1) 0 (L16 f).toList := by
        have := rangeAt_row (heap_alloc_last ((w.alloc (.cells (L16 f) 30)).alloc (.cells (L16 (mixI f 0)) 30)) (.cells (L16 f) 30))
        rw [hW3] at this
        rwa [show ((w.alloc (.cells (L16 f) 30)).alloc (.cells (L16 (mixI f 0)) 30)).heap.size = w.heap.size + 1 + 1 from by simp] at this
      have ht : W3.there (w.heap.size + 1) 0 (L16 f).size := by
        have := there_row (heap_alloc_last W1 (.cells (L16 (mixI f 0)) 30)) ((R12_size _).trans (R12_size _).symm : (L16 (mixI f 0)).size = (L16 f).size)
        rw [hz1] at this
        rw [← hW3, hW1]
        exact World.there_alloc this _
      have hb3 : Below w.heap.size w W3 := by
        rw [← hW3, hW1]
        exact (hb1.alloc (by omega) _).alloc (by simp; omega) _
      rw [hW3]
      clear hat hset hW3 hW1
      go_wp2_with (first | (refine wpList_load_mid rfl 30 _ rfl _ 0 rfl (L16 f).toList _ hr Try.underlying30 rfl (by rw [show (L16 f).toList.length = 12 from R12_len _]; exact info12i) ?_) | (refine wpList_store_mid rfl 30 _ _ rfl _ 0 (L16 f) rfl rfl ht (by rw [show (L16 f).size = 12 from R12_size _]; exact info12i) (L16_one f) ?_))
      refine bodyPost_ret (results_cell_mid rfl _ _ _ 0 (L16 f).toList _ rfl (World.rangeAt_setCells_same _ _ _ _ (by rw [show (L16 f).toList.length = 12 from R12_len _]; rwa [show (L16 f).size = 12 from R12_size _] at ht)) Try.underlying30 rfl (by rw [show (L16 f).toList.length = 12 from R12_len _]; exact info12i)) rfl ⟨by rw [Array.toArray_toList], below_setCells _ (by omega) _ _ _ hb3⟩

/-- The sum of so many numbers, from the first one on. -/
def sumQ (o : Nat → Option Nat) : Nat → Option Nat
  | 0 => num .f32 0
  | 1 => o 0
  | k + 2 => fop .f32 .add (sumQ o (k + 1)) (o (k + 1))
theorem sumQ_succ {o : Nat → Option Nat} {k : Nat} (hk : 1 ≤ k) : sumQ o (k + 1) = fop .f32 .add (sumQ o k) (o k) := by
  obtain ⟨j, rfl⟩ : ∃ j, k = j + 1 := ⟨k - 1, by omega⟩
  rfl
theorem smN_sumQ {rs : List Nat} {o : Nat → Option Nat} (h : ∀ j r, rs[j]? = some r → num .f32 r = o j) : ∀ k, k ≤ rs.length → smN rs k = sumQ o k
  | 0, _ => rfl
  | 1, hk => by
    obtain ⟨r, hr⟩ : ∃ r, rs[0]? = some r := ⟨_, List.getElem?_eq_getElem (by omega)⟩
    simp only [smN, hr, sumQ]
    exact h 0 r hr
  | k + 2, hk => by
    obtain ⟨r, hr⟩ : ∃ r, rs[k + 1]? = some r := ⟨_, List.getElem?_eq_getElem (by omega)⟩
    rw [smN_succ (by omega) hr, sumQ_succ (by omega), smN_sumQ h (k + 1) (by omega), h (k + 1) r hr]

set_option maxRecDepth 100000 in
set_option maxHeartbeats 1000000 in
theorem sumOfDay_any (f : Nat → Nat) (o : Nat → Option Nat) (ho : ∀ j, j < 12 → num .f32 (f j) = o j) (w : World) :
    Calls Try.prog 21 #[.agg (F12 f)] w (GvB (sumQ o 12) w) := by
  have HO := Lib.hid ho
  clear ho
  go_enter Try.func21, Try.ntmps21
  go_upto_region 1 with (fail)
  obtain ⟨W, hW, hs, hr, hB⟩ := one_box (F12 f) 43 w
  rw [hW]
  clear hW
  have HR := Lib.hid hr
  have HB := Lib.hid hB
  have c0 : W.cell? ⟨w.heap.size, 0, none⟩ = some (.float .f32 (f 0)) := by have := hr 0 _ (by rw [Array.getElem?_toList]; exact F12_at f 0 (by omega)); simpa using this
  clear hr hB hs
  go_wp2
  go_loopw [3, 10] (fun (a i : Value) (wr : World) => ∃ (k r : Nat), k ≤ 11 ∧ i = .int .i64 (k : Int) ∧ a = .float .f32 r ∧ Hid (num .f32 r = sumQ o (k + 1)) ∧ Hid (Quiet W wr)) (fun _ i _ => 11 - (intOf i).toNat)
  case atStart => exact ⟨0, f 0, by omega, rfl, rfl, Lib.hid (HO.out 0 (by omega)), Lib.hid (Quiet.refl _)⟩
  case round =>
    obtain ⟨k, r, hk, rfl, rfl, hR, hQ⟩ := hrel
    by_cases hlt : k < 11
    · have c1 : wr.cell? ⟨w.heap.size, 1 + k, none⟩ = some (.float .f32 (f (1 + k))) := (hQ.out.cell _).trans (by have := HR.out (1 + k) _ (by rw [Array.getElem?_toList]; exact F12_at f (1 + k) (by omega)); simpa using this)
      go_wp2_with (refine wpList_float rfl _ _ _ _ _ rfl rfl .f32 _ _ rfl rfl ?_; intro z m hz; have HZ := Lib.hid hz; clear hz)
      go_roundw
      case rel => exact ⟨k + 1, z, by omega, by go_num, rfl, Lib.hid (by rw [sumQ_succ (by omega), HZ.out, hR.out, HO.out (1 + k) (by omega), Nat.add_comm 1 k]), Lib.hid (hQ.out.drewN _)⟩
      case measure => simp [intOf]; omega
    · obtain rfl : k = 11 := by omega
      go_wp2
      go_ret
      exact ⟨r, rfl, hR.out, HB.out.trans (hQ.out.below _)⟩
end Go.Proofs.Ytbafbhaahpjmcaa
