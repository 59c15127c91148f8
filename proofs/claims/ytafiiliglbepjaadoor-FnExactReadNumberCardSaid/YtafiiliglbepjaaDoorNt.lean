/- NumberText: the model's, the program's: eight digits in base 16. Condition: the table of math/bits is laid. -/
import Derived.Test.YtafiiliglbepjaaDoorBase
import Derived.Lib.SlBytesRow
import Derived.Deep.OwnRows
import Derived.Laws.Shifts
import Derived.Laws.ShiftsVarLaws
namespace Go.Proofs.YtafiiliglbepjaaDoor
open Go Go.RowKit
set_option linter.unusedSimpArgs false
set_option linter.unusedVariables false
attribute [local go_sem] Oper.semAt_some

theorem f32bitsN (b : Nat) (w : World) : (callFunc 15 #[.float .f32 b]).run Tryd.prog w = .ok (.value (.int .u32 b)) w := by kernel_rfl
/-- A digit in base 16. -/
def dg (d : Nat) : Int := if d < 10 then 48 + d else 87 + d
theorem dg_ok (d : Nat) (h : d < 16) : 0 ≤ dg d ∧ dg d < 256 := by unfold dg; split <;> omega
theorem ix16 : ∀ d, d < 16 → ((⟨#[48, 49, 50, 51, 52, 53, 54, 55, 56, 57, 97, 98, 99, 100, 101, 102]⟩ : ByteArray).data[d]?).map (fun x => (x.toNat : Int)) = some (dg d) := by decide
theorem ix16' (d : Nat) (h : d < 16) (hs : d < (⟨#[48, 49, 50, 51, 52, 53, 54, 55, 56, 57, 97, 98, 99, 100, 101, 102]⟩ : ByteArray).size) : (((⟨#[48, 49, 50, 51, 52, 53, 54, 55, 56, 57, 97, 98, 99, 100, 101, 102]⟩ : ByteArray)[d]'hs).toNat : Int) = dg d := by
  have := ix16 d h
  rw [Array.getElem?_eq_getElem hs] at this
  exact Option.some.inj this
theorem ix36 : ∀ d, d < 16 → ((⟨#[48, 49, 50, 51, 52, 53, 54, 55, 56, 57, 97, 98, 99, 100, 101, 102, 103, 104, 105, 106, 107, 108, 109, 110, 111, 112, 113, 114, 115, 116, 117, 118, 119, 120, 121, 122]⟩ : ByteArray).data[d]?).map (fun x => (x.toNat : Int)) = some (dg d) := by decide
theorem ix36' (d : Nat) (h : d < 16) (hs : d < (⟨#[48, 49, 50, 51, 52, 53, 54, 55, 56, 57, 97, 98, 99, 100, 101, 102, 103, 104, 105, 106, 107, 108, 109, 110, 111, 112, 113, 114, 115, 116, 117, 118, 119, 120, 121, 122]⟩ : ByteArray).size) : (((⟨#[48, 49, 50, 51, 52, 53, 54, 55, 56, 57, 97, 98, 99, 100, 101, 102, 103, 104, 105, 106, 107, 108, 109, 110, 111, 112, 113, 114, 115, 116, 117, 118, 119, 120, 121, 122]⟩ : ByteArray)[d]'hs).toNat : Int) = dg d := by
  have := ix36 d h
  rw [Array.getElem?_eq_getElem hs] at this
  exact Option.some.inj this
theorem index_of (t : TypeId) (s : ByteArray) (k : IntKind) (d : Nat) (n : Int) (ht : Tryd.prog.underlying t = some .string) (h : (s.data[d]?).map (fun x => (x.toNat : Int)) = some n) (w : World) :
    (Instr.index t (.string s) (.int k d)).run Tryd.prog w = .ok (.int .u8 n) w := by
  obtain ⟨b, hb, rfl⟩ := Option.map_eq_some_iff.1 h
  obtain ⟨hd, hb'⟩ := Array.getElem?_eq_some_iff.1 hb
  have hd' : d < s.size := hd
  rw [run_index_string w t s k d ht, dif_pos ⟨Int.natCast_nonneg _, by exact_mod_cast hd'⟩]
  congr 2
  rw [← hb']
  rfl
/-- The digit at place t from the end. -/
def dgt (n t : Nat) : Int := dg (n / 16 ^ t % 16)
/-- The last J digits. -/
def hexL (n J : Nat) : List Int := (List.range J).map fun i => dgt n (J - 1 - i)
def hexS (n J : Nat) : ByteArray := strOfNums (hexL n J)
theorem hexL_len (n J : Nat) : (hexL n J).length = J := by simp [hexL]
theorem hexL_at (n J i : Nat) (h : i < J) : (hexL n J).getD i 0 = dgt n (J - 1 - i) := by simp [hexL, List.getD, h]
theorem mul_smallN (m : Nat) (hm : m < 8) (w : World) : Calls Tryd.prog 24 #[.int .u64 1, .int .u64 (m : Int)] w fun e w' => e = .returned (.tuple #[.int .u64 0, .int .u64 (m : Int)]) ∧ w' = w := by
  have h1 : bits .and .u64 1 4294967295 = 1 := by decide +kernel
  have h0 : bits .and .u64 0 4294967295 = 0 := by decide +kernel
  have h2 : bits .and .u64 (m : Int) 4294967295 = m := by rw [show (4294967295 : Int) = ((4294967295 : Nat) : Int) from rfl, bits_and_u64_nat m _ (by omega) (by omega), show 4294967295 = 2 ^ 32 - 1 from rfl, Nat.and_two_pow_sub_one_eq_mod, Nat.mod_eq_of_lt (by omega)]
  have h3 : (m : Int) / 2 ^ 32 = 0 := by omega
  have h4 : (m : Int) / 4294967296 = 0 := by omega
  go_enter Tryd.func24, Tryd.ntmps24
  go_wp2
  go_ret2
  exact ⟨rfl, rfl⟩
def hpB (s p : ByteArray) : Bool := decide (p.size ≤ s.size) && ((s.extract 0 p.size).toList == p.toList)
theorem hasPrefix_is (s p : ByteArray) (b : Bool) (h : hpB s p = b) (w : World) : Calls Tryd.prog 25 #[.string s, .string p] w fun e w' => e = .returned (.bool b) ∧ w' = w := by
  subst h
  go_enter Tryd.func25, Tryd.ntmps25
  by_cases h : p.size ≤ s.size
  · have h' : (p.size : Int) ≤ s.size := by omega
    go_wp2
    go_ret
    exact ⟨by simp [hpB, h], rfl⟩
  · have h' : ¬ (p.size : Int) ≤ s.size := by omega
    go_wp2
    go_ret
    exact ⟨by simp [hpB, h], rfl⟩
theorem ext_is (c : Nat) (hc : c < 8) (d : ByteArray) (hd : ∀ c, c < 8 → (d.extract 0 c).data = (List.replicate c (48 : UInt8)).toArray) : d.extract 0 c = ⟨(List.replicate c (48 : UInt8)).toArray⟩ := ByteArray.ext (hd c hc)
set_option maxRecDepth 100000 in
set_option maxHeartbeats 4000000 in
theorem rep_0 (w : World) :
    Calls Tryd.prog 16 #[.string ⟨#[48]⟩, .int .i64 0] w fun e w' => e = .returned (.string ⟨(List.replicate 0 (48 : UInt8)).toArray⟩) ∧ w' = w := by
  have hm := mul_smallN 0 (by omega)
  go_enter Tryd.func16, Tryd.ntmps16
  go_wp2_with (first | (go_at_call 24; refine (hm _).mono ?_; rintro e V ⟨rfl, hV⟩; rw [hV]; clear hV) | (go_at_call 25; refine (hasPrefix_is _ _ false (by decide +kernel) _).mono ?_; rintro e V ⟨rfl, hV⟩; rw [hV]; clear hV) | (go_at_call 25; refine (hasPrefix_is _ _ true (by decide +kernel) _).mono ?_; rintro e V ⟨rfl, hV⟩; rw [hV]; clear hV))
  go_ret
  refine ⟨congrArg Ending.returned (congrArg Value.string ?_), rfl⟩
  exact ByteArray.ext (by decide +kernel)
set_option maxRecDepth 100000 in
set_option maxHeartbeats 4000000 in
theorem rep_1 (w : World) :
    Calls Tryd.prog 16 #[.string ⟨#[48]⟩, .int .i64 1] w fun e w' => e = .returned (.string ⟨(List.replicate 1 (48 : UInt8)).toArray⟩) ∧ w' = w := by
  have hm := mul_smallN 1 (by omega)
  go_enter Tryd.func16, Tryd.ntmps16
  go_wp2_with (first | (go_at_call 24; refine (hm _).mono ?_; rintro e V ⟨rfl, hV⟩; rw [hV]; clear hV) | (go_at_call 25; refine (hasPrefix_is _ _ false (by decide +kernel) _).mono ?_; rintro e V ⟨rfl, hV⟩; rw [hV]; clear hV) | (go_at_call 25; refine (hasPrefix_is _ _ true (by decide +kernel) _).mono ?_; rintro e V ⟨rfl, hV⟩; rw [hV]; clear hV))
  go_ret
  refine ⟨congrArg Ending.returned (congrArg Value.string ?_), rfl⟩
  exact ByteArray.ext (by decide +kernel)
set_option maxRecDepth 100000 in
set_option maxHeartbeats 4000000 in
theorem rep_2 (w : World) :
    Calls Tryd.prog 16 #[.string ⟨#[48]⟩, .int .i64 2] w fun e w' => e = .returned (.string ⟨(List.replicate 2 (48 : UInt8)).toArray⟩) ∧ w' = w := by
  have hm := mul_smallN 2 (by omega)
  go_enter Tryd.func16, Tryd.ntmps16
  go_wp2_with (first | (go_at_call 24; refine (hm _).mono ?_; rintro e V ⟨rfl, hV⟩; rw [hV]; clear hV) | (go_at_call 25; refine (hasPrefix_is _ _ false (by decide +kernel) _).mono ?_; rintro e V ⟨rfl, hV⟩; rw [hV]; clear hV) | (go_at_call 25; refine (hasPrefix_is _ _ true (by decide +kernel) _).mono ?_; rintro e V ⟨rfl, hV⟩; rw [hV]; clear hV))
  go_ret
  refine ⟨congrArg Ending.returned (congrArg Value.string ?_), rfl⟩
  exact ByteArray.ext (by decide +kernel)
set_option maxRecDepth 100000 in
set_option maxHeartbeats 4000000 in
theorem rep_3 (w : World) :
    Calls Tryd.prog 16 #[.string ⟨#[48]⟩, .int .i64 3] w fun e w' => e = .returned (.string ⟨(List.replicate 3 (48 : UInt8)).toArray⟩) ∧ w' = w := by
  have hm := mul_smallN 3 (by omega)
  go_enter Tryd.func16, Tryd.ntmps16
  go_wp2_with (first | (go_at_call 24; refine (hm _).mono ?_; rintro e V ⟨rfl, hV⟩; rw [hV]; clear hV) | (go_at_call 25; refine (hasPrefix_is _ _ false (by decide +kernel) _).mono ?_; rintro e V ⟨rfl, hV⟩; rw [hV]; clear hV) | (go_at_call 25; refine (hasPrefix_is _ _ true (by decide +kernel) _).mono ?_; rintro e V ⟨rfl, hV⟩; rw [hV]; clear hV))
  go_ret
  refine ⟨congrArg Ending.returned (congrArg Value.string ?_), rfl⟩
  exact ByteArray.ext (by decide +kernel)
set_option maxRecDepth 100000 in
set_option maxHeartbeats 4000000 in
theorem rep_4 (w : World) :
    Calls Tryd.prog 16 #[.string ⟨#[48]⟩, .int .i64 4] w fun e w' => e = .returned (.string ⟨(List.replicate 4 (48 : UInt8)).toArray⟩) ∧ w' = w := by
  have hm := mul_smallN 4 (by omega)
  go_enter Tryd.func16, Tryd.ntmps16
  go_wp2_with (first | (go_at_call 24; refine (hm _).mono ?_; rintro e V ⟨rfl, hV⟩; rw [hV]; clear hV) | (go_at_call 25; refine (hasPrefix_is _ _ false (by decide +kernel) _).mono ?_; rintro e V ⟨rfl, hV⟩; rw [hV]; clear hV) | (go_at_call 25; refine (hasPrefix_is _ _ true (by decide +kernel) _).mono ?_; rintro e V ⟨rfl, hV⟩; rw [hV]; clear hV))
  go_ret
  refine ⟨congrArg Ending.returned (congrArg Value.string ?_), rfl⟩
  exact ByteArray.ext (by decide +kernel)
set_option maxRecDepth 100000 in
set_option maxHeartbeats 4000000 in
theorem rep_5 (w : World) :
    Calls Tryd.prog 16 #[.string ⟨#[48]⟩, .int .i64 5] w fun e w' => e = .returned (.string ⟨(List.replicate 5 (48 : UInt8)).toArray⟩) ∧ w' = w := by
  have hm := mul_smallN 5 (by omega)
  go_enter Tryd.func16, Tryd.ntmps16
  go_wp2_with (first | (go_at_call 24; refine (hm _).mono ?_; rintro e V ⟨rfl, hV⟩; rw [hV]; clear hV) | (go_at_call 25; refine (hasPrefix_is _ _ false (by decide +kernel) _).mono ?_; rintro e V ⟨rfl, hV⟩; rw [hV]; clear hV) | (go_at_call 25; refine (hasPrefix_is _ _ true (by decide +kernel) _).mono ?_; rintro e V ⟨rfl, hV⟩; rw [hV]; clear hV))
  go_ret
  refine ⟨congrArg Ending.returned (congrArg Value.string ?_), rfl⟩
  exact ByteArray.ext (by decide +kernel)
set_option maxRecDepth 100000 in
set_option maxHeartbeats 4000000 in
theorem rep_6 (w : World) :
    Calls Tryd.prog 16 #[.string ⟨#[48]⟩, .int .i64 6] w fun e w' => e = .returned (.string ⟨(List.replicate 6 (48 : UInt8)).toArray⟩) ∧ w' = w := by
  have hm := mul_smallN 6 (by omega)
  go_enter Tryd.func16, Tryd.ntmps16
  go_wp2_with (first | (go_at_call 24; refine (hm _).mono ?_; rintro e V ⟨rfl, hV⟩; rw [hV]; clear hV) | (go_at_call 25; refine (hasPrefix_is _ _ false (by decide +kernel) _).mono ?_; rintro e V ⟨rfl, hV⟩; rw [hV]; clear hV) | (go_at_call 25; refine (hasPrefix_is _ _ true (by decide +kernel) _).mono ?_; rintro e V ⟨rfl, hV⟩; rw [hV]; clear hV))
  go_ret
  refine ⟨congrArg Ending.returned (congrArg Value.string ?_), rfl⟩
  exact ByteArray.ext (by decide +kernel)
set_option maxRecDepth 100000 in
set_option maxHeartbeats 4000000 in
theorem rep_7 (w : World) :
    Calls Tryd.prog 16 #[.string ⟨#[48]⟩, .int .i64 7] w fun e w' => e = .returned (.string ⟨(List.replicate 7 (48 : UInt8)).toArray⟩) ∧ w' = w := by
  have hm := mul_smallN 7 (by omega)
  go_enter Tryd.func16, Tryd.ntmps16
  go_wp2_with (first | (go_at_call 24; refine (hm _).mono ?_; rintro e V ⟨rfl, hV⟩; rw [hV]; clear hV) | (go_at_call 25; refine (hasPrefix_is _ _ false (by decide +kernel) _).mono ?_; rintro e V ⟨rfl, hV⟩; rw [hV]; clear hV) | (go_at_call 25; refine (hasPrefix_is _ _ true (by decide +kernel) _).mono ?_; rintro e V ⟨rfl, hV⟩; rw [hV]; clear hV))
  go_ret
  refine ⟨congrArg Ending.returned (congrArg Value.string ?_), rfl⟩
  exact ByteArray.ext (by decide +kernel)
theorem rep_c (c : Nat) (hc : c < 8) (w : World) :
    Calls Tryd.prog 16 #[.string ⟨#[48]⟩, .int .i64 (c : Int)] w fun e w' => e = .returned (.string ⟨(List.replicate c (48 : UInt8)).toArray⟩) ∧ w' = w := by
  have h8 : c = 0 ∨ c = 1 ∨ c = 2 ∨ c = 3 ∨ c = 4 ∨ c = 5 ∨ c = 6 ∨ c = 7 := by omega
  rcases h8 with rfl | rfl | rfl | rfl | rfl | rfl | rfl | rfl
  · exact rep_0 w
  · exact rep_1 w
  · exact rep_2 w
  · exact rep_3 w
  · exact rep_4 w
  · exact rep_5 w
  · exact rep_6 w
  · exact rep_7 w
theorem pads (n J : Nat) (hJ : J ≤ 8) (h : n < 16 ^ J) : (⟨(List.replicate (8 - J) (48 : UInt8)).toArray⟩ : ByteArray) ++ hexS n J = hexS n 8 := by
  apply ByteArray.ext
  apply Array.toList_inj.1
  have e : ∀ t, J ≤ t → dgt n t = 48 := fun t ht => by
    have h1 : 16 ^ J ≤ 16 ^ t := Nat.pow_le_pow_right (by omega) ht
    unfold dgt
    rw [Nat.div_eq_of_lt (by omega)]
    rfl
  clear h
  have h9 : J = 0 ∨ J = 1 ∨ J = 2 ∨ J = 3 ∨ J = 4 ∨ J = 5 ∨ J = 6 ∨ J = 7 ∨ J = 8 := by omega
  rcases h9 with rfl | rfl | rfl | rfl | rfl | rfl | rfl | rfl | rfl
  all_goals simp [hexS, strOfNums, hexL, List.range, List.range.loop, e, List.replicate]
/-- Cells with bytes. -/
theorem tab_ltN {w : World} (h : TabAt w) : 6 < w.heap.size := World.block_lt_of_cell? w ⟨6, 0, none⟩ (h 0 (by omega))
def BR (w : World) (b N : Nat) (f : Nat → Int) : Prop := ∀ i, i < N → w.cell? ⟨b, i, none⟩ = some (.int .u8 (f i)) ∧ w.frozen? ⟨b, i, none⟩ = false
def Zb (N : Nat) : Array Value := (List.replicate N (.int .u8 0)).toArray
theorem Zb_size (N : Nat) : (Zb N).size = N := by simp [Zb]
theorem BR.put {w : World} {b N k : Nat} {f g : Nat → Int} {x : Int} (h : BR w b N f) (hk : k < N) (hg : ∀ i, i < N → g i = if i = k then x else f i) : BR (w.setCell ⟨b, k, none⟩ (.int .u8 x)) b N g := fun i hi => by
  refine ⟨?_, by rw [World.frozen?_setCell]; exact (h i hi).2⟩
  rw [hg i hi]
  by_cases e : i = k
  · subst e
    rw [if_pos rfl]
    exact World.cell?_setCell_same' _ _ _ (by rw [(h i hi).1]; rfl)
  · rw [if_neg e]
    exact (cell_other (fun e2 => e (by injection e2 with _ h2 _; omega))).trans (h i hi).1
theorem BR.congr {w : World} {b N : Nat} {f g : Nat → Int} (h : BR w b N f) (hg : ∀ i, i < N → g i = f i) : BR w b N g := fun i hi => by rw [hg i hi]; exact h i hi
theorem BR.box (N : Nat) (t : TypeId) (w : World) : ∃ W, w.alloc (.cells (Zb N) t) = W ∧ W.heap.size = w.heap.size + 1 ∧ BR W w.heap.size N (fun _ => 0) ∧ Below w.heap.size w W :=
  ⟨_, rfl, by simp, fun i hi => by
    have h1 := rangeAt_row (heap_alloc_last w (.cells (Zb N) t)) i (.int .u8 0) (by simp [Zb, hi])
    have h2 := there_row (heap_alloc_last w (.cells (Zb N) t)) (Zb_size N) i hi
    rw [Nat.zero_add] at h1 h2
    exact ⟨h1, h2.2⟩, (Below.refl _ _).alloc (Nat.le_refl _) _⟩
theorem conv_of {w : World} {b N : Nat} {f : Nat → Int} (h : BR w b N f) (o J c : Nat) (hJ : o + J = N) (n : Nat) (hf : ∀ i, i < J → f (o + i) = dgt n (J - 1 - i)) :
    (convert 45 9 (.slice (some ⟨b, o, none⟩) J c)).run Tryd.prog w = .ok (.string (hexS n J)) w :=
  run_convert_bytes_arg (P := Tryd.prog) w 45 5 Tryd.underlying45 Tryd.underlying5 b o J c (hexL n J) (hexL_len n J) (fun i hi => by
    rw [(h (o + i) (by omega)).1, hexL_at n J i hi, hf i hi]) 9 Tryd.underlying9
theorem conv_at {w : World} {b N k n : Nat} {f : Nat → Int} (h : BR w b N f) (L : Nat) (hL : N = L + 1) (J : Nat) (hJ : k + J = N) (hk : k ≤ N) (hf : ∀ p, k ≤ p → p < N → f p = dgt n (L - p)) :
    (convert 45 9 (.slice (some ⟨b, k, none⟩) J J)).run Tryd.prog w = .ok (.string (hexS n J)) w :=
  conv_of h k J J hJ n (fun i hi => by rw [hf _ (by omega) (by omega)]; congr 1; omega)
theorem l01Bits_t (b : Nat) (w : World) :
    Calls Tryd.prog 11 #[.float .f32 b] w fun e w' => e = .returned (.int .u32 ((if nanK .f32 b then 2143289344 else b : Nat))) ∧ w' = w := by
  have hf := f32bitsN
  cases hn : nanK .f32 b
  all_goals
    have ho := hn
    unfold nanK at ho
    go_enter Tryd.func11, Tryd.ntmps11
    go_wp2
    go_ret
    exact ⟨rfl, rfl⟩
theorem rem16 (u : Nat) : Int.tmod (u : Int) 16 = ((u % 16 : Nat) : Int) := by rw [Int.tmod_eq_emod_of_nonneg (by omega)]; omega
theorem quo16 (u : Nat) : Int.tdiv (u : Int) 16 = ((u / 16 : Nat) : Int) := by rw [Int.tdiv_eq_ediv_of_nonneg (by omega)]; omega
theorem mk8 (w : World) : (Instr.makeSlice 45 (.int .i64 8) (.int .i64 8)).run Tryd.prog w = .ok (.slice (some ⟨w.heap.size, 0, none⟩) 8 8) (w.alloc (.cells (Zb 8) 5)) := by
  have h := run_make_row' (P := Tryd.prog) 45 5 (.int .u8 0) 1 Tryd.underlying45 (by kernel_rfl) rfl .i64 .i64 8 (by omega) (by omega) w
  rw [show madeCells #[Value.int .u8 0] 8 = Zb 8 by kernel_rfl] at h
  exact h
theorem isP16 (w : World) : Calls Tryd.prog 46 #[.int .i64 16] w fun e w' => e = .returned (.bool true) ∧ w' = w := by
  have h : bits .and .i64 16 15 = 0 := by decide +kernel
  go_enter Tryd.func46, Tryd.ntmps46
  go_wp2
  go_ret
  exact ⟨rfl, rfl⟩
theorem tz16 (w : World) (hT : TabAt w) : Calls Tryd.prog 47 #[.int .u64 16] w fun e w' => e = .returned (.int .i64 4) ∧ w' = w := by
  have TT := Lib.hid (tz64 16 (by omega) (by omega) w hT)
  have hct : Lib.ctz 64 16 = 4 := by decide
  rw [hct] at TT
  go_enter Tryd.func47, Tryd.ntmps47
  go_wp2_with (go_at_call 52; refine TT.out.mono ?_; rintro e V1 ⟨rfl, hw1⟩; cases hw1; dsimp only)
  go_ret
  exact ⟨rfl, rfl⟩
theorem z65 (w : World) : (zeroValue 81).run Tryd.prog w = .ok (.agg (Zb 65)) w := by kernel_rfl
theorem oper_wp_of_run {P : Program} {o : Oper} {a : Act} {w : World} {K : Act → World → Prop} {Q : Exit → Act → World → Prop} {v : Value} (h : (execOp a.eval o).run P w = .ok (.value v) w) (hk : K (a.put o.dst v) w) : Oper.wp P o a w K Q := by
  unfold Oper.wp
  rw [h]
  exact hk
theorem shr4_op {op : Oper} {a : Act} {x y : Operand} {u : Nat} (ho : op.op = .binOp .shr 30 x y 44) (hx : a.eval x = .int .u64 u) (hy : a.eval y = .int .u64 4) (w : World) :
    (execOp a.eval op).run Tryd.prog w = .ok (.value (.int .u64 ((u / 16 : Nat) : Int))) w := by
  have hfd : Int.fdiv (u : Int) (2 ^ min (Int.toNat 4) IntKind.u64.bits) = ((u / 16 : Nat) : Int) := by
    show Int.fdiv (u : Int) 16 = _
    rw [Int.fdiv_eq_ediv_of_nonneg _ (by omega)]
    omega
  have hdd : (u : Int) / 2 ^ min (Int.toNat 4) IntKind.u64.bits = ((u / 16 : Nat) : Int) := by
    show (u : Int) / 16 = _
    omega
  unfold execOp
  simp only [ho, hx, hy]
  go_simp
  first | done | (simp only [hfd]) | (simp only [hdd]) | (congr 3; omega)
set_option maxRecDepth 100000 in
set_option maxHeartbeats 4000000 in
theorem fb_t (n : Nat) (hn : n < 4294967296) (w : World) (hT : TabAt w) :
    Calls Tryd.prog 36 #[.slice none 0 0, .int .u64 n, .int .i64 16, .bool false, .bool false] w fun e w' => (∃ J, 1 ≤ J ∧ J ≤ 8 ∧ n < 16 ^ J ∧ e = .returned (.tuple #[.slice none 0 0, .string (hexS n J)])) ∧ Below w.heap.size w w' := by
  have hz := z65
  have hTl := tab_ltN hT
  have HT := Lib.hid hT
  clear hT
  go_enter Tryd.func36, Tryd.ntmps36
  go_upto_region 4 with (fail)
  obtain ⟨W, hW, zW, rW, bW⟩ := BR.box 65 81 w
  rw [hW]
  obtain ⟨M, hM⟩ : ∃ M, w.heap.size = M := ⟨_, rfl⟩
  rw [hM] at rW zW bW hTl ⊢
  have RW := Lib.hid rW
  have BW := Lib.hid bW
  have TT := Lib.hid (tz16 W (fun j hj => (bW.cell (p := ⟨6, j, none⟩) hTl).trans (HT.out j hj)))
  clear hW rW bW zW hz HT
  go_upto_region 11 with (first | (go_at_call 47; refine TT.out.mono ?_; rintro e V1 ⟨rfl, hw1⟩; cases hw1; dsimp only) | (go_at_call 46; refine (isP16 _).mono ?_; rintro e V1 ⟨rfl, hw1⟩; cases hw1; dsimp only))
  clear TT hTl
  go_loopw [1, 13] (fun u i wr => ∃ j : Nat, j ≤ 7 ∧ u = .int .u64 ((n / 16 ^ j : Nat) : Int) ∧ i = .int .i64 ((65 - j : Nat) : Int) ∧ Hid (BR wr M 65 fun p => if 65 - j ≤ p then dgt n (64 - p) else 0) ∧ Hid (Below M w wr)) (fun _ i _ => (intOf i).toNat)
  case atStart => exact ⟨0, by omega, by simp, rfl, Lib.hid (RW.out.congr fun i hi => if_neg (by omega)), BW⟩
  case round =>
    obtain ⟨j, hj, rfl, rfl, hR, hB⟩ := hrel
    obtain ⟨k, hk⟩ : ∃ k, k + j = 64 := ⟨64 - j, by omega⟩
    have ek : 65 - j = k + 1 := by omega
    rw [ek] at hR ⊢
    obtain ⟨c0, f0⟩ := hR.out k (by omega)
    dsimp only at c0
    rw [if_neg (show ¬ k + 1 ≤ k by omega)] at c0
    have hlt2 : n / 16 ^ j < 4294967296 := Nat.lt_of_le_of_lt (Nat.div_le_self _ _) hn
    have HNX := Lib.hid (show n / 16 ^ (j + 1) = n / 16 ^ j / 16 by rw [Nat.pow_succ, Nat.div_div_eq_div_mul])
    have HDG := Lib.hid (show dgt n j = dg (n / 16 ^ j % 16) from rfl)
    have HPW := Lib.hid (show n < 16 ^ (j + 1) ↔ n / 16 ^ j < 16 by rw [Nat.pow_succ, Nat.mul_comm, Nat.div_lt_iff_lt_mul (Nat.pow_pos (by omega))])
    have HJ7 := Lib.hid (show ¬ n < 16 ^ (j + 1) → j + 1 ≤ 7 from fun h => by
      have : 16 ^ (j + 1) < 16 ^ 8 := by omega
      have := (Nat.pow_lt_pow_iff_right (by omega)).1 this
      omega)
    have HPUT := Lib.hid (fun (g : Int) (hg : g = dgt n j) => (hR.out.put (x := g) (g := fun p => if k ≤ p then dgt n (64 - p) else 0) (show k < 65 by omega) fun p hp => by
      by_cases e : p = k
      · rw [if_pos e, if_pos (by omega), hg]; congr 1; omega
      · rw [if_neg e]
        by_cases e2 : k + 1 ≤ p
        · rw [if_pos e2, if_pos (by omega)]
        · rw [if_neg e2, if_neg (by omega)]))
    generalize n / 16 ^ j = u at HNX HDG HPW hlt2 ⊢
    have hand : bits .and .u64 (u : Int) 15 = ((u % 16 : Nat) : Int) := by rw [show (15 : Int) = ((15 : Nat) : Int) from rfl, bits_and_u64_nat u _ (by omega) (by omega), show 15 = 2 ^ 4 - 1 from rfl, Nat.and_two_pow_sub_one_eq_mod]
    have hsh : (u : Int) / 16 = ((u / 16 : Nat) : Int) := by omega
    have hfd : Int.fdiv (u : Int) (2 ^ min (Int.toNat 4) IntKind.u64.bits) = ((u / 16 : Nat) : Int) := by
      show Int.fdiv (u : Int) 16 = _
      rw [Int.fdiv_eq_ediv_of_nonneg _ (by omega)]
      omega
    by_cases h16 : u < 16
    · have h16i : ¬ (16 : Int) ≤ (u : Int) := by omega
      have hm : u % 16 = u := Nat.mod_eq_of_lt h16
      have hx2 := fun w => index_of 9 ⟨#[48, 49, 50, 51, 52, 53, 54, 55, 56, 57, 97, 98, 99, 100, 101, 102, 103, 104, 105, 106, 107, 108, 109, 110, 111, 112, 113, 114, 115, 116, 117, 118, 119, 120, 121, 122]⟩ .u64 u _ Tryd.underlying9 (ix36 u h16) w
      rw [hm] at HDG
      rw [← HDG.out] at hx2
      have hcv := conv_at (HPUT.out _ rfl) 64 rfl (65 - k) (by omega) (by omega) (fun p hp hp2 => if_pos hp)
      have HP := Lib.hid (HPW.out.2 h16)
      have hal : Tryd.prog.arrayLen 81 = 65 := by kernel_rfl
      have hk65 : (k : Int) ≤ 65 := by omega
      have HB2 := Lib.hid (hB.out.setCell (p := ⟨M, k, none⟩) (Nat.le_refl _) (.int .u8 (dgt n j)))
      have HJ := Lib.hid (show j + 1 = 65 - k by omega)
      clear HNX HPW HPUT HJ7 hR HDG
      go_wp2
      go_ret2
      exact ⟨⟨65 - k, by omega, by omega, by rw [← HJ.out]; exact HP.out, rfl⟩, HB2.out⟩
    · have h16i : (16 : Int) ≤ (u : Int) := by omega
      go_wp2
      refine oper_wp_of_run (shr4_op (x := .tmp 55) (y := .tmp 56) (u := u) (by kernel_rfl) (by kernel_rfl) (by kernel_rfl) _) ?_
      apply_assumption
      simp only [Act.put, List.setIfInBounds_toArray, List.set_cons_zero, List.set_cons_succ]
      go_wp2
      go_roundw
      case rel => exact ⟨j + 1, HJ7.out (fun h => h16 (HPW.out.1 h)), by rw [HNX.out], by go_num, Lib.hid (by
        rw [show 65 - (j + 1) = k by omega]
        exact HPUT.out _ (by rw [ix36' _ (Nat.mod_lt _ (by omega)), ← HDG.out])), Lib.hid (hB.out.setCell (p := ⟨M, k, none⟩) (Nat.le_refl _) _)⟩
      case measure => simp [intOf]
set_option maxRecDepth 100000 in
set_option maxHeartbeats 4000000 in
theorem fui_t (n : Nat) (hn : n < 4294967296) (w : World) (hT : TabAt w) :
    Calls Tryd.prog 23 #[.int .u64 n, .int .i64 16] w fun e w' => (∃ J, 1 ≤ J ∧ J ≤ 8 ∧ n < 16 ^ J ∧ e = .returned (.string (hexS n J))) ∧ Below w.heap.size w w' := by
  have FB := Lib.hid (fb_t n hn w hT)
  clear hT
  go_enter Tryd.func23, Tryd.ntmps23
  go_wp2_with (go_at_call 36; refine FB.out.mono ?_; rintro e V1 ⟨⟨J, j1, j8, jn, rfl⟩, hb⟩; dsimp only)
  go_ret
  exact ⟨⟨J, j1, j8, jn, rfl⟩, hb⟩
set_option maxRecDepth 100000 in
set_option maxHeartbeats 4000000 in
theorem fu_t (n : Nat) (hn : n < 4294967296) (w : World) (hT : TabAt w) :
    Calls Tryd.prog 14 #[.int .u64 n, .int .i64 16] w fun e w' => (∃ J, 1 ≤ J ∧ J ≤ 8 ∧ n < 16 ^ J ∧ e = .returned (.string (hexS n J))) ∧ Below w.heap.size w w' := by
  have FB := Lib.hid (fui_t n hn w hT)
  clear hT
  go_enter Tryd.func14, Tryd.ntmps14
  go_wp2_with (go_at_call 23; refine FB.out.mono ?_; rintro e V1 ⟨⟨J, j1, j8, jn, rfl⟩, hb⟩; dsimp only)
  go_ret
  exact ⟨⟨J, j1, j8, jn, rfl⟩, hb⟩
set_option maxRecDepth 100000 in
set_option maxHeartbeats 4000000 in
theorem implNt_t (b : Nat) (hb : b < 4294967296) (w : World) (hT : TabAt w) :
    Calls Tryd.prog 10 #[.float .f32 b] w fun e w' => e = .returned (.string (hexS (if nanK .f32 b then 2143289344 else b) 8)) ∧ Below w.heap.size w w' := by
  cases hn : nanK .f32 b
  · have ho := hn
    unfold nanK at ho
    have hf := f32bitsN
    have FU := Lib.hid (fu_t b hb w hT)
    clear hT
    go_enter Tryd.func10, Tryd.ntmps10
    go_upto_region 4 with (go_at_call 14; refine FU.out.mono ?_; rintro e V1 ⟨⟨J, j1, j8, jn, rfl⟩, hb1⟩; have HB1 := Lib.hid hb1; clear hb1; dsimp only)
    have hs : (hexS b J).size = J := by unfold hexS; rw [strOfNums_size, hexL_len]
    have hp := pads b J j8 jn
    have hl : (8 : Int) - (J : Int) = ((8 - J : Nat) : Int) := by omega
    have RC := Lib.hid (rep_c (8 - J) (by omega) V1)
    go_wp2_with (first | (go_at_call 16; refine RC.out.mono ?_; rintro e V2 ⟨rfl, hw2⟩; cases hw2; dsimp only))
    go_ret
    rw [show (List.replicate (8 - J) (48 : UInt8)).toArray = Array.replicate (8 - J) 48 by simp] at hp
    exact ⟨congrArg Ending.returned (congrArg Value.string hp), HB1.out⟩
  · have ho := hn
    unfold nanK at ho
    have e1 : (⟨#[55, 102, 99, 48, 48, 48, 48, 48]⟩ : ByteArray) = hexS 2143289344 8 := ByteArray.ext (by decide +kernel)
    go_enter Tryd.func10, Tryd.ntmps10
    go_wp2
    go_ret
    exact ⟨congrArg Ending.returned (congrArg Value.string e1), Below.refl _ _⟩
end Go.Proofs.YtafiiliglbepjaaDoor
