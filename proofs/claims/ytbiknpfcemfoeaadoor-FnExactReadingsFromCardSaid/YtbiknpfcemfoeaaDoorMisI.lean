/- The misfit of an aquifer, the program's, as a value of the readings. Condition: what comes in is valid. -/
import Derived.Test.YtbiknpfcemfoeaaDoorDif
import Derived.Test.YtbiknpfcemfoeaaDoorVr
namespace Go.Proofs.YtbiknpfcemfoeaaDoor
open Go Go.RowKit Ieee
set_option linter.unusedSimpArgs false
set_option linter.unusedVariables false
attribute [local go_sem] run_store_f32

/-- The size of the difference of a reading. -/
def szR (T S R : Nat) (X Y x y : Int) (e : R2) : Option Nat := sizeO (dfO e.2 (drwV T S R (x - X) (y - Y) e.1))
/-- The sum of the sizes of the first k. -/
def mf (T S R : Nat) (X Y x y : Int) (L : List R2) : Nat → Option Nat
  | 0 => num .f32 0
  | k + 1 => fop .f32 .add (mf T S R X Y x y L k) (match L[k]? with | some e => szR T S R X Y x y e | none => none)
theorem mf_succ {T S R : Nat} {X Y x y : Int} {L : List R2} {k : Nat} {e : R2} (he : L[k]? = some e) : mf T S R X Y x y L (k + 1) = fop .f32 .add (mf T S R X Y x y L k) (szR T S R X Y x y e) := by simp only [mf, he]
theorem sizeO_num {b r : Nat} (h : num .f32 r = sizeO (num .f32 b)) : num .f32 r = none ∨ num .f32 r = some r ∧ r < 2147483648 := by
  cases hn : nanK .f32 b
  · rw [num_some hn] at h
    have h2 : num .f32 r = some (absN b) := h
    obtain ⟨rfl, hr⟩ := num_eq_some h2
    exact .inr ⟨h2, Nat.mod_lt _ (by decide)⟩
  · rw [num_none hn] at h
    exact .inl h
theorem zero_size {b r : Nat} (h : num .f32 r = sizeO (num .f32 b)) : fop .f32 .add (num .f32 0) (num .f32 r) = num .f32 r := by
  rcases sizeO_num h with h1 | ⟨h1, h2⟩
  · rw [h1]
    rfl
  · rw [zero_add_pos h2 h1, h1]
/-- The times of valid readings. -/
theorem okRs_time {L : List R2} (h : okRs L = true) : ∀ (k : Nat) (e : R2), L[k]? = some e → 1 ≤ e.1 ∧ e.1 ≤ 100000 := fun k e he => by
  simp only [okRs, Bool.and_eq_true, decide_eq_true_eq, List.all_eq_true, List.mem_range] at h
  have hk : k < L.length := (List.getElem?_eq_some_iff.1 he).1
  have hall : ∀ j, j < k → goodR L j = true := fun j hj => h.2 j (by omega)
  have hr := lastR_rng rfl (by omega) hall
  have := h.2 k hk
  simp only [goodR, he, Bool.and_eq_true, decide_eq_true_eq] at this
  omega

set_option maxRecDepth 100000 in
set_option maxHeartbeats 2000000 in
theorem siteMisfit_any (X Y : Int) (R : Nat) (x y : Int) (T S : Nat) (p : Option Addr) (c : Nat) (L : List R2) (hL : L.length ≤ 1048576) (hT : 981467136 ≤ T ∧ T ≤ 1233125376) (hS : 897581056 ≤ S ∧ S ≤ 1065353216) (hdx : -100 ≤ X ∧ X ≤ 100) (hdy : -100 ≤ Y ∧ Y ≤ 100) (hx : -100 ≤ x ∧ x ≤ 100) (hy : -100 ≤ y ∧ y ≤ 100)
    (hok : ∀ (k : Nat) (e : R2), L[k]? = some e → 1 ≤ e.1 ∧ e.1 ≤ 100000) (w : World) (hp : RsAt w p L) :
    Calls Tryd.prog 71 #[.agg (Ste X Y R x y), .agg (Aq T S), .slice p L.length c] w (GvB (mf T S R X Y x y L L.length) w) := by
  have P0 := Lib.hid hp
  have OK := Lib.hid hok
  obtain ⟨n, hn⟩ : ∃ n, L.length = n := ⟨_, rfl⟩
  have HN := Lib.hid hn
  rw [hn] at hL ⊢
  clear hp hok hn
  obtain ⟨z, b0, b1, B0⟩ := laid2 w (.cells (Ste X Y R x y) 47) (.cells (Aq T S) 43)
  obtain ⟨W, hW⟩ : ∃ W, (w.alloc (.cells (Ste X Y R x y) 47) |>.alloc (.cells (Aq T S) 43)) = W := ⟨_, rfl⟩
  have LD : ∀ V, Below W.heap.size W V → V.cell? ⟨w.heap.size, 0, none⟩ = some (.int .i8 X) ∧ V.cell? ⟨w.heap.size, 1, none⟩ = some (.int .i8 Y) ∧ V.cell? ⟨w.heap.size, 2, none⟩ = some (.float .f32 R) ∧ V.cell? ⟨w.heap.size, 3, none⟩ = some (.int .i8 x) ∧ V.cell? ⟨w.heap.size, 4, none⟩ = some (.int .i8 y) ∧ V.cell? ⟨w.heap.size + 1, 0, none⟩ = some (.float .f32 T) ∧ V.cell? ⟨w.heap.size + 1, 1, none⟩ = some (.float .f32 S) := fun V hV => by
    rw [hW] at z b0 b1
    have h0 := (hV.block w.heap.size (by omega)).trans b0
    have h1 := (hV.block (w.heap.size + 1) (by omega)).trans b1
    exact ⟨cell_of_row _ _ 0 _ _ _ h0, cell_of_row _ _ 1 _ _ _ h0, cell_of_row _ _ 2 _ _ _ h0, cell_of_row _ _ 3 _ _ _ h0, cell_of_row _ _ 4 _ _ _ h0, cell_of_row _ _ 0 _ _ _ h1, cell_of_row _ _ 1 _ _ _ h1⟩
  have HLD := Lib.hid LD
  rw [hW] at B0
  have BW := Lib.hid B0
  clear LD z b0 b1 B0
  have T1 := Lib.hid (fun (t l : Int) (ht : 1 ≤ t ∧ t ≤ 100000) (V : World) => siteDifference_any X Y R x y T S t l hT hS hdx hdy hx hy ht V)
  simp only [Ste, Aq, Rd] at T1 hW ⊢
  go_enter Tryd.func71, Tryd.ntmps71
  go_upto_region 1 with (fail)
  try rw [hW]
  clear hW
  go_wp2
  go_loopw [12, 7] (fun i a wr => ∃ (k r : Nat), k ≤ n ∧ i = .int .i64 k ∧ a = .float .f32 r ∧ Hid (num .f32 r = mf T S R X Y x y L k) ∧ Hid (Below W.heap.size W wr)) (fun i _ _ => n - (intOf i).toNat)
  case atStart => exact ⟨0, 0, by omega, rfl, rfl, Lib.hid rfl, Lib.hid (Below.refl _ _)⟩
  case round =>
    obtain ⟨k, r, hk, rfl, rfl, hR, hB⟩ := hrel
    by_cases hlt : k < n
    · have hki : (k : Int) < n := by omega
      obtain ⟨e, he⟩ : ∃ e, L[k]? = some e := ⟨_, List.getElem?_eq_getElem (by rw [HN.out]; exact hlt)⟩
      have BB := Lib.hid (BW.out.trans (hB.out.mono BW.out.size))
      obtain ⟨b, o, rfl, hr⟩ := (P0.out.keep BB.out) k e he
      have c0 : wr.cell? ⟨b, o + k * 2, none⟩ = some (.int .i64 e.1) := hr 0 _ rfl
      have c1 : wr.cell? ⟨b, o + k * 2 + 1, none⟩ = some (.int .i16 e.2) := hr 1 _ rfl
      have BA := Lib.hid (hB.out.alloc hB.out.size (.cells #[.int .i64 e.1, .int .i16 e.2] 65))
      obtain ⟨s0, s1, s2, s3, s4, a0, a1⟩ := HLD.out _ BA.out
      have TD := Lib.hid (fun V => T1.out e.1 e.2 (OK.out k e he) V)
      have HE := Lib.hid he
      have hne : b ≠ wr.heap.size := Nat.ne_of_lt (World.block_lt_of_cell? wr _ c0)
      clear hr he
      go_wp2_with (first
        | (go_at_call 94; refine (TD.out _).mono ?_; rintro x1 V1 ⟨d, rfl, hd, hq1⟩; have HD := Lib.hid hd; have Q1 := Lib.hid (BA.out.trans (hq1.mono BA.out.size)); clear hd hq1 s0 s1 s2 s3 s4 a0 a1 c0 c1 BA)
        | (go_at_call 76; refine (sizeOf_any d _).mono ?_; rintro x2 V2 ⟨f, rfl, hf, hq2⟩; have HF := Lib.hid hf; have Q2 := Lib.hid (Q1.out.trans (hq2.below _)); clear hf hq2)
        | (refine wpList_float rfl _ _ _ _ _ rfl rfl .f32 _ _ rfl rfl ?_; intro g m hg; have HG := Lib.hid hg; clear hg))
      go_roundw
      case rel => exact ⟨k + 1, g, by omega, by go_num, rfl, Lib.hid (by rw [mf_succ HE.out, HG.out, hR.out, HF.out, HD.out]; rfl), Lib.hid (belowN Q2.out _)⟩
      case measure => simp [intOf]; omega
    · obtain rfl : k = n := by omega
      go_wp2
      go_ret
      exact ⟨r, rfl, hR.out, BW.out.trans (hB.out.mono BW.out.size)⟩
end Go.Proofs.YtbiknpfcemfoeaaDoor
