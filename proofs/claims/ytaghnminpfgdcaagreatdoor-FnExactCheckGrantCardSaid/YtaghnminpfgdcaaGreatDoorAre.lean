/- Permits that are as they should be, on both sides. Condition: the list is short. -/
import Derived.Test.YtaghnminpfgdcaaGreatDoorPm
namespace Go.Proofs.YtaghnminpfgdcaaGreatDoor
open Go Go.RowKit
set_option linter.unusedSimpArgs false
set_option linter.unusedVariables false
/-- A row of cells, boxed. -/
theorem one_boxA (A : Array Value) (t : TypeId) (w : World) : ∃ W, w.alloc (.cells A t) = W ∧ W.heap.size = w.heap.size + 1 ∧ W.rangeAt w.heap.size 0 A.toList ∧ Below w.heap.size w W :=
  ⟨_, rfl, by simp, rangeAt_row (heap_alloc_last w _), (Below.refl _ _).alloc (Nat.le_refl _) _⟩
theorem one_cellA (v : Value) (t : TypeId) (w : World) : ∃ W, w.alloc (.cells #[v] t) = W ∧ W.heap.size = w.heap.size + 1 ∧ W.cell? ⟨w.heap.size, 0, none⟩ = some v ∧ Below w.heap.size w W :=
  ⟨_, rfl, by simp, cell_of_row _ _ 0 _ _ _ (heap_alloc_last w _), (Below.refl _ _).alloc (Nat.le_refl _) _⟩
/-- Rates, and owners. -/
def rateB (e : P3) : Bool := decide (0 ≤ e.2.2) && decide (e.2.2 ≤ 400)
def ownB (e : P3) : Bool := decide (0 ≤ e.1) && decide (e.1 ≤ 7)

set_option maxRecDepth 100000 in
set_option maxHeartbeats 2000000 in
theorem hasOwner_any (x : P3) (w : World) : Calls Tryz.prog 98 #[.agg (Pm x.1 x.2.1 x.2.2)] w fun e w' => e = .returned (.bool (ownB x)) ∧ Below w.heap.size w w' := by
  have HB := Lib.hid ((Below.refl w.heap.size w).alloc (Nat.le_refl _) (.cells (Pm x.1 x.2.1 x.2.2) 82))
  have E := Lib.hid (show ∀ b1 b2, decide (0 ≤ x.1) = b1 → decide (x.1 ≤ 7) = b2 → ownB x = (b1 && b2) from fun b1 b2 h1 h2 => by unfold ownB; rw [h1, h2])
  obtain ⟨o, c, r⟩ := x
  simp only [Pm] at HB E ⊢
  by_cases h1 : 0 ≤ o
  · by_cases h2 : o ≤ 7
    · have EE := Lib.hid (E.out true true (by simpa using h1) (by simpa using h2))
      clear E
      go_enter Tryz.func98, Tryz.ntmps98
      go_wp2
      go_ret
      exact ⟨by rw [EE.out]; rfl, HB.out⟩
    · have EE := Lib.hid (E.out true false (by simpa using h1) (by simpa using h2))
      clear E
      go_enter Tryz.func98, Tryz.ntmps98
      go_wp2
      go_ret
      exact ⟨by rw [EE.out]; rfl, HB.out⟩
  · have EE := Lib.hid (E.out false (decide (o ≤ 7)) (by simpa using h1) rfl)
    clear E
    go_enter Tryz.func98, Tryz.ntmps98
    go_wp2
    go_ret
    exact ⟨by rw [EE.out]; rfl, HB.out⟩

set_option maxRecDepth 100000 in
set_option maxHeartbeats 2000000 in
theorem hasRate_any (x : P3) (w : World) : Calls Tryz.prog 100 #[.agg (Pm x.1 x.2.1 x.2.2)] w fun e w' => e = .returned (.bool (rateB x)) ∧ Below w.heap.size w w' := by
  have HB := Lib.hid ((Below.refl w.heap.size w).alloc (Nat.le_refl _) (.cells (Pm x.1 x.2.1 x.2.2) 82))
  have E := Lib.hid (show ∀ b1 b2, decide (0 ≤ x.2.2) = b1 → decide (x.2.2 ≤ 400) = b2 → rateB x = (b1 && b2) from fun b1 b2 h1 h2 => by unfold rateB; rw [h1, h2])
  obtain ⟨o, c, r⟩ := x
  simp only [Pm] at HB E ⊢
  by_cases h1 : 0 ≤ r
  · by_cases h2 : r ≤ 400
    · have EE := Lib.hid (E.out true true (by simpa using h1) (by simpa using h2))
      clear E
      go_enter Tryz.func100, Tryz.ntmps100
      go_wp2
      go_ret
      exact ⟨by rw [EE.out]; rfl, HB.out⟩
    · have EE := Lib.hid (E.out true false (by simpa using h1) (by simpa using h2))
      clear E
      go_enter Tryz.func100, Tryz.ntmps100
      go_wp2
      go_ret
      exact ⟨by rw [EE.out]; rfl, HB.out⟩
  · have EE := Lib.hid (E.out false (decide (r ≤ 400)) (by simpa using h1) rfl)
    clear E
    go_enter Tryz.func100, Tryz.ntmps100
    go_wp2
    go_ret
    exact ⟨by rw [EE.out]; rfl, HB.out⟩

set_option maxRecDepth 100000 in
set_option maxHeartbeats 2000000 in
theorem one_R  (B : P3 → Bool) (x : P3) (q : Nat) (w : World) (hq : w.cell? ⟨q, 0, none⟩ = some (.func (.func 100) #[] #[]))
    (hnf : ∀ V, Below w.heap.size w V → Calls Tryz.prog 100 #[.agg (Pm x.1 x.2.1 x.2.2)] V fun e V' => e = .returned (.bool (B x)) ∧ Below V.heap.size V V') :
    Calls Tryz.prog 126 #[.agg (Pm x.1 x.2.1 x.2.2), .pointer (some ⟨q, 0, none⟩)] w fun e w' => e = .returned (.bool (!B x)) ∧ Below w.heap.size w w' := by
  have hlt := World.block_lt_of_cell? w _ hq
  obtain ⟨W, hW, z, r, hB⟩ := one_boxA (Pm x.1 x.2.1 x.2.2) 82 w
  have c0 : W.cell? ⟨w.heap.size, 0, none⟩ = some (.int .i8 x.1) := by have := r 0 (.int .i8 x.1) rfl; rwa [Nat.zero_add] at this
  have c1 : W.cell? ⟨w.heap.size, 1, none⟩ = some (.int .i8 x.2.1) := by have := r 1 (.int .i8 x.2.1) rfl; rwa [Nat.zero_add] at this
  have c2 : W.cell? ⟨w.heap.size, 2, none⟩ = some (.int .i16 x.2.2) := by have := r 2 (.int .i16 x.2.2) rfl; rwa [Nat.zero_add] at this
  have cq : W.cell? ⟨q, 0, none⟩ = some (.func (.func 100) #[] #[]) := (hB.cell (p := ⟨q, 0, none⟩) hlt).trans hq
  have T := Lib.hid (hnf W hB)
  have HB := Lib.hid hB
  simp only [Pm] at T hW
  clear hnf hq hlt z r hB
  simp only [Pm]
  go_enter Tryz.func126, Tryz.ntmps126
  go_upto_region 1 with (fail)
  try rw [hW]
  clear hW
  go_wp2_with (go_at_call 100; refine T.out.mono ?_; rintro e V ⟨rfl, hV⟩; have HV := Lib.hid (HB.out.trans (hV.mono HB.out.size)); clear hV)
  go_ret
  exact ⟨rfl, HV.out⟩
set_option maxRecDepth 100000 in
set_option maxHeartbeats 2000000 in
theorem idx_R  (B : P3 → Bool) (p : Option Addr) (c : Nat) (L : List P3) (hL : L.length ≤ 1048576) (q : Nat) (w : World) (hp : PsAt w p L) (hq : w.cell? ⟨q, 0, none⟩ = some (.func (.func 100) #[] #[])) (hnf : ∀ x ∈ L, ∀ V, Below w.heap.size w V → Calls Tryz.prog 100 #[.agg (Pm x.1 x.2.1 x.2.2)] V fun e V' => e = .returned (.bool (B x)) ∧ Below V.heap.size V V') :
    Calls Tryz.prog 145 #[.slice p L.length c, .func (.func 126) #[] #[.pointer (some ⟨q, 0, none⟩)]] w fun e w' => (∃ x : Int, e = .returned (.int .i64 x) ∧ decide (x ≥ 0) = !(L.all B)) ∧ Below w.heap.size w w' := by
  have hlt := World.block_lt_of_cell? w _ hq
  have P0 := Lib.hid hp
  have T := Lib.hid (fun x (hx : x ∈ L) V (hV : Below w.heap.size w V) => one_R  B x q V ((hV.cell (p := ⟨q, 0, none⟩) hlt).trans hq) (fun V' hV' => hnf x hx V' (hV.trans (hV'.mono hV.size))))
  obtain ⟨n, hn⟩ : ∃ n, L.length = n := ⟨_, rfl⟩
  have HN := Lib.hid hn
  rw [hn] at hL ⊢
  clear hp hq hn hnf hlt
  go_enter Tryz.func145, Tryz.ntmps145
  go_upto_region 2 with (fail)
  go_loopw [8] (fun i wr => ∃ k : Nat, k ≤ n ∧ i = .int .i64 k ∧ Hid ((L.take k).all B = true) ∧ Hid (Below w.heap.size w wr)) (fun i _ => n - (intOf i).toNat)
  case atStart => exact ⟨0, by omega, rfl, Lib.hid (by simp), Lib.hid (Below.refl _ _)⟩
  case round =>
    obtain ⟨k, hk, rfl, HA, HB⟩ := hrel
    by_cases hlt : k < n
    · have hki : (k : Int) < n := by omega
      obtain ⟨x, hx⟩ : ∃ x, L[k]? = some x := ⟨_, List.getElem?_eq_getElem (by rw [HN.out]; exact hlt)⟩
      obtain ⟨b, o, rfl, hr⟩ := (P0.out.keep HB.out) k x hx
      have c0 : wr.cell? ⟨b, o + k * 3, none⟩ = some (.int .i8 x.1) := hr 0 _ rfl
      have c1 : wr.cell? ⟨b, o + k * 3 + 1, none⟩ = some (.int .i8 x.2.1) := hr 1 _ rfl
      have c2 : wr.cell? ⟨b, o + k * 3 + 2, none⟩ = some (.int .i16 x.2.2) := hr 2 _ rfl
      have T1 := T.out x (List.mem_of_getElem? hx) wr HB.out
      have HT : (L.take (k + 1)).all B = ((L.take k).all B && B x) := by
        rw [List.take_add_one, hx]; simp
      rw [HA.out, Bool.true_and] at HT
      simp only [Pm] at T1
      cases hb : B x
      · have HF := Lib.hid (show L.all B = false by
          rw [List.all_eq_false]
          exact ⟨x, List.mem_of_getElem? hx, by rw [hb]; decide⟩)
        rw [hb] at T1
        have T2 := Lib.hid T1
        clear hr hx HT T1 hb
        go_wp2_with (go_at_call 126; refine T2.out.mono ?_; rintro e V ⟨rfl, hV⟩; have HV := Lib.hid (HB.out.trans (hV.mono HB.out.size)); clear hV c0 c1 c2)
        go_ret
        exact ⟨⟨_, rfl, by rw [HF.out]; simp⟩, HV.out⟩
      · rw [hb] at T1 HT
        have T2 := Lib.hid T1
        have HT2 := Lib.hid HT
        clear hr hx HT T1 hb
        go_wp2_with (go_at_call 126; refine T2.out.mono ?_; rintro e V ⟨rfl, hV⟩; have HV := Lib.hid (HB.out.trans (hV.mono HB.out.size)); clear hV c0 c1 c2)
        go_roundw
        case rel => exact ⟨k + 1, by omega, by go_num, HT2, HV⟩
        case measure => simp [intOf]; omega
    · obtain rfl : k = n := by omega
      have HF := Lib.hid (show L.all B = true by
        have := HA.out
        rwa [← HN.out, List.take_length] at this)
      go_wp2
      go_ret
      exact ⟨⟨_, rfl, by rw [HF.out]; decide⟩, HB.out⟩
theorem con_R  (B : P3 → Bool) (p : Option Addr) (c : Nat) (L : List P3) (hL : L.length ≤ 1048576) (q : Nat) (w : World) (hp : PsAt w p L) (hq : w.cell? ⟨q, 0, none⟩ = some (.func (.func 100) #[] #[])) (hnf : ∀ x ∈ L, ∀ V, Below w.heap.size w V → Calls Tryz.prog 100 #[.agg (Pm x.1 x.2.1 x.2.2)] V fun e V' => e = .returned (.bool (B x)) ∧ Below V.heap.size V V') :
    Calls Tryz.prog 125 #[.slice p L.length c, .func (.func 126) #[] #[.pointer (some ⟨q, 0, none⟩)]] w fun e w' => e = .returned (.bool (!(L.all B))) ∧ Below w.heap.size w w' := by
  have T := Lib.hid (idx_R  B p c L hL q w hp hq hnf)
  obtain ⟨y, hy⟩ : ∃ y, (!(L.all B)) = y := ⟨_, rfl⟩
  rw [hy] at T ⊢
  obtain ⟨n, hn⟩ : ∃ n, L.length = n := ⟨_, rfl⟩
  rw [hn] at T ⊢
  clear hp hq hn hnf hy hL
  go_enter Tryz.func125, Tryz.ntmps125
  go_wp2_with (go_at_call 145; refine T.out.mono ?_; rintro e V ⟨⟨x, rfl, hx⟩, hV⟩; have HV := Lib.hid hV; have HX := Lib.hid hx; clear hV hx)
  go_ret
  exact ⟨by rw [← HX.out]; rfl, HV.out⟩
set_option maxRecDepth 100000 in
set_option maxHeartbeats 2000000 in
theorem are_R  (B : P3 → Bool) (p : Option Addr) (c : Nat) (L : List P3) (hL : L.length ≤ 1048576) (w : World) (hp : PsAt w p L) (hnf : ∀ x ∈ L, ∀ V, Below w.heap.size w V → Calls Tryz.prog 100 #[.agg (Pm x.1 x.2.1 x.2.2)] V fun e V' => e = .returned (.bool (B x)) ∧ Below V.heap.size V V') :
    Calls Tryz.prog 96 #[.slice p L.length c, .func (.func 100) #[] #[]] w fun e w' => e = .returned (.bool (decide (L.length ≤ 6) && L.all B)) ∧ Below w.heap.size w w' := by
  obtain ⟨W, hW, z, c1, hB⟩ := one_cellA (.func (.func 100) #[] #[]) 161 w
  have T := Lib.hid (con_R  B p c L hL w.heap.size W (hp.keep hB) c1 (fun x hx V hV => hnf x hx V (hB.trans (hV.mono hB.size))))
  have HB := Lib.hid hB
  have hmf : ∀ (fn : Fn) (first cap : Array Value) (w : World), (Instr.makeFunc fn first cap).run Tryz.prog w = .ok (.func fn first cap) w := fun _ _ _ _ => rfl
  obtain ⟨y, hy⟩ : ∃ y, L.all B = y := ⟨_, rfl⟩
  rw [hy] at T ⊢
  obtain ⟨n, hn⟩ : ∃ n, L.length = n := ⟨_, rfl⟩
  rw [hn] at T ⊢
  rw [hn] at hL
  clear hp hn hnf hy c1 hB z
  by_cases h6 : n ≤ 6
  · have hi : (n : Int) ≤ 6 := by omega
    rw [show decide (n ≤ 6) = true by simpa using h6, Bool.true_and]
    go_enter Tryz.func96, Tryz.ntmps96
    go_upto_region 1 with (fail)
    try rw [hW]
    clear hW
    go_wp2_with (go_at_call 125; refine T.out.mono ?_; rintro e V ⟨rfl, hV⟩; have HV := Lib.hid (HB.out.trans (hV.mono HB.out.size)); clear hV)
    go_ret
    exact ⟨by simp, HV.out⟩
  · have hi : ¬ (n : Int) ≤ 6 := by omega
    rw [show decide (n ≤ 6) = false by simpa using h6, Bool.false_and]
    go_enter Tryz.func96, Tryz.ntmps96
    go_upto_region 1 with (fail)
    try rw [hW]
    clear hW
    go_wp2
    go_ret
    exact ⟨rfl, HB.out⟩

end Go.Proofs.YtaghnminpfgdcaaGreatDoor
