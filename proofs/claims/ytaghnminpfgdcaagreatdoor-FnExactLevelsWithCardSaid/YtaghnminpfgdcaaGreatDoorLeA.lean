/- LevelsWith: lists of float32, both sides, and copies of offices and permits that a law writes over (XFs, XLe, XMkw in one). Conditions: errors.errorType and the table of math/bits are laid (the program's). -/
import Derived.Test.YtaghnminpfgdcaaGreatDoorGl
import Derived.Test.YtaghnminpfgdcaaGreatDoorMkp
import Derived.Test.YtaghnminpfgdcaaGreatDoorRow1
namespace Go.Proofs.YtaghnminpfgdcaaGreatDoor
set_option linter.unusedSimpArgs false
set_option linter.unusedVariables false
section
open Go Go.RowKit Ieee
attribute [local go_sem] run_store_float

def CellsF (w : World) (p : Option Addr) (xs : List Nat) : Prop := ∀ (i v : Nat), xs[i]? = some v → ∃ b, p = some ⟨b, 0, none⟩ ∧ w.cell? ⟨b, i, none⟩ = some (.float .f32 v)
theorem CellsF.keep {w w' : World} {p : Option Addr} {xs : List Nat} (h : CellsF w p xs) (hB : Below w.heap.size w w') : CellsF w' p xs := fun i v hv => by
  obtain ⟨b, h1, h2⟩ := h i v hv
  exact ⟨b, h1, (hB.cell (p := ⟨b, i, none⟩) (World.block_lt_of_cell? w _ h2)).trans h2⟩
set_option maxRecDepth 100000 in
set_option maxHeartbeats 4000000 in
theorem eqFloat32S_yes (p q : Option Addr) (c d : Nat) (xs : List Nat) (hL : xs.length ≤ 1048576) (w : World) (hp : CellsF w p xs) (hq : CellsF w q xs) :
    Calls Tryz.prog 23 #[.slice p xs.length c, .slice q xs.length d] w fun e w' => e = .returned (.bool true) ∧ Below w.heap.size w w' := by
  have P0 := Lib.hid hp
  have Q0 := Lib.hid hq
  obtain ⟨n, hn⟩ : ∃ n, xs.length = n := ⟨_, rfl⟩
  have HN := Lib.hid hn
  rw [hn] at hL ⊢
  clear hp hq hn
  go_enter Tryz.func23, Tryz.ntmps23
  go_upto_region 4 with (fail)
  go_loopw [5] (fun i wr => ∃ k : Nat, k ≤ n ∧ i = .int .i64 k ∧ Hid (Quiet w wr)) (fun i _ => n - (intOf i).toNat)
  case atStart => exact ⟨0, by omega, rfl, Lib.hid (Quiet.refl _)⟩
  case round =>
    obtain ⟨k, hk, rfl, hB⟩ := hrel
    by_cases hlt : k < n
    · have hki : (k : Int) < n := by omega
      obtain ⟨e, he⟩ : ∃ e, xs[k]? = some e := ⟨_, List.getElem?_eq_getElem (by rw [HN.out]; exact hlt)⟩
      obtain ⟨b, rfl, c0'⟩ := P0.out k e he
      obtain ⟨b', rfl, c1'⟩ := Q0.out k e he
      have C1 : ∀ w', Quiet wr w' → w'.cell? ⟨b, k, none⟩ = some (.float .f32 e) := fun w' h => (h.cell _).trans ((hB.out.cell _).trans c0')
      have C2 : ∀ w', Quiet wr w' → w'.cell? ⟨b', k, none⟩ = some (.float .f32 e) := fun w' h => (h.cell _).trans ((hB.out.cell _).trans c1')
      clear c0' c1'
      go_upto_region 6 with (fail)
      refine wp_region_calm (ops' := regOf Tryz.f23 6) [0, 1, 2, 3, 4, 5, 6, 7, 8, 9, 10, 11] [] .fin (Quiet wr) [(0, One (.slice (some ⟨b, 0, none⟩) n c)), (1, One (.int .i64 (k : Int))), (2, One (.pointer (some ⟨b, k, none⟩))), (3, One (.float .f32 e)), (4, Numv .f64 ((num .f32 e).map cv)), (5, One (.slice (some ⟨b', 0, none⟩) n d)), (6, One (.int .i64 (k : Int))), (7, One (.pointer (some ⟨b', k, none⟩))), (8, One (.float .f32 e)), (9, Numv .f64 ((num .f32 e).map cv)), (10, One (.bool true)), (11, One (.bool false))] (by kernel_rfl) (by kernel_rfl) (by kernel_rfl) (by kernel_rfl) (by kernel_rfl) (by kernel_rfl) (by kernel_rfl) (by kernel_rfl) rfl ((Quiet.refl _).drewN 1) ?_
      refine calm_pure (some 17) (by kernel_rfl) (by kernel_rfl) (by kernel_rfl) (fun _ => by kernel_rfl) ?_
      refine calm_pure (some 18) (by kernel_rfl) (by kernel_rfl) (by kernel_rfl) (fun _ => by kernel_rfl) ?_
      refine calm_pure (some 19) (by kernel_rfl) (by kernel_rfl) (by kernel_rfl) (fun _ => index_fs (n := n) (c := c) (k := k) (x := .tmp 17) (y := .tmp 18) (by kernel_rfl) (by kernel_rfl) (by kernel_rfl) hlt _) ?_
      refine calm_read (some 20) (by kernel_rfl) (by kernel_rfl) (by kernel_rfl) (fun w' hw' => load_cell (ty := 23) (x := .tmp 19) (b := b) (o := k) (by kernel_rfl) (by kernel_rfl) Tryz.underlying23 rfl (C1 w' hw')) ?_
      refine calm_conv (some 21) 23 59 (.tmp 20) e (by kernel_rfl) (by kernel_rfl) (by kernel_rfl) (by kernel_rfl) Tryz.underlying23 Tryz.underlying59 (by kernel_rfl) (fun _ n h => h.drewN n) (rfl) ?_
      intro x hx
      refine calm_pure (some 22) (by kernel_rfl) (by kernel_rfl) (by kernel_rfl) (fun _ => by kernel_rfl) ?_
      refine calm_pure (some 23) (by kernel_rfl) (by kernel_rfl) (by kernel_rfl) (fun _ => by kernel_rfl) ?_
      refine calm_pure (some 24) (by kernel_rfl) (by kernel_rfl) (by kernel_rfl) (fun _ => index_fs (n := n) (c := d) (k := k) (x := .tmp 22) (y := .tmp 23) (by kernel_rfl) (by kernel_rfl) (by kernel_rfl) hlt _) ?_
      refine calm_read (some 25) (by kernel_rfl) (by kernel_rfl) (by kernel_rfl) (fun w' hw' => load_cell (ty := 23) (x := .tmp 24) (b := b') (o := k) (by kernel_rfl) (by kernel_rfl) Tryz.underlying23 rfl (C2 w' hw')) ?_
      refine calm_conv (some 26) 23 59 (.tmp 25) e (by kernel_rfl) (by kernel_rfl) (by kernel_rfl) (by kernel_rfl) Tryz.underlying23 Tryz.underlying59 (by kernel_rfl) (fun _ n h => h.drewN n) (rfl) ?_
      intro y hy
      refine calm_call (some 27) 30 #[.float .f64 x, .float .f64 y] ⟨_, rfl⟩ (by kernel_rfl) (by kernel_rfl) (by kernel_rfl) (fun _ => by kernel_rfl) (fun w' hw' => (sameFloat_yes x y (hx.trans hy.symm) w').mono fun e w2 h => ⟨_, h.1, rfl, by obtain ⟨_, n, rfl⟩ := h; exact hw'.drewN n⟩) ?_
      rintro _ rfl
      refine calm_pure (some 28) (by kernel_rfl) (by kernel_rfl) (by kernel_rfl) (fun _ => by kernel_rfl) ?_
      refine calm_end fun w' hw' => plan_end (Clean.normal ?_)
      have HQ := Lib.hid (hB.out.trans hw')
      clear hx hy C1 C2 hw'
      simp only [Act.put, List.setIfInBounds_toArray, List.set_cons_zero, List.set_cons_succ]
      go_wp2
      go_roundw
      case rel => exact ⟨k + 1, by omega, by go_num, HQ⟩
      case measure => simp [intOf]; omega
    · obtain rfl : k = n := by omega
      go_wp2
      go_ret
      exact ⟨rfl, hB.out.below _⟩
/-- One round: one number more is written over. -/
theorem markedF {w wr V : World} {b n k k0 : Nat} (hlt : k < n) (hT : wr.there b 0 n) (hA : ∀ j, j < k → wr.cell? ⟨b, j, none⟩ = some (.float .f32 (floatOfInt .f32 ((k0 + j : Nat) : Int)))) (hB : Below b w wr ∧ wr.heap.size = w.heap.size)
    (hF : ∀ x, x ≠ b → wr.heap[x]? = w.heap[x]?) (hv : V = wr.setCell ⟨b, k, none⟩ (.float .f32 (floatOfInt .f32 ((k0 + k : Nat) : Int)))) :
    V.there b 0 n ∧ (∀ j, j < k + 1 → V.cell? ⟨b, j, none⟩ = some (.float .f32 (floatOfInt .f32 ((k0 + j : Nat) : Int)))) ∧ (Below b w V ∧ V.heap.size = w.heap.size) ∧ ∀ x, x ≠ b → V.heap[x]? = w.heap[x]? := by
  have he : V = wr.setCells b k [.float .f32 (floatOfInt .f32 ((k0 + k : Nat) : Int))] := hv
  subst he
  have ht : wr.there b k 1 := fun j hj => by
    have := hT (k + j) (by omega)
    rwa [Nat.zero_add] at this
  refine ⟨World.there_setCells hT _ _ _, fun j hj => ?_, ⟨below_setCells _ (Nat.le_refl _) _ _ _ hB.1, (size_setCellsW _ _ _ _).trans hB.2⟩, fun x hx => (heap_setCellsP _ hx).trans (hF x hx)⟩
  by_cases hjk : j = k
  · subst hjk
    exact World.rangeAt_setCells_same _ _ _ _ ht 0 _ rfl
  · have hr : wr.rangeAt b j [.float .f32 (floatOfInt .f32 ((k0 + j : Nat) : Int))] := fun i v hi => by
      have h1 : i < 1 := (List.getElem?_eq_some_iff.1 hi).1
      obtain rfl : i = 0 := by omega
      cases hi
      exact hA j (by omega)
    exact World.rangeAt_setCells_apart hr _ _ _ (.inr (.inl (by simp; omega))) 0 _ rfl
set_option maxRecDepth 100000 in
set_option maxHeartbeats 4000000 in
theorem markFloat32S_any (b n c k0 : Nat) (hn : n ≤ 6) (hk : k0 ≤ 1) (w : World) (ht : w.there b 0 n) :
    Calls Tryz.prog 26 #[.slice (some ⟨b, 0, none⟩) n c, .int .i64 (k0 : Int)] w fun e w' => e = .returned (.int .i64 ((k0 + n : Nat) : Int)) ∧ (∀ i, i < n → w'.cell? ⟨b, i, none⟩ = some (.float .f32 (floatOfInt .f32 ((k0 + i : Nat) : Int)))) ∧ Below b w w' ∧ w'.heap.size = w.heap.size ∧ ∀ x, x ≠ b → w'.heap[x]? = w.heap[x]? := by
  have T0 := Lib.hid ht
  clear ht
  go_enter Tryz.func26, Tryz.ntmps26
  go_wp2
  go_loopw [5, 1] (fun i kk wr => ∃ k : Nat, k ≤ n ∧ i = .int .i64 k ∧ kk = .int .i64 ((k0 + k : Nat) : Int) ∧ Hid (wr.there b 0 n) ∧ Hid (∀ j, j < k → wr.cell? ⟨b, j, none⟩ = some (.float .f32 (floatOfInt .f32 ((k0 + j : Nat) : Int)))) ∧ Hid (Below b w wr ∧ wr.heap.size = w.heap.size) ∧ Hid (∀ x, x ≠ b → wr.heap[x]? = w.heap[x]?)) (fun i _ _ => n - (intOf i).toNat)
  case atStart => exact ⟨0, by omega, rfl, rfl, T0, Lib.hid (fun j hj => absurd hj (by omega)), Lib.hid ⟨Below.refl _ _, rfl⟩, Lib.hid (fun _ _ => rfl)⟩
  case round =>
    obtain ⟨k, hk, rfl, rfl, hT, hA, hB, hF⟩ := hrel
    by_cases hlt : k < n
    · have hki : (k : Int) < n := by omega
      obtain ⟨u0, hu0⟩ := Option.isSome_iff_exists.1 (hT.out k hlt).1
      have f0 := (hT.out k hlt).2
      simp only [Nat.zero_add] at hu0 f0
      go_wp2
      have HC := @markedF w wr _ b n k k0 hlt hT.out hA.out hB.out hF.out rfl
      go_roundw
      case rel => exact ⟨k + 1, by omega, by go_num, by go_num, Lib.hid (by simpa using HC.1), Lib.hid (by simpa using HC.2.1), Lib.hid (by simpa using HC.2.2.1), Lib.hid (by simpa using HC.2.2.2)⟩
      case measure => simp [intOf]; omega
    · obtain rfl : k = n := by omega
      go_wp2
      go_ret
      exact ⟨rfl, hA.out, hB.out.1, hB.out.2, hF.out⟩
theorem fs_self : (List.range 16).all (fun j => !(FloatKind.f32.format.order (floatOfInt .f32 (j : Int)) (floatOfInt .f32 (j : Int)) != some Ordering.eq)) = true := by decide +kernel
theorem fs_same {j : Nat} (h : j < 16) : (FloatKind.f32.format.order (floatOfInt .f32 (j : Int)) (floatOfInt .f32 (j : Int)) != some Ordering.eq) = false := by
  have := List.all_eq_true.1 fs_self j (List.mem_range.2 h)
  simpa using this
set_option maxRecDepth 100000 in
set_option maxHeartbeats 4000000 in
theorem heldFloat32S_any (b n c k0 : Nat) (hn : n ≤ 6) (hk : k0 ≤ 1) (w : World) (hA : ∀ i, i < n → w.cell? ⟨b, i, none⟩ = some (.float .f32 (floatOfInt .f32 ((k0 + i : Nat) : Int)))) :
    Calls Tryz.prog 27 #[.slice (some ⟨b, 0, none⟩) n c, .int .i64 (k0 : Int)] w fun e w' => e = .returned (.int .i64 ((k0 + n : Nat) : Int)) ∧ Below w.heap.size w w' := by
  have A0 := Lib.hid hA
  clear hA
  go_enter Tryz.func27, Tryz.ntmps27
  go_wp2
  go_loopw [5, 1] (fun i kk wr => ∃ k : Nat, k ≤ n ∧ i = .int .i64 k ∧ kk = .int .i64 ((k0 + k : Nat) : Int) ∧ Hid (Quiet w wr)) (fun i _ _ => n - (intOf i).toNat)
  case atStart => exact ⟨0, by omega, rfl, rfl, Lib.hid (Quiet.refl _)⟩
  case round =>
    obtain ⟨k, hk, rfl, rfl, hQ⟩ := hrel
    by_cases hlt : k < n
    · have hki : (k : Int) < n := by omega
      have c0 : wr.cell? ⟨b, k, none⟩ = some (.float .f32 (floatOfInt .f32 ((k0 : Int) + k))) := (hQ.out.cell _).trans ((A0.out k hlt).trans (by simp))
      have hs := fs_same (j := k0 + k) (by omega)
      simp only [Int.natCast_add] at hs
      go_wp2
      go_roundw
      case rel => exact ⟨k + 1, by omega, by go_num, by go_num, hQ⟩
      case measure => simp [intOf]; omega
    · obtain rfl : k = n := by omega
      go_wp2
      go_ret
      exact ⟨rfl, hQ.out.below _⟩
set_option maxRecDepth 100000 in
theorem markFloat32S_nil (c : Nat) (k0 : Nat) (hk : k0 ≤ 1048576) (p : Option Addr) (w : World) :
    Calls Tryz.prog 26 #[.slice p 0 c, .int .i64 (k0 : Int)] w fun e w' => e = .returned (.int .i64 (k0 : Int)) ∧ w' = w := by
  go_enter Tryz.func26, Tryz.ntmps26
  go_wp2
  refine wp_loop_rounds 1 ?_
  rw [rounds_succ]
  go_wp2
  go_ret
  exact ⟨rfl, rfl⟩
set_option maxRecDepth 100000 in
theorem heldFloat32S_nil (c : Nat) (k0 : Nat) (hk : k0 ≤ 1048576) (p : Option Addr) (w : World) :
    Calls Tryz.prog 27 #[.slice p 0 c, .int .i64 (k0 : Int)] w fun e w' => e = .returned (.int .i64 (k0 : Int)) ∧ w' = w := by
  go_enter Tryz.func27, Tryz.ntmps27
  go_wp2
  refine wp_loop_rounds 1 ?_
  rw [rounds_succ]
  go_wp2
  go_ret
  exact ⟨rfl, rfl⟩
set_option maxRecDepth 100000 in
theorem markWatchS_nil (c : Nat) (k0 : Nat) (hk : k0 ≤ 1048576) (p : Option Addr) (w : World) :
    Calls Tryz.prog 59 #[.slice p 0 c, .int .i64 (k0 : Int)] w fun e w' => e = .returned (.int .i64 (k0 : Int)) ∧ w' = w := by
  go_enter Tryz.func59, Tryz.ntmps59
  go_wp2
  refine wp_loop_rounds 1 ?_
  rw [rounds_succ]
  go_wp2
  go_ret
  exact ⟨rfl, rfl⟩
end
section
open Go Go.RowKit Go.Shelf
attribute [local go_sem] Oper.semAt_some run_store_float

/-- The heads at watches. -/
def hwL (R : Gd) (Lw : List T2) : List Nat := Lw.map fun e => R.h e.1.toNat
/-- What LevelsWith answers of a ground and its code. -/
def lvL (R : Gd) (n0 : Int) (Lw : List T2) : List Nat := if n0 = 0 then hwL R Lw else []
theorem lvL_0 (R : Gd) (Lw : List T2) : lvL R 0 Lw = hwL R Lw := rfl
theorem lvL_ne (R : Gd) (Lw : List T2) {n0 : Int} (h : n0 ≠ 0) : lvL R n0 Lw = [] := by simp [lvL, h]
theorem hwL_len (R : Gd) (Lw : List T2) : (hwL R Lw).length = Lw.length := by simp [hwL]
theorem hwL_snoc {R : Gd} {Lw : List T2} {k : Nat} {e : T2} (h : Lw[k]? = some e) : (hwL R Lw).take (k + 1) = (hwL R Lw).take k ++ [R.h e.1.toNat] := by
  rw [List.take_add_one]
  simp [hwL, h]
/-- How the model's ends. -/
def LeS (L : List Nat) (n0 : Int) (w : World) : Ending → World → Prop := fun e w' => ∃ p c, e = .returned (.tuple #[.slice p L.length c, .int .i64 n0]) ∧ CellsF w' p L ∧ Below w.heap.size w w'
/-- How the program's ends: its list is its own. -/
def LeI (L : List Nat) (n0 : Int) (w : World) : Ending → World → Prop := fun e w' => ∃ p c, e = .returned (.tuple #[.slice p L.length c, .int .i64 n0]) ∧ CellsF w' p L ∧ (L.length = 0 ∨ ∃ g, p = some ⟨g, 0, none⟩ ∧ w.heap.size ≤ g ∧ g < w'.heap.size ∧ w'.there g 0 L.length) ∧ Below w.heap.size w w'
theorem cellsF_nil (w : World) (p : Option Addr) : CellsF w p [] := fun i v h => by simp at h
set_option maxRecDepth 100000 in
set_option maxHeartbeats 2000000 in
theorem implLevelsWith_any (G : Gd) (pw : Option Addr) (cw : Nat) (Lw : List T2) (hLw : Lw.length ≤ 1048576) (hOw : ∀ e ∈ Lw, okT2 e) (p : Option Addr) (c : Nat) (L : List P3) (hL : L.length ≤ 1048576) (hO : ∀ e ∈ L, okPQ e) (w : World) (hpw : TsAt w pw Lw) (hp : PsAt w p L) (hG : GdOk G) (hT : TabAt w) (hE : ErrT w) :
    Calls Tryz.prog 22 #[.agg (OfA ⟨G, pw, Lw.length, cw⟩), .slice p L.length c] w (LeI (lvL (gwV G Lw L).1 (gwV G Lw L).2 Lw) (gwV G Lw L).2 w) := by
  obtain ⟨W, hW, hs, b1, hB⟩ := obox1 ⟨G, pw, Lw.length, cw⟩ 41 w
  have T := Lib.hid (levelsWith_any G pw cw Lw hLw hOw p c L hL hO w.heap.size W b1 (hpw.keep hB) (hp.keep hB) hG (hT.below hB (tab_lt hT)))
  have HB := Lib.hid hB
  have HE := Lib.hid (hE.below hB (errT_lt hE))
  obtain ⟨R, n0, hR⟩ : ∃ R n0, gwV G Lw L = (R, n0) := ⟨_, _, rfl⟩
  simp only [hR] at T ⊢
  obtain ⟨m, hm⟩ : ∃ m, Lw.length = m := ⟨_, rfl⟩
  have HM := Lib.hid hm
  rw [hm] at hW T ⊢
  obtain ⟨n, hn⟩ : ∃ n, L.length = n := ⟨_, rfl⟩
  rw [hn] at T ⊢
  clear b1 hp hB hm hn hpw hOw hO hR hL hLw hG hs hT hE
  go_enter Tryz.func22, Tryz.ntmps22
  go_upto_region 1 with (fail)
  try rw [hW]
  clear hW
  go_wp2_with (go_at_call 58; fail)
  refine T.out.mono ?_
  rintro e V ⟨hb, ⟨h0, g, rfl, hg1, hg2, ht, hl⟩ | ⟨hne, rfl⟩⟩
  · simp only at h0
    subst h0
    have HC := Lib.hid (show Calls Tryz.prog 54 #[.nilIface] V _ from groundCode_err 0 V (HE.out.below hb (errT_lt HE.out)))
    have HV := Lib.hid (HB.out.trans (hb.mono HB.out.size))
    have H1 := Lib.hid (show w.heap.size ≤ g from Nat.le_trans HB.out.size hg1)
    have H2 := Lib.hid hg2
    have HTH := Lib.hid ht
    have HL := Lib.hid hl
    clear hb hg1 hg2 ht hl
    go_wp2_with (go_at_call 54; refine HC.out.mono ?_; rintro e V2 ⟨rfl, hV⟩; have HV2 := Lib.hid hV; clear hV)
    go_ret2
    refine ⟨some ⟨g, 0, none⟩, m, by rw [lvL_0, hwL_len, HM.out]; try rfl, fun i v hv => ⟨g, rfl, ?_⟩, .inr ⟨g, rfl, H1.out, Nat.lt_of_lt_of_le H2.out HV2.out.size, ?_⟩, HV.out.trans (HV2.out.mono HV.out.size)⟩
    · rw [lvL_0] at hv
      simp only [hwL, List.getElem?_map, Option.map_eq_some_iff] at hv
      obtain ⟨e, he, rfl⟩ := hv
      exact (HV2.out.cell (p := ⟨g, i, none⟩) H2.out).trans (HL.out i e he)
    · rw [lvL_0, hwL_len, HM.out]
      exact there_below HTH.out HV2.out H2.out
  · have HC := Lib.hid (groundCode_err n0 V (HE.out.below hb (errT_lt HE.out)))
    have HV := Lib.hid (HB.out.trans (hb.mono HB.out.size))
    obtain ⟨eV, heV⟩ : ∃ eV, errG n0 = eV := ⟨_, rfl⟩
    rw [heV] at HC ⊢
    clear hb heV
    go_wp2_with (go_at_call 54; refine HC.out.mono ?_; rintro e V2 ⟨rfl, hV⟩; have HV2 := Lib.hid (HV.out.trans (hV.mono HV.out.size)); clear hV)
    go_ret2
    exact ⟨none, 0, by rw [lvL_ne R Lw hne]; try rfl, by rw [lvL_ne R Lw hne]; exact cellsF_nil _ _, .inl (by rw [lvL_ne R Lw hne]; rfl), HV2.out⟩
set_option maxRecDepth 100000 in
set_option maxHeartbeats 2000000 in
theorem specLevelsWith_any (G : Gd) (pw : Option Addr) (cw : Nat) (Lw : List T2) (hLw : Lw.length ≤ 1048576) (hOw : ∀ e ∈ Lw, okT2 e) (p : Option Addr) (c : Nat) (L : List P3) (hL : L.length ≤ 1048576) (hO : ∀ e ∈ L, okPQ e) (w : World) (hpw : TsAt w pw Lw) (hp : PsAt w p L) (hG : GdOk G) :
    Calls Tryz.prog 21 #[.agg (OfA ⟨G, pw, Lw.length, cw⟩), .slice p L.length c] w (LeS (lvL (gwV G Lw L).1 (gwV G Lw L).2 Lw) (gwV G Lw L).2 w) := by
  have hz := (zero_of_info zeroGround).1
  obtain ⟨W, hW, hs, b1, hB⟩ := obox1 ⟨G, pw, Lw.length, cw⟩ 41 w
  have T := Lib.hid (show Calls Tryz.prog 14 #[.agg (OfA ⟨G, pw, Lw.length, cw⟩), .slice p L.length c] W fun e w' => e = .returned (.tuple #[.agg (Grd (gwV G Lw L).1), .int .i64 (gwV G Lw L).2]) ∧ Below W.heap.size W w' from specGroundWith_any G pw cw Lw hLw hOw p c L hL hO W (hpw.keep hB) (hp.keep hB) hG)
  have HB := Lib.hid hB
  have B1 := Lib.hid b1
  have PW := Lib.hid (hpw.keep hB)
  have HF := Lib.hid (fun (h0 : (gwV G Lw L).2 = 0) => prm_is (gwV_prm h0))
  obtain ⟨R, n0, hR⟩ : ∃ R n0, gwV G Lw L = (R, n0) := ⟨_, _, rfl⟩
  simp only [hR] at T HF ⊢
  have r1 := b1.range
  obtain ⟨m, hm⟩ : ∃ m, Lw.length = m := ⟨_, rfl⟩
  have HM := Lib.hid hm
  rw [hm] at T B1 r1 hW ⊢
  obtain ⟨n, hn⟩ : ∃ n, L.length = n := ⟨_, rfl⟩
  rw [hn] at T ⊢
  have hbw : w.heap.size < W.heap.size := by omega
  clear b1 hp hB hm hn hpw hOw hO hR hL hLw hG hs
  go_enter Tryz.func21, Tryz.ntmps21
  go_upto_region 1 with (fail)
  try rw [hW]
  clear hW
  obtain ⟨b0, hb0⟩ : ∃ b0, w.heap.size = b0 := ⟨_, rfl⟩
  simp only [hb0] at r1 B1 hbw ⊢
  have HB0 := Lib.hid hb0
  go_upto_region 2 with (first | (refine ld_stage 41 rfl ?_; refine wpList_load_mid rfl 41 _ rfl b0 0 rfl (OfL ⟨G, pw, m, cw⟩) _ r1 Tryz.underlying41 rfl (by rw [OfL_length]; exact infoOffice) ?_) | (go_at_call 14; refine T.out.mono ?_; rintro e V ⟨rfl, hV⟩) | (refine st_stage 36 rfl ?_; refine wpList_store_mid rfl 36 _ _ rfl _ 0 (Grd R) rfl rfl (by rw [Grd_size]; exact new_there _ V) (by rw [Grd_size]; exact infoGround) (Grd_one _) ?_; obtain ⟨X, hX, zX, gX, bX⟩ := stored_box R 36 V; rw [hX]; clear hX))
  have X1 := Lib.hid (B1.out.below (hV.trans (bX.mono hV.size)) hbw)
  have XW := Lib.hid (PW.out.keep (hV.trans (bX.mono hV.size)))
  have HX := Lib.hid (HB.out.trans ((hV.trans (bX.mono hV.size)).mono HB.out.size))
  have GX := Lib.hid gX
  obtain ⟨B, hB2⟩ : ∃ B, V.heap.size = B := ⟨_, rfl⟩
  rw [hB2] at GX ⊢
  clear hV bX gX zX hB2 hz r1 T PW B1 HB
  by_cases h0 : n0 = 0
  · subst h0
    obtain ⟨hv, _, _, hm6, hwt⟩ := HF.out rfl
    have HWT := Lib.hid (wt_cells hwt)
    have hm6 : m ≤ 6 := by rw [← HM.out]; exact hm6
    have V0 := Lib.hid (vrow_made X 23)
    have HA0 := Lib.hid (show Below X.heap.size X (X.alloc (.cells #[] 23)) from (Below.refl _ _).alloc (Nat.le_refl _) _)
    clear hv hwt HF
    go_upto_region 6 with (fail)
    go_loopw [8, 9] (fun (v i : Value) (wr : World) => ∃ (k g cap : Nat), k ≤ m ∧ i = .int .i64 (k : Int) ∧ v = .slice (some ⟨g, 0, none⟩) k cap ∧ Hid (VRow wr 23 g cap (((hwL R Lw).take k).map (Value.float .f32))) ∧ Hid (Below X.heap.size X wr ∧ X.heap.size ≤ g)) (fun _ i _ => m - (intOf i).toNat)
    case atStart => exact ⟨0, X.heap.size, 0, by omega, rfl, rfl, by simpa using V0, Lib.hid ⟨HA0.out, Nat.le_refl _⟩⟩
    case round =>
      obtain ⟨k, g, cap, hk, rfl, rfl, hv, hb⟩ := hrel
      have cs := (X1.out.below hb.out.1 X1.out.lt).s
      by_cases hlt : k < m
      · have hki : (k : Int) < m := by omega
        obtain ⟨e, he⟩ : ∃ e, Lw[k]? = some e := ⟨_, List.getElem?_eq_getElem (by rw [HM.out]; exact hlt)⟩
        obtain ⟨b, o, rfl, hr⟩ := (XW.out.keep hb.out.1) k e he
        obtain ⟨q, hq, hq64⟩ := HWT.out e (List.mem_of_getElem? he)
        obtain ⟨x, l⟩ := e
        obtain rfl : x = (q : Int) := hq
        have c0 : wr.cell? ⟨b, o + k * 2, none⟩ = some (.int .i8 (q : Int)) := hr 0 _ rfl
        have hh := (GX.out.below hb.out.1 GX.out.lt).at'.h
        rw [Nat.zero_add] at hh
        have cK := Grd_fld hh q hq64
        have hl : ((hwL R Lw).take k).length = k := by rw [List.length_take, hwL_len, HM.out]; omega
        have HSN := Lib.hid (hwL_snoc (R := R) he)
        clear hr hh he
        go_wp2_with (refine wpList_appF (by kernel_rfl) _ _ rfl hv.out hl (by omega) (R.h q) rfl (by simp [go_sem]; done) ?_; intro g2 cap2 w2 h1 h2 h3; have H1 := Lib.hid h1; have H2 := Lib.hid h2; have H3 := Lib.hid h3; clear h1 h2 h3)
        go_roundw
        case rel =>
          refine ⟨k + 1, g2, cap2, by omega, by go_num, rfl, by rw [HSN.out]; exact H1, Lib.hid ⟨hb.out.1.trans (grown_below H2.out hb.out.2 hb.out.1.size), ?_⟩⟩
          have h3 := H3.out
          have h4 := hb.out.1.size
          have h6 := hb.out.2
          rcases h3 with h3 | h3 <;> omega
        case measure => simp [intOf]; omega
      · obtain rfl : k = m := by omega
        go_wp2
        go_ret2
        have HW := hv.out
        have ht : (hwL R Lw).take k = hwL R Lw := List.take_of_length_le (by rw [hwL_len, HM.out]; exact Nat.le_refl _)
        rw [ht] at HW
        refine ⟨some ⟨g, 0, none⟩, cap, by rw [lvL_0, hwL_len, HM.out]; try rfl, fun i v hvv => ⟨g, rfl, ?_⟩, HX.out.trans (hb.out.1.mono HX.out.size)⟩
        rw [lvL_0] at hvv
        exact HW.cell i _ (by rw [List.getElem?_map, hvv]; rfl)
  · have hne : (n0 == 0) = false := by simp [h0]
    go_wp2
    go_ret2
    exact ⟨_, _, by rw [lvL_ne R Lw h0]; try rfl, by rw [lvL_ne R Lw h0]; exact cellsF_nil _ _, HX.out.alloc HX.out.size _⟩
end
section
open Go Go.RowKit Go.Shelf Ieee
attribute [local go_sem] Oper.semAt_some run_store_float

theorem set1_th {w wr : World} {b n k : Nat} (u : Value) (h : wr.there b 0 n ∧ (Below b w wr ∧ wr.heap.size = w.heap.size) ∧ ∀ x, x ≠ b → wr.heap[x]? = w.heap[x]?) :
    (wr.setCell ⟨b, k, none⟩ u).there b 0 n ∧ (Below b w (wr.setCell ⟨b, k, none⟩ u) ∧ (wr.setCell ⟨b, k, none⟩ u).heap.size = w.heap.size) ∧ ∀ x, x ≠ b → (wr.setCell ⟨b, k, none⟩ u).heap[x]? = w.heap[x]? :=
  ⟨there_setCell h.1, ⟨h.2.1.1.setCell (Nat.le_refl _) _, (size_setCellsW b [u] k wr).trans h.2.1.2⟩, fun x hx => (heap_setCellsP (o := k) [u] hx).trans (h.2.2 x hx)⟩
set_option maxRecDepth 100000 in
set_option maxHeartbeats 4000000 in
theorem markWatchS_th (b n c k0 : Nat) (hn : n ≤ 1048576) (hk : k0 ≤ 4194304) (w : World) (ht : w.there b 0 (n * 2)) :
    Calls Tryz.prog 59 #[.slice (some ⟨b, 0, none⟩) n c, .int .i64 (k0 : Int)] w fun e w' => e = .returned (.int .i64 ((k0 + 2 * n : Nat) : Int)) ∧ Below b w w' ∧ w'.heap.size = w.heap.size ∧ ∀ x, x ≠ b → w'.heap[x]? = w.heap[x]? := by
  have T0 := Lib.hid ht
  clear ht
  go_enter Tryz.func59, Tryz.ntmps59
  go_wp2
  go_loopw [5, 1] (fun i kk wr => ∃ k : Nat, k ≤ n ∧ i = .int .i64 k ∧ kk = .int .i64 ((k0 + 2 * k : Nat) : Int) ∧ Hid (wr.there b 0 (n * 2) ∧ (Below b w wr ∧ wr.heap.size = w.heap.size) ∧ ∀ x, x ≠ b → wr.heap[x]? = w.heap[x]?)) (fun i _ _ => n - (intOf i).toNat)
  case atStart => exact ⟨0, by omega, rfl, rfl, Lib.hid ⟨T0.out, ⟨Below.refl _ _, rfl⟩, fun _ _ => rfl⟩⟩
  case round =>
    obtain ⟨k, hk, rfl, rfl, hT⟩ := hrel
    by_cases hlt : k < n
    · have hki : (k : Int) < n := by omega
      obtain ⟨u0, hu0⟩ := Option.isSome_iff_exists.1 (hT.out.1 (k * 2) (by omega)).1
      have f0 := (hT.out.1 (k * 2) (by omega)).2
      obtain ⟨u1, hu1⟩ := Option.isSome_iff_exists.1 (hT.out.1 (k * 2 + 1) (by omega)).1
      have f1 := (hT.out.1 (k * 2 + 1) (by omega)).2
      simp only [Nat.zero_add] at hu0 f0 hu1 f1
      go_wp2
      go_roundw
      case rel => exact ⟨k + 1, by omega, by go_num, by go_num, Lib.hid (set1_th _ (set1_th _ (hT.out)))⟩
      case measure => simp [intOf]; omega
    · obtain rfl : k = n := by omega
      go_wp2
      go_ret
      exact ⟨rfl, hT.out.2.1.1, hT.out.2.1.2, hT.out.2.2⟩
set_option maxRecDepth 100000 in
set_option maxHeartbeats 4000000 in
theorem markPermitS_th (b n c k0 : Nat) (hn : n ≤ 1048576) (hk : k0 ≤ 4194304) (w : World) (ht : w.there b 0 (n * 3)) :
    Calls Tryz.prog 25 #[.slice (some ⟨b, 0, none⟩) n c, .int .i64 (k0 : Int)] w fun e w' => e = .returned (.int .i64 ((k0 + 3 * n : Nat) : Int)) ∧ Below b w w' ∧ w'.heap.size = w.heap.size ∧ ∀ x, x ≠ b → w'.heap[x]? = w.heap[x]? := by
  have T0 := Lib.hid ht
  clear ht
  go_enter Tryz.func25, Tryz.ntmps25
  go_wp2
  go_loopw [5, 1] (fun i kk wr => ∃ k : Nat, k ≤ n ∧ i = .int .i64 k ∧ kk = .int .i64 ((k0 + 3 * k : Nat) : Int) ∧ Hid (wr.there b 0 (n * 3) ∧ (Below b w wr ∧ wr.heap.size = w.heap.size) ∧ ∀ x, x ≠ b → wr.heap[x]? = w.heap[x]?)) (fun i _ _ => n - (intOf i).toNat)
  case atStart => exact ⟨0, by omega, rfl, rfl, Lib.hid ⟨T0.out, ⟨Below.refl _ _, rfl⟩, fun _ _ => rfl⟩⟩
  case round =>
    obtain ⟨k, hk, rfl, rfl, hT⟩ := hrel
    by_cases hlt : k < n
    · have hki : (k : Int) < n := by omega
      obtain ⟨u0, hu0⟩ := Option.isSome_iff_exists.1 (hT.out.1 (k * 3) (by omega)).1
      have f0 := (hT.out.1 (k * 3) (by omega)).2
      obtain ⟨u1, hu1⟩ := Option.isSome_iff_exists.1 (hT.out.1 (k * 3 + 1) (by omega)).1
      have f1 := (hT.out.1 (k * 3 + 1) (by omega)).2
      obtain ⟨u2, hu2⟩ := Option.isSome_iff_exists.1 (hT.out.1 (k * 3 + 2) (by omega)).1
      have f2 := (hT.out.1 (k * 3 + 2) (by omega)).2
      simp only [Nat.zero_add] at hu0 f0 hu1 f1 hu2 f2
      go_wp2
      go_roundw
      case rel => exact ⟨k + 1, by omega, by go_num, by go_num, Lib.hid (set1_th _ (set1_th _ (set1_th _ (hT.out))))⟩
      case measure => simp [intOf]; omega
    · obtain rfl : k = n := by omega
      go_wp2
      go_ret
      exact ⟨rfl, hT.out.2.1.1, hT.out.2.1.2, hT.out.2.2⟩
set_option maxRecDepth 100000 in
set_option maxHeartbeats 4000000 in
theorem toWatchS_th (p : Option Addr) (c : Nat) (L : List T2) (hL : L.length ≤ 1048576) (w : World) (hp : TsAt w p L) :
    Calls Tryz.prog 51 #[.slice p L.length c] w fun e w' => ∃ b, e = .returned (.slice (some ⟨b, 0, none⟩) L.length L.length) ∧ w.heap.size ≤ b ∧ b < w'.heap.size ∧ TsAt w' (some ⟨b, 0, none⟩) L ∧ w'.there b 0 (L.length * 2) ∧ Below w.heap.size w w' := by
  have P0 := Lib.hid hp
  obtain ⟨n, hn⟩ : ∃ n, L.length = n := ⟨_, rfl⟩
  have HN := Lib.hid hn
  rw [hn] at hL ⊢
  obtain ⟨C, hC, hmk⟩ := makeTs n hL
  clear hp hn
  go_enter Tryz.func51, Tryz.ntmps51
  go_wp2
  go_loopw [4] (fun i wr => ∃ k : Nat, k ≤ n ∧ i = .int .i64 k ∧ Hid (wr.there w.heap.size 0 (n * 2)) ∧ Hid (w.heap.size < wr.heap.size) ∧ Hid (∀ j e, j < k → L[j]? = some e → wr.rangeAt w.heap.size (0 + j * 2) (t2 e)) ∧ Hid (Below w.heap.size w wr)) (fun i _ => n - (intOf i).toNat)
  case atStart =>
    exact ⟨0, by omega, rfl, Lib.hid (there_row (heap_alloc_last w _) hC), Lib.hid (by simp), Lib.hid (fun j _ hj => absurd hj (by omega)), Lib.hid ((Below.refl _ _).alloc (Nat.le_refl _) _)⟩
  case round =>
    obtain ⟨k, hk, rfl, hT, hS, hA, hB⟩ := hrel
    by_cases hlt : k < n
    · have hki : (k : Int) < n := by omega
      obtain ⟨e, he⟩ : ∃ e, L[k]? = some e := ⟨_, List.getElem?_eq_getElem (by rw [HN.out]; exact hlt)⟩
      obtain ⟨b, o, rfl, hr⟩ := (P0.out.keep hB.out) k e he
      have R1 := Lib.hid hr
      have HE := Lib.hid he
      have T0 := fun V => toWatch_any e.1 e.2 V
      have c0 : wr.cell? ⟨b, o + k * 2, none⟩ = some (.int .i8 e.1) := hr 0 _ rfl
      have c1 : wr.cell? ⟨b, o + k * 2 + 1, none⟩ = some (.float .f32 e.2) := hr 1 _ rfl
      simp only [Wt] at T0
      clear hr he
      go_wp2_with (first | (go_at_call 85; refine (T0 _).mono ?_; rintro x V1 ⟨rfl, hq1⟩; have Q1 := Lib.hid hq1; have TH := Lib.hid (there_keep hT.out hS.out hq1); clear hq1 c0 c1) | (refine wpList_store_mid rfl 94 _ _ rfl w.heap.size (k * 2) #[.int .i8 e.1, .float .f32 e.2] rfl rfl (there_part TH.out (show k * 2 + 2 ≤ n * 2 by omega)) (by kernel_rfl) (wt_one e) ?_; obtain ⟨V2, hV2⟩ : ∃ V2, V1.setCells w.heap.size (k * 2) [.int .i8 e.1, .float .f32 e.2] = V2 := ⟨_, rfl⟩; try rw [hV2]; have HV := Lib.hid hV2; clear hV2))
      have HC := copiedT hlt hS.out hA.out hB.out HE.out Q1.out TH.out HV.out
      go_roundw
      case rel => exact ⟨k + 1, by omega, by go_num, Lib.hid HC.1, Lib.hid HC.2.1, Lib.hid HC.2.2.1, Lib.hid HC.2.2.2⟩
      case measure => simp [intOf]; omega
    · obtain rfl : k = n := by omega
      go_wp2
      go_ret
      exact ⟨_, rfl, Nat.le_refl _, hS.out, fun i e he => ⟨_, _, rfl, hA.out i e (by rw [← HN.out]; exact (List.getElem?_eq_some_iff.1 he).1) he⟩, by (try rw [HN.out]); exact hT.out, hB.out⟩
set_option maxRecDepth 100000 in
set_option maxHeartbeats 4000000 in
theorem toPermitS_th (p : Option Addr) (c : Nat) (L : List P3) (hL : L.length ≤ 1048576) (w : World) (hp : PsAt w p L) :
    Calls Tryz.prog 16 #[.slice p L.length c] w fun e w' => ∃ b, e = .returned (.slice (some ⟨b, 0, none⟩) L.length L.length) ∧ w.heap.size ≤ b ∧ b < w'.heap.size ∧ PsAt w' (some ⟨b, 0, none⟩) L ∧ w'.there b 0 (L.length * 3) ∧ Below w.heap.size w w' := by
  have P0 := Lib.hid hp
  obtain ⟨n, hn⟩ : ∃ n, L.length = n := ⟨_, rfl⟩
  have HN := Lib.hid hn
  rw [hn] at hL ⊢
  obtain ⟨C, hC, hmk⟩ := makePs n hL
  clear hp hn
  go_enter Tryz.func16, Tryz.ntmps16
  go_wp2
  go_loopw [4] (fun i wr => ∃ k : Nat, k ≤ n ∧ i = .int .i64 k ∧ Hid (wr.there w.heap.size 0 (n * 3)) ∧ Hid (w.heap.size < wr.heap.size) ∧ Hid (∀ j e, j < k → L[j]? = some e → wr.rangeAt w.heap.size (0 + j * 3) (p3 e)) ∧ Hid (Below w.heap.size w wr)) (fun i _ => n - (intOf i).toNat)
  case atStart =>
    exact ⟨0, by omega, rfl, Lib.hid (there_row (heap_alloc_last w _) hC), Lib.hid (by simp), Lib.hid (fun j _ hj => absurd hj (by omega)), Lib.hid ((Below.refl _ _).alloc (Nat.le_refl _) _)⟩
  case round =>
    obtain ⟨k, hk, rfl, hT, hS, hA, hB⟩ := hrel
    by_cases hlt : k < n
    · have hki : (k : Int) < n := by omega
      obtain ⟨e, he⟩ : ∃ e, L[k]? = some e := ⟨_, List.getElem?_eq_getElem (by rw [HN.out]; exact hlt)⟩
      obtain ⟨b, o, rfl, hr⟩ := (P0.out.keep hB.out) k e he
      have R1 := Lib.hid hr
      have HE := Lib.hid he
      have T0 := fun V => toPermit_any e.1 e.2.1 e.2.2 V
      have c0 : wr.cell? ⟨b, o + k * 3, none⟩ = some (.int .i8 e.1) := hr 0 _ rfl
      have c1 : wr.cell? ⟨b, o + k * 3 + 1, none⟩ = some (.int .i8 e.2.1) := hr 1 _ rfl
      have c2 : wr.cell? ⟨b, o + k * 3 + 2, none⟩ = some (.int .i16 e.2.2) := hr 2 _ rfl
      simp only [Pm] at T0
      clear hr he
      go_wp2_with (first | (go_at_call 52; refine (T0 _).mono ?_; rintro x V1 ⟨rfl, hq1⟩; have Q1 := Lib.hid hq1; have TH := Lib.hid (there_keep hT.out hS.out hq1); clear hq1 c0 c1 c2) | (refine wpList_store_mid rfl 82 _ _ rfl w.heap.size (k * 3) #[.int .i8 e.1, .int .i8 e.2.1, .int .i16 e.2.2] rfl rfl (there_part TH.out (show k * 3 + 3 ≤ n * 3 by omega)) (by kernel_rfl) (pm_one e) ?_; obtain ⟨V2, hV2⟩ : ∃ V2, V1.setCells w.heap.size (k * 3) [.int .i8 e.1, .int .i8 e.2.1, .int .i16 e.2.2] = V2 := ⟨_, rfl⟩; try rw [hV2]; have HV := Lib.hid hV2; clear hV2))
      have HC := copiedP hlt hS.out hA.out hB.out HE.out Q1.out TH.out HV.out
      go_roundw
      case rel => exact ⟨k + 1, by omega, by go_num, Lib.hid HC.1, Lib.hid HC.2.1, Lib.hid HC.2.2.1, Lib.hid HC.2.2.2⟩
      case measure => simp [intOf]; omega
    · obtain rfl : k = n := by omega
      go_wp2
      go_ret
      exact ⟨_, rfl, Nat.le_refl _, hS.out, fun i e he => ⟨_, _, rfl, hA.out i e (by rw [← HN.out]; exact (List.getElem?_eq_some_iff.1 he).1) he⟩, hT.out, hB.out⟩
set_option maxRecDepth 100000 in
set_option maxHeartbeats 4000000 in
theorem toOffice_th (G : Gd) (p : Option Addr) (c : Nat) (L : List T2) (hL : L.length ≤ 1048576) (w : World) (hp : TsAt w p L) :
    Calls Tryz.prog 15 #[.agg (OfA ⟨G, p, L.length, c⟩)] w fun e w' => ∃ b, e = .returned (.agg (OfA ⟨G, some ⟨b, 0, none⟩, L.length, L.length⟩)) ∧ w.heap.size ≤ b ∧ b < w'.heap.size ∧ TsAt w' (some ⟨b, 0, none⟩) L ∧ w'.there b 0 (L.length * 2) ∧ Below w.heap.size w w' := by
  have hz := (zero_of_info zeroOffice).1
  have TW := Lib.hid (fun V (h : TsAt V p L) => toWatchS_th p c L hL V h)
  have HP := Lib.hid hp
  obtain ⟨n, hn⟩ : ∃ n, L.length = n := ⟨_, rfl⟩
  rw [hn] at TW ⊢
  obtain ⟨B, hBe⟩ : ∃ B : Ofc, (⟨G, p, n, c⟩ : Ofc) = B := ⟨_, rfl⟩
  rw [hBe]
  clear hp hn hL
  go_enter Tryz.func15, Tryz.ntmps15
  go_upto_region 2 with (fail)
  clear hz
  obtain ⟨W, hW, hs, b1, b2, b3, hB⟩ := obox3 B zO zO 30 41 41 w
  rw [hW]
  clear hW
  have n1 : w.heap.size < W.heap.size := by omega
  have n2 : w.heap.size + 1 < W.heap.size := by omega
  have n3 : w.heap.size + 1 + 1 < W.heap.size := by omega
  clear hs
  have r1 : W.rangeAt w.heap.size 0 (GrdL G) := by have := b1.grd.range; rwa [← hBe] at this
  go_upto_region 3 with (first | (refine wpList_load_mid rfl 27 _ rfl (w.heap.size) 0 rfl (GrdL G) _ r1 Tryz.underlying27 rfl (by rw [GrdL_length]; exact infoLGround) ?_) | (go_at_call 50; refine (toGround_any G _).mono ?_; rintro e V1 ⟨rfl, hb1⟩; have t1 := there_lessO (m := 195) (b3.below hb1 n3).there (by omega)) | (refine wpList_store_mid rfl 36 _ _ rfl _ 0 (Grd G) rfl rfl (by rw [Grd_size]; exact t1) (by rw [Grd_size]; exact infoGround) (Grd_one G) ?_))
  obtain ⟨W1, hW1⟩ : ∃ W, V1.setCells (w.heap.size + 1 + 1) 0 (Grd G).toList = W := ⟨_, rfl⟩
  have c1 : OfBox W1 w.heap.size B := by rw [← hW1]; exact (b1.below hb1 n1).fars (by omega)
  have c2 : OfBox W1 (w.heap.size + 1) zO := by rw [← hW1]; exact (b2.below hb1 n2).fars (by omega)
  have c3 : OfBox W1 (w.heap.size + 1 + 1) { zO with G := G } := by rw [← hW1]; exact (b3.below hb1 n3).storeGr
  have cB : Below w.heap.size w W1 := by rw [← hW1]; exact below_setCells _ (by omega) _ _ _ (hB.trans (hb1.mono (by omega)))
  rw [hW1]
  clear hW1 r1 b1 b2 b3 hB n1 n2 n3 hb1 t1
  have s1 : W1.cell? ⟨w.heap.size, 195, none⟩ = some (.slice p n c) := by have := c1.s; rwa [← hBe] at this
  clear hBe
  have m1 := c1.lt
  have m2 := c2.lt
  have m3 := c3.lt
  go_upto_region 4 with (go_at_call 51; refine (TW.out _ (HP.out.keep cB)).mono ?_; rintro e V2 ⟨b, rfl, hb1, hb2, ht, hth, hq⟩; have d2 := c2.below hq m2; have d3 := c3.below hq m3; have dB := cB.trans (hq.mono cB.size); have HT := Lib.hid ht; have HTH := Lib.hid hth; obtain ⟨u, hu⟩ := Option.isSome_iff_exists.1 (d3.at_some 195 (by omega)); have f4 := d3.free 195 (by omega); have n2 := Lib.hid d2.lt; have hb1' := Lib.hid (Nat.le_trans cB.size hb1); have hb9 := Lib.hid hb1; clear s1 c1 c2 c3 hq ht hth m1 hb1 TW)
  obtain ⟨W4, hW4⟩ : ∃ X, V2.setCell ⟨w.heap.size + 1 + 1, 195, none⟩ (.slice (some ⟨b, 0, none⟩) n n) = X := ⟨_, rfl⟩
  have c2 : OfBox W4 (w.heap.size + 1) zO := by rw [← hW4]; exact d2.far (by omega)
  have c3 : OfBox W4 (w.heap.size + 1 + 1) ⟨G, some ⟨b, 0, none⟩, n, n⟩ := by rw [← hW4]; exact d3.putS
  have cB4 : Below w.heap.size w W4 := by rw [← hW4]; exact dB.setCell (p := ⟨w.heap.size + 1 + 1, 195, none⟩) (by simp; omega) _
  have hbz : w.heap.size + 1 + 1 < b := by have := hb9.out; omega
  have ht4 : TsAt W4 (some ⟨b, 0, none⟩) L := by
    rw [← hW4]
    intro i e he
    obtain ⟨b', o', hbo, hr⟩ := HT.out i e he
    cases hbo
    exact ⟨_, _, rfl, range_setCell_far hr (.inl (by omega))⟩
  have hth4 := Lib.hid (show W4.there b 0 (n * 2) by rw [← hW4]; exact there_setCell HTH.out)
  have hz4 : b < W4.heap.size := by rw [← hW4]; simpa using hb2
  rw [hW4]
  clear hW4 hu f4 d2 d3 dB cB
  have r5 := c3.range
  have t5 := c2.there
  have HT4 := Lib.hid ht4
  have HZ4 := Lib.hid hz4
  clear ht4 hz4 HT
  go_wp2_with (first | (refine wpList_load_mid rfl 41 _ rfl (w.heap.size + 1 + 1) 0 rfl (OfL ⟨G, some ⟨b, 0, none⟩, n, n⟩) _ r5 Tryz.underlying41 rfl (by rw [OfL_length]; exact infoOffice) ?_) | (refine wpList_store_mid rfl 41 _ _ rfl _ 0 (OfA ⟨G, some ⟨b, 0, none⟩, n, n⟩) rfl rfl (by rw [OfA_size]; exact t5) (by rw [OfA_size]; exact infoOffice) (OfA_one _) ?_))
  refine bodyPost_ret (results_cell_mid rfl _ _ _ 0 (OfA ⟨G, some ⟨b, 0, none⟩, n, n⟩).toList _ rfl c2.store.range Tryz.underlying41 rfl (by rw [OfA_toList, OfL_length]; exact infoOffice)) rfl ⟨b, by rw [Array.toArray_toList], hb1'.out, by rw [size_setCells]; exact HZ4.out, ?_, World.there_setCells hth4.out _ _ _, below_setCells _ (by omega) _ _ _ cB4⟩
  intro i e he
  obtain ⟨b', o', hbo, hr⟩ := HT4.out i e he
  cases hbo
  exact ⟨_, _, rfl, World.rangeAt_setCells_apart hr _ _ _ (.inl (by omega))⟩
set_option maxRecDepth 100000 in
set_option maxHeartbeats 4000000 in
theorem markOffice_th (G : Gd) (b m cw k0 : Nat) (hm : m ≤ 1048576) (hk : k0 ≤ 4194304) (w : World) (ht : w.there b 0 (m * 2)) (hb : b < w.heap.size) :
    Calls Tryz.prog 24 #[.agg (OfA ⟨G, some ⟨b, 0, none⟩, m, cw⟩), .int .i64 (k0 : Int)] w fun e w' => e = .returned (.int .i64 ((k0 + 2 * m : Nat) : Int)) ∧ Below b w w' ∧ w.heap.size ≤ w'.heap.size ∧ ∀ x, x ≠ b → x < w.heap.size → w'.heap[x]? = w.heap[x]? := by
  obtain ⟨W, hW, hs, b1, hB⟩ := obox1 ⟨G, some ⟨b, 0, none⟩, m, cw⟩ 41 w
  have T := Lib.hid (markWatchS_th b m cw k0 hm hk W (there_below ht hB hb))
  have s0 : W.cell? ⟨w.heap.size, 195, none⟩ = some (.slice (some ⟨b, 0, none⟩) m cw) := b1.s
  have HB := Lib.hid hB
  obtain ⟨K, hK⟩ : ∃ K : Nat, k0 + 2 * m = K := ⟨_, rfl⟩
  rw [hK] at T ⊢
  obtain ⟨A, hA⟩ : ∃ A, OfA ⟨G, some ⟨b, 0, none⟩, m, cw⟩ = A := ⟨_, rfl⟩
  rw [hA] at hW ⊢
  clear b1 hB ht hA hK
  go_enter Tryz.func24, Tryz.ntmps24
  go_upto_region 1 with (fail)
  try rw [hW]
  clear hW
  go_wp2_with (go_at_call 59; refine T.out.mono ?_; rintro e V ⟨rfl, h1, h2, h3⟩; have H1 := Lib.hid h1; have H3 := Lib.hid h3; clear h1 h3)
  go_ret
  refine ⟨rfl, (HB.out.mono (Nat.le_of_lt hb)).trans H1.out, by omega, fun x hx hl => (H3.out x hx).trans (HB.out.block x hl)⟩
end
end Go.Proofs.YtaghnminpfgdcaaGreatDoor
