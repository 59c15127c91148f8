/- Lists of whole numbers that are arguments: opened, copied, compared. Condition: at most 2^20 numbers. -/
import Derived.Test.YtaghnminpfgdcaaGreatDoorIntE
import Derived.Test.YtaghnminpfgdcaaGreatDoorPm
namespace Go.Proofs.YtaghnminpfgdcaaGreatDoor
open Go Go.RowKit Go.ChangeShapes Go.WideShapes Go.ChangeAt Go.Deep
set_option linter.unusedSimpArgs false
set_option linter.unusedVariables false

def IsAt (w : World) (p : Option Addr) (M : List Int) : Prop := ∀ (k : Nat) (v : Int), M[k]? = some v → ∃ b o, p = some ⟨b, o, none⟩ ∧ w.cell? ⟨b, o + k, none⟩ = some (.int .i64 v)
theorem IsAt.keep {w w' : World} {p : Option Addr} {M : List Int} (h : IsAt w p M) (hB : Below w.heap.size w w') : IsAt w' p M := fun k v hv => by
  obtain ⟨b, o, h1, h2⟩ := h k v hv
  exact ⟨b, o, h1, (hB.cell (p := ⟨b, o + k, none⟩) (World.block_lt_of_cell? w _ h2)).trans h2⟩
theorem index_iz {op : Oper} {a : Act} {x y : Operand} {b o n c k : Nat} (ho : op.op = .indexAddr 62 x y) (hx : a.eval x = .slice (some ⟨b, o, none⟩) n c) (hy : a.eval y = .int .i64 k) (hk : k < n) (w : World) :
    (execOp a.eval op).run Tryz.prog w = .ok (.value (.pointer (some ⟨b, o + k, none⟩))) w := by
  unfold execOp
  simp only [ho, hx, hy]
  go_simp
section
variable {H : Type} {enc : TypeId × Value → H} {w : World} {base : Nat} {spare : Nat → Bool} {held : Bool}
theorem cellsIz : Tryz.prog.cellsOf 2 = 1 := by kernel_rfl
theorem open_is {v : Value} {d : DataW H} {ps : List MemPlace} (hv : ∃ a len cap, v = .slice a len cap) (h : DataW.Trod enc Tryz.prog w base spare held 62 v d ps) :
    ∃ (p : Option Addr) (c : Nat) (M : List Int), v = .slice p M.length c ∧ M.length ≤ maxLen ∧ IsAt w p M := by
  obtain ⟨a, len, cap, rfl⟩ := hv
  obtain ⟨fuel, hf⟩ := h
  rcases open_ints Tryz.underlying62 Tryz.underlying2 cellsIz hf with ⟨h0, _⟩ | ⟨a', len', cap', zs, hcs, _, hlc, hcm, hzl, _, hc, _⟩
  · have h0' : [Value.slice a len cap] = [Value.slice none 0 0] := h0
    cases h0'
    exact ⟨none, 0, [], rfl, Nat.zero_le _, fun i e he => by simp at he⟩
  · have hcs' : [Value.slice a len cap] = [Value.slice (some a') len' cap'] := hcs
    cases hcs'
    have hlz : len ≤ zs.length := by rw [hzl]; split <;> omega
    have hl : (zs.take len).length = len := by rw [List.length_take]; omega
    refine ⟨some a', cap, zs.take len, by rw [hl], by rw [hl]; omega, fun k v hk => ?_⟩
    have hkl : k < len := by have := (List.getElem?_eq_some_iff.1 hk).1; rwa [hl] at this
    have hcell : ∀ i, i < len → w.cell? (a'.add i) = some (.int .i64 (zs.getD i 0)) := fun i hi => hc i (by omega)
    have hkv : zs.getD k 0 = v := by
      rw [List.getElem?_take, if_pos hkl] at hk
      simp [List.getD, hk]
    have h0 := hcell 0 (by omega)
    have h1 := hcell k hkl
    obtain ⟨bb, oo, sp⟩ := a'
    have hsp : sp = none := by
      cases sp with
      | none => rfl
      | some x =>
        exfalso
        have ha : (⟨bb, oo, some x⟩ : Addr).add 0 = ⟨bb, oo, some x⟩ := rfl
        rw [ha] at h0
        unfold World.cell? at h0
        cases hh : w.heap[bb]? with
        | none => simp [hh] at h0
        | some ob => cases ob <;> simp [hh] at h0
    subst hsp
    refine ⟨bb, oo, rfl, ?_⟩
    rw [Addr.add_mid, hkv] at h1
    exact h1
end
/-- The zeros of a list that is made. -/
theorem makeIz (n : Nat) (hn : n ≤ 1048576) : ∃ C : Array Value, C.size = n * 1 ∧ ∀ w, (Instr.makeSlice 62 (.int .i64 (n : Int)) (.int .i64 (n : Int))).run Tryz.prog w = .ok (.slice (some ⟨w.heap.size, 0, none⟩) n n) (w.alloc (.cells C 2)) := by
  obtain ⟨i, hi, hz, hs, hb⟩ := info_parts (P := Tryz.prog) (e := 2) (z := .int .i64 0) (size := 1) (bytes := 8) (by kernel_rfl)
  refine ⟨madeCells (Value.cells (.int .i64 0)) (n * i.size), by rw [size_madeCells, hs], fun w => ?_⟩
  have hr := run_make (P := Tryz.prog) w 62 2 i (.int .i64 0) Tryz.underlying62 hi hz .i64 .i64 n n (by omega) (by omega) (by rw [hb]; omega) (by omega)
  simp only [Int.toNat_natCast] at hr
  exact hr
/-- One round of the copy: one number more lies there. -/
theorem copiedIz {w wr V2 : World} {n k : Nat} {M : List Int} {e : Int} (hlt : k < n) (hS : w.heap.size < wr.heap.size) (hA : ∀ (j : Nat) (e : Int), j < k → M[j]? = some e → wr.cell? ⟨w.heap.size, j, none⟩ = some (.int .i64 e)) (hB : Below w.heap.size w wr)
    (he : M[k]? = some e) (ht : wr.there w.heap.size 0 n) (hv : V2 = wr.setCell ⟨w.heap.size, k, none⟩ (.int .i64 e)) :
    V2.there w.heap.size 0 n ∧ w.heap.size < V2.heap.size ∧ (∀ (j : Nat) (e : Int), j < k + 1 → M[j]? = some e → V2.cell? ⟨w.heap.size, j, none⟩ = some (.int .i64 e)) ∧ Below w.heap.size w V2 := by
  have he2 : V2 = wr.setCells w.heap.size k [.int .i64 e] := hv
  subst he2
  have hts : wr.there w.heap.size k 1 := fun j hj => by
    have := ht (k + j) (by omega)
    rwa [Nat.zero_add] at this
  refine ⟨World.there_setCells ht _ _ _, by rw [size_setCellsW]; exact hS, fun j f hj hf => ?_, below_setCells _ (Nat.le_refl _) _ _ _ hB⟩
  by_cases hjk : j = k
  · subst hjk
    rw [he] at hf
    cases hf
    exact World.rangeAt_setCells_same _ _ _ _ hts 0 _ rfl
  · have hr : wr.rangeAt w.heap.size j [.int .i64 f] := fun i v hi => by
      have h1 : i < 1 := (List.getElem?_eq_some_iff.1 hi).1
      obtain rfl : i = 0 := by omega
      cases hi
      exact hA j f (by omega) hf
    exact World.rangeAt_setCells_apart hr _ _ _ (.inr (.inl (by simp; omega))) 0 _ rfl
set_option maxRecDepth 100000 in
set_option maxHeartbeats 2000000 in
theorem toInt64S_any (p : Option Addr) (c : Nat) (M : List Int) (hM : M.length ≤ 1048576) (w : World) (hp : IsAt w p M) :
    Calls Tryz.prog 39 #[.slice p M.length c] w fun e w' => ∃ b, e = .returned (.slice (some ⟨b, 0, none⟩) M.length M.length) ∧ w.heap.size ≤ b ∧ b < w'.heap.size ∧ IsAt w' (some ⟨b, 0, none⟩) M ∧ Below w.heap.size w w' := by
  have P0 := Lib.hid hp
  obtain ⟨n, hn⟩ : ∃ n, M.length = n := ⟨_, rfl⟩
  have HN := Lib.hid hn
  rw [hn] at hM ⊢
  obtain ⟨C, hC, hmk⟩ := makeIz n hM
  rw [Nat.mul_one] at hC
  clear hp hn
  go_enter Tryz.func39, Tryz.ntmps39
  go_wp2
  go_loopw [4] (fun i wr => ∃ k : Nat, k ≤ n ∧ i = .int .i64 k ∧ Hid (wr.there w.heap.size 0 n) ∧ Hid (w.heap.size < wr.heap.size) ∧ Hid (∀ (j : Nat) (e : Int), j < k → M[j]? = some e → wr.cell? ⟨w.heap.size, j, none⟩ = some (.int .i64 e)) ∧ Hid (Below w.heap.size w wr)) (fun i _ => n - (intOf i).toNat)
  case atStart =>
    exact ⟨0, by omega, rfl, Lib.hid (there_row (heap_alloc_last w _) hC), Lib.hid (by simp), Lib.hid (fun j _ hj => absurd hj (by omega)), Lib.hid ((Below.refl _ _).alloc (Nat.le_refl _) _)⟩
  case round =>
    obtain ⟨k, hk, rfl, hT, hS, hA, hB⟩ := hrel
    by_cases hlt : k < n
    · have hki : (k : Int) < n := by omega
      obtain ⟨e, he⟩ : ∃ e, M[k]? = some e := ⟨_, List.getElem?_eq_getElem (by rw [HN.out]; exact hlt)⟩
      obtain ⟨b, o, rfl, c0⟩ := (P0.out.keep hB.out) k e he
      have HE := Lib.hid he
      obtain ⟨u0, hu0⟩ := Option.isSome_iff_exists.1 (hT.out k hlt).1
      have f0 := (hT.out k hlt).2
      simp only [Nat.zero_add] at hu0 f0
      clear he
      go_wp2
      have HC := @copiedIz w wr _ n k M e hlt hS.out hA.out hB.out HE.out hT.out rfl
      go_roundw
      case rel => exact ⟨k + 1, by omega, by go_num, Lib.hid HC.1, Lib.hid HC.2.1, Lib.hid HC.2.2.1, Lib.hid HC.2.2.2⟩
      case measure => simp [intOf]; omega
    · obtain rfl : k = n := by omega
      go_wp2
      go_ret
      exact ⟨_, rfl, Nat.le_refl _, hS.out, fun i e he => ⟨_, _, rfl, by rw [Nat.zero_add]; exact hA.out i e (by rw [← HN.out]; exact (List.getElem?_eq_some_iff.1 he).1) he⟩, hB.out⟩
set_option maxRecDepth 100000 in
set_option maxHeartbeats 2000000 in
theorem eqInt64S_is (p q : Option Addr) (c d : Nat) (M : List Int) (hM : M.length ≤ 1048576) (w : World) (hp : IsAt w p M) (hq : IsAt w q M) :
    Calls Tryz.prog 35 #[.slice p M.length c, .slice q M.length d] w fun e w' => e = .returned (.bool true) ∧ Below w.heap.size w w' := by
  have P0 := Lib.hid hp
  have Q0 := Lib.hid hq
  obtain ⟨n, hn⟩ : ∃ n, M.length = n := ⟨_, rfl⟩
  have HN := Lib.hid hn
  rw [hn] at hM ⊢
  clear hp hq hn
  go_enter Tryz.func35, Tryz.ntmps35
  go_upto_region 4 with (fail)
  go_loopw [5] (fun i wr => ∃ k : Nat, k ≤ n ∧ i = .int .i64 k ∧ Hid (Below w.heap.size w wr)) (fun i _ => n - (intOf i).toNat)
  case atStart => exact ⟨0, by omega, rfl, Lib.hid (Below.refl _ _)⟩
  case round =>
    obtain ⟨k, hk, rfl, hB⟩ := hrel
    by_cases hlt : k < n
    · have hki : (k : Int) < n := by omega
      obtain ⟨e, he⟩ : ∃ e, M[k]? = some e := ⟨_, List.getElem?_eq_getElem (by rw [HN.out]; exact hlt)⟩
      obtain ⟨b, o, rfl, c0⟩ := (P0.out.keep hB.out) k e he
      obtain ⟨b', o', rfl, c1⟩ := (Q0.out.keep hB.out) k e he
      go_upto_region 6 with (fail)
      refine wp_region_calm (ops' := regOf Tryz.f35 6) [0, 1, 2, 3, 4, 5, 6, 7, 8] [] .fin (Below (wr.heap.size) wr) [(0, One (.slice (some ⟨b, o, none⟩) n c)), (1, One (.int .i64 (k : Int))), (2, One (.pointer (some ⟨b, o + k, none⟩))), (3, One (.int .i64 e)), (4, One (.slice (some ⟨b', o', none⟩) n d)), (5, One (.int .i64 (k : Int))), (6, One (.pointer (some ⟨b', o' + k, none⟩))), (7, One (.int .i64 e)), (8, One (.bool false))] (by kernel_rfl) (by kernel_rfl) (by kernel_rfl) (by kernel_rfl) (by kernel_rfl) (by kernel_rfl) (by kernel_rfl) (by kernel_rfl) rfl ((Below.refl _ _).drew) ?_
      refine calm_pure (some 17) (by kernel_rfl) (by kernel_rfl) (by kernel_rfl) (fun _ => by kernel_rfl) ?_
      refine calm_pure (some 18) (by kernel_rfl) (by kernel_rfl) (by kernel_rfl) (fun _ => by kernel_rfl) ?_
      refine calm_pure (some 19) (by kernel_rfl) (by kernel_rfl) (by kernel_rfl) (fun _ => (index_iz (n := n) (c := c) (k := k) (x := .tmp 17) (y := .tmp 18) (by kernel_rfl) (by kernel_rfl) (by kernel_rfl) hlt _)) ?_
      refine calm_read (some 20) (by kernel_rfl) (by kernel_rfl) (by kernel_rfl) (fun w' hw' => load_cell (ty := 2) (x := .tmp 19) (b := b) (o := o + k) (by kernel_rfl) (by kernel_rfl) Tryz.underlying2 rfl ((fun w' (hw' : Below (wr.heap.size) wr w') => (hw'.cell (p := ⟨b, o + k, none⟩) (World.block_lt_of_cell? wr _ c0)).trans c0) w' hw')) ?_
      refine calm_pure (some 21) (by kernel_rfl) (by kernel_rfl) (by kernel_rfl) (fun _ => by kernel_rfl) ?_
      refine calm_pure (some 22) (by kernel_rfl) (by kernel_rfl) (by kernel_rfl) (fun _ => by kernel_rfl) ?_
      refine calm_pure (some 23) (by kernel_rfl) (by kernel_rfl) (by kernel_rfl) (fun _ => (index_iz (n := n) (c := d) (k := k) (x := .tmp 21) (y := .tmp 22) (by kernel_rfl) (by kernel_rfl) (by kernel_rfl) hlt _)) ?_
      refine calm_read (some 24) (by kernel_rfl) (by kernel_rfl) (by kernel_rfl) (fun w' hw' => load_cell (ty := 2) (x := .tmp 23) (b := b') (o := o' + k) (by kernel_rfl) (by kernel_rfl) Tryz.underlying2 rfl ((fun w' (hw' : Below (wr.heap.size) wr w') => (hw'.cell (p := ⟨b', o' + k, none⟩) (World.block_lt_of_cell? wr _ c1)).trans c1) w' hw')) ?_
      refine calm_pure (some 25) (by kernel_rfl) (by kernel_rfl) (by kernel_rfl) (fun _ => (neq_same (x := .tmp 20) (y := .tmp 24) (v := e) (by kernel_rfl) (by kernel_rfl) (by kernel_rfl) _)) ?_
      refine calm_end fun w' hw' => plan_end (Clean.normal ?_)
      have HQ := Lib.hid (hB.out.trans (hw'.mono hB.out.size))
      clear hw' c0 c1
      simp only [Act.put, List.setIfInBounds_toArray, List.set_cons_zero, List.set_cons_succ]
      go_wp2
      go_roundw
      case rel => exact ⟨k + 1, by omega, by go_num, HQ⟩
      case measure => simp [intOf]; omega
    · obtain rfl : k = n := by omega
      go_wp2
      go_ret
      exact ⟨rfl, hB.out⟩
end Go.Proofs.YtaghnminpfgdcaaGreatDoor
