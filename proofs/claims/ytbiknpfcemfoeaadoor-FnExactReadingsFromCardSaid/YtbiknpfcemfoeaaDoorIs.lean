/- Lists of whole numbers in memory: the law's copy of one (toInt64S), its comparison with another that is the same (eqInt64S), and an argument that is one, opened. Condition: at most 2^20 of them. -/
import Derived.Test.YtbiknpfcemfoeaaDoorLiftS
namespace Go.Proofs.YtbiknpfcemfoeaaDoor
open Go Go.ChangeShapes Go.WideShapes Go.ChangeAt Go.RowKit Go.Deep Ieee
set_option linter.unusedSimpArgs false
set_option linter.unusedVariables false

/-- The numbers of L lie behind one another where the slice begins. -/
def IsAt (w : World) (p : Option Addr) (L : List Int) : Prop := ∀ (i : Nat) (e : Int), L[i]? = some e → ∃ b o, p = some ⟨b, o, none⟩ ∧ w.cell? ⟨b, o + i, none⟩ = some (.int .i64 e)
theorem IsAt.below {w w' : World} {p : Option Addr} {L : List Int} (h : IsAt w p L) {B : Nat} (hb : ∀ b o, p = some ⟨b, o, none⟩ → b < B) (hB : Below B w w') : IsAt w' p L := fun i e he => by
  obtain ⟨b, o, hp, hr⟩ := h i e he
  exact ⟨b, o, hp, (hB.cell (p := ⟨b, o + i, none⟩) (hb b o hp)).trans hr⟩
theorem IsAt.lt {w : World} {p : Option Addr} {L : List Int} (h : IsAt w p L) : L ≠ [] → ∀ b o, p = some ⟨b, o, none⟩ → b < w.heap.size := fun hne b o hp => by
  cases L with
  | nil => exact absurd rfl hne
  | cons e L =>
    obtain ⟨b', o', hp', hr⟩ := h 0 e rfl
    rw [hp] at hp'
    cases hp'
    exact World.block_lt_of_cell? w _ hr
theorem IsAt.keep {w w' : World} {p : Option Addr} {L : List Int} (h : IsAt w p L) (hB : Below w.heap.size w w') : IsAt w' p L := by
  by_cases hne : L = []
  · subst hne; intro i e he; simp at he
  · exact h.below (h.lt hne) hB
/-- The address of an element of a slice of numbers. -/
theorem index_is {op : Oper} {a : Act} {x y : Operand} {b o n c k : Nat} (ho : op.op = .indexAddr 40 x y) (hx : a.eval x = .slice (some ⟨b, o, none⟩) n c) (hy : a.eval y = .int .i64 k) (hk : k < n) (w : World) :
    (execOp a.eval op).run Tryd.prog w = .ok (.value (.pointer (some ⟨b, o + k, none⟩))) w := by
  unfold execOp
  simp only [ho, hx, hy]
  go_simp
theorem neq_is {op : Oper} {a : Act} {x y : Operand} {v : Int} (ho : op.op = .binOp .neq 2 x y 2) (hx : a.eval x = .int .i64 v) (hy : a.eval y = .int .i64 v) (w : World) :
    (execOp a.eval op).run Tryd.prog w = .ok (.value (.bool false)) w := by
  unfold execOp
  simp only [ho, hx, hy]
  go_simp
set_option maxRecDepth 100000 in
set_option maxHeartbeats 4000000 in
theorem eqInt64S_is (p q : Option Addr) (c d : Nat) (xs : List Int) (hL : xs.length ≤ 1048576) (w : World) (hp : IsAt w p xs) (hq : IsAt w q xs) :
    Calls Tryd.prog 18 #[.slice p xs.length c, .slice q xs.length d] w fun e w' => e = .returned (.bool true) ∧ Below w.heap.size w w' := by
  have P0 := Lib.hid hp
  have Q0 := Lib.hid hq
  obtain ⟨n, hn⟩ : ∃ n, xs.length = n := ⟨_, rfl⟩
  have HN := Lib.hid hn
  rw [hn] at hL ⊢
  clear hp hq hn
  go_enter Tryd.func18, Tryd.ntmps18
  go_upto_region 4 with (fail)
  go_loopw [5] (fun i wr => ∃ k : Nat, k ≤ n ∧ i = .int .i64 k ∧ Hid (Below w.heap.size w wr)) (fun i _ => n - (intOf i).toNat)
  case atStart => exact ⟨0, by omega, rfl, Lib.hid (Below.refl _ _)⟩
  case round =>
    obtain ⟨k, hk, rfl, hB⟩ := hrel
    by_cases hlt : k < n
    · have hki : (k : Int) < n := by omega
      obtain ⟨e, he⟩ : ∃ e, xs[k]? = some e := ⟨_, List.getElem?_eq_getElem (by rw [HN.out]; exact hlt)⟩
      obtain ⟨b, o, rfl, c0'⟩ := P0.out k e he
      obtain ⟨b', o', rfl, c1'⟩ := Q0.out k e he
      have c0 := (hB.out.cell (p := ⟨b, o + k, none⟩) (World.block_lt_of_cell? w _ c0')).trans c0'
      have c1 := (hB.out.cell (p := ⟨b', o' + k, none⟩) (World.block_lt_of_cell? w _ c1')).trans c1'
      clear c0' c1'
      go_upto_region 6 with (fail)
      refine wp_region_calm (ops' := regOf Tryd.f18 6) [0, 1, 2, 3, 4, 5, 6, 7, 8] [] .fin (Below (wr.heap.size) wr) [(0, One (.slice (some ⟨b, o, none⟩) n c)), (1, One (.int .i64 (k : Int))), (2, One (.pointer (some ⟨b, o + k, none⟩))), (3, One (.int .i64 e)), (4, One (.slice (some ⟨b', o', none⟩) n d)), (5, One (.int .i64 (k : Int))), (6, One (.pointer (some ⟨b', o' + k, none⟩))), (7, One (.int .i64 e)), (8, One (.bool false))] (by kernel_rfl) (by kernel_rfl) (by kernel_rfl) (by kernel_rfl) (by kernel_rfl) (by kernel_rfl) (by kernel_rfl) (by kernel_rfl) rfl ((Below.refl _ _).drew) ?_
      refine calm_pure (some 17) (by kernel_rfl) (by kernel_rfl) (by kernel_rfl) (fun _ => by kernel_rfl) ?_
      refine calm_pure (some 18) (by kernel_rfl) (by kernel_rfl) (by kernel_rfl) (fun _ => by kernel_rfl) ?_
      refine calm_pure (some 19) (by kernel_rfl) (by kernel_rfl) (by kernel_rfl) (fun _ => (index_is (n := n) (c := c) (k := k) (x := .tmp 17) (y := .tmp 18) (by kernel_rfl) (by kernel_rfl) (by kernel_rfl) hlt _)) ?_
      refine calm_read (some 20) (by kernel_rfl) (by kernel_rfl) (by kernel_rfl) (fun w' hw' => load_cell (ty := 2) (x := .tmp 19) (b := b) (o := o + k) (by kernel_rfl) (by kernel_rfl) Tryd.underlying2 rfl ((fun w' (hw' : Below (wr.heap.size) wr w') => (hw'.cell (p := ⟨b, o + k, none⟩) (World.block_lt_of_cell? wr _ c0)).trans c0) w' hw')) ?_
      refine calm_pure (some 21) (by kernel_rfl) (by kernel_rfl) (by kernel_rfl) (fun _ => by kernel_rfl) ?_
      refine calm_pure (some 22) (by kernel_rfl) (by kernel_rfl) (by kernel_rfl) (fun _ => by kernel_rfl) ?_
      refine calm_pure (some 23) (by kernel_rfl) (by kernel_rfl) (by kernel_rfl) (fun _ => (index_is (n := n) (c := d) (k := k) (x := .tmp 21) (y := .tmp 22) (by kernel_rfl) (by kernel_rfl) (by kernel_rfl) hlt _)) ?_
      refine calm_read (some 24) (by kernel_rfl) (by kernel_rfl) (by kernel_rfl) (fun w' hw' => load_cell (ty := 2) (x := .tmp 23) (b := b') (o := o' + k) (by kernel_rfl) (by kernel_rfl) Tryd.underlying2 rfl ((fun w' (hw' : Below (wr.heap.size) wr w') => (hw'.cell (p := ⟨b', o' + k, none⟩) (World.block_lt_of_cell? wr _ c1)).trans c1) w' hw')) ?_
      refine calm_pure (some 25) (by kernel_rfl) (by kernel_rfl) (by kernel_rfl) (fun _ => (neq_is (x := .tmp 20) (y := .tmp 24) (v := e) (by kernel_rfl) (by kernel_rfl) (by kernel_rfl) _)) ?_
      refine calm_end fun w' hw' => plan_end (Clean.normal ?_)
      have HQ := Lib.hid (hB.out.trans (hw'.mono hB.out.size))
      clear hw' c0 c1
      simp only [Act.put, List.setIfInBounds_toArray, List.set_cons_zero, List.set_cons_succ]
      go_wp2
      go_roundw
      case rel => exact ⟨k + 1, by omega, by go_num, HQ⟩
      case measure => simp [intOf]; omega
    · obtain rfl : k = n := by omega
      go_wp2
      go_ret
      exact ⟨rfl, hB.out⟩

/-- The zeros of a list that is made. -/
theorem makeIs (n : Nat) (hn : n ≤ 1048576) : ∃ C : Array Value, C.size = n ∧ ∀ w, (Instr.makeSlice 40 (.int .i64 (n : Int)) (.int .i64 (n : Int))).run Tryd.prog w = .ok (.slice (some ⟨w.heap.size, 0, none⟩) n n) (w.alloc (.cells C 2)) := by
  obtain ⟨i, hi, hz, hs, hb⟩ := info_parts (P := Tryd.prog) (e := 2) (z := .int .i64 0) (size := 1) (bytes := 8) (by kernel_rfl)
  refine ⟨madeCells (Value.cells (.int .i64 0)) (n * i.size), by rw [size_madeCells, hs]; simp [Value.cells], fun w => ?_⟩
  have hr := run_make (P := Tryd.prog) w 40 2 i (.int .i64 0) Tryd.underlying40 hi hz .i64 .i64 n n (by omega) (by omega) (by rw [hb]; omega) (by omega)
  simp only [Int.toNat_natCast] at hr
  exact hr
/-- One round of the copy: one number more lies there. -/
theorem copiedI {w wr V2 : World} {n k : Nat} {L : List Int} {e : Int} (hlt : k < n) (hS : w.heap.size < wr.heap.size) (hT : wr.there w.heap.size 0 n) (hA : ∀ (j : Nat) (e : Int), j < k → L[j]? = some e → wr.cell? ⟨w.heap.size, j, none⟩ = some (.int .i64 e)) (hB : Below w.heap.size w wr)
    (he : L[k]? = some e) (hv : V2 = wr.setCell ⟨w.heap.size, k, none⟩ (.int .i64 e)) :
    V2.there w.heap.size 0 n ∧ w.heap.size < V2.heap.size ∧ (∀ (j : Nat) (e : Int), j < k + 1 → L[j]? = some e → V2.cell? ⟨w.heap.size, j, none⟩ = some (.int .i64 e)) ∧ Below w.heap.size w V2 := by
  have hv' : V2 = wr.setCells w.heap.size k [.int .i64 e] := hv
  clear hv
  subst hv'
  have ht : wr.there w.heap.size k 1 := fun j hj => by
    have := hT (k + j) (by omega)
    rwa [Nat.zero_add] at this
  refine ⟨World.there_setCells hT _ _ _, by rw [size_setCellsW]; exact hS, fun j f hj hf => ?_, below_setCells _ (Nat.le_refl _) _ _ _ hB⟩
  by_cases hjk : j = k
  · subst hjk
    rw [he] at hf
    cases hf
    exact World.rangeAt_setCells_same _ _ _ _ ht 0 _ rfl
  · have hr : wr.rangeAt w.heap.size j [.int .i64 f] := fun i v hi => by
      have h1 : i < 1 := (List.getElem?_eq_some_iff.1 hi).1
      obtain rfl : i = 0 := by omega
      cases hi
      exact hA j f (by omega) hf
    exact World.rangeAt_setCells_apart hr _ _ _ (.inr (.inl (by simp; omega))) 0 _ rfl

set_option maxRecDepth 100000 in
set_option maxHeartbeats 1000000 in
theorem toInt64S_any (p : Option Addr) (c : Nat) (L : List Int) (hL : L.length ≤ 1048576) (w : World) (hp : IsAt w p L) :
    Calls Tryd.prog 16 #[.slice p L.length c] w fun e w' => ∃ b, e = .returned (.slice (some ⟨b, 0, none⟩) L.length L.length) ∧ w.heap.size ≤ b ∧ b < w'.heap.size ∧ w'.there b 0 L.length ∧ IsAt w' (some ⟨b, 0, none⟩) L ∧ Below w.heap.size w w' := by
  have P0 := Lib.hid hp
  obtain ⟨n, hn⟩ : ∃ n, L.length = n := ⟨_, rfl⟩
  have HN := Lib.hid hn
  rw [hn] at hL ⊢
  obtain ⟨C, hC, hmk⟩ := makeIs n hL
  clear hp hn
  go_enter Tryd.func16, Tryd.ntmps16
  go_wp2
  go_loopw [4] (fun i wr => ∃ k : Nat, k ≤ n ∧ i = .int .i64 k ∧ Hid (wr.there w.heap.size 0 n) ∧ Hid (w.heap.size < wr.heap.size) ∧ Hid (∀ (j : Nat) (e : Int), j < k → L[j]? = some e → wr.cell? ⟨w.heap.size, j, none⟩ = some (.int .i64 e)) ∧ Hid (Below w.heap.size w wr)) (fun i _ => n - (intOf i).toNat)
  case atStart =>
    exact ⟨0, by omega, rfl, Lib.hid (there_row (heap_alloc_last w _) hC), Lib.hid (by simp), Lib.hid (fun j _ hj => absurd hj (by omega)), Lib.hid ((Below.refl _ _).alloc (Nat.le_refl _) _)⟩
  case round =>
    obtain ⟨k, hk, rfl, hT, hS, hA, hB⟩ := hrel
    by_cases hlt : k < n
    · have hki : (k : Int) < n := by omega
      obtain ⟨e, he⟩ : ∃ e, L[k]? = some e := ⟨_, List.getElem?_eq_getElem (by rw [HN.out]; exact hlt)⟩
      obtain ⟨b, o, rfl, c0⟩ := (P0.out.keep hB.out) k e he
      have HE := Lib.hid he
      clear he
      have hth := hT.out k hlt
      rw [Nat.zero_add] at hth
      obtain ⟨h1, f1⟩ := hth
      obtain ⟨v0, c1⟩ := Option.isSome_iff_exists.1 h1
      clear h1
      go_wp2
      have HC := copiedI hlt hS.out hT.out hA.out hB.out HE.out rfl
      go_roundw
      case rel => exact ⟨k + 1, by omega, by go_num, Lib.hid HC.1, Lib.hid HC.2.1, Lib.hid HC.2.2.1, Lib.hid HC.2.2.2⟩
      case measure => simp [intOf]; omega
    · obtain rfl : k = n := by omega
      go_wp2
      go_ret
      exact ⟨_, rfl, Nat.le_refl _, hS.out, hT.out, fun i e he => ⟨_, _, rfl, by rw [Nat.zero_add]; exact hA.out i e (by rw [← HN.out]; exact (List.getElem?_eq_some_iff.1 he).1) he⟩, hB.out⟩
section
variable {H : Type} {enc : TypeId × Value → H} {w : World} {base : Nat} {spare : Nat → Bool} {held : Bool}
def okI (e : Int) : Prop := -9223372036854775808 ≤ e ∧ e ≤ 9223372036854775807
theorem cellsI64 : Tryd.prog.cellsOf 2 = 1 := by kernel_rfl
/-- A list of numbers, opened. -/
theorem open_is {v : Value} {d : DataW H} {ps : List MemPlace} (hv : ∃ a len cap, v = .slice a len cap) (h : DataW.Trod enc Tryd.prog w base spare held 40 v d ps) :
    ∃ (p : Option Addr) (c : Nat) (L : List Int), v = .slice p L.length c ∧ L.length ≤ maxLen ∧ IsAt w p L ∧ ∀ e ∈ L, okI e := by
  obtain ⟨a, len, cap, rfl⟩ := hv
  obtain ⟨fuel, hf⟩ := h
  rcases open_slice1 Tryd.underlying40 cellsI64 hf with ⟨h0, _⟩ | ⟨a', len', cap', m, n, V, D, Pl, hcs, _, hlc, hcm, hm, _, hi⟩
  · have h0' : [Value.slice a len cap] = [Value.slice none 0 0] := h0
    cases h0'
    exact ⟨none, 0, [], rfl, Nat.zero_le _, (fun i e he => by simp at he), (fun e he => by cases he)⟩
  · have hcs' : [Value.slice a len cap] = [Value.slice (some a') len' cap'] := hcs
    cases hcs'
    have hlm : len ≤ m := by rw [hm]; split <;> omega
    have hx : ∀ i, i < len → ∃ x : Int, w.cell? (a'.add i) = some (.int .i64 x) ∧ okI x := fun i hil => by
      obtain ⟨h1, h2⟩ := hi i (by omega)
      obtain ⟨x, hX, _, wX⟩ := DataW.trod_int Tryd.underlying2 h2
      have hb := bounds_i64 wX
      have hV : V i = .int .i64 x := by simpa using hX
      exact ⟨x, by rw [h1, hV], hb⟩
    obtain ⟨F, hF⟩ := choose_lt hx
    refine ⟨some a', cap, (List.range len).map F, by simp, by simp; omega, fun i e he => ?_, fun e he => ?_⟩
    · have hil : i < len := by simpa using (List.getElem?_eq_some_iff.1 he).1
      have hFe : F i = e := by simpa [List.getElem?_range hil] using he
      subst hFe
      have hc := (hF i hil).1
      have hc0 := (hF 0 (by omega)).1
      obtain ⟨bb, oo, sp⟩ := a'
      have hsp : sp = none := by
        cases sp with
        | none => rfl
        | some s =>
          exfalso
          have ha : (⟨bb, oo, some s⟩ : Addr).add 0 = ⟨bb, oo, some s⟩ := rfl
          rw [ha] at hc0
          unfold World.cell? at hc0
          cases hh : w.heap[bb]? with
          | none => simp [hh] at hc0
          | some ob => cases ob <;> simp [hh] at hc0
      subst hsp
      rw [Addr.add_mid] at hc
      exact ⟨bb, oo, rfl, hc⟩
    · simp only [List.mem_map, List.mem_range] at he
      obtain ⟨i, hil, rfl⟩ := he
      exact (hF i hil).2
end
end Go.Proofs.YtbiknpfcemfoeaaDoor
