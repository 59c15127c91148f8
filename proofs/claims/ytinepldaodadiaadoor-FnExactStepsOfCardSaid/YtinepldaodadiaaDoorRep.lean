/- bits.Mul by 1, slices.Repeat of a list of one step. Condition: at most 400 steps. -/
import Derived.Test.YtinepldaodadiaaDoorHelp
import Derived.Laws.CopyOwn
namespace Go.Proofs.YtinepldaodadiaaDoor
open Go Go.RowKit
set_option linter.unusedSimpArgs false
set_option linter.unusedVariables false
attribute [local go_sem] Oper.semAt_some

theorem and_low : ∀ m : Fin 401, bits .and .u64 ((m.1 : Nat) : Int) 4294967295 = ((m.1 : Nat) : Int) := by decide +kernel
theorem mul64_one (m : Nat) (hm : m ≤ 400) (w : World) : Calls Tryd.prog 36 #[.int .u64 1, .int .u64 (m : Int)] w fun e w' => e = .returned (.tuple #[.int .u64 0, .int .u64 (m : Int)]) ∧ w' = w := by
  have h1 : bits .and .u64 1 4294967295 = 1 := by decide +kernel
  have h2 : bits .and .u64 (m : Int) 4294967295 = m := and_low ⟨m, by omega⟩
  have h3 : (m : Int) / 2 ^ 32 = 0 := by omega
  have h4 : (m : Int) / 4294967296 = 0 := by omega
  have h5 : bits .and .u64 0 4294967295 = 0 := by decide +kernel
  go_enter Tryd.func36, Tryd.ntmps36
  go_wp2
  go_ret2
  exact ⟨rfl, rfl⟩
theorem mul_one (m : Nat) (hm : m ≤ 400) (w : World) : Calls Tryd.prog 24 #[.int .u64 1, .int .u64 (m : Int)] w fun e w' => e = .returned (.tuple #[.int .u64 0, .int .u64 (m : Int)]) ∧ w' = w := by
  go_enter Tryd.func24, Tryd.ntmps24
  go_wp2_with (go_at_call 36; refine (mul64_one m hm _).mono ?_; rintro e V ⟨rfl, hV⟩; rw [hV]; clear hV)
  go_ret2
  exact ⟨rfl, rfl⟩

/-- The first k of the m values in block g are v. -/
def RepAt (w : World) (g m k : Nat) (v : Value) : Prop := ∃ cur : List Value, w.heap[g]? = some (.cells cur.toArray 47 (0, 0)) ∧ cur.length = m ∧ cur.take k = List.replicate k v
theorem RepAt.cell {w : World} {g m k : Nat} {v : Value} (h : RepAt w g m k v) {j : Nat} (hj : j < k) : w.cell? ⟨g, j, none⟩ = some v := by
  obtain ⟨cur, h1, h2, h3⟩ := h
  rw [cell_of_row w g j _ _ _ h1, List.getElem?_toArray]
  have := congrArg (fun l => l[j]?) h3
  simp only [List.getElem?_take, List.getElem?_replicate, if_pos hj] at this
  exact this
theorem rep_splice {cur : List Value} {m k j : Nat} {v : Value} (hl : cur.length = m) (hc : cur.take k = List.replicate k v) (hk : k + j ≤ m) : (splice cur k (List.replicate j v)).length = m ∧ (splice cur k (List.replicate j v)).take (k + j) = List.replicate (k + j) v := by
  refine ⟨by rw [length_splice _ _ _ (by simp; omega), hl], ?_⟩
  unfold splice
  rw [hc, ← List.append_assoc, List.replicate_append_replicate]
  exact List.take_left' (by simp)
theorem slLow_op {P : Program} {op : Oper} {a : Act} {x y : Operand} {t e : TypeId} {g m k : Nat} (ho : op.op = .slice t x (some y) none none) (ht : P.underlying t = some (.slice e)) (he : ∃ i, P.info? e = some i ∧ i.size = 1)
    (hx : a.eval x = .slice (some ⟨g, 0, none⟩) m m) (hy : a.eval y = .int .i64 k) (hk : k < m) (w : World) :
    (execOp a.eval op).run P w = .ok (.value (.slice (some ⟨g, k, none⟩) (m - k) (m - k))) w := by
  obtain ⟨i, hi, hs⟩ := he
  have h1 : (0 : Int) ≤ k ∧ (k : Int) ≤ m := by omega
  have h2 : k ≠ m := by omega
  have h2' : m ≠ k := by omega
  have h3 : k ≤ m := by omega
  unfold execOp
  simp [ho, hx, hy, Instr.sliceAt, Instr.slice, run_underlying ht, Instr.sliceBounds, Instr.sliceBound, asIntOf, h1, h2, h2', h3, sizeOf, typeInfo, hi, hs, Result.andThen, Addr.add_mid]
theorem slHigh_op {P : Program} {op : Oper} {a : Act} {x y : Operand} {t e : TypeId} {g m k : Nat} (ho : op.op = .slice t x none (some y) none) (ht : P.underlying t = some (.slice e)) (he : ∃ i, P.info? e = some i ∧ i.size = 1)
    (hx : a.eval x = .slice (some ⟨g, 0, none⟩) m m) (hy : a.eval y = .int .i64 k) (hk : k < m) (w : World) :
    (execOp a.eval op).run P w = .ok (.value (.slice (some ⟨g, 0, none⟩) k m)) w := by
  obtain ⟨i, hi, hs⟩ := he
  have h1 : (0 : Int) ≤ k ∧ (k : Int) ≤ m := by omega
  have h2 : k ≠ m := by omega
  have h2' : m ≠ k := by omega
  have h3 : k ≤ m := by omega
  have h4 : m ≠ 0 := by omega
  unfold execOp
  simp [ho, hx, hy, Instr.sliceAt, Instr.slice, run_underlying ht, Instr.sliceBounds, Instr.sliceBound, asIntOf, h1, h2, h2', h3, h4, sizeOf, typeInfo, hi, hs, Result.andThen, Addr.add_mid]
theorem addI_op2 {op : Oper} {a : Act} {x y : Operand} {u v : Int} {r : Nat} (ho : op.op = .binOp .add 3 x y 3) (hx : a.eval x = .int .i64 u) (hy : a.eval y = .int .i64 v) (hr : u + v = (r : Int)) (hs : r ≤ 100000) (w : World) :
    (execOp a.eval op).run Tryd.prog w = .ok (.value (.int .i64 (r : Int))) w := by
  have h2 : IntKind.i64.wrap (r : Int) = (r : Int) := by rw [IntKind.wrap_i64]; omega
  unfold execOp
  simp only [ho, hx, hy]
  go_simp
  all_goals first | exact h2 | rw [h2] | skip
theorem stepInfo : ∃ i, Tryd.prog.info? 47 = some i ∧ i.size = 1 := by
  obtain ⟨i, h, _, hs, _⟩ := info_parts (P := Tryd.prog) (e := 47) (z := .nilIface) (size := 1) (bytes := 16) (by kernel_rfl)
  exact ⟨i, h, hs⟩
theorem makeSteps (n : Nat) (hn : n ≤ 400) : ∃ C : List Value, C.length = n ∧ ∀ w, (Instr.makeSlice 44 (.int .i64 (n : Int)) (.int .i64 (n : Int))).run Tryd.prog w = .ok (.slice (some ⟨w.heap.size, 0, none⟩) n n) (w.alloc (.cells C.toArray 47)) := by
  obtain ⟨i, hi, hz, hs, hb⟩ := info_parts (P := Tryd.prog) (e := 47) (z := .nilIface) (size := 1) (bytes := 16) (by kernel_rfl)
  refine ⟨(madeCells (Value.cells .nilIface) (n * i.size)).toList, by rw [Array.length_toList, size_madeCells, hs, Nat.mul_one], fun w => ?_⟩
  have hr := run_make (P := Tryd.prog) w 44 47 i .nilIface Tryd.underlying44 hi hz .i64 .i64 n n (by omega) (by omega) (by rw [hb]; omega) (by omega)
  simp only [Int.toNat_natCast] at hr
  rw [hr, Array.toArray_toList]
theorem cp_op {P : Program} {op : Oper} {a : Act} {x y : Operand} {t : TypeId} {u v r : Value} {w w' : World} (ho : op.op = .call { callee := .builtin .copy, args := #[x, y], argTypes := #[t, t] }) (hx : a.eval x = u) (hy : a.eval y = v)
    (hm : ∀ ty, (Builtin.copy_ #[t, t] ty #[u, v]).run P w = .ok r w') : (execOp a.eval op).run P w = .ok (.value r) w' := by
  unfold execOp
  simp [ho, resolve, invoke, builtin, hx, hy, hm, Result.andThen]
theorem rep_copy {V w : World} {g m k j : Nat} {v : Value} (hv1 : v.oneCell' = true) (h : RepAt V g m k v) (hk : k < m) (hj : min k (m - k) = j) (hb : Below g w V) :
    ∃ W', (∀ ty, (Builtin.copy_ #[44, 44] ty #[.slice (some ⟨g, k, none⟩) (m - k) (m - k), .slice (some ⟨g, 0, none⟩) k m]).run Tryd.prog V = .ok (.int .i64 (j : Int)) W') ∧ RepAt W' g m (k + j) v ∧ Below g w W' := by
  have hcell := fun i (hi : i < k) => h.cell hi
  obtain ⟨cur, h1, h2, h3⟩ := h
  have hr := fun ty => run_copy_row (P := Tryd.prog) V 44 44 ty 47 g k (m - k) (m - k) ⟨g, 0, none⟩ k m cur.toArray 47 (List.replicate j v) Tryd.underlying44 (by obtain ⟨i, hi, hs⟩ := stepInfo; rw [hi]; simp [hs]) h1 (by rw [List.length_replicate, ← hj])
    (fun i u hi => by
      obtain ⟨q1, q2⟩ := List.getElem?_eq_some_iff.1 hi
      simp at q1 q2
      subst q2
      rw [Addr.add_mid, Nat.zero_add]
      exact hcell i (by omega)) (by simp; omega) (fun u hu => by rw [(List.mem_replicate.1 hu).2]; exact hv1)
  obtain ⟨q1, q2⟩ := rep_splice (j := j) h2 h3 (by omega)
  refine ⟨_, fun ty => (hr ty).trans (by rw [List.length_replicate]; rfl), ⟨_, ?_, q1, q2⟩, below_setRow hb (Nat.le_refl _) _⟩
  rw [setRow_heap V g _ _ 47 _ h1]
  simp [splice]
set_option maxRecDepth 100000 in
set_option maxHeartbeats 2000000 in
theorem repeat_any (b : Nat) (v : Value) (hv1 : v.oneCell' = true) (m : Nat) (hm : m ≤ 400) (w : World) (hc : w.cell? ⟨b, 0, none⟩ = some v) :
    Calls Tryd.prog 14 #[.slice (some ⟨b, 0, none⟩) 1 1, .int .i64 (m : Int)] w fun e w' => ∃ g, e = .returned (.slice (some ⟨g, 0, none⟩) m m) ∧ (∀ j, j < m → w'.cell? ⟨g, j, none⟩ = some v) ∧ Below w.heap.size w w' := by
  obtain ⟨C, hC, hmk⟩ := makeSteps m hm
  have h63 : ¬ (9223372036854775807 : Int) < m := by omega
  have h0 : ¬ (m : Int) < 0 := by omega
  have bB : Below w.heap.size w (w.alloc (.cells C.toArray 47)) := (Below.refl _ _).alloc (Nat.le_refl _) _
  have hg0 : (w.alloc (.cells C.toArray 47)).heap[w.heap.size]? = some (.cells C.toArray 47 (0, 0)) := heap_alloc_last w _
  have hcs : ∀ j u, (List.replicate (min 1 m) v)[j]? = some u → (w.alloc (.cells C.toArray 47)).cell? ((⟨b, 0, none⟩ : Addr).add j) = some u := fun j u hj => by
    obtain ⟨h1, h2⟩ := List.getElem?_eq_some_iff.1 hj
    simp at h1 h2
    obtain rfl : j = 0 := by omega
    subst h2
    rw [Addr.add_mid]
    exact (bB.cell (World.block_lt_of_cell? w _ hc)).trans hc
  have HC := Lib.hid hC
  have HS := Lib.hid hcs
  have HG := Lib.hid hg0
  have HB := Lib.hid bB
  clear hc hC hcs hg0 bB
  go_enter Tryd.func14, Tryd.ntmps14
  go_wp2_with (first | (go_at_call 24; refine (mul_one m hm _).mono ?_; rintro e V ⟨rfl, hV⟩; rw [hV]; clear hV) | (refine wpList_copy_splice rfl (.tmp 31) (.tmp 32) 44 44 rfl 47 Tryd.underlying44 (by obtain ⟨i, hi, hs⟩ := stepInfo; rw [hi]; simp [hs]) (some ⟨w.heap.size, 0, none⟩) (some ⟨b, 0, none⟩) m m 1 1 rfl rfl w.heap.size 0 C 47 HG.out (List.replicate (min 1 m) v) List.length_replicate (fun _ => ⟨rfl, _, rfl, HS.out⟩) (by simp; have := HC.out; omega) (fun u hu => by rw [(List.mem_replicate.1 hu).2]; exact hv1) w.heap.size w HB.out (Nat.le_refl _) ?_; intro W1 hW1 hB1; have B1 := Lib.hid hB1; clear hB1))
  have R1 : RepAt W1 w.heap.size m (min 1 m) v := by
    obtain ⟨q1, q2⟩ := rep_splice (cur := C) (m := m) (k := 0) (j := min 1 m) (v := v) HC.out rfl (by omega)
    exact ⟨_, hW1.out, q1, by rwa [Nat.zero_add] at q2⟩
  have HR1 := Lib.hid R1
  clear R1 hW1 hmk
  go_loopw [8] (fun i wr => ∃ k : Nat, k ≤ m ∧ (m = 0 ∨ 1 ≤ k) ∧ i = .int .i64 k ∧ Hid (RepAt wr w.heap.size m k v) ∧ Hid (Below w.heap.size w wr)) (fun i _ => m - (intOf i).toNat)
  case atStart => exact ⟨min 1 m, by omega, by omega, rfl, HR1, B1⟩
  case round =>
    obtain ⟨k, hk, hk1, rfl, hR, hB⟩ := hrel
    by_cases hlt : k < m
    · have hki : (k : Int) < m := by omega
      have hT : (k : Int) + ((min k (m - k) : Nat) : Int) = ((k + min k (m - k) : Nat) : Int) := by omega
      obtain ⟨j, hj⟩ : ∃ j, min k (m - k) = j := ⟨_, rfl⟩
      have hjk : k + j ≤ m ∧ 1 ≤ j := by omega
      rw [hj] at hT
      go_wp2
      refine wp_region_plan (ops' := regOf Tryd.f14 9) (.take 0 (.take 1 (.take 2 (.take 3 (.take 4 (.take 5 (.take 6 (.run 7 (.take 8 (.take 9 .fin)))))))))) (fun _ => True) (by kernel_rfl) (by kernel_rfl) (by kernel_rfl) (by kernel_rfl) (by kernel_rfl) trivial ?_
      refine plan_pure (some 38) (.int .i64 (k : Int)) (by kernel_rfl) (by kernel_rfl) (by kernel_rfl) (fun _ => by kernel_rfl) ?_
      refine plan_pure (some 39) (.slice (some ⟨w.heap.size, 0, none⟩) m m) (by kernel_rfl) (by kernel_rfl) (by kernel_rfl) (fun _ => by kernel_rfl) ?_
      refine plan_pure (some 40) (.int .i64 (k : Int)) (by kernel_rfl) (by kernel_rfl) (by kernel_rfl) (fun _ => by kernel_rfl) ?_
      refine plan_pure (some 41) (.slice (some ⟨w.heap.size, k, none⟩) (m - k) (m - k)) (by kernel_rfl) (by kernel_rfl) (by kernel_rfl) (slLow_op (t := 44) (x := .tmp 39) (y := .tmp 40) (by kernel_rfl) Tryd.underlying44 stepInfo (by kernel_rfl) (by kernel_rfl) hlt) ?_
      refine plan_pure (some 42) (.slice (some ⟨w.heap.size, 0, none⟩) m m) (by kernel_rfl) (by kernel_rfl) (by kernel_rfl) (fun _ => by kernel_rfl) ?_
      refine plan_pure (some 43) (.int .i64 (k : Int)) (by kernel_rfl) (by kernel_rfl) (by kernel_rfl) (fun _ => by kernel_rfl) ?_
      refine plan_pure (some 44) (.slice (some ⟨w.heap.size, 0, none⟩) k m) (by kernel_rfl) (by kernel_rfl) (by kernel_rfl) (slHigh_op (t := 44) (x := .tmp 42) (y := .tmp 43) (by kernel_rfl) Tryd.underlying44 stepInfo (by kernel_rfl) (by kernel_rfl) hlt) ?_
      have hRq : RepAt wr.drew w.heap.size m k v := by
        obtain ⟨cur, e1, e2⟩ := hR.out
        exact ⟨cur, e1, e2⟩
      obtain ⟨W2, hm2, hR2, hB2⟩ := rep_copy hv1 hRq hlt hj (hB.out.drew)
      refine plan_do (some 45) (.int .i64 (j : Int)) W2 (by kernel_rfl) (by kernel_rfl) (by kernel_rfl) (.inl (cp_op (t := 44) (x := .tmp 41) (y := .tmp 44) (by kernel_rfl) (by kernel_rfl) (by kernel_rfl) hm2)) trivial ?_
      refine plan_pure (some 46) (.int .i64 ((k + j : Nat) : Int)) (by kernel_rfl) (by kernel_rfl) (by kernel_rfl) (fun _ => addI_op2 (x := .tmp 38) (y := .tmp 45) (by kernel_rfl) (by kernel_rfl) (by kernel_rfl) hT (by omega) _) ?_
      refine plan_pure (some 8) (.int .i64 ((k + j : Nat) : Int)) (by kernel_rfl) (by kernel_rfl) (by kernel_rfl) (fun _ => by kernel_rfl) ?_
      refine plan_end (NoPanic.normal ?_)
      simp only [Act.put, List.setIfInBounds_toArray, List.set_cons_zero, List.set_cons_succ]
      have HR2 := Lib.hid hR2
      have HB2 := Lib.hid hB2
      clear hm2 hR2 hB2 hRq
      go_wp2
      go_roundw
      case rel => exact ⟨k + j, by omega, by omega, rfl, HR2, HB2⟩
      case measure => simp [intOf]; omega
    · obtain rfl : k = m := by omega
      go_wp2
      go_ret
      exact ⟨_, rfl, fun j hj => hR.out.cell hj, hB.out⟩
end Go.Proofs.YtinepldaodadiaaDoor
