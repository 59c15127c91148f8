/- A range over bitsIn whose body may panic: the iterator, and the statement. Condition: the table of math/bits is laid. -/
import Derived.Test.YtaghnminpfgdcaaGreatDoorRoundP
namespace Go.Proofs.YtaghnminpfgdcaaGreatDoor
open Go Go.RowKit

section
set_option linter.unusedSimpArgs false
set_option maxRecDepth 100000 in
set_option maxHeartbeats 1000000 in
/-- bitsIn's iterator, where a round may panic. -/
theorem bits1_inP (m : Nat) (hm : m < 18446744073709551616) (l Bn n₀ n : Nat) (hn : 1 ≤ n) (hn₀ : 1 < n₀) (J : List (BitOf m) → World → Prop) (X : List PanicEntry → World → Prop)
    (hY : ∀ pre x W, J pre W → (pre ++ [x]).map (·.1) <+: bitsL m → YieldAt Fence.wide (n - 1) Tryz.prog l (encB m x) W fun e W' =>
      (e = .returned (.bool true) ∧ J (pre ++ [x]) W' ∧ Below n₀ W W') ∨ (∃ ch, e = .panicked ch ∧ X ch W'))
    (W : World) (hBn : W.cell? ⟨Bn, 0, none⟩ = some (.int .u64 m)) (hT : TabAt W) (h0 : J [] W) :
    CallsIn Fence.wide n Tryz.prog 153 #[.func (.yield l) #[] #[], .pointer (some ⟨Bn, 0, none⟩)] W fun e W' =>
      (∃ v ys, e = .returned v ∧ ys.map (·.1) = bitsL m ∧ J ys W') ∨ (∃ ch, e = .panicked ch ∧ X ch W') := by
  refine callsIn_of_wp Tryz.func153 rfl trivial ?_ rfl
  simp only [Tryz.ntmps153, List.size_toArray, List.length_cons, List.length_nil, Nat.reduceAdd, Nat.reduceSub, Array.replicate_succ, Array.replicate_zero, List.push_toArray, List.append_toArray, List.nil_append, List.cons_append]
  gi_wp2
  gi_loopw [3] (fun p wr => ∃ (pre : List (BitOf m)) (r : Nat), p = .int .u64 r ∧ r ≤ m ∧ pre.map (·.1) ++ bitsL r = bitsL m ∧ J pre wr ∧ TabAt wr)
    (fun p wr => (intOf p).toNat)
  case atStart =>
    exact ⟨[], m, rfl, Nat.le_refl _, rfl, h0, hT⟩
  case round =>
    obtain ⟨pre, r, rfl, hr, hx, hJs, hTs⟩ := hrel
    by_cases hz : r = 0
    · subst hz
      gi_wp2
      go_end0
      exact .inl ⟨_, pre, rfl, by simpa [bitsL_zero] using hx, hJs⟩
    · have hr64 : r < 18446744073709551616 := by omega
      have hc := bitsL_cons hz hr64
      have hmem : Lib.ctz 64 r ∈ bitsL m := by rw [← hx, hc]; simp
      have e1 := sub1 r hz hr64
      have hx' : (pre ++ [(⟨_, hmem⟩ : BitOf m)]).map (·.1) ++ bitsL (r &&& (r - 1)) = bitsL m := by
        have h1 := hx
        rw [hc] at h1
        simpa using h1
      obtain ⟨fn, tmps, assign, body, hy, hR⟩ := hY pre ⟨_, hmem⟩ wr hJs ⟨_, hx'⟩
      have HX := Lib.hid hx'
      have HXo := Lib.hid hx
      have Hc := Lib.hid hc
      have hne : ((r : Int) != 0) = true := by simpa [bne] using hz
      have E1 := Lib.hid e1
      have L := Lib.hid (and_le r hz)
      have Hz := Lib.hid hz
      clear hx' hx hc e1 hz
      dsimp only [encB] at hy
      gi_wp2_with (first | (refine ⟨trivial, ?_⟩; gi_at_call 154; refine (callsIn_wide.2 (tz64 r Hz.out hr64 _ hTs)).mono ?_; rintro e w' ⟨rfl, rfl⟩))
      refine hR.mono ?_
      rintro e W3 (⟨rfl, hJ3, hk3⟩ | ⟨ch, rfl, hX3⟩)
      · have hT3 : TabAt W3 := fun j hj => (hk3.cell (p := ⟨1, j, none⟩) hn₀).trans (hTs j hj)
        gi_wp2
        go_roundw
        case rel => exact ⟨pre ++ [⟨_, hmem⟩], r &&& (r - 1), by rw [E1.out], by have := L.out; omega, HX.out, hJ3, hT3⟩
        case measure => rw [E1.out]; simp only [intOf]; have := L.out; omega
      · exact ⟨rfl, .inr ⟨ch, rfl, hX3⟩⟩

/-- How the body of a round may be left. -/
def roundP (n₀ : Nat) (I : World → Prop) (X : List PanicEntry → World → Prop) (W : World) : Exit → Act → World → Prop
  | .normal, _, W' => KeepsOthers W W' ∧ Below n₀ W W' ∧ I W'
  | .panic ch, a, W' => a.defers = [] ∧ KeepsOthers W W' ∧ X ch W'
  | _, _, _ => False

theorem CK.loop {A : World} {l : Nat} {r : Loop} {o : Obj} (h : A.heap[l]? = some (.loop r)) : CK A (A.putObj l o) :=
  CK.of_grown (grownBy_putObj' A l o) (fun k e => by cases e; exact ⟨_, h, rfl⟩)
theorem below_putObj {n₀ : Nat} {w A : World} {l : Nat} {o o' : Obj} (h : Below n₀ w A) (hl : n₀ ≤ l) (hw : n₀ ≤ w.heap.size) (_ : A.heap[l]? = some o) : Below n₀ w (A.putObj l o') :=
  h.trans ((Below.refl n₀ A).grown (grownBy_putObj' A l o') (Nat.le_trans hw h.size) (fun k e => by cases e; exact hl))

/-- The statement: a range over bitsIn in a function that is named, whose body may panic. -/
theorem wp_bitsP {fid : FuncId} {fn0 : Func} (hf : Tryz.prog.funcs[fid]? = some fn0) {assign body : Code} {Q : Exit → Act → World → Prop} {T : Array Value} {df : List Deferred} {w : World} (gs ps vs Bn n₀ m : Nat) (hm : m < 18446744073709551616)
    (hg : (Act.eval { tmps := T, defers := df } (.tmp gs)) = .func (.func 153) #[] #[.pointer (some ⟨Bn, 0, none⟩)])
    (hc : w.cell? ⟨Bn, 0, none⟩ = some (.int .u64 m)) (hT : TabAt w) (hg0 : 1 < n₀) (hle : n₀ ≤ w.heap.size)
    (I : List Nat → World → Prop) (X : List PanicEntry → World → Prop) (hI : ∀ s A B, CK A B → I s A → I s B) (h0 : I [] w)
    (hassign : ∀ (l : Nat) (x : Nat) (W : World) (K : Act → World → Prop), K { tmps := (T.setIfInBounds ps (.int .i64 x)).setIfInBounds vs (.int .i64 x), defers := [] } W →
      assign.wpIn (Fence.wide.inRound l) 4 Tryz.prog (Exit.then K (fun _ _ _ => False)) { tmps := T.setIfInBounds ps (.int .i64 x), defers := [] } W)
    (hbody : ∀ (l : Nat) (pre : List (BitOf m)) (x : BitOf m) (W : World), I (nos pre) W → Below n₀ w W → m.testBit x.1 = true → x.1 < 64 → nos (pre ++ [x]) <+: bitsL m →
      body.wpIn (Fence.wide.inRound l) 4 Tryz.prog (roundP n₀ (fun W' => I (nos (pre ++ [x])) W' ∧ Below n₀ w W') X W) { tmps := (T.setIfInBounds ps (.int .i64 x.1)).setIfInBounds vs (.int .i64 x.1), defers := [] } W)
    (hdone : ∀ (D : Nat) (W : World), w.heap.size ≤ D → I (bitsL m) W → Below n₀ w W → W.heap[D]? = some (.deferred (some [])) → Q .normal { tmps := T, defers := { target := .collected D, args := #[] } :: df } W)
    (hpanic : ∀ (D : Nat) (ch : List PanicEntry) (W : World), w.heap.size ≤ D → X ch W → W.heap[D]? = some (.deferred (some [])) → Q (.panic ch) { tmps := T, defers := { target := .collected D, args := #[] } :: df } W) :
    WpAt Tryz.prog fid (Code.rangeFunc (.tmp gs) #[ps] assign body) Q { tmps := T, defers := df } w := by
  have hBn : Bn < w.heap.size := World.block_lt_of_cell? w ⟨Bn, 0, none⟩ hc
  refine WpAt.range (n := 5) hg (enters_of Tryz.func153 (by kernel_rfl) rfl) ⟨_, rfl, ?_⟩
  obtain ⟨rec, hrec⟩ : ∃ rec : LoopState → Option Code → Loop, rec = fun st pe => { state := st, pending := pe, fn := fid, tmps := T, params := #[ps], assign, body, defers := w.heap.size } := ⟨_, rfl⟩
  obtain ⟨W1, hW1⟩ : ∃ W1, (w.alloc (.deferred (some []))).alloc (.loop (rec .ready none)) = W1 := ⟨_, rfl⟩
  have hL1 : W1.heap[w.heap.size + 1]? = some (.loop (rec .ready none)) := by
    rw [← hW1]; have := World.alloc_heap_new (w.alloc (.deferred (some []))) (.loop (rec .ready none)); rwa [World.size_alloc] at this
  have hK1 : W1.heap[w.heap.size]? = some (.deferred (some [])) := by
    rw [← hW1]; exact (Below.heap_alloc _ _ _ (by simp)).trans (World.alloc_heap_new w _)
  have hb1 : Below w.heap.size w W1 := by
    rw [← hW1]; exact ((Below.refl _ w).alloc (Nat.le_refl _) _).alloc (by simp) _
  have hI1 : I [] W1 := by
    rw [← hW1]; exact hI _ _ _ (CK.of_grown (World.grownBy_alloc _ _ none) (fun r e => by cases e)) (hI _ _ _ (CK.of_grown (World.grownBy_alloc w _ none) (fun r e => by cases e)) h0)
  have hW1' : (w.alloc (.deferred (some []))).alloc (.loop { state := .ready, pending := none, fn := fid, tmps := T, params := #[ps], assign, body, defers := w.heap.size }) = W1 := by rw [← hW1, hrec]
  simp only [hW1']
  clear hW1 hW1'
  refine (bits1_inP m hm (w.heap.size + 1) Bn n₀ 5 (by omega) hg0
    (fun pre W => I (nos pre) W ∧ Below n₀ w W ∧ W.heap[w.heap.size + 1]? = some (.loop (rec .ready none)) ∧ W.heap[w.heap.size]? = some (.deferred (some [])))
    (fun ch W => X ch W ∧ W.heap[w.heap.size]? = some (.deferred (some []))) ?_ W1 ((hb1.cell (p := ⟨Bn, 0, none⟩) hBn).trans hc) (hT.below hb1 (Nat.lt_of_lt_of_le hg0 hle)) ⟨hI1, hb1.mono hle, hL1, hK1⟩).mono ?_
  · rintro pre x W ⟨hi, hbl, hl, hk⟩ hpre
    have hlt : w.heap.size + 1 < W.heap.size := (Array.getElem?_eq_some_iff.1 hl).1
    have hy := run_yield (P := Tryz.prog) (args := encB m x) hl (by rw [hrec]; rfl)
    rw [hrec] at hy
    have hl2 : (W.putObj (w.heap.size + 1) (.loop { rec .ready none with state := .busy })).heap[w.heap.size + 1]? = some (.loop { rec .ready none with state := .busy }) := World.putObj_heap_same hlt
    have hk2 : (W.putObj (w.heap.size + 1) (.loop { rec .ready none with state := .busy })).heap[w.heap.size]? = some (.deferred (some [])) := (World.putObj_heap_other (by omega)).trans hk
    refine ⟨fid, _, assign, body, hy, round_of_body hf ?_⟩
    have ha := hassign (w.heap.size + 1) x.1 W
    have htm : ((#[ps] : Array Tmp).zip (encB m x)).foldl (fun tmps (t, a) => tmps.setIfInBounds t a) T = T.setIfInBounds ps (.int .i64 x.1) := by simp [encB]
    show assign.wpIn _ 4 _ _ { tmps := ((#[ps] : Array Tmp).zip (encB m x)).foldl (fun tmps (t, a) => tmps.setIfInBounds t a) T, defers := [] } W
    rw [htm]
    refine wpIn_mono (ha (fun a₁ w₁ => a₁ = { tmps := (T.setIfInBounds ps (.int .i64 x.1)).setIfInBounds vs (.int .i64 x.1), defers := [] } ∧ w₁ = W) ⟨rfl, rfl⟩) ?_
    rintro e a₁ w₁ he
    cases e with
    | normal =>
      obtain ⟨rfl, rfl⟩ := he
      refine ⟨_, run_beginRound hl (by rw [hrec]), wpIn_mono (hbody _ pre x _ (hI _ _ _ (CK.loop hl) hi) (below_putObj hbl (by omega) hle hl) (mem_bitsL.1 x.2).2 (mem_bitsL.1 x.2).1 hpre) ?_⟩
      rintro e2 a2 W3 h2
      cases e2 with
      | normal =>
        obtain ⟨ko, kb, hi3, hb3⟩ := h2
        have hl3 := ko.same _ _ hl2 rfl
        have hk3 := ko.same _ _ hk2 rfl
        have hr := run_endRound (P := Tryz.prog) none hl3
        have hlt3 : w.heap.size + 1 < W3.heap.size := (Array.getElem?_eq_some_iff.1 hl3).1
        refine ⟨_, _, hr, .inl ⟨rfl, ⟨hI _ _ _ (CK.loop hl3) hi3, below_putObj hb3 (by omega) hle hl3, ?_, (World.putObj_heap_other (by omega)).trans hk3⟩, ?_⟩⟩
        · rw [World.putObj_heap_same hlt3, hrec]; rfl
        · exact below_putObj (below_putObj (Below.refl _ _) (by omega) (by omega) hl |>.trans kb) (by omega) (by omega) hl3
      | panic ch =>
        obtain ⟨hd, ko, hx⟩ := h2
        exact ⟨hd, .inr ⟨ch, rfl, hx, ko.same _ _ hk2 rfl⟩⟩
      | exit id => exact h2.elim
      | goto t => exact h2.elim
      | ret => exact h2.elim
      | outgrown => exact h2.elim
    | exit id => exact he.elim
    | goto t => exact he.elim
    | ret => exact he.elim
    | panic ch => exact he.elim
    | outgrown => exact he.elim
  · rintro e W3 (⟨v, ys, rfl, hys, hi, hbl, hl, hk⟩ | ⟨ch, rfl, hx, hk⟩)
    · refine .inl ⟨v, _, rfl, by have := run_endLoop (P := Tryz.prog) hl (by rw [hrec]; simp); rw [hrec] at this; exact this, ?_⟩
      refine hdone _ _ (Nat.le_refl _) ?_ (below_putObj hbl (by omega) hle hl) ((World.putObj_heap_other (by omega)).trans hk)
      have h1 := hI _ _ _ (CK.loop (o := .loop { rec .ready none with state := .exhausted }) hl) hi
      rw [show nos ys = bitsL m from hys] at h1
      rw [hrec] at h1
      exact h1
    · exact .inr ⟨ch, rfl, hpanic _ _ _ (Nat.le_refl _) hx hk⟩
end
end Go.Proofs.YtaghnminpfgdcaaGreatDoor
