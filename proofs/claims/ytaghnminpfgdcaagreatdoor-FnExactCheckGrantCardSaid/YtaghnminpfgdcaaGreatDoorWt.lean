/- Lists of watches in memory: the law's copy of one (toWatchS), its comparison with another that is the same (eqWatchS), and one among an argument's cells, opened. Condition: at most 2^20 of them. -/
import Derived.Test.YtaghnminpfgdcaaGreatDoorLs
import Derived.Test.YtaghnminpfgdcaaGreatDoorCell
import Derived.Test.YtaghnminpfgdcaaGreatDoorHelp
namespace Go.Proofs.YtaghnminpfgdcaaGreatDoor
open Go Go.ChangeShapes Go.WideShapes Go.ChangeAt Go.RowKit Go.Deep Ieee
set_option linter.unusedSimpArgs false
set_option linter.unusedVariables false
attribute [local go_sem] run_store_float
/-- A watch. -/
def Wt (c : Int) (l : Nat) : Array Value := #[.int .i8 c, .float .f32 l]
set_option maxRecDepth 100000 in
theorem toWatch_any (t : Int) (l : Nat) (w : World) : Calls Tryz.prog 85 #[.agg (Wt t l)] w fun e w' => e = .returned (.agg (Wt t l)) ∧ Below w.heap.size w w' := by
  simp only [Wt]
  go_enter Tryz.func85, Tryz.ntmps85
  go_wp2
  refine bodyPost_ret (by simp [results, Tryz.results85, go_sem] <;> rfl) rfl ⟨rfl, ?_⟩
  exact (((Below.refl _ _).alloc (Nat.le_refl _) _).alloc (by simp) _).alloc (by simp; omega) _
theorem eqWatch_any (t : Int) (l : Nat) (w : World) : Calls Tryz.prog 89 #[.agg (Wt t l), .agg (Wt t l)] w fun e w' => e = .returned (.bool true) ∧ Below w.heap.size w w' := by
  simp only [Wt]
  have t1 : True := trivial
  go_enter Tryz.func89, Tryz.ntmps89
  go_wp2_with (first | (have _t := t1; refine wpList_conv_g (by kernel_rfl) _ _ _ rfl Tryz.underlying23 Tryz.underlying59 _ rfl ?_; intro xx m hx; have XX := Lib.hid hx; clear t1 hx) | (refine wpList_conv_g (by kernel_rfl) _ _ _ rfl Tryz.underlying23 Tryz.underlying59 _ rfl ?_; intro yy m' hy; have YY := Lib.hid hy; clear hy) | (go_at_call 30; refine (sameFloat_yes xx yy (by rw [XX.out, YY.out]) _).mono ?_; rintro e w' ⟨rfl, k, rfl⟩))
  go_ret
  exact ⟨rfl, by repeat (first | exact Below.refl _ _ | (refine belowN ?_ _) | (refine belowMore ?_ _))⟩
/-- A watch, as numbers. -/
abbrev T2 := Int × Nat
def t2 (e : T2) : List Value := (Wt e.1 e.2).toList
theorem t2_len (e : T2) : (t2 e).length = 2 := rfl
/-- The watchs of L lie behind one another where the slice begins. -/
def TsAt (w : World) (p : Option Addr) (L : List T2) : Prop := ∀ i e, L[i]? = some e → ∃ b o, p = some ⟨b, o, none⟩ ∧ w.rangeAt b (o + i * 2) (t2 e)
theorem TsAt.below {w w' : World} {p : Option Addr} {L : List T2} (h : TsAt w p L) {B : Nat} (hb : ∀ b o, p = some ⟨b, o, none⟩ → b < B) (hB : Below B w w') : TsAt w' p L := fun i e he => by
  obtain ⟨b, o, hp, hr⟩ := h i e he
  exact ⟨b, o, hp, range_kept hr (hb b o hp) _ hB⟩
/-- What is there lies in a block that is there. -/
theorem TsAt.lt {w : World} {p : Option Addr} {L : List T2} (h : TsAt w p L) : L ≠ [] → ∀ b o, p = some ⟨b, o, none⟩ → b < w.heap.size := fun hne b o hp => by
  cases L with
  | nil => exact absurd rfl hne
  | cons e L =>
    obtain ⟨b', o', hp', hr⟩ := h 0 e rfl
    rw [hp] at hp'
    cases hp'
    exact World.block_lt_of_cell? w _ (hr 0 _ rfl)
theorem TsAt.keep {w w' : World} {p : Option Addr} {L : List T2} (h : TsAt w p L) (hB : Below w.heap.size w w') : TsAt w' p L := by
  by_cases hne : L = []
  · subst hne; intro i e he; simp at he
  · exact h.below (h.lt hne) hB
/-- The address of an element of a slice of watchs. -/
theorem index_wt {op : Oper} {a : Act} {x y : Operand} {T : TypeId} {b o n c k : Nat} (ho : op.op = .indexAddr T x y) (hT : T = 39 ∨ T = 28) (hx : a.eval x = .slice (some ⟨b, o, none⟩) n c) (hy : a.eval y = .int .i64 k) (hk : k < n) (w : World) :
    (execOp a.eval op).run Tryz.prog w = .ok (.value (.pointer (some ⟨b, o + k * 2, none⟩))) w := by
  unfold execOp
  simp only [ho, hx, hy]
  rcases hT with rfl | rfl
  · go_simp
  · go_simp
set_option maxRecDepth 100000 in
set_option maxHeartbeats 1000000 in
theorem eqWatchS_yes (p q : Option Addr) (c d : Nat) (L : List T2) (hL : L.length ≤ 1048576) (w : World) (hp : TsAt w p L) (hq : TsAt w q L) :
    Calls Tryz.prog 56 #[.slice p L.length c, .slice q L.length d] w fun e w' => e = .returned (.bool true) ∧ Below w.heap.size w w' := by
  have P0 := Lib.hid hp
  have Q0 := Lib.hid hq
  obtain ⟨n, hn⟩ : ∃ n, L.length = n := ⟨_, rfl⟩
  have HN := Lib.hid hn
  rw [hn] at hL ⊢
  clear hp hq hn
  go_enter Tryz.func56, Tryz.ntmps56
  go_wp2
  go_loopw [5] (fun i wr => ∃ k : Nat, k ≤ n ∧ i = .int .i64 k ∧ Hid (Below w.heap.size w wr)) (fun i _ => n - (intOf i).toNat)
  case atStart => exact ⟨0, by omega, rfl, Lib.hid (Below.refl _ _)⟩
  case round =>
    obtain ⟨k, hk, rfl, hB⟩ := hrel
    by_cases hlt : k < n
    · have hki : (k : Int) < n := by omega
      obtain ⟨e, he⟩ : ∃ e, L[k]? = some e := ⟨_, List.getElem?_eq_getElem (by rw [HN.out]; exact hlt)⟩
      obtain ⟨b, o, rfl, hr⟩ := (P0.out.keep hB.out) k e he
      obtain ⟨b', o', rfl, hr'⟩ := (Q0.out.keep hB.out) k e he
      have R1 : ∀ w', Below wr.heap.size wr w' → w'.rangeAt b (o + k * 2) (t2 e) := fun w' h => range_kept hr (World.block_lt_of_cell? wr _ (hr 0 _ rfl)) w' h
      have R2 : ∀ w', Below wr.heap.size wr w' → w'.rangeAt b' (o' + k * 2) (t2 e) := fun w' h => range_kept hr' (World.block_lt_of_cell? wr _ (hr' 0 _ rfl)) w' h
      have T : ∀ w', Below wr.heap.size wr w' → Calls Tryz.prog 89 #[.agg (Wt e.1 e.2), .agg (Wt e.1 e.2)] w' fun x w2 => ∃ v, x = .returned v ∧ One (.bool true) v ∧ Below wr.heap.size wr w2 := fun w' h => (eqWatch_any e.1 e.2 w').mono fun x w2 hx => ⟨_, hx.1, rfl, h.trans (hx.2.mono h.size)⟩
      clear hr hr' he
      go_wp2
      refine wp_region_calm (ops' := regOf Tryz.f56 6) [0, 1, 2, 3, 4, 5, 6, 7, 8, 9] [] .fin (Below wr.heap.size wr) [(0, One (.slice (some ⟨b, o, none⟩) n c)), (1, One (.int .i64 (k : Int))), (2, One (.pointer (some ⟨b, o + k * 2, none⟩))), (3, One (.agg (Wt e.1 e.2))), (4, One (.slice (some ⟨b', o', none⟩) n d)), (5, One (.int .i64 (k : Int))), (6, One (.pointer (some ⟨b', o' + k * 2, none⟩))), (7, One (.agg (Wt e.1 e.2))), (8, One (.bool true)), (9, One (.bool false))] (by kernel_rfl) (by kernel_rfl) (by kernel_rfl) (by kernel_rfl) (by kernel_rfl) (by kernel_rfl) (by kernel_rfl) (by kernel_rfl) rfl ((Below.refl _ _).drew) ?_
      refine calm_pure (some 17) (by kernel_rfl) (by kernel_rfl) (by kernel_rfl) (fun _ => by kernel_rfl) ?_
      refine calm_pure (some 18) (by kernel_rfl) (by kernel_rfl) (by kernel_rfl) (fun _ => by kernel_rfl) ?_
      refine calm_pure (some 19) (by kernel_rfl) (by kernel_rfl) (by kernel_rfl) (index_wt (T := 39) (n := n) (c := c) (x := .tmp 17) (y := .tmp 18) (by kernel_rfl) (.inl rfl) (by kernel_rfl) (by kernel_rfl) hlt) ?_
      refine calm_load (some 20) 94 (.tmp 19) b (o + k * 2) _ (by kernel_rfl) (by kernel_rfl) (by kernel_rfl) (by kernel_rfl) (by kernel_rfl) R1 Tryz.underlying94 rfl (by kernel_rfl) ?_
      refine calm_pure (some 21) (by kernel_rfl) (by kernel_rfl) (by kernel_rfl) (fun _ => by kernel_rfl) ?_
      refine calm_pure (some 22) (by kernel_rfl) (by kernel_rfl) (by kernel_rfl) (fun _ => by kernel_rfl) ?_
      refine calm_pure (some 23) (by kernel_rfl) (by kernel_rfl) (by kernel_rfl) (index_wt (T := 39) (n := n) (c := d) (x := .tmp 21) (y := .tmp 22) (by kernel_rfl) (.inl rfl) (by kernel_rfl) (by kernel_rfl) hlt) ?_
      refine calm_load (some 24) 94 (.tmp 23) b' (o' + k * 2) _ (by kernel_rfl) (by kernel_rfl) (by kernel_rfl) (by kernel_rfl) (by kernel_rfl) R2 Tryz.underlying94 rfl (by kernel_rfl) ?_
      refine calm_call (some 25) 89 #[.agg (Wt e.1 e.2), .agg (Wt e.1 e.2)] ⟨_, rfl⟩ (by kernel_rfl) (by kernel_rfl) (by kernel_rfl) (fun _ => by kernel_rfl) T ?_
      rintro _ rfl
      refine calm_pure (some 26) (by kernel_rfl) (by kernel_rfl) (by kernel_rfl) (fun _ => by kernel_rfl) ?_
      refine calm_end fun w' hw' => plan_end (Clean.normal ?_)
      clear R1 R2 T
      simp only [Act.put, List.setIfInBounds_toArray, List.set_cons_zero, List.set_cons_succ]
      go_wp2
      go_roundw
      case rel => exact ⟨k + 1, by omega, by go_num, Lib.hid (hB.out.trans (hw'.mono hB.out.size))⟩
      case measure => simp [intOf]; omega
    · obtain rfl : k = n := by omega
      go_wp2
      go_ret
      exact ⟨rfl, hB.out⟩
theorem wt_one (e : T2) : (#[Value.int .i8 e.1, .float .f32 e.2] : Array Value).all (·.oneCell') = true := by
  simp [Value.oneCell']
/-- One round of the copy: one watch more lies there. -/
theorem copiedT {w wr V1 V2 : World} {n k : Nat} {L : List T2} {e : T2} (hlt : k < n) (hS : w.heap.size < wr.heap.size) (hA : ∀ (j : Nat) (e : T2), j < k → L[j]? = some e → wr.rangeAt w.heap.size (0 + j * 2) (t2 e)) (hB : Below w.heap.size w wr)
    (he : L[k]? = some e) (q : Below wr.heap.size wr V1) (ht : V1.there w.heap.size 0 (n * 2)) (hv : V1.setCells w.heap.size (k * 2) [.int .i8 e.1, .float .f32 e.2] = V2) :
    V2.there w.heap.size 0 (n * 2) ∧ w.heap.size < V2.heap.size ∧ (∀ (j : Nat) (e : T2), j < k + 1 → L[j]? = some e → V2.rangeAt w.heap.size (0 + j * 2) (t2 e)) ∧ Below w.heap.size w V2 := by
  subst hv
  refine ⟨World.there_setCells ht _ _ _, by rw [size_setCellsW]; exact Nat.lt_of_lt_of_le hS q.size, fun j f hj hf => ?_, below_setCells _ (Nat.le_refl _) _ _ _ (hB.trans (q.mono hB.size))⟩
  by_cases hjk : j = k
  · subst hjk
    rw [he] at hf
    cases hf
    rw [Nat.zero_add]
    exact World.rangeAt_setCells_same _ _ _ _ (there_part ht (show j * 2 + 2 ≤ n * 2 by omega))
  · exact World.rangeAt_setCells_apart (range_kept (hA j f (by omega) hf) hS _ q) _ _ _ (.inr (.inl (by rw [t2_len]; omega)))

/-- The zero watchs of a list that is made. -/
theorem makeTs (n : Nat) (hn : n ≤ 1048576) : ∃ C : Array Value, C.size = n * 2 ∧ ∀ w, (Instr.makeSlice 39 (.int .i64 (n : Int)) (.int .i64 (n : Int))).run Tryz.prog w = .ok (.slice (some ⟨w.heap.size, 0, none⟩) n n) (w.alloc (.cells C 94)) := by
  obtain ⟨i, hi, hz, hs, hb⟩ := info_parts (P := Tryz.prog) (e := 94) (z := .agg (Wt 0 0)) (size := 2) (bytes := 8) (by kernel_rfl)
  refine ⟨madeCells (Value.cells (.agg (Wt 0 0))) (n * i.size), by rw [size_madeCells, hs], fun w => ?_⟩
  have hr := run_make (P := Tryz.prog) w 39 94 i (.agg (Wt 0 0)) Tryz.underlying39 hi hz .i64 .i64 n n (by omega) (by omega) (by rw [hb]; omega) (by omega)
  simp only [Int.toNat_natCast] at hr
  exact hr

set_option maxRecDepth 100000 in
set_option maxHeartbeats 1000000 in
theorem toWatchS_any (p : Option Addr) (c : Nat) (L : List T2) (hL : L.length ≤ 1048576) (w : World) (hp : TsAt w p L) :
    Calls Tryz.prog 51 #[.slice p L.length c] w fun e w' => ∃ b, e = .returned (.slice (some ⟨b, 0, none⟩) L.length L.length) ∧ w.heap.size ≤ b ∧ b < w'.heap.size ∧ TsAt w' (some ⟨b, 0, none⟩) L ∧ Below w.heap.size w w' := by
  have P0 := Lib.hid hp
  obtain ⟨n, hn⟩ : ∃ n, L.length = n := ⟨_, rfl⟩
  have HN := Lib.hid hn
  rw [hn] at hL ⊢
  obtain ⟨C, hC, hmk⟩ := makeTs n hL
  clear hp hn
  go_enter Tryz.func51, Tryz.ntmps51
  go_wp2
  go_loopw [4] (fun i wr => ∃ k : Nat, k ≤ n ∧ i = .int .i64 k ∧ Hid (wr.there w.heap.size 0 (n * 2)) ∧ Hid (w.heap.size < wr.heap.size) ∧ Hid (∀ j e, j < k → L[j]? = some e → wr.rangeAt w.heap.size (0 + j * 2) (t2 e)) ∧ Hid (Below w.heap.size w wr)) (fun i _ => n - (intOf i).toNat)
  case atStart =>
    exact ⟨0, by omega, rfl, Lib.hid (there_row (heap_alloc_last w _) hC), Lib.hid (by simp), Lib.hid (fun j _ hj => absurd hj (by omega)), Lib.hid ((Below.refl _ _).alloc (Nat.le_refl _) _)⟩
  case round =>
    obtain ⟨k, hk, rfl, hT, hS, hA, hB⟩ := hrel
    by_cases hlt : k < n
    · have hki : (k : Int) < n := by omega
      obtain ⟨e, he⟩ : ∃ e, L[k]? = some e := ⟨_, List.getElem?_eq_getElem (by rw [HN.out]; exact hlt)⟩
      obtain ⟨b, o, rfl, hr⟩ := (P0.out.keep hB.out) k e he
      have R1 := Lib.hid hr
      have HE := Lib.hid he
      have T0 := fun V => toWatch_any e.1 e.2 V
      have c0 : wr.cell? ⟨b, o + k * 2, none⟩ = some (.int .i8 e.1) := hr 0 _ rfl
      have c1 : wr.cell? ⟨b, o + k * 2 + 1, none⟩ = some (.float .f32 e.2) := hr 1 _ rfl
      simp only [Wt] at T0
      clear hr he
      go_wp2_with (first | (go_at_call 85; refine (T0 _).mono ?_; rintro x V1 ⟨rfl, hq1⟩; have Q1 := Lib.hid hq1; have TH := Lib.hid (there_keep hT.out hS.out hq1); clear hq1 c0 c1) | (refine wpList_store_mid rfl 94 _ _ rfl w.heap.size (k * 2) #[.int .i8 e.1, .float .f32 e.2] rfl rfl (there_part TH.out (show k * 2 + 2 ≤ n * 2 by omega)) (by kernel_rfl) (wt_one e) ?_; obtain ⟨V2, hV2⟩ : ∃ V2, V1.setCells w.heap.size (k * 2) [.int .i8 e.1, .float .f32 e.2] = V2 := ⟨_, rfl⟩; try rw [hV2]; have HV := Lib.hid hV2; clear hV2))
      have HC := copiedT hlt hS.out hA.out hB.out HE.out Q1.out TH.out HV.out
      go_roundw
      case rel => exact ⟨k + 1, by omega, by go_num, Lib.hid HC.1, Lib.hid HC.2.1, Lib.hid HC.2.2.1, Lib.hid HC.2.2.2⟩
      case measure => simp [intOf]; omega
    · obtain rfl : k = n := by omega
      go_wp2
      go_ret
      exact ⟨_, rfl, Nat.le_refl _, hS.out, fun i e he => ⟨_, _, rfl, hA.out i e (by rw [← HN.out]; exact (List.getElem?_eq_some_iff.1 he).1) he⟩, hB.out⟩
section
variable {H : Type} {enc : TypeId × Value → H} {w : World} {base : Nat} {spare : Nat → Bool} {held : Bool}
/-- A watch in memory, opened. -/
def okT (e : T2) : Prop := (Lit.int .i8 e.1).wf = true
set_option maxRecDepth 100000 in
theorem wtFields : ∃ f0 f1 : Field, Tryz.prog.underlying 137 = some (.struct #[f0, f1]) ∧ oneCellFields Tryz.prog #[f0, f1] = true ∧ f0.type = 22 ∧ f1.type = 23 := by
  have h := Tryz.underlying137
  refine ⟨_, _, h, ?_, ?_, ?_⟩
  all_goals kernel_rfl
set_option maxRecDepth 100000 in
theorem open_wt {n : Nat} {cs : List Value} {y : DataW H × List MemPlace} (hl : cs.length = 2) (h : DataW.trod enc Tryz.prog w base spare held n 137 cs = some y) : ∃ e : T2, cs = t2 e ∧ okT e := by
  obtain ⟨f0, f1, hu, hone, t0, t1⟩ := wtFields
  obtain ⟨xs, m, _, _, _, hxl, hf⟩ := DataW.trod_struct hu h
  match cs, hl, xs, hxl with
  | [c0, c1], _, [y0, y1], _ =>
    obtain ⟨o0, k0⟩ := hone_of hone 0 f0 rfl
    obtain ⟨o1, k1⟩ := hone_of hone 1 f1 rfl
    have g0 := hf 0 f0 rfl
    have g1 := hf 1 f1 rfl
    rw [o0, k0, t0] at g0
    rw [o1, k1, t1] at g1
    obtain ⟨X, hX, _, wX⟩ := DataW.trod_int Tryz.underlying22 (show DataW.trod enc Tryz.prog w base spare held m 22 [c0] = some y0 from g0)
    obtain ⟨Y, hY, wY⟩ := trod_f32 Tryz.underlying23 (show DataW.trod enc Tryz.prog w base spare held m 23 [c1] = some y1 from g1)
    cases hX; cases hY
    exact ⟨(X, Y), rfl, wX⟩
theorem cellsWt : Tryz.prog.cellsOf 137 = 2 := by kernel_rfl
/-- A list of watchs, opened. -/
theorem open_ts {v : Value} {d : DataW H} {ps : List MemPlace} (hv : ∃ a len cap, v = .slice a len cap) (h : DataW.Trod enc Tryz.prog w base spare held 28 v d ps) :
    ∃ (p : Option Addr) (c : Nat) (L : List T2), v = .slice p L.length c ∧ L.length ≤ maxLen ∧ TsAt w p L ∧ ∀ e ∈ L, okT e := by
  obtain ⟨a, len, cap, rfl⟩ := hv
  obtain ⟨fuel, hf⟩ := h
  rcases open_slice Tryz.underlying28 hf with ⟨h0, _⟩ | ⟨a', len', cap', m, n, D, Pl, hcs, _, hlc, hcm, hm, _, hi⟩
  · have h0' : [Value.slice a len cap] = [Value.slice none 0 0] := h0
    cases h0'
    exact ⟨none, 0, [], rfl, Nat.zero_le _, (fun i e he => by simp at he), (fun e he => by cases he)⟩
  · have hcs' : [Value.slice a len cap] = [Value.slice (some a') len' cap'] := hcs
    cases hcs'
    have hlm : len ≤ m := by rw [hm]; split <;> omega
    have hex : ∀ i, i < len → ∃ e : T2, (∀ j v, (t2 e)[j]? = some v → w.cell? (a'.add (i * 2 + j)) = some v) ∧ okT e := fun i hil => by
      obtain ⟨cs', h1, h2⟩ := hi i (by omega)
      rw [cellsWt] at h1
      obtain ⟨_, hl, hc⟩ := World.cells?_some h1
      obtain ⟨e, rfl, ok⟩ := open_wt hl h2
      refine ⟨e, fun j v hj => ?_, ok⟩
      have hj3 : j < 2 := (List.getElem?_eq_some_iff.1 hj).1
      rw [← add_add, hc j hj3, hj]
    obtain ⟨F, hF⟩ := choose_lt hex
    refine ⟨some a', cap, (List.range len).map F, by simp, by simp; omega, fun i e he => ?_, fun e he => ?_⟩
    · have hil : i < len := by simpa using (List.getElem?_eq_some_iff.1 he).1
      have hFe : F i = e := by simpa [List.getElem?_range hil] using he
      subst hFe
      have hc := (hF i hil).1
      have h0 := (hF 0 (by omega)).1 0 _ rfl
      obtain ⟨bb, oo, sp⟩ := a'
      have hsp : sp = none := by
        cases sp with
        | none => rfl
        | some x =>
          exfalso
          have ha : (⟨bb, oo, some x⟩ : Addr).add (0 * 2 + 0) = ⟨bb, oo, some x⟩ := rfl
          rw [ha] at h0
          unfold World.cell? at h0
          cases hh : w.heap[bb]? with
          | none => simp [hh] at h0
          | some ob => cases ob <;> simp [hh] at h0
      subst hsp
      exact ⟨bb, oo, rfl, fun j v hj => by have := hc j v hj; rw [Addr.add_mid] at this; rwa [Nat.add_assoc]⟩
    · simp only [List.mem_map, List.mem_range] at he
      obtain ⟨i, hil, rfl⟩ := he
      exact (hF i hil).2
end
end Go.Proofs.YtaghnminpfgdcaaGreatDoor
