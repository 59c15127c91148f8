/- Lists of permits in memory: the law's copy of one (toPermitS), its comparison with another that is the same (eqPermitS), and an argument that is one, opened. Condition: at most 2^20 of them. -/
import Derived.Test.YtaghnminpfgdcaaGreatDoorLs
import Derived.Test.YtaghnminpfgdcaaGreatDoorIntO
namespace Go.Proofs.YtaghnminpfgdcaaGreatDoor
open Go Go.ChangeShapes Go.WideShapes Go.ChangeAt Go.RowKit Go.Deep Ieee
set_option linter.unusedSimpArgs false
set_option linter.unusedVariables false
attribute [local go_sem] run_store_float
/-- A permit. -/
def Pm (o c r : Int) : Array Value := #[.int .i8 o, .int .i8 c, .int .i16 r]
set_option maxRecDepth 100000 in
theorem toPermit_any (t c l : Int) (w : World) : Calls Tryz.prog 52 #[.agg (Pm t c l)] w fun e w' => e = .returned (.agg (Pm t c l)) ∧ Below w.heap.size w w' := by
  simp only [Pm]
  go_enter Tryz.func52, Tryz.ntmps52
  go_wp2
  refine bodyPost_ret (by simp [results, Tryz.results52, go_sem] <;> rfl) rfl ⟨rfl, ?_⟩
  exact (((Below.refl _ _).alloc (Nat.le_refl _) _).alloc (by simp) _).alloc (by simp; omega) _
theorem eqPermit_any (t c l : Int) (w : World) : Calls Tryz.prog 57 #[.agg (Pm t c l), .agg (Pm t c l)] w fun e w' => e = .returned (.bool true) ∧ Below w.heap.size w w' := by
  simp only [Pm]
  go_enter Tryz.func57, Tryz.ntmps57
  go_wp2
  go_ret
  exact ⟨rfl, by repeat (first | exact Below.refl _ _ | (refine belowN ?_ _) | (refine belowMore ?_ _))⟩
/-- A permit, as numbers. -/
abbrev P3 := Int × Int × Int
def p3 (e : P3) : List Value := (Pm e.1 e.2.1 e.2.2).toList
theorem p3_len (e : P3) : (p3 e).length = 3 := rfl
/-- The permits of L lie behind one another where the slice begins. -/
def PsAt (w : World) (p : Option Addr) (L : List P3) : Prop := ∀ i e, L[i]? = some e → ∃ b o, p = some ⟨b, o, none⟩ ∧ w.rangeAt b (o + i * 3) (p3 e)
theorem PsAt.below {w w' : World} {p : Option Addr} {L : List P3} (h : PsAt w p L) {B : Nat} (hb : ∀ b o, p = some ⟨b, o, none⟩ → b < B) (hB : Below B w w') : PsAt w' p L := fun i e he => by
  obtain ⟨b, o, hp, hr⟩ := h i e he
  exact ⟨b, o, hp, range_kept hr (hb b o hp) _ hB⟩
/-- What is there lies in a block that is there. -/
theorem PsAt.lt {w : World} {p : Option Addr} {L : List P3} (h : PsAt w p L) : L ≠ [] → ∀ b o, p = some ⟨b, o, none⟩ → b < w.heap.size := fun hne b o hp => by
  cases L with
  | nil => exact absurd rfl hne
  | cons e L =>
    obtain ⟨b', o', hp', hr⟩ := h 0 e rfl
    rw [hp] at hp'
    cases hp'
    exact World.block_lt_of_cell? w _ (hr 0 _ rfl)
theorem PsAt.keep {w w' : World} {p : Option Addr} {L : List P3} (h : PsAt w p L) (hB : Below w.heap.size w w') : PsAt w' p L := by
  by_cases hne : L = []
  · subst hne; intro i e he; simp at he
  · exact h.below (h.lt hne) hB
/-- The address of an element of a slice of permits. -/
theorem index_pm {op : Oper} {a : Act} {x y : Operand} {T : TypeId} {b o n c k : Nat} (ho : op.op = .indexAddr T x y) (hT : T = 43 ∨ T = 31) (hx : a.eval x = .slice (some ⟨b, o, none⟩) n c) (hy : a.eval y = .int .i64 k) (hk : k < n) (w : World) :
    (execOp a.eval op).run Tryz.prog w = .ok (.value (.pointer (some ⟨b, o + k * 3, none⟩))) w := by
  unfold execOp
  simp only [ho, hx, hy]
  rcases hT with rfl | rfl
  · go_simp
  · go_simp
set_option maxRecDepth 100000 in
set_option maxHeartbeats 1000000 in
theorem eqPermitS_yes (p q : Option Addr) (c d : Nat) (L : List P3) (hL : L.length ≤ 1048576) (w : World) (hp : PsAt w p L) (hq : PsAt w q L) :
    Calls Tryz.prog 20 #[.slice p L.length c, .slice q L.length d] w fun e w' => e = .returned (.bool true) ∧ Below w.heap.size w w' := by
  have P0 := Lib.hid hp
  have Q0 := Lib.hid hq
  obtain ⟨n, hn⟩ : ∃ n, L.length = n := ⟨_, rfl⟩
  have HN := Lib.hid hn
  rw [hn] at hL ⊢
  clear hp hq hn
  go_enter Tryz.func20, Tryz.ntmps20
  go_wp2
  go_loopw [5] (fun i wr => ∃ k : Nat, k ≤ n ∧ i = .int .i64 k ∧ Hid (Below w.heap.size w wr)) (fun i _ => n - (intOf i).toNat)
  case atStart => exact ⟨0, by omega, rfl, Lib.hid (Below.refl _ _)⟩
  case round =>
    obtain ⟨k, hk, rfl, hB⟩ := hrel
    by_cases hlt : k < n
    · have hki : (k : Int) < n := by omega
      obtain ⟨e, he⟩ : ∃ e, L[k]? = some e := ⟨_, List.getElem?_eq_getElem (by rw [HN.out]; exact hlt)⟩
      obtain ⟨b, o, rfl, hr⟩ := (P0.out.keep hB.out) k e he
      obtain ⟨b', o', rfl, hr'⟩ := (Q0.out.keep hB.out) k e he
      have R1 : ∀ w', Below wr.heap.size wr w' → w'.rangeAt b (o + k * 3) (p3 e) := fun w' h => range_kept hr (World.block_lt_of_cell? wr _ (hr 0 _ rfl)) w' h
      have R2 : ∀ w', Below wr.heap.size wr w' → w'.rangeAt b' (o' + k * 3) (p3 e) := fun w' h => range_kept hr' (World.block_lt_of_cell? wr _ (hr' 0 _ rfl)) w' h
      have T : ∀ w', Below wr.heap.size wr w' → Calls Tryz.prog 57 #[.agg (Pm e.1 e.2.1 e.2.2), .agg (Pm e.1 e.2.1 e.2.2)] w' fun x w2 => ∃ v, x = .returned v ∧ One (.bool true) v ∧ Below wr.heap.size wr w2 := fun w' h => (eqPermit_any e.1 e.2.1 e.2.2 w').mono fun x w2 hx => ⟨_, hx.1, rfl, h.trans (hx.2.mono h.size)⟩
      clear hr hr' he
      go_wp2
      refine wp_region_calm (ops' := regOf Tryz.f20 6) [0, 1, 2, 3, 4, 5, 6, 7, 8, 9] [] .fin (Below wr.heap.size wr) [(0, One (.slice (some ⟨b, o, none⟩) n c)), (1, One (.int .i64 (k : Int))), (2, One (.pointer (some ⟨b, o + k * 3, none⟩))), (3, One (.agg (Pm e.1 e.2.1 e.2.2))), (4, One (.slice (some ⟨b', o', none⟩) n d)), (5, One (.int .i64 (k : Int))), (6, One (.pointer (some ⟨b', o' + k * 3, none⟩))), (7, One (.agg (Pm e.1 e.2.1 e.2.2))), (8, One (.bool true)), (9, One (.bool false))] (by kernel_rfl) (by kernel_rfl) (by kernel_rfl) (by kernel_rfl) (by kernel_rfl) (by kernel_rfl) (by kernel_rfl) (by kernel_rfl) rfl ((Below.refl _ _).drew) ?_
      refine calm_pure (some 17) (by kernel_rfl) (by kernel_rfl) (by kernel_rfl) (fun _ => by kernel_rfl) ?_
      refine calm_pure (some 18) (by kernel_rfl) (by kernel_rfl) (by kernel_rfl) (fun _ => by kernel_rfl) ?_
      refine calm_pure (some 19) (by kernel_rfl) (by kernel_rfl) (by kernel_rfl) (index_pm (T := 43) (n := n) (c := c) (x := .tmp 17) (y := .tmp 18) (by kernel_rfl) (.inl rfl) (by kernel_rfl) (by kernel_rfl) hlt) ?_
      refine calm_load (some 20) 82 (.tmp 19) b (o + k * 3) _ (by kernel_rfl) (by kernel_rfl) (by kernel_rfl) (by kernel_rfl) (by kernel_rfl) R1 Tryz.underlying82 rfl (by kernel_rfl) ?_
      refine calm_pure (some 21) (by kernel_rfl) (by kernel_rfl) (by kernel_rfl) (fun _ => by kernel_rfl) ?_
      refine calm_pure (some 22) (by kernel_rfl) (by kernel_rfl) (by kernel_rfl) (fun _ => by kernel_rfl) ?_
      refine calm_pure (some 23) (by kernel_rfl) (by kernel_rfl) (by kernel_rfl) (index_pm (T := 43) (n := n) (c := d) (x := .tmp 21) (y := .tmp 22) (by kernel_rfl) (.inl rfl) (by kernel_rfl) (by kernel_rfl) hlt) ?_
      refine calm_load (some 24) 82 (.tmp 23) b' (o' + k * 3) _ (by kernel_rfl) (by kernel_rfl) (by kernel_rfl) (by kernel_rfl) (by kernel_rfl) R2 Tryz.underlying82 rfl (by kernel_rfl) ?_
      refine calm_call (some 25) 57 #[.agg (Pm e.1 e.2.1 e.2.2), .agg (Pm e.1 e.2.1 e.2.2)] ⟨_, rfl⟩ (by kernel_rfl) (by kernel_rfl) (by kernel_rfl) (fun _ => by kernel_rfl) T ?_
      rintro _ rfl
      refine calm_pure (some 26) (by kernel_rfl) (by kernel_rfl) (by kernel_rfl) (fun _ => by kernel_rfl) ?_
      refine calm_end fun w' hw' => plan_end (Clean.normal ?_)
      clear R1 R2 T
      simp only [Act.put, List.setIfInBounds_toArray, List.set_cons_zero, List.set_cons_succ]
      go_wp2
      go_roundw
      case rel => exact ⟨k + 1, by omega, by go_num, Lib.hid (hB.out.trans (hw'.mono hB.out.size))⟩
      case measure => simp [intOf]; omega
    · obtain rfl : k = n := by omega
      go_wp2
      go_ret
      exact ⟨rfl, hB.out⟩
theorem pm_one (e : P3) : (#[Value.int .i8 e.1, .int .i8 e.2.1, .int .i16 e.2.2] : Array Value).all (·.oneCell') = true := by
  simp [Value.oneCell']
/-- One round of the copy: one permit more lies there. -/
theorem copiedP {w wr V1 V2 : World} {n k : Nat} {L : List P3} {e : P3} (hlt : k < n) (hS : w.heap.size < wr.heap.size) (hA : ∀ (j : Nat) (e : P3), j < k → L[j]? = some e → wr.rangeAt w.heap.size (0 + j * 3) (p3 e)) (hB : Below w.heap.size w wr)
    (he : L[k]? = some e) (q : Below wr.heap.size wr V1) (ht : V1.there w.heap.size 0 (n * 3)) (hv : V1.setCells w.heap.size (k * 3) [.int .i8 e.1, .int .i8 e.2.1, .int .i16 e.2.2] = V2) :
    V2.there w.heap.size 0 (n * 3) ∧ w.heap.size < V2.heap.size ∧ (∀ (j : Nat) (e : P3), j < k + 1 → L[j]? = some e → V2.rangeAt w.heap.size (0 + j * 3) (p3 e)) ∧ Below w.heap.size w V2 := by
  subst hv
  refine ⟨World.there_setCells ht _ _ _, by rw [size_setCellsW]; exact Nat.lt_of_lt_of_le hS q.size, fun j f hj hf => ?_, below_setCells _ (Nat.le_refl _) _ _ _ (hB.trans (q.mono hB.size))⟩
  by_cases hjk : j = k
  · subst hjk
    rw [he] at hf
    cases hf
    rw [Nat.zero_add]
    exact World.rangeAt_setCells_same _ _ _ _ (there_part ht (show j * 3 + 3 ≤ n * 3 by omega))
  · exact World.rangeAt_setCells_apart (range_kept (hA j f (by omega) hf) hS _ q) _ _ _ (.inr (.inl (by rw [p3_len]; omega)))

/-- The zero permits of a list that is made. -/
theorem makePs (n : Nat) (hn : n ≤ 1048576) : ∃ C : Array Value, C.size = n * 3 ∧ ∀ w, (Instr.makeSlice 43 (.int .i64 (n : Int)) (.int .i64 (n : Int))).run Tryz.prog w = .ok (.slice (some ⟨w.heap.size, 0, none⟩) n n) (w.alloc (.cells C 82)) := by
  obtain ⟨i, hi, hz, hs, hb⟩ := info_parts (P := Tryz.prog) (e := 82) (z := .agg (Pm 0 0 0)) (size := 3) (bytes := 4) (by kernel_rfl)
  refine ⟨madeCells (Value.cells (.agg (Pm 0 0 0))) (n * i.size), by rw [size_madeCells, hs], fun w => ?_⟩
  have hr := run_make (P := Tryz.prog) w 43 82 i (.agg (Pm 0 0 0)) Tryz.underlying43 hi hz .i64 .i64 n n (by omega) (by omega) (by rw [hb]; omega) (by omega)
  simp only [Int.toNat_natCast] at hr
  exact hr

set_option maxRecDepth 100000 in
set_option maxHeartbeats 1000000 in
theorem toPermitS_any (p : Option Addr) (c : Nat) (L : List P3) (hL : L.length ≤ 1048576) (w : World) (hp : PsAt w p L) :
    Calls Tryz.prog 16 #[.slice p L.length c] w fun e w' => ∃ b, e = .returned (.slice (some ⟨b, 0, none⟩) L.length L.length) ∧ w.heap.size ≤ b ∧ b < w'.heap.size ∧ PsAt w' (some ⟨b, 0, none⟩) L ∧ Below w.heap.size w w' := by
  have P0 := Lib.hid hp
  obtain ⟨n, hn⟩ : ∃ n, L.length = n := ⟨_, rfl⟩
  have HN := Lib.hid hn
  rw [hn] at hL ⊢
  obtain ⟨C, hC, hmk⟩ := makePs n hL
  clear hp hn
  go_enter Tryz.func16, Tryz.ntmps16
  go_wp2
  go_loopw [4] (fun i wr => ∃ k : Nat, k ≤ n ∧ i = .int .i64 k ∧ Hid (wr.there w.heap.size 0 (n * 3)) ∧ Hid (w.heap.size < wr.heap.size) ∧ Hid (∀ j e, j < k → L[j]? = some e → wr.rangeAt w.heap.size (0 + j * 3) (p3 e)) ∧ Hid (Below w.heap.size w wr)) (fun i _ => n - (intOf i).toNat)
  case atStart =>
    exact ⟨0, by omega, rfl, Lib.hid (there_row (heap_alloc_last w _) hC), Lib.hid (by simp), Lib.hid (fun j _ hj => absurd hj (by omega)), Lib.hid ((Below.refl _ _).alloc (Nat.le_refl _) _)⟩
  case round =>
    obtain ⟨k, hk, rfl, hT, hS, hA, hB⟩ := hrel
    by_cases hlt : k < n
    · have hki : (k : Int) < n := by omega
      obtain ⟨e, he⟩ : ∃ e, L[k]? = some e := ⟨_, List.getElem?_eq_getElem (by rw [HN.out]; exact hlt)⟩
      obtain ⟨b, o, rfl, hr⟩ := (P0.out.keep hB.out) k e he
      have R1 := Lib.hid hr
      have HE := Lib.hid he
      have T0 := fun V => toPermit_any e.1 e.2.1 e.2.2 V
      have c0 : wr.cell? ⟨b, o + k * 3, none⟩ = some (.int .i8 e.1) := hr 0 _ rfl
      have c1 : wr.cell? ⟨b, o + k * 3 + 1, none⟩ = some (.int .i8 e.2.1) := hr 1 _ rfl
      have c2 : wr.cell? ⟨b, o + k * 3 + 2, none⟩ = some (.int .i16 e.2.2) := hr 2 _ rfl
      simp only [Pm] at T0
      clear hr he
      go_wp2_with (first | (go_at_call 52; refine (T0 _).mono ?_; rintro x V1 ⟨rfl, hq1⟩; have Q1 := Lib.hid hq1; have TH := Lib.hid (there_keep hT.out hS.out hq1); clear hq1 c0 c1 c2) | (refine wpList_store_mid rfl 82 _ _ rfl w.heap.size (k * 3) #[.int .i8 e.1, .int .i8 e.2.1, .int .i16 e.2.2] rfl rfl (there_part TH.out (show k * 3 + 3 ≤ n * 3 by omega)) (by kernel_rfl) (pm_one e) ?_; obtain ⟨V2, hV2⟩ : ∃ V2, V1.setCells w.heap.size (k * 3) [.int .i8 e.1, .int .i8 e.2.1, .int .i16 e.2.2] = V2 := ⟨_, rfl⟩; try rw [hV2]; have HV := Lib.hid hV2; clear hV2))
      have HC := copiedP hlt hS.out hA.out hB.out HE.out Q1.out TH.out HV.out
      go_roundw
      case rel => exact ⟨k + 1, by omega, by go_num, Lib.hid HC.1, Lib.hid HC.2.1, Lib.hid HC.2.2.1, Lib.hid HC.2.2.2⟩
      case measure => simp [intOf]; omega
    · obtain rfl : k = n := by omega
      go_wp2
      go_ret
      exact ⟨_, rfl, Nat.le_refl _, hS.out, fun i e he => ⟨_, _, rfl, hA.out i e (by rw [← HN.out]; exact (List.getElem?_eq_some_iff.1 he).1) he⟩, hB.out⟩
section
variable {H : Type} {enc : TypeId × Value → H} {w : World} {base : Nat} {spare : Nat → Bool} {held : Bool}
/-- A permit in memory, opened. -/
def okP (e : P3) : Prop := (Lit.int .i8 e.1).wf = true ∧ (Lit.int .i8 e.2.1).wf = true ∧ (Lit.int .i16 e.2.2).wf = true
set_option maxRecDepth 100000 in
theorem pmFields : ∃ f0 f1 f2 : Field, Tryz.prog.underlying 84 = some (.struct #[f0, f1, f2]) ∧ oneCellFields Tryz.prog #[f0, f1, f2] = true ∧ f0.type = 22 ∧ f1.type = 22 ∧ f2.type = 80 := by
  have h := Tryz.underlying84
  refine ⟨_, _, _, h, ?_, ?_, ?_, ?_⟩
  all_goals kernel_rfl
set_option maxRecDepth 100000 in
theorem open_pm {n : Nat} {cs : List Value} {y : DataW H × List MemPlace} (hl : cs.length = 3) (h : DataW.trod enc Tryz.prog w base spare held n 84 cs = some y) : ∃ e : P3, cs = p3 e ∧ okP e := by
  obtain ⟨f0, f1, f2, hu, hone, t0, t1, t2⟩ := pmFields
  obtain ⟨xs, m, _, _, _, hxl, hf⟩ := DataW.trod_struct hu h
  match cs, hl, xs, hxl with
  | [c0, c1, c2], _, [y0, y1, y2], _ =>
    obtain ⟨o0, k0⟩ := hone_of hone 0 f0 rfl
    obtain ⟨o1, k1⟩ := hone_of hone 1 f1 rfl
    obtain ⟨o2, k2⟩ := hone_of hone 2 f2 rfl
    have g0 := hf 0 f0 rfl
    have g1 := hf 1 f1 rfl
    have g2 := hf 2 f2 rfl
    rw [o0, k0, t0] at g0
    rw [o1, k1, t1] at g1
    rw [o2, k2, t2] at g2
    obtain ⟨X, hX, _, wX⟩ := DataW.trod_int Tryz.underlying22 (show DataW.trod enc Tryz.prog w base spare held m 22 [c0] = some y0 from g0)
    obtain ⟨Y, hY, _, wY⟩ := DataW.trod_int Tryz.underlying22 (show DataW.trod enc Tryz.prog w base spare held m 22 [c1] = some y1 from g1)
    obtain ⟨Z, hZ, _, wZ⟩ := DataW.trod_int Tryz.underlying80 (show DataW.trod enc Tryz.prog w base spare held m 80 [c2] = some y2 from g2)
    cases hX; cases hY; cases hZ
    exact ⟨(X, Y, Z), rfl, wX, wY, wZ⟩
theorem cellsPm : Tryz.prog.cellsOf 84 = 3 := by kernel_rfl
/-- A list of permits, opened. -/
theorem open_ps {v : Value} {d : DataW H} {ps : List MemPlace} (hv : ∃ a len cap, v = .slice a len cap) (h : DataW.Trod enc Tryz.prog w base spare held 31 v d ps) :
    ∃ (p : Option Addr) (c : Nat) (L : List P3), v = .slice p L.length c ∧ L.length ≤ maxLen ∧ PsAt w p L ∧ ∀ e ∈ L, okP e := by
  obtain ⟨a, len, cap, rfl⟩ := hv
  obtain ⟨fuel, hf⟩ := h
  rcases open_slice Tryz.underlying31 hf with ⟨h0, _⟩ | ⟨a', len', cap', m, n, D, Pl, hcs, _, hlc, hcm, hm, _, hi⟩
  · have h0' : [Value.slice a len cap] = [Value.slice none 0 0] := h0
    cases h0'
    exact ⟨none, 0, [], rfl, Nat.zero_le _, (fun i e he => by simp at he), (fun e he => by cases he)⟩
  · have hcs' : [Value.slice a len cap] = [Value.slice (some a') len' cap'] := hcs
    cases hcs'
    have hlm : len ≤ m := by rw [hm]; split <;> omega
    have hex : ∀ i, i < len → ∃ e : P3, (∀ j v, (p3 e)[j]? = some v → w.cell? (a'.add (i * 3 + j)) = some v) ∧ okP e := fun i hil => by
      obtain ⟨cs', h1, h2⟩ := hi i (by omega)
      rw [cellsPm] at h1
      obtain ⟨_, hl, hc⟩ := World.cells?_some h1
      obtain ⟨e, rfl, ok⟩ := open_pm hl h2
      refine ⟨e, fun j v hj => ?_, ok⟩
      have hj3 : j < 3 := (List.getElem?_eq_some_iff.1 hj).1
      rw [← add_add, hc j hj3, hj]
    obtain ⟨F, hF⟩ := choose_lt hex
    refine ⟨some a', cap, (List.range len).map F, by simp, by simp; omega, fun i e he => ?_, fun e he => ?_⟩
    · have hil : i < len := by simpa using (List.getElem?_eq_some_iff.1 he).1
      have hFe : F i = e := by simpa [List.getElem?_range hil] using he
      subst hFe
      have hc := (hF i hil).1
      have h0 := (hF 0 (by omega)).1 0 _ rfl
      obtain ⟨bb, oo, sp⟩ := a'
      have hsp : sp = none := by
        cases sp with
        | none => rfl
        | some x =>
          exfalso
          have ha : (⟨bb, oo, some x⟩ : Addr).add (0 * 3 + 0) = ⟨bb, oo, some x⟩ := rfl
          rw [ha] at h0
          unfold World.cell? at h0
          cases hh : w.heap[bb]? with
          | none => simp [hh] at h0
          | some ob => cases ob <;> simp [hh] at h0
      subst hsp
      exact ⟨bb, oo, rfl, fun j v hj => by have := hc j v hj; rw [Addr.add_mid] at this; rwa [Nat.add_assoc]⟩
    · simp only [List.mem_map, List.mem_range] at he
      obtain ⟨i, hil, rfl⟩ := he
      exact (hF i hil).2
end
end Go.Proofs.YtaghnminpfgdcaaGreatDoor
