/- Lists of wells in memory: the law's copy of one (toWellS), and its comparison with another that is the same (eqWellS). Condition: at most 2^20 of them. -/
import Derived.Test.YtdhgehmnjoclaaaIm
import Derived.Test.YtdhgehmnjoclaaaLs
namespace Go.Proofs.Ytdhgehmnjoclaaa
open Go Go.RowKit Ieee
set_option linter.unusedSimpArgs false
set_option linter.unusedVariables false
attribute [local go_sem] run_store_f32
/-- A well, as numbers. -/
abbrev W3 := Int × Int × Nat
def w3 (e : W3) : List Value := (We e.1 e.2.1 e.2.2).toList
theorem w3_len (e : W3) : (w3 e).length = 3 := rfl
/-- The wells of L lie behind one another where the slice begins. -/
def WsAt (w : World) (p : Option Addr) (L : List W3) : Prop := ∀ i e, L[i]? = some e → ∃ b o, p = some ⟨b, o, none⟩ ∧ w.rangeAt b (o + i * 3) (w3 e)
theorem WsAt.below {w w' : World} {p : Option Addr} {L : List W3} (h : WsAt w p L) {B : Nat} (hb : ∀ b o, p = some ⟨b, o, none⟩ → b < B) (hB : Below B w w') : WsAt w' p L := fun i e he => by
  obtain ⟨b, o, hp, hr⟩ := h i e he
  exact ⟨b, o, hp, range_kept hr (hb b o hp) _ hB⟩
/-- What is there lies in a block that is there. -/
theorem WsAt.lt {w : World} {p : Option Addr} {L : List W3} (h : WsAt w p L) : L ≠ [] → ∀ b o, p = some ⟨b, o, none⟩ → b < w.heap.size := fun hne b o hp => by
  cases L with
  | nil => exact absurd rfl hne
  | cons e L =>
    obtain ⟨b', o', hp', hr⟩ := h 0 e rfl
    rw [hp] at hp'
    cases hp'
    exact World.block_lt_of_cell? w _ (hr 0 _ rfl)
theorem WsAt.keep {w w' : World} {p : Option Addr} {L : List W3} (h : WsAt w p L) (hB : Below w.heap.size w w') : WsAt w' p L := by
  by_cases hne : L = []
  · subst hne; intro i e he; simp at he
  · exact h.below (h.lt hne) hB
/-- The address of an element of a slice of wells. -/
theorem index_we {op : Oper} {a : Act} {x y : Operand} {T : TypeId} {b o n c k : Nat} (ho : op.op = .indexAddr T x y) (hT : T = 24 ∨ T = 22) (hx : a.eval x = .slice (some ⟨b, o, none⟩) n c) (hy : a.eval y = .int .i64 k) (hk : k < n) (w : World) :
    (execOp a.eval op).run Try.prog w = .ok (.value (.pointer (some ⟨b, o + k * 3, none⟩))) w := by
  unfold execOp
  simp only [ho, hx, hy]
  rcases hT with rfl | rfl
  · go_simp
  · go_simp
set_option maxRecDepth 100000 in
set_option maxHeartbeats 1000000 in
theorem eqWellS_yes (p q : Option Addr) (c d : Nat) (L : List W3) (hL : L.length ≤ 1048576) (w : World) (hp : WsAt w p L) (hq : WsAt w q L) :
    Calls Try.prog 8 #[.slice p L.length c, .slice q L.length d] w fun e w' => e = .returned (.bool true) ∧ Below w.heap.size w w' := by
  have P0 := Lib.hid hp
  have Q0 := Lib.hid hq
  obtain ⟨n, hn⟩ : ∃ n, L.length = n := ⟨_, rfl⟩
  have HN := Lib.hid hn
  rw [hn] at hL ⊢
  clear hp hq hn
  go_enter Try.func8, Try.ntmps8
  go_wp2
  go_loopw [5] (fun i wr => ∃ k : Nat, k ≤ n ∧ i = .int .i64 k ∧ Hid (Below w.heap.size w wr)) (fun i _ => n - (intOf i).toNat)
  case atStart => exact ⟨0, by omega, rfl, Lib.hid (Below.refl _ _)⟩
  case round =>
    obtain ⟨k, hk, rfl, hB⟩ := hrel
    by_cases hlt : k < n
    · have hki : (k : Int) < n := by omega
      obtain ⟨e, he⟩ : ∃ e, L[k]? = some e := ⟨_, List.getElem?_eq_getElem (by rw [HN.out]; exact hlt)⟩
      obtain ⟨b, o, rfl, hr⟩ := (P0.out.keep hB.out) k e he
      obtain ⟨b', o', rfl, hr'⟩ := (Q0.out.keep hB.out) k e he
      have R1 : ∀ w', Below wr.heap.size wr w' → w'.rangeAt b (o + k * 3) (w3 e) := fun w' h => range_kept hr (World.block_lt_of_cell? wr _ (hr 0 _ rfl)) w' h
      have R2 : ∀ w', Below wr.heap.size wr w' → w'.rangeAt b' (o' + k * 3) (w3 e) := fun w' h => range_kept hr' (World.block_lt_of_cell? wr _ (hr' 0 _ rfl)) w' h
      have T : ∀ w', Below wr.heap.size wr w' → Calls Try.prog 16 #[.agg (We e.1 e.2.1 e.2.2), .agg (We e.1 e.2.1 e.2.2)] w' fun x w2 => ∃ v, x = .returned v ∧ One (.bool true) v ∧ Below wr.heap.size wr w2 := fun w' h => (eqWell_any e.1 e.2.1 e.2.2 e.2.2 rfl w').mono fun x w2 hx => ⟨_, hx.1, rfl, h.trans (hx.2.mono h.size)⟩
      clear hr hr' he
      go_wp2
      refine wp_region_calm (ops' := regOf Try.f8 6) [0, 1, 2, 3, 4, 5, 6, 7, 8, 9] [] .fin (Below wr.heap.size wr) [(0, One (.slice (some ⟨b, o, none⟩) n c)), (1, One (.int .i64 (k : Int))), (2, One (.pointer (some ⟨b, o + k * 3, none⟩))), (3, One (.agg (We e.1 e.2.1 e.2.2))), (4, One (.slice (some ⟨b', o', none⟩) n d)), (5, One (.int .i64 (k : Int))), (6, One (.pointer (some ⟨b', o' + k * 3, none⟩))), (7, One (.agg (We e.1 e.2.1 e.2.2))), (8, One (.bool true)), (9, One (.bool false))] (by kernel_rfl) (by kernel_rfl) (by kernel_rfl) (by kernel_rfl) (by kernel_rfl) (by kernel_rfl) (by kernel_rfl) (by kernel_rfl) rfl ((Below.refl _ _).drew) ?_
      refine calm_pure (some 17) (by kernel_rfl) (by kernel_rfl) (by kernel_rfl) (fun _ => by kernel_rfl) ?_
      refine calm_pure (some 18) (by kernel_rfl) (by kernel_rfl) (by kernel_rfl) (fun _ => by kernel_rfl) ?_
      refine calm_pure (some 19) (by kernel_rfl) (by kernel_rfl) (by kernel_rfl) (index_we (T := 24) (n := n) (c := c) (x := .tmp 17) (y := .tmp 18) (by kernel_rfl) (.inl rfl) (by kernel_rfl) (by kernel_rfl) hlt) ?_
      refine calm_load (some 20) 35 (.tmp 19) b (o + k * 3) _ (by kernel_rfl) (by kernel_rfl) (by kernel_rfl) (by kernel_rfl) (by kernel_rfl) R1 Try.underlying35 rfl (by kernel_rfl) ?_
      refine calm_pure (some 21) (by kernel_rfl) (by kernel_rfl) (by kernel_rfl) (fun _ => by kernel_rfl) ?_
      refine calm_pure (some 22) (by kernel_rfl) (by kernel_rfl) (by kernel_rfl) (fun _ => by kernel_rfl) ?_
      refine calm_pure (some 23) (by kernel_rfl) (by kernel_rfl) (by kernel_rfl) (index_we (T := 24) (n := n) (c := d) (x := .tmp 21) (y := .tmp 22) (by kernel_rfl) (.inl rfl) (by kernel_rfl) (by kernel_rfl) hlt) ?_
      refine calm_load (some 24) 35 (.tmp 23) b' (o' + k * 3) _ (by kernel_rfl) (by kernel_rfl) (by kernel_rfl) (by kernel_rfl) (by kernel_rfl) R2 Try.underlying35 rfl (by kernel_rfl) ?_
      refine calm_call (some 25) 16 #[.agg (We e.1 e.2.1 e.2.2), .agg (We e.1 e.2.1 e.2.2)] ⟨_, rfl⟩ (by kernel_rfl) (by kernel_rfl) (by kernel_rfl) (fun _ => by kernel_rfl) T ?_
      rintro _ rfl
      refine calm_pure (some 26) (by kernel_rfl) (by kernel_rfl) (by kernel_rfl) (fun _ => by kernel_rfl) ?_
      refine calm_end fun w' hw' => plan_end (Clean.normal ?_)
      clear R1 R2 T
      simp only [Act.put, List.setIfInBounds_toArray, List.set_cons_zero, List.set_cons_succ]
      go_wp2
      go_roundw
      case rel => exact ⟨k + 1, by omega, by go_num, Lib.hid (hB.out.trans (hw'.mono hB.out.size))⟩
      case measure => simp [intOf]; omega
    · obtain rfl : k = n := by omega
      go_wp2
      go_ret
      exact ⟨rfl, hB.out⟩
theorem we_one (e : W3) : (#[Value.int .i8 e.1, .int .i8 e.2.1, .float .f32 e.2.2] : Array Value).all (·.oneCell') = true := by
  simp [Value.oneCell']
/-- One round of the copy: one well more lies there. -/
theorem copied {w wr V1 V2 : World} {n k : Nat} {L : List W3} {e : W3} (hlt : k < n) (hS : w.heap.size < wr.heap.size) (hA : ∀ (j : Nat) (e : W3), j < k → L[j]? = some e → wr.rangeAt w.heap.size (0 + j * 3) (w3 e)) (hB : Below w.heap.size w wr)
    (he : L[k]? = some e) (q : Below wr.heap.size wr V1) (ht : V1.there w.heap.size 0 (n * 3)) (hv : V1.setCells w.heap.size (k * 3) [.int .i8 e.1, .int .i8 e.2.1, .float .f32 e.2.2] = V2) :
    V2.there w.heap.size 0 (n * 3) ∧ w.heap.size < V2.heap.size ∧ (∀ (j : Nat) (e : W3), j < k + 1 → L[j]? = some e → V2.rangeAt w.heap.size (0 + j * 3) (w3 e)) ∧ Below w.heap.size w V2 := by
  subst hv
  refine ⟨World.there_setCells ht _ _ _, by rw [size_setCellsW]; exact Nat.lt_of_lt_of_le hS q.size, fun j f hj hf => ?_, below_setCells _ (Nat.le_refl _) _ _ _ (hB.trans (q.mono hB.size))⟩
  by_cases hjk : j = k
  · subst hjk
    rw [he] at hf
    cases hf
    rw [Nat.zero_add]
    exact World.rangeAt_setCells_same _ _ _ _ (there_part ht (show j * 3 + 3 ≤ n * 3 by omega))
  · exact World.rangeAt_setCells_apart (range_kept (hA j f (by omega) hf) hS _ q) _ _ _ (.inr (.inl (by rw [w3_len]; omega)))

/-- The zero wells of a list that is made. -/
theorem makeWs (n : Nat) (hn : n ≤ 1048576) : ∃ C : Array Value, C.size = n * 3 ∧ ∀ w, (Instr.makeSlice 24 (.int .i64 (n : Int)) (.int .i64 (n : Int))).run Try.prog w = .ok (.slice (some ⟨w.heap.size, 0, none⟩) n n) (w.alloc (.cells C 35)) := by
  obtain ⟨i, hi, hz, hs, hb⟩ := info_parts (P := Try.prog) (e := 35) (z := .agg (We 0 0 0)) (size := 3) (bytes := 8) (by kernel_rfl)
  refine ⟨madeCells (Value.cells (.agg (We 0 0 0))) (n * i.size), by rw [size_madeCells, hs], fun w => ?_⟩
  have hr := run_make (P := Try.prog) w 24 35 i (.agg (We 0 0 0)) Try.underlying24 hi hz .i64 .i64 n n (by omega) (by omega) (by rw [hb]; omega) (by omega)
  simp only [Int.toNat_natCast] at hr
  exact hr

set_option maxRecDepth 100000 in
set_option maxHeartbeats 1000000 in
theorem toWellS_any (p : Option Addr) (c : Nat) (L : List W3) (hL : L.length ≤ 1048576) (w : World) (hp : WsAt w p L) :
    Calls Try.prog 6 #[.slice p L.length c] w fun e w' => ∃ b, e = .returned (.slice (some ⟨b, 0, none⟩) L.length L.length) ∧ w.heap.size ≤ b ∧ b < w'.heap.size ∧ WsAt w' (some ⟨b, 0, none⟩) L ∧ Below w.heap.size w w' := by
  have P0 := Lib.hid hp
  obtain ⟨n, hn⟩ : ∃ n, L.length = n := ⟨_, rfl⟩
  have HN := Lib.hid hn
  rw [hn] at hL ⊢
  obtain ⟨C, hC, hmk⟩ := makeWs n hL
  clear hp hn
  go_enter Try.func6, Try.ntmps6
  go_wp2
  go_loopw [4] (fun i wr => ∃ k : Nat, k ≤ n ∧ i = .int .i64 k ∧ Hid (wr.there w.heap.size 0 (n * 3)) ∧ Hid (w.heap.size < wr.heap.size) ∧ Hid (∀ j e, j < k → L[j]? = some e → wr.rangeAt w.heap.size (0 + j * 3) (w3 e)) ∧ Hid (Below w.heap.size w wr)) (fun i _ => n - (intOf i).toNat)
  case atStart =>
    exact ⟨0, by omega, rfl, Lib.hid (there_row (heap_alloc_last w _) hC), Lib.hid (by simp), Lib.hid (fun j _ hj => absurd hj (by omega)), Lib.hid ((Below.refl _ _).alloc (Nat.le_refl _) _)⟩
  case round =>
    obtain ⟨k, hk, rfl, hT, hS, hA, hB⟩ := hrel
    by_cases hlt : k < n
    · have hki : (k : Int) < n := by omega
      obtain ⟨e, he⟩ : ∃ e, L[k]? = some e := ⟨_, List.getElem?_eq_getElem (by rw [HN.out]; exact hlt)⟩
      obtain ⟨b, o, rfl, hr⟩ := (P0.out.keep hB.out) k e he
      have R1 := Lib.hid hr
      have HE := Lib.hid he
      have T0 := fun V => toWell_any e.1 e.2.1 e.2.2 V
      have c0 : wr.cell? ⟨b, o + k * 3, none⟩ = some (.int .i8 e.1) := hr 0 _ rfl
      have c1 : wr.cell? ⟨b, o + k * 3 + 1, none⟩ = some (.int .i8 e.2.1) := hr 1 _ rfl
      have c2 : wr.cell? ⟨b, o + k * 3 + 2, none⟩ = some (.float .f32 e.2.2) := hr 2 _ rfl
      simp only [We] at T0
      clear hr he
      go_wp2_with (first | (go_at_call 13; refine (T0 _).mono ?_; rintro x V1 ⟨rfl, hq1⟩; have Q1 := Lib.hid hq1; have TH := Lib.hid (there_keep hT.out hS.out hq1); clear hq1 c0 c1 c2) | (refine wpList_store_mid rfl 35 _ _ rfl w.heap.size (k * 3) #[.int .i8 e.1, .int .i8 e.2.1, .float .f32 e.2.2] rfl rfl (there_part TH.out (show k * 3 + 3 ≤ n * 3 by omega)) (by kernel_rfl) (we_one e) ?_; obtain ⟨V2, hV2⟩ : ∃ V2, V1.setCells w.heap.size (k * 3) [.int .i8 e.1, .int .i8 e.2.1, .float .f32 e.2.2] = V2 := ⟨_, rfl⟩; try rw [hV2]; have HV := Lib.hid hV2; clear hV2))
      have HC := copied hlt hS.out hA.out hB.out HE.out Q1.out TH.out HV.out
      go_roundw
      case rel => exact ⟨k + 1, by omega, by go_num, Lib.hid HC.1, Lib.hid HC.2.1, Lib.hid HC.2.2.1, Lib.hid HC.2.2.2⟩
      case measure => simp [intOf]; omega
    · obtain rfl : k = n := by omega
      go_wp2
      go_ret
      exact ⟨_, rfl, Nat.le_refl _, hS.out, fun i e he => ⟨_, _, rfl, hA.out i e (by rw [← HN.out]; exact (List.getElem?_eq_some_iff.1 he).1) he⟩, hB.out⟩
end Go.Proofs.Ytdhgehmnjoclaaa
