/- A list of permits appended to an empty one, and slices.Clone of one. Condition: at most 40 permits. -/
import Derived.Test.YtaghnminpfgdcaaGreatDoorMkp
import Derived.Deep.Upon
namespace Go.Proofs.YtaghnminpfgdcaaGreatDoor
open Go Go.RowKit Ieee
set_option linter.unusedSimpArgs false
set_option linter.unusedVariables false
attribute [local go_sem] run_store_float

/-- The cells of a list, one behind the other. -/
def cellP (L : List P3) (j : Nat) : Value := match L[j / 3]? with | some e => if j % 3 = 0 then .int .i8 e.1 else if j % 3 = 1 then .int .i8 e.2.1 else .int .i16 e.2.2 | none => undef
def newsP (L : List P3) : List Value := (List.range (L.length * 3)).map (cellP L)
theorem newsP_len (L : List P3) : (newsP L).length = L.length * 3 := by simp [newsP]
theorem newsP_at {L : List P3} {i : Nat} {e : P3} (he : L[i]? = some e) : (newsP L)[i * 3]? = some (.int .i8 e.1) ∧ (newsP L)[i * 3 + 1]? = some (.int .i8 e.2.1) ∧ (newsP L)[i * 3 + 2]? = some (.int .i16 e.2.2) := by
  have hi : i < L.length := (List.getElem?_eq_some_iff.1 he).1
  have h1 : i * 3 / 3 = i := by omega
  have h2 : (i * 3 + 1) / 3 = i := by omega
  have h2' : (i * 3 + 2) / 3 = i := by omega
  have h3 : i * 3 % 3 = 0 := by omega
  have h4 : ¬ (i * 3 + 1) % 3 = 0 := by omega
  have h5 : (i * 3 + 1) % 3 = 1 := by omega
  have h6 : ¬ (i * 3 + 2) % 3 = 0 := by omega
  have h7 : ¬ (i * 3 + 2) % 3 = 1 := by omega
  refine ⟨?_, ?_, ?_⟩
  · simp only [newsP, List.getElem?_map, List.getElem?_range (show i * 3 < L.length * 3 by omega), Option.map_some, cellP, h1, he, h3, if_true]
  · simp only [newsP, List.getElem?_map, List.getElem?_range (show i * 3 + 1 < L.length * 3 by omega), Option.map_some, cellP, h2, he, h5]; rfl
  · simp only [newsP, List.getElem?_map, List.getElem?_range (show i * 3 + 2 < L.length * 3 by omega), Option.map_some, cellP, h2', he, if_neg h6, if_neg h7]
theorem newsP_one (L : List P3) : ∀ u ∈ newsP L, ∃ j e, L[j / 3]? = some e ∧ u = cellP L j := fun u hu => by
  simp only [newsP, List.mem_map, List.mem_range] at hu
  obtain ⟨j, hj, rfl⟩ := hu
  exact ⟨j, _, List.getElem?_eq_getElem (by omega), rfl⟩
/-- What lies there, cell by cell. -/
theorem ps_cells {w : World} {ap : Addr} {L : List P3} (hp : PsAt w (some ap) L) : ∀ j v, (newsP L)[j]? = some v → w.cell? (ap.add j) = some v := fun j v hj => by
  have hjl : j < L.length * 3 := by have := (List.getElem?_eq_some_iff.1 hj).1; rwa [newsP_len] at this
  obtain ⟨e, he⟩ : ∃ e, L[j / 3]? = some e := ⟨_, List.getElem?_eq_getElem (by omega)⟩
  obtain ⟨b, o, hbo, hr⟩ := hp (j / 3) e he
  cases hbo
  obtain ⟨h0, h1, h2⟩ := newsP_at he
  rw [Addr.add_mid]
  have hm : j % 3 = 0 ∨ j % 3 = 1 ∨ j % 3 = 2 := by omega
  rcases hm with hm | hm | hm
  · have hj2 : j / 3 * 3 = j := by omega
    rw [hj2] at h0
    rw [h0] at hj
    cases hj
    have := hr 0 _ rfl
    rwa [hj2] at this
  · have hj2 : j / 3 * 3 + 1 = j := by omega
    rw [hj2] at h1
    rw [h1] at hj
    cases hj
    have := hr 1 _ rfl
    rwa [show o + j / 3 * 3 + 1 = o + j by omega] at this
  · have hj2 : j / 3 * 3 + 2 = j := by omega
    rw [hj2] at h2
    rw [h2] at hj
    cases hj
    have := hr 2 _ rfl
    rwa [show o + j / 3 * 3 + 2 = o + j by omega] at this

theorem appP_run {w : World} {ap b0 : Addr} {L : List P3} {n c : Nat} (hn : L.length = n) (h0 : 0 < n) (h1 : n ≤ 40) (hp : PsAt w (some ap) L) :
    ∃ cap W', (∀ ty, (Builtin.append_ #[43, 43] ty #[.slice (some b0) 0 0, .slice (some ap) n c]).run Tryz.prog w = .ok (.slice (some ⟨w.heap.size, 0, none⟩) n cap) W') ∧
      PsAt W' (some ⟨w.heap.size, 0, none⟩) L ∧ W'.there w.heap.size 0 (n * 3) ∧ Below w.heap.size w W' ∧ W'.heap.size = w.heap.size + 1 := by
  obtain ⟨i, hi, hz, hs, hb⟩ := info_parts (P := Tryz.prog) (e := 82) (z := .agg (Pm 0 0 0)) (size := 3) (bytes := 4) (by kernel_rfl)
  have hl : (newsP L).length = n * i.size := by rw [newsP_len, hn, hs]
  have hfit : Builtin.nextslicecap (0 + n) 0 * i.bytes ≤ 281474976710656 := by
    rw [Nat.zero_add, nextslicecap_zero h0, hb]
    omega
  have hrun := fun ty => run_append_grow (P := Tryz.prog) (w := w) 43 ty 82 i (.agg (Pm 0 0 0)) Tryz.underlying43 hi hz b0 0 0 [] (by simp) (by simp) ap n c (newsP L) hl (ps_cells hp) (by omega) (by omega) hfit
  simp only [Nat.zero_add] at hrun
  refine ⟨_, _, fun ty => hrun ty, ?_, ?_, ?_, ?_⟩
  · intro k e he
    have hk : k < n := by rw [← hn]; exact (List.getElem?_eq_some_iff.1 he).1
    refine ⟨_, _, rfl, fun j v hj => ?_⟩
    have hj2 : j < 3 := (List.getElem?_eq_some_iff.1 hj).1
    obtain ⟨g0, g1, g2⟩ := newsP_at he
    have hblk := heap_alloc_last w.drew (.cells (([] : List Value).toArray ++ (newsP L).toArray ++ Builtin.zeroCells (Value.agg (Pm 0 0 0)).cells (grownCap w n 0 82 - n)) 82)
    rw [show w.drew.heap.size = w.heap.size from rfl] at hblk
    have hc := cell_of_row _ w.heap.size (0 + k * 3 + j) _ _ _ hblk
    rw [hc, Array.getElem?_append_left (by simp [newsP_len, hn]; omega)]
    simp only [List.nil_append, Array.empty_append, List.getElem?_toArray, Nat.zero_add]
    match j, hj2 with
    | 0, _ => rw [Nat.add_zero, g0]; simpa [p3, Pm] using hj
    | 1, _ => rw [g1]; simpa [p3, Pm] using hj
    | 2, _ => rw [g2]; simpa [p3, Pm] using hj
  · have hblk := heap_alloc_last w.drew (.cells (([] : List Value).toArray ++ (newsP L).toArray ++ Builtin.zeroCells (Value.agg (Pm 0 0 0)).cells (grownCap w n 0 82 - n)) 82)
    rw [show w.drew.heap.size = w.heap.size from rfl] at hblk
    have ht := there_row hblk rfl
    intro j hj
    exact ht j (by simp [newsP_len, hn]; omega)
  · exact ((Below.refl _ _).drew).alloc (by show w.heap.size ≤ w.drew.heap.size; exact Nat.le_refl _) _
  · simp

theorem wpList_appendP {ops : Array Oper} {rest : List Oper} {o : Oper} {a : Act} {w W' : World} {Q : Exit → Act → World → Prop} (hg : o.guard = none) (x y : Operand)
    (ho : o.op = .call { callee := .builtin .append, args := #[x, y], argTypes := #[43, 43] }) (b0 ap : Addr) (n c cap : Nat) (hx : a.eval x = .slice (some b0) 0 0) (hy : a.eval y = .slice (some ap) n c)
    (hm : ∀ ty, (Builtin.append_ #[43, 43] ty #[.slice (some b0) 0 0, .slice (some ap) n c]).run Tryz.prog w = .ok (.slice (some ⟨w.heap.size, 0, none⟩) n cap) W')
    (h : wpList Tryz.prog ops Q rest (a.put o.dst (.slice (some ⟨w.heap.size, 0, none⟩) n cap)) W') : wpList Tryz.prog ops Q (o :: rest) a w :=
  wpList_plain hg fun K hK => by
    unfold Oper.wp
    simp [execOp, ho, resolve, invoke, builtin, hx, hy, hm, Result.andThen]
    exact hK _ _ h

set_option maxRecDepth 100000 in
set_option maxHeartbeats 1000000 in
theorem cloneP_any (ap : Addr) (c : Nat) (L : List P3) (h0 : 0 < L.length) (h1 : L.length ≤ 40) (w : World) (hp : PsAt w (some ap) L) :
    Calls Tryz.prog 108 #[.slice (some ap) L.length c] w fun e w' => ∃ b cap, e = .returned (.slice (some ⟨b, 0, none⟩) L.length cap) ∧ w.heap.size ≤ b ∧ b < w'.heap.size ∧ PsAt w' (some ⟨b, 0, none⟩) L ∧ w'.there b 0 (L.length * 3) ∧ Below w.heap.size w w' := by
  obtain ⟨n, hn⟩ : ∃ n, L.length = n := ⟨_, rfl⟩
  obtain ⟨ab, ao, hap⟩ : ∃ ab ao, ap = ⟨ab, ao, none⟩ := by
    obtain ⟨b, o, h, _⟩ := hp 0 _ (List.getElem?_eq_getElem h0)
    exact ⟨b, o, Option.some.inj h⟩
  subst hap
  have P0 := Lib.hid hp
  have HN := Lib.hid hn
  rw [hn] at h0 h1 ⊢
  clear hn hp
  go_enter Tryz.func108, Tryz.ntmps108
  have hnil : ∀ w, (binOp BinOp.eql 43 (.slice (some ⟨ab, ao, none⟩) n c) (.slice none 0 0)).run Tryz.prog w = .ok (.bool false) w := fun _ => by kernel_rfl
  have BA : Below w.heap.size w (w.alloc (.cells #[] 82)) := (Below.refl _ _).alloc (Nat.le_refl _) _
  obtain ⟨cap, W', hm, hR, hT, hB, hz⟩ := appP_run (b0 := ⟨w.heap.size, 0, none⟩) (c := c) HN.out h0 h1 (P0.out.keep BA)
  have hsz : (w.alloc (.cells #[] 82)).heap.size = w.heap.size + 1 := by simp
  rw [hsz] at hR hT hz
  have HM := Lib.hid hm
  have HR := Lib.hid hR
  have HT := Lib.hid hT
  have HB := Lib.hid (BA.trans (hB.mono BA.size))
  have HZ := Lib.hid hz
  have HA := Lib.hid BA
  clear hm hR hT hB hz BA hsz
  go_wp2_with (refine wpList_appendP rfl _ _ rfl ⟨w.heap.size, 0, none⟩ ⟨ab, ao, none⟩ n c cap rfl rfl HM.out ?_)
  go_ret
  exact ⟨_, cap, rfl, by omega, by rw [HZ.out]; omega, HR.out, HT.out, HB.out⟩
set_option maxRecDepth 100000 in
theorem cloneP_nil (ab ao : Nat) (c : Nat) (w : World) : Calls Tryz.prog 108 #[.slice (some ⟨ab, ao, none⟩) 0 c] w fun e w' => ∃ b cap, e = .returned (.slice (some ⟨b, 0, none⟩) 0 cap) ∧ Below w.heap.size w w' := by
  have hnil : ∀ w, (binOp BinOp.eql 43 (.slice (some ⟨ab, ao, none⟩) 0 c) (.slice none 0 0)).run Tryz.prog w = .ok (.bool false) w := fun _ => by kernel_rfl
  go_enter Tryz.func108, Tryz.ntmps108
  go_wp2
  go_ret
  exact ⟨_, _, rfl, (Below.refl _ _).alloc (Nat.le_refl _) _⟩

end Go.Proofs.YtaghnminpfgdcaaGreatDoor
