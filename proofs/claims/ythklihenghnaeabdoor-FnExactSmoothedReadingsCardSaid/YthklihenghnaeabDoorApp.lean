/- A list of readings appended to an empty one, and slices.Clone of one. Condition: at most 40 readings. -/
import Derived.Test.YthklihenghnaeabDoorMkr
import Derived.Deep.Upon
namespace Go.Proofs.YthklihenghnaeabDoor
open Go Go.RowKit Ieee
set_option linter.unusedSimpArgs false
set_option linter.unusedVariables false
attribute [local go_sem] run_store_f32

/-- The cells of a list, one behind the other. -/
def cellR (L : List R2) (j : Nat) : Value := match L[j / 2]? with | some e => if j % 2 = 0 then .int .i64 e.1 else .int .i16 e.2 | none => undef
def newsR (L : List R2) : List Value := (List.range (L.length * 2)).map (cellR L)
theorem newsR_len (L : List R2) : (newsR L).length = L.length * 2 := by simp [newsR]
theorem newsR_at {L : List R2} {i : Nat} {e : R2} (he : L[i]? = some e) : (newsR L)[i * 2]? = some (.int .i64 e.1) ∧ (newsR L)[i * 2 + 1]? = some (.int .i16 e.2) := by
  have hi : i < L.length := (List.getElem?_eq_some_iff.1 he).1
  have h1 : i * 2 / 2 = i := by omega
  have h2 : (i * 2 + 1) / 2 = i := by omega
  have h3 : i * 2 % 2 = 0 := by omega
  have h4 : ¬ (i * 2 + 1) % 2 = 0 := by omega
  constructor
  · simp only [newsR, List.getElem?_map, List.getElem?_range (show i * 2 < L.length * 2 by omega), Option.map_some, cellR, h1, he, h3, if_true]
  · simp only [newsR, List.getElem?_map, List.getElem?_range (show i * 2 + 1 < L.length * 2 by omega), Option.map_some, cellR, h2, he, if_neg h4]
theorem newsR_one (L : List R2) : ∀ u ∈ newsR L, ∃ j e, L[j / 2]? = some e ∧ u = cellR L j := fun u hu => by
  simp only [newsR, List.mem_map, List.mem_range] at hu
  obtain ⟨j, hj, rfl⟩ := hu
  exact ⟨j, _, List.getElem?_eq_getElem (by omega), rfl⟩
/-- What lies there, cell by cell. -/
theorem rs_cells {w : World} {ap : Addr} {L : List R2} (hp : RsAt w (some ap) L) : ∀ j v, (newsR L)[j]? = some v → w.cell? (ap.add j) = some v := fun j v hj => by
  have hjl : j < L.length * 2 := by have := (List.getElem?_eq_some_iff.1 hj).1; rwa [newsR_len] at this
  obtain ⟨e, he⟩ : ∃ e, L[j / 2]? = some e := ⟨_, List.getElem?_eq_getElem (by omega)⟩
  obtain ⟨b, o, hbo, hr⟩ := hp (j / 2) e he
  cases hbo
  obtain ⟨h0, h1⟩ := newsR_at he
  rw [Addr.add_mid]
  rcases Nat.mod_two_eq_zero_or_one j with hm | hm
  · have hj2 : j / 2 * 2 = j := by omega
    rw [hj2] at h0
    rw [h0] at hj
    cases hj
    have := hr 0 _ rfl
    rwa [hj2] at this
  · have hj2 : j / 2 * 2 + 1 = j := by omega
    rw [hj2] at h1
    rw [h1] at hj
    cases hj
    have := hr 1 _ rfl
    rwa [show o + j / 2 * 2 + 1 = o + j by omega] at this

theorem appR_run {w : World} {ap b0 : Addr} {L : List R2} {n c : Nat} (hn : L.length = n) (h0 : 0 < n) (h1 : n ≤ 40) (hp : RsAt w (some ap) L) :
    ∃ cap W', (∀ ty, (Builtin.append_ #[41, 41] ty #[.slice (some b0) 0 0, .slice (some ap) n c]).run Tryd.prog w = .ok (.slice (some ⟨w.heap.size, 0, none⟩) n cap) W') ∧
      RsAt W' (some ⟨w.heap.size, 0, none⟩) L ∧ W'.there w.heap.size 0 (n * 2) ∧ Below w.heap.size w W' ∧ W'.heap.size = w.heap.size + 1 := by
  obtain ⟨i, hi, hz, hs, hb⟩ := info_parts (P := Tryd.prog) (e := 92) (z := .agg (Rd 0 0)) (size := 2) (bytes := 16) (by kernel_rfl)
  have hl : (newsR L).length = n * i.size := by rw [newsR_len, hn, hs]
  have hfit : Builtin.nextslicecap (0 + n) 0 * i.bytes ≤ 281474976710656 := by
    rw [Nat.zero_add, nextslicecap_zero h0, hb]
    omega
  have hrun := fun ty => run_append_grow (P := Tryd.prog) (w := w) 41 ty 92 i (.agg (Rd 0 0)) Tryd.underlying41 hi hz b0 0 0 [] (by simp) (by simp) ap n c (newsR L) hl (rs_cells hp) (by omega) (by omega) hfit
  simp only [Nat.zero_add] at hrun
  refine ⟨_, _, fun ty => hrun ty, ?_, ?_, ?_, ?_⟩
  · intro k e he
    have hk : k < n := by rw [← hn]; exact (List.getElem?_eq_some_iff.1 he).1
    refine ⟨_, _, rfl, fun j v hj => ?_⟩
    have hj2 : j < 2 := (List.getElem?_eq_some_iff.1 hj).1
    obtain ⟨g0, g1⟩ := newsR_at he
    have hblk := heap_alloc_last w.drew (.cells (([] : List Value).toArray ++ (newsR L).toArray ++ Builtin.zeroCells (Value.agg (Rd 0 0)).cells (grownCap w n 0 92 - n)) 92)
    rw [show w.drew.heap.size = w.heap.size from rfl] at hblk
    have hc := cell_of_row _ w.heap.size (0 + k * 2 + j) _ _ _ hblk
    rw [hc, Array.getElem?_append_left (by simp [newsR_len, hn]; omega)]
    simp only [List.nil_append, Array.empty_append, List.getElem?_toArray, Nat.zero_add]
    match j, hj2 with
    | 0, _ => rw [Nat.add_zero, g0]; simpa [r2, Rd] using hj
    | 1, _ => rw [g1]; simpa [r2, Rd] using hj
  · have hblk := heap_alloc_last w.drew (.cells (([] : List Value).toArray ++ (newsR L).toArray ++ Builtin.zeroCells (Value.agg (Rd 0 0)).cells (grownCap w n 0 92 - n)) 92)
    rw [show w.drew.heap.size = w.heap.size from rfl] at hblk
    have ht := there_row hblk rfl
    intro j hj
    exact ht j (by simp [newsR_len, hn]; omega)
  · exact ((Below.refl _ _).drew).alloc (by show w.heap.size ≤ w.drew.heap.size; exact Nat.le_refl _) _
  · simp

theorem wpList_appendR {ops : Array Oper} {rest : List Oper} {o : Oper} {a : Act} {w W' : World} {Q : Exit → Act → World → Prop} (hg : o.guard = none) (x y : Operand)
    (ho : o.op = .call { callee := .builtin .append, args := #[x, y], argTypes := #[41, 41] }) (b0 ap : Addr) (n c cap : Nat) (hx : a.eval x = .slice (some b0) 0 0) (hy : a.eval y = .slice (some ap) n c)
    (hm : ∀ ty, (Builtin.append_ #[41, 41] ty #[.slice (some b0) 0 0, .slice (some ap) n c]).run Tryd.prog w = .ok (.slice (some ⟨w.heap.size, 0, none⟩) n cap) W')
    (h : wpList Tryd.prog ops Q rest (a.put o.dst (.slice (some ⟨w.heap.size, 0, none⟩) n cap)) W') : wpList Tryd.prog ops Q (o :: rest) a w :=
  wpList_plain hg fun K hK => by
    unfold Oper.wp
    simp [execOp, ho, resolve, invoke, builtin, hx, hy, hm, Result.andThen]
    exact hK _ _ h

set_option maxRecDepth 100000 in
set_option maxHeartbeats 1000000 in
theorem cloneR_any (ap : Addr) (c : Nat) (L : List R2) (h0 : 0 < L.length) (h1 : L.length ≤ 40) (w : World) (hp : RsAt w (some ap) L) :
    Calls Tryd.prog 66 #[.slice (some ap) L.length c] w fun e w' => ∃ b cap, e = .returned (.slice (some ⟨b, 0, none⟩) L.length cap) ∧ w.heap.size ≤ b ∧ b < w'.heap.size ∧ RsAt w' (some ⟨b, 0, none⟩) L ∧ w'.there b 0 (L.length * 2) ∧ Below w.heap.size w w' := by
  obtain ⟨n, hn⟩ : ∃ n, L.length = n := ⟨_, rfl⟩
  obtain ⟨ab, ao, hap⟩ : ∃ ab ao, ap = ⟨ab, ao, none⟩ := by
    obtain ⟨b, o, h, _⟩ := hp 0 _ (List.getElem?_eq_getElem h0)
    exact ⟨b, o, Option.some.inj h⟩
  subst hap
  have P0 := Lib.hid hp
  have HN := Lib.hid hn
  rw [hn] at h0 h1 ⊢
  clear hn hp
  go_enter Tryd.func66, Tryd.ntmps66
  have hnil : ∀ w, (binOp BinOp.eql 41 (.slice (some ⟨ab, ao, none⟩) n c) (.slice none 0 0)).run Tryd.prog w = .ok (.bool false) w := fun _ => by kernel_rfl
  have BA : Below w.heap.size w (w.alloc (.cells #[] 92)) := (Below.refl _ _).alloc (Nat.le_refl _) _
  obtain ⟨cap, W', hm, hR, hT, hB, hz⟩ := appR_run (b0 := ⟨w.heap.size, 0, none⟩) (c := c) HN.out h0 h1 (P0.out.keep BA)
  have hsz : (w.alloc (.cells #[] 92)).heap.size = w.heap.size + 1 := by simp
  rw [hsz] at hR hT hz
  have HM := Lib.hid hm
  have HR := Lib.hid hR
  have HT := Lib.hid hT
  have HB := Lib.hid (BA.trans (hB.mono BA.size))
  have HZ := Lib.hid hz
  have HA := Lib.hid BA
  clear hm hR hT hB hz BA hsz
  go_wp2_with (refine wpList_appendR rfl _ _ rfl ⟨w.heap.size, 0, none⟩ ⟨ab, ao, none⟩ n c cap rfl rfl HM.out ?_)
  go_ret
  exact ⟨_, cap, rfl, by omega, by rw [HZ.out]; omega, HR.out, HT.out, HB.out⟩
end Go.Proofs.YthklihenghnaeabDoor
