/- Steps until heads are still, the program's. Condition: the table of math/bits is laid. -/
import Derived.Test.YtinepldaodadiaaDoorStu
import Derived.Test.YtinepldaodadiaaDoorStpG
namespace Go.Proofs.YtinepldaodadiaaDoor
open Go Go.RowKit Go.Shelf
attribute [local go_sem] Oper.semAt_some run_store_float
set_option linter.unusedSimpArgs false
set_option linter.unusedVariables false

theorem sizeOf_bal {G : Gd} (ha : allFin G = true) {k : Nat} (hk : k < 64) (hi : isB G k = true) (w : World) : Calls Tryd.prog 62 #[.float .f32 (balF G k)] w fun e w' => e = .returned (.float .f32 (absN (balF G k))) ∧ Quiet w w' :=
  (sizeOf_any (balF G k) w).mono fun e w' ⟨r, he, hr, hq⟩ => ⟨he.trans (by rw [(bal_size ha hk hi hr).1]), hq⟩
/-- The bits of the cells that are not fixed. -/
theorem lull_bits {G : Gd} {x mm : Nat} (hm : ∀ i, i < 64 → mm.testBit i = frB G i) (h : ∀ i ∈ bitsL mm, leX (absN (balF G i)) x = true) : lullB G x = true :=
  lull_yes fun i hi hf => h i (mem_bitsL.2 ⟨hi, by rw [hm i hi]; exact hf⟩)
theorem calm_boxes (G : Gd) (x : Nat) (t u v y : TypeId) (w : World) : ∃ W, (((w.alloc (.cells (Grd G) t)).alloc (.cells #[.float .f32 x] u)).alloc (.cells #[.bool false] v)).alloc (.cells #[.int .i64 0] y) = W ∧ W.heap.size = w.heap.size + 1 + 1 + 1 + 1 ∧ GBox W w.heap.size G ∧ W.cell? ⟨w.heap.size + 1, 0, none⟩ = some (.float .f32 x) ∧ W.cell? ⟨w.heap.size + 1 + 1, 0, none⟩ = some (.bool false) ∧ W.frozen? ⟨w.heap.size + 1 + 1, 0, none⟩ = false ∧ W.cell? ⟨w.heap.size + 1 + 1 + 1, 0, none⟩ = some (.int .i64 0) ∧ W.frozen? ⟨w.heap.size + 1 + 1 + 1, 0, none⟩ = false ∧ Below w.heap.size w W := by
  obtain ⟨W1, h1, z1, g1, b1⟩ := gbox1 G t w
  rw [h1]
  have q1 : W1.cell? ⟨w.heap.size, 0, none⟩ = some (.int .i8 G.wide) := g1.at'.wide
  obtain ⟨W2, h2⟩ : ∃ W2, W1.alloc (.cells #[.float .f32 x] u) = W2 := ⟨_, rfl⟩
  have z2 : W2.heap.size = w.heap.size + 1 + 1 := by rw [← h2]; simp [z1]
  have b2 : Below W1.heap.size W1 W2 := by rw [← h2]; exact (Below.refl _ _).alloc (Nat.le_refl _) _
  have c2 : W2.cell? ⟨w.heap.size + 1, 0, none⟩ = some (.float .f32 x) := by rw [← h2, ← z1]; exact cell_of_row _ _ 0 _ _ _ (heap_alloc_last W1 _)
  rw [h2]
  obtain ⟨W3, h3⟩ : ∃ W3, W2.alloc (.cells #[.bool false] v) = W3 := ⟨_, rfl⟩
  have z3 : W3.heap.size = w.heap.size + 1 + 1 + 1 := by rw [← h3]; simp [z2]
  have b3 : Below W2.heap.size W2 W3 := by rw [← h3]; exact (Below.refl _ _).alloc (Nat.le_refl _) _
  have c3 : W3.cell? ⟨w.heap.size + 1 + 1, 0, none⟩ = some (.bool false) := by rw [← h3, ← z2]; exact cell_of_row _ _ 0 _ _ _ (heap_alloc_last W2 _)
  have f3 : W3.frozen? ⟨w.heap.size + 1 + 1, 0, none⟩ = false := by
    have := (there_row (n := 1) (heap_alloc_last W2 (.cells #[.bool false] v)) rfl 0 (by omega)).2
    rw [Nat.zero_add] at this
    rw [← h3, ← z2]; exact this
  rw [h3]
  obtain ⟨W4, h4⟩ : ∃ W4, W3.alloc (.cells #[.int .i64 0] y) = W4 := ⟨_, rfl⟩
  have z4 : W4.heap.size = w.heap.size + 1 + 1 + 1 + 1 := by rw [← h4]; simp [z3]
  have b4 : Below W3.heap.size W3 W4 := by rw [← h4]; exact (Below.refl _ _).alloc (Nat.le_refl _) _
  have c4 : W4.cell? ⟨w.heap.size + 1 + 1 + 1, 0, none⟩ = some (.int .i64 0) := by rw [← h4, ← z3]; exact cell_of_row _ _ 0 _ _ _ (heap_alloc_last W3 _)
  have f4 : W4.frozen? ⟨w.heap.size + 1 + 1 + 1, 0, none⟩ = false := by
    have := (there_row (n := 1) (heap_alloc_last W3 (.cells #[.int .i64 0] y)) rfl 0 (by omega)).2
    rw [Nat.zero_add] at this
    rw [← h4, ← z3]; exact this
  rw [h4]
  have b24 := b3.trans (b4.mono (by omega))
  have b14 := b2.trans (b24.mono (by omega))
  exact ⟨W4, rfl, z4, g1.below b14 (by omega), kc c2 (by omega) _ b24, kc c3 (by omega) _ b4, (b4.frozen (p := ⟨w.heap.size + 1 + 1, 0, none⟩) (by simp; omega)).trans f3, c4, f4, b1.trans (b14.mono (by omega))⟩
theorem results_cc {P : Program} {fn : Func} {p q : Tmp} {tb ti : TypeId} {Db Di : TypeDesc} (h : fn.results = #[.cell p tb, .cell q ti]) (tmps : Array Value) (w : World) (b c : Nat) (r : Bool) (n : Int)
    (hp : tmps.getD p undef = .pointer (some ⟨b, 0, none⟩)) (hq : tmps.getD q undef = .pointer (some ⟨c, 0, none⟩)) (hb : w.cell? ⟨b, 0, none⟩ = some (.bool r)) (hn : w.cell? ⟨c, 0, none⟩ = some (.int .i64 n))
    (hub : P.underlying tb = some Db) (hdb : Db.isRow = false) (hui : P.underlying ti = some Di) (hdi : Di.isRow = false) :
    (results fn tmps).run P w = .ok (.tuple #[.bool r, .int .i64 n]) w := by
  have hp' : tmps[p]?.getD undef = .pointer (some ⟨b, 0, none⟩) := by simpa using hp
  have hq' : tmps[q]?.getD undef = .pointer (some ⟨c, 0, none⟩) := by simpa using hq
  have hagg : (isAgg tb).run P w = .ok false w := by
    unfold isAgg
    rw [Sem.run_bind, run_underlying hub w]
    cases Db <;> simp_all
  have h1 : (loadVar tb ⟨b, 0, none⟩).run P w = .ok (.bool r) w := by
    unfold loadVar
    go_simp
  have hagg2 : (isAgg ti).run P w = .ok false w := by
    unfold isAgg
    rw [Sem.run_bind, run_underlying hui w]
    cases Di <;> simp_all
  have h2 : (loadVar ti ⟨c, 0, none⟩).run P w = .ok (.int .i64 n) w := by
    unfold loadVar
    go_simp
  simp [results, h, hp', hq', asAddr, h1, h2]

theorem two_set {X w : World} {b : Nat} {v3 v4 : Value} (r : Bool) (n : Int) (h3 : X.cell? ⟨b, 0, none⟩ = some v3) (h4 : X.cell? ⟨b + 1, 0, none⟩ = some v4) (hB : Below w.heap.size w X) (hw : w.heap.size ≤ b) :
    ((X.setCell ⟨b, 0, none⟩ (.bool r)).setCell ⟨b + 1, 0, none⟩ (.int .i64 n)).cell? ⟨b, 0, none⟩ = some (.bool r) ∧ ((X.setCell ⟨b, 0, none⟩ (.bool r)).setCell ⟨b + 1, 0, none⟩ (.int .i64 n)).cell? ⟨b + 1, 0, none⟩ = some (.int .i64 n) ∧ Below w.heap.size w ((X.setCell ⟨b, 0, none⟩ (.bool r)).setCell ⟨b + 1, 0, none⟩ (.int .i64 n)) := by
  have e : (X.setCell ⟨b, 0, none⟩ (.bool r)).cell? ⟨b + 1, 0, none⟩ = some v4 := (cell_other (fun e => by injection e; omega)).trans h4
  exact ⟨(cell_other (fun e => by injection e; omega)).trans (World.cell?_setCell_same' _ _ _ (by rw [h3]; rfl)), World.cell?_setCell_same' _ _ _ (by rw [e]; rfl), (hB.setCell (p := ⟨b, 0, none⟩) hw _).setCell (p := ⟨b + 1, 0, none⟩) (by show w.heap.size ≤ b + 1; omega) _⟩

set_option maxRecDepth 100000 in
set_option maxHeartbeats 2000000 in
theorem checkSteps_any (G : Gd) (part p : Nat) (y : Int) (w : World) (hG : GdOk G) (hT : TabAt w) (hp : GBox w p G) :
    Calls Tryd.prog 12 #[.pointer (some ⟨p, 0, none⟩), .iface 41 (.float .f32 part), .int .i64 y] w fun e w' => e = .returned (.int .i64 (if askT G part = 0 then (if hoursB y = true then 0 else 2) else 1)) ∧ Below w.heap.size w w' := by
  have HG := Lib.hid hG
  have HT := Lib.hid hT
  have HP := Lib.hid hp
  clear hG hT hp
  have CK : ∀ a, askT G part = a → Calls Tryd.prog 22 #[.pointer (some ⟨p, 0, none⟩), .iface 41 (.float .f32 part)] w fun e w' => e = .returned (.int .i64 a) ∧ Below w.heap.size w w' := fun a h => h ▸ checkStep_any G part p w HG.out HT.out HP.out
  rcases askT_or G part with ha | ha
  · have CA := Lib.hid (CK 0 ha)
    rw [ha]
    clear CK ha
    cases hy : hoursB y
    · by_cases h1 : y < 0
      · clear hy
        go_enter Tryd.func12, Tryd.ntmps12
        go_wp2_with (go_at_call 22; refine CA.out.mono ?_; rintro e V ⟨rfl, hb⟩; have Hb := Lib.hid hb; clear hb)
        go_ret
        exact ⟨rfl, Hb.out⟩
      · have h2 : 400 < y := by simp [hoursB] at hy; omega
        clear hy
        go_enter Tryd.func12, Tryd.ntmps12
        go_wp2_with (go_at_call 22; refine CA.out.mono ?_; rintro e V ⟨rfl, hb⟩; have Hb := Lib.hid hb; clear hb)
        go_ret
        exact ⟨rfl, Hb.out⟩
    · have h1 : ¬ y < 0 := by simp [hoursB] at hy; omega
      have h2 : ¬ 400 < y := by simp [hoursB] at hy; omega
      clear hy
      go_enter Tryd.func12, Tryd.ntmps12
      go_wp2_with (go_at_call 22; refine CA.out.mono ?_; rintro e V ⟨rfl, hb⟩; have Hb := Lib.hid hb; clear hb)
      go_ret
      exact ⟨rfl, Hb.out⟩
  · have CA := Lib.hid (CK 1 ha)
    rw [ha]
    clear CK ha
    go_enter Tryd.func12, Tryd.ntmps12
    go_wp2_with (go_at_call 22; refine CA.out.mono ?_; rintro e V ⟨rfl, hb⟩; have Hb := Lib.hid hb; clear hb)
    go_ret
    exact ⟨rfl, Hb.out⟩

end Go.Proofs.YtinepldaodadiaaDoor
