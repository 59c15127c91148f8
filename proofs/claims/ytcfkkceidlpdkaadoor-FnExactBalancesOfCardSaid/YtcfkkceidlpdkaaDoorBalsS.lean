/- The balances of all cells: the model's. No condition. -/
import Derived.Test.YtcfkkceidlpdkaaDoorBal
import Derived.Test.YtcfkkceidlpdkaaDoorLawKit3
namespace Go.Proofs.YtcfkkceidlpdkaaDoor
open Go.RowKit Go.Shelf
attribute [local go_sem] Oper.semAt_some run_store_float
set_option linter.unusedSimpArgs false
set_option linter.unusedVariables false

/-- The balances, as a field. -/
def balF (G : Gd) (i : Nat) : Nat := if isB G i = true then (balO G i).getD 0 else 0
/-- A field up to a number. -/
def cutF (f : Nat → Nat) (k i : Nat) : Nat := if i < k then f i else 0
theorem cutF_zero (f : Nat → Nat) : ∀ i, i < 64 → zf i = cutF f 0 i := fun i _ => by simp [cutF, zf]
theorem cutF_full (f : Nat → Nat) : ∀ i, i < 64 → cutF f 64 i = f i := fun i h => by simp [cutF, h]
theorem cutF_put (f : Nat → Nat) (k x : Nat) (h : x = f k) : ∀ i, i < 64 → (if i = k then x else cutF f k i) = cutF f (k + 1) i := fun i _ => by
  unfold cutF
  by_cases e : i = k
  · subst e; simp [h]
  · have : i < k + 1 ↔ i < k := by omega
    simp [e, this]
theorem cutF_skip (f : Nat → Nat) (k : Nat) (h : f k = 0) : ∀ i, i < 64 → cutF f k i = cutF f (k + 1) i := fun i _ => by
  unfold cutF
  by_cases e : i = k
  · subst e; simp [h]
  · have : i < k + 1 ↔ i < k := by omega
    simp [this]
/-- All balances are finite. -/
def allFin (G : Gd) : Bool := (List.range 64).all fun i => !isB G i || finO (balO G i)
theorem balF_is {G : Gd} {i r : Nat} (hb : isB G i = true) (hr : num .f32 r = balO G i) (hf : finB r = true) : r = balF G i := by
  unfold balF
  rw [if_pos hb, ← hr]
  cases hn : nanK .f32 r
  · rw [num_some hn]; rfl
  · have := finO_num r
    rw [num_none hn, hf] at this
    cases this
def FB (f : Nat → Nat) (b : Bool) : Value := .tuple #[.agg (Fld f), .bool b]
def balsB (G : Gd) : Value := if allFin G = true then FB (balF G) true else FB zf false

theorem results_fld {P : Program} {fn : Func} {p q : Tmp} {ty : TypeId} {D : TypeDesc} (h : fn.results = #[.cell p ty, .tmp q]) (tmps : Array Value) (w : World) (b : Nat) (f : Nat → Nat) (v : Value)
    (hp : tmps.getD p undef = .pointer (some ⟨b, 0, none⟩)) (hq : tmps.getD q undef = v) (hc : w.rangeAt b 0 (Fld f).toList) (hu : P.underlying ty = some D) (hd : D.isRow = true) (hi : (P.info? ty).map (·.size) = some 64) :
    (results fn tmps).run P w = .ok (.tuple #[.agg (Fld f), v]) w := by
  have hp' : tmps[p]?.getD undef = .pointer (some ⟨b, 0, none⟩) := by simpa using hp
  have hq' : tmps[q]?.getD undef = v := by simpa using hq
  have := run_loadVar_mid (P := P) w b 0 ty (Fld f).toList D hc hu hd (by rw [Fld_length]; exact hi)
  simp [results, h, hp', hq', asAddr, this, Fld]
theorem ret_fld {fn : Func} {p q : Tmp} (h : fn.results = #[.cell p 30, .tmp q]) {tmps : Array Value} {w : World} {b : Nat} {f : Nat → Nat} {v : Value}
    (hp : tmps.getD p undef = .pointer (some ⟨b, 0, none⟩)) (hq : tmps.getD q undef = v) (hc : w.rangeAt b 0 (Fld f).toList) : (results fn tmps).run Tryd.prog w = .ok (.tuple #[.agg (Fld f), v]) w :=
  results_fld h tmps w b f v hp hq hc Tryd.underlying30 rfl infoField

theorem RowAt.new (f : Nat → Nat) (t : TypeId) (w : World) : RowAt (w.alloc (.cells (Fld f) t)) w.heap.size f :=
  ⟨rangeAt_row (heap_alloc_last w _), there_row (heap_alloc_last w _) (Fld_size f)⟩
theorem there_setCells {b b' o n : Nat} : ∀ {vs : List Value} {k : Nat} {W : World}, W.there b o n → (W.setCells b' k vs).there b o n
  | [], _, _, h => h
  | v :: vs, k, W, h => there_setCells (vs := vs) (there_setCell h)
theorem RowAt.store {W : World} {b : Nat} {f g : Nat → Nat} (h : RowAt W b f) : RowAt (W.setCells b 0 (Fld g).toList) b g :=
  ⟨World.rangeAt_setCells_same _ _ _ _ (by rw [show (Fld g).toList.length = 64 from Fld_length g]; exact h.there), there_setCells h.there⟩
theorem RowAt.fars {b b' : Nat} {f : Nat → Nat} (hne : b' ≠ b) : ∀ {vs : List Value} {k : Nat} {W : World}, RowAt W b f → RowAt (W.setCells b' k vs) b f
  | [], _, _, h => h
  | v :: vs, k, W, h => RowAt.fars hne (vs := vs) (h.far k v hne)
theorem RowAt.quiet {W W' : World} {b : Nat} {f : Nat → Nat} (h : RowAt W b f) (hq : Quiet W W') : RowAt W' b f := by
  obtain ⟨n, rfl⟩ := hq
  exact h.below (Quiet.below ⟨n, rfl⟩ (b + 1)) (by omega)
theorem RowAt.lt {W : World} {b : Nat} {f : Nat → Nat} (h : RowAt W b f) : b < W.heap.size := World.block_lt_of_cell? W ⟨b, 0, none⟩ (h.cell 0 (by omega))

set_option maxRecDepth 100000 in
set_option maxHeartbeats 2000000 in
theorem l01Balances_any (G : Gd) (hv : validB G = true) (p : Nat) (w : World) (hp : GrdAt w p 0 G) (hpl : p < w.heap.size) (hG : GdOk G) :
    Calls Tryd.prog 56 #[.pointer (some ⟨p, 0, none⟩)] w fun e w' => e = .returned (balsB G) ∧ Below w.heap.size w w' := by
  have hz := (zero_of_info zeroField).1
  have HV := Lib.hid hv
  have HG := Lib.hid hG
  have HP := Lib.hid hp
  clear hv hG hp
  go_enter Tryd.func56, Tryd.ntmps56
  go_upto_region 1 with (fail)
  obtain ⟨W, hW⟩ : ∃ W, w.alloc (.cells (Fld zf) 30) = W := ⟨_, rfl⟩
  have q1 : RowAt W w.heap.size zf := by rw [← hW]; exact RowAt.new _ _ _
  have zW : W.heap.size = w.heap.size + 1 := by rw [← hW]; simp
  have bW : Below w.heap.size w W := by rw [← hW]; exact (Below.refl _ _).alloc (Nat.le_refl _) _
  have ZW := Lib.hid zW
  rw [hW]
  clear hW zW
  have hthere := new_thereF 30 W
  go_upto_region 2 with (refine wpList_store_mid rfl 30 _ _ rfl _ 0 (Fld zf) rfl rfl (by rw [Fld_size]; exact hthere) (by rw [Fld_size]; exact infoField) (Fld_one _) ?_)
  obtain ⟨X, hX, zX, gX, bX⟩ := stored_fld zf 30 W
  have tX : X.there W.heap.size 0 64 := by
    rw [← hX]
    exact there_setCells (new_thereF _ W)
  rw [hX]
  clear hX hthere
  have zW := ZW.out
  have Q1 := Lib.hid (q1.below bX (by omega))
  have Q2 := Lib.hid (RowAt.congr (⟨gX, tX⟩ : RowAt X W.heap.size zf) (cutF_zero (balF G)))
  have BX := Lib.hid (bW.trans (bX.mono (by omega)))
  clear q1 gX tX bX bW zX
  rw [zW] at Q2 ⊢
  clear zW ZW
  go_wp2
  go_loopw [5] (fun i wr => ∃ k : Nat, k ≤ 64 ∧ i = .int .i64 k ∧ Hid (RowAt wr w.heap.size zf) ∧ Hid (RowAt wr (w.heap.size + 1) (cutF (balF G) k)) ∧ Hid (∀ i, i < k → (!isB G i || finO (balO G i)) = true) ∧ Hid (Below w.heap.size w wr)) (fun i _ => 64 - (intOf i).toNat)
  case atStart => exact ⟨0, by omega, rfl, Q1, Q2, fun i hi => (by omega), BX⟩
  case round =>
    clear Q1 Q2 BX
    obtain ⟨k, hk, rfl, R1, R2, hA, hB⟩ := hrel
    have gp := Lib.hid (HP.out.below hB.out hpl)
    by_cases hlt : k < 64
    · have hk2 : (k : Int) < 64 := by omega
      cases hi : isB G k
      · have Hi := Lib.hid hi
        have N0 := RowAt.congr R2.out (cutF_skip (balF G) k (by simp [balF, hi]))
        have A0 : ∀ i, i < k + 1 → (!isB G i || finO (balO G i)) = true := fun i h => by
          by_cases e : i = k
          · subst e; simp [hi]
          · exact hA.out i (by omega)
        have N := Lib.hid N0
        have A := Lib.hid A0
        clear hi N0 A0
        go_wp2_with (go_at_call 61; refine (l01Is_is G k hlt false Hi.out _ _ gp.out HG.out).mono ?_; rintro e w' ⟨rfl, rfl⟩)
        go_roundw
        case rel => exact ⟨k + 1, by omega, by go_num, R1, N, A, hB⟩
        case measure => simp [intOf]; omega
      · have Hi := Lib.hid hi
        clear hi
        go_upto_region 7 with (first | (go_at_call 61; refine (l01Is_is G k hlt true Hi.out _ _ gp.out HG.out).mono ?_; rintro e w' ⟨rfl, rfl⟩) | (go_at_call 52; refine (l01Balance_any G k hlt HV.out p _ gp.out HG.out).mono ?_; rintro e w1 ⟨r, rfl, hr, hq⟩; have HR := Lib.hid hr; have HQ := Lib.hid hq; clear hr hq; have cO := (R2.out.quiet HQ.out).cell k hlt; have fO := (R2.out.quiet HQ.out).free k hlt))
        obtain ⟨Y, hY⟩ : ∃ Y, w1.setCell ⟨w.heap.size + 1, k, none⟩ (.float .f32 r) = Y := ⟨_, rfl⟩
        have y1 := (R2.out.quiet HQ.out).put k r hlt
        have y2 := (R1.out.quiet HQ.out).far (b' := w.heap.size + 1) k (.float .f32 r) (by omega)
        have y3 := (hB.out.trans (HQ.out.below _)).setCell (p := ⟨w.heap.size + 1, k, none⟩) (by simp) (.float .f32 r)
        rw [hY] at y1 y2 y3 ⊢
        have cY := y1.cell k hlt
        rw [if_pos rfl] at cY
        clear hY cO fO
        cases hf : finB r
        · have E := Lib.hid (show balsB G = FB zf false by
            have : allFin G = false := all_no k hlt (by rw [Hi.out, ← HR.out, finO_num, hf]; rfl)
            simp [balsB, this])
          have Y2 := Lib.hid y2
          have Y3 := Lib.hid y3
          clear y1 y2 y3
          go_wp2_with (first | (go_at_call 45; refine (l01Finite_is r _ hf Y).mono ?_; rintro e Y' ⟨rfl, hq⟩; have YQ := Lib.hid hq; clear hq) | (refine wpList_store_mid rfl 30 _ _ rfl _ 0 (Fld zf) rfl rfl (by rw [Fld_size]; exact (Y2.out.quiet YQ.out).there) (by rw [Fld_size]; exact infoField) (Fld_one _) ?_))
          refine bodyPost_ret (ret_fld (v := .bool false) rfl rfl rfl ((Y2.out.quiet YQ.out).store (g := zf)).range) rfl ⟨congrArg Ending.returned E.out.symm, below_setCells _ (by omega) _ _ _ (Y3.out.trans (YQ.out.below _))⟩
        · have N := Lib.hid (RowAt.congr y1 (cutF_put (balF G) k r (balF_is Hi.out HR.out hf)))
          have A0 : ∀ i, i < k + 1 → (!isB G i || finO (balO G i)) = true := fun i h => by
            by_cases e : i = k
            · subst e; rw [← HR.out, finO_num, hf]; simp
            · exact hA.out i (by omega)
          have A := Lib.hid A0
          have Y2 := Lib.hid y2
          have Y3 := Lib.hid y3
          clear y1 y2 y3 A0
          go_wp2_with (go_at_call 45; refine (l01Finite_is r _ hf Y).mono ?_; rintro e Y' ⟨rfl, hq⟩; have YQ := Lib.hid hq; clear hq)
          go_roundw
          case rel => exact ⟨k + 1, by omega, by go_num, Y2.out.quiet YQ.out, N.out.quiet YQ.out, A, Y3.out.trans (YQ.out.below _)⟩
          case measure => simp [intOf]; omega
    · obtain rfl : k = 64 := by omega
      have rr := (RowAt.congr R2.out (cutF_full (balF G))).range
      have E := Lib.hid (show balsB G = FB (balF G) true by
        have : allFin G = true := all_yes fun i hi => hA.out i hi
        simp [balsB, this])
      go_wp2_with (first | (refine wpList_load_mid rfl 30 _ rfl (w.heap.size + 1) 0 rfl (Fld (balF G)).toList _ rr Tryd.underlying30 rfl (by rw [Fld_length]; exact infoField) ?_) | (refine wpList_store_mid rfl 30 _ _ rfl _ 0 (Fld (balF G)) rfl rfl (by rw [Fld_size]; exact R1.out.there) (by rw [Fld_size]; exact infoField) (Fld_one _) ?_))
      refine bodyPost_ret (ret_fld (v := .bool true) rfl rfl rfl (R1.out.store (g := balF G)).range) rfl ⟨congrArg Ending.returned E.out.symm, below_setCells _ (by omega) _ _ _ hB.out⟩
end Go.Proofs.YtcfkkceidlpdkaaDoor
