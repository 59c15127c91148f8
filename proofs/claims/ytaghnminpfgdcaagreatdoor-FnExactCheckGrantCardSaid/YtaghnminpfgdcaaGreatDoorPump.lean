/- PumpAt: the program's and the model's. (The program's: the table of math/bits is laid.) No condition. -/
import Derived.Test.YtaghnminpfgdcaaGreatDoorSettle
import Derived.Test.YtaghnminpfgdcaaGreatDoorChgI
namespace Go.Proofs.YtaghnminpfgdcaaGreatDoor
open Go.RowKit Go.Shelf
attribute [local go_sem] Oper.semAt_some run_store_float
set_option linter.unusedSimpArgs false
set_option linter.unusedVariables false

theorem results_gFi {P : Program} {fn : Func} {p q r : Tmp} {ty tf : TypeId} {D Df : TypeDesc} (h : fn.results = #[.cell p ty, .cell q tf, .tmp r]) (tmps : Array Value) (w : World) (b c : Nat) (G : Gd) (f : Nat → Nat) (n : Int)
    (hp : tmps.getD p undef = .pointer (some ⟨b, 0, none⟩)) (hq : tmps.getD q undef = .pointer (some ⟨c, 0, none⟩)) (hr : tmps.getD r undef = .int .i64 n) (hc : w.rangeAt b 0 (GrdL G)) (hf : w.rangeAt c 0 (Fld f).toList)
    (hu : P.underlying ty = some D) (hd : D.isRow = true) (hi : (P.info? ty).map (·.size) = some 195) (huf : P.underlying tf = some Df) (hdf : Df.isRow = true) (hif : (P.info? tf).map (·.size) = some 64) :
    (results fn tmps).run P w = .ok (.tuple #[.agg (Grd G), .agg (Fld f), .int .i64 n]) w := by
  have hp' : tmps[p]?.getD undef = .pointer (some ⟨b, 0, none⟩) := by simpa using hp
  have hq' : tmps[q]?.getD undef = .pointer (some ⟨c, 0, none⟩) := by simpa using hq
  have hr' : tmps[r]?.getD undef = .int .i64 n := by simpa using hr
  have h1 := run_loadVar_mid (P := P) w b 0 ty (GrdL G) D hc hu hd (by rw [GrdL_length]; exact hi)
  have h2 := run_loadVar_mid (P := P) w c 0 tf (Fld f).toList Df hf huf hdf (by rw [Fld_length]; exact hif)
  simp [results, h, hp', hq', hr', asAddr, h1, h2, Grd]
/-- The ground and the field are stored. -/
theorem both_stored {V : World} {b c n : Nat} {G A : Gd} {f g : Nat → Nat} {a : World} (hne : b ≠ c) (hb : n ≤ b) (hc : n ≤ c) (hG : GBox V b G) (hF : RowAt V c f) (hB : Below n a V) :
    ((V.setCells b 0 (GrdL A)).setCells c 0 (Fld g).toList).rangeAt b 0 (GrdL A) ∧ ((V.setCells b 0 (GrdL A)).setCells c 0 (Fld g).toList).rangeAt c 0 (Fld g).toList ∧ Below n a ((V.setCells b 0 (GrdL A)).setCells c 0 (Fld g).toList) := by
  have h1 : GBox (V.setCells b 0 (GrdL A)) b A := hG.store
  have h2 : RowAt (V.setCells b 0 (GrdL A)) c f := RowAt.fars hne hF
  exact ⟨World.rangeAt_setCells_apart h1.range _ _ _ (.inl hne), h2.store.range, below_setCells _ hc _ _ _ (below_setCells _ hb _ _ _ hB)⟩
theorem settR_good {x : Nat} : ∀ (n : Nat) (t : Int) (K : Gd), validB K = true → GdOk K → (settR x n t K).2.2 = 0 → validB (settR x n t K).1 = true ∧ GdOk (settR x n t K).1 ∧ (settR x n t K).1.wide = K.wide ∧ (settR x n t K).1.high = K.high
  | 0, _, _, _, _, h => by cases h
  | n + 1, t, K, hv, hG, h => by
    cases hs : (swF headO K).2.1
    · rw [settR_no hs] at h; cases h
    · obtain ⟨vA, oA⟩ := swF_valid hv hG hs
      obtain ⟨e1, e2, _⟩ := swFold_ext headO (bitsL (cellsN K)) (K, true, 0)
      cases hl : leX (swF headO K).2.2 x
      · rw [settR_on hs hl] at h ⊢
        obtain ⟨a, b, c, d⟩ := settR_good n (t + 1) _ vA oA h
        exact ⟨a, b, c.trans e1, d.trans e2⟩
      · rw [settR_end hs hl]
        exact ⟨vA, oA, e1, e2⟩
/-- A ground with another gain. -/
def pmpG (G : Gd) (k r : Nat) : Gd := { G with g := upd G.g k ((fop .f32 .sub (num .f32 (G.g k)) (num .f32 r)).getD 0) }
def pumpR (G : Gd) (c : Int) (r x : Nat) (y : Int) : Gd × (Nat → Nat) × Int :=
  if askedN G c = 0 then (if (plainB r && (amtB x && budB y)) = true then (if validB (pmpG G c.toNat r) = true then (if (settR x y.toNat 1 (pmpG G c.toNat r)).2.2 = 0 then ((settR x y.toNat 1 (pmpG G c.toNat r)).1, chF G (settR x y.toNat 1 (pmpG G c.toNat r)).1, 0) else (zG, zf, (settR x y.toNat 1 (pmpG G c.toNat r)).2.2)) else (zG, zf, 4)) else (zG, zf, 2)) else (zG, zf, askedN G c)
def pumpV (G : Gd) (c : Int) (r x : Nat) (y : Int) : Value := .tuple #[.agg (Grd (pumpR G c r x y).1), .agg (Fld (pumpR G c r x y).2.1), .int .i64 (pumpR G c r x y).2.2]
theorem valid_gain {G : Gd} (hv : validB G = true) {k : Nat} (hk : k < 64) (hb : isB G k = true) : plainB (G.g k) = true := by
  unfold validB at hv
  simp only [Bool.and_eq_true] at hv
  have h := hv.2.2.1
  unfold fieldB at h
  have := List.all_eq_true.1 h k (by simpa using hk)
  simpa [okAt, hb] using this
theorem sub_is {G : Gd} (hv : validB G = true) {k : Nat} (hk : k < 64) (hb : isB G k = true) {r : Nat} (hr : plainB r = true) : ∃ t, fop .f32 .sub (num .f32 (G.g k)) (num .f32 r) = some t ∧ FloatKind.f32.has t ∧ pmpG G k r = { G with g := upd G.g k t } := by
  obtain ⟨t, h1, _, h3⟩ := plain_sub (valid_gain hv hk hb) hr
  exact ⟨t, h1, h3, by unfold pmpG; rw [h1]; rfl⟩
theorem sub_num {x y t r : Nat} (h : fop .f32 .sub (num .f32 x) (num .f32 y) = some t) (hr : num .f32 r = fop .f32 .sub (num .f32 x) (num .f32 y)) : r = t := by
  rw [h] at hr
  exact (num_eq_some hr).1
theorem ok_pmp {G : Gd} {k t : Nat} (hG : GdOk G) (ht : FloatKind.f32.has t) : GdOk { G with g := upd G.g k t } := ok_g hG ht
theorem alloc_op2 {P : Program} {op : Oper} {a : Act} {ty : TypeId} {cs : Array Value} (w : World) (ho : op.op = .alloc ty) (hz : ∀ w, (zeroValue ty).run P w = .ok (.agg cs) w) :
    (execOp a.eval op).run P w = .ok (.value (.pointer (some ⟨w.heap.size, 0, none⟩))) (w.alloc (.cells cs ty)) := by
  unfold execOp
  simp only [ho, Sem.run_bind, hz, Result.andThen]
  go_simp

theorem sub_op {P : Program} {op : Oper} {a : Act} {ty tz : TypeId} {p q : Operand} {x y t : Nat} (ho : op.op = .binOp .sub ty p q tz) (hx : a.eval p = .float .f32 x) (hy : a.eval q = .float .f32 y) (ht : fop .f32 .sub (num .f32 x) (num .f32 y) = some t) (w : World) :
    (execOp a.eval op).run P w = .ok (.value (.float .f32 t)) w := by
  have hrun := run_float_arith (P := P) w .sub ty .f32 x y t (by rw [← fop_num]; exact ht)
  have hq : (eqGuard .sub ty p q (.float .f32 x) (.float .f32 y)).run P w = .ok () w := by simp [eqGuard]
  unfold execOp
  simp only [ho, hx, hy]
  simp only [Sem.run_bind, hq, hrun, Result.andThen]
  rfl

end Go.Proofs.YtaghnminpfgdcaaGreatDoor
