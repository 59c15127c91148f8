/- The misfit of an aquifer, the model's, as a value of the readings. Condition: what comes in is valid. -/
import Derived.Test.YtbiknpfcemfoeaaDoorMisI
import Derived.Test.YtbiknpfcemfoeaaDoorSmN
import Derived.Deep.Upon
namespace Go.Proofs.YtbiknpfcemfoeaaDoor
open Go Go.RowKit Ieee
set_option linter.unusedSimpArgs false
set_option linter.unusedVariables false
attribute [local go_sem] run_store_f32

/-- The numbers are the sizes of the differences. -/
def SzOf (T S R : Nat) (X Y x y : Int) (L : List R2) (rs : List Nat) : Prop := ∀ (j r : Nat), rs[j]? = some r → ∃ (e : R2) (d : Nat), L[j]? = some e ∧ num .f32 d = dfO e.2 (drwV T S R (x - X) (y - Y) e.1) ∧ num .f32 r = sizeO (num .f32 d)
theorem smN_mf {T S R : Nat} {X Y x y : Int} {L : List R2} {rs : List Nat} (h : SzOf T S R X Y x y L rs) : ∀ k, k ≤ rs.length → smN rs k = mf T S R X Y x y L k
  | 0, _ => rfl
  | 1, hk => by
    obtain ⟨r, hr⟩ : ∃ r, rs[0]? = some r := ⟨_, List.getElem?_eq_getElem (by omega)⟩
    obtain ⟨e, d, he, hd, hs⟩ := h 0 r hr
    rw [mf_succ he, szR, ← hd, ← hs]
    simp only [smN, hr, mf]
    exact (zero_size hs).symm
  | k + 2, hk => by
    obtain ⟨r, hr⟩ : ∃ r, rs[k + 1]? = some r := ⟨_, List.getElem?_eq_getElem (by omega)⟩
    obtain ⟨e, d, he, hd, hs⟩ := h (k + 1) r hr
    rw [mf_succ he, szR, ← hd, ← hs, ← smN_mf h (k + 1) (by omega)]
    exact smN_succ (by omega) hr

theorem nearest_lt32 (s : Bool) (m : Nat) (i : Int) : single.nearest s m i < 4294967296 := by
  rw [nearest_sign]
  have := nearest_top m i
  unfold Format.word
  rw [sW]
  cases s <;> simp <;> omega
theorem write_lt32 (d : Datum) (h : d.isNaN = false) : single.write d < 4294967296 := by
  cases d with
  | number s m i => exact nearest_lt32 s m i
  | infinity s => cases s <;> decide
  | nan s f => simp [Datum.isNaN] at h
theorem sub_lt32 {a b r : Nat} (h : fop .f32 .sub (num .f32 a) (num .f32 b) = some r) : r < 4294967296 := by
  rw [fop_num] at h
  have h' : ((single.read a).sum (single.read b).opposite).map single.write = some r := h
  obtain ⟨d, hd, rfl⟩ := Option.map_eq_some_iff.1 h'
  exact write_lt32 d (sum_notnan hd)
/-- A difference that is a number is never -0. -/
theorem dfO_ok {T S R : Nat} {dx dy t l : Int} {r : Nat} (hl : -32768 ≤ l ∧ l ≤ 32767) (h : num .f32 r = dfO l (drwV T S R dx dy t)) (hn : nanK .f32 r = false) : r < 4294967296 ∧ r ≠ 2147483648 := by
  obtain ⟨c, h1, h2, h3, h4⟩ := lvV_ok l hl
  obtain ⟨d, hd⟩ := drwV_ex T S R dx dy t
  rw [num_some hn, dfO, h1, ← h2, ← hd] at h
  exact ⟨sub_lt32 h.symm, sub_pos h3 h4 h.symm⟩
set_option maxRecDepth 100000 in
theorem l03Size_all (b : Nat) (hok : nanK .f32 b = false → b < 4294967296 ∧ b ≠ 2147483648) (w : World) : Calls Tryd.prog 64 #[.float .f32 b] w fun e w' => ∃ r, e = .returned (.float .f32 r) ∧ num .f32 r = sizeO (num .f32 b) ∧ Below w.heap.size w w' := by
  cases hn : nanK .f32 b
  · exact l03Size_any b (hok hn).1 (hok hn).2 w
  · clear hok
    have hl : (FloatKind.f32.format.order b 0 == some Ordering.lt) = false := by rw [order_nan 0 hn]; rfl
    have R := Lib.hid (show num .f32 b = sizeO (num .f32 b) by rw [num_none hn]; rfl)
    go_enter Tryd.func64, Tryd.ntmps64
    go_wp2
    go_ret
    exact ⟨b, rfl, R.out, Below.refl _ _⟩
theorem exec_append {op : Oper} {a : Act} {x y : Operand} {t : TypeId} {v u v' : Value} {w w' : World} (ho : op.op = .call { callee := .builtin .append, args := #[x, y], argTypes := #[t, t] }) (hx : a.eval x = v) (hy : a.eval y = u)
    (hm : (Builtin.append_ #[t, t] op.type #[v, u]).run Tryd.prog w = .ok v' w') : (execOp a.eval op).run Tryd.prog w = .ok (.value v') w' := by
  simp [execOp, ho, resolve, invoke, builtin, hx, hy, hm, Result.andThen]
theorem grown_below' {w w' : World} (h : Below w.heap.size w w') (row : Option Nat) : w.grownBy w' row := ⟨h.os, h.tape, h.output, h.size, fun k hk _ => h.block k hk⟩
theorem below_grown {w V V' : World} {B : Nat} {row : Option Nat} (h : Below B w V) (hg : V.grownBy V' row) (hrow : ∀ k, row = some k → B ≤ k) (hB : B ≤ w.heap.size) : Below B w V' :=
  ⟨hg.os.trans h.os, hg.tape.trans h.tape, hg.output.trans h.output, Nat.le_trans h.size hg.size, fun k hk => (hg.block k (Nat.lt_of_lt_of_le hk (Nat.le_trans hB h.size)) (fun e => by have := hrow k e.symm; omega)).trans (h.block k hk)⟩

/-- A size is appended. -/
theorem append_size {base k : Nat} {v : Value} {w V : World} {rs : List Nat} (hown : w.ownsRow base 24 1 v k (rs.map (Value.float .f32))) (hform : ∃ g cap, v = .slice (some ⟨g, 0, none⟩) k cap) (hk : k ≤ 40) (hb : base ≤ w.heap.size) (hV : Below w.heap.size w V) (r : Nat) (ty : TypeId) :
    ∃ v' w', (Builtin.append_ #[84, 84] ty #[v, .slice (some ⟨V.heap.size, 0, none⟩) 1 1]).run Tryd.prog (V.alloc (.cells #[.float .f32 r] 24)) = .ok v' w' ∧ w'.ownsRow base 24 1 v' (k + 1) ((rs ++ [r]).map (Value.float .f32)) ∧ (∃ g cap, v' = .slice (some ⟨g, 0, none⟩) (k + 1) cap) ∧ (V.alloc (.cells #[.float .f32 r] 24)).grownBy w' v.ownBlock := by
  obtain ⟨i, hi, hz, hs, hby⟩ := info_parts (P := Tryd.prog) (e := 24) (z := .float .f32 0) (size := 1) (bytes := 4) (by kernel_rfl)
  have hA : Below w.heap.size w (V.alloc (.cells #[.float .f32 r] 24)) := hV.alloc hV.size _
  obtain ⟨g, cap, rfl⟩ := hform
  have hown1 := hown.kept (grown_below' hA none) (.inr (by simp [Value.ownBlock]))
  have hc : (V.alloc (.cells #[.float .f32 r] 24)).cell? ⟨V.heap.size, 0, none⟩ = some (.float .f32 r) := cell_of_row _ _ 0 _ _ _ (heap_alloc_last V _)
  obtain ⟨v', w', h1, h2, h3, h4⟩ := run_append_own (P := Tryd.prog) _ base 84 ty 24 i (.float .f32 0) 1 4 Tryd.underlying84 hi hz hs hby rfl (by decide) _ k _ hown1 ⟨V.heap.size, 0, none⟩ 1 1 [.float .f32 r] rfl
    (fun j u hj => by
      have hj1 : j < 1 := (List.getElem?_eq_some_iff.1 hj).1
      obtain rfl : j = 0 := by omega
      cases hj
      exact hc) (by simp [Value.oneCell']) (by unfold maxLen; omega) (by omega) (Nat.le_trans hb hA.size)
  refine ⟨v', w', h1, ?_, ?_, h3⟩
  · rw [List.map_append]
    exact h2
  · rcases h2.2 with ⟨_, h0⟩ | ⟨g', cap', cur, h0, _⟩
    · omega
    · exact ⟨g', cap', h0⟩

set_option maxRecDepth 100000 in
set_option maxHeartbeats 2000000 in
theorem l04Misfit_any (X Y : Int) (R : Nat) (x y : Int) (T S : Nat) (p : Option Addr) (c : Nat) (L : List R2) (hL : L.length ≤ 40) (hT : 981467136 ≤ T ∧ T ≤ 1233125376) (hS : 897581056 ≤ S ∧ S ≤ 1065353216) (hdx : -100 ≤ X ∧ X ≤ 100) (hdy : -100 ≤ Y ∧ Y ≤ 100) (hx : -100 ≤ x ∧ x ≤ 100) (hy : -100 ≤ y ∧ y ≤ 100)
    (hok : ∀ (k : Nat) (e : R2), L[k]? = some e → (1 ≤ e.1 ∧ e.1 ≤ 100000) ∧ -32768 ≤ e.2 ∧ e.2 ≤ 32767) (w : World) (hp : RsAt w p L) :
    Calls Tryd.prog 45 #[.agg (Aq T S), .agg (Ste X Y R x y), .slice p L.length c] w (GvB (mf T S R X Y x y L L.length) w) := by
  have P0 := Lib.hid hp
  have OK := Lib.hid hok
  obtain ⟨n, hn⟩ : ∃ n, L.length = n := ⟨_, rfl⟩
  have HN := Lib.hid hn
  rw [hn] at hL ⊢
  clear hp hok hn
  obtain ⟨z, b0, b1, B0⟩ := laid2 w (.cells (Aq T S) 43) (.cells (Ste X Y R x y) 47)
  obtain ⟨W, hW⟩ : ∃ W, (w.alloc (.cells (Aq T S) 43) |>.alloc (.cells (Ste X Y R x y) 47)) = W := ⟨_, rfl⟩
  rw [hW] at z b0 b1 B0
  have R0 := Lib.hid (rangeAt_row b0)
  have R1 := Lib.hid (rangeAt_row b1)
  have BW := Lib.hid B0
  have ZW := Lib.hid z
  clear b0 b1 B0 z
  go_enter Tryd.func45, Tryd.ntmps45
  go_upto_region 1 with (fail)
  try rw [hW]
  clear hW
  have hown0 : (W.alloc (.cells #[] 24)).ownsRow W.heap.size 24 1 (.slice (some ⟨W.heap.size, 0, none⟩) 0 0) 0 ([].map (Value.float .f32)) := World.ownsRow_made W #[] 0 (Nat.le_refl _) (by unfold maxLen; omega) rfl
  have hb0 : Below W.heap.size W (W.alloc (.cells #[] 24)) := (Below.refl _ _).alloc (Nat.le_refl _) _
  go_wp2
  go_loopw [8, 7] (fun i v wr => ∃ (k : Nat) (rs : List Nat), k ≤ n ∧ i = .int .i64 k ∧ Hid (rs.length = k) ∧ Hid (SzOf T S R X Y x y L rs) ∧ Hid (wr.ownsRow W.heap.size 24 1 v k (rs.map (Value.float .f32)) ∧ ∃ g cap, v = .slice (some ⟨g, 0, none⟩) k cap) ∧ Hid (Below W.heap.size W wr)) (fun i _ _ => n - (intOf i).toNat)
  case atStart => exact ⟨0, [], by omega, rfl, Lib.hid rfl, Lib.hid (fun j r h => by simp at h), Lib.hid ⟨hown0, _, _, rfl⟩, Lib.hid hb0⟩
  case round =>
    obtain ⟨k, rs, hk, rfl, hlen, hsz, hown, hB⟩ := hrel
    by_cases hlt : k < n
    · have hki : (k : Int) < n := by omega
      obtain ⟨e, he⟩ : ∃ e, L[k]? = some e := ⟨_, List.getElem?_eq_getElem (by rw [HN.out]; exact hlt)⟩
      obtain ⟨b, o, hpe, hr⟩ := P0.out k e he
      have hbw := World.block_lt_of_cell? w _ (hr 0 _ rfl)
      have RE := Lib.hid (range_kept hr hbw _ BW.out)
      have hbW : b < W.heap.size := Nat.lt_of_lt_of_le hbw BW.out.size
      subst hpe
      have H0 : (1 ≤ e.1 ∧ e.1 ≤ 100000) ∧ -32768 ≤ e.2 ∧ e.2 ≤ 32767 := OK.out k e he
      have HE := Lib.hid he
      clear he hr hbw
      have hS0 : Below W.heap.size W wr.drew := hB.out.drew
      have hb1 : w.heap.size < W.heap.size := by rw [ZW.out]; omega
      have hb2 : w.heap.size + 1 < W.heap.size := by rw [ZW.out]; omega
      go_wp2
      refine wp_region_plan (ops' := regOf Tryd.f45 5) (.take 0 (.take 1 (.take 2 (.take 3 (.take 4 (.take 5 (.take 6 (.run 7 (.run 8 (.run 9 (.run 10 (.take 11 .fin)))))))))))) (Below W.heap.size W) (by kernel_rfl) (by kernel_rfl) (by kernel_rfl) (by kernel_rfl) (by kernel_rfl) hS0 ?_
      refine plan_pure (some 16) u7 (by kernel_rfl) (by kernel_rfl) (by kernel_rfl) (fun _ => (by kernel_rfl)) ?_
      refine plan_load (some 17) 43 (.tmp 3) w.heap.size 0 _ _ (by kernel_rfl) (by kernel_rfl) (by kernel_rfl) (by kernel_rfl) (by kernel_rfl) (fun w' hw' => range_kept R0.out hb1 _ hw') Tryd.underlying43 rfl (by kernel_rfl) ?_
      refine plan_load (some 18) 47 (.tmp 4) (w.heap.size + 1) 0 _ _ (by kernel_rfl) (by kernel_rfl) (by kernel_rfl) (by kernel_rfl) (by kernel_rfl) (fun w' hw' => range_kept R1.out hb2 _ hw') Tryd.underlying47 rfl (by kernel_rfl) ?_
      refine plan_pure (some 19) (.slice (some ⟨b, o, none⟩) n c) (by kernel_rfl) (by kernel_rfl) (by kernel_rfl) (fun _ => (by kernel_rfl)) ?_
      refine plan_pure (some 20) (.int .i64 (k : Int)) (by kernel_rfl) (by kernel_rfl) (by kernel_rfl) (fun _ => (by kernel_rfl)) ?_
      refine plan_pure (some 21) (.pointer (some ⟨b, o + k * 2, none⟩)) (by kernel_rfl) (by kernel_rfl) (by kernel_rfl) (index_rd (T := 27) (n := n) (c := c) (x := .tmp 19) (y := .tmp 20) (by kernel_rfl) (.inl rfl) (by kernel_rfl) (by kernel_rfl) hlt) ?_
      refine plan_load (some 22) 65 (.tmp 21) b (o + k * 2) _ _ (by kernel_rfl) (by kernel_rfl) (by kernel_rfl) (by kernel_rfl) (by kernel_rfl) (fun w' hw' => range_kept RE.out hbW _ hw') Tryd.underlying65 rfl (by kernel_rfl) ?_
      refine plan_call (some 23) 65 #[.agg (Aq T S), .agg (Ste X Y R x y), .agg (Rd e.1 e.2)] (by kernel_rfl) (by kernel_rfl) (by kernel_rfl) (by kernel_rfl) (Calls.mono (l04Difference_any X Y R x y T S e.1 e.2 hT hS hdx hdy hx hy H0.1 _) ?_)
      rintro _ V1 ⟨d, rfl, hd, hq1⟩
      have Q1 : Below wr.heap.size wr V1 := (Below.refl _ _).drew.trans hq1
      refine ⟨_, rfl, hS0.trans (hq1.mono hS0.size), ?_⟩
      refine plan_call (some 24) 64 #[.float .f32 d] (by kernel_rfl) (by kernel_rfl) (by kernel_rfl) (by kernel_rfl) (Calls.mono (l03Size_all d (dfO_ok H0.2 hd) _) ?_)
      rintro _ V2 ⟨r, rfl, hr2, hq2⟩
      have Q2 : Below wr.heap.size wr V2 := Q1.trans (hq2.mono Q1.size)
      have S2 : Below W.heap.size W V2 := hB.out.trans (Q2.mono hB.out.size)
      refine ⟨_, rfl, S2, ?_⟩
      have S3 : Below W.heap.size W (V2.alloc (.cells #[.float .f32 r] 24)) := S2.alloc S2.size _
      refine plan_do (some 25) (.slice (some ⟨V2.heap.size, 0, none⟩) 1 1) (V2.alloc (.cells #[.float .f32 r] 24)) (by kernel_rfl) (by kernel_rfl) (by kernel_rfl) (.inl (by kernel_rfl)) S3 ?_
      obtain ⟨v', w', a1, a2, a3, a4⟩ := append_size hown.out.1 hown.out.2 (by omega) hB.out.size Q2 r (opOf (regOf Tryd.f45 5) 10).type
      have S4 := below_grown S3 a4 (fun k hk => (hown.out.1.lt k hk).1) (Nat.le_refl _)
      refine plan_do (some 26) v' w' (by kernel_rfl) (by kernel_rfl) (by kernel_rfl) (.inl (exec_append (x := .tmp 16) (y := .tmp 25) (t := 84) (by kernel_rfl) (by kernel_rfl) (by kernel_rfl) a1)) S4 ?_
      refine plan_pure (some 7) v' (by kernel_rfl) (by kernel_rfl) (by kernel_rfl) (fun _ => (by kernel_rfl)) ?_
      refine plan_end (NoPanic.normal ?_)
      have A2 := Lib.hid (show w'.ownsRow W.heap.size 24 1 v' (k + 1) ((rs ++ [r]).map (Value.float .f32)) ∧ ∃ g cap, v' = .slice (some ⟨g, 0, none⟩) (k + 1) cap from ⟨a2, a3⟩)
      have A4 := Lib.hid S4
      have SZ := Lib.hid (show SzOf T S R X Y x y L (rs ++ [r]) from fun j q hj => by
        rcases Nat.lt_or_ge j rs.length with hjl | hjl
        · rw [List.getElem?_append_left hjl] at hj
          exact hsz.out j q hj
        · rw [List.getElem?_append_right hjl] at hj
          have hj1 : j - rs.length < 1 := (List.getElem?_eq_some_iff.1 hj).1
          obtain rfl : j = k := by have := hlen.out; omega
          rw [show j - rs.length = 0 by omega] at hj
          cases hj
          exact ⟨e, d, HE.out, hd, hr2⟩)
      clear a1 a2 a3 a4 S4 S3 S2 Q2 Q1 hq1 hq2 hr2 hd hown hsz
      simp only [Act.put, List.setIfInBounds_toArray, List.set_cons_zero, List.set_cons_succ]
      go_wp2
      go_roundw
      case rel => exact ⟨k + 1, rs ++ [r], by omega, by go_num, Lib.hid (by simp [hlen.out]), SZ, A2, A4⟩
      case measure => simp [intOf]; omega
    · obtain rfl : k = n := by omega
      obtain ⟨ho, g, cap, rfl⟩ := hown.out
      have hcell : ∀ j r, rs[j]? = some r → wr.cell? ⟨g, j, none⟩ = some (.float .f32 r) := fun j r hj => by
        have hjk : j < rs.length := (List.getElem?_eq_some_iff.1 hj).1
        rw [ho.cellAt j (by rw [← hlen.out]; omega), List.getElem?_map, hj]
        rfl
      have TS := l03Sum_any g cap rs (by rw [hlen.out]; omega) wr hcell
      rw [smN_mf hsz.out rs.length (Nat.le_refl _), hlen.out] at TS
      have TT := Lib.hid TS
      clear TS ho hcell hown
      go_wp2_with (go_at_call 66; refine TT.out.mono ?_; rintro e V1 ⟨q, rfl, hq, hq1⟩; have HQ := Lib.hid hq; have Q1 := Lib.hid (hB.out.trans (hq1.mono hB.out.size)); clear hq hq1)
      go_ret
      exact ⟨q, rfl, HQ.out, BW.out.trans (Q1.out.mono BW.out.size)⟩
end Go.Proofs.YtbiknpfcemfoeaaDoor
