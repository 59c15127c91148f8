/- The sums over readings, the program's. Condition: the readings are valid, and there is one. -/
import Derived.Test.YtbiknpfcemfoeaaDoorLinI
namespace Go.Proofs.YtbiknpfcemfoeaaDoor
open Go Go.RowKit Ieee
set_option linter.unusedSimpArgs false
set_option linter.unusedVariables false
attribute [local go_sem] run_store_f32

theorem SAt.range {w : World} {g : Nat} {h : Nat → Nat} (s : SAt w g h) : w.rangeAt g 0 [.float .f32 (h 0), .float .f32 (h 1), .float .f32 (h 2), .float .f32 (h 3)] := fun j v hv => by
  rw [Nat.zero_add]
  rcases j with _ | _ | _ | _ | j
  · cases hv; exact s.2 0 (by decide)
  · cases hv; exact s.2 1 (by decide)
  · cases hv; exact s.2 2 (by decide)
  · cases hv; exact s.2 3 (by decide)
  · simp at hv
def pk4 (a b c d : Nat) : Nat → Nat | 0 => a | 1 => b | 2 => c | _ => d
theorem idx4 {op : Oper} {r : Operand → Value} {x y : Operand} {a b c d k : Nat} (ho : op.op = .index 99 x y) (hx : r x = .agg #[.float .f32 a, .float .f32 b, .float .f32 c, .float .f32 d]) (hy : r y = .int .i64 (k : Int)) (hk : k < 4) (w : World) :
    (execOp r op).run Tryd.prog w = .ok (.value (.float .f32 (pk4 a b c d k))) w := by
  unfold execOp
  simp only [ho, hx, hy]
  obtain rfl | rfl | rfl | rfl : k = 0 ∨ k = 1 ∨ k = 2 ∨ k = 3 := by omega
  · kernel_rfl
  · kernel_rfl
  · kernel_rfl
  · kernel_rfl
theorem wpList_idx {ops : Array Oper} {rest : List Oper} {o : Oper} {a : Act} {w : World} {Q : Exit → Act → World → Prop} (hg : Region.wanted o (yielded ops a.tmps) = true) (x y : Operand) (ho : o.op = .index 99 x y) {a0 a1 a2 a3 k : Nat}
    (hx : a.eval x = .agg #[.float .f32 a0, .float .f32 a1, .float .f32 a2, .float .f32 a3]) (hy : a.eval y = .int .i64 (k : Int)) (hk : k < 4)
    (h : wpList Tryd.prog ops Q rest (a.put o.dst (.float .f32 (pk4 a0 a1 a2 a3 k))) w) : wpList Tryd.prog ops Q (o :: rest) a w :=
  wpList_step fun K hK => by
    rw [if_pos hg]
    unfold Oper.wp
    rw [idx4 ho hx hy hk w]
    exact hK _ _ h
set_option maxRecDepth 100000 in
set_option maxHeartbeats 4000000 in
theorem sumsOf_any (p : Option Addr) (c : Nat) (L : List R2) (hL : L.length ≤ 40) (hc : L.length ≤ c) (h0 : 2 ≤ L.length) (hok : ∀ (k : Nat) (e : R2), L[k]? = some e → 1 ≤ e.1 ∧ e.1 ≤ 100000) (w : World) (hp : RsAt w p L) :
    Calls Tryd.prog 52 #[.slice p L.length c] w fun v w' => (∃ h : Nat → Nat, v = .returned (.agg #[.float .f32 (h 0), .float .f32 (h 1), .float .f32 (h 2), .float .f32 (h 3)]) ∧ ∀ j, j < 4 → num .f32 (h j) = suO L j (L.length - 1)) ∧ Below w.heap.size w w' := by
  have PP := Lib.hid hp
  have OK := Lib.hid hok
  obtain ⟨n, hn⟩ : ∃ n, L.length = n := ⟨_, rfl⟩
  have HN := Lib.hid hn
  rw [hn] at hL h0 hc ⊢
  clear hn hp hok
  obtain ⟨e, he⟩ : ∃ e, L[0]? = some e := ⟨_, List.getElem?_eq_getElem (by rw [HN.out]; omega)⟩
  obtain ⟨b, o, rfl, hr⟩ := PP.out 0 e he
  have c0 : w.cell? ⟨b, o, none⟩ = some (.int .i64 e.1) := by have := hr 0 _ rfl; simpa using this
  have c1 : w.cell? ⟨b, o + 1, none⟩ = some (.int .i16 e.2) := by have := hr 1 _ rfl; simpa using this
  have hbs : b ≠ w.heap.size := Nat.ne_of_lt (World.block_lt_of_cell? w _ c0)
  have T0 := fun V => terms_any e (OK.out 0 e he) V
  simp only [Rd] at T0
  have S0' := sat_new w 99 0 0 0 0
  have B0 : Below w.heap.size w (w.alloc (.cells #[.float .f32 0, .float .f32 0, .float .f32 0, .float .f32 0] 99)) := (Below.refl _ _).alloc (Nat.le_refl _) _
  obtain ⟨W, hW⟩ : ∃ W, w.alloc (.cells #[.float .f32 0, .float .f32 0, .float .f32 0, .float .f32 0] 99) = W := ⟨_, rfl⟩
  rw [hW] at B0 S0'
  have BA := Lib.hid B0
  have S0 := Lib.hid S0'
  have hc1 : ¬ c = 1 := by omega
  have hbl := World.block_lt_of_cell? w _ c0
  have c0 := (BA.out.cell (p := ⟨b, o, none⟩) hbl).trans c0
  have c1 := (BA.out.cell (p := ⟨b, o + 1, none⟩) hbl).trans c1
  have HT := Lib.hid (fun j => tmA_at (k := j) he)
  have h1i : ¬ (n : Int) < 1 := by omega
  clear hr he
  clear B0 S0'
  go_enter Tryd.func52, Tryd.ntmps52
  go_upto_region 1 with (fail)
  try rw [hW]
  clear hW
  go_upto_region 2 with (go_at_call 75; refine (T0 _).mono ?_; rintro v V1 ⟨⟨a0, a1, a2, a3, rfl, q0, q1, q2, q3⟩, hq1⟩; have Q1 := Lib.hid hq1; have A0 := Lib.hid q0; have A1 := Lib.hid q1; have A2 := Lib.hid q2; have A3 := Lib.hid q3; clear hq1 q0 q1 q2 q3 c0 c1)
  go_upto_region 3 with (fail)
  have S1 := Lib.hid (sat_new V1 99 a0 a1 a2 a3)
  have B1 := Lib.hid (Q1.out.alloc Q1.out.size (.cells #[.float .f32 a0, .float .f32 a1, .float .f32 a2, .float .f32 a3] 99))
  have HS := Lib.hid (show ∀ j, j < 4 → num .f32 ((fun j => if j = 0 then a0 else if j = 1 then a1 else if j = 2 then a2 else a3) j) = suO L j 0 from fun j hj => by
    show _ = tmA L 0 j
    rw [HT.out]
    rcases j with _ | _ | _ | _ | j
    · exact A0.out
    · exact A1.out
    · exact A2.out
    · exact A3.out
    · omega)
  have HG := Lib.hid (show W.heap.size ≤ V1.heap.size from Q1.out.size)
  obtain ⟨g, hg⟩ : ∃ g, V1.heap.size = g := ⟨_, rfl⟩
  obtain ⟨m, hm⟩ : ∃ m, n - 1 = m := ⟨_, rfl⟩
  rw [hg] at S1 HG
  try rw [hg]
  try rw [hm]
  have e00 : ((0 : Nat) : Int) = 0 := rfl
  have hmn : n = m + 1 := by omega
  have HMN := Lib.hid hmn
  have hm40 : m ≤ 40 := by omega
  clear hg hm A0 A1 A2 A3 HT T0 hmn
  go_loopw [15] (fun (i : Value) (wr : World) => ∃ (k : Nat), k ≤ m ∧ i = .int .i64 (k : Int) ∧ Hid (∃ h : Nat → Nat, SAt wr g h ∧ ∀ j, j < 4 → num .f32 (h j) = suO L j k) ∧ Hid (Below W.heap.size W wr)) (fun i _ => m - (intOf i).toNat)
  case atStart => exact ⟨0, by omega, rfl, Lib.hid ⟨_, S1.out, HS.out⟩, B1⟩
  case round =>
    obtain ⟨i, hi, rfl, hs, hB⟩ := hrel
    by_cases hlt : i < m
    · have hii : (i : Int) < m := by omega
      obtain ⟨h0, hs0, hs1⟩ := hs.out
      have HS0 := Lib.hid hs0
      have HS1 := Lib.hid hs1
      obtain ⟨e, he⟩ : ∃ e, L[i + 1]? = some e := ⟨_, List.getElem?_eq_getElem (by rw [HN.out, HMN.out]; omega)⟩
      obtain ⟨b', o', hbo, hr⟩ := (PP.out.keep (BA.out.trans (hB.out.mono BA.out.size))) (i + 1) e he
      cases hbo
      rw [show o + (i + 1) * 2 = o + 2 + i * 2 by omega] at hr
      have c0 : wr.cell? ⟨b, o + 2 + i * 2, none⟩ = some (.int .i64 e.1) := hr 0 _ rfl
      have c1 : wr.cell? ⟨b, o + 2 + i * 2 + 1, none⟩ = some (.int .i16 e.2) := hr 1 _ rfl
      have T1 := Lib.hid (fun V => terms_any e (OK.out (i + 1) e he) V)
      simp only [Rd] at T1
      have HT := Lib.hid (fun j => tmA_at (k := j) he)
      have BX := Lib.hid (hB.out.alloc hB.out.size (.cells #[.int .i64 e.1, .int .i16 e.2] 65))
      have SX := Lib.hid (HS0.out.keep ((Below.refl wr.heap.size wr).alloc (Nat.le_refl _) (.cells #[.int .i64 e.1, .int .i16 e.2] 65)))
      clear hr he hs hs0 hs1
      go_upto_region 6 with (go_at_call 75; refine (T1.out _).mono ?_; rintro v V2 ⟨⟨a0, a1, a2, a3, rfl, q0, q1, q2, q3⟩, hq1⟩; have Q2 := Lib.hid (BX.out.trans (hq1.mono BX.out.size)); have SY := Lib.hid (SX.out.keep hq1); have A0 := Lib.hid q0; have A1 := Lib.hid q1; have A2 := Lib.hid q2; have A3 := Lib.hid q3; clear hq1 q0 q1 q2 q3 c0 c1)
      have HA := Lib.hid (show num .f32 a0 = tmA L (i + 1) 0 ∧ num .f32 a1 = tmA L (i + 1) 1 ∧ num .f32 a2 = tmA L (i + 1) 2 ∧ num .f32 a3 = tmA L (i + 1) 3 from by rw [HT.out, HT.out, HT.out, HT.out]; exact ⟨A0.out, A1.out, A2.out, A3.out⟩)
      have HPK := Lib.hid (show ∀ j, j < 4 → num .f32 (pk4 a0 a1 a2 a3 j) = tmA L (i + 1) j from fun j hj => by
        rcases j with _ | _ | _ | _ | j
        · exact HA.out.1
        · exact HA.out.2.1
        · exact HA.out.2.2.1
        · exact HA.out.2.2.2
        · omega)
      clear A0 A1 A2 A3 HT T1 SX BX HA
      go_loopw [21] (fun (kk : Value) (wi : World) => ∃ (k : Nat), k ≤ 4 ∧ kk = .int .i64 (k : Int) ∧ Hid (∃ h : Nat → Nat, SAt wi g h ∧ ∀ j, j < 4 → num .f32 (h j) = if j < k then suO L j (i + 1) else suO L j i) ∧ Hid (Below W.heap.size W wi)) (fun kk _ => 4 - (intOf kk).toNat)
      case atStart => exact ⟨0, by omega, rfl, Lib.hid ⟨h0, SY.out, fun j hj => by rw [if_neg (by omega)]; exact HS1.out j hj⟩, Q2⟩
      case round =>
        obtain ⟨k, hk, rfl, hs, hB2⟩ := hrel
        by_cases hk4 : k < 4
        · obtain ⟨h, hh, hn⟩ := hs.out
          have HH := Lib.hid hh
          have HHN := Lib.hid hn
          have f1 : True := trivial
          clear hs hn
          have hki : (k : Int) < 4 := by omega
          have cs := hh.2 _ hk4
          have fs := hh.free hk4
          clear hh
          have ia : True := trivial
          go_wp2_with (first | (have _t := ia; refine wpList_idx (by kernel_rfl) _ _ rfl rfl rfl hk4 ?_; clear ia) | (have _t := f1; refine wpList_float rfl _ _ _ _ _ rfl rfl .f32 _ _ rfl rfl ?_; intro z1 n1 hz; have Z1 := Lib.hid hz; clear f1 hz))
          go_roundw
          case rel =>
            exact ⟨k + 1, by omega, by go_num, Lib.hid ⟨_, (HH.out.keep (belowN (Below.refl _ _) n1)).put (r := z1) hk4, fun j hj => by
              by_cases hjk : j = k
              · subst hjk
                rw [if_pos rfl, if_pos (by omega), Z1.out, HHN.out j hj, if_neg (by omega), HPK.out j hj]
                rfl
              · rw [if_neg hjk, HHN.out j hj]
                by_cases hl : j < k
                · rw [if_pos hl, if_pos (by omega)]
                · rw [if_neg hl, if_neg (by omega)]⟩, Lib.hid ((belowN hB2.out n1).setCell HG.out _)⟩
          case measure => simp [intOf]; omega
        · obtain rfl : k = 4 := by omega
          have HF := Lib.hid hs.out
          clear hs
          go_wp2
          go_roundw
          case rel => exact ⟨i + 1, by omega, by go_num, Lib.hid (by
            obtain ⟨h, hh, hn⟩ := HF.out
            exact ⟨h, hh, fun j hj => by rw [hn j hj, if_pos hj]⟩), hB2⟩
          case measure => simp [intOf]; omega
    · obtain rfl : i = m := by omega
      obtain ⟨h, hs0, hs1⟩ := hs.out
      have ra := hs0.range
      have TW := Lib.hid (S0.out.keep hB.out).1
      have HS1 := Lib.hid hs1
      clear hs hs0 hs1
      go_wp2_with (first | (refine wpList_load_mid rfl 99 _ rfl g 0 rfl [.float .f32 (h 0), .float .f32 (h 1), .float .f32 (h 2), .float .f32 (h 3)] _ ra Tryd.underlying99 rfl (by kernel_rfl) ?_) | (refine wpList_store_mid rfl 99 _ _ rfl w.heap.size 0 #[.float .f32 (h 0), .float .f32 (h 1), .float .f32 (h 2), .float .f32 (h 3)] rfl rfl TW.out (by kernel_rfl) (s4_one _ _ _ _) ?_; obtain ⟨V4, hV4⟩ : ∃ V4, wr.setCells w.heap.size 0 [.float .f32 (h 0), .float .f32 (h 1), .float .f32 (h 2), .float .f32 (h 3)] = V4 := ⟨_, rfl⟩; try rw [hV4]; have HV4 := Lib.hid hV4; clear hV4))
      have ST := World.rangeAt_setCells_same wr w.heap.size 0 [.float .f32 (h 0), .float .f32 (h 1), .float .f32 (h 2), .float .f32 (h 3)] TW.out
      rw [HV4.out] at ST
      refine bodyPost_ret (results_agg1 (p := 2) (ty := 99) rfl _ _ w.heap.size #[.float .f32 (h 0), .float .f32 (h 1), .float .f32 (h 2), .float .f32 (h 3)] rfl ST Tryd.underlying99 rfl (by kernel_rfl)) rfl ?_
      refine ⟨⟨h, rfl, fun j hj => by rw [HMN.out, Nat.add_sub_cancel]; exact HS1.out j hj⟩, ?_⟩
      rw [← HV4.out]
      exact below_setCells _ (Nat.le_refl _) _ _ _ (BA.out.trans (hB.out.mono BA.out.size))
end Go.Proofs.YtbiknpfcemfoeaaDoor
