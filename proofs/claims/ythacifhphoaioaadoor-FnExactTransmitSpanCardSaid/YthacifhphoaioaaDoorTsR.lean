/- The span of transmits, the model's. Condition: levels and numbers fit their kinds. -/
import Derived.Test.YthacifhphoaioaaDoorFtI
namespace Go.Proofs.YthacifhphoaioaaDoor
open Go Go.RowKit Ieee
set_option linter.unusedSimpArgs false
set_option linter.unusedVariables false
attribute [local go_sem] run_store_f32

/-- The transmit of a guess that fits. -/
def trgO (G : List A2) (xs : List Nat) (i : Nat) : Option Nat := match xs[i]? with | some j => (match G[j]? with | some a => num .f32 a.1 | none => none) | none => none
theorem trgO_at {G : List A2} {xs : List Nat} {i j : Nat} {a : A2} (h : xs[i]? = some j) (ha : G[j]? = some a) : trgO G xs i = num .f32 a.1 := by unfold trgO; rw [h]; simp only [ha]
def ntgO (G : List A2) (xs : List Nat) (i : Nat) : Option Nat := negO (trgO G xs i)
theorem neg_neg (o : Option Nat) : negO (negO o) = o := by
  cases o with
  | none => rfl
  | some x =>
    show some ((x ^^^ 2 ^ 31) ^^^ 2 ^ 31) = some x
    rw [Nat.xor_assoc, Nat.xor_self, Nat.xor_zero]
def tsK (k : Option Nat) (xs : List Nat) : Option Nat := match k with | some i => some i | none => if xs = [] then some 4 else none
theorem tsK_lt {k : Option Nat} {xs : List Nat} (h : ∀ i, k = some i → i < 5) : ∀ i, tsK k xs = some i → i < 5 := by
  intro i hi
  unfold tsK at hi
  split at hi
  · exact h i hi
  · split at hi
    · cases hi; decide
    · cases hi
def tsO (k : Option Nat) (o : Option Nat) : Option Nat := if k = none then o else num .f32 0
/-- What TransmitSpan answers. -/
def TsP (G : List A2) (k : Option Nat) (xs : List Nat) (r1 r2 : Nat) : Prop := num .f32 r1 = tsO (tsK k xs) (trgO G xs (flI (trgO G xs) xs.length)) ∧ num .f32 r2 = tsO (tsK k xs) (trgO G xs (flI (ntgO G xs) xs.length))
theorem own_cell {w : World} {g cap : Nat} {xs : List Nat} {i j : Nat} (h : VRow w 2 g cap (xs.map IV)) (hi : xs[i]? = some j) : w.cell? ⟨g, i, none⟩ = some (.int .i64 (j : Int)) := h.cell i _ (by rw [List.getElem?_map, hi]; rfl)
set_option maxRecDepth 100000 in
set_option maxHeartbeats 4000000 in
theorem specTS_any (pg : Option Addr) (cg : Nat) (G : List A2) (hG : G.length ≤ 1048576) (X Y : Int) (R : Nat) (x y : Int) (p : Option Addr) (c : Nat) (L : List R2) (hL : L.length ≤ 1048576) (hX : -128 ≤ X ∧ X ≤ 127) (hY : -128 ≤ Y ∧ Y ≤ 127) (hx : -128 ≤ x ∧ x ≤ 127) (hy : -128 ≤ y ∧ y ≤ 127) (bd : Nat) (hok : ∀ a ∈ G, okA a) (hO : ∀ e ∈ L, -32768 ≤ e.2 ∧ e.2 ≤ 32767) (w : World) (hg : AsAt w pg G) (hp : RsAt w p L) :
    Calls Tryd.prog 40 #[.slice pg G.length cg, .agg (Ste X Y R x y), .slice p L.length c, .float .f32 bd] w fun e w' => (∃ r1 r2, e = .returned (.tuple #[.float .f32 r1, .float .f32 r2, .int .i64 (codeE (tsK (gueK (gueB G X Y R x y L) G.length) (ftL G R X Y x y L bd (gueK (gueB G X Y R x y L) G.length))))]) ∧ TsP G (gueK (gueB G X Y R x y L) G.length) (ftL G R X Y x y L bd (gueK (gueB G X Y R x y L) G.length)) r1 r2) ∧ Below w.heap.size w w' := by
  obtain ⟨W, hW, B0, LD⟩ := one_row X Y R x y w
  have BW := Lib.hid B0
  have PG := Lib.hid hg
  have T0 := specFW_any pg cg G hG X Y R x y p c L hL hX hY hx hy bd hok hO W (hg.keep B0) (hp.keep B0)
  obtain ⟨s0, s1, s2, s3, s4⟩ := LD W (Below.refl _ _)
  obtain ⟨k, hk⟩ : ∃ k, gueK (gueB G X Y R x y L) G.length = k := ⟨_, rfl⟩
  have hk5 : ∀ i, k = some i → i < 5 := by rw [← hk]; exact gueK_lt
  have M20 := Lib.hid (fun (hK : k = none) => (gueK_none (hk.trans hK)).2.2)
  rw [hk] at T0 ⊢
  have HL := Lib.hid (show ∀ j ∈ ftL G R X Y x y L bd k, j < G.length from fun j hj => by
    unfold ftL at hj
    split at hj
    · exact fitI_lt _ _ _ j hj
    · simp at hj)
  have HLEN := Lib.hid (show (ftL G R X Y x y L bd k).length ≤ G.length from by
    unfold ftL
    split
    · exact fitI_len _ _ _
    · simp)
  have HS0 := Lib.hid (show ∀ i, k = some i → ftL G R X Y x y L bd k = [] from fun i h => by rw [h]; rfl)
  obtain ⟨xs, hxs⟩ : ∃ xs, ftL G R X Y x y L bd k = xs := ⟨_, rfl⟩
  rw [hxs] at T0 HL HLEN HS0 ⊢
  obtain ⟨l, hl⟩ : ∃ l, xs.length = l := ⟨_, rfl⟩
  have HLL := Lib.hid hl
  rw [hl] at T0 HLEN
  obtain ⟨m, hm⟩ : ∃ m, G.length = m := ⟨_, rfl⟩
  have HN := Lib.hid hm
  obtain ⟨n, hn⟩ : ∃ n, L.length = n := ⟨_, rfl⟩
  rw [hm, hn] at T0 ⊢
  rw [hm] at hG HL HLEN M20
  rw [hn] at hL
  clear hg hp B0 LD hok hO hk hxs hm hn hl
  simp only [Ste] at T0 hW ⊢
  rcases k with _ | i
  · rw [show codeE none = 0 from rfl] at T0
    have hlm := HLEN.out
    have m20 := M20.out rfl
    rcases Nat.eq_zero_or_pos l with h0 | h0
    · subst h0
      have hx0 : xs = [] := List.length_eq_zero_iff.1 HLL.out
      have RS := Lib.hid (show TsP G none xs 0 0 from by subst hx0; exact ⟨rfl, rfl⟩)
      have HE := Lib.hid (show codeE (tsK none xs) = 6 from by subst hx0; rfl)
      clear HL HLEN M20 hk5 HS0 hx0
      go_enter Tryd.func40, Tryd.ntmps40
      go_upto_region 1 with (fail)
      try rw [hW]
      clear hW
      go_wp2_with (go_at_call 36; refine T0.mono ?_; rintro e V1 ⟨p', cap, rfl, ho, hq1⟩; have Q1 := Lib.hid hq1; clear hq1 ho s0 s1 s2 s3 s4)
      go_ret3
      exact ⟨⟨0, 0, by rw [HE.out]; rfl, RS.out⟩, BW.out.trans (Q1.out.mono BW.out.size)⟩
    · have hxn : ¬ xs = [] := fun h => by have := HLL.out; rw [h] at this; simp at this; omega
      have hn2 : ¬ (l : Int) = 0 := by omega
      have hn3 : ((l : Int) == 0) = false := by simp; omega
      have HE := Lib.hid (show tsK none xs = none from by unfold tsK; rw [if_neg hxn])
      have RS := Lib.hid (show ∀ r1 r2, num .f32 r1 = trgO G xs (flI (trgO G xs) l) → num .f32 r2 = trgO G xs (flI (ntgO G xs) l) → TsP G none xs r1 r2 from fun r1 r2 h1 h2 => by
        unfold TsP
        rw [HE.out, HLL.out]
        exact ⟨h1, h2⟩)
      obtain ⟨j0, hj0⟩ : ∃ j, xs[0]? = some j := ⟨_, List.getElem?_eq_getElem (by rw [HLL.out]; exact h0)⟩
      have hjm : j0 < m := HL.out j0 (List.mem_of_getElem? hj0)
      obtain ⟨a0, ha0⟩ : ∃ a, G[j0]? = some a := ⟨_, List.getElem?_eq_getElem (by rw [HN.out]; exact hjm)⟩
      have HA0 := Lib.hid (trgO_at hj0 ha0)
      clear HLEN M20 hk5 HS0 hxn
      go_enter Tryd.func40, Tryd.ntmps40
      go_upto_region 1 with (fail)
      try rw [hW]
      clear hW
      go_upto_region 2 with (go_at_call 36; refine T0.mono ?_; rintro e V1 ⟨p', cap, rfl, ho, hq1⟩; have Q1 := Lib.hid hq1; have HO := Lib.hid ho; clear hq1 ho s0 s1 s2 s3 s4)
      obtain ⟨g, rfl, hv⟩ : ∃ g, p' = some ⟨g, 0, none⟩ ∧ VRow V1 2 g cap (xs.map IV) := by
        rcases HO.out with ⟨_, _, h⟩ | ⟨g, h1, h2, _⟩
        · exfalso; have := HLL.out; rw [h] at this; simp at this; omega
        · exact ⟨g, h1, h2⟩
      have HV := Lib.hid hv
      obtain ⟨b, o, rfl, hr⟩ := (PG.out.keep (BW.out.trans (Q1.out.mono BW.out.size))) j0 a0 ha0
      have d0 : V1.cell? ⟨g, 0, none⟩ = some (.int .i64 (j0 : Int)) := own_cell hv hj0
      have c0 : V1.cell? ⟨b, o + j0 * 2, none⟩ = some (.float .f32 a0.1) := hr 0 _ rfl
      have hji : (j0 : Int) < m := by omega
      clear hv HO hr ha0 hj0
      go_upto_region 9 with (fail)
      clear c0 d0 hji hjm
      have e00 : ((1 : Nat) : Int) = 1 := rfl
      go_loopw [13, 14, 15] (fun (lo hi i : Value) (wr : World) => ∃ (k r1 r2 : Nat), 1 ≤ k ∧ k ≤ l ∧ i = .int .i64 (k : Int) ∧ lo = .float .f32 r1 ∧ hi = .float .f32 r2 ∧ Hid (num .f32 r1 = trgO G xs (flI (trgO G xs) k)) ∧ Hid (num .f32 r2 = trgO G xs (flI (ntgO G xs) k)) ∧ wr = V1) (fun _ _ i _ => l - (intOf i).toNat)
      case atStart => exact ⟨1, a0.1, a0.1, by omega, by omega, rfl, rfl, rfl, Lib.hid (by rw [gue1]; exact HA0.out.symm), Lib.hid (by rw [gue1]; exact HA0.out.symm), rfl⟩
      case round =>
        obtain ⟨k, r1, r2, hk1, hk, rfl, rfl, rfl, H1, H2, rfl⟩ := hrel
        by_cases hlt : k < l
        · have hki : (k : Int) < l := by omega
          obtain ⟨j, hj⟩ : ∃ j, xs[k]? = some j := ⟨_, List.getElem?_eq_getElem (by rw [HLL.out]; exact hlt)⟩
          have hjm : j < m := HL.out j (List.mem_of_getElem? hj)
          obtain ⟨a, ha⟩ : ∃ a, G[j]? = some a := ⟨_, List.getElem?_eq_getElem (by rw [HN.out]; exact hjm)⟩
          have hA := trgO_at hj ha
          obtain ⟨b', o', hbo, hr⟩ := (PG.out.keep (BW.out.trans (Q1.out.mono BW.out.size))) j a ha
          cases hbo
          have d0 : wr.cell? ⟨g, k, none⟩ = some (.int .i64 (j : Int)) := own_cell HV.out hj
          have c0 : wr.cell? ⟨b, o + j * 2, none⟩ = some (.float .f32 a.1) := hr 0 _ rfl
          have hji : (j : Int) < m := by omega
          have q1 : FloatKind.f32.format.order a.1 r1 = ordO (trgO G xs k) (trgO G xs (flI (trgO G xs) k)) := ordO_num hA.symm H1.out
          have q2 : FloatKind.f32.format.order a.1 r2 = ordO (trgO G xs k) (trgO G xs (flI (ntgO G xs) k)) := ordO_num hA.symm H2.out
          have q3 : (FloatKind.f32.format.order a.1 r2 == some Ordering.gt) = ltO (ntgO G xs k) (ntgO G xs (flI (ntgO G xs) k)) := by
            rw [q2]
            exact (ltO_neg _ _).symm
          have HA := Lib.hid hA.symm
          clear hr ha hj hA q2
          cases hl1 : ltO (trgO G xs k) (trgO G xs (flI (trgO G xs) k)) <;> cases hl2 : ltO (ntgO G xs k) (ntgO G xs (flI (ntgO G xs) k)) <;> (
            have E1 := Lib.hid (show flI (trgO G xs) (k + 1) = if ltO (trgO G xs k) (trgO G xs (flI (trgO G xs) k)) = true then k else flI (trgO G xs) k from rfl)
            have E2 := Lib.hid (show flI (ntgO G xs) (k + 1) = if ltO (ntgO G xs k) (ntgO G xs (flI (ntgO G xs) k)) = true then k else flI (ntgO G xs) k from rfl)
            have z1 := (congrArg (· == some Ordering.lt) q1).trans hl1
            have z2 := q3.trans hl2
            rw [hl1] at E1
            rw [hl2] at E2
            clear q1 q3 hl1 hl2
            go_wp2
            go_roundw
            case rel =>
              refine ⟨k + 1, _, _, by omega, by omega, by go_num, rfl, rfl, ?_, ?_, by first | trivial | rfl⟩
              · rw [E1.out]; first | exact H1 | exact HA
              · rw [E2.out]; first | exact H2 | exact HA
            case measure => simp [intOf]; omega)
        · obtain rfl : k = l := by omega
          go_wp2
          go_ret3
          exact ⟨⟨r1, r2, by rw [HE.out]; rfl, RS.out r1 r2 H1.out H2.out⟩, BW.out.trans (Q1.out.mono BW.out.size)⟩
  · have hi := hk5 i rfl
    have hc0 : ¬ codeE (some i) = 0 := by
      rcases i with _ | _ | _ | _ | _ | i <;> first | (exfalso; omega) | (unfold codeE; decide)
    have RS := Lib.hid (show TsP G (some i) xs 0 0 from ⟨rfl, rfl⟩)
    have HE := Lib.hid (show tsK (some i) xs = some i from rfl)
    rw [HE.out]
    obtain ⟨cc, hcc⟩ : ∃ cc, codeE (some i) = cc := ⟨_, rfl⟩
    rw [hcc] at T0 hc0 ⊢
    clear hcc hk5 hi HL HLEN M20 HS0
    go_enter Tryd.func40, Tryd.ntmps40
    go_upto_region 1 with (fail)
    try rw [hW]
    clear hW
    go_wp2_with (go_at_call 36; refine T0.mono ?_; rintro e V1 ⟨p', cap, rfl, ho, hq1⟩; have Q1 := Lib.hid hq1; clear hq1 ho s0 s1 s2 s3 s4)
    go_ret3
    exact ⟨⟨0, 0, rfl, RS.out⟩, BW.out.trans (Q1.out.mono BW.out.size)⟩
end Go.Proofs.YthacifhphoaioaaDoor
