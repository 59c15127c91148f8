/- The guesses that fit, the model's. Condition: levels and numbers fit their kinds. -/
import Derived.Test.YthacifhphoaioaaDoorGuI
import Derived.Test.YthacifhphoaioaaDoorRow1
namespace Go.Proofs.YthacifhphoaioaaDoor
open Go Go.RowKit Ieee
set_option linter.unusedSimpArgs false
set_option linter.unusedVariables false
attribute [local go_sem] run_store_f32

/-- At most as great as a bound. -/
def leO (a b : Option Nat) : Bool := ordO a b == some Ordering.lt || ordO a b == some Ordering.eq
theorem leO_is {r bd : Nat} {o : Option Nat} (h : num .f32 r = o) : (FloatKind.f32.format.order r bd == some Ordering.lt || FloatKind.f32.format.order r bd == some Ordering.eq) = leO o (num .f32 bd) := by rw [ordO_num h rfl]; rfl
/-- The indices of those that are at most as great, of so many. -/
def fitI (m : Nat → Option Nat) (bd : Option Nat) : Nat → List Nat
  | 0 => []
  | k + 1 => if leO (m k) bd = true then fitI m bd k ++ [k] else fitI m bd k
theorem fitI_lt (m : Nat → Option Nat) (bd : Option Nat) : ∀ k, ∀ j ∈ fitI m bd k, j < k
  | 0 => fun j h => by simp [fitI] at h
  | k + 1 => fun j h => by
    unfold fitI at h
    split at h
    · rcases List.mem_append.1 h with h | h
      · exact Nat.lt_succ_of_lt (fitI_lt m bd k j h)
      · rw [List.mem_singleton] at h; omega
    · exact Nat.lt_succ_of_lt (fitI_lt m bd k j h)
theorem fitI_len (m : Nat → Option Nat) (bd : Option Nat) : ∀ k, (fitI m bd k).length ≤ k
  | 0 => Nat.le_refl _
  | k + 1 => by
    have := fitI_len m bd k
    unfold fitI
    split
    · rw [List.length_append]; simp; exact this
    · omega
def IV (v : Nat) : Value := .int .i64 (v : Int)
/-- A list of its own, or none. -/
def OwnI (w : World) (p : Option Addr) (cap : Nat) (xs : List Nat) (B : Nat) : Prop := (p = none ∧ cap = 0 ∧ xs = []) ∨ ∃ g, p = some ⟨g, 0, none⟩ ∧ VRow w 2 g cap (xs.map IV) ∧ B ≤ g
/-- What fits. -/
def ftL (G : List A2) (R : Nat) (X Y x y : Int) (L : List R2) (bd : Nat) (k : Option Nat) : List Nat := if k = none then fitI (guO R X Y x y L G) (num .f32 bd) G.length else []
theorem wpList_appI {ops : Array Oper} {rest : List Oper} {o : Oper} {a : Act} {V : World} {Q : Exit → Act → World → Prop} (hg : Region.wanted o (yielded ops a.tmps) = true) (x y : Operand)
    (ho : o.op = .call { callee := .builtin .append, args := #[x, y], argTypes := #[30, 30] }) {g cap n : Nat} {xs : List Nat} (h : VRow V 2 g cap (xs.map IV)) (hn : xs.length = n) (hl : n ≤ 1000) (z : Nat)
    (hx : a.eval x = .slice (some ⟨g, 0, none⟩) n cap) (hy : a.eval y = .slice (some ⟨V.heap.size, 0, none⟩) 1 1)
    (hQ : ∀ g' cap' w', VRow w' 2 g' cap' ((xs ++ [z]).map IV) → V.grownBy w' (some g) → (g' = g ∨ V.heap.size < g') → wpList Tryd.prog ops Q rest (a.put o.dst (.slice (some ⟨g', 0, none⟩) (n + 1) cap')) w') :
    wpList Tryd.prog ops Q (o :: rest) a (V.alloc (.cells #[.int .i64 (z : Int)] 2)) := by
  obtain ⟨i, hi, hz, hs, hby⟩ := info_parts (P := Tryd.prog) (e := 2) (z := .int .i64 0) (size := 1) (bytes := 8) (by kernel_rfl)
  refine wpList_append1 hg x y _ ho Tryd.underlying30 hi hz hs hby rfl h (by rw [List.length_map, hn]) (.int .i64 (z : Int)) rfl (by omega) (by unfold maxLen; omega) hx hy fun g' cap' w' h1 h2 h3 => hQ g' cap' w' ?_ h2 h3
  rwa [List.map_append, List.map_cons, List.map_nil]
set_option maxRecDepth 100000 in
set_option maxHeartbeats 4000000 in
theorem specFW_any (pg : Option Addr) (cg : Nat) (G : List A2) (hG : G.length ≤ 1048576) (X Y : Int) (R : Nat) (x y : Int) (p : Option Addr) (c : Nat) (L : List R2) (hL : L.length ≤ 1048576) (hX : -128 ≤ X ∧ X ≤ 127) (hY : -128 ≤ Y ∧ Y ≤ 127) (hx : -128 ≤ x ∧ x ≤ 127) (hy : -128 ≤ y ∧ y ≤ 127) (bd : Nat) (hok : ∀ a ∈ G, okA a) (hO : ∀ e ∈ L, -32768 ≤ e.2 ∧ e.2 ≤ 32767) (w : World) (hg : AsAt w pg G) (hp : RsAt w p L) :
    Calls Tryd.prog 36 #[.slice pg G.length cg, .agg (Ste X Y R x y), .slice p L.length c, .float .f32 bd] w fun e w' => ∃ p' cap, e = .returned (.tuple #[.slice p' (ftL G R X Y x y L bd (gueK (gueB G X Y R x y L) G.length)).length cap, .int .i64 (codeE (gueK (gueB G X Y R x y L) G.length))]) ∧ OwnI w' p' cap (ftL G R X Y x y L bd (gueK (gueB G X Y R x y L) G.length)) w.heap.size ∧ Below w.heap.size w w' := by
  obtain ⟨z, b0⟩ := laid1 w (.cells (Ste X Y R x y) 38)
  have R0' := rangeAt_row b0
  obtain ⟨W, hW, B0, LD⟩ := one_row X Y R x y w
  rw [hW] at z R0'
  have BW := Lib.hid B0
  have R0 := Lib.hid R0'
  have ZW := Lib.hid z
  have PG := Lib.hid hg
  have PP := Lib.hid hp
  have T0 := specGuesses_any pg cg G hG X Y R x y p c L hL hX hY hx hy W (hg.keep B0) (hp.keep B0)
  obtain ⟨s0, s1, s2, s3, s4⟩ := LD W (Below.refl _ _)
  have TM := Lib.hid (fun (hK : gueK (gueB G X Y R x y L) G.length = none) (j : Nat) (a : A2) (ha : G[j]? = some a) (V : World) (hV : RsAt V p L) => show Calls Tryd.prog 66 #[.agg (Aq a.1 a.2), .agg (Ste X Y R x y), .slice p L.length c] V (GvB (guO R X Y x y L G j) V) by
    have hb := (gueK_none hK).1
    have h40 : L.length ≤ 40 := by
      have h := hb
      simp only [gueB, okRs, Bool.and_eq_true, decide_eq_true_eq] at h
      omega
    have ho := hok a (List.mem_of_getElem? ha)
    obtain ⟨p1, p2, p3, p4, p5, p6, p7⟩ := ask_parts ho.1 ho.2 (gue_ask hb ha)
    rw [guO_at ha]
    exact l04Misfit_any X Y R x y a.1 a.2 p c L h40 p1 p2 p3 p4 p5 p6 (fun k e he => ⟨okRs_time p7 k e he, hO e (List.mem_of_getElem? he)⟩) V hV)
  have M20 := Lib.hid (fun (hK : gueK (gueB G X Y R x y L) G.length = none) => (gueK_none hK).2.2)
  obtain ⟨k0, hk⟩ : ∃ k, gueK (gueB G X Y R x y L) G.length = k := ⟨_, rfl⟩
  have hk5 : ∀ i, k0 = some i → i < 5 := by rw [← hk]; exact gueK_lt
  rw [hk] at T0 TM M20 ⊢
  clear hg hp B0 LD hok hO hk z R0'
  rcases k0 with _ | i
  · have T1 := Lib.hid (TM.out rfl)
    have m20 := M20.out rfl
    rw [show ftL G R X Y x y L bd none = fitI (guO R X Y x y L G) (num .f32 bd) G.length from rfl]
    obtain ⟨m, hm⟩ : ∃ m, G.length = m := ⟨_, rfl⟩
    have HN := Lib.hid hm
    obtain ⟨n, hn⟩ : ∃ n, L.length = n := ⟨_, rfl⟩
    rw [hm] at hG m20 T0 ⊢
    rw [hn] at hL T0 T1 ⊢
    have RS := Lib.hid (show ∀ (g cap l : Nat) (xs : List Nat) (V : World), xs.length = l → xs = fitI (guO R X Y x y L G) (num .f32 bd) m → VRow V 2 g cap (xs.map IV) → Below W.heap.size W V → W.heap.size ≤ g → ∃ p' cap', Ending.returned (.tuple #[.slice (some ⟨g, 0, none⟩) l cap, .int .i64 0]) = .returned (.tuple #[.slice p' (fitI (guO R X Y x y L G) (num .f32 bd) m).length cap', .int .i64 (codeE none)]) ∧ OwnI V p' cap' (fitI (guO R X Y x y L G) (num .f32 bd) m) w.heap.size ∧ Below w.heap.size w V from
      fun g cap l xs V h1 h2 h3 h4 h5 => by
        subst h2
        exact ⟨_, _, by rw [h1]; rfl, .inr ⟨g, rfl, h3, Nat.le_trans BW.out.size h5⟩, BW.out.trans (h4.mono BW.out.size)⟩)
    clear hn hm TM M20 hk5
    simp only [Ste] at hW ⊢
    rw [show codeE none = 0 from rfl] at T0
    go_enter Tryd.func36, Tryd.ntmps36
    go_upto_region 1 with (fail)
    try rw [hW]
    clear hW
    simp only [Ste] at T0
    go_upto_region 4 with (go_at_call 63; refine T0.mono ?_; rintro e V1 ⟨rfl, hq1⟩; have Q1 := Lib.hid hq1; clear hq1 s0 s1 s2 s3 s4)
    have V0 := Lib.hid (vrow_made V1 2)
    have B1 := Lib.hid (Q1.out.alloc Q1.out.size (.cells #[] 2))
    have G0 := Lib.hid Q1.out.size
    go_upto_region 6 with (fail)
    have e00 : ((0 : Nat) : Int) = 0 := rfl
    go_loopw [11, 12] (fun (ou i : Value) (wr : World) => ∃ (k g cap l : Nat) (xs : List Nat), k ≤ m ∧ i = .int .i64 (k : Int) ∧ ou = .slice (some ⟨g, 0, none⟩) l cap ∧ Hid (xs.length = l ∧ l ≤ k) ∧ Hid (xs = fitI (guO R X Y x y L G) (num .f32 bd) k) ∧ Hid (VRow wr 2 g cap (xs.map IV)) ∧ Hid (Below W.heap.size W wr ∧ W.heap.size ≤ g)) (fun _ i _ => m - (intOf i).toNat)
    case atStart => exact ⟨0, V1.heap.size, 0, 0, [], by omega, rfl, rfl, Lib.hid ⟨rfl, Nat.le_refl _⟩, Lib.hid rfl, V0, Lib.hid ⟨B1.out, G0.out⟩⟩
    case round =>
      obtain ⟨k, g, cap, l, xs, hk, rfl, rfl, HL, HX, HV, HB⟩ := hrel
      by_cases hlt : k < m
      · have hki : (k : Int) < m := by omega
        obtain ⟨e, he⟩ : ∃ e, G[k]? = some e := ⟨_, List.getElem?_eq_getElem (by rw [HN.out]; exact hlt)⟩
        obtain ⟨b, o, rfl, hr⟩ := (PG.out.keep (BW.out.trans (HB.out.1.mono BW.out.size))) k e he
        have hbl := World.block_lt_of_cell? _ _ (hr 0 _ rfl)
        have re := hr
        have zw := ZW.out
        have zz := HB.out.1.size
        have r0 := range_kept R0.out (by omega) _ HB.out.1
        go_upto_region 8 with (fail)
        obtain ⟨q, hl⟩ : ∃ q, leO (guO R X Y x y L G k) (num .f32 bd) = q := ⟨_, rfl⟩
        have HQL := Lib.hid (fun d (h : num .f32 d = guO R X Y x y L G k) => (leO_is (bd := bd) h).trans hl)
        refine wp_region_calm (ops' := regOf Tryd.f36 8) [0, 1, 2, 3, 4, 5, 6, 7, 8] [] .fin (Below (wr.heap.size) wr) [(0, One (.slice (some ⟨b, o, none⟩) m cg)), (1, One (.int .i64 (k : Int))), (2, One (.pointer (some ⟨b, (o + k * 2), none⟩))), (3, One (.agg (Aq e.1 e.2))), (4, One (.agg (Ste X Y R x y))), (5, One (.slice p n c)), (6, Numv .f32 (guO R X Y x y L G k)), (7, One (.float .f32 bd)), (8, One (.bool q))] (by kernel_rfl) (by kernel_rfl) (by kernel_rfl) (by kernel_rfl) (by kernel_rfl) (by kernel_rfl) (by kernel_rfl) (by kernel_rfl) rfl ((Below.refl _ _).drew) ?_
        refine calm_pure (some 28) (by kernel_rfl) (by kernel_rfl) (by kernel_rfl) (fun _ => by kernel_rfl) ?_
        refine calm_pure (some 29) (by kernel_rfl) (by kernel_rfl) (by kernel_rfl) (fun _ => by kernel_rfl) ?_
        refine calm_pure (some 30) (by kernel_rfl) (by kernel_rfl) (by kernel_rfl) (fun _ => (index_aq (T := 60) (k := k) (n := m) (c := cg) (x := .tmp 28) (y := .tmp 29) (by kernel_rfl) (.inl rfl) (by kernel_rfl) (by kernel_rfl) hlt _)) ?_
        refine calm_load (some 31) 34 (.tmp 30) (b) (o + k * 2) _ (by kernel_rfl) (by kernel_rfl) (by kernel_rfl) (by kernel_rfl) (by kernel_rfl) (range_kept re hbl) Tryd.underlying34 rfl (by kernel_rfl) ?_
        refine calm_load (some 32) 38 (.tmp 5) (w.heap.size) 0 _ (by kernel_rfl) (by kernel_rfl) (by kernel_rfl) (by kernel_rfl) (by kernel_rfl) (range_kept r0 (by omega)) Tryd.underlying38 rfl (by kernel_rfl) ?_
        refine calm_pure (some 33) (by kernel_rfl) (by kernel_rfl) (by kernel_rfl) (fun _ => by kernel_rfl) ?_
        refine calm_call (some 34) 66 #[.agg (Aq e.1 e.2), .agg (Ste X Y R x y), .slice p n c] (numv_ne (guO_ex k)) (by kernel_rfl) (by kernel_rfl) (by kernel_rfl) (fun _ => by kernel_rfl) (fun w' hw' => (T1.out k e he w' (PP.out.keep ((BW.out.trans (HB.out.1.mono BW.out.size)).trans (hw'.mono (BW.out.trans (HB.out.1.mono BW.out.size)).size)))).mono fun e w2 ⟨r, he, hr, hq⟩ => ⟨_, he, ⟨r, rfl, hr⟩, below_step hw' hq (by have := hw'.size; omega)⟩) ?_
        rintro _ ⟨d0, rfl, hd0⟩
        refine calm_pure (some 35) (by kernel_rfl) (by kernel_rfl) (by kernel_rfl) (fun _ => by kernel_rfl) ?_
        refine calm_pure (some 36) (by kernel_rfl) (by kernel_rfl) (by kernel_rfl) (fun _ => by rw [← (HQL.out d0 hd0)]; kernel_rfl) ?_
        refine calm_end fun w' hw' => plan_end (Clean.normal ?_)
        have HW2 := Lib.hid (HB.out.1.trans (hw'.mono HB.out.1.size))
        have HV1 := Lib.hid (HV.out.below hw' HV.out.lt)
        clear hw' he hr re r0 hbl zw zz hd0 HQL
        simp only [Act.put, List.setIfInBounds_toArray, List.set_cons_zero, List.set_cons_succ]
        cases q
        · go_wp2
          go_roundw
          case rel => exact ⟨k + 1, g, cap, l, xs, by omega, by go_num, rfl, Lib.hid ⟨HL.out.1, by have := HL.out.2; omega⟩, Lib.hid (by rw [fitI, hl, if_neg (by decide), HX.out]), HV1, Lib.hid ⟨HW2.out, HB.out.2⟩⟩
          case measure => simp [intOf]; omega
        · go_wp2_with (refine wpList_appI (by kernel_rfl) _ _ rfl HV1.out HL.out.1 (by have := HL.out.2; omega) k rfl (by simp [go_sem]; done) ?_; intro g2 cap2 w2 h1 h2 h3; have H1 := Lib.hid h1; have H2 := Lib.hid h2; have H3 := Lib.hid h3; clear h1 h2 h3)
          go_roundw
          case rel =>
        have H9 := Lib.hid (HW2.out.trans (grown_below H2.out HB.out.2 HW2.out.size))
        refine ⟨k + 1, g2, cap2, l + 1, xs ++ [k], by omega, by go_num, rfl, Lib.hid ⟨by rw [List.length_append, HL.out.1]; rfl, by have := HL.out.2; omega⟩, Lib.hid (by rw [fitI, hl, if_pos rfl, HX.out]), H1, H9.out, ?_⟩
        have h3 := H3.out
        have h4 := HW2.out.size
        have h6 := HB.out.2
        rcases h3 with h3 | h3 <;> omega
          case measure => simp [intOf]; omega
      · obtain rfl : k = m := by omega
        go_wp2
        go_ret2
        exact RS.out g cap l xs wr HL.out.1 HX.out HV.out HB.out.1 HB.out.2
  · have hi := hk5 i rfl
    have hc0 : ¬ codeE (some i) = 0 := by
      rcases i with _ | _ | _ | _ | _ | i <;> first | (exfalso; omega) | (unfold codeE; decide)
    rw [show ftL G R X Y x y L bd (some i) = [] from rfl]
    obtain ⟨cc, hcc⟩ : ∃ cc, codeE (some i) = cc := ⟨_, rfl⟩
    rw [hcc] at T0 hc0 ⊢
    obtain ⟨m, hm⟩ : ∃ m, G.length = m := ⟨_, rfl⟩
    obtain ⟨n, hn⟩ : ∃ n, L.length = n := ⟨_, rfl⟩
    rw [hm] at hG T0 ⊢
    rw [hn] at hL T0 ⊢
    clear hcc hk5 hi TM M20 hm hn
    simp only [Ste] at hW T0 ⊢
    go_enter Tryd.func36, Tryd.ntmps36
    go_upto_region 1 with (fail)
    try rw [hW]
    clear hW
    go_wp2_with (go_at_call 63; refine T0.mono ?_; rintro e V1 ⟨rfl, hq1⟩; have Q1 := Lib.hid hq1; clear hq1 s0 s1 s2 s3 s4)
    go_ret2
    exact ⟨_, _, rfl, .inr ⟨V1.heap.size, rfl, vrow_made V1 2, Nat.le_trans BW.out.size Q1.out.size⟩, BW.out.trans ((Q1.out.alloc Q1.out.size _).mono BW.out.size)⟩
end Go.Proofs.YthacifhphoaioaaDoor
