/- Wells and their images: the program's checks and its iterator. Condition: at most 2^20 wells. -/
import Derived.Test.YtdhgehmnjoclaaaWia
namespace Go.Proofs.Ytdhgehmnjoclaaa
open Go Go.RowKit Ieee Go.Shelf
set_option linter.unusedSimpArgs false
set_option linter.unusedVariables false
attribute [local go_sem] run_store_f32 Oper.semAt_some

set_option maxRecDepth 100000 in
set_option maxHeartbeats 1000000 in
theorem areW_any (p : Addr) (c : Nat) (L : List W3) (hL : L.length ≤ 1048576) (hO : ∀ e ∈ L, okW3 e) (w : World) (hp : WsAt w (some p) L) :
    Calls Try.prog 14 #[.slice (some p) L.length c] w fun e w' => e = .returned (.bool (L.all vW)) ∧ Below w.heap.size w w' := by
  have P0 := Lib.hid hp
  have HO := Lib.hid hO
  obtain ⟨n, hn⟩ : ∃ n, L.length = n := ⟨_, rfl⟩
  have HN := Lib.hid hn
  rw [hn] at hL ⊢
  obtain ⟨r, hr⟩ : ∃ r, L.all vW = r := ⟨_, rfl⟩
  rw [hr]
  have HR := Lib.hid hr
  clear hp hn hO hr
  go_enter Try.func14, Try.ntmps14
  go_wp2
  go_loopw [7] (fun i wr => ∃ k : Nat, k ≤ n ∧ i = .int .i64 k ∧ Hid (∀ j e, j < k → L[j]? = some e → vW e = true) ∧ Hid (Below w.heap.size w wr)) (fun i _ => n - (intOf i).toNat)
  case atStart => exact ⟨0, by omega, rfl, Lib.hid (fun j _ hj => absurd hj (by omega)), Lib.hid (Below.refl _ _)⟩
  case round =>
    obtain ⟨k, hk, rfl, hA, hB⟩ := hrel
    by_cases hlt : k < n
    · have hki : (k : Int) < n := by omega
      obtain ⟨e, he⟩ : ∃ e, L[k]? = some e := ⟨_, List.getElem?_eq_getElem (by rw [HN.out]; exact hlt)⟩
      obtain ⟨b, o, hpe, hr⟩ := (P0.out.keep hB.out) k e he
      cases hpe
      have HE := Lib.hid he
      have T0 := fun V => validWell_any e.1 e.2.1 e.2.2 (HO.out e (List.mem_of_getElem? he)).1 (HO.out e (List.mem_of_getElem? he)).2 V
      have c0 : wr.cell? ⟨b, o + k * 3, none⟩ = some (.int .i8 e.1) := hr 0 _ rfl
      have c1 : wr.cell? ⟨b, o + k * 3 + 1, none⟩ = some (.int .i8 e.2.1) := hr 1 _ rfl
      have c2 : wr.cell? ⟨b, o + k * 3 + 2, none⟩ = some (.float .f32 e.2.2) := hr 2 _ rfl
      simp only [We] at T0
      clear hr he
      cases hv : vW e
      · have HV := Lib.hid (show weB e.1 e.2.1 e.2.2 = false from hv)
        have HK := Lib.hid (show L.all vW = false by rw [List.all_eq_false]; exact ⟨e, List.mem_of_getElem? HE.out, by rw [hv]; simp⟩)
        clear hv
        go_wp2_with (go_at_call 21; refine (T0 _).mono ?_; rintro x V1 ⟨rfl, hq1⟩; rw [HV.out]; have Q1 := Lib.hid hq1; clear hq1 c0 c1 c2)
        try go_ret
        have hrf : r = false := by rw [← HR.out, HK.out]
        subst hrf
        exact ⟨rfl, ((belowMore' hB.out _).trans (Q1.out.mono (by have := hB.out.size; simp; omega)))⟩
      · have HV := Lib.hid (show weB e.1 e.2.1 e.2.2 = true from hv)
        have HVE := Lib.hid hv
        clear hv
        go_wp2_with (go_at_call 21; refine (T0 _).mono ?_; rintro x V1 ⟨rfl, hq1⟩; rw [HV.out]; have Q1 := Lib.hid hq1; clear hq1 c0 c1 c2)
        go_roundw
        case rel => exact ⟨k + 1, by omega, by go_num, Lib.hid (fun j f hj hf => by
            by_cases h : j = k
            · subst h; rw [HE.out] at hf; cases hf; exact HVE.out
            · exact hA.out j f (by omega) hf), Lib.hid ((belowMore' hB.out _).trans (Q1.out.mono (by have := hB.out.size; simp; omega)))⟩
        case measure => simp [intOf]; omega
    · obtain rfl : k = n := by omega
      have HA := Lib.hid (all_of HN.out hA.out)
      go_wp2
      try go_ret
      have hrf : r = true := by rw [← HR.out, HA.out]
      subst hrf
      exact ⟨rfl, hB.out⟩

theorem imagesOf_any (p : Addr) (n c : Nat) (tw : Int) (river : Bool) (w : World) :
    Calls Try.prog 15 #[.slice (some p) n c, .int .i64 tw, .bool river] w fun e w' => e = .returned (.func (.func 22) #[] #[.pointer (some ⟨w.heap.size, 0, none⟩), .pointer (some ⟨w.heap.size + 1, 0, none⟩), .pointer (some ⟨w.heap.size + 1 + 1, 0, none⟩)]) ∧ w' = ((w.alloc (.cells #[.slice (some p) n c] 24)).alloc (.cells #[.int .i64 tw] 2)).alloc (.cells #[.bool river] 4) := by
  go_enter Try.func15, Try.ntmps15
  go_wp2
  go_ret
  simp
/-- What lay below n₀ lies on, and so do the three captured variables. -/
structure K3 (n₀ B : Nat) (A W : World) : Prop where
  below : Below n₀ A W
  cap : ∀ j v, B ≤ j → j < B + 3 → A.cell? ⟨j, 0, none⟩ = some v → W.cell? ⟨j, 0, none⟩ = some v
theorem K3.refl (n₀ B : Nat) (A : World) : K3 n₀ B A A := ⟨Below.refl _ _, fun _ _ _ _ h => h⟩
theorem K3.trans {n₀ B : Nat} {A C D : World} (h : K3 n₀ B A C) (k : K3 n₀ B C D) : K3 n₀ B A D := ⟨h.below.trans k.below, fun j v h1 h2 hv => k.cap j v h1 h2 (h.cap j v h1 h2 hv)⟩
theorem K3.of_below {n₀ B : Nat} {A C : World} (hle : n₀ ≤ A.heap.size) (h : Below A.heap.size A C) : K3 n₀ B A C :=
  ⟨h.mono hle, fun j _ _ _ hv => (h.cell (World.block_lt_of_cell? A _ hv)).trans hv⟩
theorem cell_eqP' {w w' : World} {b : Nat} (h : w'.heap[b]? = w.heap[b]?) (o : Nat) : w'.cell? ⟨b, o, none⟩ = w.cell? ⟨b, o, none⟩ := by
  simp only [World.cell?, h]
theorem K3.of_row {n₀ B g : Nat} {A C : World} (hg : A.grownBy C (some g)) (h0 : n₀ ≤ g) (hs : n₀ ≤ A.heap.size) (h1 : g < B ∨ B + 3 ≤ g) : K3 n₀ B A C :=
  ⟨grown_below hg h0 hs, fun j v hj1 hj2 hv => (cell_eqP' (hg.block j (World.block_lt_of_cell? A _ hv) (fun e => by have := Option.some.inj e; omega)) 0).trans hv⟩
theorem K3.grown {n₀ B : Nat} {w A C : World} {row : Option Nat} (h : K3 n₀ B w A) (hle : n₀ ≤ A.heap.size) (hg : A.grownBy C row) (hr : ∀ r, row = some r → n₀ ≤ r ∧ ∃ o : Obj, A.heap[r]? = some o ∧ o.isCells = false) : K3 n₀ B w C :=
  ⟨h.below.grown hg hle (fun r e => (hr r e).1), fun j v h1 h2 hv => cell_kept (h.cap j v h1 h2 hv) hg (fun r e => (hr r e).2)⟩
theorem K3.book {n₀ B : Nat} {w : World} (hn : n₀ ≤ w.heap.size) (W : World) (l : Nat) (o o' : Obj) (hl : w.heap.size ≤ l) (h : W.heap[l]? = some o) (hc : o.isCells = false) (_ : o.isWalk = false) : K3 n₀ B W (W.putObj l o') :=
  (K3.refl _ _ W).grown (by have := (Array.getElem?_eq_some_iff.1 h).1; omega) (grownBy_putObj' W l o') (fun r e => by cases e; exact ⟨by omega, o, h, hc⟩)
theorem grown_of_below' {A B : World} (h : Below A.heap.size A B) : A.grownBy B none := ⟨h.os, h.tape, h.output, h.size, fun k hk _ => h.block k hk⟩

/-- What the iterator hands: the image and its code. -/
def encI (tw : Int) (river : Bool) (e : W3) : Array Value := #[.agg (imW e.1 e.2.1 e.2.2 tw river), .int .i64 (imC e.1 tw)]
set_option maxRecDepth 100000 in
set_option maxHeartbeats 2000000 in
/-- The iterator, for every loop body that keeps what lay below n₀, and the three captured variables. -/
theorem im1_in (L : List W3) (tw : Int) (river : Bool) (hL : L.length ≤ 1048576) (hV : L.all vW = true) (p : Addr) (c l B n₀ n : Nat) (hn : 1 ≤ n) (J Jx : List W3 → World → Prop)
    (hJ : ∀ s A C, n₀ ≤ A.heap.size → J s A → Below A.heap.size A C → J s C)
    (hY : ∀ pre x W, J pre W → pre.length < L.length → YieldAt Fence.wide (n - 1) Try.prog l (encI tw river x) W fun e W' =>
      (e = .returned (.bool true) ∧ J (pre ++ [x]) W' ∧ K3 n₀ B W W') ∨ (e = .returned (.bool false) ∧ Jx (pre ++ [x]) W'))
    (W : World) (h1 : W.cell? ⟨B, 0, none⟩ = some (.slice (some p) L.length c)) (h2 : W.cell? ⟨B + 1, 0, none⟩ = some (.int .i64 tw)) (h3 : W.cell? ⟨B + 1 + 1, 0, none⟩ = some (.bool river)) (hp : WsAt W (some p) L) (hpn : p.block < n₀) (hle : n₀ ≤ W.heap.size) (h0 : J [] W) :
    CallsIn Fence.wide n Try.prog 22 #[.func (.yield l) #[] #[], .pointer (some ⟨B, 0, none⟩), .pointer (some ⟨B + 1, 0, none⟩), .pointer (some ⟨B + 1 + 1, 0, none⟩)] W fun e W' => (∃ v, e = .returned v) ∧
      ((∃ ys, ys = L ∧ J ys W') ∨ (∃ pre, pre <+: L ∧ Jx pre W')) := by
  have P0 := Lib.hid hp
  have HV := Lib.hid hV
  obtain ⟨m, hm⟩ : ∃ m, L.length = m := ⟨_, rfl⟩
  have HN := Lib.hid hm
  rw [hm] at hL h1 hY
  clear hp hV hm
  refine callsIn_of_wp Try.func22 rfl trivial ?_ rfl
  simp only [Try.ntmps22, List.size_toArray, List.length_cons, List.length_nil, Nat.reduceAdd, Nat.reduceSub, Array.replicate_succ, Array.replicate_zero, List.push_toArray, List.append_toArray, List.nil_append, List.cons_append]
  gi_wp2
  gi_loopw [9] (fun q wr => ∃ k : Nat, k ≤ m ∧ q = .int .i64 k ∧ Hid (J (L.take k) wr ∧ K3 n₀ B W wr)) (fun q wr => m - (intOf q).toNat)
  case atStart =>
    exact ⟨0, by omega, rfl, Lib.hid ⟨h0, K3.refl _ _ _⟩⟩
  case round =>
    obtain ⟨k, hk, rfl, hx⟩ := hrel
    by_cases hlt : k < m
    · have hki : (k : Int) < m := by omega
      obtain ⟨e, he⟩ : ∃ e, L[k]? = some e := ⟨_, List.getElem?_eq_getElem (by rw [HN.out]; exact hlt)⟩
      have hz : n₀ ≤ wr.heap.size := Nat.le_trans hle hx.out.2.below.size
      obtain ⟨b, o, hpe, hr⟩ := P0.out k e he
      cases hpe
      have hr' : wr.rangeAt b (o + k * 3) (w3 e) := range_kept hr hpn _ hx.out.2.below
      have d2 : wr.cell? ⟨B + 1, 0, none⟩ = some (.int .i64 tw) := hx.out.2.cap _ _ (by omega) (by omega) h2
      have d3 : wr.cell? ⟨B + 1 + 1, 0, none⟩ = some (.bool river) := hx.out.2.cap _ _ (by omega) (by omega) h3
      have hd2 := World.block_lt_of_cell? wr _ d2
      have hd3 := World.block_lt_of_cell? wr _ d3
      have c0 : wr.cell? ⟨b, o + k * 3, none⟩ = some (.int .i8 e.1) := hr' 0 _ rfl
      have c1 : wr.cell? ⟨b, o + k * 3 + 1, none⟩ = some (.int .i8 e.2.1) := hr' 1 _ rfl
      have c2 : wr.cell? ⟨b, o + k * 3 + 2, none⟩ = some (.float .f32 e.2.2) := hr' 2 _ rfl
      have hve : weB e.1 e.2.1 e.2.2 = true := List.all_eq_true.1 HV.out e (List.mem_of_getElem? he)
      obtain ⟨kX, kY⟩ := we_bounds hve
      have HE := Lib.hid he
      have T0 := fun V => imageI_any e.1 e.2.1 e.2.2 kX kY tw river V
      have HTK := Lib.hid (show L.take k ++ [e] = L.take (k + 1) by rw [List.take_add_one, he]; rfl)
      have hlen : (L.take k).length < m := by rw [List.length_take, HN.out]; omega
      simp only [We] at T0
      dsimp only at hd2 hd3
      clear hr hr' he hve
      gi_wp2_with (refine ⟨trivial, ?_⟩; gi_at_call 23; refine (callsIn_wide.2 (T0 _)).mono ?_; rintro x V1 ⟨rfl, hb1⟩; have hbV := (belowMore' (Below.refl wr.heap.size wr) (.cells #[.int .i8 e.1, .int .i8 e.2.1, .float .f32 e.2.2] 35)).trans (hb1.mono (by simp)); obtain ⟨fn, tmps, assign, body, hy, hR⟩ := hY (L.take k) e V1 (hJ _ _ _ hz hx.out.1 hbV) hlen; dsimp only [encI] at hy; have HB1 := Lib.hid hbV; clear hb1 hbV c0 c1 c2)
      refine hR.mono ?_
      rintro x W3 (⟨rfl, hJ3, hk3⟩ | ⟨rfl, hJx3⟩)
      · have H3 := Lib.hid hJ3
        have K3' := Lib.hid hk3
        clear hJ3 hk3
        gi_wp2
        go_roundw
        case rel => exact ⟨k + 1, by omega, by go_num, Lib.hid ⟨by rw [← HTK.out]; exact H3.out, (hx.out.2.trans (K3.of_below hz HB1.out)).trans K3'.out⟩⟩
        case measure => simp [intOf]; omega
      · have H3 := Lib.hid hJx3
        clear hJx3
        gi_wp2
        refine bodyPost_ret (results_none rfl _ _ _) rfl ?_
        exact ⟨⟨_, rfl⟩, .inr ⟨L.take k ++ [e], by rw [HTK.out]; exact List.take_prefix _ _, H3.out⟩⟩
    · obtain rfl : k = m := by omega
      gi_wp2
      go_end0
      exact ⟨⟨_, rfl⟩, .inl ⟨L, rfl, by have := hx.out.1; rwa [List.take_of_length_le (by rw [HN.out]; omega)] at this⟩⟩
theorem im_stops (L : List W3) (tw : Int) (river : Bool) (hL : L.length ≤ 1048576) (hV : L.all vW = true) (p : Addr) (c B n₀ n : Nat) (hn : 1 ≤ n) (w : World) (h1 : w.cell? ⟨B, 0, none⟩ = some (.slice (some p) L.length c)) (h2 : w.cell? ⟨B + 1, 0, none⟩ = some (.int .i64 tw)) (h3 : w.cell? ⟨B + 1 + 1, 0, none⟩ = some (.bool river)) (hp : WsAt w (some p) L) (hpn : p.block < n₀) (hle : n₀ ≤ w.heap.size) :
    SeqStopsK Fence.wide n Try.prog 22 #[.pointer (some ⟨B, 0, none⟩), .pointer (some ⟨B + 1, 0, none⟩), .pointer (some ⟨B + 1 + 1, 0, none⟩)] (encI tw river) (K3 n₀ B) (fun xs => xs = L) (fun pre => pre <+: L) L.length w := fun l J Jx W hW hJ _ hY h0 =>
  im1_in L tw river hL hV p c l B n₀ n hn J Jx (fun s A C _ hs hb => hJ s A C none hs (grown_of_below' hb) (fun _ e => by cases e)) hY W ((hW.cell (World.block_lt_of_cell? w _ h1)).trans h1) ((hW.cell (World.block_lt_of_cell? w _ h2)).trans h2) ((hW.cell (World.block_lt_of_cell? w _ h3)).trans h3) (hp.keep hW) hpn (Nat.le_trans hle hW.size) h0
end Go.Proofs.Ytdhgehmnjoclaaa
