/- The law FnExactGrantInOrder of this commit, its walk. Condition: the table of math/bits is laid. -/
import Derived.Test.YtaghnminpfgdcaaGreatDoorGro
import Derived.Test.YtaghnminpfgdcaaGreatDoorMkwE
namespace Go.Proofs.YtaghnminpfgdcaaGreatDoor
open Go Go.ChangeShapes Go.WideShapes Go.ChangeAt Go.RowKit Go.Deep
set_option linter.unusedSimpArgs false
set_option linter.unusedVariables false
set_option maxRecDepth 100000
theorem szWatchS_yes (p : Option Addr) (n c l : Nat) (h : n ≤ l) (hl : l ≤ 1048576) (w : World) : Calls Tryz.prog 47 #[.slice p n c, .int .i64 (l : Int)] w fun e w' => e = .returned (.int .i64 ((l - n : Nat) : Int)) ∧ w' = w := by
  have e : ((l - n : Nat) : Int) = (l : Int) - n := by omega
  rw [e]
  go_enter Tryz.func47, Tryz.ntmps47
  go_wp2
  go_ret
  exact ⟨rfl, rfl⟩
theorem szWatchS_no (p : Option Addr) (n c l : Nat) (h : l < n) (hl : l ≤ 1048576) (hn : n ≤ maxLen) (w : World) : Calls Tryz.prog 47 #[.slice p n c, .int .i64 (l : Int)] w fun e w' => e = .returned (.int .i64 (-1)) ∧ w' = w := by
  unfold maxLen at hn
  go_enter Tryz.func47, Tryz.ntmps47
  go_wp2
  go_ret
  exact ⟨rfl, rfl⟩
set_option maxHeartbeats 1000000 in
theorem szOffice_yes (B : Ofc) (l : Nat) (h : B.n ≤ l) (hl : l ≤ 1048576) (w : World) : Calls Tryz.prog 12 #[.agg (OfA B), .int .i64 (l : Int)] w fun e w' => e = .returned (.int .i64 ((l - B.n : Nat) : Int)) ∧ Below w.heap.size w w' := by
  obtain ⟨W, hW, hs, b1, hB⟩ := obox1 B 30 w
  have s1 := b1.s
  have T := Lib.hid (fun V => szWatchS_yes B.p B.n B.c l h hl V)
  have HB := Lib.hid hB
  obtain ⟨A, hA⟩ : ∃ A, OfA B = A := ⟨_, rfl⟩
  rw [hA] at hW ⊢
  obtain ⟨m, hm⟩ : ∃ m, l - B.n = m := ⟨_, rfl⟩
  rw [hm] at T ⊢
  have hm2 : m ≤ 1048576 := by omega
  clear b1 hs hB hA h hm
  go_enter Tryz.func12, Tryz.ntmps12
  go_upto_region 1 with (fail)
  try rw [hW]
  clear hW
  go_wp2_with (go_at_call 47; refine (T.out _).mono ?_; rintro e V ⟨rfl, hV⟩; rw [hV]; clear hV)
  go_ret
  exact ⟨rfl, HB.out⟩
set_option maxHeartbeats 1000000 in
theorem szOffice_no (B : Ofc) (l : Nat) (h : l < B.n) (hl : l ≤ 1048576) (hn : B.n ≤ maxLen) (w : World) : Calls Tryz.prog 12 #[.agg (OfA B), .int .i64 (l : Int)] w fun e w' => e = .returned (.int .i64 (-1)) ∧ Below w.heap.size w w' := by
  obtain ⟨W, hW, hs, b1, hB⟩ := obox1 B 30 w
  have s1 := b1.s
  have T := Lib.hid (fun V => szWatchS_no B.p B.n B.c l h hl hn V)
  have HB := Lib.hid hB
  obtain ⟨A, hA⟩ : ∃ A, OfA B = A := ⟨_, rfl⟩
  rw [hA] at hW ⊢
  clear b1 hs hB hA h hn
  go_enter Tryz.func12, Tryz.ntmps12
  go_upto_region 1 with (fail)
  try rw [hW]
  clear hW
  go_wp2_with (go_at_call 47; refine (T.out _).mono ?_; rintro e V ⟨rfl, hV⟩; rw [hV]; clear hV)
  go_ret
  exact ⟨rfl, HB.out⟩
theorem stored_off (A : Ofc) (t : TypeId) (w : World) : ∃ U, (w.alloc (.cells (OfA zO) t)).setCells w.heap.size 0 (OfA A).toList = U ∧ U.heap.size = w.heap.size + 1 ∧ OfBox U w.heap.size A ∧ Below w.heap.size w U := by
  obtain ⟨W, h, hs, g, hB⟩ := obox1 zO t w
  rw [h]
  exact ⟨_, rfl, by rw [size_setCells, hs], g.store, below_setCells _ (Nat.le_refl _) _ _ _ hB⟩
theorem new_thereO (t : TypeId) (w : World) : (w.alloc (.cells (OfA zO) t)).there w.heap.size 0 196 := there_row (heap_alloc_last w _) (OfA_size zO)
theorem okT_T2 {e : T2} (h : okT e) : okT2 e := by
  unfold okT at h
  simp only [Lit.wf, IntKind.min, IntKind.max, IntKind.bits, IntKind.signed, Bool.and_eq_true, decide_eq_true_eq] at h
  simp at h
  exact h
theorem szPermit_yes (p : Option Addr) (n c l : Nat) (h : n ≤ l) (hl : l ≤ 1048576) (w : World) : Calls Tryz.prog 13 #[.slice p n c, .int .i64 (l : Int)] w fun e w' => e = .returned (.int .i64 ((l - n : Nat) : Int)) ∧ w' = w := by
  have e : ((l - n : Nat) : Int) = (l : Int) - n := by omega
  rw [e]
  go_enter Tryz.func13, Tryz.ntmps13
  go_wp2
  go_ret
  exact ⟨rfl, rfl⟩
theorem szPermit_no (p : Option Addr) (n c l : Nat) (h : l < n) (hl : l ≤ 1048576) (hn : n ≤ maxLen) (w : World) : Calls Tryz.prog 13 #[.slice p n c, .int .i64 (l : Int)] w fun e w' => e = .returned (.int .i64 (-1)) ∧ w' = w := by
  unfold maxLen at hn
  go_enter Tryz.func13, Tryz.ntmps13
  go_wp2
  go_ret
  exact ⟨rfl, rfl⟩
theorem okP_PQ {e : P3} (h : okP e) : okPQ e := by
  obtain ⟨h1, h2, h3⟩ := h
  simp only [Lit.wf, IntKind.min, IntKind.max, IntKind.bits, IntKind.signed, Bool.and_eq_true, decide_eq_true_eq] at h1 h2 h3
  simp at h1 h2 h3
  exact ⟨h1, h2, h3⟩
set_option maxHeartbeats 2000000 in
theorem fnExactGrantInOrder_far (B : Ofc) (v : Value) (hn : 1048576 < B.n) (hx : B.n ≤ maxLen) (w : World) : Calls Tryz.prog 7 #[.agg (OfA B), v] w fun e w' => e = .returned (.bool true) ∧ Below w.heap.size w w' := by
  obtain ⟨W, hW, hs, b1, hB⟩ := obox1 B 30 w
  have T := Lib.hid (fun V => szOffice_no B 1048576 hn (by omega) hx V)
  have r1 := b1.range
  have HB := Lib.hid hB
  clear hn hx b1 hs hB
  go_enter Tryz.func7, Tryz.ntmps7
  go_upto_region 1 with (fail)
  try rw [hW]
  clear hW
  go_wp2_with (first | (refine ldS 30 rfl ?_; refine wpList_load_mid rfl 30 _ rfl w.heap.size 0 rfl (OfL B) _ r1 Tryz.underlying30 rfl (by rw [OfL_length]; exact infoLOffice) ?_) | (go_at_call 12; refine (T.out _).mono ?_; rintro e V ⟨rfl, hV⟩; have HV := Lib.hid (HB.out.trans (hV.mono HB.out.size)); clear hV r1))
  go_ret
  exact ⟨rfl, HV.out⟩
set_option maxHeartbeats 2000000 in
theorem fnExactGrantInOrder_farP (B : Ofc) (p : Option Addr) (n c : Nat) (hm : B.n ≤ 1048576) (hn : 1048576 - B.n < n) (hx : n ≤ maxLen) (w : World) : Calls Tryz.prog 7 #[.agg (OfA B), .slice p n c] w fun e w' => e = .returned (.bool true) ∧ Below w.heap.size w w' := by
  obtain ⟨W, hW, hs, b1, hB⟩ := obox1 B 30 w
  have T := Lib.hid (fun V => szOffice_yes B 1048576 hm (by omega) V)
  have T2 := Lib.hid (fun V => szPermit_no p n c (1048576 - B.n) hn (by omega) hx V)
  obtain ⟨l, hl⟩ : ∃ l, 1048576 - B.n = l := ⟨_, rfl⟩
  rw [hl] at T T2
  have hl2 : l ≤ 1048576 := by omega
  have r1 := b1.range
  have HB := Lib.hid hB
  clear hm hn hx b1 hs hB hl
  go_enter Tryz.func7, Tryz.ntmps7
  go_upto_region 1 with (fail)
  try rw [hW]
  clear hW
  go_wp2_with (first | (refine ldS 30 rfl ?_; refine wpList_load_mid rfl 30 _ rfl w.heap.size 0 rfl (OfL B) _ r1 Tryz.underlying30 rfl (by rw [OfL_length]; exact infoLOffice) ?_) | (go_at_call 12; refine (T.out _).mono ?_; rintro e V ⟨rfl, hV⟩; have HV := Lib.hid (HB.out.trans (hV.mono HB.out.size)); clear hV r1) | (go_at_call 13; refine (T2.out _).mono ?_; rintro e V2 ⟨rfl, hV⟩; rw [hV]; clear hV))
  go_ret
  exact ⟨rfl, HV.out⟩
/-- A list of its own: at a block that is new. -/
def OwnG (w : World) (p : Option Addr) (r B : Nat) : Prop := r = 0 ∨ ∃ g, p = some ⟨g, 0, none⟩ ∧ B ≤ g ∧ g < w.heap.size ∧ w.there g 0 r
def HeldG (w : World) (p : Option Addr) (r : Nat) : Prop := r = 0 ∨ ∃ g, p = some ⟨g, 0, none⟩ ∧ g < w.heap.size ∧ ∀ i, i < r → w.cell? ⟨g, i, none⟩ = some (.int .i64 ((1 + i : Nat) : Int))
/-- Blocks from B on are as they were. -/
def Abv (B : Nat) (w w' : World) : Prop := w.heap.size ≤ w'.heap.size ∧ ∀ x, B ≤ x → x < w.heap.size → w'.heap[x]? = w.heap[x]?
theorem Abv.of_below {B : Nat} {w w' : World} (h : Below w.heap.size w w') : Abv B w w' := ⟨h.size, fun x _ hx => h.block x hx⟩
theorem there_sameG {w w' : World} {b n : Nat} (h : w.there b 0 n) (hh : w'.heap[b]? = w.heap[b]?) : w'.there b 0 n := fun j hj => by
  have := h j hj
  unfold World.cell? World.frozen? at this ⊢
  rw [hh]
  exact this
theorem cell_sameG {w w' : World} {b i : Nat} (hh : w'.heap[b]? = w.heap[b]?) : w'.cell? ⟨b, i, none⟩ = w.cell? ⟨b, i, none⟩ := by
  unfold World.cell?
  simp only [hh]
theorem OwnG.abv {w w' : World} {p : Option Addr} {r B : Nat} (h : OwnG w p r B) (ha : Abv B w w') : OwnG w' p r B := by
  rcases h with h | ⟨g, h1, h2, h3, h4⟩
  · exact .inl h
  · exact .inr ⟨g, h1, h2, Nat.lt_of_lt_of_le h3 ha.1, there_sameG h4 (ha.2 g h2 h3)⟩
theorem CellsI.keep {w w' : World} {p : Option Addr} {xs : List Nat} (h : CellsI w p xs) (hB : Below w.heap.size w w') : CellsI w' p xs := fun i v hv => by
  obtain ⟨b, h1, h2⟩ := h i v hv
  exact ⟨b, h1, (hB.cell (p := ⟨b, i, none⟩) (World.block_lt_of_cell? w _ h2)).trans h2⟩
theorem CellsI.abv {w w' : World} {p : Option Addr} {xs : List Nat} {B : Nat} (h : CellsI w p xs) (ho : OwnG w p xs.length B) (ha : Abv B w w') : CellsI w' p xs := fun i v hv => by
  obtain ⟨b, h1, h2⟩ := h i v hv
  refine ⟨b, h1, ?_⟩
  rcases ho with h0 | ⟨g, g1, g2, g3, _⟩
  · have := (List.getElem?_eq_some_iff.1 hv).1
    omega
  · obtain rfl : g = b := by rw [g1] at h1; cases h1; rfl
    rw [cell_sameG (ha.2 g g2 g3)]
    exact h2
theorem HeldG.keep {w w' : World} {p : Option Addr} {r : Nat} (h : HeldG w p r) (hB : Below w.heap.size w w') : HeldG w' p r := by
  rcases h with h | ⟨g, h1, h2, h3⟩
  · exact .inl h
  · exact .inr ⟨g, h1, Nat.lt_of_lt_of_le h2 hB.size, fun i hi => (hB.cell (p := ⟨g, i, none⟩) h2).trans (h3 i hi)⟩
theorem mkG1 (p : Option Addr) (r c B : Nat) (hr : r ≤ 6) (w : World) (h : OwnG w p r B) : Calls Tryz.prog 36 #[.slice p r c, .int .i64 1] w fun e w' => e = .returned (.int .i64 ((1 + r : Nat) : Int)) ∧ HeldG w' p r ∧ Below B w w' := by
  rcases h with rfl | ⟨g, rfl, h2, h3, h4⟩
  · exact Calls.mono (markInt64S_nil c 1 (by omega) p w) fun e w' h => ⟨h.1, .inl rfl, by rw [h.2]; exact Below.refl _ _⟩
  · exact Calls.mono (markInt64S_any g r c 1 (by omega) (by omega) w h4) fun e w' h => ⟨h.1, .inr ⟨g, rfl, by rw [h.2.2.2]; exact h3, h.2.1⟩, h.2.2.1.mono h2⟩
theorem hdG1 (p : Option Addr) (r c : Nat) (hr : r ≤ 6) (w : World) (h : HeldG w p r) : Calls Tryz.prog 37 #[.slice p r c, .int .i64 1] w fun e w' => e = .returned (.int .i64 ((1 + r : Nat) : Int)) ∧ Below w.heap.size w w' := by
  rcases h with h0 | ⟨g, hp, hl, h4⟩
  · subst h0
    exact Calls.mono (heldInt64S_nil c 1 (by omega) p w) fun e w' h => ⟨h.1, by rw [h.2]; exact Below.refl _ _⟩
  · subst hp
    exact heldInt64S_any g r c 1 (by omega) (by omega) w h4
set_option maxHeartbeats 8000000 in
theorem fnExactGrantInOrder_near (G : Gd) (pw : Option Addr) (cw : Nat) (Lw : List T2) (hG : GdOk G) (hOw : ∀ e ∈ Lw, okT2 e) (hm : Lw.length ≤ 1048576) (p : Option Addr) (c : Nat) (L : List P3) (hO : ∀ e ∈ L, okPQ e) (hnn' : L.length ≤ 1048576 - Lw.length) (w : World) (hpw : TsAt w pw Lw) (hp : PsAt w p L) (hT : TabAt w) :
    Calls Tryz.prog 7 #[.agg (OfA ⟨G, pw, Lw.length, cw⟩), .slice p L.length c] w fun e w' => e = .returned (.bool true) ∧ Below w.heap.size w w' := by
  have hn : L.length ≤ 1048576 := by omega
  have T := Lib.hid (fun V => szOffice_yes ⟨G, pw, Lw.length, cw⟩ 1048576 hm (by omega) V)
  have TZ := Lib.hid (fun V => szPermit_yes p L.length c (1048576 - Lw.length) hnn' (by omega) V)
  have TO := Lib.hid (fun V (h : TsAt V pw Lw) => toOffice_th G pw cw Lw hm V h)
  have TP := Lib.hid (fun V (h : PsAt V p L) => toPermitS_th p c L hn V h)
  have TS := Lib.hid (fun (q : Option Addr) (d : Nat) (q' : Option Addr) (d' : Nat) V (h : TsAt V q Lw) (h' : PsAt V q' L) => (show Calls Tryz.prog 33 #[.agg (OfA ⟨G, q, Lw.length, d⟩), .slice q' L.length d'] V (fun e w' => ∃ p c, e = .returned (.tuple #[.slice p (giV G Lw L).1.length c, .int .i64 (giV G Lw L).2]) ∧ CellsI w' p (giV G Lw L).1 ∧ Below V.heap.size V w') from specGI_any G q d Lw hm hOw q' d' L hn hO V h h' hG))
  have TI := Lib.hid (fun (q : Option Addr) (d : Nat) (q' : Option Addr) (d' : Nat) V (h : TsAt V q Lw) (h' : PsAt V q' L) (ht : TabAt V) => (show Calls Tryz.prog 34 #[.agg (OfA ⟨G, q, Lw.length, d⟩), .slice q' L.length d'] V (fun e w' => ∃ p c, e = .returned (.tuple #[.slice p (giV G Lw L).1.length c, .int .i64 (giV G Lw L).2]) ∧ CellsI w' p (giV G Lw L).1 ∧ OwnG w' p (giV G Lw L).1.length V.heap.size ∧ Below V.heap.size V w') from implGI_any G q d Lw hm hOw q' d' L hn hO V h h' hG ht))
  have TE := Lib.hid (fun (q r : Option Addr) (d d' : Nat) V (h : TsAt V q Lw) (h' : TsAt V r Lw) => eqOffice_yes G q r d d' Lw hm V h h')
  have TEP := Lib.hid (fun (q r : Option Addr) (d d' : Nat) V (h : PsAt V q L) (h' : PsAt V r L) => eqPermitS_yes q r d d' L hn V h h')
  have hr6 := giV_len (G := G) (Lw := Lw) (L := L)
  obtain ⟨LL, n0, hR⟩ : ∃ R n0, giV G Lw L = (R, n0) := ⟨_, _, rfl⟩
  simp only [hR] at hr6
  simp only [hR] at TS TI
  have TF := Lib.hid (fun (p q : Option Addr) (c d : Nat) V (h1 : CellsI V p LL) (h2 : CellsI V q LL) => eqInt64S_yes p q c d LL (by omega) V h1 h2)
  have TMO := Lib.hid (fun (b : Nat) V (h : V.there b 0 (Lw.length * 2)) (hb : b < V.heap.size) => (show Calls Tryz.prog 24 #[.agg (OfA ⟨G, some ⟨b, 0, none⟩, Lw.length, Lw.length⟩), .int .i64 1] V _ from markOffice_th G b Lw.length Lw.length 1 hm (by omega) V h hb))
  have TMP := Lib.hid (fun (b : Nat) V (h : V.there b 0 (L.length * 3)) => markPermitS_th b L.length L.length (1 + 2 * Lw.length) hn (by omega) V h)
  have CA := Lib.hid (fun (V V' : World) (p : Option Addr) (B : Nat) (h : CellsI V p LL) (ho : OwnG V p LL.length B) (ha : Abv B V V') => CellsI.abv h ho ha)
  obtain ⟨m, hmm⟩ : ∃ m, Lw.length = m := ⟨_, rfl⟩
  obtain ⟨n, hnn⟩ : ∃ n, L.length = n := ⟨_, rfl⟩
  obtain ⟨r, hr⟩ : ∃ r, LL.length = r := ⟨_, rfl⟩
  simp only [hmm, hnn, hr] at T TZ TO TP TS TI TE TEP TF TMO TMP CA hn hm hr6 ⊢
  have TMF := Lib.hid (fun (p : Option Addr) (c B : Nat) V (h : OwnG V p r B) => mkG1 p r c B hr6 V h)
  have THF := Lib.hid (fun (p : Option Addr) (c : Nat) V (h : HeldG V p r) => hdG1 p r c hr6 V h)
  obtain ⟨k1, hk1⟩ : ∃ k1 : Nat, 1 + 2 * m = k1 := ⟨_, rfl⟩
  simp only [hk1] at TMO TMP
  obtain ⟨k2, hk2⟩ : ∃ k2 : Nat, k1 + 3 * n = k2 := ⟨_, rfl⟩
  simp only [hk2] at TMP
  obtain ⟨k3, hk3⟩ : ∃ k3 : Nat, 1 + r = k3 := ⟨_, rfl⟩
  simp only [hk3] at TMF THF
  have z2 : ¬ ((k2 : Int) < 0) := by omega
  have z3 : ¬ ((k3 : Int) < 0) := by omega
  obtain ⟨l, hl⟩ : ∃ l, 1048576 - m = l := ⟨_, rfl⟩
  rw [hl] at T TZ
  have hl2 : l ≤ 1048576 := by omega
  obtain ⟨l', hl'⟩ : ∃ l', l - n = l' := ⟨_, rfl⟩
  rw [hl'] at TZ
  have hl3 : l' ≤ 1048576 := by omega
  obtain ⟨W, hW, hs, b1, hB⟩ := obox1 ⟨G, pw, m, cw⟩ 30 w
  have HR := Lib.hid (fun V (hV : Below W.heap.size W V) => (b1.below hV (by omega)).range)
  have HB := Lib.hid hB
  have BX0 := Lib.hid (Below.refl W.heap.size W)
  have HPW := Lib.hid (hpw.keep hB)
  have HP := Lib.hid (hp.keep hB)
  have HT := Lib.hid (hT.below hB (tab_lt hT))
  have HTL := Lib.hid (show 1 < W.heap.size by have := tab_lt hT; omega)
  have hz := (zero_of_info zeroOffice).1
  obtain ⟨A0, hA0⟩ : ∃ A0, OfA ⟨G, pw, m, cw⟩ = A0 := ⟨_, rfl⟩
  have r0 := HR.out W (Below.refl _ _)
  clear hR hr hnn hmm hl hl' hs b1 hB hp hpw hT hG hO hOw hn hm hnn' hk1 hk2 hk3 hr6
  rw [hA0] at hW
  rw [hA0]
  go_enter Tryz.func7, Tryz.ntmps7
  go_upto_region 1 with (fail)
  try rw [hW]
  clear hW
  go_upto_region 8 with (first | (refine ldS 30 rfl ?_; refine wpList_load_mid rfl 30 _ rfl w.heap.size 0 rfl (OfL ⟨G, pw, m, cw⟩) _ r0 Tryz.underlying30 rfl (by rw [OfL_length]; exact infoLOffice) ?_) | (go_at_call 12; refine (T.out _).mono ?_; rintro e V0 ⟨rfl, hV⟩; have BX1 := Lib.hid hV; have r1 := HR.out V0 hV; clear hV r0) | (go_at_call 13; refine (TZ.out _).mono ?_; rintro e V00 ⟨rfl, hV⟩; rw [hV]; clear hV))
  go_upto_region 9 with (first | (refine ldS 30 rfl ?_; refine wpList_load_mid rfl 30 _ rfl w.heap.size 0 rfl (OfL ⟨G, pw, m, cw⟩) _ r1 Tryz.underlying30 rfl (by rw [OfL_length]; exact infoLOffice) ?_) | (go_at_call 15; refine (TO.out _ (HPW.out.keep BX1.out)).mono ?_; rintro e V1 ⟨b1, rfl, _, _, x1, _, hV⟩; have BX2 := Lib.hid (BX1.out.trans (hV.mono BX1.out.size)); have XA := Lib.hid x1; clear hV x1 r1) | (go_at_call 16; refine (TP.out _ (HP.out.keep BX2.out)).mono ?_; rintro e V1b ⟨b1b, rfl, _, _, x1, _, hV⟩; have BX2b := Lib.hid (BX2.out.trans (hV.mono BX2.out.size)); have XA2 := Lib.hid (XA.out.keep hV); have XP := Lib.hid x1; clear hV x1) | (go_at_call 33; refine (TS.out _ _ _ _ _ XA2.out XP.out).mono ?_; rintro e V2 ⟨p1, c1, rfl, hc1, hV⟩; have P1 := Lib.hid hc1; have BX3 := Lib.hid (BX2b.out.trans (hV.mono BX2b.out.size)); clear hV hc1))
  have r3 := HR.out V2 BX3.out
  go_upto_region 10 with (first | (refine ldS 30 rfl ?_; refine wpList_load_mid rfl 30 _ rfl w.heap.size 0 rfl (OfL ⟨G, pw, m, cw⟩) _ r3 Tryz.underlying30 rfl (by rw [OfL_length]; exact infoLOffice) ?_) | (go_at_call 15; refine (TO.out _ (HPW.out.keep BX3.out)).mono ?_; rintro e V3 ⟨b2, rfl, hb1, hb2, x1, xh, hV⟩; have BX4 := Lib.hid (BX3.out.trans (hV.mono BX3.out.size)); have C24 := Lib.hid hV; have L2 := Lib.hid hb1; have L3 := Lib.hid hb2; have H3 := Lib.hid xh; have YA := Lib.hid x1; have hth := new_thereO 41 V3; clear hV x1 r3 xh hb1 hb2) | (refine stS 41 rfl ?_; refine wpList_store_mid rfl 41 _ _ rfl _ 0 (OfA ⟨G, some ⟨b2, 0, none⟩, m, m⟩) rfl rfl (by rw [OfA_size]; with_reducible exact hth) (by rw [OfA_size]; exact infoOffice) (OfA_one _) ?_))
  obtain ⟨X, hX, zX, gX, bX⟩ := stored_off ⟨G, some ⟨b2, 0, none⟩, m, m⟩ 41 V3
  try rw [hX]
  have YB := Lib.hid (YA.out.keep bX)
  have BX5 := Lib.hid (BX4.out.trans (bX.mono BX4.out.size))
  have C25 := Lib.hid (C24.out.trans (bX.mono C24.out.size))
  have C35 := Lib.hid bX
  have LX := Lib.hid (show V3.heap.size < X.heap.size by omega)
  obtain ⟨N, hN⟩ : ∃ N, V3.heap.size = N := ⟨_, rfl⟩
  have HN := Lib.hid hN
  rw [hN] at gX ⊢
  have HGX := Lib.hid (fun V (hV : Below X.heap.size X V) => (gX.below hV (by omega)).range)
  clear hX zX gX bX hth hN hz
  go_upto_region 11 with (go_at_call 16; refine (TP.out _ (HP.out.keep BX5.out)).mono ?_; rintro e V5 ⟨b5, rfl, hb1, hb2, x1, xh, hV⟩; have HX5 := Lib.hid hV; have BX6 := Lib.hid (BX5.out.trans (hV.mono BX5.out.size)); have C26 := Lib.hid (C25.out.trans (hV.mono C25.out.size)); have C36 := Lib.hid (C35.out.trans (hV.mono C35.out.size)); have L5 := Lib.hid hb1; have L55 := Lib.hid hb2; have H5 := Lib.hid xh; have YB5 := Lib.hid (YB.out.keep hV); have YP := Lib.hid x1; clear hV x1 xh hb1 hb2)
  have r5 := HGX.out V5 HX5.out
  go_upto_region 12 with (first | (refine ldS 41 rfl ?_; refine wpList_load_mid rfl 41 _ rfl N 0 rfl (OfL ⟨G, some ⟨b2, 0, none⟩, m, m⟩) _ r5 Tryz.underlying41 rfl (by rw [OfL_length]; exact infoOffice) ?_) | (go_at_call 34; refine (TI.out _ _ _ _ _ YB5.out YP.out (HT.out.below BX6.out HTL.out)).mono ?_; rintro e V6 ⟨p2, c2, rfl, hc2, ho2, hV⟩; have P2 := Lib.hid hc2; have O2 := Lib.hid ho2; have HX7 := Lib.hid (HX5.out.trans (hV.mono HX5.out.size)); have BX7 := Lib.hid (BX6.out.trans (hV.mono BX6.out.size)); have C27 := Lib.hid (C26.out.trans (hV.mono C26.out.size)); have C37 := Lib.hid (C36.out.trans (hV.mono C36.out.size)); have C57 := Lib.hid hV; have YC := Lib.hid (YB5.out.keep hV); have YPC := Lib.hid (YP.out.keep hV); clear hV r5 hc2 ho2))
  go_upto_region 14 with (go_at_call 35; refine (TF.out _ _ _ _ _ P2.out (P1.out.keep C27.out)).mono ?_; rintro e V7 ⟨rfl, hV⟩; have P28 := Lib.hid (P2.out.keep hV); have O28 := Lib.hid (O2.out.abv (.of_below hV)); have HX8 := Lib.hid (HX7.out.trans (hV.mono HX7.out.size)); have BX8 := Lib.hid (BX7.out.trans (hV.mono BX7.out.size)); have C28 := Lib.hid (C27.out.trans (hV.mono C27.out.size)); have C38 := Lib.hid (C37.out.trans (hV.mono C37.out.size)); have C58 := Lib.hid (C57.out.trans (hV.mono C57.out.size)); have YC8 := Lib.hid (YC.out.keep hV); have YPC8 := Lib.hid (YPC.out.keep hV); clear hV)
  refine wp_region_plan (ops' := regOf Tryz.f7 14) (.take 0 (.take 1 (.run 2 (.run 3 (.take 4 .fin))))) (fun V => Below X.heap.size X V ∧ Below W.heap.size W V) (by kernel_rfl) (by kernel_rfl) (by kernel_rfl) (by kernel_rfl) (by kernel_rfl) ⟨HX8.out.drew, BX8.out.drew⟩ ?_
  refine plan_load (some 54) 41 (.tmp 8) N 0 _ _ (by kernel_rfl) (by kernel_rfl) (by kernel_rfl) (by kernel_rfl) (by kernel_rfl) (fun w' hw' => HGX.out w' hw'.1) Tryz.underlying41 rfl (by rw [OfL_length]; exact infoOffice) ?_
  refine plan_load (some 55) 30 (.tmp 2) w.heap.size 0 _ _ (by kernel_rfl) (by kernel_rfl) (by kernel_rfl) (by kernel_rfl) (by kernel_rfl) (fun w' hw' => HR.out w' hw'.2) Tryz.underlying30 rfl (by rw [OfL_length]; exact infoLOffice) ?_
  refine plan_call (some 56) 15 #[.agg (OfA ⟨G, pw, m, cw⟩)] (by kernel_rfl) (by kernel_rfl) (by kernel_rfl) (by kernel_rfl) (Calls.mono (TO.out _ (HPW.out.keep BX8.out.drew)) ?_)
  rintro _ V8 ⟨b3, rfl, _, _, x3, _, h7⟩
  have hX7 := HX8.out.drew.trans (h7.mono HX8.out.drew.size)
  have bX7 := BX8.out.drew.trans (h7.mono BX8.out.drew.size)
  refine ⟨_, rfl, ⟨hX7, bX7⟩, ?_⟩
  refine plan_call (some 57) 19 #[.agg (OfA ⟨G, some ⟨b2, 0, none⟩, m, m⟩), .agg (OfA ⟨G, some ⟨b3, 0, none⟩, m, m⟩)] (by kernel_rfl) (by kernel_rfl) (by kernel_rfl) (by kernel_rfl) (Calls.mono (TE.out _ _ _ _ _ ((YC8.out.keep ((Below.refl _ _).drew)).keep h7) x3) ?_)
  rintro _ V9 ⟨rfl, h8⟩
  have hX8 := hX7.trans (h8.mono hX7.size)
  have bX8 := bX7.trans (h8.mono bX7.size)
  refine ⟨_, rfl, ⟨hX8, bX8⟩, ?_⟩
  refine plan_pure (some 58) (.bool false) (by kernel_rfl) (by kernel_rfl) (by kernel_rfl) (fun _ => (by kernel_rfl)) ?_
  refine plan_end (NoPanic.normal ?_)
  simp only [Act.put, List.setIfInBounds_toArray, List.set_cons_zero, List.set_cons_succ]
  have h79 : Below V7.heap.size V7 V9 := ((Below.refl V7.heap.size V7).drew.trans (h7.mono (Below.refl V7.heap.size V7).drew.size)).trans (h8.mono ((Below.refl V7.heap.size V7).drew.trans (h7.mono (Below.refl V7.heap.size V7).drew.size)).size)
  have HX9 := Lib.hid (HX8.out.trans (h79.mono HX8.out.size))
  have BX9 := Lib.hid (BX8.out.trans (h79.mono BX8.out.size))
  have C29 := Lib.hid (C28.out.trans (h79.mono C28.out.size))
  have C39 := Lib.hid (C38.out.trans (h79.mono C38.out.size))
  have C59 := Lib.hid (C58.out.trans (h79.mono C58.out.size))
  have P29 := Lib.hid (P28.out.keep h79)
  have O29 := Lib.hid (O28.out.abv (.of_below h79))
  have YPC9 := Lib.hid (YPC8.out.keep h79)
  clear hX7 bX7 hX8 bX8 h7 h8 x3 h79
  go_upto_region 19 with (first | (go_at_call 16; refine (TP.out _ (HP.out.keep BX9.out)).mono ?_; rintro e V10 ⟨b9, rfl, _, _, x1, _, hV⟩; have HX10 := Lib.hid (HX9.out.trans (hV.mono HX9.out.size)); have BX10 := Lib.hid (BX9.out.trans (hV.mono BX9.out.size)); have C210 := Lib.hid (C29.out.trans (hV.mono C29.out.size)); have C310 := Lib.hid (C39.out.trans (hV.mono C39.out.size)); have C510 := Lib.hid (C59.out.trans (hV.mono C59.out.size)); have P210 := Lib.hid (P29.out.keep hV); have O210 := Lib.hid (O29.out.abv (.of_below hV)); have YP10 := Lib.hid (YPC9.out.keep hV); have ZP := Lib.hid x1; clear hV x1) | (go_at_call 20; refine (TEP.out _ _ _ _ _ YP10.out ZP.out).mono ?_; rintro e V11 ⟨rfl, hV⟩; have HX11 := Lib.hid (HX10.out.trans (hV.mono HX10.out.size)); have BX11 := Lib.hid (BX10.out.trans (hV.mono BX10.out.size)); have C211 := Lib.hid (C210.out.trans (hV.mono C210.out.size)); have C311 := Lib.hid (C310.out.trans (hV.mono C310.out.size)); have C511 := Lib.hid (C510.out.trans (hV.mono C510.out.size)); have P211 := Lib.hid (P210.out.keep hV); have O211 := Lib.hid (O210.out.abv (.of_below hV)); clear hV))
  have r11 := HGX.out V11 HX11.out
  have M2 := Lib.hid (TMO.out b2 V11 (there_below H3.out C311.out L3.out) (Nat.lt_of_lt_of_le L3.out C311.out.size))
  have LB2 := Lib.hid (show W.heap.size ≤ b2 from Nat.le_trans BX3.out.size L2.out)
  have LV5 := Lib.hid (show b2 < V5.heap.size from Nat.lt_of_lt_of_le L3.out C36.out.size)
  go_upto_region 20 with (first | (refine ldS 41 rfl ?_; refine wpList_load_mid rfl 41 _ rfl N 0 rfl (OfL ⟨G, some ⟨b2, 0, none⟩, m, m⟩) _ r11 Tryz.underlying41 rfl (by rw [OfL_length]; exact infoOffice) ?_) | (go_at_call 24; refine M2.out.mono ?_; rintro e V12 ⟨rfl, hV, hs2, hx2⟩; have BX12 := Lib.hid (BX11.out.trans (hV.mono LB2.out)); have C212 := Lib.hid (C211.out.trans (hV.mono L2.out)); have A12 := Lib.hid (show Abv V5.heap.size V11 V12 from ⟨hs2, fun x hx hl => hx2 x (by have := LV5.out; omega) hl⟩); have T5 := Lib.hid (there_sameG (there_below H5.out C511.out L55.out) (hx2 b5 (by have := L5.out; have := L3.out; have := LX.out; have := HN.out; omega) (Nat.lt_of_lt_of_le L55.out C511.out.size))); clear hV hs2 hx2 r11 M2))
  have P212 := Lib.hid (CA.out _ _ _ _ P211.out O211.out A12.out)
  have O212 := Lib.hid (O211.out.abv A12.out)
  have M3 := Lib.hid (TMP.out b5 V12 T5.out)
  have LB5 := Lib.hid (show W.heap.size ≤ b5 from Nat.le_trans BX5.out.size L5.out)
  have LC5 := Lib.hid (show V2.heap.size ≤ b5 from Nat.le_trans C25.out.size L5.out)
  go_upto_region 21 with (go_at_call 25; refine M3.out.mono ?_; rintro e V13 ⟨rfl, hV, hs2, hx2⟩; have BX13 := Lib.hid (BX12.out.trans (hV.mono LB5.out)); have C213 := Lib.hid (C212.out.trans (hV.mono LC5.out)); have A13 := Lib.hid (show Abv V5.heap.size V12 V13 from ⟨by omega, fun x hx hl => hx2 x (by have := L55.out; omega)⟩); clear hV hs2 hx2 M3)
  have P213 := Lib.hid (CA.out _ _ _ _ P212.out O212.out A13.out)
  have O213 := Lib.hid (O212.out.abv A13.out)
  go_upto_region 24 with (go_at_call 35; refine (TF.out _ _ _ _ _ P213.out (P1.out.keep C213.out)).mono ?_; rintro e V14 ⟨rfl, hV⟩; have BX14 := Lib.hid (BX13.out.trans (hV.mono BX13.out.size)); have C214 := Lib.hid (C213.out.trans (hV.mono C213.out.size)); have O214 := Lib.hid (O213.out.abv (.of_below hV)); clear hV)
  have LV2 := Lib.hid (show V2.heap.size ≤ V5.heap.size from C26.out.size)
  have LVW := Lib.hid (show W.heap.size ≤ V5.heap.size from BX6.out.size)
  go_upto_region 26 with (go_at_call 36; refine (TMF.out _ _ _ _ O214.out).mono ?_; rintro e V15 ⟨rfl, hh, hV⟩; have HD15 := Lib.hid hh; have BX15 := Lib.hid (BX14.out.trans (hV.mono LVW.out)); have C215 := Lib.hid (C214.out.trans (hV.mono LV2.out)); clear hV hh)
  go_upto_region 31 with (go_at_call 37; refine (THF.out _ _ _ HD15.out).mono ?_; rintro e V16 ⟨rfl, hV⟩; have HD16 := Lib.hid (HD15.out.keep hV); have BX16 := Lib.hid (BX15.out.trans (hV.mono BX15.out.size)); have C216 := Lib.hid (C215.out.trans (hV.mono C215.out.size)); clear hV)
  have r16 := HR.out V16 BX16.out
  go_upto_region 32 with (first | (refine ldS 30 rfl ?_; refine wpList_load_mid rfl 30 _ rfl w.heap.size 0 rfl (OfL ⟨G, pw, m, cw⟩) _ r16 Tryz.underlying30 rfl (by rw [OfL_length]; exact infoLOffice) ?_) | (go_at_call 15; refine (TO.out _ (HPW.out.keep BX16.out)).mono ?_; rintro e V17 ⟨b17, rfl, _, _, x1, _, hV⟩; have HD17 := Lib.hid (HD16.out.keep hV); have BX17 := Lib.hid (BX16.out.trans (hV.mono BX16.out.size)); have C217 := Lib.hid (C216.out.trans (hV.mono C216.out.size)); have XA17 := Lib.hid x1; clear hV x1 r16) | (go_at_call 16; refine (TP.out _ (HP.out.keep BX17.out)).mono ?_; rintro e V18 ⟨b18, rfl, _, _, x1, _, hV⟩; have HD18 := Lib.hid (HD17.out.keep hV); have BX18 := Lib.hid (BX17.out.trans (hV.mono BX17.out.size)); have C218 := Lib.hid (C217.out.trans (hV.mono C217.out.size)); have XA18 := Lib.hid (XA17.out.keep hV); have XP18 := Lib.hid x1; clear hV x1) | (go_at_call 34; refine (TI.out _ _ _ _ _ XA18.out XP18.out (HT.out.below BX18.out HTL.out)).mono ?_; rintro e V19 ⟨p3, c3, rfl, hc3, _, hV⟩; have HD19 := Lib.hid (HD18.out.keep hV); have BX19 := Lib.hid (BX18.out.trans (hV.mono BX18.out.size)); have C219 := Lib.hid (C218.out.trans (hV.mono C218.out.size)); have P3' := Lib.hid hc3; clear hV hc3))
  go_wp2_with (first | (go_at_call 35; refine (TF.out _ _ _ _ _ P3'.out (P1.out.keep C219.out)).mono ?_; rintro e V20 ⟨rfl, hV⟩; have HD20 := Lib.hid (HD19.out.keep hV); have BX20 := Lib.hid (BX19.out.trans (hV.mono BX19.out.size)); clear hV) | (go_at_call 37; refine (THF.out _ _ _ HD20.out).mono ?_; rintro e V21 ⟨rfl, hV⟩; have HZ := Lib.hid (HB.out.trans ((BX20.out.trans (hV.mono BX20.out.size)).mono HB.out.size)); clear hV))
  go_ret
  exact ⟨rfl, HZ.out⟩
theorem fnExactGrantInOrder_walk (H : Type) (enc : TypeId × Value → H) (W : World) (base : Nat) (args : Array Value) (ds : List (DataW H)) (ps : List MemPlace) (hn : args.size = Tryz.f7.params.size)
    (hv : ∀ (j : Nat) t v, Tryz.f7.params[j]? = some t → args[j]? = some v → Value.okWide Tryz.prog W .any base t v)
    (hA : DataW.TrodAll enc Tryz.prog W 0 (fun _ => true) true Tryz.f7.params.toList args.toList ds ps) (hT : TabAt W) :
    Calls Tryz.prog 7 args W fun e W' => e = .returned (.bool true) ∧ Below W.heap.size W W' := by
  rw [Tryz.params7] at hn hv hA
  obtain ⟨l⟩ := args
  match l, hn with
  | [v0, v1], _ =>
    obtain ⟨u0, us, d0, ds', a0, a1, he, _, _, h0, h1⟩ := trodAll_cons hA
    cases he
    obtain ⟨u1, us1, d1, ds1, a2, a3, he, _, _, h2, h3⟩ := trodAll_cons h1
    cases he
    obtain ⟨G, pw, cw, Lw, rfl, hG, hLw, hpw, hokw⟩ := open_off (okWide_off (hv 0 _ v0 rfl rfl)) h0
    obtain ⟨p, c, L, rfl, hL, hp, hok⟩ := open_ps (okWide_slice Tryz.underlying31 (hv 1 _ v1 rfl rfl)) h2
    by_cases h1 : Lw.length ≤ 1048576
    · by_cases h2 : L.length ≤ 1048576 - Lw.length
      · exact fnExactGrantInOrder_near G pw cw Lw hG (fun e he => okT_T2 (hokw e he)) h1 p c L (fun e he => okP_PQ (hok e he)) h2 W hpw hp hT
      · exact fnExactGrantInOrder_farP ⟨G, pw, Lw.length, cw⟩ p L.length c h1 (by show 1048576 - Lw.length < L.length; omega) hL W
    · exact fnExactGrantInOrder_far ⟨G, pw, Lw.length, cw⟩ _ (by show 1048576 < Lw.length; omega) hLw W
end Go.Proofs.YtaghnminpfgdcaaGreatDoor
