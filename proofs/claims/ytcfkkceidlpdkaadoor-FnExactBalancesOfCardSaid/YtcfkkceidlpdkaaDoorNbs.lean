/- The program's neighbours: it goes through the cells beside a cell, in the order of the sides. No condition. -/
import Derived.Test.YtcfkkceidlpdkaaDoorFlow
import Derived.Test.YtcfkkceidlpdkaaDoorRange
namespace Go.Proofs.YtcfkkceidlpdkaaDoor
open Go.RowKit Go.Shelf
attribute [local go_sem] Oper.semAt_some
set_option linter.unusedSimpArgs false

/-- The sides on which there is a cell, among the first ones. -/
def sidesTo (G : Gd) (k n : Nat) : List Nat := (List.range n).filter fun s => nbB G k (s : Int)
def sidesL (G : Gd) (k : Nat) : List Nat := sidesTo G k 4
theorem sidesTo_yes {G : Gd} {k n : Nat} (h : nbB G k (n : Int) = true) : sidesTo G k (n + 1) = sidesTo G k n ++ [n] := by
  unfold sidesTo
  rw [List.range_succ, List.filter_append, List.filter_cons, if_pos h, List.filter_nil]
theorem sidesTo_no {G : Gd} {k n : Nat} (h : nbB G k (n : Int) = false) : sidesTo G k (n + 1) = sidesTo G k n := by
  unfold sidesTo
  rw [List.range_succ, List.filter_append, List.filter_cons, if_neg (by rw [h]; decide), List.filter_nil, List.append_nil]
theorem sidesTo_len (G : Gd) (k n : Nat) : (sidesTo G k n).length ≤ n := by
  have := List.length_filter_le (fun s : Nat => nbB G k (s : Int)) (List.range n)
  simpa [sidesTo] using this
theorem mem_sidesL {G : Gd} {k s : Nat} : s ∈ sidesL G k ↔ s < 4 ∧ nbB G k (s : Int) = true := by simp [sidesL, sidesTo]
theorem sidesTo_pre (G : Gd) (k n : Nat) (h : n ≤ 4) : sidesTo G k n <+: sidesL G k := by
  unfold sidesL sidesTo
  refine List.IsPrefix.filter _ ?_
  refine ⟨List.range' n (4 - n), ?_⟩
  rw [List.range_eq_range', List.range_eq_range']
  have := @List.range'_append 0 n (4 - n) 1
  rw [Nat.one_mul, Nat.zero_add] at this
  rw [this]
  congr 1
  omega

/-- A side on which there is a cell. -/
abbrev SideAt (G : Gd) (k : Nat) := { s : Nat // s ∈ sidesL G k }
/-- The cell's number is handed. -/
def encN (G : Gd) (k : Nat) (x : SideAt G k) : Array Value := #[Value.int .i64 (nbN k (x.1 : Int) : Int)]
def sds {G : Gd} {k : Nat} (xs : List (SideAt G k)) : List Nat := xs.map (·.1)
theorem sds_snoc {G : Gd} {k : Nat} (xs : List (SideAt G k)) (x : SideAt G k) : sds (xs ++ [x]) = sds xs ++ [x.1] := by simp [sds]

/-- What lay below n₀ lies on, and so do two cells. -/
structure KN (n₀ B1 B2 : Nat) (A B : World) : Prop where
  below : Below n₀ A B
  c1 : ∀ v, A.cell? ⟨B1, 0, none⟩ = some v → B.cell? ⟨B1, 0, none⟩ = some v
  c2 : ∀ v, A.cell? ⟨B2, 0, none⟩ = some v → B.cell? ⟨B2, 0, none⟩ = some v
theorem KN.refl (n₀ B1 B2 : Nat) (A : World) : KN n₀ B1 B2 A A := ⟨Below.refl _ _, fun _ h => h, fun _ h => h⟩
theorem KN.trans {n₀ B1 B2 : Nat} {A B C : World} (h : KN n₀ B1 B2 A B) (k : KN n₀ B1 B2 B C) : KN n₀ B1 B2 A C :=
  ⟨h.below.trans k.below, fun v hv => k.c1 v (h.c1 v hv), fun v hv => k.c2 v (h.c2 v hv)⟩
theorem KN.of_below {n₀ B1 B2 : Nat} {A B : World} (hle : n₀ ≤ A.heap.size) (h : Below A.heap.size A B) : KN n₀ B1 B2 A B :=
  ⟨h.mono hle, fun _ hv => (h.cell (World.block_lt_of_cell? A _ hv)).trans hv, fun _ hv => (h.cell (World.block_lt_of_cell? A _ hv)).trans hv⟩
theorem KN.setCell {n₀ B1 B2 : Nat} {A : World} {p : Addr} {v : Value} (h : n₀ ≤ p.block) (h1 : p.block ≠ B1) (h2 : p.block ≠ B2) : KN n₀ B1 B2 A (A.setCell p v) :=
  ⟨(Below.refl _ _).setCell h _, fun _ hv => (cell_other (fun e => h1 (by rw [e]))).trans hv, fun _ hv => (cell_other (fun e => h2 (by rw [e]))).trans hv⟩
theorem KN.grown {n₀ B1 B2 : Nat} {w A B : World} {row : Option Nat} (h : KN n₀ B1 B2 w A) (hle : n₀ ≤ A.heap.size) (hg : A.grownBy B row) (hr : ∀ r, row = some r → n₀ ≤ r ∧ ∃ o : Obj, A.heap[r]? = some o ∧ o.isCells = false) : KN n₀ B1 B2 w B :=
  ⟨h.below.grown hg hle (fun r e => (hr r e).1), fun v hv => cell_kept (h.c1 v hv) hg (fun r e => (hr r e).2), fun v hv => cell_kept (h.c2 v hv) hg (fun r e => (hr r e).2)⟩
theorem KN.book {n₀ B1 B2 : Nat} {w : World} (hn : n₀ ≤ w.heap.size) (W : World) (l : Nat) (o o' : Obj) (hl : w.heap.size ≤ l) (h : W.heap[l]? = some o) (hc : o.isCells = false) (_ : o.isWalk = false) : KN n₀ B1 B2 W (W.putObj l o') :=
  (KN.refl _ _ _ W).grown (by have := (Array.getElem?_eq_some_iff.1 h).1; omega) (grownBy_putObj' W l o') (fun r e => by cases e; exact ⟨by omega, o, h, hc⟩)
theorem grown_of_below {A B : World} (h : Below A.heap.size A B) : A.grownBy B none := ⟨h.os, h.tape, h.output, h.size, fun k hk _ => h.block k hk⟩
theorem CK.of_below {A B : World} (h : Below A.heap.size A B) : CK A B := CK.of_grown (grown_of_below h) (fun _ e => by cases e)

set_option maxRecDepth 100000 in
set_option maxHeartbeats 1000000 in
/-- The iterator, FOR EVERY LOOP BODY THAT KEEPS WHAT LAY BELOW n₀, and the two captured cells. -/
theorem nbs1_in (G : Gd) (k : Nat) (hk : k < 64) (hv : validB G = true) (hG : GdOk G) (l p B1 B2 n₀ n : Nat) (hn : 1 ≤ n) (hp0 : p < n₀) (J Jx : List (SideAt G k) → World → Prop)
    (hJ : ∀ s A B, n₀ ≤ A.heap.size → J s A → Below A.heap.size A B → J s B)
    (hY : ∀ pre x W, J pre W → pre.length < 4 → YieldAt Fence.wide (n - 1) Tryd.prog l (encN G k x) W fun e W' =>
      (e = .returned (.bool true) ∧ J (pre ++ [x]) W' ∧ KN n₀ B1 B2 W W') ∨ (e = .returned (.bool false) ∧ Jx (pre ++ [x]) W'))
    (W : World) (h1 : W.cell? ⟨B1, 0, none⟩ = some (.pointer (some ⟨p, 0, none⟩))) (h2 : W.cell? ⟨B2, 0, none⟩ = some (.int .i64 k)) (hp : GrdAt W p 0 G) (hle : n₀ ≤ W.heap.size) (h0 : J [] W) :
    CallsIn Fence.wide n Tryd.prog 95 #[.func (.yield l) #[] #[], .pointer (some ⟨B1, 0, none⟩), .pointer (some ⟨B2, 0, none⟩)] W fun e W' => (∃ v, e = .returned v) ∧
      ((∃ ys, sds ys = sidesL G k ∧ J ys W') ∨ (∃ pre, sds pre <+: sidesL G k ∧ Jx pre W')) := by
  have HV := Lib.hid hv
  have HG := Lib.hid hG
  clear hv hG
  refine callsIn_of_wp Tryd.func95 rfl trivial ?_ rfl
  simp only [Tryd.ntmps95, List.size_toArray, List.length_cons, List.length_nil, Nat.reduceAdd, Nat.reduceSub, Array.replicate_succ, Array.replicate_zero, List.push_toArray, List.append_toArray, List.nil_append, List.cons_append]
  gi_wp2
  gi_loopw [4] (fun q wr => ∃ (pre : List (SideAt G k)) (s : Nat), q = .int .i64 s ∧ s ≤ 4 ∧ Hid (sds pre = sidesTo G k s ∧ J pre wr ∧ KN n₀ B1 B2 W wr))
    (fun q wr => 4 - (intOf q).toNat)
  case atStart =>
    exact ⟨[], 0, rfl, by omega, by simp [sds, sidesTo], h0, KN.refl _ _ _ _⟩
  case round =>
    obtain ⟨pre, s, rfl, hs4, hx⟩ := hrel
    have c1 : wr.cell? ⟨B1, 0, none⟩ = some (.pointer (some ⟨p, 0, none⟩)) := hx.out.2.2.c1 _ h1
    have c2 : wr.cell? ⟨B2, 0, none⟩ = some (.int .i64 k) := hx.out.2.2.c2 _ h2
    have gp := Lib.hid (hp.below hx.out.2.2.below hp0)
    have hz : n₀ ≤ wr.heap.size := Nat.le_trans hle hx.out.2.2.below.size
    have hpw : p < wr.heap.size := by omega
    by_cases hlt : s < 4
    · have hside : sideB (s : Int) = true := by simp [sideB]; omega
      cases hnb : nbB G k (s : Int)
      · have N1 := Lib.hid (show IB (if nbB G k (s : Int) = true then nb k s else 0) (nbB G k (s : Int)) = IB 0 false by rw [hnb]; rfl)
        have E := Lib.hid (sidesTo_no hnb)
        clear hnb
        gi_wp2_with (first | (refine ⟨trivial, ?_⟩; gi_at_call 48; have hc := (callsIn_wide (n := n - 1)).2 (beside_any G k hk s hside HV.out p wr gp.out hpw HG.out); rw [N1.out] at hc; refine hc.mono ?_; clear hc; rintro e w2 ⟨rfl, hb2⟩; unfold IB))
        refine ⟨fun _ h => (by cases h), ?_⟩
        gi_wp2
        go_roundw
        case rel => exact ⟨pre, s + 1, by go_num, by omega, hx.out.1.trans E.out.symm, hJ _ _ _ hz hx.out.2.1 hb2, hx.out.2.2.trans (KN.of_below hz hb2)⟩
        case measure => simp [intOf]; omega
      · obtain ⟨hj1, hj⟩ := nbN_is HV.out hnb
        have hmem : s ∈ sidesL G k := mem_sidesL.2 ⟨hlt, hnb⟩
        have N1 := Lib.hid (show IB (if nbB G k (s : Int) = true then nb k s else 0) (nbB G k (s : Int)) = IB (nbN k (s : Int) : Int) true by rw [hnb, if_pos rfl, hj1])
        have E := Lib.hid (sidesTo_yes hnb)
        have hlen : pre.length < 4 := by
          have e1 := congrArg List.length hx.out.1
          have e2 := sidesTo_len G k s
          simp [sds] at e1
          omega
        have HJ1 := Lib.hid hj1
        clear hnb hj1
        gi_wp2_with (first | (refine ⟨trivial, ?_⟩; gi_at_call 48; have hc := (callsIn_wide (n := n - 1)).2 (beside_any G k hk s hside HV.out p wr gp.out hpw HG.out); rw [N1.out] at hc; refine hc.mono ?_; clear hc; rintro e w2 ⟨rfl, hb2⟩; unfold IB; obtain ⟨fn, tmps, assign, body, hy, hR⟩ := hY pre ⟨s, hmem⟩ w2 (hJ _ _ _ hz hx.out.2.1 hb2) hlen; dsimp only [encN] at hy; have HB2 := Lib.hid hb2; clear hb2))
        refine hR.mono ?_
        rintro e W3 (⟨rfl, hJ3, hk3⟩ | ⟨rfl, hJx3⟩)
        · have H3 := Lib.hid hJ3
          have K3 := Lib.hid hk3
          clear hJ3 hk3
          gi_wp2
          go_roundw
          case rel => exact ⟨pre ++ [⟨s, hmem⟩], s + 1, by go_num, by omega, by rw [sds_snoc, hx.out.1, E.out], H3.out, (hx.out.2.2.trans (KN.of_below hz HB2.out)).trans K3.out⟩
          case measure => simp [intOf]; omega
        · have H3 := Lib.hid hJx3
          clear hJx3
          gi_wp2
          refine bodyPost_ret (results_none rfl _ _ _) rfl ?_
          refine ⟨⟨_, rfl⟩, .inr ⟨pre ++ [⟨s, hmem⟩], ?_, H3.out⟩⟩
          rw [sds_snoc, hx.out.1, ← E.out]
          exact sidesTo_pre G k (s + 1) (by omega)
    · obtain rfl : s = 4 := by omega
      gi_wp2
      go_end0
      exact ⟨⟨_, rfl⟩, .inl ⟨pre, hx.out.1, hx.out.2.1⟩⟩

theorem nbs_stops (G : Gd) (k : Nat) (hk : k < 64) (hv : validB G = true) (hG : GdOk G) (p B1 B2 n₀ n : Nat) (hn : 1 ≤ n) (hp0 : p < n₀) (w : World) (h1 : w.cell? ⟨B1, 0, none⟩ = some (.pointer (some ⟨p, 0, none⟩))) (h2 : w.cell? ⟨B2, 0, none⟩ = some (.int .i64 k)) (hp : GrdAt w p 0 G) (hle : n₀ ≤ w.heap.size) :
    SeqStopsK Fence.wide n Tryd.prog 95 #[.pointer (some ⟨B1, 0, none⟩), .pointer (some ⟨B2, 0, none⟩)] (encN G k) (KN n₀ B1 B2) (fun xs => sds xs = sidesL G k) (fun pre => sds pre <+: sidesL G k) 4 w := fun l J Jx W hW hJ _ hY h0 =>
  nbs1_in G k hk hv hG l p B1 B2 n₀ n hn hp0 J Jx (fun s A B _ hs hb => hJ s A B none hs (grown_of_below hb) (fun _ e => by cases e)) hY W ((hW.cell (World.block_lt_of_cell? w _ h1)).trans h1) ((hW.cell (World.block_lt_of_cell? w _ h2)).trans h2) (hp.below hW (by omega)) (Nat.le_trans hle hW.size) h0

/-- A range over the neighbours of a cell, for every loop body. -/
theorem wp_nbs (G : Gd) (k : Nat) (hk : k < 64) (hv : validB G = true) (hG : GdOk G) {assign body : Code} {Q : Exit → Act → World → Prop} {T : Array Value} {df : List Deferred} {w : World} (gs ps vs B1 B2 n₀ p : Nat) (hp0 : p < n₀)
    (hg : (Act.eval { tmps := T, defers := df } (.tmp gs)) = .func (.func 95) #[] #[.pointer (some ⟨B1, 0, none⟩), .pointer (some ⟨B2, 0, none⟩)])
    (h1 : w.cell? ⟨B1, 0, none⟩ = some (.pointer (some ⟨p, 0, none⟩))) (h2 : w.cell? ⟨B2, 0, none⟩ = some (.int .i64 k)) (hp : GrdAt w p 0 G) (hle : n₀ ≤ w.heap.size)
    (I : List Nat → World → Prop) (Ix : Code → List Nat → World → Prop) (hI : ∀ s A B, CK A B → I s A → I s B) (hIx : ∀ c s A B, CK A B → Ix c s A → Ix c s B) (h0 : I [] w)
    (hassign : ∀ (l : Nat) (x : Nat) (W : World) (K : Act → World → Prop), K { tmps := (T.setIfInBounds ps (.int .i64 x)).setIfInBounds vs (.int .i64 x), defers := [] } W →
      assign.wpIn (Fence.wide.inRound l) 4 Tryd.prog (Exit.then K (fun _ _ _ => False)) { tmps := T.setIfInBounds ps (.int .i64 x), defers := [] } W)
    (hbody : ∀ (l : Nat) (pre : List (SideAt G k)) (x : SideAt G k) (W : World), I (sds pre) W → KN n₀ B1 B2 w W → x.1 < 4 → nbB G k (x.1 : Int) = true → nbN k (x.1 : Int) < 64 →
      body.wpIn (Fence.wide.inRound l) 4 Tryd.prog (ownPostK (KN n₀ B1 B2) (fun p W => I (sds p) W ∧ KN n₀ B1 B2 w W) (fun c p W => Ix c (sds p) W ∧ KN n₀ B1 B2 w W) (pre ++ [x]) W) { tmps := (T.setIfInBounds ps (.int .i64 (nbN k (x.1 : Int) : Int))).setIfInBounds vs (.int .i64 (nbN k (x.1 : Int) : Int)), defers := [] } W)
    (hdone : ∀ (D : Nat) (W : World), w.heap.size ≤ D → I (sidesL G k) W → KN n₀ B1 B2 w W → W.heap[D]? = some (.deferred (some [])) → Q .normal { tmps := T, defers := { target := .collected D, args := #[] } :: df } W)
    (hstop : ∀ (D : Nat) (c : Code) (pre : List Nat) (W : World), w.heap.size ≤ D → pre <+: sidesL G k → Ix c pre W → KN n₀ B1 B2 w W → W.heap[D]? = some (.deferred (some [])) → c.wpIn Fence.wide 6 Tryd.prog Q { tmps := T, defers := { target := .collected D, args := #[] } :: df } W) :
    (Code.rangeFunc (.tmp gs) #[ps] assign body).wpIn Fence.wide 6 Tryd.prog Q { tmps := T, defers := df } w := by
  have hown : OwnFrom w.heap.size (fun (_ : List (SideAt G k)) W => KN n₀ B1 B2 w W) := fun s A B row hs hg hr =>
    hs.grown (Nat.le_trans hle hs.below.size) hg (fun r e => ⟨Nat.le_trans hle (hr r e).1, (hr r e).2⟩)
  refine wpIn_rangeFunc_ownF rfl (by omega) (gf := 95) (lb := #[.pointer (some ⟨B1, 0, none⟩), .pointer (some ⟨B2, 0, none⟩)]) hg trivial (enters_of Tryd.func95 (by kernel_rfl) rfl)
    (nbs_stops G k hk hv hG p B1 B2 n₀ 5 (by omega) hp0 w h1 h2 hp hle) (fun h k => h.trans k) (KN.book hle) (Below.refl _ _) (fun _ => rfl)
    (fun p W => I (sds p) W ∧ KN n₀ B1 B2 w W) (fun c p W => Ix c (sds p) W ∧ KN n₀ B1 B2 w W)
    (OwnFrom.and (Own.from (I := fun (p : List (SideAt G k)) W => I (sds p) W) (fun s A B row hs hg hr => hI _ _ _ (CK.of_grown hg hr) hs) _) hown)
    (fun c => OwnFrom.and (Own.from (I := fun (p : List (SideAt G k)) W => Ix c (sds p) W) (fun s A B row hs hg hr => hIx c _ _ _ (CK.of_grown hg hr) hs) _) hown)
    ⟨h0, KN.refl _ _ _ _⟩ (fun x => { tmps := (T.setIfInBounds ps (.int .i64 (nbN k (x.1 : Int) : Int))).setIfInBounds vs (.int .i64 (nbN k (x.1 : Int) : Int)), defers := [] })
    (fun l x W K hK => by have := hassign l (nbN k (x.1 : Int)) W K hK; simpa [encN] using this)
    (fun l pre x W h _ => hbody l pre x W h.1 h.2 (mem_sidesL.1 x.2).1 (mem_sidesL.1 x.2).2 (nbN_is hv (mem_sidesL.1 x.2).2).2)
    (fun D ys W hD hys h hK => hdone D W hD (by have h1 := h.1; rwa [show sds ys = sidesL G k from hys] at h1) h.2 hK)
    (fun D c pre W hD hp h hK => hstop D c _ W hD hp h.1 h.2 hK)

theorem neighbours_any (p k : Nat) (w : World) :
    Calls Tryd.prog 72 #[.pointer (some ⟨p, 0, none⟩), .int .i64 k] w fun e w' => e = .returned (.func (.func 95) #[] #[.pointer (some ⟨w.heap.size, 0, none⟩), .pointer (some ⟨w.heap.size + 1, 0, none⟩)]) ∧ w' = (w.alloc (.cells #[.pointer (some ⟨p, 0, none⟩)] 58)).alloc (.cells #[.int .i64 k] 2) := by
  go_enter Tryd.func72, Tryd.ntmps72
  go_wp2
  go_ret
  simp
end Go.Proofs.YtcfkkceidlpdkaaDoor
