/- The cells to which water comes from a cell: the iterator, and a range over it. No condition. -/
import Derived.Test.YtjhaonfdapldcaaDoorNxt
namespace Go.Proofs.YtjhaonfdapldcaaDoor
open Go Go.RowKit Go.Shelf
attribute [local go_sem] Oper.semAt_some run_store_float
set_option linter.unusedSimpArgs false
set_option linter.unusedVariables false

def WayAt (G : Gd) : Type := {y : Nat // y < 64 ∧ isB G y = true}
def encY (G : Gd) (x : WayAt G) : Array Value := #[Value.int .i64 (x.1 : Int)]
def wys {G : Gd} (xs : List (WayAt G)) : List Nat := xs.map (·.1)
theorem wys_snoc {G : Gd} (xs : List (WayAt G)) (x : WayAt G) : wys (xs ++ [x]) = wys xs ++ [x.1] := by simp [wys]
theorem wys_len {G : Gd} (xs : List (WayAt G)) : (wys xs).length = xs.length := by simp [wys]
theorem waterFrom_any (p k : Nat) (w : World) :
    Calls Tryd.prog 68 #[.pointer (some ⟨p, 0, none⟩), .int .i64 k] w fun e w' => e = .returned (.func (.func 85) #[] #[.pointer (some ⟨w.heap.size + 1, 0, none⟩), .pointer (some ⟨w.heap.size, 0, none⟩)]) ∧ w' = (w.alloc (.cells #[.pointer (some ⟨p, 0, none⟩)] 57)).alloc (.cells #[.int .i64 k] 2) := by
  go_enter Tryd.func68, Tryd.ntmps68
  go_wp2
  go_ret
  simp
def fuelW (G : Gd) (h f : Value) : Nat := match f with | .bool true => rankW G (intOf h).toNat + 1 | _ => 0
theorem way_len (G : Gd) (c : Nat) : (wayL G c).length ≤ 65 := Nat.le_trans (wayN_len G _ _) (by have := rank_le G c; omega)
set_option maxRecDepth 100000 in
set_option maxHeartbeats 2000000 in
/-- The iterator, for every loop body that keeps what lay below n₀, and the two captured cells. -/
theorem way1_in (G : Gd) (c : Nat) (hc : c < 64) (hcb : isB G c = true) (hv : validB G = true) (hG : GdOk G) (l p B1 B2 n₀ n : Nat) (hn : 1 ≤ n) (hp0 : p < n₀) (J Jx : List (WayAt G) → World → Prop)
    (hJ : ∀ s A B, n₀ ≤ A.heap.size → J s A → Below A.heap.size A B → J s B)
    (hY : ∀ pre x W, J pre W → pre.length < 65 → YieldAt Fence.wide (n - 1) Tryd.prog l (encY G x) W fun e W' =>
      (e = .returned (.bool true) ∧ J (pre ++ [x]) W' ∧ KN n₀ B1 B2 W W') ∨ (e = .returned (.bool false) ∧ Jx (pre ++ [x]) W'))
    (W : World) (h1 : W.cell? ⟨B1, 0, none⟩ = some (.int .i64 c)) (h2 : W.cell? ⟨B2, 0, none⟩ = some (.pointer (some ⟨p, 0, none⟩))) (hp : GrdAt W p 0 G) (hle : n₀ ≤ W.heap.size) (h0 : J [] W) :
    CallsIn Fence.wide n Tryd.prog 85 #[.func (.yield l) #[] #[], .pointer (some ⟨B1, 0, none⟩), .pointer (some ⟨B2, 0, none⟩)] W fun e W' => (∃ v, e = .returned v) ∧
      ((∃ ys, wys ys = wayL G c ∧ J ys W') ∨ (∃ pre, wys pre <+: wayL G c ∧ Jx pre W')) := by
  have HV := Lib.hid hv
  have HG := Lib.hid hG
  have HCB := Lib.hid hcb
  clear hv hG hcb
  refine callsIn_of_wp Tryd.func85 rfl trivial ?_ rfl
  simp only [Tryd.ntmps85, List.size_toArray, List.length_cons, List.length_nil, Nat.reduceAdd, Nat.reduceSub, Array.replicate_succ, Array.replicate_zero, List.push_toArray, List.append_toArray, List.nil_append, List.cons_append]
  gi_wp2
  gi_loopw [4, 5] (fun q f wr => ∃ (pre : List (WayAt G)) (x : Nat) (fl : Bool), q = .int .i64 x ∧ f = .bool fl ∧ Hid (J pre wr ∧ KN n₀ B1 B2 W wr) ∧ Hid (fl = true → wys pre ++ wayL G x = wayL G c ∧ x < 64 ∧ isB G x = true) ∧ Hid (fl = false → wys pre = wayL G c))
    (fun q f wr => fuelW G q f)
  case atStart =>
    exact ⟨[], c, true, rfl, rfl, Lib.hid ⟨h0, KN.refl _ _ _ _⟩, Lib.hid (fun _ => ⟨rfl, hc, HCB.out⟩), Lib.hid (fun h => by cases h)⟩
  case round =>
    obtain ⟨pre, x, fl, rfl, rfl, hx, hyes, hno⟩ := hrel
    cases fl
    · have HP := Lib.hid (hno.out rfl)
      gi_wp2
      refine ⟨fun _ h => (by cases h), ?_⟩
      gi_wp2
      go_end0
      exact ⟨⟨_, rfl⟩, .inl ⟨pre, HP.out, hx.out.1⟩⟩
    · obtain ⟨ha, hx64, hxb⟩ := hyes.out rfl
      have c2 : wr.cell? ⟨B2, 0, none⟩ = some (.pointer (some ⟨p, 0, none⟩)) := hx.out.2.c2 _ h2
      have gp := Lib.hid (hp.below hx.out.2.below hp0)
      have hz : n₀ ≤ wr.heap.size := Nat.le_trans hle hx.out.2.below.size
      obtain ⟨t, ht⟩ := way_head G x
      have hlen : pre.length < 65 := by
        have h3 := way_len G c
        rw [← ha, List.length_append, ht, List.length_cons, wys_len] at h3
        omega
      obtain ⟨y, hy0⟩ : ∃ y : WayAt G, y.1 = x := ⟨⟨x, hx64, hxb⟩, rfl⟩
      have HPX := Lib.hid (show wys (pre ++ [y]) <+: wayL G c by rw [← ha, ht, wys_snoc, hy0]; exact ⟨t, by simp⟩)
      have HA := Lib.hid ha
      have HXB := Lib.hid hxb
      obtain ⟨fn, tmps, assign, body, hy, hR⟩ := hY pre y wr hx.out.1 hlen
      dsimp only [encY] at hy
      rw [hy0] at hy
      have HY0 := Lib.hid hy0
      clear ha ht hxb hy0
      gi_wp2
      refine hR.mono ?_
      rintro e W3 (⟨rfl, hJ3, hk3⟩ | ⟨rfl, hJx3⟩)
      · have H3 := Lib.hid hJ3
        have K3 := Lib.hid hk3
        have d2 : W3.cell? ⟨B2, 0, none⟩ = some (.pointer (some ⟨p, 0, none⟩)) := hk3.c2 _ c2
        have gp3 := Lib.hid (gp.out.below hk3.below hp0)
        have hz3 : n₀ ≤ W3.heap.size := Nat.le_trans hz hk3.below.size
        have hpl3 : p < W3.heap.size := by omega
        cases hnx : nxtW G x with
        | none =>
          have HNW := Lib.hid (show Calls Tryd.prog 86 #[.pointer (some ⟨p, 0, none⟩), .int .i64 x] W3 fun e w' => e = .returned (.tuple #[.int .i64 ((nxI x (bsTo G x 4).1 : Nat) : Int), .bool false]) ∧ Below W3.heap.size W3 w' by
            have := nextOnWay_any G x hx64 HV.out p W3 gp3.out hpl3 HG.out
            rwa [hnx] at this)
          have HE := Lib.hid (show wys (pre ++ [y]) = wayL G c by rw [wys_snoc, HY0.out, ← HA.out, wayL_end hnx])
          clear hJ3 hk3 hnx
          gi_wp2_with (refine ⟨trivial, ?_⟩; gi_at_call 86; refine (callsIn_wide.2 HNW.out).mono ?_; rintro e W4 ⟨rfl, hb4⟩; have HB4 := Lib.hid hb4; clear hb4)
          go_roundw
          case rel => exact ⟨pre ++ [y], _, false, rfl, rfl, Lib.hid ⟨hJ _ _ _ hz3 H3.out HB4.out, (hx.out.2.trans K3.out).trans (KN.of_below hz3 HB4.out)⟩, Lib.hid (fun h => by cases h), Lib.hid (fun _ => HE.out)⟩
          case measure => simp [fuelW]
        | some k =>
          obtain ⟨hk64, hkb, hvl, s, hs4, hbs, hnb, hks⟩ := nxtW_down HV.out hx64 HXB.out hnx
          have HNW := Lib.hid (show Calls Tryd.prog 86 #[.pointer (some ⟨p, 0, none⟩), .int .i64 x] W3 fun e w' => e = .returned (.tuple #[.int .i64 (k : Int), .bool true]) ∧ Below W3.heap.size W3 w' by
            have := nextOnWay_any G x hx64 HV.out p W3 gp3.out hpl3 HG.out
            rw [hnx, hbs] at this
            simp only [nxI, ← hks, Option.isSome_some] at this
            exact this)
          have HE := Lib.hid (show wys (pre ++ [y]) ++ wayL G k = wayL G c by rw [wys_snoc, HY0.out, ← HA.out, wayL_on HV.out hx64 HXB.out hnx]; simp)
          have HRK := Lib.hid (rank_down hk64 hvl)
          have HKB := Lib.hid hkb
          clear hJ3 hk3 hnx hbs hks hnb hvl hkb
          gi_wp2_with (refine ⟨trivial, ?_⟩; gi_at_call 86; refine (callsIn_wide.2 HNW.out).mono ?_; rintro e W4 ⟨rfl, hb4⟩; have HB4 := Lib.hid hb4; clear hb4)
          go_roundw
          case rel => exact ⟨pre ++ [y], k, true, rfl, rfl, Lib.hid ⟨hJ _ _ _ hz3 H3.out HB4.out, (hx.out.2.trans K3.out).trans (KN.of_below hz3 HB4.out)⟩, Lib.hid (fun _ => ⟨HE.out, hk64, HKB.out⟩), Lib.hid (fun h => by cases h)⟩
          case measure => simp [fuelW, intOf]; exact HRK.out
      · have H3 := Lib.hid hJx3
        clear hJx3
        gi_wp2
        go_end0
        exact ⟨⟨_, rfl⟩, .inr ⟨pre ++ [y], HPX.out, H3.out⟩⟩
theorem way_stops (G : Gd) (c : Nat) (hc : c < 64) (hcb : isB G c = true) (hv : validB G = true) (hG : GdOk G) (p B1 B2 n₀ n : Nat) (hn : 1 ≤ n) (hp0 : p < n₀) (w : World) (h1 : w.cell? ⟨B1, 0, none⟩ = some (.int .i64 c)) (h2 : w.cell? ⟨B2, 0, none⟩ = some (.pointer (some ⟨p, 0, none⟩))) (hp : GrdAt w p 0 G) (hle : n₀ ≤ w.heap.size) :
    SeqStopsK Fence.wide n Tryd.prog 85 #[.pointer (some ⟨B1, 0, none⟩), .pointer (some ⟨B2, 0, none⟩)] (encY G) (KN n₀ B1 B2) (fun xs => wys xs = wayL G c) (fun pre => wys pre <+: wayL G c) 65 w := fun l J Jx W hW hJ _ hY h0 =>
  way1_in G c hc hcb hv hG l p B1 B2 n₀ n hn hp0 J Jx (fun s A B _ hs hb => hJ s A B none hs (grown_of_below hb) (fun _ e => by cases e)) hY W ((hW.cell (World.block_lt_of_cell? w _ h1)).trans h1) ((hW.cell (World.block_lt_of_cell? w _ h2)).trans h2) (hp.below hW (by omega)) (Nat.le_trans hle hW.size) h0
/-- A range over the cells to which water comes, for every loop body. -/
theorem wp_way (G : Gd) (c : Nat) (hc : c < 64) (hcb : isB G c = true) (hv : validB G = true) (hG : GdOk G) {assign body : Code} {Q : Exit → Act → World → Prop} {T : Array Value} {df : List Deferred} {w : World} (gs ps vs B1 B2 n₀ p : Nat) (hp0 : p < n₀)
    (hg : (Act.eval { tmps := T, defers := df } (.tmp gs)) = .func (.func 85) #[] #[.pointer (some ⟨B1, 0, none⟩), .pointer (some ⟨B2, 0, none⟩)])
    (h1 : w.cell? ⟨B1, 0, none⟩ = some (.int .i64 c)) (h2 : w.cell? ⟨B2, 0, none⟩ = some (.pointer (some ⟨p, 0, none⟩))) (hp : GrdAt w p 0 G) (hle : n₀ ≤ w.heap.size)
    (I : List Nat → World → Prop) (Ix : Code → List Nat → World → Prop) (hI : ∀ s (A B : World) (row : Option Nat), A.grownBy B row → (∀ r, row = some r → ∃ o : Obj, A.heap[r]? = some o ∧ o.isCells = false) → I s A → I s B) (hIx : ∀ c s (A B : World) (row : Option Nat), A.grownBy B row → (∀ r, row = some r → ∃ o : Obj, A.heap[r]? = some o ∧ o.isCells = false) → Ix c s A → Ix c s B) (h0 : I [] w)
    (hassign : ∀ (l : Nat) (x : Nat) (W : World) (K : Act → World → Prop), K { tmps := (T.setIfInBounds ps (.int .i64 x)).setIfInBounds vs (.int .i64 x), defers := [] } W →
      assign.wpIn (Fence.wide.inRound l) 4 Tryd.prog (Exit.then K (fun _ _ _ => False)) { tmps := T.setIfInBounds ps (.int .i64 x), defers := [] } W)
    (hbody : ∀ (l : Nat) (pre : List (WayAt G)) (x : WayAt G) (W : World), I (wys pre) W → KN n₀ B1 B2 w W → pre.length < 65 →
      body.wpIn (Fence.wide.inRound l) 4 Tryd.prog (ownPostK (KN n₀ B1 B2) (fun p W => I (wys p) W ∧ KN n₀ B1 B2 w W) (fun c p W => Ix c (wys p) W ∧ KN n₀ B1 B2 w W) (pre ++ [x]) W) { tmps := (T.setIfInBounds ps (.int .i64 (x.1 : Int))).setIfInBounds vs (.int .i64 (x.1 : Int)), defers := [] } W)
    (hdone : ∀ (D : Nat) (W : World), w.heap.size ≤ D → I (wayL G c) W → KN n₀ B1 B2 w W → W.heap[D]? = some (.deferred (some [])) → Q .normal { tmps := T, defers := { target := .collected D, args := #[] } :: df } W)
    (hstop : ∀ (D : Nat) (e : Code) (pre : List Nat) (W : World), w.heap.size ≤ D → pre <+: wayL G c → Ix e pre W → KN n₀ B1 B2 w W → W.heap[D]? = some (.deferred (some [])) → e.wpIn Fence.wide 6 Tryd.prog Q { tmps := T, defers := { target := .collected D, args := #[] } :: df } W) :
    (Code.rangeFunc (.tmp gs) #[ps] assign body).wpIn Fence.wide 6 Tryd.prog Q { tmps := T, defers := df } w := by
  have hown : OwnFrom w.heap.size (fun (_ : List (WayAt G)) W => KN n₀ B1 B2 w W) := fun s A B row hs hg hr =>
    hs.grown (Nat.le_trans hle hs.below.size) hg (fun r e => ⟨Nat.le_trans hle (hr r e).1, (hr r e).2⟩)
  refine wpIn_rangeFunc_ownF rfl (by omega) (gf := 85) (lb := #[.pointer (some ⟨B1, 0, none⟩), .pointer (some ⟨B2, 0, none⟩)]) hg trivial (enters_of Tryd.func85 (by kernel_rfl) rfl)
    (way_stops G c hc hcb hv hG p B1 B2 n₀ 5 (by omega) hp0 w h1 h2 hp hle) (fun h k => h.trans k) (KN.book hle) (Below.refl _ _) (fun _ => rfl)
    (fun p W => I (wys p) W ∧ KN n₀ B1 B2 w W) (fun c p W => Ix c (wys p) W ∧ KN n₀ B1 B2 w W)
    (OwnFrom.and (Own.from (I := fun (p : List (WayAt G)) W => I (wys p) W) (fun s A B row hs hg hr => hI _ _ _ row hg hr hs) _) hown)
    (fun c => OwnFrom.and (Own.from (I := fun (p : List (WayAt G)) W => Ix c (wys p) W) (fun s A B row hs hg hr => hIx c _ _ _ row hg hr hs) _) hown)
    ⟨h0, KN.refl _ _ _ _⟩ (fun x => { tmps := (T.setIfInBounds ps (.int .i64 (x.1 : Int))).setIfInBounds vs (.int .i64 (x.1 : Int)), defers := [] })
    (fun l x W K hK => by have := hassign l x.1 W K hK; simpa [encY] using this)
    (fun l pre x W h hl => hbody l pre x W h.1 h.2 hl)
    (fun D ys W hD hys h hK => hdone D W hD (by have h1 := h.1; rwa [show wys ys = wayL G c from hys] at h1) h.2 hK)
    (fun D c pre W hD hp h hK => hstop D c _ W hD hp h.1 h.2 hK)
/-- No cell comes twice on a way. -/
theorem way_nodup (G : Gd) (hv : validB G = true) : ∀ (f c : Nat), c < 64 → isB G c = true → (∀ j ∈ wayN G f c, valW (G.h j) ≤ valW (G.h c)) ∧ (wayN G f c).Nodup
  | 0, c, _, _ => ⟨fun j hj => by simp [wayN] at hj, by simp [wayN]⟩
  | f + 1, c, hc, hb => by
    unfold wayN
    cases hn : nxtW G c with
    | none => exact ⟨fun j hj => by simp at hj; rw [hj]; exact Int.le_refl _, by simp⟩
    | some k =>
      obtain ⟨h1, h2, h3, _⟩ := nxtW_down hv hc hb hn
      obtain ⟨i1, i2⟩ := way_nodup G hv f k h1 h2
      refine ⟨fun j hj => ?_, List.nodup_cons.2 ⟨fun hm => ?_, i2⟩⟩
      · rw [List.mem_cons] at hj
        rcases hj with rfl | hj
        · exact Int.le_refl _
        · have := i1 j hj; omega
      · have := i1 c hm; omega
theorem wayL_nodup {G : Gd} (hv : validB G = true) {c : Nat} (hc : c < 64) (hb : isB G c = true) : (wayL G c).Nodup := (way_nodup G hv _ c hc hb).2
end Go.Proofs.YtjhaonfdapldcaaDoor
