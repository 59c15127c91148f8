/- The program's swept: what recovers. No condition. -/
import Derived.Test.YtjoehdlhhahamabDoorSweepI
import Derived.Tactics
import Derived.Tactics2
import Derived.Defers
import Derived.Recover
import Derived.Laws.Pointers
namespace Go.Proofs.YtjoehdlhhahamabDoor
open Go Go.RowKit
set_option linter.unusedSimpArgs false
set_option linter.unusedVariables false

theorem ta_yes (w : World) : (Instr.typeAssert (.iface 127 (.agg #[])) 20 108 true).run Tryd.prog w = .ok (.tuple #[.iface 127 (.agg #[]), .bool true]) w := by kernel_rfl
theorem ta_nil (w : World) : (Instr.typeAssert .nilIface 20 108 true).run Tryd.prog w = .ok (.tuple #[.nilIface, .bool false]) w := by kernel_rfl

theorem mth_code (n : Nat) (w : World) : (method (n + 1) 127 (.agg #[]) "loop.example/g01288/impl.code").run Tryd.prog w = .ok (135, .agg #[]) w := by kernel_rfl

set_option maxRecDepth 100000 in
theorem swCatch (p : Addr) (x : Int) (older : List PanicEntry) (w : World) (hc : w.cell? p = some (.int .i64 x)) (hz : w.frozen? p = false) :
    CallsD Tryd.prog 88 #[.pointer (some p)] (.panicking ({ v := noGround, recovered := false } :: older)) w fun e u' w' =>
      e = .returned (.tuple #[]) ∧ u' = .panicking ({ v := noGround, recovered := true } :: older) ∧ ∃ V, Below w.heap.size w V ∧ w' = V.setCell p (.int .i64 4) := by
  refine callsD_of_wpS Tryd.func88 rfl fun c₀ cs hu => ?_
  apply wpS_seq
  apply wpS_region
  simp [wpOpsS, go_sem, recoverD, hu, Tryd.ntmps88, Exit.thenS, noGround]
  refine wpS_of_wp ?_
  simp only [Array.replicate_succ, Array.replicate_zero, List.push_toArray, List.append_toArray, List.nil_append, List.cons_append, List.setIfInBounds_toArray, List.set_cons_zero, List.set_cons_succ]
  have ht := ta_yes
  have hm := mth_code
  have hp := World.block_lt_of_cell? w p hc
  have bA : Below w.heap.size w (w.alloc (.cells #[] 127)) := (Below.refl _ _).alloc (Nat.le_refl _) _
  have hc2 := (bA.cell (p := p) hp).trans hc
  have hz2 := (bA.frozen (p := p) hp).trans hz
  have HBA := Lib.hid bA
  clear hc hz bA
  go_wp2
  simp [bodyPostS, results, Tryd.results88]
  exact ⟨_, HBA.out, rfl⟩

set_option maxRecDepth 100000 in
theorem swIdle (p : Addr) (w : World) :
    CallsD Tryd.prog 88 #[.pointer (some p)] .returning w fun e u' w' => e = .returned (.tuple #[]) ∧ u' = .returning ∧ w' = w := by
  refine callsD_of_wpS Tryd.func88 rfl fun c₀ cs hu => ?_
  apply wpS_seq
  apply wpS_region
  simp [wpOpsS, go_sem, recoverD, hu, Tryd.ntmps88, Exit.thenS]
  refine wpS_of_wp ?_
  simp only [Array.replicate_succ, Array.replicate_zero, List.push_toArray, List.append_toArray, List.nil_append, List.cons_append, List.setIfInBounds_toArray, List.set_cons_zero, List.set_cons_succ]
  have ht := ta_nil
  go_wp2
  cases c₀
  simp_all [bodyPostS, results, Tryd.results88]
theorem results_gfi {P : Program} {fn : Func} {p q r : Tmp} {ty ti : TypeId} {D Di : TypeDesc} (h : fn.results = #[.cell p ty, .tmp q, .cell r ti]) (tmps : Array Value) (w : World) (b c : Nat) (G : Gd) (m : Nat) (n : Int)
    (hp : tmps.getD p undef = .pointer (some ⟨b, 0, none⟩)) (hq : tmps.getD q undef = .float .f32 m) (hr : tmps.getD r undef = .pointer (some ⟨c, 0, none⟩)) (hc : w.rangeAt b 0 (GrdL G)) (hn : w.cell? ⟨c, 0, none⟩ = some (.int .i64 n))
    (hu : P.underlying ty = some D) (hd : D.isRow = true) (hui : P.underlying ti = some Di) (hdi : Di.isRow = false) (hi : (P.info? ty).map (·.size) = some 195) :
    (results fn tmps).run P w = .ok (.tuple #[.agg (Grd G), .float .f32 m, .int .i64 n]) w := by
  have hp' : tmps[p]?.getD undef = .pointer (some ⟨b, 0, none⟩) := by simpa using hp
  have hq' : tmps[q]?.getD undef = .float .f32 m := by simpa using hq
  have hr' : tmps[r]?.getD undef = .pointer (some ⟨c, 0, none⟩) := by simpa using hr
  have := run_loadVar_mid (P := P) w b 0 ty (GrdL G) D hc hu hd (by rw [GrdL_length]; exact hi)
  have hagg : (isAgg ti).run P w = .ok false w := by
    unfold isAgg
    rw [Sem.run_bind, run_underlying hui w]
    cases Di <;> simp_all
  have h2 : (loadVar ti ⟨c, 0, none⟩).run P w = .ok (.int .i64 n) w := by
    unfold loadVar
    go_simp
  simp [results, h, hp', hq', hr', asAddr, this, h2, Grd]

theorem gg_cell (G H : Gd) (x : Value) (t u v : TypeId) (w : World) : ∃ W, ((w.alloc (.cells (Grd G) t)).alloc (.cells (Grd H) u)).alloc (.cells #[x] v) = W ∧ W.heap.size = w.heap.size + 1 + 1 + 1 ∧ GBox W w.heap.size G ∧ GBox W (w.heap.size + 1) H ∧ W.cell? ⟨w.heap.size + 1 + 1, 0, none⟩ = some x ∧ W.frozen? ⟨w.heap.size + 1 + 1, 0, none⟩ = false ∧ Below w.heap.size w W := by
  obtain ⟨W, hW, hz, g1, g2, hB⟩ := gbox2 G H t u w
  rw [hW]
  have b3 : Below W.heap.size W (W.alloc (.cells #[x] v)) := (Below.refl _ _).alloc (Nat.le_refl _) _
  have c3 : (W.alloc (.cells #[x] v)).cell? ⟨w.heap.size + 1 + 1, 0, none⟩ = some x := by rw [← hz]; exact cell_of_row _ _ 0 _ _ _ (heap_alloc_last _ _)
  have f3 : (W.alloc (.cells #[x] v)).frozen? ⟨w.heap.size + 1 + 1, 0, none⟩ = false := by rw [← hz]; have := (there_row (n := 1) (heap_alloc_last W (.cells #[x] v)) rfl 0 (by omega)).2; rwa [Nat.zero_add] at this
  exact ⟨_, rfl, by rw [World.size_alloc, hz], g1.below b3 (by omega), g2.below b3 (by omega), c3, f3, hB.trans (b3.mono (by omega))⟩

set_option maxRecDepth 100000 in
set_option maxHeartbeats 4000000 in
theorem swept_no (nx : Gd → Nat → Option Nat) (nf : Nat) (caps : Array Value) (hen : ∀ args w, (callFunc nf args).run Tryd.prog w = .ok (.enter nf args) w) (w : World)
    (hnx : ∀ (H : Gd) (k : Nat) (V : World), k < 64 → isB H k = true → validB H = true → GdOk H → GBox V w.heap.size H → Below w.heap.size w V →
      Calls Tryd.prog nf (#[.pointer (some ⟨w.heap.size, 0, none⟩), .int .i64 k] ++ caps) V fun e V' => ∃ b, e = .returned (.float .f32 b) ∧ num .f32 b = nx H k ∧ Below V.heap.size V V')
    (G : Gd) (hv : validB G = true) (hG : GdOk G) (hT : TabAt w) (ho : (swp nx G (bitsL (cellsN G))).2.1 = false) :
    Calls Tryd.prog 54 #[.agg (Grd G), .func (.func nf) #[] caps] w fun e w' => e = .returned (.tuple #[.agg (Grd zG), .float .f32 0, .int .i64 4]) ∧ Below w.heap.size w w' := by
  have hmf : ∀ (fn : Fn) (first cap : Array Value) (w : World), (Instr.makeFunc fn first cap).run Tryd.prog w = .ok (.func fn first cap) w := fun _ _ _ _ => rfl
  have hz := (zero_of_info zeroGround).1
  go_enter_defers Tryd.func54, Tryd.ntmps54
  go_upto_region 1 with (fail)
  obtain ⟨W, hW, zW, g1, g2, c3, f3, hB⟩ := gg_cell G zG (.int .i64 0) 32 32 2 w
  rw [hW]
  have hlt := tab_lt hT
  have TW := Lib.hid (hT.below hB hlt)
  have G1 := Lib.hid g1
  have G2 := Lib.hid g2
  have C3 := Lib.hid c3
  have F3 := Lib.hid f3
  have HB := Lib.hid hB
  have HO := Lib.hid ho
  have HV := Lib.hid hv
  have HG := Lib.hid hG
  have hsz : w.heap.size + 1 + 1 < W.heap.size := by omega
  have HNX := Lib.hid (fun (H : Gd) (k : Nat) (V : World) (h1 : k < 64) (h2 : isB H k = true) (h3 : validB H = true) (h4 : GdOk H) (h5 : GBox V w.heap.size H) (_ : AwayC w.heap.size W.heap.size W V) (h7 : Below w.heap.size W V) => hnx H k V h1 h2 h3 h4 h5 (hB.trans h7))
  clear hW zW g1 g2 c3 f3 hB ho hv hG hnx hT
  go_wp2_with (go_at_call 89; refine (implSweep nx nf caps hen w.heap.size W HNX.out G G1.out HV.out HG.out TW.out hlt).mono ?_; rintro e V ⟨hb, ha, hor⟩; obtain ⟨_, rfl⟩ := hor.resolve_left (fun h => by rw [HO.out] at h; cases h.1))
  refine leaves_cons (f := 88) (args := #[.pointer (some ⟨w.heap.size + 1 + 1, 0, none⟩)]) (by simp) (by simp [go_sem]) ?_
  have va := ha.cell ⟨w.heap.size + 1 + 1, 0, none⟩ _ (by simp; omega) (by simp; omega) C3.out
  have vr : V.rangeAt (w.heap.size + 1) 0 (GrdL zG) := fun j v hv => (ha.cell ⟨w.heap.size + 1, 0 + j, none⟩ v (by simp; omega) (by simp) (G2.out.range j v hv)).1
  have hsV := ha.size
  refine (swCatch ⟨w.heap.size + 1 + 1, 0, none⟩ 0 [] V va.1 (va.2.trans F3.out)).mono ?_
  rintro e u' w'' ⟨rfl, rfl, Z, hZ, rfl⟩
  have zr := range_kept vr (by omega) _ hZ
  have zs : (Z.setCell ⟨w.heap.size + 1 + 1, 0, none⟩ (.int .i64 4)).rangeAt (w.heap.size + 1) 0 (GrdL zG) := fun j v hv => (cell_other (fun e => by injection e; omega)).trans (zr j v hv)
  have zc : (Z.setCell ⟨w.heap.size + 1 + 1, 0, none⟩ (.int .i64 4)).cell? ⟨w.heap.size + 1 + 1, 0, none⟩ = some (.int .i64 4) := World.cell?_setCell_same' _ _ _ (by rw [(hZ.cell (p := ⟨w.heap.size + 1 + 1, 0, none⟩) (by simp; omega)).trans va.1]; rfl)
  show Leaves _ _ _ _ [] .returning _
  refine ⟨_, results_gfi rfl _ _ _ _ zG 0 4 rfl rfl rfl zs zc Tryd.underlying32 rfl Tryd.underlying2 rfl infoG195, rfl, ?_⟩
  exact ((HB.out.trans hb).trans (hZ.mono (by omega))).setCell (p := ⟨w.heap.size + 1 + 1, 0, none⟩) (by simp; omega) _
set_option maxRecDepth 100000 in
set_option maxHeartbeats 4000000 in
theorem swept_yes (nx : Gd → Nat → Option Nat) (nf : Nat) (caps : Array Value) (hen : ∀ args w, (callFunc nf args).run Tryd.prog w = .ok (.enter nf args) w) (w : World)
    (hnx : ∀ (H : Gd) (k : Nat) (V : World), k < 64 → isB H k = true → validB H = true → GdOk H → GBox V w.heap.size H → Below w.heap.size w V →
      Calls Tryd.prog nf (#[.pointer (some ⟨w.heap.size, 0, none⟩), .int .i64 k] ++ caps) V fun e V' => ∃ b, e = .returned (.float .f32 b) ∧ num .f32 b = nx H k ∧ Below V.heap.size V V')
    (G : Gd) (hv : validB G = true) (hG : GdOk G) (hT : TabAt w) (ho : (swp nx G (bitsL (cellsN G))).2.1 = true) :
    Calls Tryd.prog 54 #[.agg (Grd G), .func (.func nf) #[] caps] w fun e w' => e = .returned (.tuple #[.agg (Grd (swp nx G (bitsL (cellsN G))).1), .float .f32 (swp nx G (bitsL (cellsN G))).2.2, .int .i64 0]) ∧ Below w.heap.size w w' := by
  have hmf : ∀ (fn : Fn) (first cap : Array Value) (w : World), (Instr.makeFunc fn first cap).run Tryd.prog w = .ok (.func fn first cap) w := fun _ _ _ _ => rfl
  have hz := (zero_of_info zeroGround).1
  obtain ⟨s, hs⟩ : ∃ s, swp nx G (bitsL (cellsN G)) = s := ⟨_, rfl⟩
  rw [hs] at ho ⊢
  obtain ⟨G', ok, mg⟩ := s
  dsimp only at ho ⊢
  go_enter_defers Tryd.func54, Tryd.ntmps54
  go_upto_region 1 with (fail)
  obtain ⟨W, hW, zW, g1, g2, c3, f3, hB⟩ := gg_cell G zG (.int .i64 0) 32 32 2 w
  rw [hW]
  have hlt := tab_lt hT
  have TW := Lib.hid (hT.below hB hlt)
  have G1 := Lib.hid g1
  have G2 := Lib.hid g2
  have C3 := Lib.hid c3
  have F3 := Lib.hid f3
  have HB := Lib.hid hB
  have HO := Lib.hid ho
  have HS := Lib.hid hs
  have HV := Lib.hid hv
  have HG := Lib.hid hG
  have hsz : w.heap.size + 1 + 1 < W.heap.size := by omega
  have HNX := Lib.hid (fun (H : Gd) (k : Nat) (V : World) (h1 : k < 64) (h2 : isB H k = true) (h3 : validB H = true) (h4 : GdOk H) (h5 : GBox V w.heap.size H) (_ : AwayC w.heap.size W.heap.size W V) (h7 : Below w.heap.size W V) => hnx H k V h1 h2 h3 h4 h5 (hB.trans h7))
  clear hW zW hs g1 g2 c3 f3 hB ho hv hG hnx hT
  go_upto_region 3 with (go_at_call 89; refine (implSweep nx nf caps hen w.heap.size W HNX.out G G1.out HV.out HG.out TW.out hlt).mono ?_; rintro e V ⟨hb, ha, hor⟩; rw [HS.out] at hor; obtain ⟨_, rfl, gV⟩ := hor.resolve_right (fun h => by have h1 := h.1; rw [show ok = true from HO.out] at h1; cases h1))
  have va := ha.cell ⟨w.heap.size + 1 + 1, 0, none⟩ _ (by simp; omega) (by simp; omega) C3.out
  have tt : V.there (w.heap.size + 1) 0 195 := fun j hj => by
    obtain ⟨v, hv⟩ := Option.isSome_iff_exists.1 (G2.out.there j hj).1
    have h1 := ha.cell ⟨w.heap.size + 1, 0 + j, none⟩ v (by simp; omega) (by simp) hv
    exact ⟨by rw [h1.1]; rfl, h1.2.trans (G2.out.there j hj).2⟩
  have rr := gV.range
  have hsV := ha.size
  have HBV := Lib.hid (HB.out.trans hb)
  have VA1 := va.1
  have VA2 := va.2.trans F3.out
  have TT := Lib.hid tt
  clear ha hb hor gV va
  go_wp2_with (first | (refine ld_stage 32 rfl ?_; refine wpList_load_mid rfl 32 _ rfl w.heap.size 0 rfl (GrdL G') _ rr Tryd.underlying32 rfl (by rw [GrdL_length]; exact infoGround) ?_) | (refine st_stage 32 rfl ?_; refine wpList_store_mid rfl 32 _ _ rfl _ 0 (Grd G') rfl rfl (by rw [Grd_size]; with_reducible exact tt) (by rw [Grd_size]; exact infoGround) (Grd_one _) ?_; have U1 := Lib.hid (World.rangeAt_setCells_same V (w.heap.size + 1) 0 (Grd G').toList (by rw [Grd_toList, GrdL_length]; exact TT.out)); have U2 := Lib.hid (below_setCells (B := w.heap.size) (a := w) (w.heap.size + 1) (by omega) (Grd G').toList 0 V HBV.out); have u3 := (cell_farS (b := w.heap.size + 1) (c := w.heap.size + 1 + 1) (x := 0) (by omega) (Grd G').toList 0 V).trans VA1; have u4 := (frozenS (b := w.heap.size + 1) ⟨w.heap.size + 1 + 1, 0, none⟩ (Grd G').toList 0 V).trans VA2; obtain ⟨U, hU⟩ : ∃ U, V.setCells (w.heap.size + 1) 0 (Grd G').toList = U := ⟨_, rfl⟩; rw [hU] at U1 U2 u3 u4 ⊢; clear hU VA1 VA2 rr tt))
  refine leaves_cons (f := 88) (args := #[.pointer (some ⟨w.heap.size + 1 + 1, 0, none⟩)]) (by simp) (by simp [go_sem]) ?_
  refine (swIdle ⟨w.heap.size + 1 + 1, 0, none⟩ _).mono ?_
  rintro e u' w'' ⟨rfl, rfl, rfl⟩
  show Leaves _ _ _ _ [] .returning _
  have zr := U1.out
  rw [Grd_toList] at zr
  have zs : (U.setCell ⟨w.heap.size + 1 + 1, 0, none⟩ (.int .i64 0)).rangeAt (w.heap.size + 1) 0 (GrdL G') := fun j v hv => (cell_other (fun e => by injection e; omega)).trans (zr j v hv)
  have zc : (U.setCell ⟨w.heap.size + 1 + 1, 0, none⟩ (.int .i64 0)).cell? ⟨w.heap.size + 1 + 1, 0, none⟩ = some (.int .i64 0) := World.cell?_setCell_same' _ _ _ (by rw [u3]; rfl)
  refine ⟨_, results_gfi rfl _ _ _ _ G' mg 0 rfl rfl rfl zs zc Tryd.underlying32 rfl Tryd.underlying2 rfl infoG195, rfl, ?_⟩
  exact U2.out.setCell (p := ⟨w.heap.size + 1 + 1, 0, none⟩) (by simp; omega) _
end Go.Proofs.YtjoehdlhhahamabDoor
