/- The permits that are granted in order, the model's. No condition. -/
import Derived.Test.YtaghnminpfgdcaaGreatDoorZr
import Derived.Test.YtaghnminpfgdcaaGreatDoorIntE
namespace Go.Proofs.YtaghnminpfgdcaaGreatDoor
open Go Go.RowKit
set_option linter.unusedSimpArgs false
set_option linter.unusedVariables false
attribute [local go_sem] Oper.semAt_some

/-- The indices of the permits that are granted of the first k. -/
def grJ (G : Gd) (Lw : List T2) (L : List P3) : Nat → List Nat
  | 0 => []
  | k + 1 => if keptB G Lw (selL L (grJ G Lw L k ++ [k])) = true then grJ G Lw L k ++ [k] else grJ G Lw L k
theorem grJ_asc (G : Gd) (Lw : List T2) (L : List P3) : ∀ k, Asc k (grJ G Lw L k)
  | 0 => asc_nil 0
  | k + 1 => by
    unfold grJ
    split
    · exact (grJ_asc G Lw L k).push (Nat.le_refl _)
    · exact (grJ_asc G Lw L k).up (Nat.le_succ _)
theorem grJ_yes {G : Gd} {Lw : List T2} {L : List P3} {k : Nat} (h : keptB G Lw (selL L (grJ G Lw L k ++ [k])) = true) : grJ G Lw L (k + 1) = grJ G Lw L k ++ [k] := by
  simp [grJ, h]
theorem grJ_no {G : Gd} {Lw : List T2} {L : List P3} {k : Nat} (h : keptB G Lw (selL L (grJ G Lw L k ++ [k])) = false) : grJ G Lw L (k + 1) = grJ G Lw L k := by
  simp [grJ, h]
theorem plL_one (L : List P3) : ∀ u ∈ plL L, u.oneCell' = true := fun u hu => by
  simp only [plL, List.mem_flatMap] at hu
  obtain ⟨e, _, hu⟩ := hu
  simp [p3, Pm] at hu
  rcases hu with rfl | rfl | rfl <;> rfl
theorem p3_one (e : P3) : ∀ u ∈ p3 e, u.oneCell' = true := fun u hu => by
  simp [p3, Pm] at hu
  rcases hu with rfl | rfl | rfl <;> rfl
theorem plL_push (L : List P3) (e : P3) : plL (L ++ [e]) = plL L ++ p3 e := by simp [plL]
theorem emp_box (B : Nat) (V : World) (hB : B ≤ V.heap.size) : ∃ W, V.alloc (.cells #[] 82) = W ∧ W.heap.size = V.heap.size + 1 ∧ W.ownsRow B 82 3 (.slice (some ⟨V.heap.size, 0, none⟩) 0 0) 0 [] ∧ Below V.heap.size V W :=
  ⟨_, rfl, by simp, ⟨rfl, .inr ⟨_, 0, #[], rfl, hB, heap_alloc_new V _, Nat.le_refl _, by simp, rfl, rfl⟩⟩, (Below.refl _ _).alloc (Nat.le_refl _) _⟩
theorem own_keep {B n g k cap : Nat} {V W : World} {xs : List Value} (h : V.ownsRow B 82 3 (.slice (some ⟨g, 0, none⟩) k cap) n xs) (hB : Below V.heap.size V W) : W.ownsRow B 82 3 (.slice (some ⟨g, 0, none⟩) k cap) n xs :=
  h.kept (row := none) ⟨hB.os, hB.tape, hB.output, hB.size, fun j hj _ => hB.block j hj⟩ (.inr (by simp [Value.ownBlock]))
/-- A list of permits is appended to one of its own. -/
theorem app_P {B g n cap b m c : Nat} {w : World} {xs news : List Value} (hown : w.ownsRow B 82 3 (.slice (some ⟨g, 0, none⟩) n cap) n xs) (hr : w.rangeAt b 0 news) (hl : news.length = m * 3) (h1 : ∀ u ∈ news, u.oneCell' = true) (hm : n + m ≤ 40) (hB : B ≤ w.heap.size) :
    ∃ g' cap' W', (∀ ty, (Builtin.append_ #[43, 43] ty #[.slice (some ⟨g, 0, none⟩) n cap, .slice (some ⟨b, 0, none⟩) m c]).run Tryz.prog w = .ok (.slice (some ⟨g', 0, none⟩) (n + m) cap') W') ∧ W'.ownsRow B 82 3 (.slice (some ⟨g', 0, none⟩) (n + m) cap') (n + m) (xs ++ news) ∧ B ≤ g' ∧ Below B w W' ∧
      ∀ {q : Nat} {cs : List Value}, w.rangeAt q 0 cs → q < w.heap.size → q ≠ g → W'.rangeAt q 0 cs := by
  obtain ⟨i, hi, hz, hs, hby⟩ := info_parts (P := Tryz.prog) (e := 82) (z := .agg (Pm 0 0 0)) (size := 3) (bytes := 4) (by kernel_rfl)
  obtain ⟨v', w', h1, h2, h3, h4⟩ := run_append_own (P := Tryz.prog) w B 43 0 82 i (.agg (Pm 0 0 0)) 3 4 Tryz.underlying43 hi hz hs hby rfl (by decide) _ n xs hown ⟨b, 0, none⟩ m c news hl (fun j u hj => by rw [Addr.add_mid]; exact hr j u hj) h1 (by unfold maxLen; omega) (by omega) hB
  have hg : B ≤ g := (hown.lt g rfl).1
  have h3' : Value.ownBlock (.slice (some ⟨g, 0, none⟩) n cap) = some g := rfl
  rw [h3'] at h3
  have e2 := h2
  rcases h2.2 with ⟨hv, _⟩ | ⟨g', cap', cur, rfl, hb, _⟩
  · exact absurd (h4.1 hv).1 (by simp)
  · exact ⟨g', cap', w', fun ty => h1, e2, hb, ⟨h3.os, h3.tape, h3.output, h3.size, fun j hj => h3.block j (by omega) (fun e => by have := Option.some.inj e; omega)⟩, fun hq hl hne j v hj => by
      have e : w'.heap[_]? = w.heap[_]? := h3.block _ hl (fun e => hne (Option.some.inj e))
      have := hq j v hj
      unfold World.cell? at this ⊢
      simp only [e] at this ⊢
      exact this⟩
theorem own_at {B g n cap : Nat} {w : World} {xs : List Value} (h : w.ownsRow B 82 3 (.slice (some ⟨g, 0, none⟩) n cap) n xs) : g < w.heap.size ∧ w.rangeAt g 0 xs := 
  ⟨(h.lt g rfl).2, fun j v hj => by have := h.cells (g := g) rfl j v hj; rwa [Addr.add_mid] at this⟩
theorem gr_boxes (w : World) : ∃ X, (w.alloc (.cells #[] 2)).alloc (.cells #[] 82) = X ∧ X.heap.size = w.heap.size + 1 + 1 ∧ VRow X 2 w.heap.size 0 [] ∧ Below w.heap.size w X := by
  refine ⟨_, rfl, by simp, ⟨#[], ?_, by simp, Nat.zero_le _, rfl, rfl⟩, ((Below.refl _ _).alloc (Nat.le_refl _) _).alloc (by simp) _⟩
  exact (heap_alloc_old _ _ (by simp)).trans (heap_alloc_new w _)
theorem gr_keep {w w' : World} {g q : Nat} {cs : List Value} (hr : w.rangeAt q 0 cs) (hl : q < w.heap.size) (h : w.grownBy w' (some g)) (hne : q ≠ g) : w'.rangeAt q 0 cs := fun j v hj => by
  have e := h.block q hl (fun e => hne (Option.some.inj e))
  have := hr j v hj
  unfold World.cell? at this ⊢
  simp only [e] at this ⊢
  exact this
set_option maxRecDepth 100000 in
set_option maxHeartbeats 2000000 in
theorem specGrant_any (G : Gd) (pw : Option Addr) (cw : Nat) (Lw : List T2) (hLw : Lw.length ≤ 1048576) (p : Option Addr) (c : Nat) (L : List P3) (hpr : prmB G Lw L = true) (hG : GdOk G) (b0 : Nat) (w : World) (hb : OfBox w b0 ⟨G, pw, Lw.length, cw⟩) (hpw : TsAt w pw Lw) (hp : PsAt w p L) :
    Calls Tryz.prog 65 #[.pointer (some ⟨b0, 0, none⟩), .slice p L.length c] w fun e w' => ∃ g cap, e = .returned (.slice (some ⟨g, 0, none⟩) (grJ G Lw L L.length).length cap) ∧ CellsI w' (some ⟨g, 0, none⟩) (grJ G Lw L L.length) ∧ Below w.heap.size w w' := by
  obtain ⟨hv, hL6, hpm, hm6, hwt⟩ := prm_is hpr
  have TK := Lib.hid (fun (q : Option Addr) (d : Nat) (J : List Nat) (hJ : Asc L.length J) V (h : Below w.heap.size w V) (h2 : PsAt V q (selL L J)) => l07Kept_any G pw cw Lw hLw (wt_cells hwt) q d (selL L J) (by rw [selL_len]; have := hJ.len; omega) (fun e he => hpm e (selL_mem hJ e he)) hv hG b0 V (hb.below h hb.lt) (hpw.keep h) h2)
  simp only [selL_len] at TK
  have PP := Lib.hid hp
  obtain ⟨n, hn⟩ : ∃ n, L.length = n := ⟨_, rfl⟩
  have HN := Lib.hid hn
  rw [hn] at TK hL6 ⊢
  clear hv hpm hm6 hwt hp hpw hb hn hpr hLw hG
  go_enter Tryz.func65, Tryz.ntmps65
  go_upto_region 4 with (fail)
  obtain ⟨X, hX, zX, vX, bX⟩ := gr_boxes w
  rw [hX]
  have HX := Lib.hid bX
  have VX := Lib.hid vX
  have ZX := Lib.hid zX
  obtain ⟨B0, hB0⟩ : ∃ B0, w.heap.size = B0 := ⟨_, rfl⟩
  rw [hB0] at VX ZX
  try simp only [hB0]
  have HB0 := Lib.hid hB0
  have hz1 : B0 + 1 < X.heap.size := by have := ZX.out; omega
  clear hX zX vX bX hB0
  go_loopw [5, 6, 7] (fun (v u i : Value) (wr : World) => ∃ (k m g cap g2 c2 : Nat), k ≤ n ∧ i = .int .i64 (k : Int) ∧ Hid ((grJ G Lw L k).length = m) ∧ v = .slice (some ⟨g, 0, none⟩) m cap ∧ u = .slice (some ⟨g2, 0, none⟩) m c2 ∧ Hid (VRow wr 2 g cap ((grJ G Lw L k).map IV)) ∧ Hid (g2 < wr.heap.size ∧ wr.rangeAt g2 0 (plL (selL L (grJ G Lw L k)))) ∧ Hid (g ≠ g2 ∧ B0 ≤ g) ∧ Hid (Below B0 w wr)) (fun _ _ i _ => n - (intOf i).toNat)
  case atStart => exact ⟨0, 0, B0, 0, B0 + 1, 0, by omega, rfl, Lib.hid rfl, rfl, rfl, VX, Lib.hid ⟨hz1, fun j v hj => by simp [grJ, selL, plL] at hj⟩, Lib.hid ⟨by omega, Nat.le_refl _⟩, Lib.hid (by have := HX.out; rwa [HB0.out] at this)⟩
  case round =>
    obtain ⟨k, m, g, cap, g2, c2, hk, rfl, hlen, rfl, rfl, hvr, hgr, hne, hb⟩ := hrel
    by_cases hlt : k < n
    · have hki : (k : Int) < n := by omega
      obtain ⟨e, he⟩ : ∃ e, L[k]? = some e := ⟨_, List.getElem?_eq_getElem (by rw [HN.out]; exact hlt)⟩
      obtain ⟨b, o, rfl, hr⟩ := (PP.out.keep (by have h := hb.out; rwa [← HB0.out] at h)) k e he
      obtain ⟨J, hJ⟩ : ∃ J, grJ G Lw L k = J := ⟨_, rfl⟩
      have hasc := grJ_asc G Lw L k
      rw [hJ] at hlen hvr hgr hasc
      have hm := hlen.out
      have hm6 : m ≤ 6 := by rw [← hm]; have := hasc.len; omega
      have HASC := Lib.hid (show Asc n (J ++ [k]) from (hasc.push (Nat.le_refl _)).up (by omega))
      have HSEL := Lib.hid (selL_push J he)
      have HJK := Lib.hid hJ
      have HVR := Lib.hid hvr.out
      obtain ⟨xo, xc, r⟩ := e
      obtain ⟨kb, hkb⟩ : ∃ kb, keptB G Lw (selL L (J ++ [k])) = kb := ⟨_, rfl⟩
      have HKB := Lib.hid hkb
      have TK1 := Lib.hid (fun (q : Option Addr) (d : Nat) V (h : Below w.heap.size w V) (h2 : PsAt V q (selL L (J ++ [k]))) => TK.out q d (J ++ [k]) HASC.out V h h2)
      rw [hkb] at TK1
      simp only [List.length_append, List.length_singleton, hm] at TK1
      have hGC := Lib.hid (fun V (h : Below wr.heap.size wr V) => range_kept hgr.out.2 hgr.out.1 V h)
      have HGG := Lib.hid (show g < wr.heap.size from hvr.out.lt)
      have HRR := Lib.hid (fun V (h : Below wr.heap.size wr V) => range_kept hr (World.block_lt_of_cell? wr _ (hr 0 _ rfl)) V h)
      have JNO := Lib.hid (fun (h : keptB G Lw (selL L (J ++ [k])) = false) => (show grJ G Lw L (k + 1) = J from by rw [grJ_no (by rw [HJK.out]; exact h), HJK.out]))
      have JYES := Lib.hid (fun (h : keptB G Lw (selL L (J ++ [k])) = true) => (show grJ G Lw L (k + 1) = J ++ [k] from by rw [grJ_yes (by rw [HJK.out]; exact h), HJK.out]))
      have HBW := Lib.hid (show B0 ≤ wr.heap.size by have h := hb.out.size; have h2 := HB0.out; omega)
      clear he hkb hJ hlen hvr hr
      go_upto_region 6 with (fail)
      have hD : Below wr.heap.size wr wr.drew := (Below.refl _ _).drew
      refine wp_region_plan (ops' := regOf Tryz.f65 6) (.take 1 (.take 3 (.take 4 (.take 5 (.take 6 (.two 0 7 (.two 2 7 (.run 7 (.run 8 (.take 9 .fin))) (.run 2 (.run 8 (.take 9 .fin)))) (.run 0 (.run 2 (.run 8 (.take 9 .fin))))))))))  (Below wr.heap.size wr) (by kernel_rfl) (by kernel_rfl) (by kernel_rfl) (by kernel_rfl) (by kernel_rfl) hD ?_
      refine plan_pure (some 18) (.slice (some ⟨g2, 0, none⟩) m c2) (by kernel_rfl) (by kernel_rfl) (by kernel_rfl) (fun _ => (by kernel_rfl)) ?_
      refine plan_pure (some 20) (.slice (some ⟨b, o, none⟩) n c) (by kernel_rfl) (by kernel_rfl) (by kernel_rfl) (fun _ => (by kernel_rfl)) ?_
      refine plan_pure (some 21) (.int .i64 (k : Int)) (by kernel_rfl) (by kernel_rfl) (by kernel_rfl) (fun _ => (by kernel_rfl)) ?_
      refine plan_pure (some 22) (.pointer (some ⟨b, o + k * 3, none⟩)) (by kernel_rfl) (by kernel_rfl) (by kernel_rfl) (index_pm (T := 43) (n := n) (c := c) (x := .tmp 20) (y := .tmp 21) (by kernel_rfl) (.inl rfl) (by kernel_rfl) (by kernel_rfl) hlt) ?_
      refine plan_load (some 23) 82 (.tmp 22) b (o + k * 3) (Pm xo xc r).toList _ (by kernel_rfl) (by kernel_rfl) (by kernel_rfl) (by kernel_rfl) (by kernel_rfl) (fun w' hw' => HRR.out w' hw') Tryz.underlying82 rfl (by kernel_rfl) ?_
      refine plan_two ?_ ?_
      · obtain ⟨V0a, e0a, z0a, o0a, q0a⟩ := emp_box wr.heap.size wr.drew hD.size
        have hB0a := hD.trans (q0a.mono hD.size)
        refine plan_do (some 17) (.slice (some ⟨wr.drew.heap.size, 0, none⟩) 0 0) V0a (by kernel_rfl) (by kernel_rfl) (by kernel_rfl) (.inl (by rw [← e0a]; kernel_rfl)) hB0a ?_
        refine plan_two ?_ ?_
        · obtain ⟨g2aa, c2aa, V2aa, m2aa, o2aa, b2aa, q2aa, _⟩ := app_P (c := c2) o0a (hGC.out _ hB0a) (by rw [plL_len, selL_len, hm]) (plL_one _) (by omega) hB0a.size
          simp only [Nat.zero_add, List.nil_append] at m2aa o2aa
          have hB2aa : Below wr.heap.size wr V2aa := hB0a.trans q2aa
          refine plan_do (some 19) (.slice (some ⟨g2aa, 0, none⟩) m c2aa) V2aa (by kernel_rfl) (by kernel_rfl) (by kernel_rfl) (.inl (app_op (t := 43) (x := .tmp 17) (y := .tmp 18) (by kernel_rfl) (by kernel_rfl) (by kernel_rfl) m2aa)) hB2aa ?_
          obtain ⟨V7aa, e7aa, z7aa, r7aa, q7aa⟩ := one_box (Pm xo xc r) 82 V2aa
          have hB7aa := hB2aa.trans (q7aa.mono hB2aa.size)
          have l7aa : V2aa.heap.size < V7aa.heap.size := by omega
          have p7aa : wr.heap.size ≤ V2aa.heap.size := hB2aa.size
          refine plan_do (some 24) (.slice (some ⟨V2aa.heap.size, 0, none⟩) 1 1) V7aa (by kernel_rfl) (by kernel_rfl) (by kernel_rfl) (.inl (by rw [← e7aa]; kernel_rfl)) hB7aa ?_
          obtain ⟨g8aa, c8aa, V8aa, m8aa, o8aa, b8aa, q8aa, _⟩ := app_P (news := p3 (xo, xc, r)) (c := 1) (own_keep o2aa q7aa) r7aa (show (p3 (xo, xc, r)).length = 1 * 3 from rfl) (p3_one _) (by omega) hB7aa.size
          have hB8aa : Below wr.heap.size wr V8aa := hB7aa.trans q8aa
          refine plan_do (some 25) (.slice (some ⟨g8aa, 0, none⟩) (m + 1) c8aa) V8aa (by kernel_rfl) (by kernel_rfl) (by kernel_rfl) (.inl (app_op (t := 43) (x := .tmp 19) (y := .tmp 24) (by kernel_rfl) (by kernel_rfl) (by kernel_rfl) m8aa)) hB8aa ?_
          refine plan_pure (some 8) (.slice (some ⟨g8aa, 0, none⟩) (m + 1) c8aa) (by kernel_rfl) (by kernel_rfl) (by kernel_rfl) (fun _ => (by kernel_rfl)) ?_
          refine plan_end (NoPanic.normal ?_)
          simp only [Act.put, List.setIfInBounds_toArray, List.set_cons_zero, List.set_cons_succ]
          have HS8 := Lib.hid (own_at o8aa)
          have hps : PsAt V8aa (some ⟨g8aa, 0, none⟩) (selL L (J ++ [k])) := by rw [HSEL.out]; exact CAt.ps (.inr ⟨g8aa, rfl, HS8.out.1, by rw [plL_push]; exact HS8.out.2⟩)
          have hw8 : Below B0 w V8aa := hb.out.trans (hB8aa.mono HBW.out)
          have TK2 := Lib.hid (TK1.out (some ⟨g8aa, 0, none⟩) c8aa V8aa (by rw [HB0.out]; exact hw8) hps)
          have VR8 := Lib.hid (HVR.out.below hB8aa HGG.out)
          have HB8 := Lib.hid hB8aa
          have HW8 := Lib.hid hw8
          have HQ8 := Lib.hid (show B0 ≤ V8aa.heap.size from Nat.le_trans HBW.out hB8aa.size)
          have HG8 := Lib.hid (show wr.heap.size ≤ g8aa from b8aa)
          have HLJ := Lib.hid hm
          clear hps hw8 hB8aa o8aa m8aa b8aa q8aa z7aa l7aa p7aa r7aa q7aa hB7aa e7aa hB2aa q2aa o2aa m2aa b2aa hB0a q0a o0a z0a e0a hD hm
          cases kb
          · go_wp2_with (go_at_call 63; refine TK2.out.mono ?_; rintro e V9 ⟨rfl, hV⟩; have HB9 := Lib.hid (HB8.out.trans (hV.mono HB8.out.size)); have HW9 := Lib.hid (HW8.out.trans (hV.mono HQ8.out)); have HQ9 := Lib.hid (show B0 ≤ V9.heap.size from Nat.le_trans HQ8.out hV.size); have VR9 := Lib.hid (VR8.out.below hV VR8.out.lt); have HS9 := Lib.hid (show g8aa < V9.heap.size ∧ V9.rangeAt g8aa 0 (plL (selL L J) ++ p3 (xo, xc, r)) from ⟨Nat.lt_of_lt_of_le HS8.out.1 hV.size, range_kept HS8.out.2 HS8.out.1 _ hV⟩); clear hV)
            go_roundw
            case rel => exact ⟨k + 1, m, g, cap, g2, c2, by omega, by go_num, Lib.hid (by rw [JNO.out HKB.out]; exact HLJ.out), rfl, rfl, Lib.hid (by rw [JNO.out HKB.out]; exact VR9.out), Lib.hid (by rw [JNO.out HKB.out]; exact ⟨Nat.lt_of_lt_of_le hgr.out.1 HB9.out.size, hGC.out _ HB9.out⟩), hne, HW9⟩
            case measure => simp [intOf]; omega
          · go_wp2_with (first | (go_at_call 63; refine TK2.out.mono ?_; rintro e V9 ⟨rfl, hV⟩; have HB9 := Lib.hid (HB8.out.trans (hV.mono HB8.out.size)); have HW9 := Lib.hid (HW8.out.trans (hV.mono HQ8.out)); have HQ9 := Lib.hid (show B0 ≤ V9.heap.size from Nat.le_trans HQ8.out hV.size); have VR9 := Lib.hid (VR8.out.below hV VR8.out.lt); have HS9 := Lib.hid (show g8aa < V9.heap.size ∧ V9.rangeAt g8aa 0 (plL (selL L J) ++ p3 (xo, xc, r)) from ⟨Nat.lt_of_lt_of_le HS8.out.1 hV.size, range_kept HS8.out.2 HS8.out.1 _ hV⟩); clear hV) | (refine wpList_appI (by kernel_rfl) _ _ rfl VR9.out HLJ.out (by omega) k rfl (by simp [go_sem]; done) ?_; intro g3 cap3 w3 h1 h2 h3; have H1 := Lib.hid h1; have H2 := Lib.hid h2; have H3 := Lib.hid h3; clear h1 h2 h3))
            go_roundw
            case rel => exact ⟨k + 1, m + 1, g3, cap3, g8aa, c8aa, by omega, by go_num, Lib.hid (by rw [JYES.out HKB.out, List.length_append, HLJ.out]; rfl), rfl, rfl, Lib.hid (by rw [JYES.out HKB.out]; exact H1.out), Lib.hid (by rw [JYES.out HKB.out, HSEL.out, plL_push]; exact ⟨Nat.lt_of_lt_of_le HS9.out.1 H2.out.size, gr_keep HS9.out.2 HS9.out.1 H2.out (by have h1 := HG8.out; have h2 := HGG.out; omega)⟩), Lib.hid (by have h1 := HG8.out; have h2 := HGG.out; have h3 := H3.out; have h4 := hne.out; have h5 := HS9.out.1; have h6 := HB9.out.size; rcases h3 with h3 | h3 <;> omega), Lib.hid (HW9.out.trans (grown_below H2.out hne.out.2 HQ9.out))⟩
            case measure => simp [intOf]; omega
        · obtain ⟨V7ab, e7ab, z7ab, r7ab, q7ab⟩ := one_box (Pm xo xc r) 82 V0a
          have hB7ab := hB0a.trans (q7ab.mono hB0a.size)
          have l7ab : V0a.heap.size < V7ab.heap.size := by omega
          have p7ab : wr.heap.size ≤ V0a.heap.size := hB0a.size
          refine plan_do (some 24) (.slice (some ⟨V0a.heap.size, 0, none⟩) 1 1) V7ab (by kernel_rfl) (by kernel_rfl) (by kernel_rfl) (.inl (by rw [← e7ab]; kernel_rfl)) hB7ab ?_
          obtain ⟨g2ab, c2ab, V2ab, m2ab, o2ab, b2ab, q2ab, x2ab⟩ := app_P (c := c2) (own_keep o0a q7ab) (hGC.out _ hB7ab) (by rw [plL_len, selL_len, hm]) (plL_one _) (by omega) hB7ab.size
          simp only [Nat.zero_add, List.nil_append] at m2ab o2ab
          have hB2ab : Below wr.heap.size wr V2ab := hB7ab.trans q2ab
          refine plan_do (some 19) (.slice (some ⟨g2ab, 0, none⟩) m c2ab) V2ab (by kernel_rfl) (by kernel_rfl) (by kernel_rfl) (.inl (app_op (t := 43) (x := .tmp 17) (y := .tmp 18) (by kernel_rfl) (by kernel_rfl) (by kernel_rfl) m2ab)) hB2ab ?_
          have S2ab := x2ab r7ab l7ab (by omega)
          obtain ⟨g8ab, c8ab, V8ab, m8ab, o8ab, b8ab, q8ab, _⟩ := app_P (news := p3 (xo, xc, r)) (c := 1) o2ab (S2ab) (show (p3 (xo, xc, r)).length = 1 * 3 from rfl) (p3_one _) (by omega) hB2ab.size
          have hB8ab : Below wr.heap.size wr V8ab := hB2ab.trans q8ab
          refine plan_do (some 25) (.slice (some ⟨g8ab, 0, none⟩) (m + 1) c8ab) V8ab (by kernel_rfl) (by kernel_rfl) (by kernel_rfl) (.inl (app_op (t := 43) (x := .tmp 19) (y := .tmp 24) (by kernel_rfl) (by kernel_rfl) (by kernel_rfl) m8ab)) hB8ab ?_
          refine plan_pure (some 8) (.slice (some ⟨g8ab, 0, none⟩) (m + 1) c8ab) (by kernel_rfl) (by kernel_rfl) (by kernel_rfl) (fun _ => (by kernel_rfl)) ?_
          refine plan_end (NoPanic.normal ?_)
          simp only [Act.put, List.setIfInBounds_toArray, List.set_cons_zero, List.set_cons_succ]
          have HS8 := Lib.hid (own_at o8ab)
          have hps : PsAt V8ab (some ⟨g8ab, 0, none⟩) (selL L (J ++ [k])) := by rw [HSEL.out]; exact CAt.ps (.inr ⟨g8ab, rfl, HS8.out.1, by rw [plL_push]; exact HS8.out.2⟩)
          have hw8 : Below B0 w V8ab := hb.out.trans (hB8ab.mono HBW.out)
          have TK2 := Lib.hid (TK1.out (some ⟨g8ab, 0, none⟩) c8ab V8ab (by rw [HB0.out]; exact hw8) hps)
          have VR8 := Lib.hid (HVR.out.below hB8ab HGG.out)
          have HB8 := Lib.hid hB8ab
          have HW8 := Lib.hid hw8
          have HQ8 := Lib.hid (show B0 ≤ V8ab.heap.size from Nat.le_trans HBW.out hB8ab.size)
          have HG8 := Lib.hid (show wr.heap.size ≤ g8ab from b8ab)
          have HLJ := Lib.hid hm
          clear hps hw8 hB8ab o8ab m8ab b8ab q8ab z7ab l7ab p7ab r7ab q7ab hB7ab e7ab hB2ab q2ab o2ab m2ab b2ab hB0a q0a o0a z0a e0a hD hm S2ab x2ab
          cases kb
          · go_wp2_with (go_at_call 63; refine TK2.out.mono ?_; rintro e V9 ⟨rfl, hV⟩; have HB9 := Lib.hid (HB8.out.trans (hV.mono HB8.out.size)); have HW9 := Lib.hid (HW8.out.trans (hV.mono HQ8.out)); have HQ9 := Lib.hid (show B0 ≤ V9.heap.size from Nat.le_trans HQ8.out hV.size); have VR9 := Lib.hid (VR8.out.below hV VR8.out.lt); have HS9 := Lib.hid (show g8ab < V9.heap.size ∧ V9.rangeAt g8ab 0 (plL (selL L J) ++ p3 (xo, xc, r)) from ⟨Nat.lt_of_lt_of_le HS8.out.1 hV.size, range_kept HS8.out.2 HS8.out.1 _ hV⟩); clear hV)
            go_roundw
            case rel => exact ⟨k + 1, m, g, cap, g2, c2, by omega, by go_num, Lib.hid (by rw [JNO.out HKB.out]; exact HLJ.out), rfl, rfl, Lib.hid (by rw [JNO.out HKB.out]; exact VR9.out), Lib.hid (by rw [JNO.out HKB.out]; exact ⟨Nat.lt_of_lt_of_le hgr.out.1 HB9.out.size, hGC.out _ HB9.out⟩), hne, HW9⟩
            case measure => simp [intOf]; omega
          · go_wp2_with (first | (go_at_call 63; refine TK2.out.mono ?_; rintro e V9 ⟨rfl, hV⟩; have HB9 := Lib.hid (HB8.out.trans (hV.mono HB8.out.size)); have HW9 := Lib.hid (HW8.out.trans (hV.mono HQ8.out)); have HQ9 := Lib.hid (show B0 ≤ V9.heap.size from Nat.le_trans HQ8.out hV.size); have VR9 := Lib.hid (VR8.out.below hV VR8.out.lt); have HS9 := Lib.hid (show g8ab < V9.heap.size ∧ V9.rangeAt g8ab 0 (plL (selL L J) ++ p3 (xo, xc, r)) from ⟨Nat.lt_of_lt_of_le HS8.out.1 hV.size, range_kept HS8.out.2 HS8.out.1 _ hV⟩); clear hV) | (refine wpList_appI (by kernel_rfl) _ _ rfl VR9.out HLJ.out (by omega) k rfl (by simp [go_sem]; done) ?_; intro g3 cap3 w3 h1 h2 h3; have H1 := Lib.hid h1; have H2 := Lib.hid h2; have H3 := Lib.hid h3; clear h1 h2 h3))
            go_roundw
            case rel => exact ⟨k + 1, m + 1, g3, cap3, g8ab, c8ab, by omega, by go_num, Lib.hid (by rw [JYES.out HKB.out, List.length_append, HLJ.out]; rfl), rfl, rfl, Lib.hid (by rw [JYES.out HKB.out]; exact H1.out), Lib.hid (by rw [JYES.out HKB.out, HSEL.out, plL_push]; exact ⟨Nat.lt_of_lt_of_le HS9.out.1 H2.out.size, gr_keep HS9.out.2 HS9.out.1 H2.out (by have h1 := HG8.out; have h2 := HGG.out; omega)⟩), Lib.hid (by have h1 := HG8.out; have h2 := HGG.out; have h3 := H3.out; have h4 := hne.out; have h5 := HS9.out.1; have h6 := HB9.out.size; rcases h3 with h3 | h3 <;> omega), Lib.hid (HW9.out.trans (grown_below H2.out hne.out.2 HQ9.out))⟩
            case measure => simp [intOf]; omega
      · obtain ⟨V7b, e7b, z7b, r7b, q7b⟩ := one_box (Pm xo xc r) 82 wr.drew
        have hB7b := hD.trans (q7b.mono hD.size)
        have l7b : wr.drew.heap.size < V7b.heap.size := by omega
        have p7b : wr.heap.size ≤ wr.drew.heap.size := hD.size
        refine plan_do (some 24) (.slice (some ⟨wr.drew.heap.size, 0, none⟩) 1 1) V7b (by kernel_rfl) (by kernel_rfl) (by kernel_rfl) (.inl (by rw [← e7b]; kernel_rfl)) hB7b ?_
        obtain ⟨V0b, e0b, z0b, o0b, q0b⟩ := emp_box wr.heap.size V7b hB7b.size
        have hB0b := hB7b.trans (q0b.mono hB7b.size)
        refine plan_do (some 17) (.slice (some ⟨V7b.heap.size, 0, none⟩) 0 0) V0b (by kernel_rfl) (by kernel_rfl) (by kernel_rfl) (.inl (by rw [← e0b]; kernel_rfl)) hB0b ?_
        obtain ⟨g2b, c2b, V2b, m2b, o2b, b2b, q2b, x2b⟩ := app_P (c := c2) o0b (hGC.out _ hB0b) (by rw [plL_len, selL_len, hm]) (plL_one _) (by omega) hB0b.size
        simp only [Nat.zero_add, List.nil_append] at m2b o2b
        have hB2b : Below wr.heap.size wr V2b := hB0b.trans q2b
        refine plan_do (some 19) (.slice (some ⟨g2b, 0, none⟩) m c2b) V2b (by kernel_rfl) (by kernel_rfl) (by kernel_rfl) (.inl (app_op (t := 43) (x := .tmp 17) (y := .tmp 18) (by kernel_rfl) (by kernel_rfl) (by kernel_rfl) m2b)) hB2b ?_
        have S2b := x2b (range_kept r7b l7b _ q0b) (Nat.lt_of_lt_of_le l7b q0b.size) (by omega)
        obtain ⟨g8b, c8b, V8b, m8b, o8b, b8b, q8b, _⟩ := app_P (news := p3 (xo, xc, r)) (c := 1) o2b S2b (show (p3 (xo, xc, r)).length = 1 * 3 from rfl) (p3_one _) (by omega) hB2b.size
        have hB8b : Below wr.heap.size wr V8b := hB2b.trans q8b
        refine plan_do (some 25) (.slice (some ⟨g8b, 0, none⟩) (m + 1) c8b) V8b (by kernel_rfl) (by kernel_rfl) (by kernel_rfl) (.inl (app_op (t := 43) (x := .tmp 19) (y := .tmp 24) (by kernel_rfl) (by kernel_rfl) (by kernel_rfl) m8b)) hB8b ?_
        refine plan_pure (some 8) (.slice (some ⟨g8b, 0, none⟩) (m + 1) c8b) (by kernel_rfl) (by kernel_rfl) (by kernel_rfl) (fun _ => (by kernel_rfl)) ?_
        refine plan_end (NoPanic.normal ?_)
        simp only [Act.put, List.setIfInBounds_toArray, List.set_cons_zero, List.set_cons_succ]
        have HS8 := Lib.hid (own_at o8b)
        have hps : PsAt V8b (some ⟨g8b, 0, none⟩) (selL L (J ++ [k])) := by rw [HSEL.out]; exact CAt.ps (.inr ⟨g8b, rfl, HS8.out.1, by rw [plL_push]; exact HS8.out.2⟩)
        have hw8 : Below B0 w V8b := hb.out.trans (hB8b.mono HBW.out)
        have TK2 := Lib.hid (TK1.out (some ⟨g8b, 0, none⟩) c8b V8b (by rw [HB0.out]; exact hw8) hps)
        have VR8 := Lib.hid (HVR.out.below hB8b HGG.out)
        have HB8 := Lib.hid hB8b
        have HW8 := Lib.hid hw8
        have HQ8 := Lib.hid (show B0 ≤ V8b.heap.size from Nat.le_trans HBW.out hB8b.size)
        have HG8 := Lib.hid (show wr.heap.size ≤ g8b from b8b)
        have HLJ := Lib.hid hm
        clear hps hw8 hB8b o8b m8b b8b q8b z7b l7b p7b r7b q7b hB7b e7b hB2b q2b o2b m2b b2b hB0b q0b o0b z0b e0b hD hm S2b x2b
        cases kb
        · go_wp2_with (go_at_call 63; refine TK2.out.mono ?_; rintro e V9 ⟨rfl, hV⟩; have HB9 := Lib.hid (HB8.out.trans (hV.mono HB8.out.size)); have HW9 := Lib.hid (HW8.out.trans (hV.mono HQ8.out)); have HQ9 := Lib.hid (show B0 ≤ V9.heap.size from Nat.le_trans HQ8.out hV.size); have VR9 := Lib.hid (VR8.out.below hV VR8.out.lt); have HS9 := Lib.hid (show g8b < V9.heap.size ∧ V9.rangeAt g8b 0 (plL (selL L J) ++ p3 (xo, xc, r)) from ⟨Nat.lt_of_lt_of_le HS8.out.1 hV.size, range_kept HS8.out.2 HS8.out.1 _ hV⟩); clear hV)
          go_roundw
          case rel => exact ⟨k + 1, m, g, cap, g2, c2, by omega, by go_num, Lib.hid (by rw [JNO.out HKB.out]; exact HLJ.out), rfl, rfl, Lib.hid (by rw [JNO.out HKB.out]; exact VR9.out), Lib.hid (by rw [JNO.out HKB.out]; exact ⟨Nat.lt_of_lt_of_le hgr.out.1 HB9.out.size, hGC.out _ HB9.out⟩), hne, HW9⟩
          case measure => simp [intOf]; omega
        · go_wp2_with (first | (go_at_call 63; refine TK2.out.mono ?_; rintro e V9 ⟨rfl, hV⟩; have HB9 := Lib.hid (HB8.out.trans (hV.mono HB8.out.size)); have HW9 := Lib.hid (HW8.out.trans (hV.mono HQ8.out)); have HQ9 := Lib.hid (show B0 ≤ V9.heap.size from Nat.le_trans HQ8.out hV.size); have VR9 := Lib.hid (VR8.out.below hV VR8.out.lt); have HS9 := Lib.hid (show g8b < V9.heap.size ∧ V9.rangeAt g8b 0 (plL (selL L J) ++ p3 (xo, xc, r)) from ⟨Nat.lt_of_lt_of_le HS8.out.1 hV.size, range_kept HS8.out.2 HS8.out.1 _ hV⟩); clear hV) | (refine wpList_appI (by kernel_rfl) _ _ rfl VR9.out HLJ.out (by omega) k rfl (by simp [go_sem]; done) ?_; intro g3 cap3 w3 h1 h2 h3; have H1 := Lib.hid h1; have H2 := Lib.hid h2; have H3 := Lib.hid h3; clear h1 h2 h3))
          go_roundw
          case rel => exact ⟨k + 1, m + 1, g3, cap3, g8b, c8b, by omega, by go_num, Lib.hid (by rw [JYES.out HKB.out, List.length_append, HLJ.out]; rfl), rfl, rfl, Lib.hid (by rw [JYES.out HKB.out]; exact H1.out), Lib.hid (by rw [JYES.out HKB.out, HSEL.out, plL_push]; exact ⟨Nat.lt_of_lt_of_le HS9.out.1 H2.out.size, gr_keep HS9.out.2 HS9.out.1 H2.out (by have h1 := HG8.out; have h2 := HGG.out; omega)⟩), Lib.hid (by have h1 := HG8.out; have h2 := HGG.out; have h3 := H3.out; have h4 := hne.out; have h5 := HS9.out.1; have h6 := HB9.out.size; rcases h3 with h3 | h3 <;> omega), Lib.hid (HW9.out.trans (grown_below H2.out hne.out.2 HQ9.out))⟩
          case measure => simp [intOf]; omega
    · obtain rfl : k = n := by omega
      go_wp2
      go_ret
      refine ⟨g, cap, by rw [hlen.out]; rfl, fun i v hvv => ⟨g, rfl, ?_⟩, by have h := hb.out; rwa [← HB0.out] at h⟩
      exact hvr.out.cell i _ (by rw [List.getElem?_map, hvv]; rfl)
end Go.Proofs.YtaghnminpfgdcaaGreatDoor
