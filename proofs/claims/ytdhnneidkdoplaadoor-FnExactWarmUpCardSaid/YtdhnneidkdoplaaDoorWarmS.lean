/- WarmUp: the model's and the program's. Condition (the program's): the table of math/bits is laid. -/
import Derived.Test.YtdhnneidkdoplaaDoorLeakI
namespace Go.Proofs.YtdhnneidkdoplaaDoor
open Go.RowKit Go.Shelf
attribute [local go_sem] Oper.semAt_some run_store_float
set_option linter.unusedSimpArgs false
set_option linter.unusedVariables false

/-- One head at the cells of a list. -/
def wrm (G : Gd) (h : Nat) (l : List Nat) : Gd := { G with h := fun i => if i ∈ l then h else G.h i }
theorem wrm_nil (G : Gd) (h : Nat) : wrm G h [] = G := by simp [wrm]
theorem wrm_snoc (G : Gd) (h : Nat) (l : List Nat) (k : Nat) : { wrm G h l with h := upd (wrm G h l).h k h } = wrm G h (l ++ [k]) := by
  have e : upd (wrm G h l).h k h = fun i => if i ∈ l ++ [k] then h else G.h i := by
    funext i
    unfold upd wrm
    by_cases e : i = k
    · subst e; simp
    · simp [e]
  rw [e]
  rfl
theorem ok_wrm {G : Gd} {h : Nat} {l : List Nat} (hG : GdOk G) (_hh : FloatKind.f32.has h) : GdOk (wrm G h l) := ⟨hG.wide, hG.high, hG.x, hG.c, hG.g, fun _ _ => trivial⟩
/-- The cells that are not fixed, among the first ones. -/
def frTo (G : Gd) (k : Nat) : List Nat := (List.range k).filter fun i => isB G i && !G.x.toNat.testBit i
theorem frTo_yes {G : Gd} {k : Nat} (h1 : isB G k = true) (h2 : G.x.toNat.testBit k = false) : frTo G (k + 1) = frTo G k ++ [k] := by
  unfold frTo
  rw [List.range_succ, List.filter_append, List.filter_cons, if_pos (by rw [h1, h2]; rfl), List.filter_nil]
theorem frTo_no {G : Gd} {k : Nat} (h : (isB G k && !G.x.toNat.testBit k) = false) : frTo G (k + 1) = frTo G k := by
  unfold frTo
  rw [List.range_succ, List.filter_append, List.filter_cons, if_neg (by rw [h]; decide), List.filter_nil, List.append_nil]
def warmN (G : Gd) (h : Nat) : Int := if validB G = true then (if plainB h = true then 0 else 2) else 1
def warmG (G : Gd) (h : Nat) : Gd := if warmN G h = 0 then wrm G h (frTo G 64) else zG
theorem warm_is (G : Gd) (h : Nat) : ∃ (A : Gd) (n : Int), GN (warmG G h) (warmN G h) = .tuple #[.agg (Grd A), .int .i64 n] := ⟨_, _, rfl⟩

set_option maxRecDepth 100000 in
set_option maxHeartbeats 2000000 in
theorem specWarm_any (G : Gd) (h : Nat) (w : World) (hG : GdOk G) (hh : FloatKind.f32.has h) :
    Calls Tryd.prog 25 #[.agg (Grd G), .float .f32 h] w fun e w' => e = .returned (GN (warmG G h) (warmN G h)) ∧ Below w.heap.size w w' := by
  have hz := (zero_of_info zeroGround).1
  go_enter Tryd.func25, Tryd.ntmps25
  go_upto_region 1 with (fail)
  obtain ⟨W, hW, hs, g1, g2, hB⟩ := gbox2 G zG 32 32 w
  rw [hW]
  clear hW
  have q1 := Lib.hid (fun n => (g1.below (Quiet.below ⟨n, rfl⟩ (w.heap.size + 1)) (by omega) : GBox (World.drewN W n) w.heap.size G))
  have q2 := Lib.hid (fun n => (g2.below (Quiet.below ⟨n, rfl⟩ (w.heap.size + 1 + 1)) (by omega) : GBox (World.drewN W n) (w.heap.size + 1) zG))
  have q3 := Lib.hid (fun n => (hB.trans (Quiet.below ⟨n, rfl⟩ _) : Below w.heap.size w (World.drewN W n)))
  have G1 := Lib.hid g1
  have HG := Lib.hid hG
  clear hs g1 g2 hB hG
  cases hv : validB G
  · have Hv := Lib.hid hv
    have R1 := Lib.hid (show warmN G h = 1 by simp [warmN, hv])
    clear hv
    go_wp2_with (first | (go_at_call 49; have hc := (l01Ok_any G _ _ G1.out.at' HG.out); rw [Hv.out] at hc; refine hc.mono ?_; clear hc; rintro e w' ⟨rfl, n, rfl⟩; have t1 := (q2.out n).there) | (refine st_stage 32 rfl ?_; refine wpList_store_mid rfl 32 _ _ rfl _ 0 (Grd (zG)) rfl rfl (by rw [Grd_size]; with_reducible exact t1) (by rw [Grd_size]; exact infoGround) (Grd_one _) ?_))
    refine bodyPost_ret (ret_GN rfl rfl rfl (q2.out n).store.range) rfl ⟨by unfold warmG; rw [R1.out]; rfl, below_setCells _ (by omega) _ _ _ (q3.out n)⟩
  · have Hv := Lib.hid hv
    cases hp : plainB h
    · have R1 := Lib.hid (show warmN G h = 2 by simp [warmN, hv, hp])
      have Hp := Lib.hid hp
      clear hv hp
      go_wp2_with (first | (go_at_call 49; have hc := (l01Ok_any G _ _ G1.out.at' HG.out); rw [Hv.out] at hc; refine hc.mono ?_; clear hc; rintro e w' ⟨rfl, n, rfl⟩; have t1 := (q2.out n).there) | (go_at_call 66; refine (l01Plain_is h false Hp.out _).mono ?_; rintro e w' ⟨rfl, rfl⟩) | (refine st_stage 32 rfl ?_; refine wpList_store_mid rfl 32 _ _ rfl _ 0 (Grd (zG)) rfl rfl (by rw [Grd_size]; with_reducible exact t1) (by rw [Grd_size]; exact infoGround) (Grd_one _) ?_))
      refine bodyPost_ret (ret_GN rfl rfl rfl (q2.out n).store.range) rfl ⟨by unfold warmG; rw [R1.out]; rfl, below_setCells _ (by omega) _ _ _ (q3.out n)⟩
    · have R1 := Lib.hid (show warmN G h = 0 by simp [warmN, hv, hp])
      have Hp := Lib.hid hp
      clear hv hp
      go_upto_region 5 with (first | (go_at_call 49; have hc := (l01Ok_any G _ _ G1.out.at' HG.out); rw [Hv.out] at hc; refine hc.mono ?_; clear hc; rintro e w' ⟨rfl, n, rfl⟩) | (go_at_call 66; refine (l01Plain_is h true Hp.out _).mono ?_; rintro e w' ⟨rfl, rfl⟩))
      obtain ⟨V, hV⟩ : ∃ V, World.drewN W n = V := ⟨_, rfl⟩
      have p1 := q1.out n
      have p2 := q2.out n
      have p3 := q3.out n
      rw [hV] at p1 p2 p3 ⊢
      have P1 := Lib.hid (show GBox V w.heap.size (wrm G h (frTo G 0)) by rw [show frTo G 0 = [] from rfl, wrm_nil]; exact p1)
      have P2 := Lib.hid p2
      have P3 := Lib.hid p3
      clear hV q1 q2 q3 G1 p1 p2 p3
      go_wp2
      go_loopw [6] (fun i wr => ∃ k : Nat, k ≤ 64 ∧ i = .int .i64 k ∧ Hid (GBox wr w.heap.size (wrm G h (frTo G k))) ∧ Hid (GBox wr (w.heap.size + 1) zG) ∧ Hid (Below w.heap.size w wr)) (fun i _ => 64 - (intOf i).toNat)
      case atStart => exact ⟨0, by omega, rfl, P1, P2, P3⟩
      case round =>
        clear P1 P2 P3
        obtain ⟨k, hk, rfl, Q1, Q2, D0⟩ := hrel
        by_cases hlt : k < 64
        · have hk2 : (k : Int) < 64 := by omega
          have OK := Lib.hid (ok_wrm (l := frTo G k) HG.out hh)
          cases hi : isB G k
          · have Hi := Lib.hid (show isB (wrm G h (frTo G k)) k = false from hi)
            have E := Lib.hid (frTo_no (G := G) (k := k) (by rw [hi]; rfl))
            clear hi
            go_wp2_with (go_at_call 51; refine (l01Is_is _ k hlt false Hi.out _ _ Q1.out.at' OK.out).mono ?_; rintro e w' ⟨rfl, rfl⟩)
            go_roundw
            case rel => exact ⟨k + 1, by omega, by go_num, by rw [E.out]; exact Q1, Q2, D0⟩
            case measure => simp [intOf]; omega
          · cases hf : G.x.toNat.testBit k
            · have Hi := Lib.hid (show isB (wrm G h (frTo G k)) k = true from hi)
              have Hf := Lib.hid (show (wrm G h (frTo G k)).x.toNat.testBit k = false from hf)
              have E := Lib.hid (frTo_yes hi hf)
              have b0 := Q1.out.at_some (130 + k) (by omega)
              obtain ⟨u, hu⟩ := Option.isSome_iff_exists.1 b0
              have f0 := Q1.out.free (130 + k) (by omega)
              have Qa := Lib.hid (show GBox (wr.setCell ⟨w.heap.size, 130 + k, none⟩ (.float .f32 h)) w.heap.size (wrm G h (frTo G k ++ [k])) by rw [← wrm_snoc]; exact Q1.out.putH hlt)
              have Qb := Lib.hid (Q2.out.far (b' := w.heap.size) (k := 130 + k) (v := .float .f32 h) (by omega))
              have Da := Lib.hid (D0.out.setCell (p := ⟨w.heap.size, 130 + k, none⟩) (by simp) (.float .f32 h))
              clear hi hf b0
              go_wp2_with (first | (go_at_call 51; refine (l01Is_is _ k hlt true Hi.out _ _ Q1.out.at' OK.out).mono ?_; rintro e w' ⟨rfl, rfl⟩) | (go_at_call 52; refine (l01Fixed_is _ k hlt false Hf.out _ _ Q1.out.at' OK.out).mono ?_; rintro e w' ⟨rfl, rfl⟩))
              go_roundw
              case rel => exact ⟨k + 1, by omega, by go_num, by rw [E.out]; exact Qa, Qb, Da⟩
              case measure => simp [intOf]; omega
            · have Hi := Lib.hid (show isB (wrm G h (frTo G k)) k = true from hi)
              have Hf := Lib.hid (show (wrm G h (frTo G k)).x.toNat.testBit k = true from hf)
              have E := Lib.hid (frTo_no (G := G) (k := k) (by rw [hf]; simp))
              clear hi hf
              go_wp2_with (first | (go_at_call 51; refine (l01Is_is _ k hlt true Hi.out _ _ Q1.out.at' OK.out).mono ?_; rintro e w' ⟨rfl, rfl⟩) | (go_at_call 52; refine (l01Fixed_is _ k hlt true Hf.out _ _ Q1.out.at' OK.out).mono ?_; rintro e w' ⟨rfl, rfl⟩))
              go_roundw
              case rel => exact ⟨k + 1, by omega, by go_num, by rw [E.out]; exact Q1, Q2, D0⟩
              case measure => simp [intOf]; omega
        · obtain rfl : k = 64 := by omega
          have rr := Q1.out.range
          have tt := Q2.out.there
          go_wp2_with (first | (refine ld_stage 32 rfl ?_; refine wpList_load_mid rfl 32 _ rfl (w.heap.size) 0 rfl (GrdL (wrm G h (frTo G 64))) _ rr Tryd.underlying32 rfl (by rw [GrdL_length]; exact infoGround) ?_) | (refine st_stage 32 rfl ?_; refine wpList_store_mid rfl 32 _ _ rfl _ 0 (Grd (wrm G h (frTo G 64))) rfl rfl (by rw [Grd_size]; with_reducible exact tt) (by rw [Grd_size]; exact infoGround) (Grd_one _) ?_))
          refine bodyPost_ret (ret_GN rfl rfl rfl Q2.out.store.range) rfl ⟨by unfold warmG; rw [R1.out]; rfl, below_setCells _ (by omega) _ _ _ D0.out⟩
end Go.Proofs.YtdhnneidkdoplaaDoor
