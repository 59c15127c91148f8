/- Two lists that are the same; a cell that is asked for: two functions of the model's. No condition. -/
import Derived.Test.YtjhaonfdapldcaaDoorPas
import Derived.Test.YtjhaonfdapldcaaDoorLawWaterPath
namespace Go.Proofs.YtjhaonfdapldcaaDoor
open Go Go.RowKit
set_option linter.unusedSimpArgs false
set_option linter.unusedVariables false
attribute [local go_sem] Oper.semAt_some
theorem neq_sameP {op : Oper} {a : Act} {x y : Operand} {v : Int} (ho : op.op = .binOp .neq 2 x y 2) (hx : a.eval x = .int .i64 v) (hy : a.eval y = .int .i64 v) (w : World) :
    (execOp a.eval op).run Tryd.prog w = .ok (.value (.bool false)) w := by
  unfold execOp
  simp only [ho, hx, hy]
  go_simp

set_option maxRecDepth 100000 in
set_option maxHeartbeats 4000000 in
theorem sameP_any (p q : Option Addr) (c d n : Nat) (A : List Nat) (hA : A.length = n) (hn : n ≤ 1048576) (w : World) (hp : CellsI w p A) (hq : CellsI w q A) :
    Calls Tryd.prog 45 #[.slice p n c, .slice q n d] w fun e w' => e = .returned (.bool true) ∧ Below w.heap.size w w' := by
  have HP := Lib.hid hp
  have HQ := Lib.hid hq
  have HA := Lib.hid hA
  clear hp hq hA
  go_enter Tryd.func45, Tryd.ntmps45
  go_upto_region 4 with (fail)
  go_loopw [5] (fun i wr => ∃ k : Nat, k ≤ n ∧ i = .int .i64 k ∧ Hid (Below w.heap.size w wr)) (fun i _ => n - (intOf i).toNat)
  case atStart => exact ⟨0, by omega, rfl, Lib.hid (Below.refl _ _)⟩
  case round =>
    obtain ⟨k, hk, rfl, hB⟩ := hrel
    by_cases hlt : k < n
    · have hki : (k : Int) < n := by omega
      obtain ⟨e, he⟩ : ∃ e, A[k]? = some e := ⟨_, List.getElem?_eq_getElem (by rw [HA.out]; exact hlt)⟩
      obtain ⟨b1, rfl, c1⟩ := (HP.out.keep hB.out) k e he
      obtain ⟨b2, rfl, c2⟩ := (HQ.out.keep hB.out) k e he
      clear he
      go_upto_region 6 with (fail)
      refine wp_region_calm (ops' := regOf Tryd.f45 6) [0, 1, 2, 3, 4, 5, 6, 7, 8] [] .fin (Below (wr.heap.size) wr) [(0, One (.slice (some ⟨b1, 0, none⟩) n c)), (1, One (.int .i64 (k : Int))), (2, One (.pointer (some ⟨b1, k, none⟩))), (3, One (.int .i64 (e : Int))), (4, One (.slice (some ⟨b2, 0, none⟩) n d)), (5, One (.int .i64 (k : Int))), (6, One (.pointer (some ⟨b2, k, none⟩))), (7, One (.int .i64 (e : Int))), (8, One (.bool false))] (by kernel_rfl) (by kernel_rfl) (by kernel_rfl) (by kernel_rfl) (by kernel_rfl) (by kernel_rfl) (by kernel_rfl) (by kernel_rfl) rfl ((Below.refl _ _).drew) ?_
      refine calm_pure (some 17) (by kernel_rfl) (by kernel_rfl) (by kernel_rfl) (fun _ => by kernel_rfl) ?_
      refine calm_pure (some 18) (by kernel_rfl) (by kernel_rfl) (by kernel_rfl) (fun _ => by kernel_rfl) ?_
      refine calm_pure (some 19) (by kernel_rfl) (by kernel_rfl) (by kernel_rfl) (fun _ => index_i64 (n := n) (c := c) (k := k) (x := .tmp 17) (y := .tmp 18) (by kernel_rfl) (by kernel_rfl) (by kernel_rfl) hlt _) ?_
      refine calm_read (some 20) (by kernel_rfl) (by kernel_rfl) (by kernel_rfl) (fun w' hw' => load_cell (ty := 2) (x := .tmp 19) (b := b1) (o := k) (by kernel_rfl) (by kernel_rfl) Tryd.underlying2 rfl ((fun w' (hw' : Below (wr.heap.size) wr w') => (hw'.cell (p := ⟨b1, k, none⟩) (World.block_lt_of_cell? wr _ c1)).trans c1) w' hw')) ?_
      refine calm_pure (some 21) (by kernel_rfl) (by kernel_rfl) (by kernel_rfl) (fun _ => by kernel_rfl) ?_
      refine calm_pure (some 22) (by kernel_rfl) (by kernel_rfl) (by kernel_rfl) (fun _ => by kernel_rfl) ?_
      refine calm_pure (some 23) (by kernel_rfl) (by kernel_rfl) (by kernel_rfl) (fun _ => index_i64 (n := n) (c := d) (k := k) (x := .tmp 21) (y := .tmp 22) (by kernel_rfl) (by kernel_rfl) (by kernel_rfl) hlt _) ?_
      refine calm_read (some 24) (by kernel_rfl) (by kernel_rfl) (by kernel_rfl) (fun w' hw' => load_cell (ty := 2) (x := .tmp 23) (b := b2) (o := k) (by kernel_rfl) (by kernel_rfl) Tryd.underlying2 rfl ((fun w' (hw' : Below (wr.heap.size) wr w') => (hw'.cell (p := ⟨b2, k, none⟩) (World.block_lt_of_cell? wr _ c2)).trans c2) w' hw')) ?_
      refine calm_pure (some 25) (by kernel_rfl) (by kernel_rfl) (by kernel_rfl) (fun _ => neq_sameP (x := .tmp 20) (y := .tmp 24) (v := (e : Int)) (by kernel_rfl) (by kernel_rfl) (by kernel_rfl) _) ?_
      refine calm_end fun w' hw' => plan_end (Clean.normal ?_)
      have HQ2 := Lib.hid (hB.out.trans (hw'.mono hB.out.size))
      clear hw' c1 c2
      simp only [Act.put, List.setIfInBounds_toArray, List.set_cons_zero, List.set_cons_succ]
      go_wp2
      go_roundw
      case rel => exact ⟨k + 1, by omega, by go_num, HQ2⟩
      case measure => simp [intOf]; omega
    · obtain rfl : k = n := by omega
      go_wp2
      go_ret
      exact ⟨rfl, hB.out⟩

set_option maxRecDepth 100000 in
set_option maxHeartbeats 4000000 in
theorem A2Same_any (p q : Option Addr) (c d n : Nat) (A : List Nat) (hA : A.length = n) (hn : n ≤ 1048576) (w : World) (hp : CellsI w p A) (hq : CellsI w q A) :
    Calls Tryd.prog 18 #[.slice p n c, .slice q n d] w fun e w' => e = .returned (.bool true) ∧ Below w.heap.size w w' := by
  have T := Lib.hid (sameP_any p q c d n A hA hn w hp hq)
  clear hp hq hA
  go_enter Tryd.func18, Tryd.ntmps18
  go_wp2_with (go_at_call 45; refine T.out.mono ?_; rintro e V ⟨rfl, hb⟩; have HB := Lib.hid hb; clear hb)
  go_ret
  exact ⟨rfl, HB.out⟩

set_option maxRecDepth 100000 in
set_option maxHeartbeats 4000000 in
theorem A2Is_is (G : Gd) (i : Nat) (hi : i < 64) (r : Bool) (h : isB G i = r) (hG : GdOk G) (w : World) :
    Calls Tryd.prog 20 #[.agg (Grd G), .int .i64 i] w fun e w' => e = .returned (.bool r) ∧ Below w.heap.size w w' := by
  have HI := Lib.hid h
  have HG := Lib.hid hG
  clear h hG
  go_enter Tryd.func20, Tryd.ntmps20
  go_upto_region 1 with (fail)
  obtain ⟨W, hW, zW, gW, bW⟩ := gbox1 G 32 w
  rw [hW]
  have GW := Lib.hid gW
  have BW := Lib.hid bW
  clear hW gW bW zW
  go_wp2_with (go_at_call 34; refine (l01Is_is G i hi r HI.out _ _ GW.out.at' HG.out).mono ?_; rintro e V1 ⟨rfl, hw1⟩; cases hw1; dsimp only)
  go_ret
  exact ⟨rfl, BW.out⟩

theorem Drw.flowV {G : Gd} (h : Drw G) {k s : Nat} (hk : k < 64) (hb : isB G k = true) (hs : s < 4) : ∃ f, Go.Proofs.YtjhaonfdapldcaaDoor.flowV G (k : Int) (s : Int) = .tuple #[.float .f32 f, .int .i64 0] ∧ flowS G k (s : Int) = some f := by
  obtain ⟨f, hf, hfin, _⟩ := h.flows hk hb (s : Int)
  refine ⟨f, ?_, hf⟩
  have hside : sideB (s : Int) = true := by simp [sideB]; omega
  unfold Go.Proofs.YtjhaonfdapldcaaDoor.flowV sidedN
  rw [if_pos (h.asked hk hb), if_pos hside, if_pos rfl, Int.toNat_natCast, hf]
  unfold finV
  simp only [hfin, if_true]
  rfl
end Go.Proofs.YtjhaonfdapldcaaDoor
