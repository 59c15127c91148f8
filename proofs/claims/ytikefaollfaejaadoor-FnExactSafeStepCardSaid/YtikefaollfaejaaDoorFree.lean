/- The bits of the cells that are not fixed, the program's. Condition: none. -/
import Derived.Test.YtikefaollfaejaaDoorFlows
namespace Go.Proofs.YtikefaollfaejaaDoor
open Go.RowKit Go.Shelf
attribute [local go_sem] Oper.semAt_some run_store_float
set_option linter.unusedSimpArgs false
set_option linter.unusedVariables false
def frB (G : Gd) (i : Nat) : Bool := isB G i && !G.x.toNat.testBit i
/-- The bits of the cells that are not fixed. -/
def freeN (G : Gd) : Nat := (bits .andNot .u64 (cellsN G) G.x).toNat
theorem freeN_is {G : Gd} (hG : GdOk G) : bits .andNot .u64 (cellsN G) G.x = (freeN G : Int) ∧ freeN G < 18446744073709551616 ∧ ∀ i, i < 64 → (freeN G).testBit i = frB G i := by
  have xx := hG.x'
  obtain ⟨x, hx⟩ : ∃ x : Nat, G.x = x := ⟨G.x.toNat, by omega⟩
  obtain ⟨n, h1, h2, h3⟩ := bits_andNot (cellsN G) x (cellsN_lt G) (by omega)
  have e : freeN G = n := by unfold freeN; rw [hx, h1]; rfl
  rw [e]
  refine ⟨by rw [hx]; exact h1, h2, fun i hi => ?_⟩
  rw [h3 i hi, cellsN_testBit]
  unfold frB
  rw [hx, Int.toNat_natCast]
  simp [hi]

set_option maxRecDepth 100000 in
set_option maxHeartbeats 4000000 in
theorem free_any (G : Gd) (hv : validB G = true) (p : Nat) (w : World) (hp : GrdAt w p 0 G) (hG : GdOk G) :
    Calls Tryd.prog 17 #[.pointer (some ⟨p, 0, none⟩)] w fun e w' => e = .returned (.int .u64 (freeN G)) ∧ Quiet w w' := by
  have wd := valid_ext hv
  have hx := hp.x
  rw [Nat.zero_add] at hx
  have HP := Lib.hid hp
  have HF := Lib.hid (freeN_is hG).1
  clear hp hG hv
  go_enter Tryd.func17, Tryd.ntmps17
  go_upto_region 1 with (fail)
  refine wp_region_calm (ops' := regOf Tryd.f17 1) [0, 1, 2, 3, 4, 5, 6, 7] [] .fin (Quiet w) [(0, One (.pointer (some ⟨p, 0, none⟩))), (1, One (.int .u64 (cellsN G : Int))), (2, One (.pointer (some ⟨p, 0, none⟩))), (3, One (.pointer (some ⟨p, 0, none⟩))), (4, One (.pointer (some ⟨p, 194, none⟩))), (5, One (.int .u64 G.x)), (6, One (.int .u64 (freeN G : Int))), (7, One (.int .u64 (freeN G : Int)))] (by kernel_rfl) (by kernel_rfl) (by kernel_rfl) (by kernel_rfl) (by kernel_rfl) (by kernel_rfl) (by kernel_rfl) (by kernel_rfl) rfl ((Quiet.refl _).drewN 1) ?_
  refine calm_pure (some 3) (by kernel_rfl) (by kernel_rfl) (by kernel_rfl) (fun _ => by kernel_rfl) ?_
  refine calm_call (some 4) 27 #[.pointer (some ⟨p, 0, none⟩)] ⟨_, rfl⟩ (by kernel_rfl) (by kernel_rfl) (by kernel_rfl) (fun _ => by kernel_rfl) (fun w' hw' => (cells_any G G.wide.toNat G.high.toNat (by omega) (by omega) (by omega) (by omega) p w' (hw'.grd HP.out)).mono fun e w2 h => ⟨_, h.1, rfl, h.2 ▸ hw'⟩) ?_
  rintro _ rfl
  refine calm_pure (some 5) (by kernel_rfl) (by kernel_rfl) (by kernel_rfl) (fun _ => by kernel_rfl) ?_
  refine calm_pure (some 6) (by kernel_rfl) (by kernel_rfl) (by kernel_rfl) (fun _ => by kernel_rfl) ?_
  refine calm_pure (some 7) (by kernel_rfl) (by kernel_rfl) (by kernel_rfl) (fun _ => by kernel_rfl) ?_
  refine calm_read (some 8) (by kernel_rfl) (by kernel_rfl) (by kernel_rfl) (fun w' hw' => load_cell (ty := 25) (x := .tmp 7) (b := p) (o := 194) (by kernel_rfl) (by kernel_rfl) Tryd.underlying25 rfl (kq hx w' hw')) ?_
  refine calm_pure (some 9) (by kernel_rfl) (by kernel_rfl) (by kernel_rfl) (fun _ => by rw [← HF.out]; kernel_rfl) ?_
  refine calm_pure (some 2) (by kernel_rfl) (by kernel_rfl) (by kernel_rfl) (fun _ => by kernel_rfl) ?_
  refine calm_end fun w' hw' => plan_end (Clean.normal ?_)
  simp only [Act.put, List.setIfInBounds_toArray, List.set_cons_zero, List.set_cons_succ]
  go_wp2
  go_ret
  exact ⟨rfl, hw'⟩

end Go.Proofs.YtikefaollfaejaaDoor
