/- SameWells, the program's, as a value of two lists. Condition: at most 2^20 wells each. -/
import Derived.Test.YtoeajnpailgljaaSws
namespace Go.Proofs.Ytoeajnpailgljaa
open Go Go.RowKit Ieee
set_option linter.unusedSimpArgs false
set_option linter.unusedVariables false
attribute [local go_sem] run_store_f32

theorem below_drewN {n : Nat} {w w' : World} (h : Below n w w') (k : Nat) : Below n w (w'.drewN k) := h.trans (⟨rfl, rfl, rfl, Nat.le_refl _, fun _ _ => rfl⟩)

set_option maxRecDepth 100000 in
set_option maxHeartbeats 1000000 in
theorem implSameWells_any (p q : Option Addr) (c d : Nat) (L M : List W3) (hL : L.length ≤ 1048576) (hM : M.length ≤ 1048576) (w : World) (hp : WsAt w p L) (hq : WsAt w q M) :
    Calls Try.prog 41 #[.slice p L.length c, .slice q M.length d] w fun e w' => e = .returned (.bool (sameWs L M)) ∧ Below w.heap.size w w' := by
  have P0 := Lib.hid hp
  have Q0 := Lib.hid hq
  obtain ⟨n, hn⟩ : ∃ n, L.length = n := ⟨_, rfl⟩
  obtain ⟨m, hm⟩ : ∃ m, M.length = m := ⟨_, rfl⟩
  have HN := Lib.hid hn
  have HM := Lib.hid hm
  rw [hn] at hL ⊢
  rw [hm] at hM ⊢
  clear hp hq hn hm
  by_cases hnm : n = m
  · subst hnm
    go_enter Try.func41, Try.ntmps41
    go_wp2
    go_loopw [14] (fun i wr => ∃ k : Nat, k ≤ n ∧ i = .int .i64 k ∧ Hid (wsTo L M k) ∧ Hid (Below w.heap.size w wr)) (fun i _ => n - (intOf i).toNat)
    case atStart => exact ⟨0, by omega, rfl, Lib.hid (fun i _ _ hi => absurd hi (by omega)), Lib.hid (Below.refl _ _)⟩
    case round =>
      obtain ⟨k, hk, rfl, hW, hB⟩ := hrel
      by_cases hlt : k < n
      · have hki : (k : Int) < n := by omega
        obtain ⟨e, he⟩ : ∃ e, L[k]? = some e := ⟨_, List.getElem?_eq_getElem (by rw [HN.out]; exact hlt)⟩
        obtain ⟨f, hf⟩ : ∃ f, M[k]? = some f := ⟨_, List.getElem?_eq_getElem (by rw [HM.out]; exact hlt)⟩
        obtain ⟨b, o, rfl, hr⟩ := (P0.out.keep hB.out) k e he
        obtain ⟨b', o', rfl, hr'⟩ := (Q0.out.keep hB.out) k f hf
        have c0 : wr.cell? ⟨b, o + k * 3, none⟩ = some (.int .i8 e.1) := hr 0 _ rfl
        have c1 : wr.cell? ⟨b, o + k * 3 + 1, none⟩ = some (.int .i8 e.2.1) := (hr 1 _ rfl)
        have c2 : wr.cell? ⟨b, o + k * 3 + 2, none⟩ = some (.float .f32 e.2.2) := (hr 2 _ rfl)
        have d0 : wr.cell? ⟨b', o' + k * 3, none⟩ = some (.int .i8 f.1) := (hr' 0 _ rfl)
        have d1 : wr.cell? ⟨b', o' + k * 3 + 1, none⟩ = some (.int .i8 f.2.1) := (hr' 1 _ rfl)
        have d2 : wr.cell? ⟨b', o' + k * 3 + 2, none⟩ = some (.float .f32 f.2.2) := (hr' 2 _ rfl)
        have HE := Lib.hid he
        have HF := Lib.hid hf
        have hlt1 : b' < wr.heap.size := World.block_lt_of_cell? wr _ d0
        have D0 : (wr.alloc (.cells #[.int .i8 e.1, .int .i8 e.2.1, .float .f32 e.2.2] 35)).cell? ⟨b', o' + k * 3, none⟩ = some (.int .i8 f.1) := (World.cell?_alloc_lt _ _ ⟨b', o' + k * 3, none⟩ hlt1).trans d0
        have D1 : (wr.alloc (.cells #[.int .i8 e.1, .int .i8 e.2.1, .float .f32 e.2.2] 35)).cell? ⟨b', o' + k * 3 + 1, none⟩ = some (.int .i8 f.2.1) := (World.cell?_alloc_lt _ _ ⟨b', o' + k * 3 + 1, none⟩ hlt1).trans d1
        have D2 : (wr.alloc (.cells #[.int .i8 e.1, .int .i8 e.2.1, .float .f32 e.2.2] 35)).cell? ⟨b', o' + k * 3 + 2, none⟩ = some (.float .f32 f.2.2) := (World.cell?_alloc_lt _ _ ⟨b', o' + k * 3 + 2, none⟩ hlt1).trans d2
        have BA := Lib.hid (hB.out.alloc hB.out.size (.cells #[.int .i8 e.1, .int .i8 e.2.1, .float .f32 e.2.2] 35))
        clear hr hr' he hf d0 d1 d2 hlt1
        cases e0 : (e.1 != f.1)
        · cases e1 : (e.2.1 != f.2.1)
          · cases hs : sameN e.2.2 f.2.2
            · have Hs := Lib.hid hs
              have N := Lib.hid (ret_ws (sameWs_no HE.out HF.out (by simp only [eqW, e0, e1, hs]; rfl)))
              clear hs
              go_wp2
              go_quiet ((go_at_call 77; exact Calls.quiet_of_same (implSameN_is _ _ false Hs.out _)))
              go_wp2
              go_ret
              exact ⟨N.out, below_drewN BA.out _⟩
            · have Hs := Lib.hid hs
              have N := Lib.hid (wsTo_snoc hW.out HE.out HF.out (by simp only [eqW, e0, e1, hs]; rfl))
              clear hs
              go_wp2
              go_quiet ((go_at_call 77; exact Calls.quiet_of_same (implSameN_is _ _ true Hs.out _)))
              go_wp2
              go_roundw
              case rel => exact ⟨k + 1, by omega, by go_num, N, Lib.hid (below_drewN BA.out _)⟩
              case measure => simp [intOf]; omega
          · have N := Lib.hid (ret_ws (sameWs_no HE.out HF.out (by simp only [eqW, e0, e1]; rfl)))
            go_wp2
            go_quiet (fail)
            go_wp2
            go_ret
            exact ⟨N.out, below_drewN BA.out _⟩
        · have N := Lib.hid (ret_ws (sameWs_no HE.out HF.out (by simp only [eqW, e0]; rfl)))
          go_wp2
          go_quiet (fail)
          go_wp2
          go_ret
          exact ⟨N.out, below_drewN BA.out _⟩
      · obtain rfl : k = n := by omega
        have N := Lib.hid (ret_ws (sameWs_yes HN.out HM.out hW.out))
        go_wp2
        go_ret
        exact ⟨N.out, hB.out⟩
  · have N := Lib.hid (ret_ws (sameWs_len (L := L) (M := M) (by rw [HN.out, HM.out]; exact hnm)))
    go_enter Try.func41, Try.ntmps41
    go_wp2
    go_ret
    exact ⟨N.out, Below.refl _ _⟩
end Go.Proofs.Ytoeajnpailgljaa
