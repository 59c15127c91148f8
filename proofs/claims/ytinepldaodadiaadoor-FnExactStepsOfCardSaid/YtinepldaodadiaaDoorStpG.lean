/- StepGround, the program's. Condition: the table of math/bits is laid. -/
import Derived.Test.YtinepldaodadiaaDoorStpI
namespace Go.Proofs.YtinepldaodadiaaDoor
open Go Go.RowKit Go.Shelf
attribute [local go_sem] Oper.semAt_some run_store_float
set_option linter.unusedSimpArgs false
set_option linter.unusedVariables false

theorem seepValid_is (b : Nat) (r : Bool) (h : plainB b = r) (w : World) : Calls Tryd.prog 93 #[.float .f32 b] w fun e w' => e = .returned (.bool r) ∧ w = w' := by
  go_enter Tryd.func93, Tryd.ntmps93
  go_wp2_with (go_at_call 43; refine (isPlain_is b r h _).mono ?_; rintro e w' ⟨rfl, rfl⟩)
  go_ret
  exact ⟨rfl, rfl⟩
theorem mth_isValid (b n : Nat) (w : World) : (method (n + 1) 41 (.float .f32 b) "loop.example/g01288/impl.isValid").run Tryd.prog w = .ok (93, .float .f32 b) w := by kernel_rfl
set_option maxRecDepth 100000 in
set_option maxHeartbeats 2000000 in
theorem checkStep_any (G : Gd) (part p : Nat) (w : World) (hG : GdOk G) (hT : TabAt w) (hp : GBox w p G) :
    Calls Tryd.prog 22 #[.pointer (some ⟨p, 0, none⟩), .iface 41 (.float .f32 part)] w fun e w' => e = .returned (.int .i64 (askT G part)) ∧ Below w.heap.size w w' := by
  have HG := Lib.hid hG
  have HT := Lib.hid hT
  have r1 := hp.range
  clear hG hT hp
  have hm := mth_isValid part
  cases hv : validB G
  · have Hv := Lib.hid hv
    have HR := Lib.hid (show askT G part = 1 by simp [askT, hv])
    clear hv
    go_enter Tryd.func22, Tryd.ntmps22
    go_wp2_with (first | (refine ld_stage 30 rfl ?_; refine wpList_load_mid rfl 30 _ rfl (p) 0 rfl (GrdL (G)) _ r1 Tryd.underlying30 rfl (by rw [GrdL_length]; exact infoGround) ?_) | (go_at_call 30; have hc := (validGround_any G w HG.out HT.out (tab_lt HT.out)); rw [Hv.out] at hc; refine hc.mono ?_; clear hc; rintro e V ⟨rfl, hb⟩; have Hb := Lib.hid hb; clear hb))
    go_ret
    exact ⟨by rw [HR.out]; rfl, Hb.out⟩
  · have Hv := Lib.hid hv
    cases hq : plainB part
    · have Hq := Lib.hid hq
      have HR := Lib.hid (show askT G part = 1 by simp [askT, hq])
      clear hv hq
      go_enter Tryd.func22, Tryd.ntmps22
      go_wp2_with (first | (refine ld_stage 30 rfl ?_; refine wpList_load_mid rfl 30 _ rfl (p) 0 rfl (GrdL (G)) _ r1 Tryd.underlying30 rfl (by rw [GrdL_length]; exact infoGround) ?_) | (go_at_call 30; have hc := (validGround_any G w HG.out HT.out (tab_lt HT.out)); rw [Hv.out] at hc; refine hc.mono ?_; clear hc; rintro e V ⟨rfl, hb⟩; have Hb := Lib.hid hb; clear hb) | (go_at_call 93; refine (seepValid_is part false Hq.out _).mono ?_; rintro e w' ⟨rfl, rfl⟩))
      go_ret
      exact ⟨by rw [HR.out]; rfl, Hb.out⟩
    · have Hq := Lib.hid hq
      have HR := Lib.hid (show askT G part = 0 by simp [askT, hv, hq])
      clear hv hq
      go_enter Tryd.func22, Tryd.ntmps22
      go_wp2_with (first | (refine ld_stage 30 rfl ?_; refine wpList_load_mid rfl 30 _ rfl (p) 0 rfl (GrdL (G)) _ r1 Tryd.underlying30 rfl (by rw [GrdL_length]; exact infoGround) ?_) | (go_at_call 30; have hc := (validGround_any G w HG.out HT.out (tab_lt HT.out)); rw [Hv.out] at hc; refine hc.mono ?_; clear hc; rintro e V ⟨rfl, hb⟩; have Hb := Lib.hid hb; clear hb) | (go_at_call 93; refine (seepValid_is part true Hq.out _).mono ?_; rintro e w' ⟨rfl, rfl⟩))
      go_ret
      exact ⟨by rw [HR.out]; rfl, Hb.out⟩

end Go.Proofs.YtinepldaodadiaaDoor
