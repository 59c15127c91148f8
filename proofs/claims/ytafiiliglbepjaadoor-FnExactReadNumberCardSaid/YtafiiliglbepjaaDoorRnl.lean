/- The law FnExactReadNumber: for every input the call returns true. Condition: the two errors of strconv and the table of math/bits stand. -/
import Derived.Test.YtafiiliglbepjaaDoorRne
import Derived.Test.YtafiiliglbepjaaDoorPl
namespace Go.Proofs.YtafiiliglbepjaaDoor
open Go Go.RowKit
set_option linter.unusedSimpArgs false
set_option linter.unusedVariables false
attribute [local go_sem] Oper.semAt_some

theorem eqE12 (w : World) : (binOp .eql 32 (.iface 42 (.int .i64 1)) (.iface 42 (.int .i64 2))).run Tryd.prog w = .ok (.bool false) w := by kernel_rfl
theorem eqE11 (w : World) : (binOp .eql 32 (.iface 42 (.int .i64 1)) (.iface 42 (.int .i64 1))).run Tryd.prog w = .ok (.bool true) w := by kernel_rfl
theorem eqE22 (w : World) : (binOp .eql 32 (.iface 42 (.int .i64 2)) (.iface 42 (.int .i64 2))).run Tryd.prog w = .ok (.bool true) w := by kernel_rfl
theorem ErS.below {n : Nat} {w w' : World} (h : ErS w) (hb : Below n w w') (h1 : 1 < n) (h2 : 2 < n) : ErS w' := by
  obtain ⟨⟨T, p, e1⟩, U, q, e2⟩ := h
  exact ⟨⟨T, p, (hb.cell (p := ⟨1, 0, none⟩) h1).trans e1⟩, U, q, (hb.cell (p := ⟨2, 0, none⟩) h2).trans e2⟩
theorem ErS.lt {w : World} (h : ErS w) : 1 < w.heap.size ∧ 2 < w.heap.size := by
  obtain ⟨⟨T, p, e1⟩, U, q, e2⟩ := h
  exact ⟨World.block_lt_of_cell? w _ e1, World.block_lt_of_cell? w _ e2⟩
set_option maxRecDepth 100000 in
set_option maxHeartbeats 4000000 in
theorem toErr_t (f s : ByteArray) (hlim : s.size ≤ 281474976710656) (k : Int) (hk : k = 1 ∨ k = 2) (w : World) (hE : ErS w) :
    Calls Tryd.prog 13 #[.string f, .string s, .int .i64 16, .int .i64 32, .iface 42 (.int .i64 k)] w fun e w' => (∃ q, e = .returned (.iface 46 (.pointer (some q)))) ∧ Below w.heap.size w w' := by
  obtain ⟨⟨T, p, e1⟩, U, q, e2⟩ := hE
  have S1 := Lib.hid (syntaxError_t f s hlim T p w e1)
  have S2 := Lib.hid (rangeError_t f s hlim U q w e2)
  clear e1 e2
  have q12 := eqE12
  have q11 := eqE11
  have q22 := eqE22
  rcases hk with rfl | rfl
  all_goals
    go_enter Tryd.func13, Tryd.ntmps13
    go_wp2_with (first | (go_at_call 19; refine S1.out.mono ?_; rintro e V1 ⟨⟨x, rfl⟩, hb⟩; dsimp only) | (go_at_call 20; refine S2.out.mono ?_; rintro e V1 ⟨⟨x, rfl⟩, hb⟩; dsimp only))
    go_ret
    exact ⟨⟨_, rfl⟩, hb⟩
/-- What strconv's ParseUint answers. -/
def PsE (s : ByteArray) (e : Ending) : Prop := (∃ v, v < 4294967296 ∧ e = .returned (.tuple #[.int .u64 (v : Nat), .nilIface]) ∧ (txt s).foldl stpR (some 0) = some v) ∨
  ((¬ ∃ v, good s v) ∧ ∃ (v : Int) (q : Addr), e = .returned (.tuple #[.int .u64 v, .iface 46 (.pointer (some q))]))
set_option maxRecDepth 100000 in
set_option maxHeartbeats 4000000 in
theorem sp_t (s : ByteArray) (hs : s.size ≤ 1048576) (w : World) (hE : ErS w) :
    Calls Tryd.prog 8 #[.string s, .int .i64 16, .int .i64 32] w fun e w' => PsE s e ∧ Below w.heap.size w w' := by
  have PU := Lib.hid (pu_t s hs w)
  have HE := Lib.hid hE
  clear hE
  have HS := Lib.hid hs
  clear hs
  go_enter Tryd.func8, Tryd.ntmps8
  go_upto_region 2 with (go_at_call 12; refine PU.out.mono ?_; rintro e V1 ⟨he, hb⟩; have B1 := Lib.hid hb; clear hb; obtain ⟨v, hv, rfl, hf⟩ | ⟨hg, v, k, hk, rfl⟩ := he)
  · have HV := Lib.hid hv
    have HF := Lib.hid hf
    clear hv hf
    go_wp2
    go_ret2
    exact ⟨.inl ⟨v, HV.out, rfl, HF.out⟩, B1.out⟩
  · have HG := Lib.hid hg
    have TT := Lib.hid (toErr_t ⟨#[80, 97, 114, 115, 101, 85, 105, 110, 116]⟩ s (by have := HS.out; omega) k hk V1 (HE.out.below B1.out HE.out.lt.1 HE.out.lt.2))
    clear hg hk
    go_wp2_with (go_at_call 13; refine TT.out.mono ?_; rintro e V2 ⟨⟨x, rfl⟩, hb⟩; have B2 := Lib.hid (B1.out.trans (hb.mono B1.out.size)); clear hb; dsimp only)
    go_ret2
    exact ⟨.inr ⟨HG.out, _, _, rfl⟩, B2.out⟩
set_option maxRecDepth 100000 in
set_option maxHeartbeats 4000000 in
theorem implRn_t (s : ByteArray) (hs : s.size ≤ 1048576) (w : World) (hE : ErS w) (hT : TabAt w) :
    Calls Tryd.prog 5 #[.string s] w fun e w' => ((∃ v, good s v ∧ e = .returned (.tuple #[.float .f32 v, .int .i64 0])) ∨ ((¬ ∃ v, good s v) ∧ e = .returned (.tuple #[.float .f32 0, .int .i64 5]))) ∧ Below w.heap.size w w' := by
  have SPt := Lib.hid (sp_t s hs w hE)
  have hlt := tab_ltN hT
  have HT := Lib.hid hT
  have hf := ffbits
  clear hE hT hs
  go_enter Tryd.func5, Tryd.ntmps5
  go_upto_region 2 with (go_at_call 8; refine SPt.out.mono ?_; rintro e V1 ⟨he, hb⟩; have B1 := Lib.hid hb; have T1 := Lib.hid (show TabAt V1 from fun j hj => (hb.cell (p := ⟨6, j, none⟩) hlt).trans (HT.out j hj)); clear hb; obtain ⟨v, hv, rfl, hfd⟩ | ⟨hg, v, q, rfl⟩ := he)
  · have NT := Lib.hid (implNt_t v hv V1 T1.out)
    have HV := Lib.hid hv
    have HF := Lib.hid hfd
    have hw32 : IntKind.u32.wrap (v : Int) = v := by rw [IntKind.wrap_u32]; omega
    clear hfd
    by_cases hq : hexS (nmB v) 8 = s
    · have HQ := Lib.hid hq
      have NT2 := Lib.hid (show Calls Tryd.prog 10 #[.float .f32 v] V1 fun e w' => e = .returned (.string s) ∧ Below V1.heap.size V1 w' from hq ▸ NT.out)
      clear hq NT hv
      go_wp2_with (go_at_call 10; refine NT2.out.mono ?_; rintro e V2 ⟨rfl, hb⟩; have B2 := Lib.hid (B1.out.trans (hb.mono B1.out.size)); clear hb; dsimp only)
      go_ret2
      have hgood : good s (nmB v) := ⟨nm_lt HV.out, nm_nm v, by rw [← HQ.out, txt_hex]⟩
      have e1 := good_stp hgood
      rw [HF.out] at e1
      have e2 : v = nmB v := Option.some.inj e1
      exact ⟨.inl ⟨v, by rw [← e2] at hgood; exact hgood, rfl⟩, B2.out⟩
    · have HQ := Lib.hid (show (((hexS (nmB v) 8).toList == s.toList) = false) by
        rw [ByteArray.toList_eq, ByteArray.toList_eq, beq_eq_false_iff_ne]
        intro e
        exact hq (ByteArray.ext (Array.toList_inj.1 e)))
      have hbad : ¬ ∃ v, good s v := fun ⟨u, hu⟩ => by
        have e1 := good_stp hu
        rw [HF.out] at e1
        obtain rfl := Option.some.inj e1
        exact hq (good_text hu)
      have HB := Lib.hid hbad
      have NT2 := Lib.hid (show Calls Tryd.prog 10 #[.float .f32 v] V1 fun e w' => e = .returned (.string (hexS (nmB v) 8)) ∧ Below V1.heap.size V1 w' from NT.out)
      clear hq hbad NT hv
      generalize hexS (nmB v) 8 = r at NT2 HQ
      have hqq := HQ.out
      go_wp2_with (go_at_call 10; refine NT2.out.mono ?_; rintro e V2 ⟨rfl, hb⟩; have B2 := Lib.hid (B1.out.trans (hb.mono B1.out.size)); clear hb; dsimp only)
      go_ret2
      exact ⟨.inr ⟨HB.out, rfl⟩, B2.out⟩
  · have HG := Lib.hid hg
    clear hg
    go_wp2
    go_ret2
    exact ⟨.inr ⟨HG.out, rfl⟩, B1.out⟩
set_option maxRecDepth 100000 in
set_option maxHeartbeats 4000000 in
theorem lawRn_t (s : ByteArray) (w : World) (hE : ErS w) (hT : TabAt w) :
    Calls Tryd.prog 3 #[.string s] w fun e w' => e = .returned (.bool true) ∧ Below w.heap.size w w' := by
  by_cases hs : s.size ≤ 1048576
  · obtain ⟨r, m, hr⟩ : ∃ (r : Nat) (m : Int), ∀ e : Ending, ((∃ v, good s v ∧ e = .returned (.tuple #[.float .f32 v, .int .i64 0])) ∨ ((¬ ∃ v, good s v) ∧ e = .returned (.tuple #[.float .f32 0, .int .i64 5]))) → e = .returned (.tuple #[.float .f32 r, .int .i64 m]) := by
      by_cases hg : ∃ v, good s v
      · obtain ⟨v, hv⟩ := hg
        refine ⟨v, 0, fun e he => ?_⟩
        obtain ⟨u, hu, rfl⟩ | ⟨hn, _⟩ := he
        · have e1 := good_stp hu
          rw [good_stp hv] at e1
          rw [Option.some.inj e1]
        · exact absurd ⟨v, hv⟩ hn
      · refine ⟨0, 5, fun e he => ?_⟩
        obtain ⟨u, hu, rfl⟩ | ⟨_, rfl⟩ := he
        · exact absurd ⟨u, hu⟩ hg
        · rfl
    have HR := Lib.hid hr
    have hsi : ¬ (1048576 : Int) < s.size := by omega
    have TS := Lib.hid (specRn_t s w)
    have TI := Lib.hid (implRn_t s hs w hE hT)
    clear hr hE hT hs
    have t1 : True := trivial
    go_enter Tryd.func3, Tryd.ntmps3
    go_wp2_with (first | (go_at_call 4; refine TS.out.mono ?_; rintro e V1 ⟨he, hw1⟩; obtain rfl := HR.out _ he; cases hw1; clear he; dsimp only) | (go_at_call 5; refine TI.out.mono ?_; rintro e V2 ⟨he, hb⟩; obtain rfl := HR.out _ he; have B2 := Lib.hid hb; clear he hb; dsimp only) | (have _t := t1; refine wpList_conv_g (by kernel_rfl) _ _ _ rfl Tryd.underlying22 Tryd.underlying26 _ rfl ?_; intro x m hx; have X := Lib.hid hx; clear t1 hx) | (refine wpList_conv_g (by kernel_rfl) _ _ _ rfl Tryd.underlying22 Tryd.underlying26 _ rfl ?_; intro y m' hy; have Y' := Lib.hid hy; clear hy) | (go_at_call 6; refine (sameFloat_yes x y (by rw [X.out, Y'.out]) _).mono ?_; rintro e w' ⟨rfl, k', rfl⟩))
    go_ret
    exact ⟨rfl, B2.out.trans (Quiet.below ⟨_, rfl⟩ _)⟩
  · have hsi : (1048576 : Int) < s.size := by omega
    go_enter Tryd.func3, Tryd.ntmps3
    go_wp2
    go_ret
    exact ⟨rfl, Below.refl _ _⟩
end Go.Proofs.YtafiiliglbepjaaDoor
