/- ReadNumber: the library's ParseUint in base 16. Condition: none. -/
import Derived.Test.YtafiiliglbepjaaDoorRns
import Derived.Laws.IdiomStrings
namespace Go.Proofs.YtafiiliglbepjaaDoor
open Go Go.RowKit
set_option linter.unusedSimpArgs false
set_option linter.unusedVariables false
attribute [local go_sem] Oper.semAt_some

theorem lower_t (c : Nat) (hc : c < 256) (w : World) : Calls Tryd.prog 17 #[.int .u8 (c : Int)] w fun e w' => e = .returned (.int .u8 ((c ||| 32 : Nat) : Int)) ∧ w' = w := by
  have h : bits .or .u8 (c : Int) 32 = ((c ||| 32 : Nat) : Int) := u8_or_nat c 32 hc (by omega)
  go_enter Tryd.func17, Tryd.ntmps17
  go_wp2
  go_ret
  exact ⟨rfl, rfl⟩
theorem low_lt (c : Nat) (hc : c < 256) : c ||| 32 < 256 := Nat.or_lt_two_pow (n := 8) hc (by omega)
def PuE (s : ByteArray) (e : Ending) : Prop := (∃ v, v < 4294967296 ∧ e = .returned (.tuple #[.int .u64 (v : Nat), .nilIface]) ∧ (txt s).foldl stpR (some 0) = some v) ∨
  ((¬ ∃ v, good s v) ∧ ∃ (v : Int) (k : Int), (k = 1 ∨ k = 2) ∧ e = .returned (.tuple #[.int .u64 v, .iface 42 (.int .i64 k)]))
theorem stp_fail (l : List Nat) (k c : Nat) (h : l[k]? = some c) (n : Nat) (hn : (l.take k).foldl stpR (some 0) = some n) (hc : stpR (some n) c = none) : l.foldl stpR (some 0) = none := by
  have e := List.take_append_drop (k + 1) l
  rw [← e, List.foldl_append, fold_take l k c _ h, hn, hc, stp_none]
theorem bytes_conv (s : ByteArray) (w : World) : ∃ (cap : Nat) (W : World), (convert 9 45 (.string s)).run Tryd.prog w = .ok (.slice (some ⟨w.heap.size, 0, none⟩) s.size cap) W ∧ Below w.heap.size w W ∧ ∀ (j c : Nat), (txt s)[j]? = some c → W.cell? ⟨w.heap.size, j, none⟩ = some (.int .u8 (c : Int)) := by
  refine ⟨_, _, run_bytes_of_string w 9 45 5 s Tryd.underlying9 Tryd.underlying45 Tryd.underlying5, ?_, fun j c hc => ?_⟩
  · exact ((Below.refl _ w).drew).alloc (Nat.le_refl _) _
  · have hj : j < s.data.size := by
      have := (List.getElem?_eq_some_iff.1 hc).1
      rwa [txt_len] at this
    refine (World.cell?_alloc_mark w.drew _ _ _ j).trans ((bytesRow_at s _ j hj).trans ?_)
    unfold txt at hc
    rw [List.getElem?_map, List.getElem?_eq_getElem (by rw [Array.length_toList]; exact hj), Option.map_some, Array.getElem_toList] at hc
    rw [← Option.some.inj hc]
set_option maxRecDepth 100000 in
set_option maxHeartbeats 4000000 in
theorem pu_t (s : ByteArray) (hs : s.size ≤ 1048576) (w : World) :
    Calls Tryd.prog 12 #[.string s, .int .i64 16, .int .i64 32] w fun e w' => PuE s e ∧ Below w.heap.size w w' := by
  by_cases h0 : s.size = 0
  · have hE : s = ⟨#[]⟩ := ByteArray.ext (Array.eq_empty_of_size_eq_zero h0)
    subst hE
    go_enter Tryd.func12, Tryd.ntmps12
    go_wp2
    go_ret2
    exact ⟨.inr ⟨fun ⟨v, hv⟩ => by have := good_size hv; simp [ByteArray.size] at this, _, _, .inr rfl, rfl⟩, Below.refl _ _⟩
  · have hne : s.toList.isEmpty = false := by
      rw [ByteArray.toList_eq, List.isEmpty_eq_false_iff]
      intro e
      exact h0 (show s.data.size = 0 by rw [← Array.length_toList, e]; rfl)
    have NG := Lib.hid (fun (h : (txt s).foldl stpR (some 0) = none) => (show ¬ ∃ v, good s v from fun ⟨v, hv⟩ => by rw [good_stp hv] at h; cases h))
    go_enter Tryd.func12, Tryd.ntmps12
    obtain ⟨cap, W, hcv, bW, hcell⟩ := bytes_conv s w
    have CL := Lib.hid hcell
    have BW := Lib.hid bW
    clear hcell bW
    obtain ⟨M, hM⟩ : ∃ M, w.heap.size = M := ⟨_, rfl⟩
    rw [hM] at CL BW ⊢
    go_upto_region 36 with (fail)
    clear hcv
    go_loopw [12, 13, 101] (fun us u i wr => ∃ (j n : Nat), j ≤ s.size ∧ wr = W ∧ us = .bool false ∧ u = .int .u64 (n : Int) ∧ i = .int .i64 (j : Int) ∧ Hid (((txt s).take j).foldl stpR (some 0) = some n)) (fun _ _ i _ => (s.size - intOf i).toNat)
    case atStart => exact ⟨0, 0, by omega, rfl, rfl, rfl, rfl, Lib.hid rfl⟩
    case round =>
      obtain ⟨j, n, hj, rfl, rfl, rfl, rfl, hF⟩ := hrel
      have hn32 : n < 4294967296 := stp_lt _ (some 0) (fun n h => by cases h; omega) n hF.out
      by_cases hlt : j < s.size
      · have hji : (j : Int) < s.size := by omega
        obtain ⟨c, hc, hcat, _⟩ := byte_of s j hlt
        have c0 := CL.out j c hcat
        have HX := Lib.hid hcat
        clear hcat
        have hl := low_lt c hc
        have hn60 : ¬ (1152921504606846976 : Int) ≤ (n : Int) := by omega
        by_cases d1 : 48 ≤ c ∧ c ≤ 57
        · have HD := Lib.hid (show hdN c = some (c - 48) by unfold hdN; rw [if_pos d1])
          have h95i : ¬ (c : Int) = 95 := by omega
          have d1a : (48 : Int) ≤ c := by omega
          have d1b : (c : Int) ≤ 57 := by omega
          obtain ⟨d, hd⟩ : ∃ d, c - 48 = d := ⟨_, rfl⟩
          rw [hd] at HD
          have hd2 : (c : Int) - 48 = (d : Int) := by omega
          have hd16 : (d : Int) < 16 := by omega
          have hd3 : ¬ (16 : Int) ≤ (d : Int) := by omega
          by_cases hr : n * 16 + d < 4294967296
          · have HN := Lib.hid (show ((txt s).take (j + 1)).foldl stpR (some 0) = some (n * 16 + d) by
              rw [fold_take _ _ _ _ HX.out, hF.out]
              simp only [stpR, Option.bind_some, HD.out]
              rw [if_pos hr])
            have hgt : ¬ (4294967295 : Int) < (n : Int) * 16 + (d : Int) := by omega
            have hlt1 : ¬ (n : Int) * 16 + (d : Int) < (n : Int) * 16 := by omega
            clear hr
            go_wp2
            go_roundw
            case rel => exact ⟨j + 1, _, by omega, trivial, rfl, congrArg (Value.int .u64) (by omega), by go_num, HN⟩
            case measure => simp [intOf]; omega
          · have HNo := Lib.hid (show (txt s).foldl stpR (some 0) = none from stp_fail _ j c HX.out n hF.out (by
              simp only [stpR, Option.bind_some, HD.out]
              rw [if_neg hr]))
            have hgt : (4294967295 : Int) < (n : Int) * 16 + (d : Int) := by omega
            have hlt1 : ¬ (n : Int) * 16 + (d : Int) < (n : Int) * 16 := by omega
            clear hr
            go_wp2
            go_ret2
            exact ⟨.inr ⟨NG.out HNo.out, _, 1, .inl rfl, rfl⟩, BW.out⟩
        · have d1i : ¬ ((48 : Int) ≤ c ∧ (c : Int) ≤ 57) := by omega
          have HL := Lib.hid (show bits .or .u8 (c : Int) 32 = ((c ||| 32 : Nat) : Int) from u8_or_nat c 32 hc (by omega))
          by_cases d2 : 97 ≤ (c ||| 32) ∧ (c ||| 32) ≤ 122
          · have h95 : c ≠ 95 := by rintro rfl; revert d2; decide
            have h95i : ¬ (c : Int) = 95 := by omega
            obtain ⟨m, hm⟩ : ∃ m, c ||| 32 = m := ⟨_, rfl⟩
            have LW := Lib.hid (fun w => lower_t c hc w)
            have HD0 : hdN c = if m - 87 < 16 then some (m - 87) else none := by unfold hdN; rw [if_neg d1, if_pos d2, hm]
            rw [hm] at LW d2 hl
            have HD1 := Lib.hid HD0
            clear HD0 hm HL
            have d2a : (97 : Int) ≤ m := by omega
            have d2b : (m : Int) ≤ 122 := by omega
            by_cases d3 : m - 87 < 16
            · have HD := Lib.hid (show hdN c = some (m - 87) by rw [HD1.out, if_pos d3])
              obtain ⟨d, hd⟩ : ∃ d, m - 87 = d := ⟨_, rfl⟩
              rw [hd] at HD
              have hd2 : (m : Int) - 97 + 10 = (d : Int) := by omega
              have hd16 : (d : Int) < 16 := by omega
              have hd3 : ¬ (16 : Int) ≤ (d : Int) := by omega
              by_cases q1 : 48 ≤ c
              · have q1i : (48 : Int) ≤ c := by omega
                have q2i : ¬ (c : Int) ≤ 57 := by omega
                by_cases hr : n * 16 + d < 4294967296
                · have HN := Lib.hid (show ((txt s).take (j + 1)).foldl stpR (some 0) = some (n * 16 + d) by
                    rw [fold_take _ _ _ _ HX.out, hF.out]
                    simp only [stpR, Option.bind_some, HD.out]
                    rw [if_pos hr])
                  have hgt : ¬ (4294967295 : Int) < (n : Int) * 16 + (d : Int) := by omega
                  have hlt1 : ¬ (n : Int) * 16 + (d : Int) < (n : Int) * 16 := by omega
                  clear hr
                  go_wp2_with (go_at_call 17; refine (LW.out _).mono ?_; rintro e V1 ⟨rfl, hw1⟩; cases hw1; dsimp only)
                  go_roundw
                  case rel => exact ⟨j + 1, _, by omega, trivial, rfl, congrArg (Value.int .u64) (by omega), by go_num, HN⟩
                  case measure => simp [intOf]; omega
                · have HNo := Lib.hid (show (txt s).foldl stpR (some 0) = none from stp_fail _ j c HX.out n hF.out (by
                    simp only [stpR, Option.bind_some, HD.out]
                    rw [if_neg hr]))
                  have hgt : (4294967295 : Int) < (n : Int) * 16 + (d : Int) := by omega
                  have hlt1 : ¬ (n : Int) * 16 + (d : Int) < (n : Int) * 16 := by omega
                  clear hr
                  go_wp2_with (go_at_call 17; refine (LW.out _).mono ?_; rintro e V1 ⟨rfl, hw1⟩; cases hw1; dsimp only)
                  go_ret2
                  exact ⟨.inr ⟨NG.out HNo.out, _, 1, .inl rfl, rfl⟩, BW.out⟩
              · have q1i : ¬ (48 : Int) ≤ c := by omega
                by_cases hr : n * 16 + d < 4294967296
                · have HN := Lib.hid (show ((txt s).take (j + 1)).foldl stpR (some 0) = some (n * 16 + d) by
                    rw [fold_take _ _ _ _ HX.out, hF.out]
                    simp only [stpR, Option.bind_some, HD.out]
                    rw [if_pos hr])
                  have hgt : ¬ (4294967295 : Int) < (n : Int) * 16 + (d : Int) := by omega
                  have hlt1 : ¬ (n : Int) * 16 + (d : Int) < (n : Int) * 16 := by omega
                  clear hr
                  go_wp2_with (go_at_call 17; refine (LW.out _).mono ?_; rintro e V1 ⟨rfl, hw1⟩; cases hw1; dsimp only)
                  go_roundw
                  case rel => exact ⟨j + 1, _, by omega, trivial, rfl, congrArg (Value.int .u64) (by omega), by go_num, HN⟩
                  case measure => simp [intOf]; omega
                · have HNo := Lib.hid (show (txt s).foldl stpR (some 0) = none from stp_fail _ j c HX.out n hF.out (by
                    simp only [stpR, Option.bind_some, HD.out]
                    rw [if_neg hr]))
                  have hgt : (4294967295 : Int) < (n : Int) * 16 + (d : Int) := by omega
                  have hlt1 : ¬ (n : Int) * 16 + (d : Int) < (n : Int) * 16 := by omega
                  clear hr
                  go_wp2_with (go_at_call 17; refine (LW.out _).mono ?_; rintro e V1 ⟨rfl, hw1⟩; cases hw1; dsimp only)
                  go_ret2
                  exact ⟨.inr ⟨NG.out HNo.out, _, 1, .inl rfl, rfl⟩, BW.out⟩
            · have HD : hdN c = none := by rw [HD1.out, if_neg d3]
              have HNo := Lib.hid (show (txt s).foldl stpR (some 0) = none from stp_fail _ j c HX.out n hF.out (by
                  simp only [stpR, Option.bind_some, HD]
                  rfl))
              clear HD
              obtain ⟨d, hd⟩ : ∃ d, m - 87 = d := ⟨_, rfl⟩
              have hd2 : (m : Int) - 97 + 10 = (d : Int) := by omega
              have hd3 : (16 : Int) ≤ (d : Int) := by omega
              clear hd
              by_cases q1 : 48 ≤ c
              · have q1i : (48 : Int) ≤ c := by omega
                have q2i : ¬ (c : Int) ≤ 57 := by omega
                go_wp2_with (go_at_call 17; refine (LW.out _).mono ?_; rintro e V1 ⟨rfl, hw1⟩; cases hw1; dsimp only)
                go_ret2
                exact ⟨.inr ⟨NG.out HNo.out, _, 2, .inr rfl, rfl⟩, BW.out⟩
              · have q1i : ¬ (48 : Int) ≤ c := by omega
                go_wp2_with (go_at_call 17; refine (LW.out _).mono ?_; rintro e V1 ⟨rfl, hw1⟩; cases hw1; dsimp only)
                go_ret2
                exact ⟨.inr ⟨NG.out HNo.out, _, 2, .inr rfl, rfl⟩, BW.out⟩
          · have HD : hdN c = none := by unfold hdN; rw [if_neg d1, if_neg d2]
            have HNo := Lib.hid (show (txt s).foldl stpR (some 0) = none from stp_fail _ j c HX.out n hF.out (by
                simp only [stpR, Option.bind_some, HD]
                rfl))
            clear HD
            obtain ⟨m, hm⟩ : ∃ m, c ||| 32 = m := ⟨_, rfl⟩
            have LW := Lib.hid (fun w => lower_t c hc w)
            rw [hm] at LW d2 hl
            by_cases h95 : c = 95
            · subst h95
              obtain rfl : m = 127 := by rw [← hm]; decide
              clear hm HL
              go_wp2_with (go_at_call 17; refine (LW.out _).mono ?_; rintro e V1 ⟨rfl, hw1⟩; cases hw1; dsimp only)
              go_ret2
              exact ⟨.inr ⟨NG.out HNo.out, _, 2, .inr rfl, rfl⟩, BW.out⟩
            · have h95i : ¬ (c : Int) = 95 := by omega
              clear hm HL
              by_cases b1 : 97 ≤ m
              · have b1i : (97 : Int) ≤ m := by omega
                have b2i : ¬ (m : Int) ≤ 122 := by omega
                by_cases q1 : 48 ≤ c
                · have q1i : (48 : Int) ≤ c := by omega
                  have q2i : ¬ (c : Int) ≤ 57 := by omega
                  go_wp2_with (go_at_call 17; refine (LW.out _).mono ?_; rintro e V1 ⟨rfl, hw1⟩; cases hw1; dsimp only)
                  go_ret2
                  exact ⟨.inr ⟨NG.out HNo.out, _, 2, .inr rfl, rfl⟩, BW.out⟩
                · have q1i : ¬ (48 : Int) ≤ c := by omega
                  go_wp2_with (go_at_call 17; refine (LW.out _).mono ?_; rintro e V1 ⟨rfl, hw1⟩; cases hw1; dsimp only)
                  go_ret2
                  exact ⟨.inr ⟨NG.out HNo.out, _, 2, .inr rfl, rfl⟩, BW.out⟩
              · have b1i : ¬ (97 : Int) ≤ m := by omega
                by_cases q1 : 48 ≤ c
                · have q1i : (48 : Int) ≤ c := by omega
                  have q2i : ¬ (c : Int) ≤ 57 := by omega
                  go_wp2_with (go_at_call 17; refine (LW.out _).mono ?_; rintro e V1 ⟨rfl, hw1⟩; cases hw1; dsimp only)
                  go_ret2
                  exact ⟨.inr ⟨NG.out HNo.out, _, 2, .inr rfl, rfl⟩, BW.out⟩
                · have q1i : ¬ (48 : Int) ≤ c := by omega
                  go_wp2_with (go_at_call 17; refine (LW.out _).mono ?_; rintro e V1 ⟨rfl, hw1⟩; cases hw1; dsimp only)
                  go_ret2
                  exact ⟨.inr ⟨NG.out HNo.out, _, 2, .inr rfl, rfl⟩, BW.out⟩
      · obtain rfl : j = s.size := by omega
        have hFa : (txt s).foldl stpR (some 0) = some n := by
          have := hF.out
          rwa [List.take_of_length_le (by rw [txt_len]; exact Nat.le_refl _)] at this
        have HFa := Lib.hid hFa
        clear hFa
        go_wp2
        go_ret2
        exact ⟨.inl ⟨n, hn32, rfl, HFa.out⟩, BW.out⟩
end Go.Proofs.YtafiiliglbepjaaDoor
