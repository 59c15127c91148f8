/- ReadNumber: the model's. Condition: none. -/
import Derived.Test.YtafiiliglbepjaaDoorRnm
namespace Go.Proofs.YtafiiliglbepjaaDoor
open Go Go.RowKit
set_option linter.unusedSimpArgs false
set_option linter.unusedVariables false
attribute [local go_sem] Oper.semAt_some

theorem ffbits (b : Nat) (w : World) : (callFunc 9 #[.int .u32 b]).run Tryd.prog w = .ok (.value (.float .f32 b)) w := by kernel_rfl
/-- The byte at a place of a text. -/
theorem byte_of (s : ByteArray) (k : Nat) (hk : k < s.size) : ∃ c, c < 256 ∧ (txt s)[k]? = some c ∧ ∀ (t : TypeId) (ht : Tryd.prog.underlying t = some .string) (K : IntKind) (w : World), (Instr.index t (.string s) (.int K k)).run Tryd.prog w = .ok (.int .u8 (c : Int)) w := by
  refine ⟨(s.data[k]'hk).toNat, (s.data[k]'hk).toNat_lt, ?_, fun t ht K w => ?_⟩
  · unfold txt
    rw [List.getElem?_map, List.getElem?_eq_getElem (by rw [Array.length_toList]; exact hk), Option.map_some, Array.getElem_toList]
  · exact index_of t s K k _ ht (by rw [Array.getElem?_eq_getElem hk]; rfl) w
theorem fold_take {f : Option Nat → Nat → Option Nat} (l : List Nat) (k c : Nat) (o : Option Nat) (h : l[k]? = some c) : (l.take (k + 1)).foldl f o = f ((l.take k).foldl f o) c := by
  rw [List.take_add_one, h, Option.toList_some, List.foldl_append]
  rfl
theorem mdl_fail (l : List Nat) (k c : Nat) (h : l[k]? = some c) (hc : hlN c = none) : l.foldl mdlR (some 0) = none := by
  have e := List.take_append_drop (k + 1) l
  rw [← e, List.foldl_append, fold_take l k c _ h]
  have : ∀ o, mdlR o c = none := fun o => by unfold mdlR; rw [hc]; cases o <;> rfl
  rw [this, mdl_none]
theorem mdl_lt (l : List Nat) (hl : l.length ≤ 8) (hc : ∀ c ∈ l, c < 256) (n : Nat) (h : l.foldl mdlR (some 0) = some n) : n < 16 ^ l.length := (mdl_back l.length l n rfl hc h).2
def rdR (s : ByteArray) : Value := if s.size = 8 then (match (txt s).foldl mdlR (some 0) with | some v => .tuple #[.float .f32 v, .bool (nmB v == v)] | none => .tuple #[.float .f32 0, .bool false]) else .tuple #[.float .f32 0, .bool false]
set_option maxRecDepth 100000 in
set_option maxHeartbeats 4000000 in
theorem l01Read_t (s : ByteArray) (w : World) :
    Calls Tryd.prog 7 #[.string s] w fun e w' => e = .returned (rdR s) ∧ w' = w := by
  by_cases h8 : s.size = 8
  · obtain ⟨R, hR⟩ : ∃ R, rdR s = R := ⟨_, rfl⟩
    have HR := Lib.hid hR
    rw [hR]
    clear hR
    have hf := ffbits
    have h8i : (s.size : Int) = 8 := by omega
    have H8 := Lib.hid h8
    clear h8
    go_enter Tryd.func7, Tryd.ntmps7
    go_upto_region 5 with (fail)
    go_loopw [4, 5] (fun u i wr => ∃ (j n : Nat), j ≤ 8 ∧ wr = w ∧ u = .int .u32 (n : Int) ∧ i = .int .i64 (j : Int) ∧ Hid (((txt s).take j).foldl mdlR (some 0) = some n)) (fun _ i _ => (8 - intOf i).toNat)
    case atStart => exact ⟨0, 0, by omega, rfl, rfl, rfl, Lib.hid rfl⟩
    case round =>
      obtain ⟨j, n, hj, rfl, rfl, rfl, hF⟩ := hrel
      have hn8 : n < 16 ^ j := by
        have := mdl_lt ((txt s).take j) (by rw [List.length_take]; omega) (fun c hc => txt_lt s c (List.mem_of_mem_take hc)) n hF.out
        rwa [List.length_take, txt_len, H8.out, Nat.min_eq_left hj] at this
      by_cases hlt : j < 8
      · have hji : (j : Int) < 8 := by omega
        obtain ⟨c, hc, hcat, hix⟩ := byte_of s j (by rw [H8.out]; exact hlt)
        have hix2 := hix 9 Tryd.underlying9 .i64
        have HX := Lib.hid hcat
        have hn7 : n < 268435456 := by
          have : 16 ^ j ≤ 16 ^ 7 := Nat.pow_le_pow_right (by omega) (by omega)
          omega
        clear hcat hix hn8
        by_cases d1 : 48 ≤ c ∧ c ≤ 57
        · have d1a : (48 : Int) ≤ c := by omega
          have d1b : (c : Int) ≤ 57 := by omega
          have HN := Lib.hid (show ((txt s).take (j + 1)).foldl mdlR (some 0) = some (n * 16 + (c - 48)) by
            rw [fold_take _ _ _ _ HX.out, hF.out]
            simp only [mdlR, Option.bind_some, hlN]
            rw [if_pos d1]
            rfl)
          go_wp2
          go_roundw
          case rel => exact ⟨j + 1, _, by omega, trivial, congrArg (Value.int .u32) (by omega), by go_num, HN⟩
          case measure => simp [intOf]; omega
        · by_cases d2 : 97 ≤ c ∧ c ≤ 102
          · have d2a : (97 : Int) ≤ c := by omega
            have d2b : (c : Int) ≤ 102 := by omega
            have d2c : ¬ (c : Int) ≤ 57 := by omega
            have d2d : (48 : Int) ≤ c := by omega
            have HN := Lib.hid (show ((txt s).take (j + 1)).foldl mdlR (some 0) = some (n * 16 + (c - 87)) by
              rw [fold_take _ _ _ _ HX.out, hF.out]
              simp only [mdlR, Option.bind_some, hlN]
              rw [if_neg d1, if_pos d2]
              rfl)
            go_wp2
            go_roundw
            case rel => exact ⟨j + 1, _, by omega, trivial, congrArg (Value.int .u32) (by omega), by go_num, HN⟩
            case measure => simp [intOf]; omega
          · have HNo := Lib.hid (show (txt s).foldl mdlR (some 0) = none from mdl_fail _ j c HX.out (by unfold hlN; rw [if_neg d1, if_neg d2]))
            have hRb : Ending.returned (Value.tuple #[Value.float .f32 0, Value.bool false]) = Ending.returned R := by
              rw [← HR.out]; unfold rdR; rw [if_pos H8.out, HNo.out]
            by_cases a1 : 48 ≤ c
            · have a2 : ¬ c ≤ 57 := fun h => d1 ⟨a1, h⟩
              have a1i : (48 : Int) ≤ c := by omega
              have a2i : ¬ (c : Int) ≤ 57 := by omega
              by_cases b1 : 97 ≤ c
              · have b2 : ¬ (c : Int) ≤ 102 := fun h => d2 ⟨b1, by omega⟩
                have b1i : (97 : Int) ≤ c := by omega
                go_wp2
                go_ret2
                exact ⟨hRb, rfl⟩
              · have b1i : ¬ (97 : Int) ≤ c := by omega
                go_wp2
                go_ret2
                exact ⟨hRb, rfl⟩
            · have a1i : ¬ (48 : Int) ≤ c := by omega
              have b1i : ¬ (97 : Int) ≤ c := by omega
              go_wp2
              go_ret2
              exact ⟨hRb, rfl⟩
      · obtain rfl : j = 8 := by omega
        have hFa : (txt s).foldl mdlR (some 0) = some n := by
          have := hF.out
          rwa [List.take_of_length_le (by rw [txt_len, H8.out]; exact Nat.le_refl _)] at this
        have hRr : R = .tuple #[.float .f32 n, .bool (nmB n == n)] := by rw [← HR.out]; unfold rdR; rw [if_pos H8.out, hFa]
        have HRr := Lib.hid hRr
        have TB := Lib.hid (fun w => (show Calls Tryd.prog 11 #[.float .f32 n] w fun e w' => e = .returned (.int .u32 ((nmB n : Nat) : Int)) ∧ w' = w from l01Bits_t n w))
        clear hFa hRr hF
        by_cases e : nmB n = n
        · rw [e] at TB
          go_wp2_with (go_at_call 11; refine (TB.out _).mono ?_; rintro e V1 ⟨rfl, hw1⟩; cases hw1; dsimp only)
          go_ret2
          exact ⟨by rw [HRr.out, e]; simp, rfl⟩
        · have HE := Lib.hid e
          generalize nmB n = m at TB HRr HE e
          have ei : ¬ (m : Int) = n := by omega
          go_wp2_with (go_at_call 11; refine (TB.out _).mono ?_; rintro e V1 ⟨rfl, hw1⟩; cases hw1; dsimp only)
          go_ret2
          exact ⟨by rw [HRr.out, ← show ((m : Int) == (n : Int)) = (m == n) by rw [show (m == n) = false by simp [HE.out]]; simp [ei]]; rfl, rfl⟩
  · have h8i : ¬ (s.size : Int) = 8 := by omega
    go_enter Tryd.func7, Tryd.ntmps7
    go_wp2
    go_ret2
    exact ⟨by unfold rdR; rw [if_neg h8]; rfl, rfl⟩
set_option maxRecDepth 100000 in
set_option maxHeartbeats 4000000 in
theorem specRn_t (s : ByteArray) (w : World) :
    Calls Tryd.prog 4 #[.string s] w fun e w' => ((∃ v, good s v ∧ e = .returned (.tuple #[.float .f32 v, .int .i64 0])) ∨ ((¬ ∃ v, good s v) ∧ e = .returned (.tuple #[.float .f32 0, .int .i64 5]))) ∧ w' = w := by
  have TR := Lib.hid (l01Read_t s w)
  by_cases hg : ∃ v, good s v
  · obtain ⟨v, hv⟩ := hg
    have e1 : rdR s = .tuple #[.float .f32 v, .bool true] := by unfold rdR; rw [if_pos (good_size hv), good_mdl hv]; simp [hv.2.1]
    rw [e1] at TR
    have HV := Lib.hid hv
    clear hv e1
    go_enter Tryd.func4, Tryd.ntmps4
    go_wp2_with (go_at_call 7; refine TR.out.mono ?_; rintro e V1 ⟨rfl, hw1⟩; cases hw1; dsimp only)
    go_ret2
    exact ⟨.inl ⟨v, HV.out, rfl⟩, rfl⟩
  · obtain ⟨x, e1⟩ : ∃ x, rdR s = .tuple #[x, .bool false] := by
      unfold rdR
      split
      · rename_i h8
        cases h : (txt s).foldl mdlR (some 0) with
        | none => exact ⟨_, rfl⟩
        | some n =>
          refine ⟨.float .f32 n, ?_⟩
          show Value.tuple #[.float .f32 n, .bool (nmB n == n)] = _
          rw [show (nmB n == n) = false by simp [bad_mdl hg h8 h]]
      · exact ⟨_, rfl⟩
    rw [e1] at TR
    have HG := Lib.hid hg
    clear hg e1
    go_enter Tryd.func4, Tryd.ntmps4
    go_wp2_with (go_at_call 7; refine TR.out.mono ?_; rintro e V1 ⟨rfl, hw1⟩; cases hw1; dsimp only)
    go_ret2
    exact ⟨.inr ⟨HG.out, rfl⟩, rfl⟩
end Go.Proofs.YtafiiliglbepjaaDoor
