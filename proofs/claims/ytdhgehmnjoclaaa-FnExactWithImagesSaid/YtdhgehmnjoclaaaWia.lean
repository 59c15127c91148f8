/- Wells and their images: what comes out, and the model's side. Condition: at most 2^20 wells. -/
import Derived.Test.YtdhgehmnjoclaaaWrw
namespace Go.Proofs.Ytdhgehmnjoclaaa
open Go Go.RowKit Ieee Go.Shelf
set_option linter.unusedSimpArgs false
set_option linter.unusedVariables false
attribute [local go_sem] run_store_f32

def okW3 (e : W3) : Prop := (-128 ≤ e.1 ∧ e.1 ≤ 127) ∧ -128 ≤ e.2.1 ∧ e.2.1 ≤ 127
def vW (e : W3) : Bool := weB e.1 e.2.1 e.2.2
def imE (tw : Int) (river : Bool) (e : W3) : W3 := (tw - e.1, e.2.1, imR e.2.2 river)
def imG (tw : Int) (e : W3) : Bool := imC e.1 tw == 0
def wiK (L : List W3) (tw : Int) : Int := if L.all vW = false then 1 else if 6 < L.length then 3 else if L.all (imG tw) = true then 0 else 2
def wiV (L : List W3) (tw : Int) (river : Bool) : List W3 := if wiK L tw = 0 then L ++ L.map (imE tw river) else []
theorem wiK_bad {L : List W3} {tw : Int} {k : Nat} {e : W3} (he : L[k]? = some e) (h : vW e = false) : wiK L tw = 1 := by
  unfold wiK
  rw [if_pos]
  rw [List.all_eq_false]
  exact ⟨e, List.mem_of_getElem? he, by rw [h]; simp⟩
theorem all_of {L : List W3} {f : W3 → Bool} {n : Nat} (hn : L.length = n) (h : ∀ j e, j < n → L[j]? = some e → f e = true) : L.all f = true := by
  rw [List.all_eq_true]
  intro e he
  obtain ⟨j, hj⟩ := List.getElem?_of_mem he
  exact h j e (by rw [← hn]; exact (List.getElem?_eq_some_iff.1 hj).1) hj
theorem wiK_many {L : List W3} {tw : Int} (h : L.all vW = true) (hn : 6 < L.length) : wiK L tw = 3 := by
  unfold wiK
  rw [if_neg (by rw [h]; simp), if_pos hn]
theorem wiK_far {L : List W3} {tw : Int} {k : Nat} {e : W3} (h : L.all vW = true) (hn : L.length ≤ 6) (he : L[k]? = some e) (hf : imG tw e = false) : wiK L tw = 2 := by
  unfold wiK
  rw [if_neg (by rw [h]; simp), if_neg (by omega), if_neg]
  intro ha
  rw [List.all_eq_true] at ha
  have := ha e (List.mem_of_getElem? he)
  rw [hf] at this
  cases this
theorem wiK_ok {L : List W3} {tw : Int} (h : L.all vW = true) (hn : L.length ≤ 6) (ha : L.all (imG tw) = true) : wiK L tw = 0 := by
  unfold wiK
  rw [if_neg (by rw [h]; simp), if_neg (by omega), if_pos ha]
theorem im_yes {tw : Int} {river : Bool} {e : W3} (h : imG tw e = true) : imC e.1 tw = 0 ∧ imW e.1 e.2.1 e.2.2 tw river = We (tw - e.1) e.2.1 (imR e.2.2 river) := by
  have h0 : imC e.1 tw = 0 := by simpa [imG] using h
  exact ⟨h0, imW_ok h0⟩
theorem im_no {tw : Int} {river : Bool} {e : W3} (h : imG tw e = false) : imC e.1 tw = 2 ∧ imW e.1 e.2.1 e.2.2 tw river = We 0 0 0 := by
  have h0 : imC e.1 tw = 2 := by
    rcases imC_is e.1 tw with h1 | h1
    · simp [imG, h1] at h
    · exact h1
  exact ⟨h0, imW_no h0⟩
theorem img_val {tw : Int} {river : Bool} {e : W3} (h : vW e = true) : imgC e.1 e.2.1 e.2.2 tw = imC e.1 tw ∧ imgW e.1 e.2.1 e.2.2 tw river = imW e.1 e.2.1 e.2.2 tw river := by
  have h' : weB e.1 e.2.1 e.2.2 = true := h
  simp [imgC, imgW, h']

/-- What both sides say. -/
def WiP (L : List W3) (tw : Int) (river : Bool) (w : World) (e : Ending) (w' : World) : Prop := ∃ P cap, e = .returned (.tuple #[.slice P (wiV L tw river).length cap, .int .i64 (wiK L tw)]) ∧ WsAt w' P (wiV L tw river) ∧ (wiV L tw river ≠ [] → ∃ b, P = some ⟨b, 0, none⟩ ∧ w.heap.size ≤ b ∧ b < w'.heap.size ∧ w'.there b 0 ((wiV L tw river).length * 3)) ∧ Below w.heap.size w w'
theorem WiP.no {L : List W3} {tw : Int} {river : Bool} {w w' : World} {P : Option Addr} {cap : Nat} {c : Int} (hk : wiK L tw = c) (hc : c ≠ 0) (hB : Below w.heap.size w w') : WiP L tw river w (.returned (.tuple #[.slice P 0 cap, .int .i64 c])) w' := by
  have hv : wiV L tw river = [] := by unfold wiV; rw [hk, if_neg hc]
  unfold WiP
  rw [hv, hk]
  exact ⟨P, cap, rfl, fun i e he => by simp at he, fun h => absurd rfl h, hB⟩
theorem WiP.yes {L : List W3} {tw : Int} {river : Bool} {w w' : World} {g cap m : Nat} (hk : wiK L tw = 0) (hm : m = L.length + L.length) (hr : WRow w' g cap (L ++ L.map (imE tw river))) (hg : w.heap.size ≤ g) (hB : Below w.heap.size w w') : WiP L tw river w (.returned (.tuple #[.slice (some ⟨g, 0, none⟩) m cap, .int .i64 0])) w' := by
  have hv : wiV L tw river = L ++ L.map (imE tw river) := by unfold wiV; rw [if_pos hk]
  have hl : (L ++ L.map (imE tw river)).length = m := by simp [hm]
  unfold WiP
  rw [hv, hk, hl]
  exact ⟨_, cap, rfl, hr.at, fun _ => ⟨g, rfl, hg, hr.lt, by have := hr.there; rwa [hl] at this⟩, hB⟩
theorem wrow_alloc {w : World} {g cap : Nat} {xs : List W3} (h : WRow w g cap xs) (o : Obj) : WRow (w.alloc o) g cap xs := h.kept (heap_alloc_old w o h.lt)
theorem wsAt_one (V : World) (e : W3) : WsAt (V.alloc (.cells #[.int .i8 e.1, .int .i8 e.2.1, .float .f32 e.2.2] 35)) (some ⟨V.heap.size, 0, none⟩) [e] := fun i f hf => by
  match i, hf with
  | 0, hf =>
    simp only [List.getElem?_cons_zero, Option.some.injEq] at hf
    subst hf
    refine ⟨_, _, rfl, fun j v hj => ?_⟩
    rw [cell_of_row _ _ _ _ _ _ (heap_alloc_last V _)]
    simpa [w3, We] using hj
  | i + 1, hf => simp at hf
theorem belowMore' {n : Nat} {a w : World} (h : Below n a w) (o : Obj) (hn : n ≤ a.heap.size := by omega) : Below n a (w.alloc o) := h.alloc (Nat.le_trans hn h.size) o
theorem grown_below {w w' : World} {n k : Nat} (h : w.grownBy w' (some k)) (hk : n ≤ k) (hn : n ≤ w.heap.size) : Below n w w' :=
  ⟨h.os, h.tape, h.output, h.size, fun j hj => h.block j (by omega) (fun e => by have := Option.some.inj e; omega)⟩
theorem take_im {L : List W3} {k : Nat} {e : W3} {tw : Int} {river : Bool} (he : L[k]? = some e) : L ++ (L.take k).map (imE tw river) ++ [imE tw river e] = L ++ (L.take (k + 1)).map (imE tw river) := by
  have hk := (List.getElem?_eq_some_iff.1 he)
  obtain ⟨h1, h2⟩ := hk
  rw [List.take_add_one, List.map_append, he]
  simp

set_option maxRecDepth 100000 in
set_option maxHeartbeats 2000000 in
theorem specWi_any (p : Addr) (c : Nat) (L : List W3) (tw : Int) (river : Bool) (hL : L.length ≤ 1048576) (hO : ∀ e ∈ L, okW3 e) (w : World) (hp : WsAt w (some p) L) :
    Calls Try.prog 5 #[.slice (some p) L.length c, .int .i64 tw, .bool river] w fun e w' => WiP L tw river w e w' := by
  have P0 := Lib.hid hp
  have HO := Lib.hid hO
  obtain ⟨n, hn⟩ : ∃ n, L.length = n := ⟨_, rfl⟩
  have HN := Lib.hid hn
  rw [hn] at hL ⊢
  clear hp hn hO
  obtain ⟨R, hR⟩ : ∃ R, R = fun (e : Ending) (w' : World) => WiP L tw river w e w' := ⟨_, rfl⟩
  rw [← hR]
  have HR := Lib.hid hR
  clear hR
  go_enter Try.func5, Try.ntmps5
  go_wp2
  go_loopw [8] (fun i wr => ∃ k : Nat, k ≤ n ∧ i = .int .i64 k ∧ Hid (∀ j e, j < k → L[j]? = some e → vW e = true) ∧ Hid (Below w.heap.size w wr)) (fun i _ => n - (intOf i).toNat)
  case atStart => exact ⟨0, by omega, rfl, Lib.hid (fun j _ hj => absurd hj (by omega)), Lib.hid (Below.refl _ _)⟩
  case round =>
    obtain ⟨k, hk, rfl, hA, hB⟩ := hrel
    by_cases hlt : k < n
    · have hki : (k : Int) < n := by omega
      obtain ⟨e, he⟩ : ∃ e, L[k]? = some e := ⟨_, List.getElem?_eq_getElem (by rw [HN.out]; exact hlt)⟩
      obtain ⟨b, o, hpe, hr⟩ := (P0.out.keep hB.out) k e he
      cases hpe
      have HE := Lib.hid he
      have T0 := fun V => l03Ok_any e.1 e.2.1 e.2.2 (HO.out e (List.mem_of_getElem? he)).1 (HO.out e (List.mem_of_getElem? he)).2 V
      have c0 : wr.cell? ⟨b, o + k * 3, none⟩ = some (.int .i8 e.1) := hr 0 _ rfl
      have c1 : wr.cell? ⟨b, o + k * 3 + 1, none⟩ = some (.int .i8 e.2.1) := hr 1 _ rfl
      have c2 : wr.cell? ⟨b, o + k * 3 + 2, none⟩ = some (.float .f32 e.2.2) := hr 2 _ rfl
      simp only [We] at T0
      clear hr he
      cases hv : vW e
      · have HV := Lib.hid (show weB e.1 e.2.1 e.2.2 = false from hv)
        have HK := Lib.hid (wiK_bad (tw := tw) HE.out hv)
        clear hv
        go_wp2_with (go_at_call 11; refine (T0 _).mono ?_; rintro x V1 ⟨rfl, hq1⟩; rw [HV.out]; have Q1 := Lib.hid hq1; clear hq1 c0 c1 c2)
        show R (.returned (.tuple #[.slice (some ⟨_, 0, none⟩) 0 0, .int .i64 _])) _
        rw [HR.out]
        exact WiP.no HK.out (by omega) (belowMore' (hB.out.trans (Q1.out.mono hB.out.size)) _)
      · have HV := Lib.hid (show weB e.1 e.2.1 e.2.2 = true from hv)
        have HVE := Lib.hid hv
        clear hv
        go_wp2_with (go_at_call 11; refine (T0 _).mono ?_; rintro x V1 ⟨rfl, hq1⟩; rw [HV.out]; have Q1 := Lib.hid hq1; clear hq1 c0 c1 c2)
        go_roundw
        case rel => exact ⟨k + 1, by omega, by go_num, Lib.hid (fun j f hj hf => by
            by_cases h : j = k
            · subst h; rw [HE.out] at hf; cases hf; exact HVE.out
            · exact hA.out j f (by omega) hf), Lib.hid (hB.out.trans (Q1.out.mono hB.out.size))⟩
        case measure => simp [intOf]; omega
    · obtain rfl : k = n := by omega
      have HA := Lib.hid (all_of HN.out hA.out)
      by_cases h6 : 6 < k
      · have h6i : (6 : Int) < k := by omega
        have HK := Lib.hid (wiK_many (tw := tw) HA.out (by rw [HN.out]; exact h6))
        go_wp2
        show R (.returned (.tuple #[.slice (some ⟨_, 0, none⟩) 0 0, .int .i64 _])) _
        rw [HR.out]
        exact WiP.no HK.out (by omega) (belowMore' hB.out _)
      · have h6i : ¬ (6 : Int) < k := by omega
        have HL6 := Lib.hid (show L.length ≤ 6 by rw [HN.out]; omega)
        have hWB := hB.out
        have BN := Lib.hid (belowMore' hB.out (.cells #[] 35))
        have RN := Lib.hid (wrow_nil wr)
        go_wp2_with (refine wpList_appW rfl _ _ rfl RN.out rfl HN.out (P0.out.keep BN.out) (by simp; omega) (by rfl) (by rfl) ?_; intro g cap w1 h1 h2 h3 _; simp only [List.nil_append, Nat.zero_add] at h1 ⊢; have H1 := Lib.hid h1; have B1 := Lib.hid (BN.out.trans (grown_below h2 hWB.size (by simp; exact Nat.le_trans hWB.size (Nat.le_succ _)))); have G1 := Lib.hid (show w.heap.size ≤ g by have hs := hWB.size; simp at h3; rcases h3 with h3 | h3 <;> omega); clear h1 h2 h3)
        clear hWB
        go_loopw [9, 10] (fun s i wr => ∃ (q g cap : Nat), q ≤ k ∧ i = .int .i64 q ∧ s = .slice (some ⟨g, 0, none⟩) (k + q) cap ∧ Hid (WRow wr g cap (L ++ (L.take q).map (imE tw river))) ∧ Hid (∀ j e, j < q → L[j]? = some e → imG tw e = true) ∧ Hid (w.heap.size ≤ g) ∧ Hid (Below w.heap.size w wr)) (fun _ i _ => k - (intOf i).toNat)
        case atStart => exact ⟨0, g, cap, by omega, rfl, rfl, Lib.hid (by simpa using H1.out), Lib.hid (fun j _ hj => absurd hj (by omega)), G1, B1⟩
        case round =>
          obtain ⟨q, g2, cap2, hq, rfl, rfl, hW, hI, hG, hB2⟩ := hrel
          by_cases hlt2 : q < k
          · have hqi : (q : Int) < k := by omega
            obtain ⟨e, he⟩ : ∃ e, L[q]? = some e := ⟨_, List.getElem?_eq_getElem (by rw [HN.out]; exact hlt2)⟩
            obtain ⟨b, o, hpe, hr⟩ := (P0.out.keep hB2.out) q e he
            cases hpe
            have HE := Lib.hid he
            have hve : vW e = true := List.all_eq_true.1 HA.out e (List.mem_of_getElem? he)
            obtain ⟨a1, a2⟩ := img_val (tw := tw) (river := river) hve
            have T0 := fun V => specImageOf_any e.1 e.2.1 e.2.2 (HO.out e (List.mem_of_getElem? he)).1 (HO.out e (List.mem_of_getElem? he)).2 tw river V
            rw [a1, a2] at T0
            have c0 : wr.cell? ⟨b, o + q * 3, none⟩ = some (.int .i8 e.1) := hr 0 _ rfl
            have c1 : wr.cell? ⟨b, o + q * 3 + 1, none⟩ = some (.int .i8 e.2.1) := hr 1 _ rfl
            have c2 : wr.cell? ⟨b, o + q * 3 + 2, none⟩ = some (.float .f32 e.2.2) := hr 2 _ rfl
            clear hr he hve a1 a2
            cases hi : imG tw e
            · obtain ⟨a1, a2⟩ := im_no (tw := tw) (river := river) hi
              rw [a1, a2] at T0
              have HK := Lib.hid (wiK_far HA.out HL6.out HE.out hi)
              clear hi a1 a2
              simp only [We] at T0
              go_wp2_with (go_at_call 12; refine (T0 _).mono ?_; rintro x V1 ⟨rfl, hq1⟩; have Q1 := Lib.hid hq1; clear hq1 c0 c1 c2)
              show R (.returned (.tuple #[.slice (some ⟨_, 0, none⟩) 0 0, .int .i64 _])) _
              rw [HR.out]
              exact WiP.no HK.out (by omega) (belowMore' (belowMore' (hB2.out.trans (Q1.out.mono hB2.out.size)) _) _)
            · obtain ⟨a1, a2⟩ := im_yes (tw := tw) (river := river) hi
              rw [a1, a2] at T0
              have HIE := Lib.hid hi
              have HLQ := Lib.hid (show (L ++ (L.take q).map (imE tw river)).length = k + q by simp [HN.out]; omega)
              clear hi a1 a2
              simp only [We] at T0
              have hk6 : k ≤ 6 := by omega
              go_wp2_with (first | (go_at_call 12; refine (T0 _).mono ?_; rintro x V1 ⟨rfl, hq1⟩; have Q1 := Lib.hid hq1; clear hq1 c0 c1 c2) | (refine wpList_appW (M := [imE tw river e]) (g := g2) (cap := cap2) (n := k + q) (m := 1) (c := 1) (xs := L ++ (L.take q).map (imE tw river)) (ap := ⟨V1.heap.size + 1, 0, none⟩) rfl (.tmp 53) (.tmp 55) rfl (wrow_alloc (wrow_alloc (hW.out.keep Q1.out) _) _) HLQ.out rfl (by have := wsAt_one (V1.alloc (.cells #[.int .i8 (tw - e.1), .int .i8 e.2.1, .float .f32 (imR e.2.2 river)] 35)) (imE tw river e); rw [show (V1.alloc (.cells #[.int .i8 (tw - e.1), .int .i8 e.2.1, .float .f32 (imR e.2.2 river)] 35)).heap.size = V1.heap.size + 1 by simp] at this; exact this) (by omega) rfl rfl ?_; intro g3 cap3 w3' h1 h2 h3 _; rw [take_im HE.out] at h1; have hV1 := Nat.le_trans hB2.out.size Q1.out.size; have BV := belowMore' (belowMore' (hB2.out.trans (Q1.out.mono hB2.out.size)) (.cells #[.int .i8 (tw - e.1), .int .i8 e.2.1, .float .f32 (imR e.2.2 river)] 35)) (.cells #[.int .i8 (tw - e.1), .int .i8 e.2.1, .float .f32 (imR e.2.2 river)] 35); have H1 := Lib.hid h1; have B3 := Lib.hid (BV.trans (grown_below h2 hG.out BV.size)); have G3 := Lib.hid (show w.heap.size ≤ g3 by have hs := BV.size; have hgo := hG.out; rcases h3 with h3 | h3 <;> omega); clear h1 h2 h3 BV hV1))
              go_roundw
              case rel => exact ⟨q + 1, g3, cap3, by omega, by go_num, rfl, H1, Lib.hid (fun j f hj hf => by
                by_cases h : j = q
                · subst h; rw [HE.out] at hf; cases hf; exact HIE.out
                · exact hI.out j f (by omega) hf), G3, B3⟩
              case measure => simp [intOf]; omega
          · obtain rfl : q = k := by omega
            have HK := Lib.hid (wiK_ok HA.out HL6.out (all_of HN.out hI.out))
            go_wp2
            show R (.returned (.tuple #[.slice (some ⟨_, 0, none⟩) _ _, .int .i64 _])) _
            rw [HR.out]
            exact WiP.yes HK.out (by rw [HN.out]) (by have := hW.out; rwa [List.take_of_length_le (by rw [HN.out]; omega)] at this) hG.out hB2.out
end Go.Proofs.Ytdhgehmnjoclaaa
