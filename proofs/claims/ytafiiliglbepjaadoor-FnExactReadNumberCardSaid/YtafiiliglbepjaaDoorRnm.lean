/- Texts of numbers, read: the digits as numbers. Condition: none. -/
import Derived.Test.YtafiiliglbepjaaDoorNt
namespace Go.Proofs.YtafiiliglbepjaaDoor
open Go Go.RowKit
set_option linter.unusedSimpArgs false
set_option linter.unusedVariables false

/-- A digit as the library reads it. -/
def hdN (c : Nat) : Option Nat := if 48 ≤ c ∧ c ≤ 57 then some (c - 48) else if 97 ≤ (c ||| 32) ∧ (c ||| 32) ≤ 122 then (if (c ||| 32) - 87 < 16 then some ((c ||| 32) - 87) else none) else none
/-- A digit as the document has it. -/
def hlN (c : Nat) : Option Nat := if 48 ≤ c ∧ c ≤ 57 then some (c - 48) else if 97 ≤ c ∧ c ≤ 102 then some (c - 87) else none
def stpR (o : Option Nat) (c : Nat) : Option Nat := o.bind fun n => (hdN c).bind fun d => if n * 16 + d < 4294967296 then some (n * 16 + d) else none
def mdlR (o : Option Nat) (c : Nat) : Option Nat := o.bind fun n => (hlN c).map fun d => n * 16 + d
def dgN (d : Nat) : Nat := (dg d).toNat
def hexB (n J : Nat) : List Nat := (List.range J).map fun i => dgN (n / 16 ^ (J - 1 - i) % 16)
theorem hexB_len (n J : Nat) : (hexB n J).length = J := by simp [hexB]
theorem hexB_succ (n J : Nat) : hexB n (J + 1) = hexB (n / 16) J ++ [dgN (n % 16)] := by
  unfold hexB
  rw [List.range_succ, List.map_append]
  congr 1
  · apply List.map_congr_left
    intro i hi
    rw [List.mem_range] at hi
    rw [Nat.div_div_eq_div_mul, show J + 1 - 1 - i = (J - 1 - i) + 1 by omega, Nat.pow_succ, Nat.mul_comm]
  · simp
theorem hd_dg : ∀ d, d < 16 → hdN (dgN d) = some d ∧ hlN (dgN d) = some d ∧ dgN d < 256 := by decide
theorem hl_dg : ∀ c, c < 256 → ∀ d, d < 16 → hlN c = some d → c = dgN d := by decide +kernel
theorem hl_lt (c d : Nat) (h : hlN c = some d) : d < 16 := by
  unfold hlN at h
  split at h
  · cases h; omega
  · split at h
    · cases h; omega
    · cases h
theorem mdl_hex : ∀ J n, n < 16 ^ J → (hexB n J).foldl mdlR (some 0) = some n
  | 0, n, h => by
    obtain rfl : n = 0 := by simpa using h
    rfl
  | J + 1, n, h => by
    rw [hexB_succ, List.foldl_append, mdl_hex J (n / 16) (by rw [Nat.pow_succ] at h; omega)]
    simp only [List.foldl_cons, List.foldl_nil, mdlR, Option.bind_some, (hd_dg _ (Nat.mod_lt n (by omega : 0 < 16))).2.1, Option.map_some]
    congr 1; omega
theorem stp_hex : ∀ J n, n < 16 ^ J → n < 4294967296 → (hexB n J).foldl stpR (some 0) = some n
  | 0, n, h, _ => by
    obtain rfl : n = 0 := by simpa using h
    rfl
  | J + 1, n, h, h2 => by
    rw [hexB_succ, List.foldl_append, stp_hex J (n / 16) (by rw [Nat.pow_succ] at h; omega) (by omega)]
    simp only [List.foldl_cons, List.foldl_nil, stpR, Option.bind_some, (hd_dg _ (Nat.mod_lt n (by omega : 0 < 16))).1]
    rw [if_pos (by omega)]
    congr 1; omega
theorem mdl_back : ∀ (J : Nat) (l : List Nat) (n : Nat), l.length = J → (∀ c ∈ l, c < 256) → l.foldl mdlR (some 0) = some n → l = hexB n J ∧ n < 16 ^ J
  | 0, l, n, hl, _, h => by
    obtain rfl := List.length_eq_zero_iff.1 hl
    cases h
    exact ⟨rfl, by omega⟩
  | J + 1, l, n, hl, hc, h => by
    have hne : l ≠ [] := fun e => by rw [e] at hl; cases hl
    have e := List.dropLast_concat_getLast hne
    generalize l.getLast hne = c at e
    generalize l.dropLast = l' at e
    subst e
    have hl' : l'.length = J := by simpa using hl
    rw [List.foldl_append] at h
    simp only [List.foldl_cons, List.foldl_nil, mdlR] at h
    obtain ⟨m, hm, h2⟩ := Option.bind_eq_some_iff.1 h
    obtain ⟨d, hd, h3⟩ := Option.map_eq_some_iff.1 h2
    subst h3
    obtain ⟨e1, e2⟩ := mdl_back J l' m hl' (fun x hx => hc x (by simp [hx])) hm
    have hd16 := hl_lt c d hd
    rw [hexB_succ, show (m * 16 + d) / 16 = m by omega, show (m * 16 + d) % 16 = d by omega, ← e1, ← hl_dg c (hc c (by simp)) d hd16 hd]
    exact ⟨rfl, by rw [Nat.pow_succ]; omega⟩
theorem stp_none (l : List Nat) : l.foldl stpR none = none := by
  induction l with
  | nil => rfl
  | cons c r ih => exact ih
theorem mdl_none (l : List Nat) : l.foldl mdlR none = none := by
  induction l with
  | nil => rfl
  | cons c r ih => exact ih
theorem stp_lt : ∀ (l : List Nat) (o : Option Nat), (∀ n, o = some n → n < 4294967296) → ∀ v, l.foldl stpR o = some v → v < 4294967296
  | [], o, ho, v, h => ho v h
  | c :: r, o, ho, v, h => stp_lt r (stpR o c) (fun n hn => by
      unfold stpR at hn
      obtain ⟨m, _, h2⟩ := Option.bind_eq_some_iff.1 hn
      obtain ⟨d, _, h3⟩ := Option.bind_eq_some_iff.1 h2
      split at h3
      · cases h3; assumption
      · cases h3) v h
def nmB (b : Nat) : Nat := if nanK .f32 b then 2143289344 else b
theorem nm_nm (b : Nat) : nmB (nmB b) = nmB b := by
  cases h : nanK .f32 b
  · have e : nmB b = b := by unfold nmB; rw [h]; rfl
    rw [e, e]
  · have e : nmB b = 2143289344 := by unfold nmB; rw [h]; rfl
    rw [e]
    unfold nmB
    rw [show nanK .f32 2143289344 = true by decide]
    rfl
theorem nm_lt {b : Nat} (h : b < 4294967296) : nmB b < 4294967296 := by unfold nmB; split <;> omega
/-- A text's bytes as numbers. -/
def txt (s : ByteArray) : List Nat := s.data.toList.map UInt8.toNat
theorem txt_len (s : ByteArray) : (txt s).length = s.size := by unfold txt; rw [List.length_map, Array.length_toList]; rfl
theorem txt_lt (s : ByteArray) : ∀ c ∈ txt s, c < 256 := fun c hc => by
  obtain ⟨x, _, rfl⟩ := List.mem_map.1 hc
  exact x.toNat_lt
theorem txt_hex (n J : Nat) : txt (hexS n J) = hexB n J := by
  unfold txt hexS hexB
  rw [strOfNums_data]
  unfold hexL
  rw [List.map_map, List.map_map]
  apply List.map_congr_left
  intro i _
  show (UInt8.ofNat (dgt n (J - 1 - i)).toNat).toNat = _
  rw [UInt8.toNat_ofNat']
  exact Nat.mod_eq_of_lt (hd_dg _ (Nat.mod_lt _ (by omega))).2.2
theorem txt_inj {s t : ByteArray} (h : txt s = txt t) : s = t := by
  apply ByteArray.ext
  apply Array.toList_inj.1
  exact (List.map_inj_right (fun a b e => UInt8.toNat_inj.1 e)).1 h
/-- A text is one of a number that is what its text says. -/
def good (s : ByteArray) (v : Nat) : Prop := v < 4294967296 ∧ nmB v = v ∧ txt s = hexB v 8
theorem good_stp {s : ByteArray} {v : Nat} (h : good s v) : (txt s).foldl stpR (some 0) = some v := by rw [h.2.2]; exact stp_hex 8 v (by have := h.1; omega) h.1
theorem good_mdl {s : ByteArray} {v : Nat} (h : good s v) : (txt s).foldl mdlR (some 0) = some v := by rw [h.2.2]; exact mdl_hex 8 v (by have := h.1; omega)
theorem good_size {s : ByteArray} {v : Nat} (h : good s v) : s.size = 8 := by rw [← txt_len, h.2.2, hexB_len]
theorem good_text {s : ByteArray} {v : Nat} (h : good s v) : hexS (nmB v) 8 = s := by rw [h.2.1]; exact txt_inj (by rw [txt_hex, h.2.2])
theorem bad_mdl {s : ByteArray} (h : ¬ ∃ v, good s v) (h8 : s.size = 8) {v : Nat} (hv : (txt s).foldl mdlR (some 0) = some v) : nmB v ≠ v := fun e => by
  obtain ⟨a, b⟩ := mdl_back 8 (txt s) v (by rw [txt_len, h8]) (txt_lt s) hv
  exact h ⟨v, by omega, e, a⟩
theorem bad_text {s : ByteArray} (h : ¬ ∃ v, good s v) {v : Nat} (hv : v < 4294967296) : hexS (nmB v) 8 ≠ s := fun e =>
  h ⟨nmB v, nm_lt hv, nm_nm v, by rw [← e, txt_hex]⟩
end Go.Proofs.YtafiiliglbepjaaDoor
