/- The settled head of a cell: the model's and the program's. No condition. -/
import Derived.Test.YtcfkkceidlpdkaaDoorBal
namespace Go.Proofs.YtcfkkceidlpdkaaDoor
open Go.RowKit Go.Shelf
attribute [local go_sem] Oper.semAt_some run_store_float
set_option linter.unusedSimpArgs false
set_option linter.unusedVariables false

theorem bit_rem (x k : Nat) : ((x : Int) / 2 ^ k % 2 == 1) = x.testBit k := by
  have e : (x : Int) / 2 ^ k = ((x / 2 ^ k : Nat) : Int) := by simp
  rw [e, Nat.testBit_eq_decide_div_mod_eq]
  have : x / 2 ^ k % 2 = 0 ∨ x / 2 ^ k % 2 = 1 := by omega
  rcases this with h | h
  · have h2 : ((x / 2 ^ k : Nat) : Int) % 2 = 0 := by omega
    rw [h2, h]; rfl
  · have h2 : ((x / 2 ^ k : Nat) : Int) % 2 = 1 := by omega
    rw [h2, h]; rfl

theorem l01Fixed_any (G : Gd) (k : Nat) (hk : k < 64) (p : Nat) (w : World) (hp : GrdAt w p 0 G) (hG : GdOk G) :
    Calls Tryd.prog 62 #[.pointer (some ⟨p, 0, none⟩), .int .i64 k] w fun e w' => e = .returned (.bool (G.x.toNat.testBit k)) ∧ w = w' := by
  have xx := hG.x'
  obtain ⟨x, hx⟩ : ∃ x : Nat, G.x = x := ⟨G.x.toNat, by omega⟩
  have hb := Lib.hid (bit_rem x k)
  have a0 := hp.x
  rw [Nat.zero_add, hx] at a0
  rw [hx, Int.toNat_natCast]
  clear hp hG
  go_enter Tryd.func62, Tryd.ntmps62
  go_wp2
  go_ret
  exact ⟨ret_bool hb.out, rfl⟩
theorem l01Fixed_is (G : Gd) (k : Nat) (hk : k < 64) (r : Bool) (h : G.x.toNat.testBit k = r) (p : Nat) (w : World) (hp : GrdAt w p 0 G) (hG : GdOk G) :
    Calls Tryd.prog 62 #[.pointer (some ⟨p, 0, none⟩), .int .i64 k] w fun e w' => e = .returned (.bool r) ∧ w = w' := by
  subst h
  exact l01Fixed_any G k hk p w hp hG
theorem isFixed_is (G : Gd) (k : Nat) (hk : k < 64) (r : Bool) (h : G.x.toNat.testBit k = r) (p : Nat) (w : World) (hp : GrdAt w p 0 G) (hG : GdOk G) :
    Calls Tryd.prog 94 #[.pointer (some ⟨p, 0, none⟩), .int .i64 k] w fun e w' => e = .returned (.bool r) ∧ w = w' := by
  subst h
  exact isFixed_any G k hk p w hp hG

/-- The two sums over the first sides. -/
def hdTo (G : Gd) (k : Nat) : Nat → Option Nat × Option Nat
  | 0 => (num .f32 (G.g k), num .f32 0)
  | n + 1 => if nbB G k (n : Int) = true then (fop .f32 .add (hdTo G k n).1 (fop .f32 .mul (jointG G k (nbN k (n : Int))) (num .f32 (G.h (nbN k (n : Int))))), fop .f32 .add (hdTo G k n).2 (jointG G k (nbN k (n : Int)))) else hdTo G k n
/-- A number is 0 or -0. -/
def zeroO : Option Nat → Bool
  | some b => zeroB b
  | none => false
theorem zeroO_num {r : Nat} {o : Option Nat} (h : num .f32 r = o) : zeroB r = zeroO o := by
  subst h
  cases hn : nanK .f32 r
  · rw [num_some hn]; rfl
  · rw [num_none hn]
    have e : num .f32 r = num .f32 2143289344 := by rw [num_none hn]; decide +kernel
    unfold zeroB
    rw [order_num e (rfl : num .f32 0 = num .f32 0)]
    decide +kernel
/-- The settled head. -/
def headO (G : Gd) (k : Nat) : Option Nat := if G.x.toNat.testBit k = true then num .f32 (G.h k) else if zeroO (hdTo G k 4).2 = true then num .f32 (G.h k) else fop .f32 .quo (hdTo G k 4).1 (hdTo G k 4).2
theorem hdTo_ex (G : Gd) (k n : Nat) : (∃ r, num .f32 r = (hdTo G k n).1) ∧ (∃ r, num .f32 r = (hdTo G k n).2) := by
  induction n with
  | zero => exact ⟨num_ex _ _, num_ex .f32 0⟩
  | succ n ih =>
    unfold hdTo
    split
    · exact ⟨fop_ex _ _ rfl _ _ ih.1 (fop_ex _ _ rfl _ _ (jointG_ex _ _ _) (num_ex _ _)), fop_ex _ _ rfl _ _ ih.2 (jointG_ex _ _ _)⟩
    · exact ih
theorem headO_ex (G : Gd) (k : Nat) : ∃ r, num .f32 r = headO G k := by
  unfold headO
  split
  · exact num_ex _ _
  · split
    · exact num_ex _ _
    · exact fop_ex _ _ rfl _ _ (hdTo_ex G k 4).1 (hdTo_ex G k 4).2
/-- The same over a list of sides. -/
def hdL (G : Gd) (k : Nat) (l : List Nat) : Option Nat × Option Nat := l.foldl (fun o (s : Nat) => (fop .f32 .add o.1 (fop .f32 .mul (jointG G k (nbN k (s : Int))) (num .f32 (G.h (nbN k (s : Int))))), fop .f32 .add o.2 (jointG G k (nbN k (s : Int))))) (num .f32 (G.g k), num .f32 0)
theorem hdL_snoc (G : Gd) (k : Nat) (l : List Nat) (s : Nat) : hdL G k (l ++ [s]) = (fop .f32 .add (hdL G k l).1 (fop .f32 .mul (jointG G k (nbN k (s : Int))) (num .f32 (G.h (nbN k (s : Int))))), fop .f32 .add (hdL G k l).2 (jointG G k (nbN k (s : Int)))) := by simp [hdL]
theorem hdL_sides (G : Gd) (k n : Nat) : hdL G k (sidesTo G k n) = hdTo G k n := by
  induction n with
  | zero => rfl
  | succ n ih =>
    cases h : nbB G k (n : Int)
    · rw [sidesTo_no h, ih]; simp [hdTo, h]
    · rw [sidesTo_yes h, hdL_snoc, ih]; simp [hdTo, h]

set_option maxRecDepth 100000 in
set_option maxHeartbeats 1000000 in
theorem l02Head_any (G : Gd) (k : Nat) (hk : k < 64) (hv : validB G = true) (p : Nat) (w : World) (hp : GrdAt w p 0 G) (hG : GdOk G) :
    Calls Tryd.prog 66 #[.pointer (some ⟨p, 0, none⟩), .int .i64 k] w (GivesN (headO G k) w) := by
  have hc := hp.g
  have hh := hp.h
  rw [Nat.zero_add] at hc hh
  have c0 := Grd_fld hc k hk
  have c1 := Grd_fld hh k hk
  have Hh := Lib.hid hh
  have Hp := Lib.hid hp
  have HG := Lib.hid hG
  have hk2 : (k : Int) < 64 := by omega
  clear hp hG hc hh
  cases hf : G.x.toNat.testBit k
  · have R := Lib.hid (show headO G k = if zeroO (hdTo G k 4).2 = true then num .f32 (G.h k) else fop .f32 .quo (hdTo G k 4).1 (hdTo G k 4).2 by simp [headO, hf])
    have HF := Lib.hid hf
    clear hf
    go_enter Tryd.func66, Tryd.ntmps66
    go_wp2_with (go_at_call 62; refine (l01Fixed_is G k hk false HF.out _ _ Hp.out HG.out).mono ?_; rintro e w' ⟨rfl, rfl⟩)
    go_loopw [5, 6, 7] (fun s a i wr => ∃ n b d : Nat, n ≤ 4 ∧ i = .int .i64 n ∧ s = .float .f32 b ∧ a = .float .f32 d ∧ Hid (num .f32 b = (hdTo G k n).1) ∧ Hid (num .f32 d = (hdTo G k n).2) ∧ Hid (Quiet w wr)) (fun _ _ i _ => 4 - (intOf i).toNat)
    case atStart => exact ⟨0, G.g k, 0, by omega, rfl, rfl, rfl, rfl, rfl, Quiet.refl _⟩
    case round =>
      obtain ⟨n, b, d, hn, rfl, rfl, rfl, hb, hd, hQ⟩ := hrel
      by_cases hlt : n < 4
      · have hside : sideB (n : Int) = true := by simp [sideB]; omega
        cases hi : nbB G k (n : Int)
        · have Hb := Lib.hid (show besideN G k (n : Int) = -1 by simp [besideN, hi])
          have E := Lib.hid (show hdTo G k (n + 1) = hdTo G k n by simp [hdTo, hi])
          clear hi
          go_wp2_with (go_at_call 80; refine (l01Between_no G k hk n hside Hb.out _ _ (Quiet.grd hQ.out Hp.out) HG.out).mono ?_; rintro e w' ⟨rfl, rfl⟩)
          go_roundw
          case rel => exact ⟨n + 1, b, d, by omega, by go_num, rfl, rfl, by rw [E.out]; exact hb.out, by rw [E.out]; exact hd.out, hQ.out⟩
          case measure => simp [intOf]; omega
        · obtain ⟨hj1, hj⟩ := nbN_is hv hi
          have Hb := Lib.hid (show besideN G k (n : Int) = (nbN k (n : Int) : Int) by simp [besideN, hi, hj1])
          have E := Lib.hid (show hdTo G k (n + 1) = (fop .f32 .add (hdTo G k n).1 (fop .f32 .mul (jointG G k (nbN k (n : Int))) (num .f32 (G.h (nbN k (n : Int))))), fop .f32 .add (hdTo G k n).2 (jointG G k (nbN k (n : Int)))) by simp [hdTo, hi])
          clear hi hj1
          generalize nbN k (n : Int) = j at hj Hb E
          have hj2 : (j : Int) < 64 := by omega
          have t1 : True := trivial
          have t2 : True := trivial
          go_wp2_with (first | (go_at_call 80; refine (l01Between_yes G k j hk hj n hside Hb.out _ _ (Quiet.grd hQ.out Hp.out) HG.out).mono ?_; rintro e w1 ⟨q, rfl, hq, hQ1⟩; have cj := Grd_fld ((hQ.out.trans hQ1).range Hh.out) j hj; have HQ := Lib.hid hq; have HQ1 := Lib.hid (hQ.out.trans hQ1); clear hq hQ1) | (have _t := t1; refine wpList_float rfl _ _ _ _ _ rfl rfl .f32 _ _ rfl rfl ?_; intro r1 n1 hr; have R1 := Lib.hid hr; clear t1 hr) | (have _t := t2; refine wpList_float rfl _ _ _ _ _ rfl rfl .f32 _ _ rfl rfl ?_; intro r2 n2 hr; have R2 := Lib.hid hr; clear t2 hr) | (refine wpList_float rfl _ _ _ _ _ rfl rfl .f32 _ _ rfl rfl ?_; intro r3 n3 hr; have R3 := Lib.hid hr; clear hr))
          go_roundw
          case rel => exact ⟨n + 1, r2, r3, by omega, by go_num, rfl, rfl, by rw [E.out, R2.out, hb.out, R1.out, HQ.out]; rfl, by rw [E.out, R3.out, hd.out, HQ.out]; rfl, HQ1.out.trans ⟨_, rfl⟩⟩
          case measure => simp [intOf]; omega
      · obtain rfl : n = 4 := by omega
        have zz := zeroO_num hd.out
        have c1' : wr.cell? ⟨p, 130 + k, none⟩ = some (.float .f32 (G.h k)) := kq c1 wr hQ.out
        unfold zeroB at zz
        cases hz : (FloatKind.f32.format.order d 0 == some Ordering.eq)
        · have Z := Lib.hid (R.out.trans (show _ = fop .f32 .quo (hdTo G k 4).1 (hdTo G k 4).2 by rw [← zz, hz]; rfl))
          clear zz
          go_wp2_with (refine wpList_float rfl _ _ _ _ _ rfl rfl .f32 _ _ rfl rfl ?_; intro r1 n1 hr; have R1 := Lib.hid hr; clear hr)
          go_ret
          exact ⟨r1, rfl, by rw [Z.out, R1.out, hb.out, hd.out], hQ.out.trans ⟨_, rfl⟩⟩
        · have Z := Lib.hid (R.out.trans (show _ = num .f32 (G.h k) by rw [← zz, hz]; rfl))
          clear zz
          go_wp2
          go_ret
          exact ⟨G.h k, rfl, Z.out.symm, hQ.out⟩
  · have R := Lib.hid (show headO G k = num .f32 (G.h k) by simp [headO, hf])
    have HF := Lib.hid hf
    clear hf
    go_enter Tryd.func66, Tryd.ntmps66
    go_wp2_with (go_at_call 62; refine (l01Fixed_is G k hk true HF.out _ _ Hp.out HG.out).mono ?_; rintro e w' ⟨rfl, rfl⟩)
    go_ret
    exact ⟨G.h k, rfl, R.out.symm, Quiet.refl _⟩
end Go.Proofs.YtcfkkceidlpdkaaDoor
