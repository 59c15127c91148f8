/- Narrow numbers made wide, and whether two wide numbers are the same. No condition. -/
import Derived.Test.YtcfkkceidlpdkaaDoorFloat
import Derived.Lib.Hide
import Derived.WalkLawsBesides
import Derived.BigQuiet
import Derived.Deep.QuietTactic
namespace Go.Proofs.YtcfkkceidlpdkaaDoor
open Go.RowKit Ieee

theorem read_fin (k : FloatKind) (neg : Bool) (rung : Nat) (h : rung < k.format.infRung) : (k.format.read (k.format.word neg rung)).isInfinity = false := by
  have hs := infRung_lt_sign k
  have hm : k.format.word neg rung % k.format.signWeight = rung := by
    unfold Format.word
    cases neg
    · simp [Nat.mod_eq_of_lt (by omega : rung < k.format.signWeight)]
    · simp [Nat.mod_eq_of_lt (by omega : rung < k.format.signWeight)]
  unfold Format.read
  simp only [hm]
  split
  · rfl
  · first | rfl | (rw [if_pos h]; rfl)

theorem single_number {b : Nat} {s : Bool} {m : Nat} {i : Int} (h : single.read b = .number s m i) : m < 16777216 ∧ -149 ≤ i ∧ i ≤ 104 := by
  have e1 : single.signWeight = 2147483648 := by decide +kernel
  have e2 : single.infRung = 2139095040 := by decide +kernel
  have e3 : single.binade = 8388608 := by decide +kernel
  have e4 : single.leastPlace = -149 := by decide +kernel
  unfold Format.read at h
  simp only [e1, e2, e3, e4] at h
  split at h
  · simp only [Datum.number.injEq] at h
    obtain ⟨_, rfl, rfl⟩ := h
    omega
  · split at h
    · simp only [Datum.number.injEq] at h
      obtain ⟨_, rfl, rfl⟩ := h
      omega
    · split at h <;> cases h

theorem cut_none (neg : Bool) (n : Nat) : Toward.even.cut neg n 0 = n := by
  simp [Toward.cut, Nat.mod_one]

theorem double_fin (s : Bool) (m : Nat) (i : Int) (hm : m < 16777216) (h1 : -149 ≤ i) (h2 : i ≤ 104) : (FloatKind.f64.format.read (FloatKind.f64.format.write (.number s m i))).isInfinity = false := by
  show (FloatKind.f64.format.read (FloatKind.f64.format.nearest s m i)).isInfinity = false
  have e4 : FloatKind.f64.format.leastPlace = -1074 := by decide +kernel
  have e5 : FloatKind.f64.format.fractionBits = 52 := rfl
  unfold Format.nearest
  split
  · exact read_fin .f64 s 0 (by decide +kernel)
  · rename_i h0
    have hl : m.log2 < 24 := (Nat.log2_lt h0).2 (by simpa using hm)
    have hlt : m < 2 ^ (m.log2 + 1) := Nat.lt_log2_self
    have hmax : max (i + (m.log2 : Int) - (52 : Int)) (-1074) = i + (m.log2 : Int) - 52 := by omega
    simp only [e4, e5]
    rw [show ((52 : Nat) : Int) = 52 from rfl, hmax]
    have hd : (i + (m.log2 : Int) - 52 - i).toNat = 0 := by omega
    have hu : (i - (i + (m.log2 : Int) - 52)).toNat = 52 - m.log2 := by omega
    rw [hd, hu, cut_none]
    have hk : m <<< (52 - m.log2) < 2 ^ 53 := by
      rw [Nat.shiftLeft_eq]
      calc m * 2 ^ (52 - m.log2) < 2 ^ (m.log2 + 1) * 2 ^ (52 - m.log2) := Nat.mul_lt_mul_of_pos_right hlt (Nat.two_pow_pos _)
        _ = 2 ^ 53 := by rw [← Nat.pow_add]; congr 1; omega
    have hX : (i + (m.log2 : Int) - 52 - -1074).toNat ≤ 1149 := by omega
    have hb : FloatKind.f64.format.binade = 2 ^ 52 := rfl
    have hr : (i + (m.log2 : Int) - 52 - -1074).toNat * FloatKind.f64.format.binade + m <<< (52 - m.log2) < FloatKind.f64.format.infRung := by
      have hi : FloatKind.f64.format.infRung = 2047 * 2 ^ 52 := by decide +kernel
      rw [hi, hb]
      have := Nat.mul_le_mul_right (2 ^ 52) hX
      omega
    rw [Nat.min_eq_left (Nat.le_of_lt hr)]
    exact read_fin .f64 s _ hr

/-- A narrow number made wide. -/
def cv (b : Nat) : Nat := FloatKind.f64.format.write (single.read b)

theorem run_conv (P : Program) (w : World) (src dst : TypeId) (hs : P.underlying src = some (.float .f32)) (hd : P.underlying dst = some (.float .f64)) (b : Nat) :
    ∃ r n, num .f64 r = (num .f32 b).map cv ∧ (convert src dst (.float .f32 b)).run P w = .ok (.float .f64 r) (w.drewN n) := by
  cases hn : nanK .f32 b
  · refine ⟨cv b, 0, ?_, ?_⟩
    · rw [num_some hn]
      have : (single.read b).isNaN = false := by rw [← hn, nanK_read]; rfl
      exact num_some (write_notnan .f64 _ this)
    · refine run_convert_float_float w src dst .f32 .f64 b _ (by simp [hs]) hd ?_
      unfold floatToFloatBits
      rw [nanK_read] at hn
      have hn' : (single.read b).isNaN = false := hn
      show (if FloatKind.f32 = FloatKind.f64 then _ else _) = _
      rw [if_neg (by decide)]
      show (match single.read b with | .nan _ _ => _ | .infinity s => _ | .number s m e => _) = _
      unfold cv
      cases hr : single.read b with
      | number s m i =>
        obtain ⟨h1, h2, h3⟩ := single_number hr
        have := double_fin s m i h1 h2 h3
        simp [FloatKind.encode, FloatKind.decode, this]
      | infinity s => rfl
      | nan s f => rw [hr] at hn'; simp [Datum.isNaN] at hn'
  · have hn' : (single.read b).isNaN = true := by rw [← hn, nanK_read]; rfl
    refine ⟨(Question.nanConv .f64 b).cut (w.tape w.drawn (.nanConv .f64 b)), 1, ?_, ?_⟩
    · rw [num_none hn]
      exact num_none (cut_nan .f64 0 0 (w.tape w.drawn (.nanConv .f64 b)))
    · cases hr : single.read b with
      | number s m i => rw [hr] at hn'; simp [Datum.isNaN] at hn'
      | infinity s => rw [hr] at hn'; simp [Datum.isNaN] at hn'
      | nan s f =>
        have hd' : FloatKind.f32.decode b = .nan s f := hr
        simp [convert, run_underlying hs, run_underlying hd, Conv.floatToFloat, hd', Question.forced, World.drew_is_drewN]

/-- A CONVERSION, IN A WALK. -/
theorem wpList_conv {P : Program} {ops : Array Oper} {rest : List Oper} {o : Oper} {a : Act} {w : World} {Q : Exit → Act → World → Prop} (hg : o.guard = none) (src dst : TypeId) (x : Operand)
    (ho : o.op = .convert src dst x) (hs : P.underlying src = some (.float .f32)) (hd : P.underlying dst = some (.float .f64)) (b : Nat) (hx : a.eval x = .float .f32 b)
    (h : ∀ r n, num .f64 r = (num .f32 b).map cv → wpList P ops Q rest (a.put o.dst (.float .f64 r)) (w.drewN n)) : wpList P ops Q (o :: rest) a w :=
  wpList_plain hg fun K hK => by
    obtain ⟨r, n, hr, hrun⟩ := run_conv P w src dst hs hd b
    unfold Oper.wp execOp
    simp only [ho, hx]
    simp only [Sem.run_bind, hrun, Result.andThen]
    exact hK _ _ (h r n hr)

theorem num_eq_of_same {k : FloatKind} {x y : Nat} (h : num k x = num k y) : (k.format.order x x != some Ordering.eq) = (k.format.order y y != some Ordering.eq) := by
  rw [order_num h h]

theorem ret_bool' {a b : Bool} (h : a = b) : Ending.returned (.bool a) = .returned (.bool b) := by rw [h]

set_option maxRecDepth 100000 in
/-- sameFloat says yes of two numbers that are one up to which NaN they are. -/
theorem sameFloat_yes (x y : Nat) (h : num .f64 x = num .f64 y) (w : World) :
    Calls Tryd.prog 18 #[.float .f64 x, .float .f64 y] w fun e w' => e = .returned (.bool true) ∧ ∃ n, w' = w.drewN n := by
  cases hx : nanK .f64 x
  · have hy : nanK .f64 y = false := by
      cases hy : nanK .f64 y
      · rfl
      · rw [num_some hx, num_none hy] at h; cases h
    have hxy : x = y := by rw [num_some hx, num_some hy] at h; exact Option.some.inj h
    subst hxy
    clear h hy
    unfold nanK at hx
    cases hz : (FloatKind.f64.format.order x 0 == some Ordering.eq)
    · go_enter Tryd.func18, Tryd.ntmps18
      go_wp2
      go_ret
      exact ⟨ret_bool' (by simpa using hx), 0, rfl⟩
    · have tok : True := trivial
      go_enter Tryd.func18, Tryd.ntmps18
      go_wp2_with (first | (have _t := tok; refine wpList_float rfl _ _ _ _ _ rfl rfl .f64 _ _ rfl rfl ?_; intro r1 n1 hr1; have H1 := Lib.hid hr1; clear tok hr1) | (refine wpList_float rfl _ _ _ _ _ rfl rfl .f64 _ _ rfl rfl ?_; intro r2 n2 hr2; have H2 := Lib.hid hr2; clear hr2))
      have e := order_num (H1.out.trans H2.out.symm) (rfl : num .f64 0 = num .f64 0)
      go_ret
      exact ⟨ret_bool' (by rw [e]; simp), _, rfl⟩
  · have hy : nanK .f64 y = true := by rw [num_none hx] at h; exact num_eq_none h.symm
    clear h
    unfold nanK at hx hy
    go_enter Tryd.func18, Tryd.ntmps18
    go_wp2
    go_ret
    exact ⟨rfl, 0, rfl⟩
end Go.Proofs.YtcfkkceidlpdkaaDoor
