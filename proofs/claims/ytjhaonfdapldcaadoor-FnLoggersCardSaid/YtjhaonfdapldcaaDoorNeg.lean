/- Numbers with their signs changed, and orders of numbers up to which NaN they are. No condition. -/
import Derived.Test.YtjhaonfdapldcaaDoorBase
namespace Go.Proofs.YtjhaonfdapldcaaDoor
open Go Go.RowKit Ieee
set_option linter.unusedSimpArgs false
set_option linter.unusedVariables false

theorem neg_mod (n b : Nat) : (b ^^^ 2 ^ n) % 2 ^ n = b % 2 ^ n := by
  rw [Nat.xor_mod_two_pow, Nat.mod_self, Nat.xor_zero]
theorem neg_div (n b : Nat) : (b ^^^ 2 ^ n) / 2 ^ n % 2 = 1 - b / 2 ^ n % 2 := by
  rw [Nat.xor_div_two_pow, Nat.div_self (Nat.two_pow_pos n)]
  have h : ∀ m : Nat, (m ^^^ 1) % 2 = 1 - m % 2 := fun m => by
    have := Nat.xor_mod_two_pow (a := m) (b := 1) (n := 1)
    simp only [Nat.pow_one] at this
    rw [this]
    rcases Nat.mod_two_eq_zero_or_one m with e | e <;> simp [e]
  exact h _
theorem read_neg (k : FloatKind) (b : Nat) : k.format.read (Op.negFloat k b) = (k.format.read b).opposite := by
  have h1 : Op.negFloat k b % k.format.signWeight = b % k.format.signWeight := neg_mod _ b
  have h2 : Op.negFloat k b / k.format.signWeight % 2 = 1 - b / k.format.signWeight % 2 := neg_div _ b
  unfold Format.read
  rw [h1, h2]
  have h3 : ((1 - b / k.format.signWeight % 2 == 1) : Bool) = !(b / k.format.signWeight % 2 == 1) := by
    rcases Nat.mod_two_eq_zero_or_one (b / k.format.signWeight) with e | e <;> rw [e] <;> rfl
  rw [h3]
  dsimp only
  split
  · rfl
  · split
    · rfl
    · split <;> rfl
theorem signed_neg (s : Bool) (m d : Nat) : signed (!s) m d = -signed s m d := by
  unfold signed
  cases s <;> simp
theorem compare_neg (a b : Int) : compare (-a) (-b) = compare b a := by
  simp only [compare, compareOfLessAndEq]
  by_cases h1 : b < a
  · rw [if_pos h1, if_pos (by omega)]
  · by_cases h2 : b = a
    · subst h2; simp
    · rw [if_neg h1, if_neg h2, if_neg (by omega), if_neg (by omega)]
theorem order_opp (x y : Datum) : x.opposite.order y.opposite = y.order x := by
  cases x with
  | nan s t => cases y <;> rfl
  | infinity s =>
    cases y with
    | nan t f => rfl
    | infinity t => cases s <;> cases t <;> rfl
    | number t n j => cases s <;> rfl
  | number s m i =>
    cases y with
    | nan t f => rfl
    | infinity t => cases t <;> rfl
    | number t n j =>
      show some (compare (signed (!s) m (i - min i j).toNat) (signed (!t) n (j - min i j).toNat)) = some (compare (signed t n (j - min j i).toNat) (signed s m (i - min j i).toNat))
      rw [signed_neg, signed_neg, compare_neg, Int.min_comm]
theorem order_neg (k : FloatKind) (x y : Nat) : k.format.order (Op.negFloat k x) (Op.negFloat k y) = k.format.order y x := by
  unfold Format.order
  rw [read_neg, read_neg]
  exact order_opp _ _
theorem nan_neg (k : FloatKind) (x : Nat) : nanK k (Op.negFloat k x) = nanK k x := by
  rw [nanK_read, nanK_read, read_neg]
  cases k.format.read x <;> rfl
/-- A number with its sign changed. -/
def negO (o : Option Nat) : Option Nat := o.map (Op.negFloat .f32)
theorem num_neg (x : Nat) : num .f32 (Op.negFloat .f32 x) = negO (num .f32 x) := by
  unfold negO
  cases h : nanK .f32 x
  · rw [num_some h, num_some (by rw [nan_neg, h])]; rfl
  · rw [num_none h, num_none (by rw [nan_neg, h])]; rfl
theorem num_neg' {x : Nat} {o : Option Nat} (h : num .f32 x = o) : num .f32 (Op.negFloat .f32 x) = negO o := by rw [num_neg, h]
/-- The order of two numbers. -/
def ordO : Option Nat → Option Nat → Option Ordering
  | some x, some y => FloatKind.f32.format.order x y
  | _, _ => none
theorem ordO_num {x y : Nat} {a b : Option Nat} (h1 : num .f32 x = a) (h2 : num .f32 y = b) : FloatKind.f32.format.order x y = ordO a b := by
  subst h1 h2
  have nl : ∀ {a b : Nat}, nanK .f32 a = true → FloatKind.f32.format.order a b = none := fun {a b} h => by
    rw [nanK_read] at h
    unfold Format.order
    cases ha : FloatKind.f32.format.read a <;> simp [ha, Datum.isNaN] at h
    cases FloatKind.f32.format.read b <;> rfl
  have nr : ∀ {a b : Nat}, nanK .f32 b = true → FloatKind.f32.format.order a b = none := fun {a b} h => by
    rw [nanK_read] at h
    unfold Format.order
    cases hb : FloatKind.f32.format.read b <;> simp [hb, Datum.isNaN] at h
    cases FloatKind.f32.format.read a <;> rfl
  cases hx : nanK .f32 x
  · cases hy : nanK .f32 y
    · rw [num_some hx, num_some hy]; rfl
    · rw [num_none hy, nr hy]; cases num .f32 x <;> rfl
  · rw [num_none hx, nl hx]; rfl
theorem ordO_neg (a b : Option Nat) : ordO (negO a) (negO b) = ordO b a := by
  cases a <;> cases b <;> first | rfl | exact order_neg .f32 _ _
def ltO (a b : Option Nat) : Bool := ordO a b == some Ordering.lt
def gtO (a b : Option Nat) : Bool := ordO a b == some Ordering.gt
theorem ordO_swap (a b : Option Nat) : ordO a b = (ordO b a).map Ordering.swap := by
  cases a <;> cases b <;> try rfl
  rename_i x y
  show (FloatKind.f32.format.read x).order (FloatKind.f32.format.read y) = _
  show _ = ((FloatKind.f32.format.read y).order (FloatKind.f32.format.read x)).map Ordering.swap
  generalize FloatKind.f32.format.read x = p
  generalize FloatKind.f32.format.read y = q
  cases p with
  | nan s t => cases q <;> rfl
  | infinity s =>
    cases q with
    | nan t f => rfl
    | infinity t => cases s <;> cases t <;> rfl
    | number t n j => cases s <;> rfl
  | number s m i =>
    cases q with
    | nan t f => rfl
    | infinity t => cases t <;> rfl
    | number t n j =>
      show some (compare _ _) = some ((compare _ _).swap)
      rw [Int.min_comm j i]
      congr 1
      generalize signed s m (i - min i j).toNat = u
      generalize signed t n (j - min i j).toNat = v
      simp only [compare, compareOfLessAndEq]
      by_cases h1 : u < v
      · rw [if_pos h1, if_neg (by omega), if_neg (by omega)]; rfl
      · by_cases h2 : u = v
        · subst h2; simp
        · rw [if_neg h1, if_neg h2, if_pos (by omega)]; rfl
theorem ltO_neg (a b : Option Nat) : ltO (negO a) (negO b) = gtO a b := by
  unfold ltO gtO
  rw [ordO_neg, ordO_swap]
  cases ordO a b with
  | none => rfl
  | some o => cases o <;> rfl
end Go.Proofs.YtjhaonfdapldcaaDoor
