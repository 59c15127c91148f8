/- Steps until heads are still: what they reckon, and the model's. No condition. -/
import Derived.Test.YthncidjgpbjdbaaDoorStp
import Derived.Test.YthncidjgpbjdbaaDoorSettle
namespace Go.Proofs.YthncidjgpbjdbaaDoor
open Go Go.RowKit Go.Shelf
attribute [local go_sem] Oper.semAt_some run_store_float
set_option linter.unusedSimpArgs false
set_option linter.unusedVariables false

/-- Are the sizes of all balances of cells that are not fixed at most x? -/
def lullB (G : Gd) (x : Nat) : Bool := (List.range 64).all fun i => !frB G i || leX (absN (balF G i)) x
theorem lull_yes {G : Gd} {x : Nat} (h : ∀ i, i < 64 → frB G i = true → leX (absN (balF G i)) x = true) : lullB G x = true := all_yes fun i hi => by
  cases hf : frB G i
  · rfl
  · rw [h i hi hf]; rfl
theorem lull_no {G : Gd} {x i : Nat} (hi : i < 64) (hf : frB G i = true) (h : leX (absN (balF G i)) x = false) : lullB G x = false := all_no i hi (by rw [hf, h]; rfl)
theorem bal_size {G : Gd} (ha : allFin G = true) {k : Nat} (hk : k < 64) (hi : isB G k = true) {r : Nat} (hr : num .f32 r = sizeO (num .f32 (balF G k))) : r = absN (balF G k) ∧ nanK .f32 r = false := by
  have h1 := balF_fin ha hk hi
  unfold allFin at ha
  have := List.all_eq_true.1 ha k (by simpa using hk)
  simp only [hi, Bool.not_true, Bool.false_or] at this
  rw [← h1] at this
  cases hn : nanK .f32 (balF G k)
  · have h2 : num .f32 (balF G k) = some (balF G k) := by simp [num, hn]
    rw [h2] at hr
    exact num_eq_some hr
  · simp [num, hn, finO] at this
/-- Is a ground still, and are its balances finite? -/
def stl (G : Gd) (x : Nat) : Bool × Bool := if allFin G = true then (lullB G x, true) else (false, false)
/-- Steps until a ground is still: at most m more, n having been made. -/
def stuR (x p : Nat) : Nat → Int → Gd → Gd × Int × Int
  | 0, n, G => if allFin G = false then (zG, 0, 4) else if lullB G x = true then (G, n, 0) else (zG, 0, 7)
  | m + 1, n, G => if allFin G = false then (zG, 0, 4) else if lullB G x = true then (G, n, 0) else if (stpR G p).2 = 0 then stuR x p m (n + 1) (stpR G p).1 else (zG, 0, (stpR G p).2)
theorem stuR_nf {x p : Nat} {n : Int} {G : Gd} (h : allFin G = false) : ∀ m, stuR x p m n G = (zG, 0, 4)
  | 0 => by simp [stuR, h]
  | m + 1 => by simp [stuR, h]
theorem stuR_calm {x p : Nat} {n : Int} {G : Gd} (h : allFin G = true) (hc : lullB G x = true) : ∀ m, stuR x p m n G = (G, n, 0)
  | 0 => by simp [stuR, h, hc]
  | m + 1 => by simp [stuR, h, hc]
theorem stuR_end {x p : Nat} {n : Int} {G : Gd} (h : allFin G = true) (hc : lullB G x = false) : stuR x p 0 n G = (zG, 0, 7) := by simp [stuR, h, hc]
theorem stuR_no {x p m : Nat} {n : Int} {G : Gd} (h : allFin G = true) (hc : lullB G x = false) (hs : (stpR G p).2 ≠ 0) : stuR x p (m + 1) n G = (zG, 0, (stpR G p).2) := by simp [stuR, h, hc, hs]
theorem stuR_on {x p m : Nat} {n : Int} {G : Gd} (h : allFin G = true) (hc : lullB G x = false) (hs : (stpR G p).2 = 0) : stuR x p (m + 1) n G = stuR x p m (n + 1) (stpR G p).1 := by simp [stuR, h, hc, hs]
def hoursB (y : Int) : Bool := decide (0 ≤ y) && decide (y ≤ 400)
def stuV (G : Gd) (p x : Nat) (y : Int) : Gd × Int × Int := if (validB G && plainB p && plainB x) = true then (if hoursB y = true then stuR x p y.toNat 0 G else (zG, 0, 2)) else (zG, 0, 1)
theorem l06Steps_is (y : Int) (r : Bool) (h : hoursB y = r) (w : World) : Calls Tryd.prog 89 #[.int .i64 y] w fun e w' => e = .returned (.bool r) ∧ w = w' := by
  go_enter Tryd.func89, Tryd.ntmps89
  go_wp2_with (go_at_call 105; refine (l00InG_is y 0 400 r h _).mono ?_; rintro e w' ⟨rfl, rfl⟩)
  go_ret
  exact ⟨rfl, rfl⟩
theorem l01Size_bal {G : Gd} (hG : GdOk G) (ha : allFin G = true) {k : Nat} (hk : k < 64) (hi : isB G k = true) (w : World) : Calls Tryd.prog 129 #[.float .f32 (balF G k)] w fun e w' => e = .returned (.float .f32 (absN (balF G k))) ∧ Quiet w w' :=
  (l01Size_any (balF G k) (balF_lt hG hk) w).mono fun e w' ⟨r, he, hr, hq⟩ => ⟨he.trans (by rw [(bal_size ha hk hi hr).1]), hq⟩

set_option maxRecDepth 100000 in
set_option maxHeartbeats 2000000 in
theorem l06Still_no (G : Gd) (x p : Nat) (w : World) (hp : GBox w p G) (hv : validB G = true) (hG : GdOk G) (ha : allFin G = false) :
    Calls Tryd.prog 93 #[.pointer (some ⟨p, 0, none⟩), .float .f32 x] w fun e w' => e = .returned (.tuple #[.bool (stl G x).1, .bool (stl G x).2]) ∧ Below w.heap.size w w' := by
  have hzf := (zero_of_info zeroField).1
  have hpl := hp.lt
  have HR := Lib.hid (show stl G x = (false, false) by simp [stl, ha])
  have HBV := Lib.hid (show balsB G = .tuple #[.agg (Fld zf), .bool false] by simp [balsB, ha, FB])
  have HV := Lib.hid hv
  have HG := Lib.hid hG
  have HP := Lib.hid hp
  clear hv hG ha hp
  go_enter Tryd.func93, Tryd.ntmps93
  go_wp2_with (first | (go_at_call 123; have hc := l01Balances_any G HV.out p w HP.out.at' (by omega) HG.out; rw [HBV.out] at hc; refine hc.mono ?_; clear hc; rintro e V ⟨rfl, hb⟩; have BV := Lib.hid hb; have tF := new_thereF 33 V; clear hb) | (refine st_stage 33 rfl ?_; refine wpList_store_mid rfl 33 _ _ rfl _ 0 (Fld (zf)) rfl rfl (by rw [Fld_size]; with_reducible exact tF) (by rw [Fld_size]; exact infoField) (Fld_one _) ?_; obtain ⟨X, hX, zX, gX, bX⟩ := stored_fld zf 33 V; rw [hX]; have BX := Lib.hid (BV.out.trans (bX.mono BV.out.size)); clear hX tF zX gX bX))
  go_ret2
  exact ⟨by rw [HR.out]; rfl, BX.out⟩
set_option maxRecDepth 100000 in
set_option maxHeartbeats 2000000 in
theorem l06Still_yes (G : Gd) (x p : Nat) (w : World) (hp : GBox w p G) (hv : validB G = true) (hG : GdOk G) (ha : allFin G = true) :
    Calls Tryd.prog 93 #[.pointer (some ⟨p, 0, none⟩), .float .f32 x] w fun e w' => e = .returned (.tuple #[.bool (stl G x).1, .bool (stl G x).2]) ∧ Below w.heap.size w w' := by
  have hzf := (zero_of_info zeroField).1
  have hpl := hp.lt
  have HR := Lib.hid (show stl G x = (lullB G x, true) by simp [stl, ha])
  have HBV := Lib.hid (show balsB G = .tuple #[.agg (Fld (balF G)), .bool true] by simp [balsB, ha, FB])
  have HA := Lib.hid ha
  have HV := Lib.hid hv
  have HG := Lib.hid hG
  have HP := Lib.hid hp
  clear hv hG ha hp
  go_enter Tryd.func93, Tryd.ntmps93
  go_upto_region 2 with (first | (go_at_call 123; have hc := l01Balances_any G HV.out p w HP.out.at' (by omega) HG.out; rw [HBV.out] at hc; refine hc.mono ?_; clear hc; rintro e V ⟨rfl, hb⟩; have tF := new_thereF 33 V) | (refine st_stage 33 rfl ?_; refine wpList_store_mid rfl 33 _ _ rfl _ 0 (Fld (balF G)) rfl rfl (by rw [Fld_size]; with_reducible exact tF) (by rw [Fld_size]; exact infoField) (Fld_one _) ?_))
  obtain ⟨X, hX, zX, gX, bX⟩ := stored_fld (balF G) 33 V
  have tX : X.there V.heap.size 0 64 := by
    rw [← hX]
    exact there_setCells (new_thereF _ V)
  rw [hX]
  have k1 := hb.trans (bX.mono hb.size)
  have zV := hb.size
  obtain ⟨N, hN⟩ : ∃ N, V.heap.size = N := ⟨_, rfl⟩
  rw [hN] at gX tX zX zV ⊢
  have P1 := Lib.hid (HP.out.below k1 hpl)
  have P3 := Lib.hid (⟨gX, tX⟩ : RowAt X N (balF G))
  have PB := Lib.hid k1
  clear hX hb bX k1 gX tX hN tF zX
  go_wp2
  go_loopw [8] (fun i wr => ∃ (k : Nat), k ≤ 64 ∧ i = .int .i64 k ∧ Hid (∀ j, j < k → frB G j = true → leX (absN (balF G j)) x = true) ∧ Hid (GBox wr p G) ∧ Hid (RowAt wr N (balF G)) ∧ Hid (Below w.heap.size w wr)) (fun i _ => 64 - (intOf i).toNat)
  case atStart => exact ⟨0, by omega, rfl, Lib.hid (fun _ h => absurd h (Nat.not_lt_zero _)), P1, P3, PB⟩
  case round =>
    clear P1 P3 PB
    obtain ⟨k, hk, rfl, E0, Q1, Q3, QB⟩ := hrel
    by_cases hlt : k < 64
    · have hk2 : (k : Int) < 64 := by omega
      cases hi : isB G k
      · have Hi := Lib.hid hi
        have HE := Lib.hid (show ∀ j, j < k + 1 → frB G j = true → leX (absN (balF G j)) x = true from fun j hj hf => by
          by_cases e : j = k
          · subst e; simp [frB, hi] at hf
          · exact E0.out j (by omega) hf)
        clear hi
        go_wp2_with (go_at_call 62; refine (l01Is_is G k hlt false Hi.out _ _ Q1.out.at' HG.out).mono ?_; rintro e w' ⟨rfl, rfl⟩)
        go_roundw
        case rel => exact ⟨k + 1, by omega, by go_num, HE, Q1, Q3, QB⟩
        case measure => simp [intOf]; omega
      · have Hi := Lib.hid hi
        cases hf : G.x.toNat.testBit k
        · have Hf := Lib.hid hf
          have hfr : frB G k = true := by simp [frB, hi, hf]
          have cN := Q3.out.cell k hlt
          cases hl : leX (absN (balF G k)) x
          · have HC := Lib.hid (lull_no hlt hfr hl)
            clear hi hf hfr
            unfold leX at hl
            go_wp2_with (first | (go_at_call 62; refine (l01Is_is G k hlt true Hi.out _ _ Q1.out.at' HG.out).mono ?_; rintro e w' ⟨rfl, rfl⟩) | (go_at_call 121; refine (l01Fixed_is G k hlt false Hf.out _ _ Q1.out.at' HG.out).mono ?_; rintro e w' ⟨rfl, rfl⟩) | (go_at_call 129; refine (l01Size_bal HG.out HA.out hlt Hi.out _).mono ?_; rintro e w1 ⟨rfl, hq⟩; have SB := Lib.hid (QB.out.trans (hq.below _)); clear hq))
            go_ret2
            exact ⟨by rw [HR.out, HC.out]; rfl, SB.out⟩
          · have HE := Lib.hid (show ∀ j, j < k + 1 → frB G j = true → leX (absN (balF G j)) x = true from fun j hj hf => by
              by_cases e : j = k
              · subst e; exact hl
              · exact E0.out j (by omega) hf)
            clear hi hf hfr
            unfold leX at hl
            go_wp2_with (first | (go_at_call 62; refine (l01Is_is G k hlt true Hi.out _ _ Q1.out.at' HG.out).mono ?_; rintro e w' ⟨rfl, rfl⟩) | (go_at_call 121; refine (l01Fixed_is G k hlt false Hf.out _ _ Q1.out.at' HG.out).mono ?_; rintro e w' ⟨rfl, rfl⟩) | (go_at_call 129; refine (l01Size_bal HG.out HA.out hlt Hi.out _).mono ?_; rintro e w1 ⟨rfl, hq⟩; have S1 := Lib.hid (Q1.out.below (hq.below (p + 1)) (by omega)); have S3 := Lib.hid (Q3.out.quiet hq); have SB := Lib.hid (QB.out.trans (hq.below _)); clear hq))
            go_roundw
            case rel => exact ⟨k + 1, by omega, by go_num, HE, S1, S3, SB⟩
            case measure => simp [intOf]; omega
        · have Hf := Lib.hid hf
          have HE := Lib.hid (show ∀ j, j < k + 1 → frB G j = true → leX (absN (balF G j)) x = true from fun j hj hfr => by
            by_cases e : j = k
            · subst e; simp [frB, hf] at hfr
            · exact E0.out j (by omega) hfr)
          clear hi hf
          go_wp2_with (first | (go_at_call 62; refine (l01Is_is G k hlt true Hi.out _ _ Q1.out.at' HG.out).mono ?_; rintro e w' ⟨rfl, rfl⟩) | (go_at_call 121; refine (l01Fixed_is G k hlt true Hf.out _ _ Q1.out.at' HG.out).mono ?_; rintro e w' ⟨rfl, rfl⟩))
          go_roundw
          case rel => exact ⟨k + 1, by omega, by go_num, HE, Q1, Q3, QB⟩
          case measure => simp [intOf]; omega
    · obtain rfl : k = 64 := by omega
      have HC := Lib.hid (lull_yes E0.out)
      go_wp2
      go_ret2
      exact ⟨by rw [HR.out, HC.out]; rfl, QB.out⟩
theorem l06Still_any (G : Gd) (x p : Nat) (w : World) (hp : GBox w p G) (hv : validB G = true) (hG : GdOk G) :
    Calls Tryd.prog 93 #[.pointer (some ⟨p, 0, none⟩), .float .f32 x] w fun e w' => e = .returned (.tuple #[.bool (stl G x).1, .bool (stl G x).2]) ∧ Below w.heap.size w w' := by
  cases ha : allFin G
  · exact l06Still_no G x p w hp hv hG ha
  · exact l06Still_yes G x p w hp hv hG ha

def tripU (R : Gd × Int × Int) : Value := .tuple #[.agg (Grd R.1), .int .i64 R.2.1, .int .i64 R.2.2]
theorem stl_nf {G : Gd} {x : Nat} (h : allFin G = false) : stl G x = (false, false) := by simp [stl, h]
theorem stl_yes {G : Gd} {x : Nat} (h : allFin G = true) (hc : lullB G x = true) : stl G x = (true, true) := by simp [stl, h, hc]
theorem stl_no {G : Gd} {x : Nat} (h : allFin G = true) (hc : lullB G x = false) : stl G x = (false, true) := by simp [stl, h, hc]
theorem stpR_code4 {G : Gd} {p : Nat} (h : (stpR G p).2 ≠ 0) : stpR G p = (zG, 4) := stpR_code.resolve_left h

set_option maxRecDepth 100000 in
set_option maxHeartbeats 4000000 in
theorem specSteps1_any (G : Gd) (part x : Nat) (y : Int) (w : World) (hG : GdOk G) (hy : -9223372036854775808 ≤ y ∧ y ≤ 9223372036854775807) :
    Calls Tryd.prog 45 #[.agg (Grd G), .float .f32 part, .float .f32 x, .int .i64 y] w fun e w' => e = .returned (tripU (stuV G part x y)) ∧ Below w.heap.size w w' := by
  have hz := (zero_of_info zeroGround).1
  go_enter Tryd.func45, Tryd.ntmps45
  go_upto_region 1 with (fail)
  obtain ⟨W, hW, zW, g1, g2, hB⟩ := gbox2 G zG 35 35 w
  rw [hW]
  clear hW
  have G1 := Lib.hid g1
  have G2 := Lib.hid g2
  have HB := Lib.hid hB
  have HG := Lib.hid hG
  clear g1 g2 hB hG
  have bad : ∀ (n : Int) (V : World), GBox V (w.heap.size + 1) zG → Below w.heap.size w V → stuV G part x y = (zG, 0, n) → True := fun _ _ _ _ _ => trivial
  rcases askT_or G part with ha | ha
  · have Ha := Lib.hid ha
    obtain ⟨hv, hpp⟩ := askT_yes ha
    cases hx : plainB x
    · have Hx := Lib.hid hx
      have HE := Lib.hid (show stuV G part x y = (zG, 0, 1) by simp [stuV, hx])
      clear ha hx hv hpp
      go_wp2_with (first | (go_at_call 84; have hc := l06Asked_any G part w.heap.size W G1.out HG.out; rw [Ha.out] at hc; refine hc.mono ?_; clear hc; rintro e V ⟨rfl, hq⟩; have S2 := Lib.hid (G2.out.below (hq.below (w.heap.size + 1 + 1)) (by omega)); have t1 := S2.out.there; have B2 := Lib.hid (HB.out.trans (hq.below _)); clear hq) | (go_at_call 79; refine (l01Plain_is x false Hx.out _).mono ?_; rintro e w' ⟨rfl, hww⟩; rw [hww]; clear hww w'))
      go_loopw [11, 12] (fun c i wr => c = .int .i64 1 ∧ Hid (wr = V)) (fun c i wr => 0)
      case atStart => exact ⟨rfl, Lib.hid rfl⟩
      case round =>
        obtain ⟨rfl, hwr⟩ := hrel
        obtain rfl := hwr.out
        go_wp2_with (first | (refine st_stage 35 rfl ?_; refine wpList_store_mid rfl 35 _ _ rfl _ 0 (Grd (zG)) rfl rfl (by rw [Grd_size]; with_reducible exact t1) (by rw [Grd_size]; exact infoGround) (Grd_one _) ?_))
        refine bodyPost_ret (results_gii rfl _ _ _ zG 0 1 rfl rfl rfl S2.out.store.range Tryd.underlying35 rfl infoG195) rfl ⟨by rw [HE.out]; rfl, below_setCells _ (by omega) _ _ _ B2.out⟩
    · have Hx := Lib.hid hx
      cases hyy : hoursB y
      · have Hy := Lib.hid hyy
        have HE := Lib.hid (show stuV G part x y = (zG, 0, 2) by simp [stuV, hv, hpp, hx, hyy])
        clear ha hx hv hpp hyy
        go_wp2_with (first | (go_at_call 84; have hc := l06Asked_any G part w.heap.size W G1.out HG.out; rw [Ha.out] at hc; refine hc.mono ?_; clear hc; rintro e V ⟨rfl, hq⟩; have S2 := Lib.hid (G2.out.below (hq.below (w.heap.size + 1 + 1)) (by omega)); have t1 := S2.out.there; have B2 := Lib.hid (HB.out.trans (hq.below _)); clear hq) | (go_at_call 79; refine (l01Plain_is x true Hx.out _).mono ?_; rintro e w' ⟨rfl, hww⟩; rw [hww]; clear hww w') | (go_at_call 89; refine (l06Steps_is y false Hy.out _).mono ?_; rintro e w' ⟨rfl, rfl⟩))
        go_loopw [11, 12] (fun c i wr => c = .int .i64 2 ∧ Hid (wr = V)) (fun c i wr => 0)
        case atStart => exact ⟨rfl, Lib.hid rfl⟩
        case round =>
          obtain ⟨rfl, hwr⟩ := hrel
          obtain rfl := hwr.out
          go_wp2_with (first | (refine st_stage 35 rfl ?_; refine wpList_store_mid rfl 35 _ _ rfl _ 0 (Grd (zG)) rfl rfl (by rw [Grd_size]; with_reducible exact t1) (by rw [Grd_size]; exact infoGround) (Grd_one _) ?_))
          refine bodyPost_ret (results_gii rfl _ _ _ zG 0 2 rfl rfl rfl S2.out.store.range Tryd.underlying35 rfl infoG195) rfl ⟨by rw [HE.out]; rfl, below_setCells _ (by omega) _ _ _ B2.out⟩
      · have Hy := Lib.hid hyy
        obtain ⟨m, rfl⟩ : ∃ m : Nat, y = (m : Int) := ⟨y.toNat, by simp [hoursB] at hyy; omega⟩
        have hm : m ≤ 400 := by simp [hoursB] at hyy; omega
        obtain ⟨R, hR⟩ : ∃ R, stuR x part m 0 G = R := ⟨_, rfl⟩
        have HE := Lib.hid (show stuV G part x (m : Int) = R by rw [← hR]; simp [stuV, hv, hpp, hx, hyy])
        have HR := Lib.hid hR
        have HVV := Lib.hid (And.intro hv HG.out)
        clear ha hx hv hpp hyy hR hy
        go_wp2_with (first | (go_at_call 84; have hc := l06Asked_any G part w.heap.size W G1.out HG.out; rw [Ha.out] at hc; refine hc.mono ?_; clear hc; rintro e V ⟨rfl, hq⟩; have P1 := Lib.hid (G1.out.below (hq.below (w.heap.size + 1)) (by omega)); have P2 := Lib.hid (G2.out.below (hq.below (w.heap.size + 1 + 1)) (by omega)); have B1 := Lib.hid (HB.out.trans (hq.below _)); clear hq) | (go_at_call 79; refine (l01Plain_is x true Hx.out _).mono ?_; rintro e w' ⟨rfl, hww⟩; rw [hww]; clear hww w') | (go_at_call 89; refine (l06Steps_is (m : Int) true Hy.out _).mono ?_; rintro e w' ⟨rfl, rfl⟩))
        go_loopw [11, 12] (fun c i wr => ∃ (k : Nat) (cd : Int) (K : Gd), c = .int .i64 cd ∧ i = .int .i64 k ∧ k ≤ m + 1 ∧ Hid ((cd = 0 ∧ k ≤ m ∧ stuR x part (m - k) (k : Int) K = R ∧ validB K = true ∧ GdOk K) ∨ (cd ≠ 0 ∧ R = (zG, 0, cd))) ∧ Hid (GBox wr w.heap.size K) ∧ Hid (GBox wr (w.heap.size + 1) zG) ∧ Hid (Below w.heap.size w wr)) (fun c i wr => 2 * (m + 1 - (intOf i).toNat) + (if intOf c = 0 then 1 else 0))
        case atStart => exact ⟨0, 0, G, rfl, rfl, by omega, Lib.hid (.inl ⟨rfl, by omega, HR.out, HVV.out.1, HVV.out.2⟩), P1, P2, B1⟩
        case round =>
          clear P1 P2 B1
          obtain ⟨k, cd, K, rfl, rfl, hk, hD, Q1, Q2, QB⟩ := hrel
          have zr := Q2.out.lt
          have t2 := Q2.out.there
          rcases hD.out with ⟨rfl, hk2, hU, hv, hG⟩ | ⟨hne, hU⟩
          · have HV := Lib.hid (And.intro hv hG)
            clear hD hv hG
            cases ha : allFin K
            · have HS := Lib.hid (stl_nf (x := x) ha)
              have HU := Lib.hid ((stuR_nf ha (m - k)).symm.trans hU)
              clear ha hU t2
              go_wp2_with (go_at_call 93; have hc := l06Still_any K x w.heap.size wr Q1.out HV.out.1 HV.out.2; rw [HS.out] at hc; refine hc.mono ?_; clear hc; rintro e V1 ⟨rfl, hb⟩; have S1 := Lib.hid (Q1.out.below hb Q1.out.lt); have S2 := Lib.hid (Q2.out.below hb Q2.out.lt); have SB := Lib.hid (QB.out.trans (hb.mono (by omega))); clear hb)
              go_roundw
              case rel => exact ⟨k, 4, K, rfl, rfl, by omega, Lib.hid (.inr ⟨by decide, HU.out.symm⟩), S1, S2, SB⟩
              case measure => simp [intOf]
            · cases hl : lullB K x
              · have HS := Lib.hid (stl_no ha hl)
                by_cases hlt : k = m
                · have HU := Lib.hid (show (zG, 0, 7) = R by rw [← hU, hlt, Nat.sub_self, stuR_end ha hl])
                  clear ha hl hU t2
                  subst hlt
                  go_wp2_with (go_at_call 93; have hc := l06Still_any K x w.heap.size wr Q1.out HV.out.1 HV.out.2; rw [HS.out] at hc; refine hc.mono ?_; clear hc; rintro e V1 ⟨rfl, hb⟩; have S1 := Lib.hid (Q1.out.below hb Q1.out.lt); have S2 := Lib.hid (Q2.out.below hb Q2.out.lt); have SB := Lib.hid (QB.out.trans (hb.mono (by omega))); clear hb)
                  go_roundw
                  case rel => exact ⟨k, 7, K, rfl, rfl, by omega, Lib.hid (.inr ⟨by decide, HU.out.symm⟩), S1, S2, SB⟩
                  case measure => simp [intOf]
                · obtain ⟨j, hj⟩ : ∃ j, m - k = j + 1 := ⟨m - k - 1, by omega⟩
                  have hne : ((k : Int) == (m : Int)) = false := by rw [beq_eq_false_iff_ne]; omega
                  rw [hj] at hU
                  by_cases hs : (stpR K part).2 = 0
                  · have HU := Lib.hid ((stuR_on ha hl hs).symm.trans hU)
                    have HVA := Lib.hid (stpR_good (p := part) HV.out.1 HV.out.2 hs)
                    obtain ⟨A, hA⟩ : ∃ A, (stpR K part).1 = A := ⟨_, rfl⟩
                    have HN := Lib.hid (show GN (stpR K part).1 (stpR K part).2 = .tuple #[.agg (Grd A), .int .i64 0] by rw [hA, hs]; rfl)
                    rw [hA] at HU HVA
                    have hkm : k < m := by omega
                    clear ha hl hU hs hA t2
                    go_wp2_with (first | (go_at_call 93; have hc := l06Still_any K x w.heap.size wr Q1.out HV.out.1 HV.out.2; rw [HS.out] at hc; refine hc.mono ?_; clear hc; rintro e V1 ⟨rfl, hb⟩; have S1 := Lib.hid (Q1.out.below hb Q1.out.lt); have S2 := Lib.hid (Q2.out.below hb Q2.out.lt); have SB := Lib.hid (QB.out.trans (hb.mono (by omega))); clear hb) | (go_at_call 85; have hc := l06Stepped_any K part w.heap.size V1 S1.out HV.out.1 HV.out.2; rw [HN.out] at hc; refine hc.mono ?_; clear hc; rintro e V2 ⟨rfl, hb⟩; have T1 := Lib.hid (S1.out.below hb S1.out.lt); have T2 := Lib.hid (S2.out.below hb S2.out.lt); have TB := Lib.hid (SB.out.trans (hb.mono SB.out.size)); have tt := T1.out.there; clear hb) | (refine st_stage 35 rfl ?_; refine wpList_store_mid rfl 35 _ _ rfl _ 0 (Grd (A)) rfl rfl (by rw [Grd_size]; with_reducible exact tt) (by rw [Grd_size]; exact infoGround) (Grd_one _) ?_))
                    go_roundw
                    case rel => exact ⟨k + 1, 0, A, rfl, by go_num, by omega, Lib.hid (.inl ⟨rfl, by omega, by rw [show m - (k + 1) = j by omega]; exact HU.out, HVA.out⟩), Lib.hid T1.out.store, Lib.hid (T2.out.fars (by omega)), Lib.hid (below_setCells _ (Nat.le_refl _) _ _ _ TB.out)⟩
                    case measure => simp [intOf]; omega
                  · have HU := Lib.hid ((stuR_no ha hl hs).symm.trans hU)
                    have h4 := stpR_code4 hs
                    have HN := Lib.hid (show GN (stpR K part).1 (stpR K part).2 = .tuple #[.agg (Grd zG), .int .i64 4] by rw [h4]; rfl)
                    have HU := Lib.hid (show (zG, 0, 4) = R by rw [← HU.out, h4])
                    have hkm : k < m := by omega
                    clear ha hl hU hs h4 t2
                    go_wp2_with (first | (go_at_call 93; have hc := l06Still_any K x w.heap.size wr Q1.out HV.out.1 HV.out.2; rw [HS.out] at hc; refine hc.mono ?_; clear hc; rintro e V1 ⟨rfl, hb⟩; have S1 := Lib.hid (Q1.out.below hb Q1.out.lt); have S2 := Lib.hid (Q2.out.below hb Q2.out.lt); have SB := Lib.hid (QB.out.trans (hb.mono (by omega))); clear hb) | (go_at_call 85; have hc := l06Stepped_any K part w.heap.size V1 S1.out HV.out.1 HV.out.2; rw [HN.out] at hc; refine hc.mono ?_; clear hc; rintro e V2 ⟨rfl, hb⟩; have T1 := Lib.hid (S1.out.below hb S1.out.lt); have T2 := Lib.hid (S2.out.below hb S2.out.lt); have TB := Lib.hid (SB.out.trans (hb.mono SB.out.size)); have tt := T1.out.there; clear hb) | (refine st_stage 35 rfl ?_; refine wpList_store_mid rfl 35 _ _ rfl _ 0 (Grd (zG)) rfl rfl (by rw [Grd_size]; with_reducible exact tt) (by rw [Grd_size]; exact infoGround) (Grd_one _) ?_))
                    go_roundw
                    case rel => exact ⟨k + 1, 4, zG, rfl, by go_num, by omega, Lib.hid (.inr ⟨by decide, HU.out.symm⟩), Lib.hid T1.out.store, Lib.hid (T2.out.fars (by omega)), Lib.hid (below_setCells _ (Nat.le_refl _) _ _ _ TB.out)⟩
                    case measure => simp [intOf]; omega
              · have HS := Lib.hid (stl_yes ha hl)
                have HU := Lib.hid ((stuR_calm ha hl (m - k)).symm.trans hU)
                clear ha hl hU t2
                go_wp2_with (first | (go_at_call 93; have hc := l06Still_any K x w.heap.size wr Q1.out HV.out.1 HV.out.2; rw [HS.out] at hc; refine hc.mono ?_; clear hc; rintro e V1 ⟨rfl, hb⟩; have S1 := Lib.hid (Q1.out.below hb Q1.out.lt); have S2 := Lib.hid (Q2.out.below hb Q2.out.lt); have SB := Lib.hid (QB.out.trans (hb.mono (by omega))); have r1 := S1.out.range; have t2 := S2.out.there; clear hb) | (refine ld_stage 35 rfl ?_; refine wpList_load_mid rfl 35 _ rfl (w.heap.size) 0 rfl (GrdL (K)) _ r1 Tryd.underlying35 rfl (by rw [GrdL_length]; exact infoGround) ?_) | (refine st_stage 35 rfl ?_; refine wpList_store_mid rfl 35 _ _ rfl _ 0 (Grd (K)) rfl rfl (by rw [Grd_size]; with_reducible exact t2) (by rw [Grd_size]; exact infoGround) (Grd_one _) ?_))
                refine bodyPost_ret (results_gii rfl _ _ _ K (k : Int) 0 rfl rfl rfl S2.out.store.range Tryd.underlying35 rfl infoG195) rfl ⟨by rw [HE.out, ← HU.out]; rfl, below_setCells _ (by omega) _ _ _ SB.out⟩
          · have hne2 : (cd == 0) = false := by simpa using hne
            have HU := Lib.hid hU
            clear hD hU
            go_wp2_with (first | (refine st_stage 35 rfl ?_; refine wpList_store_mid rfl 35 _ _ rfl _ 0 (Grd (zG)) rfl rfl (by rw [Grd_size]; with_reducible exact t2) (by rw [Grd_size]; exact infoGround) (Grd_one _) ?_))
            refine bodyPost_ret (results_gii rfl _ _ _ zG 0 cd rfl rfl rfl Q2.out.store.range Tryd.underlying35 rfl infoG195) rfl ⟨by rw [HE.out, HU.out]; rfl, below_setCells _ (by omega) _ _ _ QB.out⟩
  · have Ha := Lib.hid ha
    have HE := Lib.hid (show stuV G part x y = (zG, 0, 1) by
      unfold stuV
      rw [if_neg]
      intro h
      simp only [Bool.and_eq_true] at h
      simp [askT, h.1.1, h.1.2] at ha)
    clear ha
    go_wp2_with (first | (go_at_call 84; have hc := l06Asked_any G part w.heap.size W G1.out HG.out; rw [Ha.out] at hc; refine hc.mono ?_; clear hc; rintro e V ⟨rfl, hq⟩; have S2 := Lib.hid (G2.out.below (hq.below (w.heap.size + 1 + 1)) (by omega)); have t1 := S2.out.there; have B2 := Lib.hid (HB.out.trans (hq.below _)); clear hq))
    go_loopw [11, 12] (fun c i wr => c = .int .i64 1 ∧ Hid (wr = V)) (fun c i wr => 0)
    case atStart => exact ⟨rfl, Lib.hid rfl⟩
    case round =>
      obtain ⟨rfl, hwr⟩ := hrel
      obtain rfl := hwr.out
      go_wp2_with (first | (refine st_stage 35 rfl ?_; refine wpList_store_mid rfl 35 _ _ rfl _ 0 (Grd (zG)) rfl rfl (by rw [Grd_size]; with_reducible exact t1) (by rw [Grd_size]; exact infoGround) (Grd_one _) ?_))
      refine bodyPost_ret (results_gii rfl _ _ _ zG 0 1 rfl rfl rfl S2.out.store.range Tryd.underlying35 rfl infoG195) rfl ⟨by rw [HE.out]; rfl, below_setCells _ (by omega) _ _ _ B2.out⟩
end Go.Proofs.YthncidjgpbjdbaaDoor
