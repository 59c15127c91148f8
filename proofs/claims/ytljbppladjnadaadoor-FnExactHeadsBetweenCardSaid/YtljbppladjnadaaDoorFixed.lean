/- WithFixed: the model's and the program's. Condition (the program's): the table of math/bits is laid. -/
import Derived.Test.YtljbppladjnadaaDoorWith
import Derived.Test.YtljbppladjnadaaDoorSumI
namespace Go.Proofs.YtljbppladjnadaaDoor
open Go.RowKit
set_option linter.unusedSimpArgs false

/-- Another mask. -/
def fixX (x : Int) (k : Nat) (b : Bool) : Int := if b = true then bits .or .u64 x (IntKind.u64.wrap (2 ^ k)) else bits .andNot .u64 x (IntKind.u64.wrap (2 ^ k))

theorem pow_lt (k : Nat) (hk : k < 64) : 2 ^ k < 18446744073709551616 := by
  have : 2 ^ k < 2 ^ 64 := Nat.pow_lt_pow_right (by decide) hk
  simpa using this
/-- The bit is struck, and set again. -/
theorem or_andNot (x k : Nat) (hx : x < 18446744073709551616) (hk : k < 64) :
    bits .or .u64 (bits .andNot .u64 (x : Int) (IntKind.u64.wrap (2 ^ k))) (IntKind.u64.wrap (2 ^ k)) = bits .or .u64 (x : Int) (IntKind.u64.wrap (2 ^ k)) := by
  rw [wrap_pow k hk]
  obtain ⟨n, h1, h2, h3⟩ := bits_andNot x (2 ^ k) hx (pow_lt k hk)
  rw [h1, bits_or_u64_nat n _ h2 (pow_lt k hk), bits_or_u64_nat x _ hx (pow_lt k hk)]
  congr 1
  apply Nat.eq_of_testBit_eq
  intro i
  rw [Nat.testBit_or, Nat.testBit_or]
  by_cases hi : i < 64
  · rw [h3 i hi]
    cases x.testBit i <;> cases (2 ^ k).testBit i <;> rfl
  · have hb : ∀ m : Nat, m < 18446744073709551616 → m.testBit i = false := fun m hm => Nat.testBit_lt_two_pow (Nat.lt_of_lt_of_le (by simpa using hm : m < 2 ^ 64) (Nat.pow_le_pow_right (by decide) (by omega)))
    rw [hb n h2, hb x hx]
theorem fixX_has (x k : Nat) (b : Bool) (hx : x < 18446744073709551616) (hk : k < 64) : IntKind.u64.has (fixX x k b) := by
  unfold fixX
  rw [wrap_pow k hk]
  split
  · rw [bits_or_u64_nat x _ hx (pow_lt k hk)]
    have : x ||| 2 ^ k < 2 ^ 64 := Nat.or_lt_two_pow (by simpa using hx) (by simpa using pow_lt k hk)
    have h2 : x ||| 2 ^ k < 18446744073709551616 := by simpa using this
    generalize x ||| 2 ^ k = n at h2
    exact ⟨(by show (0 : Int) ≤ n; omega), (by show (n : Int) ≤ 18446744073709551615; omega)⟩
  · obtain ⟨n, h1, h2, _⟩ := bits_andNot x (2 ^ k) hx (pow_lt k hk)
    rw [h1]
    exact ⟨(by show (0 : Int) ≤ n; omega), (by show (n : Int) ≤ 18446744073709551615; omega)⟩

theorem shl_op {op : Oper} {a : Act} {x y : Operand} {k : Nat} {t : TypeId} (ho : op.op = .binOp .shl 25 x y t) (hx : a.eval x = .int .u64 1) (hy : a.eval y = .int .i64 k) (hk : k < 64) (w : World) :
    (execOp a.eval op).run Tryd.prog w = .ok (.value (.int .u64 (IntKind.u64.wrap (2 ^ k)))) w := by
  unfold execOp
  simp only [ho, hx, hy]
  go_simp
/-- A store of bits. -/
theorem store_u64 {P : Program} {op : Oper} {a : Act} {ty : TypeId} {x y : Operand} {b o : Nat} {v : Int} {w : World} (ho : op.op = .store ty x y) (hx : a.eval x = .pointer (some ⟨b, o, none⟩)) (hy : a.eval y = .int .u64 v) (hi : (P.info? ty).map (·.size) = some 1) {u : Value} (hu : w.cell? ⟨b, o, none⟩ = some u) (hf : w.frozen? ⟨b, o, none⟩ = false) :
    (execOp a.eval op).run P w = .ok .skip (w.setCell ⟨b, o, none⟩ (.int .u64 v)) := by
  have hs : (sizeOf ty).run P w = .ok 1 w := by
    cases hq : P.info? ty with
    | none => simp [hq] at hi
    | some i => simp [hq] at hi; simp [sizeOf, typeInfo, hq, hi]
  unfold execOp
  simp only [ho, hx, hy]
  go_simp
theorem infoU64 : (Tryd.prog.info? 25).map (·.size) = some 1 := by kernel_rfl

/-- The ground that WithFixed makes. -/
def fixG (G : Gd) (c : Int) (b : Bool) : Gd := { G with x := fixX G.x c.toNat b }
theorem ok_x {G : Gd} {k : Nat} {b : Bool} (hG : GdOk G) (hk : k < 64) : GdOk (fixG G k b) := by
  have h := hG.x'
  obtain ⟨x, hx⟩ : ∃ x : Nat, G.x = x := ⟨G.x.toNat, by omega⟩
  refine ⟨hG.wide, hG.high, ?_, hG.c, hG.g, hG.h⟩
  show IntKind.u64.has (fixX G.x (Int.toNat (k : Int)) b)
  rw [hx, Int.toNat_natCast]
  exact fixX_has x k b (by omega) hk

set_option maxRecDepth 100000 in
set_option maxHeartbeats 1000000 in
theorem specWithFixed_any (G : Gd) (c : Int) (b : Bool) (w : World) (hG : GdOk G) :
    Calls Tryd.prog 34 #[.agg (Grd G), .int .i64 c, .bool b] w fun e w' => e = .returned (GN (withG G (fixG G c b) c) (withN G (fixG G c b) c)) ∧ Below w.heap.size w w' := by
  have hz := (zero_of_info zeroGround).1
  go_enter Tryd.func34, Tryd.ntmps34
  go_upto_region 1 with (fail)
  obtain ⟨W, hW, hs, g1, g2, hB⟩ := gbox2 G zG 31 31 w
  rw [hW]
  clear hW
  have G1 := Lib.hid g1
  have HB := Lib.hid hB
  have HG := Lib.hid hG
  have q2 := Lib.hid (fun n => (g2.below (Quiet.below ⟨n, rfl⟩ (w.heap.size + 1 + 1)) (by omega) : GBox (World.drewN W n) (w.heap.size + 1) zG))
  have q1 := Lib.hid (fun n => (g1.below (Quiet.below ⟨n, rfl⟩ (w.heap.size + 1)) (by omega) : GBox (World.drewN W n) w.heap.size G))
  have Hs := Lib.hid hs
  clear g1 g2 hB hG hs
  by_cases ha : askedN G c = 0
  · obtain ⟨k, rfl, hk, _, _⟩ := asked_in ha
    have R1 := Lib.hid (show withG G (fixG G k b) k = madeG (fixG G k b) by simp only [withG, ha, if_true])
    have R2 := Lib.hid (show withN G (fixG G k b) k = madeN (fixG G k b) by simp only [withN, ha, if_true])
    have Ha := Lib.hid ha
    clear ha
    go_upto_region 5 with (go_at_call 58; have hc := (l01Asked_any G k _ _ G1.out.at' HG.out); rw [Ha.out] at hc; refine hc.mono ?_; clear hc; rintro e w' ⟨rfl, n, rfl⟩)
    obtain ⟨V, hV⟩ : ∃ V, World.drewN W n = V := ⟨_, rfl⟩
    have p1 := q1.out n
    have p2 := q2.out n
    have B1 := Lib.hid (HB.out.trans (Quiet.below ⟨n, rfl⟩ _ : Below w.heap.size W (World.drewN W n)))
    have z1 : V.heap.size = w.heap.size + 1 + 1 := by rw [← hV]; exact Hs.out
    rw [hV] at p1 p2 B1 ⊢
    have a5 := p1.at'.x
    rw [Nat.zero_add] at a5
    have f5 := p1.free 194 (by omega)
    have P3 := Lib.hid (p1.putX (x := bits .andNot .u64 G.x (IntKind.u64.wrap (2 ^ k))))
    have P4 := Lib.hid (p2.far (b' := w.heap.size) (k := 194) (v := .int .u64 (bits .andNot .u64 G.x (IntKind.u64.wrap (2 ^ k)))) (by omega))
    have B2 := Lib.hid (B1.out.setCell (p := ⟨w.heap.size, 194, none⟩) (Nat.le_refl _) (.int .u64 (bits .andNot .u64 G.x (IntKind.u64.wrap (2 ^ k)))))
    clear p1 p2 hV q1 q2 G1
    go_upto_region 6 with (fail)
    obtain ⟨X, hX⟩ : ∃ X, V.setCell ⟨w.heap.size, 194, none⟩ (.int .u64 (bits .andNot .u64 G.x (IntKind.u64.wrap (2 ^ k)))) = X := ⟨_, rfl⟩
    have z2 : X.heap.size = w.heap.size + 1 + 1 := by rw [← hX, World.size_setCell]; exact z1
    rw [hX] at P3 P4 B2 ⊢
    clear hX a5 f5
    cases b
    · have P3' : Hid (GBox X w.heap.size (fixG G k false)) := Lib.hid (by have := P3.out; simpa [fixG, fixX] using this)
      go_wp2_with (first | (go_at_call 59; refine (l01Made_any (fixG G k false) _ _ P3'.out.at' (by omega) (ok_x HG.out hk)).mono ?_; rintro e Y ⟨rfl, hy⟩; unfold GN; have P5 := Lib.hid (P4.out.below hy (by omega))) | (refine wpList_store_mid rfl 31 _ _ rfl _ 0 (Grd (madeG (fixG G k false))) rfl rfl (by rw [Grd_size]; exact P5.out.there) (by rw [Grd_size]; exact infoGround) (Grd_one _) ?_))
      refine bodyPost_ret (ret_GN rfl rfl rfl P5.out.store.range) rfl ⟨by rw [R1.out, R2.out], below_setCells _ (by omega) _ _ _ (B2.out.trans (hy.mono (by omega)))⟩
    · have a6 := P3.out.at'.x
      rw [Nat.zero_add] at a6
      have f6 := P3.out.free 194 (by omega)
      have hx' := HG.out.x'
      have e0 : bits .or .u64 (bits .andNot .u64 G.x (IntKind.u64.wrap (2 ^ k))) (IntKind.u64.wrap (2 ^ k)) = bits .or .u64 G.x (IntKind.u64.wrap (2 ^ k)) := by
        obtain ⟨x, hx⟩ : ∃ x : Nat, G.x = x := ⟨G.x.toNat, by omega⟩
        rw [hx]
        exact or_andNot x k (by omega) hk
      have P6 := Lib.hid (P3.out.putX (x := bits .or .u64 (bits .andNot .u64 G.x (IntKind.u64.wrap (2 ^ k))) (IntKind.u64.wrap (2 ^ k))))
      have P7 := Lib.hid (P4.out.far (b' := w.heap.size) (k := 194) (v := .int .u64 (bits .or .u64 (bits .andNot .u64 G.x (IntKind.u64.wrap (2 ^ k))) (IntKind.u64.wrap (2 ^ k)))) (by omega))
      have B3 := Lib.hid (B2.out.setCell (p := ⟨w.heap.size, 194, none⟩) (Nat.le_refl _) (.int .u64 (bits .or .u64 (bits .andNot .u64 G.x (IntKind.u64.wrap (2 ^ k))) (IntKind.u64.wrap (2 ^ k)))))
      have E0 := Lib.hid e0
      clear e0 P3 P4
      go_upto_region 8 with (fail)
      obtain ⟨Z, hZ⟩ : ∃ Z, X.setCell ⟨w.heap.size, 194, none⟩ (.int .u64 (bits .or .u64 (bits .andNot .u64 G.x (IntKind.u64.wrap (2 ^ k))) (IntKind.u64.wrap (2 ^ k)))) = Z := ⟨_, rfl⟩
      have z3 : Z.heap.size = w.heap.size + 1 + 1 := by rw [← hZ, World.size_setCell]; exact z2
      rw [hZ] at P6 P7 B3 ⊢
      clear hZ a6 f6
      have P6' : Hid (GBox Z w.heap.size (fixG G k true)) := Lib.hid (by have := P6.out; rw [E0.out] at this; simpa [fixG, fixX] using this)
      go_wp2_with (first | (go_at_call 59; refine (l01Made_any (fixG G k true) _ _ P6'.out.at' (by omega) (ok_x HG.out hk)).mono ?_; rintro e Y ⟨rfl, hy⟩; unfold GN; have P5 := Lib.hid (P7.out.below hy (by omega))) | (refine wpList_store_mid rfl 31 _ _ rfl _ 0 (Grd (madeG (fixG G k true))) rfl rfl (by rw [Grd_size]; exact P5.out.there) (by rw [Grd_size]; exact infoGround) (Grd_one _) ?_))
      refine bodyPost_ret (ret_GN rfl rfl rfl P5.out.store.range) rfl ⟨by rw [R1.out, R2.out], below_setCells _ (by omega) _ _ _ (B3.out.trans (hy.mono (by omega)))⟩
  · have hne : (askedN G c != 0) = true := by simpa [bne] using ha
    have R1 := Lib.hid (show withG G (fixG G c b) c = zG by simp only [withG, ha, if_false])
    have R2 := Lib.hid (show withN G (fixG G c b) c = askedN G c by simp only [withN, ha, if_false])
    clear ha
    go_wp2_with (first | (go_at_call 58; refine (l01Asked_any G c _ _ G1.out.at' HG.out).mono ?_; rintro e w' ⟨rfl, n, rfl⟩) | (refine wpList_store_mid rfl 31 _ _ rfl _ 0 (Grd zG) rfl rfl (by rw [Grd_size]; exact (q2.out n).there) (by rw [Grd_size]; exact infoGround) (Grd_one _) ?_))
    refine bodyPost_ret (ret_GN rfl rfl rfl (q2.out n).store.range) rfl ⟨by rw [R1.out, R2.out], below_setCells _ (by omega) _ _ _ (HB.out.trans (Quiet.below ⟨n, rfl⟩ _))⟩

set_option maxRecDepth 100000 in
set_option maxHeartbeats 1000000 in
theorem implWithFixed_any (G : Gd) (c : Int) (b : Bool) (w : World) (hG : GdOk G) (l1 : -9223372036854775808 ≤ c) (l2 : c ≤ 9223372036854775807) (hT : TabAt w) :
    Calls Tryd.prog 35 #[.agg (Grd G), .int .i64 c, .bool b] w fun e w' => e = .returned (GN (withG G (fixG G c b) c) (withN G (fixG G c b) c)) ∧ Below w.heap.size w w' := by
  have hz := (zero_of_info zeroGround).1
  go_enter Tryd.func35, Tryd.ntmps35
  go_upto_region 1 with (fail)
  obtain ⟨W, hW, hs, g1, g2, hB⟩ := gbox2 G zG 31 31 w
  rw [hW]
  clear hW
  have G1 := Lib.hid g1
  have G2 := Lib.hid g2
  have HB := Lib.hid hB
  have HG := Lib.hid hG
  have HT := Lib.hid (hT.below hB (tab_lt hT))
  have hT0 := Lib.hid hT
  clear g1 g2 hB hG hT
  by_cases ha : askedN G c = 0
  · obtain ⟨k, rfl, hk, _, _⟩ := asked_in ha
    have R1 := Lib.hid (show withG G (fixG G k b) k = madeG (fixG G k b) by simp only [withG, ha, if_true])
    have R2 := Lib.hid (show withN G (fixG G k b) k = madeN (fixG G k b) by simp only [withN, ha, if_true])
    have Ha := Lib.hid ha
    clear ha
    go_upto_region 4 with (go_at_call 60; have hc := (checkCell_any G k l1 l2 _ _ G1.out.at' (by omega) HG.out HT.out); rw [Ha.out] at hc; refine hc.mono ?_; clear hc; rintro e V ⟨rfl, hv⟩)
    have p1 := G1.out.below hv (by omega)
    have p2 := G2.out.below hv (by omega)
    have z1 := hv.size
    have B1 := Lib.hid (HB.out.trans (hv.mono (by omega)))
    have T1 := Lib.hid (HT.out.below hv (tab_lt HT.out))
    have a5 := p1.at'.x
    rw [Nat.zero_add] at a5
    have f5 := p1.free 194 (by omega)
    clear G1 G2 hv
    have PB : ∀ (y : Int) (U : World), Quiet V U → GBox (U.setCell ⟨w.heap.size, 194, none⟩ (.int .u64 y)) w.heap.size { G with x := y } ∧ GBox (U.setCell ⟨w.heap.size, 194, none⟩ (.int .u64 y)) (w.heap.size + 1) zG ∧ Below w.heap.size w (U.setCell ⟨w.heap.size, 194, none⟩ (.int .u64 y)) ∧ TabAt (U.setCell ⟨w.heap.size, 194, none⟩ (.int .u64 y)) ∧ (U.setCell ⟨w.heap.size, 194, none⟩ (.int .u64 y)).heap.size = V.heap.size := fun y U hU => by
      obtain ⟨n, rfl⟩ := hU
      have hq : Below V.heap.size V (World.drewN V n) := Quiet.below ⟨n, rfl⟩ _
      have hs2 : Below w.heap.size (World.drewN V n) ((World.drewN V n).setCell ⟨w.heap.size, 194, none⟩ (.int .u64 y)) := (Below.refl _ _).setCell (p := ⟨w.heap.size, 194, none⟩) (Nat.le_refl _) _
      exact ⟨(p1.below hq (by omega)).putX, (p2.below hq (by omega)).far (by omega), (B1.out.trans (Quiet.below ⟨n, rfl⟩ _)).trans hs2, (T1.out.below hq (by have := tab_lt hT0.out; omega)).below hs2 (tab_lt hT0.out), by rw [World.size_setCell]; rfl⟩
    have HPB := Lib.hid PB
    clear PB p1 p2
    cases b
    · go_upto_region 6 with (fail)
      have A5 : ∀ w', Quiet V w' → w'.cell? ⟨w.heap.size, 194, none⟩ = some (.int .u64 G.x) := fun w' h => (h.cell _).trans a5
      clear hz
      refine wp_region_calm (ops' := regOf Tryd.f35 6) [0, 1, 2, 3, 4, 5] [6] (.run 6 .fin) (Quiet V) [(0, One (.pointer (some ⟨w.heap.size, 194, none⟩))), (1, One (.int .u64 G.x)), (2, One (.int .i64 k)), (3, One (.int .u64 (IntKind.u64.wrap (2 ^ k)))), (4, One (.int .u64 (bits .andNot .u64 G.x (IntKind.u64.wrap (2 ^ k))))), (5, One (.pointer (some ⟨w.heap.size, 194, none⟩)))] (by kernel_rfl) (by kernel_rfl) (by kernel_rfl) (by kernel_rfl) (by kernel_rfl) (by kernel_rfl) (by kernel_rfl) (by kernel_rfl) rfl ((Quiet.refl _).drewN 1) ?_
      refine calm_pure (some 22) (by kernel_rfl) (by kernel_rfl) (by kernel_rfl) (fun _ => by kernel_rfl) ?_
      refine calm_read (some 23) (by kernel_rfl) (by kernel_rfl) (by kernel_rfl) (fun w' hw' => load_cell (ty := 25) (x := .tmp 22) (b := w.heap.size) (o := 194) (by kernel_rfl) (by kernel_rfl) Tryd.underlying25 rfl (A5 w' hw')) ?_
      refine calm_pure (some 24) (by kernel_rfl) (by kernel_rfl) (by kernel_rfl) (fun _ => by kernel_rfl) ?_
      refine calm_read (some 25) (by kernel_rfl) (by kernel_rfl) (by kernel_rfl) (fun w' _ => shl_op (x := .const (.int .u64 1)) (y := .tmp 24) (t := 2) (by kernel_rfl) (by kernel_rfl) (by kernel_rfl) hk w') ?_
      refine calm_pure (some 26) (by kernel_rfl) (by kernel_rfl) (by kernel_rfl) (fun _ => by kernel_rfl) ?_
      refine calm_pure (some 27) (by kernel_rfl) (by kernel_rfl) (by kernel_rfl) (fun _ => by kernel_rfl) ?_
      refine calm_end fun w' hw' => plan_do none undef (w'.setCell ⟨w.heap.size, 194, none⟩ (.int .u64 (bits .andNot .u64 G.x (IntKind.u64.wrap (2 ^ k))))) (by kernel_rfl) (by kernel_rfl) (by kernel_rfl) (.inr ⟨store_u64 (x := .tmp 27) (y := .tmp 26) (by kernel_rfl) (by kernel_rfl) (by kernel_rfl) infoU64 (A5 w' hw') (by obtain ⟨n, rfl⟩ := hw'; exact f5), rfl⟩) trivial (plan_end (Clean.normal ?_))
      obtain ⟨X, hX⟩ : ∃ X, w'.setCell ⟨w.heap.size, 194, none⟩ (.int .u64 (bits .andNot .u64 G.x (IntKind.u64.wrap (2 ^ k)))) = X := ⟨_, rfl⟩
      obtain ⟨P3, P4, B2, T2, z2⟩ := HPB.out _ w' hw'
      rw [hX] at P3 P4 B2 T2 z2 ⊢
      have P3' : Hid (GBox X w.heap.size (fixG G k false)) := Lib.hid (by simpa [fixG, fixX] using P3)
      have H4 := Lib.hid P4
      have HB2 := Lib.hid B2
      have HT2 := Lib.hid T2
      have r3 := P3'.out.range
      clear hX P3 P4 B2 T2 A5 a5 f5
      simp only [Act.put, List.setIfInBounds_toArray, List.set_cons_zero, List.set_cons_succ]
      go_wp2_with (first | (refine wpList_load_mid rfl 31 _ rfl w.heap.size 0 rfl (GrdL (fixG G k false)) _ r3 Tryd.underlying31 rfl (by rw [GrdL_length]; exact infoGround) ?_) | (go_at_call 61; refine (ifValid_any (fixG G k false) _ (ok_x HG.out hk) HT2.out).mono ?_; rintro e Y ⟨rfl, hy⟩; unfold GN; have P5 := Lib.hid (H4.out.below hy (by omega))) | (refine wpList_store_mid rfl 31 _ _ rfl _ 0 (Grd (madeG (fixG G k false))) rfl rfl (by rw [Grd_size]; exact P5.out.there) (by rw [Grd_size]; exact infoGround) (Grd_one _) ?_))
      refine bodyPost_ret (ret_GN rfl rfl rfl P5.out.store.range) rfl ⟨by rw [R1.out, R2.out], below_setCells _ (by omega) _ _ _ (HB2.out.trans (hy.mono (by omega)))⟩
    · go_upto_region 5 with (fail)
      have A5 : ∀ w', Quiet V w' → w'.cell? ⟨w.heap.size, 194, none⟩ = some (.int .u64 G.x) := fun w' h => (h.cell _).trans a5
      clear hz
      refine wp_region_calm (ops' := regOf Tryd.f35 5) [0, 1, 2, 3, 4, 5] [6] (.run 6 .fin) (Quiet V) [(0, One (.pointer (some ⟨w.heap.size, 194, none⟩))), (1, One (.int .u64 G.x)), (2, One (.int .i64 k)), (3, One (.int .u64 (IntKind.u64.wrap (2 ^ k)))), (4, One (.int .u64 (bits .or .u64 G.x (IntKind.u64.wrap (2 ^ k))))), (5, One (.pointer (some ⟨w.heap.size, 194, none⟩)))] (by kernel_rfl) (by kernel_rfl) (by kernel_rfl) (by kernel_rfl) (by kernel_rfl) (by kernel_rfl) (by kernel_rfl) (by kernel_rfl) rfl ((Quiet.refl _).drewN 1) ?_
      refine calm_pure (some 16) (by kernel_rfl) (by kernel_rfl) (by kernel_rfl) (fun _ => by kernel_rfl) ?_
      refine calm_read (some 17) (by kernel_rfl) (by kernel_rfl) (by kernel_rfl) (fun w' hw' => load_cell (ty := 25) (x := .tmp 16) (b := w.heap.size) (o := 194) (by kernel_rfl) (by kernel_rfl) Tryd.underlying25 rfl (A5 w' hw')) ?_
      refine calm_pure (some 18) (by kernel_rfl) (by kernel_rfl) (by kernel_rfl) (fun _ => by kernel_rfl) ?_
      refine calm_read (some 19) (by kernel_rfl) (by kernel_rfl) (by kernel_rfl) (fun w' _ => shl_op (x := .const (.int .u64 1)) (y := .tmp 18) (t := 2) (by kernel_rfl) (by kernel_rfl) (by kernel_rfl) hk w') ?_
      refine calm_pure (some 20) (by kernel_rfl) (by kernel_rfl) (by kernel_rfl) (fun _ => by kernel_rfl) ?_
      refine calm_pure (some 21) (by kernel_rfl) (by kernel_rfl) (by kernel_rfl) (fun _ => by kernel_rfl) ?_
      refine calm_end fun w' hw' => plan_do none undef (w'.setCell ⟨w.heap.size, 194, none⟩ (.int .u64 (bits .or .u64 G.x (IntKind.u64.wrap (2 ^ k))))) (by kernel_rfl) (by kernel_rfl) (by kernel_rfl) (.inr ⟨store_u64 (x := .tmp 21) (y := .tmp 20) (by kernel_rfl) (by kernel_rfl) (by kernel_rfl) infoU64 (A5 w' hw') (by obtain ⟨n, rfl⟩ := hw'; exact f5), rfl⟩) trivial (plan_end (Clean.normal ?_))
      obtain ⟨X, hX⟩ : ∃ X, w'.setCell ⟨w.heap.size, 194, none⟩ (.int .u64 (bits .or .u64 G.x (IntKind.u64.wrap (2 ^ k)))) = X := ⟨_, rfl⟩
      obtain ⟨P3, P4, B2, T2, z2⟩ := HPB.out _ w' hw'
      rw [hX] at P3 P4 B2 T2 z2 ⊢
      have P3' : Hid (GBox X w.heap.size (fixG G k true)) := Lib.hid (by simpa [fixG, fixX] using P3)
      have H4 := Lib.hid P4
      have HB2 := Lib.hid B2
      have HT2 := Lib.hid T2
      have r3 := P3'.out.range
      clear hX P3 P4 B2 T2 A5 a5 f5
      simp only [Act.put, List.setIfInBounds_toArray, List.set_cons_zero, List.set_cons_succ]
      go_wp2_with (first | (refine wpList_load_mid rfl 31 _ rfl w.heap.size 0 rfl (GrdL (fixG G k true)) _ r3 Tryd.underlying31 rfl (by rw [GrdL_length]; exact infoGround) ?_) | (go_at_call 61; refine (ifValid_any (fixG G k true) _ (ok_x HG.out hk) HT2.out).mono ?_; rintro e Y ⟨rfl, hy⟩; unfold GN; have P5 := Lib.hid (H4.out.below hy (by omega))) | (refine wpList_store_mid rfl 31 _ _ rfl _ 0 (Grd (madeG (fixG G k true))) rfl rfl (by rw [Grd_size]; exact P5.out.there) (by rw [Grd_size]; exact infoGround) (Grd_one _) ?_))
      refine bodyPost_ret (ret_GN rfl rfl rfl P5.out.store.range) rfl ⟨by rw [R1.out, R2.out], below_setCells _ (by omega) _ _ _ (HB2.out.trans (hy.mono (by omega)))⟩
  · have hne : (askedN G c != 0) = true := by simpa [bne] using ha
    have R1 := Lib.hid (show withG G (fixG G c b) c = zG by simp only [withG, ha, if_false])
    have R2 := Lib.hid (show withN G (fixG G c b) c = askedN G c by simp only [withN, ha, if_false])
    clear ha
    go_wp2_with (first | (go_at_call 60; refine (checkCell_any G c l1 l2 _ _ G1.out.at' (by omega) HG.out HT.out).mono ?_; rintro e V ⟨rfl, hv⟩; have P2 := Lib.hid (G2.out.below hv (by omega))) | (refine wpList_store_mid rfl 31 _ _ rfl _ 0 (Grd zG) rfl rfl (by rw [Grd_size]; exact P2.out.there) (by rw [Grd_size]; exact infoGround) (Grd_one _) ?_))
    refine bodyPost_ret (ret_GN rfl rfl rfl P2.out.store.range) rfl ⟨by rw [R1.out, R2.out], below_setCells _ (by omega) _ _ _ (HB.out.trans (hv.mono (by omega)))⟩
end Go.Proofs.YtljbppladjnadaaDoor
