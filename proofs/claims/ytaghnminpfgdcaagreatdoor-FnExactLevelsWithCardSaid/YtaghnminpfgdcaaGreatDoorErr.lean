/- errors.As at targets of the program's own errors (a number, a struct): nil, the target's own type, another type. Conditions: errors.errorType is laid. -/
import Derived.Test.YtaghnminpfgdcaaGreatDoorKp
import Derived.LaidHandle
import Derived.ChangeVars
import Derived.Stop.Asserts
import Derived.RowKitTokens
namespace Go.Proofs.YtaghnminpfgdcaaGreatDoor
open Go Go.RowKit Go.Extern.Stop Go.Stop Go.Extern
attribute [local go_sem] Oper.semAt_some
set_option linter.unusedSimpArgs false
set_option linter.unusedVariables false
set_option maxRecDepth 100000

/-- errors.errorType is laid: the handle of error's type. -/
def ErrT (w : World) : Prop := w.cell? ⟨0, 0, none⟩ = some (.iface 191 (.agg #[.pointer (some ⟨3, 86, none⟩)]))
theorem errT_lt {w : World} (h : ErrT w) : 0 < w.heap.size := by
  rcases Nat.lt_or_ge 0 w.heap.size with h1 | h1
  · exact h1
  · have h2 := h
    simp [ErrT, World.cell?, Array.getElem?_eq_none h1] at h2
theorem ErrT.below {n : Nat} {w w' : World} (h : ErrT w) (hb : Below n w w') (hn : 0 < n) : ErrT w' := by
  unfold ErrT at h ⊢
  rw [hb.cell hn]; exact h
theorem as_nil (t : Value) (w : World) :
    Calls Tryz.prog 62 #[.nilIface, t] w fun e w' => e = .returned (.bool false) ∧ w' = w := by
  go_enter Tryz.func62, Tryz.ntmps62
  go_wp2
  go_ret
  exact ⟨rfl, rfl⟩
theorem rlm (z : Sem Value) (f : TypeId → Addr → Nat → Nat → Sem Value) (v : Value) :
    ReflectliteValue.method z f #[v] = (do match ← ReflectliteValue.parts v with | none => z | some (t, a, fl) => f t a fl (fl % 32)) := rfl
theorem rls (v x : Value) : ReflectliteValue.set #[v, x] = (do
    let (some (dst, a, fl), some (src, b, _)) := (← ReflectliteValue.parts v, ← ReflectliteValue.parts x)
      | unsupported (.noEntry "extern/(internal/reflectlite.Value).Set.zeroValue")
    if fl / ReflectliteValue.flagAddr % 2 == 0 then unsupported (.noEntry "extern/(internal/reflectlite.Value).Set.unaddressable")
    let val ← loadVar src b
    if ← Rtype.directlyAssignable dst src then storeVar dst a val
    else if ← Rtype.implements dst src then
      if (← Rtype.kind src) == 20 then
        match val with
        | .nilIface => unsupported (.noEntry "extern/reflectlite: a nil value of one interface type handed on as a value of another")
        | _ => storeVar dst a val
      else storeVar dst a (.iface src val)
    else panicString ("reflectlite.Set: value of type " ++ (← Rtype.spelt src) ++ " is not assignable to type " ++ (← Rtype.spelt dst))
    pure (.tuple #[])) := rfl
theorem erMKind (h : Value) (w : World) : (Go.method 382 191 (.agg #[h]) "Kind").run Tryz.prog w = .ok (190, h) w := by kernel_rfl
theorem erMElem (h : Value) (w : World) : (Go.method 382 191 (.agg #[h]) "Elem").run Tryz.prog w = .ok (202, .agg #[h]) w := by kernel_rfl
theorem erMImplements (h : Value) (w : World) : (Go.method 382 191 (.agg #[h]) "Implements").run Tryz.prog w = .ok (203, .agg #[h]) w := by kernel_rfl
theorem erMAssignableTo (h : Value) (w : World) : (Go.method 382 191 (.agg #[h]) "AssignableTo").run Tryz.prog w = .ok (200, .agg #[h]) w := by kernel_rfl
theorem erGofP (t : Addr) (w : World) : (ReflectliteValue.unpack (.iface 142 (.pointer (some t)))).run Tryz.prog w
    = .ok (.agg #[.pointer (some ⟨3, 142, none⟩), .pointer (some ⟨w.heap.size, 0, none⟩), .int .u64 150]) (w.alloc (.cells #[.pointer (some t)] 142)) := by kernel_rfl
theorem erGtype (a : Addr) (w : World) : (ReflectliteValue.methodAny (ReflectliteValue.valueError "reflectlite.Value.Type" 0) (fun t _ _ _ => ReflectliteType.toType t) #[.agg #[.pointer (some ⟨3, 142, none⟩), .pointer (some a), .int .u64 150]]).run Tryz.prog w
    = .ok (.iface 191 (.agg #[.pointer (some ⟨3, 142, none⟩)])) w := by kernel_rfl
theorem erGkindP (w : World) : ((ReflectliteType.abiMethod fun t => (fun a : Nat => Value.int IntKind.u8 (a : Int)) <$> Rtype.kind t) #[.pointer (some ⟨3, 142, none⟩)]).run Tryz.prog w = .ok (.int .u8 22) w := by kernel_rfl
theorem erGkind (w : World) : ((ReflectliteType.abiMethod fun t => (fun a : Nat => Value.int IntKind.u8 (a : Int)) <$> Rtype.kind t) #[.pointer (some ⟨3, 138, none⟩)]).run Tryz.prog w = .ok (.int .u8 6) w := by kernel_rfl
theorem erGpartsP (a : Addr) (w : World) : (ReflectliteValue.parts (.agg #[.pointer (some ⟨3, 142, none⟩), .pointer (some a), .int .u64 150])).run Tryz.prog w = .ok (some (142, a, 150)) w := by kernel_rfl
theorem erGisNil (a p : Addr) (W : World) (ha : W.cell? a = some (.pointer (some p))) :
    (ReflectliteValue.method (ReflectliteValue.valueError "reflectlite.Value.IsNil" 0) ReflectliteValue.isNil #[.agg #[.pointer (some ⟨3, 142, none⟩), .pointer (some a), .int .u64 150]]).run Tryz.prog W = .ok (.bool false) W := by
  rw [rlm]
  simp only [Sem.run_bind, erGpartsP, Result.andThen]
  simp [ReflectliteValue.isNil, loadVar, isAgg, underlying, Tryz.underlying142, ha, Result.andThen]
theorem erGelem (w : World) : (ReflectliteType.method ReflectliteType.elem #[.agg #[.pointer (some ⟨3, 142, none⟩)]]).run Tryz.prog w = .ok (.iface 191 (.agg #[.pointer (some ⟨3, 138, none⟩)])) w := by kernel_rfl
theorem erGimplements (w : World) : (ReflectliteType.relation "Implements" ReflectliteType.implements_ #[.agg #[.pointer (some ⟨3, 138, none⟩)], .iface 191 (.agg #[.pointer (some ⟨3, 86, none⟩)])]).run Tryz.prog w = .ok (.bool true) w := by kernel_rfl
theorem erGtypeOf (v : Value) (w : World) : (ReflectliteType.typeOf #[.iface 138 v]).run Tryz.prog w = .ok (.iface 191 (.agg #[.pointer (some ⟨3, 138, none⟩)])) w := by kernel_rfl
theorem erGassignable (w : World) : (ReflectliteType.relation "AssignableTo" ReflectliteType.assignableTo #[.agg #[.pointer (some ⟨3, 138, none⟩)], .iface 191 (.agg #[.pointer (some ⟨3, 138, none⟩)])]).run Tryz.prog w = .ok (.bool true) w := by kernel_rfl
theorem erGvalueOf (n : Int) (w : World) : (ReflectliteValue.unpack (.iface 138 (.int .i64 n))).run Tryz.prog w
    = .ok (.agg #[.pointer (some ⟨3, 138, none⟩), .pointer (some ⟨w.heap.size, 0, none⟩), .int .u64 134]) (w.alloc (.cells #[.int .i64 n] 138)) := by kernel_rfl
theorem erGelemOf (w : World) : (Rtype.elem? 142).run Tryz.prog w = .ok (some 138) w := by kernel_rfl
theorem erGmk (p : Addr) (w : World) : (ReflectliteValue.mk 138 p ReflectliteValue.flagAddr).run Tryz.prog w = .ok (.agg #[.pointer (some ⟨3, 138, none⟩), .pointer (some p), .int .u64 390]) w := by kernel_rfl
theorem erGelemV (a p : Addr) (W : World) (ha : W.cell? a = some (.pointer (some p))) :
    (ReflectliteValue.method (ReflectliteValue.valueError "reflectlite.Value.Elem" 0) ReflectliteValue.elem #[.agg #[.pointer (some ⟨3, 142, none⟩), .pointer (some a), .int .u64 150]]).run Tryz.prog W
      = .ok (.agg #[.pointer (some ⟨3, 138, none⟩), .pointer (some p), .int .u64 390]) W := by
  rw [rlm]
  simp only [Sem.run_bind, erGpartsP, Result.andThen]
  simp [ReflectliteValue.elem, loadVar, isAgg, underlying, Tryz.underlying142, ha, Result.andThen, erGelemOf, erGmk]
theorem erGpartsA (a : Addr) (w : World) : (ReflectliteValue.parts (.agg #[.pointer (some ⟨3, 138, none⟩), .pointer (some a), .int .u64 390])).run Tryz.prog w = .ok (some (138, a, 390)) w := by kernel_rfl
theorem erGparts (a : Addr) (w : World) : (ReflectliteValue.parts (.agg #[.pointer (some ⟨3, 138, none⟩), .pointer (some a), .int .u64 134])).run Tryz.prog w = .ok (some (138, a, 134)) w := by kernel_rfl
theorem erGdirect (w : World) : (Rtype.directlyAssignable 138 138).run Tryz.prog w = .ok true w := by kernel_rfl
theorem erGsize (w : World) : (sizeOf 138).run Tryz.prog w = .ok 1 w := by kernel_rfl
theorem erGloadV (n : Int) (b : Nat) (W : World) (h : W.rangeAt b 0 [.int .i64 n]) : (loadVar 138 ⟨b, 0, none⟩).run Tryz.prog W = .ok (.int .i64 n) W := by
  have h0 := h 0 _ rfl; simp [loadVar, isAgg, underlying, Tryz.underlying138, Result.andThen] at h0 ⊢; simp [h0]
theorem erGstored (n : Int) (b : Nat) (W : World) (h : W.there b 0 1) : (storeVar 138 ⟨b, 0, none⟩ (.int .i64 n)).run Tryz.prog W = .ok () (W.setCells b 0 [.int .i64 n]) := by
  have := run_storeCells_cells (P := Tryz.prog) b 0 [.int .i64 n] 0 W (fun j hj => by simpa using (h j (by simpa using hj)).1) (fun j hj => by simpa using (h j (by simpa using hj)).2) (fun v hv => by simp at hv; rcases hv with rfl <;> rfl)
  simp only [Nat.add_zero] at this
  simp [storeVar, erGsize, Value.cells, Result.andThen, this]
theorem erGset (n : Int) (tb b : Nat) (W : World) (h : W.rangeAt b 0 [.int .i64 n]) (ht : W.there tb 0 1) :
    (ReflectliteValue.set #[.agg #[.pointer (some ⟨3, 138, none⟩), .pointer (some ⟨tb, 0, none⟩), .int .u64 390], .agg #[.pointer (some ⟨3, 138, none⟩), .pointer (some ⟨b, 0, none⟩), .int .u64 134]]).run Tryz.prog W
      = .ok (.tuple #[]) (W.setCells tb 0 [.int .i64 n]) := by
  rw [rls]
  simp only [Sem.run_bind, erGpartsA, erGparts, Result.andThen]
  simp [ReflectliteValue.flagAddr, Result.andThen, erGdirect, erGloadV n _ _ h, erGstored n _ _ ht]
set_option maxHeartbeats 4000000 in
theorem as_hitG (n : Int) (tb : Nat) (w : World) (hg : ErrT w) (ht : w.there tb 0 1) (hgt : 0 < tb) (htl : tb < w.heap.size) :
    Calls Tryz.prog 62 #[.iface 138 (.int .i64 n), .iface 142 (.pointer (some ⟨tb, 0, none⟩))] w fun ev w' => ev = .returned (.bool true) ∧ Below tb w w' ∧ w'.rangeAt tb 0 [.int .i64 n] := by
  have h6 := @run_callFunc_extern Tryz.prog 91 _ (fun args => ReflectliteValue.unpack (args.getD 0 (.tuple #[]))) Tryz.func91 (by kernel_rfl) (by kernel_rfl) (by kernel_rfl) (by kernel_rfl)
  have h7 := @run_callFunc_extern Tryz.prog 92 _ (ReflectliteValue.methodAny (ReflectliteValue.valueError "reflectlite.Value.Type" 0) (fun t _ _ _ => ReflectliteType.toType t)) Tryz.func92 (by kernel_rfl) (by kernel_rfl) (by kernel_rfl) (by kernel_rfl)
  have h8 := @run_callFunc_extern Tryz.prog 93 _ (ReflectliteValue.method (ReflectliteValue.valueError "reflectlite.Value.IsNil" 0) ReflectliteValue.isNil) Tryz.func93 (by kernel_rfl) (by kernel_rfl) (by kernel_rfl) (by kernel_rfl)
  have h27 := @run_callFunc_extern Tryz.prog 190 _ (ReflectliteType.abiMethod fun t => do pure (.int .u8 (← Rtype.kind t))) Tryz.func190 (by kernel_rfl) (by kernel_rfl) (by kernel_rfl) (by kernel_rfl)
  have h37 := @run_callFunc_extern Tryz.prog 202 _ (ReflectliteType.method ReflectliteType.elem) Tryz.func202 (by kernel_rfl) (by kernel_rfl) (by kernel_rfl) (by kernel_rfl)
  have h38 := @run_callFunc_extern Tryz.prog 203 _ (ReflectliteType.relation "Implements" ReflectliteType.implements_) Tryz.func203 (by kernel_rfl) (by kernel_rfl) (by kernel_rfl) (by kernel_rfl)
  have h10 := @run_callFunc_extern Tryz.prog 121 _ ReflectliteType.typeOf Tryz.func121 (by kernel_rfl) (by kernel_rfl) (by kernel_rfl) (by kernel_rfl)
  have h35 := @run_callFunc_extern Tryz.prog 200 _ (ReflectliteType.relation "AssignableTo" ReflectliteType.assignableTo) Tryz.func200 (by kernel_rfl) (by kernel_rfl) (by kernel_rfl) (by kernel_rfl)
  have h11 := @run_callFunc_extern Tryz.prog 122 _ (ReflectliteValue.method (ReflectliteValue.valueError "reflectlite.Value.Elem" 0) ReflectliteValue.elem) Tryz.func122 (by kernel_rfl) (by kernel_rfl) (by kernel_rfl) (by kernel_rfl)
  have h12 := @run_callFunc_extern Tryz.prog 123 _ ReflectliteValue.set Tryz.func123 (by kernel_rfl) (by kernel_rfl) (by kernel_rfl) (by kernel_rfl)
  have tO := erGtypeOf
  have mA := erMAssignableTo
  have a25 := erGassignable
  have v25 := erGvalueOf
  have f6 := erGofP
  have f7 := erGtype
  have mK := erMKind
  have mE := erMElem
  have mI := erMImplements
  have k27 := erGkindP
  have k25 := erGkind
  have e27 := erGelem
  have i25 := erGimplements
  have n8 := erGisNil ⟨w.heap.size, 0, none⟩ ⟨tb, 0, none⟩ ((w.alloc (.cells #[.pointer (some ⟨tb, 0, none⟩)] 142)).alloc (.cells #[.pointer (some ⟨3, 142, none⟩), .pointer (some ⟨w.heap.size, 0, none⟩), .int .u64 150] 148)) (by simp)
  have hlt : 0 < w.heap.size := errT_lt hg
  have hg2 : ((w.alloc (.cells #[.pointer (some ⟨tb, 0, none⟩)] 142)).alloc (.cells #[.pointer (some ⟨3, 142, none⟩), .pointer (some ⟨w.heap.size, 0, none⟩), .int .u64 150] 148)).cell? ⟨0, 0, none⟩ = some (.iface 191 (.agg #[.pointer (some ⟨3, 86, none⟩)])) := by
    rw [World.cell?_alloc_lt _ _ ⟨0, 0, none⟩ (by simp), World.cell?_alloc_lt _ _ ⟨0, 0, none⟩ hlt]; exact hg
  have el := erGelemV ⟨w.heap.size, 0, none⟩ ⟨tb, 0, none⟩ (((w.alloc (.cells #[.pointer (some ⟨tb, 0, none⟩)] 142)).alloc (.cells #[.pointer (some ⟨3, 142, none⟩), .pointer (some ⟨w.heap.size, 0, none⟩), .int .u64 150] 148)).alloc (.cells #[.pointer (some ⟨3, 142, none⟩), .pointer (some ⟨w.heap.size, 0, none⟩), .int .u64 150] 148)) (by rw [World.cell?_alloc_lt _ _ ⟨w.heap.size, 0, none⟩ (by simp; omega)]; simp)
  have hrw : ((((w.alloc (.cells #[.pointer (some ⟨tb, 0, none⟩)] 142)).alloc (.cells #[.pointer (some ⟨3, 142, none⟩), .pointer (some ⟨w.heap.size, 0, none⟩), .int .u64 150] 148)).alloc (.cells #[.pointer (some ⟨3, 142, none⟩), .pointer (some ⟨w.heap.size, 0, none⟩), .int .u64 150] 148)).alloc (.cells #[.int .i64 n] 138)).rangeAt (w.heap.size + 1 + 1 + 1) 0 [.int .i64 n] := rangeAt_row (C := #[.int .i64 n]) (by have hq := heap_alloc_last (((w.alloc (.cells #[.pointer (some ⟨tb, 0, none⟩)] 142)).alloc (.cells #[.pointer (some ⟨3, 142, none⟩), .pointer (some ⟨w.heap.size, 0, none⟩), .int .u64 150] 148)).alloc (.cells #[.pointer (some ⟨3, 142, none⟩), .pointer (some ⟨w.heap.size, 0, none⟩), .int .u64 150] 148)) (.cells #[.int .i64 n] 138); simpa using hq)
  have htt := World.there_alloc (World.there_alloc (World.there_alloc (World.there_alloc ht (.cells #[.pointer (some ⟨tb, 0, none⟩)] 142)) (.cells #[.pointer (some ⟨3, 142, none⟩), .pointer (some ⟨w.heap.size, 0, none⟩), .int .u64 150] 148)) (.cells #[.pointer (some ⟨3, 142, none⟩), .pointer (some ⟨w.heap.size, 0, none⟩), .int .u64 150] 148)) (.cells #[.int .i64 n] 138)
  have st := erGset n tb (w.heap.size + 1 + 1 + 1) _ hrw htt
  go_enter Tryz.func62, Tryz.ntmps62
  go_wp2
  refine wp_loop_rounds 1 ?_
  rw [rounds_succ]
  go_wp2
  go_ret
  refine ⟨rfl, ?_, World.rangeAt_setCells_same _ _ _ _ htt⟩
  exact below_setCells tb (Nat.le_refl _) _ _ _ (((((Below.refl tb w).alloc (by omega) _).alloc (by simp; omega) _).alloc (by simp; omega) _).alloc (by simp; omega) _)
theorem erLofP (t : Addr) (w : World) : (ReflectliteValue.unpack (.iface 104 (.pointer (some t)))).run Tryz.prog w
    = .ok (.agg #[.pointer (some ⟨3, 104, none⟩), .pointer (some ⟨w.heap.size, 0, none⟩), .int .u64 150]) (w.alloc (.cells #[.pointer (some t)] 104)) := by kernel_rfl
theorem erLtype (a : Addr) (w : World) : (ReflectliteValue.methodAny (ReflectliteValue.valueError "reflectlite.Value.Type" 0) (fun t _ _ _ => ReflectliteType.toType t) #[.agg #[.pointer (some ⟨3, 104, none⟩), .pointer (some a), .int .u64 150]]).run Tryz.prog w
    = .ok (.iface 191 (.agg #[.pointer (some ⟨3, 104, none⟩)])) w := by kernel_rfl
theorem erLkindP (w : World) : ((ReflectliteType.abiMethod fun t => (fun a : Nat => Value.int IntKind.u8 (a : Int)) <$> Rtype.kind t) #[.pointer (some ⟨3, 104, none⟩)]).run Tryz.prog w = .ok (.int .u8 22) w := by kernel_rfl
theorem erLkind (w : World) : ((ReflectliteType.abiMethod fun t => (fun a : Nat => Value.int IntKind.u8 (a : Int)) <$> Rtype.kind t) #[.pointer (some ⟨3, 102, none⟩)]).run Tryz.prog w = .ok (.int .u8 25) w := by kernel_rfl
theorem erLpartsP (a : Addr) (w : World) : (ReflectliteValue.parts (.agg #[.pointer (some ⟨3, 104, none⟩), .pointer (some a), .int .u64 150])).run Tryz.prog w = .ok (some (104, a, 150)) w := by kernel_rfl
theorem erLisNil (a p : Addr) (W : World) (ha : W.cell? a = some (.pointer (some p))) :
    (ReflectliteValue.method (ReflectliteValue.valueError "reflectlite.Value.IsNil" 0) ReflectliteValue.isNil #[.agg #[.pointer (some ⟨3, 104, none⟩), .pointer (some a), .int .u64 150]]).run Tryz.prog W = .ok (.bool false) W := by
  rw [rlm]
  simp only [Sem.run_bind, erLpartsP, Result.andThen]
  simp [ReflectliteValue.isNil, loadVar, isAgg, underlying, Tryz.underlying104, ha, Result.andThen]
theorem erLelem (w : World) : (ReflectliteType.method ReflectliteType.elem #[.agg #[.pointer (some ⟨3, 104, none⟩)]]).run Tryz.prog w = .ok (.iface 191 (.agg #[.pointer (some ⟨3, 102, none⟩)])) w := by kernel_rfl
theorem erLimplements (w : World) : (ReflectliteType.relation "Implements" ReflectliteType.implements_ #[.agg #[.pointer (some ⟨3, 102, none⟩)], .iface 191 (.agg #[.pointer (some ⟨3, 86, none⟩)])]).run Tryz.prog w = .ok (.bool true) w := by kernel_rfl
theorem erLtypeOf (v : Value) (w : World) : (ReflectliteType.typeOf #[.iface 102 v]).run Tryz.prog w = .ok (.iface 191 (.agg #[.pointer (some ⟨3, 102, none⟩)])) w := by kernel_rfl
theorem erLassignable (w : World) : (ReflectliteType.relation "AssignableTo" ReflectliteType.assignableTo #[.agg #[.pointer (some ⟨3, 102, none⟩)], .iface 191 (.agg #[.pointer (some ⟨3, 102, none⟩)])]).run Tryz.prog w = .ok (.bool true) w := by kernel_rfl
theorem erLvalueOf (n : Int) (z : Nat) (w : World) : (ReflectliteValue.unpack (.iface 102 (.agg #[.int .i64 n, .float .f32 z]))).run Tryz.prog w
    = .ok (.agg #[.pointer (some ⟨3, 102, none⟩), .pointer (some ⟨w.heap.size, 0, none⟩), .int .u64 153]) (w.alloc (.cells #[.int .i64 n, .float .f32 z] 102)) := by kernel_rfl
theorem erLelemOf (w : World) : (Rtype.elem? 104).run Tryz.prog w = .ok (some 102) w := by kernel_rfl
theorem erLmk (p : Addr) (w : World) : (ReflectliteValue.mk 102 p ReflectliteValue.flagAddr).run Tryz.prog w = .ok (.agg #[.pointer (some ⟨3, 102, none⟩), .pointer (some p), .int .u64 409]) w := by kernel_rfl
theorem erLelemV (a p : Addr) (W : World) (ha : W.cell? a = some (.pointer (some p))) :
    (ReflectliteValue.method (ReflectliteValue.valueError "reflectlite.Value.Elem" 0) ReflectliteValue.elem #[.agg #[.pointer (some ⟨3, 104, none⟩), .pointer (some a), .int .u64 150]]).run Tryz.prog W
      = .ok (.agg #[.pointer (some ⟨3, 102, none⟩), .pointer (some p), .int .u64 409]) W := by
  rw [rlm]
  simp only [Sem.run_bind, erLpartsP, Result.andThen]
  simp [ReflectliteValue.elem, loadVar, isAgg, underlying, Tryz.underlying104, ha, Result.andThen, erLelemOf, erLmk]
theorem erLpartsA (a : Addr) (w : World) : (ReflectliteValue.parts (.agg #[.pointer (some ⟨3, 102, none⟩), .pointer (some a), .int .u64 409])).run Tryz.prog w = .ok (some (102, a, 409)) w := by kernel_rfl
theorem erLparts (a : Addr) (w : World) : (ReflectliteValue.parts (.agg #[.pointer (some ⟨3, 102, none⟩), .pointer (some a), .int .u64 153])).run Tryz.prog w = .ok (some (102, a, 153)) w := by kernel_rfl
theorem erLdirect (w : World) : (Rtype.directlyAssignable 102 102).run Tryz.prog w = .ok true w := by kernel_rfl
theorem erLsize (w : World) : (sizeOf 102).run Tryz.prog w = .ok 2 w := by kernel_rfl
theorem erLloadV (n : Int) (z : Nat) (b : Nat) (W : World) (h : W.rangeAt b 0 [.int .i64 n, .float .f32 z]) : (loadVar 102 ⟨b, 0, none⟩).run Tryz.prog W = .ok (.agg #[.int .i64 n, .float .f32 z]) W := by
  simpa using run_loadVar_mid W b 0 102 [.int .i64 n, .float .f32 z] _ h Tryz.underlying102 rfl (by kernel_rfl)
theorem erLstored (n : Int) (z : Nat) (b : Nat) (W : World) (h : W.there b 0 2) : (storeVar 102 ⟨b, 0, none⟩ (.agg #[.int .i64 n, .float .f32 z])).run Tryz.prog W = .ok () (W.setCells b 0 [.int .i64 n, .float .f32 z]) := by
  have := run_storeCells_cells (P := Tryz.prog) b 0 [.int .i64 n, .float .f32 z] 0 W (fun j hj => by simpa using (h j (by simpa using hj)).1) (fun j hj => by simpa using (h j (by simpa using hj)).2) (fun v hv => by simp at hv; rcases hv with rfl | rfl <;> rfl)
  simp only [Nat.add_zero] at this
  simp [storeVar, erLsize, Value.cells, Result.andThen, this]
theorem erLset (n : Int) (z : Nat) (tb b : Nat) (W : World) (h : W.rangeAt b 0 [.int .i64 n, .float .f32 z]) (ht : W.there tb 0 2) :
    (ReflectliteValue.set #[.agg #[.pointer (some ⟨3, 102, none⟩), .pointer (some ⟨tb, 0, none⟩), .int .u64 409], .agg #[.pointer (some ⟨3, 102, none⟩), .pointer (some ⟨b, 0, none⟩), .int .u64 153]]).run Tryz.prog W
      = .ok (.tuple #[]) (W.setCells tb 0 [.int .i64 n, .float .f32 z]) := by
  rw [rls]
  simp only [Sem.run_bind, erLpartsA, erLparts, Result.andThen]
  simp [ReflectliteValue.flagAddr, Result.andThen, erLdirect, erLloadV n z _ _ h, erLstored n z _ _ ht]
set_option maxHeartbeats 4000000 in
theorem as_hitL (n : Int) (z : Nat) (tb : Nat) (w : World) (hg : ErrT w) (ht : w.there tb 0 2) (hgt : 0 < tb) (htl : tb < w.heap.size) :
    Calls Tryz.prog 62 #[.iface 102 (.agg #[.int .i64 n, .float .f32 z]), .iface 104 (.pointer (some ⟨tb, 0, none⟩))] w fun ev w' => ev = .returned (.bool true) ∧ Below tb w w' ∧ w'.rangeAt tb 0 [.int .i64 n, .float .f32 z] := by
  have h6 := @run_callFunc_extern Tryz.prog 91 _ (fun args => ReflectliteValue.unpack (args.getD 0 (.tuple #[]))) Tryz.func91 (by kernel_rfl) (by kernel_rfl) (by kernel_rfl) (by kernel_rfl)
  have h7 := @run_callFunc_extern Tryz.prog 92 _ (ReflectliteValue.methodAny (ReflectliteValue.valueError "reflectlite.Value.Type" 0) (fun t _ _ _ => ReflectliteType.toType t)) Tryz.func92 (by kernel_rfl) (by kernel_rfl) (by kernel_rfl) (by kernel_rfl)
  have h8 := @run_callFunc_extern Tryz.prog 93 _ (ReflectliteValue.method (ReflectliteValue.valueError "reflectlite.Value.IsNil" 0) ReflectliteValue.isNil) Tryz.func93 (by kernel_rfl) (by kernel_rfl) (by kernel_rfl) (by kernel_rfl)
  have h27 := @run_callFunc_extern Tryz.prog 190 _ (ReflectliteType.abiMethod fun t => do pure (.int .u8 (← Rtype.kind t))) Tryz.func190 (by kernel_rfl) (by kernel_rfl) (by kernel_rfl) (by kernel_rfl)
  have h37 := @run_callFunc_extern Tryz.prog 202 _ (ReflectliteType.method ReflectliteType.elem) Tryz.func202 (by kernel_rfl) (by kernel_rfl) (by kernel_rfl) (by kernel_rfl)
  have h38 := @run_callFunc_extern Tryz.prog 203 _ (ReflectliteType.relation "Implements" ReflectliteType.implements_) Tryz.func203 (by kernel_rfl) (by kernel_rfl) (by kernel_rfl) (by kernel_rfl)
  have h10 := @run_callFunc_extern Tryz.prog 121 _ ReflectliteType.typeOf Tryz.func121 (by kernel_rfl) (by kernel_rfl) (by kernel_rfl) (by kernel_rfl)
  have h35 := @run_callFunc_extern Tryz.prog 200 _ (ReflectliteType.relation "AssignableTo" ReflectliteType.assignableTo) Tryz.func200 (by kernel_rfl) (by kernel_rfl) (by kernel_rfl) (by kernel_rfl)
  have h11 := @run_callFunc_extern Tryz.prog 122 _ (ReflectliteValue.method (ReflectliteValue.valueError "reflectlite.Value.Elem" 0) ReflectliteValue.elem) Tryz.func122 (by kernel_rfl) (by kernel_rfl) (by kernel_rfl) (by kernel_rfl)
  have h12 := @run_callFunc_extern Tryz.prog 123 _ ReflectliteValue.set Tryz.func123 (by kernel_rfl) (by kernel_rfl) (by kernel_rfl) (by kernel_rfl)
  have tO := erLtypeOf
  have mA := erMAssignableTo
  have a25 := erLassignable
  have v25 := erLvalueOf
  have f6 := erLofP
  have f7 := erLtype
  have mK := erMKind
  have mE := erMElem
  have mI := erMImplements
  have k27 := erLkindP
  have k25 := erLkind
  have e27 := erLelem
  have i25 := erLimplements
  have n8 := erLisNil ⟨w.heap.size, 0, none⟩ ⟨tb, 0, none⟩ ((w.alloc (.cells #[.pointer (some ⟨tb, 0, none⟩)] 104)).alloc (.cells #[.pointer (some ⟨3, 104, none⟩), .pointer (some ⟨w.heap.size, 0, none⟩), .int .u64 150] 148)) (by simp)
  have hlt : 0 < w.heap.size := errT_lt hg
  have hg2 : ((w.alloc (.cells #[.pointer (some ⟨tb, 0, none⟩)] 104)).alloc (.cells #[.pointer (some ⟨3, 104, none⟩), .pointer (some ⟨w.heap.size, 0, none⟩), .int .u64 150] 148)).cell? ⟨0, 0, none⟩ = some (.iface 191 (.agg #[.pointer (some ⟨3, 86, none⟩)])) := by
    rw [World.cell?_alloc_lt _ _ ⟨0, 0, none⟩ (by simp), World.cell?_alloc_lt _ _ ⟨0, 0, none⟩ hlt]; exact hg
  have el := erLelemV ⟨w.heap.size, 0, none⟩ ⟨tb, 0, none⟩ (((w.alloc (.cells #[.pointer (some ⟨tb, 0, none⟩)] 104)).alloc (.cells #[.pointer (some ⟨3, 104, none⟩), .pointer (some ⟨w.heap.size, 0, none⟩), .int .u64 150] 148)).alloc (.cells #[.pointer (some ⟨3, 104, none⟩), .pointer (some ⟨w.heap.size, 0, none⟩), .int .u64 150] 148)) (by rw [World.cell?_alloc_lt _ _ ⟨w.heap.size, 0, none⟩ (by simp; omega)]; simp)
  have hrw : ((((w.alloc (.cells #[.pointer (some ⟨tb, 0, none⟩)] 104)).alloc (.cells #[.pointer (some ⟨3, 104, none⟩), .pointer (some ⟨w.heap.size, 0, none⟩), .int .u64 150] 148)).alloc (.cells #[.pointer (some ⟨3, 104, none⟩), .pointer (some ⟨w.heap.size, 0, none⟩), .int .u64 150] 148)).alloc (.cells #[.int .i64 n, .float .f32 z] 102)).rangeAt (w.heap.size + 1 + 1 + 1) 0 [.int .i64 n, .float .f32 z] := rangeAt_row (C := #[.int .i64 n, .float .f32 z]) (by have hq := heap_alloc_last (((w.alloc (.cells #[.pointer (some ⟨tb, 0, none⟩)] 104)).alloc (.cells #[.pointer (some ⟨3, 104, none⟩), .pointer (some ⟨w.heap.size, 0, none⟩), .int .u64 150] 148)).alloc (.cells #[.pointer (some ⟨3, 104, none⟩), .pointer (some ⟨w.heap.size, 0, none⟩), .int .u64 150] 148)) (.cells #[.int .i64 n, .float .f32 z] 102); simpa using hq)
  have htt := World.there_alloc (World.there_alloc (World.there_alloc (World.there_alloc ht (.cells #[.pointer (some ⟨tb, 0, none⟩)] 104)) (.cells #[.pointer (some ⟨3, 104, none⟩), .pointer (some ⟨w.heap.size, 0, none⟩), .int .u64 150] 148)) (.cells #[.pointer (some ⟨3, 104, none⟩), .pointer (some ⟨w.heap.size, 0, none⟩), .int .u64 150] 148)) (.cells #[.int .i64 n, .float .f32 z] 102)
  have st := erLset n z tb (w.heap.size + 1 + 1 + 1) _ hrw htt
  go_enter Tryz.func62, Tryz.ntmps62
  go_wp2
  refine wp_loop_rounds 1 ?_
  rw [rounds_succ]
  go_wp2
  go_ret
  refine ⟨rfl, ?_, World.rangeAt_setCells_same _ _ _ _ htt⟩
  exact below_setCells tb (Nat.le_refl _) _ _ _ (((((Below.refl tb w).alloc (by omega) _).alloc (by simp; omega) _).alloc (by simp; omega) _).alloc (by simp; omega) _)
theorem erLnotG (w : World) : (ReflectliteType.relation "AssignableTo" ReflectliteType.assignableTo #[.agg #[.pointer (some ⟨3, 102, none⟩)], .iface 191 (.agg #[.pointer (some ⟨3, 138, none⟩)])]).run Tryz.prog w = .ok (.bool false) w := by kernel_rfl
theorem erNoAs (v : Value) (xT : TypeId) (w : World) : (Instr.typeAssert (.iface 102 v) xT 196 true).run Tryz.prog w = .ok (.tuple #[.nilIface, .bool false]) w := run_typeAssert_lacksB Tryz.underlying196 (by kernel_rfl) (by kernel_rfl) v xT w
theorem erNoUnwrap (v : Value) (xT : TypeId) (w : World) : (Instr.typeAssert (.iface 102 v) xT 199 true).run Tryz.prog w = .ok (.tuple #[.nilIface, .bool false]) w := run_typeAssert_lacksB Tryz.underlying199 (by kernel_rfl) (by kernel_rfl) v xT w
theorem erNoUnwraps (v : Value) (xT : TypeId) (w : World) : (Instr.typeAssert (.iface 102 v) xT 201 true).run Tryz.prog w = .ok (.tuple #[.nilIface, .bool false]) w := run_typeAssert_lacksB Tryz.underlying201 (by kernel_rfl) (by kernel_rfl) v xT w
set_option maxHeartbeats 4000000 in
/-- Another type than the target's, without the methods As and Unwrap: false. -/
theorem as_miss (n : Int) (z : Nat) (tb : Nat) (w : World) (hg : ErrT w) :
    Calls Tryz.prog 62 #[.iface 102 (.agg #[.int .i64 n, .float .f32 z]), .iface 142 (.pointer (some ⟨tb, 0, none⟩))] w fun ev w' => ev = .returned (.bool false) ∧ Below w.heap.size w w' := by
  have h6 := @run_callFunc_extern Tryz.prog 91 _ (fun args => ReflectliteValue.unpack (args.getD 0 (.tuple #[]))) Tryz.func91 (by kernel_rfl) (by kernel_rfl) (by kernel_rfl) (by kernel_rfl)
  have h7 := @run_callFunc_extern Tryz.prog 92 _ (ReflectliteValue.methodAny (ReflectliteValue.valueError "reflectlite.Value.Type" 0) (fun t _ _ _ => ReflectliteType.toType t)) Tryz.func92 (by kernel_rfl) (by kernel_rfl) (by kernel_rfl) (by kernel_rfl)
  have h8 := @run_callFunc_extern Tryz.prog 93 _ (ReflectliteValue.method (ReflectliteValue.valueError "reflectlite.Value.IsNil" 0) ReflectliteValue.isNil) Tryz.func93 (by kernel_rfl) (by kernel_rfl) (by kernel_rfl) (by kernel_rfl)
  have h27 := @run_callFunc_extern Tryz.prog 190 _ (ReflectliteType.abiMethod fun t => do pure (.int .u8 (← Rtype.kind t))) Tryz.func190 (by kernel_rfl) (by kernel_rfl) (by kernel_rfl) (by kernel_rfl)
  have h37 := @run_callFunc_extern Tryz.prog 202 _ (ReflectliteType.method ReflectliteType.elem) Tryz.func202 (by kernel_rfl) (by kernel_rfl) (by kernel_rfl) (by kernel_rfl)
  have h38 := @run_callFunc_extern Tryz.prog 203 _ (ReflectliteType.relation "Implements" ReflectliteType.implements_) Tryz.func203 (by kernel_rfl) (by kernel_rfl) (by kernel_rfl) (by kernel_rfl)
  have h10 := @run_callFunc_extern Tryz.prog 121 _ ReflectliteType.typeOf Tryz.func121 (by kernel_rfl) (by kernel_rfl) (by kernel_rfl) (by kernel_rfl)
  have h35 := @run_callFunc_extern Tryz.prog 200 _ (ReflectliteType.relation "AssignableTo" ReflectliteType.assignableTo) Tryz.func200 (by kernel_rfl) (by kernel_rfl) (by kernel_rfl) (by kernel_rfl)
  have tO := erLtypeOf
  have mA := erMAssignableTo
  have a25 := erLnotG
  have f6 := erGofP
  have f7 := erGtype
  have mK := erMKind
  have mE := erMElem
  have mI := erMImplements
  have k27 := erGkindP
  have k25 := erGkind
  have e27 := erGelem
  have i25 := erGimplements
  have n8 := erGisNil ⟨w.heap.size, 0, none⟩ ⟨tb, 0, none⟩ ((w.alloc (.cells #[.pointer (some ⟨tb, 0, none⟩)] 142)).alloc (.cells #[.pointer (some ⟨3, 142, none⟩), .pointer (some ⟨w.heap.size, 0, none⟩), .int .u64 150] 148)) (by simp)
  have hlt : 0 < w.heap.size := errT_lt hg
  have hg2 : ((w.alloc (.cells #[.pointer (some ⟨tb, 0, none⟩)] 142)).alloc (.cells #[.pointer (some ⟨3, 142, none⟩), .pointer (some ⟨w.heap.size, 0, none⟩), .int .u64 150] 148)).cell? ⟨0, 0, none⟩ = some (.iface 191 (.agg #[.pointer (some ⟨3, 86, none⟩)])) := by
    rw [World.cell?_alloc_lt _ _ ⟨0, 0, none⟩ (by simp), World.cell?_alloc_lt _ _ ⟨0, 0, none⟩ hlt]; exact hg
  go_enter Tryz.func62, Tryz.ntmps62
  go_wp2
  refine wp_loop_rounds 1 ?_
  rw [rounds_succ]
  have nA := erNoAs
  have nU := erNoUnwrap
  have nV := erNoUnwraps
  go_wp2
  go_ret
  refine ⟨rfl, ?_⟩
  exact ((((Below.refl w.heap.size w).alloc (by omega) _).alloc (by simp) _).alloc (by simp; omega) _)
end Go.Proofs.YtaghnminpfgdcaaGreatDoor
