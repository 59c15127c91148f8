/- A lemma for laws whose arguments lie in memory: if the call returns true and leaves all memory that was there as it was, the row's step follows; and an argument that is a list of wells, opened. Condition: none of its own. -/
import Derived.Test.YtbiknpfcemfoeaaDoorLiftB
import Derived.Test.YtbiknpfcemfoeaaDoorWs
import Derived.Deep.Slices
import Derived.Deep.Fields
namespace Go.Proofs.YtbiknpfcemfoeaaDoor
open Go Go.ChangeShapes Go.WideShapes Go.ChangeAt Go.RowKit Go.Deep

set_option maxRecDepth 100000 in
theorem liftS (f : Nat) (fn : Func) (s : ChangeSpec) (hfn : Tryd.prog.funcs[f]? = some fn) (hr : fn.resultTypes = #[4]) (hv : s.vars = [])
    (hspec : ∀ (H : Type) (ds : List (DataW H)), ds.length = fn.params.size → s.fn H ds = { results := [.lit (.bool true)], args := ds })
    (hread : ∀ t ∈ fn.params.toList, Tryd.prog.readableRec t = true ∧ t < Tryd.prog.types.size)
    (walk : ∀ (H : Type) (enc : TypeId × Value → H) (W : World) (base : Nat) (args : Array Value) (ds : List (DataW H)) (ps : List MemPlace), args.size = fn.params.size → (∀ (j : Nat) t v, fn.params[j]? = some t → args[j]? = some v → Value.okWide Tryd.prog W .any base t v) →
      DataW.TrodAll enc Tryd.prog W 0 (fun _ => true) true fn.params.toList args.toList ds ps → Calls Tryd.prog f args W fun e W' => e = .returned (.bool true) ∧ Below W.heap.size W W')
    (os : Os) (started : os.Started) (H : Type) (enc : TypeId × Value → H) (noInit : Tryd.prog.inits.idxOf? f = none)
    (witness : ∃ (w : World) (tape : Tape) (i : Input), w.os = os ∧ (w.forCall tape i).Shaped Tryd.checked.prog ∧ i.vars = [] ∧ Input.okWide Tryd.checked.prog (w.forCall tape i) .any w.heap.size f i ∧
      s.pre6 enc Tryd.checked.prog fn [] false (w.forCall tape i).memory i.args ∧ ({} : Assume).holds Tryd.checked.prog (lone (Frame.enter Tryd.checked.prog f i.args .normal) [] (w.forCall tape i))) :
    ReturnsInHanded {} Tryd.checked os f .any (s.pre6 enc Tryd.prog fn [] false) (s.post enc Tryd.prog fn false true false false) := by
  refine returnsInHanded_of_change (C := Tryd.checked) own started noInit hfn witness ?_
  intro W base args ds gs before hval0 hW _ _
  have hW' := hW
  obtain ⟨p, q, hA0, hV, rfl, hfz, hnd⟩ := hW
  have hA : DataW.TrodAll enc Tryd.prog W 0 (fun _ => true) true fn.params.toList args.toList ds p := hA0
  obtain ⟨hl1, hl2⟩ := trodAll_length hA
  have hsz : args.size = fn.params.size := by simpa using hl2
  rw [hv] at hV
  obtain ⟨rfl, rfl⟩ := trodVars_none hV
  have hsp : s.fn H (ds ++ []) = { results := [.lit (.bool true)], args := ds } := by
    rw [List.append_nil]
    exact hspec H ds (by simpa using hl1)
  have hlt : ∀ x ∈ p, x.block < W.heap.size := fun x hx => by simpa using hW'.lt x (by simp [hx])
  refine (walk H enc W base args ds p hsz hval0 hA).mono fun e W' ⟨he, hb⟩ => ?_
  subst he
  refine ⟨_, rfl, ds, [], p ++ [], [], p, [], hW', ?_, ?_, ?_, hb.frame _, fun h => by cases h⟩
  · rw [hsp, hr]
    exact trodAll_mk1 (shut_bool Tryd.underlying4 _)
  · rw [hsp]
    exact trodAll_stays laidOut (fun h => hb.same h) hread hA hlt (fun x hx => by simpa using hlt x hx)
  · rw [hsp, hv]
    rfl

section
variable {H : Type} {enc : TypeId × Value → H} {w : World} {base : Nat} {spare : Nat → Bool} {held : Bool}
theorem trod_f32 {P : Program} {fuel : Nat} {t : TypeId} {cs : List Value} {x : DataW H × List MemPlace} (ht : P.underlying t = some (.float .f32)) (h : DataW.trod enc P w base spare held fuel t cs = some x) : ∃ b, cs = [.float .f32 b] ∧ (Lit.float .f32 b).wf = true := by
  cases fuel with
  | zero => simp [DataW.trod] at h
  | succ n =>
    unfold DataW.trod at h
    rw [ht] at h
    split at h <;> simp_all

/-- A well in memory, opened. -/
def okW (e : W3) : Prop := (Lit.int .i8 e.1).wf = true ∧ (Lit.int .i8 e.2.1).wf = true ∧ (Lit.float .f32 e.2.2).wf = true
set_option maxRecDepth 100000 in
theorem weFields : ∃ f0 f1 f2 : Field, Tryd.prog.underlying 37 = some (.struct #[f0, f1, f2]) ∧ oneCellFields Tryd.prog #[f0, f1, f2] = true ∧ f0.type = 35 ∧ f1.type = 35 ∧ f2.type = 24 := by
  have h := Tryd.underlying37
  refine ⟨_, _, _, h, ?_, ?_, ?_, ?_⟩
  all_goals kernel_rfl
set_option maxRecDepth 100000 in
theorem open_we {n : Nat} {cs : List Value} {y : DataW H × List MemPlace} (hl : cs.length = 3) (h : DataW.trod enc Tryd.prog w base spare held n 37 cs = some y) : ∃ e : W3, cs = w3 e ∧ okW e := by
  obtain ⟨f0, f1, f2, hu, hone, t0, t1, t2⟩ := weFields
  obtain ⟨xs, m, _, _, _, hxl, hf⟩ := DataW.trod_struct hu h
  match cs, hl, xs, hxl with
  | [c0, c1, c2], _, [y0, y1, y2], _ =>
    obtain ⟨o0, k0⟩ := hone_of hone 0 f0 rfl
    obtain ⟨o1, k1⟩ := hone_of hone 1 f1 rfl
    obtain ⟨o2, k2⟩ := hone_of hone 2 f2 rfl
    have g0 := hf 0 f0 rfl
    have g1 := hf 1 f1 rfl
    have g2 := hf 2 f2 rfl
    rw [o0, k0, t0] at g0
    rw [o1, k1, t1] at g1
    rw [o2, k2, t2] at g2
    obtain ⟨X, hX, _, wX⟩ := DataW.trod_int Tryd.underlying35 (show DataW.trod enc Tryd.prog w base spare held m 35 [c0] = some y0 from g0)
    obtain ⟨Y, hY, _, wY⟩ := DataW.trod_int Tryd.underlying35 (show DataW.trod enc Tryd.prog w base spare held m 35 [c1] = some y1 from g1)
    obtain ⟨R, hR, wR⟩ := trod_f32 Tryd.underlying24 (show DataW.trod enc Tryd.prog w base spare held m 24 [c2] = some y2 from g2)
    cases hX; cases hY; cases hR
    exact ⟨(X, Y, R), rfl, wX, wY, wR⟩
theorem cellsWe : Tryd.prog.cellsOf 37 = 3 := by kernel_rfl
end
end Go.Proofs.YtbiknpfcemfoeaaDoor
