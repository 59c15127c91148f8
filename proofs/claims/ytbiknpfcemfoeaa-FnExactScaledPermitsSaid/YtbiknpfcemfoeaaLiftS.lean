/- A lemma for laws whose arguments lie in memory: if the call returns true and leaves all memory that was there as it was, the row's step follows; and an argument that is a list of wells, opened. Condition: none of its own. -/
import Derived.Test.YtbiknpfcemfoeaaLiftB
import Derived.Test.YtbiknpfcemfoeaaWs
import Derived.Deep.Slices
import Derived.Deep.Fields
namespace Go.Proofs.Ytbiknpfcemfoeaa
open Go Go.ChangeShapes Go.WideShapes Go.ChangeAt Go.RowKit Go.Deep

set_option maxRecDepth 100000 in
theorem liftS (f : Nat) (fn : Func) (s : ChangeSpec) (hfn : Try.prog.funcs[f]? = some fn) (hr : fn.resultTypes = #[4]) (hv : s.vars = [])
    (hspec : ∀ (H : Type) (ds : List (DataW H)), ds.length = fn.params.size → s.fn H ds = { results := [.lit (.bool true)], args := ds })
    (hread : ∀ t ∈ fn.params.toList, Try.prog.readableRec t = true ∧ t < Try.prog.types.size)
    (walk : ∀ (H : Type) (enc : TypeId × Value → H) (W : World) (base : Nat) (args : Array Value) (ds : List (DataW H)) (ps : List MemPlace), args.size = fn.params.size → (∀ (j : Nat) t v, fn.params[j]? = some t → args[j]? = some v → Value.okWide Try.prog W .any base t v) →
      DataW.TrodAll enc Try.prog W 0 (fun _ => true) true fn.params.toList args.toList ds ps → Calls Try.prog f args W fun e W' => e = .returned (.bool true) ∧ Below W.heap.size W W')
    (os : Os) (started : os.Started) (H : Type) (enc : TypeId × Value → H) (noInit : Try.prog.inits.idxOf? f = none)
    (witness : ∃ (w : World) (tape : Tape) (i : Input), w.os = os ∧ (w.forCall tape i).Shaped Try.checked.prog ∧ i.vars = [] ∧ Input.okWide Try.checked.prog (w.forCall tape i) .any w.heap.size f i ∧
      s.pre6 enc Try.checked.prog fn [] false (w.forCall tape i).memory i.args ∧ ({} : Assume).holds Try.checked.prog (lone (Frame.enter Try.checked.prog f i.args .normal) [] (w.forCall tape i))) :
    ReturnsInHanded {} Try.checked os f .any (s.pre6 enc Try.prog fn [] false) (s.post enc Try.prog fn false true false false) := by
  refine returnsInHanded_of_change (C := Try.checked) own started noInit hfn witness ?_
  intro W base args ds gs before hval0 hW _ _
  have hW' := hW
  obtain ⟨p, q, hA0, hV, rfl, hfz, hnd⟩ := hW
  have hA : DataW.TrodAll enc Try.prog W 0 (fun _ => true) true fn.params.toList args.toList ds p := hA0
  obtain ⟨hl1, hl2⟩ := trodAll_length hA
  have hsz : args.size = fn.params.size := by simpa using hl2
  rw [hv] at hV
  obtain ⟨rfl, rfl⟩ := trodVars_none hV
  have hsp : s.fn H (ds ++ []) = { results := [.lit (.bool true)], args := ds } := by
    rw [List.append_nil]
    exact hspec H ds (by simpa using hl1)
  have hlt : ∀ x ∈ p, x.block < W.heap.size := fun x hx => by simpa using hW'.lt x (by simp [hx])
  refine (walk H enc W base args ds p hsz hval0 hA).mono fun e W' ⟨he, hb⟩ => ?_
  subst he
  refine ⟨_, rfl, ds, [], p ++ [], [], p, [], hW', ?_, ?_, ?_, hb.frame _, fun h => by cases h⟩
  · rw [hsp, hr]
    exact trodAll_mk1 (shut_bool Try.underlying4 _)
  · rw [hsp]
    exact trodAll_stays laidOut (fun h => hb.same h) hread hA hlt (fun x hx => by simpa using hlt x hx)
  · rw [hsp, hv]
    rfl

section
variable {H : Type} {enc : TypeId × Value → H} {w : World} {base : Nat} {spare : Nat → Bool} {held : Bool}
theorem trod_f32 {P : Program} {fuel : Nat} {t : TypeId} {cs : List Value} {x : DataW H × List MemPlace} (ht : P.underlying t = some (.float .f32)) (h : DataW.trod enc P w base spare held fuel t cs = some x) : ∃ b, cs = [.float .f32 b] ∧ (Lit.float .f32 b).wf = true := by
  cases fuel with
  | zero => simp [DataW.trod] at h
  | succ n =>
    unfold DataW.trod at h
    rw [ht] at h
    split at h <;> simp_all

/-- A well in memory, opened. -/
def okW (e : W3) : Prop := (Lit.int .i8 e.1).wf = true ∧ (Lit.int .i8 e.2.1).wf = true ∧ (Lit.float .f32 e.2.2).wf = true
set_option maxRecDepth 100000 in
theorem weFields : ∃ f0 f1 f2 : Field, Try.prog.underlying 59 = some (.struct #[f0, f1, f2]) ∧ oneCellFields Try.prog #[f0, f1, f2] = true ∧ f0.type = 52 ∧ f1.type = 52 ∧ f2.type = 53 := by
  have h := Try.underlying59
  refine ⟨_, _, _, h, ?_, ?_, ?_, ?_⟩
  all_goals kernel_rfl
set_option maxRecDepth 100000 in
theorem open_we {n : Nat} {cs : List Value} {y : DataW H × List MemPlace} (hl : cs.length = 3) (h : DataW.trod enc Try.prog w base spare held n 59 cs = some y) : ∃ e : W3, cs = w3 e ∧ okW e := by
  obtain ⟨f0, f1, f2, hu, hone, t0, t1, t2⟩ := weFields
  obtain ⟨xs, m, _, _, _, hxl, hf⟩ := DataW.trod_struct hu h
  match cs, hl, xs, hxl with
  | [c0, c1, c2], _, [y0, y1, y2], _ =>
    obtain ⟨o0, k0⟩ := hone_of hone 0 f0 rfl
    obtain ⟨o1, k1⟩ := hone_of hone 1 f1 rfl
    obtain ⟨o2, k2⟩ := hone_of hone 2 f2 rfl
    have g0 := hf 0 f0 rfl
    have g1 := hf 1 f1 rfl
    have g2 := hf 2 f2 rfl
    rw [o0, k0, t0] at g0
    rw [o1, k1, t1] at g1
    rw [o2, k2, t2] at g2
    obtain ⟨X, hX, _, wX⟩ := DataW.trod_int Try.underlying52 (show DataW.trod enc Try.prog w base spare held m 52 [c0] = some y0 from g0)
    obtain ⟨Y, hY, _, wY⟩ := DataW.trod_int Try.underlying52 (show DataW.trod enc Try.prog w base spare held m 52 [c1] = some y1 from g1)
    obtain ⟨R, hR, wR⟩ := trod_f32 Try.underlying53 (show DataW.trod enc Try.prog w base spare held m 53 [c2] = some y2 from g2)
    cases hX; cases hY; cases hR
    exact ⟨(X, Y, R), rfl, wX, wY, wR⟩
theorem cellsWe : Try.prog.cellsOf 59 = 3 := by kernel_rfl
/-- A list of wells, opened. -/
theorem open_ws {v : Value} {d : DataW H} {ps : List MemPlace} (hv : ∃ a len cap, v = .slice a len cap) (h : DataW.Trod enc Try.prog w base spare held 22 v d ps) :
    ∃ (p : Option Addr) (c : Nat) (L : List W3), v = .slice p L.length c ∧ L.length ≤ maxLen ∧ WsAt w p L ∧ ∀ e ∈ L, okW e := by
  obtain ⟨a, len, cap, rfl⟩ := hv
  obtain ⟨fuel, hf⟩ := h
  rcases open_slice Try.underlying22 hf with ⟨h0, _⟩ | ⟨a', len', cap', m, n, D, Pl, hcs, _, hlc, hcm, hm, _, hi⟩
  · have h0' : [Value.slice a len cap] = [Value.slice none 0 0] := h0
    cases h0'
    exact ⟨none, 0, [], rfl, Nat.zero_le _, (fun i e he => by simp at he), (fun e he => by cases he)⟩
  · have hcs' : [Value.slice a len cap] = [Value.slice (some a') len' cap'] := hcs
    cases hcs'
    have hlm : len ≤ m := by rw [hm]; split <;> omega
    have hex : ∀ i, i < len → ∃ e : W3, (∀ j v, (w3 e)[j]? = some v → w.cell? (a'.add (i * 3 + j)) = some v) ∧ okW e := fun i hil => by
      obtain ⟨cs', h1, h2⟩ := hi i (by omega)
      rw [cellsWe] at h1
      obtain ⟨_, hl, hc⟩ := World.cells?_some h1
      obtain ⟨e, rfl, ok⟩ := open_we hl h2
      refine ⟨e, fun j v hj => ?_, ok⟩
      have hj3 : j < 3 := (List.getElem?_eq_some_iff.1 hj).1
      rw [← add_add, hc j hj3, hj]
    obtain ⟨F, hF⟩ := choose_lt hex
    refine ⟨some a', cap, (List.range len).map F, by simp, by simp; omega, fun i e he => ?_, fun e he => ?_⟩
    · have hil : i < len := by simpa using (List.getElem?_eq_some_iff.1 he).1
      have hFe : F i = e := by simpa [List.getElem?_range hil] using he
      subst hFe
      have hc := (hF i hil).1
      have h0 := (hF 0 (by omega)).1 0 _ rfl
      obtain ⟨bb, oo, sp⟩ := a'
      have hsp : sp = none := by
        cases sp with
        | none => rfl
        | some x =>
          exfalso
          have ha : (⟨bb, oo, some x⟩ : Addr).add (0 * 3 + 0) = ⟨bb, oo, some x⟩ := rfl
          rw [ha] at h0
          unfold World.cell? at h0
          cases hh : w.heap[bb]? with
          | none => simp [hh] at h0
          | some ob => cases ob <;> simp [hh] at h0
      subst hsp
      exact ⟨bb, oo, rfl, fun j v hj => by have := hc j v hj; rw [Addr.add_mid] at this; rwa [Nat.add_assoc]⟩
    · simp only [List.mem_map, List.mem_range] at he
      obtain ⟨i, hil, rfl⟩ := he
      exact (hF i hil).2
end
end Go.Proofs.Ytbiknpfcemfoeaa
