/- The five sentinel errors, where they are laid: what the condition of the rows gives a walk; and a lemma for laws whose arguments lie in memory and whose rows list these variables. Condition: the variables are as their initialisers lay them (the card ties them to the program's text). -/
import Derived.Test.YtbiknpfcemfoeaaDoorLiftS
import Derived.Stop.LaidErr
import Derived.OpenVars
import Derived.LaidEql
import Derived.Stop.Asserts
import Derived.RowKitTokens
import Derived.Lay
namespace Go.Proofs.YtbiknpfcemfoeaaDoor
open Go Go.ChangeShapes Go.WideShapes Go.ChangeAt Go.RowKit Go.Deep
set_option linter.unusedSimpArgs false
set_option linter.unusedVariables false

def laidE : List (String × DataW Unit) := [("loop.example/g01288/impl.errNoTest", Rows.laid_loop_example_g01288_impl_errNoTest), ("loop.example/g01288/impl.errOutside", Rows.laid_loop_example_g01288_impl_errOutside), ("loop.example/g01288/impl.errBadNumber", Rows.laid_loop_example_g01288_impl_errBadNumber), ("loop.example/g01288/impl.errNoText", Rows.laid_loop_example_g01288_impl_errNoText), ("loop.example/g01288/impl.errNone", Rows.laid_loop_example_g01288_impl_errNone)]
def varsE : List String := ["loop.example/g01288/impl.errNoTest", "loop.example/g01288/impl.errOutside", "loop.example/g01288/impl.errBadNumber", "loop.example/g01288/impl.errNoText", "loop.example/g01288/impl.errNone"]
/-- The numbers of the variables. -/
def gE : Nat → Nat
  | 0 => 3
  | 1 => 0
  | 2 => 2
  | 3 => 4
  | _ => 1
/-- The sentinels lie in the variables: pointers that differ. -/
structure Sents (W : World) (s : Nat → Addr) : Prop where
  cell : ∀ i, i < 5 → W.cell? ⟨gE i, 0, none⟩ = some (.iface 165 (.pointer (some (s i))))
  ne : ∀ i j, i < 5 → j < 5 → i ≠ j → s i ≠ s j
  blk : ∀ i, i < 5 → ∃ c t, W.heap[(s i).block]? = some (.cells c t (0, 0))
theorem Sents.keep {W W' : World} {s : Nat → Addr} (h : Sents W s) (hB : Below W.heap.size W W') : Sents W' s where
  cell i hi := by
    have h1 := h.cell i hi
    exact (hB.cell (p := ⟨gE i, 0, none⟩) (World.block_lt_of_cell? W _ h1)).trans h1
  ne := h.ne
  blk i hi := by
    obtain ⟨c, t, hb⟩ := h.blk i hi
    have : (s i).block < W.heap.size := by
      rcases Nat.lt_or_ge (s i).block W.heap.size with h1 | h1
      · exact h1
      · rw [Array.getElem?_eq_none h1] at hb; cases hb
    exact ⟨c, t, (hB.block (s i).block this).trans hb⟩

theorem namE : Tryd.prog.typeName? 3 165 = some "*errors.errorString" := by kernel_rfl
theorem cellsES : Tryd.prog.cellsOf 191 = 1 := by kernel_rfl
theorem cellsStr : Tryd.prog.cellsOf 9 = 1 := by kernel_rfl
theorem starE : "*" ++ "errors.errorString" = "*errors.errorString" := by decide
theorem rowE (u : TypeId) (h : Tryd.prog.typeName? 3 u = some "*errors.errorString") : u = 165 :=
  typeName_ptr_named (nm := "errors.errorString") (by rw [starE]; kernel_rfl) (by kernel_rfl) (by decide) u (by rw [starE]; exact h)
theorem gE0 : Tryd.prog.globalNamed "loop.example/g01288/impl.errNoTest" = some 3 := by kernel_rfl
theorem tE0 : (Tryd.prog.globals[(3 : Nat)]?).map (·.type) = some 71 := by kernel_rfl
theorem gE1 : Tryd.prog.globalNamed "loop.example/g01288/impl.errOutside" = some 0 := by kernel_rfl
theorem tE1 : (Tryd.prog.globals[(0 : Nat)]?).map (·.type) = some 71 := by kernel_rfl
theorem gE2 : Tryd.prog.globalNamed "loop.example/g01288/impl.errBadNumber" = some 2 := by kernel_rfl
theorem tE2 : (Tryd.prog.globals[(2 : Nat)]?).map (·.type) = some 71 := by kernel_rfl
theorem gE3 : Tryd.prog.globalNamed "loop.example/g01288/impl.errNoText" = some 4 := by kernel_rfl
theorem tE3 : (Tryd.prog.globals[(4 : Nat)]?).map (·.type) = some 71 := by kernel_rfl
theorem gE4 : Tryd.prog.globalNamed "loop.example/g01288/impl.errNone" = some 1 := by kernel_rfl
theorem tE4 : (Tryd.prog.globals[(1 : Nat)]?).map (·.type) = some 71 := by kernel_rfl

theorem trodVars_length {H : Type} {enc : TypeId × Value → H} {P : Program} {w : World} {sp : Nat → Bool} : ∀ {ns : List String} {gs : List (DataW H)} {ps : List MemPlace}, DataW.TrodVars enc P w sp ns gs ps → gs.length = ns.length
  | [], [], _, _ => rfl
  | [], _ :: _, _, h => by simp [DataW.TrodVars] at h
  | _ :: _, [], _, h => by simp [DataW.TrodVars] at h
  | n :: ns, d :: ds, ps, h => by
    obtain ⟨g, t, cs, fuel, p, q, _, _, _, _, hq, _⟩ := h
    simp [trodVars_length hq]
set_option maxRecDepth 100000 in
theorem sents_of_laid {W : World} (h : laidMetH Tryd.prog laidE W) : ∃ s, Sents W s := by
  rw [MakeChecks.laidMetH_plain _ _ _ (by kernel_rfl)] at h
  obtain ⟨ps, ⟨g0, t0, cs0, f0, p0, q0, hg0, ht0, hv0, hd0, ⟨g1, t1, cs1, f1, p1, q1, hg1, ht1, hv1, hd1, ⟨g2, t2, cs2, f2, p2, q2, hg2, ht2, hv2, hd2, ⟨g3, t3, cs3, f3, p3, q3, hg3, ht3, hv3, hd3, ⟨g4, t4, cs4, f4, p4, q4, hg4, ht4, hv4, hd4, hq, e4⟩, e3⟩, e2⟩, e1⟩, e0⟩, hnd, hrows⟩ := h
  obtain rfl := Option.some.inj (gE0.symm.trans hg0)
  obtain rfl := Option.some.inj (tE0.symm.trans ht0)
  obtain rfl := Option.some.inj (gE1.symm.trans hg1)
  obtain rfl := Option.some.inj (tE1.symm.trans ht1)
  obtain rfl := Option.some.inj (gE2.symm.trans hg2)
  obtain rfl := Option.some.inj (tE2.symm.trans ht2)
  obtain rfl := Option.some.inj (gE3.symm.trans hg3)
  obtain rfl := Option.some.inj (tE3.symm.trans ht3)
  obtain rfl := Option.some.inj (gE4.symm.trans hg4)
  obtain rfl := Option.some.inj (tE4.symm.trans ht4)
  have hq' : q4 = [] := hq
  subst hq'
  subst e4
  subst e3
  subst e2
  subst e1
  subst e0
  obtain ⟨l0⟩ := cs0
  have ok0 : ∀ u v, l0 = [.iface u v] → Value.okWide Tryd.prog W .any 0 u v := fun u v e => by
    subst e
    exact (hrows 3 0 (by simp [MemPlace.row])).2 u v (by simpa using World.var?_cell hg0 hv0 0)
  obtain ⟨a0, s0, rfl, hc0, hs0, hz0, rfl⟩ := errorString_of_trod Tryd.underlying71 rowE Tryd.underlying165 Tryd.underlying191 rfl rfl Tryd.underlying9 cellsES cellsStr hd0 ok0
  obtain ⟨c0, u0, hb0⟩ := (hrows a0.block a0.off (by simp [MemPlace.row])).1
  obtain ⟨l1⟩ := cs1
  have ok1 : ∀ u v, l1 = [.iface u v] → Value.okWide Tryd.prog W .any 0 u v := fun u v e => by
    subst e
    exact (hrows 0 0 (by simp [MemPlace.row])).2 u v (by simpa using World.var?_cell hg1 hv1 0)
  obtain ⟨a1, s1, rfl, hc1, hs1, hz1, rfl⟩ := errorString_of_trod Tryd.underlying71 rowE Tryd.underlying165 Tryd.underlying191 rfl rfl Tryd.underlying9 cellsES cellsStr hd1 ok1
  obtain ⟨c1, u1, hb1⟩ := (hrows a1.block a1.off (by simp [MemPlace.row])).1
  obtain ⟨l2⟩ := cs2
  have ok2 : ∀ u v, l2 = [.iface u v] → Value.okWide Tryd.prog W .any 0 u v := fun u v e => by
    subst e
    exact (hrows 2 0 (by simp [MemPlace.row])).2 u v (by simpa using World.var?_cell hg2 hv2 0)
  obtain ⟨a2, s2, rfl, hc2, hs2, hz2, rfl⟩ := errorString_of_trod Tryd.underlying71 rowE Tryd.underlying165 Tryd.underlying191 rfl rfl Tryd.underlying9 cellsES cellsStr hd2 ok2
  obtain ⟨c2, u2, hb2⟩ := (hrows a2.block a2.off (by simp [MemPlace.row])).1
  obtain ⟨l3⟩ := cs3
  have ok3 : ∀ u v, l3 = [.iface u v] → Value.okWide Tryd.prog W .any 0 u v := fun u v e => by
    subst e
    exact (hrows 4 0 (by simp [MemPlace.row])).2 u v (by simpa using World.var?_cell hg3 hv3 0)
  obtain ⟨a3, s3, rfl, hc3, hs3, hz3, rfl⟩ := errorString_of_trod Tryd.underlying71 rowE Tryd.underlying165 Tryd.underlying191 rfl rfl Tryd.underlying9 cellsES cellsStr hd3 ok3
  obtain ⟨c3, u3, hb3⟩ := (hrows a3.block a3.off (by simp [MemPlace.row])).1
  obtain ⟨l4⟩ := cs4
  have ok4 : ∀ u v, l4 = [.iface u v] → Value.okWide Tryd.prog W .any 0 u v := fun u v e => by
    subst e
    exact (hrows 1 0 (by simp [MemPlace.row])).2 u v (by simpa using World.var?_cell hg4 hv4 0)
  obtain ⟨a4, s4, rfl, hc4, hs4, hz4, rfl⟩ := errorString_of_trod Tryd.underlying71 rowE Tryd.underlying165 Tryd.underlying191 rfl rfl Tryd.underlying9 cellsES cellsStr hd4 ok4
  obtain ⟨c4, u4, hb4⟩ := (hrows a4.block a4.off (by simp [MemPlace.row])).1
  refine ⟨fun i => match i with | 0 => a0 | 1 => a1 | 2 => a2 | 3 => a3 | _ => a4, ⟨?_, ?_, ?_⟩⟩
  · intro i hi
    match i, hi with
    | 0, _ => simpa [gE] using World.var?_cell gE0 hv0 0
    | 1, _ => simpa [gE] using World.var?_cell gE1 hv1 0
    | 2, _ => simpa [gE] using World.var?_cell gE2 hv2 0
    | 3, _ => simpa [gE] using World.var?_cell gE3 hv3 0
    | 4, _ => simpa [gE] using World.var?_cell gE4 hv4 0
  · intro i j hi hj hij
    match i, hi, j, hj with
    | 0, _, 0, _ => exact absurd rfl hij
    | 0, _, 1, _ => (intro hs; have hs : a0 = a1 := hs; rw [hs] at hnd; simp [MemPlace.row] at hnd)
    | 0, _, 2, _ => (intro hs; have hs : a0 = a2 := hs; rw [hs] at hnd; simp [MemPlace.row] at hnd)
    | 0, _, 3, _ => (intro hs; have hs : a0 = a3 := hs; rw [hs] at hnd; simp [MemPlace.row] at hnd)
    | 0, _, 4, _ => (intro hs; have hs : a0 = a4 := hs; rw [hs] at hnd; simp [MemPlace.row] at hnd)
    | 1, _, 0, _ => (intro hs; have hs : a1 = a0 := hs; rw [hs] at hnd; simp [MemPlace.row] at hnd)
    | 1, _, 1, _ => exact absurd rfl hij
    | 1, _, 2, _ => (intro hs; have hs : a1 = a2 := hs; rw [hs] at hnd; simp [MemPlace.row] at hnd)
    | 1, _, 3, _ => (intro hs; have hs : a1 = a3 := hs; rw [hs] at hnd; simp [MemPlace.row] at hnd)
    | 1, _, 4, _ => (intro hs; have hs : a1 = a4 := hs; rw [hs] at hnd; simp [MemPlace.row] at hnd)
    | 2, _, 0, _ => (intro hs; have hs : a2 = a0 := hs; rw [hs] at hnd; simp [MemPlace.row] at hnd)
    | 2, _, 1, _ => (intro hs; have hs : a2 = a1 := hs; rw [hs] at hnd; simp [MemPlace.row] at hnd)
    | 2, _, 2, _ => exact absurd rfl hij
    | 2, _, 3, _ => (intro hs; have hs : a2 = a3 := hs; rw [hs] at hnd; simp [MemPlace.row] at hnd)
    | 2, _, 4, _ => (intro hs; have hs : a2 = a4 := hs; rw [hs] at hnd; simp [MemPlace.row] at hnd)
    | 3, _, 0, _ => (intro hs; have hs : a3 = a0 := hs; rw [hs] at hnd; simp [MemPlace.row] at hnd)
    | 3, _, 1, _ => (intro hs; have hs : a3 = a1 := hs; rw [hs] at hnd; simp [MemPlace.row] at hnd)
    | 3, _, 2, _ => (intro hs; have hs : a3 = a2 := hs; rw [hs] at hnd; simp [MemPlace.row] at hnd)
    | 3, _, 3, _ => exact absurd rfl hij
    | 3, _, 4, _ => (intro hs; have hs : a3 = a4 := hs; rw [hs] at hnd; simp [MemPlace.row] at hnd)
    | 4, _, 0, _ => (intro hs; have hs : a4 = a0 := hs; rw [hs] at hnd; simp [MemPlace.row] at hnd)
    | 4, _, 1, _ => (intro hs; have hs : a4 = a1 := hs; rw [hs] at hnd; simp [MemPlace.row] at hnd)
    | 4, _, 2, _ => (intro hs; have hs : a4 = a2 := hs; rw [hs] at hnd; simp [MemPlace.row] at hnd)
    | 4, _, 3, _ => (intro hs; have hs : a4 = a3 := hs; rw [hs] at hnd; simp [MemPlace.row] at hnd)
    | 4, _, 4, _ => exact absurd rfl hij
  · intro i hi
    match i, hi with
    | 0, _ => exact ⟨c0, u0, hb0⟩
    | 1, _ => exact ⟨c1, u1, hb1⟩
    | 2, _ => exact ⟨c2, u2, hb2⟩
    | 3, _ => exact ⟨c3, u3, hb3⟩
    | 4, _ => exact ⟨c4, u4, hb4⟩

set_option maxRecDepth 100000 in
theorem liftE (f : Nat) (fn : Func) (s : ChangeSpec) (hfn : Tryd.prog.funcs[f]? = some fn) (hr : fn.resultTypes = #[4]) (hv : s.vars.length = 5) (hvr : varsRowed Tryd.prog s.vars = true)
    (hspec : ∀ (H : Type) (ds gs : List (DataW H)), ds.length = fn.params.size → gs.length = 5 → s.fn H (ds ++ gs) = { results := [.lit (.bool true)], args := ds, vars := gs })
    (hread : ∀ t ∈ fn.params.toList, Tryd.prog.readableRec t = true ∧ t < Tryd.prog.types.size)
    (walk : ∀ (H : Type) (enc : TypeId × Value → H) (W : World) (base : Nat) (args : Array Value) (ds : List (DataW H)) (ps : List MemPlace), args.size = fn.params.size → (∀ (j : Nat) t v, fn.params[j]? = some t → args[j]? = some v → Value.okWide Tryd.prog W .any base t v) →
      DataW.TrodAll enc Tryd.prog W 0 (fun _ => true) true fn.params.toList args.toList ds ps → ∀ s, Sents W s → Calls Tryd.prog f args W fun e W' => e = .returned (.bool true) ∧ Below W.heap.size W W')
    (os : Os) (started : os.Started) (H : Type) (enc : TypeId × Value → H) (noInit : Tryd.prog.inits.idxOf? f = none)
    (witness : ∃ (w : World) (tape : Tape) (i : Input), w.os = os ∧ (w.forCall tape i).Shaped Tryd.checked.prog ∧ i.vars = [] ∧ Input.okWide Tryd.checked.prog (w.forCall tape i) .any w.heap.size f i ∧
      ((s.pre enc Tryd.checked.prog fn [] false (w.forCall tape i).memory i.args ∧ laidMetH Tryd.prog laidE (w.forCall tape i).memory) ∧ sizedMet enc Tryd.checked.prog fn (OpenSpec.ofChange s) false (w.forCall tape i).memory i.args) ∧ ({} : Assume).holds Tryd.checked.prog (lone (Frame.enter Tryd.checked.prog f i.args .normal) [] (w.forCall tape i))) :
    ReturnsInHanded {} Tryd.checked os f .any (fun w args => (s.pre enc Tryd.prog fn [] false w args ∧ laidMetH Tryd.prog laidE w) ∧ sizedMet enc Tryd.prog fn (OpenSpec.ofChange s) false w args) (s.post enc Tryd.prog fn false true false false) := by
  refine returnsInHanded_of_change_and (C := Tryd.checked) (X := fun w _ => laidMetH Tryd.prog laidE w) (fun _ _ _ hh h => h.of_heap hh) own started noInit hfn witness ?_
  intro W base args ds gs before hval0 hW _ _ hL _
  have hW' := hW
  obtain ⟨p, q, hA0, hV, rfl, hfz, hnd⟩ := hW
  have hA : DataW.TrodAll enc Tryd.prog W 0 (fun _ => true) true fn.params.toList args.toList ds p := hA0
  obtain ⟨hl1, hl2⟩ := trodAll_length hA
  have hsz : args.size = fn.params.size := by simpa using hl2
  have hgl : gs.length = 5 := by
    have : gs.length = s.vars.length := trodVars_length hV
    rw [this, hv]
  have hsp := hspec H ds gs (by simpa using hl1) hgl
  have hlt : ∀ x ∈ p, x.block < W.heap.size := fun x hx => by simpa using hW'.lt x (by simp [hx])
  obtain ⟨se, hS⟩ := sents_of_laid hL
  refine (walk H enc W base args ds p hsz hval0 hA se hS).mono fun e W' ⟨he, hb⟩ => ?_
  subst he
  refine ⟨_, rfl, ds, gs, p ++ q, [], p, q, hW', ?_, ?_, ?_, hb.frame _, fun h => by cases h⟩
  · rw [hsp, hr]
    exact trodAll_mk1 (shut_bool Tryd.underlying4 _)
  · rw [hsp]
    exact trodAll_stays laidOut (fun h => hb.same h) hread hA hlt (fun x hx => by simpa using hlt x hx)
  · rw [hsp]
    exact hb.trodVars laidOut hvr hV
end Go.Proofs.YtbiknpfcemfoeaaDoor
