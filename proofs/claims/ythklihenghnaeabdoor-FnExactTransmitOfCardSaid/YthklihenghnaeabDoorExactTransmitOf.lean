/- The law FnExactTransmitOf of this commit: for every input the call returns true, and each argument reads afterwards as it read before. Condition: the five sentinel errors are as their initialisers lay them (the card ties them to the program's text). -/
import Derived.Test.YthklihenghnaeabDoorTro
import Derived.Test.YthklihenghnaeabDoorWitE
import Derived.Test.YthklihenghnaeabDoorCards
import Derived.Test.YthklihenghnaeabDoorTie
import Derived.SevenTiedAt
namespace Go.Proofs.YthklihenghnaeabDoor
open Go Go.ChangeShapes Go.WideShapes Go.ChangeAt Go.RowKit Go.Deep
set_option linter.unusedSimpArgs false
set_option linter.unusedVariables false

set_option maxRecDepth 100000 in
set_option maxHeartbeats 2000000 in
theorem fnExactTransmitOf_calls {s : Nat → Addr} (X Y : Int) (R : Nat) (x y : Int) (l : Nat) (hX : -128 ≤ X ∧ X ≤ 127) (hY : -128 ≤ Y ∧ Y ≤ 127) (hx : -128 ≤ x ∧ x ≤ 127) (hy : -128 ≤ y ∧ y ≤ 127) (w : World) (hS : Sents w s) : Calls Tryd.prog 3 #[.agg (Ste X Y R x y), .float .f32 l] w fun e w' => e = .returned (.bool true) ∧ Below w.heap.size w w' := by
  obtain ⟨n, hn⟩ : ∃ n, codeE (trK (stB X Y R x y) (trQ R l)) = n := ⟨_, rfl⟩
  obtain ⟨o, ho⟩ : ∃ o, trO (stB X Y R x y) (trQ R l) = o := ⟨_, rfl⟩
  have B0 : Below w.heap.size w (w.alloc (.cells #[.int .i8 X, .int .i8 Y, .float .f32 R, .int .i8 x, .int .i8 y] 27)) := (Below.refl _ _).alloc (Nat.le_refl _) _
  have C0 : ∀ V, Below (w.alloc (.cells #[.int .i8 X, .int .i8 Y, .float .f32 R, .int .i8 x, .int .i8 y] 27)).heap.size (w.alloc (.cells #[.int .i8 X, .int .i8 Y, .float .f32 R, .int .i8 x, .int .i8 y] 27)) V → V.cell? ⟨w.heap.size, 0, none⟩ = some (.int .i8 X) := fun V hV => (hV.cell (p := ⟨w.heap.size, 0, none⟩) (by simp)).trans (cell_of_row _ _ 0 _ _ _ (heap_alloc_last w _))
  have C1 : ∀ V, Below (w.alloc (.cells #[.int .i8 X, .int .i8 Y, .float .f32 R, .int .i8 x, .int .i8 y] 27)).heap.size (w.alloc (.cells #[.int .i8 X, .int .i8 Y, .float .f32 R, .int .i8 x, .int .i8 y] 27)) V → V.cell? ⟨w.heap.size, 1, none⟩ = some (.int .i8 Y) := fun V hV => (hV.cell (p := ⟨w.heap.size, 1, none⟩) (by simp)).trans (cell_of_row _ _ 1 _ _ _ (heap_alloc_last w _))
  have C2 : ∀ V, Below (w.alloc (.cells #[.int .i8 X, .int .i8 Y, .float .f32 R, .int .i8 x, .int .i8 y] 27)).heap.size (w.alloc (.cells #[.int .i8 X, .int .i8 Y, .float .f32 R, .int .i8 x, .int .i8 y] 27)) V → V.cell? ⟨w.heap.size, 2, none⟩ = some (.float .f32 R) := fun V hV => (hV.cell (p := ⟨w.heap.size, 2, none⟩) (by simp)).trans (cell_of_row _ _ 2 _ _ _ (heap_alloc_last w _))
  have C3 : ∀ V, Below (w.alloc (.cells #[.int .i8 X, .int .i8 Y, .float .f32 R, .int .i8 x, .int .i8 y] 27)).heap.size (w.alloc (.cells #[.int .i8 X, .int .i8 Y, .float .f32 R, .int .i8 x, .int .i8 y] 27)) V → V.cell? ⟨w.heap.size, 3, none⟩ = some (.int .i8 x) := fun V hV => (hV.cell (p := ⟨w.heap.size, 3, none⟩) (by simp)).trans (cell_of_row _ _ 3 _ _ _ (heap_alloc_last w _))
  have C4 : ∀ V, Below (w.alloc (.cells #[.int .i8 X, .int .i8 Y, .float .f32 R, .int .i8 x, .int .i8 y] 27)).heap.size (w.alloc (.cells #[.int .i8 X, .int .i8 Y, .float .f32 R, .int .i8 x, .int .i8 y] 27)) V → V.cell? ⟨w.heap.size, 4, none⟩ = some (.int .i8 y) := fun V hV => (hV.cell (p := ⟨w.heap.size, 4, none⟩) (by simp)).trans (cell_of_row _ _ 4 _ _ _ (heap_alloc_last w _))
  have HS := Lib.hid (hS.keep B0)
  have T0 := fun V => toSite_any X Y R x y V
  have T1 := fun V => specTransmit_any X Y R x y l hX hY hx hy V
  have T2 := fun V (h : Sents V s) => implTransmit_any X Y R x y l hX hY hx hy V h
  simp only [hn, ho] at T1 T2
  simp only [Ste] at T0 T1 T2 ⊢
  clear hn ho hS
  have t1 : True := trivial
  have t2 : True := trivial
  go_enter Tryd.func3, Tryd.ntmps3
  go_wp2_with (first | (have _t := t1; go_at_call 16; refine (T0 _).mono ?_; rintro e V1 ⟨rfl, hq1⟩; have Q1 := Lib.hid hq1; clear hq1 t1) | (go_at_call 15; refine (T1 _).mono ?_; rintro e V2 ⟨r1, rfl, hr1, hq2⟩; have R1 := Lib.hid hr1; have Q2 := Lib.hid (Q1.out.trans (hq2.mono Q1.out.size)); clear hq2 hr1; have c0 := C0 V2 Q2.out; have c1 := C1 V2 Q2.out; have c2 := C2 V2 Q2.out; have c3 := C3 V2 Q2.out; have c4 := C4 V2 Q2.out) | (go_at_call 16; refine (T0 _).mono ?_; rintro e V3 ⟨rfl, hq3⟩; have Q3 := Lib.hid (Q2.out.trans (hq3.mono Q2.out.size)); clear hq3) | (go_at_call 17; refine (T2 _ (HS.out.keep Q3.out)).mono ?_; rintro e V4 ⟨r2, rfl, hr2, hq4⟩; have R2 := Lib.hid hr2; have Q4 := Lib.hid (Q3.out.trans (hq4.mono Q3.out.size)); clear hq4 hr2) | (have _t := t2; refine wpList_conv rfl _ _ _ rfl Tryd.underlying23 Tryd.underlying35 _ rfl ?_; intro x1 m hx1; have XX := Lib.hid hx1; clear t2 hx1) | (refine wpList_conv rfl _ _ _ rfl Tryd.underlying23 Tryd.underlying35 _ rfl ?_; intro y1 m' hy1; have YY := Lib.hid hy1; clear hy1) | (go_at_call 18; refine (sameFloat_yes x1 y1 (by rw [XX.out, YY.out, R1.out, R2.out]) _).mono ?_; rintro e w' ⟨rfl, k, rfl⟩))
  go_ret
  exact ⟨rfl, (B0.trans (Q4.out.mono B0.size)).trans (Quiet.below ⟨_, rfl⟩ _)⟩

set_option maxRecDepth 100000 in
theorem fnExactTransmitOf_walk (H : Type) (enc : TypeId × Value → H) (W : World) (base : Nat) (args : Array Value) (ds : List (DataW H)) (ps : List MemPlace) (hn : args.size = Tryd.f3.params.size)
    (hv : ∀ (j : Nat) t v, Tryd.f3.params[j]? = some t → args[j]? = some v → Value.okWide Tryd.prog W .any base t v)
    (hA : DataW.TrodAll enc Tryd.prog W 0 (fun _ => true) true Tryd.f3.params.toList args.toList ds ps) (s : Nat → Addr) (hS : Sents W s) :
    Calls Tryd.prog 3 args W fun e W' => e = .returned (.bool true) ∧ Below W.heap.size W W' := by
  rw [Tryd.params3] at hn hv
  obtain ⟨l⟩ := args
  match l, hn with
  | [v0, v1], _ =>
    obtain ⟨X, Y, R, x, y, rfl, hX, hY, _, hx, hy⟩ := okWide_st (hv 0 _ v0 rfl rfl)
    obtain ⟨a, rfl, _⟩ := okWide_f32 (hv 1 _ v1 rfl rfl)
    exact fnExactTransmitOf_calls X Y R x y a hX hY hx hy W hS

set_option maxRecDepth 100000
theorem fnExactTransmitOf_j0 : (Rows.fnExactTransmitOfRow.inPlace == Tryd.prog.inPlace 3) = true := by kernel_rfl
theorem fnExactTransmitOf_j1 : (Rows.fnExactTransmitOfRow.unfollowed == Tryd.prog.unfollowed 3) = true := by kernel_rfl
theorem fnExactTransmitOf_j2 : (Rows.fnExactTransmitOfRow.recurses == Tryd.prog.recurses 3) = true := by kernel_rfl
theorem fnExactTransmitOf_j3 : (Rows.fnExactTransmitOfRow.named == Tryd.prog.varsNamed 3) = true := by kernel_rfl
theorem fnExactTransmitOf_jw : Rows.fnExactTransmitOfRow.wf (OpenSpec.ofChange Rows.fnExactTransmitOfSpec) = true := by kernel_rfl
theorem fnExactTransmitOf_jn : namedTie Tryd.prog Rows.fnExactTransmitOfRow.named Rows.fnExactTransmitOfSpec.vars = true := by kernel_rfl
theorem fnExactTransmitOf_jf : joinedFacts Tryd.prog 3 Tryd.f3 Rows.fnExactTransmitOfSpec Rows.fnExactTransmitOfRow = true := by
  unfold joinedFacts
  simp only [Bool.and_eq_true]
  exact ⟨⟨⟨⟨⟨⟨⟨⟨⟨⟨⟨⟨⟨⟨⟨⟨⟨⟨⟨⟨⟨⟨⟨⟨⟨⟨⟨⟨⟨⟨⟨fnExactTransmitOf_jw, (by kernel_rfl)⟩, (by kernel_rfl)⟩, (by kernel_rfl)⟩, fnExactTransmitOf_jn⟩, (by kernel_rfl)⟩, (by kernel_rfl)⟩, (by kernel_rfl)⟩, (by kernel_rfl)⟩, fnExactTransmitOf_j0⟩, fnExactTransmitOf_j1⟩, fnExactTransmitOf_j2⟩, fnExactTransmitOf_j3⟩, (by kernel_rfl)⟩, (by kernel_rfl)⟩, (by kernel_rfl)⟩, (by kernel_rfl)⟩, (by kernel_rfl)⟩, (by kernel_rfl)⟩, (by kernel_rfl)⟩, (by kernel_rfl)⟩, (by kernel_rfl)⟩, (by kernel_rfl)⟩, (by kernel_rfl)⟩, (by kernel_rfl)⟩, (by kernel_rfl)⟩, (by kernel_rfl)⟩, (by kernel_rfl)⟩, (by kernel_rfl)⟩, (by kernel_rfl)⟩, (by kernel_rfl)⟩, (by kernel_rfl)⟩
theorem fnExactTransmitOf_nm : Tryd.pinned.checked.prog.funcNamed Rows.fnExactTransmitOfRow.func = some 3 := by kernel_rfl
theorem fnExactTransmitOf_rd : ∀ t ∈ Tryd.f3.params.toList, Tryd.prog.readableRec t = true ∧ t < Tryd.prog.types.size := by rw [Tryd.params3]; exact (by decide +kernel)
theorem fnExactTransmitOf_ok (os : Os) : Input.okWideB Tryd.checked.prog ((World.laidAll Tryd.prog os laidE).forCall (fun _ _ => 0) ⟨#[], #[.agg (Ste 0 0 0 0 0), .float .f32 0], []⟩) 3 ⟨#[], #[.agg (Ste 0 0 0 0 0), .float .f32 0], []⟩ = true := by kernel_rfl
theorem fnExactTransmitOf_pb (os : Os) (H : Type) (enc : TypeId × Value → H) : Rows.fnExactTransmitOfSpec.preB enc Tryd.checked.prog Tryd.f3 [] false ((World.laidAll Tryd.prog os laidE).forCall (fun _ _ => 0) ⟨#[], #[.agg (Ste 0 0 0 0 0), .float .f32 0], []⟩).memory #[.agg (Ste 0 0 0 0 0), .float .f32 0] 16 = true := by kernel_rfl
theorem fnExactTransmitOf_sb (os : Os) (H : Type) (enc : TypeId × Value → H) : Rows.fnExactTransmitOfSpec.sizedB enc Tryd.checked.prog Tryd.f3 false ((World.laidAll Tryd.prog os laidE).forCall (fun _ _ => 0) ⟨#[], #[.agg (Ste 0 0 0 0 0), .float .f32 0], []⟩).memory #[.agg (Ste 0 0 0 0 0), .float .f32 0] 16 = true := by kernel_rfl
theorem fnExactTransmitOf_vr : varsRowed Tryd.prog Rows.fnExactTransmitOfSpec.vars = true := by kernel_rfl
theorem fnExactTransmitOf_row : Rows.FnExactTransmitOfSaid :=
  OpenClaim.holds_of_wide 3 Tryd.f3 rfl rfl rfl rfl rfl rfl rfl ⟨rfl, rfl, rfl, rfl, rfl⟩ rfl rfl rfl rfl rfl fnExactTransmitOf_nm Tryd.func3 fnExactTransmitOf_jf
    (of_decide_eq_true (by kernel_rfl)) (by unfold Func.isWrapper; first | (rw [if_pos (by decide +kernel)]; kernel_rfl) | (rw [if_neg (by decide +kernel)]; exact ⟨rfl, rfl⟩))
    (fun os started H enc _ => liftE 3 Tryd.f3 Rows.fnExactTransmitOfSpec Tryd.func3 rfl rfl fnExactTransmitOf_vr
      (fun H ds gs h h' => match ds, h, gs, h' with | [d0, d1], _, [g0, g1, g2, g3, g4], _ => rfl)
      fnExactTransmitOf_rd
      fnExactTransmitOf_walk os started H enc (by kernel_rfl)
      (witnessE 3 Tryd.f3 Rows.fnExactTransmitOfSpec #[.agg (Ste 0 0 0 0 0), .float .f32 0] os H enc (fnExactTransmitOf_ok os) (fnExactTransmitOf_pb os H enc) (fnExactTransmitOf_sb os H enc)))

set_option maxRecDepth 100000 in
theorem fnExactTransmitOf_holds : Rows.FnExactTransmitOfCardSaid :=
  Claim7.holds_tied_plain_at .later [] [.sentinel, .sentinel, .sentinel, .sentinel, .sentinel] true Rows.fnExactTransmitOfCard.stood.harness Rows.fnExactTransmitOfCard.stood.looks
    fnExactTransmitOf_row (fun _ h => by cases h) (by kernel_rfl) (fun _ h => by cases h) fnExactTransmitOf_row_tie rfl ⟨rfl, rfl⟩ (by kernel_rfl) (by kernel_rfl)
    (fun f fn hf hfn => by
      obtain rfl : f = 3 := Option.some.inj ((show Tryd.prog.funcNamed "loop.example/g01288/laws.FnExactTransmitOf" = some 3 by kernel_rfl).symm.trans hf) |>.symm
      obtain rfl : fn = Tryd.f3 := (Option.some.inj (Tryd.func3.symm.trans hfn)).symm
      refine ⟨by kernel_rfl, fun j t ht => ?_⟩
      have hall : Tryd.f3.params.toList.all (fun t => !Tryd.prog.wantsStandIn t) = true := by kernel_rfl
      have hm : t ∈ Tryd.f3.params.toList := Array.mem_toList_iff.2 (Array.mem_of_getElem? ht)
      have h := List.all_eq_true.1 hall t hm
      simp only [Bool.not_eq_true'] at h
      exact h)
    (by kernel_rfl)
#print axioms fnExactTransmitOf_holds
end Go.Proofs.YthklihenghnaeabDoor
