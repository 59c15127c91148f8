/- Arrays of 64 numbers and grounds as values: how they read cell by cell. No condition. -/
import Derived.Test.YtcfkkceidlpdkaaDoorRows
import Derived.WalkKit
import Derived.WalkSpells
import Derived.WalkLawsBesides
import Derived.Laws.Cover2
import Derived.Laws.Rows
import Derived.ProofKit
import Derived.Deep.MidRow
import Derived.Deep.WholeRow
namespace Go.Proofs.YtcfkkceidlpdkaaDoor
open Go.RowKit

/-- An array of 64 narrow numbers. -/
def Fld (f : Nat → Nat) : Array Value := ((List.range 64).map fun i => Value.float .f32 (f i)).toArray
theorem Fld_size (f : Nat → Nat) : (Fld f).size = 64 := by simp [Fld]
theorem Fld_at (f : Nat → Nat) (i : Nat) (h : i < 64) : (Fld f)[i]? = some (.float .f32 (f i)) := by
  simp [Fld, h]
/-- The first k are those of f, the others those of g. -/
def mix (f g : Nat → Nat) (k i : Nat) : Nat := if i < k then f i else g i
theorem Fld_congr {f g : Nat → Nat} (h : ∀ i, i < 64 → f i = g i) : Fld f = Fld g := by
  have : (List.range 64).map (fun i => Value.float .f32 (f i)) = (List.range 64).map (fun i => Value.float .f32 (g i)) :=
    List.map_congr_left fun i hi => by rw [h i (by simpa using hi)]
  unfold Fld
  rw [this]
theorem Fld_put (f : Nat → Nat) (k b : Nat) : (Fld f).setIfInBounds k (.float .f32 b) = Fld (fun i => if i = k then b else f i) := by
  apply Array.ext
  · simp [Fld]
  · intro i h1 h2
    rw [Array.getElem_setIfInBounds]
    · simp only [Fld, List.getElem_toArray, List.getElem_map, List.getElem_range]
      by_cases e : k = i
      · subst e; simp
      · rw [if_neg e, if_neg (fun h => e h.symm)]
    · simpa [Fld] using h2
theorem Fld_set (f g : Nat → Nat) (k : Nat) : (Fld (mix f g k)).setIfInBounds k (.float .f32 (f k)) = Fld (mix f g (k + 1)) := by
  rw [Fld_put]
  refine Fld_congr fun i _ => ?_
  simp only [mix]
  by_cases e : i = k
  · subst e; simp
  · have : (i < k + 1) ↔ (i < k) := by omega
    simp [e, this]
theorem Fld_full (f g : Nat → Nat) : Fld (mix f g 64) = Fld f := Fld_congr fun i h => by simp [mix, h]
def zf : Nat → Nat := fun _ => 0

theorem run_store_float (P : Program) (w : World) (a : Addr) (m : Mode) (k : FloatKind) (b : Nat) : (store a (.float k b) m).run P w = stored P w a (.float k b) m := run_store P w a _ m rfl
attribute [local go_sem] run_store_float

theorem below_setCells {B : Nat} {a : World} (b : Nat) (hb : B ≤ b) : ∀ (vs : List Value) (o : Nat) (w : World), Below B a w → Below B a (w.setCells b o vs)
  | [], _, _, h => h
  | v :: r, o, _, h => below_setCells b hb r (o + 1) _ (h.setCell (p := ⟨b, o, none⟩) hb v)

theorem results_cell_mid {P : Program} {fn : Func} {p : Tmp} {ty : TypeId} (h : fn.results = #[.cell p ty]) (tmps : Array Value) (w : World) (b o : Nat) (cs : List Value) (d : TypeDesc)
    (hp : tmps.getD p undef = .pointer (some ⟨b, o, none⟩)) (hc : w.rangeAt b o cs)
    (hu : P.underlying ty = some d) (hd : d.isRow = true) (hi : (P.info? ty).map (·.size) = some cs.length) :
    (results fn tmps).run P w = .ok (.agg cs.toArray) w := by
  have hp' : tmps[p]?.getD undef = .pointer (some ⟨b, o, none⟩) := by simpa using hp
  simp [results, h, hp', asAddr, run_loadVar_mid w b o ty cs d hc hu hd hi]

theorem Fld_length (f : Nat → Nat) : (Fld f).toList.length = 64 := by simp [Fld]
theorem Fld_one (f : Nat → Nat) : (Fld f).all (·.oneCell') = true := by
  refine all_oneCell_toArray fun v hv => ?_
  simp only [List.mem_map] at hv
  obtain ⟨i, _, rfl⟩ := hv
  rfl
theorem rangeAt_row {w : World} {b : Nat} {C : Array Value} {t : TypeId} {fr : Nat × Nat} (hb : w.heap[b]? = some (.cells C t fr)) : w.rangeAt b 0 C.toList := fun j v hv => by
  rw [Nat.zero_add, cell_of_row w b j C t fr hb]
  simpa using hv
theorem there_row {w : World} {b n : Nat} {C : Array Value} {t : TypeId} (hb : w.heap[b]? = some (.cells C t)) (hn : C.size = n) : w.there b 0 n := fun j hj => by
  rw [Nat.zero_add, cell_of_row w b j C t _ hb, frozen_of_row w b j C t hb]
  simp [hn, hj]

theorem infoField : (Tryd.prog.info? 30).map (·.size) = some 64 := by kernel_rfl
theorem info64 : (Tryd.prog.info? 24).map (·.size) = some 64 := by kernel_rfl

set_option maxRecDepth 100000 in
theorem toField_any (f : Nat → Nat) (w : World) :
    Calls Tryd.prog 46 #[.agg (Fld f)] w fun e w' => e = .returned (.agg (Fld f)) ∧ Below w.heap.size w w' := by
  have hat := Fld_at f
  have hset := Fld_set f zf
  go_enter Tryd.func46, Tryd.ntmps46
  go_wp2
  go_loopw [4] (fun i wr => ∃ k : Nat, k ≤ 64 ∧ i = .int .i64 k ∧ wr = ((w.alloc (.cells (Fld f) 24)).alloc (.cells (Fld zf) 30)).alloc (.cells (Fld (mix f zf k)) 30)) (fun i _ => 64 - (intOf i).toNat)
  case atStart => exact ⟨0, by omega, rfl, rfl⟩
  case round =>
    obtain ⟨k, hk, rfl, rfl⟩ := hrel
    by_cases hlt : k < 64
    · have h1 := hat k hlt
      have h2 := Fld_at (mix f zf k) k hlt
      have h3 := hset k
      clear hat hset
      go_wp2
      go_roundw
      case rel => exact ⟨k + 1, by omega, by go_num, rfl⟩
      case measure => simp [intOf]; omega
    · obtain rfl : k = 64 := by omega
      rw [Fld_full]
      obtain ⟨W1, hW1⟩ : ∃ W1, (w.alloc (.cells (Fld f) 24)) = W1 := ⟨_, rfl⟩
      have hb1 : Below w.heap.size w W1 := by rw [← hW1]; exact (Below.refl _ _).alloc (Nat.le_refl _) _
      have hz1 : W1.heap.size = w.heap.size + 1 := by rw [← hW1]; simp
      obtain ⟨W3, hW3⟩ : ∃ W3, ((w.alloc (.cells (Fld f) 24)).alloc (.cells (Fld zf) 30)).alloc (.cells (Fld f) 30) = W3 := ⟨_, rfl⟩
      have hr : W3.rangeAt (w.heap.size + 1 + 1) 0 (Fld f).toList := by
        have := rangeAt_row (heap_alloc_last ((w.alloc (.cells (Fld f) 24)).alloc (.cells (Fld zf) 30)) (.cells (Fld f) 30))
        rw [hW3] at this
        rwa [show ((w.alloc (.cells (Fld f) 24)).alloc (.cells (Fld zf) 30)).heap.size = w.heap.size + 1 + 1 from by simp] at this
      have ht : W3.there (w.heap.size + 1) 0 (Fld f).size := by
        have := there_row (heap_alloc_last W1 (.cells (Fld zf) 30)) ((Fld_size zf).trans (Fld_size f).symm)
        rw [hz1] at this
        rw [← hW3, hW1]
        exact World.there_alloc this _
      have hb3 : Below w.heap.size w W3 := by
        rw [← hW3, hW1]
        exact (hb1.alloc (by omega) _).alloc (by simp; omega) _
      rw [hW3]
      clear hat hset hW3 hW1
      go_wp2_with (first | (refine wpList_load_mid rfl 30 _ rfl _ 0 rfl (Fld f).toList _ hr Tryd.underlying30 rfl (by rw [Fld_length]; exact infoField) ?_) | (refine wpList_store_mid rfl 30 _ _ rfl _ 0 (Fld f) rfl rfl ht (by rw [Fld_size]; exact infoField) (Fld_one f) ?_))
      refine bodyPost_ret (results_cell_mid rfl _ _ _ 0 (Fld f).toList _ rfl (World.rangeAt_setCells_same _ _ _ _ (by rw [Fld_length]; rwa [Fld_size] at ht)) Tryd.underlying30 rfl (by rw [Fld_length]; exact infoField)) rfl ⟨by rw [Array.toArray_toList], below_setCells _ (by omega) _ _ _ hb3⟩
end Go.Proofs.YtcfkkceidlpdkaaDoor
