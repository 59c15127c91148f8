/- The law FnExactWaterPath: for every input the call returns true. Condition: the table of math/bits is laid. -/
import Derived.Test.YtjhaonfdapldcaaDoorPti
namespace Go.Proofs.YtjhaonfdapldcaaDoor
open Go Go.RowKit Go.WideShapes
set_option linter.unusedSimpArgs false
set_option linter.unusedVariables false

set_option maxRecDepth 100000 in
set_option maxHeartbeats 2000000 in
theorem implWP_any (G : Gd) (c : Int) (w : World) (hG : GdOk G) (l1 : -9223372036854775808 ≤ c) (l2 : c ≤ 9223372036854775807) (hT : TabAt w) :
    Calls Tryd.prog 16 #[.agg (Grd G), .int .i64 c] w fun e w' => ∃ q cap, e = .returned (.tuple #[.slice q (wpV G c).1.length cap, .int .i64 (wpV G c).2]) ∧ CellsI w' q (wpV G c).1 ∧ ((wpV G c).1.length = 0 ∨ ∃ g, q = some ⟨g, 0, none⟩ ∧ w.heap.size ≤ g ∧ g < w'.heap.size ∧ w'.there g 0 (wpV G c).1.length) ∧ Below w.heap.size w w' := by
  go_enter Tryd.func16, Tryd.ntmps16
  go_upto_region 1 with (fail)
  obtain ⟨W, hW, hs, g1, hB, hT1⟩ := box_in G 32 w hT
  rw [hW]
  clear hW
  have HB := Lib.hid hB
  have HG := Lib.hid hG
  have hl : w.heap.size < W.heap.size := by omega
  have TC := Lib.hid (checkCell_any G c l1 l2 w.heap.size W g1.at' hl hG hT1)
  have G1 := Lib.hid g1
  clear g1 hB hs hG hT hT1
  by_cases ha : askedN G c = 0
  · obtain ⟨k, rfl, hk, hv, hb⟩ := asked_in ha
    rw [ha] at TC
    have TP := Lib.hid (fun V (h : Below W.heap.size W V) => pathFrom_any G k hk hb hv w.heap.size V ((G1.out.below h hl).at') (Nat.lt_of_lt_of_le hl h.size) HG.out)
    obtain ⟨LL, ob, hp⟩ : ∃ LL ob, ptV G k = (LL, ob) := ⟨_, _, rfl⟩
    have HPO := Lib.hid (show ob = false → LL = [] from fun h => by
      subst h
      unfold ptV at hp
      split at hp
      · cases hp
      · exact (Prod.mk.inj hp).1.symm)
    have HR := Lib.hid (show wpV G (k : Int) = (LL, if ob = true then 0 else 4) by
      simp only [wpV, ha, hp, Int.toNat_natCast, if_true]
      cases ob
      · rw [HPO.out rfl]; rfl
      · rfl)
    simp only [hp] at TP
    obtain ⟨n4, hn4⟩ : ∃ n : Int, (if ob = true then (0 : Int) else 4) = n := ⟨_, rfl⟩
    rw [hn4] at TP HR
    obtain ⟨r, hr⟩ : ∃ r, LL.length = r := ⟨_, rfl⟩
    rw [hr] at TP
    have HLR := Lib.hid hr
    clear ha hp hr hl hn4 HPO
    go_wp2_with (first | (go_at_call 41; refine TC.out.mono ?_; rintro e V ⟨rfl, hV⟩; have HV := Lib.hid hV; clear hV) | (go_at_call 42; refine (TP.out _ HV.out).mono ?_; rintro e V2 ⟨q, cap, rfl, hc, ho, hV⟩; have HC := Lib.hid hc; have HO := Lib.hid ho; have HV2 := Lib.hid hV; clear hc ho hV))
    go_ret2
    rw [HR.out]
    simp only [HLR.out]
    exact ⟨q, cap, rfl, HC.out, HO.out.imp id (fun ⟨g, h1, h2, h3, h4⟩ => ⟨g, h1, Nat.le_trans (Nat.le_trans HB.out.size HV.out.size) h2, h3, h4⟩), HB.out.trans ((HV.out.trans (HV2.out.mono HV.out.size)).mono HB.out.size)⟩
  · have hne : (askedN G c != 0) = true := by simpa [bne] using ha
    have R := Lib.hid (show wpV G c = ([], askedN G c) by simp [wpV, ha])
    clear ha
    go_wp2_with (go_at_call 41; refine TC.out.mono ?_; rintro e V ⟨rfl, hV⟩; have HV := Lib.hid (HB.out.trans (hV.mono HB.out.size)); clear hV)
    go_ret2
    exact ⟨_, _, by rw [R.out]; rfl, by rw [R.out]; exact cellsI_nilP _ _, .inl (by rw [R.out]; rfl), HV.out⟩
theorem wpV_len (G : Gd) (c : Int) : (wpV G c).1.length ≤ 65 := by
  unfold wpV
  split
  · split
    · unfold ptV
      split
      · exact way_len G _
      · simp
    · simp
  · simp
/-- A list of its own: at a block that is new. -/
def OwnG (w : World) (p : Option Addr) (r B : Nat) : Prop := r = 0 ∨ ∃ g, p = some ⟨g, 0, none⟩ ∧ B ≤ g ∧ g < w.heap.size ∧ w.there g 0 r
def HeldG (w : World) (p : Option Addr) (r : Nat) : Prop := r = 0 ∨ ∃ g, p = some ⟨g, 0, none⟩ ∧ g < w.heap.size ∧ ∀ i, i < r → w.cell? ⟨g, i, none⟩ = some (.int .i64 ((1 + i : Nat) : Int))
/-- Blocks from B on are as they were. -/
def Abv (B : Nat) (w w' : World) : Prop := w.heap.size ≤ w'.heap.size ∧ ∀ x, B ≤ x → x < w.heap.size → w'.heap[x]? = w.heap[x]?
theorem Abv.of_below {B : Nat} {w w' : World} (h : Below w.heap.size w w') : Abv B w w' := ⟨h.size, fun x _ hx => h.block x hx⟩
theorem there_sameG {w w' : World} {b n : Nat} (h : w.there b 0 n) (hh : w'.heap[b]? = w.heap[b]?) : w'.there b 0 n := fun j hj => by
  have := h j hj
  unfold World.cell? World.frozen? at this ⊢
  rw [hh]
  exact this
theorem cell_sameG {w w' : World} {b i : Nat} (hh : w'.heap[b]? = w.heap[b]?) : w'.cell? ⟨b, i, none⟩ = w.cell? ⟨b, i, none⟩ := by
  unfold World.cell?
  simp only [hh]
theorem OwnG.abv {w w' : World} {p : Option Addr} {r B : Nat} (h : OwnG w p r B) (ha : Abv B w w') : OwnG w' p r B := by
  rcases h with h | ⟨g, h1, h2, h3, h4⟩
  · exact .inl h
  · exact .inr ⟨g, h1, h2, Nat.lt_of_lt_of_le h3 ha.1, there_sameG h4 (ha.2 g h2 h3)⟩
theorem CellsI.keep {w w' : World} {p : Option Addr} {xs : List Nat} (h : CellsI w p xs) (hB : Below w.heap.size w w') : CellsI w' p xs := fun i v hv => by
  obtain ⟨b, h1, h2⟩ := h i v hv
  exact ⟨b, h1, (hB.cell (p := ⟨b, i, none⟩) (World.block_lt_of_cell? w _ h2)).trans h2⟩
theorem CellsI.abv {w w' : World} {p : Option Addr} {xs : List Nat} {B : Nat} (h : CellsI w p xs) (ho : OwnG w p xs.length B) (ha : Abv B w w') : CellsI w' p xs := fun i v hv => by
  obtain ⟨b, h1, h2⟩ := h i v hv
  refine ⟨b, h1, ?_⟩
  rcases ho with h0 | ⟨g, g1, g2, g3, _⟩
  · have := (List.getElem?_eq_some_iff.1 hv).1
    omega
  · obtain rfl : g = b := by rw [g1] at h1; cases h1; rfl
    rw [cell_sameG (ha.2 g g2 g3)]
    exact h2
theorem HeldG.keep {w w' : World} {p : Option Addr} {r : Nat} (h : HeldG w p r) (hB : Below w.heap.size w w') : HeldG w' p r := by
  rcases h with h | ⟨g, h1, h2, h3⟩
  · exact .inl h
  · exact .inr ⟨g, h1, Nat.lt_of_lt_of_le h2 hB.size, fun i hi => (hB.cell (p := ⟨g, i, none⟩) h2).trans (h3 i hi)⟩
end Go.Proofs.YtjhaonfdapldcaaDoor
