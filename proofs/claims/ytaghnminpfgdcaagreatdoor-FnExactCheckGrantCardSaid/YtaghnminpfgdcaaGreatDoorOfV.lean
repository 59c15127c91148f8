/- Valid offices, both sides. (The program's: the table of math/bits is laid.) Condition: the list is short. -/
import Derived.Test.YtaghnminpfgdcaaGreatDoorOff
import Derived.Test.YtaghnminpfgdcaaGreatDoorIntO
namespace Go.Proofs.YtaghnminpfgdcaaGreatDoor
open Go Go.RowKit Go.Shelf
attribute [local go_sem] Oper.semAt_some run_store_float
set_option linter.unusedSimpArgs false
set_option linter.unusedVariables false
set_option maxRecDepth 100000
/-- A watch of a ground. -/
def wtB (G : Gd) (e : T2) : Bool := inB G e.1 && plainB e.2
def ofB (G : Gd) (L : List T2) : Bool := validB G && (decide (L.length ≤ 6) && L.all (wtB G))
theorem all_step {α : Type} {f : α → Bool} {L : List α} {k : Nat} {x : α} (h : L[k]? = some x) (hk : (L.take k).all f = true) : (L.take (k + 1)).all f = f x := by
  rw [List.take_add_one, h, List.all_append, hk]; simp
theorem all_bad {α : Type} {f : α → Bool} {L : List α} {k : Nat} {x : α} (h : L[k]? = some x) (hf : f x = false) : L.all f = false := by
  rw [List.all_eq_false]
  exact ⟨x, List.mem_of_getElem? h, by rw [hf]; decide⟩
def okT2 (e : T2) : Prop := -128 ≤ e.1 ∧ e.1 ≤ 127
set_option maxRecDepth 100000 in
set_option maxHeartbeats 4000000 in
theorem l07Ok_any (G : Gd) (p : Option Addr) (c : Nat) (L : List T2) (hL : L.length ≤ 1048576) (hO : ∀ e ∈ L, okT2 e) (b : Nat) (w : World) (hb : OfAt w b 0 ⟨G, p, L.length, c⟩) (hp : TsAt w p L) (hG : GdOk G) :
    Calls Tryz.prog 79 #[.pointer (some ⟨b, 0, none⟩)] w fun e w' => e = .returned (.bool (ofB G L)) ∧ Quiet w w' := by
  have s0 := hb.s
  rw [Nat.zero_add] at s0
  have S1 := Lib.hid (fun V (hV : Quiet w V) => (hV.cell _).trans s0)
  have T0 := Lib.hid (l01Ok_any G b w hb.g hG)
  have GA := Lib.hid (fun V (hV : Quiet w V) => hV.grd hb.g)
  have HG := Lib.hid hG
  have HO := Lib.hid hO
  have HP := Lib.hid hp
  obtain ⟨n, hn⟩ : ∃ n, L.length = n := ⟨_, rfl⟩
  have HN := Lib.hid hn
  simp only at s0 S1
  rw [hn] at hL S1 s0
  clear hn hb hp hG hO
  cases hv : validB G
  · rw [hv] at T0
    have HE := Lib.hid (show ofB G L = false by simp [ofB, hv])
    clear hv s0
    go_enter Tryz.func79, Tryz.ntmps79
    go_wp2_with (go_at_call 82; refine T0.out.mono ?_; rintro e V ⟨rfl, hV⟩; have HV := Lib.hid hV; clear hV)
    go_ret
    exact ⟨by rw [HE.out]; rfl, HV.out⟩
  rw [hv] at T0
  by_cases h6 : n ≤ 6
  · have h6i : ¬ (6 : Int) < n := by omega
    have h6j : ¬ (n : Int) > 6 := by omega
    have HV := Lib.hid hv
    have HE := Lib.hid (show ofB G L = L.all (wtB G) by simp [ofB, hv, HN.out, h6])
    clear hv s0
    go_enter Tryz.func79, Tryz.ntmps79
    go_upto_region 4 with (go_at_call 82; refine T0.out.mono ?_; rintro e V ⟨rfl, hV⟩; have HQV := Lib.hid hV; have s1 := S1.out V hV; clear hV)
    clear s1 T0
    go_loopw [3] (fun i wr => ∃ k : Nat, k ≤ n ∧ i = .int .i64 k ∧ Hid ((L.take k).all (wtB G) = true) ∧ Hid (Quiet w wr)) (fun i _ => n - (intOf i).toNat)
    case atStart => exact ⟨0, by omega, rfl, Lib.hid (by simp), HQV⟩
    case round =>
      obtain ⟨k, hk, rfl, HA, HQ⟩ := hrel
      have s1 := S1.out wr HQ.out
      by_cases hlt : k < n
      · have hki : (k : Int) < n := by omega
        obtain ⟨e, he⟩ : ∃ e, L[k]? = some e := ⟨_, List.getElem?_eq_getElem (by rw [HN.out]; exact hlt)⟩
        have h8 := HO.out e (List.mem_of_getElem? he)
        obtain ⟨tb, to, rfl, hr0⟩ := HP.out k e he
        have hr := HQ.out.range hr0
        have hst := all_step he HA.out
        have hno : wtB G e = false → L.all (wtB G) = false := all_bad he
        obtain ⟨x, l⟩ := e
        have c0 : wr.cell? ⟨tb, to + k * 2, none⟩ = some (.int .i8 x) := hr 0 _ rfl
        have c1 : wr.cell? ⟨tb, to + k * 2 + 1, none⟩ = some (.float .f32 l) := hr 1 _ rfl
        have h8 : -128 ≤ x ∧ x ≤ 127 := h8
        have T1 := Lib.hid (fun V (hV : Quiet wr V) => l01Is_int G x b V (GA.out V (HQ.out.trans hV)) HG.out)
        have T2 := Lib.hid (fun V (hV : Quiet wr V) => (l01Plain_is l _ rfl V).mono fun e w' h => (⟨h.1, h.2 ▸ Quiet.refl _⟩ : e = .returned (.bool (plainB l)) ∧ Quiet V w'))
        have HW := Lib.hid (show ∀ b1 b2, inB G x = b1 → plainB l = b2 → wtB G (x, l) = (b1 && b2) from fun b1 b2 h1 h2 => by unfold wtB; rw [h1, h2])
        clear hr hr0 he
        cases hi : inB G x
        · rw [hi] at T1
          have HF := Lib.hid (hno (by rw [HW.out _ _ hi rfl]; rfl))
          clear hi hst hno HW
          go_upto_region 6 with (fail)
          refine wp_region_calm (ops' := regOf Tryz.f79 6) [0, 1, 2, 3, 4, 5, 6, 7, 8, 9, 10, 11, 12, 13, 14, 15, 16, 17, 18, 19, 20, 21, 22, 23, 24, 25] [] .fin (Quiet wr) [(0, One (.pointer (some ⟨b, 0, none⟩))), (1, One (.pointer (some ⟨b, 0, none⟩))), (2, One (.pointer (some ⟨b, 0, none⟩))), (3, One (.pointer (some ⟨b, 0, none⟩))), (4, One (.pointer (some ⟨b, 0, none⟩))), (5, One (.pointer (some ⟨b, 195, none⟩))), (6, One (.slice (some ⟨tb, to, none⟩) n c)), (7, One (.int .i64 (k : Int))), (8, One (.pointer (some ⟨tb, to + k * 2, none⟩))), (9, One (.pointer (some ⟨tb, to + k * 2, none⟩))), (10, One (.int .i8 x)), (11, One (.int .i64 x)), (12, One (.bool false)), (13, One (.bool true)), (14, One (.bool true)), (15, One undef), (16, One undef), (17, One undef), (18, One undef), (19, One undef), (20, One undef), (21, One undef), (22, One undef), (23, One undef), (24, One undef), (25, One (.bool true))] (by kernel_rfl) (by kernel_rfl) (by kernel_rfl) (by kernel_rfl) (by kernel_rfl) (by kernel_rfl) (by kernel_rfl) (by kernel_rfl) rfl ((Quiet.refl _).drewN 1) ?_
          refine calm_pure (some 26) (by kernel_rfl) (by kernel_rfl) (by kernel_rfl) (fun _ => by kernel_rfl) ?_
          refine calm_pure (some 27) (by kernel_rfl) (by kernel_rfl) (by kernel_rfl) (fun _ => by kernel_rfl) ?_
          refine calm_pure (some 28) (by kernel_rfl) (by kernel_rfl) (by kernel_rfl) (fun _ => by kernel_rfl) ?_
          refine calm_pure (some 29) (by kernel_rfl) (by kernel_rfl) (by kernel_rfl) (fun _ => by kernel_rfl) ?_
          refine calm_pure (some 30) (by kernel_rfl) (by kernel_rfl) (by kernel_rfl) (fun _ => by kernel_rfl) ?_
          refine calm_pure (some 31) (by kernel_rfl) (by kernel_rfl) (by kernel_rfl) (fun _ => by kernel_rfl) ?_
          refine calm_read (some 32) (by kernel_rfl) (by kernel_rfl) (by kernel_rfl) (fun w' hw' => load_cell (ty := 39) (x := .tmp 31) (b := b) (o := 195) (by kernel_rfl) (by kernel_rfl) Tryz.underlying39 rfl (kq s1 w' hw')) ?_
          refine calm_pure (some 33) (by kernel_rfl) (by kernel_rfl) (by kernel_rfl) (fun _ => by kernel_rfl) ?_
          refine calm_pure (some 34) (by kernel_rfl) (by kernel_rfl) (by kernel_rfl) (fun _ => index_wt (T := 39) (n := n) (c := c) (x := .tmp 32) (y := .tmp 33) (by kernel_rfl) (.inl rfl) (by kernel_rfl) (by kernel_rfl) hlt _) ?_
          refine calm_pure (some 35) (by kernel_rfl) (by kernel_rfl) (by kernel_rfl) (fun _ => by kernel_rfl) ?_
          refine calm_read (some 36) (by kernel_rfl) (by kernel_rfl) (by kernel_rfl) (fun w' hw' => load_cell (ty := 22) (x := .tmp 35) (b := tb) (o := to + k * 2) (by kernel_rfl) (by kernel_rfl) Tryz.underlying22 rfl (kq c0 w' hw')) ?_
          refine calm_pure (some 37) (by kernel_rfl) (by kernel_rfl) (by kernel_rfl) (fun _ => cv8 (x := .tmp 36) (by kernel_rfl) (by kernel_rfl) h8 _) ?_
          refine calm_call (some 38) 81 #[.pointer (some ⟨b, 0, none⟩), .int .i64 x] ⟨_, rfl⟩ (by kernel_rfl) (by kernel_rfl) (by kernel_rfl) (fun _ => by kernel_rfl) (fun w' hw' => (T1.out w' hw').mono fun e w2 h => ⟨_, h.1, rfl, h.2 ▸ hw'⟩) ?_
          rintro _ rfl
          refine calm_pure (some 39) (by kernel_rfl) (by kernel_rfl) (by kernel_rfl) (fun _ => by kernel_rfl) ?_
          refine calm_pure (some 40) (by kernel_rfl) (by kernel_rfl) (by kernel_rfl) (fun _ => by kernel_rfl) ?_
          refine calm_skip (some 41) (by kernel_rfl) (by kernel_rfl) (by kernel_rfl) ?_
          refine calm_skip (some 42) (by kernel_rfl) (by kernel_rfl) (by kernel_rfl) ?_
          refine calm_skip (some 43) (by kernel_rfl) (by kernel_rfl) (by kernel_rfl) ?_
          refine calm_skip (some 44) (by kernel_rfl) (by kernel_rfl) (by kernel_rfl) ?_
          refine calm_skip (some 45) (by kernel_rfl) (by kernel_rfl) (by kernel_rfl) ?_
          refine calm_skip (some 46) (by kernel_rfl) (by kernel_rfl) (by kernel_rfl) ?_
          refine calm_skip (some 47) (by kernel_rfl) (by kernel_rfl) (by kernel_rfl) ?_
          refine calm_skip (some 48) (by kernel_rfl) (by kernel_rfl) (by kernel_rfl) ?_
          refine calm_skip (some 49) (by kernel_rfl) (by kernel_rfl) (by kernel_rfl) ?_
          refine calm_skip (some 50) (by kernel_rfl) (by kernel_rfl) (by kernel_rfl) ?_
          refine calm_pure (some 51) (by kernel_rfl) (by kernel_rfl) (by kernel_rfl) (fun _ => by kernel_rfl) ?_
          refine calm_end fun w' hw' => plan_end (Clean.normal ?_)
          simp only [Act.put, List.setIfInBounds_toArray, List.set_cons_zero, List.set_cons_succ]
          have HQ1 := Lib.hid (HQ.out.trans hw')
          clear s1 c0 c1 hw'
          go_wp2
          go_ret
          exact ⟨by rw [HE.out, HF.out]; rfl, HQ1.out⟩
        · cases hpl : plainB l
          · rw [hi] at T1
            rw [hpl] at T2
            have HF := Lib.hid (hno (by rw [HW.out _ _ hi hpl]; rfl))
            clear hi hpl hst hno HW
            go_upto_region 6 with (fail)
            refine wp_region_calm (ops' := regOf Tryz.f79 6) [0, 1, 2, 3, 4, 5, 6, 7, 8, 9, 10, 11, 12, 13, 14, 15, 16, 17, 18, 19, 20, 21, 22, 23, 24, 25] [] .fin (Quiet wr) [(0, One (.pointer (some ⟨b, 0, none⟩))), (1, One (.pointer (some ⟨b, 0, none⟩))), (2, One (.pointer (some ⟨b, 0, none⟩))), (3, One (.pointer (some ⟨b, 0, none⟩))), (4, One (.pointer (some ⟨b, 0, none⟩))), (5, One (.pointer (some ⟨b, 195, none⟩))), (6, One (.slice (some ⟨tb, to, none⟩) n c)), (7, One (.int .i64 (k : Int))), (8, One (.pointer (some ⟨tb, to + k * 2, none⟩))), (9, One (.pointer (some ⟨tb, to + k * 2, none⟩))), (10, One (.int .i8 x)), (11, One (.int .i64 x)), (12, One (.bool true)), (13, One (.bool false)), (14, One (.bool false)), (15, One (.pointer (some ⟨b, 0, none⟩))), (16, One (.pointer (some ⟨b, 0, none⟩))), (17, One (.pointer (some ⟨b, 195, none⟩))), (18, One (.slice (some ⟨tb, to, none⟩) n c)), (19, One (.int .i64 (k : Int))), (20, One (.pointer (some ⟨tb, to + k * 2, none⟩))), (21, One (.pointer (some ⟨tb, to + k * 2 + 1, none⟩))), (22, One (.float .f32 l)), (23, One (.bool false)), (24, One (.bool true)), (25, One (.bool true))] (by kernel_rfl) (by kernel_rfl) (by kernel_rfl) (by kernel_rfl) (by kernel_rfl) (by kernel_rfl) (by kernel_rfl) (by kernel_rfl) rfl ((Quiet.refl _).drewN 1) ?_
            refine calm_pure (some 26) (by kernel_rfl) (by kernel_rfl) (by kernel_rfl) (fun _ => by kernel_rfl) ?_
            refine calm_pure (some 27) (by kernel_rfl) (by kernel_rfl) (by kernel_rfl) (fun _ => by kernel_rfl) ?_
            refine calm_pure (some 28) (by kernel_rfl) (by kernel_rfl) (by kernel_rfl) (fun _ => by kernel_rfl) ?_
            refine calm_pure (some 29) (by kernel_rfl) (by kernel_rfl) (by kernel_rfl) (fun _ => by kernel_rfl) ?_
            refine calm_pure (some 30) (by kernel_rfl) (by kernel_rfl) (by kernel_rfl) (fun _ => by kernel_rfl) ?_
            refine calm_pure (some 31) (by kernel_rfl) (by kernel_rfl) (by kernel_rfl) (fun _ => by kernel_rfl) ?_
            refine calm_read (some 32) (by kernel_rfl) (by kernel_rfl) (by kernel_rfl) (fun w' hw' => load_cell (ty := 39) (x := .tmp 31) (b := b) (o := 195) (by kernel_rfl) (by kernel_rfl) Tryz.underlying39 rfl (kq s1 w' hw')) ?_
            refine calm_pure (some 33) (by kernel_rfl) (by kernel_rfl) (by kernel_rfl) (fun _ => by kernel_rfl) ?_
            refine calm_pure (some 34) (by kernel_rfl) (by kernel_rfl) (by kernel_rfl) (fun _ => index_wt (T := 39) (n := n) (c := c) (x := .tmp 32) (y := .tmp 33) (by kernel_rfl) (.inl rfl) (by kernel_rfl) (by kernel_rfl) hlt _) ?_
            refine calm_pure (some 35) (by kernel_rfl) (by kernel_rfl) (by kernel_rfl) (fun _ => by kernel_rfl) ?_
            refine calm_read (some 36) (by kernel_rfl) (by kernel_rfl) (by kernel_rfl) (fun w' hw' => load_cell (ty := 22) (x := .tmp 35) (b := tb) (o := to + k * 2) (by kernel_rfl) (by kernel_rfl) Tryz.underlying22 rfl (kq c0 w' hw')) ?_
            refine calm_pure (some 37) (by kernel_rfl) (by kernel_rfl) (by kernel_rfl) (fun _ => cv8 (x := .tmp 36) (by kernel_rfl) (by kernel_rfl) h8 _) ?_
            refine calm_call (some 38) 81 #[.pointer (some ⟨b, 0, none⟩), .int .i64 x] ⟨_, rfl⟩ (by kernel_rfl) (by kernel_rfl) (by kernel_rfl) (fun _ => by kernel_rfl) (fun w' hw' => (T1.out w' hw').mono fun e w2 h => ⟨_, h.1, rfl, h.2 ▸ hw'⟩) ?_
            rintro _ rfl
            refine calm_pure (some 39) (by kernel_rfl) (by kernel_rfl) (by kernel_rfl) (fun _ => by kernel_rfl) ?_
            refine calm_pure (some 40) (by kernel_rfl) (by kernel_rfl) (by kernel_rfl) (fun _ => by kernel_rfl) ?_
            refine calm_pure (some 41) (by kernel_rfl) (by kernel_rfl) (by kernel_rfl) (fun _ => by kernel_rfl) ?_
            refine calm_pure (some 42) (by kernel_rfl) (by kernel_rfl) (by kernel_rfl) (fun _ => by kernel_rfl) ?_
            refine calm_pure (some 43) (by kernel_rfl) (by kernel_rfl) (by kernel_rfl) (fun _ => by kernel_rfl) ?_
            refine calm_read (some 44) (by kernel_rfl) (by kernel_rfl) (by kernel_rfl) (fun w' hw' => load_cell (ty := 39) (x := .tmp 43) (b := b) (o := 195) (by kernel_rfl) (by kernel_rfl) Tryz.underlying39 rfl (kq s1 w' hw')) ?_
            refine calm_pure (some 45) (by kernel_rfl) (by kernel_rfl) (by kernel_rfl) (fun _ => by kernel_rfl) ?_
            refine calm_pure (some 46) (by kernel_rfl) (by kernel_rfl) (by kernel_rfl) (fun _ => index_wt (T := 39) (n := n) (c := c) (x := .tmp 44) (y := .tmp 45) (by kernel_rfl) (.inl rfl) (by kernel_rfl) (by kernel_rfl) hlt _) ?_
            refine calm_pure (some 47) (by kernel_rfl) (by kernel_rfl) (by kernel_rfl) (fun _ => by kernel_rfl) ?_
            refine calm_read (some 48) (by kernel_rfl) (by kernel_rfl) (by kernel_rfl) (fun w' hw' => load_cell (ty := 23) (x := .tmp 47) (b := tb) (o := to + k * 2 + 1) (by kernel_rfl) (by kernel_rfl) Tryz.underlying23 rfl (kq c1 w' hw')) ?_
            refine calm_call (some 49) 109 #[.float .f32 l] ⟨_, rfl⟩ (by kernel_rfl) (by kernel_rfl) (by kernel_rfl) (fun _ => by kernel_rfl) (fun w' hw' => (T2.out w' hw').mono fun e w2 h => ⟨_, h.1, rfl, hw'.trans h.2⟩) ?_
            rintro _ rfl
            refine calm_pure (some 50) (by kernel_rfl) (by kernel_rfl) (by kernel_rfl) (fun _ => by kernel_rfl) ?_
            refine calm_pure (some 51) (by kernel_rfl) (by kernel_rfl) (by kernel_rfl) (fun _ => by kernel_rfl) ?_
            refine calm_end fun w' hw' => plan_end (Clean.normal ?_)
            simp only [Act.put, List.setIfInBounds_toArray, List.set_cons_zero, List.set_cons_succ]
            have HQ1 := Lib.hid (HQ.out.trans hw')
            clear s1 c0 c1 hw'
            go_wp2
            go_ret
            exact ⟨by rw [HE.out, HF.out]; rfl, HQ1.out⟩
          · rw [hi] at T1
            rw [hpl] at T2
            have HT := Lib.hid (hst.trans (by rw [HW.out _ _ hi hpl]))
            clear hi hpl hst hno HW
            go_upto_region 6 with (fail)
            refine wp_region_calm (ops' := regOf Tryz.f79 6) [0, 1, 2, 3, 4, 5, 6, 7, 8, 9, 10, 11, 12, 13, 14, 15, 16, 17, 18, 19, 20, 21, 22, 23, 24, 25] [] .fin (Quiet wr) [(0, One (.pointer (some ⟨b, 0, none⟩))), (1, One (.pointer (some ⟨b, 0, none⟩))), (2, One (.pointer (some ⟨b, 0, none⟩))), (3, One (.pointer (some ⟨b, 0, none⟩))), (4, One (.pointer (some ⟨b, 0, none⟩))), (5, One (.pointer (some ⟨b, 195, none⟩))), (6, One (.slice (some ⟨tb, to, none⟩) n c)), (7, One (.int .i64 (k : Int))), (8, One (.pointer (some ⟨tb, to + k * 2, none⟩))), (9, One (.pointer (some ⟨tb, to + k * 2, none⟩))), (10, One (.int .i8 x)), (11, One (.int .i64 x)), (12, One (.bool true)), (13, One (.bool false)), (14, One (.bool false)), (15, One (.pointer (some ⟨b, 0, none⟩))), (16, One (.pointer (some ⟨b, 0, none⟩))), (17, One (.pointer (some ⟨b, 195, none⟩))), (18, One (.slice (some ⟨tb, to, none⟩) n c)), (19, One (.int .i64 (k : Int))), (20, One (.pointer (some ⟨tb, to + k * 2, none⟩))), (21, One (.pointer (some ⟨tb, to + k * 2 + 1, none⟩))), (22, One (.float .f32 l)), (23, One (.bool true)), (24, One (.bool false)), (25, One (.bool false))] (by kernel_rfl) (by kernel_rfl) (by kernel_rfl) (by kernel_rfl) (by kernel_rfl) (by kernel_rfl) (by kernel_rfl) (by kernel_rfl) rfl ((Quiet.refl _).drewN 1) ?_
            refine calm_pure (some 26) (by kernel_rfl) (by kernel_rfl) (by kernel_rfl) (fun _ => by kernel_rfl) ?_
            refine calm_pure (some 27) (by kernel_rfl) (by kernel_rfl) (by kernel_rfl) (fun _ => by kernel_rfl) ?_
            refine calm_pure (some 28) (by kernel_rfl) (by kernel_rfl) (by kernel_rfl) (fun _ => by kernel_rfl) ?_
            refine calm_pure (some 29) (by kernel_rfl) (by kernel_rfl) (by kernel_rfl) (fun _ => by kernel_rfl) ?_
            refine calm_pure (some 30) (by kernel_rfl) (by kernel_rfl) (by kernel_rfl) (fun _ => by kernel_rfl) ?_
            refine calm_pure (some 31) (by kernel_rfl) (by kernel_rfl) (by kernel_rfl) (fun _ => by kernel_rfl) ?_
            refine calm_read (some 32) (by kernel_rfl) (by kernel_rfl) (by kernel_rfl) (fun w' hw' => load_cell (ty := 39) (x := .tmp 31) (b := b) (o := 195) (by kernel_rfl) (by kernel_rfl) Tryz.underlying39 rfl (kq s1 w' hw')) ?_
            refine calm_pure (some 33) (by kernel_rfl) (by kernel_rfl) (by kernel_rfl) (fun _ => by kernel_rfl) ?_
            refine calm_pure (some 34) (by kernel_rfl) (by kernel_rfl) (by kernel_rfl) (fun _ => index_wt (T := 39) (n := n) (c := c) (x := .tmp 32) (y := .tmp 33) (by kernel_rfl) (.inl rfl) (by kernel_rfl) (by kernel_rfl) hlt _) ?_
            refine calm_pure (some 35) (by kernel_rfl) (by kernel_rfl) (by kernel_rfl) (fun _ => by kernel_rfl) ?_
            refine calm_read (some 36) (by kernel_rfl) (by kernel_rfl) (by kernel_rfl) (fun w' hw' => load_cell (ty := 22) (x := .tmp 35) (b := tb) (o := to + k * 2) (by kernel_rfl) (by kernel_rfl) Tryz.underlying22 rfl (kq c0 w' hw')) ?_
            refine calm_pure (some 37) (by kernel_rfl) (by kernel_rfl) (by kernel_rfl) (fun _ => cv8 (x := .tmp 36) (by kernel_rfl) (by kernel_rfl) h8 _) ?_
            refine calm_call (some 38) 81 #[.pointer (some ⟨b, 0, none⟩), .int .i64 x] ⟨_, rfl⟩ (by kernel_rfl) (by kernel_rfl) (by kernel_rfl) (fun _ => by kernel_rfl) (fun w' hw' => (T1.out w' hw').mono fun e w2 h => ⟨_, h.1, rfl, h.2 ▸ hw'⟩) ?_
            rintro _ rfl
            refine calm_pure (some 39) (by kernel_rfl) (by kernel_rfl) (by kernel_rfl) (fun _ => by kernel_rfl) ?_
            refine calm_pure (some 40) (by kernel_rfl) (by kernel_rfl) (by kernel_rfl) (fun _ => by kernel_rfl) ?_
            refine calm_pure (some 41) (by kernel_rfl) (by kernel_rfl) (by kernel_rfl) (fun _ => by kernel_rfl) ?_
            refine calm_pure (some 42) (by kernel_rfl) (by kernel_rfl) (by kernel_rfl) (fun _ => by kernel_rfl) ?_
            refine calm_pure (some 43) (by kernel_rfl) (by kernel_rfl) (by kernel_rfl) (fun _ => by kernel_rfl) ?_
            refine calm_read (some 44) (by kernel_rfl) (by kernel_rfl) (by kernel_rfl) (fun w' hw' => load_cell (ty := 39) (x := .tmp 43) (b := b) (o := 195) (by kernel_rfl) (by kernel_rfl) Tryz.underlying39 rfl (kq s1 w' hw')) ?_
            refine calm_pure (some 45) (by kernel_rfl) (by kernel_rfl) (by kernel_rfl) (fun _ => by kernel_rfl) ?_
            refine calm_pure (some 46) (by kernel_rfl) (by kernel_rfl) (by kernel_rfl) (fun _ => index_wt (T := 39) (n := n) (c := c) (x := .tmp 44) (y := .tmp 45) (by kernel_rfl) (.inl rfl) (by kernel_rfl) (by kernel_rfl) hlt _) ?_
            refine calm_pure (some 47) (by kernel_rfl) (by kernel_rfl) (by kernel_rfl) (fun _ => by kernel_rfl) ?_
            refine calm_read (some 48) (by kernel_rfl) (by kernel_rfl) (by kernel_rfl) (fun w' hw' => load_cell (ty := 23) (x := .tmp 47) (b := tb) (o := to + k * 2 + 1) (by kernel_rfl) (by kernel_rfl) Tryz.underlying23 rfl (kq c1 w' hw')) ?_
            refine calm_call (some 49) 109 #[.float .f32 l] ⟨_, rfl⟩ (by kernel_rfl) (by kernel_rfl) (by kernel_rfl) (fun _ => by kernel_rfl) (fun w' hw' => (T2.out w' hw').mono fun e w2 h => ⟨_, h.1, rfl, hw'.trans h.2⟩) ?_
            rintro _ rfl
            refine calm_pure (some 50) (by kernel_rfl) (by kernel_rfl) (by kernel_rfl) (fun _ => by kernel_rfl) ?_
            refine calm_pure (some 51) (by kernel_rfl) (by kernel_rfl) (by kernel_rfl) (fun _ => by kernel_rfl) ?_
            refine calm_end fun w' hw' => plan_end (Clean.normal ?_)
            simp only [Act.put, List.setIfInBounds_toArray, List.set_cons_zero, List.set_cons_succ]
            have HQ1 := Lib.hid (HQ.out.trans hw')
            clear s1 c0 c1 hw'
            go_wp2
            go_roundw
            case rel => exact ⟨k + 1, by omega, by go_num, HT, HQ1⟩
            case measure => simp [intOf]; omega
      · obtain rfl : k = n := by omega
        have HT := Lib.hid (show L.all (wtB G) = true by have := HA.out; rwa [← HN.out, List.take_length] at this)
        go_wp2
        go_ret
        exact ⟨by rw [HE.out, HT.out]; rfl, HQ.out⟩
  · have h6i : (6 : Int) < n := by omega
    have h6j : (n : Int) > 6 := by omega
    have HE := Lib.hid (show ofB G L = false by simp [ofB, hv, HN.out, h6])
    clear hv s0
    go_enter Tryz.func79, Tryz.ntmps79
    go_wp2_with (go_at_call 82; refine T0.out.mono ?_; rintro e V ⟨rfl, hV⟩; have HV := Lib.hid hV; have s1 := S1.out V hV; clear hV)
    go_ret
    exact ⟨by rw [HE.out]; rfl, HV.out⟩
/-- A watch, boxed. -/
theorem wt_box (x : Int) (l : Nat) (t : TypeId) (w : World) : ∃ V, w.alloc (.cells #[.int .i8 x, .float .f32 l] t) = V ∧ V.heap.size = w.heap.size + 1 ∧ V.cell? ⟨w.heap.size, 0, none⟩ = some (.int .i8 x) ∧ V.cell? ⟨w.heap.size, 1, none⟩ = some (.float .f32 l) ∧ Below w.heap.size w V :=
  ⟨_, rfl, by simp, cell_of_row _ _ 0 _ _ _ (heap_alloc_last w _), cell_of_row _ _ 1 _ _ _ (heap_alloc_last w _), (Below.refl _ _).alloc (Nat.le_refl _) _⟩
set_option maxRecDepth 100000 in
set_option maxHeartbeats 4000000 in
theorem implValidOffice_any (G : Gd) (p : Option Addr) (c : Nat) (L : List T2) (hL : L.length ≤ 1048576) (hO : ∀ e ∈ L, okT2 e) (w : World) (hp : TsAt w p L) (hG : GdOk G) (hT : TabAt w) :
    Calls Tryz.prog 95 #[.agg (OfA ⟨G, p, L.length, c⟩)] w fun e w' => e = .returned (.bool (ofB G L)) ∧ Below w.heap.size w w' := by
  obtain ⟨W, hW, hs, b1, hB⟩ := obox1 ⟨G, p, L.length, c⟩ 41 w
  have hlt := tab_lt hT
  have r1 : W.rangeAt w.heap.size 0 (GrdL G) := b1.grd.range
  have S1 := Lib.hid (fun V (hV : Below W.heap.size W V) => (hV.cell (p := ⟨w.heap.size, 195, none⟩) (by show w.heap.size < W.heap.size; omega)).trans b1.s)
  have GA := Lib.hid (fun V (hV : Below W.heap.size W V) => (b1.grd.below hV (by omega)).at')
  have T0 := Lib.hid (validGround_any G W hG (hT.below hB hlt) (by omega))
  have HWz := Lib.hid (show w.heap.size < W.heap.size by omega)
  have HG := Lib.hid hG
  have HO := Lib.hid hO
  have HP := Lib.hid (hp.keep hB)
  have HB := Lib.hid hB
  obtain ⟨A, hA⟩ : ∃ A, OfA ⟨G, p, L.length, c⟩ = A := ⟨_, rfl⟩
  rw [hA] at hW ⊢
  obtain ⟨n, hn⟩ : ∃ n, L.length = n := ⟨_, rfl⟩
  have HN := Lib.hid hn
  simp only at S1
  rw [hn] at hL S1
  clear hn hs b1 hp hG hO hT hlt hA hB
  cases hv : validB G
  · rw [hv] at T0
    have HE := Lib.hid (show ofB G L = false by simp [ofB, hv])
    clear hv
    go_enter Tryz.func95, Tryz.ntmps95
    go_upto_region 1 with (fail)
    try rw [hW]
    clear hW
    go_wp2_with (first | (refine ldS 36 rfl ?_; refine wpList_load_mid rfl 36 _ rfl w.heap.size 0 rfl (GrdL G) _ r1 Tryz.underlying36 rfl (by rw [GrdL_length]; exact infoGround) ?_) | (go_at_call 116; refine T0.out.mono ?_; rintro e V ⟨rfl, hV⟩; have HV := Lib.hid (HB.out.trans (hV.mono HB.out.size)); clear hV r1))
    go_ret
    exact ⟨by rw [HE.out]; rfl, HV.out⟩
  rw [hv] at T0
  by_cases h6 : n ≤ 6
  · have h6i : ¬ (6 : Int) < n := by omega
    have h6j : ¬ (n : Int) > 6 := by omega
    have HI := Lib.hid (fun x => hold_in G x hv)
    have HE := Lib.hid (show ofB G L = L.all (wtB G) by simp [ofB, hv, HN.out, h6])
    clear hv
    go_enter Tryz.func95, Tryz.ntmps95
    go_upto_region 1 with (fail)
    try rw [hW]
    clear hW
    go_upto_region 4 with (first | (refine ldS 36 rfl ?_; refine wpList_load_mid rfl 36 _ rfl w.heap.size 0 rfl (GrdL G) _ r1 Tryz.underlying36 rfl (by rw [GrdL_length]; exact infoGround) ?_) | (go_at_call 116; refine T0.out.mono ?_; rintro e V ⟨rfl, hV⟩; have HBV := Lib.hid hV; have s1 := S1.out V hV; clear hV r1))
    clear s1 T0
    go_loopw [18] (fun i wr => ∃ k : Nat, k ≤ n ∧ i = .int .i64 k ∧ Hid ((L.take k).all (wtB G) = true) ∧ Hid (Below W.heap.size W wr)) (fun i _ => n - (intOf i).toNat)
    case atStart => exact ⟨0, by omega, rfl, Lib.hid (by simp), HBV⟩
    case round =>
      obtain ⟨k, hk, rfl, HA, HQ⟩ := hrel
      by_cases hlt : k < n
      · have hki : (k : Int) < n := by omega
        obtain ⟨e, he⟩ : ∃ e, L[k]? = some e := ⟨_, List.getElem?_eq_getElem (by rw [HN.out]; exact hlt)⟩
        have h8 := HO.out e (List.mem_of_getElem? he)
        obtain ⟨tb, to, rfl, hr⟩ := (HP.out.keep HQ.out) k e he
        have hst := all_step he HA.out
        have hno : wtB G e = false → L.all (wtB G) = false := all_bad he
        obtain ⟨x, l⟩ := e
        have c0 : wr.cell? ⟨tb, to + k * 2, none⟩ = some (.int .i8 x) := hr 0 _ rfl
        have c1 : wr.cell? ⟨tb, to + k * 2 + 1, none⟩ = some (.float .f32 l) := hr 1 _ rfl
        have h8 : -128 ≤ x ∧ x ≤ 127 := h8
        obtain ⟨V2, hV2, z2, d0, d1, b2⟩ := wt_box x l 94 wr
        have hsz := HQ.out.size
        have b2W := Lib.hid (HQ.out.trans (b2.mono hsz))
        have T1 := Lib.hid (show Calls Tryz.prog 99 #[.pointer (some ⟨w.heap.size, 0, none⟩), .int .i64 x] V2 fun e w' => e = .returned (.bool (inB G x)) ∧ Below V2.heap.size V2 w' from
          (hasCell_any G x (by omega) (by omega) w.heap.size V2 (GA.out V2 b2W.out) (by have := HWz.out; omega) HG.out).mono fun e w' h => ⟨by rw [h.1, HI.out], h.2⟩)
        have T2 := Lib.hid (fun V => isPlain_any l V)
        have HW := Lib.hid (show ∀ b1 b2, inB G x = b1 → plainB l = b2 → wtB G (x, l) = (b1 && b2) from fun b1 b2 h1 h2 => by unfold wtB; rw [h1, h2])
        obtain ⟨q, hq⟩ : ∃ q, wr.heap.size = q := ⟨_, rfl⟩
        rw [hq] at d0 d1
        have D1 := Lib.hid (fun V (hV : Below V2.heap.size V2 V) => (hV.cell (p := ⟨q, 1, none⟩) (by show q < V2.heap.size; omega)).trans d1)
        clear hr he b2 z2 hsz d1
        go_upto_region 6 with (fail)
        try rw [hV2]
        clear hV2 hq c0 c1
        cases hi : inB G x
        · rw [hi] at T1
          have HF := Lib.hid (hno (by rw [HW.out _ _ hi rfl]; rfl))
          clear hi hst hno HW
          go_wp2_with (go_at_call 99; refine T1.out.mono ?_; rintro e V ⟨rfl, hV⟩; have HV := Lib.hid (b2W.out.trans (hV.mono b2W.out.size)); clear hV)
          go_ret
          exact ⟨by rw [HE.out, HF.out]; rfl, HB.out.trans (HV.out.mono HB.out.size)⟩
        · cases hpl : plainB l
          · rw [hi] at T1
            rw [hpl] at T2
            have HF := Lib.hid (hno (by rw [HW.out _ _ hi hpl]; rfl))
            clear hi hpl hst hno HW
            go_wp2_with (first | (go_at_call 99; refine T1.out.mono ?_; rintro e V ⟨rfl, hV⟩; have e1 := D1.out V hV; have HV := Lib.hid (b2W.out.trans (hV.mono b2W.out.size)); clear hV) | (go_at_call 124; refine (T2.out _).mono ?_; rintro e V3 ⟨rfl, hV⟩; rw [← hV]; clear hV))
            go_ret
            exact ⟨by rw [HE.out, HF.out]; rfl, HB.out.trans (HV.out.mono HB.out.size)⟩
          · rw [hi] at T1
            rw [hpl] at T2
            have HT := Lib.hid (hst.trans (by rw [HW.out _ _ hi hpl]))
            clear hi hpl hst hno HW
            go_wp2_with (first | (go_at_call 99; refine T1.out.mono ?_; rintro e V ⟨rfl, hV⟩; have e1 := D1.out V hV; have HV := Lib.hid (b2W.out.trans (hV.mono b2W.out.size)); clear hV) | (go_at_call 124; refine (T2.out _).mono ?_; rintro e V3 ⟨rfl, hV⟩; rw [← hV]; clear hV))
            go_roundw
            case rel => exact ⟨k + 1, by omega, by go_num, HT, HV⟩
            case measure => simp [intOf]; omega
      · obtain rfl : k = n := by omega
        have HT := Lib.hid (show L.all (wtB G) = true by have := HA.out; rwa [← HN.out, List.take_length] at this)
        go_wp2
        go_ret
        exact ⟨by rw [HE.out, HT.out]; rfl, HB.out.trans (HQ.out.mono HB.out.size)⟩
  · have h6i : (6 : Int) < n := by omega
    have h6j : (n : Int) > 6 := by omega
    have HE := Lib.hid (show ofB G L = false by simp [ofB, hv, HN.out, h6])
    clear hv
    go_enter Tryz.func95, Tryz.ntmps95
    go_upto_region 1 with (fail)
    try rw [hW]
    clear hW
    go_wp2_with (first | (refine ldS 36 rfl ?_; refine wpList_load_mid rfl 36 _ rfl w.heap.size 0 rfl (GrdL G) _ r1 Tryz.underlying36 rfl (by rw [GrdL_length]; exact infoGround) ?_) | (go_at_call 116; refine T0.out.mono ?_; rintro e V ⟨rfl, hV⟩; have HV := Lib.hid (HB.out.trans (hV.mono HB.out.size)); have s1 := S1.out V hV; clear hV r1))
    go_ret
    exact ⟨by rw [HE.out]; rfl, HV.out⟩
end Go.Proofs.YtaghnminpfgdcaaGreatDoor
