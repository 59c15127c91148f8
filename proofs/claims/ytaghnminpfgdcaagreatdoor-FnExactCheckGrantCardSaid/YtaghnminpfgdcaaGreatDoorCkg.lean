/- CheckGrant: what it reckons, and the model's; areIndices, slices.Contains. No condition. -/
import Derived.Test.YtaghnminpfgdcaaGreatDoorGro
import Derived.Test.YtaghnminpfgdcaaGreatDoorIz
namespace Go.Proofs.YtaghnminpfgdcaaGreatDoor
open Go Go.RowKit
set_option linter.unusedSimpArgs false
set_option linter.unusedVariables false
attribute [local go_sem] Oper.semAt_some

/-- Whether numbers ascend from above b, and are less than len. -/
def ascF (len : Int) : Int → List Int → Bool
  | _, [] => true
  | b, x :: r => if x ≤ b ∨ len ≤ x then false else ascF len x r
theorem ascF_no {len b x : Int} {r : List Int} (h : x ≤ b ∨ len ≤ x) : ascF len b (x :: r) = false := by simp [ascF, h]
theorem ascF_on {len b x : Int} {r : List Int} (h1 : b < x) (h2 : x < len) : ascF len b (x :: r) = ascF len x r := by
  have : ¬ (x ≤ b ∨ len ≤ x) := by omega
  simp [ascF, this]
theorem ascF_is {n : Nat} : ∀ (M : List Int) (b : Int), -1 ≤ b → ascF n b M = true → ∃ J : List Nat, M = idxI J ∧ J.Pairwise (· < ·) ∧ ∀ j ∈ J, b < (j : Int) ∧ j < n
  | [], b, _, _ => ⟨[], rfl, List.Pairwise.nil, fun j hj => by simp at hj⟩
  | x :: r, b, hb, h => by
    by_cases hx : x ≤ b ∨ (n : Int) ≤ x
    · rw [ascF_no hx] at h; cases h
    · rw [ascF_on (by omega) (by omega)] at h
      obtain ⟨J, rfl, hJ, hJ2⟩ := ascF_is r x (by omega) h
      refine ⟨x.toNat :: J, by simp [idxI]; omega, List.pairwise_cons.2 ⟨fun j hj => by have := (hJ2 j hj).1; omega, hJ⟩, fun j hj => ?_⟩
      rw [List.mem_cons] at hj
      rcases hj with rfl | hj
      · omega
      · have := hJ2 j hj; omega
theorem ascF_of {n : Nat} : ∀ (J : List Nat) (b : Int), J.Pairwise (· < ·) → (∀ j ∈ J, b < (j : Int) ∧ j < n) → ascF n b (idxI J) = true
  | [], b, _, _ => rfl
  | j :: J, b, h, hj => by
    obtain ⟨h1, h2⟩ := List.pairwise_cons.1 h
    have := hj j (by simp)
    show ascF n b ((j : Int) :: idxI J) = true
    rw [ascF_on (by omega) (by omega)]
    exact ascF_of J j h2 fun i hi => ⟨by have := h1 i hi; omega, (hj i (by simp [hi])).2⟩
theorem idxI_inj {A B : List Nat} (h : idxI A = idxI B) : A = B := by
  have := congrArg (List.map Int.toNat) h
  simpa [idxI, Function.comp_def] using this
theorem idxI_mem {J : List Nat} {k : Nat} : (k : Int) ∈ idxI J ↔ k ∈ J := by
  simp only [idxI, List.mem_map]
  exact ⟨fun ⟨a, h, e⟩ => by have : a = k := by omega
                             rwa [← this], fun h => ⟨k, h, rfl⟩⟩
theorem grJ_mem {G : Gd} {Lw : List T2} {L : List P3} {k : Nat} : ∀ m, k + 1 ≤ m → (k ∈ grJ G Lw L m ↔ keptB G Lw (selL L (grJ G Lw L k ++ [k])) = true)
  | 0, h => absurd h (by omega)
  | m + 1, h => by
    have hk : k ∉ grJ G Lw L k := fun hk => by have := (grJ_asc G Lw L k).2 k hk; omega
    by_cases e : m = k
    · subst e
      cases hb : keptB G Lw (selL L (grJ G Lw L m ++ [m]))
      · rw [grJ_no hb]; simp [hk]
      · rw [grJ_yes hb]; simp
    · have ih := grJ_mem (G := G) (Lw := Lw) (L := L) (k := k) m (by omega)
      cases hb : keptB G Lw (selL L (grJ G Lw L m ++ [m]))
      · rw [grJ_no hb]; exact ih
      · rw [grJ_yes hb, List.mem_append]
        constructor
        · rintro (h1 | h1)
          · exact ih.1 h1
          · simp at h1; omega
        · exact fun h1 => .inl (ih.2 h1)
/-- What CheckGrant answers. -/
def ckV (G : Gd) (Lw : List T2) (L : List P3) (M : List Int) : Bool × Int := if prmB G Lw L = true then (decide (idxI (grJ G Lw L L.length) = M), 0) else (false, 1)
theorem ckV_no {G : Gd} {Lw : List T2} {L : List P3} (M : List Int) (h : prmB G Lw L = false) : ckV G Lw L M = (false, 1) := by simp [ckV, h]
theorem ckV_yes {G : Gd} {Lw : List T2} {L : List P3} (M : List Int) (h : prmB G Lw L = true) : ckV G Lw L M = (decide (idxI (grJ G Lw L L.length) = M), 0) := by simp [ckV, h]
/-- Numbers that are no indices: they are not those that were granted. -/
theorem ck_noind {G : Gd} {Lw : List T2} {L : List P3} {M : List Int} (h : ascF L.length (-1) M = false) : decide (idxI (grJ G Lw L L.length) = M) = false := by
  rw [decide_eq_false_iff_not]
  rintro rfl
  rw [ascF_of _ _ (grJ_asc G Lw L L.length).1 fun j hj => ⟨by omega, (grJ_asc G Lw L L.length).2 j hj⟩] at h
  cases h
/-- An index at which what was granted differs. -/
theorem ck_diff {G : Gd} {Lw : List T2} {L : List P3} {M : List Int} {k : Nat} (hk : k < L.length) (h : keptB G Lw (selL L (grJ G Lw L k ++ [k])) ≠ decide ((k : Int) ∈ M)) : decide (idxI (grJ G Lw L L.length) = M) = false := by
  rw [decide_eq_false_iff_not]
  rintro rfl
  refine h ?_
  have h1 := grJ_mem (G := G) (Lw := Lw) (L := L) (k := k) L.length (by omega)
  have h2 : (k : Int) ∈ idxI (grJ G Lw L L.length) ↔ k ∈ grJ G Lw L L.length := idxI_mem
  cases hb : keptB G Lw (selL L (grJ G Lw L k ++ [k]))
  · rw [hb] at h1
    simp [h2, h1]
  · rw [hb] at h1
    simp [h2, h1]
theorem ck_same {G : Gd} {Lw : List T2} {L : List P3} {M : List Int} (ha : ascF L.length (-1) M = true) (h : ∀ k, k < L.length → keptB G Lw (selL L (grJ G Lw L k ++ [k])) = decide ((k : Int) ∈ M)) : decide (idxI (grJ G Lw L L.length) = M) = true := by
  rw [decide_eq_true_eq]
  obtain ⟨J, rfl, hJ, hJ2⟩ := ascF_is M (-1) (by omega) ha
  congr 1
  refine asc_eq (grJ_asc G Lw L L.length).1 hJ fun j => ?_
  have h2 : ∀ j : Nat, (j : Int) ∈ idxI J ↔ j ∈ J := fun j => idxI_mem
  constructor
  · intro hj
    have hl := (grJ_asc G Lw L L.length).2 j hj
    have h1 := (grJ_mem (G := G) (Lw := Lw) (L := L) (k := j) L.length (by omega)).1 hj
    rw [h j hl] at h1
    exact (h2 j).1 (by simpa using h1)
  · intro hj
    have hl := (hJ2 j hj).2
    refine (grJ_mem (G := G) (Lw := Lw) (L := L) (k := j) L.length (by omega)).2 ?_
    rw [h j hl]
    simpa using (h2 j).2 hj
theorem neq_diff {op : Oper} {a : Act} {x y : Operand} {u v : Int} (ho : op.op = .binOp .neq 2 x y 2) (hx : a.eval x = .int .i64 u) (hy : a.eval y = .int .i64 v) (h : u ≠ v) (w : World) :
    (execOp a.eval op).run Tryz.prog w = .ok (.value (.bool true)) w := by
  unfold execOp
  simp only [ho, hx, hy]
  go_simp
set_option maxRecDepth 100000 in
set_option maxHeartbeats 2000000 in
theorem l00Same_any (p q : Option Addr) (c d : Nat) (A M : List Int) (hA : A.length ≤ 1048576) (hM : M.length ≤ 1048576) (w : World) (hp : IsAt w p A) (hq : IsAt w q M) :
    Calls Tryz.prog 69 #[.slice p A.length c, .slice q M.length d] w fun e w' => e = .returned (.bool (decide (A = M))) ∧ Below w.heap.size w w' := by
  by_cases hlen : A.length = M.length
  · have P0 := Lib.hid hp
    have Q0 := Lib.hid hq
    rw [← hlen] at hM ⊢
    obtain ⟨n, hn⟩ : ∃ n, A.length = n := ⟨_, rfl⟩
    have HN := Lib.hid hn
    have HMN := Lib.hid (hlen.symm.trans hn)
    rw [hn] at hA hM ⊢
    obtain ⟨R, hR⟩ : ∃ R, decide (A = M) = R := ⟨_, rfl⟩
    have HR := Lib.hid hR
    rw [hR]
    clear hp hq hn hlen hR
    go_enter Tryz.func69, Tryz.ntmps69
    go_upto_region 4 with (fail)
    go_loopw [5] (fun i wr => ∃ k : Nat, k ≤ n ∧ i = .int .i64 k ∧ Hid (∀ j : Nat, j < k → A[j]? = M[j]?) ∧ Hid (Below w.heap.size w wr)) (fun i _ => n - (intOf i).toNat)
    case atStart => exact ⟨0, by omega, rfl, Lib.hid (fun j hj => absurd hj (by omega)), Lib.hid (Below.refl _ _)⟩
    case round =>
      obtain ⟨k, hk, rfl, hsm, hB⟩ := hrel
      by_cases hlt : k < n
      · have hki : (k : Int) < n := by omega
        obtain ⟨e, he⟩ : ∃ e, A[k]? = some e := ⟨_, List.getElem?_eq_getElem (by rw [HN.out]; exact hlt)⟩
        obtain ⟨f, hf⟩ : ∃ f, M[k]? = some f := ⟨_, List.getElem?_eq_getElem (by rw [HMN.out]; exact hlt)⟩
        obtain ⟨b, o, rfl, c0⟩ := (P0.out.keep hB.out) k e he
        obtain ⟨b', o', rfl, c1⟩ := (Q0.out.keep hB.out) k f hf
        by_cases hne : e = f
        · subst hne
          have HS := Lib.hid (show ∀ j : Nat, j < k + 1 → A[j]? = M[j]? from fun j hj => by
            by_cases e2 : j = k
            · rw [e2, he, hf]
            · exact hsm.out j (by omega))
          clear he hf
          go_upto_region 6 with (fail)
          refine wp_region_calm (ops' := regOf Tryz.f69 6) [0, 1, 2, 3, 4, 5, 6, 7, 8] [] .fin (Below (wr.heap.size) wr) [(0, One (.slice (some ⟨b, o, none⟩) n c)), (1, One (.int .i64 (k : Int))), (2, One (.pointer (some ⟨b, o + k, none⟩))), (3, One (.int .i64 e)), (4, One (.slice (some ⟨b', o', none⟩) n d)), (5, One (.int .i64 (k : Int))), (6, One (.pointer (some ⟨b', o' + k, none⟩))), (7, One (.int .i64 e)), (8, One (.bool false))] (by kernel_rfl) (by kernel_rfl) (by kernel_rfl) (by kernel_rfl) (by kernel_rfl) (by kernel_rfl) (by kernel_rfl) (by kernel_rfl) rfl ((Below.refl _ _).drew) ?_
          refine calm_pure (some 17) (by kernel_rfl) (by kernel_rfl) (by kernel_rfl) (fun _ => by kernel_rfl) ?_
          refine calm_pure (some 18) (by kernel_rfl) (by kernel_rfl) (by kernel_rfl) (fun _ => by kernel_rfl) ?_
          refine calm_pure (some 19) (by kernel_rfl) (by kernel_rfl) (by kernel_rfl) (fun _ => (index_iz (n := n) (c := c) (k := k) (x := .tmp 17) (y := .tmp 18) (by kernel_rfl) (by kernel_rfl) (by kernel_rfl) hlt _)) ?_
          refine calm_read (some 20) (by kernel_rfl) (by kernel_rfl) (by kernel_rfl) (fun w' hw' => load_cell (ty := 2) (x := .tmp 19) (b := b) (o := o + k) (by kernel_rfl) (by kernel_rfl) Tryz.underlying2 rfl ((fun w' (hw' : Below (wr.heap.size) wr w') => (hw'.cell (p := ⟨b, o + k, none⟩) (World.block_lt_of_cell? wr _ c0)).trans c0) w' hw')) ?_
          refine calm_pure (some 21) (by kernel_rfl) (by kernel_rfl) (by kernel_rfl) (fun _ => by kernel_rfl) ?_
          refine calm_pure (some 22) (by kernel_rfl) (by kernel_rfl) (by kernel_rfl) (fun _ => by kernel_rfl) ?_
          refine calm_pure (some 23) (by kernel_rfl) (by kernel_rfl) (by kernel_rfl) (fun _ => (index_iz (n := n) (c := d) (k := k) (x := .tmp 21) (y := .tmp 22) (by kernel_rfl) (by kernel_rfl) (by kernel_rfl) hlt _)) ?_
          refine calm_read (some 24) (by kernel_rfl) (by kernel_rfl) (by kernel_rfl) (fun w' hw' => load_cell (ty := 2) (x := .tmp 23) (b := b') (o := o' + k) (by kernel_rfl) (by kernel_rfl) Tryz.underlying2 rfl ((fun w' (hw' : Below (wr.heap.size) wr w') => (hw'.cell (p := ⟨b', o' + k, none⟩) (World.block_lt_of_cell? wr _ c1)).trans c1) w' hw')) ?_
          refine calm_pure (some 25) (by kernel_rfl) (by kernel_rfl) (by kernel_rfl) (fun _ => (neq_same (x := .tmp 20) (y := .tmp 24) (v := e) (by kernel_rfl) (by kernel_rfl) (by kernel_rfl) _)) ?_
          refine calm_end fun w' hw' => plan_end (Clean.normal ?_)
          have HQ := Lib.hid (hB.out.trans (hw'.mono hB.out.size))
          clear hw' c0 c1
          simp only [Act.put, List.setIfInBounds_toArray, List.set_cons_zero, List.set_cons_succ]
          go_wp2
          go_roundw
          case rel => exact ⟨k + 1, by omega, by go_num, HS, HQ⟩
          case measure => simp [intOf]; omega
        · have HRF := Lib.hid (show R = false by rw [← HR.out, decide_eq_false_iff_not]; rintro rfl; rw [he] at hf; exact hne (Option.some.inj hf))
          clear he hf
          go_upto_region 6 with (fail)
          refine wp_region_calm (ops' := regOf Tryz.f69 6) [0, 1, 2, 3, 4, 5, 6, 7, 8] [] .fin (Below (wr.heap.size) wr) [(0, One (.slice (some ⟨b, o, none⟩) n c)), (1, One (.int .i64 (k : Int))), (2, One (.pointer (some ⟨b, o + k, none⟩))), (3, One (.int .i64 e)), (4, One (.slice (some ⟨b', o', none⟩) n d)), (5, One (.int .i64 (k : Int))), (6, One (.pointer (some ⟨b', o' + k, none⟩))), (7, One (.int .i64 f)), (8, One (.bool true))] (by kernel_rfl) (by kernel_rfl) (by kernel_rfl) (by kernel_rfl) (by kernel_rfl) (by kernel_rfl) (by kernel_rfl) (by kernel_rfl) rfl ((Below.refl _ _).drew) ?_
          refine calm_pure (some 17) (by kernel_rfl) (by kernel_rfl) (by kernel_rfl) (fun _ => by kernel_rfl) ?_
          refine calm_pure (some 18) (by kernel_rfl) (by kernel_rfl) (by kernel_rfl) (fun _ => by kernel_rfl) ?_
          refine calm_pure (some 19) (by kernel_rfl) (by kernel_rfl) (by kernel_rfl) (fun _ => (index_iz (n := n) (c := c) (k := k) (x := .tmp 17) (y := .tmp 18) (by kernel_rfl) (by kernel_rfl) (by kernel_rfl) hlt _)) ?_
          refine calm_read (some 20) (by kernel_rfl) (by kernel_rfl) (by kernel_rfl) (fun w' hw' => load_cell (ty := 2) (x := .tmp 19) (b := b) (o := o + k) (by kernel_rfl) (by kernel_rfl) Tryz.underlying2 rfl ((fun w' (hw' : Below (wr.heap.size) wr w') => (hw'.cell (p := ⟨b, o + k, none⟩) (World.block_lt_of_cell? wr _ c0)).trans c0) w' hw')) ?_
          refine calm_pure (some 21) (by kernel_rfl) (by kernel_rfl) (by kernel_rfl) (fun _ => by kernel_rfl) ?_
          refine calm_pure (some 22) (by kernel_rfl) (by kernel_rfl) (by kernel_rfl) (fun _ => by kernel_rfl) ?_
          refine calm_pure (some 23) (by kernel_rfl) (by kernel_rfl) (by kernel_rfl) (fun _ => (index_iz (n := n) (c := d) (k := k) (x := .tmp 21) (y := .tmp 22) (by kernel_rfl) (by kernel_rfl) (by kernel_rfl) hlt _)) ?_
          refine calm_read (some 24) (by kernel_rfl) (by kernel_rfl) (by kernel_rfl) (fun w' hw' => load_cell (ty := 2) (x := .tmp 23) (b := b') (o := o' + k) (by kernel_rfl) (by kernel_rfl) Tryz.underlying2 rfl ((fun w' (hw' : Below (wr.heap.size) wr w') => (hw'.cell (p := ⟨b', o' + k, none⟩) (World.block_lt_of_cell? wr _ c1)).trans c1) w' hw')) ?_
          refine calm_pure (some 25) (by kernel_rfl) (by kernel_rfl) (by kernel_rfl) (fun _ => (neq_diff (x := .tmp 20) (y := .tmp 24) (u := e) (v := f) (by kernel_rfl) (by kernel_rfl) (by kernel_rfl) hne _)) ?_
          refine calm_end fun w' hw' => plan_end (Clean.normal ?_)
          have HQ := Lib.hid (hB.out.trans (hw'.mono hB.out.size))
          clear hw' c0 c1
          simp only [Act.put, List.setIfInBounds_toArray, List.set_cons_zero, List.set_cons_succ]
          go_wp2
          go_ret
          exact ⟨by rw [HRF.out]; try rfl, HQ.out⟩
      · obtain rfl : k = n := by omega
        have hext : A = M := List.ext_getElem? fun j => by
          by_cases hj : j < k
          · exact hsm.out j hj
          · rw [List.getElem?_eq_none (by rw [HN.out]; omega), List.getElem?_eq_none (by rw [HMN.out]; omega)]
        have HRT := Lib.hid (show R = true by rw [← HR.out, decide_eq_true_eq]; exact hext)
        clear hext
        go_wp2
        go_ret
        exact ⟨by rw [HRT.out]; try rfl, hB.out⟩
  · have hd : decide (A = M) = false := by rw [decide_eq_false_iff_not]; rintro rfl; exact hlen rfl
    rw [hd]
    have hne : ((A.length : Int) == M.length) = false := by simp; omega
    obtain ⟨n, hn⟩ : ∃ n, A.length = n := ⟨_, rfl⟩
    obtain ⟨m, hm⟩ : ∃ m, M.length = m := ⟨_, rfl⟩
    rw [hn, hm] at hlen hne ⊢
    have hnm : (n : Int) ≠ m := by omega
    clear hp hq hn hm hA hM hd
    go_enter Tryz.func69, Tryz.ntmps69
    go_wp2
    go_ret
    exact ⟨rfl, Below.refl _ _⟩
set_option maxRecDepth 100000 in
set_option maxHeartbeats 2000000 in
theorem areInd_any (p : Option Addr) (c : Nat) (M : List Int) (hM : M.length ≤ 1048576) (n : Nat) (hn : n ≤ 1048576) (w : World) (hp : IsAt w p M) :
    Calls Tryz.prog 70 #[.slice p M.length c, .int .i64 (n : Int)] w fun e w' => e = .returned (.bool (ascF n (-1) M)) ∧ Below w.heap.size w w' := by
  have P0 := Lib.hid hp
  obtain ⟨m, hm⟩ : ∃ m, M.length = m := ⟨_, rfl⟩
  have HN := Lib.hid hm
  rw [hm] at hM ⊢
  obtain ⟨R, hR⟩ : ∃ R, ascF n (-1) M = R := ⟨_, rfl⟩
  have HR := Lib.hid hR
  rw [hR]
  clear hp hm hR
  go_enter Tryz.func70, Tryz.ntmps70
  go_upto_region 3 with (fail)
  go_loopw [10, 5] (fun i bb wr => ∃ (k : Nat) (b : Int), k ≤ m ∧ i = .int .i64 (k : Int) ∧ bb = .int .i64 b ∧ Hid (ascF n b (M.drop k) = R) ∧ Hid (Below w.heap.size w wr)) (fun i _ _ => m - (intOf i).toNat)
  case atStart => exact ⟨0, -1, by omega, rfl, rfl, HR, Lib.hid (Below.refl _ _)⟩
  case round =>
    obtain ⟨k, bf, hk, rfl, rfl, ha, hB⟩ := hrel
    by_cases hlt : k < m
    · have hki : (k : Int) < m := by omega
      obtain ⟨e, he⟩ : ∃ e, M[k]? = some e := ⟨_, List.getElem?_eq_getElem (by rw [HN.out]; exact hlt)⟩
      obtain ⟨b, o, rfl, c0⟩ := (P0.out.keep hB.out) k e he
      have HD := Lib.hid (drop_at he)
      clear he
      by_cases h1 : e ≤ bf
      · have HF := Lib.hid (show R = false by rw [← ha.out, HD.out, ascF_no (.inl h1)])
        go_wp2
        go_ret
        exact ⟨by rw [HF.out]; try rfl, hB.out⟩
      · by_cases h2 : (n : Int) ≤ e
        · have HF := Lib.hid (show R = false by rw [← ha.out, HD.out, ascF_no (.inr h2)])
          go_wp2
          go_ret
          exact ⟨by rw [HF.out]; try rfl, hB.out⟩
        · have HF := Lib.hid (show ascF n e (M.drop (k + 1)) = R by rw [← ha.out, HD.out, ascF_on (by omega) (by omega)])
          go_wp2
          go_roundw
          case rel => exact ⟨k + 1, e, by omega, by go_num, rfl, HF, hB⟩
          case measure => simp [intOf]; omega
    · obtain rfl : k = m := by omega
      have HF := Lib.hid (show R = true by rw [← ha.out, List.drop_eq_nil_of_le (by rw [HN.out]; exact Nat.le_refl _)]; rfl)
      go_wp2
      go_ret
      exact ⟨by rw [HF.out]; try rfl, hB.out⟩
set_option maxRecDepth 100000 in
set_option maxHeartbeats 2000000 in
theorem sidx_any (p : Option Addr) (c : Nat) (M : List Int) (hM : M.length ≤ 1048576) (x : Int) (w : World) (hp : IsAt w p M) :
    Calls Tryz.prog 102 #[.slice p M.length c, .int .i64 x] w fun e w' => ∃ r : Int, e = .returned (.int .i64 r) ∧ (0 ≤ r ↔ x ∈ M) ∧ Below w.heap.size w w' := by
  have P0 := Lib.hid hp
  obtain ⟨m, hm⟩ : ∃ m, M.length = m := ⟨_, rfl⟩
  have HN := Lib.hid hm
  rw [hm] at hM ⊢
  clear hp hm
  go_enter Tryz.func102, Tryz.ntmps102
  go_upto_region 2 with (fail)
  go_loopw [8] (fun i wr => ∃ (k : Nat), k ≤ m ∧ i = .int .i64 (k : Int) ∧ Hid (∀ j : Nat, j < k → M[j]? ≠ some x) ∧ Hid (Below w.heap.size w wr)) (fun i _ => m - (intOf i).toNat)
  case atStart => exact ⟨0, by omega, rfl, Lib.hid (fun j hj => absurd hj (by omega)), Lib.hid (Below.refl _ _)⟩
  case round =>
    obtain ⟨k, hk, rfl, ha, hB⟩ := hrel
    by_cases hlt : k < m
    · have hki : (k : Int) < m := by omega
      obtain ⟨e, he⟩ : ∃ e, M[k]? = some e := ⟨_, List.getElem?_eq_getElem (by rw [HN.out]; exact hlt)⟩
      obtain ⟨b, o, rfl, c0⟩ := (P0.out.keep hB.out) k e he
      by_cases h1 : x = e
      · subst h1
        have HM := Lib.hid (List.mem_of_getElem? he)
        clear he
        go_wp2
        go_ret
        exact ⟨k, rfl, ⟨fun _ => HM.out, fun _ => by omega⟩, hB.out⟩
      · have HA := Lib.hid (show ∀ j : Nat, j < k + 1 → M[j]? ≠ some x from fun j hj => by
          by_cases e2 : j = k
          · rw [e2, he]; exact fun h => h1 (Option.some.inj h).symm
          · exact ha.out j (by omega))
        clear he
        go_wp2
        go_roundw
        case rel => exact ⟨k + 1, by omega, by go_num, HA, hB⟩
        case measure => simp [intOf]; omega
    · obtain rfl : k = m := by omega
      go_wp2
      go_ret
      refine ⟨-1, rfl, ⟨fun h => absurd h (by decide), fun h => ?_⟩, hB.out⟩
      obtain ⟨j, hj, hx⟩ := List.getElem_of_mem h
      exact absurd (by rw [List.getElem?_eq_getElem hj, hx]) (ha.out j (by rw [← HN.out]; exact hj))
set_option maxRecDepth 100000 in
set_option maxHeartbeats 2000000 in
theorem scon_any (p : Option Addr) (c : Nat) (M : List Int) (hM : M.length ≤ 1048576) (x : Int) (w : World) (hp : IsAt w p M) :
    Calls Tryz.prog 71 #[.slice p M.length c, .int .i64 x] w fun e w' => e = .returned (.bool (decide (x ∈ M))) ∧ Below w.heap.size w w' := by
  have T := Lib.hid (sidx_any p c M hM x w hp)
  obtain ⟨R, hR⟩ : ∃ R, decide (x ∈ M) = R := ⟨_, rfl⟩
  have HR := Lib.hid hR
  rw [hR]
  obtain ⟨m, hm⟩ : ∃ m, M.length = m := ⟨_, rfl⟩
  rw [hm] at T ⊢
  clear hR hp hm
  go_enter Tryz.func71, Tryz.ntmps71
  go_wp2_with (go_at_call 102; refine T.out.mono ?_; rintro e V ⟨r, rfl, hr, hV⟩; have HRR := Lib.hid hr; have HV := Lib.hid hV; clear hr hV)
  go_ret
  refine ⟨?_, HV.out⟩
  rw [← HR.out]
  congr 2
  by_cases h : x ∈ M
  · simp [h, HRR.out.2 h]
  · have h2 : ¬ 0 ≤ r := fun h3 => h (HRR.out.1 h3)
    simp [h, h2]
theorem cellsI_is {w : World} {p : Option Addr} {J : List Nat} (h : CellsI w p J) : IsAt w p (idxI J) := fun k v hv => by
  simp only [idxI, List.getElem?_map, Option.map_eq_some_iff] at hv
  obtain ⟨j, hj, rfl⟩ := hv
  obtain ⟨b, h1, h2⟩ := h k j hj
  exact ⟨b, 0, h1, by rw [Nat.zero_add]; exact h2⟩
set_option maxRecDepth 100000 in
set_option maxHeartbeats 2000000 in
theorem specCk_any (G : Gd) (pw : Option Addr) (cw : Nat) (Lw : List T2) (hLw : Lw.length ≤ 1048576) (hOw : ∀ e ∈ Lw, okT2 e) (p : Option Addr) (c : Nat) (L : List P3) (hL : L.length ≤ 1048576) (hO : ∀ e ∈ L, okPQ e) (q : Option Addr) (d : Nat) (M : List Int) (hM : M.length ≤ 1048576) (w : World) (hpw : TsAt w pw Lw) (hp : PsAt w p L) (hq : IsAt w q M) (hG : GdOk G) :
    Calls Tryz.prog 38 #[.agg (OfA ⟨G, pw, Lw.length, cw⟩), .slice p L.length c, .slice q M.length d] w fun e w' => e = .returned (.tuple #[.bool (ckV G Lw L M).1, .int .i64 (ckV G Lw L M).2]) ∧ Below w.heap.size w w' := by
  obtain ⟨W, hW, hs, b1, hB⟩ := obox1 ⟨G, pw, Lw.length, cw⟩ 41 w
  have T := l07Fits_any G pw cw Lw hLw hOw p c L hL hO w.heap.size W b1.at' (by omega) (hpw.keep hB) (hp.keep hB) hG
  have HB := Lib.hid hB
  cases hpr : prmB G Lw L
  · rw [hpr] at T
    have T := Lib.hid T
    rw [ckV_no M hpr]
    obtain ⟨A, hA⟩ : ∃ A, OfA ⟨G, pw, Lw.length, cw⟩ = A := ⟨_, rfl⟩
    rw [hA] at hW ⊢
    obtain ⟨n, hn⟩ : ∃ n, L.length = n := ⟨_, rfl⟩
    obtain ⟨m, hm⟩ : ∃ m, M.length = m := ⟨_, rfl⟩
    rw [hn] at T ⊢
    rw [hm]
    clear b1 hs hp hB hA hn hpw hOw hO hpr hq hm
    go_enter Tryz.func38, Tryz.ntmps38
    go_upto_region 1 with (fail)
    try rw [hW]
    clear hW
    go_wp2_with (go_at_call 48; refine T.out.mono ?_; rintro e V ⟨rfl, hV⟩; have HV := Lib.hid (HB.out.trans (hV.mono HB.out.size)); clear hV)
    go_ret2
    exact ⟨rfl, HV.out⟩
  · rw [hpr] at T
    have T := Lib.hid T
    have hl : w.heap.size < W.heap.size := by omega
    have TG := Lib.hid (fun V (h : Below W.heap.size W V) => specGrant_any G pw cw Lw hLw p c L hpr hG w.heap.size V (b1.below h hl) ((hpw.keep hB).keep h) ((hp.keep hB).keep h))
    rw [ckV_yes M hpr]
    have hJ6 : (grJ G Lw L L.length).length ≤ 6 := by have h1 := (grJ_asc G Lw L L.length).len; have h2 := (prm_is hpr).2.1; omega
    obtain ⟨A, hA⟩ : ∃ A, OfA ⟨G, pw, Lw.length, cw⟩ = A := ⟨_, rfl⟩
    rw [hA] at hW ⊢
    obtain ⟨J, hJ⟩ : ∃ J, grJ G Lw L L.length = J := ⟨_, rfl⟩
    rw [hJ] at TG hJ6 ⊢
    obtain ⟨n, hn⟩ : ∃ n, L.length = n := ⟨_, rfl⟩
    rw [hn] at T TG ⊢
    have TS := Lib.hid (fun (g cap : Nat) V (h1 : IsAt V (some ⟨g, 0, none⟩) (idxI J)) (h2 : IsAt V q M) => l00Same_any (some ⟨g, 0, none⟩) q cap d (idxI J) M (by rw [idxI_len]; omega) hM V h1 h2)
    simp only [idxI_len] at TS
    have HQ := Lib.hid (fun V (h : Below W.heap.size W V) => (hq.keep hB).keep h)
    obtain ⟨m, hm⟩ : ∃ m, M.length = m := ⟨_, rfl⟩
    rw [hm] at TS ⊢
    obtain ⟨R, hR⟩ : ∃ R, decide (idxI J = M) = R := ⟨_, rfl⟩
    rw [hR] at TS ⊢
    obtain ⟨r, hr⟩ : ∃ r, J.length = r := ⟨_, rfl⟩
    rw [hr] at TG TS
    clear b1 hs hp hB hA hn hpw hOw hO hpr hJ hr hl hq hm hR hJ6
    go_enter Tryz.func38, Tryz.ntmps38
    go_upto_region 1 with (fail)
    try rw [hW]
    clear hW
    go_wp2_with (first | (go_at_call 48; refine T.out.mono ?_; rintro e V ⟨rfl, hV⟩; have HV := Lib.hid hV; clear hV) | (go_at_call 65; refine (TG.out _ HV.out).mono ?_; rintro e V2 ⟨g, cap, rfl, hc, hV⟩; have HC := Lib.hid (cellsI_is hc); have HV2 := Lib.hid (HV.out.trans (hV.mono HV.out.size)); clear hV hc) | (go_at_call 69; refine (TS.out g cap _ HC.out (HQ.out _ HV2.out)).mono ?_; rintro e V3 ⟨rfl, hV⟩; have HV3 := Lib.hid (HV2.out.trans (hV.mono HV2.out.size)); clear hV))
    go_ret2
    exact ⟨rfl, HB.out.trans (HV3.out.mono HB.out.size)⟩
end Go.Proofs.YtaghnminpfgdcaaGreatDoor
