/- The law FnExactFitsWithin of this commit: for every input the call returns true, and each argument reads afterwards as it read before. Condition: the five sentinel errors are as their initialisers lay them (the card ties them to the program's text). -/
import Derived.Test.YthacifhphoaioaaDoorInts
import Derived.Test.YthacifhphoaioaaDoorStr
import Derived.Test.YthacifhphoaioaaDoorWitE
import Derived.Test.YthacifhphoaioaaDoorCards
import Derived.Test.YthacifhphoaioaaDoorTie
import Derived.SevenTiedAt
namespace Go.Proofs.YthacifhphoaioaaDoor
open Go Go.ChangeShapes Go.WideShapes Go.ChangeAt Go.RowKit Go.Deep
set_option linter.unusedSimpArgs false
set_option linter.unusedVariables false
attribute [local go_sem] run_store_f32
theorem szReadingS_yes (p : Option Addr) (n c l : Nat) (h : n ≤ l) (hl : l ≤ 1048576) (w : World) : Calls Tryd.prog 21 #[.slice p n c, .int .i64 (l : Int)] w fun e w' => e = .returned (.int .i64 ((l : Int) - n)) ∧ w' = w := by
  go_enter Tryd.func21, Tryd.ntmps21
  go_wp2
  go_ret
  exact ⟨rfl, rfl⟩
theorem szReadingS_no (p : Option Addr) (n c l : Nat) (h : l < n) (hl : l ≤ 1048576) (hn : n ≤ maxLen) (w : World) : Calls Tryd.prog 21 #[.slice p n c, .int .i64 (l : Int)] w fun e w' => e = .returned (.int .i64 (-1)) ∧ w' = w := by
  unfold maxLen at hn
  go_enter Tryd.func21, Tryd.ntmps21
  go_wp2
  go_ret
  exact ⟨rfl, rfl⟩

theorem szAquiferS_yes (p : Option Addr) (n c l : Nat) (h : n ≤ l) (hl : l ≤ 1048576) (w : World) : Calls Tryd.prog 28 #[.slice p n c, .int .i64 (l : Int)] w fun e w' => e = .returned (.int .i64 ((l : Int) - n)) ∧ w' = w := by
  go_enter Tryd.func28, Tryd.ntmps28
  go_wp2
  go_ret
  exact ⟨rfl, rfl⟩
theorem szAquiferS_no (p : Option Addr) (n c l : Nat) (h : l < n) (hl : l ≤ 1048576) (hn : n ≤ maxLen) (w : World) : Calls Tryd.prog 28 #[.slice p n c, .int .i64 (l : Int)] w fun e w' => e = .returned (.int .i64 (-1)) ∧ w' = w := by
  unfold maxLen at hn
  go_enter Tryd.func28, Tryd.ntmps28
  go_wp2
  go_ret
  exact ⟨rfl, rfl⟩

set_option maxRecDepth 100000 in
set_option maxHeartbeats 1000000 in
theorem toReadingS_th (p : Option Addr) (c : Nat) (L : List R2) (hL : L.length ≤ 1048576) (w : World) (hp : RsAt w p L) :
    Calls Tryd.prog 23 #[.slice p L.length c] w fun e w' => ∃ b, e = .returned (.slice (some ⟨b, 0, none⟩) L.length L.length) ∧ w.heap.size ≤ b ∧ b < w'.heap.size ∧ RsAt w' (some ⟨b, 0, none⟩) L ∧ w'.there b 0 (L.length * 2) ∧ Below w.heap.size w w' := by
  have P0 := Lib.hid hp
  obtain ⟨n, hn⟩ : ∃ n, L.length = n := ⟨_, rfl⟩
  have HN := Lib.hid hn
  rw [hn] at hL ⊢
  obtain ⟨C, hC, hmk⟩ := makeRs n hL
  clear hp hn
  go_enter Tryd.func23, Tryd.ntmps23
  go_wp2
  go_loopw [4] (fun i wr => ∃ k : Nat, k ≤ n ∧ i = .int .i64 k ∧ Hid (wr.there w.heap.size 0 (n * 2)) ∧ Hid (w.heap.size < wr.heap.size) ∧ Hid (∀ j e, j < k → L[j]? = some e → wr.rangeAt w.heap.size (0 + j * 2) (r2 e)) ∧ Hid (Below w.heap.size w wr)) (fun i _ => n - (intOf i).toNat)
  case atStart =>
    exact ⟨0, by omega, rfl, Lib.hid (there_row (heap_alloc_last w _) hC), Lib.hid (by simp), Lib.hid (fun j _ hj => absurd hj (by omega)), Lib.hid ((Below.refl _ _).alloc (Nat.le_refl _) _)⟩
  case round =>
    obtain ⟨k, hk, rfl, hT, hS, hA, hB⟩ := hrel
    by_cases hlt : k < n
    · have hki : (k : Int) < n := by omega
      obtain ⟨e, he⟩ : ∃ e, L[k]? = some e := ⟨_, List.getElem?_eq_getElem (by rw [HN.out]; exact hlt)⟩
      obtain ⟨b, o, rfl, hr⟩ := (P0.out.keep hB.out) k e he
      have R1 := Lib.hid hr
      have HE := Lib.hid he
      have T0 := fun V => toReading_any e.1 e.2 V
      have c0 : wr.cell? ⟨b, o + k * 2, none⟩ = some (.int .i64 e.1) := hr 0 _ rfl
      have c1 : wr.cell? ⟨b, o + k * 2 + 1, none⟩ = some (.int .i16 e.2) := hr 1 _ rfl
      simp only [Rd] at T0
      clear hr he
      go_wp2_with (first | (go_at_call 57; refine (T0 _).mono ?_; rintro x V1 ⟨rfl, hq1⟩; have Q1 := Lib.hid hq1; have TH := Lib.hid (there_keep hT.out hS.out hq1); clear hq1 c0 c1) | (refine wpList_store_mid rfl 82 _ _ rfl w.heap.size (k * 2) #[.int .i64 e.1, .int .i16 e.2] rfl rfl (there_part TH.out (show k * 2 + 2 ≤ n * 2 by omega)) (by kernel_rfl) (rd_one e) ?_; obtain ⟨V2, hV2⟩ : ∃ V2, V1.setCells w.heap.size (k * 2) [.int .i64 e.1, .int .i16 e.2] = V2 := ⟨_, rfl⟩; try rw [hV2]; have HV := Lib.hid hV2; clear hV2))
      have HC := copiedR hlt hS.out hA.out hB.out HE.out Q1.out TH.out HV.out
      go_roundw
      case rel => exact ⟨k + 1, by omega, by go_num, Lib.hid HC.1, Lib.hid HC.2.1, Lib.hid HC.2.2.1, Lib.hid HC.2.2.2⟩
      case measure => simp [intOf]; omega
    · obtain rfl : k = n := by omega
      go_wp2
      go_ret
      exact ⟨_, rfl, Nat.le_refl _, hS.out, fun i e he => ⟨_, _, rfl, hA.out i e (by rw [← HN.out]; exact (List.getElem?_eq_some_iff.1 he).1) he⟩, hT.out, hB.out⟩
set_option maxRecDepth 100000 in
set_option maxHeartbeats 1000000 in
theorem toAquiferS_th (p : Option Addr) (c : Nat) (L : List A2) (hL : L.length ≤ 1048576) (w : World) (hp : AsAt w p L) :
    Calls Tryd.prog 30 #[.slice p L.length c] w fun e w' => ∃ b, e = .returned (.slice (some ⟨b, 0, none⟩) L.length L.length) ∧ w.heap.size ≤ b ∧ b < w'.heap.size ∧ AsAt w' (some ⟨b, 0, none⟩) L ∧ w'.there b 0 (L.length * 2) ∧ Below w.heap.size w w' := by
  have P0 := Lib.hid hp
  obtain ⟨n, hn⟩ : ∃ n, L.length = n := ⟨_, rfl⟩
  have HN := Lib.hid hn
  rw [hn] at hL ⊢
  obtain ⟨C, hC, hmk⟩ := makeAs n hL
  clear hp hn
  go_enter Tryd.func30, Tryd.ntmps30
  go_wp2
  go_loopw [4] (fun i wr => ∃ k : Nat, k ≤ n ∧ i = .int .i64 k ∧ Hid (wr.there w.heap.size 0 (n * 2)) ∧ Hid (w.heap.size < wr.heap.size) ∧ Hid (∀ j e, j < k → L[j]? = some e → wr.rangeAt w.heap.size (0 + j * 2) (a2 e)) ∧ Hid (Below w.heap.size w wr)) (fun i _ => n - (intOf i).toNat)
  case atStart =>
    exact ⟨0, by omega, rfl, Lib.hid (there_row (heap_alloc_last w _) hC), Lib.hid (by simp), Lib.hid (fun j _ hj => absurd hj (by omega)), Lib.hid ((Below.refl _ _).alloc (Nat.le_refl _) _)⟩
  case round =>
    obtain ⟨k, hk, rfl, hT, hS, hA, hB⟩ := hrel
    by_cases hlt : k < n
    · have hki : (k : Int) < n := by omega
      obtain ⟨e, he⟩ : ∃ e, L[k]? = some e := ⟨_, List.getElem?_eq_getElem (by rw [HN.out]; exact hlt)⟩
      obtain ⟨b, o, rfl, hr⟩ := (P0.out.keep hB.out) k e he
      have R1 := Lib.hid hr
      have HE := Lib.hid he
      have T0 := fun V => toAquifer_any e.1 e.2 V
      have c0 : wr.cell? ⟨b, o + k * 2, none⟩ = some (.float .f32 e.1) := hr 0 _ rfl
      have c1 : wr.cell? ⟨b, o + k * 2 + 1, none⟩ = some (.float .f32 e.2) := hr 1 _ rfl
      simp only [Aq] at T0
      clear hr he
      go_wp2_with (first | (go_at_call 12; refine (T0 _).mono ?_; rintro x V1 ⟨rfl, hq1⟩; have Q1 := Lib.hid hq1; have TH := Lib.hid (there_keep hT.out hS.out hq1); clear hq1 c0 c1) | (refine wpList_store_mid rfl 34 _ _ rfl w.heap.size (k * 2) #[.float .f32 e.1, .float .f32 e.2] rfl rfl (there_part TH.out (show k * 2 + 2 ≤ n * 2 by omega)) (by kernel_rfl) (aq_one e) ?_; obtain ⟨V2, hV2⟩ : ∃ V2, V1.setCells w.heap.size (k * 2) [.float .f32 e.1, .float .f32 e.2] = V2 := ⟨_, rfl⟩; try rw [hV2]; have HV := Lib.hid hV2; clear hV2))
      have HC := copiedA hlt hS.out hA.out hB.out HE.out Q1.out TH.out HV.out
      go_roundw
      case rel => exact ⟨k + 1, by omega, by go_num, Lib.hid HC.1, Lib.hid HC.2.1, Lib.hid HC.2.2.1, Lib.hid HC.2.2.2⟩
      case measure => simp [intOf]; omega
    · obtain rfl : k = n := by omega
      go_wp2
      go_ret
      exact ⟨_, rfl, Nat.le_refl _, hS.out, fun i e he => ⟨_, _, rfl, hA.out i e (by rw [← HN.out]; exact (List.getElem?_eq_some_iff.1 he).1) he⟩, hT.out, hB.out⟩
set_option maxRecDepth 100000 in
set_option maxHeartbeats 1000000 in
theorem markReadingS_big (b o n c k0 : Nat) (hn : n ≤ 1048576) (hk : k0 ≤ 4194304) (w : World) (ht : w.there b o (n * 2)) :
    Calls Tryd.prog 19 #[.slice (some ⟨b, o, none⟩) n c, .int .i64 (k0 : Int)] w fun e w' => e = .returned (.int .i64 ((k0 + 2 * n : Nat) : Int)) ∧ (∀ i, i < n → w'.rangeAt b (o + i * 2) (r2 (mkR (k0 + 2 * i)))) ∧ Below b w w' ∧ w'.heap.size = w.heap.size ∧ ∀ x, x ≠ b → w'.heap[x]? = w.heap[x]? := by
  have T0 := Lib.hid ht
  clear ht
  go_enter Tryd.func19, Tryd.ntmps19
  go_wp2
  go_loopw [5, 1] (fun i kk wr => ∃ k : Nat, k ≤ n ∧ i = .int .i64 k ∧ kk = .int .i64 ((k0 + 2 * k : Nat) : Int) ∧ Hid (wr.there b o (n * 2)) ∧ Hid (∀ j, j < k → wr.rangeAt b (o + j * 2) (r2 (mkR (k0 + 2 * j)))) ∧ Hid (Below b w wr ∧ wr.heap.size = w.heap.size) ∧ Hid (∀ x, x ≠ b → wr.heap[x]? = w.heap[x]?)) (fun i _ _ => n - (intOf i).toNat)
  case atStart => exact ⟨0, by omega, rfl, rfl, T0, Lib.hid (fun j hj => absurd hj (by omega)), Lib.hid ⟨Below.refl _ _, rfl⟩, Lib.hid (fun _ _ => rfl)⟩
  case round =>
    obtain ⟨k, hk, rfl, rfl, hT, hA, hB, hF⟩ := hrel
    by_cases hlt : k < n
    · have hki : (k : Int) < n := by omega
      obtain ⟨u0, hu0⟩ := Option.isSome_iff_exists.1 (hT.out (k * 2) (by omega)).1
      obtain ⟨u1, hu1⟩ := Option.isSome_iff_exists.1 (hT.out (k * 2 + 1) (by omega)).1
      have f0 := (hT.out (k * 2) (by omega)).2
      have f1 := (hT.out (k * 2 + 1) (by omega)).2
      simp only [← Nat.add_assoc] at hu1 f1
      go_wp2
      have HC := @markedR w wr _ b o n k k0 hlt hT.out hA.out hB.out hF.out rfl
      simp only [← mkR_set, mkR, Int.natCast_add, Int.natCast_mul, Int.cast_ofNat_Int] at HC
      go_roundw
      case rel => exact ⟨k + 1, by omega, by go_num, by go_num, Lib.hid HC.1, Lib.hid HC.2.1, Lib.hid HC.2.2.1, Lib.hid HC.2.2.2⟩
      case measure => simp [intOf]; omega
    · obtain rfl : k = n := by omega
      go_wp2
      go_ret
      exact ⟨rfl, hA.out, hB.out.1, hB.out.2, hF.out⟩


theorem there_same {w w' : World} {b n : Nat} (h : w.there b 0 n) (hh : w'.heap[b]? = w.heap[b]?) : w'.there b 0 n := fun j hj => by
  have := h j hj
  unfold World.cell? World.frozen? at this ⊢
  rw [hh]
  exact this
theorem OwnI.same {w w' : World} {p : Option Addr} {cap B : Nat} {xs : List Nat} (h : OwnI w p cap xs B) (hh : ∀ x, B ≤ x → w'.heap[x]? = w.heap[x]?) : OwnI w' p cap xs B := by
  rcases h with h | ⟨g, h1, h2, h3⟩
  · exact .inl h
  · exact .inr ⟨g, h1, h2.kept (hh g h3), h3⟩
theorem OwnI.row {w : World} {p : Option Addr} {cap B : Nat} {xs : List Nat} (h : OwnI w p cap xs B) (hne : xs ≠ []) : ∃ g, p = some ⟨g, 0, none⟩ ∧ VRow w 2 g cap (xs.map IV) ∧ B ≤ g := by
  rcases h with ⟨_, _, h⟩ | h
  · exact absurd h hne
  · exact h
theorem CellsI.keep {w w' : World} {p : Option Addr} {xs : List Nat} (h : CellsI w p xs) (hB : Below w.heap.size w w') : CellsI w' p xs := fun i v hv => by
  obtain ⟨b, h1, h2⟩ := h i v hv
  exact ⟨b, h1, (hB.cell (p := ⟨b, i, none⟩) (World.block_lt_of_cell? w _ h2)).trans h2⟩
theorem VRow.there {w : World} {e : TypeId} {g cap : Nat} {xs : List Value} (h : VRow w e g cap xs) : w.there g 0 xs.length := fun j hj => by
  have hc := h.cell j _ (List.getElem?_eq_getElem hj)
  obtain ⟨cur, h1, _⟩ := h
  rw [Nat.zero_add]
  exact ⟨by rw [hc]; rfl, frozen_of_row w g j _ _ h1⟩
theorem marksI_keep {w w' : World} {b n : Nat} {f : Nat → Int} (h : ∀ i, i < n → w.cell? ⟨b, i, none⟩ = some (.int .i64 (f i))) (hb : b < w.heap.size) (hB : Below w.heap.size w w') : ∀ i, i < n → w'.cell? ⟨b, i, none⟩ = some (.int .i64 (f i)) := fun i hi => (hB.cell (p := ⟨b, i, none⟩) hb).trans (h i hi)
set_option maxRecDepth 100000 in
set_option maxHeartbeats 2000000 in
theorem fnExactFitsWithin_farG (pg : Option Addr) (m cg : Nat) (X Y : Int) (R : Nat) (x y : Int) (v v' : Value) (hn : 1048576 < m) (hx : m ≤ maxLen) (w : World) : Calls Tryd.prog 8 #[.slice pg m cg, .agg (Ste X Y R x y), v, v'] w fun e w' => e = .returned (.bool true) ∧ Below w.heap.size w w' := by
  have T := fun V => szAquiferS_no pg m cg 1048576 hn (by omega) hx V
  clear hn hx
  go_enter Tryd.func8, Tryd.ntmps8
  go_wp2_with (go_at_call 28; refine (T _).mono ?_; rintro e V ⟨rfl, hV⟩; rw [hV]; clear hV)
  go_ret
  exact ⟨rfl, (Below.refl _ _).alloc (Nat.le_refl _) _⟩
set_option maxRecDepth 100000 in
set_option maxHeartbeats 2000000 in
theorem fnExactFitsWithin_farL (pg : Option Addr) (m cg : Nat) (X Y : Int) (R : Nat) (x y : Int) (p : Option Addr) (n c : Nat) (bd : Nat) (hm : m ≤ 1048576) (hn : 1048576 - m < n) (hx : n ≤ maxLen) (w : World) : Calls Tryd.prog 8 #[.slice pg m cg, .agg (Ste X Y R x y), .slice p n c, .float .f32 bd] w fun e w' => e = .returned (.bool true) ∧ Below w.heap.size w w' := by
  have T := fun V => szAquiferS_yes pg m cg 1048576 hm (by omega) V
  have T' := fun V => szReadingS_no p n c (1048576 - m) hn (by omega) hx V
  have e1 : ((1048576 : Nat) : Int) - (m : Int) = ((1048576 - m : Nat) : Int) := by omega
  simp only [e1] at T
  obtain ⟨l, hl⟩ : ∃ l, 1048576 - m = l := ⟨_, rfl⟩
  rw [hl] at T T'
  have hl2 : l ≤ 1048576 := by omega
  clear hn hx hm hl e1
  go_enter Tryd.func8, Tryd.ntmps8
  go_wp2_with (first | (go_at_call 28; refine (T _).mono ?_; rintro e V ⟨rfl, hV⟩; rw [hV]; clear hV) | (go_at_call 21; refine (T' _).mono ?_; rintro e V ⟨rfl, hV⟩; rw [hV]; clear hV))
  go_ret
  exact ⟨rfl, (Below.refl _ _).alloc (Nat.le_refl _) _⟩

set_option maxRecDepth 100000 in
set_option maxHeartbeats 4000000 in
theorem fnExactFitsWithin_near {s : Nat → Addr} (pg : Option Addr) (cg : Nat) (G : List A2) (X Y : Int) (R : Nat) (x y : Int) (p : Option Addr) (c : Nat) (L : List R2) (bd : Nat) (hX : -128 ≤ X ∧ X ≤ 127) (hY : -128 ≤ Y ∧ Y ≤ 127) (hx : -128 ≤ x ∧ x ≤ 127) (hy : -128 ≤ y ∧ y ≤ 127) (hok : ∀ a ∈ G, okA a) (hO : ∀ e ∈ L, -32768 ≤ e.2 ∧ e.2 ≤ 32767) (hm : G.length ≤ 1048576) (hnn : L.length ≤ 1048576 - G.length) (hne : ¬ (ftL G R X Y x y L bd (gueK (gueB G X Y R x y L) G.length)) = []) (w : World) (hg : AsAt w pg G) (hp : RsAt w p L) (hS : Sents w s) : Calls Tryd.prog 8 #[.slice pg G.length cg, .agg (Ste X Y R x y), .slice p L.length c, .float .f32 bd] w fun e w' => e = .returned (.bool true) ∧ Below w.heap.size w w' := by
  have hn : L.length ≤ 1048576 := by omega
  have TG := fun V => szAquiferS_yes pg G.length cg 1048576 hm (by omega) V
  have TZ := fun V => szReadingS_yes p L.length c (1048576 - G.length) hnn (by omega) V
  have e1 : ((1048576 : Nat) : Int) - (G.length : Int) = ((1048576 - G.length : Nat) : Int) := by omega
  have e2 : ((1048576 - G.length : Nat) : Int) - (L.length : Int) = ((1048576 - G.length - L.length : Nat) : Int) := by omega
  simp only [e1] at TG
  simp only [e2] at TZ
  obtain ⟨lz, hl⟩ : ∃ l, 1048576 - G.length = l := ⟨_, rfl⟩
  rw [hl] at TG TZ
  obtain ⟨lz', hl'⟩ : ∃ l', lz - L.length = l' := ⟨_, rfl⟩
  rw [hl'] at TZ
  have hl2 : lz ≤ 1048576 := by omega
  have hl3 : lz' ≤ 1048576 := by omega
  have hxl : (ftL G R X Y x y L bd (gueK (gueB G X Y R x y L) G.length)).length ≤ 20 := by
    unfold ftL
    split
    · rename_i h
      exact Nat.le_trans (fitI_len _ _ _) (gueK_none h).2.2
    · simp
  obtain ⟨kk, hk⟩ : ∃ kk, codeE (gueK (gueB G X Y R x y L) G.length) = kk := ⟨_, rfl⟩
  obtain ⟨xs, hxs⟩ : ∃ xs, (ftL G R X Y x y L bd (gueK (gueB G X Y R x y L) G.length)) = xs := ⟨_, rfl⟩
  have T3 := Lib.hid (fun (pg : Option Addr) (cg : Nat) (p : Option Addr) (c : Nat) (V : World) (h0 : AsAt V pg G) (h1 : RsAt V p L) => specFW_any pg cg G hm X Y R x y p c L hn hX hY hx hy bd hok hO V h0 h1)
  have T4 := Lib.hid (fun (pg : Option Addr) (cg : Nat) (p : Option Addr) (c : Nat) (V : World) (h0 : AsAt V pg G) (h1 : RsAt V p L) (h2 : Sents V s) => implFW_any pg cg G hm X Y R x y p c L hn hX hY hx hy bd hok V h0 h1 h2)
  rw [hk, hxs] at T3 T4
  rw [hxs] at hxl hne
  obtain ⟨l, hll⟩ : ∃ l, xs.length = l := ⟨_, rfl⟩
  rw [hll] at T3 T4 hxl
  have TEI := Lib.hid (fun (p q : Option Addr) (c d : Nat) (V : World) (h1 : CellsI V p xs) (h2 : CellsI V q xs) => eqInt64S_yes p q c d xs (by omega) V h1 h2)
  rw [hll] at TEI
  have TOH := Lib.hid (fun (V : World) (h : RsAt V p L) => toReadingS_th p c L hn V h)
  have TEQ := Lib.hid (fun (p q : Option Addr) (c d : Nat) (V : World) (h1 : RsAt V p L) (h2 : RsAt V q L) => eqReadingS_yes p q c d L hn V h1 h2)
  have TAH := Lib.hid (fun (V : World) (h : AsAt V pg G) => toAquiferS_th pg cg G hm V h)
  have TEA := Lib.hid (fun (p q : Option Addr) (c d : Nat) (V : World) (h1 : AsAt V p G) (h2 : AsAt V q G) => eqAquiferS_yes p q c d G hm V h1 h2)
  obtain ⟨m, hmm⟩ : ∃ m, G.length = m := ⟨_, rfl⟩
  obtain ⟨n, hnn'⟩ : ∃ n, L.length = n := ⟨_, rfl⟩
  rw [hmm, hnn'] at T3 T4
  rw [hnn'] at TOH TEQ TZ hn ⊢
  rw [hmm] at TAH TEA TG hm ⊢
  have TMA := Lib.hid (fun (b c : Nat) (V : World) (ht : V.there b 0 (m * 2)) => show Calls Tryd.prog 38 #[.slice (some ⟨b, 0, none⟩) m c, .int .i64 1] V fun e w' => ∃ K : Int, K = ((1 + 2 * m : Nat) : Int) ∧ e = .returned (.int .i64 K) ∧ Below b V w' ∧ w'.heap.size = V.heap.size ∧ ∀ x, x ≠ b → w'.heap[x]? = V.heap[x]? from
    (markAquiferS_any b 0 m c 1 hm (by omega) V ht).mono fun e w' h => ⟨_, rfl, h.1, h.2.2⟩)
  have TMR := Lib.hid (fun (b c : Nat) (V : World) (K1 : Int) (hK : K1 = ((1 + 2 * m : Nat) : Int)) (ht : V.there b 0 (n * 2)) => show Calls Tryd.prog 19 #[.slice (some ⟨b, 0, none⟩) n c, .int .i64 K1] V fun e w' => ∃ K : Int, 0 ≤ K ∧ e = .returned (.int .i64 K) ∧ Below b V w' ∧ w'.heap.size = V.heap.size ∧ ∀ x, x ≠ b → w'.heap[x]? = V.heap[x]? from by
    subst hK
    exact (markReadingS_big b 0 n c (1 + 2 * m) hn (by omega) V ht).mono fun e w' h => ⟨_, by omega, h.1, h.2.2⟩)
  have HNE := Lib.hid hne
  have TMI := Lib.hid (fun (b c : Nat) (V : World) (ht : V.there b 0 (xs.map IV).length) => show Calls Tryd.prog 18 #[.slice (some ⟨b, 0, none⟩) l c, .int .i64 1] V fun e w' => ∃ K : Int, (0 ≤ K ∧ K = ((1 + l : Nat) : Int)) ∧ e = .returned (.int .i64 K) ∧ (∀ i, i < l → w'.cell? ⟨b, i, none⟩ = some (.int .i64 ((1 + i : Nat) : Int))) ∧ Below b V w' ∧ w'.heap.size = V.heap.size from
    (markInt64S_any b l c 1 (by omega) (by omega) V (by rw [List.length_map, hll] at ht; exact ht)).mono fun e w' h => ⟨_, ⟨by omega, rfl⟩, h.1, h.2⟩)
  have THI := Lib.hid (fun (b c : Nat) (V : World) (K : Int) (hK : 0 ≤ K ∧ K = ((1 + l : Nat) : Int)) (hA : ∀ i, i < l → V.cell? ⟨b, i, none⟩ = some (.int .i64 ((1 + i : Nat) : Int))) => show Calls Tryd.prog 39 #[.slice (some ⟨b, 0, none⟩) l c, .int .i64 1] V fun e w' => e = .returned (.int .i64 K) ∧ Below V.heap.size V w' from
    (heldInt64S_any b l c 1 (by omega) (by omega) V hA).mono fun e w' h => ⟨by rw [h.1, hK.2], h.2⟩)
  obtain ⟨z, b0⟩ := laid1 w (.cells (Ste X Y R x y) 29)
  have B0 : Below w.heap.size w (w.alloc (.cells (Ste X Y R x y) 29)) := (Below.refl _ _).alloc (Nat.le_refl _) _
  obtain ⟨W, hW⟩ : ∃ W, (w.alloc (.cells (Ste X Y R x y) 29)) = W := ⟨_, rfl⟩
  rw [hW] at z b0 B0
  have R0 := Lib.hid (rangeAt_row b0)
  have BW := Lib.hid B0
  have hb1 := Lib.hid (show w.heap.size < W.heap.size by rw [z]; omega)
  have HS := Lib.hid hS
  have PA0 := Lib.hid hp
  have GA0 := Lib.hid hg
  clear hp hg e1 e2 hl hl' hnn hS hk hmm hnn' hll hxs b0 B0 z hO hok hne
  go_enter Tryd.func8, Tryd.ntmps8
  go_upto_region 1 with (fail)
  try rw [hW]
  clear hW
  have BX : Below W.heap.size W W.drew := (Below.refl _ _).drew
  go_wp2_with (first | (go_at_call 28; refine (TG _).mono ?_; rintro e V ⟨rfl, hV⟩; rw [hV]; clear hV) | (go_at_call 21; refine (TZ _).mono ?_; rintro e V ⟨rfl, hV⟩; rw [hV]; clear hV))
  refine wp_region_plan (ops' := regOf Tryd.f8 8) (.take 0 (.take 2 (.take 4 (.take 6 (.run 1 (.run 3 (.run 5 (.run 7 (.take 8 (.take 9 (.take 10 (.take 11 (.take 12 .fin))))))))))))) (Below W.heap.size W) (by kernel_rfl) (by kernel_rfl) (by kernel_rfl) (by kernel_rfl) (by kernel_rfl) BX ?_
  refine plan_pure (some 32) (.slice pg m cg) (by kernel_rfl) (by kernel_rfl) (by kernel_rfl) (fun _ => (by kernel_rfl)) ?_
  refine plan_load (some 34) 29 (.tmp 5) w.heap.size 0 _ _ (by kernel_rfl) (by kernel_rfl) (by kernel_rfl) (by kernel_rfl) (by kernel_rfl) (fun w' hw' => range_kept R0.out hb1.out _ hw') Tryd.underlying29 rfl (by kernel_rfl) ?_
  refine plan_pure (some 36) (.slice p n c) (by kernel_rfl) (by kernel_rfl) (by kernel_rfl) (fun _ => (by kernel_rfl)) ?_
  refine plan_pure (some 38) (.float .f32 bd) (by kernel_rfl) (by kernel_rfl) (by kernel_rfl) (fun _ => (by kernel_rfl)) ?_
  refine plan_call (some 33) 30 #[.slice pg m cg] (by kernel_rfl) (by kernel_rfl) (by kernel_rfl) (by kernel_rfl) (Calls.mono (TAH.out _ (GA0.out.keep (BW.out.trans (BX.mono BW.out.size)))) ?_)
  rintro _ Va ⟨b1, rfl, _, _, y1, _, ha⟩
  have BXa := BX.trans (ha.mono BX.size)
  refine ⟨_, rfl, BXa, ?_⟩
  refine plan_call (some 35) 13 #[.agg (Ste X Y R x y)] (by kernel_rfl) (by kernel_rfl) (by kernel_rfl) (by kernel_rfl) (Calls.mono (toSite_any X Y R x y _) ?_)
  rintro _ Vb ⟨rfl, hb⟩
  have BXb := BXa.trans (hb.mono BXa.size)
  refine ⟨_, rfl, BXb, ?_⟩
  refine plan_call (some 37) 23 #[.slice p n c] (by kernel_rfl) (by kernel_rfl) (by kernel_rfl) (by kernel_rfl) (Calls.mono (TOH.out _ (PA0.out.keep (BW.out.trans (BXb.mono BW.out.size)))) ?_)
  rintro _ Vc ⟨b2, rfl, _, _, x1, _, hc⟩
  have BXc := BXb.trans (hc.mono BXb.size)
  refine ⟨_, rfl, BXc, ?_⟩
  refine plan_call (some 39) 36 #[.slice (some ⟨b1, 0, none⟩) m m, .agg (Ste X Y R x y), .slice (some ⟨b2, 0, none⟩) n n, .float .f32 bd] (by kernel_rfl) (by kernel_rfl) (by kernel_rfl) (by kernel_rfl) (Calls.mono (T3.out _ _ _ _ _ (y1.keep (hb.trans (hc.mono hb.size))) x1) ?_)
  rintro _ Vd ⟨pw, cw, rfl, ow, hd⟩
  have BXd := BXc.trans (hd.mono BXc.size)
  refine ⟨_, rfl, BXd, ?_⟩
  refine plan_pure (some 31) (.tuple #[.slice pw l cw, .int .i64 kk]) (by kernel_rfl) (by kernel_rfl) (by kernel_rfl) (fun _ => (by kernel_rfl)) ?_
  refine plan_pure (some 40) (.slice pw l cw) (by kernel_rfl) (by kernel_rfl) (by kernel_rfl) (fun _ => (by kernel_rfl)) ?_
  refine plan_pure (some 41) (.int .i64 kk) (by kernel_rfl) (by kernel_rfl) (by kernel_rfl) (fun _ => (by kernel_rfl)) ?_
  refine plan_pure (some 10) (.slice pw l cw) (by kernel_rfl) (by kernel_rfl) (by kernel_rfl) (fun _ => (by kernel_rfl)) ?_
  refine plan_pure (some 11) (.int .i64 kk) (by kernel_rfl) (by kernel_rfl) (by kernel_rfl) (fun _ => (by kernel_rfl)) ?_
  refine plan_end (NoPanic.normal ?_)
  have FW := Lib.hid ow.cells
  have BD := Lib.hid BXd
  have B2 := Lib.hid (Below.refl Vd.heap.size Vd)
  clear ow BXd BXc BXb BXa BX ha hb hc hd x1 y1
  simp only [Act.put, List.setIfInBounds_toArray, List.set_cons_zero, List.set_cons_succ]
  have t1 : True := trivial
  have t2 : True := trivial
  have t3 : True := trivial
  have t4 : True := trivial
  have t5 : True := trivial
  have t6 : True := trivial
  have t7 : True := trivial
  have t8 : True := trivial
  have t9 : True := trivial
  have t10 : True := trivial
  have t11 : True := trivial
  have t12 : True := trivial
  have t13 : True := trivial
  have t14 : True := trivial
  have t15 : True := trivial
  have t16 : True := trivial
  go_upto_region 11 with (first | (have _t := t1; go_at_call 30; refine (TAH.out _ (GA0.out.keep (BW.out.trans (BD.out.mono BW.out.size)))).mono ?_; rintro e V1 ⟨b3, rfl, hx1, hx2, x1, y1, hB1⟩; have BW1_1 := Lib.hid (BD.out.trans (hB1.mono BD.out.size)); have B2_1 := Lib.hid (B2.out.trans (hB1.mono B2.out.size)); have h3w := Lib.hid (Nat.le_trans BD.out.size hx1); have h3b := Lib.hid (Nat.le_trans B2.out.size hx1); have h3s := Lib.hid hx2; have FX := Lib.hid x1; have TX := Lib.hid y1; have B3 := Lib.hid (Below.refl V1.heap.size V1); clear t1 hB1 BD B2 x1 y1 hx1 hx2) | (have _t := t2; go_at_call 23; refine (TOH.out _ (PA0.out.keep (BW.out.trans (BW1_1.out.mono BW.out.size)))).mono ?_; rintro e V2 ⟨b4, rfl, hx1, hx2, x1, y1, hB2⟩; have BW1_2 := Lib.hid (BW1_1.out.trans (hB2.mono BW1_1.out.size)); have B2_2 := Lib.hid (B2_1.out.trans (hB2.mono B2_1.out.size)); have B3_2 := Lib.hid (B3.out.trans (hB2.mono B3.out.size)); have h34 := Lib.hid (Nat.lt_of_lt_of_le h3s.out hx1); have h4s := Lib.hid hx2; have FY := Lib.hid x1; have TY := Lib.hid y1; have B4 := Lib.hid (Below.refl V2.heap.size V2); clear t2 hB2 BW1_1 B2_1 B3 x1 y1 hx1 hx2))
  have r0 := range_kept R0.out hb1.out _ BW1_2.out
  go_upto_region 12 with (first | (refine wpList_load_mid rfl 29 _ rfl w.heap.size 0 rfl (Ste X Y R x y).toList _ r0 Tryd.underlying29 rfl (by kernel_rfl) ?_; try rw [Array.toArray_toList]) | (have _t := t3; go_at_call 13; refine (toSite_any X Y R x y _).mono ?_; rintro e V3 ⟨rfl, hB3⟩; have BW1_3 := Lib.hid (BW1_2.out.trans (hB3.mono BW1_2.out.size)); have B2_3 := Lib.hid (B2_2.out.trans (hB3.mono B2_2.out.size)); have B3_3 := Lib.hid (B3_2.out.trans (hB3.mono B3_2.out.size)); have B4_3 := Lib.hid (B4.out.trans (hB3.mono B4.out.size)); clear t3 hB3 BW1_2 B2_2 B3_2 B4 r0) | (have _t := t4; go_at_call 37; refine (T4.out _ _ _ _ _ (FX.out.keep B3_3.out) (FY.out.keep B4_3.out) (HS.out.keep (BW.out.trans (BW1_3.out.mono BW.out.size)))).mono ?_; rintro e V4 ⟨pq, cq, rfl, oq, hB4⟩; have BW1_4 := Lib.hid (BW1_3.out.trans (hB4.mono BW1_3.out.size)); have B2_4 := Lib.hid (B2_3.out.trans (hB4.mono B2_3.out.size)); have B3_4 := Lib.hid (B3_3.out.trans (hB4.mono B3_3.out.size)); have B4_4 := Lib.hid (B4_3.out.trans (hB4.mono B4_3.out.size)); have OQ := Lib.hid oq; have h3q := Lib.hid (show b3 < V3.heap.size from Nat.lt_of_lt_of_le h3s.out B3_3.out.size); have h4q := Lib.hid (show b4 < V3.heap.size from Nat.lt_of_lt_of_le h4s.out B4_3.out.size); have B6 := Lib.hid (Below.refl V4.heap.size V4); clear t4 hB4 BW1_3 B2_3 B3_3 B4_3 oq))
  go_upto_region 31 with (first | (have _t := t5; go_at_call 17; refine (TEI.out _ _ _ _ _ (OQ.out.cells.keep B6.out) (FW.out.keep B2_4.out)).mono ?_; rintro e V5 ⟨rfl, hB5⟩; have BW1_5 := Lib.hid (BW1_4.out.trans (hB5.mono BW1_4.out.size)); have B2_5 := Lib.hid (B2_4.out.trans (hB5.mono B2_4.out.size)); have B3_5 := Lib.hid (B3_4.out.trans (hB5.mono B3_4.out.size)); have B4_5 := Lib.hid (B4_4.out.trans (hB5.mono B4_4.out.size)); have B6_5 := Lib.hid (B6.out.trans (hB5.mono B6.out.size)); clear t5 hB5 BW1_4 B2_4 B3_4 B4_4 B6) | (have _t := t6; go_at_call 30; refine (TAH.out _ (GA0.out.keep (BW.out.trans (BW1_5.out.mono BW.out.size)))).mono ?_; rintro e V6 ⟨b5, rfl, _, _, x1, _, hB6⟩; have BW1_6 := Lib.hid (BW1_5.out.trans (hB6.mono BW1_5.out.size)); have B2_6 := Lib.hid (B2_5.out.trans (hB6.mono B2_5.out.size)); have B3_6 := Lib.hid (B3_5.out.trans (hB6.mono B3_5.out.size)); have B4_6 := Lib.hid (B4_5.out.trans (hB6.mono B4_5.out.size)); have B6_6 := Lib.hid (B6_5.out.trans (hB6.mono B6_5.out.size)); have ZA := Lib.hid x1; clear t6 hB6 BW1_5 B2_5 B3_5 B4_5 B6_5 x1) | (have _t := t7; go_at_call 32; refine (TEA.out _ _ _ _ _ (FX.out.keep B3_6.out) ZA.out).mono ?_; rintro e V7 ⟨rfl, hB7⟩; have BW1_7 := Lib.hid (BW1_6.out.trans (hB7.mono BW1_6.out.size)); have B2_7 := Lib.hid (B2_6.out.trans (hB7.mono B2_6.out.size)); have B3_7 := Lib.hid (B3_6.out.trans (hB7.mono B3_6.out.size)); have B4_7 := Lib.hid (B4_6.out.trans (hB7.mono B4_6.out.size)); have B6_7 := Lib.hid (B6_6.out.trans (hB7.mono B6_6.out.size)); clear t7 hB7 BW1_6 B2_6 B3_6 B4_6 B6_6 ZA FX) | (have _t := t8; go_at_call 23; refine (TOH.out _ (PA0.out.keep (BW.out.trans (BW1_7.out.mono BW.out.size)))).mono ?_; rintro e V8 ⟨b6, rfl, _, _, x1, _, hB8⟩; have BW1_8 := Lib.hid (BW1_7.out.trans (hB8.mono BW1_7.out.size)); have B2_8 := Lib.hid (B2_7.out.trans (hB8.mono B2_7.out.size)); have B3_8 := Lib.hid (B3_7.out.trans (hB8.mono B3_7.out.size)); have B4_8 := Lib.hid (B4_7.out.trans (hB8.mono B4_7.out.size)); have B6_8 := Lib.hid (B6_7.out.trans (hB8.mono B6_7.out.size)); have ZB := Lib.hid x1; clear t8 hB8 BW1_7 B2_7 B3_7 B4_7 B6_7 x1) | (have _t := t9; go_at_call 16; refine (TEQ.out _ _ _ _ _ (FY.out.keep B4_8.out) ZB.out).mono ?_; rintro e V9 ⟨rfl, hB9⟩; have BW1_9 := Lib.hid (BW1_8.out.trans (hB9.mono BW1_8.out.size)); have B2_9 := Lib.hid (B2_8.out.trans (hB9.mono B2_8.out.size)); have B3_9 := Lib.hid (B3_8.out.trans (hB9.mono B3_8.out.size)); have B4_9 := Lib.hid (B4_8.out.trans (hB9.mono B4_8.out.size)); have B6_9 := Lib.hid (B6_8.out.trans (hB9.mono B6_8.out.size)); clear t9 hB9 BW1_8 B2_8 B3_8 B4_8 B6_8 ZB FY) | (have _t := t10; go_at_call 38; refine (TMA.out b3 m _ (there_keep TX.out h3s.out B3_9.out)).mono ?_; rintro e V10 ⟨K1, hK1, rfl, hB10, hs10, hh10⟩; have BW1_10 := Lib.hid (BW1_9.out.trans (hB10.mono h3w.out)); have B2_10 := Lib.hid (B2_9.out.trans (hB10.mono h3b.out)); have TY2 := Lib.hid (there_same (there_keep TY.out h4s.out B4_9.out) (hh10 b4 (Nat.ne_of_gt h34.out))); have OQ2 := Lib.hid ((OQ.out.below B6_9.out).same (fun x hx => hh10 x (Nat.ne_of_gt (Nat.lt_of_lt_of_le h3q.out hx)))); have HK1 := Lib.hid hK1; have hks := hs10; have S7 := Lib.hid (Nat.lt_of_lt_of_le h4s.out (show _ ≤ V10.heap.size by rw [hks]; exact B4_9.out.size)); clear t10 hB10 hs10 hh10 hks hK1 TX TY OQ BW1_9 B2_9 B3_9 B4_9 B6_9) | (have _t := t11; go_at_call 19; refine (TMR.out b4 n _ K1 HK1.out TY2.out).mono ?_; rintro e V11 ⟨K2, hK2, rfl, hB11, hs11, hh11⟩; have BW1_11 := Lib.hid (BW1_10.out.trans (hB11.mono (Nat.le_trans h3w.out (Nat.le_of_lt h34.out)))); have B2_11 := Lib.hid (B2_10.out.trans (hB11.mono (Nat.le_trans h3b.out (Nat.le_of_lt h34.out)))); have OQ3 := Lib.hid (OQ2.out.same (fun x hx => hh11 x (Nat.ne_of_gt (Nat.lt_of_lt_of_le h4q.out hx)))); have B9 := Lib.hid (Below.refl V11.heap.size V11); have hk20 : 0 ≤ K2 := hK2; clear t11 hB11 hs11 hh11 OQ2 TY2 BW1_10 B2_10) | (have _t := t12; go_at_call 17; refine (TEI.out _ _ _ _ _ (OQ3.out.cells.keep B9.out) (FW.out.keep B2_11.out)).mono ?_; rintro e V12 ⟨rfl, hB12⟩; have BW1_12 := Lib.hid (BW1_11.out.trans (hB12.mono BW1_11.out.size)); have B2_12 := Lib.hid (B2_11.out.trans (hB12.mono B2_11.out.size)); have B9_12 := Lib.hid (B9.out.trans (hB12.mono B9.out.size)); clear t12 hB12 BW1_11 B2_11 B9) | (have _t := t13; obtain ⟨gq, rfl, hv, hg⟩ := OQ3.out.row HNE.out; have hv := hv.below B9_12.out hv.lt; have hgl := Lib.hid hv.lt; have hgB := Lib.hid hg; go_at_call 18; refine (TMI.out gq cq _ hv.there).mono ?_; rintro e V13 ⟨K3, hK3, rfl, mk3, hB13, hs13⟩; have BW1_13 := Lib.hid (BW1_12.out.trans (hB13.mono (Nat.le_trans (Nat.le_trans h3w.out (Nat.le_of_lt h3q.out)) hgB.out))); have B2_13 := Lib.hid (B2_12.out.trans (hB13.mono (Nat.le_trans (Nat.le_trans h3b.out (Nat.le_of_lt h3q.out)) hgB.out))); have MK3 := Lib.hid mk3; have HK3 := Lib.hid hK3; have hk30 : 0 ≤ K3 := hK3.1; have hgz := Lib.hid (show gq < V13.heap.size by rw [hs13]; exact hgl.out); have B10 := Lib.hid (Below.refl V13.heap.size V13); clear t13 hB13 hs13 mk3 hK3 hv hg OQ3 BW1_12 B2_12 B9_12) | (have _t := t14; go_at_call 39; refine (THI.out gq cq _ K3 HK3.out (marksI_keep MK3.out hgz.out B10.out)).mono ?_; rintro e V14 ⟨rfl, hB14⟩; have BW1_14 := Lib.hid (BW1_13.out.trans (hB14.mono BW1_13.out.size)); have B2_14 := Lib.hid (B2_13.out.trans (hB14.mono B2_13.out.size)); have B10_14 := Lib.hid (B10.out.trans (hB14.mono B10.out.size)); clear t14 hB14 BW1_13 B2_13 B10))
  have BX : Below W.heap.size W V14.drew := BW1_14.out.drew
  refine wp_region_plan (ops' := regOf Tryd.f8 31) (.take 0 (.take 2 (.take 4 (.take 6 (.run 1 (.run 3 (.run 5 (.run 7 (.take 8 (.take 9 (.take 10 (.take 11 (.take 12 .fin))))))))))))) (Below W.heap.size W) (by kernel_rfl) (by kernel_rfl) (by kernel_rfl) (by kernel_rfl) (by kernel_rfl) BX ?_
  refine plan_pure (some 105) (.slice pg m cg) (by kernel_rfl) (by kernel_rfl) (by kernel_rfl) (fun _ => (by kernel_rfl)) ?_
  refine plan_load (some 107) 29 (.tmp 5) w.heap.size 0 _ _ (by kernel_rfl) (by kernel_rfl) (by kernel_rfl) (by kernel_rfl) (by kernel_rfl) (fun w' hw' => range_kept R0.out hb1.out _ hw') Tryd.underlying29 rfl (by kernel_rfl) ?_
  refine plan_pure (some 109) (.slice p n c) (by kernel_rfl) (by kernel_rfl) (by kernel_rfl) (fun _ => (by kernel_rfl)) ?_
  refine plan_pure (some 111) (.float .f32 bd) (by kernel_rfl) (by kernel_rfl) (by kernel_rfl) (fun _ => (by kernel_rfl)) ?_
  refine plan_call (some 106) 30 #[.slice pg m cg] (by kernel_rfl) (by kernel_rfl) (by kernel_rfl) (by kernel_rfl) (Calls.mono (TAH.out _ (GA0.out.keep (BW.out.trans (BX.mono BW.out.size)))) ?_)
  rintro _ Va ⟨b1, rfl, _, _, y1, _, ha⟩
  have BXa := BX.trans (ha.mono BX.size)
  refine ⟨_, rfl, BXa, ?_⟩
  refine plan_call (some 108) 13 #[.agg (Ste X Y R x y)] (by kernel_rfl) (by kernel_rfl) (by kernel_rfl) (by kernel_rfl) (Calls.mono (toSite_any X Y R x y _) ?_)
  rintro _ Vb ⟨rfl, hb⟩
  have BXb := BXa.trans (hb.mono BXa.size)
  refine ⟨_, rfl, BXb, ?_⟩
  refine plan_call (some 110) 23 #[.slice p n c] (by kernel_rfl) (by kernel_rfl) (by kernel_rfl) (by kernel_rfl) (Calls.mono (TOH.out _ (PA0.out.keep (BW.out.trans (BXb.mono BW.out.size)))) ?_)
  rintro _ Vc ⟨b2, rfl, _, _, x1, _, hc⟩
  have BXc := BXb.trans (hc.mono BXb.size)
  refine ⟨_, rfl, BXc, ?_⟩
  refine plan_call (some 112) 37 #[.slice (some ⟨b1, 0, none⟩) m m, .agg (Ste X Y R x y), .slice (some ⟨b2, 0, none⟩) n n, .float .f32 bd] (by kernel_rfl) (by kernel_rfl) (by kernel_rfl) (by kernel_rfl) (Calls.mono (T4.out _ _ _ _ _ (y1.keep (hb.trans (hc.mono hb.size))) x1 (HS.out.keep (BW.out.trans (BXc.mono BW.out.size)))) ?_)
  rintro _ Vd ⟨pw, cw, rfl, ow, hd⟩
  have BXd := BXc.trans (hd.mono BXc.size)
  refine ⟨_, rfl, BXd, ?_⟩
  refine plan_pure (some 104) (.tuple #[.slice pw l cw, .int .i64 kk]) (by kernel_rfl) (by kernel_rfl) (by kernel_rfl) (fun _ => (by kernel_rfl)) ?_
  refine plan_pure (some 113) (.slice pw l cw) (by kernel_rfl) (by kernel_rfl) (by kernel_rfl) (fun _ => (by kernel_rfl)) ?_
  refine plan_pure (some 114) (.int .i64 kk) (by kernel_rfl) (by kernel_rfl) (by kernel_rfl) (fun _ => (by kernel_rfl)) ?_
  refine plan_pure (some 19) (.slice pw l cw) (by kernel_rfl) (by kernel_rfl) (by kernel_rfl) (fun _ => (by kernel_rfl)) ?_
  refine plan_pure (some 20) (.int .i64 kk) (by kernel_rfl) (by kernel_rfl) (by kernel_rfl) (fun _ => (by kernel_rfl)) ?_
  refine plan_end (NoPanic.normal ?_)
  have hz := (Below.refl V14.heap.size V14).drew.trans ((ha.trans ((hb.trans ((hc.trans (hd.mono hc.size)).mono hb.size)).mono ha.size)).mono (Nat.le_refl _))
  have OH := Lib.hid ow
  have BW2 := Lib.hid BXd
  have FW2 := Lib.hid (FW.out.keep (B2_14.out.trans (hz.mono B2_14.out.size)))
  have MK4 := Lib.hid (marksI_keep MK3.out hgz.out (B10_14.out.trans (hz.mono B10_14.out.size)))
  have B11 := Lib.hid (Below.refl Vd.heap.size Vd)
  have hgd := Lib.hid (show gq < Vd.heap.size from Nat.lt_of_lt_of_le hgz.out (B10_14.out.trans (hz.mono B10_14.out.size)).size)
  clear ow BXd BXc BXb BXa BX ha hb hc hd hz x1 y1
  simp only [Act.put, List.setIfInBounds_toArray, List.set_cons_zero, List.set_cons_succ]
  go_wp2_with (first | (have _t := t15; go_at_call 17; refine (TEI.out _ _ _ _ _ (OH.out.cells.keep B11.out) (FW2.out.keep B11.out)).mono ?_; rintro e V15 ⟨rfl, hB15⟩; have BW2_15 := Lib.hid (BW2.out.trans (hB15.mono BW2.out.size)); have B11_15 := Lib.hid (B11.out.trans (hB15.mono B11.out.size)); clear t15 hB15 BW2 B11) | (have _t := t16; go_at_call 39; refine (THI.out gq cq _ K3 HK3.out (marksI_keep MK4.out hgd.out B11_15.out)).mono ?_; rintro e V16 ⟨rfl, hB16⟩; have BW2_16 := Lib.hid (BW2_15.out.trans (hB16.mono BW2_15.out.size)); have B11_16 := Lib.hid (B11_15.out.trans (hB16.mono B11_15.out.size)); clear t16 hB16 BW2_15 B11_15))
  go_ret
  exact ⟨rfl, BW.out.trans (BW2_16.out.mono BW.out.size)⟩

set_option maxRecDepth 100000 in
set_option maxHeartbeats 4000000 in
theorem fnExactFitsWithin_near0 {s : Nat → Addr} (pg : Option Addr) (cg : Nat) (G : List A2) (X Y : Int) (R : Nat) (x y : Int) (p : Option Addr) (c : Nat) (L : List R2) (bd : Nat) (hX : -128 ≤ X ∧ X ≤ 127) (hY : -128 ≤ Y ∧ Y ≤ 127) (hx : -128 ≤ x ∧ x ≤ 127) (hy : -128 ≤ y ∧ y ≤ 127) (hok : ∀ a ∈ G, okA a) (hO : ∀ e ∈ L, -32768 ≤ e.2 ∧ e.2 ≤ 32767) (hm : G.length ≤ 1048576) (hnn : L.length ≤ 1048576 - G.length) (hne : (ftL G R X Y x y L bd (gueK (gueB G X Y R x y L) G.length)) = []) (w : World) (hg : AsAt w pg G) (hp : RsAt w p L) (hS : Sents w s) : Calls Tryd.prog 8 #[.slice pg G.length cg, .agg (Ste X Y R x y), .slice p L.length c, .float .f32 bd] w fun e w' => e = .returned (.bool true) ∧ Below w.heap.size w w' := by
  have hn : L.length ≤ 1048576 := by omega
  have TG := fun V => szAquiferS_yes pg G.length cg 1048576 hm (by omega) V
  have TZ := fun V => szReadingS_yes p L.length c (1048576 - G.length) hnn (by omega) V
  have e1 : ((1048576 : Nat) : Int) - (G.length : Int) = ((1048576 - G.length : Nat) : Int) := by omega
  have e2 : ((1048576 - G.length : Nat) : Int) - (L.length : Int) = ((1048576 - G.length - L.length : Nat) : Int) := by omega
  simp only [e1] at TG
  simp only [e2] at TZ
  obtain ⟨lz, hl⟩ : ∃ l, 1048576 - G.length = l := ⟨_, rfl⟩
  rw [hl] at TG TZ
  obtain ⟨lz', hl'⟩ : ∃ l', lz - L.length = l' := ⟨_, rfl⟩
  rw [hl'] at TZ
  have hl2 : lz ≤ 1048576 := by omega
  have hl3 : lz' ≤ 1048576 := by omega
  have hxl : (ftL G R X Y x y L bd (gueK (gueB G X Y R x y L) G.length)).length ≤ 20 := by
    unfold ftL
    split
    · rename_i h
      exact Nat.le_trans (fitI_len _ _ _) (gueK_none h).2.2
    · simp
  obtain ⟨kk, hk⟩ : ∃ kk, codeE (gueK (gueB G X Y R x y L) G.length) = kk := ⟨_, rfl⟩
  obtain ⟨xs, hxs⟩ : ∃ xs, (ftL G R X Y x y L bd (gueK (gueB G X Y R x y L) G.length)) = xs := ⟨_, rfl⟩
  have T3 := Lib.hid (fun (pg : Option Addr) (cg : Nat) (p : Option Addr) (c : Nat) (V : World) (h0 : AsAt V pg G) (h1 : RsAt V p L) => specFW_any pg cg G hm X Y R x y p c L hn hX hY hx hy bd hok hO V h0 h1)
  have T4 := Lib.hid (fun (pg : Option Addr) (cg : Nat) (p : Option Addr) (c : Nat) (V : World) (h0 : AsAt V pg G) (h1 : RsAt V p L) (h2 : Sents V s) => implFW_any pg cg G hm X Y R x y p c L hn hX hY hx hy bd hok V h0 h1 h2)
  rw [hk, hxs] at T3 T4
  rw [hxs] at hxl hne
  obtain ⟨l, hll⟩ : ∃ l, xs.length = l := ⟨_, rfl⟩
  rw [hll] at T3 T4 hxl
  have TEI := Lib.hid (fun (p q : Option Addr) (c d : Nat) (V : World) (h1 : CellsI V p xs) (h2 : CellsI V q xs) => eqInt64S_yes p q c d xs (by omega) V h1 h2)
  rw [hll] at TEI
  have TOH := Lib.hid (fun (V : World) (h : RsAt V p L) => toReadingS_th p c L hn V h)
  have TEQ := Lib.hid (fun (p q : Option Addr) (c d : Nat) (V : World) (h1 : RsAt V p L) (h2 : RsAt V q L) => eqReadingS_yes p q c d L hn V h1 h2)
  have TAH := Lib.hid (fun (V : World) (h : AsAt V pg G) => toAquiferS_th pg cg G hm V h)
  have TEA := Lib.hid (fun (p q : Option Addr) (c d : Nat) (V : World) (h1 : AsAt V p G) (h2 : AsAt V q G) => eqAquiferS_yes p q c d G hm V h1 h2)
  obtain ⟨m, hmm⟩ : ∃ m, G.length = m := ⟨_, rfl⟩
  obtain ⟨n, hnn'⟩ : ∃ n, L.length = n := ⟨_, rfl⟩
  rw [hmm, hnn'] at T3 T4
  rw [hnn'] at TOH TEQ TZ hn ⊢
  rw [hmm] at TAH TEA TG hm ⊢
  have TMA := Lib.hid (fun (b c : Nat) (V : World) (ht : V.there b 0 (m * 2)) => show Calls Tryd.prog 38 #[.slice (some ⟨b, 0, none⟩) m c, .int .i64 1] V fun e w' => ∃ K : Int, K = ((1 + 2 * m : Nat) : Int) ∧ e = .returned (.int .i64 K) ∧ Below b V w' ∧ w'.heap.size = V.heap.size ∧ ∀ x, x ≠ b → w'.heap[x]? = V.heap[x]? from
    (markAquiferS_any b 0 m c 1 hm (by omega) V ht).mono fun e w' h => ⟨_, rfl, h.1, h.2.2⟩)
  have TMR := Lib.hid (fun (b c : Nat) (V : World) (K1 : Int) (hK : K1 = ((1 + 2 * m : Nat) : Int)) (ht : V.there b 0 (n * 2)) => show Calls Tryd.prog 19 #[.slice (some ⟨b, 0, none⟩) n c, .int .i64 K1] V fun e w' => ∃ K : Int, 0 ≤ K ∧ e = .returned (.int .i64 K) ∧ Below b V w' ∧ w'.heap.size = V.heap.size ∧ ∀ x, x ≠ b → w'.heap[x]? = V.heap[x]? from by
    subst hK
    exact (markReadingS_big b 0 n c (1 + 2 * m) hn (by omega) V ht).mono fun e w' h => ⟨_, by omega, h.1, h.2.2⟩)
  have hl0 : l = 0 := by rw [← hll, hne]; rfl
  have TM0 := Lib.hid (fun (p : Option Addr) (c : Nat) (V : World) => show Calls Tryd.prog 18 #[.slice p l c, .int .i64 1] V fun e w' => e = .returned (.int .i64 1) ∧ V = w' from by
    subst hl0
    exact (markInt64S_nil c 1 (by omega) p V).mono fun e w' h => ⟨h.1, h.2.symm⟩)
  have TH0 := Lib.hid (fun (p : Option Addr) (c : Nat) (V : World) => show Calls Tryd.prog 39 #[.slice p l c, .int .i64 1] V fun e w' => e = .returned (.int .i64 1) ∧ Below V.heap.size V w' from by
    subst hl0
    exact (heldInt64S_nil c 1 (by omega) p V).mono fun e w' h => ⟨h.1, by rw [h.2]; exact Below.refl _ _⟩)
  clear hl0
  obtain ⟨z, b0⟩ := laid1 w (.cells (Ste X Y R x y) 29)
  have B0 : Below w.heap.size w (w.alloc (.cells (Ste X Y R x y) 29)) := (Below.refl _ _).alloc (Nat.le_refl _) _
  obtain ⟨W, hW⟩ : ∃ W, (w.alloc (.cells (Ste X Y R x y) 29)) = W := ⟨_, rfl⟩
  rw [hW] at z b0 B0
  have R0 := Lib.hid (rangeAt_row b0)
  have BW := Lib.hid B0
  have hb1 := Lib.hid (show w.heap.size < W.heap.size by rw [z]; omega)
  have HS := Lib.hid hS
  have PA0 := Lib.hid hp
  have GA0 := Lib.hid hg
  clear hp hg e1 e2 hl hl' hnn hS hk hmm hnn' hll hxs b0 B0 z hO hok hne
  go_enter Tryd.func8, Tryd.ntmps8
  go_upto_region 1 with (fail)
  try rw [hW]
  clear hW
  have BX : Below W.heap.size W W.drew := (Below.refl _ _).drew
  go_wp2_with (first | (go_at_call 28; refine (TG _).mono ?_; rintro e V ⟨rfl, hV⟩; rw [hV]; clear hV) | (go_at_call 21; refine (TZ _).mono ?_; rintro e V ⟨rfl, hV⟩; rw [hV]; clear hV))
  refine wp_region_plan (ops' := regOf Tryd.f8 8) (.take 0 (.take 2 (.take 4 (.take 6 (.run 1 (.run 3 (.run 5 (.run 7 (.take 8 (.take 9 (.take 10 (.take 11 (.take 12 .fin))))))))))))) (Below W.heap.size W) (by kernel_rfl) (by kernel_rfl) (by kernel_rfl) (by kernel_rfl) (by kernel_rfl) BX ?_
  refine plan_pure (some 32) (.slice pg m cg) (by kernel_rfl) (by kernel_rfl) (by kernel_rfl) (fun _ => (by kernel_rfl)) ?_
  refine plan_load (some 34) 29 (.tmp 5) w.heap.size 0 _ _ (by kernel_rfl) (by kernel_rfl) (by kernel_rfl) (by kernel_rfl) (by kernel_rfl) (fun w' hw' => range_kept R0.out hb1.out _ hw') Tryd.underlying29 rfl (by kernel_rfl) ?_
  refine plan_pure (some 36) (.slice p n c) (by kernel_rfl) (by kernel_rfl) (by kernel_rfl) (fun _ => (by kernel_rfl)) ?_
  refine plan_pure (some 38) (.float .f32 bd) (by kernel_rfl) (by kernel_rfl) (by kernel_rfl) (fun _ => (by kernel_rfl)) ?_
  refine plan_call (some 33) 30 #[.slice pg m cg] (by kernel_rfl) (by kernel_rfl) (by kernel_rfl) (by kernel_rfl) (Calls.mono (TAH.out _ (GA0.out.keep (BW.out.trans (BX.mono BW.out.size)))) ?_)
  rintro _ Va ⟨b1, rfl, _, _, y1, _, ha⟩
  have BXa := BX.trans (ha.mono BX.size)
  refine ⟨_, rfl, BXa, ?_⟩
  refine plan_call (some 35) 13 #[.agg (Ste X Y R x y)] (by kernel_rfl) (by kernel_rfl) (by kernel_rfl) (by kernel_rfl) (Calls.mono (toSite_any X Y R x y _) ?_)
  rintro _ Vb ⟨rfl, hb⟩
  have BXb := BXa.trans (hb.mono BXa.size)
  refine ⟨_, rfl, BXb, ?_⟩
  refine plan_call (some 37) 23 #[.slice p n c] (by kernel_rfl) (by kernel_rfl) (by kernel_rfl) (by kernel_rfl) (Calls.mono (TOH.out _ (PA0.out.keep (BW.out.trans (BXb.mono BW.out.size)))) ?_)
  rintro _ Vc ⟨b2, rfl, _, _, x1, _, hc⟩
  have BXc := BXb.trans (hc.mono BXb.size)
  refine ⟨_, rfl, BXc, ?_⟩
  refine plan_call (some 39) 36 #[.slice (some ⟨b1, 0, none⟩) m m, .agg (Ste X Y R x y), .slice (some ⟨b2, 0, none⟩) n n, .float .f32 bd] (by kernel_rfl) (by kernel_rfl) (by kernel_rfl) (by kernel_rfl) (Calls.mono (T3.out _ _ _ _ _ (y1.keep (hb.trans (hc.mono hb.size))) x1) ?_)
  rintro _ Vd ⟨pw, cw, rfl, ow, hd⟩
  have BXd := BXc.trans (hd.mono BXc.size)
  refine ⟨_, rfl, BXd, ?_⟩
  refine plan_pure (some 31) (.tuple #[.slice pw l cw, .int .i64 kk]) (by kernel_rfl) (by kernel_rfl) (by kernel_rfl) (fun _ => (by kernel_rfl)) ?_
  refine plan_pure (some 40) (.slice pw l cw) (by kernel_rfl) (by kernel_rfl) (by kernel_rfl) (fun _ => (by kernel_rfl)) ?_
  refine plan_pure (some 41) (.int .i64 kk) (by kernel_rfl) (by kernel_rfl) (by kernel_rfl) (fun _ => (by kernel_rfl)) ?_
  refine plan_pure (some 10) (.slice pw l cw) (by kernel_rfl) (by kernel_rfl) (by kernel_rfl) (fun _ => (by kernel_rfl)) ?_
  refine plan_pure (some 11) (.int .i64 kk) (by kernel_rfl) (by kernel_rfl) (by kernel_rfl) (fun _ => (by kernel_rfl)) ?_
  refine plan_end (NoPanic.normal ?_)
  have FW := Lib.hid ow.cells
  have BD := Lib.hid BXd
  have B2 := Lib.hid (Below.refl Vd.heap.size Vd)
  clear ow BXd BXc BXb BXa BX ha hb hc hd x1 y1
  simp only [Act.put, List.setIfInBounds_toArray, List.set_cons_zero, List.set_cons_succ]
  have t1 : True := trivial
  have t2 : True := trivial
  have t3 : True := trivial
  have t4 : True := trivial
  have t5 : True := trivial
  have t6 : True := trivial
  have t7 : True := trivial
  have t8 : True := trivial
  have t9 : True := trivial
  have t10 : True := trivial
  have t11 : True := trivial
  have t12 : True := trivial
  have t13 : True := trivial
  have t14 : True := trivial
  have t15 : True := trivial
  have t16 : True := trivial
  go_upto_region 11 with (first | (have _t := t1; go_at_call 30; refine (TAH.out _ (GA0.out.keep (BW.out.trans (BD.out.mono BW.out.size)))).mono ?_; rintro e V1 ⟨b3, rfl, hx1, hx2, x1, y1, hB1⟩; have BW1_1 := Lib.hid (BD.out.trans (hB1.mono BD.out.size)); have B2_1 := Lib.hid (B2.out.trans (hB1.mono B2.out.size)); have h3w := Lib.hid (Nat.le_trans BD.out.size hx1); have h3b := Lib.hid (Nat.le_trans B2.out.size hx1); have h3s := Lib.hid hx2; have FX := Lib.hid x1; have TX := Lib.hid y1; have B3 := Lib.hid (Below.refl V1.heap.size V1); clear t1 hB1 BD B2 x1 y1 hx1 hx2) | (have _t := t2; go_at_call 23; refine (TOH.out _ (PA0.out.keep (BW.out.trans (BW1_1.out.mono BW.out.size)))).mono ?_; rintro e V2 ⟨b4, rfl, hx1, hx2, x1, y1, hB2⟩; have BW1_2 := Lib.hid (BW1_1.out.trans (hB2.mono BW1_1.out.size)); have B2_2 := Lib.hid (B2_1.out.trans (hB2.mono B2_1.out.size)); have B3_2 := Lib.hid (B3.out.trans (hB2.mono B3.out.size)); have h34 := Lib.hid (Nat.lt_of_lt_of_le h3s.out hx1); have h4s := Lib.hid hx2; have FY := Lib.hid x1; have TY := Lib.hid y1; have B4 := Lib.hid (Below.refl V2.heap.size V2); clear t2 hB2 BW1_1 B2_1 B3 x1 y1 hx1 hx2))
  have r0 := range_kept R0.out hb1.out _ BW1_2.out
  go_upto_region 12 with (first | (refine wpList_load_mid rfl 29 _ rfl w.heap.size 0 rfl (Ste X Y R x y).toList _ r0 Tryd.underlying29 rfl (by kernel_rfl) ?_; try rw [Array.toArray_toList]) | (have _t := t3; go_at_call 13; refine (toSite_any X Y R x y _).mono ?_; rintro e V3 ⟨rfl, hB3⟩; have BW1_3 := Lib.hid (BW1_2.out.trans (hB3.mono BW1_2.out.size)); have B2_3 := Lib.hid (B2_2.out.trans (hB3.mono B2_2.out.size)); have B3_3 := Lib.hid (B3_2.out.trans (hB3.mono B3_2.out.size)); have B4_3 := Lib.hid (B4.out.trans (hB3.mono B4.out.size)); clear t3 hB3 BW1_2 B2_2 B3_2 B4 r0) | (have _t := t4; go_at_call 37; refine (T4.out _ _ _ _ _ (FX.out.keep B3_3.out) (FY.out.keep B4_3.out) (HS.out.keep (BW.out.trans (BW1_3.out.mono BW.out.size)))).mono ?_; rintro e V4 ⟨pq, cq, rfl, oq, hB4⟩; have BW1_4 := Lib.hid (BW1_3.out.trans (hB4.mono BW1_3.out.size)); have B2_4 := Lib.hid (B2_3.out.trans (hB4.mono B2_3.out.size)); have B3_4 := Lib.hid (B3_3.out.trans (hB4.mono B3_3.out.size)); have B4_4 := Lib.hid (B4_3.out.trans (hB4.mono B4_3.out.size)); have OQ := Lib.hid oq; have h3q := Lib.hid (show b3 < V3.heap.size from Nat.lt_of_lt_of_le h3s.out B3_3.out.size); have h4q := Lib.hid (show b4 < V3.heap.size from Nat.lt_of_lt_of_le h4s.out B4_3.out.size); have B6 := Lib.hid (Below.refl V4.heap.size V4); clear t4 hB4 BW1_3 B2_3 B3_3 B4_3 oq))
  go_upto_region 31 with (first | (have _t := t5; go_at_call 17; refine (TEI.out _ _ _ _ _ (OQ.out.cells.keep B6.out) (FW.out.keep B2_4.out)).mono ?_; rintro e V5 ⟨rfl, hB5⟩; have BW1_5 := Lib.hid (BW1_4.out.trans (hB5.mono BW1_4.out.size)); have B2_5 := Lib.hid (B2_4.out.trans (hB5.mono B2_4.out.size)); have B3_5 := Lib.hid (B3_4.out.trans (hB5.mono B3_4.out.size)); have B4_5 := Lib.hid (B4_4.out.trans (hB5.mono B4_4.out.size)); have B6_5 := Lib.hid (B6.out.trans (hB5.mono B6.out.size)); clear t5 hB5 BW1_4 B2_4 B3_4 B4_4 B6) | (have _t := t6; go_at_call 30; refine (TAH.out _ (GA0.out.keep (BW.out.trans (BW1_5.out.mono BW.out.size)))).mono ?_; rintro e V6 ⟨b5, rfl, _, _, x1, _, hB6⟩; have BW1_6 := Lib.hid (BW1_5.out.trans (hB6.mono BW1_5.out.size)); have B2_6 := Lib.hid (B2_5.out.trans (hB6.mono B2_5.out.size)); have B3_6 := Lib.hid (B3_5.out.trans (hB6.mono B3_5.out.size)); have B4_6 := Lib.hid (B4_5.out.trans (hB6.mono B4_5.out.size)); have B6_6 := Lib.hid (B6_5.out.trans (hB6.mono B6_5.out.size)); have ZA := Lib.hid x1; clear t6 hB6 BW1_5 B2_5 B3_5 B4_5 B6_5 x1) | (have _t := t7; go_at_call 32; refine (TEA.out _ _ _ _ _ (FX.out.keep B3_6.out) ZA.out).mono ?_; rintro e V7 ⟨rfl, hB7⟩; have BW1_7 := Lib.hid (BW1_6.out.trans (hB7.mono BW1_6.out.size)); have B2_7 := Lib.hid (B2_6.out.trans (hB7.mono B2_6.out.size)); have B3_7 := Lib.hid (B3_6.out.trans (hB7.mono B3_6.out.size)); have B4_7 := Lib.hid (B4_6.out.trans (hB7.mono B4_6.out.size)); have B6_7 := Lib.hid (B6_6.out.trans (hB7.mono B6_6.out.size)); clear t7 hB7 BW1_6 B2_6 B3_6 B4_6 B6_6 ZA FX) | (have _t := t8; go_at_call 23; refine (TOH.out _ (PA0.out.keep (BW.out.trans (BW1_7.out.mono BW.out.size)))).mono ?_; rintro e V8 ⟨b6, rfl, _, _, x1, _, hB8⟩; have BW1_8 := Lib.hid (BW1_7.out.trans (hB8.mono BW1_7.out.size)); have B2_8 := Lib.hid (B2_7.out.trans (hB8.mono B2_7.out.size)); have B3_8 := Lib.hid (B3_7.out.trans (hB8.mono B3_7.out.size)); have B4_8 := Lib.hid (B4_7.out.trans (hB8.mono B4_7.out.size)); have B6_8 := Lib.hid (B6_7.out.trans (hB8.mono B6_7.out.size)); have ZB := Lib.hid x1; clear t8 hB8 BW1_7 B2_7 B3_7 B4_7 B6_7 x1) | (have _t := t9; go_at_call 16; refine (TEQ.out _ _ _ _ _ (FY.out.keep B4_8.out) ZB.out).mono ?_; rintro e V9 ⟨rfl, hB9⟩; have BW1_9 := Lib.hid (BW1_8.out.trans (hB9.mono BW1_8.out.size)); have B2_9 := Lib.hid (B2_8.out.trans (hB9.mono B2_8.out.size)); have B3_9 := Lib.hid (B3_8.out.trans (hB9.mono B3_8.out.size)); have B4_9 := Lib.hid (B4_8.out.trans (hB9.mono B4_8.out.size)); have B6_9 := Lib.hid (B6_8.out.trans (hB9.mono B6_8.out.size)); clear t9 hB9 BW1_8 B2_8 B3_8 B4_8 B6_8 ZB FY) | (have _t := t10; go_at_call 38; refine (TMA.out b3 m _ (there_keep TX.out h3s.out B3_9.out)).mono ?_; rintro e V10 ⟨K1, hK1, rfl, hB10, hs10, hh10⟩; have BW1_10 := Lib.hid (BW1_9.out.trans (hB10.mono h3w.out)); have B2_10 := Lib.hid (B2_9.out.trans (hB10.mono h3b.out)); have TY2 := Lib.hid (there_same (there_keep TY.out h4s.out B4_9.out) (hh10 b4 (Nat.ne_of_gt h34.out))); have OQ2 := Lib.hid ((OQ.out.below B6_9.out).same (fun x hx => hh10 x (Nat.ne_of_gt (Nat.lt_of_lt_of_le h3q.out hx)))); have HK1 := Lib.hid hK1; have hks := hs10; have S7 := Lib.hid (Nat.lt_of_lt_of_le h4s.out (show _ ≤ V10.heap.size by rw [hks]; exact B4_9.out.size)); clear t10 hB10 hs10 hh10 hks hK1 TX TY OQ BW1_9 B2_9 B3_9 B4_9 B6_9) | (have _t := t11; go_at_call 19; refine (TMR.out b4 n _ K1 HK1.out TY2.out).mono ?_; rintro e V11 ⟨K2, hK2, rfl, hB11, hs11, hh11⟩; have BW1_11 := Lib.hid (BW1_10.out.trans (hB11.mono (Nat.le_trans h3w.out (Nat.le_of_lt h34.out)))); have B2_11 := Lib.hid (B2_10.out.trans (hB11.mono (Nat.le_trans h3b.out (Nat.le_of_lt h34.out)))); have OQ3 := Lib.hid (OQ2.out.same (fun x hx => hh11 x (Nat.ne_of_gt (Nat.lt_of_lt_of_le h4q.out hx)))); have B9 := Lib.hid (Below.refl V11.heap.size V11); have hk20 : 0 ≤ K2 := hK2; clear t11 hB11 hs11 hh11 OQ2 TY2 BW1_10 B2_10) | (have _t := t12; go_at_call 17; refine (TEI.out _ _ _ _ _ (OQ3.out.cells.keep B9.out) (FW.out.keep B2_11.out)).mono ?_; rintro e V12 ⟨rfl, hB12⟩; have BW1_12 := Lib.hid (BW1_11.out.trans (hB12.mono BW1_11.out.size)); have B2_12 := Lib.hid (B2_11.out.trans (hB12.mono B2_11.out.size)); have B9_12 := Lib.hid (B9.out.trans (hB12.mono B9.out.size)); clear t12 hB12 BW1_11 B2_11 B9) | (have _t := t13; go_at_call 18; refine (TM0.out pq cq _).mono ?_; rintro e V13 ⟨rfl, hw13⟩; have BW1_13 := Lib.hid (hw13 ▸ BW1_12.out); have B2_13 := Lib.hid (hw13 ▸ B2_12.out); clear t13 hw13 OQ3 BW1_12 B2_12 B9_12) | (have _t := t14; go_at_call 39; refine (TH0.out pq cq _).mono ?_; rintro e V14 ⟨rfl, hB14⟩; have BW1_14 := Lib.hid (BW1_13.out.trans (hB14.mono BW1_13.out.size)); have B2_14 := Lib.hid (B2_13.out.trans (hB14.mono B2_13.out.size)); clear t14 hB14 BW1_13 B2_13))
  have BX : Below W.heap.size W V14.drew := BW1_14.out.drew
  refine wp_region_plan (ops' := regOf Tryd.f8 31) (.take 0 (.take 2 (.take 4 (.take 6 (.run 1 (.run 3 (.run 5 (.run 7 (.take 8 (.take 9 (.take 10 (.take 11 (.take 12 .fin))))))))))))) (Below W.heap.size W) (by kernel_rfl) (by kernel_rfl) (by kernel_rfl) (by kernel_rfl) (by kernel_rfl) BX ?_
  refine plan_pure (some 105) (.slice pg m cg) (by kernel_rfl) (by kernel_rfl) (by kernel_rfl) (fun _ => (by kernel_rfl)) ?_
  refine plan_load (some 107) 29 (.tmp 5) w.heap.size 0 _ _ (by kernel_rfl) (by kernel_rfl) (by kernel_rfl) (by kernel_rfl) (by kernel_rfl) (fun w' hw' => range_kept R0.out hb1.out _ hw') Tryd.underlying29 rfl (by kernel_rfl) ?_
  refine plan_pure (some 109) (.slice p n c) (by kernel_rfl) (by kernel_rfl) (by kernel_rfl) (fun _ => (by kernel_rfl)) ?_
  refine plan_pure (some 111) (.float .f32 bd) (by kernel_rfl) (by kernel_rfl) (by kernel_rfl) (fun _ => (by kernel_rfl)) ?_
  refine plan_call (some 106) 30 #[.slice pg m cg] (by kernel_rfl) (by kernel_rfl) (by kernel_rfl) (by kernel_rfl) (Calls.mono (TAH.out _ (GA0.out.keep (BW.out.trans (BX.mono BW.out.size)))) ?_)
  rintro _ Va ⟨b1, rfl, _, _, y1, _, ha⟩
  have BXa := BX.trans (ha.mono BX.size)
  refine ⟨_, rfl, BXa, ?_⟩
  refine plan_call (some 108) 13 #[.agg (Ste X Y R x y)] (by kernel_rfl) (by kernel_rfl) (by kernel_rfl) (by kernel_rfl) (Calls.mono (toSite_any X Y R x y _) ?_)
  rintro _ Vb ⟨rfl, hb⟩
  have BXb := BXa.trans (hb.mono BXa.size)
  refine ⟨_, rfl, BXb, ?_⟩
  refine plan_call (some 110) 23 #[.slice p n c] (by kernel_rfl) (by kernel_rfl) (by kernel_rfl) (by kernel_rfl) (Calls.mono (TOH.out _ (PA0.out.keep (BW.out.trans (BXb.mono BW.out.size)))) ?_)
  rintro _ Vc ⟨b2, rfl, _, _, x1, _, hc⟩
  have BXc := BXb.trans (hc.mono BXb.size)
  refine ⟨_, rfl, BXc, ?_⟩
  refine plan_call (some 112) 37 #[.slice (some ⟨b1, 0, none⟩) m m, .agg (Ste X Y R x y), .slice (some ⟨b2, 0, none⟩) n n, .float .f32 bd] (by kernel_rfl) (by kernel_rfl) (by kernel_rfl) (by kernel_rfl) (Calls.mono (T4.out _ _ _ _ _ (y1.keep (hb.trans (hc.mono hb.size))) x1 (HS.out.keep (BW.out.trans (BXc.mono BW.out.size)))) ?_)
  rintro _ Vd ⟨pw, cw, rfl, ow, hd⟩
  have BXd := BXc.trans (hd.mono BXc.size)
  refine ⟨_, rfl, BXd, ?_⟩
  refine plan_pure (some 104) (.tuple #[.slice pw l cw, .int .i64 kk]) (by kernel_rfl) (by kernel_rfl) (by kernel_rfl) (fun _ => (by kernel_rfl)) ?_
  refine plan_pure (some 113) (.slice pw l cw) (by kernel_rfl) (by kernel_rfl) (by kernel_rfl) (fun _ => (by kernel_rfl)) ?_
  refine plan_pure (some 114) (.int .i64 kk) (by kernel_rfl) (by kernel_rfl) (by kernel_rfl) (fun _ => (by kernel_rfl)) ?_
  refine plan_pure (some 19) (.slice pw l cw) (by kernel_rfl) (by kernel_rfl) (by kernel_rfl) (fun _ => (by kernel_rfl)) ?_
  refine plan_pure (some 20) (.int .i64 kk) (by kernel_rfl) (by kernel_rfl) (by kernel_rfl) (fun _ => (by kernel_rfl)) ?_
  refine plan_end (NoPanic.normal ?_)
  have hz := (Below.refl V14.heap.size V14).drew.trans ((ha.trans ((hb.trans ((hc.trans (hd.mono hc.size)).mono hb.size)).mono ha.size)).mono (Nat.le_refl _))
  have OH := Lib.hid ow
  have BW2 := Lib.hid BXd
  have FW2 := Lib.hid (FW.out.keep (B2_14.out.trans (hz.mono B2_14.out.size)))
  have B11 := Lib.hid (Below.refl Vd.heap.size Vd)
  clear ow BXd BXc BXb BXa BX ha hb hc hd hz x1 y1
  simp only [Act.put, List.setIfInBounds_toArray, List.set_cons_zero, List.set_cons_succ]
  go_wp2_with (first | (have _t := t15; go_at_call 17; refine (TEI.out _ _ _ _ _ (OH.out.cells.keep B11.out) (FW2.out.keep B11.out)).mono ?_; rintro e V15 ⟨rfl, hB15⟩; have BW2_15 := Lib.hid (BW2.out.trans (hB15.mono BW2.out.size)); have B11_15 := Lib.hid (B11.out.trans (hB15.mono B11.out.size)); clear t15 hB15 BW2 B11) | (have _t := t16; go_at_call 39; refine (TH0.out _ _ _).mono ?_; rintro e V16 ⟨rfl, hB16⟩; have BW2_16 := Lib.hid (BW2_15.out.trans (hB16.mono BW2_15.out.size)); have B11_16 := Lib.hid (B11_15.out.trans (hB16.mono B11_15.out.size)); clear t16 hB16 BW2_15 B11_15))
  go_ret
  exact ⟨rfl, BW.out.trans (BW2_16.out.mono BW.out.size)⟩

set_option maxRecDepth 100000 in
theorem fnExactFitsWithin_walk (H : Type) (enc : TypeId × Value → H) (W : World) (base : Nat) (args : Array Value) (ds : List (DataW H)) (ps : List MemPlace) (hn : args.size = Tryd.f8.params.size)
    (hv : ∀ (j : Nat) t v, Tryd.f8.params[j]? = some t → args[j]? = some v → Value.okWide Tryd.prog W .any base t v)
    (hA : DataW.TrodAll enc Tryd.prog W 0 (fun _ => true) true Tryd.f8.params.toList args.toList ds ps) (s : Nat → Addr) (hS : Sents W s) :
    Calls Tryd.prog 8 args W fun e W' => e = .returned (.bool true) ∧ Below W.heap.size W W' := by
  rw [Tryd.params8] at hn hv hA
  obtain ⟨l⟩ := args
  match l, hn with
  | [v0, v1, v2, v3], _ =>
    obtain ⟨u0, us, d0, ds', a0, a1, he, _, _, h0, h1⟩ := trodAll_cons hA
    cases he
    obtain ⟨u1, us1, d1, ds1, a2, a3, he, _, _, h2, h3⟩ := trodAll_cons h1
    cases he
    obtain ⟨u2, us2, d2, ds2, a4, a5, he, _, _, h4, h5⟩ := trodAll_cons h3
    cases he
    obtain ⟨bd, rfl, hbd⟩ := okWide_f32w (hv 3 _ v3 rfl rfl)
    obtain ⟨pg, cg, G, rfl, hG, hg, hok⟩ := open_as (okWide_slice Tryd.underlying57 (hv 0 _ v0 rfl rfl)) h0
    obtain ⟨X, Y, R, x, y, rfl, hX, hY, _, hx, hy⟩ := okWide_st (hv 1 _ v1 rfl rfl)
    by_cases h8 : G.length ≤ 1048576
    · obtain ⟨p, c, L, rfl, hL, hp, hok2⟩ := open_rs (okWide_slice Tryd.underlying46 (hv 2 _ v2 rfl rfl)) h4
      have hO : ∀ e ∈ L, -32768 ≤ e.2 ∧ e.2 ≤ 32767 := fun e he => by
        have := (hok2 e he).2
        simp only [Lit.wf, IntKind.min, IntKind.max, IntKind.bits, IntKind.signed, Bool.and_eq_true, decide_eq_true_eq] at this
        simpa using this
      by_cases h9 : L.length ≤ 1048576 - G.length
      · by_cases h7 : (ftL G R X Y x y L bd (gueK (gueB G X Y R x y L) G.length)) = []
        · exact fnExactFitsWithin_near0 pg cg G X Y R x y p c L bd hX hY hx hy hok hO h8 h9 h7 W hg hp hS
        · exact fnExactFitsWithin_near pg cg G X Y R x y p c L bd hX hY hx hy hok hO h8 h9 h7 W hg hp hS
      · exact fnExactFitsWithin_farL pg _ cg X Y R x y p _ c bd h8 (by omega) hL W
    · exact fnExactFitsWithin_farG pg _ cg X Y R x y v2 (.float .f32 bd) (by omega) hG W

set_option maxRecDepth 100000
theorem fnExactFitsWithin_j0 : (Rows.fnExactFitsWithinRow.inPlace == Tryd.prog.inPlace 8) = true := by kernel_rfl
theorem fnExactFitsWithin_j1 : (Rows.fnExactFitsWithinRow.unfollowed == Tryd.prog.unfollowed 8) = true := by kernel_rfl
theorem fnExactFitsWithin_j2 : (Rows.fnExactFitsWithinRow.recurses == Tryd.prog.recurses 8) = true := by kernel_rfl
theorem fnExactFitsWithin_j3 : (Rows.fnExactFitsWithinRow.named == Tryd.prog.varsNamed 8) = true := by kernel_rfl
theorem fnExactFitsWithin_jw : Rows.fnExactFitsWithinRow.wf (OpenSpec.ofChange Rows.fnExactFitsWithinSpec) = true := by kernel_rfl
theorem fnExactFitsWithin_jn : namedTie Tryd.prog Rows.fnExactFitsWithinRow.named Rows.fnExactFitsWithinSpec.vars = true := by kernel_rfl
theorem fnExactFitsWithin_jf : joinedFacts Tryd.prog 8 Tryd.f8 Rows.fnExactFitsWithinSpec Rows.fnExactFitsWithinRow = true := by
  unfold joinedFacts
  simp only [Bool.and_eq_true]
  exact ⟨⟨⟨⟨⟨⟨⟨⟨⟨⟨⟨⟨⟨⟨⟨⟨⟨⟨⟨⟨⟨⟨⟨⟨⟨⟨⟨⟨⟨⟨⟨fnExactFitsWithin_jw, (by kernel_rfl)⟩, (by kernel_rfl)⟩, (by kernel_rfl)⟩, fnExactFitsWithin_jn⟩, (by kernel_rfl)⟩, (by kernel_rfl)⟩, (by kernel_rfl)⟩, (by kernel_rfl)⟩, fnExactFitsWithin_j0⟩, fnExactFitsWithin_j1⟩, fnExactFitsWithin_j2⟩, fnExactFitsWithin_j3⟩, (by kernel_rfl)⟩, (by kernel_rfl)⟩, (by kernel_rfl)⟩, (by kernel_rfl)⟩, (by kernel_rfl)⟩, (by kernel_rfl)⟩, (by kernel_rfl)⟩, (by kernel_rfl)⟩, (by kernel_rfl)⟩, (by kernel_rfl)⟩, (by kernel_rfl)⟩, (by kernel_rfl)⟩, (by kernel_rfl)⟩, (by kernel_rfl)⟩, (by kernel_rfl)⟩, (by kernel_rfl)⟩, (by kernel_rfl)⟩, (by kernel_rfl)⟩, (by kernel_rfl)⟩
theorem fnExactFitsWithin_nm : Tryd.pinned.checked.prog.funcNamed Rows.fnExactFitsWithinRow.func = some 8 := by kernel_rfl
theorem fnExactFitsWithin_rd : ∀ t ∈ Tryd.f8.params.toList, Tryd.prog.readableRec t = true ∧ t < Tryd.prog.types.size := by rw [Tryd.params8]; exact (by decide +kernel)
theorem fnExactFitsWithin_ok (os : Os) : Input.okWideB Tryd.checked.prog ((World.laidAll Tryd.prog os laidE).forCall (fun _ _ => 0) ⟨#[], #[.slice none 0 0, .agg (Ste 0 0 0 0 0), .slice none 0 0, .float .f32 0], []⟩) 8 ⟨#[], #[.slice none 0 0, .agg (Ste 0 0 0 0 0), .slice none 0 0, .float .f32 0], []⟩ = true := by kernel_rfl
theorem fnExactFitsWithin_pb (os : Os) (H : Type) (enc : TypeId × Value → H) : Rows.fnExactFitsWithinSpec.preB enc Tryd.checked.prog Tryd.f8 [] false ((World.laidAll Tryd.prog os laidE).forCall (fun _ _ => 0) ⟨#[], #[.slice none 0 0, .agg (Ste 0 0 0 0 0), .slice none 0 0, .float .f32 0], []⟩).memory #[.slice none 0 0, .agg (Ste 0 0 0 0 0), .slice none 0 0, .float .f32 0] 16 = true := by kernel_rfl
theorem fnExactFitsWithin_sb (os : Os) (H : Type) (enc : TypeId × Value → H) : Rows.fnExactFitsWithinSpec.sizedB enc Tryd.checked.prog Tryd.f8 false ((World.laidAll Tryd.prog os laidE).forCall (fun _ _ => 0) ⟨#[], #[.slice none 0 0, .agg (Ste 0 0 0 0 0), .slice none 0 0, .float .f32 0], []⟩).memory #[.slice none 0 0, .agg (Ste 0 0 0 0 0), .slice none 0 0, .float .f32 0] 16 = true := by kernel_rfl
theorem fnExactFitsWithin_vr : varsRowed Tryd.prog Rows.fnExactFitsWithinSpec.vars = true := by kernel_rfl
theorem fnExactFitsWithin_row : Rows.FnExactFitsWithinSaid :=
  OpenClaim.holds_of_wide 8 Tryd.f8 rfl rfl rfl rfl rfl rfl rfl ⟨rfl, rfl, rfl, rfl, rfl⟩ rfl rfl rfl rfl rfl fnExactFitsWithin_nm Tryd.func8 fnExactFitsWithin_jf
    (of_decide_eq_true (by kernel_rfl)) (by unfold Func.isWrapper; first | (rw [if_pos (by decide +kernel)]; kernel_rfl) | (rw [if_neg (by decide +kernel)]; exact ⟨rfl, rfl⟩))
    (fun os started H enc _ => liftE 8 Tryd.f8 Rows.fnExactFitsWithinSpec Tryd.func8 rfl rfl fnExactFitsWithin_vr
      (fun H ds gs h h' => match ds, h, gs, h' with | [d0, d1, d2, d3], _, [g0, g1, g2, g3, g4], _ => rfl)
      fnExactFitsWithin_rd
      fnExactFitsWithin_walk os started H enc (by kernel_rfl)
      (witnessE 8 Tryd.f8 Rows.fnExactFitsWithinSpec #[.slice none 0 0, .agg (Ste 0 0 0 0 0), .slice none 0 0, .float .f32 0] os H enc (fnExactFitsWithin_ok os) (fnExactFitsWithin_pb os H enc) (fnExactFitsWithin_sb os H enc)))

set_option maxRecDepth 100000 in
theorem fnExactFitsWithin_holds : Rows.FnExactFitsWithinCardSaid :=
  Claim7.holds_tied_plain_at .later [] [.sentinel, .sentinel, .sentinel, .sentinel, .sentinel] true Rows.fnExactFitsWithinCard.stood.harness Rows.fnExactFitsWithinCard.stood.looks
    fnExactFitsWithin_row (fun _ h => by cases h) (by kernel_rfl) (fun _ h => by cases h) fnExactFitsWithin_row_tie rfl ⟨rfl, rfl⟩ (by kernel_rfl) (by kernel_rfl)
    (fun f fn hf hfn => by
      obtain rfl : f = 8 := Option.some.inj ((show Tryd.prog.funcNamed "loop.example/g01288/laws.FnExactFitsWithin" = some 8 by kernel_rfl).symm.trans hf) |>.symm
      obtain rfl : fn = Tryd.f8 := (Option.some.inj (Tryd.func8.symm.trans hfn)).symm
      refine ⟨by kernel_rfl, fun j t ht => ?_⟩
      have hall : Tryd.f8.params.toList.all (fun t => !Tryd.prog.wantsStandIn t) = true := by kernel_rfl
      have hm : t ∈ Tryd.f8.params.toList := Array.mem_toList_iff.2 (Array.mem_of_getElem? ht)
      have h := List.all_eq_true.1 hall t hm
      simp only [Bool.not_eq_true'] at h
      exact h)
    (by kernel_rfl)
#print axioms fnExactFitsWithin_holds
end Go.Proofs.YthacifhphoaioaaDoor
