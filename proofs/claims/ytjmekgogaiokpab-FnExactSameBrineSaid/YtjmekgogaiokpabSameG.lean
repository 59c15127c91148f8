/- Two grounds: both programs tell alike whether they are the same. Condition: none. -/
import Derived.Test.YtjmekgogaiokpabSameD
namespace Go.Proofs.Ytjmekgogaiokpab
open Go.RowKit
set_option linter.unusedSimpArgs false

theorem l01SameField_is (f g : Nat → Nat) (p q po qo : Nat) (r : Bool) (h : sameF f g = r) (w : World) (hp : w.rangeAt p po (Fld f).toList) (hq : w.rangeAt q qo (Fld g).toList) :
    Calls Try.prog 15 #[.pointer (some ⟨p, po, none⟩), .pointer (some ⟨q, qo, none⟩)] w fun e w' => e = .returned (.bool r) ∧ ∃ n, w' = w.drewN n := by
  subst h
  exact l01SameField_any f g p q po qo w hp hq

set_option maxRecDepth 100000 in
set_option maxHeartbeats 1000000 in
theorem l01SameGround_0 (G H : Gd) (p q : Nat) (w : World) (hp : GrdAt w p 0 G) (hq : GrdAt w q 0 H) (e0 : (G.wide == H.wide) = false) :
    Calls Try.prog 14 #[.pointer (some ⟨p, 0, none⟩), .pointer (some ⟨q, 0, none⟩)] w fun e w' => e = .returned (.bool (sameGB G H)) ∧ Quiet w w' := by
  have a0 := hp.wide; have a1 := hp.high; have a5 := hp.x
  have b0 := hq.wide; have b1 := hq.high; have b5 := hq.x
  rw [Nat.zero_add] at a1 a5 b1 b5
  go_enter Try.func14, Try.ntmps14
  go_wp2
  go_quiet (fail)
  go_wp2
  go_ret
  exact ⟨ret_bool (sameGB_0 e0), Quiet.drewN (Quiet.refl _) _⟩

set_option maxRecDepth 100000 in
set_option maxHeartbeats 1000000 in
theorem l01SameGround_1 (G H : Gd) (p q : Nat) (w : World) (hp : GrdAt w p 0 G) (hq : GrdAt w q 0 H) (e0 : (G.wide == H.wide) = true) (e1 : (G.high == H.high) = false) :
    Calls Try.prog 14 #[.pointer (some ⟨p, 0, none⟩), .pointer (some ⟨q, 0, none⟩)] w fun e w' => e = .returned (.bool (sameGB G H)) ∧ Quiet w w' := by
  have a0 := hp.wide; have a1 := hp.high; have a5 := hp.x
  have b0 := hq.wide; have b1 := hq.high; have b5 := hq.x
  rw [Nat.zero_add] at a1 a5 b1 b5
  go_enter Try.func14, Try.ntmps14
  go_wp2
  go_quiet (fail)
  go_wp2
  go_ret
  exact ⟨ret_bool (sameGB_1 e1), Quiet.drewN (Quiet.refl _) _⟩

set_option maxRecDepth 100000 in
set_option maxHeartbeats 1000000 in
theorem l01SameGround_2 (G H : Gd) (p q : Nat) (w : World) (hp : GrdAt w p 0 G) (hq : GrdAt w q 0 H) (e0 : (G.wide == H.wide) = true) (e1 : (G.high == H.high) = true) (e2 : (G.x == H.x) = false) :
    Calls Try.prog 14 #[.pointer (some ⟨p, 0, none⟩), .pointer (some ⟨q, 0, none⟩)] w fun e w' => e = .returned (.bool (sameGB G H)) ∧ Quiet w w' := by
  have a0 := hp.wide; have a1 := hp.high; have a5 := hp.x
  have b0 := hq.wide; have b1 := hq.high; have b5 := hq.x
  rw [Nat.zero_add] at a1 a5 b1 b5
  go_enter Try.func14, Try.ntmps14
  go_wp2
  go_quiet (fail)
  go_wp2
  go_ret
  exact ⟨ret_bool (sameGB_2 e2), Quiet.drewN (Quiet.refl _) _⟩

set_option maxRecDepth 100000 in
set_option maxHeartbeats 1000000 in
theorem l01SameGround_3 (G H : Gd) (p q : Nat) (w : World) (hp : GrdAt w p 0 G) (hq : GrdAt w q 0 H) (e0 : (G.wide == H.wide) = true) (e1 : (G.high == H.high) = true) (e2 : (G.x == H.x) = true) (Sc : Hid (sameF G.c H.c = false)) :
    Calls Try.prog 14 #[.pointer (some ⟨p, 0, none⟩), .pointer (some ⟨q, 0, none⟩)] w fun e w' => e = .returned (.bool (sameGB G H)) ∧ Quiet w w' := by
  have a0 := hp.wide; have a1 := hp.high; have a5 := hp.x
  have b0 := hq.wide; have b1 := hq.high; have b5 := hq.x
  rw [Nat.zero_add] at a1 a5 b1 b5
  go_enter Try.func14, Try.ntmps14
  go_wp2
  go_quiet ((first | (go_at_call 15; exact Calls.quiet_of (l01SameField_is G.c H.c _ _ _ _ false Sc.out _ hp.c hq.c))))
  go_wp2
  go_ret
  exact ⟨ret_bool (sameGB_3 Sc.out), Quiet.drewN (Quiet.refl _) _⟩

set_option maxRecDepth 100000 in
set_option maxHeartbeats 1000000 in
theorem l01SameGround_4 (G H : Gd) (p q : Nat) (w : World) (hp : GrdAt w p 0 G) (hq : GrdAt w q 0 H) (e0 : (G.wide == H.wide) = true) (e1 : (G.high == H.high) = true) (e2 : (G.x == H.x) = true) (Sc : Hid (sameF G.c H.c = true)) (Sg : Hid (sameF G.g H.g = false)) :
    Calls Try.prog 14 #[.pointer (some ⟨p, 0, none⟩), .pointer (some ⟨q, 0, none⟩)] w fun e w' => e = .returned (.bool (sameGB G H)) ∧ Quiet w w' := by
  have a0 := hp.wide; have a1 := hp.high; have a5 := hp.x
  have b0 := hq.wide; have b1 := hq.high; have b5 := hq.x
  rw [Nat.zero_add] at a1 a5 b1 b5
  go_enter Try.func14, Try.ntmps14
  go_wp2
  go_quiet ((first | (go_at_call 15; exact Calls.quiet_of (l01SameField_is G.c H.c _ _ _ _ true Sc.out _ hp.c hq.c)) | (go_at_call 15; exact Calls.quiet_of (l01SameField_is G.g H.g _ _ _ _ false Sg.out _ hp.g hq.g))))
  go_wp2
  go_ret
  exact ⟨ret_bool (sameGB_4 Sg.out), Quiet.drewN (Quiet.refl _) _⟩

set_option maxRecDepth 100000 in
set_option maxHeartbeats 1000000 in
theorem l01SameGround_5 (G H : Gd) (p q : Nat) (w : World) (hp : GrdAt w p 0 G) (hq : GrdAt w q 0 H) (e0 : (G.wide == H.wide) = true) (e1 : (G.high == H.high) = true) (e2 : (G.x == H.x) = true) (Sc : Hid (sameF G.c H.c = true)) (Sg : Hid (sameF G.g H.g = true)) (Sh : Hid (sameF G.h H.h = false)) :
    Calls Try.prog 14 #[.pointer (some ⟨p, 0, none⟩), .pointer (some ⟨q, 0, none⟩)] w fun e w' => e = .returned (.bool (sameGB G H)) ∧ Quiet w w' := by
  have a0 := hp.wide; have a1 := hp.high; have a5 := hp.x
  have b0 := hq.wide; have b1 := hq.high; have b5 := hq.x
  rw [Nat.zero_add] at a1 a5 b1 b5
  go_enter Try.func14, Try.ntmps14
  go_wp2
  go_quiet ((first | (go_at_call 15; exact Calls.quiet_of (l01SameField_is G.c H.c _ _ _ _ true Sc.out _ hp.c hq.c)) | (go_at_call 15; exact Calls.quiet_of (l01SameField_is G.g H.g _ _ _ _ true Sg.out _ hp.g hq.g)) | (go_at_call 15; exact Calls.quiet_of (l01SameField_is G.h H.h _ _ _ _ false Sh.out _ hp.h hq.h))))
  go_wp2
  go_ret
  exact ⟨ret_bool (sameGB_5 Sh.out), Quiet.drewN (Quiet.refl _) _⟩

set_option maxRecDepth 100000 in
set_option maxHeartbeats 1000000 in
theorem l01SameGround_6 (G H : Gd) (p q : Nat) (w : World) (hp : GrdAt w p 0 G) (hq : GrdAt w q 0 H) (e0 : (G.wide == H.wide) = true) (e1 : (G.high == H.high) = true) (e2 : (G.x == H.x) = true) (Sc : Hid (sameF G.c H.c = true)) (Sg : Hid (sameF G.g H.g = true)) (Sh : Hid (sameF G.h H.h = true)) :
    Calls Try.prog 14 #[.pointer (some ⟨p, 0, none⟩), .pointer (some ⟨q, 0, none⟩)] w fun e w' => e = .returned (.bool (sameGB G H)) ∧ Quiet w w' := by
  have a0 := hp.wide; have a1 := hp.high; have a5 := hp.x
  have b0 := hq.wide; have b1 := hq.high; have b5 := hq.x
  rw [Nat.zero_add] at a1 a5 b1 b5
  go_enter Try.func14, Try.ntmps14
  go_wp2
  go_quiet ((first | (go_at_call 15; exact Calls.quiet_of (l01SameField_is G.c H.c _ _ _ _ true Sc.out _ hp.c hq.c)) | (go_at_call 15; exact Calls.quiet_of (l01SameField_is G.g H.g _ _ _ _ true Sg.out _ hp.g hq.g)) | (go_at_call 15; exact Calls.quiet_of (l01SameField_is G.h H.h _ _ _ _ true Sh.out _ hp.h hq.h))))
  go_wp2
  go_ret
  exact ⟨ret_bool (sameGB_6 e0 e1 e2 Sc.out Sg.out Sh.out), Quiet.drewN (Quiet.refl _) _⟩

theorem l01SameGround_any (G H : Gd) (p q : Nat) (w : World) (hp : GrdAt w p 0 G) (hq : GrdAt w q 0 H) :
    Calls Try.prog 14 #[.pointer (some ⟨p, 0, none⟩), .pointer (some ⟨q, 0, none⟩)] w fun e w' => e = .returned (.bool (sameGB G H)) ∧ Quiet w w' := by
  cases e0 : (G.wide == H.wide)
  · exact l01SameGround_0 G H p q w hp hq e0
  cases e1 : (G.high == H.high)
  · exact l01SameGround_1 G H p q w hp hq e0 e1
  cases e2 : (G.x == H.x)
  · exact l01SameGround_2 G H p q w hp hq e0 e1 e2
  cases sc : sameF G.c H.c
  · exact l01SameGround_3 G H p q w hp hq e0 e1 e2 sc
  cases sg : sameF G.g H.g
  · exact l01SameGround_4 G H p q w hp hq e0 e1 e2 sc sg
  cases sh : sameF G.h H.h
  · exact l01SameGround_5 G H p q w hp hq e0 e1 e2 sc sg sh
  · exact l01SameGround_6 G H p q w hp hq e0 e1 e2 sc sg sh

end Go.Proofs.Ytjmekgogaiokpab
