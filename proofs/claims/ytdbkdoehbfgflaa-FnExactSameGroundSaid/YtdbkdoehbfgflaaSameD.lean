/- Two grounds are the same: the parts. No condition. -/
import Derived.Test.YtdbkdoehbfgflaaSame
import Derived.Test.YtdbkdoehbfgflaaGrd
namespace Go.Proofs.Ytdbkdoehbfgflaa
open Go.RowKit
set_option linter.unusedSimpArgs false

/-- Two grounds are the same. -/
def sameGB (G H : Gd) : Bool := (G.wide == H.wide) && ((G.high == H.high) && ((G.x == H.x) && (sameF G.c H.c && (sameF G.g H.g && sameF G.h H.h))))

theorem sameGB_0 {G H : Gd} (h : (G.wide == H.wide) = false) : false = sameGB G H := by simp [sameGB, h]
theorem sameGB_1 {G H : Gd} (h : (G.high == H.high) = false) : false = sameGB G H := by simp [sameGB, h]
theorem sameGB_2 {G H : Gd} (h : (G.x == H.x) = false) : false = sameGB G H := by simp [sameGB, h]
theorem sameGB_3 {G H : Gd} (h : sameF G.c H.c = false) : false = sameGB G H := by simp [sameGB, h]
theorem sameGB_4 {G H : Gd} (h : sameF G.g H.g = false) : false = sameGB G H := by simp [sameGB, h]
theorem sameGB_5 {G H : Gd} (h : sameF G.h H.h = false) : false = sameGB G H := by simp [sameGB, h]
theorem sameGB_6 {G H : Gd} (h0 : (G.wide == H.wide) = true) (h1 : (G.high == H.high) = true) (h2 : (G.x == H.x) = true) (h3 : sameF G.c H.c = true) (h4 : sameF G.g H.g = true) (h5 : sameF G.h H.h = true) : true = sameGB G H := by
  simp only [sameGB, h0, h1, h2, h3, h4, h5, Bool.and_self]

/-- A LOAD OF MANY CELLS THAT IS WANTED, IN A WALK (guarded or not). -/
theorem wpList_load_g {P : Program} {ops : Array Oper} {rest : List Oper} {op : Oper} {a : Act} {w : World} {Q : Exit → Act → World → Prop} (hw : Region.wanted op (yielded ops a.tmps) = true) (ty : TypeId) (x : Operand) (ho : op.op = .load ty x)
    (b o : Nat) (hx : a.eval x = .pointer (some ⟨b, o, none⟩)) (cs : List Value) (d : TypeDesc) (hc : w.rangeAt b o cs)
    (hu : P.underlying ty = some d) (hd : d.isRow = true) (hi : (P.info? ty).map (·.size) = some cs.length)
    (h : wpList P ops Q rest (a.put op.dst (.agg cs.toArray)) w) : wpList P ops Q (op :: rest) a w :=
  wpList_step fun _ hK => by rw [if_pos hw]; exact wp_load_mid ty x ho b o hx cs d hc hu hd hi (hK _ _ h)

end Go.Proofs.Ytdbkdoehbfgflaa
