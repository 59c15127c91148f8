/- Two grounds are the same: the parts. No condition. -/
import Derived.Test.YtjmekgogaiokpabSame
import Derived.Test.YtjmekgogaiokpabBase
namespace Go.Proofs.Ytjmekgogaiokpab
open Go.RowKit
set_option linter.unusedSimpArgs false

/-- Two grounds are the same. -/
def sameGB (G H : Gd) : Bool := (G.wide == H.wide) && ((G.high == H.high) && ((G.x == H.x) && (sameF G.c H.c && (sameF G.g H.g && sameF G.h H.h))))

theorem sameGB_0 {G H : Gd} (h : (G.wide == H.wide) = false) : false = sameGB G H := by simp [sameGB, h]
theorem sameGB_1 {G H : Gd} (h : (G.high == H.high) = false) : false = sameGB G H := by simp [sameGB, h]
theorem sameGB_2 {G H : Gd} (h : (G.x == H.x) = false) : false = sameGB G H := by simp [sameGB, h]
theorem sameGB_3 {G H : Gd} (h : sameF G.c H.c = false) : false = sameGB G H := by simp [sameGB, h]
theorem sameGB_4 {G H : Gd} (h : sameF G.g H.g = false) : false = sameGB G H := by simp [sameGB, h]
theorem sameGB_5 {G H : Gd} (h : sameF G.h H.h = false) : false = sameGB G H := by simp [sameGB, h]
theorem sameGB_6 {G H : Gd} (h0 : (G.wide == H.wide) = true) (h1 : (G.high == H.high) = true) (h2 : (G.x == H.x) = true) (h3 : sameF G.c H.c = true) (h4 : sameF G.g H.g = true) (h5 : sameF G.h H.h = true) : true = sameGB G H := by
  simp only [sameGB, h0, h1, h2, h3, h4, h5, Bool.and_self]

end Go.Proofs.Ytjmekgogaiokpab
