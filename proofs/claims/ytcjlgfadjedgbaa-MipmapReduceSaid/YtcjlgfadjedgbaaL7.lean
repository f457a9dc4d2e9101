/- average of package mipmap. -/
import Derived.Test.YtcjlgfadjedgbaaL3
import Derived.Test.YtcjlgfadjedgbaaTreeC
import Derived.Test.YtcjlgfadjedgbaaTail
namespace Go.Proofs.Ytcjlgfadjedgbaa
open Go.RowKit Go.Sort
set_option linter.unusedVariables false

/-- The states of average's second region. -/
def avDag : Dag := ⟨[[], [3], [16], [17], [18], [19], [3, 7], [3, 16], [3, 17], [3, 18], [3, 19], [16, 17], [16, 18], [16, 19], [17, 18], [17, 19], [18, 19], [3, 7, 11], [3, 7, 16], [3, 7, 17], [3, 7, 18], [3, 7, 19], [3, 16, 17], [3, 16, 18], [3, 16, 19], [3, 17, 18], [3, 17, 19], [3, 18, 19], [16, 17, 18], [16, 17, 19], [16, 18, 19], [17, 18, 19], [3, 7, 11, 15], [3, 7, 11, 16], [3, 7, 11, 17], [3, 7, 11, 18], [3, 7, 11, 19], [3, 7, 16, 17], [3, 7, 16, 18], [3, 7, 16, 19], [3, 7, 17, 18], [3, 7, 17, 19], [3, 7, 18, 19], [3, 16, 17, 18], [3, 16, 17, 19], [3, 16, 18, 19], [3, 17, 18, 19], [16, 17, 18, 19], [3, 7, 11, 15, 16], [3, 7, 11, 15, 17], [3, 7, 11, 15, 18], [3, 7, 11, 15, 19], [3, 7, 11, 16, 17], [3, 7, 11, 16, 18], [3, 7, 11, 16, 19], [3, 7, 11, 17, 18], [3, 7, 11, 17, 19], [3, 7, 11, 18, 19], [3, 7, 16, 17, 18], [3, 7, 16, 17, 19], [3, 7, 16, 18, 19], [3, 7, 17, 18, 19], [3, 16, 17, 18, 19], [3, 7, 11, 15, 16, 17], [3, 7, 11, 15, 16, 18], [3, 7, 11, 15, 16, 19], [3, 7, 11, 15, 17, 18], [3, 7, 11, 15, 17, 19], [3, 7, 11, 15, 18, 19], [3, 7, 11, 16, 17, 18], [3, 7, 11, 16, 17, 19], [3, 7, 11, 16, 18, 19], [3, 7, 11, 17, 18, 19], [3, 7, 16, 17, 18, 19], [3, 7, 11, 15, 16, 17, 18], [3, 7, 11, 15, 16, 17, 19], [3, 7, 11, 15, 16, 18, 19], [3, 7, 11, 15, 17, 18, 19], [3, 7, 11, 16, 17, 18, 19], [3, 7, 11, 15, 16, 17, 18, 19], [3, 7, 11, 15, 16, 17, 18, 19, 20], [3, 7, 11, 15, 16, 17, 18, 19, 20, 21], [3, 7, 11, 15, 16, 17, 18, 19, 20, 21, 22], [3, 7, 11, 15, 16, 17, 18, 19, 20, 21, 22, 23]], [[(3, 1), (16, 2), (17, 3), (18, 4), (19, 5)], [(7, 6), (16, 7), (17, 8), (18, 9), (19, 10)], [(3, 7), (17, 11), (18, 12), (19, 13)], [(3, 8), (16, 11), (18, 14), (19, 15)], [(3, 9), (16, 12), (17, 14), (19, 16)], [(3, 10), (16, 13), (17, 15), (18, 16)], [(11, 17), (16, 18), (17, 19), (18, 20), (19, 21)], [(7, 18), (17, 22), (18, 23), (19, 24)], [(7, 19), (16, 22), (18, 25), (19, 26)], [(7, 20), (16, 23), (17, 25), (19, 27)], [(7, 21), (16, 24), (17, 26), (18, 27)], [(3, 22), (18, 28), (19, 29)], [(3, 23), (17, 28), (19, 30)], [(3, 24), (17, 29), (18, 30)], [(3, 25), (16, 28), (19, 31)], [(3, 26), (16, 29), (18, 31)], [(3, 27), (16, 30), (17, 31)], [(15, 32), (16, 33), (17, 34), (18, 35), (19, 36)], [(11, 33), (17, 37), (18, 38), (19, 39)], [(11, 34), (16, 37), (18, 40), (19, 41)], [(11, 35), (16, 38), (17, 40), (19, 42)], [(11, 36), (16, 39), (17, 41), (18, 42)], [(7, 37), (18, 43), (19, 44)], [(7, 38), (17, 43), (19, 45)], [(7, 39), (17, 44), (18, 45)], [(7, 40), (16, 43), (19, 46)], [(7, 41), (16, 44), (18, 46)], [(7, 42), (16, 45), (17, 46)], [(3, 43), (19, 47)], [(3, 44), (18, 47)], [(3, 45), (17, 47)], [(3, 46), (16, 47)], [(16, 48), (17, 49), (18, 50), (19, 51)], [(15, 48), (17, 52), (18, 53), (19, 54)], [(15, 49), (16, 52), (18, 55), (19, 56)], [(15, 50), (16, 53), (17, 55), (19, 57)], [(15, 51), (16, 54), (17, 56), (18, 57)], [(11, 52), (18, 58), (19, 59)], [(11, 53), (17, 58), (19, 60)], [(11, 54), (17, 59), (18, 60)], [(11, 55), (16, 58), (19, 61)], [(11, 56), (16, 59), (18, 61)], [(11, 57), (16, 60), (17, 61)], [(7, 58), (19, 62)], [(7, 59), (18, 62)], [(7, 60), (17, 62)], [(7, 61), (16, 62)], [(3, 62)], [(17, 63), (18, 64), (19, 65)], [(16, 63), (18, 66), (19, 67)], [(16, 64), (17, 66), (19, 68)], [(16, 65), (17, 67), (18, 68)], [(15, 63), (18, 69), (19, 70)], [(15, 64), (17, 69), (19, 71)], [(15, 65), (17, 70), (18, 71)], [(15, 66), (16, 69), (19, 72)], [(15, 67), (16, 70), (18, 72)], [(15, 68), (16, 71), (17, 72)], [(11, 69), (19, 73)], [(11, 70), (18, 73)], [(11, 71), (17, 73)], [(11, 72), (16, 73)], [(7, 73)], [(18, 74), (19, 75)], [(17, 74), (19, 76)], [(17, 75), (18, 76)], [(16, 74), (19, 77)], [(16, 75), (18, 77)], [(16, 76), (17, 77)], [(15, 74), (19, 78)], [(15, 75), (18, 78)], [(15, 76), (17, 78)], [(15, 77), (16, 78)], [(11, 78)], [(19, 79)], [(18, 79)], [(17, 79)], [(16, 79)], [(15, 79)], [(20, 80)], [(21, 81)], [(22, 82)], [(23, 83)], []], [12, 11, 11, 11, 11, 11, 10, 10, 10, 10, 10, 10, 10, 10, 10, 10, 10, 9, 9, 9, 9, 9, 9, 9, 9, 9, 9, 9, 9, 9, 9, 9, 8, 8, 8, 8, 8, 8, 8, 8, 8, 8, 8, 8, 8, 8, 8, 8, 7, 7, 7, 7, 7, 7, 7, 7, 7, 7, 7, 7, 7, 7, 7, 6, 6, 6, 6, 6, 6, 6, 6, 6, 6, 6, 5, 5, 5, 5, 5, 4, 3, 2, 1, 0]⟩

/-- What is known all the way: the image in its block, the result in its own. -/
def AvF (w : World) (f wd ht : Int) (A : Option Addr) (n c : Nat) (W : World) : Prop := IAt W w.heap.size f wd ht A n c ∧ VBox W (w.heap.size + 1) 0 0 0 0 ∧ Below w.heap.size w W
theorem AvF.on {w W V : World} {f wd ht : Int} {A : Option Addr} {n c : Nat} (h : AvF w f wd ht A n c W) (B : Below W.heap.size W V) : AvF w f wd ht A n c V := ⟨h.1.on B, h.2.1.on B, bon h.2.2 B⟩
theorem AvF.set {w W V : World} {f wd ht : Int} {A : Option Addr} {n c b : Nat} (h : AvF w f wd ht A n c W) (hb : w.heap.size + 1 < b) (B : Below b W V) : AvF w f wd ht A n c V := ⟨h.1.below (by omega) B, h.2.1.below hb B, h.2.2.trans (B.mono (by omega))⟩
def avR (a : Act) (M : Value) (x y r s : Int) : Act :=
  ((((((((((((a.put (some 25) M).put (some 26) (.int .i64 x)).put (some 27) (.int .i64 y)).put (some 29) M).put (some 30) (.int .i64 r)).put (some 31) (.int .i64 y)).put (some 33) M).put (some 34) (.int .i64 x)).put (some 35) (.int .i64 s)).put (some 37) M).put (some 38) (.int .i64 r)).put (some 39) (.int .i64 s))

@[reducible] def avSt (w : World) (f wd ht : Int) (A : Option Addr) (n c : Nat) (M : Value) (x y r s : Int) (va vb vc vd : Nat → Int) (k : Nat) (a0 a' : Act) (W : World) : Prop := match k with
  | 0 => ∃ b9 b10 b11 b12 : Nat, a' = (avR a0 M x y r s) ∧ AvF w f wd ht A n c W
  | 1 => ∃ b9 b10 b11 b12 : Nat, a' = ((avR a0 M x y r s).put (some 28) (.agg #[.int .i64 (va 0), .int .i64 (va 1), .int .i64 (va 2), .int .i64 (va 3)])) ∧ AvF w f wd ht A n c W
  | 2 => ∃ b9 b10 b11 b12 : Nat, a' = ((avR a0 M x y r s).put (some 9) (.pointer (some ⟨b9, 0, none⟩))) ∧ AvF w f wd ht A n c W ∧ VBox W b9 0 0 0 0 ∧ w.heap.size + 1 < b9
  | 3 => ∃ b9 b10 b11 b12 : Nat, a' = ((avR a0 M x y r s).put (some 10) (.pointer (some ⟨b10, 0, none⟩))) ∧ AvF w f wd ht A n c W ∧ VBox W b10 0 0 0 0 ∧ w.heap.size + 1 < b10
  | 4 => ∃ b9 b10 b11 b12 : Nat, a' = ((avR a0 M x y r s).put (some 11) (.pointer (some ⟨b11, 0, none⟩))) ∧ AvF w f wd ht A n c W ∧ VBox W b11 0 0 0 0 ∧ w.heap.size + 1 < b11
  | 5 => ∃ b9 b10 b11 b12 : Nat, a' = ((avR a0 M x y r s).put (some 12) (.pointer (some ⟨b12, 0, none⟩))) ∧ AvF w f wd ht A n c W ∧ VBox W b12 0 0 0 0 ∧ w.heap.size + 1 < b12
  | 6 => ∃ b9 b10 b11 b12 : Nat, a' = (((avR a0 M x y r s).put (some 28) (.agg #[.int .i64 (va 0), .int .i64 (va 1), .int .i64 (va 2), .int .i64 (va 3)])).put (some 32) (.agg #[.int .i64 (vb 0), .int .i64 (vb 1), .int .i64 (vb 2), .int .i64 (vb 3)])) ∧ AvF w f wd ht A n c W
  | 7 => ∃ b9 b10 b11 b12 : Nat, a' = (((avR a0 M x y r s).put (some 28) (.agg #[.int .i64 (va 0), .int .i64 (va 1), .int .i64 (va 2), .int .i64 (va 3)])).put (some 9) (.pointer (some ⟨b9, 0, none⟩))) ∧ AvF w f wd ht A n c W ∧ VBox W b9 0 0 0 0 ∧ w.heap.size + 1 < b9
  | 8 => ∃ b9 b10 b11 b12 : Nat, a' = (((avR a0 M x y r s).put (some 28) (.agg #[.int .i64 (va 0), .int .i64 (va 1), .int .i64 (va 2), .int .i64 (va 3)])).put (some 10) (.pointer (some ⟨b10, 0, none⟩))) ∧ AvF w f wd ht A n c W ∧ VBox W b10 0 0 0 0 ∧ w.heap.size + 1 < b10
  | 9 => ∃ b9 b10 b11 b12 : Nat, a' = (((avR a0 M x y r s).put (some 28) (.agg #[.int .i64 (va 0), .int .i64 (va 1), .int .i64 (va 2), .int .i64 (va 3)])).put (some 11) (.pointer (some ⟨b11, 0, none⟩))) ∧ AvF w f wd ht A n c W ∧ VBox W b11 0 0 0 0 ∧ w.heap.size + 1 < b11
  | 10 => ∃ b9 b10 b11 b12 : Nat, a' = (((avR a0 M x y r s).put (some 28) (.agg #[.int .i64 (va 0), .int .i64 (va 1), .int .i64 (va 2), .int .i64 (va 3)])).put (some 12) (.pointer (some ⟨b12, 0, none⟩))) ∧ AvF w f wd ht A n c W ∧ VBox W b12 0 0 0 0 ∧ w.heap.size + 1 < b12
  | 11 => ∃ b9 b10 b11 b12 : Nat, a' = (((avR a0 M x y r s).put (some 9) (.pointer (some ⟨b9, 0, none⟩))).put (some 10) (.pointer (some ⟨b10, 0, none⟩))) ∧ AvF w f wd ht A n c W ∧ VBox W b9 0 0 0 0 ∧ VBox W b10 0 0 0 0 ∧ w.heap.size + 1 < b9 ∧ w.heap.size + 1 < b10 ∧ b9 ≠ b10
  | 12 => ∃ b9 b10 b11 b12 : Nat, a' = (((avR a0 M x y r s).put (some 9) (.pointer (some ⟨b9, 0, none⟩))).put (some 11) (.pointer (some ⟨b11, 0, none⟩))) ∧ AvF w f wd ht A n c W ∧ VBox W b9 0 0 0 0 ∧ VBox W b11 0 0 0 0 ∧ w.heap.size + 1 < b9 ∧ w.heap.size + 1 < b11 ∧ b9 ≠ b11
  | 13 => ∃ b9 b10 b11 b12 : Nat, a' = (((avR a0 M x y r s).put (some 9) (.pointer (some ⟨b9, 0, none⟩))).put (some 12) (.pointer (some ⟨b12, 0, none⟩))) ∧ AvF w f wd ht A n c W ∧ VBox W b9 0 0 0 0 ∧ VBox W b12 0 0 0 0 ∧ w.heap.size + 1 < b9 ∧ w.heap.size + 1 < b12 ∧ b9 ≠ b12
  | 14 => ∃ b9 b10 b11 b12 : Nat, a' = (((avR a0 M x y r s).put (some 10) (.pointer (some ⟨b10, 0, none⟩))).put (some 11) (.pointer (some ⟨b11, 0, none⟩))) ∧ AvF w f wd ht A n c W ∧ VBox W b10 0 0 0 0 ∧ VBox W b11 0 0 0 0 ∧ w.heap.size + 1 < b10 ∧ w.heap.size + 1 < b11 ∧ b10 ≠ b11
  | 15 => ∃ b9 b10 b11 b12 : Nat, a' = (((avR a0 M x y r s).put (some 10) (.pointer (some ⟨b10, 0, none⟩))).put (some 12) (.pointer (some ⟨b12, 0, none⟩))) ∧ AvF w f wd ht A n c W ∧ VBox W b10 0 0 0 0 ∧ VBox W b12 0 0 0 0 ∧ w.heap.size + 1 < b10 ∧ w.heap.size + 1 < b12 ∧ b10 ≠ b12
  | 16 => ∃ b9 b10 b11 b12 : Nat, a' = (((avR a0 M x y r s).put (some 11) (.pointer (some ⟨b11, 0, none⟩))).put (some 12) (.pointer (some ⟨b12, 0, none⟩))) ∧ AvF w f wd ht A n c W ∧ VBox W b11 0 0 0 0 ∧ VBox W b12 0 0 0 0 ∧ w.heap.size + 1 < b11 ∧ w.heap.size + 1 < b12 ∧ b11 ≠ b12
  | 17 => ∃ b9 b10 b11 b12 : Nat, a' = ((((avR a0 M x y r s).put (some 28) (.agg #[.int .i64 (va 0), .int .i64 (va 1), .int .i64 (va 2), .int .i64 (va 3)])).put (some 32) (.agg #[.int .i64 (vb 0), .int .i64 (vb 1), .int .i64 (vb 2), .int .i64 (vb 3)])).put (some 36) (.agg #[.int .i64 (vc 0), .int .i64 (vc 1), .int .i64 (vc 2), .int .i64 (vc 3)])) ∧ AvF w f wd ht A n c W
  | 18 => ∃ b9 b10 b11 b12 : Nat, a' = ((((avR a0 M x y r s).put (some 28) (.agg #[.int .i64 (va 0), .int .i64 (va 1), .int .i64 (va 2), .int .i64 (va 3)])).put (some 32) (.agg #[.int .i64 (vb 0), .int .i64 (vb 1), .int .i64 (vb 2), .int .i64 (vb 3)])).put (some 9) (.pointer (some ⟨b9, 0, none⟩))) ∧ AvF w f wd ht A n c W ∧ VBox W b9 0 0 0 0 ∧ w.heap.size + 1 < b9
  | 19 => ∃ b9 b10 b11 b12 : Nat, a' = ((((avR a0 M x y r s).put (some 28) (.agg #[.int .i64 (va 0), .int .i64 (va 1), .int .i64 (va 2), .int .i64 (va 3)])).put (some 32) (.agg #[.int .i64 (vb 0), .int .i64 (vb 1), .int .i64 (vb 2), .int .i64 (vb 3)])).put (some 10) (.pointer (some ⟨b10, 0, none⟩))) ∧ AvF w f wd ht A n c W ∧ VBox W b10 0 0 0 0 ∧ w.heap.size + 1 < b10
  | 20 => ∃ b9 b10 b11 b12 : Nat, a' = ((((avR a0 M x y r s).put (some 28) (.agg #[.int .i64 (va 0), .int .i64 (va 1), .int .i64 (va 2), .int .i64 (va 3)])).put (some 32) (.agg #[.int .i64 (vb 0), .int .i64 (vb 1), .int .i64 (vb 2), .int .i64 (vb 3)])).put (some 11) (.pointer (some ⟨b11, 0, none⟩))) ∧ AvF w f wd ht A n c W ∧ VBox W b11 0 0 0 0 ∧ w.heap.size + 1 < b11
  | 21 => ∃ b9 b10 b11 b12 : Nat, a' = ((((avR a0 M x y r s).put (some 28) (.agg #[.int .i64 (va 0), .int .i64 (va 1), .int .i64 (va 2), .int .i64 (va 3)])).put (some 32) (.agg #[.int .i64 (vb 0), .int .i64 (vb 1), .int .i64 (vb 2), .int .i64 (vb 3)])).put (some 12) (.pointer (some ⟨b12, 0, none⟩))) ∧ AvF w f wd ht A n c W ∧ VBox W b12 0 0 0 0 ∧ w.heap.size + 1 < b12
  | 22 => ∃ b9 b10 b11 b12 : Nat, a' = ((((avR a0 M x y r s).put (some 28) (.agg #[.int .i64 (va 0), .int .i64 (va 1), .int .i64 (va 2), .int .i64 (va 3)])).put (some 9) (.pointer (some ⟨b9, 0, none⟩))).put (some 10) (.pointer (some ⟨b10, 0, none⟩))) ∧ AvF w f wd ht A n c W ∧ VBox W b9 0 0 0 0 ∧ VBox W b10 0 0 0 0 ∧ w.heap.size + 1 < b9 ∧ w.heap.size + 1 < b10 ∧ b9 ≠ b10
  | 23 => ∃ b9 b10 b11 b12 : Nat, a' = ((((avR a0 M x y r s).put (some 28) (.agg #[.int .i64 (va 0), .int .i64 (va 1), .int .i64 (va 2), .int .i64 (va 3)])).put (some 9) (.pointer (some ⟨b9, 0, none⟩))).put (some 11) (.pointer (some ⟨b11, 0, none⟩))) ∧ AvF w f wd ht A n c W ∧ VBox W b9 0 0 0 0 ∧ VBox W b11 0 0 0 0 ∧ w.heap.size + 1 < b9 ∧ w.heap.size + 1 < b11 ∧ b9 ≠ b11
  | 24 => ∃ b9 b10 b11 b12 : Nat, a' = ((((avR a0 M x y r s).put (some 28) (.agg #[.int .i64 (va 0), .int .i64 (va 1), .int .i64 (va 2), .int .i64 (va 3)])).put (some 9) (.pointer (some ⟨b9, 0, none⟩))).put (some 12) (.pointer (some ⟨b12, 0, none⟩))) ∧ AvF w f wd ht A n c W ∧ VBox W b9 0 0 0 0 ∧ VBox W b12 0 0 0 0 ∧ w.heap.size + 1 < b9 ∧ w.heap.size + 1 < b12 ∧ b9 ≠ b12
  | 25 => ∃ b9 b10 b11 b12 : Nat, a' = ((((avR a0 M x y r s).put (some 28) (.agg #[.int .i64 (va 0), .int .i64 (va 1), .int .i64 (va 2), .int .i64 (va 3)])).put (some 10) (.pointer (some ⟨b10, 0, none⟩))).put (some 11) (.pointer (some ⟨b11, 0, none⟩))) ∧ AvF w f wd ht A n c W ∧ VBox W b10 0 0 0 0 ∧ VBox W b11 0 0 0 0 ∧ w.heap.size + 1 < b10 ∧ w.heap.size + 1 < b11 ∧ b10 ≠ b11
  | 26 => ∃ b9 b10 b11 b12 : Nat, a' = ((((avR a0 M x y r s).put (some 28) (.agg #[.int .i64 (va 0), .int .i64 (va 1), .int .i64 (va 2), .int .i64 (va 3)])).put (some 10) (.pointer (some ⟨b10, 0, none⟩))).put (some 12) (.pointer (some ⟨b12, 0, none⟩))) ∧ AvF w f wd ht A n c W ∧ VBox W b10 0 0 0 0 ∧ VBox W b12 0 0 0 0 ∧ w.heap.size + 1 < b10 ∧ w.heap.size + 1 < b12 ∧ b10 ≠ b12
  | 27 => ∃ b9 b10 b11 b12 : Nat, a' = ((((avR a0 M x y r s).put (some 28) (.agg #[.int .i64 (va 0), .int .i64 (va 1), .int .i64 (va 2), .int .i64 (va 3)])).put (some 11) (.pointer (some ⟨b11, 0, none⟩))).put (some 12) (.pointer (some ⟨b12, 0, none⟩))) ∧ AvF w f wd ht A n c W ∧ VBox W b11 0 0 0 0 ∧ VBox W b12 0 0 0 0 ∧ w.heap.size + 1 < b11 ∧ w.heap.size + 1 < b12 ∧ b11 ≠ b12
  | 28 => ∃ b9 b10 b11 b12 : Nat, a' = ((((avR a0 M x y r s).put (some 9) (.pointer (some ⟨b9, 0, none⟩))).put (some 10) (.pointer (some ⟨b10, 0, none⟩))).put (some 11) (.pointer (some ⟨b11, 0, none⟩))) ∧ AvF w f wd ht A n c W ∧ VBox W b9 0 0 0 0 ∧ VBox W b10 0 0 0 0 ∧ VBox W b11 0 0 0 0 ∧ w.heap.size + 1 < b9 ∧ w.heap.size + 1 < b10 ∧ w.heap.size + 1 < b11 ∧ b9 ≠ b10 ∧ b9 ≠ b11 ∧ b10 ≠ b11
  | 29 => ∃ b9 b10 b11 b12 : Nat, a' = ((((avR a0 M x y r s).put (some 9) (.pointer (some ⟨b9, 0, none⟩))).put (some 10) (.pointer (some ⟨b10, 0, none⟩))).put (some 12) (.pointer (some ⟨b12, 0, none⟩))) ∧ AvF w f wd ht A n c W ∧ VBox W b9 0 0 0 0 ∧ VBox W b10 0 0 0 0 ∧ VBox W b12 0 0 0 0 ∧ w.heap.size + 1 < b9 ∧ w.heap.size + 1 < b10 ∧ w.heap.size + 1 < b12 ∧ b9 ≠ b10 ∧ b9 ≠ b12 ∧ b10 ≠ b12
  | 30 => ∃ b9 b10 b11 b12 : Nat, a' = ((((avR a0 M x y r s).put (some 9) (.pointer (some ⟨b9, 0, none⟩))).put (some 11) (.pointer (some ⟨b11, 0, none⟩))).put (some 12) (.pointer (some ⟨b12, 0, none⟩))) ∧ AvF w f wd ht A n c W ∧ VBox W b9 0 0 0 0 ∧ VBox W b11 0 0 0 0 ∧ VBox W b12 0 0 0 0 ∧ w.heap.size + 1 < b9 ∧ w.heap.size + 1 < b11 ∧ w.heap.size + 1 < b12 ∧ b9 ≠ b11 ∧ b9 ≠ b12 ∧ b11 ≠ b12
  | 31 => ∃ b9 b10 b11 b12 : Nat, a' = ((((avR a0 M x y r s).put (some 10) (.pointer (some ⟨b10, 0, none⟩))).put (some 11) (.pointer (some ⟨b11, 0, none⟩))).put (some 12) (.pointer (some ⟨b12, 0, none⟩))) ∧ AvF w f wd ht A n c W ∧ VBox W b10 0 0 0 0 ∧ VBox W b11 0 0 0 0 ∧ VBox W b12 0 0 0 0 ∧ w.heap.size + 1 < b10 ∧ w.heap.size + 1 < b11 ∧ w.heap.size + 1 < b12 ∧ b10 ≠ b11 ∧ b10 ≠ b12 ∧ b11 ≠ b12
  | 32 => ∃ b9 b10 b11 b12 : Nat, a' = (((((avR a0 M x y r s).put (some 28) (.agg #[.int .i64 (va 0), .int .i64 (va 1), .int .i64 (va 2), .int .i64 (va 3)])).put (some 32) (.agg #[.int .i64 (vb 0), .int .i64 (vb 1), .int .i64 (vb 2), .int .i64 (vb 3)])).put (some 36) (.agg #[.int .i64 (vc 0), .int .i64 (vc 1), .int .i64 (vc 2), .int .i64 (vc 3)])).put (some 40) (.agg #[.int .i64 (vd 0), .int .i64 (vd 1), .int .i64 (vd 2), .int .i64 (vd 3)])) ∧ AvF w f wd ht A n c W
  | 33 => ∃ b9 b10 b11 b12 : Nat, a' = (((((avR a0 M x y r s).put (some 28) (.agg #[.int .i64 (va 0), .int .i64 (va 1), .int .i64 (va 2), .int .i64 (va 3)])).put (some 32) (.agg #[.int .i64 (vb 0), .int .i64 (vb 1), .int .i64 (vb 2), .int .i64 (vb 3)])).put (some 36) (.agg #[.int .i64 (vc 0), .int .i64 (vc 1), .int .i64 (vc 2), .int .i64 (vc 3)])).put (some 9) (.pointer (some ⟨b9, 0, none⟩))) ∧ AvF w f wd ht A n c W ∧ VBox W b9 0 0 0 0 ∧ w.heap.size + 1 < b9
  | 34 => ∃ b9 b10 b11 b12 : Nat, a' = (((((avR a0 M x y r s).put (some 28) (.agg #[.int .i64 (va 0), .int .i64 (va 1), .int .i64 (va 2), .int .i64 (va 3)])).put (some 32) (.agg #[.int .i64 (vb 0), .int .i64 (vb 1), .int .i64 (vb 2), .int .i64 (vb 3)])).put (some 36) (.agg #[.int .i64 (vc 0), .int .i64 (vc 1), .int .i64 (vc 2), .int .i64 (vc 3)])).put (some 10) (.pointer (some ⟨b10, 0, none⟩))) ∧ AvF w f wd ht A n c W ∧ VBox W b10 0 0 0 0 ∧ w.heap.size + 1 < b10
  | 35 => ∃ b9 b10 b11 b12 : Nat, a' = (((((avR a0 M x y r s).put (some 28) (.agg #[.int .i64 (va 0), .int .i64 (va 1), .int .i64 (va 2), .int .i64 (va 3)])).put (some 32) (.agg #[.int .i64 (vb 0), .int .i64 (vb 1), .int .i64 (vb 2), .int .i64 (vb 3)])).put (some 36) (.agg #[.int .i64 (vc 0), .int .i64 (vc 1), .int .i64 (vc 2), .int .i64 (vc 3)])).put (some 11) (.pointer (some ⟨b11, 0, none⟩))) ∧ AvF w f wd ht A n c W ∧ VBox W b11 0 0 0 0 ∧ w.heap.size + 1 < b11
  | 36 => ∃ b9 b10 b11 b12 : Nat, a' = (((((avR a0 M x y r s).put (some 28) (.agg #[.int .i64 (va 0), .int .i64 (va 1), .int .i64 (va 2), .int .i64 (va 3)])).put (some 32) (.agg #[.int .i64 (vb 0), .int .i64 (vb 1), .int .i64 (vb 2), .int .i64 (vb 3)])).put (some 36) (.agg #[.int .i64 (vc 0), .int .i64 (vc 1), .int .i64 (vc 2), .int .i64 (vc 3)])).put (some 12) (.pointer (some ⟨b12, 0, none⟩))) ∧ AvF w f wd ht A n c W ∧ VBox W b12 0 0 0 0 ∧ w.heap.size + 1 < b12
  | 37 => ∃ b9 b10 b11 b12 : Nat, a' = (((((avR a0 M x y r s).put (some 28) (.agg #[.int .i64 (va 0), .int .i64 (va 1), .int .i64 (va 2), .int .i64 (va 3)])).put (some 32) (.agg #[.int .i64 (vb 0), .int .i64 (vb 1), .int .i64 (vb 2), .int .i64 (vb 3)])).put (some 9) (.pointer (some ⟨b9, 0, none⟩))).put (some 10) (.pointer (some ⟨b10, 0, none⟩))) ∧ AvF w f wd ht A n c W ∧ VBox W b9 0 0 0 0 ∧ VBox W b10 0 0 0 0 ∧ w.heap.size + 1 < b9 ∧ w.heap.size + 1 < b10 ∧ b9 ≠ b10
  | 38 => ∃ b9 b10 b11 b12 : Nat, a' = (((((avR a0 M x y r s).put (some 28) (.agg #[.int .i64 (va 0), .int .i64 (va 1), .int .i64 (va 2), .int .i64 (va 3)])).put (some 32) (.agg #[.int .i64 (vb 0), .int .i64 (vb 1), .int .i64 (vb 2), .int .i64 (vb 3)])).put (some 9) (.pointer (some ⟨b9, 0, none⟩))).put (some 11) (.pointer (some ⟨b11, 0, none⟩))) ∧ AvF w f wd ht A n c W ∧ VBox W b9 0 0 0 0 ∧ VBox W b11 0 0 0 0 ∧ w.heap.size + 1 < b9 ∧ w.heap.size + 1 < b11 ∧ b9 ≠ b11
  | 39 => ∃ b9 b10 b11 b12 : Nat, a' = (((((avR a0 M x y r s).put (some 28) (.agg #[.int .i64 (va 0), .int .i64 (va 1), .int .i64 (va 2), .int .i64 (va 3)])).put (some 32) (.agg #[.int .i64 (vb 0), .int .i64 (vb 1), .int .i64 (vb 2), .int .i64 (vb 3)])).put (some 9) (.pointer (some ⟨b9, 0, none⟩))).put (some 12) (.pointer (some ⟨b12, 0, none⟩))) ∧ AvF w f wd ht A n c W ∧ VBox W b9 0 0 0 0 ∧ VBox W b12 0 0 0 0 ∧ w.heap.size + 1 < b9 ∧ w.heap.size + 1 < b12 ∧ b9 ≠ b12
  | 40 => ∃ b9 b10 b11 b12 : Nat, a' = (((((avR a0 M x y r s).put (some 28) (.agg #[.int .i64 (va 0), .int .i64 (va 1), .int .i64 (va 2), .int .i64 (va 3)])).put (some 32) (.agg #[.int .i64 (vb 0), .int .i64 (vb 1), .int .i64 (vb 2), .int .i64 (vb 3)])).put (some 10) (.pointer (some ⟨b10, 0, none⟩))).put (some 11) (.pointer (some ⟨b11, 0, none⟩))) ∧ AvF w f wd ht A n c W ∧ VBox W b10 0 0 0 0 ∧ VBox W b11 0 0 0 0 ∧ w.heap.size + 1 < b10 ∧ w.heap.size + 1 < b11 ∧ b10 ≠ b11
  | 41 => ∃ b9 b10 b11 b12 : Nat, a' = (((((avR a0 M x y r s).put (some 28) (.agg #[.int .i64 (va 0), .int .i64 (va 1), .int .i64 (va 2), .int .i64 (va 3)])).put (some 32) (.agg #[.int .i64 (vb 0), .int .i64 (vb 1), .int .i64 (vb 2), .int .i64 (vb 3)])).put (some 10) (.pointer (some ⟨b10, 0, none⟩))).put (some 12) (.pointer (some ⟨b12, 0, none⟩))) ∧ AvF w f wd ht A n c W ∧ VBox W b10 0 0 0 0 ∧ VBox W b12 0 0 0 0 ∧ w.heap.size + 1 < b10 ∧ w.heap.size + 1 < b12 ∧ b10 ≠ b12
  | 42 => ∃ b9 b10 b11 b12 : Nat, a' = (((((avR a0 M x y r s).put (some 28) (.agg #[.int .i64 (va 0), .int .i64 (va 1), .int .i64 (va 2), .int .i64 (va 3)])).put (some 32) (.agg #[.int .i64 (vb 0), .int .i64 (vb 1), .int .i64 (vb 2), .int .i64 (vb 3)])).put (some 11) (.pointer (some ⟨b11, 0, none⟩))).put (some 12) (.pointer (some ⟨b12, 0, none⟩))) ∧ AvF w f wd ht A n c W ∧ VBox W b11 0 0 0 0 ∧ VBox W b12 0 0 0 0 ∧ w.heap.size + 1 < b11 ∧ w.heap.size + 1 < b12 ∧ b11 ≠ b12
  | 43 => ∃ b9 b10 b11 b12 : Nat, a' = (((((avR a0 M x y r s).put (some 28) (.agg #[.int .i64 (va 0), .int .i64 (va 1), .int .i64 (va 2), .int .i64 (va 3)])).put (some 9) (.pointer (some ⟨b9, 0, none⟩))).put (some 10) (.pointer (some ⟨b10, 0, none⟩))).put (some 11) (.pointer (some ⟨b11, 0, none⟩))) ∧ AvF w f wd ht A n c W ∧ VBox W b9 0 0 0 0 ∧ VBox W b10 0 0 0 0 ∧ VBox W b11 0 0 0 0 ∧ w.heap.size + 1 < b9 ∧ w.heap.size + 1 < b10 ∧ w.heap.size + 1 < b11 ∧ b9 ≠ b10 ∧ b9 ≠ b11 ∧ b10 ≠ b11
  | 44 => ∃ b9 b10 b11 b12 : Nat, a' = (((((avR a0 M x y r s).put (some 28) (.agg #[.int .i64 (va 0), .int .i64 (va 1), .int .i64 (va 2), .int .i64 (va 3)])).put (some 9) (.pointer (some ⟨b9, 0, none⟩))).put (some 10) (.pointer (some ⟨b10, 0, none⟩))).put (some 12) (.pointer (some ⟨b12, 0, none⟩))) ∧ AvF w f wd ht A n c W ∧ VBox W b9 0 0 0 0 ∧ VBox W b10 0 0 0 0 ∧ VBox W b12 0 0 0 0 ∧ w.heap.size + 1 < b9 ∧ w.heap.size + 1 < b10 ∧ w.heap.size + 1 < b12 ∧ b9 ≠ b10 ∧ b9 ≠ b12 ∧ b10 ≠ b12
  | 45 => ∃ b9 b10 b11 b12 : Nat, a' = (((((avR a0 M x y r s).put (some 28) (.agg #[.int .i64 (va 0), .int .i64 (va 1), .int .i64 (va 2), .int .i64 (va 3)])).put (some 9) (.pointer (some ⟨b9, 0, none⟩))).put (some 11) (.pointer (some ⟨b11, 0, none⟩))).put (some 12) (.pointer (some ⟨b12, 0, none⟩))) ∧ AvF w f wd ht A n c W ∧ VBox W b9 0 0 0 0 ∧ VBox W b11 0 0 0 0 ∧ VBox W b12 0 0 0 0 ∧ w.heap.size + 1 < b9 ∧ w.heap.size + 1 < b11 ∧ w.heap.size + 1 < b12 ∧ b9 ≠ b11 ∧ b9 ≠ b12 ∧ b11 ≠ b12
  | 46 => ∃ b9 b10 b11 b12 : Nat, a' = (((((avR a0 M x y r s).put (some 28) (.agg #[.int .i64 (va 0), .int .i64 (va 1), .int .i64 (va 2), .int .i64 (va 3)])).put (some 10) (.pointer (some ⟨b10, 0, none⟩))).put (some 11) (.pointer (some ⟨b11, 0, none⟩))).put (some 12) (.pointer (some ⟨b12, 0, none⟩))) ∧ AvF w f wd ht A n c W ∧ VBox W b10 0 0 0 0 ∧ VBox W b11 0 0 0 0 ∧ VBox W b12 0 0 0 0 ∧ w.heap.size + 1 < b10 ∧ w.heap.size + 1 < b11 ∧ w.heap.size + 1 < b12 ∧ b10 ≠ b11 ∧ b10 ≠ b12 ∧ b11 ≠ b12
  | 47 => ∃ b9 b10 b11 b12 : Nat, a' = (((((avR a0 M x y r s).put (some 9) (.pointer (some ⟨b9, 0, none⟩))).put (some 10) (.pointer (some ⟨b10, 0, none⟩))).put (some 11) (.pointer (some ⟨b11, 0, none⟩))).put (some 12) (.pointer (some ⟨b12, 0, none⟩))) ∧ AvF w f wd ht A n c W ∧ VBox W b9 0 0 0 0 ∧ VBox W b10 0 0 0 0 ∧ VBox W b11 0 0 0 0 ∧ VBox W b12 0 0 0 0 ∧ w.heap.size + 1 < b9 ∧ w.heap.size + 1 < b10 ∧ w.heap.size + 1 < b11 ∧ w.heap.size + 1 < b12 ∧ b9 ≠ b10 ∧ b9 ≠ b11 ∧ b9 ≠ b12 ∧ b10 ≠ b11 ∧ b10 ≠ b12 ∧ b11 ≠ b12
  | 48 => ∃ b9 b10 b11 b12 : Nat, a' = ((((((avR a0 M x y r s).put (some 28) (.agg #[.int .i64 (va 0), .int .i64 (va 1), .int .i64 (va 2), .int .i64 (va 3)])).put (some 32) (.agg #[.int .i64 (vb 0), .int .i64 (vb 1), .int .i64 (vb 2), .int .i64 (vb 3)])).put (some 36) (.agg #[.int .i64 (vc 0), .int .i64 (vc 1), .int .i64 (vc 2), .int .i64 (vc 3)])).put (some 40) (.agg #[.int .i64 (vd 0), .int .i64 (vd 1), .int .i64 (vd 2), .int .i64 (vd 3)])).put (some 9) (.pointer (some ⟨b9, 0, none⟩))) ∧ AvF w f wd ht A n c W ∧ VBox W b9 0 0 0 0 ∧ w.heap.size + 1 < b9
  | 49 => ∃ b9 b10 b11 b12 : Nat, a' = ((((((avR a0 M x y r s).put (some 28) (.agg #[.int .i64 (va 0), .int .i64 (va 1), .int .i64 (va 2), .int .i64 (va 3)])).put (some 32) (.agg #[.int .i64 (vb 0), .int .i64 (vb 1), .int .i64 (vb 2), .int .i64 (vb 3)])).put (some 36) (.agg #[.int .i64 (vc 0), .int .i64 (vc 1), .int .i64 (vc 2), .int .i64 (vc 3)])).put (some 40) (.agg #[.int .i64 (vd 0), .int .i64 (vd 1), .int .i64 (vd 2), .int .i64 (vd 3)])).put (some 10) (.pointer (some ⟨b10, 0, none⟩))) ∧ AvF w f wd ht A n c W ∧ VBox W b10 0 0 0 0 ∧ w.heap.size + 1 < b10
  | 50 => ∃ b9 b10 b11 b12 : Nat, a' = ((((((avR a0 M x y r s).put (some 28) (.agg #[.int .i64 (va 0), .int .i64 (va 1), .int .i64 (va 2), .int .i64 (va 3)])).put (some 32) (.agg #[.int .i64 (vb 0), .int .i64 (vb 1), .int .i64 (vb 2), .int .i64 (vb 3)])).put (some 36) (.agg #[.int .i64 (vc 0), .int .i64 (vc 1), .int .i64 (vc 2), .int .i64 (vc 3)])).put (some 40) (.agg #[.int .i64 (vd 0), .int .i64 (vd 1), .int .i64 (vd 2), .int .i64 (vd 3)])).put (some 11) (.pointer (some ⟨b11, 0, none⟩))) ∧ AvF w f wd ht A n c W ∧ VBox W b11 0 0 0 0 ∧ w.heap.size + 1 < b11
  | 51 => ∃ b9 b10 b11 b12 : Nat, a' = ((((((avR a0 M x y r s).put (some 28) (.agg #[.int .i64 (va 0), .int .i64 (va 1), .int .i64 (va 2), .int .i64 (va 3)])).put (some 32) (.agg #[.int .i64 (vb 0), .int .i64 (vb 1), .int .i64 (vb 2), .int .i64 (vb 3)])).put (some 36) (.agg #[.int .i64 (vc 0), .int .i64 (vc 1), .int .i64 (vc 2), .int .i64 (vc 3)])).put (some 40) (.agg #[.int .i64 (vd 0), .int .i64 (vd 1), .int .i64 (vd 2), .int .i64 (vd 3)])).put (some 12) (.pointer (some ⟨b12, 0, none⟩))) ∧ AvF w f wd ht A n c W ∧ VBox W b12 0 0 0 0 ∧ w.heap.size + 1 < b12
  | 52 => ∃ b9 b10 b11 b12 : Nat, a' = ((((((avR a0 M x y r s).put (some 28) (.agg #[.int .i64 (va 0), .int .i64 (va 1), .int .i64 (va 2), .int .i64 (va 3)])).put (some 32) (.agg #[.int .i64 (vb 0), .int .i64 (vb 1), .int .i64 (vb 2), .int .i64 (vb 3)])).put (some 36) (.agg #[.int .i64 (vc 0), .int .i64 (vc 1), .int .i64 (vc 2), .int .i64 (vc 3)])).put (some 9) (.pointer (some ⟨b9, 0, none⟩))).put (some 10) (.pointer (some ⟨b10, 0, none⟩))) ∧ AvF w f wd ht A n c W ∧ VBox W b9 0 0 0 0 ∧ VBox W b10 0 0 0 0 ∧ w.heap.size + 1 < b9 ∧ w.heap.size + 1 < b10 ∧ b9 ≠ b10
  | 53 => ∃ b9 b10 b11 b12 : Nat, a' = ((((((avR a0 M x y r s).put (some 28) (.agg #[.int .i64 (va 0), .int .i64 (va 1), .int .i64 (va 2), .int .i64 (va 3)])).put (some 32) (.agg #[.int .i64 (vb 0), .int .i64 (vb 1), .int .i64 (vb 2), .int .i64 (vb 3)])).put (some 36) (.agg #[.int .i64 (vc 0), .int .i64 (vc 1), .int .i64 (vc 2), .int .i64 (vc 3)])).put (some 9) (.pointer (some ⟨b9, 0, none⟩))).put (some 11) (.pointer (some ⟨b11, 0, none⟩))) ∧ AvF w f wd ht A n c W ∧ VBox W b9 0 0 0 0 ∧ VBox W b11 0 0 0 0 ∧ w.heap.size + 1 < b9 ∧ w.heap.size + 1 < b11 ∧ b9 ≠ b11
  | 54 => ∃ b9 b10 b11 b12 : Nat, a' = ((((((avR a0 M x y r s).put (some 28) (.agg #[.int .i64 (va 0), .int .i64 (va 1), .int .i64 (va 2), .int .i64 (va 3)])).put (some 32) (.agg #[.int .i64 (vb 0), .int .i64 (vb 1), .int .i64 (vb 2), .int .i64 (vb 3)])).put (some 36) (.agg #[.int .i64 (vc 0), .int .i64 (vc 1), .int .i64 (vc 2), .int .i64 (vc 3)])).put (some 9) (.pointer (some ⟨b9, 0, none⟩))).put (some 12) (.pointer (some ⟨b12, 0, none⟩))) ∧ AvF w f wd ht A n c W ∧ VBox W b9 0 0 0 0 ∧ VBox W b12 0 0 0 0 ∧ w.heap.size + 1 < b9 ∧ w.heap.size + 1 < b12 ∧ b9 ≠ b12
  | 55 => ∃ b9 b10 b11 b12 : Nat, a' = ((((((avR a0 M x y r s).put (some 28) (.agg #[.int .i64 (va 0), .int .i64 (va 1), .int .i64 (va 2), .int .i64 (va 3)])).put (some 32) (.agg #[.int .i64 (vb 0), .int .i64 (vb 1), .int .i64 (vb 2), .int .i64 (vb 3)])).put (some 36) (.agg #[.int .i64 (vc 0), .int .i64 (vc 1), .int .i64 (vc 2), .int .i64 (vc 3)])).put (some 10) (.pointer (some ⟨b10, 0, none⟩))).put (some 11) (.pointer (some ⟨b11, 0, none⟩))) ∧ AvF w f wd ht A n c W ∧ VBox W b10 0 0 0 0 ∧ VBox W b11 0 0 0 0 ∧ w.heap.size + 1 < b10 ∧ w.heap.size + 1 < b11 ∧ b10 ≠ b11
  | 56 => ∃ b9 b10 b11 b12 : Nat, a' = ((((((avR a0 M x y r s).put (some 28) (.agg #[.int .i64 (va 0), .int .i64 (va 1), .int .i64 (va 2), .int .i64 (va 3)])).put (some 32) (.agg #[.int .i64 (vb 0), .int .i64 (vb 1), .int .i64 (vb 2), .int .i64 (vb 3)])).put (some 36) (.agg #[.int .i64 (vc 0), .int .i64 (vc 1), .int .i64 (vc 2), .int .i64 (vc 3)])).put (some 10) (.pointer (some ⟨b10, 0, none⟩))).put (some 12) (.pointer (some ⟨b12, 0, none⟩))) ∧ AvF w f wd ht A n c W ∧ VBox W b10 0 0 0 0 ∧ VBox W b12 0 0 0 0 ∧ w.heap.size + 1 < b10 ∧ w.heap.size + 1 < b12 ∧ b10 ≠ b12
  | 57 => ∃ b9 b10 b11 b12 : Nat, a' = ((((((avR a0 M x y r s).put (some 28) (.agg #[.int .i64 (va 0), .int .i64 (va 1), .int .i64 (va 2), .int .i64 (va 3)])).put (some 32) (.agg #[.int .i64 (vb 0), .int .i64 (vb 1), .int .i64 (vb 2), .int .i64 (vb 3)])).put (some 36) (.agg #[.int .i64 (vc 0), .int .i64 (vc 1), .int .i64 (vc 2), .int .i64 (vc 3)])).put (some 11) (.pointer (some ⟨b11, 0, none⟩))).put (some 12) (.pointer (some ⟨b12, 0, none⟩))) ∧ AvF w f wd ht A n c W ∧ VBox W b11 0 0 0 0 ∧ VBox W b12 0 0 0 0 ∧ w.heap.size + 1 < b11 ∧ w.heap.size + 1 < b12 ∧ b11 ≠ b12
  | 58 => ∃ b9 b10 b11 b12 : Nat, a' = ((((((avR a0 M x y r s).put (some 28) (.agg #[.int .i64 (va 0), .int .i64 (va 1), .int .i64 (va 2), .int .i64 (va 3)])).put (some 32) (.agg #[.int .i64 (vb 0), .int .i64 (vb 1), .int .i64 (vb 2), .int .i64 (vb 3)])).put (some 9) (.pointer (some ⟨b9, 0, none⟩))).put (some 10) (.pointer (some ⟨b10, 0, none⟩))).put (some 11) (.pointer (some ⟨b11, 0, none⟩))) ∧ AvF w f wd ht A n c W ∧ VBox W b9 0 0 0 0 ∧ VBox W b10 0 0 0 0 ∧ VBox W b11 0 0 0 0 ∧ w.heap.size + 1 < b9 ∧ w.heap.size + 1 < b10 ∧ w.heap.size + 1 < b11 ∧ b9 ≠ b10 ∧ b9 ≠ b11 ∧ b10 ≠ b11
  | 59 => ∃ b9 b10 b11 b12 : Nat, a' = ((((((avR a0 M x y r s).put (some 28) (.agg #[.int .i64 (va 0), .int .i64 (va 1), .int .i64 (va 2), .int .i64 (va 3)])).put (some 32) (.agg #[.int .i64 (vb 0), .int .i64 (vb 1), .int .i64 (vb 2), .int .i64 (vb 3)])).put (some 9) (.pointer (some ⟨b9, 0, none⟩))).put (some 10) (.pointer (some ⟨b10, 0, none⟩))).put (some 12) (.pointer (some ⟨b12, 0, none⟩))) ∧ AvF w f wd ht A n c W ∧ VBox W b9 0 0 0 0 ∧ VBox W b10 0 0 0 0 ∧ VBox W b12 0 0 0 0 ∧ w.heap.size + 1 < b9 ∧ w.heap.size + 1 < b10 ∧ w.heap.size + 1 < b12 ∧ b9 ≠ b10 ∧ b9 ≠ b12 ∧ b10 ≠ b12
  | 60 => ∃ b9 b10 b11 b12 : Nat, a' = ((((((avR a0 M x y r s).put (some 28) (.agg #[.int .i64 (va 0), .int .i64 (va 1), .int .i64 (va 2), .int .i64 (va 3)])).put (some 32) (.agg #[.int .i64 (vb 0), .int .i64 (vb 1), .int .i64 (vb 2), .int .i64 (vb 3)])).put (some 9) (.pointer (some ⟨b9, 0, none⟩))).put (some 11) (.pointer (some ⟨b11, 0, none⟩))).put (some 12) (.pointer (some ⟨b12, 0, none⟩))) ∧ AvF w f wd ht A n c W ∧ VBox W b9 0 0 0 0 ∧ VBox W b11 0 0 0 0 ∧ VBox W b12 0 0 0 0 ∧ w.heap.size + 1 < b9 ∧ w.heap.size + 1 < b11 ∧ w.heap.size + 1 < b12 ∧ b9 ≠ b11 ∧ b9 ≠ b12 ∧ b11 ≠ b12
  | 61 => ∃ b9 b10 b11 b12 : Nat, a' = ((((((avR a0 M x y r s).put (some 28) (.agg #[.int .i64 (va 0), .int .i64 (va 1), .int .i64 (va 2), .int .i64 (va 3)])).put (some 32) (.agg #[.int .i64 (vb 0), .int .i64 (vb 1), .int .i64 (vb 2), .int .i64 (vb 3)])).put (some 10) (.pointer (some ⟨b10, 0, none⟩))).put (some 11) (.pointer (some ⟨b11, 0, none⟩))).put (some 12) (.pointer (some ⟨b12, 0, none⟩))) ∧ AvF w f wd ht A n c W ∧ VBox W b10 0 0 0 0 ∧ VBox W b11 0 0 0 0 ∧ VBox W b12 0 0 0 0 ∧ w.heap.size + 1 < b10 ∧ w.heap.size + 1 < b11 ∧ w.heap.size + 1 < b12 ∧ b10 ≠ b11 ∧ b10 ≠ b12 ∧ b11 ≠ b12
  | 62 => ∃ b9 b10 b11 b12 : Nat, a' = ((((((avR a0 M x y r s).put (some 28) (.agg #[.int .i64 (va 0), .int .i64 (va 1), .int .i64 (va 2), .int .i64 (va 3)])).put (some 9) (.pointer (some ⟨b9, 0, none⟩))).put (some 10) (.pointer (some ⟨b10, 0, none⟩))).put (some 11) (.pointer (some ⟨b11, 0, none⟩))).put (some 12) (.pointer (some ⟨b12, 0, none⟩))) ∧ AvF w f wd ht A n c W ∧ VBox W b9 0 0 0 0 ∧ VBox W b10 0 0 0 0 ∧ VBox W b11 0 0 0 0 ∧ VBox W b12 0 0 0 0 ∧ w.heap.size + 1 < b9 ∧ w.heap.size + 1 < b10 ∧ w.heap.size + 1 < b11 ∧ w.heap.size + 1 < b12 ∧ b9 ≠ b10 ∧ b9 ≠ b11 ∧ b9 ≠ b12 ∧ b10 ≠ b11 ∧ b10 ≠ b12 ∧ b11 ≠ b12
  | 63 => ∃ b9 b10 b11 b12 : Nat, a' = (((((((avR a0 M x y r s).put (some 28) (.agg #[.int .i64 (va 0), .int .i64 (va 1), .int .i64 (va 2), .int .i64 (va 3)])).put (some 32) (.agg #[.int .i64 (vb 0), .int .i64 (vb 1), .int .i64 (vb 2), .int .i64 (vb 3)])).put (some 36) (.agg #[.int .i64 (vc 0), .int .i64 (vc 1), .int .i64 (vc 2), .int .i64 (vc 3)])).put (some 40) (.agg #[.int .i64 (vd 0), .int .i64 (vd 1), .int .i64 (vd 2), .int .i64 (vd 3)])).put (some 9) (.pointer (some ⟨b9, 0, none⟩))).put (some 10) (.pointer (some ⟨b10, 0, none⟩))) ∧ AvF w f wd ht A n c W ∧ VBox W b9 0 0 0 0 ∧ VBox W b10 0 0 0 0 ∧ w.heap.size + 1 < b9 ∧ w.heap.size + 1 < b10 ∧ b9 ≠ b10
  | 64 => ∃ b9 b10 b11 b12 : Nat, a' = (((((((avR a0 M x y r s).put (some 28) (.agg #[.int .i64 (va 0), .int .i64 (va 1), .int .i64 (va 2), .int .i64 (va 3)])).put (some 32) (.agg #[.int .i64 (vb 0), .int .i64 (vb 1), .int .i64 (vb 2), .int .i64 (vb 3)])).put (some 36) (.agg #[.int .i64 (vc 0), .int .i64 (vc 1), .int .i64 (vc 2), .int .i64 (vc 3)])).put (some 40) (.agg #[.int .i64 (vd 0), .int .i64 (vd 1), .int .i64 (vd 2), .int .i64 (vd 3)])).put (some 9) (.pointer (some ⟨b9, 0, none⟩))).put (some 11) (.pointer (some ⟨b11, 0, none⟩))) ∧ AvF w f wd ht A n c W ∧ VBox W b9 0 0 0 0 ∧ VBox W b11 0 0 0 0 ∧ w.heap.size + 1 < b9 ∧ w.heap.size + 1 < b11 ∧ b9 ≠ b11
  | 65 => ∃ b9 b10 b11 b12 : Nat, a' = (((((((avR a0 M x y r s).put (some 28) (.agg #[.int .i64 (va 0), .int .i64 (va 1), .int .i64 (va 2), .int .i64 (va 3)])).put (some 32) (.agg #[.int .i64 (vb 0), .int .i64 (vb 1), .int .i64 (vb 2), .int .i64 (vb 3)])).put (some 36) (.agg #[.int .i64 (vc 0), .int .i64 (vc 1), .int .i64 (vc 2), .int .i64 (vc 3)])).put (some 40) (.agg #[.int .i64 (vd 0), .int .i64 (vd 1), .int .i64 (vd 2), .int .i64 (vd 3)])).put (some 9) (.pointer (some ⟨b9, 0, none⟩))).put (some 12) (.pointer (some ⟨b12, 0, none⟩))) ∧ AvF w f wd ht A n c W ∧ VBox W b9 0 0 0 0 ∧ VBox W b12 0 0 0 0 ∧ w.heap.size + 1 < b9 ∧ w.heap.size + 1 < b12 ∧ b9 ≠ b12
  | 66 => ∃ b9 b10 b11 b12 : Nat, a' = (((((((avR a0 M x y r s).put (some 28) (.agg #[.int .i64 (va 0), .int .i64 (va 1), .int .i64 (va 2), .int .i64 (va 3)])).put (some 32) (.agg #[.int .i64 (vb 0), .int .i64 (vb 1), .int .i64 (vb 2), .int .i64 (vb 3)])).put (some 36) (.agg #[.int .i64 (vc 0), .int .i64 (vc 1), .int .i64 (vc 2), .int .i64 (vc 3)])).put (some 40) (.agg #[.int .i64 (vd 0), .int .i64 (vd 1), .int .i64 (vd 2), .int .i64 (vd 3)])).put (some 10) (.pointer (some ⟨b10, 0, none⟩))).put (some 11) (.pointer (some ⟨b11, 0, none⟩))) ∧ AvF w f wd ht A n c W ∧ VBox W b10 0 0 0 0 ∧ VBox W b11 0 0 0 0 ∧ w.heap.size + 1 < b10 ∧ w.heap.size + 1 < b11 ∧ b10 ≠ b11
  | 67 => ∃ b9 b10 b11 b12 : Nat, a' = (((((((avR a0 M x y r s).put (some 28) (.agg #[.int .i64 (va 0), .int .i64 (va 1), .int .i64 (va 2), .int .i64 (va 3)])).put (some 32) (.agg #[.int .i64 (vb 0), .int .i64 (vb 1), .int .i64 (vb 2), .int .i64 (vb 3)])).put (some 36) (.agg #[.int .i64 (vc 0), .int .i64 (vc 1), .int .i64 (vc 2), .int .i64 (vc 3)])).put (some 40) (.agg #[.int .i64 (vd 0), .int .i64 (vd 1), .int .i64 (vd 2), .int .i64 (vd 3)])).put (some 10) (.pointer (some ⟨b10, 0, none⟩))).put (some 12) (.pointer (some ⟨b12, 0, none⟩))) ∧ AvF w f wd ht A n c W ∧ VBox W b10 0 0 0 0 ∧ VBox W b12 0 0 0 0 ∧ w.heap.size + 1 < b10 ∧ w.heap.size + 1 < b12 ∧ b10 ≠ b12
  | 68 => ∃ b9 b10 b11 b12 : Nat, a' = (((((((avR a0 M x y r s).put (some 28) (.agg #[.int .i64 (va 0), .int .i64 (va 1), .int .i64 (va 2), .int .i64 (va 3)])).put (some 32) (.agg #[.int .i64 (vb 0), .int .i64 (vb 1), .int .i64 (vb 2), .int .i64 (vb 3)])).put (some 36) (.agg #[.int .i64 (vc 0), .int .i64 (vc 1), .int .i64 (vc 2), .int .i64 (vc 3)])).put (some 40) (.agg #[.int .i64 (vd 0), .int .i64 (vd 1), .int .i64 (vd 2), .int .i64 (vd 3)])).put (some 11) (.pointer (some ⟨b11, 0, none⟩))).put (some 12) (.pointer (some ⟨b12, 0, none⟩))) ∧ AvF w f wd ht A n c W ∧ VBox W b11 0 0 0 0 ∧ VBox W b12 0 0 0 0 ∧ w.heap.size + 1 < b11 ∧ w.heap.size + 1 < b12 ∧ b11 ≠ b12
  | 69 => ∃ b9 b10 b11 b12 : Nat, a' = (((((((avR a0 M x y r s).put (some 28) (.agg #[.int .i64 (va 0), .int .i64 (va 1), .int .i64 (va 2), .int .i64 (va 3)])).put (some 32) (.agg #[.int .i64 (vb 0), .int .i64 (vb 1), .int .i64 (vb 2), .int .i64 (vb 3)])).put (some 36) (.agg #[.int .i64 (vc 0), .int .i64 (vc 1), .int .i64 (vc 2), .int .i64 (vc 3)])).put (some 9) (.pointer (some ⟨b9, 0, none⟩))).put (some 10) (.pointer (some ⟨b10, 0, none⟩))).put (some 11) (.pointer (some ⟨b11, 0, none⟩))) ∧ AvF w f wd ht A n c W ∧ VBox W b9 0 0 0 0 ∧ VBox W b10 0 0 0 0 ∧ VBox W b11 0 0 0 0 ∧ w.heap.size + 1 < b9 ∧ w.heap.size + 1 < b10 ∧ w.heap.size + 1 < b11 ∧ b9 ≠ b10 ∧ b9 ≠ b11 ∧ b10 ≠ b11
  | 70 => ∃ b9 b10 b11 b12 : Nat, a' = (((((((avR a0 M x y r s).put (some 28) (.agg #[.int .i64 (va 0), .int .i64 (va 1), .int .i64 (va 2), .int .i64 (va 3)])).put (some 32) (.agg #[.int .i64 (vb 0), .int .i64 (vb 1), .int .i64 (vb 2), .int .i64 (vb 3)])).put (some 36) (.agg #[.int .i64 (vc 0), .int .i64 (vc 1), .int .i64 (vc 2), .int .i64 (vc 3)])).put (some 9) (.pointer (some ⟨b9, 0, none⟩))).put (some 10) (.pointer (some ⟨b10, 0, none⟩))).put (some 12) (.pointer (some ⟨b12, 0, none⟩))) ∧ AvF w f wd ht A n c W ∧ VBox W b9 0 0 0 0 ∧ VBox W b10 0 0 0 0 ∧ VBox W b12 0 0 0 0 ∧ w.heap.size + 1 < b9 ∧ w.heap.size + 1 < b10 ∧ w.heap.size + 1 < b12 ∧ b9 ≠ b10 ∧ b9 ≠ b12 ∧ b10 ≠ b12
  | 71 => ∃ b9 b10 b11 b12 : Nat, a' = (((((((avR a0 M x y r s).put (some 28) (.agg #[.int .i64 (va 0), .int .i64 (va 1), .int .i64 (va 2), .int .i64 (va 3)])).put (some 32) (.agg #[.int .i64 (vb 0), .int .i64 (vb 1), .int .i64 (vb 2), .int .i64 (vb 3)])).put (some 36) (.agg #[.int .i64 (vc 0), .int .i64 (vc 1), .int .i64 (vc 2), .int .i64 (vc 3)])).put (some 9) (.pointer (some ⟨b9, 0, none⟩))).put (some 11) (.pointer (some ⟨b11, 0, none⟩))).put (some 12) (.pointer (some ⟨b12, 0, none⟩))) ∧ AvF w f wd ht A n c W ∧ VBox W b9 0 0 0 0 ∧ VBox W b11 0 0 0 0 ∧ VBox W b12 0 0 0 0 ∧ w.heap.size + 1 < b9 ∧ w.heap.size + 1 < b11 ∧ w.heap.size + 1 < b12 ∧ b9 ≠ b11 ∧ b9 ≠ b12 ∧ b11 ≠ b12
  | 72 => ∃ b9 b10 b11 b12 : Nat, a' = (((((((avR a0 M x y r s).put (some 28) (.agg #[.int .i64 (va 0), .int .i64 (va 1), .int .i64 (va 2), .int .i64 (va 3)])).put (some 32) (.agg #[.int .i64 (vb 0), .int .i64 (vb 1), .int .i64 (vb 2), .int .i64 (vb 3)])).put (some 36) (.agg #[.int .i64 (vc 0), .int .i64 (vc 1), .int .i64 (vc 2), .int .i64 (vc 3)])).put (some 10) (.pointer (some ⟨b10, 0, none⟩))).put (some 11) (.pointer (some ⟨b11, 0, none⟩))).put (some 12) (.pointer (some ⟨b12, 0, none⟩))) ∧ AvF w f wd ht A n c W ∧ VBox W b10 0 0 0 0 ∧ VBox W b11 0 0 0 0 ∧ VBox W b12 0 0 0 0 ∧ w.heap.size + 1 < b10 ∧ w.heap.size + 1 < b11 ∧ w.heap.size + 1 < b12 ∧ b10 ≠ b11 ∧ b10 ≠ b12 ∧ b11 ≠ b12
  | 73 => ∃ b9 b10 b11 b12 : Nat, a' = (((((((avR a0 M x y r s).put (some 28) (.agg #[.int .i64 (va 0), .int .i64 (va 1), .int .i64 (va 2), .int .i64 (va 3)])).put (some 32) (.agg #[.int .i64 (vb 0), .int .i64 (vb 1), .int .i64 (vb 2), .int .i64 (vb 3)])).put (some 9) (.pointer (some ⟨b9, 0, none⟩))).put (some 10) (.pointer (some ⟨b10, 0, none⟩))).put (some 11) (.pointer (some ⟨b11, 0, none⟩))).put (some 12) (.pointer (some ⟨b12, 0, none⟩))) ∧ AvF w f wd ht A n c W ∧ VBox W b9 0 0 0 0 ∧ VBox W b10 0 0 0 0 ∧ VBox W b11 0 0 0 0 ∧ VBox W b12 0 0 0 0 ∧ w.heap.size + 1 < b9 ∧ w.heap.size + 1 < b10 ∧ w.heap.size + 1 < b11 ∧ w.heap.size + 1 < b12 ∧ b9 ≠ b10 ∧ b9 ≠ b11 ∧ b9 ≠ b12 ∧ b10 ≠ b11 ∧ b10 ≠ b12 ∧ b11 ≠ b12
  | 74 => ∃ b9 b10 b11 b12 : Nat, a' = ((((((((avR a0 M x y r s).put (some 28) (.agg #[.int .i64 (va 0), .int .i64 (va 1), .int .i64 (va 2), .int .i64 (va 3)])).put (some 32) (.agg #[.int .i64 (vb 0), .int .i64 (vb 1), .int .i64 (vb 2), .int .i64 (vb 3)])).put (some 36) (.agg #[.int .i64 (vc 0), .int .i64 (vc 1), .int .i64 (vc 2), .int .i64 (vc 3)])).put (some 40) (.agg #[.int .i64 (vd 0), .int .i64 (vd 1), .int .i64 (vd 2), .int .i64 (vd 3)])).put (some 9) (.pointer (some ⟨b9, 0, none⟩))).put (some 10) (.pointer (some ⟨b10, 0, none⟩))).put (some 11) (.pointer (some ⟨b11, 0, none⟩))) ∧ AvF w f wd ht A n c W ∧ VBox W b9 0 0 0 0 ∧ VBox W b10 0 0 0 0 ∧ VBox W b11 0 0 0 0 ∧ w.heap.size + 1 < b9 ∧ w.heap.size + 1 < b10 ∧ w.heap.size + 1 < b11 ∧ b9 ≠ b10 ∧ b9 ≠ b11 ∧ b10 ≠ b11
  | 75 => ∃ b9 b10 b11 b12 : Nat, a' = ((((((((avR a0 M x y r s).put (some 28) (.agg #[.int .i64 (va 0), .int .i64 (va 1), .int .i64 (va 2), .int .i64 (va 3)])).put (some 32) (.agg #[.int .i64 (vb 0), .int .i64 (vb 1), .int .i64 (vb 2), .int .i64 (vb 3)])).put (some 36) (.agg #[.int .i64 (vc 0), .int .i64 (vc 1), .int .i64 (vc 2), .int .i64 (vc 3)])).put (some 40) (.agg #[.int .i64 (vd 0), .int .i64 (vd 1), .int .i64 (vd 2), .int .i64 (vd 3)])).put (some 9) (.pointer (some ⟨b9, 0, none⟩))).put (some 10) (.pointer (some ⟨b10, 0, none⟩))).put (some 12) (.pointer (some ⟨b12, 0, none⟩))) ∧ AvF w f wd ht A n c W ∧ VBox W b9 0 0 0 0 ∧ VBox W b10 0 0 0 0 ∧ VBox W b12 0 0 0 0 ∧ w.heap.size + 1 < b9 ∧ w.heap.size + 1 < b10 ∧ w.heap.size + 1 < b12 ∧ b9 ≠ b10 ∧ b9 ≠ b12 ∧ b10 ≠ b12
  | 76 => ∃ b9 b10 b11 b12 : Nat, a' = ((((((((avR a0 M x y r s).put (some 28) (.agg #[.int .i64 (va 0), .int .i64 (va 1), .int .i64 (va 2), .int .i64 (va 3)])).put (some 32) (.agg #[.int .i64 (vb 0), .int .i64 (vb 1), .int .i64 (vb 2), .int .i64 (vb 3)])).put (some 36) (.agg #[.int .i64 (vc 0), .int .i64 (vc 1), .int .i64 (vc 2), .int .i64 (vc 3)])).put (some 40) (.agg #[.int .i64 (vd 0), .int .i64 (vd 1), .int .i64 (vd 2), .int .i64 (vd 3)])).put (some 9) (.pointer (some ⟨b9, 0, none⟩))).put (some 11) (.pointer (some ⟨b11, 0, none⟩))).put (some 12) (.pointer (some ⟨b12, 0, none⟩))) ∧ AvF w f wd ht A n c W ∧ VBox W b9 0 0 0 0 ∧ VBox W b11 0 0 0 0 ∧ VBox W b12 0 0 0 0 ∧ w.heap.size + 1 < b9 ∧ w.heap.size + 1 < b11 ∧ w.heap.size + 1 < b12 ∧ b9 ≠ b11 ∧ b9 ≠ b12 ∧ b11 ≠ b12
  | 77 => ∃ b9 b10 b11 b12 : Nat, a' = ((((((((avR a0 M x y r s).put (some 28) (.agg #[.int .i64 (va 0), .int .i64 (va 1), .int .i64 (va 2), .int .i64 (va 3)])).put (some 32) (.agg #[.int .i64 (vb 0), .int .i64 (vb 1), .int .i64 (vb 2), .int .i64 (vb 3)])).put (some 36) (.agg #[.int .i64 (vc 0), .int .i64 (vc 1), .int .i64 (vc 2), .int .i64 (vc 3)])).put (some 40) (.agg #[.int .i64 (vd 0), .int .i64 (vd 1), .int .i64 (vd 2), .int .i64 (vd 3)])).put (some 10) (.pointer (some ⟨b10, 0, none⟩))).put (some 11) (.pointer (some ⟨b11, 0, none⟩))).put (some 12) (.pointer (some ⟨b12, 0, none⟩))) ∧ AvF w f wd ht A n c W ∧ VBox W b10 0 0 0 0 ∧ VBox W b11 0 0 0 0 ∧ VBox W b12 0 0 0 0 ∧ w.heap.size + 1 < b10 ∧ w.heap.size + 1 < b11 ∧ w.heap.size + 1 < b12 ∧ b10 ≠ b11 ∧ b10 ≠ b12 ∧ b11 ≠ b12
  | 78 => ∃ b9 b10 b11 b12 : Nat, a' = ((((((((avR a0 M x y r s).put (some 28) (.agg #[.int .i64 (va 0), .int .i64 (va 1), .int .i64 (va 2), .int .i64 (va 3)])).put (some 32) (.agg #[.int .i64 (vb 0), .int .i64 (vb 1), .int .i64 (vb 2), .int .i64 (vb 3)])).put (some 36) (.agg #[.int .i64 (vc 0), .int .i64 (vc 1), .int .i64 (vc 2), .int .i64 (vc 3)])).put (some 9) (.pointer (some ⟨b9, 0, none⟩))).put (some 10) (.pointer (some ⟨b10, 0, none⟩))).put (some 11) (.pointer (some ⟨b11, 0, none⟩))).put (some 12) (.pointer (some ⟨b12, 0, none⟩))) ∧ AvF w f wd ht A n c W ∧ VBox W b9 0 0 0 0 ∧ VBox W b10 0 0 0 0 ∧ VBox W b11 0 0 0 0 ∧ VBox W b12 0 0 0 0 ∧ w.heap.size + 1 < b9 ∧ w.heap.size + 1 < b10 ∧ w.heap.size + 1 < b11 ∧ w.heap.size + 1 < b12 ∧ b9 ≠ b10 ∧ b9 ≠ b11 ∧ b9 ≠ b12 ∧ b10 ≠ b11 ∧ b10 ≠ b12 ∧ b11 ≠ b12
  | 79 => ∃ b9 b10 b11 b12 : Nat, a' = (((((((((avR a0 M x y r s).put (some 28) (.agg #[.int .i64 (va 0), .int .i64 (va 1), .int .i64 (va 2), .int .i64 (va 3)])).put (some 32) (.agg #[.int .i64 (vb 0), .int .i64 (vb 1), .int .i64 (vb 2), .int .i64 (vb 3)])).put (some 36) (.agg #[.int .i64 (vc 0), .int .i64 (vc 1), .int .i64 (vc 2), .int .i64 (vc 3)])).put (some 40) (.agg #[.int .i64 (vd 0), .int .i64 (vd 1), .int .i64 (vd 2), .int .i64 (vd 3)])).put (some 9) (.pointer (some ⟨b9, 0, none⟩))).put (some 10) (.pointer (some ⟨b10, 0, none⟩))).put (some 11) (.pointer (some ⟨b11, 0, none⟩))).put (some 12) (.pointer (some ⟨b12, 0, none⟩))) ∧ AvF w f wd ht A n c W ∧ VBox W b9 0 0 0 0 ∧ VBox W b10 0 0 0 0 ∧ VBox W b11 0 0 0 0 ∧ VBox W b12 0 0 0 0 ∧ w.heap.size + 1 < b9 ∧ w.heap.size + 1 < b10 ∧ w.heap.size + 1 < b11 ∧ w.heap.size + 1 < b12 ∧ b9 ≠ b10 ∧ b9 ≠ b11 ∧ b9 ≠ b12 ∧ b10 ≠ b11 ∧ b10 ≠ b12 ∧ b11 ≠ b12
  | 80 => ∃ b9 b10 b11 b12 : Nat, a' = (((((((((avR a0 M x y r s).put (some 28) (.agg #[.int .i64 (va 0), .int .i64 (va 1), .int .i64 (va 2), .int .i64 (va 3)])).put (some 32) (.agg #[.int .i64 (vb 0), .int .i64 (vb 1), .int .i64 (vb 2), .int .i64 (vb 3)])).put (some 36) (.agg #[.int .i64 (vc 0), .int .i64 (vc 1), .int .i64 (vc 2), .int .i64 (vc 3)])).put (some 40) (.agg #[.int .i64 (vd 0), .int .i64 (vd 1), .int .i64 (vd 2), .int .i64 (vd 3)])).put (some 9) (.pointer (some ⟨b9, 0, none⟩))).put (some 10) (.pointer (some ⟨b10, 0, none⟩))).put (some 11) (.pointer (some ⟨b11, 0, none⟩))).put (some 12) (.pointer (some ⟨b12, 0, none⟩))) ∧ AvF w f wd ht A n c W ∧ VBox W b9 (va 0) (va 1) (va 2) (va 3) ∧ VBox W b10 0 0 0 0 ∧ VBox W b11 0 0 0 0 ∧ VBox W b12 0 0 0 0 ∧ w.heap.size + 1 < b9 ∧ w.heap.size + 1 < b10 ∧ w.heap.size + 1 < b11 ∧ w.heap.size + 1 < b12 ∧ b9 ≠ b10 ∧ b9 ≠ b11 ∧ b9 ≠ b12 ∧ b10 ≠ b11 ∧ b10 ≠ b12 ∧ b11 ≠ b12
  | 81 => ∃ b9 b10 b11 b12 : Nat, a' = (((((((((avR a0 M x y r s).put (some 28) (.agg #[.int .i64 (va 0), .int .i64 (va 1), .int .i64 (va 2), .int .i64 (va 3)])).put (some 32) (.agg #[.int .i64 (vb 0), .int .i64 (vb 1), .int .i64 (vb 2), .int .i64 (vb 3)])).put (some 36) (.agg #[.int .i64 (vc 0), .int .i64 (vc 1), .int .i64 (vc 2), .int .i64 (vc 3)])).put (some 40) (.agg #[.int .i64 (vd 0), .int .i64 (vd 1), .int .i64 (vd 2), .int .i64 (vd 3)])).put (some 9) (.pointer (some ⟨b9, 0, none⟩))).put (some 10) (.pointer (some ⟨b10, 0, none⟩))).put (some 11) (.pointer (some ⟨b11, 0, none⟩))).put (some 12) (.pointer (some ⟨b12, 0, none⟩))) ∧ AvF w f wd ht A n c W ∧ VBox W b9 (va 0) (va 1) (va 2) (va 3) ∧ VBox W b10 (vb 0) (vb 1) (vb 2) (vb 3) ∧ VBox W b11 0 0 0 0 ∧ VBox W b12 0 0 0 0 ∧ w.heap.size + 1 < b9 ∧ w.heap.size + 1 < b10 ∧ w.heap.size + 1 < b11 ∧ w.heap.size + 1 < b12 ∧ b9 ≠ b10 ∧ b9 ≠ b11 ∧ b9 ≠ b12 ∧ b10 ≠ b11 ∧ b10 ≠ b12 ∧ b11 ≠ b12
  | 82 => ∃ b9 b10 b11 b12 : Nat, a' = (((((((((avR a0 M x y r s).put (some 28) (.agg #[.int .i64 (va 0), .int .i64 (va 1), .int .i64 (va 2), .int .i64 (va 3)])).put (some 32) (.agg #[.int .i64 (vb 0), .int .i64 (vb 1), .int .i64 (vb 2), .int .i64 (vb 3)])).put (some 36) (.agg #[.int .i64 (vc 0), .int .i64 (vc 1), .int .i64 (vc 2), .int .i64 (vc 3)])).put (some 40) (.agg #[.int .i64 (vd 0), .int .i64 (vd 1), .int .i64 (vd 2), .int .i64 (vd 3)])).put (some 9) (.pointer (some ⟨b9, 0, none⟩))).put (some 10) (.pointer (some ⟨b10, 0, none⟩))).put (some 11) (.pointer (some ⟨b11, 0, none⟩))).put (some 12) (.pointer (some ⟨b12, 0, none⟩))) ∧ AvF w f wd ht A n c W ∧ VBox W b9 (va 0) (va 1) (va 2) (va 3) ∧ VBox W b10 (vb 0) (vb 1) (vb 2) (vb 3) ∧ VBox W b11 (vc 0) (vc 1) (vc 2) (vc 3) ∧ VBox W b12 0 0 0 0 ∧ w.heap.size + 1 < b9 ∧ w.heap.size + 1 < b10 ∧ w.heap.size + 1 < b11 ∧ w.heap.size + 1 < b12 ∧ b9 ≠ b10 ∧ b9 ≠ b11 ∧ b9 ≠ b12 ∧ b10 ≠ b11 ∧ b10 ≠ b12 ∧ b11 ≠ b12
  | 83 => ∃ b9 b10 b11 b12 : Nat, a' = (((((((((avR a0 M x y r s).put (some 28) (.agg #[.int .i64 (va 0), .int .i64 (va 1), .int .i64 (va 2), .int .i64 (va 3)])).put (some 32) (.agg #[.int .i64 (vb 0), .int .i64 (vb 1), .int .i64 (vb 2), .int .i64 (vb 3)])).put (some 36) (.agg #[.int .i64 (vc 0), .int .i64 (vc 1), .int .i64 (vc 2), .int .i64 (vc 3)])).put (some 40) (.agg #[.int .i64 (vd 0), .int .i64 (vd 1), .int .i64 (vd 2), .int .i64 (vd 3)])).put (some 9) (.pointer (some ⟨b9, 0, none⟩))).put (some 10) (.pointer (some ⟨b10, 0, none⟩))).put (some 11) (.pointer (some ⟨b11, 0, none⟩))).put (some 12) (.pointer (some ⟨b12, 0, none⟩))) ∧ AvF w f wd ht A n c W ∧ VBox W b9 (va 0) (va 1) (va 2) (va 3) ∧ VBox W b10 (vb 0) (vb 1) (vb 2) (vb 3) ∧ VBox W b11 (vc 0) (vc 1) (vc 2) (vc 3) ∧ VBox W b12 (vd 0) (vd 1) (vd 2) (vd 3) ∧ w.heap.size + 1 < b9 ∧ w.heap.size + 1 < b10 ∧ w.heap.size + 1 < b11 ∧ w.heap.size + 1 < b12 ∧ b9 ≠ b10 ∧ b9 ≠ b11 ∧ b9 ≠ b12 ∧ b10 ≠ b11 ∧ b10 ≠ b12 ∧ b11 ≠ b12
  | _ => False

theorem all1 {α : Type} {x0 : α} {p : α → Prop} (h0 : p x0) : ∀ e ∈ [x0], p e := by
  intro e he
  simp only [List.mem_cons, List.not_mem_nil, or_false] at he
  subst he
  exact h0
theorem all2 {α : Type} {x0 x1 : α} {p : α → Prop} (h0 : p x0) (h1 : p x1) : ∀ e ∈ [x0, x1], p e := by
  intro e he
  simp only [List.mem_cons, List.not_mem_nil, or_false] at he
  rcases he with rfl | rfl
  · exact h0
  · exact h1
theorem all3 {α : Type} {x0 x1 x2 : α} {p : α → Prop} (h0 : p x0) (h1 : p x1) (h2 : p x2) : ∀ e ∈ [x0, x1, x2], p e := by
  intro e he
  simp only [List.mem_cons, List.not_mem_nil, or_false] at he
  rcases he with rfl | rfl | rfl
  · exact h0
  · exact h1
  · exact h2
theorem all4 {α : Type} {x0 x1 x2 x3 : α} {p : α → Prop} (h0 : p x0) (h1 : p x1) (h2 : p x2) (h3 : p x3) : ∀ e ∈ [x0, x1, x2, x3], p e := by
  intro e he
  simp only [List.mem_cons, List.not_mem_nil, or_false] at he
  rcases he with rfl | rfl | rfl | rfl
  · exact h0
  · exact h1
  · exact h2
  · exact h3
theorem all5 {α : Type} {x0 x1 x2 x3 x4 : α} {p : α → Prop} (h0 : p x0) (h1 : p x1) (h2 : p x2) (h3 : p x3) (h4 : p x4) : ∀ e ∈ [x0, x1, x2, x3, x4], p e := by
  intro e he
  simp only [List.mem_cons, List.not_mem_nil, or_false] at he
  rcases he with rfl | rfl | rfl | rfl | rfl
  · exact h0
  · exact h1
  · exact h2
  · exact h3
  · exact h4

set_option maxRecDepth 100000 in
set_option maxHeartbeats 20000000 in
theorem average_b (f wd ht : Int) (A : Option Addr) (n c : Nat) (l : List Int) (x y : Int) (w : World) (R : Rd w w.heap.size .u8 A n l) (hc : n ≤ c) (hw : 1 ≤ wd ∧ wd ≤ 64) (hh : 1 ≤ ht ∧ ht ≤ 64) (hx : 0 ≤ x ∧ x ≤ 64) (hy : 0 ≤ y ∧ y ≤ 64) :
    Calls Try.prog 39 #[.agg #[.int .i64 f, .int .i64 wd, .int .i64 ht, .slice A n c], .int .i64 x, .int .i64 y] w
      (GivesV w fun i => rda ((Im.mk f wd ht l).get x y i + (Im.mk f wd ht l).get (if wd - 1 < x + 1 then wd - 1 else x + 1) y i + (Im.mk f wd ht l).get x (if ht - 1 < y + 1 then ht - 1 else y + 1) i + (Im.mk f wd ht l).get (if wd - 1 < x + 1 then wd - 1 else x + 1) (if ht - 1 < y + 1 then ht - 1 else y + 1) i) 4) := by
  have D0 := (IBox.made w f wd ht A n c 25).1
  have b0 := box_below w #[.int .i64 f, .int .i64 wd, .int .i64 ht, .slice A n c] 25
  have z1 : (w.alloc (.cells #[.int .i64 f, .int .i64 wd, .int .i64 ht, .slice A n c] 25)).heap.size = w.heap.size + 1 := by simp
  have D1 := VBox.made (w.alloc (.cells #[.int .i64 f, .int .i64 wd, .int .i64 ht, .slice A n c] 25)) 0 0 0 0 44
  have b1 := box_below (w.alloc (.cells #[.int .i64 f, .int .i64 wd, .int .i64 ht, .slice A n c] 25)) #[.int .i64 0, .int .i64 0, .int .i64 0, .int .i64 0] 44
  rw [z1] at D1
  have F : AvF w f wd ht A n c _ := ⟨D0.on b1, D1, bon b0 b1⟩
  have BB := F.2.2
  obtain ⟨i0, i1, i2, i3⟩ := F.1
  have HR := Lib.hid R
  have gb := fun u v i => get_bd (Im.mk f wd ht l) u v i
  have hr1 : (if wd - 1 < x + 1 then wd - 1 else x + 1) = (if wd - 1 < x + 1 then wd - 1 else x + 1) := rfl
  obtain ⟨r, hr⟩ : ∃ r, (if wd - 1 < x + 1 then wd - 1 else x + 1) = r := ⟨_, rfl⟩
  obtain ⟨s, hs⟩ : ∃ s, (if ht - 1 < y + 1 then ht - 1 else y + 1) = s := ⟨_, rfl⟩
  rw [hr, hs]
  have cg0 := fun W R => pget_b f wd ht A n c l x y W R hc
  have cg1 := fun W R => pget_b f wd ht A n c l r y W R hc
  have cg2 := fun W R => pget_b f wd ht A n c l x s W R hc
  have cg3 := fun W R => pget_b f wd ht A n c l r s W R hc
  have ga := gb x y
  have gbb := gb r y
  have gc := gb x s
  have gd := gb r s
  unfold GivesV at cg0 cg1 cg2 cg3 ⊢
  obtain ⟨va, hva⟩ : ∃ v, (Im.mk f wd ht l).get x y = v := ⟨_, rfl⟩
  obtain ⟨vb, hvb⟩ : ∃ v, (Im.mk f wd ht l).get r y = v := ⟨_, rfl⟩
  obtain ⟨vc, hvc⟩ : ∃ v, (Im.mk f wd ht l).get x s = v := ⟨_, rfl⟩
  obtain ⟨vd, hvd⟩ : ∃ v, (Im.mk f wd ht l).get r s = v := ⟨_, rfl⟩
  simp only [hva, hvb, hvc, hvd] at cg0 cg1 cg2 cg3 ga gbb gc gd ⊢
  have CG0 := Lib.hid cg0
  have CG1 := Lib.hid cg1
  have CG2 := Lib.hid cg2
  have CG3 := Lib.hid cg3
  have GA := Lib.hid ga
  have GB := Lib.hid gbb
  have GC := Lib.hid gc
  have GD := Lib.hid gd
  obtain ⟨w1, w2⟩ := hw
  obtain ⟨h1, h2⟩ := hh
  obtain ⟨x1, x2⟩ := hx
  obtain ⟨y1, y2⟩ := hy
  clear cg0 cg1 cg2 cg3 ga gbb gc gd gb hva hvb hvc hvd hr1 D0 D1 b0 b1 z1 R
  go_enter Try.func39, Try.ntmps39
  go_wp2
  have k_i1 := cell_regrown i1
  have k_i2 := cell_regrown i2
  refine wp_region_quiet_below (by kernel_rfl) (by kernel_rfl) ?_
  repeat (first | go_big_quiet_step ((first | fail)) | quiet_step ((first | fail)))
  refine wpQuiet_nil ?_
  intro W hw'
  have B := below_regrown' hw'
  clear hw' k_i1 k_i2
  replace BB := bon BB B
  replace i1 := cell_below B i1
  replace i2 := cell_below B i2
  go_wp2
  replace F := F.on B
  clear i0 i1 i2 i3 B BB hr hs
  obtain ⟨M, hM⟩ : ∃ M : Value, M = .agg #[.int .i64 f, .int .i64 wd, .int .i64 ht, .slice A n c] := ⟨_, rfl⟩
  refine wp_region_dag (avSt w f wd ht A n c M x y r s va vb vc vd) (fun W => IAt W w.heap.size f wd ht A n c) [0, 1, 2, 4, 5, 6, 8, 9, 10, 12, 13, 14] avDag 83 (by kernel_rfl) (by kernel_rfl) (fun W hB => F.1.on hB) ?_ ?_ ?_
  · intro V0 B
    replace F := F.on B
    clear B
    refine rd_step rfl ?_
    refine wpQuiet_step (fun K hK => ?_)
    rw [if_pos (by rfl)]
    refine quiet_iload _ _ rfl imgT (fun W hW => hW) rfl ?_
    go_simp
    refine hK _ ?_
    clear hK K
    refine wpQuiet_nil ?_
    refine rd_step rfl ?_
    refine wpQuiet_step (fun K hK => ?_)
    rw [if_pos (by rfl)]
    first | refine quiet_move _ rfl ?_ | refine quiet_assign _ rfl ?_
    go_simp
    refine hK _ ?_
    clear hK K
    refine wpQuiet_nil ?_
    refine rd_step rfl ?_
    refine wpQuiet_step (fun K hK => ?_)
    rw [if_pos (by rfl)]
    first | refine quiet_move _ rfl ?_ | refine quiet_assign _ rfl ?_
    go_simp
    refine hK _ ?_
    clear hK K
    refine wpQuiet_nil ?_
    refine rd_step rfl ?_
    refine wpQuiet_step (fun K hK => ?_)
    rw [if_pos (by rfl)]
    refine quiet_iload _ _ rfl imgT (fun W hW => hW) rfl ?_
    go_simp
    refine hK _ ?_
    clear hK K
    refine wpQuiet_nil ?_
    refine rd_step rfl ?_
    refine wpQuiet_step (fun K hK => ?_)
    rw [if_pos (by rfl)]
    first | refine quiet_move _ rfl ?_ | refine quiet_assign _ rfl ?_
    go_simp
    refine hK _ ?_
    clear hK K
    refine wpQuiet_nil ?_
    refine rd_step rfl ?_
    refine wpQuiet_step (fun K hK => ?_)
    rw [if_pos (by rfl)]
    first | refine quiet_move _ rfl ?_ | refine quiet_assign _ rfl ?_
    go_simp
    refine hK _ ?_
    clear hK K
    refine wpQuiet_nil ?_
    refine rd_step rfl ?_
    refine wpQuiet_step (fun K hK => ?_)
    rw [if_pos (by rfl)]
    refine quiet_iload _ _ rfl imgT (fun W hW => hW) rfl ?_
    go_simp
    refine hK _ ?_
    clear hK K
    refine wpQuiet_nil ?_
    refine rd_step rfl ?_
    refine wpQuiet_step (fun K hK => ?_)
    rw [if_pos (by rfl)]
    first | refine quiet_move _ rfl ?_ | refine quiet_assign _ rfl ?_
    go_simp
    refine hK _ ?_
    clear hK K
    refine wpQuiet_nil ?_
    refine rd_step rfl ?_
    refine wpQuiet_step (fun K hK => ?_)
    rw [if_pos (by rfl)]
    first | refine quiet_move _ rfl ?_ | refine quiet_assign _ rfl ?_
    go_simp
    refine hK _ ?_
    clear hK K
    refine wpQuiet_nil ?_
    refine rd_step rfl ?_
    refine wpQuiet_step (fun K hK => ?_)
    rw [if_pos (by rfl)]
    refine quiet_iload _ _ rfl imgT (fun W hW => hW) rfl ?_
    go_simp
    refine hK _ ?_
    clear hK K
    refine wpQuiet_nil ?_
    refine rd_step rfl ?_
    refine wpQuiet_step (fun K hK => ?_)
    rw [if_pos (by rfl)]
    first | refine quiet_move _ rfl ?_ | refine quiet_assign _ rfl ?_
    go_simp
    refine hK _ ?_
    clear hK K
    refine wpQuiet_nil ?_
    refine rd_step rfl ?_
    refine wpQuiet_step (fun K hK => ?_)
    rw [if_pos (by rfl)]
    first | refine quiet_move _ rfl ?_ | refine quiet_assign _ rfl ?_
    go_simp
    refine hK _ ?_
    clear hK K
    refine wpQuiet_nil ?_
    refine ⟨0, 0, 0, 0, ?_, F⟩
    subst hM
    unfold avR
    go_simp
  · subst hM
    clear F
    intro k hk
    match k, hk with
    | 0, _ =>
      intro a' W h
      obtain ⟨b9, b10, b11, b12, rfl, F⟩ := h
      refine ⟨fun h => absurd h (by decide), ?_⟩
      refine all5 ?_ ?_ ?_ ?_ ?_
      · refine ⟨_, rfl, ?_⟩
        unfold avR
        go_simp
        go_wp2_with (go_at_call 53; (refine (CG0.out _ ((HR.out.below F.2.2).more F.2.2.size)).mono ?_); rintro _ V ⟨rfl, B⟩)
        exact ⟨(F.on B).1, b9, b10, b11, b12, (by unfold avR; go_simp), F.on B⟩
      · refine ⟨_, rfl, ?_⟩
        unfold avR
        go_simp
        go_wp2_with fail
        have bx := box_below W #[.int .i64 0, .int .i64 0, .int .i64 0, .int .i64 0] 44
        exact ⟨(F.on bx).1, W.heap.size, b10, b11, b12, (by unfold avR; go_simp), F.on bx, VBox.made W 0 0 0 0 44, F.2.1.lt⟩
      · refine ⟨_, rfl, ?_⟩
        unfold avR
        go_simp
        go_wp2_with fail
        have bx := box_below W #[.int .i64 0, .int .i64 0, .int .i64 0, .int .i64 0] 44
        exact ⟨(F.on bx).1, b9, W.heap.size, b11, b12, (by unfold avR; go_simp), F.on bx, VBox.made W 0 0 0 0 44, F.2.1.lt⟩
      · refine ⟨_, rfl, ?_⟩
        unfold avR
        go_simp
        go_wp2_with fail
        have bx := box_below W #[.int .i64 0, .int .i64 0, .int .i64 0, .int .i64 0] 44
        exact ⟨(F.on bx).1, b9, b10, W.heap.size, b12, (by unfold avR; go_simp), F.on bx, VBox.made W 0 0 0 0 44, F.2.1.lt⟩
      · refine ⟨_, rfl, ?_⟩
        unfold avR
        go_simp
        go_wp2_with fail
        have bx := box_below W #[.int .i64 0, .int .i64 0, .int .i64 0, .int .i64 0] 44
        exact ⟨(F.on bx).1, b9, b10, b11, W.heap.size, (by unfold avR; go_simp), F.on bx, VBox.made W 0 0 0 0 44, F.2.1.lt⟩
    | 1, _ =>
      intro a' W h
      obtain ⟨b9, b10, b11, b12, rfl, F⟩ := h
      refine ⟨fun h => absurd h (by decide), ?_⟩
      refine all5 ?_ ?_ ?_ ?_ ?_
      · refine ⟨_, rfl, ?_⟩
        unfold avR
        go_simp
        go_wp2_with (go_at_call 53; (refine (CG1.out _ ((HR.out.below F.2.2).more F.2.2.size)).mono ?_); rintro _ V ⟨rfl, B⟩)
        exact ⟨(F.on B).1, b9, b10, b11, b12, (by unfold avR; go_simp), F.on B⟩
      · refine ⟨_, rfl, ?_⟩
        unfold avR
        go_simp
        go_wp2_with fail
        have bx := box_below W #[.int .i64 0, .int .i64 0, .int .i64 0, .int .i64 0] 44
        exact ⟨(F.on bx).1, W.heap.size, b10, b11, b12, (by unfold avR; go_simp), F.on bx, VBox.made W 0 0 0 0 44, F.2.1.lt⟩
      · refine ⟨_, rfl, ?_⟩
        unfold avR
        go_simp
        go_wp2_with fail
        have bx := box_below W #[.int .i64 0, .int .i64 0, .int .i64 0, .int .i64 0] 44
        exact ⟨(F.on bx).1, b9, W.heap.size, b11, b12, (by unfold avR; go_simp), F.on bx, VBox.made W 0 0 0 0 44, F.2.1.lt⟩
      · refine ⟨_, rfl, ?_⟩
        unfold avR
        go_simp
        go_wp2_with fail
        have bx := box_below W #[.int .i64 0, .int .i64 0, .int .i64 0, .int .i64 0] 44
        exact ⟨(F.on bx).1, b9, b10, W.heap.size, b12, (by unfold avR; go_simp), F.on bx, VBox.made W 0 0 0 0 44, F.2.1.lt⟩
      · refine ⟨_, rfl, ?_⟩
        unfold avR
        go_simp
        go_wp2_with fail
        have bx := box_below W #[.int .i64 0, .int .i64 0, .int .i64 0, .int .i64 0] 44
        exact ⟨(F.on bx).1, b9, b10, b11, W.heap.size, (by unfold avR; go_simp), F.on bx, VBox.made W 0 0 0 0 44, F.2.1.lt⟩
    | 2, _ =>
      intro a' W h
      obtain ⟨b9, b10, b11, b12, rfl, F, E9, G9⟩ := h
      refine ⟨fun h => absurd h (by decide), ?_⟩
      refine all4 ?_ ?_ ?_ ?_
      · refine ⟨_, rfl, ?_⟩
        unfold avR
        go_simp
        go_wp2_with (go_at_call 53; (refine (CG0.out _ ((HR.out.below F.2.2).more F.2.2.size)).mono ?_); rintro _ V ⟨rfl, B⟩)
        exact ⟨(F.on B).1, b9, b10, b11, b12, (by unfold avR; go_simp), F.on B, E9.on B, G9⟩
      · refine ⟨_, rfl, ?_⟩
        unfold avR
        go_simp
        go_wp2_with fail
        have bx := box_below W #[.int .i64 0, .int .i64 0, .int .i64 0, .int .i64 0] 44
        exact ⟨(F.on bx).1, b9, W.heap.size, b11, b12, (by unfold avR; go_simp), F.on bx, E9.on bx, VBox.made W 0 0 0 0 44, G9, F.2.1.lt, (Nat.ne_of_lt E9.lt)⟩
      · refine ⟨_, rfl, ?_⟩
        unfold avR
        go_simp
        go_wp2_with fail
        have bx := box_below W #[.int .i64 0, .int .i64 0, .int .i64 0, .int .i64 0] 44
        exact ⟨(F.on bx).1, b9, b10, W.heap.size, b12, (by unfold avR; go_simp), F.on bx, E9.on bx, VBox.made W 0 0 0 0 44, G9, F.2.1.lt, (Nat.ne_of_lt E9.lt)⟩
      · refine ⟨_, rfl, ?_⟩
        unfold avR
        go_simp
        go_wp2_with fail
        have bx := box_below W #[.int .i64 0, .int .i64 0, .int .i64 0, .int .i64 0] 44
        exact ⟨(F.on bx).1, b9, b10, b11, W.heap.size, (by unfold avR; go_simp), F.on bx, E9.on bx, VBox.made W 0 0 0 0 44, G9, F.2.1.lt, (Nat.ne_of_lt E9.lt)⟩
    | 3, _ =>
      intro a' W h
      obtain ⟨b9, b10, b11, b12, rfl, F, E10, G10⟩ := h
      refine ⟨fun h => absurd h (by decide), ?_⟩
      refine all4 ?_ ?_ ?_ ?_
      · refine ⟨_, rfl, ?_⟩
        unfold avR
        go_simp
        go_wp2_with (go_at_call 53; (refine (CG0.out _ ((HR.out.below F.2.2).more F.2.2.size)).mono ?_); rintro _ V ⟨rfl, B⟩)
        exact ⟨(F.on B).1, b9, b10, b11, b12, (by unfold avR; go_simp), F.on B, E10.on B, G10⟩
      · refine ⟨_, rfl, ?_⟩
        unfold avR
        go_simp
        go_wp2_with fail
        have bx := box_below W #[.int .i64 0, .int .i64 0, .int .i64 0, .int .i64 0] 44
        exact ⟨(F.on bx).1, W.heap.size, b10, b11, b12, (by unfold avR; go_simp), F.on bx, VBox.made W 0 0 0 0 44, E10.on bx, F.2.1.lt, G10, (Nat.ne_of_gt E10.lt)⟩
      · refine ⟨_, rfl, ?_⟩
        unfold avR
        go_simp
        go_wp2_with fail
        have bx := box_below W #[.int .i64 0, .int .i64 0, .int .i64 0, .int .i64 0] 44
        exact ⟨(F.on bx).1, b9, b10, W.heap.size, b12, (by unfold avR; go_simp), F.on bx, E10.on bx, VBox.made W 0 0 0 0 44, G10, F.2.1.lt, (Nat.ne_of_lt E10.lt)⟩
      · refine ⟨_, rfl, ?_⟩
        unfold avR
        go_simp
        go_wp2_with fail
        have bx := box_below W #[.int .i64 0, .int .i64 0, .int .i64 0, .int .i64 0] 44
        exact ⟨(F.on bx).1, b9, b10, b11, W.heap.size, (by unfold avR; go_simp), F.on bx, E10.on bx, VBox.made W 0 0 0 0 44, G10, F.2.1.lt, (Nat.ne_of_lt E10.lt)⟩
    | 4, _ =>
      intro a' W h
      obtain ⟨b9, b10, b11, b12, rfl, F, E11, G11⟩ := h
      refine ⟨fun h => absurd h (by decide), ?_⟩
      refine all4 ?_ ?_ ?_ ?_
      · refine ⟨_, rfl, ?_⟩
        unfold avR
        go_simp
        go_wp2_with (go_at_call 53; (refine (CG0.out _ ((HR.out.below F.2.2).more F.2.2.size)).mono ?_); rintro _ V ⟨rfl, B⟩)
        exact ⟨(F.on B).1, b9, b10, b11, b12, (by unfold avR; go_simp), F.on B, E11.on B, G11⟩
      · refine ⟨_, rfl, ?_⟩
        unfold avR
        go_simp
        go_wp2_with fail
        have bx := box_below W #[.int .i64 0, .int .i64 0, .int .i64 0, .int .i64 0] 44
        exact ⟨(F.on bx).1, W.heap.size, b10, b11, b12, (by unfold avR; go_simp), F.on bx, VBox.made W 0 0 0 0 44, E11.on bx, F.2.1.lt, G11, (Nat.ne_of_gt E11.lt)⟩
      · refine ⟨_, rfl, ?_⟩
        unfold avR
        go_simp
        go_wp2_with fail
        have bx := box_below W #[.int .i64 0, .int .i64 0, .int .i64 0, .int .i64 0] 44
        exact ⟨(F.on bx).1, b9, W.heap.size, b11, b12, (by unfold avR; go_simp), F.on bx, VBox.made W 0 0 0 0 44, E11.on bx, F.2.1.lt, G11, (Nat.ne_of_gt E11.lt)⟩
      · refine ⟨_, rfl, ?_⟩
        unfold avR
        go_simp
        go_wp2_with fail
        have bx := box_below W #[.int .i64 0, .int .i64 0, .int .i64 0, .int .i64 0] 44
        exact ⟨(F.on bx).1, b9, b10, b11, W.heap.size, (by unfold avR; go_simp), F.on bx, E11.on bx, VBox.made W 0 0 0 0 44, G11, F.2.1.lt, (Nat.ne_of_lt E11.lt)⟩
    | 5, _ =>
      intro a' W h
      obtain ⟨b9, b10, b11, b12, rfl, F, E12, G12⟩ := h
      refine ⟨fun h => absurd h (by decide), ?_⟩
      refine all4 ?_ ?_ ?_ ?_
      · refine ⟨_, rfl, ?_⟩
        unfold avR
        go_simp
        go_wp2_with (go_at_call 53; (refine (CG0.out _ ((HR.out.below F.2.2).more F.2.2.size)).mono ?_); rintro _ V ⟨rfl, B⟩)
        exact ⟨(F.on B).1, b9, b10, b11, b12, (by unfold avR; go_simp), F.on B, E12.on B, G12⟩
      · refine ⟨_, rfl, ?_⟩
        unfold avR
        go_simp
        go_wp2_with fail
        have bx := box_below W #[.int .i64 0, .int .i64 0, .int .i64 0, .int .i64 0] 44
        exact ⟨(F.on bx).1, W.heap.size, b10, b11, b12, (by unfold avR; go_simp), F.on bx, VBox.made W 0 0 0 0 44, E12.on bx, F.2.1.lt, G12, (Nat.ne_of_gt E12.lt)⟩
      · refine ⟨_, rfl, ?_⟩
        unfold avR
        go_simp
        go_wp2_with fail
        have bx := box_below W #[.int .i64 0, .int .i64 0, .int .i64 0, .int .i64 0] 44
        exact ⟨(F.on bx).1, b9, W.heap.size, b11, b12, (by unfold avR; go_simp), F.on bx, VBox.made W 0 0 0 0 44, E12.on bx, F.2.1.lt, G12, (Nat.ne_of_gt E12.lt)⟩
      · refine ⟨_, rfl, ?_⟩
        unfold avR
        go_simp
        go_wp2_with fail
        have bx := box_below W #[.int .i64 0, .int .i64 0, .int .i64 0, .int .i64 0] 44
        exact ⟨(F.on bx).1, b9, b10, W.heap.size, b12, (by unfold avR; go_simp), F.on bx, VBox.made W 0 0 0 0 44, E12.on bx, F.2.1.lt, G12, (Nat.ne_of_gt E12.lt)⟩
    | 6, _ =>
      intro a' W h
      obtain ⟨b9, b10, b11, b12, rfl, F⟩ := h
      refine ⟨fun h => absurd h (by decide), ?_⟩
      refine all5 ?_ ?_ ?_ ?_ ?_
      · refine ⟨_, rfl, ?_⟩
        unfold avR
        go_simp
        go_wp2_with (go_at_call 53; (refine (CG2.out _ ((HR.out.below F.2.2).more F.2.2.size)).mono ?_); rintro _ V ⟨rfl, B⟩)
        exact ⟨(F.on B).1, b9, b10, b11, b12, (by unfold avR; go_simp), F.on B⟩
      · refine ⟨_, rfl, ?_⟩
        unfold avR
        go_simp
        go_wp2_with fail
        have bx := box_below W #[.int .i64 0, .int .i64 0, .int .i64 0, .int .i64 0] 44
        exact ⟨(F.on bx).1, W.heap.size, b10, b11, b12, (by unfold avR; go_simp), F.on bx, VBox.made W 0 0 0 0 44, F.2.1.lt⟩
      · refine ⟨_, rfl, ?_⟩
        unfold avR
        go_simp
        go_wp2_with fail
        have bx := box_below W #[.int .i64 0, .int .i64 0, .int .i64 0, .int .i64 0] 44
        exact ⟨(F.on bx).1, b9, W.heap.size, b11, b12, (by unfold avR; go_simp), F.on bx, VBox.made W 0 0 0 0 44, F.2.1.lt⟩
      · refine ⟨_, rfl, ?_⟩
        unfold avR
        go_simp
        go_wp2_with fail
        have bx := box_below W #[.int .i64 0, .int .i64 0, .int .i64 0, .int .i64 0] 44
        exact ⟨(F.on bx).1, b9, b10, W.heap.size, b12, (by unfold avR; go_simp), F.on bx, VBox.made W 0 0 0 0 44, F.2.1.lt⟩
      · refine ⟨_, rfl, ?_⟩
        unfold avR
        go_simp
        go_wp2_with fail
        have bx := box_below W #[.int .i64 0, .int .i64 0, .int .i64 0, .int .i64 0] 44
        exact ⟨(F.on bx).1, b9, b10, b11, W.heap.size, (by unfold avR; go_simp), F.on bx, VBox.made W 0 0 0 0 44, F.2.1.lt⟩
    | 7, _ =>
      intro a' W h
      obtain ⟨b9, b10, b11, b12, rfl, F, E9, G9⟩ := h
      refine ⟨fun h => absurd h (by decide), ?_⟩
      refine all4 ?_ ?_ ?_ ?_
      · refine ⟨_, rfl, ?_⟩
        unfold avR
        go_simp
        go_wp2_with (go_at_call 53; (refine (CG1.out _ ((HR.out.below F.2.2).more F.2.2.size)).mono ?_); rintro _ V ⟨rfl, B⟩)
        exact ⟨(F.on B).1, b9, b10, b11, b12, (by unfold avR; go_simp), F.on B, E9.on B, G9⟩
      · refine ⟨_, rfl, ?_⟩
        unfold avR
        go_simp
        go_wp2_with fail
        have bx := box_below W #[.int .i64 0, .int .i64 0, .int .i64 0, .int .i64 0] 44
        exact ⟨(F.on bx).1, b9, W.heap.size, b11, b12, (by unfold avR; go_simp), F.on bx, E9.on bx, VBox.made W 0 0 0 0 44, G9, F.2.1.lt, (Nat.ne_of_lt E9.lt)⟩
      · refine ⟨_, rfl, ?_⟩
        unfold avR
        go_simp
        go_wp2_with fail
        have bx := box_below W #[.int .i64 0, .int .i64 0, .int .i64 0, .int .i64 0] 44
        exact ⟨(F.on bx).1, b9, b10, W.heap.size, b12, (by unfold avR; go_simp), F.on bx, E9.on bx, VBox.made W 0 0 0 0 44, G9, F.2.1.lt, (Nat.ne_of_lt E9.lt)⟩
      · refine ⟨_, rfl, ?_⟩
        unfold avR
        go_simp
        go_wp2_with fail
        have bx := box_below W #[.int .i64 0, .int .i64 0, .int .i64 0, .int .i64 0] 44
        exact ⟨(F.on bx).1, b9, b10, b11, W.heap.size, (by unfold avR; go_simp), F.on bx, E9.on bx, VBox.made W 0 0 0 0 44, G9, F.2.1.lt, (Nat.ne_of_lt E9.lt)⟩
    | 8, _ =>
      intro a' W h
      obtain ⟨b9, b10, b11, b12, rfl, F, E10, G10⟩ := h
      refine ⟨fun h => absurd h (by decide), ?_⟩
      refine all4 ?_ ?_ ?_ ?_
      · refine ⟨_, rfl, ?_⟩
        unfold avR
        go_simp
        go_wp2_with (go_at_call 53; (refine (CG1.out _ ((HR.out.below F.2.2).more F.2.2.size)).mono ?_); rintro _ V ⟨rfl, B⟩)
        exact ⟨(F.on B).1, b9, b10, b11, b12, (by unfold avR; go_simp), F.on B, E10.on B, G10⟩
      · refine ⟨_, rfl, ?_⟩
        unfold avR
        go_simp
        go_wp2_with fail
        have bx := box_below W #[.int .i64 0, .int .i64 0, .int .i64 0, .int .i64 0] 44
        exact ⟨(F.on bx).1, W.heap.size, b10, b11, b12, (by unfold avR; go_simp), F.on bx, VBox.made W 0 0 0 0 44, E10.on bx, F.2.1.lt, G10, (Nat.ne_of_gt E10.lt)⟩
      · refine ⟨_, rfl, ?_⟩
        unfold avR
        go_simp
        go_wp2_with fail
        have bx := box_below W #[.int .i64 0, .int .i64 0, .int .i64 0, .int .i64 0] 44
        exact ⟨(F.on bx).1, b9, b10, W.heap.size, b12, (by unfold avR; go_simp), F.on bx, E10.on bx, VBox.made W 0 0 0 0 44, G10, F.2.1.lt, (Nat.ne_of_lt E10.lt)⟩
      · refine ⟨_, rfl, ?_⟩
        unfold avR
        go_simp
        go_wp2_with fail
        have bx := box_below W #[.int .i64 0, .int .i64 0, .int .i64 0, .int .i64 0] 44
        exact ⟨(F.on bx).1, b9, b10, b11, W.heap.size, (by unfold avR; go_simp), F.on bx, E10.on bx, VBox.made W 0 0 0 0 44, G10, F.2.1.lt, (Nat.ne_of_lt E10.lt)⟩
    | 9, _ =>
      intro a' W h
      obtain ⟨b9, b10, b11, b12, rfl, F, E11, G11⟩ := h
      refine ⟨fun h => absurd h (by decide), ?_⟩
      refine all4 ?_ ?_ ?_ ?_
      · refine ⟨_, rfl, ?_⟩
        unfold avR
        go_simp
        go_wp2_with (go_at_call 53; (refine (CG1.out _ ((HR.out.below F.2.2).more F.2.2.size)).mono ?_); rintro _ V ⟨rfl, B⟩)
        exact ⟨(F.on B).1, b9, b10, b11, b12, (by unfold avR; go_simp), F.on B, E11.on B, G11⟩
      · refine ⟨_, rfl, ?_⟩
        unfold avR
        go_simp
        go_wp2_with fail
        have bx := box_below W #[.int .i64 0, .int .i64 0, .int .i64 0, .int .i64 0] 44
        exact ⟨(F.on bx).1, W.heap.size, b10, b11, b12, (by unfold avR; go_simp), F.on bx, VBox.made W 0 0 0 0 44, E11.on bx, F.2.1.lt, G11, (Nat.ne_of_gt E11.lt)⟩
      · refine ⟨_, rfl, ?_⟩
        unfold avR
        go_simp
        go_wp2_with fail
        have bx := box_below W #[.int .i64 0, .int .i64 0, .int .i64 0, .int .i64 0] 44
        exact ⟨(F.on bx).1, b9, W.heap.size, b11, b12, (by unfold avR; go_simp), F.on bx, VBox.made W 0 0 0 0 44, E11.on bx, F.2.1.lt, G11, (Nat.ne_of_gt E11.lt)⟩
      · refine ⟨_, rfl, ?_⟩
        unfold avR
        go_simp
        go_wp2_with fail
        have bx := box_below W #[.int .i64 0, .int .i64 0, .int .i64 0, .int .i64 0] 44
        exact ⟨(F.on bx).1, b9, b10, b11, W.heap.size, (by unfold avR; go_simp), F.on bx, E11.on bx, VBox.made W 0 0 0 0 44, G11, F.2.1.lt, (Nat.ne_of_lt E11.lt)⟩
    | 10, _ =>
      intro a' W h
      obtain ⟨b9, b10, b11, b12, rfl, F, E12, G12⟩ := h
      refine ⟨fun h => absurd h (by decide), ?_⟩
      refine all4 ?_ ?_ ?_ ?_
      · refine ⟨_, rfl, ?_⟩
        unfold avR
        go_simp
        go_wp2_with (go_at_call 53; (refine (CG1.out _ ((HR.out.below F.2.2).more F.2.2.size)).mono ?_); rintro _ V ⟨rfl, B⟩)
        exact ⟨(F.on B).1, b9, b10, b11, b12, (by unfold avR; go_simp), F.on B, E12.on B, G12⟩
      · refine ⟨_, rfl, ?_⟩
        unfold avR
        go_simp
        go_wp2_with fail
        have bx := box_below W #[.int .i64 0, .int .i64 0, .int .i64 0, .int .i64 0] 44
        exact ⟨(F.on bx).1, W.heap.size, b10, b11, b12, (by unfold avR; go_simp), F.on bx, VBox.made W 0 0 0 0 44, E12.on bx, F.2.1.lt, G12, (Nat.ne_of_gt E12.lt)⟩
      · refine ⟨_, rfl, ?_⟩
        unfold avR
        go_simp
        go_wp2_with fail
        have bx := box_below W #[.int .i64 0, .int .i64 0, .int .i64 0, .int .i64 0] 44
        exact ⟨(F.on bx).1, b9, W.heap.size, b11, b12, (by unfold avR; go_simp), F.on bx, VBox.made W 0 0 0 0 44, E12.on bx, F.2.1.lt, G12, (Nat.ne_of_gt E12.lt)⟩
      · refine ⟨_, rfl, ?_⟩
        unfold avR
        go_simp
        go_wp2_with fail
        have bx := box_below W #[.int .i64 0, .int .i64 0, .int .i64 0, .int .i64 0] 44
        exact ⟨(F.on bx).1, b9, b10, W.heap.size, b12, (by unfold avR; go_simp), F.on bx, VBox.made W 0 0 0 0 44, E12.on bx, F.2.1.lt, G12, (Nat.ne_of_gt E12.lt)⟩
    | 11, _ =>
      intro a' W h
      obtain ⟨b9, b10, b11, b12, rfl, F, E9, E10, G9, G10, N9_10⟩ := h
      refine ⟨fun h => absurd h (by decide), ?_⟩
      refine all3 ?_ ?_ ?_
      · refine ⟨_, rfl, ?_⟩
        unfold avR
        go_simp
        go_wp2_with (go_at_call 53; (refine (CG0.out _ ((HR.out.below F.2.2).more F.2.2.size)).mono ?_); rintro _ V ⟨rfl, B⟩)
        exact ⟨(F.on B).1, b9, b10, b11, b12, (by unfold avR; go_simp), F.on B, E9.on B, E10.on B, G9, G10, N9_10⟩
      · refine ⟨_, rfl, ?_⟩
        unfold avR
        go_simp
        go_wp2_with fail
        have bx := box_below W #[.int .i64 0, .int .i64 0, .int .i64 0, .int .i64 0] 44
        exact ⟨(F.on bx).1, b9, b10, W.heap.size, b12, (by unfold avR; go_simp), F.on bx, E9.on bx, E10.on bx, VBox.made W 0 0 0 0 44, G9, G10, F.2.1.lt, N9_10, (Nat.ne_of_lt E9.lt), (Nat.ne_of_lt E10.lt)⟩
      · refine ⟨_, rfl, ?_⟩
        unfold avR
        go_simp
        go_wp2_with fail
        have bx := box_below W #[.int .i64 0, .int .i64 0, .int .i64 0, .int .i64 0] 44
        exact ⟨(F.on bx).1, b9, b10, b11, W.heap.size, (by unfold avR; go_simp), F.on bx, E9.on bx, E10.on bx, VBox.made W 0 0 0 0 44, G9, G10, F.2.1.lt, N9_10, (Nat.ne_of_lt E9.lt), (Nat.ne_of_lt E10.lt)⟩
    | 12, _ =>
      intro a' W h
      obtain ⟨b9, b10, b11, b12, rfl, F, E9, E11, G9, G11, N9_11⟩ := h
      refine ⟨fun h => absurd h (by decide), ?_⟩
      refine all3 ?_ ?_ ?_
      · refine ⟨_, rfl, ?_⟩
        unfold avR
        go_simp
        go_wp2_with (go_at_call 53; (refine (CG0.out _ ((HR.out.below F.2.2).more F.2.2.size)).mono ?_); rintro _ V ⟨rfl, B⟩)
        exact ⟨(F.on B).1, b9, b10, b11, b12, (by unfold avR; go_simp), F.on B, E9.on B, E11.on B, G9, G11, N9_11⟩
      · refine ⟨_, rfl, ?_⟩
        unfold avR
        go_simp
        go_wp2_with fail
        have bx := box_below W #[.int .i64 0, .int .i64 0, .int .i64 0, .int .i64 0] 44
        exact ⟨(F.on bx).1, b9, W.heap.size, b11, b12, (by unfold avR; go_simp), F.on bx, E9.on bx, VBox.made W 0 0 0 0 44, E11.on bx, G9, F.2.1.lt, G11, (Nat.ne_of_lt E9.lt), N9_11, (Nat.ne_of_gt E11.lt)⟩
      · refine ⟨_, rfl, ?_⟩
        unfold avR
        go_simp
        go_wp2_with fail
        have bx := box_below W #[.int .i64 0, .int .i64 0, .int .i64 0, .int .i64 0] 44
        exact ⟨(F.on bx).1, b9, b10, b11, W.heap.size, (by unfold avR; go_simp), F.on bx, E9.on bx, E11.on bx, VBox.made W 0 0 0 0 44, G9, G11, F.2.1.lt, N9_11, (Nat.ne_of_lt E9.lt), (Nat.ne_of_lt E11.lt)⟩
    | 13, _ =>
      intro a' W h
      obtain ⟨b9, b10, b11, b12, rfl, F, E9, E12, G9, G12, N9_12⟩ := h
      refine ⟨fun h => absurd h (by decide), ?_⟩
      refine all3 ?_ ?_ ?_
      · refine ⟨_, rfl, ?_⟩
        unfold avR
        go_simp
        go_wp2_with (go_at_call 53; (refine (CG0.out _ ((HR.out.below F.2.2).more F.2.2.size)).mono ?_); rintro _ V ⟨rfl, B⟩)
        exact ⟨(F.on B).1, b9, b10, b11, b12, (by unfold avR; go_simp), F.on B, E9.on B, E12.on B, G9, G12, N9_12⟩
      · refine ⟨_, rfl, ?_⟩
        unfold avR
        go_simp
        go_wp2_with fail
        have bx := box_below W #[.int .i64 0, .int .i64 0, .int .i64 0, .int .i64 0] 44
        exact ⟨(F.on bx).1, b9, W.heap.size, b11, b12, (by unfold avR; go_simp), F.on bx, E9.on bx, VBox.made W 0 0 0 0 44, E12.on bx, G9, F.2.1.lt, G12, (Nat.ne_of_lt E9.lt), N9_12, (Nat.ne_of_gt E12.lt)⟩
      · refine ⟨_, rfl, ?_⟩
        unfold avR
        go_simp
        go_wp2_with fail
        have bx := box_below W #[.int .i64 0, .int .i64 0, .int .i64 0, .int .i64 0] 44
        exact ⟨(F.on bx).1, b9, b10, W.heap.size, b12, (by unfold avR; go_simp), F.on bx, E9.on bx, VBox.made W 0 0 0 0 44, E12.on bx, G9, F.2.1.lt, G12, (Nat.ne_of_lt E9.lt), N9_12, (Nat.ne_of_gt E12.lt)⟩
    | 14, _ =>
      intro a' W h
      obtain ⟨b9, b10, b11, b12, rfl, F, E10, E11, G10, G11, N10_11⟩ := h
      refine ⟨fun h => absurd h (by decide), ?_⟩
      refine all3 ?_ ?_ ?_
      · refine ⟨_, rfl, ?_⟩
        unfold avR
        go_simp
        go_wp2_with (go_at_call 53; (refine (CG0.out _ ((HR.out.below F.2.2).more F.2.2.size)).mono ?_); rintro _ V ⟨rfl, B⟩)
        exact ⟨(F.on B).1, b9, b10, b11, b12, (by unfold avR; go_simp), F.on B, E10.on B, E11.on B, G10, G11, N10_11⟩
      · refine ⟨_, rfl, ?_⟩
        unfold avR
        go_simp
        go_wp2_with fail
        have bx := box_below W #[.int .i64 0, .int .i64 0, .int .i64 0, .int .i64 0] 44
        exact ⟨(F.on bx).1, W.heap.size, b10, b11, b12, (by unfold avR; go_simp), F.on bx, VBox.made W 0 0 0 0 44, E10.on bx, E11.on bx, F.2.1.lt, G10, G11, (Nat.ne_of_gt E10.lt), (Nat.ne_of_gt E11.lt), N10_11⟩
      · refine ⟨_, rfl, ?_⟩
        unfold avR
        go_simp
        go_wp2_with fail
        have bx := box_below W #[.int .i64 0, .int .i64 0, .int .i64 0, .int .i64 0] 44
        exact ⟨(F.on bx).1, b9, b10, b11, W.heap.size, (by unfold avR; go_simp), F.on bx, E10.on bx, E11.on bx, VBox.made W 0 0 0 0 44, G10, G11, F.2.1.lt, N10_11, (Nat.ne_of_lt E10.lt), (Nat.ne_of_lt E11.lt)⟩
    | 15, _ =>
      intro a' W h
      obtain ⟨b9, b10, b11, b12, rfl, F, E10, E12, G10, G12, N10_12⟩ := h
      refine ⟨fun h => absurd h (by decide), ?_⟩
      refine all3 ?_ ?_ ?_
      · refine ⟨_, rfl, ?_⟩
        unfold avR
        go_simp
        go_wp2_with (go_at_call 53; (refine (CG0.out _ ((HR.out.below F.2.2).more F.2.2.size)).mono ?_); rintro _ V ⟨rfl, B⟩)
        exact ⟨(F.on B).1, b9, b10, b11, b12, (by unfold avR; go_simp), F.on B, E10.on B, E12.on B, G10, G12, N10_12⟩
      · refine ⟨_, rfl, ?_⟩
        unfold avR
        go_simp
        go_wp2_with fail
        have bx := box_below W #[.int .i64 0, .int .i64 0, .int .i64 0, .int .i64 0] 44
        exact ⟨(F.on bx).1, W.heap.size, b10, b11, b12, (by unfold avR; go_simp), F.on bx, VBox.made W 0 0 0 0 44, E10.on bx, E12.on bx, F.2.1.lt, G10, G12, (Nat.ne_of_gt E10.lt), (Nat.ne_of_gt E12.lt), N10_12⟩
      · refine ⟨_, rfl, ?_⟩
        unfold avR
        go_simp
        go_wp2_with fail
        have bx := box_below W #[.int .i64 0, .int .i64 0, .int .i64 0, .int .i64 0] 44
        exact ⟨(F.on bx).1, b9, b10, W.heap.size, b12, (by unfold avR; go_simp), F.on bx, E10.on bx, VBox.made W 0 0 0 0 44, E12.on bx, G10, F.2.1.lt, G12, (Nat.ne_of_lt E10.lt), N10_12, (Nat.ne_of_gt E12.lt)⟩
    | 16, _ =>
      intro a' W h
      obtain ⟨b9, b10, b11, b12, rfl, F, E11, E12, G11, G12, N11_12⟩ := h
      refine ⟨fun h => absurd h (by decide), ?_⟩
      refine all3 ?_ ?_ ?_
      · refine ⟨_, rfl, ?_⟩
        unfold avR
        go_simp
        go_wp2_with (go_at_call 53; (refine (CG0.out _ ((HR.out.below F.2.2).more F.2.2.size)).mono ?_); rintro _ V ⟨rfl, B⟩)
        exact ⟨(F.on B).1, b9, b10, b11, b12, (by unfold avR; go_simp), F.on B, E11.on B, E12.on B, G11, G12, N11_12⟩
      · refine ⟨_, rfl, ?_⟩
        unfold avR
        go_simp
        go_wp2_with fail
        have bx := box_below W #[.int .i64 0, .int .i64 0, .int .i64 0, .int .i64 0] 44
        exact ⟨(F.on bx).1, W.heap.size, b10, b11, b12, (by unfold avR; go_simp), F.on bx, VBox.made W 0 0 0 0 44, E11.on bx, E12.on bx, F.2.1.lt, G11, G12, (Nat.ne_of_gt E11.lt), (Nat.ne_of_gt E12.lt), N11_12⟩
      · refine ⟨_, rfl, ?_⟩
        unfold avR
        go_simp
        go_wp2_with fail
        have bx := box_below W #[.int .i64 0, .int .i64 0, .int .i64 0, .int .i64 0] 44
        exact ⟨(F.on bx).1, b9, W.heap.size, b11, b12, (by unfold avR; go_simp), F.on bx, VBox.made W 0 0 0 0 44, E11.on bx, E12.on bx, F.2.1.lt, G11, G12, (Nat.ne_of_gt E11.lt), (Nat.ne_of_gt E12.lt), N11_12⟩
    | 17, _ =>
      intro a' W h
      obtain ⟨b9, b10, b11, b12, rfl, F⟩ := h
      refine ⟨fun h => absurd h (by decide), ?_⟩
      refine all5 ?_ ?_ ?_ ?_ ?_
      · refine ⟨_, rfl, ?_⟩
        unfold avR
        go_simp
        go_wp2_with (go_at_call 53; (refine (CG3.out _ ((HR.out.below F.2.2).more F.2.2.size)).mono ?_); rintro _ V ⟨rfl, B⟩)
        exact ⟨(F.on B).1, b9, b10, b11, b12, (by unfold avR; go_simp), F.on B⟩
      · refine ⟨_, rfl, ?_⟩
        unfold avR
        go_simp
        go_wp2_with fail
        have bx := box_below W #[.int .i64 0, .int .i64 0, .int .i64 0, .int .i64 0] 44
        exact ⟨(F.on bx).1, W.heap.size, b10, b11, b12, (by unfold avR; go_simp), F.on bx, VBox.made W 0 0 0 0 44, F.2.1.lt⟩
      · refine ⟨_, rfl, ?_⟩
        unfold avR
        go_simp
        go_wp2_with fail
        have bx := box_below W #[.int .i64 0, .int .i64 0, .int .i64 0, .int .i64 0] 44
        exact ⟨(F.on bx).1, b9, W.heap.size, b11, b12, (by unfold avR; go_simp), F.on bx, VBox.made W 0 0 0 0 44, F.2.1.lt⟩
      · refine ⟨_, rfl, ?_⟩
        unfold avR
        go_simp
        go_wp2_with fail
        have bx := box_below W #[.int .i64 0, .int .i64 0, .int .i64 0, .int .i64 0] 44
        exact ⟨(F.on bx).1, b9, b10, W.heap.size, b12, (by unfold avR; go_simp), F.on bx, VBox.made W 0 0 0 0 44, F.2.1.lt⟩
      · refine ⟨_, rfl, ?_⟩
        unfold avR
        go_simp
        go_wp2_with fail
        have bx := box_below W #[.int .i64 0, .int .i64 0, .int .i64 0, .int .i64 0] 44
        exact ⟨(F.on bx).1, b9, b10, b11, W.heap.size, (by unfold avR; go_simp), F.on bx, VBox.made W 0 0 0 0 44, F.2.1.lt⟩
    | 18, _ =>
      intro a' W h
      obtain ⟨b9, b10, b11, b12, rfl, F, E9, G9⟩ := h
      refine ⟨fun h => absurd h (by decide), ?_⟩
      refine all4 ?_ ?_ ?_ ?_
      · refine ⟨_, rfl, ?_⟩
        unfold avR
        go_simp
        go_wp2_with (go_at_call 53; (refine (CG2.out _ ((HR.out.below F.2.2).more F.2.2.size)).mono ?_); rintro _ V ⟨rfl, B⟩)
        exact ⟨(F.on B).1, b9, b10, b11, b12, (by unfold avR; go_simp), F.on B, E9.on B, G9⟩
      · refine ⟨_, rfl, ?_⟩
        unfold avR
        go_simp
        go_wp2_with fail
        have bx := box_below W #[.int .i64 0, .int .i64 0, .int .i64 0, .int .i64 0] 44
        exact ⟨(F.on bx).1, b9, W.heap.size, b11, b12, (by unfold avR; go_simp), F.on bx, E9.on bx, VBox.made W 0 0 0 0 44, G9, F.2.1.lt, (Nat.ne_of_lt E9.lt)⟩
      · refine ⟨_, rfl, ?_⟩
        unfold avR
        go_simp
        go_wp2_with fail
        have bx := box_below W #[.int .i64 0, .int .i64 0, .int .i64 0, .int .i64 0] 44
        exact ⟨(F.on bx).1, b9, b10, W.heap.size, b12, (by unfold avR; go_simp), F.on bx, E9.on bx, VBox.made W 0 0 0 0 44, G9, F.2.1.lt, (Nat.ne_of_lt E9.lt)⟩
      · refine ⟨_, rfl, ?_⟩
        unfold avR
        go_simp
        go_wp2_with fail
        have bx := box_below W #[.int .i64 0, .int .i64 0, .int .i64 0, .int .i64 0] 44
        exact ⟨(F.on bx).1, b9, b10, b11, W.heap.size, (by unfold avR; go_simp), F.on bx, E9.on bx, VBox.made W 0 0 0 0 44, G9, F.2.1.lt, (Nat.ne_of_lt E9.lt)⟩
    | 19, _ =>
      intro a' W h
      obtain ⟨b9, b10, b11, b12, rfl, F, E10, G10⟩ := h
      refine ⟨fun h => absurd h (by decide), ?_⟩
      refine all4 ?_ ?_ ?_ ?_
      · refine ⟨_, rfl, ?_⟩
        unfold avR
        go_simp
        go_wp2_with (go_at_call 53; (refine (CG2.out _ ((HR.out.below F.2.2).more F.2.2.size)).mono ?_); rintro _ V ⟨rfl, B⟩)
        exact ⟨(F.on B).1, b9, b10, b11, b12, (by unfold avR; go_simp), F.on B, E10.on B, G10⟩
      · refine ⟨_, rfl, ?_⟩
        unfold avR
        go_simp
        go_wp2_with fail
        have bx := box_below W #[.int .i64 0, .int .i64 0, .int .i64 0, .int .i64 0] 44
        exact ⟨(F.on bx).1, W.heap.size, b10, b11, b12, (by unfold avR; go_simp), F.on bx, VBox.made W 0 0 0 0 44, E10.on bx, F.2.1.lt, G10, (Nat.ne_of_gt E10.lt)⟩
      · refine ⟨_, rfl, ?_⟩
        unfold avR
        go_simp
        go_wp2_with fail
        have bx := box_below W #[.int .i64 0, .int .i64 0, .int .i64 0, .int .i64 0] 44
        exact ⟨(F.on bx).1, b9, b10, W.heap.size, b12, (by unfold avR; go_simp), F.on bx, E10.on bx, VBox.made W 0 0 0 0 44, G10, F.2.1.lt, (Nat.ne_of_lt E10.lt)⟩
      · refine ⟨_, rfl, ?_⟩
        unfold avR
        go_simp
        go_wp2_with fail
        have bx := box_below W #[.int .i64 0, .int .i64 0, .int .i64 0, .int .i64 0] 44
        exact ⟨(F.on bx).1, b9, b10, b11, W.heap.size, (by unfold avR; go_simp), F.on bx, E10.on bx, VBox.made W 0 0 0 0 44, G10, F.2.1.lt, (Nat.ne_of_lt E10.lt)⟩
    | 20, _ =>
      intro a' W h
      obtain ⟨b9, b10, b11, b12, rfl, F, E11, G11⟩ := h
      refine ⟨fun h => absurd h (by decide), ?_⟩
      refine all4 ?_ ?_ ?_ ?_
      · refine ⟨_, rfl, ?_⟩
        unfold avR
        go_simp
        go_wp2_with (go_at_call 53; (refine (CG2.out _ ((HR.out.below F.2.2).more F.2.2.size)).mono ?_); rintro _ V ⟨rfl, B⟩)
        exact ⟨(F.on B).1, b9, b10, b11, b12, (by unfold avR; go_simp), F.on B, E11.on B, G11⟩
      · refine ⟨_, rfl, ?_⟩
        unfold avR
        go_simp
        go_wp2_with fail
        have bx := box_below W #[.int .i64 0, .int .i64 0, .int .i64 0, .int .i64 0] 44
        exact ⟨(F.on bx).1, W.heap.size, b10, b11, b12, (by unfold avR; go_simp), F.on bx, VBox.made W 0 0 0 0 44, E11.on bx, F.2.1.lt, G11, (Nat.ne_of_gt E11.lt)⟩
      · refine ⟨_, rfl, ?_⟩
        unfold avR
        go_simp
        go_wp2_with fail
        have bx := box_below W #[.int .i64 0, .int .i64 0, .int .i64 0, .int .i64 0] 44
        exact ⟨(F.on bx).1, b9, W.heap.size, b11, b12, (by unfold avR; go_simp), F.on bx, VBox.made W 0 0 0 0 44, E11.on bx, F.2.1.lt, G11, (Nat.ne_of_gt E11.lt)⟩
      · refine ⟨_, rfl, ?_⟩
        unfold avR
        go_simp
        go_wp2_with fail
        have bx := box_below W #[.int .i64 0, .int .i64 0, .int .i64 0, .int .i64 0] 44
        exact ⟨(F.on bx).1, b9, b10, b11, W.heap.size, (by unfold avR; go_simp), F.on bx, E11.on bx, VBox.made W 0 0 0 0 44, G11, F.2.1.lt, (Nat.ne_of_lt E11.lt)⟩
    | 21, _ =>
      intro a' W h
      obtain ⟨b9, b10, b11, b12, rfl, F, E12, G12⟩ := h
      refine ⟨fun h => absurd h (by decide), ?_⟩
      refine all4 ?_ ?_ ?_ ?_
      · refine ⟨_, rfl, ?_⟩
        unfold avR
        go_simp
        go_wp2_with (go_at_call 53; (refine (CG2.out _ ((HR.out.below F.2.2).more F.2.2.size)).mono ?_); rintro _ V ⟨rfl, B⟩)
        exact ⟨(F.on B).1, b9, b10, b11, b12, (by unfold avR; go_simp), F.on B, E12.on B, G12⟩
      · refine ⟨_, rfl, ?_⟩
        unfold avR
        go_simp
        go_wp2_with fail
        have bx := box_below W #[.int .i64 0, .int .i64 0, .int .i64 0, .int .i64 0] 44
        exact ⟨(F.on bx).1, W.heap.size, b10, b11, b12, (by unfold avR; go_simp), F.on bx, VBox.made W 0 0 0 0 44, E12.on bx, F.2.1.lt, G12, (Nat.ne_of_gt E12.lt)⟩
      · refine ⟨_, rfl, ?_⟩
        unfold avR
        go_simp
        go_wp2_with fail
        have bx := box_below W #[.int .i64 0, .int .i64 0, .int .i64 0, .int .i64 0] 44
        exact ⟨(F.on bx).1, b9, W.heap.size, b11, b12, (by unfold avR; go_simp), F.on bx, VBox.made W 0 0 0 0 44, E12.on bx, F.2.1.lt, G12, (Nat.ne_of_gt E12.lt)⟩
      · refine ⟨_, rfl, ?_⟩
        unfold avR
        go_simp
        go_wp2_with fail
        have bx := box_below W #[.int .i64 0, .int .i64 0, .int .i64 0, .int .i64 0] 44
        exact ⟨(F.on bx).1, b9, b10, W.heap.size, b12, (by unfold avR; go_simp), F.on bx, VBox.made W 0 0 0 0 44, E12.on bx, F.2.1.lt, G12, (Nat.ne_of_gt E12.lt)⟩
    | 22, _ =>
      intro a' W h
      obtain ⟨b9, b10, b11, b12, rfl, F, E9, E10, G9, G10, N9_10⟩ := h
      refine ⟨fun h => absurd h (by decide), ?_⟩
      refine all3 ?_ ?_ ?_
      · refine ⟨_, rfl, ?_⟩
        unfold avR
        go_simp
        go_wp2_with (go_at_call 53; (refine (CG1.out _ ((HR.out.below F.2.2).more F.2.2.size)).mono ?_); rintro _ V ⟨rfl, B⟩)
        exact ⟨(F.on B).1, b9, b10, b11, b12, (by unfold avR; go_simp), F.on B, E9.on B, E10.on B, G9, G10, N9_10⟩
      · refine ⟨_, rfl, ?_⟩
        unfold avR
        go_simp
        go_wp2_with fail
        have bx := box_below W #[.int .i64 0, .int .i64 0, .int .i64 0, .int .i64 0] 44
        exact ⟨(F.on bx).1, b9, b10, W.heap.size, b12, (by unfold avR; go_simp), F.on bx, E9.on bx, E10.on bx, VBox.made W 0 0 0 0 44, G9, G10, F.2.1.lt, N9_10, (Nat.ne_of_lt E9.lt), (Nat.ne_of_lt E10.lt)⟩
      · refine ⟨_, rfl, ?_⟩
        unfold avR
        go_simp
        go_wp2_with fail
        have bx := box_below W #[.int .i64 0, .int .i64 0, .int .i64 0, .int .i64 0] 44
        exact ⟨(F.on bx).1, b9, b10, b11, W.heap.size, (by unfold avR; go_simp), F.on bx, E9.on bx, E10.on bx, VBox.made W 0 0 0 0 44, G9, G10, F.2.1.lt, N9_10, (Nat.ne_of_lt E9.lt), (Nat.ne_of_lt E10.lt)⟩
    | 23, _ =>
      intro a' W h
      obtain ⟨b9, b10, b11, b12, rfl, F, E9, E11, G9, G11, N9_11⟩ := h
      refine ⟨fun h => absurd h (by decide), ?_⟩
      refine all3 ?_ ?_ ?_
      · refine ⟨_, rfl, ?_⟩
        unfold avR
        go_simp
        go_wp2_with (go_at_call 53; (refine (CG1.out _ ((HR.out.below F.2.2).more F.2.2.size)).mono ?_); rintro _ V ⟨rfl, B⟩)
        exact ⟨(F.on B).1, b9, b10, b11, b12, (by unfold avR; go_simp), F.on B, E9.on B, E11.on B, G9, G11, N9_11⟩
      · refine ⟨_, rfl, ?_⟩
        unfold avR
        go_simp
        go_wp2_with fail
        have bx := box_below W #[.int .i64 0, .int .i64 0, .int .i64 0, .int .i64 0] 44
        exact ⟨(F.on bx).1, b9, W.heap.size, b11, b12, (by unfold avR; go_simp), F.on bx, E9.on bx, VBox.made W 0 0 0 0 44, E11.on bx, G9, F.2.1.lt, G11, (Nat.ne_of_lt E9.lt), N9_11, (Nat.ne_of_gt E11.lt)⟩
      · refine ⟨_, rfl, ?_⟩
        unfold avR
        go_simp
        go_wp2_with fail
        have bx := box_below W #[.int .i64 0, .int .i64 0, .int .i64 0, .int .i64 0] 44
        exact ⟨(F.on bx).1, b9, b10, b11, W.heap.size, (by unfold avR; go_simp), F.on bx, E9.on bx, E11.on bx, VBox.made W 0 0 0 0 44, G9, G11, F.2.1.lt, N9_11, (Nat.ne_of_lt E9.lt), (Nat.ne_of_lt E11.lt)⟩
    | 24, _ =>
      intro a' W h
      obtain ⟨b9, b10, b11, b12, rfl, F, E9, E12, G9, G12, N9_12⟩ := h
      refine ⟨fun h => absurd h (by decide), ?_⟩
      refine all3 ?_ ?_ ?_
      · refine ⟨_, rfl, ?_⟩
        unfold avR
        go_simp
        go_wp2_with (go_at_call 53; (refine (CG1.out _ ((HR.out.below F.2.2).more F.2.2.size)).mono ?_); rintro _ V ⟨rfl, B⟩)
        exact ⟨(F.on B).1, b9, b10, b11, b12, (by unfold avR; go_simp), F.on B, E9.on B, E12.on B, G9, G12, N9_12⟩
      · refine ⟨_, rfl, ?_⟩
        unfold avR
        go_simp
        go_wp2_with fail
        have bx := box_below W #[.int .i64 0, .int .i64 0, .int .i64 0, .int .i64 0] 44
        exact ⟨(F.on bx).1, b9, W.heap.size, b11, b12, (by unfold avR; go_simp), F.on bx, E9.on bx, VBox.made W 0 0 0 0 44, E12.on bx, G9, F.2.1.lt, G12, (Nat.ne_of_lt E9.lt), N9_12, (Nat.ne_of_gt E12.lt)⟩
      · refine ⟨_, rfl, ?_⟩
        unfold avR
        go_simp
        go_wp2_with fail
        have bx := box_below W #[.int .i64 0, .int .i64 0, .int .i64 0, .int .i64 0] 44
        exact ⟨(F.on bx).1, b9, b10, W.heap.size, b12, (by unfold avR; go_simp), F.on bx, E9.on bx, VBox.made W 0 0 0 0 44, E12.on bx, G9, F.2.1.lt, G12, (Nat.ne_of_lt E9.lt), N9_12, (Nat.ne_of_gt E12.lt)⟩
    | 25, _ =>
      intro a' W h
      obtain ⟨b9, b10, b11, b12, rfl, F, E10, E11, G10, G11, N10_11⟩ := h
      refine ⟨fun h => absurd h (by decide), ?_⟩
      refine all3 ?_ ?_ ?_
      · refine ⟨_, rfl, ?_⟩
        unfold avR
        go_simp
        go_wp2_with (go_at_call 53; (refine (CG1.out _ ((HR.out.below F.2.2).more F.2.2.size)).mono ?_); rintro _ V ⟨rfl, B⟩)
        exact ⟨(F.on B).1, b9, b10, b11, b12, (by unfold avR; go_simp), F.on B, E10.on B, E11.on B, G10, G11, N10_11⟩
      · refine ⟨_, rfl, ?_⟩
        unfold avR
        go_simp
        go_wp2_with fail
        have bx := box_below W #[.int .i64 0, .int .i64 0, .int .i64 0, .int .i64 0] 44
        exact ⟨(F.on bx).1, W.heap.size, b10, b11, b12, (by unfold avR; go_simp), F.on bx, VBox.made W 0 0 0 0 44, E10.on bx, E11.on bx, F.2.1.lt, G10, G11, (Nat.ne_of_gt E10.lt), (Nat.ne_of_gt E11.lt), N10_11⟩
      · refine ⟨_, rfl, ?_⟩
        unfold avR
        go_simp
        go_wp2_with fail
        have bx := box_below W #[.int .i64 0, .int .i64 0, .int .i64 0, .int .i64 0] 44
        exact ⟨(F.on bx).1, b9, b10, b11, W.heap.size, (by unfold avR; go_simp), F.on bx, E10.on bx, E11.on bx, VBox.made W 0 0 0 0 44, G10, G11, F.2.1.lt, N10_11, (Nat.ne_of_lt E10.lt), (Nat.ne_of_lt E11.lt)⟩
    | 26, _ =>
      intro a' W h
      obtain ⟨b9, b10, b11, b12, rfl, F, E10, E12, G10, G12, N10_12⟩ := h
      refine ⟨fun h => absurd h (by decide), ?_⟩
      refine all3 ?_ ?_ ?_
      · refine ⟨_, rfl, ?_⟩
        unfold avR
        go_simp
        go_wp2_with (go_at_call 53; (refine (CG1.out _ ((HR.out.below F.2.2).more F.2.2.size)).mono ?_); rintro _ V ⟨rfl, B⟩)
        exact ⟨(F.on B).1, b9, b10, b11, b12, (by unfold avR; go_simp), F.on B, E10.on B, E12.on B, G10, G12, N10_12⟩
      · refine ⟨_, rfl, ?_⟩
        unfold avR
        go_simp
        go_wp2_with fail
        have bx := box_below W #[.int .i64 0, .int .i64 0, .int .i64 0, .int .i64 0] 44
        exact ⟨(F.on bx).1, W.heap.size, b10, b11, b12, (by unfold avR; go_simp), F.on bx, VBox.made W 0 0 0 0 44, E10.on bx, E12.on bx, F.2.1.lt, G10, G12, (Nat.ne_of_gt E10.lt), (Nat.ne_of_gt E12.lt), N10_12⟩
      · refine ⟨_, rfl, ?_⟩
        unfold avR
        go_simp
        go_wp2_with fail
        have bx := box_below W #[.int .i64 0, .int .i64 0, .int .i64 0, .int .i64 0] 44
        exact ⟨(F.on bx).1, b9, b10, W.heap.size, b12, (by unfold avR; go_simp), F.on bx, E10.on bx, VBox.made W 0 0 0 0 44, E12.on bx, G10, F.2.1.lt, G12, (Nat.ne_of_lt E10.lt), N10_12, (Nat.ne_of_gt E12.lt)⟩
    | 27, _ =>
      intro a' W h
      obtain ⟨b9, b10, b11, b12, rfl, F, E11, E12, G11, G12, N11_12⟩ := h
      refine ⟨fun h => absurd h (by decide), ?_⟩
      refine all3 ?_ ?_ ?_
      · refine ⟨_, rfl, ?_⟩
        unfold avR
        go_simp
        go_wp2_with (go_at_call 53; (refine (CG1.out _ ((HR.out.below F.2.2).more F.2.2.size)).mono ?_); rintro _ V ⟨rfl, B⟩)
        exact ⟨(F.on B).1, b9, b10, b11, b12, (by unfold avR; go_simp), F.on B, E11.on B, E12.on B, G11, G12, N11_12⟩
      · refine ⟨_, rfl, ?_⟩
        unfold avR
        go_simp
        go_wp2_with fail
        have bx := box_below W #[.int .i64 0, .int .i64 0, .int .i64 0, .int .i64 0] 44
        exact ⟨(F.on bx).1, W.heap.size, b10, b11, b12, (by unfold avR; go_simp), F.on bx, VBox.made W 0 0 0 0 44, E11.on bx, E12.on bx, F.2.1.lt, G11, G12, (Nat.ne_of_gt E11.lt), (Nat.ne_of_gt E12.lt), N11_12⟩
      · refine ⟨_, rfl, ?_⟩
        unfold avR
        go_simp
        go_wp2_with fail
        have bx := box_below W #[.int .i64 0, .int .i64 0, .int .i64 0, .int .i64 0] 44
        exact ⟨(F.on bx).1, b9, W.heap.size, b11, b12, (by unfold avR; go_simp), F.on bx, VBox.made W 0 0 0 0 44, E11.on bx, E12.on bx, F.2.1.lt, G11, G12, (Nat.ne_of_gt E11.lt), (Nat.ne_of_gt E12.lt), N11_12⟩
    | 28, _ =>
      intro a' W h
      obtain ⟨b9, b10, b11, b12, rfl, F, E9, E10, E11, G9, G10, G11, N9_10, N9_11, N10_11⟩ := h
      refine ⟨fun h => absurd h (by decide), ?_⟩
      refine all2 ?_ ?_
      · refine ⟨_, rfl, ?_⟩
        unfold avR
        go_simp
        go_wp2_with (go_at_call 53; (refine (CG0.out _ ((HR.out.below F.2.2).more F.2.2.size)).mono ?_); rintro _ V ⟨rfl, B⟩)
        exact ⟨(F.on B).1, b9, b10, b11, b12, (by unfold avR; go_simp), F.on B, E9.on B, E10.on B, E11.on B, G9, G10, G11, N9_10, N9_11, N10_11⟩
      · refine ⟨_, rfl, ?_⟩
        unfold avR
        go_simp
        go_wp2_with fail
        have bx := box_below W #[.int .i64 0, .int .i64 0, .int .i64 0, .int .i64 0] 44
        exact ⟨(F.on bx).1, b9, b10, b11, W.heap.size, (by unfold avR; go_simp), F.on bx, E9.on bx, E10.on bx, E11.on bx, VBox.made W 0 0 0 0 44, G9, G10, G11, F.2.1.lt, N9_10, N9_11, (Nat.ne_of_lt E9.lt), N10_11, (Nat.ne_of_lt E10.lt), (Nat.ne_of_lt E11.lt)⟩
    | 29, _ =>
      intro a' W h
      obtain ⟨b9, b10, b11, b12, rfl, F, E9, E10, E12, G9, G10, G12, N9_10, N9_12, N10_12⟩ := h
      refine ⟨fun h => absurd h (by decide), ?_⟩
      refine all2 ?_ ?_
      · refine ⟨_, rfl, ?_⟩
        unfold avR
        go_simp
        go_wp2_with (go_at_call 53; (refine (CG0.out _ ((HR.out.below F.2.2).more F.2.2.size)).mono ?_); rintro _ V ⟨rfl, B⟩)
        exact ⟨(F.on B).1, b9, b10, b11, b12, (by unfold avR; go_simp), F.on B, E9.on B, E10.on B, E12.on B, G9, G10, G12, N9_10, N9_12, N10_12⟩
      · refine ⟨_, rfl, ?_⟩
        unfold avR
        go_simp
        go_wp2_with fail
        have bx := box_below W #[.int .i64 0, .int .i64 0, .int .i64 0, .int .i64 0] 44
        exact ⟨(F.on bx).1, b9, b10, W.heap.size, b12, (by unfold avR; go_simp), F.on bx, E9.on bx, E10.on bx, VBox.made W 0 0 0 0 44, E12.on bx, G9, G10, F.2.1.lt, G12, N9_10, (Nat.ne_of_lt E9.lt), N9_12, (Nat.ne_of_lt E10.lt), N10_12, (Nat.ne_of_gt E12.lt)⟩
    | 30, _ =>
      intro a' W h
      obtain ⟨b9, b10, b11, b12, rfl, F, E9, E11, E12, G9, G11, G12, N9_11, N9_12, N11_12⟩ := h
      refine ⟨fun h => absurd h (by decide), ?_⟩
      refine all2 ?_ ?_
      · refine ⟨_, rfl, ?_⟩
        unfold avR
        go_simp
        go_wp2_with (go_at_call 53; (refine (CG0.out _ ((HR.out.below F.2.2).more F.2.2.size)).mono ?_); rintro _ V ⟨rfl, B⟩)
        exact ⟨(F.on B).1, b9, b10, b11, b12, (by unfold avR; go_simp), F.on B, E9.on B, E11.on B, E12.on B, G9, G11, G12, N9_11, N9_12, N11_12⟩
      · refine ⟨_, rfl, ?_⟩
        unfold avR
        go_simp
        go_wp2_with fail
        have bx := box_below W #[.int .i64 0, .int .i64 0, .int .i64 0, .int .i64 0] 44
        exact ⟨(F.on bx).1, b9, W.heap.size, b11, b12, (by unfold avR; go_simp), F.on bx, E9.on bx, VBox.made W 0 0 0 0 44, E11.on bx, E12.on bx, G9, F.2.1.lt, G11, G12, (Nat.ne_of_lt E9.lt), N9_11, N9_12, (Nat.ne_of_gt E11.lt), (Nat.ne_of_gt E12.lt), N11_12⟩
    | 31, _ =>
      intro a' W h
      obtain ⟨b9, b10, b11, b12, rfl, F, E10, E11, E12, G10, G11, G12, N10_11, N10_12, N11_12⟩ := h
      refine ⟨fun h => absurd h (by decide), ?_⟩
      refine all2 ?_ ?_
      · refine ⟨_, rfl, ?_⟩
        unfold avR
        go_simp
        go_wp2_with (go_at_call 53; (refine (CG0.out _ ((HR.out.below F.2.2).more F.2.2.size)).mono ?_); rintro _ V ⟨rfl, B⟩)
        exact ⟨(F.on B).1, b9, b10, b11, b12, (by unfold avR; go_simp), F.on B, E10.on B, E11.on B, E12.on B, G10, G11, G12, N10_11, N10_12, N11_12⟩
      · refine ⟨_, rfl, ?_⟩
        unfold avR
        go_simp
        go_wp2_with fail
        have bx := box_below W #[.int .i64 0, .int .i64 0, .int .i64 0, .int .i64 0] 44
        exact ⟨(F.on bx).1, W.heap.size, b10, b11, b12, (by unfold avR; go_simp), F.on bx, VBox.made W 0 0 0 0 44, E10.on bx, E11.on bx, E12.on bx, F.2.1.lt, G10, G11, G12, (Nat.ne_of_gt E10.lt), (Nat.ne_of_gt E11.lt), (Nat.ne_of_gt E12.lt), N10_11, N10_12, N11_12⟩
    | 32, _ =>
      intro a' W h
      obtain ⟨b9, b10, b11, b12, rfl, F⟩ := h
      refine ⟨fun h => absurd h (by decide), ?_⟩
      refine all4 ?_ ?_ ?_ ?_
      · refine ⟨_, rfl, ?_⟩
        unfold avR
        go_simp
        go_wp2_with fail
        have bx := box_below W #[.int .i64 0, .int .i64 0, .int .i64 0, .int .i64 0] 44
        exact ⟨(F.on bx).1, W.heap.size, b10, b11, b12, (by unfold avR; go_simp), F.on bx, VBox.made W 0 0 0 0 44, F.2.1.lt⟩
      · refine ⟨_, rfl, ?_⟩
        unfold avR
        go_simp
        go_wp2_with fail
        have bx := box_below W #[.int .i64 0, .int .i64 0, .int .i64 0, .int .i64 0] 44
        exact ⟨(F.on bx).1, b9, W.heap.size, b11, b12, (by unfold avR; go_simp), F.on bx, VBox.made W 0 0 0 0 44, F.2.1.lt⟩
      · refine ⟨_, rfl, ?_⟩
        unfold avR
        go_simp
        go_wp2_with fail
        have bx := box_below W #[.int .i64 0, .int .i64 0, .int .i64 0, .int .i64 0] 44
        exact ⟨(F.on bx).1, b9, b10, W.heap.size, b12, (by unfold avR; go_simp), F.on bx, VBox.made W 0 0 0 0 44, F.2.1.lt⟩
      · refine ⟨_, rfl, ?_⟩
        unfold avR
        go_simp
        go_wp2_with fail
        have bx := box_below W #[.int .i64 0, .int .i64 0, .int .i64 0, .int .i64 0] 44
        exact ⟨(F.on bx).1, b9, b10, b11, W.heap.size, (by unfold avR; go_simp), F.on bx, VBox.made W 0 0 0 0 44, F.2.1.lt⟩
    | 33, _ =>
      intro a' W h
      obtain ⟨b9, b10, b11, b12, rfl, F, E9, G9⟩ := h
      refine ⟨fun h => absurd h (by decide), ?_⟩
      refine all4 ?_ ?_ ?_ ?_
      · refine ⟨_, rfl, ?_⟩
        unfold avR
        go_simp
        go_wp2_with (go_at_call 53; (refine (CG3.out _ ((HR.out.below F.2.2).more F.2.2.size)).mono ?_); rintro _ V ⟨rfl, B⟩)
        exact ⟨(F.on B).1, b9, b10, b11, b12, (by unfold avR; go_simp), F.on B, E9.on B, G9⟩
      · refine ⟨_, rfl, ?_⟩
        unfold avR
        go_simp
        go_wp2_with fail
        have bx := box_below W #[.int .i64 0, .int .i64 0, .int .i64 0, .int .i64 0] 44
        exact ⟨(F.on bx).1, b9, W.heap.size, b11, b12, (by unfold avR; go_simp), F.on bx, E9.on bx, VBox.made W 0 0 0 0 44, G9, F.2.1.lt, (Nat.ne_of_lt E9.lt)⟩
      · refine ⟨_, rfl, ?_⟩
        unfold avR
        go_simp
        go_wp2_with fail
        have bx := box_below W #[.int .i64 0, .int .i64 0, .int .i64 0, .int .i64 0] 44
        exact ⟨(F.on bx).1, b9, b10, W.heap.size, b12, (by unfold avR; go_simp), F.on bx, E9.on bx, VBox.made W 0 0 0 0 44, G9, F.2.1.lt, (Nat.ne_of_lt E9.lt)⟩
      · refine ⟨_, rfl, ?_⟩
        unfold avR
        go_simp
        go_wp2_with fail
        have bx := box_below W #[.int .i64 0, .int .i64 0, .int .i64 0, .int .i64 0] 44
        exact ⟨(F.on bx).1, b9, b10, b11, W.heap.size, (by unfold avR; go_simp), F.on bx, E9.on bx, VBox.made W 0 0 0 0 44, G9, F.2.1.lt, (Nat.ne_of_lt E9.lt)⟩
    | 34, _ =>
      intro a' W h
      obtain ⟨b9, b10, b11, b12, rfl, F, E10, G10⟩ := h
      refine ⟨fun h => absurd h (by decide), ?_⟩
      refine all4 ?_ ?_ ?_ ?_
      · refine ⟨_, rfl, ?_⟩
        unfold avR
        go_simp
        go_wp2_with (go_at_call 53; (refine (CG3.out _ ((HR.out.below F.2.2).more F.2.2.size)).mono ?_); rintro _ V ⟨rfl, B⟩)
        exact ⟨(F.on B).1, b9, b10, b11, b12, (by unfold avR; go_simp), F.on B, E10.on B, G10⟩
      · refine ⟨_, rfl, ?_⟩
        unfold avR
        go_simp
        go_wp2_with fail
        have bx := box_below W #[.int .i64 0, .int .i64 0, .int .i64 0, .int .i64 0] 44
        exact ⟨(F.on bx).1, W.heap.size, b10, b11, b12, (by unfold avR; go_simp), F.on bx, VBox.made W 0 0 0 0 44, E10.on bx, F.2.1.lt, G10, (Nat.ne_of_gt E10.lt)⟩
      · refine ⟨_, rfl, ?_⟩
        unfold avR
        go_simp
        go_wp2_with fail
        have bx := box_below W #[.int .i64 0, .int .i64 0, .int .i64 0, .int .i64 0] 44
        exact ⟨(F.on bx).1, b9, b10, W.heap.size, b12, (by unfold avR; go_simp), F.on bx, E10.on bx, VBox.made W 0 0 0 0 44, G10, F.2.1.lt, (Nat.ne_of_lt E10.lt)⟩
      · refine ⟨_, rfl, ?_⟩
        unfold avR
        go_simp
        go_wp2_with fail
        have bx := box_below W #[.int .i64 0, .int .i64 0, .int .i64 0, .int .i64 0] 44
        exact ⟨(F.on bx).1, b9, b10, b11, W.heap.size, (by unfold avR; go_simp), F.on bx, E10.on bx, VBox.made W 0 0 0 0 44, G10, F.2.1.lt, (Nat.ne_of_lt E10.lt)⟩
    | 35, _ =>
      intro a' W h
      obtain ⟨b9, b10, b11, b12, rfl, F, E11, G11⟩ := h
      refine ⟨fun h => absurd h (by decide), ?_⟩
      refine all4 ?_ ?_ ?_ ?_
      · refine ⟨_, rfl, ?_⟩
        unfold avR
        go_simp
        go_wp2_with (go_at_call 53; (refine (CG3.out _ ((HR.out.below F.2.2).more F.2.2.size)).mono ?_); rintro _ V ⟨rfl, B⟩)
        exact ⟨(F.on B).1, b9, b10, b11, b12, (by unfold avR; go_simp), F.on B, E11.on B, G11⟩
      · refine ⟨_, rfl, ?_⟩
        unfold avR
        go_simp
        go_wp2_with fail
        have bx := box_below W #[.int .i64 0, .int .i64 0, .int .i64 0, .int .i64 0] 44
        exact ⟨(F.on bx).1, W.heap.size, b10, b11, b12, (by unfold avR; go_simp), F.on bx, VBox.made W 0 0 0 0 44, E11.on bx, F.2.1.lt, G11, (Nat.ne_of_gt E11.lt)⟩
      · refine ⟨_, rfl, ?_⟩
        unfold avR
        go_simp
        go_wp2_with fail
        have bx := box_below W #[.int .i64 0, .int .i64 0, .int .i64 0, .int .i64 0] 44
        exact ⟨(F.on bx).1, b9, W.heap.size, b11, b12, (by unfold avR; go_simp), F.on bx, VBox.made W 0 0 0 0 44, E11.on bx, F.2.1.lt, G11, (Nat.ne_of_gt E11.lt)⟩
      · refine ⟨_, rfl, ?_⟩
        unfold avR
        go_simp
        go_wp2_with fail
        have bx := box_below W #[.int .i64 0, .int .i64 0, .int .i64 0, .int .i64 0] 44
        exact ⟨(F.on bx).1, b9, b10, b11, W.heap.size, (by unfold avR; go_simp), F.on bx, E11.on bx, VBox.made W 0 0 0 0 44, G11, F.2.1.lt, (Nat.ne_of_lt E11.lt)⟩
    | 36, _ =>
      intro a' W h
      obtain ⟨b9, b10, b11, b12, rfl, F, E12, G12⟩ := h
      refine ⟨fun h => absurd h (by decide), ?_⟩
      refine all4 ?_ ?_ ?_ ?_
      · refine ⟨_, rfl, ?_⟩
        unfold avR
        go_simp
        go_wp2_with (go_at_call 53; (refine (CG3.out _ ((HR.out.below F.2.2).more F.2.2.size)).mono ?_); rintro _ V ⟨rfl, B⟩)
        exact ⟨(F.on B).1, b9, b10, b11, b12, (by unfold avR; go_simp), F.on B, E12.on B, G12⟩
      · refine ⟨_, rfl, ?_⟩
        unfold avR
        go_simp
        go_wp2_with fail
        have bx := box_below W #[.int .i64 0, .int .i64 0, .int .i64 0, .int .i64 0] 44
        exact ⟨(F.on bx).1, W.heap.size, b10, b11, b12, (by unfold avR; go_simp), F.on bx, VBox.made W 0 0 0 0 44, E12.on bx, F.2.1.lt, G12, (Nat.ne_of_gt E12.lt)⟩
      · refine ⟨_, rfl, ?_⟩
        unfold avR
        go_simp
        go_wp2_with fail
        have bx := box_below W #[.int .i64 0, .int .i64 0, .int .i64 0, .int .i64 0] 44
        exact ⟨(F.on bx).1, b9, W.heap.size, b11, b12, (by unfold avR; go_simp), F.on bx, VBox.made W 0 0 0 0 44, E12.on bx, F.2.1.lt, G12, (Nat.ne_of_gt E12.lt)⟩
      · refine ⟨_, rfl, ?_⟩
        unfold avR
        go_simp
        go_wp2_with fail
        have bx := box_below W #[.int .i64 0, .int .i64 0, .int .i64 0, .int .i64 0] 44
        exact ⟨(F.on bx).1, b9, b10, W.heap.size, b12, (by unfold avR; go_simp), F.on bx, VBox.made W 0 0 0 0 44, E12.on bx, F.2.1.lt, G12, (Nat.ne_of_gt E12.lt)⟩
    | 37, _ =>
      intro a' W h
      obtain ⟨b9, b10, b11, b12, rfl, F, E9, E10, G9, G10, N9_10⟩ := h
      refine ⟨fun h => absurd h (by decide), ?_⟩
      refine all3 ?_ ?_ ?_
      · refine ⟨_, rfl, ?_⟩
        unfold avR
        go_simp
        go_wp2_with (go_at_call 53; (refine (CG2.out _ ((HR.out.below F.2.2).more F.2.2.size)).mono ?_); rintro _ V ⟨rfl, B⟩)
        exact ⟨(F.on B).1, b9, b10, b11, b12, (by unfold avR; go_simp), F.on B, E9.on B, E10.on B, G9, G10, N9_10⟩
      · refine ⟨_, rfl, ?_⟩
        unfold avR
        go_simp
        go_wp2_with fail
        have bx := box_below W #[.int .i64 0, .int .i64 0, .int .i64 0, .int .i64 0] 44
        exact ⟨(F.on bx).1, b9, b10, W.heap.size, b12, (by unfold avR; go_simp), F.on bx, E9.on bx, E10.on bx, VBox.made W 0 0 0 0 44, G9, G10, F.2.1.lt, N9_10, (Nat.ne_of_lt E9.lt), (Nat.ne_of_lt E10.lt)⟩
      · refine ⟨_, rfl, ?_⟩
        unfold avR
        go_simp
        go_wp2_with fail
        have bx := box_below W #[.int .i64 0, .int .i64 0, .int .i64 0, .int .i64 0] 44
        exact ⟨(F.on bx).1, b9, b10, b11, W.heap.size, (by unfold avR; go_simp), F.on bx, E9.on bx, E10.on bx, VBox.made W 0 0 0 0 44, G9, G10, F.2.1.lt, N9_10, (Nat.ne_of_lt E9.lt), (Nat.ne_of_lt E10.lt)⟩
    | 38, _ =>
      intro a' W h
      obtain ⟨b9, b10, b11, b12, rfl, F, E9, E11, G9, G11, N9_11⟩ := h
      refine ⟨fun h => absurd h (by decide), ?_⟩
      refine all3 ?_ ?_ ?_
      · refine ⟨_, rfl, ?_⟩
        unfold avR
        go_simp
        go_wp2_with (go_at_call 53; (refine (CG2.out _ ((HR.out.below F.2.2).more F.2.2.size)).mono ?_); rintro _ V ⟨rfl, B⟩)
        exact ⟨(F.on B).1, b9, b10, b11, b12, (by unfold avR; go_simp), F.on B, E9.on B, E11.on B, G9, G11, N9_11⟩
      · refine ⟨_, rfl, ?_⟩
        unfold avR
        go_simp
        go_wp2_with fail
        have bx := box_below W #[.int .i64 0, .int .i64 0, .int .i64 0, .int .i64 0] 44
        exact ⟨(F.on bx).1, b9, W.heap.size, b11, b12, (by unfold avR; go_simp), F.on bx, E9.on bx, VBox.made W 0 0 0 0 44, E11.on bx, G9, F.2.1.lt, G11, (Nat.ne_of_lt E9.lt), N9_11, (Nat.ne_of_gt E11.lt)⟩
      · refine ⟨_, rfl, ?_⟩
        unfold avR
        go_simp
        go_wp2_with fail
        have bx := box_below W #[.int .i64 0, .int .i64 0, .int .i64 0, .int .i64 0] 44
        exact ⟨(F.on bx).1, b9, b10, b11, W.heap.size, (by unfold avR; go_simp), F.on bx, E9.on bx, E11.on bx, VBox.made W 0 0 0 0 44, G9, G11, F.2.1.lt, N9_11, (Nat.ne_of_lt E9.lt), (Nat.ne_of_lt E11.lt)⟩
    | 39, _ =>
      intro a' W h
      obtain ⟨b9, b10, b11, b12, rfl, F, E9, E12, G9, G12, N9_12⟩ := h
      refine ⟨fun h => absurd h (by decide), ?_⟩
      refine all3 ?_ ?_ ?_
      · refine ⟨_, rfl, ?_⟩
        unfold avR
        go_simp
        go_wp2_with (go_at_call 53; (refine (CG2.out _ ((HR.out.below F.2.2).more F.2.2.size)).mono ?_); rintro _ V ⟨rfl, B⟩)
        exact ⟨(F.on B).1, b9, b10, b11, b12, (by unfold avR; go_simp), F.on B, E9.on B, E12.on B, G9, G12, N9_12⟩
      · refine ⟨_, rfl, ?_⟩
        unfold avR
        go_simp
        go_wp2_with fail
        have bx := box_below W #[.int .i64 0, .int .i64 0, .int .i64 0, .int .i64 0] 44
        exact ⟨(F.on bx).1, b9, W.heap.size, b11, b12, (by unfold avR; go_simp), F.on bx, E9.on bx, VBox.made W 0 0 0 0 44, E12.on bx, G9, F.2.1.lt, G12, (Nat.ne_of_lt E9.lt), N9_12, (Nat.ne_of_gt E12.lt)⟩
      · refine ⟨_, rfl, ?_⟩
        unfold avR
        go_simp
        go_wp2_with fail
        have bx := box_below W #[.int .i64 0, .int .i64 0, .int .i64 0, .int .i64 0] 44
        exact ⟨(F.on bx).1, b9, b10, W.heap.size, b12, (by unfold avR; go_simp), F.on bx, E9.on bx, VBox.made W 0 0 0 0 44, E12.on bx, G9, F.2.1.lt, G12, (Nat.ne_of_lt E9.lt), N9_12, (Nat.ne_of_gt E12.lt)⟩
    | 40, _ =>
      intro a' W h
      obtain ⟨b9, b10, b11, b12, rfl, F, E10, E11, G10, G11, N10_11⟩ := h
      refine ⟨fun h => absurd h (by decide), ?_⟩
      refine all3 ?_ ?_ ?_
      · refine ⟨_, rfl, ?_⟩
        unfold avR
        go_simp
        go_wp2_with (go_at_call 53; (refine (CG2.out _ ((HR.out.below F.2.2).more F.2.2.size)).mono ?_); rintro _ V ⟨rfl, B⟩)
        exact ⟨(F.on B).1, b9, b10, b11, b12, (by unfold avR; go_simp), F.on B, E10.on B, E11.on B, G10, G11, N10_11⟩
      · refine ⟨_, rfl, ?_⟩
        unfold avR
        go_simp
        go_wp2_with fail
        have bx := box_below W #[.int .i64 0, .int .i64 0, .int .i64 0, .int .i64 0] 44
        exact ⟨(F.on bx).1, W.heap.size, b10, b11, b12, (by unfold avR; go_simp), F.on bx, VBox.made W 0 0 0 0 44, E10.on bx, E11.on bx, F.2.1.lt, G10, G11, (Nat.ne_of_gt E10.lt), (Nat.ne_of_gt E11.lt), N10_11⟩
      · refine ⟨_, rfl, ?_⟩
        unfold avR
        go_simp
        go_wp2_with fail
        have bx := box_below W #[.int .i64 0, .int .i64 0, .int .i64 0, .int .i64 0] 44
        exact ⟨(F.on bx).1, b9, b10, b11, W.heap.size, (by unfold avR; go_simp), F.on bx, E10.on bx, E11.on bx, VBox.made W 0 0 0 0 44, G10, G11, F.2.1.lt, N10_11, (Nat.ne_of_lt E10.lt), (Nat.ne_of_lt E11.lt)⟩
    | 41, _ =>
      intro a' W h
      obtain ⟨b9, b10, b11, b12, rfl, F, E10, E12, G10, G12, N10_12⟩ := h
      refine ⟨fun h => absurd h (by decide), ?_⟩
      refine all3 ?_ ?_ ?_
      · refine ⟨_, rfl, ?_⟩
        unfold avR
        go_simp
        go_wp2_with (go_at_call 53; (refine (CG2.out _ ((HR.out.below F.2.2).more F.2.2.size)).mono ?_); rintro _ V ⟨rfl, B⟩)
        exact ⟨(F.on B).1, b9, b10, b11, b12, (by unfold avR; go_simp), F.on B, E10.on B, E12.on B, G10, G12, N10_12⟩
      · refine ⟨_, rfl, ?_⟩
        unfold avR
        go_simp
        go_wp2_with fail
        have bx := box_below W #[.int .i64 0, .int .i64 0, .int .i64 0, .int .i64 0] 44
        exact ⟨(F.on bx).1, W.heap.size, b10, b11, b12, (by unfold avR; go_simp), F.on bx, VBox.made W 0 0 0 0 44, E10.on bx, E12.on bx, F.2.1.lt, G10, G12, (Nat.ne_of_gt E10.lt), (Nat.ne_of_gt E12.lt), N10_12⟩
      · refine ⟨_, rfl, ?_⟩
        unfold avR
        go_simp
        go_wp2_with fail
        have bx := box_below W #[.int .i64 0, .int .i64 0, .int .i64 0, .int .i64 0] 44
        exact ⟨(F.on bx).1, b9, b10, W.heap.size, b12, (by unfold avR; go_simp), F.on bx, E10.on bx, VBox.made W 0 0 0 0 44, E12.on bx, G10, F.2.1.lt, G12, (Nat.ne_of_lt E10.lt), N10_12, (Nat.ne_of_gt E12.lt)⟩
    | 42, _ =>
      intro a' W h
      obtain ⟨b9, b10, b11, b12, rfl, F, E11, E12, G11, G12, N11_12⟩ := h
      refine ⟨fun h => absurd h (by decide), ?_⟩
      refine all3 ?_ ?_ ?_
      · refine ⟨_, rfl, ?_⟩
        unfold avR
        go_simp
        go_wp2_with (go_at_call 53; (refine (CG2.out _ ((HR.out.below F.2.2).more F.2.2.size)).mono ?_); rintro _ V ⟨rfl, B⟩)
        exact ⟨(F.on B).1, b9, b10, b11, b12, (by unfold avR; go_simp), F.on B, E11.on B, E12.on B, G11, G12, N11_12⟩
      · refine ⟨_, rfl, ?_⟩
        unfold avR
        go_simp
        go_wp2_with fail
        have bx := box_below W #[.int .i64 0, .int .i64 0, .int .i64 0, .int .i64 0] 44
        exact ⟨(F.on bx).1, W.heap.size, b10, b11, b12, (by unfold avR; go_simp), F.on bx, VBox.made W 0 0 0 0 44, E11.on bx, E12.on bx, F.2.1.lt, G11, G12, (Nat.ne_of_gt E11.lt), (Nat.ne_of_gt E12.lt), N11_12⟩
      · refine ⟨_, rfl, ?_⟩
        unfold avR
        go_simp
        go_wp2_with fail
        have bx := box_below W #[.int .i64 0, .int .i64 0, .int .i64 0, .int .i64 0] 44
        exact ⟨(F.on bx).1, b9, W.heap.size, b11, b12, (by unfold avR; go_simp), F.on bx, VBox.made W 0 0 0 0 44, E11.on bx, E12.on bx, F.2.1.lt, G11, G12, (Nat.ne_of_gt E11.lt), (Nat.ne_of_gt E12.lt), N11_12⟩
    | 43, _ =>
      intro a' W h
      obtain ⟨b9, b10, b11, b12, rfl, F, E9, E10, E11, G9, G10, G11, N9_10, N9_11, N10_11⟩ := h
      refine ⟨fun h => absurd h (by decide), ?_⟩
      refine all2 ?_ ?_
      · refine ⟨_, rfl, ?_⟩
        unfold avR
        go_simp
        go_wp2_with (go_at_call 53; (refine (CG1.out _ ((HR.out.below F.2.2).more F.2.2.size)).mono ?_); rintro _ V ⟨rfl, B⟩)
        exact ⟨(F.on B).1, b9, b10, b11, b12, (by unfold avR; go_simp), F.on B, E9.on B, E10.on B, E11.on B, G9, G10, G11, N9_10, N9_11, N10_11⟩
      · refine ⟨_, rfl, ?_⟩
        unfold avR
        go_simp
        go_wp2_with fail
        have bx := box_below W #[.int .i64 0, .int .i64 0, .int .i64 0, .int .i64 0] 44
        exact ⟨(F.on bx).1, b9, b10, b11, W.heap.size, (by unfold avR; go_simp), F.on bx, E9.on bx, E10.on bx, E11.on bx, VBox.made W 0 0 0 0 44, G9, G10, G11, F.2.1.lt, N9_10, N9_11, (Nat.ne_of_lt E9.lt), N10_11, (Nat.ne_of_lt E10.lt), (Nat.ne_of_lt E11.lt)⟩
    | 44, _ =>
      intro a' W h
      obtain ⟨b9, b10, b11, b12, rfl, F, E9, E10, E12, G9, G10, G12, N9_10, N9_12, N10_12⟩ := h
      refine ⟨fun h => absurd h (by decide), ?_⟩
      refine all2 ?_ ?_
      · refine ⟨_, rfl, ?_⟩
        unfold avR
        go_simp
        go_wp2_with (go_at_call 53; (refine (CG1.out _ ((HR.out.below F.2.2).more F.2.2.size)).mono ?_); rintro _ V ⟨rfl, B⟩)
        exact ⟨(F.on B).1, b9, b10, b11, b12, (by unfold avR; go_simp), F.on B, E9.on B, E10.on B, E12.on B, G9, G10, G12, N9_10, N9_12, N10_12⟩
      · refine ⟨_, rfl, ?_⟩
        unfold avR
        go_simp
        go_wp2_with fail
        have bx := box_below W #[.int .i64 0, .int .i64 0, .int .i64 0, .int .i64 0] 44
        exact ⟨(F.on bx).1, b9, b10, W.heap.size, b12, (by unfold avR; go_simp), F.on bx, E9.on bx, E10.on bx, VBox.made W 0 0 0 0 44, E12.on bx, G9, G10, F.2.1.lt, G12, N9_10, (Nat.ne_of_lt E9.lt), N9_12, (Nat.ne_of_lt E10.lt), N10_12, (Nat.ne_of_gt E12.lt)⟩
    | 45, _ =>
      intro a' W h
      obtain ⟨b9, b10, b11, b12, rfl, F, E9, E11, E12, G9, G11, G12, N9_11, N9_12, N11_12⟩ := h
      refine ⟨fun h => absurd h (by decide), ?_⟩
      refine all2 ?_ ?_
      · refine ⟨_, rfl, ?_⟩
        unfold avR
        go_simp
        go_wp2_with (go_at_call 53; (refine (CG1.out _ ((HR.out.below F.2.2).more F.2.2.size)).mono ?_); rintro _ V ⟨rfl, B⟩)
        exact ⟨(F.on B).1, b9, b10, b11, b12, (by unfold avR; go_simp), F.on B, E9.on B, E11.on B, E12.on B, G9, G11, G12, N9_11, N9_12, N11_12⟩
      · refine ⟨_, rfl, ?_⟩
        unfold avR
        go_simp
        go_wp2_with fail
        have bx := box_below W #[.int .i64 0, .int .i64 0, .int .i64 0, .int .i64 0] 44
        exact ⟨(F.on bx).1, b9, W.heap.size, b11, b12, (by unfold avR; go_simp), F.on bx, E9.on bx, VBox.made W 0 0 0 0 44, E11.on bx, E12.on bx, G9, F.2.1.lt, G11, G12, (Nat.ne_of_lt E9.lt), N9_11, N9_12, (Nat.ne_of_gt E11.lt), (Nat.ne_of_gt E12.lt), N11_12⟩
    | 46, _ =>
      intro a' W h
      obtain ⟨b9, b10, b11, b12, rfl, F, E10, E11, E12, G10, G11, G12, N10_11, N10_12, N11_12⟩ := h
      refine ⟨fun h => absurd h (by decide), ?_⟩
      refine all2 ?_ ?_
      · refine ⟨_, rfl, ?_⟩
        unfold avR
        go_simp
        go_wp2_with (go_at_call 53; (refine (CG1.out _ ((HR.out.below F.2.2).more F.2.2.size)).mono ?_); rintro _ V ⟨rfl, B⟩)
        exact ⟨(F.on B).1, b9, b10, b11, b12, (by unfold avR; go_simp), F.on B, E10.on B, E11.on B, E12.on B, G10, G11, G12, N10_11, N10_12, N11_12⟩
      · refine ⟨_, rfl, ?_⟩
        unfold avR
        go_simp
        go_wp2_with fail
        have bx := box_below W #[.int .i64 0, .int .i64 0, .int .i64 0, .int .i64 0] 44
        exact ⟨(F.on bx).1, W.heap.size, b10, b11, b12, (by unfold avR; go_simp), F.on bx, VBox.made W 0 0 0 0 44, E10.on bx, E11.on bx, E12.on bx, F.2.1.lt, G10, G11, G12, (Nat.ne_of_gt E10.lt), (Nat.ne_of_gt E11.lt), (Nat.ne_of_gt E12.lt), N10_11, N10_12, N11_12⟩
    | 47, _ =>
      intro a' W h
      obtain ⟨b9, b10, b11, b12, rfl, F, E9, E10, E11, E12, G9, G10, G11, G12, N9_10, N9_11, N9_12, N10_11, N10_12, N11_12⟩ := h
      refine ⟨fun h => absurd h (by decide), ?_⟩
      refine all1 ?_
      · refine ⟨_, rfl, ?_⟩
        unfold avR
        go_simp
        go_wp2_with (go_at_call 53; (refine (CG0.out _ ((HR.out.below F.2.2).more F.2.2.size)).mono ?_); rintro _ V ⟨rfl, B⟩)
        exact ⟨(F.on B).1, b9, b10, b11, b12, (by unfold avR; go_simp), F.on B, E9.on B, E10.on B, E11.on B, E12.on B, G9, G10, G11, G12, N9_10, N9_11, N9_12, N10_11, N10_12, N11_12⟩
    | 48, _ =>
      intro a' W h
      obtain ⟨b9, b10, b11, b12, rfl, F, E9, G9⟩ := h
      refine ⟨fun h => absurd h (by decide), ?_⟩
      refine all3 ?_ ?_ ?_
      · refine ⟨_, rfl, ?_⟩
        unfold avR
        go_simp
        go_wp2_with fail
        have bx := box_below W #[.int .i64 0, .int .i64 0, .int .i64 0, .int .i64 0] 44
        exact ⟨(F.on bx).1, b9, W.heap.size, b11, b12, (by unfold avR; go_simp), F.on bx, E9.on bx, VBox.made W 0 0 0 0 44, G9, F.2.1.lt, (Nat.ne_of_lt E9.lt)⟩
      · refine ⟨_, rfl, ?_⟩
        unfold avR
        go_simp
        go_wp2_with fail
        have bx := box_below W #[.int .i64 0, .int .i64 0, .int .i64 0, .int .i64 0] 44
        exact ⟨(F.on bx).1, b9, b10, W.heap.size, b12, (by unfold avR; go_simp), F.on bx, E9.on bx, VBox.made W 0 0 0 0 44, G9, F.2.1.lt, (Nat.ne_of_lt E9.lt)⟩
      · refine ⟨_, rfl, ?_⟩
        unfold avR
        go_simp
        go_wp2_with fail
        have bx := box_below W #[.int .i64 0, .int .i64 0, .int .i64 0, .int .i64 0] 44
        exact ⟨(F.on bx).1, b9, b10, b11, W.heap.size, (by unfold avR; go_simp), F.on bx, E9.on bx, VBox.made W 0 0 0 0 44, G9, F.2.1.lt, (Nat.ne_of_lt E9.lt)⟩
    | 49, _ =>
      intro a' W h
      obtain ⟨b9, b10, b11, b12, rfl, F, E10, G10⟩ := h
      refine ⟨fun h => absurd h (by decide), ?_⟩
      refine all3 ?_ ?_ ?_
      · refine ⟨_, rfl, ?_⟩
        unfold avR
        go_simp
        go_wp2_with fail
        have bx := box_below W #[.int .i64 0, .int .i64 0, .int .i64 0, .int .i64 0] 44
        exact ⟨(F.on bx).1, W.heap.size, b10, b11, b12, (by unfold avR; go_simp), F.on bx, VBox.made W 0 0 0 0 44, E10.on bx, F.2.1.lt, G10, (Nat.ne_of_gt E10.lt)⟩
      · refine ⟨_, rfl, ?_⟩
        unfold avR
        go_simp
        go_wp2_with fail
        have bx := box_below W #[.int .i64 0, .int .i64 0, .int .i64 0, .int .i64 0] 44
        exact ⟨(F.on bx).1, b9, b10, W.heap.size, b12, (by unfold avR; go_simp), F.on bx, E10.on bx, VBox.made W 0 0 0 0 44, G10, F.2.1.lt, (Nat.ne_of_lt E10.lt)⟩
      · refine ⟨_, rfl, ?_⟩
        unfold avR
        go_simp
        go_wp2_with fail
        have bx := box_below W #[.int .i64 0, .int .i64 0, .int .i64 0, .int .i64 0] 44
        exact ⟨(F.on bx).1, b9, b10, b11, W.heap.size, (by unfold avR; go_simp), F.on bx, E10.on bx, VBox.made W 0 0 0 0 44, G10, F.2.1.lt, (Nat.ne_of_lt E10.lt)⟩
    | 50, _ =>
      intro a' W h
      obtain ⟨b9, b10, b11, b12, rfl, F, E11, G11⟩ := h
      refine ⟨fun h => absurd h (by decide), ?_⟩
      refine all3 ?_ ?_ ?_
      · refine ⟨_, rfl, ?_⟩
        unfold avR
        go_simp
        go_wp2_with fail
        have bx := box_below W #[.int .i64 0, .int .i64 0, .int .i64 0, .int .i64 0] 44
        exact ⟨(F.on bx).1, W.heap.size, b10, b11, b12, (by unfold avR; go_simp), F.on bx, VBox.made W 0 0 0 0 44, E11.on bx, F.2.1.lt, G11, (Nat.ne_of_gt E11.lt)⟩
      · refine ⟨_, rfl, ?_⟩
        unfold avR
        go_simp
        go_wp2_with fail
        have bx := box_below W #[.int .i64 0, .int .i64 0, .int .i64 0, .int .i64 0] 44
        exact ⟨(F.on bx).1, b9, W.heap.size, b11, b12, (by unfold avR; go_simp), F.on bx, VBox.made W 0 0 0 0 44, E11.on bx, F.2.1.lt, G11, (Nat.ne_of_gt E11.lt)⟩
      · refine ⟨_, rfl, ?_⟩
        unfold avR
        go_simp
        go_wp2_with fail
        have bx := box_below W #[.int .i64 0, .int .i64 0, .int .i64 0, .int .i64 0] 44
        exact ⟨(F.on bx).1, b9, b10, b11, W.heap.size, (by unfold avR; go_simp), F.on bx, E11.on bx, VBox.made W 0 0 0 0 44, G11, F.2.1.lt, (Nat.ne_of_lt E11.lt)⟩
    | 51, _ =>
      intro a' W h
      obtain ⟨b9, b10, b11, b12, rfl, F, E12, G12⟩ := h
      refine ⟨fun h => absurd h (by decide), ?_⟩
      refine all3 ?_ ?_ ?_
      · refine ⟨_, rfl, ?_⟩
        unfold avR
        go_simp
        go_wp2_with fail
        have bx := box_below W #[.int .i64 0, .int .i64 0, .int .i64 0, .int .i64 0] 44
        exact ⟨(F.on bx).1, W.heap.size, b10, b11, b12, (by unfold avR; go_simp), F.on bx, VBox.made W 0 0 0 0 44, E12.on bx, F.2.1.lt, G12, (Nat.ne_of_gt E12.lt)⟩
      · refine ⟨_, rfl, ?_⟩
        unfold avR
        go_simp
        go_wp2_with fail
        have bx := box_below W #[.int .i64 0, .int .i64 0, .int .i64 0, .int .i64 0] 44
        exact ⟨(F.on bx).1, b9, W.heap.size, b11, b12, (by unfold avR; go_simp), F.on bx, VBox.made W 0 0 0 0 44, E12.on bx, F.2.1.lt, G12, (Nat.ne_of_gt E12.lt)⟩
      · refine ⟨_, rfl, ?_⟩
        unfold avR
        go_simp
        go_wp2_with fail
        have bx := box_below W #[.int .i64 0, .int .i64 0, .int .i64 0, .int .i64 0] 44
        exact ⟨(F.on bx).1, b9, b10, W.heap.size, b12, (by unfold avR; go_simp), F.on bx, VBox.made W 0 0 0 0 44, E12.on bx, F.2.1.lt, G12, (Nat.ne_of_gt E12.lt)⟩
    | 52, _ =>
      intro a' W h
      obtain ⟨b9, b10, b11, b12, rfl, F, E9, E10, G9, G10, N9_10⟩ := h
      refine ⟨fun h => absurd h (by decide), ?_⟩
      refine all3 ?_ ?_ ?_
      · refine ⟨_, rfl, ?_⟩
        unfold avR
        go_simp
        go_wp2_with (go_at_call 53; (refine (CG3.out _ ((HR.out.below F.2.2).more F.2.2.size)).mono ?_); rintro _ V ⟨rfl, B⟩)
        exact ⟨(F.on B).1, b9, b10, b11, b12, (by unfold avR; go_simp), F.on B, E9.on B, E10.on B, G9, G10, N9_10⟩
      · refine ⟨_, rfl, ?_⟩
        unfold avR
        go_simp
        go_wp2_with fail
        have bx := box_below W #[.int .i64 0, .int .i64 0, .int .i64 0, .int .i64 0] 44
        exact ⟨(F.on bx).1, b9, b10, W.heap.size, b12, (by unfold avR; go_simp), F.on bx, E9.on bx, E10.on bx, VBox.made W 0 0 0 0 44, G9, G10, F.2.1.lt, N9_10, (Nat.ne_of_lt E9.lt), (Nat.ne_of_lt E10.lt)⟩
      · refine ⟨_, rfl, ?_⟩
        unfold avR
        go_simp
        go_wp2_with fail
        have bx := box_below W #[.int .i64 0, .int .i64 0, .int .i64 0, .int .i64 0] 44
        exact ⟨(F.on bx).1, b9, b10, b11, W.heap.size, (by unfold avR; go_simp), F.on bx, E9.on bx, E10.on bx, VBox.made W 0 0 0 0 44, G9, G10, F.2.1.lt, N9_10, (Nat.ne_of_lt E9.lt), (Nat.ne_of_lt E10.lt)⟩
    | 53, _ =>
      intro a' W h
      obtain ⟨b9, b10, b11, b12, rfl, F, E9, E11, G9, G11, N9_11⟩ := h
      refine ⟨fun h => absurd h (by decide), ?_⟩
      refine all3 ?_ ?_ ?_
      · refine ⟨_, rfl, ?_⟩
        unfold avR
        go_simp
        go_wp2_with (go_at_call 53; (refine (CG3.out _ ((HR.out.below F.2.2).more F.2.2.size)).mono ?_); rintro _ V ⟨rfl, B⟩)
        exact ⟨(F.on B).1, b9, b10, b11, b12, (by unfold avR; go_simp), F.on B, E9.on B, E11.on B, G9, G11, N9_11⟩
      · refine ⟨_, rfl, ?_⟩
        unfold avR
        go_simp
        go_wp2_with fail
        have bx := box_below W #[.int .i64 0, .int .i64 0, .int .i64 0, .int .i64 0] 44
        exact ⟨(F.on bx).1, b9, W.heap.size, b11, b12, (by unfold avR; go_simp), F.on bx, E9.on bx, VBox.made W 0 0 0 0 44, E11.on bx, G9, F.2.1.lt, G11, (Nat.ne_of_lt E9.lt), N9_11, (Nat.ne_of_gt E11.lt)⟩
      · refine ⟨_, rfl, ?_⟩
        unfold avR
        go_simp
        go_wp2_with fail
        have bx := box_below W #[.int .i64 0, .int .i64 0, .int .i64 0, .int .i64 0] 44
        exact ⟨(F.on bx).1, b9, b10, b11, W.heap.size, (by unfold avR; go_simp), F.on bx, E9.on bx, E11.on bx, VBox.made W 0 0 0 0 44, G9, G11, F.2.1.lt, N9_11, (Nat.ne_of_lt E9.lt), (Nat.ne_of_lt E11.lt)⟩
    | 54, _ =>
      intro a' W h
      obtain ⟨b9, b10, b11, b12, rfl, F, E9, E12, G9, G12, N9_12⟩ := h
      refine ⟨fun h => absurd h (by decide), ?_⟩
      refine all3 ?_ ?_ ?_
      · refine ⟨_, rfl, ?_⟩
        unfold avR
        go_simp
        go_wp2_with (go_at_call 53; (refine (CG3.out _ ((HR.out.below F.2.2).more F.2.2.size)).mono ?_); rintro _ V ⟨rfl, B⟩)
        exact ⟨(F.on B).1, b9, b10, b11, b12, (by unfold avR; go_simp), F.on B, E9.on B, E12.on B, G9, G12, N9_12⟩
      · refine ⟨_, rfl, ?_⟩
        unfold avR
        go_simp
        go_wp2_with fail
        have bx := box_below W #[.int .i64 0, .int .i64 0, .int .i64 0, .int .i64 0] 44
        exact ⟨(F.on bx).1, b9, W.heap.size, b11, b12, (by unfold avR; go_simp), F.on bx, E9.on bx, VBox.made W 0 0 0 0 44, E12.on bx, G9, F.2.1.lt, G12, (Nat.ne_of_lt E9.lt), N9_12, (Nat.ne_of_gt E12.lt)⟩
      · refine ⟨_, rfl, ?_⟩
        unfold avR
        go_simp
        go_wp2_with fail
        have bx := box_below W #[.int .i64 0, .int .i64 0, .int .i64 0, .int .i64 0] 44
        exact ⟨(F.on bx).1, b9, b10, W.heap.size, b12, (by unfold avR; go_simp), F.on bx, E9.on bx, VBox.made W 0 0 0 0 44, E12.on bx, G9, F.2.1.lt, G12, (Nat.ne_of_lt E9.lt), N9_12, (Nat.ne_of_gt E12.lt)⟩
    | 55, _ =>
      intro a' W h
      obtain ⟨b9, b10, b11, b12, rfl, F, E10, E11, G10, G11, N10_11⟩ := h
      refine ⟨fun h => absurd h (by decide), ?_⟩
      refine all3 ?_ ?_ ?_
      · refine ⟨_, rfl, ?_⟩
        unfold avR
        go_simp
        go_wp2_with (go_at_call 53; (refine (CG3.out _ ((HR.out.below F.2.2).more F.2.2.size)).mono ?_); rintro _ V ⟨rfl, B⟩)
        exact ⟨(F.on B).1, b9, b10, b11, b12, (by unfold avR; go_simp), F.on B, E10.on B, E11.on B, G10, G11, N10_11⟩
      · refine ⟨_, rfl, ?_⟩
        unfold avR
        go_simp
        go_wp2_with fail
        have bx := box_below W #[.int .i64 0, .int .i64 0, .int .i64 0, .int .i64 0] 44
        exact ⟨(F.on bx).1, W.heap.size, b10, b11, b12, (by unfold avR; go_simp), F.on bx, VBox.made W 0 0 0 0 44, E10.on bx, E11.on bx, F.2.1.lt, G10, G11, (Nat.ne_of_gt E10.lt), (Nat.ne_of_gt E11.lt), N10_11⟩
      · refine ⟨_, rfl, ?_⟩
        unfold avR
        go_simp
        go_wp2_with fail
        have bx := box_below W #[.int .i64 0, .int .i64 0, .int .i64 0, .int .i64 0] 44
        exact ⟨(F.on bx).1, b9, b10, b11, W.heap.size, (by unfold avR; go_simp), F.on bx, E10.on bx, E11.on bx, VBox.made W 0 0 0 0 44, G10, G11, F.2.1.lt, N10_11, (Nat.ne_of_lt E10.lt), (Nat.ne_of_lt E11.lt)⟩
    | 56, _ =>
      intro a' W h
      obtain ⟨b9, b10, b11, b12, rfl, F, E10, E12, G10, G12, N10_12⟩ := h
      refine ⟨fun h => absurd h (by decide), ?_⟩
      refine all3 ?_ ?_ ?_
      · refine ⟨_, rfl, ?_⟩
        unfold avR
        go_simp
        go_wp2_with (go_at_call 53; (refine (CG3.out _ ((HR.out.below F.2.2).more F.2.2.size)).mono ?_); rintro _ V ⟨rfl, B⟩)
        exact ⟨(F.on B).1, b9, b10, b11, b12, (by unfold avR; go_simp), F.on B, E10.on B, E12.on B, G10, G12, N10_12⟩
      · refine ⟨_, rfl, ?_⟩
        unfold avR
        go_simp
        go_wp2_with fail
        have bx := box_below W #[.int .i64 0, .int .i64 0, .int .i64 0, .int .i64 0] 44
        exact ⟨(F.on bx).1, W.heap.size, b10, b11, b12, (by unfold avR; go_simp), F.on bx, VBox.made W 0 0 0 0 44, E10.on bx, E12.on bx, F.2.1.lt, G10, G12, (Nat.ne_of_gt E10.lt), (Nat.ne_of_gt E12.lt), N10_12⟩
      · refine ⟨_, rfl, ?_⟩
        unfold avR
        go_simp
        go_wp2_with fail
        have bx := box_below W #[.int .i64 0, .int .i64 0, .int .i64 0, .int .i64 0] 44
        exact ⟨(F.on bx).1, b9, b10, W.heap.size, b12, (by unfold avR; go_simp), F.on bx, E10.on bx, VBox.made W 0 0 0 0 44, E12.on bx, G10, F.2.1.lt, G12, (Nat.ne_of_lt E10.lt), N10_12, (Nat.ne_of_gt E12.lt)⟩
    | 57, _ =>
      intro a' W h
      obtain ⟨b9, b10, b11, b12, rfl, F, E11, E12, G11, G12, N11_12⟩ := h
      refine ⟨fun h => absurd h (by decide), ?_⟩
      refine all3 ?_ ?_ ?_
      · refine ⟨_, rfl, ?_⟩
        unfold avR
        go_simp
        go_wp2_with (go_at_call 53; (refine (CG3.out _ ((HR.out.below F.2.2).more F.2.2.size)).mono ?_); rintro _ V ⟨rfl, B⟩)
        exact ⟨(F.on B).1, b9, b10, b11, b12, (by unfold avR; go_simp), F.on B, E11.on B, E12.on B, G11, G12, N11_12⟩
      · refine ⟨_, rfl, ?_⟩
        unfold avR
        go_simp
        go_wp2_with fail
        have bx := box_below W #[.int .i64 0, .int .i64 0, .int .i64 0, .int .i64 0] 44
        exact ⟨(F.on bx).1, W.heap.size, b10, b11, b12, (by unfold avR; go_simp), F.on bx, VBox.made W 0 0 0 0 44, E11.on bx, E12.on bx, F.2.1.lt, G11, G12, (Nat.ne_of_gt E11.lt), (Nat.ne_of_gt E12.lt), N11_12⟩
      · refine ⟨_, rfl, ?_⟩
        unfold avR
        go_simp
        go_wp2_with fail
        have bx := box_below W #[.int .i64 0, .int .i64 0, .int .i64 0, .int .i64 0] 44
        exact ⟨(F.on bx).1, b9, W.heap.size, b11, b12, (by unfold avR; go_simp), F.on bx, VBox.made W 0 0 0 0 44, E11.on bx, E12.on bx, F.2.1.lt, G11, G12, (Nat.ne_of_gt E11.lt), (Nat.ne_of_gt E12.lt), N11_12⟩
    | 58, _ =>
      intro a' W h
      obtain ⟨b9, b10, b11, b12, rfl, F, E9, E10, E11, G9, G10, G11, N9_10, N9_11, N10_11⟩ := h
      refine ⟨fun h => absurd h (by decide), ?_⟩
      refine all2 ?_ ?_
      · refine ⟨_, rfl, ?_⟩
        unfold avR
        go_simp
        go_wp2_with (go_at_call 53; (refine (CG2.out _ ((HR.out.below F.2.2).more F.2.2.size)).mono ?_); rintro _ V ⟨rfl, B⟩)
        exact ⟨(F.on B).1, b9, b10, b11, b12, (by unfold avR; go_simp), F.on B, E9.on B, E10.on B, E11.on B, G9, G10, G11, N9_10, N9_11, N10_11⟩
      · refine ⟨_, rfl, ?_⟩
        unfold avR
        go_simp
        go_wp2_with fail
        have bx := box_below W #[.int .i64 0, .int .i64 0, .int .i64 0, .int .i64 0] 44
        exact ⟨(F.on bx).1, b9, b10, b11, W.heap.size, (by unfold avR; go_simp), F.on bx, E9.on bx, E10.on bx, E11.on bx, VBox.made W 0 0 0 0 44, G9, G10, G11, F.2.1.lt, N9_10, N9_11, (Nat.ne_of_lt E9.lt), N10_11, (Nat.ne_of_lt E10.lt), (Nat.ne_of_lt E11.lt)⟩
    | 59, _ =>
      intro a' W h
      obtain ⟨b9, b10, b11, b12, rfl, F, E9, E10, E12, G9, G10, G12, N9_10, N9_12, N10_12⟩ := h
      refine ⟨fun h => absurd h (by decide), ?_⟩
      refine all2 ?_ ?_
      · refine ⟨_, rfl, ?_⟩
        unfold avR
        go_simp
        go_wp2_with (go_at_call 53; (refine (CG2.out _ ((HR.out.below F.2.2).more F.2.2.size)).mono ?_); rintro _ V ⟨rfl, B⟩)
        exact ⟨(F.on B).1, b9, b10, b11, b12, (by unfold avR; go_simp), F.on B, E9.on B, E10.on B, E12.on B, G9, G10, G12, N9_10, N9_12, N10_12⟩
      · refine ⟨_, rfl, ?_⟩
        unfold avR
        go_simp
        go_wp2_with fail
        have bx := box_below W #[.int .i64 0, .int .i64 0, .int .i64 0, .int .i64 0] 44
        exact ⟨(F.on bx).1, b9, b10, W.heap.size, b12, (by unfold avR; go_simp), F.on bx, E9.on bx, E10.on bx, VBox.made W 0 0 0 0 44, E12.on bx, G9, G10, F.2.1.lt, G12, N9_10, (Nat.ne_of_lt E9.lt), N9_12, (Nat.ne_of_lt E10.lt), N10_12, (Nat.ne_of_gt E12.lt)⟩
    | 60, _ =>
      intro a' W h
      obtain ⟨b9, b10, b11, b12, rfl, F, E9, E11, E12, G9, G11, G12, N9_11, N9_12, N11_12⟩ := h
      refine ⟨fun h => absurd h (by decide), ?_⟩
      refine all2 ?_ ?_
      · refine ⟨_, rfl, ?_⟩
        unfold avR
        go_simp
        go_wp2_with (go_at_call 53; (refine (CG2.out _ ((HR.out.below F.2.2).more F.2.2.size)).mono ?_); rintro _ V ⟨rfl, B⟩)
        exact ⟨(F.on B).1, b9, b10, b11, b12, (by unfold avR; go_simp), F.on B, E9.on B, E11.on B, E12.on B, G9, G11, G12, N9_11, N9_12, N11_12⟩
      · refine ⟨_, rfl, ?_⟩
        unfold avR
        go_simp
        go_wp2_with fail
        have bx := box_below W #[.int .i64 0, .int .i64 0, .int .i64 0, .int .i64 0] 44
        exact ⟨(F.on bx).1, b9, W.heap.size, b11, b12, (by unfold avR; go_simp), F.on bx, E9.on bx, VBox.made W 0 0 0 0 44, E11.on bx, E12.on bx, G9, F.2.1.lt, G11, G12, (Nat.ne_of_lt E9.lt), N9_11, N9_12, (Nat.ne_of_gt E11.lt), (Nat.ne_of_gt E12.lt), N11_12⟩
    | 61, _ =>
      intro a' W h
      obtain ⟨b9, b10, b11, b12, rfl, F, E10, E11, E12, G10, G11, G12, N10_11, N10_12, N11_12⟩ := h
      refine ⟨fun h => absurd h (by decide), ?_⟩
      refine all2 ?_ ?_
      · refine ⟨_, rfl, ?_⟩
        unfold avR
        go_simp
        go_wp2_with (go_at_call 53; (refine (CG2.out _ ((HR.out.below F.2.2).more F.2.2.size)).mono ?_); rintro _ V ⟨rfl, B⟩)
        exact ⟨(F.on B).1, b9, b10, b11, b12, (by unfold avR; go_simp), F.on B, E10.on B, E11.on B, E12.on B, G10, G11, G12, N10_11, N10_12, N11_12⟩
      · refine ⟨_, rfl, ?_⟩
        unfold avR
        go_simp
        go_wp2_with fail
        have bx := box_below W #[.int .i64 0, .int .i64 0, .int .i64 0, .int .i64 0] 44
        exact ⟨(F.on bx).1, W.heap.size, b10, b11, b12, (by unfold avR; go_simp), F.on bx, VBox.made W 0 0 0 0 44, E10.on bx, E11.on bx, E12.on bx, F.2.1.lt, G10, G11, G12, (Nat.ne_of_gt E10.lt), (Nat.ne_of_gt E11.lt), (Nat.ne_of_gt E12.lt), N10_11, N10_12, N11_12⟩
    | 62, _ =>
      intro a' W h
      obtain ⟨b9, b10, b11, b12, rfl, F, E9, E10, E11, E12, G9, G10, G11, G12, N9_10, N9_11, N9_12, N10_11, N10_12, N11_12⟩ := h
      refine ⟨fun h => absurd h (by decide), ?_⟩
      refine all1 ?_
      · refine ⟨_, rfl, ?_⟩
        unfold avR
        go_simp
        go_wp2_with (go_at_call 53; (refine (CG1.out _ ((HR.out.below F.2.2).more F.2.2.size)).mono ?_); rintro _ V ⟨rfl, B⟩)
        exact ⟨(F.on B).1, b9, b10, b11, b12, (by unfold avR; go_simp), F.on B, E9.on B, E10.on B, E11.on B, E12.on B, G9, G10, G11, G12, N9_10, N9_11, N9_12, N10_11, N10_12, N11_12⟩
    | 63, _ =>
      intro a' W h
      obtain ⟨b9, b10, b11, b12, rfl, F, E9, E10, G9, G10, N9_10⟩ := h
      refine ⟨fun h => absurd h (by decide), ?_⟩
      refine all2 ?_ ?_
      · refine ⟨_, rfl, ?_⟩
        unfold avR
        go_simp
        go_wp2_with fail
        have bx := box_below W #[.int .i64 0, .int .i64 0, .int .i64 0, .int .i64 0] 44
        exact ⟨(F.on bx).1, b9, b10, W.heap.size, b12, (by unfold avR; go_simp), F.on bx, E9.on bx, E10.on bx, VBox.made W 0 0 0 0 44, G9, G10, F.2.1.lt, N9_10, (Nat.ne_of_lt E9.lt), (Nat.ne_of_lt E10.lt)⟩
      · refine ⟨_, rfl, ?_⟩
        unfold avR
        go_simp
        go_wp2_with fail
        have bx := box_below W #[.int .i64 0, .int .i64 0, .int .i64 0, .int .i64 0] 44
        exact ⟨(F.on bx).1, b9, b10, b11, W.heap.size, (by unfold avR; go_simp), F.on bx, E9.on bx, E10.on bx, VBox.made W 0 0 0 0 44, G9, G10, F.2.1.lt, N9_10, (Nat.ne_of_lt E9.lt), (Nat.ne_of_lt E10.lt)⟩
    | 64, _ =>
      intro a' W h
      obtain ⟨b9, b10, b11, b12, rfl, F, E9, E11, G9, G11, N9_11⟩ := h
      refine ⟨fun h => absurd h (by decide), ?_⟩
      refine all2 ?_ ?_
      · refine ⟨_, rfl, ?_⟩
        unfold avR
        go_simp
        go_wp2_with fail
        have bx := box_below W #[.int .i64 0, .int .i64 0, .int .i64 0, .int .i64 0] 44
        exact ⟨(F.on bx).1, b9, W.heap.size, b11, b12, (by unfold avR; go_simp), F.on bx, E9.on bx, VBox.made W 0 0 0 0 44, E11.on bx, G9, F.2.1.lt, G11, (Nat.ne_of_lt E9.lt), N9_11, (Nat.ne_of_gt E11.lt)⟩
      · refine ⟨_, rfl, ?_⟩
        unfold avR
        go_simp
        go_wp2_with fail
        have bx := box_below W #[.int .i64 0, .int .i64 0, .int .i64 0, .int .i64 0] 44
        exact ⟨(F.on bx).1, b9, b10, b11, W.heap.size, (by unfold avR; go_simp), F.on bx, E9.on bx, E11.on bx, VBox.made W 0 0 0 0 44, G9, G11, F.2.1.lt, N9_11, (Nat.ne_of_lt E9.lt), (Nat.ne_of_lt E11.lt)⟩
    | 65, _ =>
      intro a' W h
      obtain ⟨b9, b10, b11, b12, rfl, F, E9, E12, G9, G12, N9_12⟩ := h
      refine ⟨fun h => absurd h (by decide), ?_⟩
      refine all2 ?_ ?_
      · refine ⟨_, rfl, ?_⟩
        unfold avR
        go_simp
        go_wp2_with fail
        have bx := box_below W #[.int .i64 0, .int .i64 0, .int .i64 0, .int .i64 0] 44
        exact ⟨(F.on bx).1, b9, W.heap.size, b11, b12, (by unfold avR; go_simp), F.on bx, E9.on bx, VBox.made W 0 0 0 0 44, E12.on bx, G9, F.2.1.lt, G12, (Nat.ne_of_lt E9.lt), N9_12, (Nat.ne_of_gt E12.lt)⟩
      · refine ⟨_, rfl, ?_⟩
        unfold avR
        go_simp
        go_wp2_with fail
        have bx := box_below W #[.int .i64 0, .int .i64 0, .int .i64 0, .int .i64 0] 44
        exact ⟨(F.on bx).1, b9, b10, W.heap.size, b12, (by unfold avR; go_simp), F.on bx, E9.on bx, VBox.made W 0 0 0 0 44, E12.on bx, G9, F.2.1.lt, G12, (Nat.ne_of_lt E9.lt), N9_12, (Nat.ne_of_gt E12.lt)⟩
    | 66, _ =>
      intro a' W h
      obtain ⟨b9, b10, b11, b12, rfl, F, E10, E11, G10, G11, N10_11⟩ := h
      refine ⟨fun h => absurd h (by decide), ?_⟩
      refine all2 ?_ ?_
      · refine ⟨_, rfl, ?_⟩
        unfold avR
        go_simp
        go_wp2_with fail
        have bx := box_below W #[.int .i64 0, .int .i64 0, .int .i64 0, .int .i64 0] 44
        exact ⟨(F.on bx).1, W.heap.size, b10, b11, b12, (by unfold avR; go_simp), F.on bx, VBox.made W 0 0 0 0 44, E10.on bx, E11.on bx, F.2.1.lt, G10, G11, (Nat.ne_of_gt E10.lt), (Nat.ne_of_gt E11.lt), N10_11⟩
      · refine ⟨_, rfl, ?_⟩
        unfold avR
        go_simp
        go_wp2_with fail
        have bx := box_below W #[.int .i64 0, .int .i64 0, .int .i64 0, .int .i64 0] 44
        exact ⟨(F.on bx).1, b9, b10, b11, W.heap.size, (by unfold avR; go_simp), F.on bx, E10.on bx, E11.on bx, VBox.made W 0 0 0 0 44, G10, G11, F.2.1.lt, N10_11, (Nat.ne_of_lt E10.lt), (Nat.ne_of_lt E11.lt)⟩
    | 67, _ =>
      intro a' W h
      obtain ⟨b9, b10, b11, b12, rfl, F, E10, E12, G10, G12, N10_12⟩ := h
      refine ⟨fun h => absurd h (by decide), ?_⟩
      refine all2 ?_ ?_
      · refine ⟨_, rfl, ?_⟩
        unfold avR
        go_simp
        go_wp2_with fail
        have bx := box_below W #[.int .i64 0, .int .i64 0, .int .i64 0, .int .i64 0] 44
        exact ⟨(F.on bx).1, W.heap.size, b10, b11, b12, (by unfold avR; go_simp), F.on bx, VBox.made W 0 0 0 0 44, E10.on bx, E12.on bx, F.2.1.lt, G10, G12, (Nat.ne_of_gt E10.lt), (Nat.ne_of_gt E12.lt), N10_12⟩
      · refine ⟨_, rfl, ?_⟩
        unfold avR
        go_simp
        go_wp2_with fail
        have bx := box_below W #[.int .i64 0, .int .i64 0, .int .i64 0, .int .i64 0] 44
        exact ⟨(F.on bx).1, b9, b10, W.heap.size, b12, (by unfold avR; go_simp), F.on bx, E10.on bx, VBox.made W 0 0 0 0 44, E12.on bx, G10, F.2.1.lt, G12, (Nat.ne_of_lt E10.lt), N10_12, (Nat.ne_of_gt E12.lt)⟩
    | 68, _ =>
      intro a' W h
      obtain ⟨b9, b10, b11, b12, rfl, F, E11, E12, G11, G12, N11_12⟩ := h
      refine ⟨fun h => absurd h (by decide), ?_⟩
      refine all2 ?_ ?_
      · refine ⟨_, rfl, ?_⟩
        unfold avR
        go_simp
        go_wp2_with fail
        have bx := box_below W #[.int .i64 0, .int .i64 0, .int .i64 0, .int .i64 0] 44
        exact ⟨(F.on bx).1, W.heap.size, b10, b11, b12, (by unfold avR; go_simp), F.on bx, VBox.made W 0 0 0 0 44, E11.on bx, E12.on bx, F.2.1.lt, G11, G12, (Nat.ne_of_gt E11.lt), (Nat.ne_of_gt E12.lt), N11_12⟩
      · refine ⟨_, rfl, ?_⟩
        unfold avR
        go_simp
        go_wp2_with fail
        have bx := box_below W #[.int .i64 0, .int .i64 0, .int .i64 0, .int .i64 0] 44
        exact ⟨(F.on bx).1, b9, W.heap.size, b11, b12, (by unfold avR; go_simp), F.on bx, VBox.made W 0 0 0 0 44, E11.on bx, E12.on bx, F.2.1.lt, G11, G12, (Nat.ne_of_gt E11.lt), (Nat.ne_of_gt E12.lt), N11_12⟩
    | 69, _ =>
      intro a' W h
      obtain ⟨b9, b10, b11, b12, rfl, F, E9, E10, E11, G9, G10, G11, N9_10, N9_11, N10_11⟩ := h
      refine ⟨fun h => absurd h (by decide), ?_⟩
      refine all2 ?_ ?_
      · refine ⟨_, rfl, ?_⟩
        unfold avR
        go_simp
        go_wp2_with (go_at_call 53; (refine (CG3.out _ ((HR.out.below F.2.2).more F.2.2.size)).mono ?_); rintro _ V ⟨rfl, B⟩)
        exact ⟨(F.on B).1, b9, b10, b11, b12, (by unfold avR; go_simp), F.on B, E9.on B, E10.on B, E11.on B, G9, G10, G11, N9_10, N9_11, N10_11⟩
      · refine ⟨_, rfl, ?_⟩
        unfold avR
        go_simp
        go_wp2_with fail
        have bx := box_below W #[.int .i64 0, .int .i64 0, .int .i64 0, .int .i64 0] 44
        exact ⟨(F.on bx).1, b9, b10, b11, W.heap.size, (by unfold avR; go_simp), F.on bx, E9.on bx, E10.on bx, E11.on bx, VBox.made W 0 0 0 0 44, G9, G10, G11, F.2.1.lt, N9_10, N9_11, (Nat.ne_of_lt E9.lt), N10_11, (Nat.ne_of_lt E10.lt), (Nat.ne_of_lt E11.lt)⟩
    | 70, _ =>
      intro a' W h
      obtain ⟨b9, b10, b11, b12, rfl, F, E9, E10, E12, G9, G10, G12, N9_10, N9_12, N10_12⟩ := h
      refine ⟨fun h => absurd h (by decide), ?_⟩
      refine all2 ?_ ?_
      · refine ⟨_, rfl, ?_⟩
        unfold avR
        go_simp
        go_wp2_with (go_at_call 53; (refine (CG3.out _ ((HR.out.below F.2.2).more F.2.2.size)).mono ?_); rintro _ V ⟨rfl, B⟩)
        exact ⟨(F.on B).1, b9, b10, b11, b12, (by unfold avR; go_simp), F.on B, E9.on B, E10.on B, E12.on B, G9, G10, G12, N9_10, N9_12, N10_12⟩
      · refine ⟨_, rfl, ?_⟩
        unfold avR
        go_simp
        go_wp2_with fail
        have bx := box_below W #[.int .i64 0, .int .i64 0, .int .i64 0, .int .i64 0] 44
        exact ⟨(F.on bx).1, b9, b10, W.heap.size, b12, (by unfold avR; go_simp), F.on bx, E9.on bx, E10.on bx, VBox.made W 0 0 0 0 44, E12.on bx, G9, G10, F.2.1.lt, G12, N9_10, (Nat.ne_of_lt E9.lt), N9_12, (Nat.ne_of_lt E10.lt), N10_12, (Nat.ne_of_gt E12.lt)⟩
    | 71, _ =>
      intro a' W h
      obtain ⟨b9, b10, b11, b12, rfl, F, E9, E11, E12, G9, G11, G12, N9_11, N9_12, N11_12⟩ := h
      refine ⟨fun h => absurd h (by decide), ?_⟩
      refine all2 ?_ ?_
      · refine ⟨_, rfl, ?_⟩
        unfold avR
        go_simp
        go_wp2_with (go_at_call 53; (refine (CG3.out _ ((HR.out.below F.2.2).more F.2.2.size)).mono ?_); rintro _ V ⟨rfl, B⟩)
        exact ⟨(F.on B).1, b9, b10, b11, b12, (by unfold avR; go_simp), F.on B, E9.on B, E11.on B, E12.on B, G9, G11, G12, N9_11, N9_12, N11_12⟩
      · refine ⟨_, rfl, ?_⟩
        unfold avR
        go_simp
        go_wp2_with fail
        have bx := box_below W #[.int .i64 0, .int .i64 0, .int .i64 0, .int .i64 0] 44
        exact ⟨(F.on bx).1, b9, W.heap.size, b11, b12, (by unfold avR; go_simp), F.on bx, E9.on bx, VBox.made W 0 0 0 0 44, E11.on bx, E12.on bx, G9, F.2.1.lt, G11, G12, (Nat.ne_of_lt E9.lt), N9_11, N9_12, (Nat.ne_of_gt E11.lt), (Nat.ne_of_gt E12.lt), N11_12⟩
    | 72, _ =>
      intro a' W h
      obtain ⟨b9, b10, b11, b12, rfl, F, E10, E11, E12, G10, G11, G12, N10_11, N10_12, N11_12⟩ := h
      refine ⟨fun h => absurd h (by decide), ?_⟩
      refine all2 ?_ ?_
      · refine ⟨_, rfl, ?_⟩
        unfold avR
        go_simp
        go_wp2_with (go_at_call 53; (refine (CG3.out _ ((HR.out.below F.2.2).more F.2.2.size)).mono ?_); rintro _ V ⟨rfl, B⟩)
        exact ⟨(F.on B).1, b9, b10, b11, b12, (by unfold avR; go_simp), F.on B, E10.on B, E11.on B, E12.on B, G10, G11, G12, N10_11, N10_12, N11_12⟩
      · refine ⟨_, rfl, ?_⟩
        unfold avR
        go_simp
        go_wp2_with fail
        have bx := box_below W #[.int .i64 0, .int .i64 0, .int .i64 0, .int .i64 0] 44
        exact ⟨(F.on bx).1, W.heap.size, b10, b11, b12, (by unfold avR; go_simp), F.on bx, VBox.made W 0 0 0 0 44, E10.on bx, E11.on bx, E12.on bx, F.2.1.lt, G10, G11, G12, (Nat.ne_of_gt E10.lt), (Nat.ne_of_gt E11.lt), (Nat.ne_of_gt E12.lt), N10_11, N10_12, N11_12⟩
    | 73, _ =>
      intro a' W h
      obtain ⟨b9, b10, b11, b12, rfl, F, E9, E10, E11, E12, G9, G10, G11, G12, N9_10, N9_11, N9_12, N10_11, N10_12, N11_12⟩ := h
      refine ⟨fun h => absurd h (by decide), ?_⟩
      refine all1 ?_
      · refine ⟨_, rfl, ?_⟩
        unfold avR
        go_simp
        go_wp2_with (go_at_call 53; (refine (CG2.out _ ((HR.out.below F.2.2).more F.2.2.size)).mono ?_); rintro _ V ⟨rfl, B⟩)
        exact ⟨(F.on B).1, b9, b10, b11, b12, (by unfold avR; go_simp), F.on B, E9.on B, E10.on B, E11.on B, E12.on B, G9, G10, G11, G12, N9_10, N9_11, N9_12, N10_11, N10_12, N11_12⟩
    | 74, _ =>
      intro a' W h
      obtain ⟨b9, b10, b11, b12, rfl, F, E9, E10, E11, G9, G10, G11, N9_10, N9_11, N10_11⟩ := h
      refine ⟨fun h => absurd h (by decide), ?_⟩
      refine all1 ?_
      · refine ⟨_, rfl, ?_⟩
        unfold avR
        go_simp
        go_wp2_with fail
        have bx := box_below W #[.int .i64 0, .int .i64 0, .int .i64 0, .int .i64 0] 44
        exact ⟨(F.on bx).1, b9, b10, b11, W.heap.size, (by unfold avR; go_simp), F.on bx, E9.on bx, E10.on bx, E11.on bx, VBox.made W 0 0 0 0 44, G9, G10, G11, F.2.1.lt, N9_10, N9_11, (Nat.ne_of_lt E9.lt), N10_11, (Nat.ne_of_lt E10.lt), (Nat.ne_of_lt E11.lt)⟩
    | 75, _ =>
      intro a' W h
      obtain ⟨b9, b10, b11, b12, rfl, F, E9, E10, E12, G9, G10, G12, N9_10, N9_12, N10_12⟩ := h
      refine ⟨fun h => absurd h (by decide), ?_⟩
      refine all1 ?_
      · refine ⟨_, rfl, ?_⟩
        unfold avR
        go_simp
        go_wp2_with fail
        have bx := box_below W #[.int .i64 0, .int .i64 0, .int .i64 0, .int .i64 0] 44
        exact ⟨(F.on bx).1, b9, b10, W.heap.size, b12, (by unfold avR; go_simp), F.on bx, E9.on bx, E10.on bx, VBox.made W 0 0 0 0 44, E12.on bx, G9, G10, F.2.1.lt, G12, N9_10, (Nat.ne_of_lt E9.lt), N9_12, (Nat.ne_of_lt E10.lt), N10_12, (Nat.ne_of_gt E12.lt)⟩
    | 76, _ =>
      intro a' W h
      obtain ⟨b9, b10, b11, b12, rfl, F, E9, E11, E12, G9, G11, G12, N9_11, N9_12, N11_12⟩ := h
      refine ⟨fun h => absurd h (by decide), ?_⟩
      refine all1 ?_
      · refine ⟨_, rfl, ?_⟩
        unfold avR
        go_simp
        go_wp2_with fail
        have bx := box_below W #[.int .i64 0, .int .i64 0, .int .i64 0, .int .i64 0] 44
        exact ⟨(F.on bx).1, b9, W.heap.size, b11, b12, (by unfold avR; go_simp), F.on bx, E9.on bx, VBox.made W 0 0 0 0 44, E11.on bx, E12.on bx, G9, F.2.1.lt, G11, G12, (Nat.ne_of_lt E9.lt), N9_11, N9_12, (Nat.ne_of_gt E11.lt), (Nat.ne_of_gt E12.lt), N11_12⟩
    | 77, _ =>
      intro a' W h
      obtain ⟨b9, b10, b11, b12, rfl, F, E10, E11, E12, G10, G11, G12, N10_11, N10_12, N11_12⟩ := h
      refine ⟨fun h => absurd h (by decide), ?_⟩
      refine all1 ?_
      · refine ⟨_, rfl, ?_⟩
        unfold avR
        go_simp
        go_wp2_with fail
        have bx := box_below W #[.int .i64 0, .int .i64 0, .int .i64 0, .int .i64 0] 44
        exact ⟨(F.on bx).1, W.heap.size, b10, b11, b12, (by unfold avR; go_simp), F.on bx, VBox.made W 0 0 0 0 44, E10.on bx, E11.on bx, E12.on bx, F.2.1.lt, G10, G11, G12, (Nat.ne_of_gt E10.lt), (Nat.ne_of_gt E11.lt), (Nat.ne_of_gt E12.lt), N10_11, N10_12, N11_12⟩
    | 78, _ =>
      intro a' W h
      obtain ⟨b9, b10, b11, b12, rfl, F, E9, E10, E11, E12, G9, G10, G11, G12, N9_10, N9_11, N9_12, N10_11, N10_12, N11_12⟩ := h
      refine ⟨fun h => absurd h (by decide), ?_⟩
      refine all1 ?_
      · refine ⟨_, rfl, ?_⟩
        unfold avR
        go_simp
        go_wp2_with (go_at_call 53; (refine (CG3.out _ ((HR.out.below F.2.2).more F.2.2.size)).mono ?_); rintro _ V ⟨rfl, B⟩)
        exact ⟨(F.on B).1, b9, b10, b11, b12, (by unfold avR; go_simp), F.on B, E9.on B, E10.on B, E11.on B, E12.on B, G9, G10, G11, G12, N9_10, N9_11, N9_12, N10_11, N10_12, N11_12⟩
    | 79, _ =>
      intro a' W h
      obtain ⟨b9, b10, b11, b12, rfl, F, E9, E10, E11, E12, G9, G10, G11, G12, N9_10, N9_11, N9_12, N10_11, N10_12, N11_12⟩ := h
      refine ⟨fun h => absurd h (by decide), ?_⟩
      refine all1 ?_
      · refine ⟨_, rfl, ?_⟩
        unfold avR
        go_simp
        go_wp2_with (refine wpList_vset rfl _ _ _ rfl _ _ _ _ rfl rfl E9 (by kernel_rfl) ?_; intro V B E9' hv _)
        exact ⟨(F.set G9 B).1, b9, b10, b11, b12, (by unfold avR; go_simp), F.set G9 B, E9', hv b10 _ _ _ _ (Ne.symm N9_10) E10, hv b11 _ _ _ _ (Ne.symm N9_11) E11, hv b12 _ _ _ _ (Ne.symm N9_12) E12, G9, G10, G11, G12, N9_10, N9_11, N9_12, N10_11, N10_12, N11_12⟩
    | 80, _ =>
      intro a' W h
      obtain ⟨b9, b10, b11, b12, rfl, F, E9, E10, E11, E12, G9, G10, G11, G12, N9_10, N9_11, N9_12, N10_11, N10_12, N11_12⟩ := h
      refine ⟨fun h => absurd h (by decide), ?_⟩
      refine all1 ?_
      · refine ⟨_, rfl, ?_⟩
        unfold avR
        go_simp
        go_wp2_with (refine wpList_vset rfl _ _ _ rfl _ _ _ _ rfl rfl E10 (by kernel_rfl) ?_; intro V B E10' hv _)
        exact ⟨(F.set G10 B).1, b9, b10, b11, b12, (by unfold avR; go_simp), F.set G10 B, hv b9 _ _ _ _ N9_10 E9, E10', hv b11 _ _ _ _ (Ne.symm N10_11) E11, hv b12 _ _ _ _ (Ne.symm N10_12) E12, G9, G10, G11, G12, N9_10, N9_11, N9_12, N10_11, N10_12, N11_12⟩
    | 81, _ =>
      intro a' W h
      obtain ⟨b9, b10, b11, b12, rfl, F, E9, E10, E11, E12, G9, G10, G11, G12, N9_10, N9_11, N9_12, N10_11, N10_12, N11_12⟩ := h
      refine ⟨fun h => absurd h (by decide), ?_⟩
      refine all1 ?_
      · refine ⟨_, rfl, ?_⟩
        unfold avR
        go_simp
        go_wp2_with (refine wpList_vset rfl _ _ _ rfl _ _ _ _ rfl rfl E11 (by kernel_rfl) ?_; intro V B E11' hv _)
        exact ⟨(F.set G11 B).1, b9, b10, b11, b12, (by unfold avR; go_simp), F.set G11 B, hv b9 _ _ _ _ N9_11 E9, hv b10 _ _ _ _ N10_11 E10, E11', hv b12 _ _ _ _ (Ne.symm N11_12) E12, G9, G10, G11, G12, N9_10, N9_11, N9_12, N10_11, N10_12, N11_12⟩
    | 82, _ =>
      intro a' W h
      obtain ⟨b9, b10, b11, b12, rfl, F, E9, E10, E11, E12, G9, G10, G11, G12, N9_10, N9_11, N9_12, N10_11, N10_12, N11_12⟩ := h
      refine ⟨fun h => absurd h (by decide), ?_⟩
      refine all1 ?_
      · refine ⟨_, rfl, ?_⟩
        unfold avR
        go_simp
        go_wp2_with (refine wpList_vset rfl _ _ _ rfl _ _ _ _ rfl rfl E12 (by kernel_rfl) ?_; intro V B E12' hv _)
        exact ⟨(F.set G12 B).1, b9, b10, b11, b12, (by unfold avR; go_simp), F.set G12 B, hv b9 _ _ _ _ N9_12 E9, hv b10 _ _ _ _ N10_12 E10, hv b11 _ _ _ _ N11_12 E11, E12', G9, G10, G11, G12, N9_10, N9_11, N9_12, N10_11, N10_12, N11_12⟩
    | 83, _ =>
      intro a' W h
      obtain ⟨b9, b10, b11, b12, rfl, F, E9, E10, E11, E12, G9, G10, G11, G12, N9_10, N9_11, N9_12, N10_11, N10_12, N11_12⟩ := h
      exact ⟨fun _ => rfl, fun e he => by cases he⟩
    | k + 84, hk => exact absurd hk (by show ¬ k + 84 < 84; omega)
  · clear F
    rintro _ W ⟨b9, b10, b11, b12, rfl, F, E9, E10, E11, E12, G9, G10, G11, G12, N9_10, N9_11, N9_12, N10_11, N10_12, N11_12⟩
    obtain ⟨⟨a0, a1, a2, a3⟩, _⟩ := E9
    obtain ⟨⟨b0, b1, b2, b3⟩, _⟩ := E10
    obtain ⟨⟨c0, c1, c2, c3⟩, _⟩ := E11
    obtain ⟨⟨d0, d1, d2, d3⟩, _⟩ := E12
    obtain ⟨ga0, ga0'⟩ := GA.out 0
    obtain ⟨ga1, ga1'⟩ := GA.out 1
    obtain ⟨ga2, ga2'⟩ := GA.out 2
    obtain ⟨ga3, ga3'⟩ := GA.out 3
    obtain ⟨gb0, gb0'⟩ := GB.out 0
    obtain ⟨gb1, gb1'⟩ := GB.out 1
    obtain ⟨gb2, gb2'⟩ := GB.out 2
    obtain ⟨gb3, gb3'⟩ := GB.out 3
    obtain ⟨gc0, gc0'⟩ := GC.out 0
    obtain ⟨gc1, gc1'⟩ := GC.out 1
    obtain ⟨gc2, gc2'⟩ := GC.out 2
    obtain ⟨gc3, gc3'⟩ := GC.out 3
    obtain ⟨gd0, gd0'⟩ := GD.out 0
    obtain ⟨gd1, gd1'⟩ := GD.out 1
    obtain ⟨gd2, gd2'⟩ := GD.out 2
    obtain ⟨gd3, gd3'⟩ := GD.out 3
    clear GA GB GC GD CG0 CG1 CG2 CG3
    unfold avR
    go_simp
    have BB := F.2.2
    go_wp2_with fail
    have k_a0 := cell_regrown a0
    have k_a1 := cell_regrown a1
    have k_a2 := cell_regrown a2
    have k_a3 := cell_regrown a3
    have k_b0 := cell_regrown b0
    have k_b1 := cell_regrown b1
    have k_b2 := cell_regrown b2
    have k_b3 := cell_regrown b3
    have k_c0 := cell_regrown c0
    have k_c1 := cell_regrown c1
    have k_c2 := cell_regrown c2
    have k_c3 := cell_regrown c3
    have k_d0 := cell_regrown d0
    have k_d1 := cell_regrown d1
    have k_d2 := cell_regrown d2
    have k_d3 := cell_regrown d3
    refine wp_region_tail (n := 49) (by kernel_rfl) (by kernel_rfl) ?_
    simp only [List.take_succ_cons, List.take_zero, List.drop_succ_cons, List.drop_zero]
    repeat (first | go_big_quiet_step ((first | (go_at_call 62; exact Calls.regrown_of (rounddiv_b _ _ _)))) | quiet_step ((first | (go_at_call 62; exact Calls.regrown_of (rounddiv_b _ _ _)))))
    refine wpQuiet_nil ?_
    intro W hw'
    have B := below_regrown' hw'
    clear hw' k_a0 k_a1 k_a2 k_a3 k_b0 k_b1 k_b2 k_b3 k_c0 k_c1 k_c2 k_c3 k_d0 k_d1 k_d2 k_d3
    replace BB := bon BB B
    replace a0 := cell_below B a0
    replace a1 := cell_below B a1
    replace a2 := cell_below B a2
    replace a3 := cell_below B a3
    replace b0 := cell_below B b0
    replace b1 := cell_below B b1
    replace b2 := cell_below B b2
    replace b3 := cell_below B b3
    replace c0 := cell_below B c0
    replace c1 := cell_below B c1
    replace c2 := cell_below B c2
    replace c3 := cell_below B c3
    replace d0 := cell_below B d0
    replace d1 := cell_below B d1
    replace d2 := cell_below B d2
    replace d3 := cell_below B d3
    have D1 := (F.on B).2.1
    clear B
    go_wp2_with (refine wpList_vset rfl _ _ _ rfl _ _ _ _ rfl rfl D1 (by kernel_rfl) ?_; intro V2 B2 D3 hD _)
    obtain ⟨⟨e0, e1, e2, e3⟩, _⟩ := D3
    exact bodyPost_ret (v := .agg #[.int .i64 (rda (va 0 + vb 0 + vc 0 + vd 0) 4), .int .i64 (rda (va 1 + vb 1 + vc 1 + vd 1) 4), .int .i64 (rda (va 2 + vb 2 + vc 2 + vd 2) 4), .int .i64 (rda (va 3 + vb 3 + vc 3 + vd 3) 4)]) (by simp [results, Try.results39, go_sem, *]) rfl ⟨rfl, BB.trans (B2.mono (by omega))⟩

end Go.Proofs.Ytcjlgfadjedgbaa
