/- Lexical analysis: the numbers and lists. No program is named here. -/
import Derived.Lib.Hide
import Derived.RowKit
namespace Go.Proofs.YtjpkcgepdfpbnaaGreatDoor

def isDig (b : Int) : Bool := decide (48 ≤ b) && decide (b ≤ 57)
def isLet (b : Int) : Bool := decide (97 ≤ b) && decide (b ≤ 122) || decide (65 ≤ b) && decide (b ≤ 90) || b == 95
def isWrd (b : Int) : Bool := isLet b || isDig b
def isLin (b : Int) : Bool := b != 10

/-- spanOf. -/
def spn (p : Int → Bool) (l : List Int) : Nat := (l.takeWhile p).length

theorem spn_le (p : Int → Bool) (l : List Int) : spn p l ≤ l.length := by
  unfold spn
  induction l with
  | nil => simp
  | cons a l ih =>
    rw [List.takeWhile_cons]
    split
    · simp only [List.length_cons]; omega
    · simp

theorem spn_in {p : Int → Bool} : ∀ {l : List Int} {k : Nat} {b : Int}, k < spn p l → l[k]? = some b → p b = true
  | [], k, b, h, hb => by simp at hb
  | a :: l, k, b, h, hb => by
    unfold spn at h
    rw [List.takeWhile_cons] at h
    split at h
    · rename_i q
      cases k with
      | zero =>
        rw [List.getElem?_cons_zero] at hb
        injection hb with hb
        rw [← hb]
        exact q
      | succ k =>
        rw [List.getElem?_cons_succ] at hb
        exact spn_in (l := l) (by unfold spn; simp only [List.length_cons] at h; omega) hb
    · simp at h

theorem spn_out {p : Int → Bool} : ∀ {l : List Int} {b : Int}, l[spn p l]? = some b → p b = false
  | [], b, hb => by simp at hb
  | a :: l, b, hb => by
    unfold spn at hb
    rw [List.takeWhile_cons] at hb
    split at hb
    · simp only [List.length_cons, List.getElem?_cons_succ] at hb
      exact spn_out (l := l) hb
    · rename_i q
      simp only [List.length_nil, List.getElem?_cons_zero, Option.some.injEq] at hb
      rw [← hb]
      simpa using q

theorem isWrd_dig {b : Int} (h : isDig b = true) : isWrd b = true := by unfold isWrd; rw [h]; simp

end Go.Proofs.YtjpkcgepdfpbnaaGreatDoor
