/- Equal of textures, of both; which textures are small. -/
import Derived.Test.YtoipmldbjciinaaL2
namespace Go.Proofs.Ytoipmldbjciinaa
open Go.RowKit Go.Sort

/-- Are the first j levels equal, all levels? -/
def teqK (ts us : List Tx) : Nat → Bool
  | 0 => true
  | j + 1 => teqK ts us j && eqI (ts.getD j default).m (us.getD j default).m
def teq (ts us : List Tx) : Bool := decide (ts.length = us.length) && teqK ts us ts.length
theorem teqK_no {ts us : List Tx} {j : Nat} (h : eqI (ts.getD j default).m (us.getD j default).m = false) : ∀ n, j < n → teqK ts us n = false := by
  intro n hn
  induction n with
  | zero => omega
  | succ n ih =>
    rw [teqK]
    rcases Nat.lt_or_ge j n with k | k
    · rw [ih k, Bool.false_and]
    · obtain rfl : j = n := by omega
      rw [h, Bool.and_false]
theorem eqI_refl (m : Im) : eqI m m = true := by simp [eqI]
theorem teq_refl (ts : List Tx) : teq ts ts = true := by
  have h : ∀ n, teqK ts ts n = true := by
    intro n
    induction n with
    | zero => rfl
    | succ n ih => rw [teqK, ih, eqI_refl]; rfl
  unfold teq
  rw [h]
  simp

/-- A texture is small, or not: one that is has few levels. -/
def GivesSmall (w : World) (n : Nat) (e : Ending) (w' : World) : Prop := ∃ s, e = .returned (.bool s) ∧ (s = true → n ≤ 10) ∧ Below w.heap.size w w'

end Go.Proofs.Ytoipmldbjciinaa
