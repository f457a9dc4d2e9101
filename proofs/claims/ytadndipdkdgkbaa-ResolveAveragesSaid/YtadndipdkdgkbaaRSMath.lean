/- Averages of colors, in plain numbers. -/
import Derived.Test.YtadndipdkdgkbaaFixedB
import Derived.Test.YtadndipdkdgkbaaRowE
namespace Go.Proofs.Ytadndipdkdgkbaa
set_option linter.unusedSimpArgs false
open Go.RowKit Go.Sort Go.ChangeShapes Go.WideShapes
set_option linter.unusedVariables false

structure Co where
  x : Int
  y : Int
  z : Int
  q : Int
  deriving Inhabited

def cov4 (c : Co) : List Value := [.int .i64 c.x, .int .i64 c.y, .int .i64 c.z, .int .i64 c.q]

theorem coEnc : Enc cov4 4 := ⟨fun _ => rfl, by decide, fun x v hv => by simp [cov4] at hv; rcases hv with rfl | rfl | rfl | rfl <;> rfl⟩

/-- The sum of one saturated component. -/
def ssum (p : Co → Int) (l : List Co) : Int := (l.map fun c => sat (p c)).sum

theorem ssum_nil (p : Co → Int) : ssum p [] = 0 := rfl

theorem ssum_snoc (p : Co → Int) {l : List Co} {k : Nat} {c : Co} (h : l[k]? = some c) : ssum p (l.take (k + 1)) = ssum p (l.take k) + sat (p c) := by
  unfold ssum
  rw [List.take_add_one, h]
  simp

theorem ssum_bd (p : Co → Int) : ∀ l : List Co, -536870911 * (l.length : Int) ≤ ssum p l ∧ ssum p l ≤ 536870911 * (l.length : Int)
  | [] => by simp [ssum]
  | c :: l => by
    have h := ssum_bd p l
    have hs := sat_bd (p c)
    have e : ssum p (c :: l) = sat (p c) + ssum p l := by simp [ssum]
    rw [e, List.length_cons, Int.natCast_add, Int.mul_add, Int.mul_add]
    omega

theorem ssum_small (p : Co → Int) (l : List Co) (h : l.length ≤ 64) : -34359738304 ≤ ssum p l ∧ ssum p l ≤ 34359738304 := by
  have := ssum_bd p l
  omega

/-- One component of the average. -/
def avv (p : Co → Int) (l : List Co) : Int := if 64 < l.length then 0 else rda (ssum p l) l.length

theorem rda_00 : rda 0 0 = 0 := by decide

theorem avv_nil (p : Co → Int) : avv p [] = 0 := by
  unfold avv
  rw [if_neg (by simp), ssum_nil]
  exact rda_00

/-- Equal colors. -/
theorem ssum_same (p : Co → Int) (c : Co) (n : Nat) : ssum p (List.replicate n c) = (n : Int) * sat (p c) := by
  unfold ssum
  induction n with
  | zero => simp
  | succ n ih =>
    rw [List.replicate_succ, List.map_cons, List.sum_cons, ih, Int.natCast_add, Int.add_mul]
    omega

end Go.Proofs.Ytadndipdkdgkbaa
