/- Blending, in plain numbers. -/
import Derived.Test.YtainijafljpiaaaFixedB
namespace Go.Proofs.Ytainijafljpiaaa
set_option linter.unusedSimpArgs false
open Go.RowKit Go.Sort Go.ChangeShapes Go.WideShapes
set_option linter.unusedVariables false

def combv (op s sf t tf : Int) : Int :=
  if op = 1 then addv (mulv s sf) (mulv t tf) else if op = 2 then subv (mulv s sf) (mulv t tf) else if op = 3 then subv (mulv t tf) (mulv s sf) else if op = 4 then sat (min s t) else if op = 5 then sat (max s t) else 0

def facv (f si s3 ti t3 : Int) : Int :=
  if f = 2 then 65536 else if f = 3 then si else if f = 4 then subv 65536 si else if f = 5 then s3 else if f = 6 then subv 65536 s3 else if f = 7 then ti else if f = 8 then subv 65536 ti else if f = 9 then t3 else if f = 10 then subv 65536 t3 else 0

theorem op_cases (m : Int) : m = 1 ∨ m = 2 ∨ m = 3 ∨ m = 4 ∨ m = 5 ∨ (m ≠ 1 ∧ m ≠ 2 ∧ m ≠ 3 ∧ m ≠ 4 ∧ m ≠ 5) := by omega

theorem f_cases (m : Int) : m = 2 ∨ m = 3 ∨ m = 4 ∨ m = 5 ∨ m = 6 ∨ m = 7 ∨ m = 8 ∨ m = 9 ∨ m = 10 ∨ (m ≠ 2 ∧ m ≠ 3 ∧ m ≠ 4 ∧ m ≠ 5 ∧ m ≠ 6 ∧ m ≠ 7 ∧ m ≠ 8 ∧ m ≠ 9 ∧ m ≠ 10) := by omega

theorem combv_comm (op s sf t tf : Int) (h2 : op ≠ 2) (h3 : op ≠ 3) : combv op s sf t tf = combv op t tf s sf := by
  have e1 : addv (mulv s sf) (mulv t tf) = addv (mulv t tf) (mulv s sf) := by unfold addv; rw [Int.add_comm]
  unfold combv
  rw [if_neg h2, if_neg h3, if_neg h2, if_neg h3, e1, Int.min_comm, Int.max_comm]

theorem subv_neg (a b : Int) : subv a b = -subv b a := by
  unfold subv
  rw [← sat_neg]
  congr 1
  omega

theorem combv_neg (s sf t tf : Int) : combv 2 s sf t tf = -combv 3 s sf t tf := by
  simp only [combv]
  simp
  exact subv_neg _ _

theorem combv_two (s sf t tf : Int) : combv 2 s sf t tf = -combv 2 t tf s sf := by
  simp only [combv]
  simp
  exact subv_neg _ _

theorem combv_three (s sf t tf : Int) : combv 3 s sf t tf = -combv 3 t tf s sf := by
  simp only [combv]
  simp
  exact subv_neg _ _

end Go.Proofs.Ytainijafljpiaaa
