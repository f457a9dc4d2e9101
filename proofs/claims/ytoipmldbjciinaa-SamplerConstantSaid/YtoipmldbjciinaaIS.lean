/- What Hash of the reference of images returns. -/
import Derived.Test.YtoipmldbjciinaaIR
import Derived.Test.YtoipmldbjciinaaC8
namespace Go.Proofs.Ytoipmldbjciinaa
open Go.RowKit Go.Sort

def Im.hash (m : Im) : Int := if m.ok then hashL (((encI m.f ++ encI m.w) ++ encI m.h) ++ m.l) else 0

end Go.Proofs.Ytoipmldbjciinaa

/- What Fill of the reference of images returns. -/
namespace Go.Proofs.Ytoipmldbjciinaa
open Go.RowKit Go.Sort

/-- A list as often as k says. -/
def rept (b : List Int) : Nat → List Int
  | 0 => []
  | k + 1 => rept b k ++ b

theorem rept_len (b : List Int) (k : Nat) : (rept b k).length = k * b.length := by
  induction k with
  | zero => simp [rept]
  | succ k ih => rw [rept, List.length_append, ih, Nat.add_mul, Nat.one_mul]

def Im.fill (m : Im) (x0 x1 x2 x3 : Int) : Im := if m.ok then { m with l := rept (enc m.f x0 x1 x2 x3) (m.w * m.h).toNat } else m

end Go.Proofs.Ytoipmldbjciinaa

/- What New of the reference of images returns. -/
namespace Go.Proofs.Ytoipmldbjciinaa
open Go.RowKit Go.Sort

def imZ : Im := ⟨0, 0, 0, []⟩

def newI (f wd ht : Int) : Im × Int := if nsz f = 0 then (imZ, 14) else if (1 ≤ wd ∧ wd ≤ 64) ∧ (1 ≤ ht ∧ ht ≤ 64) then (⟨f, wd, ht, List.replicate (wd * ht * nsz f).toNat 0⟩, 0) else (imZ, 15)

end Go.Proofs.Ytoipmldbjciinaa

/- What Set of the reference of images returns. -/
namespace Go.Proofs.Ytoipmldbjciinaa
open Go.RowKit Go.Sort

section
variable {P : Program} {C : World → Prop}
/-- An operation with one value in every world of the class, in a region that draws its order. -/
theorem quiet_val {K : Act → Prop} {o : Oper} {a : Act} (v : Value) (hs : ∀ W, C W → (execOp a.eval o).run P W = .ok (.value v) W) (hk : K (a.put o.dst v)) : o.quiet P a C K :=
  ⟨v, fun W hW => by
    unfold Oper.quietAt
    rw [hs W hW]
    exact ⟨rfl, rfl⟩, hk⟩
end

end Go.Proofs.Ytoipmldbjciinaa
