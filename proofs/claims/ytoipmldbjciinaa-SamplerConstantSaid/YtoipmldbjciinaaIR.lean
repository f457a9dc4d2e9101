/- What the small functions of the reference of images return. -/
import Derived.Test.YtoipmldbjciinaaIM
import Derived.Test.YtoipmldbjciinaaT1
import Derived.Laws.BytesArg
import Derived.Laws.BytesString
namespace Go.Proofs.Ytoipmldbjciinaa
open Go.RowKit Go.Sort

theorem imgT : RowType Try.prog 45 4 := ⟨fun W => by unfold isAgg; rw [Sem.run_bind, run_underlying Try.underlying45 W]; simp, by kernel_rfl⟩

theorem iof_same {P : Program} {f : FuncId} {args : Array Value} {w : World} {v : Value} (h : Calls P f args w fun e w' => e = .returned v ∧ w = w') : Calls P f args w fun e w' => e = .returned v ∧ Below w.heap.size w w' :=
  h.mono fun _ _ ⟨h1, h2⟩ => ⟨h1, h2 ▸ Below.refl _ _⟩

def sdB (n : Int) : Bool := decide (1 ≤ n ∧ n ≤ 64)

/-- The products that Valid and Offset meet. -/
theorem side_prod {a b : Int} {s : Nat} (ha : 1 ≤ a ∧ a ≤ 64) (hb : 1 ≤ b ∧ b ≤ 64) (hs : s ≤ 8) : ∃ p q : Int, IntKind.i64.wrap (a * b) = p ∧ IntKind.i64.wrap (p * s) = q ∧ a * b = p ∧ p * s = q ∧ 0 ≤ q ∧ q ≤ 32768 := by
  have h1 := mul_bds (show 0 ≤ a by omega) ha.2 (show 0 ≤ b by omega) hb.2
  have h2 := mul_bds (a := 4096) (b := 8) (y := (s : Int)) h1.1 (by omega) (by omega) (by omega)
  exact ⟨a * b, a * b * s, IntWalk.i64_in _ (by omega), IntWalk.i64_in _ (by omega), rfl, rfl, h2.1, by omega⟩

end Go.Proofs.Ytoipmldbjciinaa

/- What Offset, Clone, Get, Equal, inside of the reference of images return. -/
namespace Go.Proofs.Ytoipmldbjciinaa
open Go.RowKit Go.Sort

end Go.Proofs.Ytoipmldbjciinaa

/- What Get of the reference of images returns. -/
namespace Go.Proofs.Ytoipmldbjciinaa
open Go.RowKit Go.Sort

end Go.Proofs.Ytoipmldbjciinaa

/- What Equal, inside of the reference of images return. -/
namespace Go.Proofs.Ytoipmldbjciinaa
open Go.RowKit Go.Sort

/-- Bytes as a string. -/
theorem iconv {W : World} {B n c : Nat} {A : Option Addr} {l : List Int} (R : Rd W B .u8 A n l) : (convert 43 9 (.slice A n c)).run Try.prog W = .ok (.string (strOfNums l)) W := by
  rcases Nat.eq_zero_or_pos n with rfl | hn
  · obtain rfl : l = [] := List.eq_nil_of_length_eq_zero R.len
    rcases A with _ | a
    · exact run_convert_bytes_nil W 43 5 Try.underlying43 Try.underlying5 0 c 9 Try.underlying9
    · have hl : (loadCells a 0).run Try.prog W = .ok #[] W := by simp [loadCells, loadCellsFrom]
      rw [run_convert_bytes_string W 43 9 5 _ 0 c Try.underlying43 Try.underlying5 Try.underlying9, run_bytesToString W a 0 c [] (by simpa using hl)]
      rfl
  · obtain ⟨b, off, rfl, _, hcell⟩ := R.2.2 hn
    refine run_convert_bytes_arg W 43 5 Try.underlying43 Try.underlying5 b off n c l R.len (fun i hi => ?_) 9 Try.underlying9
    have hl : i < l.length := by rw [R.len]; exact hi
    rw [List.getD, List.getElem?_eq_getElem hl]
    exact hcell i _ (List.getElem?_eq_getElem hl)

def insB (at_ n size : Int) : Bool := decide (0 ≤ at_ ∧ at_ ≤ size ∧ n ≤ size - at_)

end Go.Proofs.Ytoipmldbjciinaa

/- What put of the reference of images returns. -/
namespace Go.Proofs.Ytoipmldbjciinaa
open Go.RowKit Go.Sort

theorem lput_step {l b : List Int} {p k : Nat} {x : Int} (hp : p + b.length ≤ l.length) (hk : k < b.length) (hx : b[k]? = some x) : (lput l p (b.take k)).set (p + k) x = lput l p (b.take (k + 1)) := by
  have e : (b.take k).length = k := by rw [List.length_take]; omega
  have h := lput_snoc (l := l) (b := b.take k) (p := p) (x := x) (by rw [e]; omega)
  rw [e] at h
  rw [h, List.take_add_one, hx]
  rfl

end Go.Proofs.Ytoipmldbjciinaa
