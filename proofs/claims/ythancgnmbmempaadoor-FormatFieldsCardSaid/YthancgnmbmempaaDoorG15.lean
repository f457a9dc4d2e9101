/- The length of fields joined: at most two hundred of them, each of at most 2^47 bytes. -/
import Derived.Test.YthancgnmbmempaaDoorF21
import Derived.Test.YthancgnmbmempaaDoorG14
namespace Go.Proofs.YthancgnmbmempaaDoor
open Go.RowKit

theorem jn_le {K : Nat} : ∀ (b : Bool) (l : List ByteArray), (∀ s ∈ l, s.size ≤ K) → (jn b l).length ≤ l.length * (K + 1)
  | _, [], _ => by simp [jn]
  | b, s :: r, h => by
    have h1 := jn_le true r (fun x hx => h x (List.mem_cons_of_mem _ hx))
    have h2 := h s (List.mem_cons_self ..)
    rw [jn, List.length_append, List.length_append, strL_len, List.length_cons, Nat.succ_mul]
    have h3 : (if b = true then [(32 : Int)] else []).length ≤ 1 := by cases b <;> simp
    omega

theorem jn_small {b : Bool} {l : List ByteArray} (hn : l.length ≤ 200) (h : ∀ s ∈ l, s.size ≤ 140737488351232) : (jn b l).length ≤ 9223372036854775807 := by
  have h1 := jn_le b l h
  have h2 : l.length * (140737488351232 + 1) ≤ 200 * (140737488351232 + 1) := Nat.mul_le_mul_right _ hn
  omega

end Go.Proofs.YthancgnmbmempaaDoor
