/- The walk of CodecUnique, whole. Written by tools/gen/genC16.py. -/
import Derived.Test.YtaimkplcnkbjlaaC16a
import Derived.Test.YtaimkplcnkbjlaaC16b
import Derived.Test.YtaimkplcnkbjlaaC16c
import Derived.Test.YtaimkplcnkbjlaaC16d
namespace Go.Proofs.Ytaimkplcnkbjlaa
open Go.RowKit Go.Sort

theorem unique_walk (A : Option Addr) (n c : Nat) (l : List Int) (a lim : Int) (w : World) (R : Rd w w.heap.size .u8 A n l) (hn : n ≤ 1048576) (hc : n ≤ c) (hcm : c ≤ maxLen) :
    Calls Try.prog 10 #[.slice A n c, .int .i64 a, .int .i64 lim] w fun e w' => e = .returned (.bool true) ∧ Below w.heap.size w w' := by
  have hc2 : c ≤ 9223372036854775807 := by simpa [maxLen] using hcm
  by_cases ha : a < 0 ∨ (n : Int) < a
  · exact unique_out A n c a lim w ha
  · obtain ⟨p, rfl⟩ : ∃ p : Nat, a = p := ⟨a.toNat, by omega⟩
    have hp : p ≤ n := by omega
    obtain ⟨v, n1, e1, h1⟩ : ∃ v n1 e1, ri l p = (v, n1, e1) := ⟨_, _, _, rfl⟩
    obtain ⟨L, n2, e2, h2⟩ : ∃ L n2 e2, rI l p lim = (L, n2, e2) := ⟨_, _, _, rfl⟩
    obtain ⟨s, n3, e3, h3⟩ : ∃ s n3 e3, rS l p lim = (s, n3, e3) := ⟨_, _, _, rfl⟩
    by_cases z1 : e1 = 0 <;> by_cases z2 : e2 = 0 <;> by_cases z3 : e3 = 0
    · exact unique_yyy A n c p l lim v n1 n2 n3 e1 e2 e3 L s w R hn hc hc2 hp h1 h2 h3 z1 z2 z3
    · exact unique_yyn A n c p l lim v n1 n2 n3 e1 e2 e3 L s w R hn hc hc2 hp h1 h2 h3 z1 z2 z3
    · exact unique_yny A n c p l lim v n1 n2 n3 e1 e2 e3 L s w R hn hc hc2 hp h1 h2 h3 z1 z2 z3
    · exact unique_ynn A n c p l lim v n1 n2 n3 e1 e2 e3 L s w R hn hc hc2 hp h1 h2 h3 z1 z2 z3
    · exact unique_nyy A n c p l lim v n1 n2 n3 e1 e2 e3 L s w R hn hc hc2 hp h1 h2 h3 z1 z2 z3
    · exact unique_nyn A n c p l lim v n1 n2 n3 e1 e2 e3 L s w R hn hc hc2 hp h1 h2 h3 z1 z2 z3
    · exact unique_nny A n c p l lim v n1 n2 n3 e1 e2 e3 L s w R hn hc hc2 hp h1 h2 h3 z1 z2 z3
    · exact unique_nnn A n c p l lim v n1 n2 n3 e1 e2 e3 L s w R hn hc hc2 hp h1 h2 h3 z1 z2 z3

end Go.Proofs.Ytaimkplcnkbjlaa
