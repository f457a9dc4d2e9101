/- The walk of CodecStores, whole. -/
import Derived.Test.YtaimkplcnkbjlaaC11
namespace Go.Proofs.Ytaimkplcnkbjlaa
open Go.RowKit Go.Sort

set_option maxRecDepth 100000 in
set_option maxHeartbeats 2000000 in
theorem stores_no (A : Option Addr) (n c : Nat) (l : List Int) (a s v : Int) (w : World) (R : Rd w w.heap.size .u8 A n l) (hn : n ≤ 140737488355328) (hf : ¬ fits n a s) :
    Calls Try.prog 8 #[.slice A n c, .int .i64 a, .int .i64 s, .int .i64 v] w fun e w' => e = .returned (.bool true) ∧ Below w.heap.size w w' := by
  have hn' : n ≤ 9223372036854775807 := by omega
  have HL := Lib.hid R.len
  have HF := Lib.hid hf
  have BB : Below w.heap.size w w := Below.refl _ _
  unfold fits at hf
  have hc : s < 1 ∨ (1 ≤ s ∧ 4 < s) ∨ (1 ≤ s ∧ s ≤ 4 ∧ a < 0) ∨ (1 ≤ s ∧ s ≤ 4 ∧ 0 ≤ a ∧ n - s < a) := by omega
  clear hf
  rcases hc with h1 | ⟨h1, h2⟩ | ⟨h1, h2, h3⟩ | ⟨h1, h2, h3, h4⟩
  all_goals
    go_enter Try.func8, Try.ntmps8
    go_wp2_with (first
      | (go_at_call 34; refine (putLittle_no _ _ _ _ _ _ _ _ (R.on BB) hn HF.out).mono ?_; rintro _ W1 ⟨A1, n1, c1, rfl, own1, B⟩; have R1 := own1.rd; obtain rfl : n1 = n := by rw [← own1.len, HL.out]
         clear own1; replace BB := bon BB B; clear B)
      | (go_at_call 11; refine (same_b _ _ _ _ _ _ _ _ _ _ (R.on BB) R1 (Nat.le_refl _) (Nat.le_refl _) hn').mono ?_; rintro _ W3 ⟨rfl, B⟩; replace BB := bon BB B; clear B R1)
      | (go_at_call 32; refine (little_no _ _ _ _ _ _ hn' HF.out).mono ?_; rintro _ W1 ⟨rfl, B⟩; replace BB := bon BB B; clear B)
      | (go_at_call 20; refine (example_b _).mono ?_; rintro _ W1 ⟨rfl, B⟩; replace BB := bon BB B; clear B))
    go_ret
    exact ⟨rfl, BB⟩

theorem stores_walk (A : Option Addr) (n c : Nat) (l : List Int) (a s v : Int) (w : World) (R : Rd w w.heap.size .u8 A n l) (hn : n ≤ 140737488355328) :
    Calls Try.prog 8 #[.slice A n c, .int .i64 a, .int .i64 s, .int .i64 v] w fun e w' => e = .returned (.bool true) ∧ Below w.heap.size w w' := by
  by_cases hf : fits n a s
  · obtain ⟨p, m, rfl, rfl, m1, m4, hp⟩ := fits_parts hf
    exact stores_yes A n c p m l v w R hn m1 m4 hp
  · exact stores_no A n c l a s v w R hn hf

end Go.Proofs.Ytaimkplcnkbjlaa
