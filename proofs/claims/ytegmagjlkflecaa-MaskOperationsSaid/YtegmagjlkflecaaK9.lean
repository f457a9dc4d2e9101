/- The walks of MaskCounts, MaskSets. -/
import Derived.Test.YtegmagjlkflecaaK8
namespace Go.Proofs.Ytegmagjlkflecaa
open Go.RowKit Go.Sort

theorem andF_lt (a b : Nat) : andF a b < 65536 := msk16_lt _
theorem orF_lt (a b : Nat) : orF a b < 65536 := msk16_lt _
theorem andNotF_lt (a b : Nat) : andNotF a b < 65536 := msk16_lt _
theorem withF_lt (a : Nat) (x : Int) : withF a x < 65536 := msk16_lt _
theorem withoutF_lt (a : Nat) (x : Int) : withoutF a x < 65536 := msk16_lt _
theorem allF_lt (x : Int) : allF x < 65536 := msk16_lt _

set_option maxRecDepth 100000 in
theorem counts_walk (a b : Nat) (n : Int) (w : World) (ha : a < 65536) (hb : b < 65536) :
    Calls Try.prog 6 #[.int .u16 a, .int .u16 b, .int .i64 n] w fun e w' => e = .returned (.bool true) ∧ Below w.heap.size w w' := by
  have BB : Below w.heap.size w w := Below.refl _ _
  have k1 := cnt_or (fun i => a.testBit i) (fun i => b.testBit i) 16
  have k2 := cnt_not (fun i => a.testBit i) (fun i => b.testBit i) 16
  have k3 := cnt_all n 16
  rw [← lns_msk, ← lns_msk] at k1 k2
  rw [← lns_msk] at k3
  change (lns (orF a b)).length + (lns (andF a b)).length = (lns a).length + (lns b).length at k1
  change (lns (andNotF a b)).length + (lns (andF a b)).length = (lns a).length at k2
  change ((lns (allF n)).length : Int) = min (max n 0) 16 at k3
  have g1 := fun W => or_b a b W ha hb
  have g2 := fun W => and_b a b W ha hb
  have g3 := fun W => andNot_b a b W ha hb
  have g4 := fun W => all_b n W
  have d1 := fun W => count_b (orF a b) W (orF_lt a b)
  have d2 := fun W => count_b (andF a b) W (andF_lt a b)
  have d3 := fun W => count_b (andNotF a b) W (andNotF_lt a b)
  have d4 := fun W => count_b (allF n) W (allF_lt n)
  have d5 := fun W => count_b a W ha
  have d6 := fun W => count_b b W hb
  have l1 := lns_len (orF a b)
  have l2 := lns_len (andF a b)
  have l3 := lns_len (andNotF a b)
  have l4 := lns_len (allF n)
  have l5 := lns_len a
  have l6 := lns_len b
  obtain ⟨x1, e1⟩ : ∃ x, orF a b = x := ⟨_, rfl⟩
  obtain ⟨x2, e2⟩ : ∃ x, andF a b = x := ⟨_, rfl⟩
  obtain ⟨x3, e3⟩ : ∃ x, andNotF a b = x := ⟨_, rfl⟩
  obtain ⟨x4, e4⟩ : ∃ x, allF n = x := ⟨_, rfl⟩
  rw [e1] at g1 d1 k1 l1
  rw [e2] at g2 d2 k1 k2 l2
  rw [e3] at g3 d3 k2 l3
  rw [e4] at g4 d4 k3 l4
  obtain ⟨y1, f1⟩ : ∃ x, (lns x1).length = x := ⟨_, rfl⟩
  obtain ⟨y2, f2⟩ : ∃ x, (lns x2).length = x := ⟨_, rfl⟩
  obtain ⟨y3, f3⟩ : ∃ x, (lns x3).length = x := ⟨_, rfl⟩
  obtain ⟨y4, f4⟩ : ∃ x, (lns x4).length = x := ⟨_, rfl⟩
  obtain ⟨y5, f5⟩ : ∃ x, (lns a).length = x := ⟨_, rfl⟩
  obtain ⟨y6, f6⟩ : ∃ x, (lns b).length = x := ⟨_, rfl⟩
  rw [f1] at d1 k1 l1
  rw [f2] at d2 k1 k2 l2
  rw [f3] at d3 k2 l3
  rw [f4] at d4 k3 l4
  rw [f5] at d5 k1 k2 l5
  rw [f6] at d6 k1 l6
  have G1 := Lib.hid g1
  have G2 := Lib.hid g2
  have G3 := Lib.hid g3
  have G4 := Lib.hid g4
  have D1 := Lib.hid d1
  have D2 := Lib.hid d2
  have D3 := Lib.hid d3
  have D4 := Lib.hid d4
  have D5 := Lib.hid d5
  have D6 := Lib.hid d6
  have q1 : ((y1 : Int) + (y2 : Int) == (y5 : Int) + (y6 : Int)) = true := by simp; omega
  have q2 : ((y3 : Int) == (y5 : Int) - (y2 : Int)) = true := by simp; omega
  clear g1 g2 g3 g4 d1 d2 d3 d4 d5 d6 e1 e2 e3 e4 f1 f2 f3 f4 f5 f6
  go_enter Try.func6, Try.ntmps6
  go_wp2_with (first
    | (go_at_call 19; refine (G1.out _).mono ?_; rintro _ W1 ⟨rfl, B⟩; replace BB := bon BB B; clear B)
    | (go_at_call 17; refine (G2.out _).mono ?_; rintro _ W1 ⟨rfl, B⟩; replace BB := bon BB B; clear B)
    | (go_at_call 21; refine (G3.out _).mono ?_; rintro _ W1 ⟨rfl, B⟩; replace BB := bon BB B; clear B)
    | (go_at_call 8; refine (G4.out _).mono ?_; rintro _ W1 ⟨rfl, B⟩; replace BB := bon BB B; clear B)
    | (go_at_call 25; with_reducible refine (D1.out _).mono ?_; rintro _ W1 ⟨rfl, B⟩; replace BB := bon BB B; clear B)
    | (go_at_call 25; with_reducible refine (D2.out _).mono ?_; rintro _ W1 ⟨rfl, B⟩; replace BB := bon BB B; clear B)
    | (go_at_call 25; with_reducible refine (D3.out _).mono ?_; rintro _ W1 ⟨rfl, B⟩; replace BB := bon BB B; clear B)
    | (go_at_call 25; with_reducible refine (D4.out _).mono ?_; rintro _ W1 ⟨rfl, B⟩; replace BB := bon BB B; clear B)
    | (go_at_call 25; with_reducible refine (D5.out _).mono ?_; rintro _ W1 ⟨rfl, B⟩; replace BB := bon BB B; clear B)
    | (go_at_call 25; with_reducible refine (D6.out _).mono ?_; rintro _ W1 ⟨rfl, B⟩; replace BB := bon BB B; clear B)
    | (go_at_call 16; refine (example_b _).mono ?_; rintro _ W1 ⟨rfl, B⟩; replace BB := bon BB B; clear B))
  all_goals go_ret
  all_goals exact ⟨rfl, BB⟩

end Go.Proofs.Ytegmagjlkflecaa
