/- The contracts of package mask that the walks call; the chapter's example; the walks of MaskLanes, MaskOperations, MaskLists, MaskTexts. -/
import Derived.Test.YtegmagjlkflecaaK6
namespace Go.Proofs.Ytegmagjlkflecaa
open Go.RowKit Go.Sort

theorem of_same {P : Program} {f : FuncId} {args : Array Value} {w : World} {v : Value} (h : Calls P f args w fun e w' => e = .returned v ∧ w = w') : Calls P f args w fun e w' => e = .returned v ∧ Below w.heap.size w w' :=
  h.mono fun _ _ ⟨h1, h2⟩ => ⟨h1, h2 ▸ Below.refl _ _⟩

theorem has_b (m : Nat) (lane : Int) (w : World) (hm : m < 65536) : Calls Try.prog 10 #[.int .u16 m, .int .i64 lane] w fun e w' => e = .returned (.bool (hasB m lane)) ∧ Below w.heap.size w w' := of_same (has_q m lane w hm)
theorem with_b (m : Nat) (lane : Int) (w : World) (hm : m < 65536) : Calls Try.prog 12 #[.int .u16 m, .int .i64 lane] w fun e w' => e = .returned (.int .u16 (withF m lane : Nat)) ∧ Below w.heap.size w w' := of_same (with_q m lane w hm)
theorem without_b (m : Nat) (lane : Int) (w : World) (hm : m < 65536) : Calls Try.prog 14 #[.int .u16 m, .int .i64 lane] w fun e w' => e = .returned (.int .u16 (withoutF m lane : Nat)) ∧ Below w.heap.size w w' := of_same (without_q m lane w hm)
theorem all_b (n : Int) (w : World) : Calls Try.prog 8 #[.int .i64 n] w fun e w' => e = .returned (.int .u16 (allF n : Nat)) ∧ Below w.heap.size w w' := of_same (all_q n w)
/-- What both have, what one has, what one has alone. -/
def andF (a b : Nat) : Nat := msk (fun i : Nat => a.testBit i && b.testBit i) 16
def orF (a b : Nat) : Nat := msk (fun i : Nat => a.testBit i || b.testBit i) 16
def andNotF (a b : Nat) : Nat := msk (fun i : Nat => a.testBit i && !b.testBit i) 16
theorem and_b (a b : Nat) (w : World) (ha : a < 65536) (hb : b < 65536) : Calls Try.prog 17 #[.int .u16 a, .int .u16 b] w fun e w' => e = .returned (.int .u16 (andF a b : Nat)) ∧ Below w.heap.size w w' := of_same (and_q a b w ha hb)
theorem or_b (a b : Nat) (w : World) (ha : a < 65536) (hb : b < 65536) : Calls Try.prog 19 #[.int .u16 a, .int .u16 b] w fun e w' => e = .returned (.int .u16 (orF a b : Nat)) ∧ Below w.heap.size w w' := of_same (or_q a b w ha hb)
theorem andNot_b (a b : Nat) (w : World) (ha : a < 65536) (hb : b < 65536) : Calls Try.prog 21 #[.int .u16 a, .int .u16 b] w fun e w' => e = .returned (.int .u16 (andNotF a b : Nat)) ∧ Below w.heap.size w w' := of_same (andNot_q a b w ha hb)
theorem of_b (A : Option Addr) (n c : Nat) (l : List Int) (w : World) (R : Rd w w.heap.size .i64 A n l) (hn : n ≤ 9223372036854775807) : Calls Try.prog 23 #[.slice A n c] w fun e w' => e = .returned (.int .u16 (ofL l : Nat)) ∧ Below w.heap.size w w' := of_same (of_q A n c l w R hn)

set_option maxRecDepth 100000 in
theorem example_b (w : World) : Calls Try.prog 16 #[] w fun e w' => e = .returned (.bool true) ∧ Below w.heap.size w w' := by
  have BB : Below w.heap.size w w := Below.refl _ _
  have c1 := fun W => text_b 5 W (by omega)
  have hs : (txtK (fun i => Nat.testBit 5 i) 16).size = 16 := txtK_size _ _
  have he : (txtK (fun i => Nat.testBit 5 i) 16).extract 0 4 = ⟨#[49, 46, 49, 46]⟩ := by
    apply str_ext
    rw [strL_extract, txtK_L]
    decide
  obtain ⟨T, hT⟩ : ∃ T, txtK (fun i => Nat.testBit 5 i) 16 = T := ⟨_, rfl⟩
  rw [hT] at c1 hs he
  have ha : allF 3 = 7 := by decide
  have c2 := fun W => all_b 3 W
  rw [ha] at c2
  have C1 := Lib.hid c1
  have C2 := Lib.hid c2
  clear c1 c2 hT ha
  go_enter Try.func16, Try.ntmps16
  go_wp2_with (first
    | (go_at_call 26; refine (C1.out _).mono ?_; rintro _ W1 ⟨rfl, B⟩; replace BB := bon BB B; clear B)
    | (go_at_call 8; refine (C2.out _).mono ?_; rintro _ W2 ⟨rfl, B⟩; replace BB := bon BB B; clear B))
  go_ret
  exact ⟨rfl, BB⟩

set_option maxRecDepth 100000 in
theorem lanes_walk (m : Nat) (lane : Int) (w : World) (hm : m < 65536) (h1 : -9223372036854775808 ≤ lane) (h2 : lane ≤ 9223372036854775807) :
    Calls Try.prog 3 #[.int .u16 m, .int .i64 lane] w fun e w' => e = .returned (.bool true) ∧ Below w.heap.size w w' := by
  have BB : Below w.heap.size w w := Below.refl _ _
  have c1 := fun W => all_b lane W
  have c2 := fun W => rall_b lane W
  have c3 := fun W => has_b m lane W hm
  have c4 := fun W => of_same (rhas_q m lane W hm)
  have c5 := fun W => with_b m lane W hm
  have c6 := fun W => rwith_b m lane W hm h1 h2
  have c7 := fun W => without_b m lane W hm
  have c8 := fun W => rwithout_b m lane W hm
  obtain ⟨x1, e1⟩ : ∃ x, allF lane = x := ⟨_, rfl⟩
  rw [e1] at c1
  rw [show msk (fun i : Nat => decide ((i : Int) < lane)) 16 = x1 from e1] at c2
  obtain ⟨x2, e2⟩ : ∃ x, hasB m lane = x := ⟨_, rfl⟩
  rw [e2] at c3 c4
  obtain ⟨x3, e3⟩ : ∃ x, withF m lane = x := ⟨_, rfl⟩
  rw [e3] at c5
  rw [show msk (fun i : Nat => m.testBit i || decide ((i : Int) = lane)) 16 = x3 from e3] at c6
  obtain ⟨x4, e4⟩ : ∃ x, withoutF m lane = x := ⟨_, rfl⟩
  rw [e4] at c7
  rw [show msk (fun i : Nat => decide ((i : Int) ≠ lane) && m.testBit i) 16 = x4 from e4] at c8
  have C1 := Lib.hid c1
  have C2 := Lib.hid c2
  have C3 := Lib.hid c3
  have C4 := Lib.hid c4
  have C5 := Lib.hid c5
  have C6 := Lib.hid c6
  have C7 := Lib.hid c7
  have C8 := Lib.hid c8
  clear c1 c2 c3 c4 c5 c6 c7 c8 e1 e2 e3 e4
  go_enter Try.func3, Try.ntmps3
  go_wp2_with (first
    | (go_at_call 8; refine (C1.out _).mono ?_; rintro _ W1 ⟨rfl, B⟩; replace BB := bon BB B; clear B)
    | (go_at_call 9; refine (C2.out _).mono ?_; rintro _ W1 ⟨rfl, B⟩; replace BB := bon BB B; clear B)
    | (go_at_call 10; refine (C3.out _).mono ?_; rintro _ W1 ⟨rfl, B⟩; replace BB := bon BB B; clear B)
    | (go_at_call 11; refine (C4.out _).mono ?_; rintro _ W1 ⟨rfl, B⟩; replace BB := bon BB B; clear B)
    | (go_at_call 12; refine (C5.out _).mono ?_; rintro _ W1 ⟨rfl, B⟩; replace BB := bon BB B; clear B)
    | (go_at_call 13; refine (C6.out _).mono ?_; rintro _ W1 ⟨rfl, B⟩; replace BB := bon BB B; clear B)
    | (go_at_call 14; refine (C7.out _).mono ?_; rintro _ W1 ⟨rfl, B⟩; replace BB := bon BB B; clear B)
    | (go_at_call 15; refine (C8.out _).mono ?_; rintro _ W1 ⟨rfl, B⟩; replace BB := bon BB B; clear B)
    | (go_at_call 16; refine (example_b _).mono ?_; rintro _ W1 ⟨rfl, B⟩; replace BB := bon BB B; clear B))
  go_ret
  exact ⟨rfl, BB⟩

set_option maxRecDepth 100000 in
theorem operations_walk (a b : Nat) (w : World) (ha : a < 65536) (hb : b < 65536) :
    Calls Try.prog 4 #[.int .u16 a, .int .u16 b] w fun e w' => e = .returned (.bool true) ∧ Below w.heap.size w w' := by
  have BB : Below w.heap.size w w := Below.refl _ _
  have c1 := fun W => and_b a b W ha hb
  have c2 := fun W => rand_b a b W ha hb
  have c3 := fun W => or_b a b W ha hb
  have c4 := fun W => ror_b a b W ha hb
  have c5 := fun W => andNot_b a b W ha hb
  have c6 := fun W => randNot_b a b W ha hb
  obtain ⟨x1, e1⟩ : ∃ x, andF a b = x := ⟨_, rfl⟩
  rw [e1] at c1
  rw [show msk (fun i : Nat => a.testBit i && b.testBit i) 16 = x1 from e1] at c2
  obtain ⟨x2, e2⟩ : ∃ x, orF a b = x := ⟨_, rfl⟩
  rw [e2] at c3
  rw [show msk (fun i : Nat => a.testBit i || b.testBit i) 16 = x2 from e2] at c4
  obtain ⟨x3, e3⟩ : ∃ x, andNotF a b = x := ⟨_, rfl⟩
  rw [e3] at c5
  rw [show msk (fun i : Nat => a.testBit i && !b.testBit i) 16 = x3 from e3] at c6
  have C1 := Lib.hid c1
  have C2 := Lib.hid c2
  have C3 := Lib.hid c3
  have C4 := Lib.hid c4
  have C5 := Lib.hid c5
  have C6 := Lib.hid c6
  clear c1 c2 c3 c4 c5 c6 e1 e2 e3
  go_enter Try.func4, Try.ntmps4
  go_wp2_with (first
    | (go_at_call 17; refine (C1.out _).mono ?_; rintro _ W1 ⟨rfl, B⟩; replace BB := bon BB B; clear B)
    | (go_at_call 18; refine (C2.out _).mono ?_; rintro _ W1 ⟨rfl, B⟩; replace BB := bon BB B; clear B)
    | (go_at_call 19; refine (C3.out _).mono ?_; rintro _ W1 ⟨rfl, B⟩; replace BB := bon BB B; clear B)
    | (go_at_call 20; refine (C4.out _).mono ?_; rintro _ W1 ⟨rfl, B⟩; replace BB := bon BB B; clear B)
    | (go_at_call 21; refine (C5.out _).mono ?_; rintro _ W1 ⟨rfl, B⟩; replace BB := bon BB B; clear B)
    | (go_at_call 22; refine (C6.out _).mono ?_; rintro _ W1 ⟨rfl, B⟩; replace BB := bon BB B; clear B)
    | (go_at_call 16; refine (example_b _).mono ?_; rintro _ W1 ⟨rfl, B⟩; replace BB := bon BB B; clear B))
  go_ret
  exact ⟨rfl, BB⟩

end Go.Proofs.Ytegmagjlkflecaa
