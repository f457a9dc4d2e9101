/- The contracts of package mask that the walks call; the chapter's example; the walks of MaskLanes, MaskOperations, MaskLists, MaskTexts. -/
import Derived.Test.YtegmagjlkflecaaDoorK6
namespace Go.Proofs.YtegmagjlkflecaaDoor
open Go.RowKit Go.Sort

theorem of_same {P : Program} {f : FuncId} {args : Array Value} {w : World} {v : Value} (h : Calls P f args w fun e w' => e = .returned v ∧ w = w') : Calls P f args w fun e w' => e = .returned v ∧ Below w.heap.size w w' :=
  h.mono fun _ _ ⟨h1, h2⟩ => ⟨h1, h2 ▸ Below.refl _ _⟩

theorem has_b (m : Nat) (lane : Int) (w : World) (hm : m < 65536) : Calls Tryd.prog 18 #[.int .u16 m, .int .i64 lane] w fun e w' => e = .returned (.bool (hasB m lane)) ∧ Below w.heap.size w w' := of_same (has_q m lane w hm)

theorem with_b (m : Nat) (lane : Int) (w : World) (hm : m < 65536) : Calls Tryd.prog 20 #[.int .u16 m, .int .i64 lane] w fun e w' => e = .returned (.int .u16 (withF m lane : Nat)) ∧ Below w.heap.size w w' := of_same (with_q m lane w hm)

theorem all_b (n : Int) (w : World) : Calls Tryd.prog 21 #[.int .i64 n] w fun e w' => e = .returned (.int .u16 (allF n : Nat)) ∧ Below w.heap.size w w' := of_same (all_q n w)
/-- What both have, what one has, what one has alone. -/
def andF (a b : Nat) : Nat := msk (fun i : Nat => a.testBit i && b.testBit i) 16
def orF (a b : Nat) : Nat := msk (fun i : Nat => a.testBit i || b.testBit i) 16
def andNotF (a b : Nat) : Nat := msk (fun i : Nat => a.testBit i && !b.testBit i) 16

theorem of_b (A : Option Addr) (n c : Nat) (l : List Int) (w : World) (R : Rd w w.heap.size .i64 A n l) (hn : n ≤ 9223372036854775807) : Calls Tryd.prog 13 #[.slice A n c] w fun e w' => e = .returned (.int .u16 (ofL l : Nat)) ∧ Below w.heap.size w w' := of_same (of_q A n c l w R hn)

set_option maxRecDepth 100000 in
theorem example_b (w : World) : Calls Tryd.prog 15 #[] w fun e w' => e = .returned (.bool true) ∧ Below w.heap.size w w' := by
  have BB : Below w.heap.size w w := Below.refl _ _
  have c1 := fun W => text_b 5 W (by omega)
  have hs : (txtK (fun i => Nat.testBit 5 i) 16).size = 16 := txtK_size _ _
  have he : (txtK (fun i => Nat.testBit 5 i) 16).extract 0 4 = ⟨#[49, 46, 49, 46]⟩ := by
    apply str_ext
    rw [strL_extract, txtK_L]
    decide
  obtain ⟨T, hT⟩ : ∃ T, txtK (fun i => Nat.testBit 5 i) 16 = T := ⟨_, rfl⟩
  rw [hT] at c1 hs he
  have ha : allF 3 = 7 := by decide
  have c2 := fun W => all_b 3 W
  rw [ha] at c2
  have C1 := Lib.hid c1
  have C2 := Lib.hid c2
  clear c1 c2 hT ha
  go_enter Tryd.func15, Tryd.ntmps15
  go_wp2_with (first
    | (go_at_call 11; refine (C1.out _).mono ?_; rintro _ W1 ⟨rfl, B⟩; replace BB := bon BB B; clear B)
    | (go_at_call 21; refine (C2.out _).mono ?_; rintro _ W2 ⟨rfl, B⟩; replace BB := bon BB B; clear B))
  go_ret
  exact ⟨rfl, BB⟩

end Go.Proofs.YtegmagjlkflecaaDoor
