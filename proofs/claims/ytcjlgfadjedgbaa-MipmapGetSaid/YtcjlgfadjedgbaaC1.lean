/- What Same, SameInts and Clone return. -/
import Derived.Test.YtcjlgfadjedgbaaBytes
import Derived.Test.YtcjlgfadjedgbaaBelow
import Derived.Test.YtcjlgfadjedgbaaChecked
import Derived.Deep.QuietTactic
import Derived.BigQuiet
import Derived.Outline
import Derived.WalkSpells
namespace Go.Proofs.Ytcjlgfadjedgbaa
open Go.RowKit Go.Sort

theorem eB : Elem Try.prog 23 5 .u8 1 := elem_of Try.underlying23 (by kernel_rfl)
theorem eI : Elem Try.prog 80 3 .i64 8 := elem_of Try.underlying80 (by kernel_rfl)

theorem hid_some {l : List Int} {j : Nat} {x y : Int} (hx : Hid (l[j]? = some x)) (hy : Hid (l[j]? = some y)) : y = x := by
  have h := hx.out.symm.trans hy.out
  injection h with h
  exact h.symm

/-- A call that returns a slice of the caller's own. -/
def GivesOwn (W : World) (base : Nat) (e : TypeId) (k : IntKind) (l : List Int) (x : Ending) (w' : World) : Prop :=
  ∃ A n c, x = .returned (.slice A n c) ∧ Own w' base e k A n c l ∧ Below base W w'

/-- A call that returns a slice. -/
def GivesRd (W : World) (k : IntKind) (l : List Int) (x : Ending) (w' : World) : Prop :=
  ∃ A n c, x = .returned (.slice A n c) ∧ n ≤ c ∧ Rd w' w'.heap.size k A n l ∧ Below W.heap.size W w'

theorem GivesOwn.rd {W w' : World} {e : TypeId} {k : IntKind} {l : List Int} {x : Ending} (h : GivesOwn W W.heap.size e k l x w') : GivesRd W k l x w' := by
  obtain ⟨A, n, c, rfl, own, B⟩ := h
  exact ⟨A, n, c, rfl, own.room, own.rd, B⟩

theorem clone_b (A : Option Addr) (n c : Nat) (l : List Int) (w : World) (R : Rd w w.heap.size .u8 A n l) (hn : n ≤ 140737488355328) :
    Calls Try.prog 59 #[.slice A n c] w (GivesOwn w w.heap.size 5 .u8 l) := by
  have q : ∀ (w : World) (a : Option Addr) (n c n' c' : Nat), (binOp .eql 23 (.slice a n c) (.slice none n' c')).run Try.prog w = .ok (.bool a.isNone) w := fun w a n c n' c' => Lib.run_eql_slice_nil w _ _ a n c n' c' Try.underlying23
  rcases A with _ | a
  · have hl : n = 0 := by
      rcases Nat.eq_zero_or_pos n with h0 | h0
      · exact h0
      · obtain ⟨_, _, h, _⟩ := R.2.2 h0
        cases h
    subst hl
    obtain rfl : l = [] := List.eq_nil_of_length_eq_zero R.len
    go_enter Try.func59, Try.ntmps59
    go_wp2
    go_ret
    exact ⟨none, 0, 0, rfl, Own.nil _ _ _, Below.refl _ _⟩
  · have own0 := Own.made w 5 .u8
    have B0 : Below w.heap.size w (w.alloc (.cells #[] 5)) := (Below.refl _ _).alloc (Nat.le_refl _) _
    go_enter Try.func59, Try.ntmps59
    go_wp2_with (at_builtin; refine wpList_app _ rfl _ _ _ rfl eB own0 rfl (R.below B0) rfl (by simp only [maxLen]; omega) (by omega) ?_; intro A1 n1 c1 W1 own1 B1)
    go_ret
    exact ⟨A1, n1, c1, rfl, by simpa using own1, B0.trans B1⟩

end Go.Proofs.Ytcjlgfadjedgbaa
