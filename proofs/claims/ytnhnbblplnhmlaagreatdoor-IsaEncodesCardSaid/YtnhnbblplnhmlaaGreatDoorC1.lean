/- What Same, SameInts and Clone return. -/
import Derived.Test.YtnhnbblplnhmlaaGreatDoorBytes
import Derived.Test.YtnhnbblplnhmlaaGreatDoorBelow
import Derived.Test.YtnhnbblplnhmlaaGreatDoorChecked
import Derived.Deep.QuietTactic
import Derived.BigQuiet
import Derived.Outline
import Derived.WalkSpells
namespace Go.Proofs.YtnhnbblplnhmlaaGreatDoor
set_option linter.unusedSimpArgs false
open Go.RowKit Go.Sort

theorem eB : Elem Tryz.prog 32 5 .u8 1 := elem_of Tryz.underlying32 (by kernel_rfl)
theorem eI : Elem Tryz.prog 57 3 .i64 8 := elem_of Tryz.underlying57 (by kernel_rfl)

theorem hid_some {l : List Int} {j : Nat} {x y : Int} (hx : Hid (l[j]? = some x)) (hy : Hid (l[j]? = some y)) : y = x := by
  have h := hx.out.symm.trans hy.out
  injection h with h
  exact h.symm

/-- A call that returns a slice of the caller's own. -/
def GivesOwn (W : World) (base : Nat) (e : TypeId) (k : IntKind) (l : List Int) (x : Ending) (w' : World) : Prop :=
  ∃ A n c, x = .returned (.slice A n c) ∧ Own w' base e k A n c l ∧ Below base W w'

/-- A call that returns a slice. -/
def GivesRd (W : World) (k : IntKind) (l : List Int) (x : Ending) (w' : World) : Prop :=
  ∃ A n c, x = .returned (.slice A n c) ∧ n ≤ c ∧ Rd w' w'.heap.size k A n l ∧ Below W.heap.size W w'

theorem GivesOwn.rd {W w' : World} {e : TypeId} {k : IntKind} {l : List Int} {x : Ending} (h : GivesOwn W W.heap.size e k l x w') : GivesRd W k l x w' := by
  obtain ⟨A, n, c, rfl, own, B⟩ := h
  exact ⟨A, n, c, rfl, own.room, own.rd, B⟩

theorem same_b (A A2 : Option Addr) (n n2 c c2 B1 B2 : Nat) (l : List Int) (w : World) (R1 : Rd w B1 .u8 A n l) (R2 : Rd w B2 .u8 A2 n2 l) (h1 : B1 ≤ w.heap.size) (h2 : B2 ≤ w.heap.size) (hn : n ≤ 9223372036854775807) :
    Calls Tryz.prog 12 #[.slice A n c, .slice A2 n2 c2] w fun e w' => e = .returned (.bool true) ∧ Below w.heap.size w w' := by
  obtain rfl : n2 = n := by rw [← R1.len, ← R2.len]
  go_enter Tryz.func12, Tryz.ntmps12
  go_wp2
  go_loopw [5] (fun i wr => ∃ k : Nat, k ≤ n2 ∧ i = .int .i64 k ∧ Below w.heap.size w wr) (fun i _ => n2 - (intOf i).toNat)
  case atStart => exact ⟨0, Nat.zero_le _, rfl, Below.refl _ _⟩
  case round =>
    obtain ⟨k, hk, rfl, BB⟩ := hrel
    by_cases hlt : k < n2
    · obtain ⟨b1, o1, x, rfl, c1, x0, x1, hx⟩ := (R1.below (BB.mono h1)).byte hlt
      obtain ⟨b2, o2, y, rfl, c2, _, _, hy⟩ := (R2.below (BB.mono h2)).byte hlt
      obtain rfl : y = x := hid_some hx hy
      clear R1 R2
      go_wp2_with fail
      have k_c1 := cell_regrown c1
      have k_c2 := cell_regrown c2
      refine wp_region_quiet_below (by kernel_rfl) (by kernel_rfl) ?_
      repeat (first | go_big_quiet_step ((first | fail)) | quiet_step ((first | fail)))
      refine wpQuiet_nil ?_
      intro W hw'
      have B := below_regrown' hw'
      clear hw' k_c1 k_c2
      replace BB := bon BB B
      replace c1 := cell_below B c1
      replace c2 := cell_below B c2
      go_wp2
      go_roundw
      case rel => exact ⟨k + 1, by omega, by go_num, BB⟩
      case measure => simp [intOf]; omega
    · obtain rfl : k = n2 := by omega
      clear R1 R2
      go_wp2
      go_ret
      exact ⟨rfl, BB⟩

theorem clone_b (A : Option Addr) (n c : Nat) (l : List Int) (w : World) (R : Rd w w.heap.size .u8 A n l) (hn : n ≤ 140737488355328) :
    Calls Tryz.prog 74 #[.slice A n c] w (GivesOwn w w.heap.size 5 .u8 l) := by
  have q : ∀ (w : World) (a : Option Addr) (n c n' c' : Nat), (binOp .eql 32 (.slice a n c) (.slice none n' c')).run Tryz.prog w = .ok (.bool a.isNone) w := fun w a n c n' c' => Lib.run_eql_slice_nil w _ _ a n c n' c' Tryz.underlying32
  rcases A with _ | a
  · have hl : n = 0 := by
      rcases Nat.eq_zero_or_pos n with h0 | h0
      · exact h0
      · obtain ⟨_, _, h, _⟩ := R.2.2 h0
        cases h
    subst hl
    obtain rfl : l = [] := List.eq_nil_of_length_eq_zero R.len
    go_enter Tryz.func74, Tryz.ntmps74
    go_wp2
    go_ret
    exact ⟨none, 0, 0, rfl, Own.nil _ _ _, Below.refl _ _⟩
  · have own0 := Own.made w 5 .u8
    have B0 : Below w.heap.size w (w.alloc (.cells #[] 5)) := (Below.refl _ _).alloc (Nat.le_refl _) _
    go_enter Tryz.func74, Tryz.ntmps74
    go_wp2_with (at_builtin; refine wpList_app _ rfl _ _ _ rfl eB own0 rfl (R.below B0) rfl (by simp only [maxLen]; omega) (by omega) ?_; intro A1 n1 c1 W1 own1 B1)
    go_ret
    exact ⟨A1, n1, c1, rfl, by simpa using own1, B0.trans B1⟩

end Go.Proofs.YtnhnbblplnhmlaaGreatDoor
