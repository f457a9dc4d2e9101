/- The chapter's example; the walks of PermuteNextInjective, PermuteBelowRange. -/
import Derived.Test.YtjlgekfgldmkhaaP8
namespace Go.Proofs.Ytjlgekfgldmkhaa
open Go.RowKit Go.Sort

/-- A literal of ints that has just been laid. -/
theorem rd_lit (W : World) (cs : Array Value) (e : TypeId) (l : List Int) (n : Nat) (hl : l.length = n) (hr : ∀ x ∈ l, IntKind.i64.min ≤ x ∧ x ≤ IntKind.i64.max) (hc : ∀ (j : Nat) (x : Int), l[j]? = some x → cs[j]? = some (Value.int .i64 x)) :
    Rd (W.alloc (.cells cs e)) (W.alloc (.cells cs e)).heap.size .i64 (some ⟨W.heap.size, 0, none⟩) n l :=
  ⟨hl, hr, fun _ => ⟨W.heap.size, 0, rfl, by simp, fun j x hx => by rw [Nat.zero_add]; exact box_cell W cs e j _ (hc j x hx)⟩⟩

theorem prm_one : prm 1 9 = ([0], 9) := rfl

theorem invv_ex : invv [2, 0, 1] = ([1, 2, 0], 0) := by
  unfold invv
  rw [isPB_yes (isP_of_nodup (by decide) (by decide)), if_pos rfl]
  rfl

set_option maxRecDepth 100000 in
theorem example_b (w : World) : Calls Try.prog 17 #[] w fun e w' => e = .returned (.bool true) ∧ Below w.heap.size w w' := by
  have BB : Below w.heap.size w w := Below.refl _ _
  have c1 := fun W => perm_b 1 9 W (by omega)
  rw [prm_one] at c1
  have c2 := fun A n c W R => inverse_b A n c [2, 0, 1] W R
  rw [invv_ex] at c2
  have C1 := Lib.hid c1
  have C2 := Lib.hid c2
  clear c1 c2
  go_enter Try.func17, Try.ntmps17
  go_wp2_with (first
    | (go_at_call 14; refine (C1.out _).mono ?_; rintro _ W1 ⟨A1, n1, d1, rfl, own1, B⟩; obtain rfl : n1 = 1 := own1.len.symm; have R1 := own1.rd; clear own1; replace BB := bon BB B; clear B)
    | (go_at_call 18; refine (C2.out _ _ _ _ (rd_lit W1 _ _ [2, 0, 1] _ rfl (by decide) (by intro j x hx; match j, hx with | 0, hx => simp at hx; subst hx; rfl | 1, hx => simp at hx; subst hx; rfl | 2, hx => simp at hx; subst hx; rfl)) (by decide)).mono ?_; rintro _ W2 ⟨A2, n2, d2, rfl, own2, B⟩; replace R1 := (R1.on (box_below _ _ _)).on B; obtain ⟨b1, o1, x1, rfl, cx1, _, _, hx1⟩ := R1.int (show 0 < 1 by omega); obtain rfl : x1 = 0 := (by have h := hx1.out; simp at h; exact h.symm); clear hx1 R1; rw [Nat.add_zero] at cx1; replace BB := bon (bon BB (box_below _ _ _)) B; have R2 := own2.rd; clear own2 B)
    | (go_at_call 16; refine (rsame_b _ _ _ _ _ _ _ _ _ _ (R2.below ((Below.refl _ _).alloc (Nat.le_refl _) _)) (rd_lit W2 _ _ [1, 2, 0] _ rfl (by decide) (by intro j x hx; match j, hx with | 0, hx => simp at hx; subst hx; rfl | 1, hx => simp at hx; subst hx; rfl | 2, hx => simp at hx; subst hx; rfl)) (by simp) (by simp) (by have := R2.len; simp at this; omega)).mono ?_; rintro _ W3 ⟨rfl, B⟩; replace BB := bon (bon BB (box_below _ _ _)) B; clear B R2))
  go_ret
  exact ⟨rfl, BB⟩

end Go.Proofs.Ytjlgekfgldmkhaa
