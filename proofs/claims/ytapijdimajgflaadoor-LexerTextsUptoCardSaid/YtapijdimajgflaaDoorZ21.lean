/- Same of the reference at two slices of the same tokens. -/
import Derived.Test.YtapijdimajgflaaDoorZ16
namespace Go.Proofs.YtapijdimajgflaaDoor
open Go.RowKit Go.Sort Go.ChangeShapes Go.WideShapes
set_option linter.unusedVariables false

theorem hid_some2 {α : Type} {l : List α} {k : Nat} {x y : α} (h : Hid (l[k]? = some x)) (g : Hid (l[k]? = some y)) : y = x := by
  have := h.out.symm.trans g.out
  injection this with this
  exact this.symm

set_option maxRecDepth 100000 in
set_option maxHeartbeats 2000000 in
theorem zsame_b (A A2 : Option Addr) (n n2 c c2 : Nat) (ts : List Tk) (w : World) (R1 : RdT w w.heap.size A n ts) (R2 : RdT w w.heap.size A2 n2 ts) (hn : n ≤ 9223372036854775807) :
    Calls Tryd.prog 12 #[.slice A n c, .slice A2 n2 c2] w fun e w' => e = .returned (.bool true) ∧ Below w.heap.size w w' := by
  obtain rfl : n2 = n := by rw [← R1.len, ← R2.len]
  have K1 := Lib.hid R1
  have K2 := Lib.hid R2
  clear R1 R2
  go_enter Tryd.func12, Tryd.ntmps12
  go_wp2
  go_loopw [5] (fun i wr => ∃ k : Nat, k ≤ n2 ∧ i = .int .i64 k ∧ Below w.heap.size w wr) (fun i _ => n2 - (intOf i).toNat)
  case atStart => exact ⟨0, Nat.zero_le _, rfl, Below.refl _ _⟩
  case round =>
    obtain ⟨k, hk, rfl, BB⟩ := hrel
    rename World => wr
    by_cases hlt : k < n2
    · obtain ⟨b1, o1, ⟨x, y, z, u⟩, rfl, l1, q1, hx⟩ := (K1.out.below BB).at_ hlt
      obtain ⟨b2, o2, T2, rfl, l2, q2, hy⟩ := (K2.out.below BB).at_ hlt
      obtain rfl : T2 = ⟨x, y, z, u⟩ := hid_some2 hx hy
      have r1 : wr.rangeAt b1 (o1 + k * 4) [.int .i64 x, .string (strOfNums y), .int .i64 z, .int .i64 u] := q1
      have r2 : wr.rangeAt b2 (o2 + k * 4) [.int .i64 x, .string (strOfNums y), .int .i64 z, .int .i64 u] := q2
      obtain ⟨yy, hyy⟩ : ∃ yy, strOfNums y = yy := ⟨_, rfl⟩
      rw [hyy] at r1 r2
      clear hx hy q1 q2 K1 K2 hyy
      go_wp2_with fail
      refine wp_region_quiet_below (by kernel_rfl) (by kernel_rfl) ?_
      repeat (first
        | (go_big_quiet_want; refine quiet_eload _ _ rfl rowTok rfl (fun W hW => rangeAt_on r1 (below_regrown' hW)) rfl ?_; go_simp; go_big_quiet_on)
        | (go_big_quiet_want; refine quiet_eload _ _ rfl rowTok rfl (fun W hW => rangeAt_on r2 (below_regrown' hW)) rfl ?_; go_simp; go_big_quiet_on)
        | go_big_quiet_step (fail) | quiet_step (fail))
      refine wpQuiet_nil ?_
      intro W hw'
      have B := below_regrown' hw'
      clear hw'
      replace BB := bon BB B
      go_wp2
      go_roundw
      case rel => exact ⟨k + 1, by omega, by go_num, BB⟩
      case measure => simp [intOf]; omega
    · obtain rfl : k = n2 := by omega
      go_wp2
      go_ret
      exact ⟨rfl, BB⟩

end Go.Proofs.YtapijdimajgflaaDoor
