/- Equal lists of strings are the same. -/
import Derived.Test.YthancgnmbmempaaDoorF8
namespace Go.Proofs.YthancgnmbmempaaDoor
open Go.RowKit Go.Sort

theorem hid_someS {l : List ByteArray} {j : Nat} {x y : ByteArray} (hx : Hid (l[j]? = some x)) (hy : Hid (l[j]? = some y)) : y = x := by
  have h := hx.out.symm.trans hy.out
  injection h with h
  exact h.symm

set_option maxRecDepth 100000 in
theorem lsame_b (A A2 : Option Addr) (n n2 c c2 B1 B2 : Nat) (l : List ByteArray) (w : World) (R1 : RdS w B1 A n l) (R2 : RdS w B2 A2 n2 l) (h1 : B1 ≤ w.heap.size) (h2 : B2 ≤ w.heap.size) (hn : n ≤ 9223372036854775807) :
    Calls Tryd.prog 23 #[.slice A n c, .slice A2 n2 c2] w fun e w' => e = .returned (.bool true) ∧ Below w.heap.size w w' := by
  obtain rfl : n2 = n := by rw [← R1.len, ← R2.len]
  go_enter Tryd.func23, Tryd.ntmps23
  go_wp2
  go_loopw [5] (fun i wr => ∃ k : Nat, k ≤ n2 ∧ i = .int .i64 k ∧ Below w.heap.size w wr) (fun i _ => n2 - (intOf i).toNat)
  case atStart => exact ⟨0, Nat.zero_le _, rfl, Below.refl _ _⟩
  case round =>
    obtain ⟨k, hk, rfl, BB⟩ := hrel
    by_cases hlt : k < n2
    · obtain ⟨b1, o1, x, rfl, _, c1, hx⟩ := (R1.below (BB.mono h1)).at_ hlt
      obtain ⟨b2, o2, y, rfl, _, c2, hy⟩ := (R2.below (BB.mono h2)).at_ hlt
      obtain rfl : y = x := hid_someS hx hy
      clear R1 R2
      go_wp2_with fail
      have k_c1 := cell_regrown c1
      have k_c2 := cell_regrown c2
      refine wp_region_quiet_below (by kernel_rfl) (by kernel_rfl) ?_
      repeat (first | go_big_quiet_step ((first | fail)) | quiet_step ((first | fail)))
      refine wpQuiet_nil ?_
      intro W hw'
      have B := below_regrown' hw'
      clear hw' k_c1 k_c2
      replace BB := bon BB B
      replace c1 := cell_below B c1
      replace c2 := cell_below B c2
      go_wp2
      go_roundw
      case rel => exact ⟨k + 1, by omega, by go_num, BB⟩
      case measure => simp [intOf]; omega
    · obtain rfl : k = n2 := by omega
      clear R1 R2
      go_wp2
      go_ret
      exact ⟨rfl, BB⟩

end Go.Proofs.YthancgnmbmempaaDoor
