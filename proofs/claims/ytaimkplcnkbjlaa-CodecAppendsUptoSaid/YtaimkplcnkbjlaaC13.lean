/- The walk of CodecAppends. -/
import Derived.Test.YtaimkplcnkbjlaaC10
import Derived.Test.YtaimkplcnkbjlaaGrow
namespace Go.Proofs.Ytaimkplcnkbjlaa
open Go.RowKit Go.Sort

theorem flat_len (v : List Int) (h : ∀ x ∈ v, IntKind.i64.min ≤ x ∧ x ≤ IntKind.i64.max) : (v.flatMap encI).length ≤ 10 * v.length := by
  induction v with
  | nil => simp
  | cons x r ih =>
    have h1 := h x (by simp)
    rw [i64_min, i64_max] at h1
    have h2 := encI_len x h1.1 h1.2
    have h3 := ih fun y hy => h y (by simp [hy])
    simp only [List.flatMap_cons, List.length_append, List.length_cons]
    omega

theorem encL_len (v : List Int) (h : ∀ x ∈ v, IntKind.i64.min ≤ x ∧ x ≤ IntKind.i64.max) (hl : v.length ≤ 9223372036854775807) : (encL v).length ≤ 10 + 10 * v.length := by
  have h1 := encI_len v.length (by omega) (by omega)
  have h2 := flat_len v h
  unfold encL
  simp only [List.length_append]
  omega

theorem encS_len (s : ByteArray) (hs : s.size ≤ 9223372036854775807) : (encS s).length ≤ 10 + s.size := by
  have h1 := encI_len s.size (by omega) (by omega)
  unfold encS
  simp only [List.length_append, strL_len]
  omega

theorem encB_len (x : Bool) : (encB x).length = 1 := by cases x <;> rfl

/-- Both texts' encodings are the same bytes. -/
theorem appends_one (A : Option Addr) (n : Nat) (l : List Int) (x : Int) (w : World) (R : Rd w w.heap.size .u8 A n l) (hn : n ≤ 1048576) (x0 : -9223372036854775808 ≤ x) (x1 : x ≤ 9223372036854775807) : l.length + (encI x).length ≤ 140737488355328 := by
  have := encI_len x x0 x1
  have := R.len
  omega

set_option maxRecDepth 100000 in
set_option maxHeartbeats 2000000 in
theorem appends_walk (A V : Option Addr) (n c m d : Nat) (l v : List Int) (s : ByteArray) (w : World) (R : Rd w w.heap.size .u8 A n l) (RV : Rd w w.heap.size .i64 V m v) (hn : n ≤ 1048576) (hm : m ≤ 1048576) (hs : s.size ≤ 1048576) :
    Calls Try.prog 3 #[.slice A n c, .slice V m d, .string s] w fun e w' => e = .returned (.bool true) ∧ Below w.heap.size w w' := by
  have HV := Lib.hid RV.len
  have HL := Lib.hid R.len
  have hL1 : Hid ((l ++ encL v).length ≤ 140737488355328) := Lib.hid (by
    have := encL_len v RV.rng (by rw [RV.len]; omega)
    rw [List.length_append, R.len]; rw [RV.len] at this; omega)
  have hS1 : Hid ((l ++ encS s).length ≤ 140737488355328) := Lib.hid (by
    have := encS_len s (by omega)
    rw [List.length_append, R.len]; omega)
  have hB1 : Hid (l.length + 1 ≤ 140737488355328) := Lib.hid (by rw [R.len]; omega)
  go_enter Try.func3, Try.ntmps3
  go_wp2_with fail
  go_loopw [10] (fun i wr => ∃ k : Nat, k ≤ m ∧ i = .int .i64 k ∧ Below w.heap.size w wr) (fun i _ => m - (intOf i).toNat)
  case atStart => exact ⟨0, by omega, by go_num, Below.refl _ _⟩
  case round =>
    obtain ⟨k, hk, rfl, BB⟩ := hrel
    by_cases hlt : k < m
    · obtain ⟨b, off, x, rfl, cx, x0, x1, hx⟩ := (RV.below BB).int hlt
      have hb := Lib.hid (appends_one A n l x w R hn x0 x1)
      have hki : (k : Int) < (m : Int) := by omega
      go_wp2_with fail
      refine wp_region_grow [0, 1, 2, 3, 4, 6, 7, 8, 9, 10, 5, 11, 12, 13] (by kernel_rfl) (by kernel_rfl) ?_
      intro W B
      replace BB := bon BB B
      replace cx := cell_below B cx
      clear B
      have k_cx := cell_regrown cx
      refine grow_read rfl rfl ?_
      (first | go_big_quiet_step (fail) | quiet_step (fail))
      refine wpQuiet_nil ?_
      refine grow_read rfl rfl ?_
      (first | go_big_quiet_step (fail) | quiet_step (fail))
      refine wpQuiet_nil ?_
      refine grow_read rfl rfl ?_
      (first | go_big_quiet_step (fail) | quiet_step (fail))
      refine wpQuiet_nil ?_
      refine grow_read rfl rfl ?_
      (first | go_big_quiet_step (fail) | quiet_step (fail))
      refine wpQuiet_nil ?_
      refine grow_read rfl rfl ?_
      (first | go_big_quiet_step (fail) | quiet_step (fail))
      refine wpQuiet_nil ?_
      refine grow_read rfl rfl ?_
      (first | go_big_quiet_step (fail) | quiet_step (fail))
      refine wpQuiet_nil ?_
      refine grow_read rfl rfl ?_
      (first | go_big_quiet_step (fail) | quiet_step (fail))
      refine wpQuiet_nil ?_
      refine grow_read rfl rfl ?_
      (first | go_big_quiet_step (fail) | quiet_step (fail))
      refine wpQuiet_nil ?_
      refine grow_read rfl rfl ?_
      (first | go_big_quiet_step (fail) | quiet_step (fail))
      refine wpQuiet_nil ?_
      refine grow_read rfl rfl ?_
      (first | go_big_quiet_step (fail) | quiet_step (fail))
      refine wpQuiet_nil ?_
      clear k_cx
      refine grow_call rfl rfl ?_
      go_wp2_with (go_at_call 12; refine (appendInt_b _ _ _ _ _ _ (R.on BB) x0 x1 hb.out).mono ?_; rintro _ _ ⟨A1, n1, c1, rfl, _, R1, B⟩; replace BB := bon BB B; replace cx := cell_below B cx)
      refine ⟨Grows.of B, ?_⟩
      clear B
      have k_cx := cell_regrown cx
      clear k_cx
      refine grow_call rfl rfl ?_
      go_wp2_with (go_at_call 13; refine (rappendInt_b _ _ _ _ _ _ (R.on BB) x0 x1 hb.out).mono ?_; rintro _ _ ⟨A2, n2, c2, rfl, own2, B⟩; replace R1 := R1.on B; replace BB := bon BB B; replace cx := cell_below B cx)
      refine ⟨Grows.of B, ?_⟩
      clear B
      have k_cx := cell_regrown cx
      clear k_cx
      refine grow_call rfl rfl ?_
      go_wp2_with (go_at_call 11; refine (same_b _ _ _ _ _ _ _ _ _ _ R1 own2.rd (Nat.le_refl _) (Nat.le_refl _) (by have h1 := R1.len; have h2 := hb.out; simp only [List.length_append] at h1; omega)).mono ?_; rintro _ _ ⟨rfl, B⟩; replace BB := bon BB B; replace cx := cell_below B cx)
      refine ⟨Grows.of B, ?_⟩
      clear B
      have k_cx := cell_regrown cx
      refine grow_read rfl rfl ?_
      (first | go_big_quiet_step (fail) | quiet_step (fail))
      refine wpQuiet_nil ?_
      clear k_cx
      refine grow_nil ?_
      go_wp2
      go_roundw
      case rel => exact ⟨k + 1, by omega, by go_num, BB⟩
      case measure => simp [intOf]; omega
    · obtain rfl : k = m := by omega
      have hq1 : ∀ (W : World) (A1 : Option Addr) (n1 : Nat), Rd W W.heap.size .u8 A1 n1 (l ++ encL v) → n1 ≤ 9223372036854775807 := fun W A1 n1 h => by have h1 := h.len; have h2 := hL1.out; omega
      have hq2 : ∀ (W : World) (A1 : Option Addr) (n1 : Nat), Rd W W.heap.size .u8 A1 n1 (l ++ encS s) → n1 ≤ 9223372036854775807 := fun W A1 n1 h => by have h1 := h.len; have h2 := hS1.out; omega
      have hq3 : ∀ (W : World) (A1 : Option Addr) (n1 : Nat) (x : Bool), Rd W W.heap.size .u8 A1 n1 (l ++ encB x) → n1 ≤ 9223372036854775807 := fun W A1 n1 x h => by have h1 := h.len; have h2 := hB1.out; rw [List.length_append, encB_len] at h1; omega
      have Q1 := Lib.hid hq1
      have Q2 := Lib.hid hq2
      have Q3 := Lib.hid hq3
      clear hq1 hq2 hq3
      go_wp2_with (first
        | (go_at_call 14; refine (appendInts_b _ _ _ _ _ _ _ _ _ (R.on BB) (RV.on BB) (by omega) hL1.out).mono ?_; rintro _ W1 ⟨A1, n1, c1, rfl, own1, B⟩; have R1 := own1.rd; clear own1; replace BB := bon BB B; clear B)
        | (go_at_call 15; refine (rappendInts_b _ _ _ _ _ _ _ _ _ (R.on BB) (RV.on BB) (by omega) hL1.out).mono ?_; rintro _ W2 ⟨A2, n2, c2, rfl, _, R2, B⟩; replace R1 := R1.on B; replace BB := bon BB B; clear B)
        | (go_at_call 16; refine (appendString_b _ _ _ _ _ _ (R.on BB) (by omega) hS1.out).mono ?_; rintro _ W1 ⟨A1, n1, c1, rfl, own1, B⟩; have R1 := own1.rd; clear own1; replace BB := bon BB B; clear B)
        | (go_at_call 17; refine (rappendString_b _ _ _ _ _ _ (R.on BB) (by omega) hS1.out).mono ?_; rintro _ W2 ⟨A2, n2, c2, rfl, own2, B⟩; have R2 := own2.rd; clear own2; replace R1 := R1.on B; replace BB := bon BB B; clear B)
        | (go_at_call 18; refine (appendBool_b _ _ _ _ _ _ (R.on BB) hB1.out).mono ?_; rintro _ W1 ⟨A1, n1, c1, rfl, own1, B⟩; have R1 := own1.rd; clear own1; replace BB := bon BB B; clear B)
        | (go_at_call 19; refine (rappendBool_b _ _ _ _ _ _ (R.on BB) hB1.out).mono ?_; rintro _ W2 ⟨A2, n2, c2, rfl, own2, B⟩; have R2 := own2.rd; clear own2; replace R1 := R1.on B; replace BB := bon BB B; clear B)
        | (go_at_call 11; refine (same_b _ _ _ _ _ _ _ _ _ _ R1 R2 (Nat.le_refl _) (Nat.le_refl _) (by first | exact Q1.out _ _ _ R1 | exact Q2.out _ _ _ R1 | exact Q3.out _ _ _ _ R1)).mono ?_; rintro _ W3 ⟨rfl, B⟩; replace BB := bon BB B; clear B R1 R2)
        | (go_at_call 20; refine (example_b _).mono ?_; rintro _ W1 ⟨rfl, B⟩; replace BB := bon BB B; clear B))
      go_ret
      exact ⟨rfl, BB⟩

end Go.Proofs.Ytaimkplcnkbjlaa
