/- The walk of CodecStores. -/
import Derived.Test.YtaimkplcnkbjlaaC10
import Derived.Test.YtaimkplcnkbjlaaPow
namespace Go.Proofs.Ytaimkplcnkbjlaa
open Go.RowKit Go.Sort

theorem putL_out {l : List Int} {p : Nat} {v : Int} {m k : Nat} (h : k < p ∨ p + m ≤ k) : (putL l p v m)[k]? = l[k]? := by
  induction m with
  | zero => rfl
  | succ m ih =>
    rw [putL, List.getElem?_set_ne (by omega)]
    exact ih (by omega)

theorem putL_in {l : List Int} {p : Nat} {v : Int} {m j : Nat} (hl : p + m ≤ l.length) (h : j < m) : (putL l p v m)[p + j]? = some (v / 256 ^ j % 256) := by
  induction m with
  | zero => omega
  | succ m ih =>
    rw [putL]
    by_cases e : j = m
    · subst e
      rw [List.getElem?_set_self (by rw [putL_len]; omega)]
    · rw [List.getElem?_set_ne (by omega)]
      exact ih (by omega) (by omega)

/-- What was put is read. -/
theorem litv_put {l : List Int} {p : Nat} {v : Int} {m : Nat} (hl : p + m ≤ l.length) (j : Nat) (hj : j ≤ m) : litv (part (putL l p v m) p j) = v % 256 ^ j := by
  induction j with
  | zero => simp [part, litv]
  | succ j ih =>
    have hx := Lib.hid (putL_in (v := v) hl (show j < m by omega))
    rw [lit_on (n := l.length) (putL_len _ _ _ _) (by omega) hx, ih (by omega), pow256_succ]
    have hp := pow256_pos j
    have h1 := Int.mul_ediv_add_emod v (256 ^ j)
    have h2 := Int.mul_ediv_add_emod (v / 256 ^ j) 256
    obtain ⟨P, hP⟩ : ∃ P, P = (256 : Int) ^ j := ⟨_, rfl⟩
    rw [← hP] at h1 h2 hp ⊢
    have r0 := Int.emod_nonneg v (show P ≠ 0 by omega)
    have r1 := Int.emod_lt_of_pos v (show 0 < P by omega)
    have s0 := Int.emod_nonneg (v / P) (show (256 : Int) ≠ 0 by omega)
    have s1 := Int.emod_lt_of_pos (v / P) (show (0 : Int) < 256 by omega)
    obtain ⟨q, hq⟩ : ∃ q, q = v / P / 256 := ⟨_, rfl⟩
    obtain ⟨r, hr⟩ : ∃ r, r = v % P := ⟨_, rfl⟩
    obtain ⟨s, hs⟩ : ∃ s, s = v / P % 256 := ⟨_, rfl⟩
    rw [← hr] at h1 r0 r1 ⊢
    rw [← hs, ← hq] at h2
    rw [← hs] at s0 s1 ⊢
    have hm : s * P ≤ 255 * P := Int.mul_le_mul_of_nonneg_right (by omega) (by omega)
    have hm0 : 0 ≤ s * P := Int.mul_nonneg s0 (by omega)
    have hv : v = (r + s * P) + 256 * P * q := by
      rw [← h1, ← h2, Int.mul_add, Int.mul_comm P s, ← Int.mul_assoc, Int.mul_comm P 256]
      omega
    rw [hv, Int.add_mul_emod_self_left, Int.emod_eq_of_lt (by omega) (by omega)]

theorem mask_i64 (v : Int) (m : Nat) (h : m ≤ 4) : bits .and .i64 v (256 ^ m - 1) = v % 256 ^ m := by
  have e : pw ((8 * m : Nat) : Int) = 256 ^ m := by unfold pw; rw [Int.toNat_natCast, pow_8]
  rw [← e]
  exact and_pw v _ (by omega) (by omega)

theorem wrap_mask (M : Int) (h0 : 1 ≤ M) (h1 : M ≤ 4294967296) : wrap64 (wrap64 M - 1) = M - 1 := by
  rw [IntWalk.wrap64_in M ⟨by omega, by omega⟩]
  exact IntWalk.wrap64_in (M - 1) ⟨by omega, by omega⟩

theorem mask_w (v : Int) (m : Nat) (h : m ≤ 4) : bits .and .i64 v (wrap64 (wrap64 (2 ^ (8 * m)) - 1)) = v % 256 ^ m := by
  have h4 := pow256_le h
  rw [show (256 : Int) ^ 4 = 4294967296 by decide] at h4
  rw [pow_8, wrap_mask _ (pow256_pos m) h4]
  exact mask_i64 v m h

theorem byte_eq {l l2 : List Int} {k : Nat} {x y : Int} (h : l2[k]? = l[k]?) (hx : Hid (l[k]? = some x)) (hy : Hid (l2[k]? = some y)) : y = x := by
  have := hx.out.symm.trans (h.symm.trans hy.out)
  injection this with this
  exact this.symm

set_option maxRecDepth 100000 in
set_option maxHeartbeats 2000000 in
theorem stores_yes (A : Option Addr) (n c p m : Nat) (l : List Int) (v : Int) (w : World) (R : Rd w w.heap.size .u8 A n l) (hn : n ≤ 140737488355328) (m1 : 1 ≤ m) (m4 : m ≤ 4) (hp : p + m ≤ n) :
    Calls Try.prog 8 #[.slice A n c, .int .i64 p, .int .i64 m, .int .i64 v] w fun e w' => e = .returned (.bool true) ∧ Below w.heap.size w w' := by
  have hn' : n ≤ 9223372036854775807 := by omega
  have HL := Lib.hid R.len
  have hlit := litv_put (l := l) (p := p) (v := v) (m := m) (by rw [R.len]; exact hp) m (Nat.le_refl _)
  have hmask := mask_w v m m4
  obtain ⟨X, hX⟩ : ∃ X, v % 256 ^ m = X := ⟨_, rfl⟩
  rw [hX] at hlit hmask
  have HMW := Lib.hid hmask.symm
  have HX := Lib.hid hlit
  have HP := Lib.hid hp
  clear hlit hX hmask
  have hpi : (p : Int) + m ≤ n := by omega
  go_enter Try.func8, Try.ntmps8
  go_wp2_with (go_at_call 34; refine (putLittle_yes _ _ _ _ _ _ _ _ R hn m1 m4 hp).mono ?_; rintro _ W1 ⟨A1, n1, c1, rfl, own1, B1⟩; obtain rfl : n1 = n := by rw [← own1.len, putL_len, HL.out])
  have RB := R.on B1
  have RC := own1.rd
  clear own1 R
  go_loopw [54] (fun i wr => ∃ k : Nat, k ≤ n1 ∧ i = .int .i64 k ∧ Below W1.heap.size W1 wr) (fun i _ => n1 - (intOf i).toNat)
  case atStart => exact ⟨0, by omega, by go_num, Below.refl _ _⟩
  case round =>
    obtain ⟨k, hk, rfl, BB⟩ := hrel
    by_cases hlt : k < n1
    · obtain ⟨b1, o1, x, hA1, c1, x0, x1, hx⟩ := (RB.below BB).byte hlt
      obtain ⟨b2, o2, y, hA2, c2, _, _, hy⟩ := (RC.below BB).byte hlt
      have hki : (k : Int) < (n1 : Int) := by omega
      by_cases h1 : k < p
      · as_aux_lemma =>
          obtain rfl : y = x := byte_eq (putL_out (.inl h1)) hx hy
          subst hA1 hA2
          have h1i : (k : Int) < (p : Int) := by omega
          go_wp2_with fail
          have k_c1 := cell_regrown c1
          have k_c2 := cell_regrown c2
          refine wp_region_quiet_below (by kernel_rfl) (by kernel_rfl) ?_
          repeat (first | go_big_quiet_step ((first | fail)) | quiet_step ((first | fail)))
          refine wpQuiet_nil ?_
          intro W hw'
          have B := below_regrown' hw'
          clear hw' k_c1 k_c2
          replace BB := bon BB B
          replace c1 := cell_below B c1
          replace c2 := cell_below B c2
          go_wp2
          go_roundw
          case rel => exact ⟨k + 1, by omega, by go_num, BB⟩
          case measure => simp [intOf]; omega
      · by_cases h2 : p + m ≤ k
        · as_aux_lemma =>
            obtain rfl : y = x := byte_eq (putL_out (.inr h2)) hx hy
            subst hA1 hA2
            have h1i : (p : Int) ≤ (k : Int) := by omega
            have h2i : (p : Int) + m ≤ (k : Int) := by omega
            have hd1 : decide ((k : Int) < (p : Int)) = false := by simp; omega
            go_wp2_with fail
            have k_c1 := cell_regrown c1
            have k_c2 := cell_regrown c2
            refine wp_region_quiet_below (by kernel_rfl) (by kernel_rfl) ?_
            repeat (first | go_big_quiet_step ((first | fail)) | quiet_step ((first | fail)))
            refine wpQuiet_nil ?_
            intro W hw'
            have B := below_regrown' hw'
            clear hw' k_c1 k_c2
            replace BB := bon BB B
            replace c1 := cell_below B c1
            replace c2 := cell_below B c2
            go_wp2
            go_roundw
            case rel => exact ⟨k + 1, by omega, by go_num, BB⟩
            case measure => simp [intOf]; omega
        · as_aux_lemma =>
            have h1i : (p : Int) ≤ (k : Int) := by omega
            have h2i : (k : Int) < (p : Int) + m := by omega
            have hd1 : decide ((k : Int) < (p : Int)) = false := by simp; omega
            have hd2 : decide ((p : Int) + m ≤ (k : Int)) = false := by simp; omega
            go_wp2_with fail
            have k_c1 := cell_regrown c1
            have k_c2 := cell_regrown c2
            refine wp_region_quiet_below (by kernel_rfl) (by kernel_rfl) ?_
            repeat (first | go_big_quiet_step ((first | fail)) | quiet_step ((first | fail)))
            refine wpQuiet_nil ?_
            intro W hw'
            have B := below_regrown' hw'
            clear hw' k_c1 k_c2
            replace BB := bon BB B
            replace c1 := cell_below B c1
            replace c2 := cell_below B c2
            go_wp2
            go_roundw
            case rel => exact ⟨k + 1, by omega, by go_num, BB⟩
            case measure => simp [intOf]; omega
    · as_aux_lemma =>
      obtain rfl : k = n1 := by omega
      have hlw := fun W R => little_yes A1 k c1 p m (putL l p v m) W R hn' m1 m4 hp
      rw [HX.out] at hlw
      have HW := Lib.hid hlw
      clear hlw
      go_wp2_with (first
        | (go_at_call 32; refine (HW.out _ (RC.on BB)).mono ?_; rintro _ W2 ⟨rfl, B⟩; replace BB := bon BB B; clear B)
        | (go_at_call 20; refine (example_b _).mono ?_; rintro _ W3 ⟨rfl, B⟩; replace BB := bon BB B; clear B))
      all_goals first
        | (exfalso; exact absurd HMW.out (by assumption))
        | (go_ret; exact ⟨rfl, bon B1 BB⟩)

end Go.Proofs.Ytaimkplcnkbjlaa
