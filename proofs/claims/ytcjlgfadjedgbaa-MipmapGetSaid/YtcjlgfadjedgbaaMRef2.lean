/- What Encode and Quantize of the reference return. -/
import Derived.Test.YtcjlgfadjedgbaaMRef
namespace Go.Proofs.Ytcjlgfadjedgbaa
open Go.RowKit Go.Sort

set_option maxRecDepth 100000 in
theorem rencode_no (e m x : Int) (s : Bool) (w : World) (h : ¬ (2 ≤ e ∧ e ≤ 5 ∧ 1 ≤ m ∧ m ≤ 10)) :
    Calls Try.prog 65 #[.agg #[.int .i64 e, .int .i64 m, .bool s], .int .i64 x] w fun y w' => y = .returned (.int .i64 0) ∧ Below w.heap.size w w' := by
  obtain ⟨c0, c1, c2, BB⟩ := box3 w (.int .i64 e) (.int .i64 m) (.bool s) 77
  have H := Lib.hid h
  clear h
  go_enter Try.func65, Try.ntmps65
  go_wp2_with (first | (go_at_call 91; refine (rvalid_no _ _ _ _ H.out).mono ?_; rintro _ _ ⟨rfl, B⟩; replace BB := bon BB B; replace c0 := cell_below B c0; replace c1 := cell_below B c1; replace c2 := cell_below B c2))
  go_ret
  exact ⟨rfl, BB⟩

/-- The absolute value of the saturated number. -/
def mag (x : Int) : Int := if x < 0 then -sat x else sat x
theorem mag_bd (x : Int) : 0 ≤ mag x ∧ mag x < 536870912 := by
  have := sat_bd x
  have := sat_neg_iff x
  unfold mag; split <;> omega

set_option maxRecDepth 100000 in
set_option maxHeartbeats 1000000 in
theorem rencode_loop (e m x y : Int) (s : Bool) (w : World) (h1 : 2 ≤ e) (h2 : e ≤ 5) (h3 : 1 ≤ m) (h4 : m ≤ 10) (hs : x < 0 → s = true)
    (hy : y = if x < 0 ∧ 0 < encm e m (mag x) then encm e m (mag x) + pw (e + m) else encm e m (mag x)) :
    Calls Try.prog 65 #[.agg #[.int .i64 e, .int .i64 m, .bool s], .int .i64 x] w fun z w' => z = .returned (.int .i64 y) ∧ Below w.heap.size w w' := by
  obtain ⟨c0, c1, c2, BB⟩ := box3 w (.int .i64 e) (.int .i64 m) (.bool s) 77
  have HY := Lib.hid hy
  clear hy
  have mb := mag_bd x
  have tb := sat_bd x
  have HM : Hid (mag x = if x < 0 then -sat x else sat x) := Lib.hid rfl
  have HT : Hid (sat x = if x < -536870911 then -536870911 else if 536870911 < x then 536870911 else x) := Lib.hid rfl
  have ob := most_bd e m h1 h3
  have HO : Hid (most e m = (pw e - 1) * pw m - 1) := Lib.hid rfl
  have p1 := pw_pos m
  have p2 : pw m ≤ 1024 := pw_le _ 10 (by omega)
  have p3 := pw_pos e
  have p4 : pw e ≤ 32 := pw_le _ 5 (by omega)
  have p5 : pw e * pw m ≤ 32768 := by rw [← pw_em e m h1 h3]; exact pw_le _ 15 (by omega)
  have i1 : IntKind.i64.wrap (pw e - 1) = pw e - 1 := IntWalk.i64_in _ (by omega)
  have m1 := mul_bd (pw e - 1) (pw m) 32 1024 (by omega) (by omega) (by omega) (by omega)
  have i2 : IntKind.i64.wrap ((pw e - 1) * pw m) = (pw e - 1) * pw m := IntWalk.i64_in _ (by omega)
  have i3 : IntKind.i64.wrap ((pw e - 1) * pw m - 1) = (pw e - 1) * pw m - 1 := IntWalk.i64_in _ (by omega)
  have hc : (x < -536870911 ∧ 137438953216 = 256 * mag x) ∨ (-536870911 ≤ x ∧ x < 0 ∧ -x * 256 = 256 * mag x) ∨ (0 ≤ x ∧ x ≤ 536870911 ∧ x * 256 = 256 * mag x) ∨ (536870911 < x ∧ 137438953216 = 256 * mag x) := by
    have a := HM.out
    have b := HT.out
    rcases Int.lt_or_le x (-536870911) with h | h
    · left; rw [if_pos (by omega)] at a; rw [if_pos h] at b; omega
    · right
      rcases Int.lt_or_le x 0 with h' | h'
      · left; rw [if_pos h'] at a; rw [if_neg (by omega), if_neg (by omega)] at b; omega
      · right
        rw [if_neg (by omega)] at a
        rcases Int.lt_or_le 536870911 x with h2 | h2
        · right; rw [if_neg (by omega), if_pos h2] at b; omega
        · left; rw [if_neg (by omega), if_neg (by omega)] at b; omega
  have hsx := Lib.hid hs
  clear hs
  generalize mag x = g at *
  have st := Lp.start e m g h1 h2 h3 h4 mb.1 mb.2
  have hend := pmx_end e m g h1 h2 h3 h4 mb.1 mb.2
  have hpb := pmx_bd e m g h1 h2 h3 h4 mb.1 mb.2
  have HE := Lib.hid hend
  clear hend HM HT
  rcases hc with ⟨hx1, hT⟩ | ⟨hx1, hx2, hT⟩ | ⟨hx1, hx2, hT⟩ | ⟨hx1, hT⟩
  all_goals
    have HTT := Lib.hid hT
    clear hT
    first
      | (have hx0 : x < 0 := (by omega); obtain rfl := hsx.out hx0)
      | skip
    go_enter Try.func65, Try.ntmps65
    go_wp2_with (first | (go_at_call 91; refine (rvalid_yes _ _ _ _ h1 h2 h3 h4).mono ?_; rintro _ _ ⟨rfl, B⟩; replace BB := bon BB B; replace c0 := cell_below B c0; replace c1 := cell_below B c1; replace c2 := cell_below B c2))
    have k_c0 := cell_regrown c0
    have k_c1 := cell_regrown c1
    have k_c2 := cell_regrown c2
    refine wp_region_quiet_below (by kernel_rfl) (by kernel_rfl) ?_
    repeat (first | go_big_quiet_step ((first | (go_at_call 92; exact Calls.regrown_of (power_b _ _ (by omega) (by omega))))) | quiet_step ((first | (go_at_call 92; exact Calls.regrown_of (power_b _ _ (by omega) (by omega))))))
    refine wpQuiet_nil ?_
    intro W hw'
    have B := below_regrown' hw'
    clear hw' k_c0 k_c1 k_c2
    replace BB := bon BB B
    replace c0 := cell_below B c0
    replace c1 := cell_below B c1
    replace c2 := cell_below B c2
    go_wp2_with fail
  generalize (137438953216 : Int) = T at *
  rotate_left
  generalize -x * 256 = T at *
  rotate_left
  generalize x * 256 = T at *
  rotate_left
  generalize (137438953216 : Int) = T at *
  rotate_left
  all_goals
    have T1 : T ≤ 256 * g := by have := HTT.out; omega
    have T2 : 256 * g ≤ T := by have := HTT.out; omega
    go_loopw [7, 8] (fun p i wr => ∃ P I : Int, ∃ r : Bool, Lp e m g I P ∧ p = .int .i64 P ∧ i = .int .i64 I ∧ Below w.heap.size w wr ∧ wr.cell? ⟨w.heap.size, 0, none⟩ = some (.int .i64 e) ∧ wr.cell? ⟨w.heap.size, 1, none⟩ = some (.int .i64 m) ∧ wr.cell? ⟨w.heap.size, 2, none⟩ = some (.bool r)) (fun _ i _ => (intOf i + 1).toNat)
    case atStart => exact ⟨0, e + m - 1, _, st, rfl, rfl, BB, c0, c1, c2⟩
    case round =>
      clear BB c0 c1 c2
      obtain ⟨P, I, r, hL, rfl, rfl, BB, c0, c1, c2⟩ := hrel
      have hL2 := hL
      obtain ⟨l1, l2, l3, l4, l5⟩ := hL2
      have HL := Lib.hid hL
      clear hL
      by_cases hI : 0 ≤ I
      · have w1 := pw_pos I
        have w2 : pw I ≤ 16384 := pw_le I 14 (by omega)
        have hiff := pmx_iff e m g (P + pw I) h1 h2 h3 h4 mb.1 mb.2 (by omega)
        have ho := HO.out
        by_cases hq : P + pw I ≤ pmx e m g
        · have hq2 := hiff.2 hq
          have hq3 : P + pw I ≤ (pw e - 1) * pw m - 1 := by omega
          have hq4 : scal e m (P + pw I) ≤ T := by omega
          clear hiff ho hq2
          go_wp2_with (first | (go_at_call 92; refine (power_b _ _ (by omega) (by omega)).mono ?_; rintro _ _ ⟨rfl, B⟩; replace BB := bon BB B; replace c0 := cell_below B c0; replace c1 := cell_below B c1; replace c2 := cell_below B c2) | (go_at_call 93; refine (rscaled_b _ _ _ _ _ h1 h2 h3 h4 (by omega) (by omega)).mono ?_; rintro _ _ ⟨rfl, B⟩; replace BB := bon BB B; replace c0 := cell_below B c0; replace c1 := cell_below B c1; replace c2 := cell_below B c2))
          go_roundw
          case rel => exact ⟨_, _, _, HL.out.yes hI hq, rfl, rfl, BB, c0, c1, c2⟩
          case measure => simp [intOf]; omega
        · by_cases hq2 : P + pw I ≤ (pw e - 1) * pw m - 1
          · have hq4 : T < scal e m (P + pw I) := by
              apply Classical.byContradiction; intro hn
              exact hq (hiff.1 ⟨by omega, by omega⟩)
            clear hiff ho
            go_wp2_with (first | (go_at_call 92; refine (power_b _ _ (by omega) (by omega)).mono ?_; rintro _ _ ⟨rfl, B⟩; replace BB := bon BB B; replace c0 := cell_below B c0; replace c1 := cell_below B c1; replace c2 := cell_below B c2) | (go_at_call 93; refine (rscaled_b _ _ _ _ _ h1 h2 h3 h4 (by omega) (by omega)).mono ?_; rintro _ _ ⟨rfl, B⟩; replace BB := bon BB B; replace c0 := cell_below B c0; replace c1 := cell_below B c1; replace c2 := cell_below B c2))
            go_roundw
            case rel => exact ⟨_, _, _, HL.out.no hI (by omega), rfl, rfl, BB, c0, c1, c2⟩
            case measure => simp [intOf]; omega
          · clear hiff ho
            go_wp2_with (first | (go_at_call 92; refine (power_b _ _ (by omega) (by omega)).mono ?_; rintro _ _ ⟨rfl, B⟩; replace BB := bon BB B; replace c0 := cell_below B c0; replace c1 := cell_below B c1; replace c2 := cell_below B c2) | (go_at_call 93; refine (rscaled_b _ _ _ _ _ h1 h2 h3 h4 (by omega) (by omega)).mono ?_; rintro _ _ ⟨rfl, B⟩; replace BB := bon BB B; replace c0 := cell_below B c0; replace c1 := cell_below B c1; replace c2 := cell_below B c2))
            go_roundw
            case rel => exact ⟨_, _, _, HL.out.no hI (by omega), rfl, rfl, BB, c0, c1, c2⟩
            case measure => simp [intOf]; omega
      · obtain rfl : I = -1 := by omega
        have hP := HL.out.done
        obtain ⟨E1, E2⟩ := HE.out
        rw [← hP] at E1 E2
        have ho := HO.out
        have w1 := pw_pos (e + m)
        have w2 : pw (e + m) ≤ 32768 := pw_le (e + m) 15 (by omega)
        by_cases hl : P < (pw e - 1) * pw m - 1
        · obtain ⟨g1, g2, g3⟩ := E2 (by omega)
          have HG := Lib.hid g3
          have sb1 := scal_bd e m P h1 h2 h3 h4
          have sb2 := scal_bd e m (P + 1) h1 h2 h3 h4
          clear E1 E2 g3 hP ho
          go_wp2_with (first | (go_at_call 92; refine (power_b _ _ (by omega) (by omega)).mono ?_; rintro _ _ ⟨rfl, B⟩; replace BB := bon BB B; replace c0 := cell_below B c0; replace c1 := cell_below B c1; replace c2 := cell_below B c2) | (go_at_call 93; refine (rscaled_b _ _ _ _ _ h1 h2 h3 h4 (by omega) (by omega)).mono ?_; rintro _ _ ⟨rfl, B⟩; replace BB := bon BB B; replace c0 := cell_below B c0; replace c1 := cell_below B c1; replace c2 := cell_below B c2))
          all_goals go_ret
          all_goals refine ⟨ret_int ?_, BB⟩
          all_goals rw [HY.out]
          all_goals have hg := HG.out
          all_goals clear HG HY HO HL HE HTT
          all_goals (generalize encm e m g = E at *)
          all_goals (try simp only [beq_iff_eq, beq_eq_false_iff_ne, ne_eq] at *)
          all_goals first
            | (split at hg <;> split <;> omega)
            | (split <;> omega)
        · have HG := Lib.hid (E1 (by omega))
          clear E1 E2 hP ho
          go_wp2_with (first | (go_at_call 92; refine (power_b _ _ (by omega) (by omega)).mono ?_; rintro _ _ ⟨rfl, B⟩; replace BB := bon BB B; replace c0 := cell_below B c0; replace c1 := cell_below B c1; replace c2 := cell_below B c2) | (go_at_call 93; refine (rscaled_b _ _ _ _ _ h1 h2 h3 h4 (by omega) (by omega)).mono ?_; rintro _ _ ⟨rfl, B⟩; replace BB := bon BB B; replace c0 := cell_below B c0; replace c1 := cell_below B c1; replace c2 := cell_below B c2))
          all_goals go_ret
          all_goals refine ⟨ret_int ?_, BB⟩
          all_goals rw [HY.out]
          all_goals have hg := HG.out
          all_goals clear HG HY HO HL HE HTT
          all_goals (generalize encm e m g = E at *)
          all_goals (try simp only [beq_iff_eq, beq_eq_false_iff_ne, ne_eq] at *)
          all_goals first
            | (split at hg <;> split <;> omega)
            | (split <;> omega)

/-- A negative number in a format without sign. -/
theorem rencode_neg (e m x : Int) (w : World) (h1 : 2 ≤ e) (h2 : e ≤ 5) (h3 : 1 ≤ m) (h4 : m ≤ 10) (hx : x < 0) :
    Calls Try.prog 65 #[.agg #[.int .i64 e, .int .i64 m, .bool false], .int .i64 x] w fun y w' => y = .returned (.int .i64 0) ∧ Below w.heap.size w w' := by
  obtain ⟨c0, c1, c2, BB⟩ := box3 w (.int .i64 e) (.int .i64 m) (.bool false) 77
  go_enter Try.func65, Try.ntmps65
  go_wp2_with (first | (go_at_call 91; refine (rvalid_yes _ _ _ _ h1 h2 h3 h4).mono ?_; rintro _ _ ⟨rfl, B⟩; replace BB := bon BB B; replace c0 := cell_below B c0; replace c1 := cell_below B c1; replace c2 := cell_below B c2))
  go_ret
  exact ⟨rfl, BB⟩

theorem rencode_yes (e m x : Int) (s : Bool) (w : World) (h1 : 2 ≤ e) (h2 : e ≤ 5) (h3 : 1 ≤ m) (h4 : m ≤ 10) :
    Calls Try.prog 65 #[.agg #[.int .i64 e, .int .i64 m, .bool s], .int .i64 x] w fun y w' => y = .returned (.int .i64 (encv e m s x)) ∧ Below w.heap.size w w' := by
  have hb := encm_bd e m (mag x) h1 h2 h3 h4 (mag_bd x).1 (mag_bd x).2
  by_cases hx : 0 ≤ x
  · have hm : mag x = sat x := by unfold mag; rw [if_neg (by omega)]
    exact rencode_loop e m x _ s w h1 h2 h3 h4 (by omega) (by unfold encv; rw [if_pos hx, if_neg (by omega), hm])
  · have hm : mag x = -sat x := by unfold mag; rw [if_pos (by omega)]
    rw [hm] at hb
    cases s with
    | false =>
      have e1 : encv e m false x = 0 := by unfold encv; rw [if_neg hx]; rfl
      rw [e1]; exact rencode_neg e m x w h1 h2 h3 h4 (by omega)
    | true =>
      refine rencode_loop e m x _ true w h1 h2 h3 h4 (fun _ => rfl) ?_
      unfold encv
      rw [if_neg hx, hm]; simp only [if_true]
      split <;> split <;> omega

end Go.Proofs.Ytcjlgfadjedgbaa
