/- What Components, Valid of package fetch and of the reference return. -/
import Derived.Test.YtfakmeimideoaaaH1
namespace Go.Proofs.Ytfakmeimideoaaa
open Go.RowKit Go.Sort Go.ChangeShapes Go.WideShapes
set_option linter.unusedVariables false

theorem atEnc : Enc atv 4 := ⟨fun _ => rfl, by decide, fun x v hv => by simp [atv] at hv; rcases hv with rfl | rfl | rfl | rfl <;> rfl⟩
theorem atK : RowK Try.prog 45 4 := ⟨⟨_, Try.underlying45, rfl⟩, by kernel_rfl⟩

theorem ret_nat {a b : Nat} (h : a = b) : Ending.returned (.int .i64 (a : Int)) = .returned (.int .i64 (b : Int)) := by rw [h]

abbrev RdA (w : World) (B : Nat) (A : Option Addr) (n : Nat) (l : List At) : Prop := RdE atv 4 w B A n l

set_option maxRecDepth 100000 in
theorem comps_b (A : Option Addr) (n c : Nat) (l : List At) (w : World) (R : RdA w w.heap.size A n l) (hn : n ≤ 281474976710656) :
    Calls Try.prog 19 #[.slice A n c] w fun e w' => e = .returned (.int .i64 (csum l : Nat)) ∧ Below w.heap.size w w' := by
  have BB : Below w.heap.size w w := Below.refl _ _
  have hl := R.len
  have CC := Lib.hid (fun f W => of_q (cps_q f W))
  have HC := Lib.hid (fun k => csum_take l k)
  have HM := Lib.hid (csum_le l)
  have HR := Lib.hid R
  have HE : Hid (csum (l.take n) = csum l) := Lib.hid (by rw [← hl, List.take_length])
  have HL := Lib.hid hl
  clear R hl
  go_enter Try.func19, Try.ntmps19
  go_wp2_with fail
  go_loopw [3, 8] (fun s i wr => ∃ k : Nat, k ≤ n ∧ i = .int .i64 (k : Int) ∧ s = .int .i64 (csum (l.take k) : Nat) ∧ RdA wr wr.heap.size A n l ∧ Below w.heap.size w wr) (fun _ i _ => n - (intOf i).toNat)
  case atStart => exact ⟨0, by omega, rfl, rfl, HR.out, BB⟩
  case round =>
    clear HR BB
    obtain ⟨k, hk, rfl, rfl, J, BB⟩ := hrel
    rename World => wr
    by_cases hlt : k < n
    · obtain ⟨b, off, ⟨xb, xo, xs, xf⟩, rfl, _, ha, hx⟩ := J.at_ hlt
      have hcs := csum_snoc hx.out
      have h4 := cps_le xf
      have hm : csum (l.take k) ≤ 1125899906842624 := by have := HC.out k; have := HM.out; have := HL.out; omega
      have BX := box_below wr #[.int .i64 xb, .int .i64 xo, .int .i64 xs, .int .i64 xf] 45
      replace J := J.on BX
      replace BB := bon BB BX
      clear BX hx
      obtain ⟨s, hs⟩ : ∃ s, csum (l.take k) = s := ⟨_, rfl⟩
      obtain ⟨q, hq⟩ : ∃ q, cps xf = q := ⟨_, rfl⟩
      have C1 := Lib.hid (CC.out xf)
      rw [hq] at C1 h4
      simp only [hq, hs] at hcs
      rw [hs] at hm ⊢
      have HCS := Lib.hid hcs
      clear hcs hs hq
      go_wp2_with (first
        | ((with_reducible refine eload4L atK ha ?_ ?_); focus rfl)
        | ((with_reducible refine estore4L atK ?_ ?_ ?_ ?_); focus rfl; focus rfl; focus rfl)
        | (go_at_call 31; (with_reducible refine (C1.out _).mono ?_); rintro _ W1 ⟨rfl, B⟩; replace J := J.on B; replace BB := bon BB B))
      go_roundw
      case rel => exact ⟨k + 1, by omega, by go_num, by rw [HCS.out]; go_num, J, BB⟩
      case measure => simp [intOf]; omega
    · obtain rfl : k = n := by omega
      go_wp2
      go_ret
      exact ⟨ret_nat HE.out, BB⟩

set_option maxRecDepth 100000 in
theorem rcomps_b (A : Option Addr) (n c : Nat) (l : List At) (w : World) (R : RdA w w.heap.size A n l) (hn : n ≤ 281474976710656) :
    Calls Try.prog 20 #[.slice A n c] w fun e w' => e = .returned (.int .i64 (csum l : Nat)) ∧ Below w.heap.size w w' := by
  have BB : Below w.heap.size w w := Below.refl _ _
  have hl := R.len
  have CC := Lib.hid (fun f W => of_q (rcps_q f W))
  have HC := Lib.hid (fun k => csum_take l k)
  have HM := Lib.hid (csum_le l)
  have HR := Lib.hid R
  have HE : Hid (csum (l.take n) = csum l) := Lib.hid (by rw [← hl, List.take_length])
  have HL := Lib.hid hl
  clear R hl
  go_enter Try.func20, Try.ntmps20
  go_wp2_with fail
  go_loopw [3, 4] (fun s i wr => ∃ k : Nat, k ≤ n ∧ i = .int .i64 (k : Int) ∧ s = .int .i64 (csum (l.take k) : Nat) ∧ RdA wr wr.heap.size A n l ∧ Below w.heap.size w wr) (fun _ i _ => n - (intOf i).toNat)
  case atStart => exact ⟨0, by omega, rfl, rfl, HR.out, BB⟩
  case round =>
    clear HR BB
    obtain ⟨k, hk, rfl, rfl, J, BB⟩ := hrel
    rename World => wr
    by_cases hlt : k < n
    · obtain ⟨b, off, ⟨xb, xo, xs, xf⟩, rfl, _, ha, hx⟩ := J.at_ hlt
      have hcs := csum_snoc hx.out
      have h4 := cps_le xf
      have hm : csum (l.take k) ≤ 1125899906842624 := by have := HC.out k; have := HM.out; have := HL.out; omega
      have c3 := ha 3 _ rfl
      clear hx ha
      obtain ⟨s, hs⟩ : ∃ s, csum (l.take k) = s := ⟨_, rfl⟩
      obtain ⟨q, hq⟩ : ∃ q, cps xf = q := ⟨_, rfl⟩
      have C1 := Lib.hid (CC.out xf)
      rw [hq] at C1 h4
      simp only [hq, hs] at hcs
      rw [hs] at hm ⊢
      have HCS := Lib.hid hcs
      clear hcs hs hq
      go_wp2_with (go_at_call 32; (with_reducible refine (C1.out _).mono ?_); rintro _ W1 ⟨rfl, B⟩; replace J := J.on B; replace BB := bon BB B)
      go_roundw
      case rel => exact ⟨k + 1, by omega, by go_num, by rw [HCS.out]; go_num, J, BB⟩
      case measure => simp [intOf]; omega
    · obtain rfl : k = n := by omega
      go_wp2
      go_ret
      exact ⟨ret_nat HE.out, BB⟩

/-- The first k attributes are valid. -/
theorem vld_step {l : List At} {k : Nat} {a : At} (h : ∀ x ∈ l.take k, attrA x) (ha : l[k]? = some a) (hv : attrA a) : ∀ x ∈ l.take (k + 1), attrA x := by
  obtain ⟨hk, rfl⟩ := List.getElem?_eq_some_iff.1 ha
  rw [List.take_succ_eq_append_getElem hk]
  intro x hx
  rcases List.mem_append.1 hx with hx | hx
  · exact h x hx
  · simp at hx; subst hx; exact hv

/-- Valid's answer. -/
noncomputable def vldb (l : List At) : Bool := @decide (vldA l) (Classical.propDecidable _)

theorem vldb_yes {l : List At} (h : vldA l) : vldb l = true := @decide_eq_true _ (Classical.propDecidable _) h

theorem vldb_no {l : List At} (h : ¬ vldA l) : vldb l = false := @decide_eq_false _ (Classical.propDecidable _) h

theorem vldb_iff {l : List At} : vldb l = true ↔ vldA l := ⟨fun h => @of_decide_eq_true _ (Classical.propDecidable _) h, vldb_yes⟩

set_option maxRecDepth 100000 in
theorem valid_b (A : Option Addr) (n c : Nat) (l : List At) (w : World) (R : RdA w w.heap.size A n l) (hn : n ≤ 9223372036854775807) :
    Calls Try.prog 21 #[.slice A n c] w fun e w' => e = .returned (.bool (vldb l)) ∧ Below w.heap.size w w' := by
  have BB : Below w.heap.size w w := Below.refl _ _
  have hl := R.len
  by_cases h8 : n ≤ 8
  · have C0 := Lib.hid (fun W R => comps_b A n c l W R (by omega))
    have hs := csum_le l
    obtain ⟨s, hss⟩ : ∃ s, csum l = s := ⟨_, rfl⟩
    rw [hss] at C0 hs
    have K1 := R
    by_cases hc : s ≤ 32
    · have CV := Lib.hid (fun b o s f W => attr_b b o s f W)
      have HY : Hid (∀ x ∈ l.take 0, attrA x) := Lib.hid (by simp)
      have HV : Hid ((∀ x ∈ l, attrA x) → vldb l = true) := Lib.hid fun h => vldb_yes ⟨by omega, by omega, h⟩
      have HN : Hid (∀ x ∈ l, ¬ attrA x → vldb l = false) := Lib.hid fun x hx h => vldb_no fun g => h (g.2.2 x hx)
      have HT : Hid (l.take n = l) := Lib.hid (by rw [← hl, List.take_length])
      clear hl R hss
      go_enter Try.func21, Try.ntmps21
      go_wp2_with (go_at_call 19; (with_reducible refine (C0.out _ K1).mono ?_); rintro _ W1 ⟨rfl, B⟩; replace K1 := K1.on B; replace BB := bon BB B)
      go_loopw [15] (fun i wr => ∃ k : Nat, k ≤ n ∧ i = .int .i64 (k : Int) ∧ Hid (∀ x ∈ l.take k, attrA x) ∧ RdA wr wr.heap.size A n l ∧ Below w.heap.size w wr) (fun i _ => n - (intOf i).toNat)
      case atStart => exact ⟨0, by omega, rfl, HY, K1, BB⟩
      case round =>
        clear K1 BB B HY
        obtain ⟨k, hk, rfl, HY, J, BB⟩ := hrel
        rename World => wr
        by_cases hlt : k < n
        · obtain ⟨b, off, ⟨xb, xo, xs, xf⟩, rfl, _, ha, hx⟩ := J.at_ hlt
          have BX := box_below wr #[.int .i64 xb, .int .i64 xo, .int .i64 xs, .int .i64 xf] 45
          replace J := J.on BX
          replace BB := bon BB BX
          clear BX
          have cv := CV.out xb xo xs xf
          by_cases hat : attr xb xo xs xf
          · rw [decide_eq_true hat] at cv
            have HY' := Lib.hid (vld_step HY.out hx.out (show attrA ⟨xb, xo, xs, xf⟩ from hat))
            have C1 := Lib.hid cv
            clear cv hat HY hx
            go_wp2_with (first
              | ((with_reducible refine eload4L atK ha ?_ ?_); focus rfl)
              | ((with_reducible refine estore4L atK ?_ ?_ ?_ ?_); focus rfl; focus rfl; focus rfl)
              | (go_at_call 33; (with_reducible refine (C1.out _).mono ?_); rintro _ W1 ⟨rfl, B⟩; replace J := J.on B; replace BB := bon BB B))
            go_roundw
            case rel => exact ⟨k + 1, by omega, by go_num, HY', J, BB⟩
            case measure => simp [intOf]; omega
          · rw [decide_eq_false hat] at cv
            have C1 := Lib.hid cv
            have HF := Lib.hid (HN.out _ (List.mem_of_getElem? hx.out) (show ¬ attrA ⟨xb, xo, xs, xf⟩ from hat))
            clear cv hat HY hx
            go_wp2_with (first
              | ((with_reducible refine eload4L atK ha ?_ ?_); focus rfl)
              | ((with_reducible refine estore4L atK ?_ ?_ ?_ ?_); focus rfl; focus rfl; focus rfl)
              | (go_at_call 33; (with_reducible refine (C1.out _).mono ?_); rintro _ W1 ⟨rfl, B⟩; replace J := J.on B; replace BB := bon BB B))
            go_ret
            exact ⟨ret_bool HF.out.symm, BB⟩
        · obtain rfl : k = n := by omega
          have hy := HY.out
          rw [HT.out] at hy
          have HF := Lib.hid (HV.out hy)
          clear hy HY
          go_wp2
          go_ret
          exact ⟨ret_bool HF.out.symm, BB⟩
    · rw [vldb_no fun g => hc (by have := g.2.1; omega)]
      clear hl R hss
      go_enter Try.func21, Try.ntmps21
      go_wp2_with (go_at_call 19; (with_reducible refine (C0.out _ K1).mono ?_); rintro _ W1 ⟨rfl, B⟩; replace K1 := K1.on B; replace BB := bon BB B)
      go_ret
      exact ⟨rfl, BB⟩
  · rw [vldb_no fun g => h8 (by have := g.1; omega)]
    clear hl R
    go_enter Try.func21, Try.ntmps21
    go_wp2
    go_ret
    exact ⟨rfl, BB⟩

set_option maxRecDepth 100000 in
theorem rvalidA_b (A : Option Addr) (n c : Nat) (l : List At) (w : World) (R : RdA w w.heap.size A n l) (hn : n ≤ 9223372036854775807) :
    Calls Try.prog 22 #[.slice A n c] w fun e w' => e = .returned (.bool (vldb l)) ∧ Below w.heap.size w w' := by
  have BB : Below w.heap.size w w := Below.refl _ _
  have hl := R.len
  by_cases h8 : n ≤ 8
  · have C0 := Lib.hid (fun W R => rcomps_b A n c l W R (by omega))
    have hs := csum_le l
    obtain ⟨s, hss⟩ : ∃ s, csum l = s := ⟨_, rfl⟩
    rw [hss] at C0 hs
    have K1 := R
    have CV := Lib.hid (fun b o s f W => rattr_b b o s f W)
    have HY : Hid (∀ x ∈ l.take 0, attrA x) := Lib.hid (by simp)
    have HV : Hid ((∀ x ∈ l, attrA x) → vldb l = decide (s ≤ 32)) := Lib.hid fun h => by
      by_cases hc : s ≤ 32
      · rw [decide_eq_true hc]; exact vldb_yes ⟨by omega, by omega, h⟩
      · rw [decide_eq_false hc]; exact vldb_no fun g => hc (by have := g.2.1; omega)
    have HN : Hid (∀ x ∈ l, ¬ attrA x → vldb l = false) := Lib.hid fun x hx h => vldb_no fun g => h (g.2.2 x hx)
    have HT : Hid (l.take n = l) := Lib.hid (by rw [← hl, List.take_length])
    clear hl R hss
    go_enter Try.func22, Try.ntmps22
    go_wp2_with fail
    go_loopw [3] (fun i wr => ∃ k : Nat, k ≤ n ∧ i = .int .i64 (k : Int) ∧ Hid (∀ x ∈ l.take k, attrA x) ∧ RdA wr wr.heap.size A n l ∧ Below w.heap.size w wr) (fun i _ => n - (intOf i).toNat)
    case atStart => exact ⟨0, by omega, rfl, HY, K1, BB⟩
    case round =>
      clear K1 BB HY
      obtain ⟨k, hk, rfl, HY, J, BB⟩ := hrel
      rename World => wr
      by_cases hlt : k < n
      · obtain ⟨b, off, ⟨xb, xo, xs, xf⟩, rfl, _, ha, hx⟩ := J.at_ hlt
        have cv := CV.out xb xo xs xf
        by_cases hat : attr xb xo xs xf
        · rw [decide_eq_true hat] at cv
          have HY' := Lib.hid (vld_step HY.out hx.out (show attrA ⟨xb, xo, xs, xf⟩ from hat))
          have C1 := Lib.hid cv
          clear cv hat HY hx
          go_wp2_with (first
            | ((with_reducible refine eload4L atK ha ?_ ?_); focus rfl)
            | (go_at_call 34; (with_reducible refine (C1.out _).mono ?_); rintro _ W1 ⟨rfl, B⟩; replace J := J.on B; replace BB := bon BB B))
          go_roundw
          case rel => exact ⟨k + 1, by omega, by go_num, HY', J, BB⟩
          case measure => simp [intOf]; omega
        · rw [decide_eq_false hat] at cv
          have C1 := Lib.hid cv
          have HF := Lib.hid (HN.out _ (List.mem_of_getElem? hx.out) (show ¬ attrA ⟨xb, xo, xs, xf⟩ from hat))
          clear cv hat HY hx
          go_wp2_with (first
            | ((with_reducible refine eload4L atK ha ?_ ?_); focus rfl)
            | (go_at_call 34; (with_reducible refine (C1.out _).mono ?_); rintro _ W1 ⟨rfl, B⟩; replace J := J.on B; replace BB := bon BB B))
          go_ret
          exact ⟨ret_bool HF.out.symm, BB⟩
      · obtain rfl : k = n := by omega
        have hy := HY.out
        rw [HT.out] at hy
        have HF := Lib.hid (HV.out hy)
        clear hy HY
        go_wp2_with (go_at_call 20; (with_reducible refine (C0.out _ J).mono ?_); rintro _ W1 ⟨rfl, B⟩; replace BB := bon BB B)
        go_ret
        exact ⟨ret_bool (by rw [HF.out]; first | rfl | simp <;> omega), BB⟩
  · rw [vldb_no fun g => h8 (by have := g.1; omega)]
    clear hl R
    go_enter Try.func22, Try.ntmps22
    go_wp2
    go_ret
    exact ⟨rfl, BB⟩

end Go.Proofs.Ytfakmeimideoaaa
