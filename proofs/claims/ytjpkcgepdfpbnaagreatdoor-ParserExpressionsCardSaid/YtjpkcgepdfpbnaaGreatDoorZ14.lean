/- number of the reference at an integer. Written by tools/gen/genZ14.py. -/
import Derived.Test.YtjpkcgepdfpbnaaGreatDoorZ13
namespace Go.Proofs.YtjpkcgepdfpbnaaGreatDoor
open Go.RowKit Go.Sort Go.ChangeShapes Go.WideShapes
set_option linter.unusedVariables false

theorem no2 {b c : Bool} (h2 : b = false) (h3 : c = false) : ¬ (b = true ∨ c = true) := by subst h2; subst h3; simp

/-- The blocks in the loop over the digits: the value v so far. -/
structure NBx (w wr : World) (x : ByteArray) (v : Int) : Prop where
  e0 : EBox wr w.heap.size tok0
  e1 : EBox wr (w.heap.size + 1) [.int .i64 2, .string x, .int .i64 v, .int .i64 0]
  bel : Below w.heap.size w wr

theorem NBx.lt {w wr : World} {x : ByteArray} {v : Int} (h : NBx w wr x v) : w.heap.size + 1 < wr.heap.size := h.e1.lt (by simp)
theorem NBx.on {w wr W : World} {x : ByteArray} {v : Int} (h : NBx w wr x v) (B : Below wr.heap.size wr W) : NBx w W x v := ⟨h.e0.on (by simp) B, h.e1.on (by simp) B, bon h.bel B⟩
theorem NBx.set {w wr : World} {x : ByteArray} {v : Int} (h : NBx w wr x v) (u : Int) : NBx w (wr.setCell ⟨w.heap.size + 1, 2, none⟩ (.int .i64 u)) x u :=
  ⟨h.e0.far (by omega), h.e1.set (i := 2) (v := .int .i64 u) (by simp), bset0 h.bel (by omega) 2 _⟩
/-- Behind the store of the result. -/
theorem NBx.fin {w W : World} {x : ByteArray} {v : Int} (h : NBx w W x v) :
    EBox ((((W.setCell ⟨w.heap.size, 0, none⟩ (.int .i64 2)).setCell ⟨w.heap.size, 1, none⟩ (.string x)).setCell ⟨w.heap.size, 2, none⟩ (.int .i64 v)).setCell ⟨w.heap.size, 3, none⟩ (.int .i64 0)) w.heap.size [.int .i64 2, .string x, .int .i64 v, .int .i64 0] ∧
      Below w.heap.size w ((((W.setCell ⟨w.heap.size, 0, none⟩ (.int .i64 2)).setCell ⟨w.heap.size, 1, none⟩ (.string x)).setCell ⟨w.heap.size, 2, none⟩ (.int .i64 v)).setCell ⟨w.heap.size, 3, none⟩ (.int .i64 0)) :=
  ⟨(((h.e0.set (i := 0) (v := .int .i64 2) (by simp)).set (i := 1) (v := .string x) (by simp)).set (i := 2) (v := .int .i64 v) (by simp)).set (i := 3) (v := .int .i64 0) (by simp),
    bset0 (bset0 (bset0 (bset0 h.bel (Nat.le_refl _) 0 _) (Nat.le_refl _) 1 _) (Nat.le_refl _) 2 _) (Nat.le_refl _) 3 _⟩
theorem NBx.cells {w wr : World} {x : ByteArray} {v : Int} (h : NBx w wr x v) :
    wr.cell? ⟨w.heap.size, 0, none⟩ = some (.int .i64 0) ∧ wr.cell? ⟨w.heap.size, 1, none⟩ = some (.string ⟨#[]⟩) ∧ wr.cell? ⟨w.heap.size, 2, none⟩ = some (.int .i64 0) ∧ wr.cell? ⟨w.heap.size, 3, none⟩ = some (.int .i64 0) ∧
      wr.frozen? ⟨w.heap.size, 0, none⟩ = false ∧ wr.frozen? ⟨w.heap.size, 1, none⟩ = false ∧ wr.frozen? ⟨w.heap.size, 2, none⟩ = false ∧ wr.frozen? ⟨w.heap.size, 3, none⟩ = false ∧
      wr.cell? ⟨w.heap.size + 1, 0, none⟩ = some (.int .i64 2) ∧ wr.cell? ⟨w.heap.size + 1, 1, none⟩ = some (.string x) ∧ wr.cell? ⟨w.heap.size + 1, 2, none⟩ = some (.int .i64 v) ∧ wr.cell? ⟨w.heap.size + 1, 3, none⟩ = some (.int .i64 0) ∧
      wr.frozen? ⟨w.heap.size + 1, 2, none⟩ = false :=
  ⟨h.e0.cell (i := 0) rfl, h.e0.cell (i := 1) rfl, h.e0.cell (i := 2) rfl, h.e0.cell (i := 3) rfl, h.e0.2 0, h.e0.2 1, h.e0.2 2, h.e0.2 3, h.e1.cell (i := 0) rfl, h.e1.cell (i := 1) rfl, h.e1.cell (i := 2) rfl, h.e1.cell (i := 3) rfl, h.e1.2 2⟩

set_option maxRecDepth 100000 in
set_option maxHeartbeats 16000000 in
theorem rnum_int (s : ByteArray) (p : Nat) (w : World) (hp : p < s.size) (hs : s.size ≤ 16384) (hd : (((strL s).drop p).head?).any isDig = true) (hf : fxd ((strL s).drop p) = false) : Calls Tryz.prog 84 #[.string s, .int .i64 (p : Int)] w (GivesN ((strL s).drop p) p (tkr ((strL s).drop p)) w) := by
  have ht := tkr_int hd hf
  have hz1 := spn_le isDig ((strL s).drop p)
  rw [List.length_drop, strL_len] at hz1
  have c1 := fun W => rdigits_b s p W (by omega) (by omega)
  have hway := fxd_ways2 s p _ (by omega) rfl
  have hzw := zro_ways s p _ hp rfl
  have hlw := let_ways s p (spn isDig ((strL s).drop p))
  rw [hf] at hway
  have hdp := dig_spn hd
  have hx : strL (s.extract p (p + spn isDig ((strL s).drop p))) = ((strL s).drop p).take (spn isDig ((strL s).drop p)) := by rw [strL_extract, Nat.add_sub_cancel_left]
  have hall := allD_spn ((strL s).drop p)
  have htl : (((strL s).drop p).take (spn isDig ((strL s).drop p))).length = spn isDig ((strL s).drop p) := by rw [List.length_take, List.length_drop, strL_len]; omega
  have hat : ∀ i, p ≤ i → i < p + spn isDig ((strL s).drop p) → ∀ h : i < s.size, (((strL s).drop p).take (spn isDig ((strL s).drop p)))[i - p]? = some ((s[i]).toNat : Int) := fun i h1 h2 h => by rw [List.getElem?_take_of_lt (by omega), List.getElem?_drop, show p + (i - p) = i by omega]; exact strL_at s _ h
  obtain ⟨n1, hn1⟩ : ∃ n1, spn isDig ((strL s).drop p) = n1 := ⟨_, rfl⟩
  obtain ⟨e1, he1⟩ : ∃ e1, p + n1 = e1 := ⟨_, rfl⟩
  rw [hn1] at ht hz1 c1 hway hzw hlw hdp hx hall htl hat
  rw [he1] at c1 hway hzw hx hat
  obtain ⟨t, hT0⟩ : ∃ t, ((strL s).drop p).take n1 = t := ⟨_, rfl⟩
  rw [hT0] at ht hx hall htl hat
  have hni := ni_start t
  obtain ⟨n, hn⟩ : ∃ n, (rnum t 0).1 = n := ⟨_, rfl⟩
  rw [hn] at ht hni
  have hle1 : (p : Int) < (e1 : Int) ∧ (e1 : Int) ≤ (s.size : Int) := by omega
  have HT := Lib.hid ht
  have HX : Hid (s.extract p e1 = strOfNums (((strL s).drop p).take n1)) := Lib.hid (by rw [hT0, ← hx, strOf_strL])
  have HA := Lib.hid hall
  have HAT := Lib.hid hat
  have HNI := Lib.hid hni
  have HTL := Lib.hid htl
  have C1 := Lib.hid c1
  have EL := Lib.hid (fun x => tok_boxes w 60 2 x)
  have ED := Lib.hid (fun k x => tok_done w 60 k x)
  obtain ⟨T, hT⟩ : ∃ T, tkr ((strL s).drop p) = T := ⟨_, rfl⟩
  rw [hT] at HT ⊢
  have HE : Hid (e1 = p + n1) := Lib.hid he1.symm
  have hlw2 : (¬ (e1 : Int) < (s.size : Int) ∧ (((strL s).drop p)[n1]?).any isLet = false) ∨ (∃ h : e1 < s.size, isLet ((s[e1]).toNat : Int) = (((strL s).drop p)[n1]?).any isLet) := by subst he1; exact hlw
  have hw3 : (¬ (e1 : Int) + 1 < (s.size : Int)) ∨ (∃ h : e1 + 1 < s.size, (((s[e1]).toNat : Int) == 46) = false) ∨ (∃ h : e1 + 1 < s.size, (((s[e1]).toNat : Int) == 46) = true ∧ isDig ((s[e1 + 1]).toNat : Int) = false) := by rcases hway with ⟨h, _⟩ | ⟨h, h2, _⟩ | ⟨h, h2, h3⟩; exact .inl h; exact .inr (.inl ⟨h, h2⟩); exact .inr (.inr ⟨h, h2, h3⟩)
  clear c1 hx hall hat hni htl hT ht hf hway hlw hn hT0 hn1 he1
  rcases hw3 with hq | ⟨hq, h46⟩ | ⟨hq, h46, hdg⟩
  · skip
    rcases hzw with ⟨hx0, hzz⟩ | ⟨hx0, hx1, hzz⟩ | ⟨hx0, hx1, hzz⟩
    · rcases hlw2 with ⟨hlt0, hl⟩ | ⟨hlt0, hl⟩
      · skip
        go_enter Tryz.func84, Tryz.ntmps84
        go_wp2_with (first | (go_at_call 103; (with_reducible refine (C1.out _).mono ?_); rintro _ _ ⟨rfl, rfl⟩))
        go_loopw [13] (fun a wr => ∃ (i : Nat) (v : Int), a = .int .i64 (i : Int) ∧ p ≤ i ∧ i ≤ e1 ∧ NBx w wr (s.extract p e1) v ∧ NI t (i - p) v n) (fun a _ => e1 - (intOf a).toNat)
        case atStart => exact ⟨p, 0, rfl, Nat.le_refl _, by omega, ⟨(EL.out _).1, (EL.out _).2.1, (EL.out _).2.2⟩, by rw [Nat.sub_self]; exact HNI.out⟩
        case round =>
          clear HNI EL ED
          obtain ⟨i, v, rfl, hip, hi, NB, I⟩ := hrel
          rename World => wr
          obtain ⟨d0, d1, d2, d3, y0, y1, y2, y3, f0, f1, f2, f3, g2⟩ := NB.cells
          have HNB := Lib.hid NB
          have HI := Lib.hid I
          clear NB I
          by_cases hlt : i < e1
          · have hps : i < s.size := by omega
            have hpi : (i : Int) < (e1 : Int) := by omega
            have hpsi : (i : Int) < (s.size : Int) := by omega
            obtain ⟨q1, q2, q3, q4, q5, q6⟩ := ni_step HA.out HI.out (HAT.out i hip hlt hps)
            have HQ5 := Lib.hid q5
            have HQ6 := Lib.hid q6
            have BB := Below.refl wr.heap.size wr
            clear q5 q6
            have hu8 : IntKind.u8.wrap (((s[i]).toNat : Int) - 48) = ((s[i]).toNat : Int) - 48 := by simp [IntKind.wrap, IntKind.bits, IntKind.signed]; omega
            by_cases hbig : v * 10 + (((s[i]).toNat : Int) - 48) ≤ 2147483647
            · have I2 := Lib.hid (HQ5.out hbig)
              have hbn : ¬ 2147483647 < v * 10 + (((s[i]).toNat : Int) - 48) := by omega
              go_wp2_with fail
              have k_d0 := cell_regrown d0
              have k_d1 := cell_regrown d1
              have k_d2 := cell_regrown d2
              have k_d3 := cell_regrown d3
              have k_f0 := cell_regrown f0
              have k_f1 := cell_regrown f1
              have k_f2 := cell_regrown f2
              have k_f3 := cell_regrown f3
              refine wp_region_tailK (n := 10) (by kernel_rfl) (by kernel_rfl) ?_
              simp only [List.take_succ_cons, List.take_zero, List.drop_succ_cons, List.drop_zero]
              repeat (first | go_big_quiet_step ((first | fail)) | quiet_step ((first | fail)))
              refine wpQuiet_nil ?_
              intro W hw'
              have B := below_regrown' hw'
              clear hw' k_d0 k_d1 k_d2 k_d3 k_f0 k_f1 k_f2 k_f3
              replace BB := bon BB B
              replace g2 := frozen_below B f2 g2
              replace d0 := cell_below B d0
              replace d1 := cell_below B d1
              replace d2 := cell_below B d2
              replace d3 := cell_below B d3
              replace f0 := cell_below B f0
              replace f1 := cell_below B f1
              replace f2 := cell_below B f2
              replace f3 := cell_below B f3
              go_wp2_with fail
              go_roundw
              case rel => exact ⟨i + 1, _, by go_num, by omega, by omega, ((HNB.out.on BB).set _), by rw [show i + 1 - p = i - p + 1 by omega]; exact I2.out⟩
              case measure => simp [intOf] <;> omega
            · have hbn : 2147483647 < v * 10 + (((s[i]).toNat : Int) - 48) := by omega
              obtain rfl : T = (6, 0, 0, 0) := HT.out.trans (by rw [if_neg (no2 hzz hl), if_pos (HQ6.out hbn)])
              go_wp2_with fail
              have k_d0 := cell_regrown d0
              have k_d1 := cell_regrown d1
              have k_d2 := cell_regrown d2
              have k_d3 := cell_regrown d3
              have k_f0 := cell_regrown f0
              have k_f1 := cell_regrown f1
              have k_f2 := cell_regrown f2
              have k_f3 := cell_regrown f3
              refine wp_region_tailK (n := 10) (by kernel_rfl) (by kernel_rfl) ?_
              simp only [List.take_succ_cons, List.take_zero, List.drop_succ_cons, List.drop_zero]
              repeat (first | go_big_quiet_step ((first | fail)) | quiet_step ((first | fail)))
              refine wpQuiet_nil ?_
              intro W hw'
              have B := below_regrown' hw'
              clear hw' k_d0 k_d1 k_d2 k_d3 k_f0 k_f1 k_f2 k_f3
              replace BB := bon BB B
              replace g2 := frozen_below B f2 g2
              replace d0 := cell_below B d0
              replace d1 := cell_below B d1
              replace d2 := cell_below B d2
              replace d3 := cell_below B d3
              replace f0 := cell_below B f0
              replace f1 := cell_below B f1
              replace f2 := cell_below B f2
              replace f3 := cell_below B f3
              have NB2 := Lib.hid ((HNB.out.on BB).set (v * 10 + (((s[i]).toNat : Int) - 48)))
              obtain ⟨d0, d1, d2, d3, y0, y1, y2, y3, -⟩ := (HNB.out.on BB).cells
              go_wp2_with fail
              refine bodyPost_ret (results_tok rfl rowTok NB2.out.fin.1.rng rfl _ rfl rfl rfl) rfl ?_
              exact GivesN.no (by decide) NB2.out.fin.2
          · obtain rfl : i = e1 := by omega
            have hpi : ¬ (i : Int) < (i : Int) := by omega
            obtain ⟨rfl, hvm⟩ := ni_end HI.out (by rw [HTL.out]; have := HE.out; omega)
            obtain rfl : T = (0, 2, n1, v) := HT.out.trans (by rw [if_neg (no2 hzz hl), if_neg (by omega)])
            go_wp2_with fail
            refine bodyPost_ret (results_tok rfl rowTok HNB.out.fin.1.rng rfl _ rfl rfl rfl) rfl ?_
            exact ⟨_, _, _, _, rfl, HNB.out.fin.2, fun _ => ⟨rfl, HX.out, rfl, by rw [HE.out]⟩⟩
      · have cl := fun W => rletter_q ((s[e1]).toNat : Int) W
        rw [hl] at cl
        have hlti : (e1 : Int) < (s.size : Int) := by omega
        cases hl2 : (((strL s).drop p)[n1]?).any isLet
        · rw [hl2] at cl hl
          have CL := Lib.hid cl
          replace hl := hl2
          clear cl
          go_enter Tryz.func84, Tryz.ntmps84
          go_wp2_with (first | (go_at_call 103; (with_reducible refine (C1.out _).mono ?_); rintro _ _ ⟨rfl, rfl⟩) | (go_at_call 58; (refine (CL.out _).mono ?_); rintro _ _ ⟨rfl, rfl⟩))
          go_loopw [13] (fun a wr => ∃ (i : Nat) (v : Int), a = .int .i64 (i : Int) ∧ p ≤ i ∧ i ≤ e1 ∧ NBx w wr (s.extract p e1) v ∧ NI t (i - p) v n) (fun a _ => e1 - (intOf a).toNat)
          case atStart => exact ⟨p, 0, rfl, Nat.le_refl _, by omega, ⟨(EL.out _).1, (EL.out _).2.1, (EL.out _).2.2⟩, by rw [Nat.sub_self]; exact HNI.out⟩
          case round =>
            clear HNI EL ED
            obtain ⟨i, v, rfl, hip, hi, NB, I⟩ := hrel
            rename World => wr
            obtain ⟨d0, d1, d2, d3, y0, y1, y2, y3, f0, f1, f2, f3, g2⟩ := NB.cells
            have HNB := Lib.hid NB
            have HI := Lib.hid I
            clear NB I
            by_cases hlt : i < e1
            · have hps : i < s.size := by omega
              have hpi : (i : Int) < (e1 : Int) := by omega
              have hpsi : (i : Int) < (s.size : Int) := by omega
              obtain ⟨q1, q2, q3, q4, q5, q6⟩ := ni_step HA.out HI.out (HAT.out i hip hlt hps)
              have HQ5 := Lib.hid q5
              have HQ6 := Lib.hid q6
              have BB := Below.refl wr.heap.size wr
              clear q5 q6
              have hu8 : IntKind.u8.wrap (((s[i]).toNat : Int) - 48) = ((s[i]).toNat : Int) - 48 := by simp [IntKind.wrap, IntKind.bits, IntKind.signed]; omega
              by_cases hbig : v * 10 + (((s[i]).toNat : Int) - 48) ≤ 2147483647
              · have I2 := Lib.hid (HQ5.out hbig)
                have hbn : ¬ 2147483647 < v * 10 + (((s[i]).toNat : Int) - 48) := by omega
                go_wp2_with fail
                have k_d0 := cell_regrown d0
                have k_d1 := cell_regrown d1
                have k_d2 := cell_regrown d2
                have k_d3 := cell_regrown d3
                have k_f0 := cell_regrown f0
                have k_f1 := cell_regrown f1
                have k_f2 := cell_regrown f2
                have k_f3 := cell_regrown f3
                refine wp_region_tailK (n := 10) (by kernel_rfl) (by kernel_rfl) ?_
                simp only [List.take_succ_cons, List.take_zero, List.drop_succ_cons, List.drop_zero]
                repeat (first | go_big_quiet_step ((first | fail)) | quiet_step ((first | fail)))
                refine wpQuiet_nil ?_
                intro W hw'
                have B := below_regrown' hw'
                clear hw' k_d0 k_d1 k_d2 k_d3 k_f0 k_f1 k_f2 k_f3
                replace BB := bon BB B
                replace g2 := frozen_below B f2 g2
                replace d0 := cell_below B d0
                replace d1 := cell_below B d1
                replace d2 := cell_below B d2
                replace d3 := cell_below B d3
                replace f0 := cell_below B f0
                replace f1 := cell_below B f1
                replace f2 := cell_below B f2
                replace f3 := cell_below B f3
                go_wp2_with fail
                go_roundw
                case rel => exact ⟨i + 1, _, by go_num, by omega, by omega, ((HNB.out.on BB).set _), by rw [show i + 1 - p = i - p + 1 by omega]; exact I2.out⟩
                case measure => simp [intOf] <;> omega
              · have hbn : 2147483647 < v * 10 + (((s[i]).toNat : Int) - 48) := by omega
                obtain rfl : T = (6, 0, 0, 0) := HT.out.trans (by rw [if_neg (no2 hzz hl), if_pos (HQ6.out hbn)])
                go_wp2_with fail
                have k_d0 := cell_regrown d0
                have k_d1 := cell_regrown d1
                have k_d2 := cell_regrown d2
                have k_d3 := cell_regrown d3
                have k_f0 := cell_regrown f0
                have k_f1 := cell_regrown f1
                have k_f2 := cell_regrown f2
                have k_f3 := cell_regrown f3
                refine wp_region_tailK (n := 10) (by kernel_rfl) (by kernel_rfl) ?_
                simp only [List.take_succ_cons, List.take_zero, List.drop_succ_cons, List.drop_zero]
                repeat (first | go_big_quiet_step ((first | fail)) | quiet_step ((first | fail)))
                refine wpQuiet_nil ?_
                intro W hw'
                have B := below_regrown' hw'
                clear hw' k_d0 k_d1 k_d2 k_d3 k_f0 k_f1 k_f2 k_f3
                replace BB := bon BB B
                replace g2 := frozen_below B f2 g2
                replace d0 := cell_below B d0
                replace d1 := cell_below B d1
                replace d2 := cell_below B d2
                replace d3 := cell_below B d3
                replace f0 := cell_below B f0
                replace f1 := cell_below B f1
                replace f2 := cell_below B f2
                replace f3 := cell_below B f3
                have NB2 := Lib.hid ((HNB.out.on BB).set (v * 10 + (((s[i]).toNat : Int) - 48)))
                obtain ⟨d0, d1, d2, d3, y0, y1, y2, y3, -⟩ := (HNB.out.on BB).cells
                go_wp2_with fail
                refine bodyPost_ret (results_tok rfl rowTok NB2.out.fin.1.rng rfl _ rfl rfl rfl) rfl ?_
                exact GivesN.no (by decide) NB2.out.fin.2
            · obtain rfl : i = e1 := by omega
              have hpi : ¬ (i : Int) < (i : Int) := by omega
              obtain ⟨rfl, hvm⟩ := ni_end HI.out (by rw [HTL.out]; have := HE.out; omega)
              obtain rfl : T = (0, 2, n1, v) := HT.out.trans (by rw [if_neg (no2 hzz hl), if_neg (by omega)])
              go_wp2_with fail
              refine bodyPost_ret (results_tok rfl rowTok HNB.out.fin.1.rng rfl _ rfl rfl rfl) rfl ?_
              exact ⟨_, _, _, _, rfl, HNB.out.fin.2, fun _ => ⟨rfl, HX.out, rfl, by rw [HE.out]⟩⟩
        · rw [hl2] at cl
          have CL := Lib.hid cl
          obtain rfl : T = (3, 0, 0, 0) := HT.out.trans (if_pos (.inr hl2))
          clear cl HT
          go_enter Tryz.func84, Tryz.ntmps84
          go_wp2_with (first | (go_at_call 103; (with_reducible refine (C1.out _).mono ?_); rintro _ _ ⟨rfl, rfl⟩) | (go_at_call 58; (refine (CL.out _).mono ?_); rintro _ _ ⟨rfl, rfl⟩))
          refine bodyPost_ret (results_tok rfl rowTok (ED.out _ _).1.rng rfl _ rfl rfl rfl) rfl ?_
          exact GivesN.no (by decide) (ED.out _ _).2
    · rcases hlw2 with ⟨hlt0, hl⟩ | ⟨hlt0, hl⟩
      · skip
        go_enter Tryz.func84, Tryz.ntmps84
        go_wp2_with (first | (go_at_call 103; (with_reducible refine (C1.out _).mono ?_); rintro _ _ ⟨rfl, rfl⟩))
        go_loopw [13] (fun a wr => ∃ (i : Nat) (v : Int), a = .int .i64 (i : Int) ∧ p ≤ i ∧ i ≤ e1 ∧ NBx w wr (s.extract p e1) v ∧ NI t (i - p) v n) (fun a _ => e1 - (intOf a).toNat)
        case atStart => exact ⟨p, 0, rfl, Nat.le_refl _, by omega, ⟨(EL.out _).1, (EL.out _).2.1, (EL.out _).2.2⟩, by rw [Nat.sub_self]; exact HNI.out⟩
        case round =>
          clear HNI EL ED
          obtain ⟨i, v, rfl, hip, hi, NB, I⟩ := hrel
          rename World => wr
          obtain ⟨d0, d1, d2, d3, y0, y1, y2, y3, f0, f1, f2, f3, g2⟩ := NB.cells
          have HNB := Lib.hid NB
          have HI := Lib.hid I
          clear NB I
          by_cases hlt : i < e1
          · have hps : i < s.size := by omega
            have hpi : (i : Int) < (e1 : Int) := by omega
            have hpsi : (i : Int) < (s.size : Int) := by omega
            obtain ⟨q1, q2, q3, q4, q5, q6⟩ := ni_step HA.out HI.out (HAT.out i hip hlt hps)
            have HQ5 := Lib.hid q5
            have HQ6 := Lib.hid q6
            have BB := Below.refl wr.heap.size wr
            clear q5 q6
            have hu8 : IntKind.u8.wrap (((s[i]).toNat : Int) - 48) = ((s[i]).toNat : Int) - 48 := by simp [IntKind.wrap, IntKind.bits, IntKind.signed]; omega
            by_cases hbig : v * 10 + (((s[i]).toNat : Int) - 48) ≤ 2147483647
            · have I2 := Lib.hid (HQ5.out hbig)
              have hbn : ¬ 2147483647 < v * 10 + (((s[i]).toNat : Int) - 48) := by omega
              go_wp2_with fail
              have k_d0 := cell_regrown d0
              have k_d1 := cell_regrown d1
              have k_d2 := cell_regrown d2
              have k_d3 := cell_regrown d3
              have k_f0 := cell_regrown f0
              have k_f1 := cell_regrown f1
              have k_f2 := cell_regrown f2
              have k_f3 := cell_regrown f3
              refine wp_region_tailK (n := 10) (by kernel_rfl) (by kernel_rfl) ?_
              simp only [List.take_succ_cons, List.take_zero, List.drop_succ_cons, List.drop_zero]
              repeat (first | go_big_quiet_step ((first | fail)) | quiet_step ((first | fail)))
              refine wpQuiet_nil ?_
              intro W hw'
              have B := below_regrown' hw'
              clear hw' k_d0 k_d1 k_d2 k_d3 k_f0 k_f1 k_f2 k_f3
              replace BB := bon BB B
              replace g2 := frozen_below B f2 g2
              replace d0 := cell_below B d0
              replace d1 := cell_below B d1
              replace d2 := cell_below B d2
              replace d3 := cell_below B d3
              replace f0 := cell_below B f0
              replace f1 := cell_below B f1
              replace f2 := cell_below B f2
              replace f3 := cell_below B f3
              go_wp2_with fail
              go_roundw
              case rel => exact ⟨i + 1, _, by go_num, by omega, by omega, ((HNB.out.on BB).set _), by rw [show i + 1 - p = i - p + 1 by omega]; exact I2.out⟩
              case measure => simp [intOf] <;> omega
            · have hbn : 2147483647 < v * 10 + (((s[i]).toNat : Int) - 48) := by omega
              obtain rfl : T = (6, 0, 0, 0) := HT.out.trans (by rw [if_neg (no2 hzz hl), if_pos (HQ6.out hbn)])
              go_wp2_with fail
              have k_d0 := cell_regrown d0
              have k_d1 := cell_regrown d1
              have k_d2 := cell_regrown d2
              have k_d3 := cell_regrown d3
              have k_f0 := cell_regrown f0
              have k_f1 := cell_regrown f1
              have k_f2 := cell_regrown f2
              have k_f3 := cell_regrown f3
              refine wp_region_tailK (n := 10) (by kernel_rfl) (by kernel_rfl) ?_
              simp only [List.take_succ_cons, List.take_zero, List.drop_succ_cons, List.drop_zero]
              repeat (first | go_big_quiet_step ((first | fail)) | quiet_step ((first | fail)))
              refine wpQuiet_nil ?_
              intro W hw'
              have B := below_regrown' hw'
              clear hw' k_d0 k_d1 k_d2 k_d3 k_f0 k_f1 k_f2 k_f3
              replace BB := bon BB B
              replace g2 := frozen_below B f2 g2
              replace d0 := cell_below B d0
              replace d1 := cell_below B d1
              replace d2 := cell_below B d2
              replace d3 := cell_below B d3
              replace f0 := cell_below B f0
              replace f1 := cell_below B f1
              replace f2 := cell_below B f2
              replace f3 := cell_below B f3
              have NB2 := Lib.hid ((HNB.out.on BB).set (v * 10 + (((s[i]).toNat : Int) - 48)))
              obtain ⟨d0, d1, d2, d3, y0, y1, y2, y3, -⟩ := (HNB.out.on BB).cells
              go_wp2_with fail
              refine bodyPost_ret (results_tok rfl rowTok NB2.out.fin.1.rng rfl _ rfl rfl rfl) rfl ?_
              exact GivesN.no (by decide) NB2.out.fin.2
          · obtain rfl : i = e1 := by omega
            have hpi : ¬ (i : Int) < (i : Int) := by omega
            obtain ⟨rfl, hvm⟩ := ni_end HI.out (by rw [HTL.out]; have := HE.out; omega)
            obtain rfl : T = (0, 2, n1, v) := HT.out.trans (by rw [if_neg (no2 hzz hl), if_neg (by omega)])
            go_wp2_with fail
            refine bodyPost_ret (results_tok rfl rowTok HNB.out.fin.1.rng rfl _ rfl rfl rfl) rfl ?_
            exact ⟨_, _, _, _, rfl, HNB.out.fin.2, fun _ => ⟨rfl, HX.out, rfl, by rw [HE.out]⟩⟩
      · have cl := fun W => rletter_q ((s[e1]).toNat : Int) W
        rw [hl] at cl
        have hlti : (e1 : Int) < (s.size : Int) := by omega
        cases hl2 : (((strL s).drop p)[n1]?).any isLet
        · rw [hl2] at cl hl
          have CL := Lib.hid cl
          replace hl := hl2
          clear cl
          go_enter Tryz.func84, Tryz.ntmps84
          go_wp2_with (first | (go_at_call 103; (with_reducible refine (C1.out _).mono ?_); rintro _ _ ⟨rfl, rfl⟩) | (go_at_call 58; (refine (CL.out _).mono ?_); rintro _ _ ⟨rfl, rfl⟩))
          go_loopw [13] (fun a wr => ∃ (i : Nat) (v : Int), a = .int .i64 (i : Int) ∧ p ≤ i ∧ i ≤ e1 ∧ NBx w wr (s.extract p e1) v ∧ NI t (i - p) v n) (fun a _ => e1 - (intOf a).toNat)
          case atStart => exact ⟨p, 0, rfl, Nat.le_refl _, by omega, ⟨(EL.out _).1, (EL.out _).2.1, (EL.out _).2.2⟩, by rw [Nat.sub_self]; exact HNI.out⟩
          case round =>
            clear HNI EL ED
            obtain ⟨i, v, rfl, hip, hi, NB, I⟩ := hrel
            rename World => wr
            obtain ⟨d0, d1, d2, d3, y0, y1, y2, y3, f0, f1, f2, f3, g2⟩ := NB.cells
            have HNB := Lib.hid NB
            have HI := Lib.hid I
            clear NB I
            by_cases hlt : i < e1
            · have hps : i < s.size := by omega
              have hpi : (i : Int) < (e1 : Int) := by omega
              have hpsi : (i : Int) < (s.size : Int) := by omega
              obtain ⟨q1, q2, q3, q4, q5, q6⟩ := ni_step HA.out HI.out (HAT.out i hip hlt hps)
              have HQ5 := Lib.hid q5
              have HQ6 := Lib.hid q6
              have BB := Below.refl wr.heap.size wr
              clear q5 q6
              have hu8 : IntKind.u8.wrap (((s[i]).toNat : Int) - 48) = ((s[i]).toNat : Int) - 48 := by simp [IntKind.wrap, IntKind.bits, IntKind.signed]; omega
              by_cases hbig : v * 10 + (((s[i]).toNat : Int) - 48) ≤ 2147483647
              · have I2 := Lib.hid (HQ5.out hbig)
                have hbn : ¬ 2147483647 < v * 10 + (((s[i]).toNat : Int) - 48) := by omega
                go_wp2_with fail
                have k_d0 := cell_regrown d0
                have k_d1 := cell_regrown d1
                have k_d2 := cell_regrown d2
                have k_d3 := cell_regrown d3
                have k_f0 := cell_regrown f0
                have k_f1 := cell_regrown f1
                have k_f2 := cell_regrown f2
                have k_f3 := cell_regrown f3
                refine wp_region_tailK (n := 10) (by kernel_rfl) (by kernel_rfl) ?_
                simp only [List.take_succ_cons, List.take_zero, List.drop_succ_cons, List.drop_zero]
                repeat (first | go_big_quiet_step ((first | fail)) | quiet_step ((first | fail)))
                refine wpQuiet_nil ?_
                intro W hw'
                have B := below_regrown' hw'
                clear hw' k_d0 k_d1 k_d2 k_d3 k_f0 k_f1 k_f2 k_f3
                replace BB := bon BB B
                replace g2 := frozen_below B f2 g2
                replace d0 := cell_below B d0
                replace d1 := cell_below B d1
                replace d2 := cell_below B d2
                replace d3 := cell_below B d3
                replace f0 := cell_below B f0
                replace f1 := cell_below B f1
                replace f2 := cell_below B f2
                replace f3 := cell_below B f3
                go_wp2_with fail
                go_roundw
                case rel => exact ⟨i + 1, _, by go_num, by omega, by omega, ((HNB.out.on BB).set _), by rw [show i + 1 - p = i - p + 1 by omega]; exact I2.out⟩
                case measure => simp [intOf] <;> omega
              · have hbn : 2147483647 < v * 10 + (((s[i]).toNat : Int) - 48) := by omega
                obtain rfl : T = (6, 0, 0, 0) := HT.out.trans (by rw [if_neg (no2 hzz hl), if_pos (HQ6.out hbn)])
                go_wp2_with fail
                have k_d0 := cell_regrown d0
                have k_d1 := cell_regrown d1
                have k_d2 := cell_regrown d2
                have k_d3 := cell_regrown d3
                have k_f0 := cell_regrown f0
                have k_f1 := cell_regrown f1
                have k_f2 := cell_regrown f2
                have k_f3 := cell_regrown f3
                refine wp_region_tailK (n := 10) (by kernel_rfl) (by kernel_rfl) ?_
                simp only [List.take_succ_cons, List.take_zero, List.drop_succ_cons, List.drop_zero]
                repeat (first | go_big_quiet_step ((first | fail)) | quiet_step ((first | fail)))
                refine wpQuiet_nil ?_
                intro W hw'
                have B := below_regrown' hw'
                clear hw' k_d0 k_d1 k_d2 k_d3 k_f0 k_f1 k_f2 k_f3
                replace BB := bon BB B
                replace g2 := frozen_below B f2 g2
                replace d0 := cell_below B d0
                replace d1 := cell_below B d1
                replace d2 := cell_below B d2
                replace d3 := cell_below B d3
                replace f0 := cell_below B f0
                replace f1 := cell_below B f1
                replace f2 := cell_below B f2
                replace f3 := cell_below B f3
                have NB2 := Lib.hid ((HNB.out.on BB).set (v * 10 + (((s[i]).toNat : Int) - 48)))
                obtain ⟨d0, d1, d2, d3, y0, y1, y2, y3, -⟩ := (HNB.out.on BB).cells
                go_wp2_with fail
                refine bodyPost_ret (results_tok rfl rowTok NB2.out.fin.1.rng rfl _ rfl rfl rfl) rfl ?_
                exact GivesN.no (by decide) NB2.out.fin.2
            · obtain rfl : i = e1 := by omega
              have hpi : ¬ (i : Int) < (i : Int) := by omega
              obtain ⟨rfl, hvm⟩ := ni_end HI.out (by rw [HTL.out]; have := HE.out; omega)
              obtain rfl : T = (0, 2, n1, v) := HT.out.trans (by rw [if_neg (no2 hzz hl), if_neg (by omega)])
              go_wp2_with fail
              refine bodyPost_ret (results_tok rfl rowTok HNB.out.fin.1.rng rfl _ rfl rfl rfl) rfl ?_
              exact ⟨_, _, _, _, rfl, HNB.out.fin.2, fun _ => ⟨rfl, HX.out, rfl, by rw [HE.out]⟩⟩
        · rw [hl2] at cl
          have CL := Lib.hid cl
          obtain rfl : T = (3, 0, 0, 0) := HT.out.trans (if_pos (.inr hl2))
          clear cl HT
          go_enter Tryz.func84, Tryz.ntmps84
          go_wp2_with (first | (go_at_call 103; (with_reducible refine (C1.out _).mono ?_); rintro _ _ ⟨rfl, rfl⟩) | (go_at_call 58; (refine (CL.out _).mono ?_); rintro _ _ ⟨rfl, rfl⟩))
          refine bodyPost_ret (results_tok rfl rowTok (ED.out _ _).1.rng rfl _ rfl rfl rfl) rfl ?_
          exact GivesN.no (by decide) (ED.out _ _).2
    · obtain rfl : T = (3, 0, 0, 0) := HT.out.trans (if_pos (.inl hzz))
      clear HT hlw2
      go_enter Tryz.func84, Tryz.ntmps84
      go_wp2_with (first | (go_at_call 103; (with_reducible refine (C1.out _).mono ?_); rintro _ _ ⟨rfl, rfl⟩))
      refine bodyPost_ret (results_tok rfl rowTok (ED.out _ _).1.rng rfl _ rfl rfl rfl) rfl ?_
      exact GivesN.no (by decide) (ED.out _ _).2
  · have hqi : (e1 : Int) + 1 < (s.size : Int) := by omega
    rcases hzw with ⟨hx0, hzz⟩ | ⟨hx0, hx1, hzz⟩ | ⟨hx0, hx1, hzz⟩
    · rcases hlw2 with ⟨hlt0, hl⟩ | ⟨hlt0, hl⟩
      · skip
        exfalso
        omega
      · have cl := fun W => rletter_q ((s[e1]).toNat : Int) W
        rw [hl] at cl
        have hlti : (e1 : Int) < (s.size : Int) := by omega
        cases hl2 : (((strL s).drop p)[n1]?).any isLet
        · rw [hl2] at cl hl
          have CL := Lib.hid cl
          replace hl := hl2
          clear cl
          go_enter Tryz.func84, Tryz.ntmps84
          go_wp2_with (first | (go_at_call 103; (with_reducible refine (C1.out _).mono ?_); rintro _ _ ⟨rfl, rfl⟩) | (go_at_call 58; (refine (CL.out _).mono ?_); rintro _ _ ⟨rfl, rfl⟩))
          go_loopw [13] (fun a wr => ∃ (i : Nat) (v : Int), a = .int .i64 (i : Int) ∧ p ≤ i ∧ i ≤ e1 ∧ NBx w wr (s.extract p e1) v ∧ NI t (i - p) v n) (fun a _ => e1 - (intOf a).toNat)
          case atStart => exact ⟨p, 0, rfl, Nat.le_refl _, by omega, ⟨(EL.out _).1, (EL.out _).2.1, (EL.out _).2.2⟩, by rw [Nat.sub_self]; exact HNI.out⟩
          case round =>
            clear HNI EL ED
            obtain ⟨i, v, rfl, hip, hi, NB, I⟩ := hrel
            rename World => wr
            obtain ⟨d0, d1, d2, d3, y0, y1, y2, y3, f0, f1, f2, f3, g2⟩ := NB.cells
            have HNB := Lib.hid NB
            have HI := Lib.hid I
            clear NB I
            by_cases hlt : i < e1
            · have hps : i < s.size := by omega
              have hpi : (i : Int) < (e1 : Int) := by omega
              have hpsi : (i : Int) < (s.size : Int) := by omega
              obtain ⟨q1, q2, q3, q4, q5, q6⟩ := ni_step HA.out HI.out (HAT.out i hip hlt hps)
              have HQ5 := Lib.hid q5
              have HQ6 := Lib.hid q6
              have BB := Below.refl wr.heap.size wr
              clear q5 q6
              have hu8 : IntKind.u8.wrap (((s[i]).toNat : Int) - 48) = ((s[i]).toNat : Int) - 48 := by simp [IntKind.wrap, IntKind.bits, IntKind.signed]; omega
              by_cases hbig : v * 10 + (((s[i]).toNat : Int) - 48) ≤ 2147483647
              · have I2 := Lib.hid (HQ5.out hbig)
                have hbn : ¬ 2147483647 < v * 10 + (((s[i]).toNat : Int) - 48) := by omega
                go_wp2_with fail
                have k_d0 := cell_regrown d0
                have k_d1 := cell_regrown d1
                have k_d2 := cell_regrown d2
                have k_d3 := cell_regrown d3
                have k_f0 := cell_regrown f0
                have k_f1 := cell_regrown f1
                have k_f2 := cell_regrown f2
                have k_f3 := cell_regrown f3
                refine wp_region_tailK (n := 10) (by kernel_rfl) (by kernel_rfl) ?_
                simp only [List.take_succ_cons, List.take_zero, List.drop_succ_cons, List.drop_zero]
                repeat (first | go_big_quiet_step ((first | fail)) | quiet_step ((first | fail)))
                refine wpQuiet_nil ?_
                intro W hw'
                have B := below_regrown' hw'
                clear hw' k_d0 k_d1 k_d2 k_d3 k_f0 k_f1 k_f2 k_f3
                replace BB := bon BB B
                replace g2 := frozen_below B f2 g2
                replace d0 := cell_below B d0
                replace d1 := cell_below B d1
                replace d2 := cell_below B d2
                replace d3 := cell_below B d3
                replace f0 := cell_below B f0
                replace f1 := cell_below B f1
                replace f2 := cell_below B f2
                replace f3 := cell_below B f3
                go_wp2_with fail
                go_roundw
                case rel => exact ⟨i + 1, _, by go_num, by omega, by omega, ((HNB.out.on BB).set _), by rw [show i + 1 - p = i - p + 1 by omega]; exact I2.out⟩
                case measure => simp [intOf] <;> omega
              · have hbn : 2147483647 < v * 10 + (((s[i]).toNat : Int) - 48) := by omega
                obtain rfl : T = (6, 0, 0, 0) := HT.out.trans (by rw [if_neg (no2 hzz hl), if_pos (HQ6.out hbn)])
                go_wp2_with fail
                have k_d0 := cell_regrown d0
                have k_d1 := cell_regrown d1
                have k_d2 := cell_regrown d2
                have k_d3 := cell_regrown d3
                have k_f0 := cell_regrown f0
                have k_f1 := cell_regrown f1
                have k_f2 := cell_regrown f2
                have k_f3 := cell_regrown f3
                refine wp_region_tailK (n := 10) (by kernel_rfl) (by kernel_rfl) ?_
                simp only [List.take_succ_cons, List.take_zero, List.drop_succ_cons, List.drop_zero]
                repeat (first | go_big_quiet_step ((first | fail)) | quiet_step ((first | fail)))
                refine wpQuiet_nil ?_
                intro W hw'
                have B := below_regrown' hw'
                clear hw' k_d0 k_d1 k_d2 k_d3 k_f0 k_f1 k_f2 k_f3
                replace BB := bon BB B
                replace g2 := frozen_below B f2 g2
                replace d0 := cell_below B d0
                replace d1 := cell_below B d1
                replace d2 := cell_below B d2
                replace d3 := cell_below B d3
                replace f0 := cell_below B f0
                replace f1 := cell_below B f1
                replace f2 := cell_below B f2
                replace f3 := cell_below B f3
                have NB2 := Lib.hid ((HNB.out.on BB).set (v * 10 + (((s[i]).toNat : Int) - 48)))
                obtain ⟨d0, d1, d2, d3, y0, y1, y2, y3, -⟩ := (HNB.out.on BB).cells
                go_wp2_with fail
                refine bodyPost_ret (results_tok rfl rowTok NB2.out.fin.1.rng rfl _ rfl rfl rfl) rfl ?_
                exact GivesN.no (by decide) NB2.out.fin.2
            · obtain rfl : i = e1 := by omega
              have hpi : ¬ (i : Int) < (i : Int) := by omega
              obtain ⟨rfl, hvm⟩ := ni_end HI.out (by rw [HTL.out]; have := HE.out; omega)
              obtain rfl : T = (0, 2, n1, v) := HT.out.trans (by rw [if_neg (no2 hzz hl), if_neg (by omega)])
              go_wp2_with fail
              refine bodyPost_ret (results_tok rfl rowTok HNB.out.fin.1.rng rfl _ rfl rfl rfl) rfl ?_
              exact ⟨_, _, _, _, rfl, HNB.out.fin.2, fun _ => ⟨rfl, HX.out, rfl, by rw [HE.out]⟩⟩
        · rw [hl2] at cl
          have CL := Lib.hid cl
          obtain rfl : T = (3, 0, 0, 0) := HT.out.trans (if_pos (.inr hl2))
          clear cl HT
          go_enter Tryz.func84, Tryz.ntmps84
          go_wp2_with (first | (go_at_call 103; (with_reducible refine (C1.out _).mono ?_); rintro _ _ ⟨rfl, rfl⟩) | (go_at_call 58; (refine (CL.out _).mono ?_); rintro _ _ ⟨rfl, rfl⟩))
          refine bodyPost_ret (results_tok rfl rowTok (ED.out _ _).1.rng rfl _ rfl rfl rfl) rfl ?_
          exact GivesN.no (by decide) (ED.out _ _).2
    · rcases hlw2 with ⟨hlt0, hl⟩ | ⟨hlt0, hl⟩
      · skip
        exfalso
        omega
      · have cl := fun W => rletter_q ((s[e1]).toNat : Int) W
        rw [hl] at cl
        have hlti : (e1 : Int) < (s.size : Int) := by omega
        cases hl2 : (((strL s).drop p)[n1]?).any isLet
        · rw [hl2] at cl hl
          have CL := Lib.hid cl
          replace hl := hl2
          clear cl
          go_enter Tryz.func84, Tryz.ntmps84
          go_wp2_with (first | (go_at_call 103; (with_reducible refine (C1.out _).mono ?_); rintro _ _ ⟨rfl, rfl⟩) | (go_at_call 58; (refine (CL.out _).mono ?_); rintro _ _ ⟨rfl, rfl⟩))
          go_loopw [13] (fun a wr => ∃ (i : Nat) (v : Int), a = .int .i64 (i : Int) ∧ p ≤ i ∧ i ≤ e1 ∧ NBx w wr (s.extract p e1) v ∧ NI t (i - p) v n) (fun a _ => e1 - (intOf a).toNat)
          case atStart => exact ⟨p, 0, rfl, Nat.le_refl _, by omega, ⟨(EL.out _).1, (EL.out _).2.1, (EL.out _).2.2⟩, by rw [Nat.sub_self]; exact HNI.out⟩
          case round =>
            clear HNI EL ED
            obtain ⟨i, v, rfl, hip, hi, NB, I⟩ := hrel
            rename World => wr
            obtain ⟨d0, d1, d2, d3, y0, y1, y2, y3, f0, f1, f2, f3, g2⟩ := NB.cells
            have HNB := Lib.hid NB
            have HI := Lib.hid I
            clear NB I
            by_cases hlt : i < e1
            · have hps : i < s.size := by omega
              have hpi : (i : Int) < (e1 : Int) := by omega
              have hpsi : (i : Int) < (s.size : Int) := by omega
              obtain ⟨q1, q2, q3, q4, q5, q6⟩ := ni_step HA.out HI.out (HAT.out i hip hlt hps)
              have HQ5 := Lib.hid q5
              have HQ6 := Lib.hid q6
              have BB := Below.refl wr.heap.size wr
              clear q5 q6
              have hu8 : IntKind.u8.wrap (((s[i]).toNat : Int) - 48) = ((s[i]).toNat : Int) - 48 := by simp [IntKind.wrap, IntKind.bits, IntKind.signed]; omega
              by_cases hbig : v * 10 + (((s[i]).toNat : Int) - 48) ≤ 2147483647
              · have I2 := Lib.hid (HQ5.out hbig)
                have hbn : ¬ 2147483647 < v * 10 + (((s[i]).toNat : Int) - 48) := by omega
                go_wp2_with fail
                have k_d0 := cell_regrown d0
                have k_d1 := cell_regrown d1
                have k_d2 := cell_regrown d2
                have k_d3 := cell_regrown d3
                have k_f0 := cell_regrown f0
                have k_f1 := cell_regrown f1
                have k_f2 := cell_regrown f2
                have k_f3 := cell_regrown f3
                refine wp_region_tailK (n := 10) (by kernel_rfl) (by kernel_rfl) ?_
                simp only [List.take_succ_cons, List.take_zero, List.drop_succ_cons, List.drop_zero]
                repeat (first | go_big_quiet_step ((first | fail)) | quiet_step ((first | fail)))
                refine wpQuiet_nil ?_
                intro W hw'
                have B := below_regrown' hw'
                clear hw' k_d0 k_d1 k_d2 k_d3 k_f0 k_f1 k_f2 k_f3
                replace BB := bon BB B
                replace g2 := frozen_below B f2 g2
                replace d0 := cell_below B d0
                replace d1 := cell_below B d1
                replace d2 := cell_below B d2
                replace d3 := cell_below B d3
                replace f0 := cell_below B f0
                replace f1 := cell_below B f1
                replace f2 := cell_below B f2
                replace f3 := cell_below B f3
                go_wp2_with fail
                go_roundw
                case rel => exact ⟨i + 1, _, by go_num, by omega, by omega, ((HNB.out.on BB).set _), by rw [show i + 1 - p = i - p + 1 by omega]; exact I2.out⟩
                case measure => simp [intOf] <;> omega
              · have hbn : 2147483647 < v * 10 + (((s[i]).toNat : Int) - 48) := by omega
                obtain rfl : T = (6, 0, 0, 0) := HT.out.trans (by rw [if_neg (no2 hzz hl), if_pos (HQ6.out hbn)])
                go_wp2_with fail
                have k_d0 := cell_regrown d0
                have k_d1 := cell_regrown d1
                have k_d2 := cell_regrown d2
                have k_d3 := cell_regrown d3
                have k_f0 := cell_regrown f0
                have k_f1 := cell_regrown f1
                have k_f2 := cell_regrown f2
                have k_f3 := cell_regrown f3
                refine wp_region_tailK (n := 10) (by kernel_rfl) (by kernel_rfl) ?_
                simp only [List.take_succ_cons, List.take_zero, List.drop_succ_cons, List.drop_zero]
                repeat (first | go_big_quiet_step ((first | fail)) | quiet_step ((first | fail)))
                refine wpQuiet_nil ?_
                intro W hw'
                have B := below_regrown' hw'
                clear hw' k_d0 k_d1 k_d2 k_d3 k_f0 k_f1 k_f2 k_f3
                replace BB := bon BB B
                replace g2 := frozen_below B f2 g2
                replace d0 := cell_below B d0
                replace d1 := cell_below B d1
                replace d2 := cell_below B d2
                replace d3 := cell_below B d3
                replace f0 := cell_below B f0
                replace f1 := cell_below B f1
                replace f2 := cell_below B f2
                replace f3 := cell_below B f3
                have NB2 := Lib.hid ((HNB.out.on BB).set (v * 10 + (((s[i]).toNat : Int) - 48)))
                obtain ⟨d0, d1, d2, d3, y0, y1, y2, y3, -⟩ := (HNB.out.on BB).cells
                go_wp2_with fail
                refine bodyPost_ret (results_tok rfl rowTok NB2.out.fin.1.rng rfl _ rfl rfl rfl) rfl ?_
                exact GivesN.no (by decide) NB2.out.fin.2
            · obtain rfl : i = e1 := by omega
              have hpi : ¬ (i : Int) < (i : Int) := by omega
              obtain ⟨rfl, hvm⟩ := ni_end HI.out (by rw [HTL.out]; have := HE.out; omega)
              obtain rfl : T = (0, 2, n1, v) := HT.out.trans (by rw [if_neg (no2 hzz hl), if_neg (by omega)])
              go_wp2_with fail
              refine bodyPost_ret (results_tok rfl rowTok HNB.out.fin.1.rng rfl _ rfl rfl rfl) rfl ?_
              exact ⟨_, _, _, _, rfl, HNB.out.fin.2, fun _ => ⟨rfl, HX.out, rfl, by rw [HE.out]⟩⟩
        · rw [hl2] at cl
          have CL := Lib.hid cl
          obtain rfl : T = (3, 0, 0, 0) := HT.out.trans (if_pos (.inr hl2))
          clear cl HT
          go_enter Tryz.func84, Tryz.ntmps84
          go_wp2_with (first | (go_at_call 103; (with_reducible refine (C1.out _).mono ?_); rintro _ _ ⟨rfl, rfl⟩) | (go_at_call 58; (refine (CL.out _).mono ?_); rintro _ _ ⟨rfl, rfl⟩))
          refine bodyPost_ret (results_tok rfl rowTok (ED.out _ _).1.rng rfl _ rfl rfl rfl) rfl ?_
          exact GivesN.no (by decide) (ED.out _ _).2
    · obtain rfl : T = (3, 0, 0, 0) := HT.out.trans (if_pos (.inl hzz))
      clear HT hlw2
      go_enter Tryz.func84, Tryz.ntmps84
      go_wp2_with (first | (go_at_call 103; (with_reducible refine (C1.out _).mono ?_); rintro _ _ ⟨rfl, rfl⟩))
      refine bodyPost_ret (results_tok rfl rowTok (ED.out _ _).1.rng rfl _ rfl rfl rfl) rfl ?_
      exact GivesN.no (by decide) (ED.out _ _).2
  · have hqi : (e1 : Int) + 1 < (s.size : Int) := by omega
    have cd := fun W => rdigit_q ((s[e1 + 1]).toNat : Int) W
    rw [hdg] at cd
    have CD := Lib.hid cd
    clear cd hdg
    rcases hzw with ⟨hx0, hzz⟩ | ⟨hx0, hx1, hzz⟩ | ⟨hx0, hx1, hzz⟩
    · rcases hlw2 with ⟨hlt0, hl⟩ | ⟨hlt0, hl⟩
      · skip
        exfalso
        omega
      · have cl := fun W => rletter_q ((s[e1]).toNat : Int) W
        rw [hl] at cl
        have hlti : (e1 : Int) < (s.size : Int) := by omega
        cases hl2 : (((strL s).drop p)[n1]?).any isLet
        · rw [hl2] at cl hl
          have CL := Lib.hid cl
          replace hl := hl2
          clear cl
          go_enter Tryz.func84, Tryz.ntmps84
          go_wp2_with (first | (go_at_call 103; (with_reducible refine (C1.out _).mono ?_); rintro _ _ ⟨rfl, rfl⟩) | (go_at_call 57; (refine (CD.out _).mono ?_); rintro _ _ ⟨rfl, rfl⟩) | (go_at_call 58; (refine (CL.out _).mono ?_); rintro _ _ ⟨rfl, rfl⟩))
          go_loopw [13] (fun a wr => ∃ (i : Nat) (v : Int), a = .int .i64 (i : Int) ∧ p ≤ i ∧ i ≤ e1 ∧ NBx w wr (s.extract p e1) v ∧ NI t (i - p) v n) (fun a _ => e1 - (intOf a).toNat)
          case atStart => exact ⟨p, 0, rfl, Nat.le_refl _, by omega, ⟨(EL.out _).1, (EL.out _).2.1, (EL.out _).2.2⟩, by rw [Nat.sub_self]; exact HNI.out⟩
          case round =>
            clear HNI EL ED
            obtain ⟨i, v, rfl, hip, hi, NB, I⟩ := hrel
            rename World => wr
            obtain ⟨d0, d1, d2, d3, y0, y1, y2, y3, f0, f1, f2, f3, g2⟩ := NB.cells
            have HNB := Lib.hid NB
            have HI := Lib.hid I
            clear NB I
            by_cases hlt : i < e1
            · have hps : i < s.size := by omega
              have hpi : (i : Int) < (e1 : Int) := by omega
              have hpsi : (i : Int) < (s.size : Int) := by omega
              obtain ⟨q1, q2, q3, q4, q5, q6⟩ := ni_step HA.out HI.out (HAT.out i hip hlt hps)
              have HQ5 := Lib.hid q5
              have HQ6 := Lib.hid q6
              have BB := Below.refl wr.heap.size wr
              clear q5 q6
              have hu8 : IntKind.u8.wrap (((s[i]).toNat : Int) - 48) = ((s[i]).toNat : Int) - 48 := by simp [IntKind.wrap, IntKind.bits, IntKind.signed]; omega
              by_cases hbig : v * 10 + (((s[i]).toNat : Int) - 48) ≤ 2147483647
              · have I2 := Lib.hid (HQ5.out hbig)
                have hbn : ¬ 2147483647 < v * 10 + (((s[i]).toNat : Int) - 48) := by omega
                go_wp2_with fail
                have k_d0 := cell_regrown d0
                have k_d1 := cell_regrown d1
                have k_d2 := cell_regrown d2
                have k_d3 := cell_regrown d3
                have k_f0 := cell_regrown f0
                have k_f1 := cell_regrown f1
                have k_f2 := cell_regrown f2
                have k_f3 := cell_regrown f3
                refine wp_region_tailK (n := 10) (by kernel_rfl) (by kernel_rfl) ?_
                simp only [List.take_succ_cons, List.take_zero, List.drop_succ_cons, List.drop_zero]
                repeat (first | go_big_quiet_step ((first | fail)) | quiet_step ((first | fail)))
                refine wpQuiet_nil ?_
                intro W hw'
                have B := below_regrown' hw'
                clear hw' k_d0 k_d1 k_d2 k_d3 k_f0 k_f1 k_f2 k_f3
                replace BB := bon BB B
                replace g2 := frozen_below B f2 g2
                replace d0 := cell_below B d0
                replace d1 := cell_below B d1
                replace d2 := cell_below B d2
                replace d3 := cell_below B d3
                replace f0 := cell_below B f0
                replace f1 := cell_below B f1
                replace f2 := cell_below B f2
                replace f3 := cell_below B f3
                go_wp2_with fail
                go_roundw
                case rel => exact ⟨i + 1, _, by go_num, by omega, by omega, ((HNB.out.on BB).set _), by rw [show i + 1 - p = i - p + 1 by omega]; exact I2.out⟩
                case measure => simp [intOf] <;> omega
              · have hbn : 2147483647 < v * 10 + (((s[i]).toNat : Int) - 48) := by omega
                obtain rfl : T = (6, 0, 0, 0) := HT.out.trans (by rw [if_neg (no2 hzz hl), if_pos (HQ6.out hbn)])
                go_wp2_with fail
                have k_d0 := cell_regrown d0
                have k_d1 := cell_regrown d1
                have k_d2 := cell_regrown d2
                have k_d3 := cell_regrown d3
                have k_f0 := cell_regrown f0
                have k_f1 := cell_regrown f1
                have k_f2 := cell_regrown f2
                have k_f3 := cell_regrown f3
                refine wp_region_tailK (n := 10) (by kernel_rfl) (by kernel_rfl) ?_
                simp only [List.take_succ_cons, List.take_zero, List.drop_succ_cons, List.drop_zero]
                repeat (first | go_big_quiet_step ((first | fail)) | quiet_step ((first | fail)))
                refine wpQuiet_nil ?_
                intro W hw'
                have B := below_regrown' hw'
                clear hw' k_d0 k_d1 k_d2 k_d3 k_f0 k_f1 k_f2 k_f3
                replace BB := bon BB B
                replace g2 := frozen_below B f2 g2
                replace d0 := cell_below B d0
                replace d1 := cell_below B d1
                replace d2 := cell_below B d2
                replace d3 := cell_below B d3
                replace f0 := cell_below B f0
                replace f1 := cell_below B f1
                replace f2 := cell_below B f2
                replace f3 := cell_below B f3
                have NB2 := Lib.hid ((HNB.out.on BB).set (v * 10 + (((s[i]).toNat : Int) - 48)))
                obtain ⟨d0, d1, d2, d3, y0, y1, y2, y3, -⟩ := (HNB.out.on BB).cells
                go_wp2_with fail
                refine bodyPost_ret (results_tok rfl rowTok NB2.out.fin.1.rng rfl _ rfl rfl rfl) rfl ?_
                exact GivesN.no (by decide) NB2.out.fin.2
            · obtain rfl : i = e1 := by omega
              have hpi : ¬ (i : Int) < (i : Int) := by omega
              obtain ⟨rfl, hvm⟩ := ni_end HI.out (by rw [HTL.out]; have := HE.out; omega)
              obtain rfl : T = (0, 2, n1, v) := HT.out.trans (by rw [if_neg (no2 hzz hl), if_neg (by omega)])
              go_wp2_with fail
              refine bodyPost_ret (results_tok rfl rowTok HNB.out.fin.1.rng rfl _ rfl rfl rfl) rfl ?_
              exact ⟨_, _, _, _, rfl, HNB.out.fin.2, fun _ => ⟨rfl, HX.out, rfl, by rw [HE.out]⟩⟩
        · rw [hl2] at cl
          have CL := Lib.hid cl
          obtain rfl : T = (3, 0, 0, 0) := HT.out.trans (if_pos (.inr hl2))
          clear cl HT
          go_enter Tryz.func84, Tryz.ntmps84
          go_wp2_with (first | (go_at_call 103; (with_reducible refine (C1.out _).mono ?_); rintro _ _ ⟨rfl, rfl⟩) | (go_at_call 57; (refine (CD.out _).mono ?_); rintro _ _ ⟨rfl, rfl⟩) | (go_at_call 58; (refine (CL.out _).mono ?_); rintro _ _ ⟨rfl, rfl⟩))
          refine bodyPost_ret (results_tok rfl rowTok (ED.out _ _).1.rng rfl _ rfl rfl rfl) rfl ?_
          exact GivesN.no (by decide) (ED.out _ _).2
    · rcases hlw2 with ⟨hlt0, hl⟩ | ⟨hlt0, hl⟩
      · skip
        exfalso
        omega
      · have cl := fun W => rletter_q ((s[e1]).toNat : Int) W
        rw [hl] at cl
        have hlti : (e1 : Int) < (s.size : Int) := by omega
        cases hl2 : (((strL s).drop p)[n1]?).any isLet
        · rw [hl2] at cl hl
          have CL := Lib.hid cl
          replace hl := hl2
          clear cl
          go_enter Tryz.func84, Tryz.ntmps84
          go_wp2_with (first | (go_at_call 103; (with_reducible refine (C1.out _).mono ?_); rintro _ _ ⟨rfl, rfl⟩) | (go_at_call 57; (refine (CD.out _).mono ?_); rintro _ _ ⟨rfl, rfl⟩) | (go_at_call 58; (refine (CL.out _).mono ?_); rintro _ _ ⟨rfl, rfl⟩))
          go_loopw [13] (fun a wr => ∃ (i : Nat) (v : Int), a = .int .i64 (i : Int) ∧ p ≤ i ∧ i ≤ e1 ∧ NBx w wr (s.extract p e1) v ∧ NI t (i - p) v n) (fun a _ => e1 - (intOf a).toNat)
          case atStart => exact ⟨p, 0, rfl, Nat.le_refl _, by omega, ⟨(EL.out _).1, (EL.out _).2.1, (EL.out _).2.2⟩, by rw [Nat.sub_self]; exact HNI.out⟩
          case round =>
            clear HNI EL ED
            obtain ⟨i, v, rfl, hip, hi, NB, I⟩ := hrel
            rename World => wr
            obtain ⟨d0, d1, d2, d3, y0, y1, y2, y3, f0, f1, f2, f3, g2⟩ := NB.cells
            have HNB := Lib.hid NB
            have HI := Lib.hid I
            clear NB I
            by_cases hlt : i < e1
            · have hps : i < s.size := by omega
              have hpi : (i : Int) < (e1 : Int) := by omega
              have hpsi : (i : Int) < (s.size : Int) := by omega
              obtain ⟨q1, q2, q3, q4, q5, q6⟩ := ni_step HA.out HI.out (HAT.out i hip hlt hps)
              have HQ5 := Lib.hid q5
              have HQ6 := Lib.hid q6
              have BB := Below.refl wr.heap.size wr
              clear q5 q6
              have hu8 : IntKind.u8.wrap (((s[i]).toNat : Int) - 48) = ((s[i]).toNat : Int) - 48 := by simp [IntKind.wrap, IntKind.bits, IntKind.signed]; omega
              by_cases hbig : v * 10 + (((s[i]).toNat : Int) - 48) ≤ 2147483647
              · have I2 := Lib.hid (HQ5.out hbig)
                have hbn : ¬ 2147483647 < v * 10 + (((s[i]).toNat : Int) - 48) := by omega
                go_wp2_with fail
                have k_d0 := cell_regrown d0
                have k_d1 := cell_regrown d1
                have k_d2 := cell_regrown d2
                have k_d3 := cell_regrown d3
                have k_f0 := cell_regrown f0
                have k_f1 := cell_regrown f1
                have k_f2 := cell_regrown f2
                have k_f3 := cell_regrown f3
                refine wp_region_tailK (n := 10) (by kernel_rfl) (by kernel_rfl) ?_
                simp only [List.take_succ_cons, List.take_zero, List.drop_succ_cons, List.drop_zero]
                repeat (first | go_big_quiet_step ((first | fail)) | quiet_step ((first | fail)))
                refine wpQuiet_nil ?_
                intro W hw'
                have B := below_regrown' hw'
                clear hw' k_d0 k_d1 k_d2 k_d3 k_f0 k_f1 k_f2 k_f3
                replace BB := bon BB B
                replace g2 := frozen_below B f2 g2
                replace d0 := cell_below B d0
                replace d1 := cell_below B d1
                replace d2 := cell_below B d2
                replace d3 := cell_below B d3
                replace f0 := cell_below B f0
                replace f1 := cell_below B f1
                replace f2 := cell_below B f2
                replace f3 := cell_below B f3
                go_wp2_with fail
                go_roundw
                case rel => exact ⟨i + 1, _, by go_num, by omega, by omega, ((HNB.out.on BB).set _), by rw [show i + 1 - p = i - p + 1 by omega]; exact I2.out⟩
                case measure => simp [intOf] <;> omega
              · have hbn : 2147483647 < v * 10 + (((s[i]).toNat : Int) - 48) := by omega
                obtain rfl : T = (6, 0, 0, 0) := HT.out.trans (by rw [if_neg (no2 hzz hl), if_pos (HQ6.out hbn)])
                go_wp2_with fail
                have k_d0 := cell_regrown d0
                have k_d1 := cell_regrown d1
                have k_d2 := cell_regrown d2
                have k_d3 := cell_regrown d3
                have k_f0 := cell_regrown f0
                have k_f1 := cell_regrown f1
                have k_f2 := cell_regrown f2
                have k_f3 := cell_regrown f3
                refine wp_region_tailK (n := 10) (by kernel_rfl) (by kernel_rfl) ?_
                simp only [List.take_succ_cons, List.take_zero, List.drop_succ_cons, List.drop_zero]
                repeat (first | go_big_quiet_step ((first | fail)) | quiet_step ((first | fail)))
                refine wpQuiet_nil ?_
                intro W hw'
                have B := below_regrown' hw'
                clear hw' k_d0 k_d1 k_d2 k_d3 k_f0 k_f1 k_f2 k_f3
                replace BB := bon BB B
                replace g2 := frozen_below B f2 g2
                replace d0 := cell_below B d0
                replace d1 := cell_below B d1
                replace d2 := cell_below B d2
                replace d3 := cell_below B d3
                replace f0 := cell_below B f0
                replace f1 := cell_below B f1
                replace f2 := cell_below B f2
                replace f3 := cell_below B f3
                have NB2 := Lib.hid ((HNB.out.on BB).set (v * 10 + (((s[i]).toNat : Int) - 48)))
                obtain ⟨d0, d1, d2, d3, y0, y1, y2, y3, -⟩ := (HNB.out.on BB).cells
                go_wp2_with fail
                refine bodyPost_ret (results_tok rfl rowTok NB2.out.fin.1.rng rfl _ rfl rfl rfl) rfl ?_
                exact GivesN.no (by decide) NB2.out.fin.2
            · obtain rfl : i = e1 := by omega
              have hpi : ¬ (i : Int) < (i : Int) := by omega
              obtain ⟨rfl, hvm⟩ := ni_end HI.out (by rw [HTL.out]; have := HE.out; omega)
              obtain rfl : T = (0, 2, n1, v) := HT.out.trans (by rw [if_neg (no2 hzz hl), if_neg (by omega)])
              go_wp2_with fail
              refine bodyPost_ret (results_tok rfl rowTok HNB.out.fin.1.rng rfl _ rfl rfl rfl) rfl ?_
              exact ⟨_, _, _, _, rfl, HNB.out.fin.2, fun _ => ⟨rfl, HX.out, rfl, by rw [HE.out]⟩⟩
        · rw [hl2] at cl
          have CL := Lib.hid cl
          obtain rfl : T = (3, 0, 0, 0) := HT.out.trans (if_pos (.inr hl2))
          clear cl HT
          go_enter Tryz.func84, Tryz.ntmps84
          go_wp2_with (first | (go_at_call 103; (with_reducible refine (C1.out _).mono ?_); rintro _ _ ⟨rfl, rfl⟩) | (go_at_call 57; (refine (CD.out _).mono ?_); rintro _ _ ⟨rfl, rfl⟩) | (go_at_call 58; (refine (CL.out _).mono ?_); rintro _ _ ⟨rfl, rfl⟩))
          refine bodyPost_ret (results_tok rfl rowTok (ED.out _ _).1.rng rfl _ rfl rfl rfl) rfl ?_
          exact GivesN.no (by decide) (ED.out _ _).2
    · obtain rfl : T = (3, 0, 0, 0) := HT.out.trans (if_pos (.inl hzz))
      clear HT hlw2
      go_enter Tryz.func84, Tryz.ntmps84
      go_wp2_with (first | (go_at_call 103; (with_reducible refine (C1.out _).mono ?_); rintro _ _ ⟨rfl, rfl⟩) | (go_at_call 57; (refine (CD.out _).mono ?_); rintro _ _ ⟨rfl, rfl⟩))
      refine bodyPost_ret (results_tok rfl rowTok (ED.out _ _).1.rng rfl _ rfl rfl rfl) rfl ?_
      exact GivesN.no (by decide) (ED.out _ _).2

theorem rznumber_b (s : ByteArray) (p : Nat) (w : World) (hp : p < s.size) (hs : s.size ≤ 16384) (hd : (((strL s).drop p).head?).any isDig = true) : Calls Tryz.prog 84 #[.string s, .int .i64 (p : Int)] w (GivesN ((strL s).drop p) p (tkr ((strL s).drop p)) w) := by
  cases hf : fxd ((strL s).drop p)
  · exact rnum_int s p w hp hs hd hf
  · exact rnum_fix s p w hp hs hd hf

end Go.Proofs.YtjpkcgepdfpbnaaGreatDoor
