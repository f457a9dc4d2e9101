/- One class of formats of the reference's AppendAttribute. -/
import Derived.Test.YtfiblgbglccmhaaB5r
namespace Go.Proofs.Ytfiblgbglccmhaa
open Go.RowKit Go.Sort Go.ChangeShapes Go.WideShapes

set_option maxRecDepth 100000 in
set_option maxHeartbeats 6000000 in
theorem rappend_int1 (A A2 : Option Addr) (n c n2 c2 : Nat) (l vs : List Int) (f : Int) (w : World) (R : Rd w w.heap.size .u8 A n l) (R2 : Rd w w.heap.size .i64 A2 n2 vs) (hn : n ≤ 140737488351232) (hn2 : n2 ≤ 9223372036854775807) (hf : f = 8) :
    Calls Try.prog 26 #[.slice A n c, .int .i64 f, .slice A2 n2 c2] w (GivesOwn w w.heap.size 5 .u8 (l ++ bts f vs (cps f))) := by
  have BB : Below w.heap.size w w := Below.refl _ _
  have k4 := cps_le f
  have cc := fun W => rcps_q f W
  have hz : csz f = 4 := by exact csz_none (by omega)
  have hb0 : bts f vs 0 = [] := rfl
  have hlen := bts_len f vs
  have hbs : ∀ j, bts f vs (j + 1) = bts f vs j ++ lb (csz f) (ecd f (vs.getD j 0)) := fun j => rfl
  have hX : ∀ x, lb 4 (ecd f x) = lb 4 (x) := fun x => by rw [hf, ecd_8, lb4_wrap]
  rw [hz] at hlen hbs
  simp only [hX] at hbs
  obtain ⟨BT, hBT⟩ : ∃ BT : Nat → List Int, bts f vs = BT := ⟨_, rfl⟩
  rw [hBT] at hb0 hlen hbs ⊢
  obtain ⟨k, hk⟩ : ∃ k, cps f = k := ⟨_, rfl⟩
  rw [hk] at cc k4 ⊢
  have CC := Lib.hid cc
  have HLEN := Lib.hid hlen
  have HB0 := Lib.hid hb0
  have HBS := Lib.hid hbs
  have own0 := Own.made w 5 .u8
  have B0 : Below w.heap.size w (w.alloc (.cells #[] 5)) := (Below.refl _ _).alloc (Nat.le_refl _) _
  have KR := Lib.hid R
  have KV := Lib.hid R2
  have hl := R.len
  have hv := R2.len
  clear cc hlen hb0 hbs hX hz hBT hk R R2 BB
  have HV := Lib.hid hv
  clear hv
  subst hf
  all_goals
    go_enter Try.func26, Try.ntmps26
    go_wp2_with (at_builtin; refine wpList_app _ rfl _ _ _ rfl eB own0 rfl (KR.out.below B0) rfl (by simp only [maxLen]; omega) (by omega) ?_; intro A1 n1 c1 W1 own1 B1)
    replace B1 := B0.trans B1
    clear own0 B0
    rw [List.nil_append] at own1
    go_loopw [7, 8] (fun t i wr => ∃ (j m d : Nat) (A9 : Option Addr), j ≤ k ∧ i = .int .i64 j ∧ t = .slice A9 m d ∧ Own wr w.heap.size 5 .u8 A9 m d (l ++ BT j) ∧ Below w.heap.size w wr) (fun _ i _ => k - (intOf i).toNat)
    case atStart => exact ⟨0, n1, c1, A1, by omega, by go_num, rfl, by rw [HB0.out, List.append_nil]; exact own1, B1⟩
    case round =>
      clear own1 B1
      obtain ⟨j, m, d, A9, hjk, rfl, rfl, own, BR⟩ := hrel
      have hm := own.len
      rw [List.length_append, HLEN.out, hl] at hm
      by_cases hlt : j < k
      · have hm2 : m ≤ n + 16 := by omega
        obtain ⟨x, hx⟩ : ∃ x, vs.getD j 0 = x := ⟨_, rfl⟩
        have hS := HBS.out j
        rw [hx] at hS
        have HS := Lib.hid hS
        have HM := Lib.hid hm
        have OWN := Lib.hid own
        clear hS hm own
        rcases Nat.lt_or_ge j n2 with hj2 | hj2
        · obtain ⟨b1, off, x', rfl, _, cx, x0, x1, hxx⟩ := (KV.out.below BR).at_ hj2
          obtain rfl : x' = x := by rw [← hx, List.getD, hxx.out]; rfl
          clear hx hxx
          try (have t1 : decide (j < n2) = false := decide_eq_false (by omega))
          go_wp2_with (first
            | (go_at_call 17; (with_reducible refine (CC.out _).mono ?_); rintro _ _ ⟨rfl, rfl⟩)
)
          have HP : Hid (∀ t : List Int, t.length = m → t = l ++ BT j → putL (t ++ List.replicate 4 0) m (x') 4 = l ++ BT (j + 1)) := Lib.hid fun t ht he => by
            rw [← ht, putL_end, he, HS.out, List.append_assoc]
          clear HS
          go_loopw [7, 12] (fun t i wq => ∃ (q d3 : Nat) (A3 : Option Addr), q ≤ 4 ∧ i = .int .i64 q ∧ t = .slice A3 (m + q) d3 ∧ Own wq w.heap.size 5 .u8 A3 (m + q) d3 ((l ++ BT j) ++ List.replicate q 0) ∧ Below w.heap.size w wq) (fun _ i _ => 4 - (intOf i).toNat)
          case atStart => exact ⟨0, _, _, by omega, rfl, rfl, by rw [List.replicate_zero, List.append_nil]; exact OWN.out, BR⟩
          case round =>
            obtain ⟨q, d3, A3, hq, rfl, rfl, own3, BQ⟩ := hrel
            have hbt := OWN.out.len
            clear OWN BR
            have OWN3 := Lib.hid own3
            have hb := own3.base_le
            clear own3
            by_cases hlq : q < 4
            · go_wp2_with (at_builtin; refine wpList_app1 _ rfl _ _ _ rfl eB OWN3.out rfl (v := 0) (by rw [u8_min, u8_max]; omega) rfl (by simp only [maxLen]; omega) (by omega) ?_; intro A4 m4 d4 W4 own4 B4; obtain rfl : m4 = m + q + 1 := by (have h1 := own4.len; have h2 := OWN3.out.len; rw [List.length_append, h2] at h1; exact h1.symm))
              go_roundw
              case rel => first | exact ⟨q + 1, d4, A4, by omega, by go_num, rfl, by rw [List.replicate_succ', ← List.append_assoc]; exact own4, BQ.trans B4⟩ | exact ⟨_, _, _, _, _, _, _, _, _, _, ⟨q + 1, d4, A4, by omega, by rw [show ((q + 1 : Nat) : Int) = (q : Int) + 1 by omega], rfl, by rw [List.replicate_succ', ← List.append_assoc]; exact own4, BQ.trans B4⟩, rfl⟩
              case measure => simp [intOf]; omega
            · obtain rfl : q = 4 := by omega
              have cp := fun W (RW : Rd W W.heap.size .u8 A3 (m + 4) _) => rput_at A3 (m + 4) d3 ((l ++ BT j) ++ List.replicate 4 0) (x') W RW (m : Int) 4 m 4 rfl rfl (by omega) (by omega) (by omega) (by omega)
              rw [HP.out _ hbt rfl] at cp
              have CP := Lib.hid cp
              clear cp hbt
              go_wp2_with (go_at_call 33; (with_reducible refine (CP.out _ OWN3.out.rd).mono ?_); rintro _ V8 ⟨A8, n8, c8, rfl, own8, B⟩)
              have own9 := own8.weak' hb
              go_roundw
              case rel => exact ⟨j + 1, n8, c8, A8, by omega, by go_num, rfl, own9, BQ.trans (B.mono hb)⟩
              case measure => simp [intOf]; omega
        · obtain rfl : x = 0 := by rw [← hx, List.getD, List.getElem?_eq_none (by rw [HV.out]; omega)]; rfl
          clear hx
          try (have t1 : decide (j < n2) = false := decide_eq_false (by omega))
          go_wp2_with (first
            | (go_at_call 17; (with_reducible refine (CC.out _).mono ?_); rintro _ _ ⟨rfl, rfl⟩)
)
          have HP : Hid (∀ t : List Int, t.length = m → t = l ++ BT j → putL (t ++ List.replicate 4 0) m (0) 4 = l ++ BT (j + 1)) := Lib.hid fun t ht he => by
            rw [← ht, putL_end, he, HS.out, List.append_assoc]
          clear HS
          go_loopw [7, 12] (fun t i wq => ∃ (q d3 : Nat) (A3 : Option Addr), q ≤ 4 ∧ i = .int .i64 q ∧ t = .slice A3 (m + q) d3 ∧ Own wq w.heap.size 5 .u8 A3 (m + q) d3 ((l ++ BT j) ++ List.replicate q 0) ∧ Below w.heap.size w wq) (fun _ i _ => 4 - (intOf i).toNat)
          case atStart => exact ⟨0, _, _, by omega, rfl, rfl, by rw [List.replicate_zero, List.append_nil]; exact OWN.out, BR⟩
          case round =>
            obtain ⟨q, d3, A3, hq, rfl, rfl, own3, BQ⟩ := hrel
            have hbt := OWN.out.len
            clear OWN BR
            have OWN3 := Lib.hid own3
            have hb := own3.base_le
            clear own3
            by_cases hlq : q < 4
            · go_wp2_with (at_builtin; refine wpList_app1 _ rfl _ _ _ rfl eB OWN3.out rfl (v := 0) (by rw [u8_min, u8_max]; omega) rfl (by simp only [maxLen]; omega) (by omega) ?_; intro A4 m4 d4 W4 own4 B4; obtain rfl : m4 = m + q + 1 := by (have h1 := own4.len; have h2 := OWN3.out.len; rw [List.length_append, h2] at h1; exact h1.symm))
              go_roundw
              case rel => first | exact ⟨q + 1, d4, A4, by omega, by go_num, rfl, by rw [List.replicate_succ', ← List.append_assoc]; exact own4, BQ.trans B4⟩ | exact ⟨_, _, _, _, _, _, _, _, _, _, ⟨q + 1, d4, A4, by omega, by rw [show ((q + 1 : Nat) : Int) = (q : Int) + 1 by omega], rfl, by rw [List.replicate_succ', ← List.append_assoc]; exact own4, BQ.trans B4⟩, rfl⟩
              case measure => simp [intOf]; omega
            · obtain rfl : q = 4 := by omega
              have cp := fun W (RW : Rd W W.heap.size .u8 A3 (m + 4) _) => rput_at A3 (m + 4) d3 ((l ++ BT j) ++ List.replicate 4 0) (0) W RW (m : Int) 4 m 4 rfl rfl (by omega) (by omega) (by omega) (by omega)
              rw [HP.out _ hbt rfl] at cp
              have CP := Lib.hid cp
              clear cp hbt
              go_wp2_with (go_at_call 33; (with_reducible refine (CP.out _ OWN3.out.rd).mono ?_); rintro _ V8 ⟨A8, n8, c8, rfl, own8, B⟩)
              have own9 := own8.weak' hb
              go_roundw
              case rel => exact ⟨j + 1, n8, c8, A8, by omega, by go_num, rfl, own9, BQ.trans (B.mono hb)⟩
              case measure => simp [intOf]; omega
      · obtain rfl : j = k := by omega
        have OWN := Lib.hid own
        clear own
        go_wp2_with (go_at_call 17; (with_reducible refine (CC.out _).mono ?_); rintro _ _ ⟨rfl, rfl⟩)
        go_ret
        exact ⟨A9, m, d, rfl, OWN.out, BR⟩

end Go.Proofs.Ytfiblgbglccmhaa
