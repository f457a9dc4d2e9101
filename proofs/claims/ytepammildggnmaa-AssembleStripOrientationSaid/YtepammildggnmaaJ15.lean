/- with of the reference. -/
import Derived.Test.YtepammildggnmaaJ14
namespace Go.Proofs.Ytepammildggnmaa
open Go.RowKit Go.Sort Go.ChangeShapes Go.WideShapes
set_option linter.unusedVariables false

/-- A call that returns a slice of edges with room. -/
def GivesC (W : World) (es : List Ed) (x : Ending) (w' : World) : Prop := ∃ A n c, x = .returned (.slice A n c) ∧ n ≤ c ∧ RdD w' w'.heap.size A n es ∧ Below W.heap.size W w'

theorem RdE.pre {α : Type} {enc : α → List Value} {k : Nat} {w : World} {B n i : Nat} {A : Option Addr} {l : List α} (h : RdE enc k w B A n l) (hi : i ≤ n) : RdE enc k w B A i (l.take i) := by
  refine ⟨by rw [List.length_take, h.1]; omega, fun hn => ?_⟩
  obtain ⟨b, off, rfl, hlt, hcell⟩ := h.2 (by omega)
  refine ⟨b, off, rfl, hlt, fun j x hx => hcell j x ?_⟩
  rw [List.getElem?_take] at hx
  split at hx
  · exact hx
  · cases hx

set_option maxRecDepth 100000 in
set_option maxHeartbeats 4000000 in
theorem with_b (A : Option Addr) (n c : Nat) (es : List Ed) (e : Ed) (w : World) (R : RdD w w.heap.size A n es) (hc : n ≤ c) (hn : n ≤ 1073741824) :
    Calls Try.prog 35 #[.slice A n c, .agg #[.int .i64 e.x, .int .i64 e.y]] w (GivesC w (ins e es)) := by
  have KR := Lib.hid R
  have HL := Lib.hid R.len
  have HIN := Lib.hid (fun k (h : k < insAt e es) => insAt_in h)
  have HOUT := Lib.hid (insAt_out (e := e) (l := es))
  have hle := insAt_le e es
  rw [R.len] at hle HOUT
  have HH := Lib.hid (ins_here (e := e) (l := es))
  have HNW := Lib.hid (ins_new (e := e) (l := es))
  obtain ⟨q, hq⟩ : ∃ q, insAt e es = q := ⟨_, rfl⟩
  obtain ⟨G, hG⟩ : ∃ G, ins e es = G := ⟨_, rfl⟩
  rw [hq] at HIN HOUT HH HNW hle
  rw [hG] at HH HNW ⊢
  obtain ⟨ex, ey⟩ := e
  clear R hq hG
  go_enter Try.func35, Try.ntmps35
  go_wp2
  have VE0 : (w.alloc (.cells #[.int .i64 ex, .int .i64 ey] 49)).rangeAt w.heap.size 0 [.int .i64 ex, .int .i64 ey] := (EBox.made w #[.int .i64 ex, .int .i64 ey] 49).1
  have B0 := box_below w #[.int .i64 ex, .int .i64 ey] 49
  have HVE : Hid (∀ W, Below (w.alloc (.cells #[.int .i64 ex, .int .i64 ey] 49)).heap.size (w.alloc (.cells #[.int .i64 ex, .int .i64 ey] 49)) W → W.rangeAt w.heap.size 0 [.int .i64 ex, .int .i64 ey]) := Lib.hid fun W B => rangeAt_on VE0 B
  clear VE0
  generalize w.alloc (.cells #[.int .i64 ex, .int .i64 ey] 49) = W0 at *
  have HCE : Hid (∀ W, Below W0.heap.size W0 W → W.cell? ⟨w.heap.size, 0, none⟩ = some (.int .i64 ex) ∧ W.cell? ⟨w.heap.size, 1, none⟩ = some (.int .i64 ey)) := Lib.hid fun W B => ⟨by have h := HVE.out W B 0 _ rfl; simpa using h, by have h := HVE.out W B 1 _ rfl; simpa using h⟩
  have B1 := Below.refl W0.heap.size W0
  go_loopw [5] (fun i wr => ∃ k : Nat, k ≤ q ∧ i = .int .i64 (k : Int) ∧ Below W0.heap.size W0 wr) (fun i _ => q - (intOf i).toNat)
  case atStart => exact ⟨0, by omega, rfl, B1⟩
  case round =>
    clear B1
    obtain ⟨k, hk, rfl, B1⟩ := hrel
    rename World => wr
    obtain ⟨e0, e1⟩ := HCE.out wr B1
    by_cases hkn : k < n
    · obtain ⟨b, off, ⟨x, y⟩, rfl, hbl, p, hx⟩ := ((KR.out.below B0).below (B1.mono B0.size)).at_ hkn
      have ca : wr.cell? ⟨b, off + k * 2, none⟩ = some (.int .i64 x) := by have h := p 0 _ rfl; simpa using h
      have cb : wr.cell? ⟨b, off + k * 2 + 1, none⟩ = some (.int .i64 y) := p 1 _ rfl
      have r1 : wr.rangeAt b (off + k * 2) [.int .i64 x, .int .i64 y] := p
      have t1 : ¬ (n : Int) ≤ (k : Int) := by omega
      have t2 : decide (k < n) = true := decide_eq_true hkn
      by_cases hkq : k < q
      · obtain ⟨x', hx', hlt⟩ := HIN.out k hkq
        obtain rfl : x' = ⟨x, y⟩ := by have h9 := hx.out; rw [hx'] at h9; injection h9
        unfold elt at hlt
        simp only at hlt
        by_cases q1 : x < ex
        · have n1 : decide (x < ex) = true := decide_eq_true q1
          clear hlt hx hx' p r1
          go_wp2_with fail
          have BL := B1
          clear B1
          have BB := Below.refl wr.heap.size wr
          have k_ca := cell_regrown ca
          have k_cb := cell_regrown cb
          have k_e0 := cell_regrown e0
          have k_e1 := cell_regrown e1
          refine wp_region_quiet_below (by kernel_rfl) (by kernel_rfl) ?_
          repeat (first | go_big_quiet_step ((first | fail)) | quiet_step ((first | fail)))
          refine wpQuiet_nil ?_
          intro W hw'
          have B := below_regrown' hw'
          clear hw' k_ca k_cb k_e0 k_e1
          replace BB := bon BB B
          replace ca := cell_below B ca
          replace cb := cell_below B cb
          replace e0 := cell_below B e0
          replace e1 := cell_below B e1
          have B1 := bon BL BB
          clear BL BB
          go_wp2
          go_roundw
          case rel => exact ⟨k + 1, by omega, by go_num, B1⟩
          case measure => simp [intOf] <;> omega
        · obtain ⟨rfl, q2⟩ : x = ex ∧ y < ey := by omega
          have n1 : decide (x < x) = false := decide_eq_false q1
          have n2 : decide (y < ey) = true := decide_eq_true q2
          clear hlt hx hx' p r1
          go_wp2_with fail
          have BL := B1
          clear B1
          have BB := Below.refl wr.heap.size wr
          have k_ca := cell_regrown ca
          have k_cb := cell_regrown cb
          have k_e0 := cell_regrown e0
          have k_e1 := cell_regrown e1
          refine wp_region_quiet_below (by kernel_rfl) (by kernel_rfl) ?_
          repeat (first | go_big_quiet_step ((first | fail)) | quiet_step ((first | fail)))
          refine wpQuiet_nil ?_
          intro W hw'
          have B := below_regrown' hw'
          clear hw' k_ca k_cb k_e0 k_e1
          replace BB := bon BB B
          replace ca := cell_below B ca
          replace cb := cell_below B cb
          replace e0 := cell_below B e0
          replace e1 := cell_below B e1
          have B1 := bon BL BB
          clear BL BB
          go_wp2
          go_roundw
          case rel => exact ⟨k + 1, by omega, by go_num, B1⟩
          case measure => simp [intOf] <;> omega
      · obtain rfl : k = q := by omega
        obtain ⟨x', hx', hlt⟩ := HOUT.out hkn
        obtain rfl : x' = ⟨x, y⟩ := by have h9 := hx.out; rw [hx'] at h9; injection h9
        have HR1 : Hid (∀ W, Below W0.heap.size W0 W → W.rangeAt b (off + k * 2) [.int .i64 x, .int .i64 y]) := Lib.hid fun W B => by
          obtain ⟨b', off', e', _, hcc⟩ := (KR.out.below (bon B0 B)).2 (by omega)
          injection e' with e'
          injection e' with e1 e2
          subst e1
          subst e2
          exact hcc k _ hx.out
        have EQ := eq2 x y ex ey
        have GU := guard2
        unfold elt at hlt
        simp only at hlt
        by_cases q1 : x = ex
        · subst q1
          have n1 : decide (x < x) = false := decide_eq_false (by omega)
          have n2 : decide (y < ey) = false := decide_eq_false (by omega)
          by_cases q2 : y = ey
          · subst q2
            have HG : Hid (G = es) := Lib.hid (HH.out hx').symm.symm
            simp only [beq_self_eq_true, Bool.and_self] at EQ
            clear hx'
            clear r1 p hx hlt
            go_wp2_with fail
            have BL := B1
            clear B1
            have BB := Below.refl wr.heap.size wr
            have k_ca := cell_regrown ca
            have k_cb := cell_regrown cb
            have k_e0 := cell_regrown e0
            have k_e1 := cell_regrown e1
            refine wp_region_quiet_below (by kernel_rfl) (by kernel_rfl) ?_
            repeat (first | go_big_quiet_step ((first | fail)) | quiet_step ((first | fail)))
            refine wpQuiet_nil ?_
            intro W hw'
            have B := below_regrown' hw'
            clear hw' k_ca k_cb k_e0 k_e1
            replace BB := bon BB B
            replace ca := cell_below B ca
            replace cb := cell_below B cb
            replace e0 := cell_below B e0
            replace e1 := cell_below B e1
            have B1 := bon BL BB
            clear BL BB
            have r2 := HR1.out _ B1
            have VE1 := HVE.out _ B1
            go_wp2_with fail
            refine wp_region_quiet_below (by kernel_rfl) (by kernel_rfl) ?_
            repeat (first
              | (go_big_quiet_want; refine quiet_eload _ _ rfl edK rfl (fun W hW => rangeAt_on r2 (below_regrown' hW)) rfl ?_; go_simp; go_big_quiet_on)
              | (go_big_quiet_want; refine quiet_eload _ _ rfl edK rfl (fun W hW => rangeAt_on VE1 (below_regrown' hW)) rfl ?_; go_simp; go_big_quiet_on)
              | go_big_quiet_step (fail) | quiet_step (fail))
            refine wpQuiet_nil ?_
            intro W4 hw'
            have B := below_regrown' hw'
            clear hw'
            have B1' := bon B1 B
            clear B1 B
            have BF := bon B0 B1'
            have KT := Lib.hid (KR.out.below BF)
            clear r2 VE1
            go_wp2
            go_ret
            exact ⟨_, n, c, rfl, hc, by rw [HG.out]; exact KT.out.more BF.size, BF⟩
          · have HG : Hid (G = es.take k ++ [⟨x, ey⟩] ++ es.drop k) := Lib.hid (HNW.out (by rw [hx']; intro h; injection h with h; injection h with h1 h2; exact q2 h2))
            have hf : (x == x && y == ey) = false := by simp [q2]
            rw [hf] at EQ
            clear hx' hf
            clear r1 p hx hlt
            go_wp2_with fail
            have BL := B1
            clear B1
            have BB := Below.refl wr.heap.size wr
            have k_ca := cell_regrown ca
            have k_cb := cell_regrown cb
            have k_e0 := cell_regrown e0
            have k_e1 := cell_regrown e1
            refine wp_region_quiet_below (by kernel_rfl) (by kernel_rfl) ?_
            repeat (first | go_big_quiet_step ((first | fail)) | quiet_step ((first | fail)))
            refine wpQuiet_nil ?_
            intro W hw'
            have B := below_regrown' hw'
            clear hw' k_ca k_cb k_e0 k_e1
            replace BB := bon BB B
            replace ca := cell_below B ca
            replace cb := cell_below B cb
            replace e0 := cell_below B e0
            replace e1 := cell_below B e1
            have B1 := bon BL BB
            clear BL BB
            have r2 := HR1.out _ B1
            have VE1 := HVE.out _ B1
            go_wp2_with fail
            refine wp_region_quiet_below (by kernel_rfl) (by kernel_rfl) ?_
            repeat (first
              | (go_big_quiet_want; refine quiet_eload _ _ rfl edK rfl (fun W hW => rangeAt_on r2 (below_regrown' hW)) rfl ?_; go_simp; go_big_quiet_on)
              | (go_big_quiet_want; refine quiet_eload _ _ rfl edK rfl (fun W hW => rangeAt_on VE1 (below_regrown' hW)) rfl ?_; go_simp; go_big_quiet_on)
              | go_big_quiet_step (fail) | quiet_step (fail))
            refine wpQuiet_nil ?_
            intro W4 hw'
            have B := below_regrown' hw'
            clear hw'
            have B1' := bon B1 B
            clear B1 B
            have VE := HVE.out W4 B1'
            have BF := bon B0 B1'
            have KT := Lib.hid (KR.out.below BF)
            have hck : ¬ c = k := by omega
            have KD : Hid (RdD W4 w.heap.size (some ⟨b, off + k * 2, none⟩) (n - k) (es.drop k)) := Lib.hid (by have h := RdE.cut (i := k) KT.out hle hc; rw [if_neg hck] at h; simpa [add_plain'] using h)
            have KP := Lib.hid (RdE.pre (i := k) KT.out hle)
            have O1 := Lib.hid (OwnE.nil ed 2 W4 49)
            have hqc : (k : Int) ≤ (c : Int) := by omega
            have hBS := BF.size
            clear KT B1'
            go_wp2_with (first
              | (refine wpList_appE _ rfl _ _ _ rfl edEnc elEds O1.out rfl KP.out rfl (by simp only [maxLen]; omega) (by omega) ?_; intro A7 n7 c7 W7 own7 B7; have O2 := Lib.hid own7; have VE2 := rangeAt_on VE B7; have KD2 := Lib.hid (KD.out.below (B7.mono hBS)); have BF2 := bon BF B7; have H7 : Hid (n7 = k) := Lib.hid (by have h9 := own7.len; rw [List.nil_append, KP.out.len] at h9; exact h9.symm); have B7' := B7; clear own7 B7 VE)
              | ((with_reducible refine eload2L edK VE2 ?_ ?_); focus rfl)
              | (refine app1Z _ rfl _ _ _ rfl edEnc elEds O2.out rfl ⟨x, ey⟩ rfl rfl (by simp) (by have := H7.out; simp only [maxLen]; omega) (by have := H7.out; omega) ?_; intro A8 n8 c8 W8 own8 B8; have O3 := Lib.hid own8; have KD3 := Lib.hid (KD2.out.below (B8.mono hBS)); have BF3 := BF2.trans (B8.mono hBS); have H8 : Hid (n8 = n7 + 1) := Lib.hid (by have h9 := own8.len; rw [List.length_append, O2.out.len] at h9; exact h9.symm); clear own8 B8)
              | (refine wpList_appE _ rfl _ _ _ rfl edEnc elEds O3.out rfl KD3.out rfl (by have := H7.out; have := H8.out; simp only [maxLen]; omega) (by have := H7.out; have := H8.out; omega) ?_; intro A9 n9 c9 W9 own9 B9; have O4 := Lib.hid own9; have BF4 := BF3.trans (B9.mono hBS); clear own9 B9))
            all_goals
              have KG : Hid (RdD W9 W9.heap.size A9 n9 G) := Lib.hid (by
                have h := O4.out.rd edEnc
                rw [List.nil_append] at h
                rw [HG.out]
                exact h)
              have HRM := O4.out.room
              clear O4 O3 O2 O1 VE2
              go_ret
              exact ⟨A9, n9, c9, rfl, HRM, KG.out, BF4⟩
        · have n1 : decide (x < ex) = false := decide_eq_false (by omega)
          have n2 : (x == ex) = false := by simpa using q1
          have HG : Hid (G = es.take k ++ [⟨ex, ey⟩] ++ es.drop k) := Lib.hid (HNW.out (by rw [hx']; intro h; injection h with h; injection h with h1 h2; exact q1 h1))
          have hf : (x == ex && y == ey) = false := by simp [q1]
          rw [hf] at EQ
          clear hx' hf
          clear r1 p hx hlt
          go_wp2_with fail
          have BL := B1
          clear B1
          have BB := Below.refl wr.heap.size wr
          have k_ca := cell_regrown ca
          have k_cb := cell_regrown cb
          have k_e0 := cell_regrown e0
          have k_e1 := cell_regrown e1
          refine wp_region_quiet_below (by kernel_rfl) (by kernel_rfl) ?_
          repeat (first | go_big_quiet_step ((first | fail)) | quiet_step ((first | fail)))
          refine wpQuiet_nil ?_
          intro W hw'
          have B := below_regrown' hw'
          clear hw' k_ca k_cb k_e0 k_e1
          replace BB := bon BB B
          replace ca := cell_below B ca
          replace cb := cell_below B cb
          replace e0 := cell_below B e0
          replace e1 := cell_below B e1
          have B1 := bon BL BB
          clear BL BB
          have r2 := HR1.out _ B1
          have VE1 := HVE.out _ B1
          go_wp2_with fail
          refine wp_region_quiet_below (by kernel_rfl) (by kernel_rfl) ?_
          repeat (first
            | (go_big_quiet_want; refine quiet_eload _ _ rfl edK rfl (fun W hW => rangeAt_on r2 (below_regrown' hW)) rfl ?_; go_simp; go_big_quiet_on)
            | (go_big_quiet_want; refine quiet_eload _ _ rfl edK rfl (fun W hW => rangeAt_on VE1 (below_regrown' hW)) rfl ?_; go_simp; go_big_quiet_on)
            | go_big_quiet_step (fail) | quiet_step (fail))
          refine wpQuiet_nil ?_
          intro W4 hw'
          have B := below_regrown' hw'
          clear hw'
          have B1' := bon B1 B
          clear B1 B
          have VE := HVE.out W4 B1'
          have BF := bon B0 B1'
          have KT := Lib.hid (KR.out.below BF)
          have hck : ¬ c = k := by omega
          have KD : Hid (RdD W4 w.heap.size (some ⟨b, off + k * 2, none⟩) (n - k) (es.drop k)) := Lib.hid (by have h := RdE.cut (i := k) KT.out hle hc; rw [if_neg hck] at h; simpa [add_plain'] using h)
          have KP := Lib.hid (RdE.pre (i := k) KT.out hle)
          have O1 := Lib.hid (OwnE.nil ed 2 W4 49)
          have hqc : (k : Int) ≤ (c : Int) := by omega
          have hBS := BF.size
          clear KT B1'
          go_wp2_with (first
            | (refine wpList_appE _ rfl _ _ _ rfl edEnc elEds O1.out rfl KP.out rfl (by simp only [maxLen]; omega) (by omega) ?_; intro A7 n7 c7 W7 own7 B7; have O2 := Lib.hid own7; have VE2 := rangeAt_on VE B7; have KD2 := Lib.hid (KD.out.below (B7.mono hBS)); have BF2 := bon BF B7; have H7 : Hid (n7 = k) := Lib.hid (by have h9 := own7.len; rw [List.nil_append, KP.out.len] at h9; exact h9.symm); have B7' := B7; clear own7 B7 VE)
            | ((with_reducible refine eload2L edK VE2 ?_ ?_); focus rfl)
            | (refine app1Z _ rfl _ _ _ rfl edEnc elEds O2.out rfl ⟨ex, ey⟩ rfl rfl (by simp) (by have := H7.out; simp only [maxLen]; omega) (by have := H7.out; omega) ?_; intro A8 n8 c8 W8 own8 B8; have O3 := Lib.hid own8; have KD3 := Lib.hid (KD2.out.below (B8.mono hBS)); have BF3 := BF2.trans (B8.mono hBS); have H8 : Hid (n8 = n7 + 1) := Lib.hid (by have h9 := own8.len; rw [List.length_append, O2.out.len] at h9; exact h9.symm); clear own8 B8)
            | (refine wpList_appE _ rfl _ _ _ rfl edEnc elEds O3.out rfl KD3.out rfl (by have := H7.out; have := H8.out; simp only [maxLen]; omega) (by have := H7.out; have := H8.out; omega) ?_; intro A9 n9 c9 W9 own9 B9; have O4 := Lib.hid own9; have BF4 := BF3.trans (B9.mono hBS); clear own9 B9))
          all_goals
            have KG : Hid (RdD W9 W9.heap.size A9 n9 G) := Lib.hid (by
              have h := O4.out.rd edEnc
              rw [List.nil_append] at h
              rw [HG.out]
              exact h)
            have HRM := O4.out.room
            clear O4 O3 O2 O1 VE2
            go_ret
            exact ⟨A9, n9, c9, rfl, HRM, KG.out, BF4⟩
    · obtain rfl : k = q := by omega
      obtain rfl : k = n := by omega
      have t1 : ¬ (k : Int) < (k : Int) := by omega
      have t2 : decide (k < k) = false := decide_eq_false (by omega)
      have HG : Hid (G = es.take k ++ [⟨ex, ey⟩] ++ es.drop k) := Lib.hid (HNW.out (by rw [List.getElem?_eq_none (by rw [HL.out]; exact Nat.le_refl _)]; simp))
      go_wp2_with fail
      have BL := B1
      clear B1
      have BB := Below.refl wr.heap.size wr
      have k_e0 := cell_regrown e0
      have k_e1 := cell_regrown e1
      refine wp_region_quiet_below (by kernel_rfl) (by kernel_rfl) ?_
      repeat (first | go_big_quiet_step ((first | fail)) | quiet_step ((first | fail)))
      refine wpQuiet_nil ?_
      intro W hw'
      have B := below_regrown' hw'
      clear hw' k_e0 k_e1
      replace BB := bon BB B
      replace e0 := cell_below B e0
      replace e1 := cell_below B e1
      have B1 := bon BL BB
      clear BL BB
      go_wp2_with fail
      refine wp_region_quiet_below (by kernel_rfl) (by kernel_rfl) ?_
      repeat (first
        | go_big_quiet_step (fail) | quiet_step (fail))
      refine wpQuiet_nil ?_
      intro W4 hw'
      have B := below_regrown' hw'
      clear hw'
      have B1' := bon B1 B
      clear B1 B
      have VE := HVE.out W4 B1'
      have BF := bon B0 B1'
      have KT := Lib.hid (KR.out.below BF)
      have KP := Lib.hid (RdE.pre (i := k) KT.out hle)
      have O1 := Lib.hid (OwnE.nil ed 2 W4 49)
      have hqc : (k : Int) ≤ (c : Int) := by omega
      have hBS := BF.size
      clear KT B1'
      go_wp2_with (first
        | (refine wpList_appE _ rfl _ _ _ rfl edEnc elEds O1.out rfl KP.out rfl (by simp only [maxLen]; omega) (by omega) ?_; intro A7 n7 c7 W7 own7 B7; have O2 := Lib.hid own7; have VE2 := rangeAt_on VE B7; have BF2 := bon BF B7; have H7 : Hid (n7 = k) := Lib.hid (by have h9 := own7.len; rw [List.nil_append, KP.out.len] at h9; exact h9.symm); have B7' := B7; clear own7 B7 VE)
        | ((with_reducible refine eload2L edK VE2 ?_ ?_); focus rfl)
        | (refine app1Z _ rfl _ _ _ rfl edEnc elEds O2.out rfl ⟨ex, ey⟩ rfl rfl (by simp) (by have := H7.out; simp only [maxLen]; omega) (by have := H7.out; omega) ?_; intro A8 n8 c8 W8 own8 B8; have O3 := Lib.hid own8; have BF3 := BF2.trans (B8.mono hBS); have H8 : Hid (n8 = n7 + 1) := Lib.hid (by have h9 := own8.len; rw [List.length_append, O2.out.len] at h9; exact h9.symm); clear own8 B8)
        | (refine wpList_appE _ rfl _ _ _ rfl edEnc elEds O3.out rfl (RdE.nil ed 2 _ w.heap.size _) rfl (by have := H7.out; have := H8.out; simp only [maxLen]; omega) (by have := H7.out; have := H8.out; omega) ?_; intro A9 n9 c9 W9 own9 B9; have O4 := Lib.hid own9; have BF4 := BF3.trans (B9.mono hBS); clear own9 B9))
      all_goals
        have KG : Hid (RdD W9 W9.heap.size A9 n9 G) := Lib.hid (by
          have h := O4.out.rd edEnc
          rw [List.nil_append] at h
          rw [HG.out, List.drop_eq_nil_of_le (by rw [HL.out]; exact Nat.le_refl _)]
          exact h)
        have HRM := O4.out.room
        clear O4 O3 O2 O1 VE2
        go_ret
        exact ⟨A9, n9, c9, rfl, HRM, KG.out, BF4⟩

end Go.Proofs.Ytepammildggnmaa
