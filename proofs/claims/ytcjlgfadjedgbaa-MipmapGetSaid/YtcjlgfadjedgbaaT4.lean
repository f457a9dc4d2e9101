/- What the reference's Decode of texel formats returns. -/
import Derived.Test.YtcjlgfadjedgbaaT3
namespace Go.Proofs.Ytcjlgfadjedgbaa
open Go.RowKit Go.Sort

theorem rd_sub {w : World} {B n c p q b off : Nat} {l : List Int} (R : Rd w B .u8 (some ⟨b, off, none⟩) n l) (h1 : p < q) (h2 : q ≤ n) (h3 : n ≤ c) : Rd w B .u8 (some ⟨b, off + p, none⟩) (q - p) (part l p (q - p)) := by
  have h := R.cut (i := p) (j := q) (cap := c) (by omega) h2 h3
  rw [if_neg (by omega)] at h
  simpa [add_plain', part] using h

theorem rnum_b (A : Option Addr) (n c B : Nat) (l : List Int) (w : World) (R : Rd w B .u8 A n l) (hn : n ≤ 4) :
    Calls Try.prog 75 #[.slice A n c] w fun e w' => e = .returned (.int .i64 (litv l)) ∧ Below w.heap.size w w' :=
  (rnumber_b A n c B l w R hn).mono fun _ _ ⟨h1, h2⟩ => ⟨h1, h2 ▸ Below.refl _ _⟩

/-- The components so far. -/
def cHf (l : List Int) (k j : Nat) : Int := if j < k then dv (litv (part l (2 * j) 2)) else if j = 3 then 65536 else 0

theorem cHf_with {l : List Int} {k : Nat} {p : Int} (j : Nat) (hp : litv (part l (2 * k) 2) = p) : withv (k : Int) (dv p) (j : Int) (cHf l k j) = cHf l (k + 1) j := by
  unfold withv cHf
  by_cases h : k = j
  · subst h
    rw [if_pos rfl, if_pos (by omega), hp]
  · rw [if_neg (by omega)]
    by_cases h2 : j < k
    · rw [if_pos h2, if_pos (by omega)]
    · rw [if_neg h2, if_neg (show ¬ j < k + 1 by omega)]

theorem litv2 {l : List Int} {p n : Nat} (hl : l.length = n) (hr : ∀ x ∈ l, (0 : Int) ≤ x ∧ x ≤ 255) (hp : p + 2 ≤ n) : 0 ≤ litv (part l p 2) ∧ litv (part l p 2) < 65536 := by
  have h := litv_rng (part l p 2) (part_rng hr)
  rw [part_len (by omega)] at h
  exact h

theorem rdv_b (p : Int) (w : World) (h0 : 0 ≤ p) (h1 : p < 65536) : Calls Try.prog 74 #[.agg #[.int .i64 5, .int .i64 10, .bool true], .int .i64 p] w fun x w' => x = .returned (.int .i64 (dv p)) ∧ Below w.heap.size w w' :=
  rdecode_yes 5 10 p true w (by omega) (by omega) (by omega) (by omega) h0 (by rw [show pw (5 + 10 + sbit true) = 65536 by decide]; exact h1)

theorem dec_half {f : Int} {l : List Int} (hf : f = 5 ∨ f = 6) (hl : l.length = nsz f) (i : Nat) (hi : i < 4) : dec f l i = cHf l (ncm f) i := by
  unfold dec
  rw [if_neg (by rw [hl]; rcases hf with rfl | rfl <;> simp [nsz])]
  rcases hf with rfl | rfl
  · have e : part l 0 2 = l := by unfold part; rw [List.drop_zero, List.take_of_length_le (by rw [hl]; decide)]
    show (if i = 0 then dv (litv l) else if i = 3 then (65536 : Int) else 0) = if i < 1 then _ else _
    by_cases h0 : i = 0
    · subst h0
      rw [if_pos rfl, if_pos (by omega), Nat.mul_zero, e]
    · rw [if_neg h0, if_neg (show ¬ i < 1 by omega)]
  · show dv (litv (part l (2 * i) 2)) = if i < 4 then _ else _
    rw [if_pos hi]

set_option maxRecDepth 100000 in
set_option maxHeartbeats 2000000 in
theorem rdecode_half (f : Int) (A : Option Addr) (n c : Nat) (l : List Int) (w : World) (hf : f = 5 ∨ f = 6) (R : Rd w w.heap.size .u8 A n l) (hl : n = nsz f) (hc : n ≤ c) :
    Calls Try.prog 50 #[.int .i64 f, .slice A n c] w fun e w' =>
      e = .returned (.agg #[.int .i64 (dec f l 0), .int .i64 (dec f l 1), .int .i64 (dec f l 2), .int .i64 (dec f l 3)]) ∧ Below w.heap.size w w' := by
  have cv := fun W => rvalid_q f W
  rw [show isf f = true by rcases hf with rfl | rfl <;> rfl] at cv
  have cs := fun W => rsize_q f W
  have cc := fun W => rcomps_q f W
  rw [← hl] at cs
  have hll : l.length = nsz f := by rw [R.len, hl]
  rw [dec_half hf hll 0 (by omega), dec_half hf hll 1 (by omega), dec_half hf hll 2 (by omega), dec_half hf hll 3 (by omega)]
  obtain ⟨L, hL⟩ : ∃ L, ncm f = L := ⟨_, rfl⟩
  have hL4 : (L = 1 ∧ n = 2) ∨ (L = 4 ∧ n = 8) := by
    rcases hf with rfl | rfl
    · exact .inl ⟨by rw [← hL]; rfl, by rw [hl]; rfl⟩
    · exact .inr ⟨by rw [← hL]; rfl, by rw [hl]; rfl⟩
  rw [hL] at cc ⊢
  have hR := rd_rng255 R
  have hRl := R.len
  have CV := Lib.hid cv
  have CS := Lib.hid cs
  have CC := Lib.hid cc
  have HR := Lib.hid hR
  have HL := Lib.hid hRl
  clear cv cs cc hL hR hll hl hRl
  have D0 := VBox.made w 0 0 0 0 44
  have e1 : (w.alloc (.cells #[.int .i64 0, .int .i64 0, .int .i64 0, .int .i64 0] 44)).heap.size = w.heap.size + 1 := by simp
  have B0 := box_below w #[.int .i64 0, .int .i64 0, .int .i64 0, .int .i64 0] 44
  have D1 := VBox.made (w.alloc (.cells #[.int .i64 0, .int .i64 0, .int .i64 0, .int .i64 0] 44)) 0 0 0 65536 44
  have B1 := box_below (w.alloc (.cells #[.int .i64 0, .int .i64 0, .int .i64 0, .int .i64 0] 44)) #[.int .i64 0, .int .i64 0, .int .i64 0, .int .i64 65536] 44
  have D2 := D0.on B1
  have BX := bon B0 B1
  rw [e1] at D1
  clear D0 B0 B1 e1
  rcases hf with rfl | rfl
  all_goals
    go_enter Try.func50, Try.ntmps50
    go_wp2_with (first
      | (go_at_call 46; (with_reducible refine (CV.out _).mono ?_); rintro _ _ ⟨rfl, rfl⟩)
      | (go_at_call 48; (with_reducible refine (CS.out _).mono ?_); rintro _ _ ⟨rfl, rfl⟩))
    refine letter (S := fun U => VBox U w.heap.size 0 0 0 0 ∧ VBox U (w.heap.size + 1) (cHf l 0 0) (cHf l 0 1) (cHf l 0 2) (cHf l 0 3) ∧ Below w.heap.size w U) ?_ ⟨D2, D1, BX⟩
    clear D2 D1 BX
    rintro U ⟨D2, D1, BX⟩
    go_loopw [6] (fun i wr => ∃ k : Nat, k ≤ L ∧ i = .int .i64 k ∧ VBox wr w.heap.size 0 0 0 0 ∧ VBox wr (w.heap.size + 1) (cHf l k 0) (cHf l k 1) (cHf l k 2) (cHf l k 3) ∧ Below w.heap.size w wr) (fun i _ => L - (intOf i).toNat)
    case atStart => exact ⟨0, by omega, rfl, D2, D1, BX⟩
    case round =>
      clear D2 D1 BX
      obtain ⟨k, hk, rfl, D2, D1, BB⟩ := hrel
      by_cases hlt : k < L
      · obtain ⟨bb, off, x, rfl, _, _, _, _⟩ := R.byte (j := 0) (by omega)
        have RR := (R.below BB).more BB.size
        have RS := rd_sub (p := 2 * k) (q := 2 * k + 2) (c := c) RR (by omega) (by omega) hc
        rw [show 2 * k + 2 - 2 * k = 2 by omega] at RS
        have hp := litv2 HL.out HR.out (p := 2 * k) (by omega)
        have cn := fun d W R => rnum_b (some ⟨bb, off + 2 * k, none⟩) 2 d wr.heap.size (part l (2 * k) 2) W R (by omega)
        obtain ⟨p, hpe⟩ : ∃ p, litv (part l (2 * k) 2) = p := ⟨_, rfl⟩
        rw [hpe] at hp cn
        have cd := fun W => rdv_b p W hp.1 hp.2
        have cw := fun W => rwith_b (cHf l k 0) (cHf l k 1) (cHf l k 2) (cHf l k 3) (k : Int) (dv p) W
        have w0 : withv (k : Int) (dv p) 0 (cHf l k 0) = cHf l (k + 1) 0 := cHf_with 0 hpe
        have w1 : withv (k : Int) (dv p) 1 (cHf l k 1) = cHf l (k + 1) 1 := cHf_with 1 hpe
        have w2 : withv (k : Int) (dv p) 2 (cHf l k 2) = cHf l (k + 1) 2 := cHf_with 2 hpe
        have w3 : withv (k : Int) (dv p) 3 (cHf l k 3) = cHf l (k + 1) 3 := cHf_with 3 hpe
        rw [w0, w1, w2, w3] at cw
        have hcp : ¬ c = 2 * k := by omega
        have hc2 : 2 * k + 2 ≤ c := by omega
        have CN := Lib.hid cn
        have CD := Lib.hid cd
        have CW := Lib.hid cw
        have HRS := Lib.hid RS
        have DD := Lib.hid D1
        obtain ⟨⟨c0, c1, c2, c3⟩, _⟩ := D1
        clear cn cd cw hpe hp RR RS w0 w1 w2 w3
        rcases (show k = 0 ∨ k = 1 ∨ k = 2 ∨ k = 3 by omega) with rfl | rfl | rfl | rfl
        all_goals first
          | (exfalso; omega)
          | skip
        all_goals
          simp only [Nat.reduceMul, Nat.reduceAdd, Nat.mul_zero, Nat.add_zero, Nat.zero_add] at CN CD CW HRS hcp hc2
          go_wp2_with (go_at_call 63; (with_reducible refine (CC.out _).mono ?_); rintro _ _ ⟨rfl, rfl⟩)
          have k_c0 := cell_regrown c0
          have k_c1 := cell_regrown c1
          have k_c2 := cell_regrown c2
          have k_c3 := cell_regrown c3
          refine wp_region_tail (n := 13) (by kernel_rfl) (by kernel_rfl) ?_
          simp only [List.take_succ_cons, List.take_zero, List.drop_succ_cons, List.drop_zero]
          repeat (first | go_big_quiet_step ((first | (go_at_call 66; exact Calls.regrown_of (rhalf_b _)) | (go_at_call 75; exact Calls.regrown_of (CN.out _ _ (HRS.out.below (below_regrown _ _ _)))) | (go_at_call 74; exact Calls.regrown_of (CD.out _)) | (go_at_call 73; exact Calls.regrown_of (CW.out _)))) | quiet_step ((first | (go_at_call 66; exact Calls.regrown_of (rhalf_b _)) | (go_at_call 75; exact Calls.regrown_of (CN.out _ _ (HRS.out.below (below_regrown _ _ _)))) | (go_at_call 74; exact Calls.regrown_of (CD.out _)) | (go_at_call 73; exact Calls.regrown_of (CW.out _)))))
          refine wpQuiet_nil ?_
          intro W hw'
          have B := below_regrown' hw'
          clear hw' k_c0 k_c1 k_c2 k_c3
          replace BB := bon BB B
          replace c0 := cell_below B c0
          replace c1 := cell_below B c1
          replace c2 := cell_below B c2
          replace c3 := cell_below B c3
          have DV := DD.out.on B
          replace D2 := D2.on B
          go_wp2_with (refine wpList_vset rfl _ _ _ rfl _ _ _ _ rfl rfl DV (by kernel_rfl) ?_; intro V2 B2 D3 hD _)
          go_roundw
          case rel => exact ⟨_, by omega, by go_num, hD _ _ _ _ _ (by omega) D2, D3, BB.trans (B2.mono (by omega))⟩
          case measure => simp [intOf]; omega
      · obtain rfl : k = L := by omega
        obtain ⟨⟨c0, c1, c2, c3⟩, _⟩ := D1
        go_wp2_with (first
          | (go_at_call 63; (with_reducible refine (CC.out _).mono ?_); rintro _ _ ⟨rfl, rfl⟩)
          | (refine wpList_vset rfl _ _ _ rfl _ _ _ _ rfl rfl D2 (by kernel_rfl) ?_; intro V2 B2 D3 hD _))
        obtain ⟨⟨d0, d1, d2, d3⟩, _⟩ := D3
        exact bodyPost_ret (v := .agg #[.int .i64 (cHf l k 0), .int .i64 (cHf l k 1), .int .i64 (cHf l k 2), .int .i64 (cHf l k 3)]) (by simp [results, Try.results50, go_sem, *]) rfl ⟨rfl, BB.trans (B2.mono (by omega))⟩

end Go.Proofs.Ytcjlgfadjedgbaa
