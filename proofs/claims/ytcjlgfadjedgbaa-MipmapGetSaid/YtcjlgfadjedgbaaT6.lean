/- What package texel's Encode, Decode and Quantize return. -/
import Derived.Test.YtcjlgfadjedgbaaT6c
import Derived.Test.YtcjlgfadjedgbaaTreeC
import Derived.Test.YtcjlgfadjedgbaaMake
namespace Go.Proofs.Ytcjlgfadjedgbaa
open Go.RowKit Go.Sort

theorem iB : (Try.prog.info? 5).map (fun i => (i.zero, i.size, i.bytes)) = some (some (.int .u8 0), 1, 1) := by kernel_rfl

/-- A component written, whatever the format. -/
theorem tput_b (f x0 x1 x2 x3 : Int) (i : Nat) (A : Option Addr) (n c : Nat) (w : World) (hz : nsz f ≠ 0) (hi : i < ncm f) (R : Rd w w.heap.size .u8 A n (encK f x0 x1 x2 x3 i)) :
    Calls Try.prog 61 #[.int .i64 f, .slice A n c, .int .i64 i, .int .i64 (cmp x0 x1 x2 x3 i)] w (GivesRd w .u8 (encK f x0 x1 x2 x3 (i + 1))) := by
  rcases fmt_cases f with h | h | h | h | h | h | h
  · exact tput_int f x0 x1 x2 x3 i A n c w (by omega) hi R
  · exact tput_int f x0 x1 x2 x3 i A n c w (by omega) hi R
  · exact tput_int f x0 x1 x2 x3 i A n c w (by omega) hi R
  · exact tput_int f x0 x1 x2 x3 i A n c w (by omega) hi R
  · exact tput_half f x0 x1 x2 x3 i A n c w (by omega) hi R
  · exact tput_half f x0 x1 x2 x3 i A n c w (by omega) hi R
  · exact absurd (nsz_none h) hz

theorem tcomp_b (f : Int) (l : List Int) (i : Nat) (A : Option Addr) (n c : Nat) (w : World) (hz : nsz f ≠ 0) (hi : i < ncm f) (hl : n = nsz f) (R : Rd w w.heap.size .u8 A n l) :
    Calls Try.prog 101 #[.int .i64 f, .slice A n c, .int .i64 i] w fun e w' => e = .returned (.int .i64 (dec f l i)) ∧ Below w.heap.size w w' := by
  rcases fmt_cases f with h | h | h | h | h | h | h
  · exact tcomp_int f l i A n c w (by omega) hi hl R
  · exact tcomp_int f l i A n c w (by omega) hi hl R
  · exact tcomp_int f l i A n c w (by omega) hi hl R
  · exact tcomp_int f l i A n c w (by omega) hi hl R
  · exact tcomp_half f l i A n c w (by omega) hi hl R
  · exact tcomp_half f l i A n c w (by omega) hi hl R
  · exact absurd (nsz_none h) hz

theorem ncm_le (f : Int) : ncm f ≤ 4 := by
  rcases fmt_cases f with rfl | rfl | rfl | rfl | rfl | rfl | h
  all_goals first | decide | (rw [ncm_none h]; omega)

theorem VBox.at_ {W : World} {b : Nat} {x0 x1 x2 x3 : Int} (h : VBox W b x0 x1 x2 x3) {k : Nat} (hk : k < 4) : W.cell? ⟨b, k, none⟩ = some (.int .i64 (cmp x0 x1 x2 x3 k)) := by
  rcases (show k = 0 ∨ k = 1 ∨ k = 2 ∨ k = 3 by omega) with rfl | rfl | rfl | rfl
  · exact h.1.1
  · exact h.1.2.1
  · exact h.1.2.2.1
  · exact h.1.2.2.2

set_option maxRecDepth 100000 in
set_option maxHeartbeats 1000000 in
theorem tencode_b (f x0 x1 x2 x3 : Int) (w : World) : Calls Try.prog 38 #[.int .i64 f, .agg #[.int .i64 x0, .int .i64 x1, .int .i64 x2, .int .i64 x3]] w (GivesRd w .u8 (enc f x0 x1 x2 x3)) := by
  obtain ⟨a0, a1, a2, a3, BB⟩ := box4 w (.int .i64 x0) (.int .i64 x1) (.int .i64 x2) (.int .i64 x3) 44
  have cv := fun W => tvalid_q f W
  by_cases hz : nsz f = 0
  · rw [show isf f = false by unfold isf; rw [hz]; rfl] at cv
    have CV := Lib.hid cv
    rw [enc_none hz]
    clear cv hz
    go_enter Try.func38, Try.ntmps38
    go_wp2_with (go_at_call 57; (with_reducible refine (CV.out _).mono ?_); rintro _ _ ⟨rfl, rfl⟩)
    go_ret
    exact ⟨none, 0, 0, rfl, Nat.le_refl _, Rd.nil _ _ _ _, BB⟩
  · rw [show isf f = true by unfold isf; simp [hz]] at cv
    have D := VBox.made (w.alloc (.cells #[.int .i64 x0, .int .i64 x1, .int .i64 x2, .int .i64 x3] 44)) x0 x1 x2 x3 72
    have BD := bon BB (box_below (w.alloc (.cells #[.int .i64 x0, .int .i64 x1, .int .i64 x2, .int .i64 x3] 44)) #[.int .i64 x0, .int .i64 x1, .int .i64 x2, .int .i64 x3] 72)
    have cp := fun W i A n c hi (R : Rd W W.heap.size .u8 A n (encK f x0 x1 x2 x3 i)) => tput_b f x0 x1 x2 x3 i A n c W hz hi R
    have e0 := encK_zero (f := f) (x0 := x0) (x1 := x1) (x2 := x2) (x3 := x3)
    have e1 := encK_all (x0 := x0) (x1 := x1) (x2 := x2) (x3 := x3) hz
    have cs := fun W => tsize_q f W
    have cc := fun W => tcomps_q f W
    have hs := nsz_le f
    have hm := ncm_le f
    obtain ⟨s, hse⟩ : ∃ s, nsz f = s := ⟨_, rfl⟩
    obtain ⟨m, hme⟩ : ∃ m, ncm f = m := ⟨_, rfl⟩
    obtain ⟨E, hE⟩ : ∃ E, encK f x0 x1 x2 x3 = E := ⟨_, rfl⟩
    obtain ⟨X, hX⟩ : ∃ X, cmp x0 x1 x2 x3 = X := ⟨_, rfl⟩
    rw [hse] at e0 cs hs
    rw [hme] at e1 cc hm
    rw [← e1]
    rw [hE] at e0 ⊢
    simp only [hE, hX, hme] at cp
    have CV := Lib.hid cv
    have CP := Lib.hid cp
    have CS := Lib.hid cs
    have CC := Lib.hid cc
    have E0 := Lib.hid e0
    have HX := Lib.hid hX
    clear cv cp cs cc e0 e1 hE hX hse hme hz
    go_enter Try.func38, Try.ntmps38
    go_wp2_with (first
      | (go_at_call 57; (with_reducible refine (CV.out _).mono ?_); rintro _ _ ⟨rfl, rfl⟩)
      | (go_at_call 37; (with_reducible refine (CS.out _).mono ?_); rintro _ _ ⟨rfl, rfl⟩)
      | (go_at_call 60; (with_reducible refine (CC.out _).mono ?_); rintro _ _ ⟨rfl, rfl⟩)
      | (refine wpList_makeV _ rfl _ _ _ rfl Try.underlying23 iB rfl .i64 .i64 s rfl rfl (by omega) (by simp only [maxLen]; omega) w.heap.size BD.size ?_; intro b W1 own1 B1 hb))
    have D1 := D.on B1
    rw [show (w.alloc (.cells #[.int .i64 x0, .int .i64 x1, .int .i64 x2, .int .i64 x3] 44)).heap.size = w.heap.size + 1 by simp] at D1
    have BB1 := bon BD B1
    have own2 : Rd W1 W1.heap.size .u8 (some ⟨b, 0, none⟩) s (E 0) := by
      rw [E0.out]
      exact (OwnV.ints (l := List.replicate s 0) (by rw [List.map_replicate]; exact own1) (by intro x hx; rw [List.eq_of_mem_replicate hx, u8_min, u8_max]; omega)).rd
    have OW := Lib.hid own2
    have DD := Lib.hid D1
    clear own1 own2 D D1 BD BB a0 a1 a2 a3 hb
    go_loopw [6, 25] (fun t i wr => ∃ (k n c : Nat) (A : Option Addr), k ≤ m ∧ i = .int .i64 k ∧ t = .slice A n c ∧ n ≤ c ∧ Rd wr wr.heap.size .u8 A n (E k) ∧ VBox wr (w.heap.size + 1) x0 x1 x2 x3 ∧ Below w.heap.size w wr) (fun _ i _ => m - (intOf i).toNat)
    case atStart => exact ⟨0, s, s, _, by omega, rfl, rfl, Nat.le_refl _, OW.out, DD.out, BB1⟩
    case round =>
      clear OW DD BB1 B1
      obtain ⟨k, n, c, A, hk, rfl, rfl, hnc, R, V, BB2⟩ := hrel
      by_cases hlt : k < m
      · have ck := V.at_ (show k < 4 by omega)
        rw [HX.out] at ck
        go_wp2_with (go_at_call 61; (with_reducible refine (CP.out _ _ _ _ _ hlt R).mono ?_); rintro _ W2 ⟨A2, n2, c2, rfl, hc2, R2, B2⟩)
        go_roundw
        case rel => exact ⟨k + 1, n2, c2, A2, by omega, by go_num, rfl, hc2, R2, V.on B2, bon BB2 B2⟩
        case measure => simp [intOf]; omega
      · obtain rfl : k = m := by omega
        go_wp2
        go_ret
        exact ⟨A, n, c, rfl, hnc, R, BB2⟩

/-! ### Decode -/

theorem VBox.put {W : World} {b : Nat} {x0 x1 x2 x3 : Int} (h : VBox W b x0 x1 x2 x3) {k : Nat} (_hk : k < 4) (v : Int) :
    VBox (W.setCell ⟨b, k, none⟩ (.int .i64 v)) b (if k = 0 then v else x0) (if k = 1 then v else x1) (if k = 2 then v else x2) (if k = 3 then v else x3) := by
  have key : ∀ (j : Nat) (y : Int), W.cell? ⟨b, j, none⟩ = some (.int .i64 y) → (W.setCell ⟨b, k, none⟩ (.int .i64 v)).cell? ⟨b, j, none⟩ = some (.int .i64 (if k = j then v else y)) := by
    intro j y hj
    by_cases e : k = j
    · subst e
      rw [if_pos rfl]
      exact World.cell?_setCell_same _ _ _ hj
    · rw [if_neg e]
      exact (World.cell?_setCell_other W ⟨b, k, none⟩ ⟨b, j, none⟩ _ (fun he => e (by injection he))).trans hj
  exact ⟨⟨key 0 _ h.1.1, key 1 _ h.1.2.1, key 2 _ h.1.2.2.1, key 3 _ h.1.2.2.2⟩, fun i => by rw [World.frozen?_setCell]; exact h.2 i⟩

theorem VBox.far {W : World} {b c : Nat} {x0 x1 x2 x3 : Int} (h : VBox W b x0 x1 x2 x3) (hc : c ≠ b) (k : Nat) (v : Value) : VBox (W.setCell ⟨c, k, none⟩ v) b x0 x1 x2 x3 :=
  ⟨⟨by rw [World.cell?_setCell_far _ _ _ _ hc]; exact h.1.1, by rw [World.cell?_setCell_far _ _ _ _ hc]; exact h.1.2.1, by rw [World.cell?_setCell_far _ _ _ _ hc]; exact h.1.2.2.1, by rw [World.cell?_setCell_far _ _ _ _ hc]; exact h.1.2.2.2⟩,
    fun i => by rw [World.frozen?_setCell]; exact h.2 i⟩

theorem decK_put {f : Int} {l : List Int} {k j : Nat} : (if k = j then dec f l k else decK f l k j) = decK f l (k + 1) j := by
  unfold decK
  by_cases h : k = j
  · subst h; rw [if_pos rfl, if_pos (by omega)]
  · rw [if_neg h]
    by_cases h2 : j < k
    · rw [if_pos h2, if_pos (by omega)]
    · rw [if_neg h2, if_neg (show ¬ j < k + 1 by omega)]

set_option maxRecDepth 100000 in
theorem tdecode_none (f : Int) (A : Option Addr) (n c : Nat) (l : List Int) (w : World) (hl : l.length = n) (h : nsz f = 0 ∨ n ≠ nsz f) :
    Calls Try.prog 79 #[.int .i64 f, .slice A n c] w (GivesV w (dec f l)) := by
  have B0 := box_below w #[.int .i64 0, .int .i64 0, .int .i64 0, .int .i64 0] 44
  unfold GivesV
  rw [dec_none (by rw [hl]; exact h), dec_none (by rw [hl]; exact h), dec_none (by rw [hl]; exact h), dec_none (by rw [hl]; exact h)]
  have cv := fun W => tvalid_q f W
  have cs := fun W => tsize_q f W
  rcases h with h | h
  · rw [show isf f = false by unfold isf; rw [h]; rfl] at cv
    have CV := Lib.hid cv
    clear cv cs h
    go_enter Try.func79, Try.ntmps79
    go_wp2_with (go_at_call 57; (with_reducible refine (CV.out _).mono ?_); rintro _ _ ⟨rfl, rfl⟩)
    exact bodyPost_ret (v := .agg #[.int .i64 0, .int .i64 0, .int .i64 0, .int .i64 0]) (by simp [results, Try.results79, go_sem]) rfl ⟨rfl, B0⟩
  · by_cases hz : nsz f = 0
    · rw [show isf f = false by unfold isf; rw [hz]; rfl] at cv
      have CV := Lib.hid cv
      clear cv cs h
      go_enter Try.func79, Try.ntmps79
      go_wp2_with (go_at_call 57; (with_reducible refine (CV.out _).mono ?_); rintro _ _ ⟨rfl, rfl⟩)
      exact bodyPost_ret (v := .agg #[.int .i64 0, .int .i64 0, .int .i64 0, .int .i64 0]) (by simp [results, Try.results79, go_sem]) rfl ⟨rfl, B0⟩
    · rw [show isf f = true by unfold isf; simp [hz]] at cv
      obtain ⟨s, hs⟩ : ∃ s, nsz f = s := ⟨_, rfl⟩
      rw [hs] at cs h
      have CV := Lib.hid cv
      have CS := Lib.hid cs
      have hne : ((n : Int) != (s : Int)) = true := by simp; omega
      clear cv cs h hz hs
      go_enter Try.func79, Try.ntmps79
      go_wp2_with (first
        | (go_at_call 57; (with_reducible refine (CV.out _).mono ?_); rintro _ _ ⟨rfl, rfl⟩)
        | (go_at_call 37; (with_reducible refine (CS.out _).mono ?_); rintro _ _ ⟨rfl, rfl⟩))
      exact bodyPost_ret (v := .agg #[.int .i64 0, .int .i64 0, .int .i64 0, .int .i64 0]) (by simp [results, Try.results79, go_sem]) rfl ⟨rfl, B0⟩

set_option maxRecDepth 100000 in
set_option maxHeartbeats 1000000 in
theorem tdecode_b (f : Int) (A : Option Addr) (n c : Nat) (l : List Int) (w : World) (R : Rd w w.heap.size .u8 A n l) (_hc : n ≤ c) (_hn : n ≤ 9223372036854775807) :
    Calls Try.prog 79 #[.int .i64 f, .slice A n c] w (GivesV w (dec f l)) := by
  by_cases hno : nsz f = 0 ∨ n ≠ nsz f
  · exact tdecode_none f A n c l w R.len hno
  · have hz : nsz f ≠ 0 := fun h => hno (.inl h)
    have hns : n = nsz f := by omega
    have cv := fun W => tvalid_q f W
    rw [show isf f = true by unfold isf; simp [hz]] at cv
    have D4 := VBox.made w 0 0 0 0 44
    have B4 := box_below w #[.int .i64 0, .int .i64 0, .int .i64 0, .int .i64 0] 44
    have R4 := R.below B4
    have z1 : (w.alloc (.cells #[.int .i64 0, .int .i64 0, .int .i64 0, .int .i64 0] 44)).heap.size = w.heap.size + 1 := by simp
    have D5 := VBox.made (w.alloc (.cells #[.int .i64 0, .int .i64 0, .int .i64 0, .int .i64 0] 44)) 0 0 0 65536 72
    have B5 := box_below (w.alloc (.cells #[.int .i64 0, .int .i64 0, .int .i64 0, .int .i64 0] 44)) #[.int .i64 0, .int .i64 0, .int .i64 0, .int .i64 65536] 72
    have R5 := R4.below (B5.mono B4.size)
    have D45 := D4.on B5
    have BB := bon B4 B5
    rw [z1] at D5
    have cp := fun W i hi (RW : Rd W W.heap.size .u8 A n l) => tcomp_b f l i A n c W hz hi hns RW
    have e1 : ∀ j, j < 4 → decK f l (ncm f) j = dec f l j := fun j hj => decK_all hz (by rw [R.len, hns]) hj
    have cs := fun W => tsize_q f W
    have cc := fun W => tcomps_q f W
    rw [← hns] at cs
    have hm := ncm_le f
    obtain ⟨m, hme⟩ : ∃ m, ncm f = m := ⟨_, rfl⟩
    rw [hme] at e1 cc hm
    unfold GivesV
    rw [← e1 0 (by omega), ← e1 1 (by omega), ← e1 2 (by omega), ← e1 3 (by omega)]
    have hput := fun k j => decK_put (f := f) (l := l) (k := k) (j := j)
    have h00 : decK f l 0 0 = 0 ∧ decK f l 0 1 = 0 ∧ decK f l 0 2 = 0 ∧ decK f l 0 3 = 65536 := ⟨rfl, rfl, rfl, rfl⟩
    obtain ⟨E, hE⟩ : ∃ E, decK f l = E := ⟨_, rfl⟩
    obtain ⟨d, hd⟩ : ∃ d, dec f l = d := ⟨_, rfl⟩
    simp only [hE, hd, hme] at cp hput h00 ⊢
    obtain ⟨h0, h1, h2, h3⟩ := h00
    have DD : Hid (VBox ((w.alloc (.cells #[.int .i64 0, .int .i64 0, .int .i64 0, .int .i64 0] 44)).alloc (.cells #[.int .i64 0, .int .i64 0, .int .i64 0, .int .i64 65536] 72)) (w.heap.size + 1) (E 0 0) (E 0 1) (E 0 2) (E 0 3)) := Lib.hid (by rw [h0, h1, h2, h3]; exact D5)
    have HP := Lib.hid hput
    have CV := Lib.hid cv
    have CP := Lib.hid cp
    have CS := Lib.hid cs
    have CC := Lib.hid cc
    have RR := Lib.hid R5
    have DV := Lib.hid D45
    clear cv cp cs cc e1 hE hd hme hz hns hno h0 h1 h2 h3 D5 D4 D45 B4 B5 R R4 R5 hput z1
    go_enter Try.func79, Try.ntmps79
    go_wp2_with (first
      | (go_at_call 57; (with_reducible refine (CV.out _).mono ?_); rintro _ _ ⟨rfl, rfl⟩)
      | (go_at_call 37; (with_reducible refine (CS.out _).mono ?_); rintro _ _ ⟨rfl, rfl⟩)
      | (go_at_call 60; (with_reducible refine (CC.out _).mono ?_); rintro _ _ ⟨rfl, rfl⟩))
    go_loopw [21] (fun i wr => ∃ k : Nat, k ≤ m ∧ i = .int .i64 k ∧ Rd wr w.heap.size .u8 A n l ∧ VBox wr (w.heap.size + 1) (E k 0) (E k 1) (E k 2) (E k 3) ∧ VBox wr w.heap.size 0 0 0 0 ∧ Below w.heap.size w wr) (fun i _ => m - (intOf i).toNat)
    case atStart => exact ⟨0, by omega, rfl, RR.out, DD.out, DV.out, BB⟩
    case round =>
      clear RR DD DV BB
      obtain ⟨k, hk, rfl, R, V, V4, BB⟩ := hrel
      by_cases hlt : k < m
      · go_wp2_with (go_at_call 101; (with_reducible refine (CP.out _ _ hlt (R.more BB.size)).mono ?_); rintro _ W2 ⟨rfl, B2⟩; replace V := V.on B2; replace V4 := V4.on B2; replace R := R.below (B2.mono BB.size); replace BB := bon BB B2; have ck := V.at_ (show k < 4 by omega); have fk := V.2 k)
        have VP := V.put (show k < 4 by omega) (d k)
        rw [HP.out, HP.out, HP.out, HP.out] at VP
        go_roundw
        case rel =>
          have BS : Below w.heap.size W2 (W2.setCell ⟨w.heap.size + 1, k, none⟩ (.int .i64 (d k))) := (Below.refl _ _).setCell (Nat.le_succ w.heap.size) _
          exact ⟨k + 1, by omega, by go_num, R.below BS, VP, V4.far (Nat.succ_ne_self w.heap.size) _ _, BB.trans BS⟩
        case measure => simp [intOf]; omega
      · obtain rfl : k = m := by omega
        obtain ⟨⟨c0, c1, c2, c3⟩, _⟩ := V
        go_wp2_with (refine wpList_vset rfl _ _ _ rfl _ _ _ _ rfl rfl V4 (by kernel_rfl) ?_; intro V2 B2 D3 hD _)
        obtain ⟨⟨d0, d1, d2, d3⟩, _⟩ := D3
        exact bodyPost_ret (v := .agg #[.int .i64 (E k 0), .int .i64 (E k 1), .int .i64 (E k 2), .int .i64 (E k 3)]) (by simp [results, Try.results79, go_sem, *]) rfl ⟨rfl, BB.trans B2⟩

end Go.Proofs.Ytcjlgfadjedgbaa
