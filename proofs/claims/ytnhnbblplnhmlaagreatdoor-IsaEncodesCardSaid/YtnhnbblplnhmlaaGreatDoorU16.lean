/- Encode of package isa. -/
import Derived.Test.YtnhnbblplnhmlaaGreatDoorU12
import Derived.Test.YtnhnbblplnhmlaaGreatDoorU6
import Derived.Test.YtnhnbblplnhmlaaGreatDoorC2
namespace Go.Proofs.YtnhnbblplnhmlaaGreatDoor
set_option linter.unusedSimpArgs false
open Go.RowKit Go.Sort Go.ChangeShapes Go.WideShapes
set_option linter.unusedVariables false

theorem own_lit (w : World) (e : TypeId) (k : IntKind) (l : List Int) (hl : l.length ≤ maxLen) (hr : ∀ x ∈ l, k.min ≤ x ∧ x ≤ k.max) : Own (w.alloc (.cells (l.map (Value.int k)).toArray e)) w.heap.size e k (some ⟨w.heap.size, 0, none⟩) l.length l.length l :=
  ⟨⟨by simp, .inr ⟨w.heap.size, l.length, (l.map (Value.int k)).toArray, rfl, Nat.le_refl _, heap_alloc_new w _, Nat.le_refl _, hl, by simp, by simp only [List.toList_toArray, Nat.mul_one]; exact List.take_of_length_le (by simp)⟩⟩, hr, by simp⟩

/-- The numbers ahead of the instructions; an instruction's numbers. -/
def hdr (p : Pr) : List Int := [p.st, p.rg, p.ip, p.ou, p.un, p.tx, p.bf, (p.cd.length : Int)]
def ins1 (x : In) : List Int := x.o :: nums x
theorem flat_eq (p : Pr) : flat p = hdr p ++ p.cd.flatMap ins1 := rfl
theorem fm_on {l : List In} {k : Nat} {x : In} (h : l[k]? = some x) : (l.take (k + 1)).flatMap ins1 = (l.take k).flatMap ins1 ++ (x.o :: nums x) := by
  obtain ⟨hk, rfl⟩ := List.getElem?_eq_some_iff.1 h
  rw [List.take_succ_eq_append_getElem hk, List.flatMap_append]
  simp [ins1]
theorem bm_on {l : List Int} {k : Nat} {x : Int} (h : l[k]? = some x) : (l.take (k + 1)).flatMap encI = (l.take k).flatMap encI ++ encI x := by
  obtain ⟨hk, rfl⟩ := List.getElem?_eq_some_iff.1 h
  rw [List.take_succ_eq_append_getElem hk, List.flatMap_append]
  simp

theorem vald_ok {p : Pr} (h : vald p = 0) : p.cd.length ≤ 16384 ∧ ∀ x ∈ hdr p, -9223372036854775808 ≤ x ∧ x ≤ 9223372036854775807 := by
  unfold vald at h
  by_cases h1 : wth p.st 1 3 = true
  · rw [if_pos h1] at h
    by_cases h2 : cnts p = true
    · rw [if_pos h2] at h
      by_cases h3 : (p.cd.length : Int) ≤ 16384
      · refine ⟨by omega, ?_⟩
        simp [wth, cnts] at h1 h2
        intro x hx
        simp [hdr] at hx
        omega
      · rw [if_neg h3] at h; omega
    · rw [if_neg h2] at h; omega
  · rw [if_neg h1] at h; omega

/-- What Encode returns. -/
def GivesEnc (p : Pr) (w : World) (e : Ending) (w' : World) : Prop :=
  ∃ A n c, e = .returned (.tuple #[.slice A n c, .int .i64 (if vald p = 0 then 0 else 17)]) ∧ n ≤ 2000000 ∧ Rd w' w'.heap.size .u8 A n (if vald p = 0 then (flat p).flatMap encI else []) ∧ Below w.heap.size w w'

set_option maxRecDepth 100000 in
set_option maxHeartbeats 4000000 in
theorem encode_b (p : Pr) (A : Option Addr) (n c : Nat) (w : World) (R : RdE inC 6 w w.heap.size A n p.cd) (hwf : ∀ x ∈ p.cd, x.wf) (hn : n ≤ 9223372036854775807) :
    Calls Tryz.prog 10 #[.agg (prA p A n c)] w (GivesEnc p w) := by
  obtain ⟨a0, a1, a2, a3, a4, a5, a6, a7, BB⟩ := boxP w p A n c 31
  have Epr := rngP w p A n c 31
  have HR := Lib.hid R
  have hlen := R.len
  have HW := Lib.hid hwf
  have cv : ∀ W, Below w.heap.size w W → Calls Tryz.prog 16 #[.agg #[.int .i64 p.st, .int .i64 p.rg, .int .i64 p.ip, .int .i64 p.ou, .int .i64 p.un, .int .i64 p.tx, .int .i64 p.bf, .slice A n c]] W fun e w' => e = .returned (.int .i64 (vald p)) ∧ Below W.heap.size W w' := fun W h => validate_b p A n c W ((R.below h).more h.size) hn
  have CV := Lib.hid cv
  clear cv
  unfold GivesEnc
  by_cases hv : vald p = 0
  · rw [hv] at CV
    rw [if_pos hv, if_pos hv]
    obtain ⟨hk16, hh⟩ := vald_ok hv
    rw [hlen] at hk16
    have HH := Lib.hid hh
    have HF : Hid (flat p = hdr p ++ p.cd.flatMap ins1) := Lib.hid (flat_eq p)
    have HD : Hid (hdr p = [p.st, p.rg, p.ip, p.ou, p.un, p.tx, p.bf, (n : Int)]) := Lib.hid (by rw [← hlen]; rfl)
    have hhl : (hdr p).length = 8 := rfl
    obtain ⟨F, hF⟩ : ∃ F, flat p = F := ⟨_, rfl⟩
    rw [hF] at HF ⊢
    clear hwf R hv hF hh
    go_enter Tryz.func10, Tryz.ntmps10
    go_wp2_with (first
      | (with_reducible refine pload Epr rfl ?_; go_simp)
      | (go_at_call 16; (with_reducible refine (CV.out _ BB).mono ?_); rintro _ W1 ⟨rfl, B⟩; replace a0 := cell_below B a0; replace a1 := cell_below B a1; replace a2 := cell_below B a2; replace a3 := cell_below B a3; replace a4 := cell_below B a4; replace a5 := cell_below B a5; replace a6 := cell_below B a6; replace a7 := cell_below B a7; have b7 := cell_below (box_below W1 #[.int .i64 p.st, .int .i64 p.rg, .int .i64 p.ip, .int .i64 p.ou, .int .i64 p.un, .int .i64 p.tx, .int .i64 p.bf, .int .i64 (n : Int)] 3) a7; replace BB := bon BB B; clear B))
    have own0 : Own (W1.alloc (.cells #[.int .i64 p.st, .int .i64 p.rg, .int .i64 p.ip, .int .i64 p.ou, .int .i64 p.un, .int .i64 p.tx, .int .i64 p.bf, .int .i64 (n : Int)] 3)) W1.heap.size 3 .i64 (some ⟨W1.heap.size, 0, none⟩) 8 8 (hdr p) := by
      have h := own_lit W1 3 .i64 (hdr p) (by rw [hhl]; decide) (by rw [i64_min, i64_max]; exact HH.out)
      rw [HD.out] at h ⊢
      exact h
    have BX := box_below W1 #[.int .i64 p.st, .int .i64 p.rg, .int .i64 p.ip, .int .i64 p.ou, .int .i64 p.un, .int .i64 p.tx, .int .i64 p.bf, .int .i64 (n : Int)] 3
    have hs1 := BB.size
    obtain ⟨U, hU⟩ : ∃ U, W1.alloc (.cells #[.int .i64 p.st, .int .i64 p.rg, .int .i64 p.ip, .int .i64 p.ou, .int .i64 p.un, .int .i64 p.tx, .int .i64 p.bf, .int .i64 (n : Int)] 3) = U := ⟨_, rfl⟩
    rw [hU] at own0 BX ⊢
    replace BB := bon BB BX
    have own1 : Own U w.heap.size 3 .i64 (some ⟨W1.heap.size, 0, none⟩) 8 8 (hdr p) := own0.since hs1
    clear a0 a1 a2 a3 a4 a5 a6 a7 b7 own0 BX hU Epr CV
    go_loopw [4, 34] (fun u i wr => ∃ (k : Nat) (A' : Option Addr) (n' c' : Nat) (l' : List Int), k ≤ n ∧ i = .int .i64 (k : Int) ∧ u = .slice A' n' c' ∧ Own wr w.heap.size 3 .i64 A' n' c' l' ∧ l' = hdr p ++ (p.cd.take k).flatMap ins1 ∧ n' ≤ 8 + 6 * k ∧ Below w.heap.size w wr) (fun _ i _ => n - (intOf i).toNat)
    case atStart => exact ⟨0, _, _, _, _, Nat.zero_le _, rfl, rfl, own1, by simp, by omega, BB⟩
    case round =>
      clear own1 BB
      obtain ⟨k, A', n', c', l', hk, rfl, rfl, ownL, hl, hn', BB⟩ := hrel
      rename World => wr
      by_cases hlt : k < n
      · obtain ⟨b1, o1, x, rfl, hb1, E1, hx⟩ := (HR.out.below BB).at_ hlt
        have hxw : x.wf := HW.out x (List.mem_of_getElem? hx.out)
        have hon := fm_on hx.out
        have CN := Lib.hid (fun W => numbers_b x W hxw)
        have hnl := nums_len x
        obtain ⟨N, hN⟩ : ∃ N, nums x = N := ⟨_, rfl⟩
        rw [hN] at hon CN hnl
        have HON := Lib.hid hon
        have HXO := Lib.hid hxw.1
        have HL := Lib.hid hl
        have c0 := (boxI wr x 24).1
        have hne := ownL.apart (Nat.le_refl _)
        have ownB := ownL.on (box_below wr (inA x) 24)
        have BW := bon BB (box_below wr (inA x) 24)
        have E2 := rngI wr x 24
        have hLl := ownL.len
        have hlt2 : wr.heap.size < (wr.alloc (.cells (inA x) 24)).heap.size := by simp
        have hz1 : (wr.alloc (.cells (inA x) 24)).heap.size = wr.heap.size + 1 := by simp
        clear hx hxw hN hon hl
        go_wp2_with (first
          | (with_reducible refine iload E1 rfl ?_; go_simp)
          | ((with_reducible refine istore rfl rfl ?_); go_simp)
          | (at_builtin; refine app1IO _ rfl _ _ _ rfl eI ownB rfl wr.heap.size hlt2 hne (by rw [i64_min, i64_max]; exact HXO.out) rfl hz1 (by unfold maxLen; omega) (by omega) ?_; intro A6 n6 c6 W6 own6 B6 q6 z6 _; have E6 := rngI_stay E2 q6; obtain rfl : n6 = n' + 1 := (by rw [← own6.len, List.length_append, hLl]; rfl); have BB6 := BW.trans B6)
          | (with_reducible refine iload E6 rfl ?_; go_simp)
          | (go_at_call 31; (with_reducible refine (CN.out _).mono ?_); rintro _ W7 ⟨A7, n7, c7, rfl, own7, B7⟩; have own8 := own6.on B7; have BB7 := bon BB6 B7; have h7 := own7.len)
          | (at_builtin; refine wpList_app _ rfl _ _ _ rfl eI own8 rfl own7.rd rfl (by unfold maxLen; omega) (by omega) ?_; intro A9 n9 c9 W9 own9 B9; have BB9 := BB7.trans B9; have h9 := Lib.hid (show n9 = n' + 1 + n7 by rw [← own9.len, List.length_append, own6.len, h7])))
        go_roundw
        case rel =>
          refine ⟨k + 1, _, _, _, _, by omega, by go_num, rfl, own9, ?_, ?_, BB9⟩
          · rw [HON.out, HL.out]
            simp
          · have q := h9.out; omega
        case measure => simp [intOf]; omega
      · obtain rfl : k = n := by omega
        rw [List.take_of_length_le (by omega)] at hl
        have hF2 : l' = F := by rw [hl, HF.out]
        subst hF2
        have hFl := ownL.len
        have KL := Lib.hid ownL.rd
        have own1 := Own.nil wr 5 .u8
        have hwr := BB.size
        clear hl HF HD HH HW HR ownL
        go_wp2
        go_loopw [7, 50] (fun u i wz => ∃ (j : Nat) (A9 : Option Addr) (n9 c9 : Nat) (lb : List Int), j ≤ n' ∧ i = .int .i64 (j : Int) ∧ u = .slice A9 n9 c9 ∧ Own wz wr.heap.size 5 .u8 A9 n9 c9 lb ∧ lb = (l'.take j).flatMap encI ∧ n9 ≤ 10 * j ∧ Below wr.heap.size wr wz) (fun _ i _ => n' - (intOf i).toNat)
        case atStart => exact ⟨0, _, _, _, _, Nat.zero_le _, rfl, rfl, own1, rfl, by omega, Below.refl _ _⟩
        case round =>
          clear own1
          obtain ⟨j, A9, n9, c9, lb, hj, rfl, rfl, ownZ, hlb, hn9, BZ⟩ := hrel
          rename World => wz
          by_cases hlt2 : j < n'
          · obtain ⟨b1, o1, y, eA, cy, y0, y1, hy⟩ := (KL.out.on BZ).int hlt2
            have hon := bm_on hy.out
            have hel := encI_len y y0 y1
            have CA := Lib.hid (fun W => appendInt_b none 0 0 [] y W (Rd.nil W W.heap.size .u8 none) y0 y1 (by simp; omega))
            rw [List.nil_append] at CA
            obtain ⟨Y, hY⟩ : ∃ Y, encI y = Y := ⟨_, rfl⟩
            rw [hY] at hon CA hel
            have HON := Lib.hid hon
            have HL := Lib.hid hlb
            have hLl := ownZ.len
            subst eA
            clear hy hY hon hlb KL
            go_wp2_with (first
              | (go_at_call 32; (with_reducible refine (CA.out _).mono ?_); rintro _ W7 ⟨A7, n7, c7, rfl, hc7, R7, B7⟩; have own8 := ownZ.on B7; have h7 := R7.len; have BZ7 := bon BZ B7)
              | (at_builtin; refine wpList_app _ rfl _ _ _ rfl eB own8 rfl R7 rfl (by unfold maxLen; omega) (by omega) ?_; intro A6 n6 c6 W9 own9 B9; have h9 := Lib.hid (show n6 = n9 + n7 by rw [← own9.len, List.length_append, hLl, h7]); have BZ9 := BZ7.trans B9))
            go_roundw
            case rel =>
              refine ⟨j + 1, _, _, _, _, by omega, by go_num, rfl, own9, ?_, ?_, BZ9⟩
              · rw [HON.out, HL.out]
              · have q := h9.out; omega
            case measure => simp [intOf]; omega
          · obtain rfl : j = n' := by omega
            rw [List.take_of_length_le (by omega)] at hlb
            subst hlb
            have rd := ownZ.rd
            have BF := BB.trans (BZ.mono hwr)
            clear KL ownZ
            go_wp2
            go_ret2
            exact ⟨_, _, _, rfl, by omega, rd, BF⟩
  · rw [if_neg hv, if_neg hv]
    have hv2 : (vald p == 0) = false := by simpa using hv
    have hv3 : (vald p != 0) = true := by simpa using hv
    obtain ⟨v, hvv⟩ : ∃ v, vald p = v := ⟨_, rfl⟩
    rw [hvv] at CV hv2 hv3
    clear hvv hv HR HW R hwf
    go_enter Tryz.func10, Tryz.ntmps10
    go_wp2_with (first
      | (with_reducible refine pload Epr rfl ?_; go_simp)
      | (go_at_call 16; (with_reducible refine (CV.out _ BB).mono ?_); rintro _ W1 ⟨rfl, B⟩; replace BB := bon BB B; clear B))
    go_ret2
    exact ⟨_, _, _, rfl, by decide, Rd.nil _ _ _ _, BB⟩

end Go.Proofs.YtnhnbblplnhmlaaGreatDoor
