/- The reference's Encode. Written by tools/gen/genU17.py. -/
import Derived.Test.YtnhnbblplnhmlaaGreatDoorU16
import Derived.Test.YtnhnbblplnhmlaaGreatDoorUR3
namespace Go.Proofs.YtnhnbblplnhmlaaGreatDoor
set_option linter.unusedSimpArgs false
open Go.RowKit Go.Sort Go.ChangeShapes Go.WideShapes
set_option linter.unusedVariables false

set_option maxRecDepth 100000 in
set_option maxHeartbeats 4000000 in
theorem rencode_b (p : Pr) (A : Option Addr) (n c : Nat) (w : World) (R : RdE inC 6 w w.heap.size A n p.cd) (hwf : ∀ x ∈ p.cd, x.wf) (hn : n ≤ 9223372036854775807) :
    Calls Tryz.prog 11 #[.agg (prA p A n c)] w (GivesEnc p w) := by
  obtain ⟨a0, a1, a2, a3, a4, a5, a6, a7, BB⟩ := boxP w p A n c 31
  have Epr := rngP w p A n c 31
  have HR := Lib.hid R
  have hlen := R.len
  have HW := Lib.hid hwf
  have cv : ∀ W, Below w.heap.size w W → Calls Tryz.prog 33 #[.agg #[.int .i64 p.st, .int .i64 p.rg, .int .i64 p.ip, .int .i64 p.ou, .int .i64 p.un, .int .i64 p.tx, .int .i64 p.bf, .slice A n c]] W fun e w' => e = .returned (.int .i64 (vald p)) ∧ Below W.heap.size W w' := fun W h => rvalidate_b p A n c W ((R.below h).more h.size) hn
  have CV := Lib.hid cv
  clear cv
  unfold GivesEnc
  by_cases hv : vald p = 0
  · rw [hv] at CV
    rw [if_pos hv, if_pos hv]
    obtain ⟨hk16, hh⟩ := vald_ok hv
    rw [hlen] at hk16
    have HH := Lib.hid hh
    have HF : Hid (flat p = hdr p ++ p.cd.flatMap ins1) := Lib.hid (flat_eq p)
    have HD : Hid (hdr p = [p.st, p.rg, p.ip, p.ou, p.un, p.tx, p.bf, (n : Int)]) := Lib.hid (by rw [← hlen]; rfl)
    have hhl : (hdr p).length = 8 := rfl
    obtain ⟨F, hF⟩ : ∃ F, flat p = F := ⟨_, rfl⟩
    rw [hF] at HF ⊢
    clear hwf R hv hF hh
    have hpos : (w.alloc (.cells (prA p A n c) 31)).heap.size = w.heap.size + 1 := by simp
    go_enter Tryz.func11, Tryz.ntmps11
    go_wp2_with (first
      | (with_reducible refine pload Epr rfl ?_; go_simp)
      | (go_at_call 33; (with_reducible refine (CV.out _ BB).mono ?_); rintro _ W1 ⟨rfl, B⟩; replace a0 := cell_below B a0; replace a1 := cell_below B a1; replace a2 := cell_below B a2; replace a3 := cell_below B a3; replace a4 := cell_below B a4; replace a5 := cell_below B a5; replace a6 := cell_below B a6; replace a7 := cell_below B a7; have b7 := cell_below (box_below W1 #[.int .i64 p.st, .int .i64 p.rg, .int .i64 p.ip, .int .i64 p.ou, .int .i64 p.un, .int .i64 p.tx, .int .i64 p.bf, .int .i64 (n : Int)] 3) a7; have BB1 := bon BB B; have hw1 := B.size))
    have own0 : Own (W1.alloc (.cells #[.int .i64 p.st, .int .i64 p.rg, .int .i64 p.ip, .int .i64 p.ou, .int .i64 p.un, .int .i64 p.tx, .int .i64 p.bf, .int .i64 (n : Int)] 3)) W1.heap.size 3 .i64 (some ⟨W1.heap.size, 0, none⟩) 8 8 (hdr p) := by
      have h := own_lit W1 3 .i64 (hdr p) (by rw [hhl]; decide) (by rw [i64_min, i64_max]; exact HH.out)
      rw [HD.out] at h ⊢
      exact h
    have BX := box_below W1 #[.int .i64 p.st, .int .i64 p.rg, .int .i64 p.ip, .int .i64 p.ou, .int .i64 p.un, .int .i64 p.tx, .int .i64 p.bf, .int .i64 (n : Int)] 3
    rw [hpos] at hw1
    obtain ⟨U, hU⟩ : ∃ U, W1.alloc (.cells #[.int .i64 p.st, .int .i64 p.rg, .int .i64 p.ip, .int .i64 p.ou, .int .i64 p.un, .int .i64 p.tx, .int .i64 p.bf, .int .i64 (n : Int)] 3) = U := ⟨_, rfl⟩
    rw [hU] at own0 BX ⊢
    clear a0 a1 a2 a3 a4 a5 a6 b7 hU Epr CV BB B hpos
    go_loopw [4, 5] (fun u i wr => ∃ (k : Nat) (A' : Option Addr) (n' c' : Nat) (l' : List Int), k ≤ n ∧ i = .int .i64 (k : Int) ∧ u = .slice A' n' c' ∧ Own wr W1.heap.size 3 .i64 A' n' c' l' ∧ l' = hdr p ++ (p.cd.take k).flatMap ins1 ∧ n' ≤ 8 + 6 * k ∧ Below W1.heap.size W1 wr) (fun _ i _ => n - (intOf i).toNat)
    case atStart => exact ⟨0, _, _, _, _, Nat.zero_le _, rfl, rfl, own0, by simp, by omega, BX⟩
    case round =>
      clear own0 BX
      obtain ⟨k, A', n', c', l', hk, rfl, rfl, ownL, hl, hn', BB⟩ := hrel
      rename World => wr
      have b7 := cell_below BB a7
      have hBs := BB.size
      by_cases hlt : k < n
      · obtain ⟨b1, o1, x, rfl, hb1, E1, hx⟩ := (HR.out.below (bon BB1 BB)).at_ hlt
        have hxw : x.wf := HW.out x (List.mem_of_getElem? hx.out)
        have hon := fm_on hx.out
        have CU := Lib.hid (fun W => ruses_b x W hxw)
        have CO := Lib.hid (fun W => roperands_q x.o W)
        have hul := uses_len x
        have hnu : nums x = (if fD (cl x.o) then [x.d] else []) ++ uses x ++ (if fI (cl x.o) then [x.i] else []) := rfl
        simp only [flg] at CO
        obtain ⟨d, hd⟩ : ∃ d, fD (cl x.o) = d := ⟨_, rfl⟩
        obtain ⟨m, hm⟩ : ∃ m, fI (cl x.o) = m := ⟨_, rfl⟩
        obtain ⟨V, hV⟩ : ∃ V, uses x = V := ⟨_, rfl⟩
        obtain ⟨N, hN⟩ : ∃ N, nums x = N := ⟨_, rfl⟩
        rw [hd, hm, hV, hN] at hnu
        rw [hd, hm] at CO
        rw [hV] at CU hul
        rw [hN] at hon
        have HON := Lib.hid hon
        have HXO := Lib.hid hxw.1
        have HXD := Lib.hid hxw.2.1
        have HXI := Lib.hid hxw.2.2.2.2.2
        have HL := Lib.hid hl
        obtain ⟨c0_0, c1_0, _, _, _, c5_0, _⟩ := boxI wr x 24
        have E_0 := rngI wr x 24
        have ne0 := ownL.apart (Nat.le_refl _)
        have own0 := ownL.on (box_below wr (inA x) 24)
        have BB0 := bon BB (box_below wr (inA x) 24)
        have hlt_0 : wr.heap.size < (wr.alloc (.cells (inA x) 24)).heap.size := by simp
        have hz1 : (wr.alloc (.cells (inA x) 24)).heap.size = wr.heap.size + 1 := by simp
        have HNU := Lib.hid hnu
        clear hx hxw hN hV hon hl hnu hd hm
        rcases d with _ | _ <;> rcases m with _ | _
        · go_wp2_with (first
            | (with_reducible refine iload E1 rfl ?_; go_simp)
            | ((with_reducible refine istore rfl rfl ?_); go_simp)
            | (go_at_call 34; (with_reducible refine (CO.out _).mono ?_); rintro _ _ ⟨rfl, rfl⟩)
            | (at_builtin; refine app1IO _ rfl _ _ _ rfl eI own0 rfl wr.heap.size hlt_0 ne0 (by rw [i64_min, i64_max]; exact HXO.out) rfl hz1 (by unfold maxLen; omega) (by omega) ?_; intro A1 n1 c1 W1 own1 B1 q1 z1 ne1; obtain rfl : n1 = n' + 1 := (by rw [← own1.len, List.length_append, own0.len]; rfl); have BB1 := BB0.trans B1; have hlt_1 := Nat.lt_of_lt_of_le hlt_0 z1; have c1_1 : W1.cell? ⟨wr.heap.size, 1, none⟩ = some (.int .i64 x.d) := (by rw [World.cell?_of_block (a := ⟨wr.heap.size, 1, none⟩) q1]; exact c1_0); have c5_1 : W1.cell? ⟨wr.heap.size, 5, none⟩ = some (.int .i64 x.i) := (by rw [World.cell?_of_block (a := ⟨wr.heap.size, 5, none⟩) q1]; exact c5_0); have E_1 := rngI_stay E_0 q1)
            | (with_reducible refine iload E_1 rfl ?_; go_simp)
            | (go_at_call 35; (with_reducible refine (CU.out _).mono ?_); rintro _ W3 ⟨A3, n3, c3, rfl, own3u, B3⟩; have own3 := own1.on B3; have q3 := B3.block wr.heap.size hlt_1; have hlt_3 := Nat.lt_of_lt_of_le hlt_1 B3.size; have BB3 := bon BB1 B3; have h3 := own3u.len; have c1_3 : W3.cell? ⟨wr.heap.size, 1, none⟩ = some (.int .i64 x.d) := (by rw [World.cell?_of_block (a := ⟨wr.heap.size, 1, none⟩) q3]; exact c1_1); have c5_3 : W3.cell? ⟨wr.heap.size, 5, none⟩ = some (.int .i64 x.i) := (by rw [World.cell?_of_block (a := ⟨wr.heap.size, 5, none⟩) q3]; exact c5_1); have E_3 := rngI_stay E_1 q3)
            | (at_builtin; refine appIO _ rfl _ _ _ rfl eI own3 rfl wr.heap.size hlt_3 ne1 own3u.rd rfl (by unfold maxLen; omega) (by omega) ?_; intro A4 n4 c4 W4 own4 B4 q4 z4 ne4; obtain rfl : n4 = n' + 1 + n3 := (by rw [← own4.len, List.length_append, own3.len, h3]); have BB4 := BB3.trans B4; have hlt_4 := Nat.lt_of_lt_of_le hlt_3 z4; have c1_4 : W4.cell? ⟨wr.heap.size, 1, none⟩ = some (.int .i64 x.d) := (by rw [World.cell?_of_block (a := ⟨wr.heap.size, 1, none⟩) q4]; exact c1_3); have c5_4 : W4.cell? ⟨wr.heap.size, 5, none⟩ = some (.int .i64 x.i) := (by rw [World.cell?_of_block (a := ⟨wr.heap.size, 5, none⟩) q4]; exact c5_3); have E_4 := rngI_stay E_3 q4))
          go_roundw
          case rel =>
            refine ⟨k + 1, _, _, _, _, by omega, by go_num, rfl, own4, ?_, ?_, BB4⟩
            · rw [HON.out, HL.out, HNU.out]
              simp
            · omega
          case measure => simp [intOf]; omega
        · go_wp2_with (first
            | (with_reducible refine iload E1 rfl ?_; go_simp)
            | ((with_reducible refine istore rfl rfl ?_); go_simp)
            | (go_at_call 34; (with_reducible refine (CO.out _).mono ?_); rintro _ _ ⟨rfl, rfl⟩)
            | (at_builtin; refine app1IO _ rfl _ _ _ rfl eI own0 rfl wr.heap.size hlt_0 ne0 (by rw [i64_min, i64_max]; exact HXO.out) rfl hz1 (by unfold maxLen; omega) (by omega) ?_; intro A1 n1 c1 W1 own1 B1 q1 z1 ne1; obtain rfl : n1 = n' + 1 := (by rw [← own1.len, List.length_append, own0.len]; rfl); have BB1 := BB0.trans B1; have hlt_1 := Nat.lt_of_lt_of_le hlt_0 z1; have c1_1 : W1.cell? ⟨wr.heap.size, 1, none⟩ = some (.int .i64 x.d) := (by rw [World.cell?_of_block (a := ⟨wr.heap.size, 1, none⟩) q1]; exact c1_0); have c5_1 : W1.cell? ⟨wr.heap.size, 5, none⟩ = some (.int .i64 x.i) := (by rw [World.cell?_of_block (a := ⟨wr.heap.size, 5, none⟩) q1]; exact c5_0); have E_1 := rngI_stay E_0 q1)
            | (with_reducible refine iload E_1 rfl ?_; go_simp)
            | (go_at_call 35; (with_reducible refine (CU.out _).mono ?_); rintro _ W3 ⟨A3, n3, c3, rfl, own3u, B3⟩; have own3 := own1.on B3; have q3 := B3.block wr.heap.size hlt_1; have hlt_3 := Nat.lt_of_lt_of_le hlt_1 B3.size; have BB3 := bon BB1 B3; have h3 := own3u.len; have c1_3 : W3.cell? ⟨wr.heap.size, 1, none⟩ = some (.int .i64 x.d) := (by rw [World.cell?_of_block (a := ⟨wr.heap.size, 1, none⟩) q3]; exact c1_1); have c5_3 : W3.cell? ⟨wr.heap.size, 5, none⟩ = some (.int .i64 x.i) := (by rw [World.cell?_of_block (a := ⟨wr.heap.size, 5, none⟩) q3]; exact c5_1); have E_3 := rngI_stay E_1 q3)
            | (at_builtin; refine appIO _ rfl _ _ _ rfl eI own3 rfl wr.heap.size hlt_3 ne1 own3u.rd rfl (by unfold maxLen; omega) (by omega) ?_; intro A4 n4 c4 W4 own4 B4 q4 z4 ne4; obtain rfl : n4 = n' + 1 + n3 := (by rw [← own4.len, List.length_append, own3.len, h3]); have BB4 := BB3.trans B4; have hlt_4 := Nat.lt_of_lt_of_le hlt_3 z4; have c1_4 : W4.cell? ⟨wr.heap.size, 1, none⟩ = some (.int .i64 x.d) := (by rw [World.cell?_of_block (a := ⟨wr.heap.size, 1, none⟩) q4]; exact c1_3); have c5_4 : W4.cell? ⟨wr.heap.size, 5, none⟩ = some (.int .i64 x.i) := (by rw [World.cell?_of_block (a := ⟨wr.heap.size, 5, none⟩) q4]; exact c5_3); have E_4 := rngI_stay E_3 q4)
            | (at_builtin; refine app1IO _ rfl _ _ _ rfl eI own4 rfl wr.heap.size hlt_4 ne4 (by rw [i64_min, i64_max]; exact HXI.out) rfl rfl (by unfold maxLen; omega) (by omega) ?_; intro A5 n5 c5 W5 own5 B5 q5 z5 ne5; obtain rfl : n5 = n' + 1 + n3 + 1 := (by rw [← own5.len, List.length_append, own4.len]; rfl); have BB5 := BB4.trans B5; have hlt_5 := Nat.lt_of_lt_of_le hlt_4 z5; have c1_5 : W5.cell? ⟨wr.heap.size, 1, none⟩ = some (.int .i64 x.d) := (by rw [World.cell?_of_block (a := ⟨wr.heap.size, 1, none⟩) q5]; exact c1_4); have c5_5 : W5.cell? ⟨wr.heap.size, 5, none⟩ = some (.int .i64 x.i) := (by rw [World.cell?_of_block (a := ⟨wr.heap.size, 5, none⟩) q5]; exact c5_4); have E_5 := rngI_stay E_4 q5))
          go_roundw
          case rel =>
            refine ⟨k + 1, _, _, _, _, by omega, by go_num, rfl, own5, ?_, ?_, BB5⟩
            · rw [HON.out, HL.out, HNU.out]
              simp
            · omega
          case measure => simp [intOf]; omega
        · go_wp2_with (first
            | (with_reducible refine iload E1 rfl ?_; go_simp)
            | ((with_reducible refine istore rfl rfl ?_); go_simp)
            | (go_at_call 34; (with_reducible refine (CO.out _).mono ?_); rintro _ _ ⟨rfl, rfl⟩)
            | (at_builtin; refine app1IO _ rfl _ _ _ rfl eI own0 rfl wr.heap.size hlt_0 ne0 (by rw [i64_min, i64_max]; exact HXO.out) rfl hz1 (by unfold maxLen; omega) (by omega) ?_; intro A1 n1 c1 W1 own1 B1 q1 z1 ne1; obtain rfl : n1 = n' + 1 := (by rw [← own1.len, List.length_append, own0.len]; rfl); have BB1 := BB0.trans B1; have hlt_1 := Nat.lt_of_lt_of_le hlt_0 z1; have c1_1 : W1.cell? ⟨wr.heap.size, 1, none⟩ = some (.int .i64 x.d) := (by rw [World.cell?_of_block (a := ⟨wr.heap.size, 1, none⟩) q1]; exact c1_0); have c5_1 : W1.cell? ⟨wr.heap.size, 5, none⟩ = some (.int .i64 x.i) := (by rw [World.cell?_of_block (a := ⟨wr.heap.size, 5, none⟩) q1]; exact c5_0); have E_1 := rngI_stay E_0 q1)
            | (at_builtin; refine app1IO _ rfl _ _ _ rfl eI own1 rfl wr.heap.size hlt_1 ne1 (by rw [i64_min, i64_max]; exact HXD.out) rfl rfl (by unfold maxLen; omega) (by omega) ?_; intro A2 n2 c2 W2 own2 B2 q2 z2 ne2; obtain rfl : n2 = n' + 1 + 1 := (by rw [← own2.len, List.length_append, own1.len]; rfl); have BB2 := BB1.trans B2; have hlt_2 := Nat.lt_of_lt_of_le hlt_1 z2; have c1_2 : W2.cell? ⟨wr.heap.size, 1, none⟩ = some (.int .i64 x.d) := (by rw [World.cell?_of_block (a := ⟨wr.heap.size, 1, none⟩) q2]; exact c1_1); have c5_2 : W2.cell? ⟨wr.heap.size, 5, none⟩ = some (.int .i64 x.i) := (by rw [World.cell?_of_block (a := ⟨wr.heap.size, 5, none⟩) q2]; exact c5_1); have E_2 := rngI_stay E_1 q2)
            | (with_reducible refine iload E_2 rfl ?_; go_simp)
            | (go_at_call 35; (with_reducible refine (CU.out _).mono ?_); rintro _ W3 ⟨A3, n3, c3, rfl, own3u, B3⟩; have own3 := own2.on B3; have q3 := B3.block wr.heap.size hlt_2; have hlt_3 := Nat.lt_of_lt_of_le hlt_2 B3.size; have BB3 := bon BB2 B3; have h3 := own3u.len; have c1_3 : W3.cell? ⟨wr.heap.size, 1, none⟩ = some (.int .i64 x.d) := (by rw [World.cell?_of_block (a := ⟨wr.heap.size, 1, none⟩) q3]; exact c1_2); have c5_3 : W3.cell? ⟨wr.heap.size, 5, none⟩ = some (.int .i64 x.i) := (by rw [World.cell?_of_block (a := ⟨wr.heap.size, 5, none⟩) q3]; exact c5_2); have E_3 := rngI_stay E_2 q3)
            | (at_builtin; refine appIO _ rfl _ _ _ rfl eI own3 rfl wr.heap.size hlt_3 ne2 own3u.rd rfl (by unfold maxLen; omega) (by omega) ?_; intro A4 n4 c4 W4 own4 B4 q4 z4 ne4; obtain rfl : n4 = n' + 1 + 1 + n3 := (by rw [← own4.len, List.length_append, own3.len, h3]); have BB4 := BB3.trans B4; have hlt_4 := Nat.lt_of_lt_of_le hlt_3 z4; have c1_4 : W4.cell? ⟨wr.heap.size, 1, none⟩ = some (.int .i64 x.d) := (by rw [World.cell?_of_block (a := ⟨wr.heap.size, 1, none⟩) q4]; exact c1_3); have c5_4 : W4.cell? ⟨wr.heap.size, 5, none⟩ = some (.int .i64 x.i) := (by rw [World.cell?_of_block (a := ⟨wr.heap.size, 5, none⟩) q4]; exact c5_3); have E_4 := rngI_stay E_3 q4))
          go_roundw
          case rel =>
            refine ⟨k + 1, _, _, _, _, by omega, by go_num, rfl, own4, ?_, ?_, BB4⟩
            · rw [HON.out, HL.out, HNU.out]
              simp
            · omega
          case measure => simp [intOf]; omega
        · go_wp2_with (first
            | (with_reducible refine iload E1 rfl ?_; go_simp)
            | ((with_reducible refine istore rfl rfl ?_); go_simp)
            | (go_at_call 34; (with_reducible refine (CO.out _).mono ?_); rintro _ _ ⟨rfl, rfl⟩)
            | (at_builtin; refine app1IO _ rfl _ _ _ rfl eI own0 rfl wr.heap.size hlt_0 ne0 (by rw [i64_min, i64_max]; exact HXO.out) rfl hz1 (by unfold maxLen; omega) (by omega) ?_; intro A1 n1 c1 W1 own1 B1 q1 z1 ne1; obtain rfl : n1 = n' + 1 := (by rw [← own1.len, List.length_append, own0.len]; rfl); have BB1 := BB0.trans B1; have hlt_1 := Nat.lt_of_lt_of_le hlt_0 z1; have c1_1 : W1.cell? ⟨wr.heap.size, 1, none⟩ = some (.int .i64 x.d) := (by rw [World.cell?_of_block (a := ⟨wr.heap.size, 1, none⟩) q1]; exact c1_0); have c5_1 : W1.cell? ⟨wr.heap.size, 5, none⟩ = some (.int .i64 x.i) := (by rw [World.cell?_of_block (a := ⟨wr.heap.size, 5, none⟩) q1]; exact c5_0); have E_1 := rngI_stay E_0 q1)
            | (at_builtin; refine app1IO _ rfl _ _ _ rfl eI own1 rfl wr.heap.size hlt_1 ne1 (by rw [i64_min, i64_max]; exact HXD.out) rfl rfl (by unfold maxLen; omega) (by omega) ?_; intro A2 n2 c2 W2 own2 B2 q2 z2 ne2; obtain rfl : n2 = n' + 1 + 1 := (by rw [← own2.len, List.length_append, own1.len]; rfl); have BB2 := BB1.trans B2; have hlt_2 := Nat.lt_of_lt_of_le hlt_1 z2; have c1_2 : W2.cell? ⟨wr.heap.size, 1, none⟩ = some (.int .i64 x.d) := (by rw [World.cell?_of_block (a := ⟨wr.heap.size, 1, none⟩) q2]; exact c1_1); have c5_2 : W2.cell? ⟨wr.heap.size, 5, none⟩ = some (.int .i64 x.i) := (by rw [World.cell?_of_block (a := ⟨wr.heap.size, 5, none⟩) q2]; exact c5_1); have E_2 := rngI_stay E_1 q2)
            | (with_reducible refine iload E_2 rfl ?_; go_simp)
            | (go_at_call 35; (with_reducible refine (CU.out _).mono ?_); rintro _ W3 ⟨A3, n3, c3, rfl, own3u, B3⟩; have own3 := own2.on B3; have q3 := B3.block wr.heap.size hlt_2; have hlt_3 := Nat.lt_of_lt_of_le hlt_2 B3.size; have BB3 := bon BB2 B3; have h3 := own3u.len; have c1_3 : W3.cell? ⟨wr.heap.size, 1, none⟩ = some (.int .i64 x.d) := (by rw [World.cell?_of_block (a := ⟨wr.heap.size, 1, none⟩) q3]; exact c1_2); have c5_3 : W3.cell? ⟨wr.heap.size, 5, none⟩ = some (.int .i64 x.i) := (by rw [World.cell?_of_block (a := ⟨wr.heap.size, 5, none⟩) q3]; exact c5_2); have E_3 := rngI_stay E_2 q3)
            | (at_builtin; refine appIO _ rfl _ _ _ rfl eI own3 rfl wr.heap.size hlt_3 ne2 own3u.rd rfl (by unfold maxLen; omega) (by omega) ?_; intro A4 n4 c4 W4 own4 B4 q4 z4 ne4; obtain rfl : n4 = n' + 1 + 1 + n3 := (by rw [← own4.len, List.length_append, own3.len, h3]); have BB4 := BB3.trans B4; have hlt_4 := Nat.lt_of_lt_of_le hlt_3 z4; have c1_4 : W4.cell? ⟨wr.heap.size, 1, none⟩ = some (.int .i64 x.d) := (by rw [World.cell?_of_block (a := ⟨wr.heap.size, 1, none⟩) q4]; exact c1_3); have c5_4 : W4.cell? ⟨wr.heap.size, 5, none⟩ = some (.int .i64 x.i) := (by rw [World.cell?_of_block (a := ⟨wr.heap.size, 5, none⟩) q4]; exact c5_3); have E_4 := rngI_stay E_3 q4)
            | (at_builtin; refine app1IO _ rfl _ _ _ rfl eI own4 rfl wr.heap.size hlt_4 ne4 (by rw [i64_min, i64_max]; exact HXI.out) rfl rfl (by unfold maxLen; omega) (by omega) ?_; intro A5 n5 c5 W5 own5 B5 q5 z5 ne5; obtain rfl : n5 = n' + 1 + 1 + n3 + 1 := (by rw [← own5.len, List.length_append, own4.len]; rfl); have BB5 := BB4.trans B5; have hlt_5 := Nat.lt_of_lt_of_le hlt_4 z5; have c1_5 : W5.cell? ⟨wr.heap.size, 1, none⟩ = some (.int .i64 x.d) := (by rw [World.cell?_of_block (a := ⟨wr.heap.size, 1, none⟩) q5]; exact c1_4); have c5_5 : W5.cell? ⟨wr.heap.size, 5, none⟩ = some (.int .i64 x.i) := (by rw [World.cell?_of_block (a := ⟨wr.heap.size, 5, none⟩) q5]; exact c5_4); have E_5 := rngI_stay E_4 q5))
          go_roundw
          case rel =>
            refine ⟨k + 1, _, _, _, _, by omega, by go_num, rfl, own5, ?_, ?_, BB5⟩
            · rw [HON.out, HL.out, HNU.out]
              simp
            · omega
          case measure => simp [intOf]; omega
      · obtain rfl : k = n := by omega
        rw [List.take_of_length_le (by omega)] at hl
        have hF2 : l' = F := by rw [hl, HF.out]
        subst hF2
        have hFl := ownL.len
        have BM := box_below wr #[] 5
        have KQ := Lib.hid ownL.rd
        have KL := Lib.hid (ownL.rd.on BM)
        have own1 := Own.made wr 5 .u8
        have BBw := bon BB1 BB
        have hwr := BBw.size
        clear hl HF HD HH HW HR ownL
        go_wp2
        obtain ⟨U2, hU2⟩ : ∃ U2, wr.alloc (.cells #[] 5) = U2 := ⟨_, rfl⟩
        rw [hU2] at own1 BM KL ⊢
        clear hU2
        have hU2s := BM.size
        go_loopw [12, 13] (fun u i wz => ∃ (j : Nat) (A9 : Option Addr) (n9 c9 : Nat) (lb : List Int), j ≤ n' ∧ i = .int .i64 (j : Int) ∧ u = .slice A9 n9 c9 ∧ Own wz wr.heap.size 5 .u8 A9 n9 c9 lb ∧ lb = (l'.take j).flatMap encI ∧ n9 ≤ 10 * j ∧ Rd wz wr.heap.size .i64 A' n' l' ∧ Below wr.heap.size wr wz) (fun _ i _ => n' - (intOf i).toNat)
        case atStart => exact ⟨0, _, _, _, _, Nat.zero_le _, rfl, rfl, own1, rfl, by omega, KQ.out.below BM, BM⟩
        case round =>
          clear own1
          obtain ⟨j, A9, n9, c9, lb, hj, rfl, rfl, ownZ, hlb, hn9, KZ, BZ⟩ := hrel
          rename World => wz
          by_cases hlt2 : j < n'
          · obtain ⟨b1, o1, y, eA, cy, y0, y1, hy⟩ := KZ.int hlt2
            have hon := bm_on hy.out
            have hel := encI_len y y0 y1
            have CA := Lib.hid (fun W => rappendInt_b none 0 0 [] y W (Rd.nil W W.heap.size .u8 none) y0 y1 (by simp; omega))
            rw [List.nil_append] at CA
            obtain ⟨Y, hY⟩ : ∃ Y, encI y = Y := ⟨_, rfl⟩
            rw [hY] at hon CA hel
            have HON := Lib.hid hon
            have HL := Lib.hid hlb
            have HKZ := Lib.hid KZ
            have hLl := ownZ.len
            subst eA
            clear hy hY hon hlb KL KZ
            go_wp2_with (first
              | (go_at_call 36; (with_reducible refine (CA.out _).mono ?_); rintro _ W7 ⟨A7, n7, c7, rfl, own7, B7⟩; have R7 := own7.rd; have own8 := ownZ.on B7; have h7 := R7.len; have BZ7 := bon BZ B7)
              | (at_builtin; refine wpList_app _ rfl _ _ _ rfl eB own8 rfl R7 rfl (by unfold maxLen; omega) (by omega) ?_; intro A6 n6 c6 W9 own9 B9; have h9 := Lib.hid (show n6 = n9 + n7 by rw [← own9.len, List.length_append, hLl, h7]); have BZ9 := BZ7.trans B9))
            go_roundw
            case rel =>
              refine ⟨j + 1, _, _, _, _, by omega, by go_num, rfl, own9, ?_, ?_, (HKZ.out.below (B7.mono BZ.size)).below B9, BZ9⟩
              · rw [HON.out, HL.out]
              · have q := h9.out; omega
            case measure => simp [intOf]; omega
          · obtain rfl : j = n' := by omega
            rw [List.take_of_length_le (by omega)] at hlb
            subst hlb
            have rd := ownZ.rd
            have BF := BBw.trans (BZ.mono hwr)
            clear KL ownZ
            go_wp2
            go_ret2
            exact ⟨_, _, _, rfl, by omega, rd, BF⟩
  · rw [if_neg hv, if_neg hv]
    have hv2 : (vald p == 0) = false := by simpa using hv
    have hv3 : (vald p != 0) = true := by simpa using hv
    obtain ⟨v, hvv⟩ : ∃ v, vald p = v := ⟨_, rfl⟩
    rw [hvv] at CV hv2 hv3
    clear hvv hv HR HW R hwf
    go_enter Tryz.func11, Tryz.ntmps11
    go_wp2_with (first
      | (with_reducible refine pload Epr rfl ?_; go_simp)
      | (go_at_call 33; (with_reducible refine (CV.out _ BB).mono ?_); rintro _ W1 ⟨rfl, B⟩; replace BB := bon BB B; clear B))
    go_ret2
    exact ⟨_, _, _, rfl, by decide, Rd.nil _ _ _ _, BB⟩

end Go.Proofs.YtnhnbblplnhmlaaGreatDoor
