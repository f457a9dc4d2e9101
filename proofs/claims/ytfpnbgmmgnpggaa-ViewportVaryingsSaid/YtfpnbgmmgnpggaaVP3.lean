/- What Transform of package viewport returns; the example. -/
import Derived.Test.YtfpnbgmmgnpggaaVP2
import Derived.Test.YtfpnbgmmgnpggaaMake
namespace Go.Proofs.Ytfpnbgmmgnpggaa
set_option linter.unusedSimpArgs false
open Go.RowKit Go.Sort Go.ChangeShapes Go.WideShapes
set_option linter.unusedVariables false

theorem rk_v4 : RowK Try.prog 35 4 := ⟨⟨_, Try.underlying35, rfl⟩, by kernel_rfl⟩

theorem rk_sv : RowK Try.prog 29 5 := ⟨⟨_, Try.underlying29, rfl⟩, by kernel_rfl⟩

theorem iI : (Try.prog.info? 3).map (fun i => (i.zero, i.size, i.bytes)) = some (some (.int .i64 0), 1, 8) := by kernel_rfl

set_option maxRecDepth 100000 in
set_option maxHeartbeats 1000000 in
theorem transform_no (x y ww hh mn mx : Int) (X Y Z V : Int) (A : Option Addr) (n c : Nat) (h : vvalid x y ww hh mn mx = false) (w : World) : Calls Try.prog 22 #[.agg #[.int .i64 x, .int .i64 y, .int .i64 ww, .int .i64 hh, .int .i64 mn, .int .i64 mx], .agg #[.int .i64 X, .int .i64 Y, .int .i64 Z, .int .i64 V, .slice A n c]] w fun e w' => e = .returned (.agg #[.int .i64 0, .int .i64 0, .int .i64 0, .int .i64 0, .slice none 0 0]) ∧ Below w.heap.size w w' := by
  have BB := box_below w #[.int .i64 x, .int .i64 y, .int .i64 ww, .int .i64 hh, .int .i64 mn, .int .i64 mx] 23
  have X0 := EBox.made w #[.int .i64 x, .int .i64 y, .int .i64 ww, .int .i64 hh, .int .i64 mn, .int .i64 mx] 23
  have hsz1 : (w.alloc (.cells #[.int .i64 x, .int .i64 y, .int .i64 ww, .int .i64 hh, .int .i64 mn, .int .i64 mx] 23)).heap.size = w.heap.size + 1 := by simp
  have X1 := EBox.made (w.alloc (.cells #[.int .i64 x, .int .i64 y, .int .i64 ww, .int .i64 hh, .int .i64 mn, .int .i64 mx] 23)) #[.int .i64 X, .int .i64 Y, .int .i64 Z, .int .i64 V, .slice A n c] 37
  rw [hsz1] at X1
  replace X0 := X0.on (Nat.succ_pos _) (box_below (w.alloc (.cells #[.int .i64 x, .int .i64 y, .int .i64 ww, .int .i64 hh, .int .i64 mn, .int .i64 mx] 23)) #[.int .i64 X, .int .i64 Y, .int .i64 Z, .int .i64 V, .slice A n c] 37)
  replace BB := bon BB (box_below (w.alloc (.cells #[.int .i64 x, .int .i64 y, .int .i64 ww, .int .i64 hh, .int .i64 mn, .int .i64 mx] 23)) #[.int .i64 X, .int .i64 Y, .int .i64 Z, .int .i64 V, .slice A n c] 37)
  clear hsz1
  have hsz2 : ((w.alloc (.cells #[.int .i64 x, .int .i64 y, .int .i64 ww, .int .i64 hh, .int .i64 mn, .int .i64 mx] 23)).alloc (.cells #[.int .i64 X, .int .i64 Y, .int .i64 Z, .int .i64 V, .slice A n c] 37)).heap.size = w.heap.size + 2 := by simp
  have X2 := EBox.made ((w.alloc (.cells #[.int .i64 x, .int .i64 y, .int .i64 ww, .int .i64 hh, .int .i64 mn, .int .i64 mx] 23)).alloc (.cells #[.int .i64 X, .int .i64 Y, .int .i64 Z, .int .i64 V, .slice A n c] 37)) #[.int .i64 0, .int .i64 0, .int .i64 0, .int .i64 0, .slice none 0 0] 29
  rw [hsz2] at X2
  replace X0 := X0.on (Nat.succ_pos _) (box_below ((w.alloc (.cells #[.int .i64 x, .int .i64 y, .int .i64 ww, .int .i64 hh, .int .i64 mn, .int .i64 mx] 23)).alloc (.cells #[.int .i64 X, .int .i64 Y, .int .i64 Z, .int .i64 V, .slice A n c] 37)) #[.int .i64 0, .int .i64 0, .int .i64 0, .int .i64 0, .slice none 0 0] 29)
  replace X1 := X1.on (Nat.succ_pos _) (box_below ((w.alloc (.cells #[.int .i64 x, .int .i64 y, .int .i64 ww, .int .i64 hh, .int .i64 mn, .int .i64 mx] 23)).alloc (.cells #[.int .i64 X, .int .i64 Y, .int .i64 Z, .int .i64 V, .slice A n c] 37)) #[.int .i64 0, .int .i64 0, .int .i64 0, .int .i64 0, .slice none 0 0] 29)
  replace BB := bon BB (box_below ((w.alloc (.cells #[.int .i64 x, .int .i64 y, .int .i64 ww, .int .i64 hh, .int .i64 mn, .int .i64 mx] 23)).alloc (.cells #[.int .i64 X, .int .i64 Y, .int .i64 Z, .int .i64 V, .slice A n c] 37)) #[.int .i64 0, .int .i64 0, .int .i64 0, .int .i64 0, .slice none 0 0] 29)
  clear hsz2
  have c0 := X0.cell (i := 0) rfl
  have c1 := X0.cell (i := 1) rfl
  have c2 := X0.cell (i := 2) rfl
  have c3 := X0.cell (i := 3) rfl
  have c4 := X0.cell (i := 4) rfl
  have c5 := X0.cell (i := 5) rfl
  have Evp := range_cut X0.1 0 6
  simp only [List.drop_succ_cons, List.drop_zero, List.take_succ_cons, List.take_zero, Nat.zero_add] at Evp
  have p0 := X1.cell (i := 0) rfl
  have p1 := X1.cell (i := 1) rfl
  have p2 := X1.cell (i := 2) rfl
  have p3 := X1.cell (i := 3) rfl
  have p4 := X1.cell (i := 4) rfl
  have Ev4 := range_cut X1.1 0 4
  simp only [List.drop_succ_cons, List.drop_zero, List.take_succ_cons, List.take_zero, Nat.zero_add] at Ev4
  clear X0 X1
  have XR := X2
  clear X2
  have CV := Lib.hid (fun W => vvalid_b x y ww hh mn mx W)
  rw [h] at CV
  clear h c0 c1 c2 c3 c4 c5 p0 p1 p2 p3 p4 Ev4
  go_enter Try.func22, Try.ntmps22
  go_wp2_with (first
    | ((with_reducible refine eload6L rk_vp Evp ?_ ?_); focus rfl)
    | (go_at_call 11; refine (CV.out _).mono ?_; rintro _ W1 ⟨rfl, B⟩; replace BB := bon BB B; replace XR := XR.on (Nat.succ_pos _) B; clear B Evp; have g0 := XR.cell (i := 0) rfl; have g1 := XR.cell (i := 1) rfl; have g2 := XR.cell (i := 2) rfl; have g3 := XR.cell (i := 3) rfl; have g4 := XR.cell (i := 4) rfl; have z0 := XR.2))
  have X1 := EBox.upd (i := 4) (v := .slice none 0 0) (EBox.upd (i := 3) (v := .int .i64 0) (EBox.upd (i := 2) (v := .int .i64 0) (EBox.upd (i := 1) (v := .int .i64 0) (EBox.upd (i := 0) (v := .int .i64 0) XR (by decide)) (by decide)) (by decide)) (by decide)) (by decide)
  have r0 := X1.cell (i := 0) rfl
  have r1 := X1.cell (i := 1) rfl
  have r2 := X1.cell (i := 2) rfl
  have r3 := X1.cell (i := 3) rfl
  have r4 := X1.cell (i := 4) rfl
  exact bodyPost_ret (v := .agg #[.int .i64 0, .int .i64 0, .int .i64 0, .int .i64 0, .slice none 0 0]) (by simp [results, Try.results22, go_sem, r0, r1, r2, r3, r4]) rfl ⟨rfl, ((((BB.setCell (show w.heap.size ≤ w.heap.size + 1 + 1 by omega) _).setCell (show w.heap.size ≤ w.heap.size + 1 + 1 by omega) _).setCell (show w.heap.size ≤ w.heap.size + 1 + 1 by omega) _).setCell (show w.heap.size ≤ w.heap.size + 1 + 1 by omega) _).setCell (show w.heap.size ≤ w.heap.size + 1 + 1 by omega) _⟩

set_option maxRecDepth 100000 in
set_option maxHeartbeats 4000000 in
theorem transform_yes (x y ww hh mn mx : Int) (X Y Z V : Int) (A : Option Addr) (n c : Nat) (l : List Int) (h : vvalid x y ww hh mn mx = true) (w : World) (R : Rd w w.heap.size .i64 A n l) (hn : n * 8 ≤ 140737488351232) : Calls Try.prog 22 #[.agg #[.int .i64 x, .int .i64 y, .int .i64 ww, .int .i64 hh, .int .i64 mn, .int .i64 mx], .agg #[.int .i64 X, .int .i64 Y, .int .i64 Z, .int .i64 V, .slice A n c]] w fun e w' => ∃ A9 c9, e = .returned (.agg #[.int .i64 (coord x ww X V), .int .i64 (coord y hh (-sat Y) V), .int .i64 (depthv mn mx Z V), .int .i64 (ovw 65536 V), .slice A9 n c9]) ∧ Rd w' w'.heap.size .i64 A9 n (l.map sat) ∧ Below w.heap.size w w' := by
  have BB := box_below w #[.int .i64 x, .int .i64 y, .int .i64 ww, .int .i64 hh, .int .i64 mn, .int .i64 mx] 23
  have X0 := EBox.made w #[.int .i64 x, .int .i64 y, .int .i64 ww, .int .i64 hh, .int .i64 mn, .int .i64 mx] 23
  have hsz1 : (w.alloc (.cells #[.int .i64 x, .int .i64 y, .int .i64 ww, .int .i64 hh, .int .i64 mn, .int .i64 mx] 23)).heap.size = w.heap.size + 1 := by simp
  have X1 := EBox.made (w.alloc (.cells #[.int .i64 x, .int .i64 y, .int .i64 ww, .int .i64 hh, .int .i64 mn, .int .i64 mx] 23)) #[.int .i64 X, .int .i64 Y, .int .i64 Z, .int .i64 V, .slice A n c] 37
  rw [hsz1] at X1
  replace X0 := X0.on (Nat.succ_pos _) (box_below (w.alloc (.cells #[.int .i64 x, .int .i64 y, .int .i64 ww, .int .i64 hh, .int .i64 mn, .int .i64 mx] 23)) #[.int .i64 X, .int .i64 Y, .int .i64 Z, .int .i64 V, .slice A n c] 37)
  replace BB := bon BB (box_below (w.alloc (.cells #[.int .i64 x, .int .i64 y, .int .i64 ww, .int .i64 hh, .int .i64 mn, .int .i64 mx] 23)) #[.int .i64 X, .int .i64 Y, .int .i64 Z, .int .i64 V, .slice A n c] 37)
  clear hsz1
  have hsz2 : ((w.alloc (.cells #[.int .i64 x, .int .i64 y, .int .i64 ww, .int .i64 hh, .int .i64 mn, .int .i64 mx] 23)).alloc (.cells #[.int .i64 X, .int .i64 Y, .int .i64 Z, .int .i64 V, .slice A n c] 37)).heap.size = w.heap.size + 2 := by simp
  have X2 := EBox.made ((w.alloc (.cells #[.int .i64 x, .int .i64 y, .int .i64 ww, .int .i64 hh, .int .i64 mn, .int .i64 mx] 23)).alloc (.cells #[.int .i64 X, .int .i64 Y, .int .i64 Z, .int .i64 V, .slice A n c] 37)) #[.int .i64 0, .int .i64 0, .int .i64 0, .int .i64 0, .slice none 0 0] 29
  rw [hsz2] at X2
  replace X0 := X0.on (Nat.succ_pos _) (box_below ((w.alloc (.cells #[.int .i64 x, .int .i64 y, .int .i64 ww, .int .i64 hh, .int .i64 mn, .int .i64 mx] 23)).alloc (.cells #[.int .i64 X, .int .i64 Y, .int .i64 Z, .int .i64 V, .slice A n c] 37)) #[.int .i64 0, .int .i64 0, .int .i64 0, .int .i64 0, .slice none 0 0] 29)
  replace X1 := X1.on (Nat.succ_pos _) (box_below ((w.alloc (.cells #[.int .i64 x, .int .i64 y, .int .i64 ww, .int .i64 hh, .int .i64 mn, .int .i64 mx] 23)).alloc (.cells #[.int .i64 X, .int .i64 Y, .int .i64 Z, .int .i64 V, .slice A n c] 37)) #[.int .i64 0, .int .i64 0, .int .i64 0, .int .i64 0, .slice none 0 0] 29)
  replace BB := bon BB (box_below ((w.alloc (.cells #[.int .i64 x, .int .i64 y, .int .i64 ww, .int .i64 hh, .int .i64 mn, .int .i64 mx] 23)).alloc (.cells #[.int .i64 X, .int .i64 Y, .int .i64 Z, .int .i64 V, .slice A n c] 37)) #[.int .i64 0, .int .i64 0, .int .i64 0, .int .i64 0, .slice none 0 0] 29)
  clear hsz2
  have c0 := X0.cell (i := 0) rfl
  have c1 := X0.cell (i := 1) rfl
  have c2 := X0.cell (i := 2) rfl
  have c3 := X0.cell (i := 3) rfl
  have c4 := X0.cell (i := 4) rfl
  have c5 := X0.cell (i := 5) rfl
  have Evp := range_cut X0.1 0 6
  simp only [List.drop_succ_cons, List.drop_zero, List.take_succ_cons, List.take_zero, Nat.zero_add] at Evp
  have p0 := X1.cell (i := 0) rfl
  have p1 := X1.cell (i := 1) rfl
  have p2 := X1.cell (i := 2) rfl
  have p3 := X1.cell (i := 3) rfl
  have p4 := X1.cell (i := 4) rfl
  have Ev4 := range_cut X1.1 0 4
  simp only [List.drop_succ_cons, List.drop_zero, List.take_succ_cons, List.take_zero, Nat.zero_add] at Ev4
  clear X0 X1
  have XR := X2
  clear X2
  have CV := Lib.hid (fun W => vvalid_b x y ww hh mn mx W)
  rw [h] at CV
  obtain ⟨⟨v1, v2, v3, v4⟩, ⟨v5, v6, v7, v8⟩, v9, v10, v11⟩ := vvalid_yes h
  have HD := Lib.hid (fun W => depth_b x y ww hh mn mx (by omega) (by omega) Z V W)
  obtain ⟨y1, y2⟩ := sat_bd Y
  have KR := Lib.hid R
  have HL := Lib.hid R.1
  clear h R v1 v2 v3 v4 v5 v6 v7 v8 v9 v10 v11
  go_enter Try.func22, Try.ntmps22
  go_wp2_with (first
    | ((with_reducible refine eload6L rk_vp Evp ?_ ?_); focus rfl)
    | (go_at_call 11; refine (CV.out _).mono ?_; rintro _ W1 ⟨rfl, B⟩; (replace BB := bon BB B; replace c0 := cell_below B c0; replace c1 := cell_below B c1; replace c2 := cell_below B c2; replace c3 := cell_below B c3; replace c4 := cell_below B c4; replace c5 := cell_below B c5; replace p0 := cell_below B p0; replace p1 := cell_below B p1; replace p2 := cell_below B p2; replace p3 := cell_below B p3; replace p4 := cell_below B p4; replace Evp := rangeAt_on Evp B; replace Ev4 := rangeAt_on Ev4 B); replace XR := XR.on (Nat.succ_pos _) B; clear B)
    | (refine wpList_makeV _ rfl _ _ _ rfl Try.underlying27 iI rfl .i64 .i64 n rfl rfl (by omega) (by simp only [maxLen]; omega) W1.heap.size (Nat.le_refl _) ?_; intro b W2 own1 B1 hb; have own2 := Lib.hid own1; have BM := Lib.hid B1; have HB := Lib.hid hb; replace p4 := cell_below B1 p4; clear own1 B1 hb))
  have W1s := Lib.hid (XR.lt (Nat.succ_pos _))
  go_loopw [20] (fun i wr => ∃ k : Nat, k ≤ n ∧ i = .int .i64 k ∧ Below W1.heap.size W1 wr ∧ OwnV wr W1.heap.size 3 b n n (((l.take k).map sat).map (Value.int .i64) ++ List.replicate (n - k) (.int .i64 0))) (fun i _ => n - (intOf i).toNat)
  case atStart => exact ⟨0, Nat.zero_le _, rfl, BM.out, by simpa using own2.out⟩
  case round =>
    obtain ⟨k, hk, rfl, B1, own⟩ := hrel
    rename World => wr
    have KW := Lib.hid (KR.out.below (bon BB B1))
    by_cases hlt : k < n
    · obtain ⟨b3, o3, v, rfl, c3, v0, v1, hx⟩ := KW.out.int hlt
      have hlk : ((l.take k).map sat).length = k := by rw [List.length_map, List.length_take, HL.out]; omega
      obtain ⟨m, hm⟩ : ∃ m, n - k = m + 1 := ⟨n - k - 1, by omega⟩
      rw [hm] at own
      have hz : (((l.take k).map sat).map (Value.int .i64) ++ List.replicate (m + 1) (.int .i64 0))[k]? = some (.int .i64 0) := by
        rw [List.getElem?_append_right (by simp only [List.length_map] at hlk ⊢; omega), List.length_map, hlk, Nat.sub_self]
        rfl
      have HZ := Lib.hid hz
      have OW := Lib.hid own
      have HLK := Lib.hid hlk
      have HX := Lib.hid hx
      have HM := Lib.hid hm
      clear hz own hlk hx hm KW
      go_wp2_with (go_at_call 42; refine (saturate_b v _).mono ?_; rintro _ W5 ⟨rfl, B⟩; have B5 := Lib.hid (bon B1 B); have own5 := OW.out.on B; have O5 := Lib.hid own5; have c1 := own5.cell HZ.out; have f1 := own5.frozen (j := k); clear B own5 c3 B1)
      have own2 := (O5.out.set (j := k) (.int .i64 (sat v))).1
      have B2 := (O5.out.set (j := k) (.int .i64 (sat v))).2
      rw [fill_set _ _ _ _ _ (by rw [List.length_map]; exact HLK.out)] at own2
      have OWN2 : Hid (OwnV (W5.setCell ⟨b, k, none⟩ (.int .i64 (sat v))) W1.heap.size 3 b n n (((l.take (k + 1)).map sat).map (Value.int .i64) ++ List.replicate (n - (k + 1)) (.int .i64 0))) := Lib.hid (by
        rw [List.take_add_one, HX.out, show n - (k + 1) = m by have := HM.out; omega]
        simpa using own2)
      have B6 := Lib.hid (B5.out.trans B2)
      clear own2 B2
      go_roundw
      case rel => exact ⟨k + 1, by omega, by go_num, B6.out, OWN2.out⟩
      case measure => simp [intOf]; omega
    · obtain rfl : k = n := by omega
      have own3 : OwnV wr W1.heap.size 3 b k k ((l.map sat).map (Value.int .i64)) := by
        have e : l.take k = l := List.take_of_length_le (by rw [HL.out]; omega)
        rw [e, Nat.sub_self] at own
        simpa using own
      have OWI := Lib.hid (own3.ints (fun x hx => by obtain ⟨y, _, rfl⟩ := List.mem_map.1 hx; have := sat_bd y; rw [i64_min, i64_max]; omega))
      have R9 := Lib.hid (OWI.out.rd)
      clear own own3 KW
      replace BB := bon BB B1
      replace c0 := cell_below B1 c0
      replace c1 := cell_below B1 c1
      replace c2 := cell_below B1 c2
      replace c3 := cell_below B1 c3
      replace c4 := cell_below B1 c4
      replace c5 := cell_below B1 c5
      replace p0 := cell_below B1 p0
      replace p1 := cell_below B1 p1
      replace p2 := cell_below B1 p2
      replace p3 := cell_below B1 p3
      replace Evp := rangeAt_on Evp B1
      replace Ev4 := rangeAt_on Ev4 B1
      replace XR := XR.on (Nat.succ_pos _) B1
      have a0 := box_below wr #[.int .i64 X, .int .i64 Y, .int .i64 Z, .int .i64 V] 35
      replace c0 := cell_below a0 c0
      replace c1 := cell_below a0 c1
      replace c2 := cell_below a0 c2
      replace c3 := cell_below a0 c3
      replace c4 := cell_below a0 c4
      replace c5 := cell_below a0 c5
      replace Evp := rangeAt_on Evp a0
      replace XR := XR.on (Nat.succ_pos _) a0
      have q0 := box_cell wr #[.int .i64 X, .int .i64 Y, .int .i64 Z, .int .i64 V] 35 0 _ rfl
      have q1 := box_cell wr #[.int .i64 X, .int .i64 Y, .int .i64 Z, .int .i64 V] 35 1 _ rfl
      have q2 := box_cell wr #[.int .i64 X, .int .i64 Y, .int .i64 Z, .int .i64 V] 35 2 _ rfl
      have q3 := box_cell wr #[.int .i64 X, .int .i64 Y, .int .i64 Z, .int .i64 V] 35 3 _ rfl
      have R10 := Lib.hid (R9.out.on a0)
      replace BB := bon BB a0
      clear a0 p0 p1 p2 p3 B1
      go_wp2_with ((with_reducible refine eload4L rk_v4 Ev4 ?_ ?_); focus rfl)
      clear Ev4
      have k_c0 := cell_regrown c0
      have k_c1 := cell_regrown c1
      have k_c2 := cell_regrown c2
      have k_c3 := cell_regrown c3
      have k_c4 := cell_regrown c4
      have k_c5 := cell_regrown c5
      have k_q0 := cell_regrown q0
      have k_q1 := cell_regrown q1
      have k_q2 := cell_regrown q2
      have k_q3 := cell_regrown q3
      refine wp_region_tail (n := 31) (by kernel_rfl) (by kernel_rfl) ?_
      simp only [List.take_succ_cons, List.take_zero, List.drop_succ_cons, List.drop_zero]
      repeat (first | (go_big_quiet_want; refine quiet_eload _ _ rfl rk_vp rfl (fun W hW => rangeAt_on Evp (below_regrown' hW)) rfl ?_; go_simp; go_big_quiet_on) | go_big_quiet_step ((first | (go_at_call 18; exact Calls.regrown_of (coord_b _ _ _ _ _)) | (go_at_call 42; exact Calls.regrown_of (saturate_b _ _)) | (go_at_call 20; exact Calls.regrown_of (HD.out _)) | (go_at_call 31; exact Calls.regrown_of (ovw_b _ _ _)))) | quiet_step ((first | (go_at_call 18; exact Calls.regrown_of (coord_b _ _ _ _ _)) | (go_at_call 42; exact Calls.regrown_of (saturate_b _ _)) | (go_at_call 20; exact Calls.regrown_of (HD.out _)) | (go_at_call 31; exact Calls.regrown_of (ovw_b _ _ _)))))
      refine wpQuiet_nil ?_
      intro W hw'
      have B := below_regrown' hw'
      clear hw' k_c0 k_c1 k_c2 k_c3 k_c4 k_c5 k_q0 k_q1 k_q2 k_q3
      replace BB := bon BB B
      replace c0 := cell_below B c0
      replace c1 := cell_below B c1
      replace c2 := cell_below B c2
      replace c3 := cell_below B c3
      replace c4 := cell_below B c4
      replace c5 := cell_below B c5
      replace q0 := cell_below B q0
      replace q1 := cell_below B q1
      replace q2 := cell_below B q2
      replace q3 := cell_below B q3
      replace Evp := rangeAt_on Evp B
      replace XR := XR.on (Nat.succ_pos _) B
      have R11 := Lib.hid (R10.out.on B)
      refine esetL (vs := [.int .i64 (coord x ww X V), .int .i64 (coord y hh (-sat Y) V), .int .i64 (depthv mn mx Z V), .int .i64 (ovw 65536 V), .slice (some ⟨b, 0, none⟩) k k]) rk_sv rfl rfl XR rfl rfl (by simp [Value.oneCell']) ?_
      intro V1 X1 B1 hc hf
      have HC := Lib.hid hc
      clear hc hf
      go_wp2
      have r0 := X1.cell (i := 0) rfl
      have r1 := X1.cell (i := 1) rfl
      have r2 := X1.cell (i := 2) rfl
      have r3 := X1.cell (i := 3) rfl
      have r4 := X1.cell (i := 4) rfl
      refine bodyPost_ret (v := .agg #[.int .i64 (coord x ww X V), .int .i64 (coord y hh (-sat Y) V), .int .i64 (depthv mn mx Z V), .int .i64 (ovw 65536 V), .slice (some ⟨b, 0, none⟩) k k]) (by simp [results, Try.results22, go_sem, r0, r1, r2, r3, r4]) rfl ⟨_, _, rfl, ⟨R11.out.1, R11.out.2.1, fun hn0 => ?_⟩, BB.trans (B1.mono (by omega))⟩
      obtain ⟨b7, o7, e7, l7, c7⟩ := R11.out.2.2 hn0
      refine ⟨b7, o7, e7, Nat.lt_of_lt_of_le l7 B1.size, fun j u hu => (HC.out _ ?_).trans (c7 j u hu)⟩
      have hbb := HB.out
      have hw1 := W1s.out
      simp only [Option.some.injEq, Addr.mk.injEq] at e7
      simp only
      omega

end Go.Proofs.Ytfpnbgmmgnpggaa
