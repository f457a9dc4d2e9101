/- The walk of ImageCopyRectangle. -/
import Derived.Test.YtpcoihbchinckaaI20
namespace Go.Proofs.Ytpcoihbchinckaa
open Go.RowKit Go.Sort

theorem cpI_no {d s : Im} {dx dy sx sy a b : Int} (h : ¬ Fit d s dx dy sx sy a b) : (cpI d s dx dy sx sy a b).1 = imZ ∧ (cpI d s dx dy sx sy a b).2 ≠ 0 := by
  unfold cpI
  split
  · exact ⟨rfl, by simp⟩
  · rename_i h1
    split
    · exact ⟨rfl, by simp⟩
    · rename_i h2
      split
      · exact ⟨rfl, by simp⟩
      · rename_i h3
        split
        · exact ⟨rfl, by simp⟩
        · rename_i h4
          have h1' := Classical.not_not.1 h1
          have h2' := Classical.not_not.1 h2
          have h4' := Classical.not_not.1 h4
          exact absurd ⟨h1'.1, h1'.2, h2'.symm, by omega, by omega, h4'.1, h4'.2.1, h4'.2.2.1, h4'.2.2.2⟩ h

theorem get_of_txl {m k : Im} {x y u v : Int} (hm : m.ins x y) (hk : k.ins u v) (hf : m.f = k.f) (h : m.txl x y = k.txl u v) : m.get x y = k.get u v := by
  funext i
  unfold Im.get
  rw [if_pos hm, if_pos hk, hf, h]

set_option maxRecDepth 100000 in
set_option maxHeartbeats 4000000 in
theorem copyRectangle_walk (f wd ht f2 wd2 ht2 : Int) (A A2 : Option Addr) (n c n2 c2 : Nat) (l l2 : List Int) (dx dy sx sy a b : Int) (w : World) (R : Rd w w.heap.size .u8 A n l) (R2 : Rd w w.heap.size .u8 A2 n2 l2) (hc : n ≤ c) (hc2 : n2 ≤ c2) (_hn : n ≤ 140737488351232) (_hn2 : n2 ≤ 140737488351232) (rng : ((-9223372036854775808 ≤ dx ∧ dx ≤ 9223372036854775807) ∧ (-9223372036854775808 ≤ dy ∧ dy ≤ 9223372036854775807) ∧ (-9223372036854775808 ≤ sx ∧ sx ≤ 9223372036854775807) ∧ (-9223372036854775808 ≤ sy ∧ sy ≤ 9223372036854775807) ∧ (-9223372036854775808 ≤ a ∧ a ≤ 9223372036854775807) ∧ (-9223372036854775808 ≤ b ∧ b ≤ 9223372036854775807))) :
    Calls Try.prog 7 #[.agg #[.int .i64 f, .int .i64 wd, .int .i64 ht, .slice A n c], .agg #[.int .i64 f2, .int .i64 wd2, .int .i64 ht2, .slice A2 n2 c2], .agg #[.int .i64 dx, .int .i64 dy, .int .i64 sx, .int .i64 sy, .int .i64 a, .int .i64 b]] w fun e w' => e = .returned (.bool true) ∧ Below w.heap.size w w' := by
  have z1 : (w.alloc (.cells #[.int .i64 f, .int .i64 wd, .int .i64 ht, .slice A n c] 25)).heap.size = w.heap.size + 1 := by simp
  have z2 : ((w.alloc (.cells #[.int .i64 f, .int .i64 wd, .int .i64 ht, .slice A n c] 25)).alloc (.cells #[.int .i64 f2, .int .i64 wd2, .int .i64 ht2, .slice A2 n2 c2] 25)).heap.size = w.heap.size + 2 := by simp
  have b0 := box_below w #[.int .i64 f, .int .i64 wd, .int .i64 ht, .slice A n c] 25
  have b1 := box_below (w.alloc (.cells #[.int .i64 f, .int .i64 wd, .int .i64 ht, .slice A n c] 25)) #[.int .i64 f2, .int .i64 wd2, .int .i64 ht2, .slice A2 n2 c2] 25
  have b2 := box_below ((w.alloc (.cells #[.int .i64 f, .int .i64 wd, .int .i64 ht, .slice A n c] 25)).alloc (.cells #[.int .i64 f2, .int .i64 wd2, .int .i64 ht2, .slice A2 n2 c2] 25)) #[.int .i64 dx, .int .i64 dy, .int .i64 sx, .int .i64 sy, .int .i64 a, .int .i64 b] 38
  have D0 := (((IBox.made w f wd ht A n c 25).on b1).on b2).1
  have D1 := ((IBox.made (w.alloc (.cells #[.int .i64 f, .int .i64 wd, .int .i64 ht, .slice A n c] 25)) f2 wd2 ht2 A2 n2 c2 25).on b2).1
  rw [z1] at D1
  have r0 : (((w.alloc (.cells #[.int .i64 f, .int .i64 wd, .int .i64 ht, .slice A n c] 25)).alloc (.cells #[.int .i64 f2, .int .i64 wd2, .int .i64 ht2, .slice A2 n2 c2] 25)).alloc (.cells #[.int .i64 dx, .int .i64 dy, .int .i64 sx, .int .i64 sy, .int .i64 a, .int .i64 b] 38)).cell? ⟨w.heap.size + 2, 0, none⟩ = some (.int .i64 dx) := by rw [← z2]; exact box_cell _ _ _ 0 _ rfl
  have r1 : (((w.alloc (.cells #[.int .i64 f, .int .i64 wd, .int .i64 ht, .slice A n c] 25)).alloc (.cells #[.int .i64 f2, .int .i64 wd2, .int .i64 ht2, .slice A2 n2 c2] 25)).alloc (.cells #[.int .i64 dx, .int .i64 dy, .int .i64 sx, .int .i64 sy, .int .i64 a, .int .i64 b] 38)).cell? ⟨w.heap.size + 2, 1, none⟩ = some (.int .i64 dy) := by rw [← z2]; exact box_cell _ _ _ 1 _ rfl
  have r2 : (((w.alloc (.cells #[.int .i64 f, .int .i64 wd, .int .i64 ht, .slice A n c] 25)).alloc (.cells #[.int .i64 f2, .int .i64 wd2, .int .i64 ht2, .slice A2 n2 c2] 25)).alloc (.cells #[.int .i64 dx, .int .i64 dy, .int .i64 sx, .int .i64 sy, .int .i64 a, .int .i64 b] 38)).cell? ⟨w.heap.size + 2, 2, none⟩ = some (.int .i64 sx) := by rw [← z2]; exact box_cell _ _ _ 2 _ rfl
  have r3 : (((w.alloc (.cells #[.int .i64 f, .int .i64 wd, .int .i64 ht, .slice A n c] 25)).alloc (.cells #[.int .i64 f2, .int .i64 wd2, .int .i64 ht2, .slice A2 n2 c2] 25)).alloc (.cells #[.int .i64 dx, .int .i64 dy, .int .i64 sx, .int .i64 sy, .int .i64 a, .int .i64 b] 38)).cell? ⟨w.heap.size + 2, 3, none⟩ = some (.int .i64 sy) := by rw [← z2]; exact box_cell _ _ _ 3 _ rfl
  have r4 : (((w.alloc (.cells #[.int .i64 f, .int .i64 wd, .int .i64 ht, .slice A n c] 25)).alloc (.cells #[.int .i64 f2, .int .i64 wd2, .int .i64 ht2, .slice A2 n2 c2] 25)).alloc (.cells #[.int .i64 dx, .int .i64 dy, .int .i64 sx, .int .i64 sy, .int .i64 a, .int .i64 b] 38)).cell? ⟨w.heap.size + 2, 4, none⟩ = some (.int .i64 a) := by rw [← z2]; exact box_cell _ _ _ 4 _ rfl
  have r5 : (((w.alloc (.cells #[.int .i64 f, .int .i64 wd, .int .i64 ht, .slice A n c] 25)).alloc (.cells #[.int .i64 f2, .int .i64 wd2, .int .i64 ht2, .slice A2 n2 c2] 25)).alloc (.cells #[.int .i64 dx, .int .i64 dy, .int .i64 sx, .int .i64 sy, .int .i64 a, .int .i64 b] 38)).cell? ⟨w.heap.size + 2, 5, none⟩ = some (.int .i64 b) := by rw [← z2]; exact box_cell _ _ _ 5 _ rfl
  have BB := bon (bon b0 b1) b2
  have K1 : Rd (((w.alloc (.cells #[.int .i64 f, .int .i64 wd, .int .i64 ht, .slice A n c] 25)).alloc (.cells #[.int .i64 f2, .int .i64 wd2, .int .i64 ht2, .slice A2 n2 c2] 25)).alloc (.cells #[.int .i64 dx, .int .i64 dy, .int .i64 sx, .int .i64 sy, .int .i64 a, .int .i64 b] 38)) (((w.alloc (.cells #[.int .i64 f, .int .i64 wd, .int .i64 ht, .slice A n c] 25)).alloc (.cells #[.int .i64 f2, .int .i64 wd2, .int .i64 ht2, .slice A2 n2 c2] 25)).alloc (.cells #[.int .i64 dx, .int .i64 dy, .int .i64 sx, .int .i64 sy, .int .i64 a, .int .i64 b] 38)).heap.size .u8 A n l := R.on BB
  have K2 : Rd (((w.alloc (.cells #[.int .i64 f, .int .i64 wd, .int .i64 ht, .slice A n c] 25)).alloc (.cells #[.int .i64 f2, .int .i64 wd2, .int .i64 ht2, .slice A2 n2 c2] 25)).alloc (.cells #[.int .i64 dx, .int .i64 dy, .int .i64 sx, .int .i64 sy, .int .i64 a, .int .i64 b] 38)) (((w.alloc (.cells #[.int .i64 f, .int .i64 wd, .int .i64 ht, .slice A n c] 25)).alloc (.cells #[.int .i64 f2, .int .i64 wd2, .int .i64 ht2, .slice A2 n2 c2] 25)).alloc (.cells #[.int .i64 dx, .int .i64 dy, .int .i64 sx, .int .i64 sy, .int .i64 a, .int .i64 b] 38)).heap.size .u8 A2 n2 l2 := R2.on BB
  clear b0 b1 b2 z1 z2
  have cc := fun W R R2 => pcopy_b f wd ht f2 wd2 ht2 A A2 n c n2 c2 l l2 dx dy sx sy a b W R R2 hc2 rng
  unfold GivesIE at cc
  rcases Classical.em (Fit ⟨f, wd, ht, l⟩ ⟨f2, wd2, ht2, l2⟩ dx dy sx sy a b) with F | hno
  · obtain rfl : f2 = f := F.ff
    obtain ⟨Mb, rfl⟩ : ∃ M : Nat, b = M := ⟨b.toNat, by have := F.ht0; omega⟩
    rw [cpI_ok F, Int.toNat_natCast] at cc
    have T := To.rows F Mb (Int.le_refl _)
    have he : Im.rows ⟨f2, wd, ht, l⟩ ⟨f2, wd2, ht2, l2⟩ dx dy sx sy a Mb = ⟨f2, wd, ht, (Im.rows ⟨f2, wd, ht, l⟩ ⟨f2, wd2, ht2, l2⟩ dx dy sx sy a Mb).l⟩ := by
      have e1 := T.f
      have e2 := T.w
      have e3 := T.h
      cases hr : Im.rows ⟨f2, wd, ht, l⟩ ⟨f2, wd2, ht2, l2⟩ dx dy sx sy a Mb
      rw [hr] at e1 e2 e3
      simp only at e1 e2 e3
      subst e1 e2 e3
      rfl
    obtain ⟨S, hS⟩ : ∃ S, (Im.rows ⟨f2, wd, ht, l⟩ ⟨f2, wd2, ht2, l2⟩ dx dy sx sy a Mb).l = S := ⟨_, rfl⟩
    rw [hS] at he
    rw [he] at cc T
    simp only at cc
    have cv7 := fun A n c W hl => pvalid_b f2 wd ht A n c S W hl
    rw [decide_eq_true T.ok] at cv7
    have cv2 := fun W => pvalid_b f2 wd2 ht2 A2 n2 c2 l2 W R2.len
    rw [decide_eq_true F.sok] at cv2
    have cgd := fun u v W R => pget_b f2 wd ht A n c l u v W R hc
    have cgs := fun u v W R => pget_b f2 wd2 ht2 A2 n2 c2 l2 u v W R hc2
    have cgt := fun A n c u v W R hc => pget_b f2 wd ht A n c S u v W R hc
    unfold GivesV at cgd cgs cgt
    have hwh : (1 ≤ wd ∧ wd ≤ 64) ∧ (1 ≤ ht ∧ ht ≤ 64) := ⟨F.dok.2.1, F.dok.2.2.1⟩
    have bnd : (0 ≤ dx ∧ dx + a ≤ wd) ∧ (0 ≤ dy ∧ dy + Mb ≤ ht) ∧ (0 ≤ sx ∧ sx + a ≤ wd2) ∧ (0 ≤ sy ∧ sy + Mb ≤ ht2) ∧ 0 ≤ a ∧ wd2 ≤ 64 ∧ ht2 ≤ 64 := ⟨F.hx, F.hy, F.kx, F.ky, F.wd0, F.sok.2.1.2, F.sok.2.2.1.2⟩
    have CC := Lib.hid cc
    have CV7 := Lib.hid cv7
    have CV2 := Lib.hid cv2
    have CGD := Lib.hid cgd
    have CGSS := Lib.hid cgs
    have CGTT := Lib.hid cgt
    have TT := Lib.hid T
    have FF := Lib.hid F
    have BND := Lib.hid bnd
    clear cc cv7 cv2 cgd cgs cgt T he hS F R R2 bnd rng
    obtain ⟨⟨wd1, wd2'⟩, ⟨ht1, ht2'⟩⟩ := hwh
    go_enter Try.func7, Try.ntmps7
    go_wp2_with (first
      | (refine wpList_iload rfl _ _ rfl imgT D0 rfl ?_)
      | (refine wpList_iload rfl _ _ rfl imgT D1 rfl ?_)
      | (refine wpList_iload rfl _ _ rfl imgT D7 rfl ?_)
      | (go_at_call 21; (with_reducible refine (CC.out _ K1 K2).mono ?_); rintro _ W7 ⟨A7, n7, c7, rfl, hc7, K7, B⟩; replace D0 := IAt.on D0 B; replace D1 := IAt.on D1 B; replace K1 := K1.on B; replace K2 := K2.on B; replace r0 := cell_below B r0; replace r1 := cell_below B r1; replace r2 := cell_below B r2; replace r3 := cell_below B r3; replace r4 := cell_below B r4; replace r5 := cell_below B r5; replace BB := bon BB B; clear B; have hl7 := K7.len; have bx := box_below W7 #[.int .i64 f2, .int .i64 wd, .int .i64 ht, .slice A7 n7 c7] 25; have D7 := (IBox.made W7 f2 wd ht A7 n7 c7 25).1; have hw7 := block_lt_of_cell r0; have hgt : W7.heap.size < (W7.alloc (.cells #[.int .i64 f2, .int .i64 wd, .int .i64 ht, .slice A7 n7 c7] 25)).heap.size := (by simp); replace D0 := IAt.on D0 bx; replace D1 := IAt.on D1 bx; replace K1 := K1.on bx; replace K2 := K2.on bx; replace K7 := K7.on bx; replace r0 := cell_below bx r0; replace r1 := cell_below bx r1; replace r2 := cell_below bx r2; replace r3 := cell_below bx r3; replace r4 := cell_below bx r4; replace r5 := cell_below bx r5; replace BB := bon BB bx; clear bx; have i0 := D0.1; have i1 := D0.2.1; have i2 := D0.2.2.1; have j0 := D1.1; have j1 := D1.2.1; have j2 := D1.2.2.1; have j3 := D1.2.2.2; have k0 := D7.1; have k1 := D7.2.1; have k2 := D7.2.2.1; have k3 := D7.2.2.2)
      | (go_at_call 11; (with_reducible refine (CV7.out _ _ _ _ hl7).mono ?_); rintro _ _ ⟨rfl, B⟩; replace D0 := IAt.on D0 B; replace D1 := IAt.on D1 B; replace D7 := IAt.on D7 B; replace K1 := K1.on B; replace K2 := K2.on B; replace K7 := K7.on B; replace r0 := cell_below B r0; replace r1 := cell_below B r1; replace r2 := cell_below B r2; replace r3 := cell_below B r3; replace r4 := cell_below B r4; replace r5 := cell_below B r5; replace BB := bon BB B; replace hgt := Nat.lt_of_lt_of_le hgt B.size; clear B i0 i1 i2 j0 j1 j2 j3 k0 k1 k2 k3; have i0 := D0.1; have i1 := D0.2.1; have i2 := D0.2.2.1; have j0 := D1.1; have j1 := D1.2.1; have j2 := D1.2.2.1; have j3 := D1.2.2.2; have k0 := D7.1; have k1 := D7.2.1; have k2 := D7.2.2.1; have k3 := D7.2.2.2)
      | (go_at_call 11; (with_reducible refine (CV2.out _).mono ?_); rintro _ _ ⟨rfl, B⟩; replace D0 := IAt.on D0 B; replace D1 := IAt.on D1 B; replace D7 := IAt.on D7 B; replace K1 := K1.on B; replace K2 := K2.on B; replace K7 := K7.on B; replace r0 := cell_below B r0; replace r1 := cell_below B r1; replace r2 := cell_below B r2; replace r3 := cell_below B r3; replace r4 := cell_below B r4; replace r5 := cell_below B r5; replace BB := bon BB B; replace hgt := Nat.lt_of_lt_of_le hgt B.size; clear B i0 i1 i2 j0 j1 j2 j3 k0 k1 k2 k3; have i0 := D0.1; have i1 := D0.2.1; have i2 := D0.2.2.1; have j0 := D1.1; have j1 := D1.2.1; have j2 := D1.2.2.1; have j3 := D1.2.2.2; have k0 := D7.1; have k1 := D7.2.1; have k2 := D7.2.2.1; have k3 := D7.2.2.2))
    obtain ⟨H, rfl⟩ : ∃ H : Nat, ht = H := ⟨ht.toNat, by omega⟩
    obtain ⟨N, rfl⟩ : ∃ N : Nat, wd = N := ⟨wd.toNat, by omega⟩
    clear i0 i1 i2 j0 j1 j2 j3 k0 k1 k2 k3
    go_loopw [9] (fun t wr => ∃ v : Nat, v ≤ H ∧ t = .int .i64 (v : Int) ∧ IAt wr w.heap.size f2 N H A n c ∧ IAt wr (w.heap.size + 1) f2 wd2 ht2 A2 n2 c2 ∧ IAt wr W7.heap.size f2 N H A7 n7 c7 ∧ Rd wr wr.heap.size .u8 A n l ∧ Rd wr wr.heap.size .u8 A2 n2 l2 ∧ Rd wr wr.heap.size .u8 A7 n7 S ∧ Below w.heap.size w wr ∧ W7.heap.size < wr.heap.size ∧ wr.cell? ⟨w.heap.size + 2, 0, none⟩ = some (.int .i64 dx) ∧ wr.cell? ⟨w.heap.size + 2, 1, none⟩ = some (.int .i64 dy) ∧ wr.cell? ⟨w.heap.size + 2, 2, none⟩ = some (.int .i64 sx) ∧ wr.cell? ⟨w.heap.size + 2, 3, none⟩ = some (.int .i64 sy) ∧ wr.cell? ⟨w.heap.size + 2, 4, none⟩ = some (.int .i64 a) ∧ wr.cell? ⟨w.heap.size + 2, 5, none⟩ = some (.int .i64 (Mb : Int))) (fun t _ => H - (intOf t).toNat)
    case atStart => exact ⟨0, by omega, rfl, D0, D1, D7, K1, K2, K7, BB, hgt, r0, r1, r2, r3, r4, r5⟩
    case round =>
      clear D0 D1 D7 K1 K2 K7 BB hgt r0 r1 r2 r3 r4 r5
      obtain ⟨v, hv, rfl, D0, D1, D7, K1, K2, K7, BB, hgt, r0, r1, r2, r3, r4, r5⟩ := hrel
      have i2 := D7.2.2.1
      by_cases hvH : v < H
      · go_wp2
        clear i2
        go_loopw [10] (fun t wr => ∃ u : Nat, u ≤ N ∧ t = .int .i64 (u : Int) ∧ IAt wr w.heap.size f2 N H A n c ∧ IAt wr (w.heap.size + 1) f2 wd2 ht2 A2 n2 c2 ∧ IAt wr W7.heap.size f2 N H A7 n7 c7 ∧ Rd wr wr.heap.size .u8 A n l ∧ Rd wr wr.heap.size .u8 A2 n2 l2 ∧ Rd wr wr.heap.size .u8 A7 n7 S ∧ Below w.heap.size w wr ∧ W7.heap.size < wr.heap.size ∧ wr.cell? ⟨w.heap.size + 2, 0, none⟩ = some (.int .i64 dx) ∧ wr.cell? ⟨w.heap.size + 2, 1, none⟩ = some (.int .i64 dy) ∧ wr.cell? ⟨w.heap.size + 2, 2, none⟩ = some (.int .i64 sx) ∧ wr.cell? ⟨w.heap.size + 2, 3, none⟩ = some (.int .i64 sy) ∧ wr.cell? ⟨w.heap.size + 2, 4, none⟩ = some (.int .i64 a) ∧ wr.cell? ⟨w.heap.size + 2, 5, none⟩ = some (.int .i64 (Mb : Int))) (fun t _ => N - (intOf t).toNat)
        case atStart => exact ⟨0, by omega, rfl, D0, D1, D7, K1, K2, K7, BB, hgt, r0, r1, r2, r3, r4, r5⟩
        case round =>
          clear D0 D1 D7 K1 K2 K7 BB hgt r0 r1 r2 r3 r4 r5
          obtain ⟨u, hu, rfl, D0, D1, D7, K1, K2, K7, BB, hgt, r0, r1, r2, r3, r4, r5⟩ := hrel
          by_cases huN : u < N
          · have i1 := D7.2.1
            have hin : (Im.mk f2 N H l).ins u v := ⟨FF.out.dok, ⟨by omega, by simp only; omega⟩, ⟨by omega, by simp only; omega⟩⟩
            have hint : (Im.mk f2 N H S).ins u v := ⟨TT.out.ok, hin.2⟩
            obtain ⟨g, hg⟩ : ∃ g, (Im.mk f2 N H l).get u v = g := ⟨_, rfl⟩
            have cg := fun W R => CGD.out u v W R
            have cgt := fun W R => CGTT.out A7 n7 c7 u v W R hc7
            rw [hg] at cg
            have CGU := Lib.hid cg
            have bnd := BND.out
            have P0 := Lib.hid (show IntKind.i64.wrap ((u : Int) - dx) = (u : Int) - dx from IntWalk.i64_in _ (by omega))
            have Q0 := Lib.hid (show IntKind.i64.wrap ((v : Int) - dy) = (v : Int) - dy from IntWalk.i64_in _ (by omega))
            obtain ⟨P, hP⟩ : ∃ P, (u : Int) - dx = P := ⟨_, rfl⟩
            obtain ⟨Q, hQ⟩ : ∃ Q, (v : Int) - dy = Q := ⟨_, rfl⟩
            have P1H := Lib.hid (show IntKind.i64.wrap ((u : Int) - dx) = P by rw [P0.out, hP])
            have Q1H := Lib.hid (show IntKind.i64.wrap ((v : Int) - dy) = Q by rw [Q0.out, hQ])
            clear P0 Q0 cg
            by_cases hr : (dx ≤ (u : Int) ∧ (u : Int) < dx + a) ∧ (dy ≤ (v : Int) ∧ (v : Int) < dy + Mb)
            · have hs : (Im.mk f2 wd2 ht2 l2).ins (sx + (u - dx)) (sy + (v - dy)) := ⟨FF.out.sok, ⟨by omega, by simp only; omega⟩, ⟨by omega, by simp only; omega⟩⟩
              have es := get_of_txl (m := Im.mk f2 N H S) hint hs rfl (TT.out.yes u v hin hr)
              rw [es] at cgt
              obtain ⟨X1, hX1⟩ : ∃ X, sx + P = X := ⟨_, rfl⟩
              obtain ⟨Y1, hY1⟩ : ∃ X, sy + Q = X := ⟨_, rfl⟩
              have g1H := Lib.hid (show IntKind.i64.wrap (sx + P) = X1 by rw [hX1]; exact IntWalk.i64_in _ (by omega))
              have g2H := Lib.hid (show IntKind.i64.wrap (sy + Q) = Y1 by rw [hY1]; exact IntWalk.i64_in _ (by omega))
              have cgs := fun W R => CGSS.out X1 Y1 W R
              rw [hP, hQ, hX1, hY1] at cgt
              have CGS := Lib.hid cgs
              have CGT := Lib.hid cgt
              have q1 : dx ≤ (u : Int) := hr.1.1
              have q2 : P < a := by omega
              have q3 : dy ≤ (v : Int) := hr.2.1
              have q4 : Q < (Mb : Int) := by omega
              clear cgt cgs es hs hin hint hg hr hP hQ hX1 hY1 bnd
              have P1 := P1H.out
              have Q1 := Q1H.out
              have g1 := g1H.out
              have g2 := g2H.out
              clear P1H Q1H g1H g2H
              go_wp2_with (first
                | (refine wpList_iload rfl _ _ rfl imgT D0 rfl ?_)
                | (refine wpList_iload rfl _ _ rfl imgT D1 rfl ?_)
                | (go_at_call 15; (with_reducible refine (CGU.out _ K1).mono ?_); rintro _ W3 ⟨rfl, B⟩; replace D0 := IAt.on D0 B; replace D1 := IAt.on D1 B; replace D7 := IAt.on D7 B; replace K1 := K1.on B; replace K2 := K2.on B; replace K7 := K7.on B; replace r0 := cell_below B r0; replace r1 := cell_below B r1; replace r2 := cell_below B r2; replace r3 := cell_below B r3; replace r4 := cell_below B r4; replace r5 := cell_below B r5; replace BB := bon BB B; replace hgt := Nat.lt_of_lt_of_le hgt B.size; have hg3 := hgt; have hs3 := BB.size; have K1B := K1; have K2B := K2; have K7B := K7; clear B; have bx := box_below W3 #[.int .i64 (g 0), .int .i64 (g 1), .int .i64 (g 2), .int .i64 (g 3)] 28; have DW := VBox.made W3 (g 0) (g 1) (g 2) (g 3) 28; replace D0 := IAt.on D0 bx; replace D1 := IAt.on D1 bx; replace D7 := IAt.on D7 bx; replace K1 := K1.on bx; replace K2 := K2.on bx; replace K7 := K7.on bx; replace r0 := cell_below bx r0; replace r1 := cell_below bx r1; replace r2 := cell_below bx r2; replace r3 := cell_below bx r3; replace r4 := cell_below bx r4; replace r5 := cell_below bx r5; replace BB := bon BB bx; replace hgt := Nat.lt_of_lt_of_le hgt bx.size; replace K1B := K1B.below bx; replace K2B := K2B.below bx; replace K7B := K7B.below bx; clear bx)
                | (go_at_call 15; (with_reducible refine (CGS.out _ K2).mono ?_); rintro _ W4 ⟨rfl, B⟩; have hsW := DW.lt; replace D0 := IAt.on D0 B; replace D1 := IAt.on D1 B; replace D7 := IAt.on D7 B; replace K1 := K1.on B; replace K2 := K2.on B; replace K7 := K7.on B; replace r0 := cell_below B r0; replace r1 := cell_below B r1; replace r2 := cell_below B r2; replace r3 := cell_below B r3; replace r4 := cell_below B r4; replace r5 := cell_below B r5; replace BB := bon BB B; replace hgt := Nat.lt_of_lt_of_le hgt B.size; replace DW := DW.on B; replace K1B := K1B.below (B.mono (Nat.le_of_lt hsW)); replace K2B := K2B.below (B.mono (Nat.le_of_lt hsW)); replace K7B := K7B.below (B.mono (Nat.le_of_lt hsW)); clear B)
                | (refine wpList_vset rfl _ _ _ rfl _ _ _ _ rfl rfl DW (by kernel_rfl) ?_; intro W5 B5 DW5 _ _))
              clear P1 Q1 g1 g2 q1 q2 q3 q4
              have hh : w.heap.size + 2 < W3.heap.size := by omega
              replace D0 := D0.below (show w.heap.size < W3.heap.size by omega) B5
              replace D1 := D1.below (show w.heap.size + 1 < W3.heap.size by omega) B5
              replace D7 := D7.below hg3 B5
              replace K1 := (K1B.below B5).more (Nat.le_of_lt DW5.lt)
              replace K2 := (K2B.below B5).more (Nat.le_of_lt DW5.lt)
              replace K7 := (K7B.below B5).more (Nat.le_of_lt DW5.lt)
              replace BB := BB.trans (B5.mono (by omega))
              replace hgt := Nat.lt_of_lt_of_le hgt B5.size
              replace r0 := (B5.cell (p := ⟨w.heap.size + 2, 0, none⟩) hh).trans r0
              replace r1 := (B5.cell (p := ⟨w.heap.size + 2, 1, none⟩) hh).trans r1
              replace r2 := (B5.cell (p := ⟨w.heap.size + 2, 2, none⟩) hh).trans r2
              replace r3 := (B5.cell (p := ⟨w.heap.size + 2, 3, none⟩) hh).trans r3
              replace r4 := (B5.cell (p := ⟨w.heap.size + 2, 4, none⟩) hh).trans r4
              replace r5 := (B5.cell (p := ⟨w.heap.size + 2, 5, none⟩) hh).trans r5
              have VW := DW5.1
              clear DW DW5 B5 K1B K2B K7B
              go_simp
              have k_r0 := cell_regrown r0
              have k_r1 := cell_regrown r1
              have k_r2 := cell_regrown r2
              have k_r3 := cell_regrown r3
              have k_r4 := cell_regrown r4
              have k_r5 := cell_regrown r5
              refine wp_region_quiet_below (by kernel_rfl) (by kernel_rfl) ?_
              repeat (first | (go_big_quiet_want; refine quiet_iload _ _ rfl imgT (fun W hW => IAt.on D0 (below_regrown' hW)) rfl ?_; go_simp; go_big_quiet_on) | (go_big_quiet_want; refine quiet_iload _ _ rfl imgT (fun W hW => IAt.on D1 (below_regrown' hW)) rfl ?_; go_simp; go_big_quiet_on) | (go_big_quiet_want; refine quiet_iload _ _ rfl imgT (fun W hW => IAt.on D7 (below_regrown' hW)) rfl ?_; go_simp; go_big_quiet_on) | (go_big_quiet_want; refine quiet_vload _ _ rfl vecT (fun W hW => VecAt.on VW (below_regrown' hW)) rfl ?_; go_simp; go_big_quiet_on) | go_big_quiet_step ((first | (go_at_call 15; exact Calls.regrown_of (CGT.out _ (K7.on (below_regrown _ _ _)))))) | quiet_step ((first | (go_at_call 15; exact Calls.regrown_of (CGT.out _ (K7.on (below_regrown _ _ _)))))))
              refine wpQuiet_nil ?_
              intro W hw'
              have B := below_regrown' hw'
              clear hw' k_r0 k_r1 k_r2 k_r3 k_r4 k_r5
              replace BB := bon BB B
              replace D0 := IAt.on D0 B
              replace D1 := IAt.on D1 B
              replace D7 := IAt.on D7 B
              replace VW := VecAt.on VW B
              replace K1 := Rd.on K1 B
              replace K2 := Rd.on K2 B
              replace K7 := Rd.on K7 B
              replace r0 := cell_below B r0
              replace r1 := cell_below B r1
              replace r2 := cell_below B r2
              replace r3 := cell_below B r3
              replace r4 := cell_below B r4
              replace r5 := cell_below B r5
              go_wp2
              go_roundw
              case rel => exact ⟨u + 1, by omega, by go_num, D0, D1, D7, K1, K2, K7, BB, by have := B.size; omega, r0, r1, r2, r3, r4, r5⟩
              case measure => simp [intOf]; omega
            · have es := get_of_txl (m := Im.mk f2 N H S) hint hin rfl (TT.out.no u v hin hr)
              rw [es, hg] at cgt
              have CGT := Lib.hid cgt
              clear cgt es hin hint hg
              rcases (show (u : Int) < dx ∨ (dx ≤ (u : Int) ∧ a ≤ P) ∨ ((dx ≤ (u : Int) ∧ P < a) ∧ (v : Int) < dy) ∨ ((dx ≤ (u : Int) ∧ P < a) ∧ (dy ≤ (v : Int) ∧ (Mb : Int) ≤ Q)) by omega) with q1 | ⟨q1, q2⟩ | ⟨⟨q1, q2⟩, q3⟩ | ⟨⟨q1, q2⟩, ⟨q3, q4⟩⟩
              · clear hr hP hQ bnd
                have P1 := P1H.out
                have Q1 := Q1H.out
                clear P1H Q1H
                go_wp2_with (first
                  | (refine wpList_iload rfl _ _ rfl imgT D0 rfl ?_)
                  | (go_at_call 15; (with_reducible refine (CGU.out _ K1).mono ?_); rintro _ W3 ⟨rfl, B⟩; replace D0 := IAt.on D0 B; replace D1 := IAt.on D1 B; replace D7 := IAt.on D7 B; replace K1 := K1.on B; replace K2 := K2.on B; replace K7 := K7.on B; replace r0 := cell_below B r0; replace r1 := cell_below B r1; replace r2 := cell_below B r2; replace r3 := cell_below B r3; replace r4 := cell_below B r4; replace r5 := cell_below B r5; replace BB := bon BB B; replace hgt := Nat.lt_of_lt_of_le hgt B.size; have hg3 := hgt; have hs3 := BB.size; have K1B := K1; have K2B := K2; have K7B := K7; clear B; have bx := box_below W3 #[.int .i64 (g 0), .int .i64 (g 1), .int .i64 (g 2), .int .i64 (g 3)] 28; have DW := VBox.made W3 (g 0) (g 1) (g 2) (g 3) 28; replace D0 := IAt.on D0 bx; replace D1 := IAt.on D1 bx; replace D7 := IAt.on D7 bx; replace K1 := K1.on bx; replace K2 := K2.on bx; replace K7 := K7.on bx; replace r0 := cell_below bx r0; replace r1 := cell_below bx r1; replace r2 := cell_below bx r2; replace r3 := cell_below bx r3; replace r4 := cell_below bx r4; replace r5 := cell_below bx r5; replace BB := bon BB bx; replace hgt := Nat.lt_of_lt_of_le hgt bx.size; replace K1B := K1B.below bx; replace K2B := K2B.below bx; replace K7B := K7B.below bx; clear bx))
                clear P1 Q1 wd1 ht1
                have VW := DW.1
                clear DW K1B K2B K7B
                have k_r0 := cell_regrown r0
                have k_r1 := cell_regrown r1
                have k_r2 := cell_regrown r2
                have k_r3 := cell_regrown r3
                have k_r4 := cell_regrown r4
                have k_r5 := cell_regrown r5
                refine wp_region_quiet_below (by kernel_rfl) (by kernel_rfl) ?_
                repeat (first | (go_big_quiet_want; refine quiet_iload _ _ rfl imgT (fun W hW => IAt.on D0 (below_regrown' hW)) rfl ?_; go_simp; go_big_quiet_on) | (go_big_quiet_want; refine quiet_iload _ _ rfl imgT (fun W hW => IAt.on D1 (below_regrown' hW)) rfl ?_; go_simp; go_big_quiet_on) | (go_big_quiet_want; refine quiet_iload _ _ rfl imgT (fun W hW => IAt.on D7 (below_regrown' hW)) rfl ?_; go_simp; go_big_quiet_on) | (go_big_quiet_want; refine quiet_vload _ _ rfl vecT (fun W hW => VecAt.on VW (below_regrown' hW)) rfl ?_; go_simp; go_big_quiet_on) | go_big_quiet_step ((first | (go_at_call 15; exact Calls.regrown_of (CGT.out _ (K7.on (below_regrown _ _ _)))))) | quiet_step ((first | (go_at_call 15; exact Calls.regrown_of (CGT.out _ (K7.on (below_regrown _ _ _)))))))
                refine wpQuiet_nil ?_
                intro W hw'
                have B := below_regrown' hw'
                clear hw' k_r0 k_r1 k_r2 k_r3 k_r4 k_r5
                replace BB := bon BB B
                replace D0 := IAt.on D0 B
                replace D1 := IAt.on D1 B
                replace D7 := IAt.on D7 B
                replace VW := VecAt.on VW B
                replace K1 := Rd.on K1 B
                replace K2 := Rd.on K2 B
                replace K7 := Rd.on K7 B
                replace r0 := cell_below B r0
                replace r1 := cell_below B r1
                replace r2 := cell_below B r2
                replace r3 := cell_below B r3
                replace r4 := cell_below B r4
                replace r5 := cell_below B r5
                go_wp2
                go_roundw
                case rel => exact ⟨u + 1, by omega, by go_num, D0, D1, D7, K1, K2, K7, BB, by have := B.size; omega, r0, r1, r2, r3, r4, r5⟩
                case measure => simp [intOf]; omega
              · clear hr hP hQ bnd
                have P1 := P1H.out
                have Q1 := Q1H.out
                clear P1H Q1H
                go_wp2_with (first
                  | (refine wpList_iload rfl _ _ rfl imgT D0 rfl ?_)
                  | (go_at_call 15; (with_reducible refine (CGU.out _ K1).mono ?_); rintro _ W3 ⟨rfl, B⟩; replace D0 := IAt.on D0 B; replace D1 := IAt.on D1 B; replace D7 := IAt.on D7 B; replace K1 := K1.on B; replace K2 := K2.on B; replace K7 := K7.on B; replace r0 := cell_below B r0; replace r1 := cell_below B r1; replace r2 := cell_below B r2; replace r3 := cell_below B r3; replace r4 := cell_below B r4; replace r5 := cell_below B r5; replace BB := bon BB B; replace hgt := Nat.lt_of_lt_of_le hgt B.size; have hg3 := hgt; have hs3 := BB.size; have K1B := K1; have K2B := K2; have K7B := K7; clear B; have bx := box_below W3 #[.int .i64 (g 0), .int .i64 (g 1), .int .i64 (g 2), .int .i64 (g 3)] 28; have DW := VBox.made W3 (g 0) (g 1) (g 2) (g 3) 28; replace D0 := IAt.on D0 bx; replace D1 := IAt.on D1 bx; replace D7 := IAt.on D7 bx; replace K1 := K1.on bx; replace K2 := K2.on bx; replace K7 := K7.on bx; replace r0 := cell_below bx r0; replace r1 := cell_below bx r1; replace r2 := cell_below bx r2; replace r3 := cell_below bx r3; replace r4 := cell_below bx r4; replace r5 := cell_below bx r5; replace BB := bon BB bx; replace hgt := Nat.lt_of_lt_of_le hgt bx.size; replace K1B := K1B.below bx; replace K2B := K2B.below bx; replace K7B := K7B.below bx; clear bx))
                clear P1 Q1 wd1 ht1
                have VW := DW.1
                clear DW K1B K2B K7B
                have k_r0 := cell_regrown r0
                have k_r1 := cell_regrown r1
                have k_r2 := cell_regrown r2
                have k_r3 := cell_regrown r3
                have k_r4 := cell_regrown r4
                have k_r5 := cell_regrown r5
                refine wp_region_quiet_below (by kernel_rfl) (by kernel_rfl) ?_
                repeat (first | (go_big_quiet_want; refine quiet_iload _ _ rfl imgT (fun W hW => IAt.on D0 (below_regrown' hW)) rfl ?_; go_simp; go_big_quiet_on) | (go_big_quiet_want; refine quiet_iload _ _ rfl imgT (fun W hW => IAt.on D1 (below_regrown' hW)) rfl ?_; go_simp; go_big_quiet_on) | (go_big_quiet_want; refine quiet_iload _ _ rfl imgT (fun W hW => IAt.on D7 (below_regrown' hW)) rfl ?_; go_simp; go_big_quiet_on) | (go_big_quiet_want; refine quiet_vload _ _ rfl vecT (fun W hW => VecAt.on VW (below_regrown' hW)) rfl ?_; go_simp; go_big_quiet_on) | go_big_quiet_step ((first | (go_at_call 15; exact Calls.regrown_of (CGT.out _ (K7.on (below_regrown _ _ _)))))) | quiet_step ((first | (go_at_call 15; exact Calls.regrown_of (CGT.out _ (K7.on (below_regrown _ _ _)))))))
                refine wpQuiet_nil ?_
                intro W hw'
                have B := below_regrown' hw'
                clear hw' k_r0 k_r1 k_r2 k_r3 k_r4 k_r5
                replace BB := bon BB B
                replace D0 := IAt.on D0 B
                replace D1 := IAt.on D1 B
                replace D7 := IAt.on D7 B
                replace VW := VecAt.on VW B
                replace K1 := Rd.on K1 B
                replace K2 := Rd.on K2 B
                replace K7 := Rd.on K7 B
                replace r0 := cell_below B r0
                replace r1 := cell_below B r1
                replace r2 := cell_below B r2
                replace r3 := cell_below B r3
                replace r4 := cell_below B r4
                replace r5 := cell_below B r5
                go_wp2
                go_roundw
                case rel => exact ⟨u + 1, by omega, by go_num, D0, D1, D7, K1, K2, K7, BB, by have := B.size; omega, r0, r1, r2, r3, r4, r5⟩
                case measure => simp [intOf]; omega
              · clear hr hP hQ bnd
                have P1 := P1H.out
                have Q1 := Q1H.out
                clear P1H Q1H
                go_wp2_with (first
                  | (refine wpList_iload rfl _ _ rfl imgT D0 rfl ?_)
                  | (go_at_call 15; (with_reducible refine (CGU.out _ K1).mono ?_); rintro _ W3 ⟨rfl, B⟩; replace D0 := IAt.on D0 B; replace D1 := IAt.on D1 B; replace D7 := IAt.on D7 B; replace K1 := K1.on B; replace K2 := K2.on B; replace K7 := K7.on B; replace r0 := cell_below B r0; replace r1 := cell_below B r1; replace r2 := cell_below B r2; replace r3 := cell_below B r3; replace r4 := cell_below B r4; replace r5 := cell_below B r5; replace BB := bon BB B; replace hgt := Nat.lt_of_lt_of_le hgt B.size; have hg3 := hgt; have hs3 := BB.size; have K1B := K1; have K2B := K2; have K7B := K7; clear B; have bx := box_below W3 #[.int .i64 (g 0), .int .i64 (g 1), .int .i64 (g 2), .int .i64 (g 3)] 28; have DW := VBox.made W3 (g 0) (g 1) (g 2) (g 3) 28; replace D0 := IAt.on D0 bx; replace D1 := IAt.on D1 bx; replace D7 := IAt.on D7 bx; replace K1 := K1.on bx; replace K2 := K2.on bx; replace K7 := K7.on bx; replace r0 := cell_below bx r0; replace r1 := cell_below bx r1; replace r2 := cell_below bx r2; replace r3 := cell_below bx r3; replace r4 := cell_below bx r4; replace r5 := cell_below bx r5; replace BB := bon BB bx; replace hgt := Nat.lt_of_lt_of_le hgt bx.size; replace K1B := K1B.below bx; replace K2B := K2B.below bx; replace K7B := K7B.below bx; clear bx))
                clear P1 Q1 wd1 ht1
                have VW := DW.1
                clear DW K1B K2B K7B
                have k_r0 := cell_regrown r0
                have k_r1 := cell_regrown r1
                have k_r2 := cell_regrown r2
                have k_r3 := cell_regrown r3
                have k_r4 := cell_regrown r4
                have k_r5 := cell_regrown r5
                refine wp_region_quiet_below (by kernel_rfl) (by kernel_rfl) ?_
                repeat (first | (go_big_quiet_want; refine quiet_iload _ _ rfl imgT (fun W hW => IAt.on D0 (below_regrown' hW)) rfl ?_; go_simp; go_big_quiet_on) | (go_big_quiet_want; refine quiet_iload _ _ rfl imgT (fun W hW => IAt.on D1 (below_regrown' hW)) rfl ?_; go_simp; go_big_quiet_on) | (go_big_quiet_want; refine quiet_iload _ _ rfl imgT (fun W hW => IAt.on D7 (below_regrown' hW)) rfl ?_; go_simp; go_big_quiet_on) | (go_big_quiet_want; refine quiet_vload _ _ rfl vecT (fun W hW => VecAt.on VW (below_regrown' hW)) rfl ?_; go_simp; go_big_quiet_on) | go_big_quiet_step ((first | (go_at_call 15; exact Calls.regrown_of (CGT.out _ (K7.on (below_regrown _ _ _)))))) | quiet_step ((first | (go_at_call 15; exact Calls.regrown_of (CGT.out _ (K7.on (below_regrown _ _ _)))))))
                refine wpQuiet_nil ?_
                intro W hw'
                have B := below_regrown' hw'
                clear hw' k_r0 k_r1 k_r2 k_r3 k_r4 k_r5
                replace BB := bon BB B
                replace D0 := IAt.on D0 B
                replace D1 := IAt.on D1 B
                replace D7 := IAt.on D7 B
                replace VW := VecAt.on VW B
                replace K1 := Rd.on K1 B
                replace K2 := Rd.on K2 B
                replace K7 := Rd.on K7 B
                replace r0 := cell_below B r0
                replace r1 := cell_below B r1
                replace r2 := cell_below B r2
                replace r3 := cell_below B r3
                replace r4 := cell_below B r4
                replace r5 := cell_below B r5
                go_wp2
                go_roundw
                case rel => exact ⟨u + 1, by omega, by go_num, D0, D1, D7, K1, K2, K7, BB, by have := B.size; omega, r0, r1, r2, r3, r4, r5⟩
                case measure => simp [intOf]; omega
              · clear hr hP hQ bnd
                have P1 := P1H.out
                have Q1 := Q1H.out
                clear P1H Q1H
                go_wp2_with (first
                  | (refine wpList_iload rfl _ _ rfl imgT D0 rfl ?_)
                  | (go_at_call 15; (with_reducible refine (CGU.out _ K1).mono ?_); rintro _ W3 ⟨rfl, B⟩; replace D0 := IAt.on D0 B; replace D1 := IAt.on D1 B; replace D7 := IAt.on D7 B; replace K1 := K1.on B; replace K2 := K2.on B; replace K7 := K7.on B; replace r0 := cell_below B r0; replace r1 := cell_below B r1; replace r2 := cell_below B r2; replace r3 := cell_below B r3; replace r4 := cell_below B r4; replace r5 := cell_below B r5; replace BB := bon BB B; replace hgt := Nat.lt_of_lt_of_le hgt B.size; have hg3 := hgt; have hs3 := BB.size; have K1B := K1; have K2B := K2; have K7B := K7; clear B; have bx := box_below W3 #[.int .i64 (g 0), .int .i64 (g 1), .int .i64 (g 2), .int .i64 (g 3)] 28; have DW := VBox.made W3 (g 0) (g 1) (g 2) (g 3) 28; replace D0 := IAt.on D0 bx; replace D1 := IAt.on D1 bx; replace D7 := IAt.on D7 bx; replace K1 := K1.on bx; replace K2 := K2.on bx; replace K7 := K7.on bx; replace r0 := cell_below bx r0; replace r1 := cell_below bx r1; replace r2 := cell_below bx r2; replace r3 := cell_below bx r3; replace r4 := cell_below bx r4; replace r5 := cell_below bx r5; replace BB := bon BB bx; replace hgt := Nat.lt_of_lt_of_le hgt bx.size; replace K1B := K1B.below bx; replace K2B := K2B.below bx; replace K7B := K7B.below bx; clear bx))
                clear P1 Q1 wd1 ht1
                have VW := DW.1
                clear DW K1B K2B K7B
                have k_r0 := cell_regrown r0
                have k_r1 := cell_regrown r1
                have k_r2 := cell_regrown r2
                have k_r3 := cell_regrown r3
                have k_r4 := cell_regrown r4
                have k_r5 := cell_regrown r5
                refine wp_region_quiet_below (by kernel_rfl) (by kernel_rfl) ?_
                repeat (first | (go_big_quiet_want; refine quiet_iload _ _ rfl imgT (fun W hW => IAt.on D0 (below_regrown' hW)) rfl ?_; go_simp; go_big_quiet_on) | (go_big_quiet_want; refine quiet_iload _ _ rfl imgT (fun W hW => IAt.on D1 (below_regrown' hW)) rfl ?_; go_simp; go_big_quiet_on) | (go_big_quiet_want; refine quiet_iload _ _ rfl imgT (fun W hW => IAt.on D7 (below_regrown' hW)) rfl ?_; go_simp; go_big_quiet_on) | (go_big_quiet_want; refine quiet_vload _ _ rfl vecT (fun W hW => VecAt.on VW (below_regrown' hW)) rfl ?_; go_simp; go_big_quiet_on) | go_big_quiet_step ((first | (go_at_call 15; exact Calls.regrown_of (CGT.out _ (K7.on (below_regrown _ _ _)))))) | quiet_step ((first | (go_at_call 15; exact Calls.regrown_of (CGT.out _ (K7.on (below_regrown _ _ _)))))))
                refine wpQuiet_nil ?_
                intro W hw'
                have B := below_regrown' hw'
                clear hw' k_r0 k_r1 k_r2 k_r3 k_r4 k_r5
                replace BB := bon BB B
                replace D0 := IAt.on D0 B
                replace D1 := IAt.on D1 B
                replace D7 := IAt.on D7 B
                replace VW := VecAt.on VW B
                replace K1 := Rd.on K1 B
                replace K2 := Rd.on K2 B
                replace K7 := Rd.on K7 B
                replace r0 := cell_below B r0
                replace r1 := cell_below B r1
                replace r2 := cell_below B r2
                replace r3 := cell_below B r3
                replace r4 := cell_below B r4
                replace r5 := cell_below B r5
                go_wp2
                go_roundw
                case rel => exact ⟨u + 1, by omega, by go_num, D0, D1, D7, K1, K2, K7, BB, by have := B.size; omega, r0, r1, r2, r3, r4, r5⟩
                case measure => simp [intOf]; omega
          · obtain rfl : u = N := by omega
            have i1 := D7.2.1
            go_wp2
            go_roundw
            case rel => exact ⟨v + 1, by omega, by go_num, D0, D1, D7, K1, K2, K7, BB, hgt, r0, r1, r2, r3, r4, r5⟩
            case measure => simp [intOf]; omega
      · obtain rfl : v = H := by omega
        go_wp2_with (go_at_call 20; (with_reducible refine (iexample_b _).mono ?_); rintro _ V8 ⟨rfl, B⟩)
        go_ret
        exact ⟨rfl, bon BB B⟩
  · obtain ⟨h1, h2⟩ := cpI_no hno
    rw [h1] at cc
    obtain ⟨e, he⟩ : ∃ e, (cpI ⟨f, wd, ht, l⟩ ⟨f2, wd2, ht2, l2⟩ dx dy sx sy a b).2 = e := ⟨_, rfl⟩
    rw [he] at cc h2
    unfold imZ at cc
    simp only at cc
    have h2' : (e != 0) = true := by simp [h2]
    have CC := Lib.hid cc
    clear cc h1 h2 he hno R R2 rng
    go_enter Try.func7, Try.ntmps7
    go_wp2_with (first
      | (refine wpList_iload rfl _ _ rfl imgT D0 rfl ?_)
      | (refine wpList_iload rfl _ _ rfl imgT D1 rfl ?_)
      | (go_at_call 21; (with_reducible refine (CC.out _ K1 K2).mono ?_); rintro _ W7 ⟨A7, n7, c7, rfl, hc7, K7, B⟩; obtain rfl : n7 = 0 := (by have := K7.len; simpa using this.symm); replace BB := bon BB B; clear B; have bx := box_below W7 #[.int .i64 0, .int .i64 0, .int .i64 0, .slice A7 0 c7] 25; obtain ⟨k0, k1, k2, k3⟩ := (IBox.made W7 0 0 0 A7 0 c7 25).1; replace BB := bon BB bx; clear bx D0 D1 r0 r1 r2 r3 r4 r5 K1 K2 K7)
      | (go_at_call 20; (with_reducible refine (iexample_b _).mono ?_); rintro _ V8 ⟨rfl, B⟩; replace BB := bon BB B; clear B k0 k1 k2 k3))
    go_ret
    exact ⟨rfl, BB⟩

end Go.Proofs.Ytpcoihbchinckaa
