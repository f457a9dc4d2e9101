/- What Copy of the reference of images returns. -/
import Derived.Test.YtlnbkahpklnfaaaIS
import Derived.Test.YtlnbkahpklnfaaaIM
namespace Go.Proofs.Ytlnbkahpklnfaaa
open Go.RowKit Go.Sort

/-- What Copy gives. -/
def within (d s : Im) (dx dy sx sy a b : Int) : Prop := (0 ≤ dx ∧ dx + a ≤ d.w) ∧ (0 ≤ dy ∧ dy + b ≤ d.h) ∧ (0 ≤ sx ∧ sx + a ≤ s.w) ∧ (0 ≤ sy ∧ sy + b ≤ s.h)
instance (d s : Im) (dx dy sx sy a b : Int) : Decidable (within d s dx dy sx sy a b) := by unfold within; infer_instance

def cpI (d s : Im) (dx dy sx sy a b : Int) : Im × Int :=
  if ¬ (d.ok ∧ s.ok) then (imZ, 2) else if d.f ≠ s.f then (imZ, 14) else if a < 0 ∨ b < 0 then (imZ, 15) else if ¬ within d s dx dy sx sy a b then (imZ, 6) else (Im.rows d s dx dy sx sy a b.toNat, 0)

theorem cpI_ok {d s : Im} {dx dy sx sy a b : Int} (F : Fit d s dx dy sx sy a b) : cpI d s dx dy sx sy a b = (Im.rows d s dx dy sx sy a b.toNat, 0) := by
  unfold cpI
  have h0 := F.wd0
  have h1 := F.ht0
  rw [if_neg (fun h => h ⟨F.dok, F.sok⟩), if_neg (fun h => h F.ff.symm), if_neg (by omega), if_neg (fun h => h ⟨F.hx, F.hy, F.kx, F.ky⟩)]

/-- The state of Copy's loops: the result's box, its bytes, its texels. -/
structure CpS (w : World) (b : Nat) (f wd ht wd2 ht2 : Int) (A A2 : Option Addr) (n c n2 c2 : Nat) (l l2 : List Int) (dx dy sx sy : Int) (P : Int → Int → Prop) (wr : World) (A' : Option Addr) (n' c' : Nat) (l' : List Int) : Prop where
  to_ : To ⟨f, wd, ht, l⟩ ⟨f, wd2, ht2, l2⟩ ⟨f, wd, ht, l'⟩ dx dy sx sy P
  box : IBox wr b f wd ht A' n' c'
  own : Own wr (w.heap.size + 3) 5 .u8 A' n' c' l'
  D0 : IAt wr w.heap.size f wd ht A n c
  D1 : IAt wr (w.heap.size + 1) f wd2 ht2 A2 n2 c2
  D2 : IBox wr (w.heap.size + 2) 0 0 0 none 0 0
  BB : Below w.heap.size w wr
  lt : w.heap.size + 2 < b

set_option maxRecDepth 100000 in
set_option maxHeartbeats 2000000 in
theorem ricopy_b (f wd ht f2 wd2 ht2 : Int) (A A2 : Option Addr) (n c n2 c2 : Nat) (l l2 : List Int) (dx dy sx sy a b : Int) (w : World) (R : Rd w w.heap.size .u8 A n l) (R2 : Rd w w.heap.size .u8 A2 n2 l2) (hn : n ≤ 140737488351232) (hc2 : n2 ≤ c2)
    (rng : (-9223372036854775808 ≤ dx ∧ dx ≤ 9223372036854775807) ∧ (-9223372036854775808 ≤ dy ∧ dy ≤ 9223372036854775807) ∧ (-9223372036854775808 ≤ sx ∧ sx ≤ 9223372036854775807) ∧ (-9223372036854775808 ≤ sy ∧ sy ≤ 9223372036854775807) ∧ (-9223372036854775808 ≤ a ∧ a ≤ 9223372036854775807) ∧ (-9223372036854775808 ≤ b ∧ b ≤ 9223372036854775807)) :
    Calls Try.prog 22 #[.agg #[.int .i64 f, .int .i64 wd, .int .i64 ht, .slice A n c], .agg #[.int .i64 f2, .int .i64 wd2, .int .i64 ht2, .slice A2 n2 c2], .int .i64 dx, .int .i64 dy, .int .i64 sx, .int .i64 sy, .int .i64 a, .int .i64 b] w (GivesIE w (cpI ⟨f, wd, ht, l⟩ ⟨f2, wd2, ht2, l2⟩ dx dy sx sy a b).1 (cpI ⟨f, wd, ht, l⟩ ⟨f2, wd2, ht2, l2⟩ dx dy sx sy a b).2) := by
  have z1 : (w.alloc (.cells #[.int .i64 f, .int .i64 wd, .int .i64 ht, .slice A n c] 25)).heap.size = w.heap.size + 1 := by simp
  have z2 : ((w.alloc (.cells #[.int .i64 f, .int .i64 wd, .int .i64 ht, .slice A n c] 25)).alloc (.cells #[.int .i64 f2, .int .i64 wd2, .int .i64 ht2, .slice A2 n2 c2] 25)).heap.size = w.heap.size + 2 := by simp
  have hsz : (((w.alloc (.cells #[.int .i64 f, .int .i64 wd, .int .i64 ht, .slice A n c] 25)).alloc (.cells #[.int .i64 f2, .int .i64 wd2, .int .i64 ht2, .slice A2 n2 c2] 25)).alloc (.cells #[.int .i64 0, .int .i64 0, .int .i64 0, .slice none 0 0] 25)).heap.size = w.heap.size + 3 := by simp
  have E0 := IBox.made w f wd ht A n c 25
  have b0 := box_below w #[.int .i64 f, .int .i64 wd, .int .i64 ht, .slice A n c] 25
  have E1 := IBox.made (w.alloc (.cells #[.int .i64 f, .int .i64 wd, .int .i64 ht, .slice A n c] 25)) f2 wd2 ht2 A2 n2 c2 25
  have b1 := box_below (w.alloc (.cells #[.int .i64 f, .int .i64 wd, .int .i64 ht, .slice A n c] 25)) #[.int .i64 f2, .int .i64 wd2, .int .i64 ht2, .slice A2 n2 c2] 25
  have D2 := IBox.made ((w.alloc (.cells #[.int .i64 f, .int .i64 wd, .int .i64 ht, .slice A n c] 25)).alloc (.cells #[.int .i64 f2, .int .i64 wd2, .int .i64 ht2, .slice A2 n2 c2] 25)) 0 0 0 none 0 0 25
  have b2 := box_below ((w.alloc (.cells #[.int .i64 f, .int .i64 wd, .int .i64 ht, .slice A n c] 25)).alloc (.cells #[.int .i64 f2, .int .i64 wd2, .int .i64 ht2, .slice A2 n2 c2] 25)) #[.int .i64 0, .int .i64 0, .int .i64 0, .slice none 0 0] 25
  have D0 := (E0.on b1).on b2
  have D1 := E1.on b2
  have BB := bon (bon b0 b1) b2
  rw [z1] at D1
  rw [z2] at D2
  clear E0 E1 b0 b1 b2 z1 z2
  have v1 := fun W => rivalid_b f wd ht A n c l W R.len
  have v2 := fun W => rivalid_b f2 wd2 ht2 A2 n2 c2 l2 W R2.len
  by_cases h1 : (Im.mk f wd ht l).ok
  · rw [decide_eq_true h1] at v1
    by_cases h2 : (Im.mk f2 wd2 ht2 l2).ok
    · rw [decide_eq_true h2] at v2
      have V1 := Lib.hid v1
      have V2 := Lib.hid v2
      clear v1 v2
      by_cases h3 : f = f2
      · subst h3
        rcases (show a < 0 ∨ (0 ≤ a ∧ b < 0) ∨ (0 ≤ a ∧ 0 ≤ b) by omega) with h4 | ⟨h4, h5⟩ | ⟨h4, h5⟩
        · rw [show cpI ⟨f, wd, ht, l⟩ ⟨f, wd2, ht2, l2⟩ dx dy sx sy a b = (imZ, 15) by unfold cpI; rw [if_neg (fun h => h ⟨h1, h2⟩), if_neg (fun h => h rfl), if_pos (.inl h4)]]
          clear h1 h2 R R2
          obtain ⟨⟨i0, i1, i2, i3⟩, _⟩ := D0
          obtain ⟨⟨j0, j1, j2, j3⟩, _⟩ := D1
          go_enter Try.func22, Try.ntmps22
          go_wp2_with (first
            | (go_at_call 12; (with_reducible refine ((V1).out _).mono ?_); rintro _ _ ⟨rfl, B⟩; replace i0 := cell_below B i0; replace i1 := cell_below B i1; replace i2 := cell_below B i2; replace i3 := cell_below B i3; replace j0 := cell_below B j0; replace j1 := cell_below B j1; replace j2 := cell_below B j2; replace j3 := cell_below B j3; replace D2 := D2.on B; replace BB := bon BB B; clear B)
            | (go_at_call 12; (with_reducible refine ((V2).out _).mono ?_); rintro _ _ ⟨rfl, B⟩; replace i0 := cell_below B i0; replace i1 := cell_below B i1; replace i2 := cell_below B i2; replace i3 := cell_below B i3; replace j0 := cell_below B j0; replace j1 := cell_below B j1; replace j2 := cell_below B j2; replace j3 := cell_below B j3; replace D2 := D2.on B; replace BB := bon BB B; clear B)
            | (refine wpList_iset rfl _ _ _ rfl rfl rfl D2 (by kernel_rfl) ?_; intro V6 B6 D3 hg hz; have HG := Lib.hid hg; clear hg))
          obtain ⟨⟨d0, d1, d2, d3⟩, _⟩ := D3
          clear i0 i1 i2 i3 j0 j1 j2 j3
          exact bodyPost_ret (v := .tuple #[.agg #[.int .i64 0, .int .i64 0, .int .i64 0, .slice none 0 0], .int .i64 15]) (by simp [results, Try.results22, go_sem, *]) rfl ⟨none, 0, 0, rfl, Nat.le_refl _, Rd.nil _ _ _ _, BB.trans (B6.mono (by have := BB.size; omega))⟩
        · rw [show cpI ⟨f, wd, ht, l⟩ ⟨f, wd2, ht2, l2⟩ dx dy sx sy a b = (imZ, 15) by unfold cpI; rw [if_neg (fun h => h ⟨h1, h2⟩), if_neg (fun h => h rfl), if_pos (.inr h5)]]
          clear h1 h2 R R2
          obtain ⟨⟨i0, i1, i2, i3⟩, _⟩ := D0
          obtain ⟨⟨j0, j1, j2, j3⟩, _⟩ := D1
          go_enter Try.func22, Try.ntmps22
          go_wp2_with (first
            | (go_at_call 12; (with_reducible refine ((V1).out _).mono ?_); rintro _ _ ⟨rfl, B⟩; replace i0 := cell_below B i0; replace i1 := cell_below B i1; replace i2 := cell_below B i2; replace i3 := cell_below B i3; replace j0 := cell_below B j0; replace j1 := cell_below B j1; replace j2 := cell_below B j2; replace j3 := cell_below B j3; replace D2 := D2.on B; replace BB := bon BB B; clear B)
            | (go_at_call 12; (with_reducible refine ((V2).out _).mono ?_); rintro _ _ ⟨rfl, B⟩; replace i0 := cell_below B i0; replace i1 := cell_below B i1; replace i2 := cell_below B i2; replace i3 := cell_below B i3; replace j0 := cell_below B j0; replace j1 := cell_below B j1; replace j2 := cell_below B j2; replace j3 := cell_below B j3; replace D2 := D2.on B; replace BB := bon BB B; clear B)
            | (refine wpList_iset rfl _ _ _ rfl rfl rfl D2 (by kernel_rfl) ?_; intro V6 B6 D3 hg hz; have HG := Lib.hid hg; clear hg))
          obtain ⟨⟨d0, d1, d2, d3⟩, _⟩ := D3
          clear i0 i1 i2 i3 j0 j1 j2 j3
          exact bodyPost_ret (v := .tuple #[.agg #[.int .i64 0, .int .i64 0, .int .i64 0, .slice none 0 0], .int .i64 15]) (by simp [results, Try.results22, go_sem, *]) rfl ⟨none, 0, 0, rfl, Nat.le_refl _, Rd.nil _ _ _ _, BB.trans (B6.mono (by have := BB.size; omega))⟩
        · have q1 := fun W => iof_same (rinside_q dx a wd W (by have := h1.2.1.2; simp only at this; omega))
          have q2 := fun W => iof_same (rinside_q dy b ht W (by have := h1.2.2.1.2; simp only at this; omega))
          have q3 := fun W => iof_same (rinside_q sx a wd2 W (by have := h2.2.1.2; simp only at this; omega))
          have q4 := fun W => iof_same (rinside_q sy b ht2 W (by have := h2.2.2.1.2; simp only at this; omega))
          unfold insB at q1 q2 q3 q4
          have hno : ¬ within ⟨f, wd, ht, l⟩ ⟨f, wd2, ht2, l2⟩ dx dy sx sy a b → cpI ⟨f, wd, ht, l⟩ ⟨f, wd2, ht2, l2⟩ dx dy sx sy a b = (imZ, 6) := fun hw => by
            unfold cpI; rw [if_neg (fun h => h ⟨h1, h2⟩), if_neg (fun h => h rfl), if_neg (by omega), if_pos hw]
          by_cases k1 : 0 ≤ dx ∧ dx ≤ wd ∧ a ≤ wd - dx
          · rw [decide_eq_true k1] at q1
            by_cases k2 : 0 ≤ dy ∧ dy ≤ ht ∧ b ≤ ht - dy
            · rw [decide_eq_true k2] at q2
              by_cases k3 : 0 ≤ sx ∧ sx ≤ wd2 ∧ a ≤ wd2 - sx
              · rw [decide_eq_true k3] at q3
                by_cases k4 : 0 ≤ sy ∧ sy ≤ ht2 ∧ b ≤ ht2 - sy
                · rw [decide_eq_true k4] at q4
                  clear hno
                  have F : Fit (Im.mk f wd ht l) (Im.mk f wd2 ht2 l2) dx dy sx sy a b := ⟨h1, h2, rfl, h4, h5, by simp only; omega, by simp only; omega, by simp only; omega, by simp only; omega⟩
                  obtain ⟨M, rfl⟩ : ∃ M : Nat, b = M := ⟨b.toNat, by omega⟩
                  obtain ⟨N, rfl⟩ : ∃ N : Nat, a = N := ⟨a.toNat, by omega⟩
                  rw [cpI_ok F, Int.toNat_natCast]
                  have TR := Lib.hid (To.rows F M (Int.le_refl _))
                  have FF := Lib.hid F
                  have cs := fun W => rsize_q f W
                  have CC := Lib.hid (fun W R => riclone_b f wd ht A n c l W R hn)
                  have hnl : n ≤ 32768 := by have := Im.len_le h1; simp only at this; rw [R.len] at this; exact this
                  have hwh : (1 ≤ wd ∧ wd ≤ 64) ∧ (1 ≤ ht ∧ ht ≤ 64) := ⟨h1.2.1, h1.2.2.1⟩
                  have hwh2 : (1 ≤ wd2 ∧ wd2 ≤ 64) ∧ (1 ≤ ht2 ∧ ht2 ≤ 64) := ⟨h2.2.1, h2.2.2.1⟩
                  have Q1 := Lib.hid q1
                  have Q2 := Lib.hid q2
                  have Q3 := Lib.hid q3
                  have Q4 := Lib.hid q4
                  have CS := Lib.hid cs
                  have HR := Lib.hid R
                  have HR2 := Lib.hid R2
                  have hs8 := nsz_le f
                  have hs0 : nsz f ≠ 0 := h1.1
                  obtain ⟨⟨i0, i1, i2, i3⟩, _⟩ := D0
                  obtain ⟨⟨j0, j1, j2, j3⟩, _⟩ := D1
                  clear q1 q2 q3 q4 cs F R R2 rng
                  go_enter Try.func22, Try.ntmps22
                  go_wp2_with (first
                    | (go_at_call 12; (with_reducible refine (V1.out _).mono ?_); rintro _ _ ⟨rfl, B⟩; replace i0 := cell_below B i0; replace i1 := cell_below B i1; replace i2 := cell_below B i2; replace i3 := cell_below B i3; replace j0 := cell_below B j0; replace j1 := cell_below B j1; replace j2 := cell_below B j2; replace j3 := cell_below B j3; replace D2 := D2.on B; replace BB := bon BB B; clear B)
                    | (go_at_call 12; (with_reducible refine (V2.out _).mono ?_); rintro _ _ ⟨rfl, B⟩; replace i0 := cell_below B i0; replace i1 := cell_below B i1; replace i2 := cell_below B i2; replace i3 := cell_below B i3; replace j0 := cell_below B j0; replace j1 := cell_below B j1; replace j2 := cell_below B j2; replace j3 := cell_below B j3; replace D2 := D2.on B; replace BB := bon BB B; clear B)
                    | (go_at_call 45; (with_reducible refine (Q1.out _).mono ?_); rintro _ _ ⟨rfl, B⟩; replace i0 := cell_below B i0; replace i1 := cell_below B i1; replace i2 := cell_below B i2; replace i3 := cell_below B i3; replace j0 := cell_below B j0; replace j1 := cell_below B j1; replace j2 := cell_below B j2; replace j3 := cell_below B j3; replace D2 := D2.on B; replace BB := bon BB B; clear B)
                    | (go_at_call 45; (with_reducible refine (Q2.out _).mono ?_); rintro _ _ ⟨rfl, B⟩; replace i0 := cell_below B i0; replace i1 := cell_below B i1; replace i2 := cell_below B i2; replace i3 := cell_below B i3; replace j0 := cell_below B j0; replace j1 := cell_below B j1; replace j2 := cell_below B j2; replace j3 := cell_below B j3; replace D2 := D2.on B; replace BB := bon BB B; clear B)
                    | (go_at_call 45; (with_reducible refine (Q3.out _).mono ?_); rintro _ _ ⟨rfl, B⟩; replace i0 := cell_below B i0; replace i1 := cell_below B i1; replace i2 := cell_below B i2; replace i3 := cell_below B i3; replace j0 := cell_below B j0; replace j1 := cell_below B j1; replace j2 := cell_below B j2; replace j3 := cell_below B j3; replace D2 := D2.on B; replace BB := bon BB B; clear B)
                    | (go_at_call 45; (with_reducible refine (Q4.out _).mono ?_); rintro _ _ ⟨rfl, B⟩; replace i0 := cell_below B i0; replace i1 := cell_below B i1; replace i2 := cell_below B i2; replace i3 := cell_below B i3; replace j0 := cell_below B j0; replace j1 := cell_below B j1; replace j2 := cell_below B j2; replace j3 := cell_below B j3; replace D2 := D2.on B; replace BB := bon BB B; clear B)
                    | (go_at_call 10; (with_reducible refine (CC.out _ ((HR.out.below BB).more BB.size)).mono ?_); rintro _ W1 ⟨A1, n1, d1, rfl, own1, B⟩; have HS0 := D2.lt; have HS1 := B.size; have OW := Lib.hid own1; clear own1; replace i0 := cell_below B i0; replace i1 := cell_below B i1; replace i2 := cell_below B i2; replace i3 := cell_below B i3; replace j0 := cell_below B j0; replace j1 := cell_below B j1; replace j2 := cell_below B j2; replace j3 := cell_below B j3; replace D2 := D2.on B; replace BB := bon BB B; clear B; have bx := box_below W1 #[.int .i64 f, .int .i64 wd, .int .i64 ht, .slice A1 n1 d1] 25; have j0' := cell_below bx j0; have BBX := bon BB bx)
                    | (go_at_call 37; (with_reducible refine (CS.out _).mono ?_); rintro _ _ ⟨rfl, rfl⟩))
                  have hs1 := D2.lt
                  have ST : CpS w W1.heap.size f wd ht wd2 ht2 A A2 n c n2 c2 l l2 dx dy sx sy (fun u v => (dx ≤ u ∧ u < dx + N) ∧ (dy ≤ v ∧ v < dy + (0 : Nat))) (W1.alloc (.cells #[.int .i64 f, .int .i64 wd, .int .i64 ht, .slice A1 n1 d1] 25)) A1 n1 d1 l :=
                    ⟨To.start FF.out.dok (fun u v h => by omega), IBox.made W1 f wd ht A1 n1 d1 25, (OW.out.on bx).weak (by omega), IAt.on ⟨i0, i1, i2, i3⟩ bx, IAt.on ⟨j0, j1, j2, j3⟩ bx, D2.on bx, BBX, hs1⟩
                  have SH := Lib.hid ST
                  clear ST V1 V2 Q1 Q2 Q3 Q4 CC OW bx BBX i0 i1 i2 i3 j0 j1 j2 j3 j0' D2 BB HS0 HS1 CS
                  go_loopw [20] (fun t wr => ∃ (y : Nat) (A' : Option Addr) (n' c' : Nat) (l' : List Int), y ≤ M ∧ t = .int .i64 (y : Int) ∧ CpS w W1.heap.size f wd ht wd2 ht2 A A2 n c n2 c2 l l2 dx dy sx sy (fun u v => (dx ≤ u ∧ u < dx + N) ∧ (dy ≤ v ∧ v < dy + y)) wr A' n' c' l') (fun t _ => M - (intOf t).toNat)
                  case atStart => exact ⟨0, A1, n1, d1, l, by omega, rfl, SH.out⟩
                  case round =>
                    clear SH
                    obtain ⟨y, A', n', c', l', hy, rfl, ST⟩ := hrel
                    by_cases hyM : y < M
                    · have SH : Hid (CpS w W1.heap.size f wd ht wd2 ht2 A A2 n c n2 c2 l l2 dx dy sx sy (fun u v => ((dx ≤ u ∧ u < dx + N) ∧ (dy ≤ v ∧ v < dy + y)) ∨ (v = dy + y ∧ (dx ≤ u ∧ u < dx + (0 : Nat)))) wr A' n' c' l') := Lib.hid { ST with to_ := ST.to_.same (fun u v _ => by omega) }
                      clear ST
                      go_wp2
                      go_loopw [21] (fun t wr => ∃ (x : Nat) (A' : Option Addr) (n' c' : Nat) (l' : List Int), x ≤ N ∧ t = .int .i64 (x : Int) ∧ CpS w W1.heap.size f wd ht wd2 ht2 A A2 n c n2 c2 l l2 dx dy sx sy (fun u v => ((dx ≤ u ∧ u < dx + N) ∧ (dy ≤ v ∧ v < dy + y)) ∨ (v = dy + y ∧ (dx ≤ u ∧ u < dx + x))) wr A' n' c' l') (fun t _ => N - (intOf t).toNat)
                      case atStart => exact ⟨0, A', n', c', l', by omega, rfl, SH.out⟩
                      case round =>
                        clear SH
                        obtain ⟨x, A', n', c', l', hx, rfl, ST⟩ := hrel
                        by_cases hxN : x < N
                        · have hi : (Im.mk f wd ht l).ins (dx + x) (dy + y) := ⟨FF.out.dok, ⟨by have := FF.out.hx; omega, by have := FF.out.hx; simp only at this ⊢; omega⟩, ⟨by have := FF.out.hy; omega, by have := FF.out.hy; simp only at this ⊢; omega⟩⟩
                          have hs : (Im.mk f wd2 ht2 l2).ins (sx + x) (sy + y) := ⟨FF.out.sok, ⟨by have := FF.out.kx; omega, by have := FF.out.kx; simp only at this ⊢; omega⟩, ⟨by have := FF.out.ky; omega, by have := FF.out.ky; simp only at this ⊢; omega⟩⟩
                          obtain ⟨q, hq, hql, -⟩ := (Im.mk f wd2 ht2 l2).off_in hs
                          obtain ⟨p, hp, hpl, -⟩ := (Im.mk f wd ht l).off_in hi
                          have cq1 := fun W => rioff_b f wd2 ht2 A2 n2 c2 l2 (sx + x) (sy + y) W HR2.out.len
                          have cp1 := fun W => rioff_b f wd ht A n c l (dx + x) (dy + y) W HR.out.len
                          rw [hq] at cq1
                          rw [hp] at cp1
                          have TN := To.one (Q := fun u v => ((dx ≤ u ∧ u < dx + N) ∧ (dy ≤ v ∧ v < dy + y)) ∨ (v = dy + y ∧ (dx ≤ u ∧ u < dx + ((x + 1 : Nat) : Int)))) FF.out.dok ST.to_ FF.out.ff hi hs (fun u v _ => by omega)
                          have hln : l'.length = l.length := by
                            have e1 := ST.to_.ok.2.2.2
                            have e2 := FF.out.dok.2.2.2
                            simp only at e1 e2
                            omega
                          have hl32 : l.length ≤ 32768 := Im.len_le FF.out.dok
                          have hl2 : n2 ≤ 32768 := by have := Im.len_le FF.out.sok; simp only at this; rw [HR2.out.len] at this; exact this
                          have hnx : n' = l.length := by rw [← hln]; exact ST.own.len.symm
                          simp only at hql hpl
                          rw [HR2.out.len] at hql
                          have hsz0 : 1 ≤ nsz f := by have := FF.out.dok.1; simp only at this; omega
                          obtain ⟨e, he⟩ : ∃ e, q + nsz f = e := ⟨_, rfl⟩
                          obtain ⟨bb, of, _, rfl, _, _, _, _⟩ := HR2.out.byte (j := 0) (by omega)
                          have RS := Lib.hid (rd_sub (p := q) (q := e) (c := c2) HR2.out (by omega) (by omega) hc2)
                          unfold Im.txl at TN
                          rw [hp, hq] at TN
                          simp only [Int.toNat_natCast] at TN
                          rw [show nsz f = e - q by omega] at TN
                          have TNH : Hid (To ⟨f, wd, ht, l⟩ ⟨f, wd2, ht2, l2⟩ ⟨f, wd, ht, lput l' p (part l2 q (e - q))⟩ dx dy sx sy (fun u v => ((dx ≤ u ∧ u < dx + N) ∧ (dy ≤ v ∧ v < dy + y)) ∨ (v = dy + y ∧ (dx ≤ u ∧ u < dx + ((x + 1 : Nat) : Int))))) := Lib.hid TN
                          have cput := fun V (RX : Rd V V.heap.size .u8 A' n' l') (RY : Rd V V.heap.size .u8 (some ⟨bb, of + q, none⟩) (e - q) (part l2 q (e - q))) => (riput_b f wd ht A' (some ⟨bb, of + q, none⟩) n' c' (e - q) (c2 - q) p l' (part l2 q (e - q)) V RX RY (by omega) (by omega) : Calls Try.prog 43 _ V (GivesIO V 5 (Im.mk f wd ht (lput l' p (part l2 q (e - q))))))
                          obtain ⟨X0, hX0⟩ : ∃ X, dx + (x : Int) = X := ⟨_, rfl⟩
                          obtain ⟨Y0, hY0⟩ : ∃ X, dy + (y : Int) = X := ⟨_, rfl⟩
                          obtain ⟨X1, hX1⟩ : ∃ X, sx + (x : Int) = X := ⟨_, rfl⟩
                          obtain ⟨Y1, hY1⟩ : ∃ X, sy + (y : Int) = X := ⟨_, rfl⟩
                          have bX0 : 0 ≤ X0 ∧ X0 ≤ 64 := by have h := hi.2.1; simp only at h; rw [hX0] at h; omega
                          have bY0 : 0 ≤ Y0 ∧ Y0 ≤ 64 := by have h := hi.2.2; simp only at h; rw [hY0] at h; omega
                          have bX1 : 0 ≤ X1 ∧ X1 ≤ 64 := by have h := hs.2.1; simp only at h; rw [hX1] at h; omega
                          have bY1 : 0 ≤ Y1 ∧ Y1 ≤ 64 := by have h := hs.2.2; simp only at h; rw [hY1] at h; omega
                          have g1 : IntKind.i64.wrap (dx + (x : Int)) = X0 := by rw [hX0]; exact IntWalk.i64_in _ (by omega)
                          have g2 : IntKind.i64.wrap (dy + (y : Int)) = Y0 := by rw [hY0]; exact IntWalk.i64_in _ (by omega)
                          have g3 : IntKind.i64.wrap (sx + (x : Int)) = X1 := by rw [hX1]; exact IntWalk.i64_in _ (by omega)
                          have g4 : IntKind.i64.wrap (sy + (y : Int)) = Y1 := by rw [hY1]; exact IntWalk.i64_in _ (by omega)
                          have g5 : IntKind.i64.wrap ((q : Int) + (nsz f : Int)) = (e : Int) := by rw [show (q : Int) + (nsz f : Int) = (e : Int) by omega]; exact IntWalk.i64_in _ (by omega)
                          rw [hX1, hY1] at cq1
                          rw [hX0, hY0] at cp1
                          have CQ1 := Lib.hid cq1
                          have CP1 := Lib.hid cp1
                          have CPUT := Lib.hid cput
                          have hcq : ¬ c2 = q := by omega
                          have hqe : q ≤ e := by omega
                          have hec : e ≤ c2 := by omega
                          have DX := ST.box
                          have RX := ST.own.rd
                          have D0 := ST.D0
                          have D1 := ST.D1
                          have D2 := ST.D2
                          have BB := ST.BB
                          have hlt3 := ST.lt
                          clear cq1 cp1 cput hi hs hq hp TN hln hnx hpl hql hX0 hY0 hX1 hY1 bX0 bY0 bX1 bY1 he hsz0 ST hl32
                          go_wp2_with (first
                            | (refine wpList_iload rfl _ _ rfl imgT D1 rfl ?_)
                            | (go_at_call 14; (with_reducible refine (CQ1.out _).mono ?_); rintro _ _ ⟨rfl, B⟩; replace D0 := D0.on B; replace D1 := D1.on B; replace D2 := D2.on B; replace DX := DX.on B; replace RX := RX.on B; replace BB := bon BB B; clear B))
                          refine wp_region_treeC (fun W => IAt W w.heap.size f wd ht A n c ∧ IAt W (w.heap.size + 1) f wd2 ht2 (some ⟨bb, of, none⟩) n2 c2) (.read 1 (.read 2 (.read 3 (.read 4 (.read 5 (.read 6 (.read 7 (.read 9 (.read 10 (.read 11 (.read 12 (.read 13 (.read 14 (.read 15 (.fork2 0 (.fork1 8 (.fork1 16 (.fork1 17 .nil))) 8 (.fork1 0 (.fork1 16 (.fork1 17 .nil)))))))))))))))))) (by kernel_rfl) (by kernel_rfl) (fun W hB => ⟨D0.on hB, D1.on hB⟩) ?_
                          intro V3 B
                          replace D0 := D0.on B; replace D1 := D1.on B; replace D2 := D2.on B; replace DX := DX.on B; replace RX := RX.on B; replace BB := bon BB B; clear B
                          refine tree_read rfl ?_
                          refine wpQuiet_step (fun K hK => ?_)
                          rw [if_pos (by rfl)]
                          refine quiet_iload _ _ rfl imgT (fun W hW => hW.1) rfl ?_
                          go_simp
                          refine hK _ ?_
                          clear hK K
                          refine wpQuiet_nil ?_
                          refine tree_read rfl ?_
                          refine wpQuiet_step (fun K hK => ?_)
                          rw [if_pos (by rfl)]
                          first | refine quiet_move _ rfl ?_ | refine quiet_assign _ rfl ?_
                          go_simp
                          refine hK _ ?_
                          clear hK K
                          refine wpQuiet_nil ?_
                          refine tree_read rfl ?_
                          refine wpQuiet_step (fun K hK => ?_)
                          rw [if_pos (by rfl)]
                          first | refine quiet_move _ rfl ?_ | refine quiet_assign _ rfl ?_
                          go_simp
                          refine hK _ ?_
                          clear hK K
                          refine wpQuiet_nil ?_
                          refine tree_read rfl ?_
                          refine wpQuiet_step (fun K hK => ?_)
                          rw [if_pos (by rfl)]
                          refine quiet_val (.int .i64 X0) (fun W hW => by simp [execOp, go_sem, g1]) ?_
                          go_simp
                          refine hK _ ?_
                          clear hK K
                          refine wpQuiet_nil ?_
                          refine tree_read rfl ?_
                          refine wpQuiet_step (fun K hK => ?_)
                          rw [if_pos (by rfl)]
                          first | refine quiet_move _ rfl ?_ | refine quiet_assign _ rfl ?_
                          go_simp
                          refine hK _ ?_
                          clear hK K
                          refine wpQuiet_nil ?_
                          refine tree_read rfl ?_
                          refine wpQuiet_step (fun K hK => ?_)
                          rw [if_pos (by rfl)]
                          first | refine quiet_move _ rfl ?_ | refine quiet_assign _ rfl ?_
                          go_simp
                          refine hK _ ?_
                          clear hK K
                          refine wpQuiet_nil ?_
                          refine tree_read rfl ?_
                          refine wpQuiet_step (fun K hK => ?_)
                          rw [if_pos (by rfl)]
                          refine quiet_val (.int .i64 Y0) (fun W hW => by simp [execOp, go_sem, g2]) ?_
                          go_simp
                          refine hK _ ?_
                          clear hK K
                          refine wpQuiet_nil ?_
                          refine tree_read rfl ?_
                          refine wpQuiet_step (fun K hK => ?_)
                          rw [if_pos (by rfl)]
                          refine quiet_val (.pointer (some ⟨(w.heap.size + 1), 3, none⟩)) (fun W hW => by simp [execOp, go_sem]) ?_
                          go_simp
                          refine hK _ ?_
                          clear hK K
                          refine wpQuiet_nil ?_
                          refine tree_read rfl ?_
                          refine wpQuiet_step (fun K hK => ?_)
                          rw [if_pos (by rfl)]
                          refine quiet_val (.slice (some ⟨bb, of, none⟩) n2 c2) (fun W hW => by have h0 := hW.2.2.2.2; simp [execOp, go_sem, h0]) ?_
                          go_simp
                          refine hK _ ?_
                          clear hK K
                          refine wpQuiet_nil ?_
                          refine tree_read rfl ?_
                          refine wpQuiet_step (fun K hK => ?_)
                          rw [if_pos (by rfl)]
                          first | refine quiet_move _ rfl ?_ | refine quiet_assign _ rfl ?_
                          go_simp
                          refine hK _ ?_
                          clear hK K
                          refine wpQuiet_nil ?_
                          refine tree_read rfl ?_
                          refine wpQuiet_step (fun K hK => ?_)
                          rw [if_pos (by rfl)]
                          first | refine quiet_move _ rfl ?_ | refine quiet_assign _ rfl ?_
                          go_simp
                          refine hK _ ?_
                          clear hK K
                          refine wpQuiet_nil ?_
                          refine tree_read rfl ?_
                          refine wpQuiet_step (fun K hK => ?_)
                          rw [if_pos (by rfl)]
                          first | refine quiet_move _ rfl ?_ | refine quiet_assign _ rfl ?_
                          go_simp
                          refine hK _ ?_
                          clear hK K
                          refine wpQuiet_nil ?_
                          refine tree_read rfl ?_
                          refine wpQuiet_step (fun K hK => ?_)
                          rw [if_pos (by rfl)]
                          refine quiet_val (.int .i64 (e : Int)) (fun W hW => by simp [execOp, go_sem, g5]) ?_
                          go_simp
                          refine hK _ ?_
                          clear hK K
                          refine wpQuiet_nil ?_
                          refine tree_read rfl ?_
                          refine wpQuiet_step (fun K hK => ?_)
                          rw [if_pos (by rfl)]
                          refine quiet_val (.slice (some ⟨bb, of + q, none⟩) (e - q) (c2 - q)) (fun W hW => by simp [execOp, go_sem, hcq, hqe, hec]) ?_
                          go_simp
                          refine hK _ ?_
                          clear hK K
                          refine wpQuiet_nil ?_
                          refine tree_two rfl rfl ?_ ?_
                          · go_wp2_with (refine wpList_iload rfl _ _ rfl imgT DX.1 rfl ?_)
                            refine ⟨⟨D0, D1⟩, ?_⟩
                            refine tree_one rfl ?_
                            go_wp2_with (go_at_call 14; (with_reducible refine (CP1.out _).mono ?_); rintro _ _ ⟨rfl, B⟩; replace D0 := D0.on B; replace D1 := D1.on B; replace D2 := D2.on B; replace DX := DX.on B; replace RX := RX.on B; replace BB := bon BB B; clear B)
                            refine ⟨⟨D0, D1⟩, ?_⟩
                            refine tree_one rfl ?_
                            go_wp2_with (go_at_call 43; (with_reducible refine (CPUT.out _ RX (RS.out.on BB)).mono ?_); rintro _ V4 ⟨A4, n4, c4, rfl, own4, B⟩; have hDV := DX.lt; have HV4 := B.size; have HO4 := Lib.hid own4; clear own4; replace D0 := D0.on B; replace D1 := D1.on B; replace D2 := D2.on B; replace DX := DX.on B; replace BB := bon BB B; clear B)
                            refine ⟨⟨D0, D1⟩, ?_⟩
                            refine tree_one rfl ?_
                            go_wp2_with (refine wpList_iset rfl _ _ _ rfl rfl rfl DX (by kernel_rfl) ?_; intro V6 B6 D6 hg hz; have HG := Lib.hid hg; clear hg)
                            have hDX := DX.lt
                            replace D0 := D0.below (by omega) B6
                            replace D1 := D1.below (by omega) B6
                            replace D2 := D2.below (by omega) B6
                            replace BB := BB.trans (B6.mono (by omega))
                            refine ⟨⟨D0, D1⟩, ?_⟩
                            refine tree_nil ?_
                            have HR4 := Lib.hid ((HO4.out.past HG.out (by omega)).weak (show w.heap.size + 3 ≤ _ by omega))
                            clear RX DX B6 HO4 HG hDX hDV HV4 hz RS
                            go_wp2
                            go_roundw
                            case rel => exact ⟨x + 1, A4, n4, c4, lput l' p (part l2 q (e - q)), by omega, by go_num, ⟨TNH.out, D6, HR4.out, D0, D1, D2, BB, hlt3⟩⟩
                            case measure => simp [intOf]; omega
                          · go_wp2_with (go_at_call 14; (with_reducible refine (CP1.out _).mono ?_); rintro _ _ ⟨rfl, B⟩; replace D0 := D0.on B; replace D1 := D1.on B; replace D2 := D2.on B; replace DX := DX.on B; replace RX := RX.on B; replace BB := bon BB B; clear B)
                            refine ⟨⟨D0, D1⟩, ?_⟩
                            refine tree_one rfl ?_
                            go_wp2_with (refine wpList_iload rfl _ _ rfl imgT DX.1 rfl ?_)
                            refine ⟨⟨D0, D1⟩, ?_⟩
                            refine tree_one rfl ?_
                            go_wp2_with (go_at_call 43; (with_reducible refine (CPUT.out _ RX (RS.out.on BB)).mono ?_); rintro _ V4 ⟨A4, n4, c4, rfl, own4, B⟩; have hDV := DX.lt; have HV4 := B.size; have HO4 := Lib.hid own4; clear own4; replace D0 := D0.on B; replace D1 := D1.on B; replace D2 := D2.on B; replace DX := DX.on B; replace BB := bon BB B; clear B)
                            refine ⟨⟨D0, D1⟩, ?_⟩
                            refine tree_one rfl ?_
                            go_wp2_with (refine wpList_iset rfl _ _ _ rfl rfl rfl DX (by kernel_rfl) ?_; intro V6 B6 D6 hg hz; have HG := Lib.hid hg; clear hg)
                            have hDX := DX.lt
                            replace D0 := D0.below (by omega) B6
                            replace D1 := D1.below (by omega) B6
                            replace D2 := D2.below (by omega) B6
                            replace BB := BB.trans (B6.mono (by omega))
                            refine ⟨⟨D0, D1⟩, ?_⟩
                            refine tree_nil ?_
                            have HR4 := Lib.hid ((HO4.out.past HG.out (by omega)).weak (show w.heap.size + 3 ≤ _ by omega))
                            clear RX DX B6 HO4 HG hDX hDV HV4 hz RS
                            go_wp2
                            go_roundw
                            case rel => exact ⟨x + 1, A4, n4, c4, lput l' p (part l2 q (e - q)), by omega, by go_num, ⟨TNH.out, D6, HR4.out, D0, D1, D2, BB, hlt3⟩⟩
                            case measure => simp [intOf]; omega
                        · obtain rfl : x = N := by omega
                          have SH : Hid (CpS w W1.heap.size f wd ht wd2 ht2 A A2 n c n2 c2 l l2 dx dy sx sy (fun u v => (dx ≤ u ∧ u < dx + x) ∧ (dy ≤ v ∧ v < dy + ((y + 1 : Nat) : Int))) wr A' n' c' l') := Lib.hid { ST with to_ := ST.to_.same (fun u v _ => by omega) }
                          clear ST
                          go_wp2
                          go_roundw
                          case rel => exact ⟨y + 1, A', n', c', l', by omega, by go_num, SH.out⟩
                          case measure => simp [intOf]; omega
                    · obtain rfl : y = M := by omega
                      have HE := Lib.hid (To.uniq FF.out.dok TR.out ST.to_)
                      have DX := ST.box
                      have D2 := ST.D2
                      have BB := ST.BB
                      have HOX := Lib.hid ST.own
                      have hcx := ST.own.room
                      have hlt := ST.lt
                      clear ST TR FF
                      go_wp2_with (first
                        | (refine wpList_iload rfl _ _ rfl imgT DX.1 rfl ?_)
                        | (refine wpList_iset rfl _ _ _ rfl rfl rfl D2 (by kernel_rfl) ?_; intro V6 B6 D3 hg hz; have HG := Lib.hid hg; clear hg))
                      obtain ⟨⟨d0, d1, d2, d3⟩, _⟩ := D3
                      rw [← HE.out]
                      exact bodyPost_ret (v := .tuple #[.agg #[.int .i64 f, .int .i64 wd, .int .i64 ht, .slice A' n' c'], .int .i64 0]) (by simp [results, Try.results22, go_sem, *]) rfl ⟨A', n', c', rfl, hcx, (HOX.out.past HG.out (by omega)).rd, BB.trans (B6.mono (by omega))⟩
                · rw [decide_eq_false k4] at q4
                  rw [hno (by unfold within; simp only; omega)]
                  have Q1 := Lib.hid q1
                  have Q2 := Lib.hid q2
                  have Q3 := Lib.hid q3
                  have Q4 := Lib.hid q4
                  clear h1 h2 R R2 hno q1 q2 q3 q4
                  obtain ⟨⟨i0, i1, i2, i3⟩, _⟩ := D0
                  obtain ⟨⟨j0, j1, j2, j3⟩, _⟩ := D1
                  go_enter Try.func22, Try.ntmps22
                  go_wp2_with (first
                    | (go_at_call 12; (with_reducible refine ((V1).out _).mono ?_); rintro _ _ ⟨rfl, B⟩; replace i0 := cell_below B i0; replace i1 := cell_below B i1; replace i2 := cell_below B i2; replace i3 := cell_below B i3; replace j0 := cell_below B j0; replace j1 := cell_below B j1; replace j2 := cell_below B j2; replace j3 := cell_below B j3; replace D2 := D2.on B; replace BB := bon BB B; clear B)
                    | (go_at_call 12; (with_reducible refine ((V2).out _).mono ?_); rintro _ _ ⟨rfl, B⟩; replace i0 := cell_below B i0; replace i1 := cell_below B i1; replace i2 := cell_below B i2; replace i3 := cell_below B i3; replace j0 := cell_below B j0; replace j1 := cell_below B j1; replace j2 := cell_below B j2; replace j3 := cell_below B j3; replace D2 := D2.on B; replace BB := bon BB B; clear B)
                    | (go_at_call 45; (with_reducible refine ((Q1).out _).mono ?_); rintro _ _ ⟨rfl, B⟩; replace i0 := cell_below B i0; replace i1 := cell_below B i1; replace i2 := cell_below B i2; replace i3 := cell_below B i3; replace j0 := cell_below B j0; replace j1 := cell_below B j1; replace j2 := cell_below B j2; replace j3 := cell_below B j3; replace D2 := D2.on B; replace BB := bon BB B; clear B)
                    | (go_at_call 45; (with_reducible refine ((Q2).out _).mono ?_); rintro _ _ ⟨rfl, B⟩; replace i0 := cell_below B i0; replace i1 := cell_below B i1; replace i2 := cell_below B i2; replace i3 := cell_below B i3; replace j0 := cell_below B j0; replace j1 := cell_below B j1; replace j2 := cell_below B j2; replace j3 := cell_below B j3; replace D2 := D2.on B; replace BB := bon BB B; clear B)
                    | (go_at_call 45; (with_reducible refine ((Q3).out _).mono ?_); rintro _ _ ⟨rfl, B⟩; replace i0 := cell_below B i0; replace i1 := cell_below B i1; replace i2 := cell_below B i2; replace i3 := cell_below B i3; replace j0 := cell_below B j0; replace j1 := cell_below B j1; replace j2 := cell_below B j2; replace j3 := cell_below B j3; replace D2 := D2.on B; replace BB := bon BB B; clear B)
                    | (go_at_call 45; (with_reducible refine ((Q4).out _).mono ?_); rintro _ _ ⟨rfl, B⟩; replace i0 := cell_below B i0; replace i1 := cell_below B i1; replace i2 := cell_below B i2; replace i3 := cell_below B i3; replace j0 := cell_below B j0; replace j1 := cell_below B j1; replace j2 := cell_below B j2; replace j3 := cell_below B j3; replace D2 := D2.on B; replace BB := bon BB B; clear B)
                    | (refine wpList_iset rfl _ _ _ rfl rfl rfl D2 (by kernel_rfl) ?_; intro V6 B6 D3 hg hz; have HG := Lib.hid hg; clear hg))
                  obtain ⟨⟨d0, d1, d2, d3⟩, _⟩ := D3
                  clear i0 i1 i2 i3 j0 j1 j2 j3
                  exact bodyPost_ret (v := .tuple #[.agg #[.int .i64 0, .int .i64 0, .int .i64 0, .slice none 0 0], .int .i64 6]) (by simp [results, Try.results22, go_sem, *]) rfl ⟨none, 0, 0, rfl, Nat.le_refl _, Rd.nil _ _ _ _, BB.trans (B6.mono (by have := BB.size; omega))⟩
              · rw [decide_eq_false k3] at q3
                rw [hno (by unfold within; simp only; omega)]
                have Q1 := Lib.hid q1
                have Q2 := Lib.hid q2
                have Q3 := Lib.hid q3
                clear h1 h2 R R2 hno q1 q2 q3 q4
                obtain ⟨⟨i0, i1, i2, i3⟩, _⟩ := D0
                obtain ⟨⟨j0, j1, j2, j3⟩, _⟩ := D1
                go_enter Try.func22, Try.ntmps22
                go_wp2_with (first
                  | (go_at_call 12; (with_reducible refine ((V1).out _).mono ?_); rintro _ _ ⟨rfl, B⟩; replace i0 := cell_below B i0; replace i1 := cell_below B i1; replace i2 := cell_below B i2; replace i3 := cell_below B i3; replace j0 := cell_below B j0; replace j1 := cell_below B j1; replace j2 := cell_below B j2; replace j3 := cell_below B j3; replace D2 := D2.on B; replace BB := bon BB B; clear B)
                  | (go_at_call 12; (with_reducible refine ((V2).out _).mono ?_); rintro _ _ ⟨rfl, B⟩; replace i0 := cell_below B i0; replace i1 := cell_below B i1; replace i2 := cell_below B i2; replace i3 := cell_below B i3; replace j0 := cell_below B j0; replace j1 := cell_below B j1; replace j2 := cell_below B j2; replace j3 := cell_below B j3; replace D2 := D2.on B; replace BB := bon BB B; clear B)
                  | (go_at_call 45; (with_reducible refine ((Q1).out _).mono ?_); rintro _ _ ⟨rfl, B⟩; replace i0 := cell_below B i0; replace i1 := cell_below B i1; replace i2 := cell_below B i2; replace i3 := cell_below B i3; replace j0 := cell_below B j0; replace j1 := cell_below B j1; replace j2 := cell_below B j2; replace j3 := cell_below B j3; replace D2 := D2.on B; replace BB := bon BB B; clear B)
                  | (go_at_call 45; (with_reducible refine ((Q2).out _).mono ?_); rintro _ _ ⟨rfl, B⟩; replace i0 := cell_below B i0; replace i1 := cell_below B i1; replace i2 := cell_below B i2; replace i3 := cell_below B i3; replace j0 := cell_below B j0; replace j1 := cell_below B j1; replace j2 := cell_below B j2; replace j3 := cell_below B j3; replace D2 := D2.on B; replace BB := bon BB B; clear B)
                  | (go_at_call 45; (with_reducible refine ((Q3).out _).mono ?_); rintro _ _ ⟨rfl, B⟩; replace i0 := cell_below B i0; replace i1 := cell_below B i1; replace i2 := cell_below B i2; replace i3 := cell_below B i3; replace j0 := cell_below B j0; replace j1 := cell_below B j1; replace j2 := cell_below B j2; replace j3 := cell_below B j3; replace D2 := D2.on B; replace BB := bon BB B; clear B)
                  | (refine wpList_iset rfl _ _ _ rfl rfl rfl D2 (by kernel_rfl) ?_; intro V6 B6 D3 hg hz; have HG := Lib.hid hg; clear hg))
                obtain ⟨⟨d0, d1, d2, d3⟩, _⟩ := D3
                clear i0 i1 i2 i3 j0 j1 j2 j3
                exact bodyPost_ret (v := .tuple #[.agg #[.int .i64 0, .int .i64 0, .int .i64 0, .slice none 0 0], .int .i64 6]) (by simp [results, Try.results22, go_sem, *]) rfl ⟨none, 0, 0, rfl, Nat.le_refl _, Rd.nil _ _ _ _, BB.trans (B6.mono (by have := BB.size; omega))⟩
            · rw [decide_eq_false k2] at q2
              rw [hno (by unfold within; simp only; omega)]
              have Q1 := Lib.hid q1
              have Q2 := Lib.hid q2
              clear h1 h2 R R2 hno q1 q2 q3 q4
              obtain ⟨⟨i0, i1, i2, i3⟩, _⟩ := D0
              obtain ⟨⟨j0, j1, j2, j3⟩, _⟩ := D1
              go_enter Try.func22, Try.ntmps22
              go_wp2_with (first
                | (go_at_call 12; (with_reducible refine ((V1).out _).mono ?_); rintro _ _ ⟨rfl, B⟩; replace i0 := cell_below B i0; replace i1 := cell_below B i1; replace i2 := cell_below B i2; replace i3 := cell_below B i3; replace j0 := cell_below B j0; replace j1 := cell_below B j1; replace j2 := cell_below B j2; replace j3 := cell_below B j3; replace D2 := D2.on B; replace BB := bon BB B; clear B)
                | (go_at_call 12; (with_reducible refine ((V2).out _).mono ?_); rintro _ _ ⟨rfl, B⟩; replace i0 := cell_below B i0; replace i1 := cell_below B i1; replace i2 := cell_below B i2; replace i3 := cell_below B i3; replace j0 := cell_below B j0; replace j1 := cell_below B j1; replace j2 := cell_below B j2; replace j3 := cell_below B j3; replace D2 := D2.on B; replace BB := bon BB B; clear B)
                | (go_at_call 45; (with_reducible refine ((Q1).out _).mono ?_); rintro _ _ ⟨rfl, B⟩; replace i0 := cell_below B i0; replace i1 := cell_below B i1; replace i2 := cell_below B i2; replace i3 := cell_below B i3; replace j0 := cell_below B j0; replace j1 := cell_below B j1; replace j2 := cell_below B j2; replace j3 := cell_below B j3; replace D2 := D2.on B; replace BB := bon BB B; clear B)
                | (go_at_call 45; (with_reducible refine ((Q2).out _).mono ?_); rintro _ _ ⟨rfl, B⟩; replace i0 := cell_below B i0; replace i1 := cell_below B i1; replace i2 := cell_below B i2; replace i3 := cell_below B i3; replace j0 := cell_below B j0; replace j1 := cell_below B j1; replace j2 := cell_below B j2; replace j3 := cell_below B j3; replace D2 := D2.on B; replace BB := bon BB B; clear B)
                | (refine wpList_iset rfl _ _ _ rfl rfl rfl D2 (by kernel_rfl) ?_; intro V6 B6 D3 hg hz; have HG := Lib.hid hg; clear hg))
              obtain ⟨⟨d0, d1, d2, d3⟩, _⟩ := D3
              clear i0 i1 i2 i3 j0 j1 j2 j3
              exact bodyPost_ret (v := .tuple #[.agg #[.int .i64 0, .int .i64 0, .int .i64 0, .slice none 0 0], .int .i64 6]) (by simp [results, Try.results22, go_sem, *]) rfl ⟨none, 0, 0, rfl, Nat.le_refl _, Rd.nil _ _ _ _, BB.trans (B6.mono (by have := BB.size; omega))⟩
          · rw [decide_eq_false k1] at q1
            rw [hno (by unfold within; simp only; omega)]
            have Q1 := Lib.hid q1
            clear h1 h2 R R2 hno q1 q2 q3 q4
            obtain ⟨⟨i0, i1, i2, i3⟩, _⟩ := D0
            obtain ⟨⟨j0, j1, j2, j3⟩, _⟩ := D1
            go_enter Try.func22, Try.ntmps22
            go_wp2_with (first
              | (go_at_call 12; (with_reducible refine ((V1).out _).mono ?_); rintro _ _ ⟨rfl, B⟩; replace i0 := cell_below B i0; replace i1 := cell_below B i1; replace i2 := cell_below B i2; replace i3 := cell_below B i3; replace j0 := cell_below B j0; replace j1 := cell_below B j1; replace j2 := cell_below B j2; replace j3 := cell_below B j3; replace D2 := D2.on B; replace BB := bon BB B; clear B)
              | (go_at_call 12; (with_reducible refine ((V2).out _).mono ?_); rintro _ _ ⟨rfl, B⟩; replace i0 := cell_below B i0; replace i1 := cell_below B i1; replace i2 := cell_below B i2; replace i3 := cell_below B i3; replace j0 := cell_below B j0; replace j1 := cell_below B j1; replace j2 := cell_below B j2; replace j3 := cell_below B j3; replace D2 := D2.on B; replace BB := bon BB B; clear B)
              | (go_at_call 45; (with_reducible refine ((Q1).out _).mono ?_); rintro _ _ ⟨rfl, B⟩; replace i0 := cell_below B i0; replace i1 := cell_below B i1; replace i2 := cell_below B i2; replace i3 := cell_below B i3; replace j0 := cell_below B j0; replace j1 := cell_below B j1; replace j2 := cell_below B j2; replace j3 := cell_below B j3; replace D2 := D2.on B; replace BB := bon BB B; clear B)
              | (refine wpList_iset rfl _ _ _ rfl rfl rfl D2 (by kernel_rfl) ?_; intro V6 B6 D3 hg hz; have HG := Lib.hid hg; clear hg))
            obtain ⟨⟨d0, d1, d2, d3⟩, _⟩ := D3
            clear i0 i1 i2 i3 j0 j1 j2 j3
            exact bodyPost_ret (v := .tuple #[.agg #[.int .i64 0, .int .i64 0, .int .i64 0, .slice none 0 0], .int .i64 6]) (by simp [results, Try.results22, go_sem, *]) rfl ⟨none, 0, 0, rfl, Nat.le_refl _, Rd.nil _ _ _ _, BB.trans (B6.mono (by have := BB.size; omega))⟩
      · rw [show cpI ⟨f, wd, ht, l⟩ ⟨f2, wd2, ht2, l2⟩ dx dy sx sy a b = (imZ, 14) by unfold cpI; rw [if_neg (fun h => h ⟨h1, h2⟩), if_pos h3]]
        have h3' : (f != f2) = true := by simp [h3]
        clear h1 h2 R R2
        obtain ⟨⟨i0, i1, i2, i3⟩, _⟩ := D0
        obtain ⟨⟨j0, j1, j2, j3⟩, _⟩ := D1
        go_enter Try.func22, Try.ntmps22
        go_wp2_with (first
          | (go_at_call 12; (with_reducible refine ((V1).out _).mono ?_); rintro _ _ ⟨rfl, B⟩; replace i0 := cell_below B i0; replace i1 := cell_below B i1; replace i2 := cell_below B i2; replace i3 := cell_below B i3; replace j0 := cell_below B j0; replace j1 := cell_below B j1; replace j2 := cell_below B j2; replace j3 := cell_below B j3; replace D2 := D2.on B; replace BB := bon BB B; clear B)
          | (go_at_call 12; (with_reducible refine ((V2).out _).mono ?_); rintro _ _ ⟨rfl, B⟩; replace i0 := cell_below B i0; replace i1 := cell_below B i1; replace i2 := cell_below B i2; replace i3 := cell_below B i3; replace j0 := cell_below B j0; replace j1 := cell_below B j1; replace j2 := cell_below B j2; replace j3 := cell_below B j3; replace D2 := D2.on B; replace BB := bon BB B; clear B)
          | (refine wpList_iset rfl _ _ _ rfl rfl rfl D2 (by kernel_rfl) ?_; intro V6 B6 D3 hg hz; have HG := Lib.hid hg; clear hg))
        obtain ⟨⟨d0, d1, d2, d3⟩, _⟩ := D3
        clear i0 i1 i2 i3 j0 j1 j2 j3
        exact bodyPost_ret (v := .tuple #[.agg #[.int .i64 0, .int .i64 0, .int .i64 0, .slice none 0 0], .int .i64 14]) (by simp [results, Try.results22, go_sem, *]) rfl ⟨none, 0, 0, rfl, Nat.le_refl _, Rd.nil _ _ _ _, BB.trans (B6.mono (by have := BB.size; omega))⟩
    · rw [decide_eq_false h2] at v2
      rw [show cpI ⟨f, wd, ht, l⟩ ⟨f2, wd2, ht2, l2⟩ dx dy sx sy a b = (imZ, 2) by unfold cpI; rw [if_pos (fun h => h2 h.2)]]
      have V1 := Lib.hid v1
      have V2 := Lib.hid v2
      clear v1 v2 h1 h2 R R2
      obtain ⟨⟨i0, i1, i2, i3⟩, _⟩ := D0
      obtain ⟨⟨j0, j1, j2, j3⟩, _⟩ := D1
      go_enter Try.func22, Try.ntmps22
      go_wp2_with (first
        | (go_at_call 12; (with_reducible refine ((V1).out _).mono ?_); rintro _ _ ⟨rfl, B⟩; replace i0 := cell_below B i0; replace i1 := cell_below B i1; replace i2 := cell_below B i2; replace i3 := cell_below B i3; replace j0 := cell_below B j0; replace j1 := cell_below B j1; replace j2 := cell_below B j2; replace j3 := cell_below B j3; replace D2 := D2.on B; replace BB := bon BB B; clear B)
        | (go_at_call 12; (with_reducible refine ((V2).out _).mono ?_); rintro _ _ ⟨rfl, B⟩; replace i0 := cell_below B i0; replace i1 := cell_below B i1; replace i2 := cell_below B i2; replace i3 := cell_below B i3; replace j0 := cell_below B j0; replace j1 := cell_below B j1; replace j2 := cell_below B j2; replace j3 := cell_below B j3; replace D2 := D2.on B; replace BB := bon BB B; clear B)
        | (refine wpList_iset rfl _ _ _ rfl rfl rfl D2 (by kernel_rfl) ?_; intro V6 B6 D3 hg hz; have HG := Lib.hid hg; clear hg))
      obtain ⟨⟨d0, d1, d2, d3⟩, _⟩ := D3
      clear i0 i1 i2 i3 j0 j1 j2 j3
      exact bodyPost_ret (v := .tuple #[.agg #[.int .i64 0, .int .i64 0, .int .i64 0, .slice none 0 0], .int .i64 2]) (by simp [results, Try.results22, go_sem, *]) rfl ⟨none, 0, 0, rfl, Nat.le_refl _, Rd.nil _ _ _ _, BB.trans (B6.mono (by have := BB.size; omega))⟩
  · rw [decide_eq_false h1] at v1
    rw [show cpI ⟨f, wd, ht, l⟩ ⟨f2, wd2, ht2, l2⟩ dx dy sx sy a b = (imZ, 2) by unfold cpI; rw [if_pos (fun h => h1 h.1)]]
    have V1 := Lib.hid v1
    clear v1 v2 h1 R R2
    obtain ⟨⟨i0, i1, i2, i3⟩, _⟩ := D0
    obtain ⟨⟨j0, j1, j2, j3⟩, _⟩ := D1
    go_enter Try.func22, Try.ntmps22
    go_wp2_with (first
      | (go_at_call 12; (with_reducible refine ((V1).out _).mono ?_); rintro _ _ ⟨rfl, B⟩; replace i0 := cell_below B i0; replace i1 := cell_below B i1; replace i2 := cell_below B i2; replace i3 := cell_below B i3; replace j0 := cell_below B j0; replace j1 := cell_below B j1; replace j2 := cell_below B j2; replace j3 := cell_below B j3; replace D2 := D2.on B; replace BB := bon BB B; clear B)
      | (refine wpList_iset rfl _ _ _ rfl rfl rfl D2 (by kernel_rfl) ?_; intro V6 B6 D3 hg hz; have HG := Lib.hid hg; clear hg))
    obtain ⟨⟨d0, d1, d2, d3⟩, _⟩ := D3
    clear i0 i1 i2 i3 j0 j1 j2 j3
    exact bodyPost_ret (v := .tuple #[.agg #[.int .i64 0, .int .i64 0, .int .i64 0, .slice none 0 0], .int .i64 2]) (by simp [results, Try.results22, go_sem, *]) rfl ⟨none, 0, 0, rfl, Nat.le_refl _, Rd.nil _ _ _ _, BB.trans (B6.mono (by have := BB.size; omega))⟩

end Go.Proofs.Ytlnbkahpklnfaaa
