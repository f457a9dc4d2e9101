/- What package image's Copy returns. -/
import Derived.Test.YtlnbkahpklnfaaaIT
import Derived.Test.YtlnbkahpklnfaaaI15
import Derived.Test.YtlnbkahpklnfaaaTailK
namespace Go.Proofs.Ytlnbkahpklnfaaa
open Go.RowKit Go.Sort

/-- The state of Copy's loop. -/
structure CpP (w : World) (b g : Nat) (f wd ht wd2 ht2 : Int) (A A2 : Option Addr) (n c n2 c2 d1 : Nat) (wr : World) (L : List Int) : Prop where
  own : Own wr (w.heap.size + 3) 5 .u8 (some ⟨g, 0, none⟩) n d1 L
  box : IBox wr b f wd ht (some ⟨g, 0, none⟩) n d1
  D0 : IAt wr w.heap.size f wd ht A n c
  D1 : IAt wr (w.heap.size + 1) f wd2 ht2 A2 n2 c2
  D2 : IBox wr (w.heap.size + 2) 0 0 0 none 0 0
  BB : Below w.heap.size w wr
  lt : w.heap.size + 2 < b
  ne : g < b

section
variable {P : Program} {ops : Array Oper} {rest : List Oper} {o : Oper} {a : Act} {Q : Exit → Act → World → Prop}

/-- 'copy' of nothing. -/
theorem wpList_copy0 (W : World) (hgd : o.guard = none) (s x : Operand) (t : TypeId) (ho : o.op = .call { callee := .builtin .copy, args := #[s, x], argTypes := #[t, t] })
    {e : TypeId} {k : IntKind} {bytes : Nat} (E : Elem P t e k bytes) {A A2 : Option Addr} {dn dc mc : Nat} (hs : a.eval s = .slice A dn dc) (hx : a.eval x = .slice A2 0 mc)
    (h : wpList P ops Q rest (a.put o.dst (goInt 0)) W) : wpList P ops Q (o :: rest) a W := by
  obtain ⟨hu, i, hi, _, hsz, _⟩ := E
  have hsz' : (P.info? e).map (·.size) = some 1 := by rw [hi]; exact congrArg some hsz
  refine wpList_plain hgd fun K hK => ?_
  have hrun := run_copy_none (P := P) W t t o.type e A A2 dn dc 0 mc hu hsz' (by simp)
  unfold Oper.wp execOp
  simp only [ho, resolve, invoke, builtin, Sem.run_bind, Sem.run_pure, Result.andThen_ok, List.map_toArray, List.map_cons, List.map_nil, hs, hx]
  rw [hrun]
  exact hK _ _ h
end

theorem inB_true {wd ht x y a b : Int} (h : (0 ≤ x ∧ x + a ≤ wd) ∧ (0 ≤ y ∧ y + b ≤ ht)) : inB wd ht x y a b = true := decide_eq_true (by omega)
theorem inB_false {wd ht x y a b : Int} (h : ¬ ((0 ≤ x ∧ x + a ≤ wd) ∧ (0 ≤ y ∧ y + b ≤ ht))) : inB wd ht x y a b = false := decide_eq_false (by omega)

set_option maxRecDepth 100000 in
set_option maxHeartbeats 2000000 in
theorem pcopy_err (f wd ht f2 wd2 ht2 : Int) (A A2 : Option Addr) (n c n2 c2 : Nat) (l l2 : List Int) (dx dy sx sy a b : Int) (w : World) (R : Rd w w.heap.size .u8 A n l) (R2 : Rd w w.heap.size .u8 A2 n2 l2) (hno : ¬ Fit ⟨f, wd, ht, l⟩ ⟨f2, wd2, ht2, l2⟩ dx dy sx sy a b)
    (rng : (-9223372036854775808 ≤ dx ∧ dx ≤ 9223372036854775807) ∧ (-9223372036854775808 ≤ dy ∧ dy ≤ 9223372036854775807) ∧ (-9223372036854775808 ≤ sx ∧ sx ≤ 9223372036854775807) ∧ (-9223372036854775808 ≤ sy ∧ sy ≤ 9223372036854775807) ∧ (-9223372036854775808 ≤ a ∧ a ≤ 9223372036854775807) ∧ (-9223372036854775808 ≤ b ∧ b ≤ 9223372036854775807)) :
    Calls Try.prog 21 #[.agg #[.int .i64 f, .int .i64 wd, .int .i64 ht, .slice A n c], .agg #[.int .i64 f2, .int .i64 wd2, .int .i64 ht2, .slice A2 n2 c2], .int .i64 dx, .int .i64 dy, .int .i64 sx, .int .i64 sy, .int .i64 a, .int .i64 b] w (GivesIE w (cpI ⟨f, wd, ht, l⟩ ⟨f2, wd2, ht2, l2⟩ dx dy sx sy a b).1 (cpI ⟨f, wd, ht, l⟩ ⟨f2, wd2, ht2, l2⟩ dx dy sx sy a b).2) := by
  have z1 : (w.alloc (.cells #[.int .i64 f, .int .i64 wd, .int .i64 ht, .slice A n c] 25)).heap.size = w.heap.size + 1 := by simp
  have z2 : ((w.alloc (.cells #[.int .i64 f, .int .i64 wd, .int .i64 ht, .slice A n c] 25)).alloc (.cells #[.int .i64 f2, .int .i64 wd2, .int .i64 ht2, .slice A2 n2 c2] 25)).heap.size = w.heap.size + 2 := by simp
  have hsz : (((w.alloc (.cells #[.int .i64 f, .int .i64 wd, .int .i64 ht, .slice A n c] 25)).alloc (.cells #[.int .i64 f2, .int .i64 wd2, .int .i64 ht2, .slice A2 n2 c2] 25)).alloc (.cells #[.int .i64 0, .int .i64 0, .int .i64 0, .slice none 0 0] 25)).heap.size = w.heap.size + 3 := by simp
  have E0 := IBox.made w f wd ht A n c 25
  have b0 := box_below w #[.int .i64 f, .int .i64 wd, .int .i64 ht, .slice A n c] 25
  have E1 := IBox.made (w.alloc (.cells #[.int .i64 f, .int .i64 wd, .int .i64 ht, .slice A n c] 25)) f2 wd2 ht2 A2 n2 c2 25
  have b1 := box_below (w.alloc (.cells #[.int .i64 f, .int .i64 wd, .int .i64 ht, .slice A n c] 25)) #[.int .i64 f2, .int .i64 wd2, .int .i64 ht2, .slice A2 n2 c2] 25
  have D2 := IBox.made ((w.alloc (.cells #[.int .i64 f, .int .i64 wd, .int .i64 ht, .slice A n c] 25)).alloc (.cells #[.int .i64 f2, .int .i64 wd2, .int .i64 ht2, .slice A2 n2 c2] 25)) 0 0 0 none 0 0 25
  have b2 := box_below ((w.alloc (.cells #[.int .i64 f, .int .i64 wd, .int .i64 ht, .slice A n c] 25)).alloc (.cells #[.int .i64 f2, .int .i64 wd2, .int .i64 ht2, .slice A2 n2 c2] 25)) #[.int .i64 0, .int .i64 0, .int .i64 0, .slice none 0 0] 25
  have D0 := (E0.on b1).on b2
  have D1 := E1.on b2
  have BB := bon (bon b0 b1) b2
  rw [z1] at D1
  rw [z2] at D2
  clear E0 E1 b0 b1 b2 z1 z2
  have v1 := fun W => pvalid_b f wd ht A n c l W R.len
  have v2 := fun W => pvalid_b f2 wd2 ht2 A2 n2 c2 l2 W R2.len
  by_cases h1 : (Im.mk f wd ht l).ok
  · rw [decide_eq_true h1] at v1
    by_cases h2 : (Im.mk f2 wd2 ht2 l2).ok
    · rw [decide_eq_true h2] at v2
      have V1 := Lib.hid v1
      have V2 := Lib.hid v2
      clear v1 v2
      by_cases h3 : f = f2
      · subst h3
        rcases (show a < 0 ∨ (0 ≤ a ∧ b < 0) ∨ (0 ≤ a ∧ 0 ≤ b) by omega) with h4 | ⟨h4, h5⟩ | ⟨h4, h5⟩
        · rw [show cpI ⟨f, wd, ht, l⟩ ⟨f, wd2, ht2, l2⟩ dx dy sx sy a b = (imZ, 15) by unfold cpI; rw [if_neg (fun h => h ⟨h1, h2⟩), if_neg (fun h => h rfl), if_pos (.inl h4)]]
          clear h1 h2 R R2 hno
          obtain ⟨⟨i0, i1, i2, i3⟩, _⟩ := D0
          obtain ⟨⟨j0, j1, j2, j3⟩, _⟩ := D1
          go_enter Try.func21, Try.ntmps21
          go_wp2_with (first
            | (go_at_call 11; (with_reducible refine ((V1).out _).mono ?_); rintro _ _ ⟨rfl, B⟩; replace i0 := cell_below B i0; replace i1 := cell_below B i1; replace i2 := cell_below B i2; replace i3 := cell_below B i3; replace j0 := cell_below B j0; replace j1 := cell_below B j1; replace j2 := cell_below B j2; replace j3 := cell_below B j3; replace D2 := D2.on B; replace BB := bon BB B; clear B)
            | (go_at_call 11; (with_reducible refine ((V2).out _).mono ?_); rintro _ _ ⟨rfl, B⟩; replace i0 := cell_below B i0; replace i1 := cell_below B i1; replace i2 := cell_below B i2; replace i3 := cell_below B i3; replace j0 := cell_below B j0; replace j1 := cell_below B j1; replace j2 := cell_below B j2; replace j3 := cell_below B j3; replace D2 := D2.on B; replace BB := bon BB B; clear B)
            | (refine wpList_iset rfl _ _ _ rfl rfl rfl D2 (by kernel_rfl) ?_; intro V6 B6 D3 hg hz; have HG := Lib.hid hg; clear hg))
          obtain ⟨⟨d0, d1, d2, d3⟩, _⟩ := D3
          clear i0 i1 i2 i3 j0 j1 j2 j3
          exact bodyPost_ret (v := .tuple #[.agg #[.int .i64 0, .int .i64 0, .int .i64 0, .slice none 0 0], .int .i64 15]) (by simp [results, Try.results21, go_sem, *]) rfl ⟨none, 0, 0, rfl, Nat.le_refl _, Rd.nil _ _ _ _, BB.trans (B6.mono (by have := BB.size; omega))⟩
        · rw [show cpI ⟨f, wd, ht, l⟩ ⟨f, wd2, ht2, l2⟩ dx dy sx sy a b = (imZ, 15) by unfold cpI; rw [if_neg (fun h => h ⟨h1, h2⟩), if_neg (fun h => h rfl), if_pos (.inr h5)]]
          clear h1 h2 R R2 hno
          obtain ⟨⟨i0, i1, i2, i3⟩, _⟩ := D0
          obtain ⟨⟨j0, j1, j2, j3⟩, _⟩ := D1
          go_enter Try.func21, Try.ntmps21
          go_wp2_with (first
            | (go_at_call 11; (with_reducible refine ((V1).out _).mono ?_); rintro _ _ ⟨rfl, B⟩; replace i0 := cell_below B i0; replace i1 := cell_below B i1; replace i2 := cell_below B i2; replace i3 := cell_below B i3; replace j0 := cell_below B j0; replace j1 := cell_below B j1; replace j2 := cell_below B j2; replace j3 := cell_below B j3; replace D2 := D2.on B; replace BB := bon BB B; clear B)
            | (go_at_call 11; (with_reducible refine ((V2).out _).mono ?_); rintro _ _ ⟨rfl, B⟩; replace i0 := cell_below B i0; replace i1 := cell_below B i1; replace i2 := cell_below B i2; replace i3 := cell_below B i3; replace j0 := cell_below B j0; replace j1 := cell_below B j1; replace j2 := cell_below B j2; replace j3 := cell_below B j3; replace D2 := D2.on B; replace BB := bon BB B; clear B)
            | (refine wpList_iset rfl _ _ _ rfl rfl rfl D2 (by kernel_rfl) ?_; intro V6 B6 D3 hg hz; have HG := Lib.hid hg; clear hg))
          obtain ⟨⟨d0, d1, d2, d3⟩, _⟩ := D3
          clear i0 i1 i2 i3 j0 j1 j2 j3
          exact bodyPost_ret (v := .tuple #[.agg #[.int .i64 0, .int .i64 0, .int .i64 0, .slice none 0 0], .int .i64 15]) (by simp [results, Try.results21, go_sem, *]) rfl ⟨none, 0, 0, rfl, Nat.le_refl _, Rd.nil _ _ _ _, BB.trans (B6.mono (by have := BB.size; omega))⟩
        · have hw : ¬ within ⟨f, wd, ht, l⟩ ⟨f, wd2, ht2, l2⟩ dx dy sx sy a b := fun h => hno ⟨h1, h2, rfl, h4, h5, h.1, h.2.1, h.2.2.1, h.2.2.2⟩
          rw [show cpI ⟨f, wd, ht, l⟩ ⟨f, wd2, ht2, l2⟩ dx dy sx sy a b = (imZ, 6) by unfold cpI; rw [if_neg (fun h => h ⟨h1, h2⟩), if_neg (fun h => h rfl), if_neg (by omega), if_pos hw]]
          have q1 := fun W => pinside_b f wd ht A n c dx dy a b W h1.2.1 h1.2.2.1 h4 h5 (by omega) (by omega)
          have q2 := fun W => pinside_b f wd2 ht2 A2 n2 c2 sx sy a b W h2.2.1 h2.2.2.1 h4 h5 (by omega) (by omega)
          by_cases k1 : (0 ≤ dx ∧ dx + a ≤ wd) ∧ (0 ≤ dy ∧ dy + b ≤ ht)
          · have k2 : ¬ ((0 ≤ sx ∧ sx + a ≤ wd2) ∧ (0 ≤ sy ∧ sy + b ≤ ht2)) := fun k2 => hw ⟨k1.1, k1.2, k2.1, k2.2⟩
            rw [inB_true k1] at q1
            rw [inB_false k2] at q2
            have Q1 := Lib.hid q1
            have Q2 := Lib.hid q2
            clear h1 h2 R R2 hno hw q1 q2 k1 k2 rng
            obtain ⟨⟨i0, i1, i2, i3⟩, _⟩ := D0
            obtain ⟨⟨j0, j1, j2, j3⟩, _⟩ := D1
            go_enter Try.func21, Try.ntmps21
            go_wp2_with (first
              | (go_at_call 11; (with_reducible refine ((V1).out _).mono ?_); rintro _ _ ⟨rfl, B⟩; replace i0 := cell_below B i0; replace i1 := cell_below B i1; replace i2 := cell_below B i2; replace i3 := cell_below B i3; replace j0 := cell_below B j0; replace j1 := cell_below B j1; replace j2 := cell_below B j2; replace j3 := cell_below B j3; replace D2 := D2.on B; replace BB := bon BB B; clear B)
              | (go_at_call 11; (with_reducible refine ((V2).out _).mono ?_); rintro _ _ ⟨rfl, B⟩; replace i0 := cell_below B i0; replace i1 := cell_below B i1; replace i2 := cell_below B i2; replace i3 := cell_below B i3; replace j0 := cell_below B j0; replace j1 := cell_below B j1; replace j2 := cell_below B j2; replace j3 := cell_below B j3; replace D2 := D2.on B; replace BB := bon BB B; clear B)
              | (go_at_call 38; (with_reducible refine ((Q1).out _).mono ?_); rintro _ _ ⟨rfl, B⟩; replace i0 := cell_below B i0; replace i1 := cell_below B i1; replace i2 := cell_below B i2; replace i3 := cell_below B i3; replace j0 := cell_below B j0; replace j1 := cell_below B j1; replace j2 := cell_below B j2; replace j3 := cell_below B j3; replace D2 := D2.on B; replace BB := bon BB B; clear B)
              | (go_at_call 38; (with_reducible refine ((Q2).out _).mono ?_); rintro _ _ ⟨rfl, B⟩; replace i0 := cell_below B i0; replace i1 := cell_below B i1; replace i2 := cell_below B i2; replace i3 := cell_below B i3; replace j0 := cell_below B j0; replace j1 := cell_below B j1; replace j2 := cell_below B j2; replace j3 := cell_below B j3; replace D2 := D2.on B; replace BB := bon BB B; clear B)
              | (refine wpList_iset rfl _ _ _ rfl rfl rfl D2 (by kernel_rfl) ?_; intro V6 B6 D3 hg hz; have HG := Lib.hid hg; clear hg))
            obtain ⟨⟨d0, d1, d2, d3⟩, _⟩ := D3
            clear i0 i1 i2 i3 j0 j1 j2 j3
            exact bodyPost_ret (v := .tuple #[.agg #[.int .i64 0, .int .i64 0, .int .i64 0, .slice none 0 0], .int .i64 6]) (by simp [results, Try.results21, go_sem, *]) rfl ⟨none, 0, 0, rfl, Nat.le_refl _, Rd.nil _ _ _ _, BB.trans (B6.mono (by have := BB.size; omega))⟩
          · rw [inB_false k1] at q1
            have Q1 := Lib.hid q1
            clear h1 h2 R R2 hno hw q1 q2 k1 rng
            obtain ⟨⟨i0, i1, i2, i3⟩, _⟩ := D0
            obtain ⟨⟨j0, j1, j2, j3⟩, _⟩ := D1
            go_enter Try.func21, Try.ntmps21
            go_wp2_with (first
              | (go_at_call 11; (with_reducible refine ((V1).out _).mono ?_); rintro _ _ ⟨rfl, B⟩; replace i0 := cell_below B i0; replace i1 := cell_below B i1; replace i2 := cell_below B i2; replace i3 := cell_below B i3; replace j0 := cell_below B j0; replace j1 := cell_below B j1; replace j2 := cell_below B j2; replace j3 := cell_below B j3; replace D2 := D2.on B; replace BB := bon BB B; clear B)
              | (go_at_call 11; (with_reducible refine ((V2).out _).mono ?_); rintro _ _ ⟨rfl, B⟩; replace i0 := cell_below B i0; replace i1 := cell_below B i1; replace i2 := cell_below B i2; replace i3 := cell_below B i3; replace j0 := cell_below B j0; replace j1 := cell_below B j1; replace j2 := cell_below B j2; replace j3 := cell_below B j3; replace D2 := D2.on B; replace BB := bon BB B; clear B)
              | (go_at_call 38; (with_reducible refine ((Q1).out _).mono ?_); rintro _ _ ⟨rfl, B⟩; replace i0 := cell_below B i0; replace i1 := cell_below B i1; replace i2 := cell_below B i2; replace i3 := cell_below B i3; replace j0 := cell_below B j0; replace j1 := cell_below B j1; replace j2 := cell_below B j2; replace j3 := cell_below B j3; replace D2 := D2.on B; replace BB := bon BB B; clear B)
              | (refine wpList_iset rfl _ _ _ rfl rfl rfl D2 (by kernel_rfl) ?_; intro V6 B6 D3 hg hz; have HG := Lib.hid hg; clear hg))
            obtain ⟨⟨d0, d1, d2, d3⟩, _⟩ := D3
            clear i0 i1 i2 i3 j0 j1 j2 j3
            exact bodyPost_ret (v := .tuple #[.agg #[.int .i64 0, .int .i64 0, .int .i64 0, .slice none 0 0], .int .i64 6]) (by simp [results, Try.results21, go_sem, *]) rfl ⟨none, 0, 0, rfl, Nat.le_refl _, Rd.nil _ _ _ _, BB.trans (B6.mono (by have := BB.size; omega))⟩
      · rw [show cpI ⟨f, wd, ht, l⟩ ⟨f2, wd2, ht2, l2⟩ dx dy sx sy a b = (imZ, 14) by unfold cpI; rw [if_neg (fun h => h ⟨h1, h2⟩), if_pos h3]]
        have h3' : (f != f2) = true := by simp [h3]
        clear h1 h2 R R2 hno
        obtain ⟨⟨i0, i1, i2, i3⟩, _⟩ := D0
        obtain ⟨⟨j0, j1, j2, j3⟩, _⟩ := D1
        go_enter Try.func21, Try.ntmps21
        go_wp2_with (first
          | (go_at_call 11; (with_reducible refine ((V1).out _).mono ?_); rintro _ _ ⟨rfl, B⟩; replace i0 := cell_below B i0; replace i1 := cell_below B i1; replace i2 := cell_below B i2; replace i3 := cell_below B i3; replace j0 := cell_below B j0; replace j1 := cell_below B j1; replace j2 := cell_below B j2; replace j3 := cell_below B j3; replace D2 := D2.on B; replace BB := bon BB B; clear B)
          | (go_at_call 11; (with_reducible refine ((V2).out _).mono ?_); rintro _ _ ⟨rfl, B⟩; replace i0 := cell_below B i0; replace i1 := cell_below B i1; replace i2 := cell_below B i2; replace i3 := cell_below B i3; replace j0 := cell_below B j0; replace j1 := cell_below B j1; replace j2 := cell_below B j2; replace j3 := cell_below B j3; replace D2 := D2.on B; replace BB := bon BB B; clear B)
          | (refine wpList_iset rfl _ _ _ rfl rfl rfl D2 (by kernel_rfl) ?_; intro V6 B6 D3 hg hz; have HG := Lib.hid hg; clear hg))
        obtain ⟨⟨d0, d1, d2, d3⟩, _⟩ := D3
        clear i0 i1 i2 i3 j0 j1 j2 j3
        exact bodyPost_ret (v := .tuple #[.agg #[.int .i64 0, .int .i64 0, .int .i64 0, .slice none 0 0], .int .i64 14]) (by simp [results, Try.results21, go_sem, *]) rfl ⟨none, 0, 0, rfl, Nat.le_refl _, Rd.nil _ _ _ _, BB.trans (B6.mono (by have := BB.size; omega))⟩
    · rw [decide_eq_false h2] at v2
      rw [show cpI ⟨f, wd, ht, l⟩ ⟨f2, wd2, ht2, l2⟩ dx dy sx sy a b = (imZ, 2) by unfold cpI; rw [if_pos (fun h => h2 h.2)]]
      have V1 := Lib.hid v1
      have V2 := Lib.hid v2
      clear v1 v2 h1 h2 R R2 hno
      obtain ⟨⟨i0, i1, i2, i3⟩, _⟩ := D0
      obtain ⟨⟨j0, j1, j2, j3⟩, _⟩ := D1
      go_enter Try.func21, Try.ntmps21
      go_wp2_with (first
        | (go_at_call 11; (with_reducible refine ((V1).out _).mono ?_); rintro _ _ ⟨rfl, B⟩; replace i0 := cell_below B i0; replace i1 := cell_below B i1; replace i2 := cell_below B i2; replace i3 := cell_below B i3; replace j0 := cell_below B j0; replace j1 := cell_below B j1; replace j2 := cell_below B j2; replace j3 := cell_below B j3; replace D2 := D2.on B; replace BB := bon BB B; clear B)
        | (go_at_call 11; (with_reducible refine ((V2).out _).mono ?_); rintro _ _ ⟨rfl, B⟩; replace i0 := cell_below B i0; replace i1 := cell_below B i1; replace i2 := cell_below B i2; replace i3 := cell_below B i3; replace j0 := cell_below B j0; replace j1 := cell_below B j1; replace j2 := cell_below B j2; replace j3 := cell_below B j3; replace D2 := D2.on B; replace BB := bon BB B; clear B)
        | (refine wpList_iset rfl _ _ _ rfl rfl rfl D2 (by kernel_rfl) ?_; intro V6 B6 D3 hg hz; have HG := Lib.hid hg; clear hg))
      obtain ⟨⟨d0, d1, d2, d3⟩, _⟩ := D3
      clear i0 i1 i2 i3 j0 j1 j2 j3
      exact bodyPost_ret (v := .tuple #[.agg #[.int .i64 0, .int .i64 0, .int .i64 0, .slice none 0 0], .int .i64 2]) (by simp [results, Try.results21, go_sem, *]) rfl ⟨none, 0, 0, rfl, Nat.le_refl _, Rd.nil _ _ _ _, BB.trans (B6.mono (by have := BB.size; omega))⟩
  · rw [decide_eq_false h1] at v1
    rw [show cpI ⟨f, wd, ht, l⟩ ⟨f2, wd2, ht2, l2⟩ dx dy sx sy a b = (imZ, 2) by unfold cpI; rw [if_pos (fun h => h1 h.1)]]
    have V1 := Lib.hid v1
    clear v1 v2 h1 R R2 hno
    obtain ⟨⟨i0, i1, i2, i3⟩, _⟩ := D0
    obtain ⟨⟨j0, j1, j2, j3⟩, _⟩ := D1
    go_enter Try.func21, Try.ntmps21
    go_wp2_with (first
      | (go_at_call 11; (with_reducible refine ((V1).out _).mono ?_); rintro _ _ ⟨rfl, B⟩; replace i0 := cell_below B i0; replace i1 := cell_below B i1; replace i2 := cell_below B i2; replace i3 := cell_below B i3; replace j0 := cell_below B j0; replace j1 := cell_below B j1; replace j2 := cell_below B j2; replace j3 := cell_below B j3; replace D2 := D2.on B; replace BB := bon BB B; clear B)
      | (refine wpList_iset rfl _ _ _ rfl rfl rfl D2 (by kernel_rfl) ?_; intro V6 B6 D3 hg hz; have HG := Lib.hid hg; clear hg))
    obtain ⟨⟨d0, d1, d2, d3⟩, _⟩ := D3
    clear i0 i1 i2 i3 j0 j1 j2 j3
    exact bodyPost_ret (v := .tuple #[.agg #[.int .i64 0, .int .i64 0, .int .i64 0, .slice none 0 0], .int .i64 2]) (by simp [results, Try.results21, go_sem, *]) rfl ⟨none, 0, 0, rfl, Nat.le_refl _, Rd.nil _ _ _ _, BB.trans (B6.mono (by have := BB.size; omega))⟩

set_option maxRecDepth 100000 in
set_option maxHeartbeats 2000000 in
theorem pcopy_some (f wd ht f2 wd2 ht2 : Int) (A A2 : Option Addr) (n c n2 c2 : Nat) (l l2 : List Int) (dx dy sx sy a b : Int) (w : World) (R : Rd w w.heap.size .u8 A n l) (R2 : Rd w w.heap.size .u8 A2 n2 l2) (F : Fit ⟨f, wd, ht, l⟩ ⟨f2, wd2, ht2, l2⟩ dx dy sx sy a b) (ha : 1 ≤ a) (hc2 : n2 ≤ c2)
    (rng : (-9223372036854775808 ≤ dx ∧ dx ≤ 9223372036854775807) ∧ (-9223372036854775808 ≤ dy ∧ dy ≤ 9223372036854775807) ∧ (-9223372036854775808 ≤ sx ∧ sx ≤ 9223372036854775807) ∧ (-9223372036854775808 ≤ sy ∧ sy ≤ 9223372036854775807) ∧ (-9223372036854775808 ≤ a ∧ a ≤ 9223372036854775807) ∧ (-9223372036854775808 ≤ b ∧ b ≤ 9223372036854775807)) :
    Calls Try.prog 21 #[.agg #[.int .i64 f, .int .i64 wd, .int .i64 ht, .slice A n c], .agg #[.int .i64 f2, .int .i64 wd2, .int .i64 ht2, .slice A2 n2 c2], .int .i64 dx, .int .i64 dy, .int .i64 sx, .int .i64 sy, .int .i64 a, .int .i64 b] w (GivesIE w (cpI ⟨f, wd, ht, l⟩ ⟨f2, wd2, ht2, l2⟩ dx dy sx sy a b).1 (cpI ⟨f, wd, ht, l⟩ ⟨f2, wd2, ht2, l2⟩ dx dy sx sy a b).2) := by
  have z1 : (w.alloc (.cells #[.int .i64 f, .int .i64 wd, .int .i64 ht, .slice A n c] 25)).heap.size = w.heap.size + 1 := by simp
  have z2 : ((w.alloc (.cells #[.int .i64 f, .int .i64 wd, .int .i64 ht, .slice A n c] 25)).alloc (.cells #[.int .i64 f2, .int .i64 wd2, .int .i64 ht2, .slice A2 n2 c2] 25)).heap.size = w.heap.size + 2 := by simp
  have hsz : (((w.alloc (.cells #[.int .i64 f, .int .i64 wd, .int .i64 ht, .slice A n c] 25)).alloc (.cells #[.int .i64 f2, .int .i64 wd2, .int .i64 ht2, .slice A2 n2 c2] 25)).alloc (.cells #[.int .i64 0, .int .i64 0, .int .i64 0, .slice none 0 0] 25)).heap.size = w.heap.size + 3 := by simp
  have E0 := IBox.made w f wd ht A n c 25
  have b0 := box_below w #[.int .i64 f, .int .i64 wd, .int .i64 ht, .slice A n c] 25
  have E1 := IBox.made (w.alloc (.cells #[.int .i64 f, .int .i64 wd, .int .i64 ht, .slice A n c] 25)) f2 wd2 ht2 A2 n2 c2 25
  have b1 := box_below (w.alloc (.cells #[.int .i64 f, .int .i64 wd, .int .i64 ht, .slice A n c] 25)) #[.int .i64 f2, .int .i64 wd2, .int .i64 ht2, .slice A2 n2 c2] 25
  have D2 := IBox.made ((w.alloc (.cells #[.int .i64 f, .int .i64 wd, .int .i64 ht, .slice A n c] 25)).alloc (.cells #[.int .i64 f2, .int .i64 wd2, .int .i64 ht2, .slice A2 n2 c2] 25)) 0 0 0 none 0 0 25
  have b2 := box_below ((w.alloc (.cells #[.int .i64 f, .int .i64 wd, .int .i64 ht, .slice A n c] 25)).alloc (.cells #[.int .i64 f2, .int .i64 wd2, .int .i64 ht2, .slice A2 n2 c2] 25)) #[.int .i64 0, .int .i64 0, .int .i64 0, .slice none 0 0] 25
  have D0 := (E0.on b1).on b2
  have D1 := E1.on b2
  have BB := bon (bon b0 b1) b2
  rw [z1] at D1
  rw [z2] at D2
  clear E0 E1 b0 b1 b2 z1 z2
  obtain rfl : f2 = f := F.ff
  obtain ⟨M, rfl⟩ : ∃ M : Nat, b = M := ⟨b.toNat, by have := F.ht0; omega⟩
  obtain ⟨N, rfl⟩ : ∃ N : Nat, a = N := ⟨a.toNat, by omega⟩
  rw [cpI_ok F, Int.toNat_natCast]
  have h1 := F.dok
  have h2 := F.sok
  have v1 := fun W => pvalid_b f2 wd ht A n c l W R.len
  have v2 := fun W => pvalid_b f2 wd2 ht2 A2 n2 c2 l2 W R2.len
  rw [decide_eq_true h1] at v1
  rw [decide_eq_true h2] at v2
  have q1 := fun W => pinside_b f2 wd ht A n c dx dy N M W h1.2.1 h1.2.2.1 (by omega) (by omega) (by omega) (by omega)
  have q2 := fun W => pinside_b f2 wd2 ht2 A2 n2 c2 sx sy N M W h2.2.1 h2.2.2.1 (by omega) (by omega) (by omega) (by omega)
  rw [inB_true ⟨F.hx, F.hy⟩] at q1
  rw [inB_true ⟨F.kx, F.ky⟩] at q2
  have hnl : n ≤ 32768 := by have := Im.len_le h1; simp only at this; rw [R.len] at this; exact this
  have hn2 : n2 ≤ 32768 := by have := Im.len_le h2; simp only at this; rw [R2.len] at this; exact this
  have hwh : (1 ≤ wd ∧ wd ≤ 64) ∧ (1 ≤ ht ∧ ht ≤ 64) := ⟨h1.2.1, h1.2.2.1⟩
  have hwh2 : (1 ≤ wd2 ∧ wd2 ≤ 64) ∧ (1 ≤ ht2 ∧ ht2 ≤ 64) := ⟨h2.2.1, h2.2.2.1⟩
  have hs8 := nsz_le f2
  have hs0 : 1 ≤ nsz f2 := by have := h1.1; simp only at this; omega
  have hn1 : 1 ≤ n := by
    have e := h1.2.2.2
    simp only at e
    rw [R.len] at e
    have h := Int.mul_le_mul (Int.mul_le_mul hwh.1.1 hwh.2.1 (by omega) (by omega)) (show (1 : Int) ≤ nsz f2 by omega) (by omega) (Int.mul_nonneg (by omega) (by omega))
    omega
  have hn21 : 1 ≤ n2 := by
    have e := h2.2.2.2
    simp only at e
    rw [R2.len] at e
    have h := Int.mul_le_mul (Int.mul_le_mul hwh2.1.1 hwh2.2.1 (by omega) (by omega)) (show (1 : Int) ≤ nsz f2 by omega) (by omega) (Int.mul_nonneg (by omega) (by omega))
    omega
  have CC := Lib.hid (fun W R => pclone_b f2 wd ht A n c l W R (by omega))
  have V1 := Lib.hid v1
  have V2 := Lib.hid v2
  have Q1 := Lib.hid q1
  have Q2 := Lib.hid q2
  have CS := Lib.hid (fun W => iof_same (tsize_q f2 W))
  have FF := Lib.hid F
  have HR := Lib.hid R
  have HR2 := Lib.hid R2
  obtain ⟨⟨i0, i1, i2, i3⟩, _⟩ := D0
  obtain ⟨⟨j0, j1, j2, j3⟩, _⟩ := D1
  clear v1 v2 q1 q2 F R R2 h1 h2 rng
  go_enter Try.func21, Try.ntmps21
  go_wp2_with (first
    | (go_at_call 11; (with_reducible refine (V1.out _).mono ?_); rintro _ _ ⟨rfl, B⟩; replace i0 := cell_below B i0; replace i1 := cell_below B i1; replace i2 := cell_below B i2; replace i3 := cell_below B i3; replace j0 := cell_below B j0; replace j1 := cell_below B j1; replace j2 := cell_below B j2; replace j3 := cell_below B j3; replace D2 := D2.on B; replace BB := bon BB B; clear B)
    | (go_at_call 11; (with_reducible refine (V2.out _).mono ?_); rintro _ _ ⟨rfl, B⟩; replace i0 := cell_below B i0; replace i1 := cell_below B i1; replace i2 := cell_below B i2; replace i3 := cell_below B i3; replace j0 := cell_below B j0; replace j1 := cell_below B j1; replace j2 := cell_below B j2; replace j3 := cell_below B j3; replace D2 := D2.on B; replace BB := bon BB B; clear B)
    | (go_at_call 38; (with_reducible refine (Q1.out _).mono ?_); rintro _ _ ⟨rfl, B⟩; replace i0 := cell_below B i0; replace i1 := cell_below B i1; replace i2 := cell_below B i2; replace i3 := cell_below B i3; replace j0 := cell_below B j0; replace j1 := cell_below B j1; replace j2 := cell_below B j2; replace j3 := cell_below B j3; replace D2 := D2.on B; replace BB := bon BB B; clear B)
    | (go_at_call 38; (with_reducible refine (Q2.out _).mono ?_); rintro _ _ ⟨rfl, B⟩; replace i0 := cell_below B i0; replace i1 := cell_below B i1; replace i2 := cell_below B i2; replace i3 := cell_below B i3; replace j0 := cell_below B j0; replace j1 := cell_below B j1; replace j2 := cell_below B j2; replace j3 := cell_below B j3; replace D2 := D2.on B; replace BB := bon BB B; clear B)
    | (go_at_call 29; (with_reducible refine (CC.out _ ((HR.out.below BB).more BB.size)).mono ?_); rintro _ W1 ⟨A1, n1, d1, rfl, own1, B⟩; have HS0 := D2.lt; have HS1 := B.size; obtain rfl : n1 = n := (by rw [← own1.len]; exact HR.out.len); obtain ⟨g, rfl, hgb, -, -, -, -⟩ := own1.stored (j := 0) (v := 0) (by omega) (by decide); have hgl := own1.lt; have OW := Lib.hid own1; clear own1; replace i0 := cell_below B i0; replace i1 := cell_below B i1; replace i2 := cell_below B i2; replace i3 := cell_below B i3; replace j0 := cell_below B j0; replace j1 := cell_below B j1; replace j2 := cell_below B j2; replace j3 := cell_below B j3; replace D2 := D2.on B; replace BB := bon BB B; clear B; have bx := box_below W1 #[.int .i64 f2, .int .i64 wd, .int .i64 ht, .slice (some ⟨g, 0, none⟩) n1 d1] 25; have BBX := bon BB bx))
  have hs1 := D2.lt
  have SH : Hid (CpP w W1.heap.size g f2 wd ht wd2 ht2 A A2 n1 c n2 c2 d1 (W1.alloc (.cells #[.int .i64 f2, .int .i64 wd, .int .i64 ht, .slice (some ⟨g, 0, none⟩) n1 d1] 25)) (Im.rows ⟨f2, wd, ht, l⟩ ⟨f2, wd2, ht2, l2⟩ dx dy sx sy N 0).l) :=
    Lib.hid ⟨(OW.out.on bx).weak (by omega), IBox.made W1 f2 wd ht (some ⟨g, 0, none⟩) n1 d1 25, IAt.on ⟨i0, i1, i2, i3⟩ bx, IAt.on ⟨j0, j1, j2, j3⟩ bx, D2.on bx, BBX, hs1, hgl⟩
  clear V1 V2 Q1 Q2 CC OW bx BBX i0 i1 i2 i3 j0 j1 j2 j3 D2 BB HS0 HS1 hgb
  go_loopw [67] (fun t wr => ∃ k : Nat, k ≤ M ∧ t = .int .i64 (k : Int) ∧ CpP w W1.heap.size g f2 wd ht wd2 ht2 A A2 n1 c n2 c2 d1 wr (Im.rows ⟨f2, wd, ht, l⟩ ⟨f2, wd2, ht2, l2⟩ dx dy sx sy N k).l) (fun t _ => M - (intOf t).toNat)
  case atStart => exact ⟨0, by omega, rfl, SH.out⟩
  case round =>
    clear SH
    obtain ⟨k, hk, rfl, ST⟩ := hrel
    by_cases hkM : k < M
    · have TK := To.rows FF.out k (by omega)
      obtain ⟨p, q, m, hp, hq, hm, hpl, hql⟩ := FF.out.row TK.ok TK.f TK.w TK.h (k := k) (by omega) (by omega)
      have hrow : (Im.rows ⟨f2, wd, ht, l⟩ ⟨f2, wd2, ht2, l2⟩ dx dy sx sy N (k + 1)).l = lput (Im.rows ⟨f2, wd, ht, l⟩ ⟨f2, wd2, ht2, l2⟩ dx dy sx sy N k).l p (part l2 q m) := by
        show (Im.row _ _ dx dy sx sy N k (Im.rows _ _ dx dy sx sy N k)).l = _
        unfold Im.row
        rw [hp, hq, hm]
        rfl
      rw [ST.own.len] at hpl
      simp only at hp hq hm hql
      rw [HR2.out.len] at hql
      obtain ⟨Y0, hY0⟩ : ∃ X, dy + (k : Int) = X := ⟨_, rfl⟩
      obtain ⟨Y1, hY1⟩ : ∃ X, sy + (k : Int) = X := ⟨_, rfl⟩
      have bx := FF.out.hx
      have by_ := FF.out.hy
      have bu := FF.out.kx
      have bv := FF.out.ky
      simp only at bx by_ bu bv
      have cst1 := fun W => pstart_b f2 wd2 ht2 A2 n2 c2 sx Y1 W hwh2.1 (by omega) (by omega)
      have cst0 := fun W => pstart_b f2 wd ht A n1 c dx Y0 W hwh.1 (by omega) (by omega)
      rw [hY1] at hq
      rw [hY0] at hp
      rw [hq] at cst1
      rw [hp] at cst0
      obtain ⟨e, he⟩ : ∃ e, q + m = e := ⟨_, rfl⟩
      have g1 : IntKind.i64.wrap (sy + (k : Int)) = Y1 := by rw [hY1]; exact IntWalk.i64_in _ (by omega)
      have g2 : IntKind.i64.wrap (dy + (k : Int)) = Y0 := by rw [hY0]; exact IntWalk.i64_in _ (by omega)
      have g3 : IntKind.i64.wrap ((N : Int) * (nsz f2 : Int)) = (m : Int) := by rw [hm]; exact IntWalk.i64_in _ (by omega)
      have g4 : IntKind.i64.wrap ((q : Int) + (m : Int)) = (e : Int) := by rw [show (q : Int) + (m : Int) = (e : Int) by omega]; exact IntWalk.i64_in _ (by omega)
      have hm1 : 1 ≤ m := by
        have h := Int.mul_le_mul (show (1 : Int) ≤ (N : Int) by omega) (show (1 : Int) ≤ nsz f2 by omega) (by omega) (by omega)
        rw [hm] at h
        omega
      obtain ⟨bb, of, _, rfl, _, _, _, _⟩ := HR2.out.byte (j := 0) (by omega)
      have RS := Lib.hid (rd_sub (p := q) (q := e) (c := c2) HR2.out (by omega) (by omega) hc2)
      rw [show m = e - q by omega] at hrow
      have room := ST.own.room
      have hcq : ¬ c2 = q := by omega
      have hcp : ¬ d1 = p := by omega
      have hpm : p + (e - q) ≤ n1 := by omega
      have hk64 : (k : Int) ≤ 64 := by omega
      have hqe : q ≤ e := by omega
      have hec : e ≤ c2 := by omega
      have hpn : p ≤ n1 := by omega
      have hpI : (p : Int) ≤ (n1 : Int) := by omega
      have hqI : (q : Int) ≤ (e : Int) := by omega
      have heI : (e : Int) ≤ (c2 : Int) := by omega
      have HROW := Lib.hid hrow
      have CST0 := Lib.hid cst0
      have CST1 := Lib.hid cst1
      have DX := ST.box
      have OX := Lib.hid ST.own
      have D0 := ST.D0
      have D1 := ST.D1
      have D2 := ST.D2
      have BB := ST.BB
      have hlt := ST.lt
      have hne := ST.ne
      clear TK hp hq hm hpl hql cst0 cst1 hrow hY0 hY1 bx by_ bu bv ST he hs0 hs8 hn1
      go_wp2_with (first
        | (refine wpList_iload rfl _ _ rfl imgT D1 rfl ?_)
        | (go_at_call 39; (with_reducible refine (CST1.out _).mono ?_); rintro _ V1 ⟨rfl, B⟩; replace DX := DX.on B; replace OX := Lib.hid (OX.out.on B); replace D0 := D0.on B; replace D1 := D1.on B; replace D2 := D2.on B; replace BB := bon BB B; clear B))
      have j0 := D1.1
      have j3 := D1.2.2.2
      have r3 := DX.1.2.2.2
      have k_j0 := cell_regrown j0
      have k_j3 := cell_regrown j3
      have k_r3 := cell_regrown r3
      refine wp_region_tailK (n := 20) (by kernel_rfl) (by kernel_rfl) ?_
      simp only [List.take_succ_cons, List.take_zero, List.drop_succ_cons, List.drop_zero]
      repeat (first | (go_big_quiet_want; refine quiet_iload _ _ rfl imgT (fun W hW => IAt.on D0 (below_regrown' hW)) rfl ?_; go_simp; go_big_quiet_on) | go_big_quiet_step ((first | (go_at_call 39; with_reducible exact Calls.regrown_of (CST0.out _)) | (go_at_call 34; exact Calls.regrown_of (CS.out _)))) | quiet_step ((first | (go_at_call 39; with_reducible exact Calls.regrown_of (CST0.out _)) | (go_at_call 34; exact Calls.regrown_of (CS.out _)))))
      refine wpQuiet_nil ?_
      intro W hw'
      have B := below_regrown' hw'
      clear hw' k_j0 k_j3 k_r3
      replace BB := bon BB B
      replace D0 := IAt.on D0 B
      replace j0 := cell_below B j0
      replace j3 := cell_below B j3
      replace r3 := cell_below B r3
      replace DX := DX.on B
      replace OX := Lib.hid (OX.out.on B)
      replace D1 := IAt.on D1 B
      replace D2 := D2.on B
      clear B j0 j3 r3
      go_wp2_with (refine wpList_copyO _ rfl _ _ _ rfl eB OX.out rfl (by omega) (RS.out.on BB) rfl (by omega) ?_; intro V5 own5 B5 hg5)
      rw [← HROW.out] at own5
      have HO5 := Lib.hid own5
      replace DX := DX.past hg5 (by omega)
      replace D0 := D0.below (by omega) B5
      replace D1 := D1.below (by omega) B5
      replace D2 := D2.below (by omega) B5
      replace BB := BB.trans (B5.mono (by omega))
      clear own5 OX hg5 B5
      go_wp2
      go_roundw
      case rel => exact ⟨k + 1, by omega, by go_num, ⟨HO5.out, DX, D0, D1, D2, BB, hlt, hne⟩⟩
      case measure => simp [intOf]; omega
    · obtain rfl : k = M := by omega
      have TK := To.rows FF.out k (by omega)
      have HE : Hid (Im.rows ⟨f2, wd, ht, l⟩ ⟨f2, wd2, ht2, l2⟩ dx dy sx sy N k = ⟨f2, wd, ht, (Im.rows ⟨f2, wd, ht, l⟩ ⟨f2, wd2, ht2, l2⟩ dx dy sx sy N k).l⟩) := Lib.hid (by
        have e1 := TK.f
        have e2 := TK.w
        have e3 := TK.h
        cases hr : Im.rows ⟨f2, wd, ht, l⟩ ⟨f2, wd2, ht2, l2⟩ dx dy sx sy N k
        rw [hr] at e1 e2 e3
        simp only at e1 e2 e3
        subst e1 e2 e3
        rfl)
      obtain ⟨L, hL⟩ : ∃ L, (Im.rows ⟨f2, wd, ht, l⟩ ⟨f2, wd2, ht2, l2⟩ dx dy sx sy N k).l = L := ⟨_, rfl⟩
      rw [hL] at HE ST
      have DX := ST.box
      have OX := Lib.hid ST.own
      have D2 := ST.D2
      have BB := ST.BB
      have hlt := ST.lt
      have hcx := ST.own.room
      clear TK hL ST FF
      go_wp2_with (first
        | (refine wpList_iload rfl _ _ rfl imgT DX.1 rfl ?_)
        | (refine wpList_iset rfl _ _ _ rfl rfl rfl D2 (by kernel_rfl) ?_; intro V6 B6 D3 hg hz; have HG := Lib.hid hg; clear hg))
      obtain ⟨⟨d0, d1', d2, d3⟩, _⟩ := D3
      rw [HE.out]
      exact bodyPost_ret (v := .tuple #[.agg #[.int .i64 f2, .int .i64 wd, .int .i64 ht, .slice (some ⟨g, 0, none⟩) n1 d1], .int .i64 0]) (by simp [results, Try.results21, go_sem, *]) rfl ⟨_, n1, d1, rfl, hcx, (OX.out.past HG.out (by omega)).rd, BB.trans (B6.mono (by omega))⟩

set_option maxRecDepth 100000 in
set_option maxHeartbeats 2000000 in
theorem pcopy_zero (f wd ht f2 wd2 ht2 : Int) (A A2 : Option Addr) (n c n2 c2 : Nat) (l l2 : List Int) (dx dy sx sy a b : Int) (w : World) (R : Rd w w.heap.size .u8 A n l) (R2 : Rd w w.heap.size .u8 A2 n2 l2) (F : Fit ⟨f, wd, ht, l⟩ ⟨f2, wd2, ht2, l2⟩ dx dy sx sy a b) (ha : a = 0) (hc2 : n2 ≤ c2)
    (rng : (-9223372036854775808 ≤ dx ∧ dx ≤ 9223372036854775807) ∧ (-9223372036854775808 ≤ dy ∧ dy ≤ 9223372036854775807) ∧ (-9223372036854775808 ≤ sx ∧ sx ≤ 9223372036854775807) ∧ (-9223372036854775808 ≤ sy ∧ sy ≤ 9223372036854775807) ∧ (-9223372036854775808 ≤ a ∧ a ≤ 9223372036854775807) ∧ (-9223372036854775808 ≤ b ∧ b ≤ 9223372036854775807)) :
    Calls Try.prog 21 #[.agg #[.int .i64 f, .int .i64 wd, .int .i64 ht, .slice A n c], .agg #[.int .i64 f2, .int .i64 wd2, .int .i64 ht2, .slice A2 n2 c2], .int .i64 dx, .int .i64 dy, .int .i64 sx, .int .i64 sy, .int .i64 a, .int .i64 b] w (GivesIE w (cpI ⟨f, wd, ht, l⟩ ⟨f2, wd2, ht2, l2⟩ dx dy sx sy a b).1 (cpI ⟨f, wd, ht, l⟩ ⟨f2, wd2, ht2, l2⟩ dx dy sx sy a b).2) := by
  have z1 : (w.alloc (.cells #[.int .i64 f, .int .i64 wd, .int .i64 ht, .slice A n c] 25)).heap.size = w.heap.size + 1 := by simp
  have z2 : ((w.alloc (.cells #[.int .i64 f, .int .i64 wd, .int .i64 ht, .slice A n c] 25)).alloc (.cells #[.int .i64 f2, .int .i64 wd2, .int .i64 ht2, .slice A2 n2 c2] 25)).heap.size = w.heap.size + 2 := by simp
  have hsz : (((w.alloc (.cells #[.int .i64 f, .int .i64 wd, .int .i64 ht, .slice A n c] 25)).alloc (.cells #[.int .i64 f2, .int .i64 wd2, .int .i64 ht2, .slice A2 n2 c2] 25)).alloc (.cells #[.int .i64 0, .int .i64 0, .int .i64 0, .slice none 0 0] 25)).heap.size = w.heap.size + 3 := by simp
  have E0 := IBox.made w f wd ht A n c 25
  have b0 := box_below w #[.int .i64 f, .int .i64 wd, .int .i64 ht, .slice A n c] 25
  have E1 := IBox.made (w.alloc (.cells #[.int .i64 f, .int .i64 wd, .int .i64 ht, .slice A n c] 25)) f2 wd2 ht2 A2 n2 c2 25
  have b1 := box_below (w.alloc (.cells #[.int .i64 f, .int .i64 wd, .int .i64 ht, .slice A n c] 25)) #[.int .i64 f2, .int .i64 wd2, .int .i64 ht2, .slice A2 n2 c2] 25
  have D2 := IBox.made ((w.alloc (.cells #[.int .i64 f, .int .i64 wd, .int .i64 ht, .slice A n c] 25)).alloc (.cells #[.int .i64 f2, .int .i64 wd2, .int .i64 ht2, .slice A2 n2 c2] 25)) 0 0 0 none 0 0 25
  have b2 := box_below ((w.alloc (.cells #[.int .i64 f, .int .i64 wd, .int .i64 ht, .slice A n c] 25)).alloc (.cells #[.int .i64 f2, .int .i64 wd2, .int .i64 ht2, .slice A2 n2 c2] 25)) #[.int .i64 0, .int .i64 0, .int .i64 0, .slice none 0 0] 25
  have D0 := (E0.on b1).on b2
  have D1 := E1.on b2
  have BB := bon (bon b0 b1) b2
  rw [z1] at D1
  rw [z2] at D2
  clear E0 E1 b0 b1 b2 z1 z2
  obtain rfl : f2 = f := F.ff
  obtain ⟨M, rfl⟩ : ∃ M : Nat, b = M := ⟨b.toNat, by have := F.ht0; omega⟩
  subst ha
  rw [cpI_ok F, Int.toNat_natCast]
  have h1 := F.dok
  have h2 := F.sok
  have v1 := fun W => pvalid_b f2 wd ht A n c l W R.len
  have v2 := fun W => pvalid_b f2 wd2 ht2 A2 n2 c2 l2 W R2.len
  rw [decide_eq_true h1] at v1
  rw [decide_eq_true h2] at v2
  have q1 := fun W => pinside_b f2 wd ht A n c dx dy 0 M W h1.2.1 h1.2.2.1 (by omega) (by omega) (by omega) (by omega)
  have q2 := fun W => pinside_b f2 wd2 ht2 A2 n2 c2 sx sy 0 M W h2.2.1 h2.2.2.1 (by omega) (by omega) (by omega) (by omega)
  rw [inB_true ⟨F.hx, F.hy⟩] at q1
  rw [inB_true ⟨F.kx, F.ky⟩] at q2
  have hnl : n ≤ 32768 := by have := Im.len_le h1; simp only at this; rw [R.len] at this; exact this
  have hn2 : n2 ≤ 32768 := by have := Im.len_le h2; simp only at this; rw [R2.len] at this; exact this
  have hwh : (1 ≤ wd ∧ wd ≤ 64) ∧ (1 ≤ ht ∧ ht ≤ 64) := ⟨h1.2.1, h1.2.2.1⟩
  have hwh2 : (1 ≤ wd2 ∧ wd2 ≤ 64) ∧ (1 ≤ ht2 ∧ ht2 ≤ 64) := ⟨h2.2.1, h2.2.2.1⟩
  have hs8 := nsz_le f2
  have hs0 : 1 ≤ nsz f2 := by have := h1.1; simp only at this; omega
  have hn1 : 1 ≤ n := by
    have e := h1.2.2.2
    simp only at e
    rw [R.len] at e
    have h := Int.mul_le_mul (Int.mul_le_mul hwh.1.1 hwh.2.1 (by omega) (by omega)) (show (1 : Int) ≤ nsz f2 by omega) (by omega) (Int.mul_nonneg (by omega) (by omega))
    omega
  have hn21 : 1 ≤ n2 := by
    have e := h2.2.2.2
    simp only at e
    rw [R2.len] at e
    have h := Int.mul_le_mul (Int.mul_le_mul hwh2.1.1 hwh2.2.1 (by omega) (by omega)) (show (1 : Int) ≤ nsz f2 by omega) (by omega) (Int.mul_nonneg (by omega) (by omega))
    omega
  have CC := Lib.hid (fun W R => pclone_b f2 wd ht A n c l W R (by omega))
  have V1 := Lib.hid v1
  have V2 := Lib.hid v2
  have Q1 := Lib.hid q1
  have Q2 := Lib.hid q2
  have CS := Lib.hid (fun W => iof_same (tsize_q f2 W))
  have FF := Lib.hid F
  have HR := Lib.hid R
  have HR2 := Lib.hid R2
  obtain ⟨⟨i0, i1, i2, i3⟩, _⟩ := D0
  obtain ⟨⟨j0, j1, j2, j3⟩, _⟩ := D1
  clear v1 v2 q1 q2 F R R2 h1 h2 rng
  go_enter Try.func21, Try.ntmps21
  go_wp2_with (first
    | (go_at_call 11; (with_reducible refine (V1.out _).mono ?_); rintro _ _ ⟨rfl, B⟩; replace i0 := cell_below B i0; replace i1 := cell_below B i1; replace i2 := cell_below B i2; replace i3 := cell_below B i3; replace j0 := cell_below B j0; replace j1 := cell_below B j1; replace j2 := cell_below B j2; replace j3 := cell_below B j3; replace D2 := D2.on B; replace BB := bon BB B; clear B)
    | (go_at_call 11; (with_reducible refine (V2.out _).mono ?_); rintro _ _ ⟨rfl, B⟩; replace i0 := cell_below B i0; replace i1 := cell_below B i1; replace i2 := cell_below B i2; replace i3 := cell_below B i3; replace j0 := cell_below B j0; replace j1 := cell_below B j1; replace j2 := cell_below B j2; replace j3 := cell_below B j3; replace D2 := D2.on B; replace BB := bon BB B; clear B)
    | (go_at_call 38; (with_reducible refine (Q1.out _).mono ?_); rintro _ _ ⟨rfl, B⟩; replace i0 := cell_below B i0; replace i1 := cell_below B i1; replace i2 := cell_below B i2; replace i3 := cell_below B i3; replace j0 := cell_below B j0; replace j1 := cell_below B j1; replace j2 := cell_below B j2; replace j3 := cell_below B j3; replace D2 := D2.on B; replace BB := bon BB B; clear B)
    | (go_at_call 38; (with_reducible refine (Q2.out _).mono ?_); rintro _ _ ⟨rfl, B⟩; replace i0 := cell_below B i0; replace i1 := cell_below B i1; replace i2 := cell_below B i2; replace i3 := cell_below B i3; replace j0 := cell_below B j0; replace j1 := cell_below B j1; replace j2 := cell_below B j2; replace j3 := cell_below B j3; replace D2 := D2.on B; replace BB := bon BB B; clear B)
    | (go_at_call 29; (with_reducible refine (CC.out _ ((HR.out.below BB).more BB.size)).mono ?_); rintro _ W1 ⟨A1, n1, d1, rfl, own1, B⟩; have HS0 := D2.lt; have HS1 := B.size; obtain rfl : n1 = n := (by rw [← own1.len]; exact HR.out.len); obtain ⟨g, rfl, hgb, -, -, -, -⟩ := own1.stored (j := 0) (v := 0) (by omega) (by decide); have hgl := own1.lt; have OW := Lib.hid own1; clear own1; replace i0 := cell_below B i0; replace i1 := cell_below B i1; replace i2 := cell_below B i2; replace i3 := cell_below B i3; replace j0 := cell_below B j0; replace j1 := cell_below B j1; replace j2 := cell_below B j2; replace j3 := cell_below B j3; replace D2 := D2.on B; replace BB := bon BB B; clear B; have bx := box_below W1 #[.int .i64 f2, .int .i64 wd, .int .i64 ht, .slice (some ⟨g, 0, none⟩) n1 d1] 25; have BBX := bon BB bx))
  have hs1 := D2.lt
  have SH : Hid (CpP w W1.heap.size g f2 wd ht wd2 ht2 A A2 n1 c n2 c2 d1 (W1.alloc (.cells #[.int .i64 f2, .int .i64 wd, .int .i64 ht, .slice (some ⟨g, 0, none⟩) n1 d1] 25)) (Im.rows ⟨f2, wd, ht, l⟩ ⟨f2, wd2, ht2, l2⟩ dx dy sx sy 0 0).l) :=
    Lib.hid ⟨(OW.out.on bx).weak (by omega), IBox.made W1 f2 wd ht (some ⟨g, 0, none⟩) n1 d1 25, IAt.on ⟨i0, i1, i2, i3⟩ bx, IAt.on ⟨j0, j1, j2, j3⟩ bx, D2.on bx, BBX, hs1, hgl⟩
  clear V1 V2 Q1 Q2 CC OW bx BBX i0 i1 i2 i3 j0 j1 j2 j3 D2 BB HS0 HS1 hgb
  go_loopw [67] (fun t wr => ∃ k : Nat, k ≤ M ∧ t = .int .i64 (k : Int) ∧ CpP w W1.heap.size g f2 wd ht wd2 ht2 A A2 n1 c n2 c2 d1 wr (Im.rows ⟨f2, wd, ht, l⟩ ⟨f2, wd2, ht2, l2⟩ dx dy sx sy 0 k).l) (fun t _ => M - (intOf t).toNat)
  case atStart => exact ⟨0, by omega, rfl, SH.out⟩
  case round =>
    clear SH
    obtain ⟨k, hk, rfl, ST⟩ := hrel
    by_cases hkM : k < M
    · have TK := To.rows FF.out k (by omega)
      obtain ⟨p, q, m, hp, hq, hm, hpl, hql⟩ := FF.out.row TK.ok TK.f TK.w TK.h (k := k) (by omega) (by omega)
      have hrow : (Im.rows ⟨f2, wd, ht, l⟩ ⟨f2, wd2, ht2, l2⟩ dx dy sx sy 0 (k + 1)).l = lput (Im.rows ⟨f2, wd, ht, l⟩ ⟨f2, wd2, ht2, l2⟩ dx dy sx sy 0 k).l p (part l2 q m) := by
        show (Im.row _ _ dx dy sx sy 0 k (Im.rows _ _ dx dy sx sy 0 k)).l = _
        unfold Im.row
        rw [hp, hq, hm]
        rfl
      rw [ST.own.len] at hpl
      simp only at hp hq hm hql
      rw [HR2.out.len] at hql
      obtain ⟨Y0, hY0⟩ : ∃ X, dy + (k : Int) = X := ⟨_, rfl⟩
      obtain ⟨Y1, hY1⟩ : ∃ X, sy + (k : Int) = X := ⟨_, rfl⟩
      have bx := FF.out.hx
      have by_ := FF.out.hy
      have bu := FF.out.kx
      have bv := FF.out.ky
      simp only at bx by_ bu bv
      have cst1 := fun W => pstart_b f2 wd2 ht2 A2 n2 c2 sx Y1 W hwh2.1 (by omega) (by omega)
      have cst0 := fun W => pstart_b f2 wd ht A n1 c dx Y0 W hwh.1 (by omega) (by omega)
      rw [hY1] at hq
      rw [hY0] at hp
      rw [hq] at cst1
      rw [hp] at cst0
      obtain ⟨e, he⟩ : ∃ e, q + m = e := ⟨_, rfl⟩
      have g1 : IntKind.i64.wrap (sy + (k : Int)) = Y1 := by rw [hY1]; exact IntWalk.i64_in _ (by omega)
      have g2 : IntKind.i64.wrap (dy + (k : Int)) = Y0 := by rw [hY0]; exact IntWalk.i64_in _ (by omega)
      have hm0 : m = 0 := by omega
      obtain ⟨bb, of, _, rfl, _, _, _, _⟩ := HR2.out.byte (j := 0) (by omega)
      subst hm0
      have g3 : IntKind.i64.wrap ((0 : Int) * (nsz f2 : Int)) = 0 := by rw [Int.zero_mul]; exact IntWalk.i64_in _ (by omega)
      obtain rfl : e = q := by omega
      have g4 : IntKind.i64.wrap (e : Int) = (e : Int) := IntWalk.i64_in _ (by omega)
      have hpart : part l2 e 0 = [] := by unfold part; simp
      rw [hpart, lput_nil] at hrow
      have room := ST.own.room
      have hk64 : (k : Int) ≤ 64 := by omega
      have hqe : e ≤ e := by omega
      have hec : e ≤ c2 := by omega
      have hpn : p ≤ n1 := by omega
      have hpI : (p : Int) ≤ (n1 : Int) := by omega
      have hqI : (e : Int) ≤ (e : Int) := by omega
      have heI : (e : Int) ≤ (c2 : Int) := by omega
      have HROW := Lib.hid hrow
      have CST0 := Lib.hid cst0
      have CST1 := Lib.hid cst1
      have DX := ST.box
      have OX := Lib.hid ST.own
      have D0 := ST.D0
      have D1 := ST.D1
      have D2 := ST.D2
      have BB := ST.BB
      have hlt := ST.lt
      have hne := ST.ne
      clear TK hp hq hpl hql cst0 cst1 hrow hY0 hY1 bx by_ bu bv ST he hs0 hs8 hn1
      rcases (show e < c2 ∨ e = c2 by omega) with hcq' | rfl
      · rcases (show p < d1 ∨ p = d1 by omega) with hcp' | rfl
        · have hcq : ¬ c2 = e := by omega
          have hcp : ¬ d1 = p := by omega
          go_wp2_with (first
            | (refine wpList_iload rfl _ _ rfl imgT D1 rfl ?_)
            | (go_at_call 39; (with_reducible refine (CST1.out _).mono ?_); rintro _ V1 ⟨rfl, B⟩; replace DX := DX.on B; replace OX := Lib.hid (OX.out.on B); replace D0 := D0.on B; replace D1 := D1.on B; replace D2 := D2.on B; replace BB := bon BB B; clear B))
          have j0 := D1.1
          have j3 := D1.2.2.2
          have r3 := DX.1.2.2.2
          have k_j0 := cell_regrown j0
          have k_j3 := cell_regrown j3
          have k_r3 := cell_regrown r3
          refine wp_region_tailK (n := 20) (by kernel_rfl) (by kernel_rfl) ?_
          simp only [List.take_succ_cons, List.take_zero, List.drop_succ_cons, List.drop_zero]
          repeat (first | (go_big_quiet_want; refine quiet_iload _ _ rfl imgT (fun W hW => IAt.on D0 (below_regrown' hW)) rfl ?_; go_simp; go_big_quiet_on) | go_big_quiet_step ((first | (go_at_call 39; with_reducible exact Calls.regrown_of (CST0.out _)) | (go_at_call 34; exact Calls.regrown_of (CS.out _)))) | quiet_step ((first | (go_at_call 39; with_reducible exact Calls.regrown_of (CST0.out _)) | (go_at_call 34; exact Calls.regrown_of (CS.out _)))))
          refine wpQuiet_nil ?_
          intro W hw'
          have B := below_regrown' hw'
          clear hw' k_j0 k_j3 k_r3
          replace BB := bon BB B
          replace D0 := IAt.on D0 B
          replace j0 := cell_below B j0
          replace j3 := cell_below B j3
          replace r3 := cell_below B r3
          replace DX := DX.on B
          replace OX := Lib.hid (OX.out.on B)
          replace D1 := IAt.on D1 B
          replace D2 := D2.on B
          clear B j0 j3 r3
          go_wp2_with (refine wpList_copy0 _ rfl _ _ _ rfl eB rfl rfl ?_)
          go_roundw
          case rel => exact ⟨k + 1, by omega, by go_num, ⟨by rw [HROW.out]; exact OX.out, DX, D0, D1, D2, BB, hlt, hne⟩⟩
          case measure => simp [intOf]; omega
        · have hcq : ¬ c2 = e := by omega
          go_wp2_with (first
            | (refine wpList_iload rfl _ _ rfl imgT D1 rfl ?_)
            | (go_at_call 39; (with_reducible refine (CST1.out _).mono ?_); rintro _ V1 ⟨rfl, B⟩; replace DX := DX.on B; replace OX := Lib.hid (OX.out.on B); replace D0 := D0.on B; replace D1 := D1.on B; replace D2 := D2.on B; replace BB := bon BB B; clear B))
          have j0 := D1.1
          have j3 := D1.2.2.2
          have r3 := DX.1.2.2.2
          have k_j0 := cell_regrown j0
          have k_j3 := cell_regrown j3
          have k_r3 := cell_regrown r3
          refine wp_region_tailK (n := 20) (by kernel_rfl) (by kernel_rfl) ?_
          simp only [List.take_succ_cons, List.take_zero, List.drop_succ_cons, List.drop_zero]
          repeat (first | (go_big_quiet_want; refine quiet_iload _ _ rfl imgT (fun W hW => IAt.on D0 (below_regrown' hW)) rfl ?_; go_simp; go_big_quiet_on) | go_big_quiet_step ((first | (go_at_call 39; with_reducible exact Calls.regrown_of (CST0.out _)) | (go_at_call 34; exact Calls.regrown_of (CS.out _)))) | quiet_step ((first | (go_at_call 39; with_reducible exact Calls.regrown_of (CST0.out _)) | (go_at_call 34; exact Calls.regrown_of (CS.out _)))))
          refine wpQuiet_nil ?_
          intro W hw'
          have B := below_regrown' hw'
          clear hw' k_j0 k_j3 k_r3
          replace BB := bon BB B
          replace D0 := IAt.on D0 B
          replace j0 := cell_below B j0
          replace j3 := cell_below B j3
          replace r3 := cell_below B r3
          replace DX := DX.on B
          replace OX := Lib.hid (OX.out.on B)
          replace D1 := IAt.on D1 B
          replace D2 := D2.on B
          clear B j0 j3 r3
          go_wp2_with (refine wpList_copy0 _ rfl _ _ _ rfl eB rfl rfl ?_)
          go_roundw
          case rel => exact ⟨k + 1, by omega, by go_num, ⟨by rw [HROW.out]; exact OX.out, DX, D0, D1, D2, BB, hlt, hne⟩⟩
          case measure => simp [intOf]; omega
      · rcases (show p < d1 ∨ p = d1 by omega) with hcp' | rfl
        · have hcp : ¬ d1 = p := by omega
          go_wp2_with (first
            | (refine wpList_iload rfl _ _ rfl imgT D1 rfl ?_)
            | (go_at_call 39; (with_reducible refine (CST1.out _).mono ?_); rintro _ V1 ⟨rfl, B⟩; replace DX := DX.on B; replace OX := Lib.hid (OX.out.on B); replace D0 := D0.on B; replace D1 := D1.on B; replace D2 := D2.on B; replace BB := bon BB B; clear B))
          have j0 := D1.1
          have j3 := D1.2.2.2
          have r3 := DX.1.2.2.2
          have k_j0 := cell_regrown j0
          have k_j3 := cell_regrown j3
          have k_r3 := cell_regrown r3
          refine wp_region_tailK (n := 20) (by kernel_rfl) (by kernel_rfl) ?_
          simp only [List.take_succ_cons, List.take_zero, List.drop_succ_cons, List.drop_zero]
          repeat (first | (go_big_quiet_want; refine quiet_iload _ _ rfl imgT (fun W hW => IAt.on D0 (below_regrown' hW)) rfl ?_; go_simp; go_big_quiet_on) | go_big_quiet_step ((first | (go_at_call 39; with_reducible exact Calls.regrown_of (CST0.out _)) | (go_at_call 34; exact Calls.regrown_of (CS.out _)))) | quiet_step ((first | (go_at_call 39; with_reducible exact Calls.regrown_of (CST0.out _)) | (go_at_call 34; exact Calls.regrown_of (CS.out _)))))
          refine wpQuiet_nil ?_
          intro W hw'
          have B := below_regrown' hw'
          clear hw' k_j0 k_j3 k_r3
          replace BB := bon BB B
          replace D0 := IAt.on D0 B
          replace j0 := cell_below B j0
          replace j3 := cell_below B j3
          replace r3 := cell_below B r3
          replace DX := DX.on B
          replace OX := Lib.hid (OX.out.on B)
          replace D1 := IAt.on D1 B
          replace D2 := D2.on B
          clear B j0 j3 r3
          go_wp2_with (refine wpList_copy0 _ rfl _ _ _ rfl eB rfl rfl ?_)
          go_roundw
          case rel => exact ⟨k + 1, by omega, by go_num, ⟨by rw [HROW.out]; exact OX.out, DX, D0, D1, D2, BB, hlt, hne⟩⟩
          case measure => simp [intOf]; omega
        · go_wp2_with (first
            | (refine wpList_iload rfl _ _ rfl imgT D1 rfl ?_)
            | (go_at_call 39; (with_reducible refine (CST1.out _).mono ?_); rintro _ V1 ⟨rfl, B⟩; replace DX := DX.on B; replace OX := Lib.hid (OX.out.on B); replace D0 := D0.on B; replace D1 := D1.on B; replace D2 := D2.on B; replace BB := bon BB B; clear B))
          have j0 := D1.1
          have j3 := D1.2.2.2
          have r3 := DX.1.2.2.2
          have k_j0 := cell_regrown j0
          have k_j3 := cell_regrown j3
          have k_r3 := cell_regrown r3
          refine wp_region_tailK (n := 20) (by kernel_rfl) (by kernel_rfl) ?_
          simp only [List.take_succ_cons, List.take_zero, List.drop_succ_cons, List.drop_zero]
          repeat (first | (go_big_quiet_want; refine quiet_iload _ _ rfl imgT (fun W hW => IAt.on D0 (below_regrown' hW)) rfl ?_; go_simp; go_big_quiet_on) | go_big_quiet_step ((first | (go_at_call 39; with_reducible exact Calls.regrown_of (CST0.out _)) | (go_at_call 34; exact Calls.regrown_of (CS.out _)))) | quiet_step ((first | (go_at_call 39; with_reducible exact Calls.regrown_of (CST0.out _)) | (go_at_call 34; exact Calls.regrown_of (CS.out _)))))
          refine wpQuiet_nil ?_
          intro W hw'
          have B := below_regrown' hw'
          clear hw' k_j0 k_j3 k_r3
          replace BB := bon BB B
          replace D0 := IAt.on D0 B
          replace j0 := cell_below B j0
          replace j3 := cell_below B j3
          replace r3 := cell_below B r3
          replace DX := DX.on B
          replace OX := Lib.hid (OX.out.on B)
          replace D1 := IAt.on D1 B
          replace D2 := D2.on B
          clear B j0 j3 r3
          go_wp2_with (refine wpList_copy0 _ rfl _ _ _ rfl eB rfl rfl ?_)
          go_roundw
          case rel => exact ⟨k + 1, by omega, by go_num, ⟨by rw [HROW.out]; exact OX.out, DX, D0, D1, D2, BB, hlt, hne⟩⟩
          case measure => simp [intOf]; omega
    · obtain rfl : k = M := by omega
      have TK := To.rows FF.out k (by omega)
      have HE : Hid (Im.rows ⟨f2, wd, ht, l⟩ ⟨f2, wd2, ht2, l2⟩ dx dy sx sy 0 k = ⟨f2, wd, ht, (Im.rows ⟨f2, wd, ht, l⟩ ⟨f2, wd2, ht2, l2⟩ dx dy sx sy 0 k).l⟩) := Lib.hid (by
        have e1 := TK.f
        have e2 := TK.w
        have e3 := TK.h
        cases hr : Im.rows ⟨f2, wd, ht, l⟩ ⟨f2, wd2, ht2, l2⟩ dx dy sx sy 0 k
        rw [hr] at e1 e2 e3
        simp only at e1 e2 e3
        subst e1 e2 e3
        rfl)
      obtain ⟨L, hL⟩ : ∃ L, (Im.rows ⟨f2, wd, ht, l⟩ ⟨f2, wd2, ht2, l2⟩ dx dy sx sy 0 k).l = L := ⟨_, rfl⟩
      rw [hL] at HE ST
      have DX := ST.box
      have OX := Lib.hid ST.own
      have D2 := ST.D2
      have BB := ST.BB
      have hlt := ST.lt
      have hcx := ST.own.room
      clear TK hL ST FF
      go_wp2_with (first
        | (refine wpList_iload rfl _ _ rfl imgT DX.1 rfl ?_)
        | (refine wpList_iset rfl _ _ _ rfl rfl rfl D2 (by kernel_rfl) ?_; intro V6 B6 D3 hg hz; have HG := Lib.hid hg; clear hg))
      obtain ⟨⟨d0, d1', d2, d3⟩, _⟩ := D3
      rw [HE.out]
      exact bodyPost_ret (v := .tuple #[.agg #[.int .i64 f2, .int .i64 wd, .int .i64 ht, .slice (some ⟨g, 0, none⟩) n1 d1], .int .i64 0]) (by simp [results, Try.results21, go_sem, *]) rfl ⟨_, n1, d1, rfl, hcx, (OX.out.past HG.out (by omega)).rd, BB.trans (B6.mono (by omega))⟩

theorem pcopy_b (f wd ht f2 wd2 ht2 : Int) (A A2 : Option Addr) (n c n2 c2 : Nat) (l l2 : List Int) (dx dy sx sy a b : Int) (w : World) (R : Rd w w.heap.size .u8 A n l) (R2 : Rd w w.heap.size .u8 A2 n2 l2) (hc2 : n2 ≤ c2)
    (rng : (-9223372036854775808 ≤ dx ∧ dx ≤ 9223372036854775807) ∧ (-9223372036854775808 ≤ dy ∧ dy ≤ 9223372036854775807) ∧ (-9223372036854775808 ≤ sx ∧ sx ≤ 9223372036854775807) ∧ (-9223372036854775808 ≤ sy ∧ sy ≤ 9223372036854775807) ∧ (-9223372036854775808 ≤ a ∧ a ≤ 9223372036854775807) ∧ (-9223372036854775808 ≤ b ∧ b ≤ 9223372036854775807)) :
    Calls Try.prog 21 #[.agg #[.int .i64 f, .int .i64 wd, .int .i64 ht, .slice A n c], .agg #[.int .i64 f2, .int .i64 wd2, .int .i64 ht2, .slice A2 n2 c2], .int .i64 dx, .int .i64 dy, .int .i64 sx, .int .i64 sy, .int .i64 a, .int .i64 b] w (GivesIE w (cpI ⟨f, wd, ht, l⟩ ⟨f2, wd2, ht2, l2⟩ dx dy sx sy a b).1 (cpI ⟨f, wd, ht, l⟩ ⟨f2, wd2, ht2, l2⟩ dx dy sx sy a b).2) := by
  rcases Classical.em (Fit ⟨f, wd, ht, l⟩ ⟨f2, wd2, ht2, l2⟩ dx dy sx sy a b) with F | hno
  · have := F.wd0
    rcases (show a = 0 ∨ 1 ≤ a by omega) with ha | ha
    · exact pcopy_zero f wd ht f2 wd2 ht2 A A2 n c n2 c2 l l2 dx dy sx sy a b w R R2 F ha hc2 rng
    · exact pcopy_some f wd ht f2 wd2 ht2 A A2 n c n2 c2 l l2 dx dy sx sy a b w R R2 F ha hc2 rng
  · exact pcopy_err f wd ht f2 wd2 ht2 A A2 n c n2 c2 l l2 dx dy sx sy a b w R R2 hno rng

end Go.Proofs.Ytlnbkahpklnfaaa
