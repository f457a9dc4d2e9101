/- What bufferOf, Vertex of package fetch and Vertex of the reference return. -/
import Derived.Test.YtfakmeimideoaaaH3
import Derived.Test.YtfakmeimideoaaaTreeC
namespace Go.Proofs.Ytfakmeimideoaaa
open Go.RowKit Go.Sort Go.ChangeShapes Go.WideShapes
set_option linter.unusedVariables false

/-- A slice of buffers. -/
def RdB (w : World) (B : Nat) (A : Option Addr) (n : Nat) (bs : List Bf) : Prop :=
  RdE bfv 1 w B A n bs ∧ ∀ r ∈ bs, Rd w B .u8 r.A r.n r.l ∧ r.n ≤ 9223372036854775807

section
variable {w w' : World} {B B' n : Nat} {A : Option Addr} {bs : List Bf}

theorem RdB.len (h : RdB w B A n bs) : bs.length = n := h.1.len

theorem RdB.below (h : RdB w B A n bs) (k : Below B w w') : RdB w' B A n bs := ⟨h.1.below k, fun r hr => ⟨(h.2 r hr).1.below k, (h.2 r hr).2⟩⟩

theorem RdB.more (h : RdB w B A n bs) (k : B ≤ B') : RdB w B' A n bs := ⟨h.1.more k, fun r hr => ⟨(h.2 r hr).1.more k, (h.2 r hr).2⟩⟩

theorem RdB.nil (w : World) (B : Nat) (A : Option Addr) : RdB w B A 0 [] := ⟨RdE.nil _ _ _ _ _, by simp⟩
end

/-- A call that returns the bytes l. -/
def GivesB (W : World) (l : List Int) (x : Ending) (w' : World) : Prop :=
  ∃ A n c, x = .returned (.slice A n c) ∧ n ≤ 9223372036854775807 ∧ Rd w' w'.heap.size .u8 A n l ∧ Below W.heap.size W w'

set_option maxRecDepth 100000 in
theorem bufferOf_b (A : Option Addr) (n c : Nat) (bs : List Bf) (b o s f : Int) (w : World) (R : RdB w w.heap.size A n bs) (hb : 0 ≤ b) :
    Calls Try.prog 28 #[.agg #[.int .i64 b, .int .i64 o, .int .i64 s, .int .i64 f], .slice A n c] w (GivesB w (bufl bs b)) := by
  have BX := box_below w #[.int .i64 b, .int .i64 o, .int .i64 s, .int .i64 f] 45
  have hl := R.len
  obtain ⟨j, rfl⟩ : ∃ j : Nat, b = j := ⟨b.toNat, by omega⟩
  by_cases h : j < n
  · obtain ⟨b2, off, r, rfl, hlt, ha, hx⟩ := R.1.at_ h
    have hr := R.2 r (List.mem_of_getElem? hx.out)
    have he : bufl bs (j : Int) = r.l := by unfold bufl; rw [Int.toNat_natCast, hx.out]; rfl
    rw [he]
    have c2 := ha 0 _ rfl
    rw [Nat.mul_one, Nat.add_zero] at c2
    have K2 := Lib.hid (hr.1.on BX)
    have hn := Lib.hid hr.2
    have B9 := Lib.hid BX
    replace c2 := cell_below BX c2
    clear ha hx he hr R BX hl
    go_enter Try.func28, Try.ntmps28
    go_wp2
    go_ret
    exact ⟨_, _, _, rfl, hn.out, K2.out, B9.out⟩
  · have he : bufl bs (j : Int) = [] := by unfold bufl; rw [Int.toNat_natCast, List.getElem?_eq_none (by omega)]; rfl
    rw [he]
    have B9 := Lib.hid BX
    clear he R BX hl
    go_enter Try.func28, Try.ntmps28
    go_wp2
    go_ret
    exact ⟨_, _, _, rfl, by omega, Rd.nil _ _ _ _, B9.out⟩

theorem vertex_no (A A2 : Option Addr) (n c n2 c2 : Nat) (l : List At) (v : Int) (w : World) (R : RdA w w.heap.size A n l) (hn : n ≤ 9223372036854775807) (h : ¬ vldA l) :
    Calls Try.prog 12 #[.slice A n c, .slice A2 n2 c2, .int .i64 v] w (GivesRd w .i64 []) := by
  have cv := fun W R => valid_b A n c l W R hn
  rw [vldb_no h] at cv
  have CV := Lib.hid cv
  have K1 := R
  clear cv h R
  go_enter Try.func12, Try.ntmps12
  go_wp2_with (go_at_call 21; (with_reducible refine (CV.out _ K1).mono ?_); rintro _ _ ⟨rfl, B⟩)
  go_ret
  exact ⟨_, _, _, rfl, Nat.le_refl _, Rd.nil _ _ _ _, B⟩

set_option maxRecDepth 100000 in
set_option maxHeartbeats 2000000 in
theorem vertex_yes (A A2 : Option Addr) (n c n2 c2 : Nat) (l : List At) (bs : List Bf) (v : Int) (w : World) (R : RdA w w.heap.size A n l) (RB : RdB w w.heap.size A2 n2 bs) (hn : n ≤ 9223372036854775807) (h : vldA l) :
    Calls Try.prog 12 #[.slice A n c, .slice A2 n2 c2, .int .i64 v] w (GivesRd w .i64 (vtx bs v l)) := by
  have cv := fun W R => valid_b A n c l W R hn
  rw [vldb_yes h] at cv
  have CV := Lib.hid cv
  have hl := R.len
  have CN := Lib.hid (fun W R => comps_b A n c l W R (by have := h.1; omega))
  have CB := Lib.hid (fun b o s f W R hb => bufferOf_b A2 n2 c2 bs b o s f W R hb)
  have CL := Lib.hid (fun A n c l b o s f W R hn => load_b A n c l b o s f v W R hn)
  have KR := Lib.hid R
  have KB := Lib.hid RB
  have HV := Lib.hid h
  have hs : csum l ≤ 32 := h.2.1
  obtain ⟨s, hss⟩ : ∃ s, csum l = s := ⟨_, rfl⟩
  have HS := Lib.hid hss
  rw [hss] at CN hs
  have BB : Below w.heap.size w w := Below.refl _ _
  have HE : Hid (l.take n = l) := Lib.hid (by rw [← hl, List.take_length])
  have HL := Lib.hid hl
  clear cv h R RB hss hl
  go_enter Try.func12, Try.ntmps12
  go_wp2_with (first
    | (go_at_call 21; (with_reducible refine (CV.out _ ((KR.out.below BB).more BB.size)).mono ?_); rintro _ _ ⟨rfl, B⟩; replace BB := bon BB B; clear B)
    | (go_at_call 19; (with_reducible refine (CN.out _ ((KR.out.below BB).more BB.size)).mono ?_); rintro _ _ ⟨rfl, B⟩; replace BB := bon BB B; clear B)
    | (refine wpList_make0 _ rfl _ _ _ rfl elInts s .i64 .i64 rfl rfl (by omega) (by simp only [maxLen]; omega) w.heap.size BB.size ?_; intro A7 W7 own7 B7; replace BB := bon BB B7; clear B7))
  have OW := Lib.hid own7
  clear own7
  go_loopw [7, 18] (fun t i wr => ∃ (k c3 : Nat) (A3 : Option Addr), k ≤ n ∧ i = .int .i64 (k : Int) ∧ t = .slice A3 (csum (l.take k)) c3 ∧ Own wr w.heap.size 3 .i64 A3 (csum (l.take k)) c3 (vtx bs v (l.take k)) ∧ Below w.heap.size w wr) (fun _ i _ => n - (intOf i).toNat)
  case atStart => exact ⟨0, s, _, by omega, rfl, rfl, OW.out, BB⟩
  case round =>
    clear OW BB
    obtain ⟨k, c3, A3, hk, rfl, rfl, own, BB⟩ := hrel
    rename World => wr
    by_cases hlt : k < n
    · obtain ⟨b, off, ⟨xb, xo, xs, xf⟩, rfl, _, ha, hx⟩ := ((KR.out.below BB).more BB.size).at_ hlt
      have hat : attr xb xo xs xf := HV.out.2.2 _ (List.mem_of_getElem? hx.out)
      have hcs := csum_snoc hx.out
      have hvs := vtx_snoc (bs := bs) (v := v) hx.out
      have hle := csum_take l (k + 1)
      rw [HS.out] at hle
      have hll := ldv_len_eq (bufl bs xb) v hat
      have hxb := hat.1.1
      simp only at hcs hvs
      obtain ⟨z, hz⟩ : ∃ z, csum (l.take k) = z := ⟨_, rfl⟩
      obtain ⟨vv, hvv⟩ : ∃ vv, vtx bs v (l.take k) = vv := ⟨_, rfl⟩
      obtain ⟨q, hq⟩ : ∃ q, cps xf = q := ⟨_, rfl⟩
      rw [hz] at hcs own ⊢
      rw [hvv] at hvs own
      rw [hq] at hcs hll
      have hz32 : z + q ≤ 32 := by omega
      have HCS := Lib.hid hcs
      have HVS := Lib.hid hvs
      have HLL := Lib.hid hll
      have CL' := Lib.hid (fun A n c W R hn => CL.out A n c (bufl bs xb) xb xo xs xf W R hn)
      have CB' := Lib.hid (fun W R => CB.out xb xo xs xf W R hxb)
      have BX := box_below wr #[.int .i64 xb, .int .i64 xo, .int .i64 xs, .int .i64 xf] 45
      have VA : (wr.alloc (.cells #[.int .i64 xb, .int .i64 xo, .int .i64 xs, .int .i64 xf] 45)).rangeAt wr.heap.size 0 [.int .i64 xb, .int .i64 xo, .int .i64 xs, .int .i64 xf] := by
        intro j u hu
        rw [Nat.zero_add]
        exact box_cell wr _ _ j u (by simpa using hu)
      have OFF := Lib.hid (own.off (Nat.le_refl _))
      have OW := Lib.hid (own.on BX)
      replace BB := bon BB BX
      clear hx hat hcs hvs hle hll hxb hz hvv hq own BX
      go_wp2_with (first
        | ((with_reducible refine eload4L atK ha ?_ ?_); focus rfl)
        | ((with_reducible refine estore4L atK ?_ ?_ ?_ ?_); focus rfl; focus rfl; focus rfl))
      clear ha
      generalize wr.alloc (.cells #[.int .i64 xb, .int .i64 xo, .int .i64 xs, .int .i64 xf] 45) = W0 at *
      generalize wr.heap.size = ab at *
      refine wp_region_treeC (fun W => W.rangeAt ab 0 [.int .i64 xb, .int .i64 xo, .int .i64 xs, .int .i64 xf]) (.read 0 (.read 1 (.read 2 (.read 4 (.read 5 (.fork1 3 (.fork1 6 (.fork1 7 (.read 8 .nil))))))))) (by kernel_rfl) (by kernel_rfl) (fun W hB => rangeAt_on VA hB) ?_
      intro U0 B0
      replace OW := Lib.hid (OW.out.on B0)
      replace VA := rangeAt_on VA B0
      replace BB := bon BB B0
      clear B0
      refine tree_read rfl ?_
      refine wpQuiet_step (fun K hK => ?_)
      rw [if_pos (by rfl)]
      refine quiet_move _ rfl ?_
      go_simp
      refine hK _ ?_
      clear hK K
      refine wpQuiet_nil ?_
      refine tree_read rfl ?_
      refine wpQuiet_step (fun K hK => ?_)
      rw [if_pos (by rfl)]
      refine quiet_eload _ _ rfl atK rfl (fun W hW => hW) rfl ?_
      go_simp
      refine hK _ ?_
      clear hK K
      refine wpQuiet_nil ?_
      refine tree_read rfl ?_
      refine wpQuiet_step (fun K hK => ?_)
      rw [if_pos (by rfl)]
      refine quiet_move _ rfl ?_
      go_simp
      refine hK _ ?_
      clear hK K
      refine wpQuiet_nil ?_
      refine tree_read rfl ?_
      refine wpQuiet_step (fun K hK => ?_)
      rw [if_pos (by rfl)]
      refine quiet_eload _ _ rfl atK rfl (fun W hW => hW) rfl ?_
      go_simp
      refine hK _ ?_
      clear hK K
      refine wpQuiet_nil ?_
      refine tree_read rfl ?_
      refine wpQuiet_step (fun K hK => ?_)
      rw [if_pos (by rfl)]
      refine quiet_move _ rfl ?_
      go_simp
      refine hK _ ?_
      clear hK K
      refine wpQuiet_nil ?_
      refine tree_one rfl ?_
      go_wp2_with (go_at_call 28; (with_reducible refine (CB'.out _ ((KB.out.below BB).more BB.size)).mono ?_); rintro _ U1 ⟨A4, n4, c4, rfl, hn4, K4, B⟩; replace OW := Lib.hid (OW.out.on B); replace VA := rangeAt_on VA B; replace BB := bon BB B; clear B)
      refine ⟨VA, ?_⟩
      refine tree_one rfl ?_
      go_wp2_with (go_at_call 27; (with_reducible refine (CL'.out _ _ _ _ K4 hn4).mono ?_); rintro _ U2 ⟨A5, n5, c5, rfl, _, K5, B⟩; replace OW := Lib.hid (OW.out.on B); replace VA := rangeAt_on VA B; replace BB := bon BB B; clear B K4 hn4; obtain rfl : n5 = q := (by have h1 := K5.len; have h2 := HLL.out; omega))
      refine ⟨VA, ?_⟩
      refine tree_one rfl ?_
      go_wp2_with (refine wpList_appG _ rfl _ _ _ rfl elInts OW.out rfl K5 rfl (by simp only [maxLen]; omega) (by omega) ?_; intro A6 n6 c6 U3 own6 B6 g6; replace VA := rangeAt_grown VA g6 OFF.out; replace BB := BB.trans B6; have h9 := own6.len; rw [List.length_append, HLL.out, OW.out.len] at h9; subst h9; have OW6 := Lib.hid own6; clear own6 B6 g6 K5)
      refine ⟨VA, ?_⟩
      refine tree_read rfl ?_
      refine wpQuiet_step (fun K hK => ?_)
      rw [if_pos (by rfl)]
      refine quiet_assign _ rfl ?_
      go_simp
      refine hK _ ?_
      clear hK K
      refine wpQuiet_nil ?_
      refine tree_nil ?_
      clear VA OW OFF
      go_wp2
      go_roundw
      case rel => exact ⟨k + 1, c6, A6, by omega, by go_num, by rw [HCS.out], by rw [HCS.out, HVS.out]; exact OW6.out, BB⟩
      case measure => simp [intOf]; omega
    · obtain rfl : k = n := by omega
      have HF : Hid (vtx bs v (l.take k) = vtx bs v l) := Lib.hid (by rw [HE.out])
      have OW := Lib.hid own
      clear own
      go_wp2
      go_ret
      exact ⟨_, _, _, rfl, OW.out.room, by rw [← HF.out]; exact OW.out.rd, BB⟩

theorem vertex_b (A A2 : Option Addr) (n c n2 c2 : Nat) (l : List At) (bs : List Bf) (v : Int) (w : World) (R : RdA w w.heap.size A n l) (RB : RdB w w.heap.size A2 n2 bs) (hn : n ≤ 9223372036854775807) :
    Calls Try.prog 12 #[.slice A n c, .slice A2 n2 c2, .int .i64 v] w (GivesRd w .i64 (if vldb l = true then vtx bs v l else [])) := by
  by_cases h : vldA l
  · rw [if_pos (vldb_yes h)]; exact vertex_yes A A2 n c n2 c2 l bs v w R RB hn h
  · rw [if_neg (by rw [vldb_no h]; decide)]; exact vertex_no A A2 n c n2 c2 l v w R hn h

theorem rvertex_no (A A2 : Option Addr) (n c n2 c2 : Nat) (l : List At) (v : Int) (w : World) (R : RdA w w.heap.size A n l) (hn : n ≤ 9223372036854775807) (h : ¬ vldA l) :
    Calls Try.prog 13 #[.slice A n c, .slice A2 n2 c2, .int .i64 v] w (GivesRd w .i64 []) := by
  have cv := fun W R => rvalidA_b A n c l W R hn
  rw [vldb_no h] at cv
  have CV := Lib.hid cv
  have K1 := R
  clear cv h R
  go_enter Try.func13, Try.ntmps13
  go_wp2_with (go_at_call 22; (with_reducible refine (CV.out _ K1).mono ?_); rintro _ _ ⟨rfl, B⟩)
  go_ret
  exact ⟨_, _, _, rfl, Nat.le_refl _, Rd.nil _ _ _ _, B⟩

set_option maxRecDepth 100000 in
set_option maxHeartbeats 2000000 in
theorem rvertex_yes (A A2 : Option Addr) (n c n2 c2 : Nat) (l : List At) (bs : List Bf) (v : Int) (w : World) (R : RdA w w.heap.size A n l) (RB : RdB w w.heap.size A2 n2 bs) (hn : n ≤ 9223372036854775807) (h : vldA l) :
    Calls Try.prog 13 #[.slice A n c, .slice A2 n2 c2, .int .i64 v] w (GivesRd w .i64 (vtx bs v l)) := by
  have cv := fun W R => rvalidA_b A n c l W R hn
  rw [vldb_yes h] at cv
  have CV := Lib.hid cv
  have hl := R.len
  have hl2 := RB.len
  have CL := Lib.hid (fun A n c l b o s f W R hn => rload_b A n c l b o s f v W R hn)
  have KR := Lib.hid R
  have KB := Lib.hid RB
  have HV := Lib.hid h
  have hs : csum l ≤ 32 := h.2.1
  obtain ⟨s, hss⟩ : ∃ s, csum l = s := ⟨_, rfl⟩
  have HS := Lib.hid hss
  rw [hss] at hs
  have BB : Below w.heap.size w w := Below.refl _ _
  have HE : Hid (l.take n = l) := Lib.hid (by rw [← hl, List.take_length])
  have HL := Lib.hid hl
  have HL2 := Lib.hid hl2
  have HOM := Lib.hid (fun W => Own.made W 3 .i64)
  clear cv h R RB hss hl hl2
  go_enter Try.func13, Try.ntmps13
  go_wp2_with (go_at_call 22; (with_reducible refine (CV.out _ ((KR.out.below BB).more BB.size)).mono ?_); rintro _ W1 ⟨rfl, B⟩; replace BB := bon BB B; clear B)
  have OW : Hid (Own (W1.alloc (.cells #[] 3)) w.heap.size 3 .i64 (some ⟨W1.heap.size, 0, none⟩) 0 0 []) := Lib.hid (by
    have o := HOM.out W1
    exact ⟨⟨o.1.1, o.1.2.imp id fun ⟨g, cap, cur, h1, h2, h3⟩ => ⟨g, cap, cur, h1, Nat.le_trans BB.size h2, h3⟩⟩, o.2.1, Nat.le_trans BB.size o.2.2⟩)
  replace BB := bon BB (box_below W1 #[] 3)
  go_loopw [7, 8] (fun t i wr => ∃ (k c3 : Nat) (A3 : Option Addr), k ≤ n ∧ i = .int .i64 (k : Int) ∧ t = .slice A3 (csum (l.take k)) c3 ∧ Own wr w.heap.size 3 .i64 A3 (csum (l.take k)) c3 (vtx bs v (l.take k)) ∧ Below w.heap.size w wr) (fun _ i _ => n - (intOf i).toNat)
  case atStart => exact ⟨0, 0, _, by omega, rfl, rfl, OW.out, BB⟩
  case round =>
    clear OW BB
    obtain ⟨k, c3, A3, hk, rfl, rfl, own, BB⟩ := hrel
    rename World => wr
    by_cases hlt : k < n
    · obtain ⟨b, off, ⟨xb, xo, xs, xf⟩, rfl, _, ha, hx⟩ := ((KR.out.below BB).more BB.size).at_ hlt
      have hat : attr xb xo xs xf := HV.out.2.2 _ (List.mem_of_getElem? hx.out)
      have hcs := csum_snoc hx.out
      have hvs := vtx_snoc (bs := bs) (v := v) hx.out
      have hle := csum_take l (k + 1)
      rw [HS.out] at hle
      have hll := ldv_len_eq (bufl bs xb) v hat
      have hxb := hat.1.1
      obtain ⟨j, rfl⟩ : ∃ j : Nat, xb = j := ⟨xb.toNat, by omega⟩
      simp only at hcs hvs
      obtain ⟨z, hz⟩ : ∃ z, csum (l.take k) = z := ⟨_, rfl⟩
      obtain ⟨vv, hvv⟩ : ∃ vv, vtx bs v (l.take k) = vv := ⟨_, rfl⟩
      obtain ⟨q, hq⟩ : ∃ q, cps xf = q := ⟨_, rfl⟩
      rw [hz] at hcs own ⊢
      rw [hvv] at hvs own
      rw [hq] at hcs hll
      have hz32 : z + q ≤ 32 := by omega
      have HCS := Lib.hid hcs
      have HVS := Lib.hid hvs
      have HLL := Lib.hid hll
      have BX := box_below wr #[.int .i64 (j : Int), .int .i64 xo, .int .i64 xs, .int .i64 xf] 45
      have BE := box_below (wr.alloc (.cells #[.int .i64 (j : Int), .int .i64 xo, .int .i64 xs, .int .i64 xf] 45)) #[] 5
      have OW := Lib.hid ((own.on BX).on BE)
      replace BB := bon (bon BB BX) BE
      have VA : ((wr.alloc (.cells #[.int .i64 (j : Int), .int .i64 xo, .int .i64 xs, .int .i64 xf] 45)).alloc (.cells #[] 5)).rangeAt wr.heap.size 0 [.int .i64 (j : Int), .int .i64 xo, .int .i64 xs, .int .i64 xf] := rangeAt_on (by
        intro j u hu
        rw [Nat.zero_add]
        exact box_cell wr _ _ j u (by simpa using hu)) BE
      by_cases hj : j < n2
      · obtain ⟨b2, off2, r, rfl, hlt2, ha2, hx2⟩ := ((KB.out.below BB).more BB.size).1.at_ hj
        have he : bufl bs (j : Int) = r.l := by unfold bufl; rw [Int.toNat_natCast, hx2.out]; rfl
        have hr := ((KB.out.below BB).more BB.size).2 r (List.mem_of_getElem? hx2.out)
        have c2 := ha2 0 _ rfl
        rw [Nat.mul_one, Nat.add_zero] at c2
        rw [he] at HLL HVS
        have CL' := Lib.hid (fun A n c W R hn => CL.out A n c r.l (j : Int) xo xs xf W R hn)
        have K4 := Lib.hid hr.1
        have hn4 := Lib.hid hr.2
        clear hx hat hcs hvs hle hll hxb hz hvv hq own BX BE ha2 hx2 he hr
        go_wp2_with (first
          | ((with_reducible refine eload4L atK ha ?_ ?_); focus rfl)
          | ((with_reducible refine eload4L atK VA ?_ ?_); focus rfl)
          | ((with_reducible refine estore4L atK ?_ ?_ ?_ ?_); focus rfl; focus rfl; focus rfl)
          | (go_at_call 29; (with_reducible refine (CL'.out _ _ _ _ K4.out hn4.out).mono ?_); rintro _ U2 ⟨A5, n5, c5, rfl, _, K5, B⟩; replace OW := Lib.hid (OW.out.on B); replace BB := bon BB B; clear B K4 hn4 c2 VA ha; obtain rfl : n5 = q := (by have h1 := K5.len; have h2 := HLL.out; omega))
          | (refine wpList_app _ rfl _ _ _ rfl elInts OW.out rfl K5 rfl (by simp only [maxLen]; omega) (by omega) ?_; intro A6 n6 c6 U3 own6 B6; replace BB := BB.trans B6; have h9 := own6.len; rw [List.length_append, HLL.out, OW.out.len] at h9; subst h9; have OW6 := Lib.hid own6; clear own6 B6 K5))
        go_roundw
        case rel => exact ⟨k + 1, c6, A6, by omega, by go_num, by rw [HCS.out], by rw [HCS.out, HVS.out]; exact OW6.out, BB⟩
        case measure => simp [intOf]; omega
      · have he : bufl bs (j : Int) = [] := by unfold bufl; rw [Int.toNat_natCast, List.getElem?_eq_none (by have := HL2.out; omega)]; rfl
        rw [he] at HLL HVS
        have CL' := Lib.hid (fun A c W R => CL.out A 0 c [] (j : Int) xo xs xf W R (by omega))
        clear hx hat hcs hvs hle hll hxb hz hvv hq own BX BE he
        go_wp2_with (first
          | ((with_reducible refine eload4L atK ha ?_ ?_); focus rfl)
          | ((with_reducible refine eload4L atK VA ?_ ?_); focus rfl)
          | ((with_reducible refine estore4L atK ?_ ?_ ?_ ?_); focus rfl; focus rfl; focus rfl)
          | (go_at_call 29; (with_reducible refine (CL'.out _ _ _ (Rd.nil _ _ _ _)).mono ?_); rintro _ U2 ⟨A5, n5, c5, rfl, _, K5, B⟩; replace OW := Lib.hid (OW.out.on B); replace BB := bon BB B; clear B VA ha; obtain rfl : n5 = q := (by have h1 := K5.len; have h2 := HLL.out; omega))
          | (refine wpList_app _ rfl _ _ _ rfl elInts OW.out rfl K5 rfl (by simp only [maxLen]; omega) (by omega) ?_; intro A6 n6 c6 U3 own6 B6; replace BB := BB.trans B6; have h9 := own6.len; rw [List.length_append, HLL.out, OW.out.len] at h9; subst h9; have OW6 := Lib.hid own6; clear own6 B6 K5))
        go_roundw
        case rel => exact ⟨k + 1, c6, A6, by omega, by go_num, by rw [HCS.out], by rw [HCS.out, HVS.out]; exact OW6.out, BB⟩
        case measure => simp [intOf]; omega
    · obtain rfl : k = n := by omega
      have HF : Hid (vtx bs v (l.take k) = vtx bs v l) := Lib.hid (by rw [HE.out])
      have OW := Lib.hid own
      clear own
      go_wp2
      go_ret
      exact ⟨_, _, _, rfl, OW.out.room, by rw [← HF.out]; exact OW.out.rd, BB⟩

theorem rvertex_b (A A2 : Option Addr) (n c n2 c2 : Nat) (l : List At) (bs : List Bf) (v : Int) (w : World) (R : RdA w w.heap.size A n l) (RB : RdB w w.heap.size A2 n2 bs) (hn : n ≤ 9223372036854775807) :
    Calls Try.prog 13 #[.slice A n c, .slice A2 n2 c2, .int .i64 v] w (GivesRd w .i64 (if vldb l = true then vtx bs v l else [])) := by
  by_cases h : vldA l
  · rw [if_pos (vldb_yes h)]; exact rvertex_yes A A2 n c n2 c2 l bs v w R RB hn h
  · rw [if_neg (by rw [vldb_no h]; decide)]; exact rvertex_no A A2 n c n2 c2 l v w R hn h

end Go.Proofs.Ytfakmeimideoaaa
