/- The walks of AssembleTriangles, AssembleRuns. -/
import Derived.Test.YtepammildggnmaaJ4
namespace Go.Proofs.Ytepammildggnmaa
open Go.RowKit Go.Sort Go.ChangeShapes Go.WideShapes
set_option linter.unusedVariables false

theorem bnds {a : Int} (w : (Lit.int .i64 a).wf = true) : -9223372036854775808 ≤ a ∧ a ≤ 9223372036854775807 := by
  simp [Lit.wf, i64_min] at w
  exact ⟨of_decide_eq_true w.1, w.2⟩

theorem mem_tl {rs : List (List Int)} {r : List Int} (h : r ∈ rs) : r.length ≤ tl rs := by
  induction rs with
  | nil => cases h
  | cons q rs ih =>
    simp only [tl, List.map_cons, List.sum_cons] at ih ⊢
    rcases List.mem_cons.1 h with rfl | h
    · omega
    · have := ih h; omega

theorem row_len {w : World} {B n : Nat} {A : Option Addr} {rows : List Rw} {rs : List (List Int)} (R : RdR w B .i64 A n rows) (h : rows.map (·.l) = rs) {r : Rw} (hr : r ∈ rows) : r.n ≤ tl rs := by
  rw [← (R.2 r hr).len]
  exact mem_tl (by rw [← h]; exact List.mem_map.2 ⟨r, hr, rfl⟩)

set_option maxRecDepth 100000 in
theorem runs_walk (A : Option Addr) (n c : Nat) (l : List Int) (w : World) (R : Rd w w.heap.size .i64 A n l) (hn : n * 8 ≤ 140737488351232) :
    Calls Try.prog 4 #[.slice A n c] w fun e w' => e = .returned (.bool true) ∧ Below w.heap.size w w' := by
  have BB : Below w.heap.size w w := Below.refl _ _
  have KR := Lib.hid R
  have C1 := Lib.hid (fun W R => runs_b A n c l W R hn)
  have C2 := Lib.hid (fun W R => rruns_b A n c l W R hn)
  have HT : Hid (tl (rns l) ≤ n ∧ (rns l).length ≤ n + 1) := Lib.hid (by have h1 := rns_tl l; have h2 := rns_len l; rw [R.len] at h1 h2; exact ⟨h1, by omega⟩)
  obtain ⟨rs, hrs⟩ : ∃ rs, rns l = rs := ⟨_, rfl⟩
  rw [hrs] at C1 C2 HT
  clear R hrs
  go_enter Try.func4, Try.ntmps4
  go_wp2_with (first
    | (go_at_call 21; (with_reducible refine (C1.out _ (KR.out.below BB |>.more BB.size)).mono ?_); rintro _ W1 ⟨A2, n2, d2, rows, rfl, R2, hr2, B⟩; replace BB := bon BB B; have H2 := Lib.hid hr2; clear B hr2)
    | (go_at_call 22; (with_reducible refine (C2.out _ (KR.out.below BB |>.more BB.size)).mono ?_); rintro _ W1 ⟨A3, n3, d3, rows3, rfl, R3, hr3, B⟩; replace BB := bon BB B; have H3 := Lib.hid hr3; replace R2 := R2.on B; clear B hr3)
    | (go_at_call 20; (with_reducible refine (sameRuns_b _ _ _ _ _ _ _ _ _ R2 R3 (by rw [H2.out, H3.out]) (by have h1 := R2.len; have h2 := congrArg List.length H2.out; rw [List.length_map] at h2; have h3 := HT.out.2; omega) (fun r hr => by have h1 := row_len R2 H2.out hr; have h2 := HT.out.1; omega)).mono ?_); rintro _ W3 ⟨rfl, B⟩; replace BB := bon BB B; clear B R2 R3)
    | (go_at_call 19; (with_reducible refine (example_b _).mono ?_); rintro _ W9 ⟨rfl, B⟩; replace BB := bon BB B; clear B))
  go_ret
  exact ⟨rfl, BB⟩

set_option maxRecDepth 100000 in
set_option maxHeartbeats 2000000 in
theorem triangles_walk (A : Option Addr) (n c : Nat) (l : List Int) (t i : Int) (w : World) (R : Rd w w.heap.size .i64 A n l) (hn : n ≤ 1048576) (hi : -9223372036854775808 ≤ i ∧ i ≤ 9223372036854775807) :
    Calls Try.prog 3 #[.int .i64 t, .slice A n c, .int .i64 i] w fun e w' => e = .returned (.bool true) ∧ Below w.heap.size w w' := by
  have BB : Below w.heap.size w w := Below.refl _ _
  have KR := Lib.hid R
  have C1 := Lib.hid (fun W R => tri_b A n c l t i W R (by omega))
  have C2 := Lib.hid (fun W R => rtri_b A n c l t i W R (by omega))
  have C3 := Lib.hid (fun W R => tris_b A n c l t W R (by omega))
  have C4 := Lib.hid (fun W R => rtris_b A n c l t W R (by omega))
  have C5 := Lib.hid (fun W => of_q (cnt_q t i W hi.2 hi.1))
  have C6 := Lib.hid (fun W => of_q (rcnt_q t i W hi.2 hi.1))
  have C7 := Lib.hid (fun W => of_q (tvalid_q t W))
  have C8 := Lib.hid (fun W => of_q (rtvalid_q t W))
  have HT : Hid ((tra t (rns l)).length ≤ n) := Lib.hid (by have h1 := rns_tl l; have h2 := tra_len t (rns l); rw [R.len] at h1; omega)
  obtain ⟨ts, hts⟩ : ∃ ts, tra t (rns l) = ts := ⟨_, rfl⟩
  obtain ⟨⟨x, y, z⟩, hT⟩ : ∃ T, trf t l i = T := ⟨_, rfl⟩
  obtain ⟨b, hb⟩ : ∃ b, trb t n i = b := ⟨_, rfl⟩
  obtain ⟨q, hq⟩ : ∃ q, cnt t i = q := ⟨_, rfl⟩
  obtain ⟨v, hv⟩ : ∃ v, decide (tvalid t) = v := ⟨_, rfl⟩
  rw [hts] at C3 C4 HT
  rw [hT, hb] at C1 C2
  rw [hq] at C5 C6
  rw [hv] at C7 C8
  have EQ := eq3 x y z x y z
  simp only [beq_self_eq_true, Bool.and_self] at EQ
  have GU := guard3
  clear R hts hT hb hq hv hi
  go_enter Try.func3, Try.ntmps3
  go_wp2_with (first
    | (go_at_call 10; (with_reducible refine (C1.out _ (KR.out.below BB |>.more BB.size)).mono ?_); rintro _ W1 ⟨rfl, B⟩; replace BB := bon BB B; have BX := box_below W1 #[.int .i64 x, .int .i64 y, .int .i64 z] 24; have d0 := box_cell W1 #[.int .i64 x, .int .i64 y, .int .i64 z] 24 0 _ rfl; have d1 := box_cell W1 #[.int .i64 x, .int .i64 y, .int .i64 z] 24 1 _ rfl; have d2 := box_cell W1 #[.int .i64 x, .int .i64 y, .int .i64 z] 24 2 _ rfl; replace BB := bon BB BX; clear B BX)
    | (go_at_call 11; (with_reducible refine (C2.out _ (KR.out.below BB |>.more BB.size)).mono ?_); rintro _ W2 ⟨rfl, B⟩; replace BB := bon BB B; have BX := box_below W2 #[.int .i64 x, .int .i64 y, .int .i64 z] 24; have e0 := box_cell W2 #[.int .i64 x, .int .i64 y, .int .i64 z] 24 0 _ rfl; have e1 := box_cell W2 #[.int .i64 x, .int .i64 y, .int .i64 z] 24 1 _ rfl; have e2 := box_cell W2 #[.int .i64 x, .int .i64 y, .int .i64 z] 24 2 _ rfl; replace d0 := cell_below (bon B BX) d0; replace d1 := cell_below (bon B BX) d1; replace d2 := cell_below (bon B BX) d2; replace BB := bon BB BX; clear B BX)
    | ((with_reducible refine estore3L triK ?_ ?_ ?_ ?_); focus rfl; focus rfl; focus rfl)
    | (go_at_call 13; (with_reducible refine (C3.out _ (KR.out.below BB |>.more BB.size)).mono ?_); rintro _ W3 ⟨A2, n2, d2', rfl, R2, B⟩; (replace BB := bon BB B; replace d0 := cell_below B d0; replace d1 := cell_below B d1; replace d2 := cell_below B d2; replace e0 := cell_below B e0; replace e1 := cell_below B e1; replace e2 := cell_below B e2); clear B)
    | (go_at_call 14; (with_reducible refine (C4.out _ (KR.out.below BB |>.more BB.size)).mono ?_); rintro _ W4 ⟨A3, n3, d3', rfl, R3, B⟩; replace R2 := R2.on B; (replace BB := bon BB B; replace d0 := cell_below B d0; replace d1 := cell_below B d1; replace d2 := cell_below B d2; replace e0 := cell_below B e0; replace e1 := cell_below B e1; replace e2 := cell_below B e2); clear B)
    | (go_at_call 12; (with_reducible refine (same_b _ _ _ _ _ _ _ _ R2 R3 (by have h1 := R2.len; have h2 := HT.out; omega)).mono ?_); rintro _ W5 ⟨rfl, B⟩; (replace BB := bon BB B; replace d0 := cell_below B d0; replace d1 := cell_below B d1; replace d2 := cell_below B d2; replace e0 := cell_below B e0; replace e1 := cell_below B e1; replace e2 := cell_below B e2); clear B R2 R3)
    | (go_at_call 15; (with_reducible refine (C5.out _).mono ?_); rintro _ W6 ⟨rfl, B⟩; (replace BB := bon BB B; replace d0 := cell_below B d0; replace d1 := cell_below B d1; replace d2 := cell_below B d2; replace e0 := cell_below B e0; replace e1 := cell_below B e1; replace e2 := cell_below B e2); clear B)
    | (go_at_call 16; (with_reducible refine (C6.out _).mono ?_); rintro _ W6 ⟨rfl, B⟩; (replace BB := bon BB B; replace d0 := cell_below B d0; replace d1 := cell_below B d1; replace d2 := cell_below B d2; replace e0 := cell_below B e0; replace e1 := cell_below B e1; replace e2 := cell_below B e2); clear B)
    | (go_at_call 17; (with_reducible refine (C7.out _).mono ?_); rintro _ W6 ⟨rfl, B⟩; (replace BB := bon BB B; replace d0 := cell_below B d0; replace d1 := cell_below B d1; replace d2 := cell_below B d2; replace e0 := cell_below B e0; replace e1 := cell_below B e1; replace e2 := cell_below B e2); clear B)
    | (go_at_call 18; (with_reducible refine (C8.out _).mono ?_); rintro _ W6 ⟨rfl, B⟩; (replace BB := bon BB B; replace d0 := cell_below B d0; replace d1 := cell_below B d1; replace d2 := cell_below B d2; replace e0 := cell_below B e0; replace e1 := cell_below B e1; replace e2 := cell_below B e2); clear B)
    | (go_at_call 19; (with_reducible refine (example_b _).mono ?_); rintro _ W9 ⟨rfl, B⟩; replace BB := bon BB B; clear B))
  go_ret
  exact ⟨rfl, BB⟩

end Go.Proofs.Ytepammildggnmaa
