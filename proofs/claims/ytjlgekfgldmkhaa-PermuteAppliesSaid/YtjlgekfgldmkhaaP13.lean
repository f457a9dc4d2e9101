/- The walk of PermuteRoundTrip. -/
import Derived.Test.YtjlgekfgldmkhaaP12
namespace Go.Proofs.Ytjlgekfgldmkhaa
open Go.RowKit Go.Sort

/-- Where all indices exist, each element is the one at its index. -/
theorem app_all {α : Type} : ∀ (l : List α) (o : List Int), (∀ x ∈ o, 0 ≤ x ∧ x < l.length) → ∃ T, app l o = some T ∧ T.length = o.length ∧ ∀ (i x : Nat), o[i]? = some (x : Int) → T[i]? = l[x]?
  | l, [], _ => ⟨[], rfl, rfl, fun i x h => by simp at h⟩
  | l, y :: o, h => by
    have hy := h y (List.mem_cons_self ..)
    obtain ⟨j, rfl⟩ : ∃ j : Nat, y = j := ⟨y.toNat, by omega⟩
    have hx : l[j]? = some l[j] := List.getElem?_eq_getElem (by omega)
    obtain ⟨T, h1, h2, h3⟩ := app_all l o (fun x hx => h x (List.mem_cons_of_mem _ hx))
    refine ⟨l[j] :: T, by rw [app_good hx, h1]; rfl, by simp [h2], fun i x hi => ?_⟩
    match i with
    | 0 =>
      simp only [List.getElem?_cons_zero, Option.some.injEq] at hi ⊢
      obtain rfl : j = x := by omega
      exact hx.symm
    | i + 1 =>
      simp only [List.getElem?_cons_succ] at hi ⊢
      exact h3 i x hi

/-- There and back. -/
theorem app_back {α : Type} {l : List α} {o : List Int} (hP : IsP o) (hl : o.length = l.length) :
    ∃ T, app l o = some T ∧ T.length = l.length ∧ (∀ (i x : Nat), o[i]? = some (x : Int) → T[i]? = l[x]?) ∧ app T (inv o) = some l := by
  obtain ⟨T, h1, h2, h3⟩ := app_all l o (fun x hx => by have := hP.rng hx; omega)
  have hQ := inv_isP hP
  obtain ⟨S, g1, g2, g3⟩ := app_all T (inv o) (fun x hx => by have := hQ.rng hx; rw [inv_len] at this; omega)
  refine ⟨T, h1, by omega, h3, ?_⟩
  rw [g1]
  congr 1
  rw [inv_len] at g2
  apply List.ext_getElem?
  intro x
  by_cases hx : x < o.length
  · obtain ⟨i, hi, hlt⟩ := hQ.at_ (i := x) (by rw [inv_len]; exact hx)
    rw [inv_len] at hlt
    have h4 := g3 x i hi
    have h5 : o[i]? = some (x : Int) := by
      have := inv_elem hQ hi (by rw [inv_len]; exact hlt)
      rwa [inv_inv hP] at this
    rw [h4, h3 i x h5]
  · rw [List.getElem?_eq_none (by omega), List.getElem?_eq_none (by omega)]

/-- Perm's list for any length in range, the empty one too. -/
theorem prm_isP (n : Nat) (s : Nat) (h : n ≤ 4096) : IsP (prm n s).1 ∧ (prm n s).1.length = n := by
  unfold prm
  split
  · rw [Int.toNat_natCast]
    exact ⟨shuf_isP (by omega), shuf_len n s⟩
  · obtain rfl : n = 0 := by omega
    exact ⟨isP_iota 0, rfl⟩

theorem invv_yes {l : List Int} (h : IsP l) : invv l = (inv l, 0) := by unfold invv; rw [isPB_yes h, if_pos rfl]

set_option maxRecDepth 100000 in
theorem roundTrip_out (A : Option Addr) (n c s : Nat) (w : World) (hn : 4096 < n) :
    Calls Try.prog 7 #[.slice A n c, .int .u64 s] w fun e w' => e = .returned (.bool true) ∧ Below w.heap.size w w' := by
  have BB : Below w.heap.size w w := Below.refl _ _
  go_enter Try.func7, Try.ntmps7
  go_wp2_with (go_at_call 17; refine (example_b _).mono ?_; rintro _ W7 ⟨rfl, B⟩; replace BB := bon BB B; clear B)
  go_ret
  exact ⟨rfl, BB⟩

set_option maxRecDepth 100000 in
set_option maxHeartbeats 1000000 in
theorem roundTrip_in (A : Option Addr) (n c s : Nat) (l : List ByteArray) (w : World) (R : RdS w w.heap.size A n l) (hs : s < 18446744073709551616) (hn : n ≤ 4096) :
    Calls Try.prog 7 #[.slice A n c, .int .u64 s] w fun e w' => e = .returned (.bool true) ∧ Below w.heap.size w w' := by
  have BB : Below w.heap.size w w := Below.refl _ _
  have c1 := fun W => perm_b n s W hs
  obtain ⟨hP, hlen⟩ := prm_isP n s hn
  obtain ⟨L, v, hLv⟩ : ∃ L v, prm n s = (L, v) := ⟨_, _, rfl⟩
  rw [hLv] at c1 hP hlen
  replace hP : IsP L := hP
  replace hlen : L.length = n := hlen
  have c2 := fun A n c W R hn => inverse_b A n c L W R hn
  rw [invv_yes hP] at c2
  have c3 := fun A n c W R hn => inverse_b A n c (inv L) W R hn
  rw [invv_yes (inv_isP hP), inv_inv hP] at c3
  obtain ⟨T, t1, t2, t3, t4⟩ := app_back (l := l) hP (by rw [hlen, R.len])
  have c4 := fun A2 c2 W R1 R2 => applyS_b A A2 n c n c2 l L W R1 R2 (by omega) (by omega)
  rw [t1] at c4
  have c5 := fun A1 c1 A2 c2 W R1 R2 => applyS_b A1 A2 n c1 n c2 T (inv L) W R1 R2 (by omega) (by omega)
  rw [t4] at c5
  have hI : (inv L).length = n := by rw [inv_len, hlen]
  have hE : ∀ i x : Nat, L[i]? = some (x : Int) → x < n → (inv L)[x]? = some (i : Int) := fun i x h hx => inv_elem hP h (by rw [hlen]; exact hx)
  obtain ⟨I, hII⟩ : ∃ I, inv L = I := ⟨_, rfl⟩
  rw [hII] at c2 c3 c5 hI hE
  have C1 := Lib.hid c1
  have C2 := Lib.hid c2
  have C3 := Lib.hid c3
  have C4 := Lib.hid c4
  have C5 := Lib.hid c5
  have HI := Lib.hid hI
  have HE := Lib.hid hE
  have HP := Lib.hid hP
  have HL := Lib.hid hlen
  have HT := Lib.hid (t2.trans R.len)
  have HTT := Lib.hid t3
  have RW := Lib.hid R
  clear c1 c2 c3 c4 c5 hLv t1 t2 t3 t4 hI hE hII hP hlen R
  go_enter Try.func7, Try.ntmps7
  go_wp2_with (first
    | (go_at_call 14; refine (C1.out _).mono ?_; rintro _ W1 ⟨A1, k1, d1, rfl, own1, B⟩; obtain rfl : n = k1 := (by rw [← own1.len, HL.out]); have R1 := own1.rd; clear own1; replace BB := bon BB B; clear B)
    | (go_at_call 18; refine (C2.out _ _ _ _ R1 (by omega)).mono ?_; rintro _ W2 ⟨A2, k2, d2, rfl, own2, B⟩; obtain rfl : n = k2 := (by rw [← own2.len, HI.out]); have R2 := own2.rd; clear own2; replace R1 := R1.on B; replace BB := bon BB B; clear B))
  go_loop [10] (fun i => ∃ k : Nat, k ≤ n ∧ i = .int .i64 k) (fun i => n - (intOf i).toNat)
  case atStart => exact ⟨0, by omega, rfl⟩
  case round =>
    obtain ⟨k, hk, rfl⟩ := hrel
    by_cases hlt : k < n
    · obtain ⟨b1, o1, y, rfl, cy, y0, y1, hy⟩ := R1.int hlt
      have hyr := HP.out.rng (List.mem_of_getElem? hy.out)
      rw [HL.out] at hyr
      obtain ⟨x, rfl⟩ : ∃ x : Nat, y = x := ⟨y.toNat, by omega⟩
      have hxn : x < n := by omega
      obtain ⟨b2, o2, z, rfl, cz, z0, z1, hz⟩ := R2.int hxn
      obtain rfl : z = (k : Int) := hid_some (Lib.hid (HE.out k x hy.out hxn)) hz
      have hne : ((k : Int) != (k : Int)) = false := by simp
      clear R1 R2 hy hz y0 y1 hyr z0 z1
      go_wp2
      go_round
      case rel => exact ⟨k + 1, by omega, by go_num⟩
      case measure => simp [intOf]; omega
    · obtain rfl : k = n := by omega
      go_wp2_with (first
        | (go_at_call 18; refine (C3.out _ _ _ _ R2 (by omega)).mono ?_; rintro _ W3 ⟨A3, k3, d3, rfl, own3, B⟩; obtain rfl : k3 = k := (by rw [← own3.len, HL.out]); have R3 := own3.rd; clear own3; replace R1 := R1.on B; replace R2 := R2.on B; replace BB := bon BB B; clear B)
        | (go_at_call 24; (with_reducible refine (C4.out _ _ _ (RW.out.on BB) R1).mono ?_); rintro _ W4 ⟨A4, k4, d4, rfl, R4', nc4, B⟩; have R4 : RdS W4 W4.heap.size A4 k4 T := R4'; clear R4' nc4; obtain rfl : k4 = k3 := (by rw [← R4.len, HT.out]); replace R1 := R1.on B; replace R2 := R2.on B; replace R3 := R3.on B; replace BB := bon BB B; clear B)
        | (go_at_call 24; (with_reducible refine (C5.out _ _ _ _ _ R4 R2).mono ?_); rintro _ W5 ⟨A5, k5, d5, rfl, R5', nc5, B⟩; have R5 : RdS W5 W5.heap.size A5 k5 l := R5'; clear R5' nc5; obtain rfl : k5 = k4 := (by rw [← R5.len, RW.out.len]); replace R1 := R1.on B; replace R3 := R3.on B; replace R4 := R4.on B; replace BB := bon BB B; clear B R2))
      have R6 := RW.out.on BB
      go_loopw [15] (fun i wr => ∃ q : Nat, q ≤ k5 ∧ i = .int .i64 q ∧ Below W5.heap.size W5 wr) (fun i _ => k5 - (intOf i).toNat)
      case atStart => exact ⟨0, by omega, rfl, Below.refl _ _⟩
      case round =>
        obtain ⟨q, hq, rfl, B⟩ := hrel
        by_cases hlt : q < k5
        · obtain ⟨b1, o1, y, rfl, c1, y0, y1, hy⟩ := (R1.below B).int hlt
          have hyr := HP.out.rng (List.mem_of_getElem? hy.out)
          rw [HL.out] at hyr
          obtain ⟨x, rfl⟩ : ∃ x : Nat, y = x := ⟨y.toNat, by omega⟩
          have hxn : x < k5 := by omega
          obtain ⟨b3, o3, z, rfl, c2, z0, z1, hz⟩ := (R3.below B).int hlt
          obtain rfl : z = (x : Int) := hid_some hy hz
          obtain ⟨b4, o4, t, rfl, _, c3, ht⟩ := (R4.below B).at_ hlt
          obtain ⟨b6, o6, u, rfl, _, c4, hu⟩ := (R6.below B).at_ hxn
          obtain rfl : t = u := by
            have h := HTT.out q x hy.out
            rw [ht.out, hu.out] at h
            injection h
          obtain ⟨b5, o5, f, rfl, _, c5, hf⟩ := (R5.below B).at_ hlt
          obtain ⟨b7, o7, g, e7, _, c6, hg⟩ := (R6.below B).at_ hlt
          injection e7 with e7
          injection e7 with e7a e7b
          subst e7a
          subst e7b
          obtain rfl : f = g := by
            have h := hf.out.symm.trans hg.out
            injection h
          have BB := B
          clear R1 R3 R4 R5 R6 hy hz ht hu hf hg y0 y1 z0 z1 hyr B
          go_wp2_with fail
          have k_c1 := cell_regrown c1
          have k_c2 := cell_regrown c2
          have k_c3 := cell_regrown c3
          have k_c4 := cell_regrown c4
          have k_c5 := cell_regrown c5
          have k_c6 := cell_regrown c6
          refine wp_region_quiet_below (by kernel_rfl) (by kernel_rfl) ?_
          repeat (first | go_big_quiet_step ((first | fail)) | quiet_step ((first | fail)))
          refine wpQuiet_nil ?_
          intro W hw'
          have B := below_regrown' hw'
          clear hw' k_c1 k_c2 k_c3 k_c4 k_c5 k_c6
          replace BB := bon BB B
          replace c1 := cell_below B c1
          replace c2 := cell_below B c2
          replace c3 := cell_below B c3
          replace c4 := cell_below B c4
          replace c5 := cell_below B c5
          replace c6 := cell_below B c6
          go_wp2
          go_roundw
          case rel => exact ⟨q + 1, by omega, by go_num, BB⟩
          case measure => simp [intOf]; omega
        · obtain rfl : q = k5 := by omega
          replace BB := bon BB B
          clear B R1 R3 R4 R5 R6
          go_wp2_with (go_at_call 17; refine (example_b _).mono ?_; rintro _ W7 ⟨rfl, B⟩; replace BB := bon BB B; clear B)
          go_ret
          exact ⟨rfl, BB⟩

theorem roundTrip_walk (A : Option Addr) (n c s : Nat) (l : List ByteArray) (w : World) (R : RdS w w.heap.size A n l) (hs : s < 18446744073709551616) :
    Calls Try.prog 7 #[.slice A n c, .int .u64 s] w fun e w' => e = .returned (.bool true) ∧ Below w.heap.size w w' := by
  rcases Nat.lt_or_ge 4096 n with h | h
  · exact roundTrip_out A n c s w h
  · exact roundTrip_in A n c s l w R hs h

end Go.Proofs.Ytjlgekfgldmkhaa
