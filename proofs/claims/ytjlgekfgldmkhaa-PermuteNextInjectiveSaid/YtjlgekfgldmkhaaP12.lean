/- The walk of PermutePermIsPermutation. -/
import Derived.Test.YtjlgekfgldmkhaaP11
namespace Go.Proofs.Ytjlgekfgldmkhaa
open Go.RowKit Go.Sort

theorem nodup_take_not {l : List Int} {k x : Nat} (h : l.Nodup) (hx : l[k]? = some (x : Int)) : ¬ (x : Int) ∈ l.take k := by
  intro hin
  obtain ⟨i, hi, hix⟩ := List.mem_take_iff_getElem.1 hin
  have h1 := idx_at h hx
  have h2 := idx_at h (i := i) (x := (x : Int)) (by rw [List.getElem?_eq_getElem (by omega), hix])
  omega

/-- The state behind the exchanges, in the law's own steps. -/
theorem shuf_state {N s : Nat} (h1 : 1 ≤ N) (h2 : N ≤ 4096) (hs : s < 18446744073709551616) :
    ∃ m t : Nat, (shuf N s).2 = t ∧ IntKind.u64.wrap (((N : Int) - 1) * 11400714819323198485) = (m : Int) ∧ IntKind.u64.wrap ((s : Int) + (m : Int)) = (t : Int) := by
  refine ⟨(N - 1) * 11400714819323198485 % 18446744073709551616, _, rfl, ?_, ?_⟩
  · rw [← wrap_nat]
    congr 1
    obtain ⟨j, rfl⟩ : ∃ j, N = j + 1 := ⟨N - 1, by omega⟩
    simp
  · unfold shuf
    rw [pm_itr, itr_nxt _ _ hs, ← Int.natCast_add, wrap_nat, Nat.add_mod_mod]

set_option maxRecDepth 100000 in
set_option maxHeartbeats 1000000 in
theorem permIsPermutation_walk (n : Int) (s : Nat) (w : World) (hs : s < 18446744073709551616) :
    Calls Try.prog 6 #[.int .i64 n, .int .u64 s] w fun e w' => e = .returned (.bool true) ∧ Below w.heap.size w w' := by
  have BB : Below w.heap.size w w := Below.refl _ _
  have c1 := fun W => perm_b n s W hs
  by_cases hr : n < 1 ∨ 4096 < n
  · have e : prm n s = ([], (s : Int)) := by unfold prm; rw [if_neg (by omega)]
    rw [e] at c1
    have C1 := Lib.hid c1
    clear c1 e
    rcases hr with hr | hr
    · go_enter Try.func6, Try.ntmps6
      go_wp2_with (first
        | (go_at_call 14; refine (C1.out _).mono ?_; rintro _ W1 ⟨A1, n1, d1, rfl, own1, B⟩; obtain rfl : n1 = 0 := own1.len.symm; clear own1; replace BB := bon BB B; clear B)
        | (go_at_call 17; refine (example_b _).mono ?_; rintro _ W7 ⟨rfl, B⟩; replace BB := bon BB B; clear B))
      go_ret
      exact ⟨rfl, BB⟩
    · have h1 : 1 ≤ n := by omega
      go_enter Try.func6, Try.ntmps6
      go_wp2_with (first
        | (go_at_call 14; refine (C1.out _).mono ?_; rintro _ W1 ⟨A1, n1, d1, rfl, own1, B⟩; obtain rfl : n1 = 0 := own1.len.symm; clear own1; replace BB := bon BB B; clear B)
        | (go_at_call 17; refine (example_b _).mono ?_; rintro _ W7 ⟨rfl, B⟩; replace BB := bon BB B; clear B))
      go_ret
      exact ⟨rfl, BB⟩
  · obtain ⟨N, rfl⟩ : ∃ N : Nat, n = N := ⟨n.toNat, by omega⟩
    have n1 : 1 ≤ N := by omega
    have n2 : N ≤ 4096 := by omega
    obtain ⟨m, t, ht, q1, q2⟩ := shuf_state n1 n2 hs
    have e : prm (N : Int) s = ((shuf N s).1, ((shuf N s).2 : Int)) := by unfold prm; rw [if_pos (by omega), Int.toNat_natCast]
    have hP : IsP (shuf N s).1 := shuf_isP n1
    have hl : (shuf N s).1.length = N := shuf_len N s
    rw [e, ht] at c1
    obtain ⟨L, hL⟩ : ∃ L, (shuf N s).1 = L := ⟨_, rfl⟩
    rw [hL] at c1 hP hl
    have c3 := fun A n c W R => isPermutation_b A n c L W R
    rw [isPB_yes hP] at c3
    have C1 := Lib.hid c1
    have C3 := Lib.hid c3
    have HP := Lib.hid hP
    have HL := Lib.hid hl
    clear c1 c3 e hP hl hL ht hr
    go_enter Try.func6, Try.ntmps6
    go_wp2_with (first
      | (go_at_call 14; refine (C1.out _).mono ?_; rintro _ W1 ⟨A1, k1, d1, rfl, own1, B⟩; obtain rfl : k1 = N := (by rw [← own1.len, HL.out]); have R1 := own1.rd; clear own1; replace BB := bon BB B; clear B)
      | (refine wpList_makeV _ rfl _ _ _ rfl Try.underlying40 iBool rfl .i64 .i64 k1 rfl rfl (by omega) (by simp only [maxLen]; omega) W1.heap.size (Nat.le_refl _) ?_; intro b W2 own2 B2 hb; have hsz := BB.size; replace BB := bon BB B2; replace R1 := R1.below B2; clear B2))
    rw [← seenL_nil] at own2
    have RR := Lib.hid R1
    have OWN := Lib.hid own2
    clear own2 R1
    go_loopw [8] (fun i wr => ∃ k : Nat, k ≤ k1 ∧ i = .int .i64 k ∧ OwnV wr W1.heap.size 4 b k1 k1 (seenL k1 (L.take k)) ∧ Below W1.heap.size W2 wr) (fun i _ => k1 - (intOf i).toNat)
    case atStart => exact ⟨0, by omega, rfl, by rw [List.take_zero]; exact OWN.out, Below.refl _ _⟩
    case round =>
      clear OWN
      obtain ⟨k, hk, rfl, own, B⟩ := hrel
      by_cases hlt : k < k1
      · obtain ⟨b1, off, y, rfl, cy, y0, y1, hy⟩ := (RR.out.below B).int hlt
        have hyr := HP.out.rng (List.mem_of_getElem? hy.out)
        rw [HL.out] at hyr
        obtain ⟨x, rfl⟩ : ∃ x : Nat, y = x := ⟨y.toNat, by omega⟩
        have hxn : x < k1 := by omega
        have c1 := own.cell (seenL_at (l := L.take k) hxn)
        have hin := nodup_take_not HP.out.nodup hy.out
        rw [decide_eq_false hin] at c1
        have f1 := own.frozen (j := x)
        have own2 := (own.set (j := x) (.bool true)).1
        have B2 := (own.set (j := x) (.bool true)).2
        rw [seenL_set, ← take_snoc hy.out] at own2
        have OWN2 := Lib.hid own2
        clear hin own own2 hy hyr y0 y1
        go_wp2
        go_roundw
        case rel => exact ⟨k + 1, by omega, by go_num, OWN2.out, B.trans B2⟩
        case measure => simp [intOf]; omega
      · obtain rfl : k = k1 := by omega
        have R1 := (RR.out.below B).more (show W1.heap.size ≤ wr.heap.size from own.2)
        replace BB := BB.trans (B.mono hsz)
        clear own B
        go_wp2_with (first
          | (go_at_call 20; refine (C3.out _ _ _ _ R1 (by omega)).mono ?_; rintro _ W4 ⟨rfl, B⟩; replace BB := bon BB B; clear B)
          | (go_at_call 17; refine (example_b _).mono ?_; rintro _ W7 ⟨rfl, B⟩; replace BB := bon BB B; clear B))
        go_ret
        exact ⟨rfl, BB⟩

end Go.Proofs.Ytjlgekfgldmkhaa
