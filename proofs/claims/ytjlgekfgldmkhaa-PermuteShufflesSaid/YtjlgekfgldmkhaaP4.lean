/- What Perm of the reference returns. -/
import Derived.Test.YtjlgekfgldmkhaaP3
namespace Go.Proofs.Ytjlgekfgldmkhaa
open Go.RowKit Go.Sort

/-- Perm's list and state. -/
def prm (n : Int) (s : Nat) : List Int × Int := if 1 ≤ n ∧ n ≤ 4096 then ((shuf n.toNat s).1, ((shuf n.toNat s).2 : Int)) else ([], (s : Int))

theorem Own.cell {w : World} {base n c b j : Nat} {e : TypeId} {k : IntKind} {l : List Int} (h : Own w base e k (some ⟨b, 0, none⟩) n c l) (hj : j < n) : w.cell? ⟨b, j, none⟩ = some (.int k (l.getD j 0)) := by
  obtain ⟨b', off, x, e1, _, cx, _, _, hx⟩ := h.rd.at_ hj
  injection e1 with e1
  injection e1 with e1 e2
  subst e1
  subst e2
  rw [Nat.zero_add] at cx
  rw [cx, List.getD, hx.out]
  rfl

theorem Own.rngD {w : World} {base n c j : Nat} {e : TypeId} {l : List Int} {A : Option Addr} (h : Own w base e .i64 A n c l) : -9223372036854775808 ≤ l.getD j 0 ∧ l.getD j 0 ≤ 9223372036854775807 := by
  rw [List.getD]
  cases hj : l[j]? with
  | none => simp
  | some x =>
    have := h.rng x (List.mem_of_getElem? hj)
    rw [i64_min, i64_max] at this
    exact this

/-- Two elements exchanged in memory. -/
theorem Own.swap {w : World} {base n c b i k : Nat} {e : TypeId} {l : List Int} (h : Own w base e .i64 (some ⟨b, 0, none⟩) n c l) (hi : i < n) (hk : k < n) :
    base ≤ b ∧ w.frozen? ⟨b, i, none⟩ = false ∧ w.frozen? ⟨b, k, none⟩ = false ∧
    Own ((w.setCell ⟨b, i, none⟩ (.int .i64 (l.getD k 0))).setCell ⟨b, k, none⟩ (.int .i64 (l.getD i 0))) base e .i64 (some ⟨b, 0, none⟩) n c (swp l i k) ∧
    Below base w ((w.setCell ⟨b, i, none⟩ (.int .i64 (l.getD k 0))).setCell ⟨b, k, none⟩ (.int .i64 (l.getD i 0))) := by
  have r1 := h.rngD (j := k)
  have r2 := h.rngD (j := i)
  obtain ⟨b1, e1, hb, _, f1, o1, B1⟩ := h.stored hi (v := l.getD k 0) (by rw [i64_min, i64_max]; exact r1)
  injection e1 with e1
  injection e1 with e1
  subst e1
  obtain ⟨b2, e2, _, _, f2, o2, B2⟩ := o1.stored hk (v := l.getD i 0) (by rw [i64_min, i64_max]; exact r2)
  injection e2 with e2
  injection e2 with e2
  subst e2
  rw [World.frozen?_setCell] at f2
  exact ⟨hb, f1, f2, o2, B1.trans B2⟩

theorem blw_next (st j : Nat) (hj : j ≤ 4096) : blw st ((j : Int) + 2) = (((mixN (nxt st) % (j + 2) : Nat) : Int), nxt st) := by
  unfold blw
  rw [if_neg (by omega), show ((j : Int) + 2).toNat = j + 2 by omega]

set_option maxRecDepth 100000 in
set_option maxHeartbeats 1000000 in
theorem rperm_b (n : Int) (s : Nat) (w : World) (hs : s < 18446744073709551616) :
    Calls Try.prog 15 #[.int .i64 n, .int .u64 s] w (GivesN w .u64 (prm n s)) := by
  have BB : Below w.heap.size w w := Below.refl _ _
  by_cases hr : n < 1 ∨ 4096 < n
  · have e : Hid (prm n s = ([], (s : Int))) := Lib.hid (by unfold prm; rw [if_neg (by omega)])
    rw [e.out]
    rcases hr with hr | hr
    · go_enter Try.func15, Try.ntmps15
      go_wp2
      go_ret2
      exact GivesN.none_ BB
    · have h1 : 1 ≤ n := by omega
      go_enter Try.func15, Try.ntmps15
      go_wp2
      go_ret2
      exact GivesN.none_ BB
  · obtain ⟨N, rfl⟩ : ∃ N : Nat, n = N := ⟨n.toNat, by omega⟩
    have n1 : 1 ≤ N := by omega
    have n2 : N ≤ 4096 := by omega
    have e : Hid (prm (N : Int) s = ((shuf N s).1, ((shuf N s).2 : Int))) := Lib.hid (by unfold prm; rw [if_pos (by omega), Int.toNat_natCast])
    rw [e.out]
    obtain ⟨T, hT⟩ : ∃ T, shuf N s = T := ⟨_, rfl⟩
    rw [hT]
    have HT := Lib.hid hT
    have HS := Lib.hid hs
    clear hT hr hs
    go_enter Try.func15, Try.ntmps15
    go_wp2
    go_loopw [6, 7] (fun t i wr => ∃ (k cap : Nat) (A' : Option Addr), k ≤ N ∧ i = .int .i64 k ∧ t = .slice A' k cap ∧ Own wr w.heap.size 3 .i64 A' k cap (iota k) ∧ Below w.heap.size w wr) (fun _ i _ => N - (intOf i).toNat)
    case atStart => exact ⟨0, 0, none, by omega, rfl, rfl, Own.nil w _ _, BB⟩
    case round =>
      clear BB
      obtain ⟨k, cap, A', hk, rfl, rfl, own, BB⟩ := hrel
      by_cases hlt : k < N
      · go_wp2_with (at_builtin; refine wpList_app1 _ rfl _ _ _ rfl eI own rfl (by rw [i64_min, i64_max]; omega) rfl (by simp only [maxLen]; omega) (by omega) ?_; intro A1 n1 c1 W1 own1 B1; obtain rfl : n1 = k + 1 := app_len own own1)
        go_roundw
        case rel => exact ⟨k + 1, c1, A1, by omega, by go_num, rfl, by rw [iota_succ]; exact own1, BB.trans B1⟩
        case measure => simp [intOf]; omega
      · obtain rfl : k = N := by omega
        obtain ⟨b, rfl, _⟩ := own.stored (j := 0) (v := 0) (by omega) (by rw [i64_min, i64_max]; omega)
        have OWN := Lib.hid own
        have HB0 := Lib.hid own.base_le
        clear own
        go_wp2
        go_loopw [1, 8] (fun v i wr => ∃ (i' st : Nat) (L : List Int), v = .int .u64 st ∧ i = .int .i64 i' ∧ i' + 1 ≤ k ∧ st < 18446744073709551616 ∧ pm nxt (fun s => mixN (nxt s)) i' L st = T ∧ Own wr w.heap.size 3 .i64 (some ⟨b, 0, none⟩) k cap L ∧ Below w.heap.size w wr) (fun _ i _ => (intOf i).toNat)
        case atStart => exact ⟨k - 1, s, iota k, rfl, by congr 1; omega, by omega, HS.out, HT.out, OWN.out, BB⟩
        case round =>
          clear OWN BB
          obtain ⟨i0, st, L, rfl, rfl, hi0, hst, hpm, own, BB⟩ := hrel
          have OWN := Lib.hid own
          have HST := Lib.hid hst
          have HPM := Lib.hid hpm
          clear hst hpm own
          rcases Nat.eq_zero_or_pos i0 with rfl | hpos
          · have hf : (L, st) = T := HPM.out
            have HF := Lib.hid hf
            clear hf
            go_wp2
            go_ret2
            exact ⟨_, _, _, by rw [← HF.out]; rfl, by rw [← HF.out]; exact OWN.out, BB⟩
          · obtain ⟨j, rfl⟩ : ∃ j, i0 = j + 1 := ⟨i0 - 1, by omega⟩
            have hb := blw_next st j (by omega)
            have hkl := Nat.mod_lt (mixN (nxt st)) (show 0 < j + 2 by omega)
            have hst2 := nxt_lt st
            have hpm2 := HPM.out
            rw [pm_succ] at hpm2
            obtain ⟨q, hq⟩ : ∃ q, mixN (nxt st) % (j + 2) = q := ⟨_, rfl⟩
            have cb := fun W => rbelow_q st ((j : Int) + 2) W (by omega)
            unfold BelowGives at cb
            rw [hb] at cb
            simp only [hq] at cb hkl hpm2
            obtain ⟨st2, hs2⟩ : ∃ st2, nxt st = st2 := ⟨_, rfl⟩
            simp only [hs2] at cb hpm2 hst2
            have CB := Lib.hid cb
            have HP2 := Lib.hid hpm2
            have HS2 := Lib.hid hst2
            clear hb hpm2 hst2 cb hq hs2
            have c1 := OWN.out.cell (j := j + 1) (by omega)
            have c2 := OWN.out.cell (j := q) (by omega)
            obtain ⟨x, hx⟩ : ∃ x, L.getD (j + 1) 0 = x := ⟨_, rfl⟩
            obtain ⟨y, hy⟩ : ∃ y, L.getD q 0 = y := ⟨_, rfl⟩
            rw [hx] at c1
            rw [hy] at c2
            have HX := Lib.hid hx
            have HY := Lib.hid hy
            clear hx hy
            have hqi : q < k := by omega
            have hji : j + 1 < k := by omega
            go_wp2_with (go_at_call 13; refine (CB.out _).mono ?_; rintro _ _ ⟨rfl, rfl⟩)
            have k_c1 := cell_regrown c1
            have k_c2 := cell_regrown c2
            refine wp_region_quiet_below (by kernel_rfl) (by kernel_rfl) ?_
            repeat (first | go_big_quiet_step ((first | fail)) | quiet_step ((first | fail)))
            refine wpQuiet_nil ?_
            intro W hw'
            have B := below_regrown' hw'
            clear hw' k_c1 k_c2
            replace BB := bon BB B
            replace c1 := cell_below B c1
            replace c2 := cell_below B c2
            have own' := OWN.out.on B
            obtain ⟨_, f1, f2, own2, B2⟩ := own'.swap hji hqi
            rw [HX.out, HY.out] at own2 B2
            have OWN2 := Lib.hid own2
            clear own2 own'
            by_cases hqj : q = j + 1
            · subst hqj
              go_wp2
              go_roundw
              case rel => exact ⟨j, st2, _, rfl, by go_num, by omega, HS2.out, HP2.out, OWN2.out, BB.trans B2⟩
              case measure => simp [intOf]
            · go_wp2
              go_roundw
              case rel => exact ⟨j, st2, _, rfl, by go_num, by omega, HS2.out, HP2.out, OWN2.out, BB.trans B2⟩
              case measure => simp [intOf]

end Go.Proofs.Ytjlgekfgldmkhaa
