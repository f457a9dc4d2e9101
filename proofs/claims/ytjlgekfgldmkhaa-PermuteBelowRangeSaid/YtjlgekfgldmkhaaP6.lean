/- What Perm of package permute returns (make, fill, exchange in one assignment). -/
import Derived.Test.YtjlgekfgldmkhaaP5
import Derived.Test.YtjlgekfgldmkhaaMake
import Derived.Test.YtjlgekfgldmkhaaTail
import Derived.BigRegion
namespace Go.Proofs.Ytjlgekfgldmkhaa
open Go.RowKit Go.Sort

theorem iI : (Try.prog.info? 3).map (fun i => (i.zero, i.size, i.bytes)) = some (some (.int .i64 0), 1, 8) := by kernel_rfl

theorem Own.drew {w : World} {base n c : Nat} {e : TypeId} {k : IntKind} {A : Option Addr} {l : List Int} (h : Own w base e k A n c l) : Own w.drew base e k A n c l := ⟨h.1.drew, h.2.1, h.2.2⟩

set_option maxRecDepth 100000 in
set_option maxHeartbeats 1000000 in
theorem perm_b (n : Int) (s : Nat) (w : World) (hs : s < 18446744073709551616) :
    Calls Try.prog 14 #[.int .i64 n, .int .u64 s] w (GivesN w .u64 (prm n s)) := by
  have BB : Below w.heap.size w w := Below.refl _ _
  by_cases hr : n < 1 ∨ 4096 < n
  · have e : Hid (prm n s = ([], (s : Int))) := Lib.hid (by unfold prm; rw [if_neg (by omega)])
    rw [e.out]
    rcases hr with hr | hr
    · go_enter Try.func14, Try.ntmps14
      go_wp2
      go_ret2
      exact GivesN.none_ BB
    · have h1 : 1 ≤ n := by omega
      go_enter Try.func14, Try.ntmps14
      go_wp2
      go_ret2
      exact GivesN.none_ BB
  · obtain ⟨N, rfl⟩ : ∃ N : Nat, n = N := ⟨n.toNat, by omega⟩
    have n1 : 1 ≤ N := by omega
    have n2 : N ≤ 4096 := by omega
    have e : Hid (prm (N : Int) s = ((shuf N s).1, ((shuf N s).2 : Int))) := Lib.hid (by unfold prm; rw [if_pos (by omega), Int.toNat_natCast])
    rw [e.out]
    obtain ⟨T, hT⟩ : ∃ T, shuf N s = T := ⟨_, rfl⟩
    rw [hT]
    have HT := Lib.hid hT
    have HS := Lib.hid hs
    clear hT hr hs
    go_enter Try.func14, Try.ntmps14
    go_wp2_with (refine wpList_makeV _ rfl _ _ _ rfl Try.underlying27 iI rfl .i64 .i64 N rfl rfl (by omega) (by simp only [maxLen]; omega) w.heap.size (Nat.le_refl _) ?_; intro b W1 own1 B1 hb)
    go_loopw [21] (fun i wr => ∃ k : Nat, k ≤ N ∧ i = .int .i64 k ∧ OwnV wr w.heap.size 3 b N N ((iota k).map (Value.int .i64) ++ List.replicate (N - k) (.int .i64 0)) ∧ Below w.heap.size w wr) (fun i _ => N - (intOf i).toNat)
    case atStart => exact ⟨0, by omega, rfl, own1, bon BB B1⟩
    case round =>
      clear BB own1 B1
      obtain ⟨k, hk, rfl, own, BB⟩ := hrel
      by_cases hlt : k < N
      · obtain ⟨m, hm⟩ : ∃ m, N - k = m + 1 := ⟨N - k - 1, by omega⟩
        rw [hm] at own
        have hz : ((iota k).map (Value.int .i64) ++ List.replicate (m + 1) (.int .i64 0))[k]? = some (.int .i64 0) := by
          rw [List.getElem?_append_right (by simp [iota_len]), List.length_map, iota_len, Nat.sub_self]
          rfl
        have c1 := own.cell hz
        have f1 := own.frozen (j := k)
        have own2 := (own.set (j := k) (.int .i64 k)).1
        have B2 := (own.set (j := k) (.int .i64 k)).2
        rw [fill_set _ _ _ _ _ (by simp [iota_len])] at own2
        have OWN2 : Hid (OwnV (wr.setCell ⟨b, k, none⟩ (.int .i64 k)) w.heap.size 3 b N N ((iota (k + 1)).map (Value.int .i64) ++ List.replicate (N - (k + 1)) (.int .i64 0))) := Lib.hid (by rw [iota_succ, List.map_append, show N - (k + 1) = m by omega]; exact own2)
        have HM := Lib.hid hm
        clear own own2 hz hm
        go_wp2
        go_roundw
        case rel => exact ⟨k + 1, by omega, by go_num, OWN2.out, BB.trans B2⟩
        case measure => simp [intOf]; omega
      · obtain rfl : k = N := by omega
        rw [Nat.sub_self, List.replicate_zero, List.append_nil] at own
        have OWN := Lib.hid (own.ints (by intro x hx; have := iota_mem.1 hx; rw [i64_min, i64_max]; omega))
        clear own
        go_wp2
        go_loopw [1, 8] (fun v i wr => ∃ (i' st : Nat) (L : List Int), v = .int .u64 st ∧ i = .int .i64 i' ∧ i' + 1 ≤ k ∧ st < 18446744073709551616 ∧ pm nxt (fun s => mixN (nxt s)) i' L st = T ∧ Own wr w.heap.size 3 .i64 (some ⟨b, 0, none⟩) k k L ∧ Below w.heap.size w wr) (fun _ i _ => (intOf i).toNat)
        case atStart => exact ⟨k - 1, s, iota k, rfl, by congr 1; omega, by omega, HS.out, HT.out, OWN.out, BB⟩
        case round =>
          clear OWN BB
          obtain ⟨i0, st, L, rfl, rfl, hi0, hst, hpm, own, BB⟩ := hrel
          have OWN := Lib.hid own
          have HST := Lib.hid hst
          have HPM := Lib.hid hpm
          clear hst hpm own
          rcases Nat.eq_zero_or_pos i0 with rfl | hpos
          · have hf : (L, st) = T := HPM.out
            have HF := Lib.hid hf
            clear hf
            go_wp2
            go_ret2
            exact ⟨_, _, _, by rw [← HF.out]; rfl, by rw [← HF.out]; exact OWN.out, BB⟩
          · obtain ⟨j, rfl⟩ : ∃ j, i0 = j + 1 := ⟨i0 - 1, by omega⟩
            have hb := blw_next st j (by omega)
            have hkl := Nat.mod_lt (mixN (nxt st)) (show 0 < j + 2 by omega)
            have hst2 := nxt_lt st
            have hpm2 := HPM.out
            rw [pm_succ] at hpm2
            obtain ⟨q, hq⟩ : ∃ q, mixN (nxt st) % (j + 2) = q := ⟨_, rfl⟩
            have cb := fun W => below_q st ((j : Int) + 2) W (by omega)
            unfold BelowGives at cb
            rw [hb] at cb
            simp only [hq] at cb hkl hpm2
            obtain ⟨st2, hs2⟩ : ∃ st2, nxt st = st2 := ⟨_, rfl⟩
            simp only [hs2] at cb hpm2 hst2
            have CB := Lib.hid cb
            have HP2 := Lib.hid hpm2
            have HS2 := Lib.hid hst2
            clear hb hpm2 hst2 cb hq hs2
            have c1 := OWN.out.cell (j := j + 1) (by omega)
            have c2 := OWN.out.cell (j := q) (by omega)
            obtain ⟨x, hx⟩ : ∃ x, L.getD (j + 1) 0 = x := ⟨_, rfl⟩
            obtain ⟨y, hy⟩ : ∃ y, L.getD q 0 = y := ⟨_, rfl⟩
            rw [hx] at c1
            rw [hy] at c2
            have HX := Lib.hid hx
            have HY := Lib.hid hy
            clear hx hy
            have hqi : q < k := by omega
            have hji : j + 1 < k := by omega
            go_wp2_with (go_at_call 12; refine (CB.out _).mono ?_; rintro _ _ ⟨rfl, rfl⟩)
            obtain ⟨_, f1, f2, own2, B2⟩ := OWN.out.swap hji hqi
            rw [HX.out, HY.out] at own2 B2
            have OWN2 := Lib.hid own2
            clear own2
            by_cases hqj : q = j + 1
            · subst hqj
              obtain rfl : x = y := HX.out.symm.trans HY.out
              go_region
              go_wp2
              go_roundw
              case rel => exact ⟨j, st2, _, rfl, by go_num, by omega, HS2.out, HP2.out, OWN2.out.drew, (BB.trans B2).drew⟩
              case measure => simp [intOf]
            · go_region
              go_wp2
              go_roundw
              case rel => exact ⟨j, st2, _, rfl, by go_num, by omega, HS2.out, HP2.out, OWN2.out.drew, (BB.trans B2).drew⟩
              case measure => simp [intOf]

end Go.Proofs.Ytjlgekfgldmkhaa
