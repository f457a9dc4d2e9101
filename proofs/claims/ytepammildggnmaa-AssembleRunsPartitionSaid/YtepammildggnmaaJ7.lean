/- The walk of AssembleRunsPartition. -/
import Derived.Test.YtepammildggnmaaJ5
namespace Go.Proofs.Ytepammildggnmaa
open Go.RowKit Go.Sort Go.ChangeShapes Go.WideShapes
set_option linter.unusedVariables false

def nng (l : List Int) : List Int := l.filter fun x => decide (0 ≤ x)

theorem nng_snoc {l : List Int} {k : Nat} {x : Int} (h : l[k]? = some x) : nng (l.take (k + 1)) = nng (l.take k) ++ (if 0 ≤ x then [x] else []) := by
  obtain ⟨hk, rfl⟩ := List.getElem?_eq_some_iff.1 h
  rw [List.take_succ_eq_append_getElem hk]
  unfold nng
  rw [List.filter_append]
  by_cases h0 : 0 ≤ l[k] <;> simp [h0]

theorem nng_get {l : List Int} {k : Nat} {x : Int} (h : l[k]? = some x) (h0 : 0 ≤ x) : (nng l)[(nng (l.take k)).length]? = some x := by
  have e : nng l = nng (l.take k) ++ nng (l.drop k) := by unfold nng; rw [← List.filter_append, List.take_append_drop]
  obtain ⟨hk, rfl⟩ := List.getElem?_eq_some_iff.1 h
  rw [e, List.getElem?_append_right (Nat.le_refl _), Nat.sub_self, List.drop_eq_getElem_cons hk]
  unfold nng
  rw [List.filter_cons_of_pos (by simpa using h0)]
  rfl

theorem nng_len (l : List Int) (k : Nat) (h : k ≤ l.length) : (nng (l.take k)).length ≤ k := by
  have := List.length_filter_le (fun x => decide (0 ≤ x)) (l.take k)
  rw [List.length_take] at this
  unfold nng
  omega

theorem rst_flat (l : List Int) : ∀ k, k ≤ l.length → (rst (l.take k)).1.flatten ++ (rst (l.take k)).2 = nng (l.take k)
  | 0, _ => by simp [rst, nng]
  | k + 1, h => by
    have hx : l[k]? = some (l[k]'(by omega)) := List.getElem?_eq_getElem (by omega)
    have ih := rst_flat l k (by omega)
    rw [rst_snoc hx, nng_snoc hx, ← ih]
    unfold rstep
    split
    · rename_i h0; simp only; rw [List.append_assoc]
    · rename_i h0
      simp only
      split
      · rename_i e; rw [e]; simp
      · simp

/-- The run is empty at the beginning and behind a negative number. -/
theorem rst_empty {l : List Int} {k : Nat} {x : Int} (h : l[k]? = some x) : (rst (l.take (k + 1))).2 = [] ↔ ¬ 0 ≤ x := by
  rw [rst_snoc h]
  unfold rstep
  split
  · rename_i h0; simp [h0]
  · rename_i h0; simp [h0]

/-- How many runs have begun. -/
def bgn (s : List (List Int) × List Int) : Nat := s.1.length + if s.2 = [] then 0 else 1

theorem bgn_step {l : List Int} {k : Nat} {x : Int} (h : l[k]? = some x) : bgn (rst (l.take (k + 1))) = bgn (rst (l.take k)) + if 0 ≤ x ∧ (rst (l.take k)).2 = [] then 1 else 0 := by
  rw [rst_snoc h]
  unfold rstep bgn
  split
  · rename_i h0
    simp only
    rw [if_neg (by simp)]
    by_cases e : (rst (l.take k)).2 = []
    · rw [if_pos e, if_pos ⟨h0, e⟩]
    · rw [if_neg e, if_neg (fun q => e q.2)]
  · rename_i h0
    simp only
    by_cases e : (rst (l.take k)).2 = [] <;> simp [e, h0]

theorem rns_bgn (l : List Int) : (rns l).length = bgn (rst l) := by
  unfold rns rfin bgn
  split <;> simp

theorem rns_flat (l : List Int) : (rns l).flatten = nng l := by
  have h := rst_flat l l.length (Nat.le_refl _)
  rw [List.take_length] at h
  rw [← h]
  unfold rns rfin
  split
  · rename_i e; rw [e]; simp
  · simp

theorem rns_ne (l : List Int) : ∀ r ∈ rns l, r ≠ [] := by
  have h := (rst_runs l l.length (Nat.le_refl _)).2
  rw [List.take_length] at h
  unfold rns rfin
  split
  · exact h
  · rename_i e
    intro r hr
    rcases List.mem_append.1 hr with hr | hr
    · exact h r hr
    · rw [List.mem_singleton] at hr; subst hr; exact e

theorem flat_snoc {rs : List (List Int)} {j : Nat} {r : List Int} (h : rs[j]? = some r) : (rs.take (j + 1)).flatten = (rs.take j).flatten ++ r := by
  obtain ⟨hj, rfl⟩ := List.getElem?_eq_some_iff.1 h
  rw [List.take_succ_eq_append_getElem hj, List.flatten_append]
  simp

theorem flat_len (rs : List (List Int)) : rs.flatten.length = tl rs := by
  unfold tl
  rw [List.length_flatten]

set_option maxRecDepth 100000 in
set_option maxHeartbeats 4000000 in
theorem partition_walk (A : Option Addr) (n c : Nat) (l : List Int) (w : World) (R : Rd w w.heap.size .i64 A n l) (hn : n * 8 ≤ 140737488351232) :
    Calls Try.prog 6 #[.slice A n c] w fun e w' => e = .returned (.bool true) ∧ Below w.heap.size w w' := by
  have KR := Lib.hid R
  have hl := R.len
  have C1 := Lib.hid (fun W R => runs_b A n c l W R hn)
  have HT : Hid (tl (rns l) ≤ n) := Lib.hid (by have := rns_tl l; rw [hl] at this; exact this)
  have HN2 : Hid ((rns l).length ≤ n + 1) := Lib.hid (by have := rns_len l; omega)
  have HF := Lib.hid (rns_flat l)
  have HNE := Lib.hid (rns_ne l)
  have HB := Lib.hid (rns_bgn l)
  have HL := Lib.hid hl
  obtain ⟨rs, hrs⟩ : ∃ rs, rns l = rs := ⟨_, rfl⟩
  rw [hrs] at C1 HT HN2 HF HNE HB
  have K1 := R
  clear R hrs hl
  go_enter Try.func6, Try.ntmps6
  go_wp2_with (go_at_call 21; (with_reducible refine (C1.out _ K1).mono ?_); rintro _ W1 ⟨A2, N, d2, rows, rfl, RR, hrows, BB⟩; have K2 := Lib.hid RR; have HR := Lib.hid hrows; have HN : Hid (rs.length = N) := Lib.hid (by rw [← hrows, List.length_map]; exact RR.len); clear RR hrows)
  have hNb : N ≤ 17592186043905 := by have h1 := HN2.out; have h2 := HN.out; omega
  have O0 := Lib.hid (Own.nil W1 3 .i64)
  have B0 := Below.refl W1.heap.size W1
  go_loopw [4, 5] (fun u i wr => ∃ (j c5 : Nat) (A5 : Option Addr), j ≤ N ∧ i = .int .i64 (j : Int) ∧ u = .slice A5 (tl (rs.take j)) c5 ∧ OwnI wr W1.heap.size A5 (tl (rs.take j)) c5 (rs.take j).flatten ∧ Below W1.heap.size W1 wr) (fun _ i _ => N - (intOf i).toNat)
  case atStart => exact ⟨0, 0, none, by omega, rfl, rfl, O0.out, B0⟩
  case round =>
    clear O0 B0
    obtain ⟨j, c5, A5, hj, rfl, rfl, own, B0⟩ := hrel
    rename World => wr
    by_cases hlt : j < N
    · obtain ⟨b, off, row, rfl, hbl, cr, RW, hrow⟩ := (K2.out.below B0).at_ hlt
      have hr : rs[j]? = some row.l := by rw [← HR.out, List.getElem?_map, hrow.out]; rfl
      have hsn := flat_snoc hr
      have htl := tl_snoc hr
      have htt := tl_take rs (j + 1)
      have hne := HNE.out _ (List.mem_of_getElem? hr)
      have hln : row.l.length = row.n := RW.len
      obtain ⟨rA, rn, rc, rl⟩ := row
      simp only at hr hsn htl htt hne hln RW cr
      rw [hln] at htl
      have hrn : 0 < rn := by rw [← hln]; exact List.length_pos_iff.2 hne
      obtain ⟨D, hD⟩ : ∃ D, tl (rs.take j) = D := ⟨_, rfl⟩
      rw [hD] at htl own ⊢
      have hbd : D + rn ≤ n := by have := HT.out; omega
      have HSN := Lib.hid hsn
      have HTL := Lib.hid htl
      have OW := Lib.hid own
      have KW := Lib.hid (RW.more B0.size)
      have h8 : (D + rn) * 8 ≤ 140737488355328 := by omega
      clear hr hsn htl htt hne hln own RW hD hrow
      go_wp2_with (refine wpList_app _ rfl _ _ _ rfl elInts OW.out rfl KW.out rfl (by simp only [maxLen]; omega) h8 ?_; intro A7 n7 c7 W7 own7 B7; replace B0 := B0.trans B7; have OW7 := Lib.hid own7; have H7 : Hid (n7 = D + rn) := Lib.hid (by have h9 := own7.len; have h8 := OW.out.len; have h7 := KW.out.len; rw [List.length_append, h8, h7] at h9; exact h9.symm); clear own7 B7)
      go_roundw
      case rel => exact ⟨j + 1, c7, A7, by omega, by go_num, by rw [HTL.out, H7.out], by (have o := OW7.out; rw [H7.out] at o; rw [HTL.out, HSN.out]; exact o), B0⟩
      case measure => simp [intOf] <;> omega
    · obtain rfl : j = N := by omega
      have hE : rs.take j = rs := by rw [← HN.out, List.take_length]
      rw [hE, HF.out] at own
      rw [hE]
      obtain ⟨M, hM⟩ : ∃ M, tl rs = M := ⟨_, rfl⟩
      rw [hM] at own HT ⊢
      have KA := Lib.hid own.rd
      have HML : Hid ((nng l).length = M) := Lib.hid own.len
      replace BB := bon BB (B0.mono (Nat.le_refl _))
      clear own hE hM B0
      go_wp2
      have B1 := Below.refl wr.heap.size wr
      go_loopw [6, 7, 8] (fun at_ bg i w2 => ∃ k : Nat, k ≤ n ∧ i = .int .i64 (k : Int) ∧ at_ = .int .i64 ((nng (l.take k)).length : Nat) ∧ bg = .int .i64 (bgn (rst (l.take k)) : Nat) ∧ Below wr.heap.size wr w2) (fun _ _ i _ => n - (intOf i).toNat)
      case atStart => exact ⟨0, by omega, rfl, rfl, rfl, B1⟩
      case round =>
        clear B1
        obtain ⟨k, hk, rfl, rfl, rfl, B1⟩ := hrel
        rename World => w2
        by_cases hlk : k < n
        · obtain ⟨b1, o1, x, rfl, cx, x0, x1, hx⟩ := (KR.out.below (bon BB B1)).int hlk
          have hs1 := nng_snoc hx.out
          have hs2 := bgn_step hx.out
          have hle := nng_len l k (by rw [HL.out]; omega)
          have hb2 : bgn (rst (l.take k)) ≤ n := by
            have := (rst_runs l k (by rw [HL.out]; omega)).1
            unfold bgn
            split
            · rename_i e; rw [if_pos e] at this; omega
            · rename_i e; rw [if_neg e] at this; omega
          by_cases hpos : 0 ≤ x
          · have hg := nng_get hx.out hpos
            rw [if_pos hpos] at hs1
            have hcond : (rst (l.take k)).2 = [] ↔ k = 0 ∨ ∃ y, l[k - 1]? = some y ∧ ¬ 0 ≤ y := by
              cases k with
              | zero => simp [rst]
              | succ k =>
                have hy : l[k]? = some (l[k]'(by have := HL.out; omega)) := List.getElem?_eq_getElem _
                rw [rst_empty hy]
                simp only [Nat.succ_ne_zero, false_or, Nat.add_sub_cancel]
                constructor
                · intro h; exact ⟨_, hy, h⟩
                · rintro ⟨y, h1, h2⟩; rw [hy] at h1; injection h1 with h1; subst h1; exact h2
            obtain ⟨a, ha⟩ : ∃ a, (nng (l.take k)).length = a := ⟨_, rfl⟩
            obtain ⟨g, hg'⟩ : ∃ g, bgn (rst (l.take k)) = g := ⟨_, rfl⟩
            have HS1 : Hid ((nng (l.take (k + 1))).length = a + 1) := Lib.hid (by rw [hs1, List.length_append, ha]; rfl)
            rw [ha] at hg hle ⊢
            rw [hg'] at hs2 hb2 ⊢
            have haM : a < M := by have := HML.out; rw [← this]; exact (List.getElem?_eq_some_iff.1 hg).1
            obtain ⟨b2, o2, y, rfl, cy, y0, y1, hy⟩ := (KA.out.below B1).int haM
            obtain rfl : y = x := by have h9 := hy.out; rw [hg] at h9; injection h9 with h9; exact h9.symm
            have t1 : ¬ (M : Int) ≤ (a : Int) := by omega
            clear hs1 hg hy ha hg' hx
            by_cases hk0 : k = 0
            · subst hk0
              rw [Nat.add_zero] at cx
              have HS2 : Hid (bgn (rst (l.take (0 + 1))) = g + 1) := Lib.hid (by rw [hs2, if_pos ⟨hpos, hcond.2 (.inl rfl)⟩])
              clear hs2 hcond
              go_wp2_with fail
              have BK := BB
              clear BB
              have BB := B1
              have k_cx := cell_regrown cx
              have k_cy := cell_regrown cy
              refine wp_region_quiet_below (by kernel_rfl) (by kernel_rfl) ?_
              repeat (first | go_big_quiet_step ((first | fail)) | quiet_step ((first | fail)))
              refine wpQuiet_nil ?_
              intro W hw'
              have B := below_regrown' hw'
              clear hw' k_cx k_cy
              replace BB := bon BB B
              replace cx := cell_below B cx
              replace cy := cell_below B cy
              go_wp2
              go_roundw
              case rel => exact ⟨0 + 1, by omega, rfl, by rw [HS1.out]; go_num, by rw [HS2.out]; go_num, BB⟩
              case measure => simp [intOf] <;> omega
            · obtain ⟨q, hkq⟩ : ∃ q, k = q + 1 := ⟨k - 1, by omega⟩
              obtain ⟨b3, o3, z, e3, cz, z0, z1, hz⟩ := (KR.out.below (bon BB B1)).int (show q < n by omega)
              injection e3 with e3
              injection e3 with e3 e3'
              subst e3
              subst e3'
              have gq' : (k : Int) - 1 = (q : Int) := by omega
              have gq : IntKind.i64.wrap ((k : Int) - 1) = (q : Int) := by rw [gq']; exact IntWalk.i64_in _ (by omega)
              have hqn : q < n := by omega
              have hk1 : (k == 0) = false := by simpa using hk0
              have hk2 : ((k : Int) == 0) = false := by simp; omega
              have HKQ := Lib.hid hkq
              by_cases hneg : z < 0
              · have HS2 : Hid (bgn (rst (l.take (k + 1))) = g + 1) := Lib.hid (by rw [hs2, if_pos ⟨hpos, hcond.2 (.inr ⟨z, by rw [hkq]; exact hz.out, by omega⟩)⟩])
                clear hs2 hcond hz hkq hk0
                go_wp2_with fail
                have BK := BB
                clear BB
                have BB := B1
                have k_cx := cell_regrown cx
                have k_cy := cell_regrown cy
                have k_cz := cell_regrown cz
                refine wp_region_quiet_below (by kernel_rfl) (by kernel_rfl) ?_
                repeat (first | go_big_quiet_step ((first | fail)) | quiet_step ((first | fail)))
                refine wpQuiet_nil ?_
                intro W hw'
                have B := below_regrown' hw'
                clear hw' k_cx k_cy k_cz
                replace BB := bon BB B
                replace cx := cell_below B cx
                replace cy := cell_below B cy
                replace cz := cell_below B cz
                go_wp2
                go_roundw
                case rel => exact ⟨k + 1, by omega, by go_num, by rw [HS1.out]; go_num, by rw [HS2.out]; go_num, BB⟩
                case measure => simp [intOf] <;> omega
              · have HS2 : Hid (bgn (rst (l.take (k + 1))) = g) := Lib.hid (by
                  rw [hs2, if_neg, Nat.add_zero]
                  rintro ⟨_, h2⟩
                  rcases hcond.1 h2 with h | ⟨y', h3, h4⟩
                  · omega
                  · rw [show k - 1 = q by omega, hz.out] at h3; injection h3 with h3; subst h3; omega)
                clear hs2 hcond hz hkq hk0
                go_wp2_with fail
                have BK := BB
                clear BB
                have BB := B1
                have k_cx := cell_regrown cx
                have k_cy := cell_regrown cy
                have k_cz := cell_regrown cz
                refine wp_region_quiet_below (by kernel_rfl) (by kernel_rfl) ?_
                repeat (first | go_big_quiet_step ((first | fail)) | quiet_step ((first | fail)))
                refine wpQuiet_nil ?_
                intro W hw'
                have B := below_regrown' hw'
                clear hw' k_cx k_cy k_cz
                replace BB := bon BB B
                replace cx := cell_below B cx
                replace cy := cell_below B cy
                replace cz := cell_below B cz
                go_wp2
                go_roundw
                case rel => exact ⟨k + 1, by omega, by go_num, by rw [HS1.out]; go_num, by rw [HS2.out], BB⟩
                case measure => simp [intOf] <;> omega
          · have HS1 : Hid (nng (l.take (k + 1)) = nng (l.take k)) := Lib.hid (by rw [hs1, if_neg hpos, List.append_nil])
            have HS2 : Hid (bgn (rst (l.take (k + 1))) = bgn (rst (l.take k))) := Lib.hid (by rw [hs2, if_neg (fun h => hpos h.1)]; rfl)
            have hx0 : x < 0 := by omega
            obtain ⟨a, ha⟩ : ∃ a, (nng (l.take k)).length = a := ⟨_, rfl⟩
            obtain ⟨g, hg'⟩ : ∃ g, bgn (rst (l.take k)) = g := ⟨_, rfl⟩
            have HA := Lib.hid ha
            have HG := Lib.hid hg'
            rw [ha, hg']
            clear hs1 hs2 hx hpos hle hb2 ha hg'
            go_wp2
            go_roundw
            case rel => exact ⟨k + 1, by omega, by go_num, by rw [HS1.out, HA.out], by rw [HS2.out, HG.out], B1⟩
            case measure => simp [intOf] <;> omega
        · obtain rfl : k = n := by omega
          have hE : l.take k = l := by rw [← HL.out, List.take_length]
          have h1 : (nng (l.take k)).length = M := by rw [hE]; exact HML.out
          have h2 : bgn (rst (l.take k)) = j := by rw [hE, ← HB.out]; exact HN.out
          rw [h1, h2]
          replace BB := bon BB B1
          clear hE h1 h2 B1
          go_wp2_with (go_at_call 19; (with_reducible refine (example_b _).mono ?_); rintro _ W9 ⟨rfl, B⟩; replace BB := bon BB B; clear B)
          go_ret
          exact ⟨rfl, BB⟩

end Go.Proofs.Ytepammildggnmaa
