/- has, Uses of the reference. -/
import Derived.Test.YtepammildggnmaaJ13
namespace Go.Proofs.Ytepammildggnmaa
open Go.RowKit Go.Sort Go.ChangeShapes Go.WideShapes
set_option linter.unusedVariables false

/-- A vertex. -/
def vx (x y z : Int) (i : Nat) : Int := if i = 0 then x else if i = 1 then y else z

/-- The edge goes from vertex i to vertex k. -/
def hit (x y z : Int) (e : Ed) (i k : Nat) : Prop := i ≠ k ∧ vx x y z i = e.x ∧ vx x y z k = e.y

theorem hit_mem {x y z : Int} {e : Ed} (h : e.x < e.y) {i k : Nat} (hi : i < 3) (hk : k < 3) (q : hit x y z e i k) : e ∈ eof ⟨x, y, z⟩ := by
  obtain ⟨h1, h2, h3⟩ := q
  rw [eof_mem]
  unfold hasE
  unfold vx at h2 h3
  refine ⟨⟨by omega, ?_, ?_⟩, h⟩
  · simp only
    split at h2
    · omega
    · split at h2 <;> omega
  · simp only
    split at h3
    · omega
    · split at h3 <;> omega

theorem mem_hit {x y z : Int} {e : Ed} (q : e ∈ eof ⟨x, y, z⟩) : ∃ i k, i < 3 ∧ k < 3 ∧ hit x y z e i k := by
  rw [eof_mem] at q
  obtain ⟨⟨h1, h2, h3⟩, h4⟩ := q
  simp only at h2 h3
  have a : ∃ i, i < 3 ∧ vx x y z i = e.x := by
    rcases h2 with h | h | h
    · exact ⟨0, by omega, h⟩
    · exact ⟨1, by omega, h⟩
    · exact ⟨2, by omega, h⟩
  have b : ∃ i, i < 3 ∧ vx x y z i = e.y := by
    rcases h3 with h | h | h
    · exact ⟨0, by omega, h⟩
    · exact ⟨1, by omega, h⟩
    · exact ⟨2, by omega, h⟩
  obtain ⟨i, i1, i2⟩ := a
  obtain ⟨k, k1, k2⟩ := b
  exact ⟨i, k, i1, k1, fun r => h1 (by rw [← i2, ← k2, r]), i2, k2⟩

set_option maxRecDepth 100000 in
set_option maxHeartbeats 4000000 in
theorem has_b (x y z : Int) (e : Ed) (he : e.x < e.y) (w : World) :
    Calls Try.prog 41 #[.agg #[.int .i64 x, .int .i64 y, .int .i64 z], .agg #[.int .i64 e.x, .int .i64 e.y]] w fun r w' => r = .returned (.bool (decide (e ∈ eof ⟨x, y, z⟩))) ∧ Below w.heap.size w w' := by
  have HY : Hid (∀ i k, i < 3 → k < 3 → hit x y z e i k → decide (e ∈ eof ⟨x, y, z⟩) = true) := Lib.hid fun i k hi hk q => decide_eq_true (hit_mem he hi hk q)
  have HN : Hid ((∀ i k, i < 3 → k < 3 → ¬ hit x y z e i k) → decide (e ∈ eof ⟨x, y, z⟩) = false) := Lib.hid fun q => decide_eq_false fun m => by
    obtain ⟨i, k, hi, hk, h⟩ := mem_hit m
    exact q i k hi hk h
  obtain ⟨r, hr⟩ : ∃ r, decide (e ∈ eof ⟨x, y, z⟩) = r := ⟨_, rfl⟩
  rw [hr] at HY HN ⊢
  have HV : Hid (∀ i, i < 3 → (#[.int .i64 x, .int .i64 y, .int .i64 z] : Array Value)[i]? = some (.int .i64 (vx x y z i))) := Lib.hid fun i hi => by
    rcases (show i = 0 ∨ i = 1 ∨ i = 2 by omega) with rfl | rfl | rfl <;> rfl
  have HH : Hid (∀ i k, hit x y z e i k ↔ i ≠ k ∧ vx x y z i = e.x ∧ vx x y z k = e.y) := Lib.hid fun _ _ => Iff.rfl
  obtain ⟨V, hV⟩ : ∃ V, vx x y z = V := ⟨_, rfl⟩
  obtain ⟨H, hH⟩ : ∃ H, hit x y z e = H := ⟨_, rfl⟩
  obtain ⟨ex, ey⟩ := e
  rw [hV] at HV HH
  rw [hH] at HY HN HH
  simp only at HH he
  clear hr hV hH
  go_enter Try.func41, Try.ntmps41
  go_wp2
  have cc : ∀ i, i < 3 → ((w.alloc (.cells #[.int .i64 x, .int .i64 y, .int .i64 z] 24)).alloc (.cells #[.int .i64 ex, .int .i64 ey] 49)).cell? ⟨w.heap.size, i, none⟩ = some (.int .i64 (V i)) := fun i hi => cell_below (box_below _ _ _) (box_cell w _ _ i _ (HV.out i hi))
  have e0 : ((w.alloc (.cells #[.int .i64 x, .int .i64 y, .int .i64 z] 24)).alloc (.cells #[.int .i64 ex, .int .i64 ey] 49)).cell? ⟨w.heap.size + 1, 0, none⟩ = some (.int .i64 ex) := by simp
  have e1 : ((w.alloc (.cells #[.int .i64 x, .int .i64 y, .int .i64 z] 24)).alloc (.cells #[.int .i64 ex, .int .i64 ey] 49)).cell? ⟨w.heap.size + 1, 1, none⟩ = some (.int .i64 ey) := by simp
  have BB := bon (box_below w #[.int .i64 x, .int .i64 y, .int .i64 z] 24) (box_below (w.alloc (.cells #[.int .i64 x, .int .i64 y, .int .i64 z] 24)) #[.int .i64 ex, .int .i64 ey] 49)
  generalize (w.alloc (.cells #[.int .i64 x, .int .i64 y, .int .i64 z] 24)).alloc (.cells #[.int .i64 ex, .int .i64 ey] 49) = W0 at *
  have CC : Hid (∀ W i, Below W0.heap.size W0 W → i < 3 → W.cell? ⟨w.heap.size, i, none⟩ = some (.int .i64 (V i))) := Lib.hid fun W i B hi => cell_below B (cc i hi)
  have CE : Hid (∀ W, Below W0.heap.size W0 W → W.cell? ⟨w.heap.size + 1, 0, none⟩ = some (.int .i64 ex) ∧ W.cell? ⟨w.heap.size + 1, 1, none⟩ = some (.int .i64 ey)) := Lib.hid fun W B => ⟨cell_below B e0, cell_below B e1⟩
  have B0 := Below.refl W0.heap.size W0
  clear cc e0 e1 HV
  go_loopw [5] (fun i wr => ∃ a : Nat, a ≤ 3 ∧ i = .int .i64 (a : Int) ∧ (∀ i k, i < a → k < 3 → ¬ H i k) ∧ Below W0.heap.size W0 wr) (fun i _ => 3 - (intOf i).toNat)
  case atStart => exact ⟨0, by omega, rfl, fun i k hi => by omega, B0⟩
  case round =>
    clear B0
    obtain ⟨a, ha, rfl, hno, B0⟩ := hrel
    have HNO := Lib.hid hno
    clear hno
    rename World => wr
    by_cases hlt : a < 3
    · have t1 : ¬ (3 : Int) ≤ (a : Int) := by omega
      go_wp2
      go_loopw [6] (fun i wx => ∃ b : Nat, b ≤ 3 ∧ i = .int .i64 (b : Int) ∧ (∀ k, k < b → ¬ H a k) ∧ Below W0.heap.size W0 wx) (fun i _ => 3 - (intOf i).toNat)
      case atStart => exact ⟨0, by omega, rfl, fun k hk => by omega, B0⟩
      case round =>
        clear B0
        obtain ⟨b, hb, rfl, hno, B0⟩ := hrel
        have HNO2 := Lib.hid hno
        clear hno
        rename World => wx
        by_cases hlb : b < 3
        · have ca := CC.out wx a B0 hlt
          have cb := CC.out wx b B0 hlb
          obtain ⟨e0, e1⟩ := CE.out wx B0
          have t2 : ¬ (3 : Int) ≤ (b : Int) := by omega
          obtain ⟨va, hva⟩ : ∃ v, V a = v := ⟨_, rfl⟩
          obtain ⟨vb, hvb⟩ : ∃ v, V b = v := ⟨_, rfl⟩
          have hh := HH.out a b
          rw [hva, hvb] at hh
          rw [hva] at ca
          rw [hvb] at cb
          have HHH := Lib.hid hh
          have HYY := Lib.hid (HY.out a b hlt hlb)
          clear hva hvb hh
          have step : ¬ H a b → Hid (∀ k, k < b + 1 → ¬ H a k) := fun q => Lib.hid fun k hk => by
            rcases Nat.lt_succ_iff_lt_or_eq.1 hk with h | rfl
            · exact HNO2.out k h
            · exact q
          by_cases q1 : a = b
          · have HS := step (fun h => (HHH.out.1 h).1 q1)
            have n1 : ((a : Int) != (b : Int)) = false := by simp; omega
            clear step q1
            go_wp2_with fail
            have BK := BB
            clear BB
            have BB := B0
            have k_ca := cell_regrown ca
            have k_e0 := cell_regrown e0
            have k_e1 := cell_regrown e1
            refine wp_region_quiet_below (by kernel_rfl) (by kernel_rfl) ?_
            repeat (first | go_big_quiet_step ((first | fail)) | quiet_step ((first | fail)))
            refine wpQuiet_nil ?_
            intro W hw'
            have B := below_regrown' hw'
            clear hw' k_ca k_e0 k_e1
            replace BB := bon BB B
            replace ca := cell_below B ca
            replace e0 := cell_below B e0
            replace e1 := cell_below B e1
            go_wp2
            go_roundw
            case rel => exact ⟨b + 1, by omega, by go_num, HS.out, BB⟩
            case measure => simp [intOf] <;> omega
          · have n1 : ((a : Int) != (b : Int)) = true := by simp; omega
            by_cases q2 : va = ex
            · by_cases q3 : vb = ey
              · have hr := HYY.out (HHH.out.2 ⟨q1, q2, q3⟩)
                subst hr
                subst q2
                subst q3
                clear step HHH HYY HY HN HNO HNO2 q1
                go_wp2_with fail
                have BK := BB
                clear BB
                have BB := B0
                have k_ca := cell_regrown ca
                have k_cb := cell_regrown cb
                have k_e0 := cell_regrown e0
                have k_e1 := cell_regrown e1
                refine wp_region_quiet_below (by kernel_rfl) (by kernel_rfl) ?_
                repeat (first | go_big_quiet_step ((first | fail)) | quiet_step ((first | fail)))
                refine wpQuiet_nil ?_
                intro W hw'
                have B := below_regrown' hw'
                clear hw' k_ca k_cb k_e0 k_e1
                replace BB := bon BB B
                replace ca := cell_below B ca
                replace cb := cell_below B cb
                replace e0 := cell_below B e0
                replace e1 := cell_below B e1
                replace BB := bon BK BB
                go_wp2
                go_ret
                exact ⟨rfl, BB⟩
              · have HS := step (fun h => q3 (HHH.out.1 h).2.2)
                have n3 : (vb == ey) = false := by simpa using q3
                subst q2
                clear step q1
                go_wp2_with fail
                have BK := BB
                clear BB
                have BB := B0
                have k_ca := cell_regrown ca
                have k_cb := cell_regrown cb
                have k_e0 := cell_regrown e0
                have k_e1 := cell_regrown e1
                refine wp_region_quiet_below (by kernel_rfl) (by kernel_rfl) ?_
                repeat (first | go_big_quiet_step ((first | fail)) | quiet_step ((first | fail)))
                refine wpQuiet_nil ?_
                intro W hw'
                have B := below_regrown' hw'
                clear hw' k_ca k_cb k_e0 k_e1
                replace BB := bon BB B
                replace ca := cell_below B ca
                replace cb := cell_below B cb
                replace e0 := cell_below B e0
                replace e1 := cell_below B e1
                go_wp2
                go_roundw
                case rel => exact ⟨b + 1, by omega, by go_num, HS.out, BB⟩
                case measure => simp [intOf] <;> omega
            · have HS := step (fun h => q2 (HHH.out.1 h).2.1)
              have n2 : (va == ex) = false := by simpa using q2
              clear step q1
              go_wp2_with fail
              have BK := BB
              clear BB
              have BB := B0
              have k_ca := cell_regrown ca
              have k_cb := cell_regrown cb
              have k_e0 := cell_regrown e0
              have k_e1 := cell_regrown e1
              refine wp_region_quiet_below (by kernel_rfl) (by kernel_rfl) ?_
              repeat (first | go_big_quiet_step ((first | fail)) | quiet_step ((first | fail)))
              refine wpQuiet_nil ?_
              intro W hw'
              have B := below_regrown' hw'
              clear hw' k_ca k_cb k_e0 k_e1
              replace BB := bon BB B
              replace ca := cell_below B ca
              replace cb := cell_below B cb
              replace e0 := cell_below B e0
              replace e1 := cell_below B e1
              go_wp2
              go_roundw
              case rel => exact ⟨b + 1, by omega, by go_num, HS.out, BB⟩
              case measure => simp [intOf] <;> omega
        · obtain rfl : b = 3 := by omega
          have HS : Hid (∀ i k, i < a + 1 → k < 3 → ¬ H i k) := Lib.hid fun i k hi hk => by
            rcases Nat.lt_succ_iff_lt_or_eq.1 hi with h | rfl
            · exact HNO.out i k h hk
            · exact HNO2.out k hk
          clear HNO HNO2
          go_wp2
          go_roundw
          case rel => exact ⟨a + 1, by omega, by go_num, HS.out, B0⟩
          case measure => simp [intOf] <;> omega
    · obtain rfl : a = 3 := by omega
      have hr := HN.out HNO.out
      subst hr
      replace BB := bon BB B0
      clear HNO HN HY B0
      go_wp2
      go_ret
      exact ⟨rfl, BB⟩

theorem usesE_snoc {ts : List Tri} {k : Nat} {t : Tri} (e : Ed) (h : ts[k]? = some t) : usesE (ts.take (k + 1)) e = usesE (ts.take k) e + if decide (e ∈ eof t) = true then 1 else 0 := by
  obtain ⟨hk, rfl⟩ := List.getElem?_eq_some_iff.1 h
  rw [List.take_succ_eq_append_getElem hk]
  unfold usesE
  rw [List.countP_append, List.countP_singleton]

theorem usesE_le (ts : List Tri) (e : Ed) : usesE ts e ≤ ts.length := List.countP_le_length

set_option maxRecDepth 100000 in
set_option maxHeartbeats 4000000 in
theorem uses_b (A : Option Addr) (n c : Nat) (ts : List Tri) (e : Ed) (he : e.x < e.y) (w : World) (R : RdT w w.heap.size A n ts) (hn : n ≤ 1048576) :
    Calls Try.prog 34 #[.slice A n c, .agg #[.int .i64 e.x, .int .i64 e.y]] w fun r w' => r = .returned (.int .i64 (usesE ts e : Nat)) ∧ Below w.heap.size w w' := by
  have KR := Lib.hid R
  have HL := Lib.hid R.len
  have CH := Lib.hid (fun x y z W => has_b x y z e he W)
  have HS := Lib.hid (fun k t (h : ts[k]? = some t) => usesE_snoc e h)
  have HE : Hid (usesE (ts.take n) e = usesE ts e) := Lib.hid (by rw [← R.len, List.take_length])
  have HB : Hid (∀ k, k ≤ n → usesE (ts.take k) e ≤ k) := Lib.hid fun k hk => by
    have h := usesE_le (ts.take k) e
    rw [List.length_take, HL.out] at h
    omega
  have H0 : Hid (usesE (ts.take 0) e = 0) := Lib.hid rfl
  obtain ⟨U, hU⟩ : ∃ U : Nat → Nat, (fun k => usesE (ts.take k) e) = U := ⟨_, rfl⟩
  have hU' : ∀ k, usesE (ts.take k) e = U k := fun k => congrFun hU k
  obtain ⟨G, hG⟩ : ∃ G, usesE ts e = G := ⟨_, rfl⟩
  rw [hG] at HE ⊢
  simp only [hU'] at HS HE HB H0
  obtain ⟨ex, ey⟩ := e
  clear R hU hU' hG he
  go_enter Try.func34, Try.ntmps34
  go_wp2
  have VE0 : (w.alloc (.cells #[.int .i64 ex, .int .i64 ey] 49)).rangeAt w.heap.size 0 [.int .i64 ex, .int .i64 ey] := (EBox.made w #[.int .i64 ex, .int .i64 ey] 49).1
  have B0 := box_below w #[.int .i64 ex, .int .i64 ey] 49
  have HVE : Hid (∀ W, Below (w.alloc (.cells #[.int .i64 ex, .int .i64 ey] 49)).heap.size (w.alloc (.cells #[.int .i64 ex, .int .i64 ey] 49)) W → W.rangeAt w.heap.size 0 [.int .i64 ex, .int .i64 ey]) := Lib.hid fun W B => rangeAt_on VE0 B
  clear VE0
  generalize w.alloc (.cells #[.int .i64 ex, .int .i64 ey] 49) = W0 at *
  have B1 := Below.refl W0.heap.size W0
  go_loopw [5, 6] (fun u i wr => ∃ j : Nat, j ≤ n ∧ i = .int .i64 (j : Int) ∧ u = .int .i64 (U j : Nat) ∧ Below W0.heap.size W0 wr) (fun _ i _ => n - (intOf i).toNat)
  case atStart => exact ⟨0, by omega, rfl, by rw [H0.out]; rfl, B1⟩
  case round =>
    clear B1
    obtain ⟨j, hj, rfl, rfl, B1⟩ := hrel
    rename World => wr
    by_cases hlt : j < n
    · obtain ⟨b, off, ⟨x, y, z⟩, rfl, hbl, q, hx⟩ := ((KR.out.below B0).below (B1.mono B0.size)).at_ hlt
      have r1 : wr.rangeAt b (off + j * 3) [.int .i64 x, .int .i64 y, .int .i64 z] := q
      have VE := HVE.out wr B1
      have hs := HS.out j _ hx.out
      have hb := HB.out j (by omega)
      have C1 := fun W => CH.out x y z W
      obtain ⟨u, hu⟩ : ∃ u, U j = u := ⟨_, rfl⟩
      rw [hu] at hs hb ⊢
      have t1 : ¬ (n : Int) ≤ (j : Int) := by omega
      clear q hx hu
      by_cases hm : (⟨ex, ey⟩ : Ed) ∈ eof ⟨x, y, z⟩
      · rw [decide_eq_true hm] at C1 hs
        rw [if_pos rfl] at hs
        have HS1 := Lib.hid hs
        have C2 := Lib.hid C1
        clear hs hm C1
        go_wp2_with fail
        refine wp_region_quiet_below (by kernel_rfl) (by kernel_rfl) ?_
        repeat (first
          | (go_big_quiet_want; refine quiet_eload _ _ rfl triK rfl (fun W hW => rangeAt_on r1 (below_regrown' hW)) rfl ?_; go_simp; go_big_quiet_on)
          | (go_big_quiet_want; refine quiet_eload _ _ rfl edK rfl (fun W hW => rangeAt_on VE (below_regrown' hW)) rfl ?_; go_simp; go_big_quiet_on)
          | go_big_quiet_step ((go_at_call 41; exact Calls.regrown_of (C2.out _))) | quiet_step ((go_at_call 41; exact Calls.regrown_of (C2.out _))))
        refine wpQuiet_nil ?_
        intro W hw'
        have B := below_regrown' hw'
        clear hw' r1 VE
        replace B1 := bon B1 B
        go_wp2
        go_roundw
        case rel => exact ⟨j + 1, by omega, by go_num, by rw [HS1.out]; go_num, B1⟩
        case measure => simp [intOf] <;> omega
      · rw [decide_eq_false hm] at C1 hs
        rw [if_neg (by simp), Nat.add_zero] at hs
        have HS1 := Lib.hid hs
        have C2 := Lib.hid C1
        clear hs hm C1
        go_wp2_with fail
        refine wp_region_quiet_below (by kernel_rfl) (by kernel_rfl) ?_
        repeat (first
          | (go_big_quiet_want; refine quiet_eload _ _ rfl triK rfl (fun W hW => rangeAt_on r1 (below_regrown' hW)) rfl ?_; go_simp; go_big_quiet_on)
          | (go_big_quiet_want; refine quiet_eload _ _ rfl edK rfl (fun W hW => rangeAt_on VE (below_regrown' hW)) rfl ?_; go_simp; go_big_quiet_on)
          | go_big_quiet_step ((go_at_call 41; exact Calls.regrown_of (C2.out _))) | quiet_step ((go_at_call 41; exact Calls.regrown_of (C2.out _))))
        refine wpQuiet_nil ?_
        intro W hw'
        have B := below_regrown' hw'
        clear hw' r1 VE
        replace B1 := bon B1 B
        go_wp2
        go_roundw
        case rel => exact ⟨j + 1, by omega, by go_num, by rw [HS1.out]; rfl, B1⟩
        case measure => simp [intOf] <;> omega
    · obtain rfl : j = n := by omega
      have hr := HE.out
      have BB := bon B0 B1
      rw [hr]
      clear HE HS HB B1 B0 hr
      go_wp2
      go_ret
      exact ⟨rfl, BB⟩

end Go.Proofs.Ytepammildggnmaa
