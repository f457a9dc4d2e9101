/- Edges of the reference. -/
import Derived.Test.YtepammildggnmaaJ15
namespace Go.Proofs.Ytepammildggnmaa
open Go.RowKit Go.Sort Go.ChangeShapes Go.WideShapes
set_option linter.unusedVariables false

theorem ins_len (e : Ed) : ∀ l, (ins e l).length ≤ l.length + 1
  | [] => by simp [ins]
  | a :: l => by
    have h := ins_len e l
    unfold ins
    split
    · simp only [List.length_cons]; omega
    · split <;> simp only [List.length_cons] <;> omega

/-- The reference's list at corner k of a triangle. -/
def rco (ts : List Tri) (o : List Ed) (x y z : Int) : Nat → List Ed
  | 0 => o
  | 1 => rstepE ts o x y
  | 2 => rstepE ts (rstepE ts o x y) y z
  | _ => rstepE ts (rstepE ts (rstepE ts o x y) y z) z x

set_option maxRecDepth 100000 in
set_option maxHeartbeats 8000000 in
theorem redges_b (A : Option Addr) (n c : Nat) (ts : List Tri) (w : World) (R : RdT w w.heap.size A n ts) (hn : n ≤ 1048576) :
    Calls Try.prog 25 #[.slice A n c] w (GivesD w (redg ts ts)) := by
  have KR := Lib.hid R
  have HL := Lib.hid R.len
  have HS := Lib.hid (fun k t (h : ts[k]? = some t) => redg_snoc (ts := ts) h)
  have HE : Hid (redg ts (ts.take n) = redg ts ts) := Lib.hid (by rw [← R.len, List.take_length])
  have CU := Lib.hid (fun e he W R => uses_b A n c ts e he W R hn)
  obtain ⟨G, hG⟩ : ∃ G, redg ts ts = G := ⟨_, rfl⟩
  rw [hG] at HE ⊢
  have B0 := Below.refl w.heap.size w
  have HN : Hid (RdD w w.heap.size none 0 (redg ts (ts.take 0))) := Lib.hid (RdE.nil _ _ _ _ _)
  clear R hG
  go_enter Try.func25, Try.ntmps25
  go_wp2
  go_loopw [3, 4] (fun u i wr => ∃ (j m cm : Nat) (AM : Option Addr), j ≤ n ∧ i = .int .i64 (j : Int) ∧ u = .slice AM m cm ∧ RdD wr wr.heap.size AM m (redg ts (ts.take j)) ∧ m ≤ cm ∧ m ≤ 3 * j ∧ Below w.heap.size w wr) (fun _ i _ => n - (intOf i).toNat)
  case atStart => exact ⟨0, 0, 0, none, by omega, rfl, rfl, HN.out, by omega, by omega, B0⟩
  case round =>
    clear B0
    obtain ⟨j, m, cm, AM, hj, rfl, rfl, RM, hmc, hm3, B0⟩ := hrel
    rename World => wr
    by_cases hlt : j < n
    · obtain ⟨b, off, ⟨x, y, z⟩, rfl, hbl, p, hx⟩ := (KR.out.below B0).at_ hlt
      have HSN : Hid (redg ts (ts.take (j + 1)) = rco ts (redg ts (ts.take j)) x y z 3) := Lib.hid (HS.out j _ hx.out)
      obtain ⟨o, ho⟩ : ∃ o, redg ts (ts.take j) = o := ⟨_, rfl⟩
      rw [ho] at HSN RM
      have HC : Hid (∀ W, Below w.heap.size w W → W.cell? ⟨b, off + j * 3, none⟩ = some (.int .i64 x) ∧ W.cell? ⟨b, off + j * 3 + 1, none⟩ = some (.int .i64 y) ∧ W.cell? ⟨b, off + j * 3 + 2, none⟩ = some (.int .i64 z)) := Lib.hid fun W BW => by
        have q := fun i v hv => ((BW.cell (p := ⟨b, off + j * 3 + i, none⟩) hbl).trans ((B0.cell (p := ⟨b, off + j * 3 + i, none⟩) hbl).symm.trans (p i v hv)))
        exact ⟨by have h := q 0 _ rfl; simpa using h, q 1 _ rfl, q 2 _ rfl⟩
      have KM := Lib.hid RM
      have t1 : ¬ (n : Int) ≤ (j : Int) := by omega
      have HM3 := Lib.hid hm3
      clear RM ho p hx hm3
      go_wp2
      go_loopw [3, 5] (fun u i wx => ∃ (k m2 cm2 : Nat) (A2 : Option Addr), k ≤ 3 ∧ i = .int .i64 (k : Int) ∧ u = .slice A2 m2 cm2 ∧ RdD wx wx.heap.size A2 m2 (rco ts o x y z k) ∧ m2 ≤ cm2 ∧ m2 ≤ 3 * j + k ∧ Below w.heap.size w wx) (fun _ i _ => 3 - (intOf i).toNat)
      case atStart => exact ⟨0, m, cm, AM, by omega, rfl, rfl, KM.out, hmc, by have := HM3.out; omega, B0⟩
      case round =>
        clear B0 KM hmc HM3
        obtain ⟨k, m2, cm2, A2, hk, rfl, rfl, RM, hmc, hm3, B0⟩ := hrel
        rename World => wx
        obtain ⟨ca, cb, cc⟩ := HC.out wx B0
        rcases (show k = 0 ∨ k = 1 ∨ k = 2 ∨ k = 3 by omega) with rfl | rfl | rfl | rfl
        · obtain ⟨es, hes⟩ : ∃ es, rco ts o x y z 0 = es := ⟨_, rfl⟩
          have HST : Hid (rco ts o x y z (0 + 1) = rstepE ts es x y) := Lib.hid (by rw [← hes]; rfl)
          rw [hes] at RM
          have KM := Lib.hid RM
          clear hes RM
          go_wp2_with fail
          have BL := B0
          clear B0
          have BB := Below.refl wx.heap.size wx
          have k_ca := cell_regrown ca
          have k_cb := cell_regrown cb
          have k_cc := cell_regrown cc
          refine wp_region_quiet_below (by kernel_rfl) (by kernel_rfl) ?_
          repeat (first | go_big_quiet_step ((first | fail)) | quiet_step ((first | fail)))
          refine wpQuiet_nil ?_
          intro W hw'
          have B := below_regrown' hw'
          clear hw' k_ca k_cb k_cc
          replace BB := bon BB B
          replace ca := cell_below B ca
          replace cb := cell_below B cb
          replace cc := cell_below B cc
          have K2 := Lib.hid (KM.out.on BB)
          have B0 := bon BL BB
          clear BL BB KM
          have VA : (W.alloc (.cells #[.int .i64 (min x y), .int .i64 (max x y)] 49)).rangeAt W.heap.size 0 [.int .i64 (min x y), .int .i64 (max x y)] := (EBox.made W #[.int .i64 (min x y), .int .i64 (max x y)] 49).1
          have BX := box_below W #[.int .i64 (min x y), .int .i64 (max x y)] 49
          have K3 := Lib.hid (K2.out.on BX)
          have B1 := bon B0 BX
          clear B0 K2 BX
          by_cases heq : x = y
          · have HS1 : Hid (rco ts o x y z (0 + 1) = es) := Lib.hid (by rw [HST.out]; unfold rstepE; rw [if_neg (fun h => h.1 heq)])
            have hne : (x != y) = false := by simpa using heq
            clear HST heq
            go_wp2_with (with_reducible refine estore2L edK ?_ ?_ ?_ ?_; focus rfl; focus rfl; focus rfl)
            go_roundw
            case rel => exact ⟨0 + 1, m2, cm2, A2, by omega, rfl, rfl, by rw [HS1.out]; exact K3.out, hmc, by omega, B1⟩
            case measure => decide
          · have hne : (x != y) = true := by simpa using heq
            have CU1 := Lib.hid (CU.out ⟨min x y, max x y⟩ (mkE_lt heq))
            by_cases hu : usesE ts (mkE x y) = 2
            · have HS1 : Hid (rco ts o x y z (0 + 1) = ins ⟨min x y, max x y⟩ es) := Lib.hid (by rw [HST.out]; unfold rstepE; rw [if_pos ⟨heq, hu⟩]; rfl)
              have CU2 : Hid (∀ W, RdT W W.heap.size (some ⟨b, off, none⟩) n ts → Calls Try.prog 34 #[.slice (some ⟨b, off, none⟩) n c, .agg #[.int .i64 (min x y), .int .i64 (max x y)]] W fun r w' => r = .returned (.int .i64 2) ∧ Below W.heap.size W w') := Lib.hid fun W R => by
                have h := CU1.out W R
                rw [show usesE ts ⟨min x y, max x y⟩ = 2 from hu] at h
                exact h
              have CW := Lib.hid (fun W R => with_b A2 m2 cm2 es ⟨min x y, max x y⟩ W R hmc (by omega))
              have HIL : Hid ((ins ⟨min x y, max x y⟩ es).length ≤ m2 + 1) := Lib.hid (by have h := ins_len ⟨min x y, max x y⟩ es; rw [K3.out.len] at h; exact h)
              clear HST CU1 hu heq
              go_wp2_with (first
                | ((with_reducible refine estore2L edK ?_ ?_ ?_ ?_); focus rfl; focus rfl; focus rfl)
                | ((with_reducible refine eload2L edK VA ?_ ?_); focus rfl)
                | ((refine wpList_ungd rfl ?_); (with_reducible refine eload2L edK VA ?_ ?_); focus rfl)
                | (go_at_call 34; (with_reducible refine (CU2.out _ ((KR.out.below B1).more B1.size)).mono ?_); rintro _ W3 ⟨rfl, B⟩; have K4 := Lib.hid (K3.out.on B); replace VA := rangeAt_on VA B; replace B1 := bon B1 B; clear B)
                | (go_at_call 35; (with_reducible refine (CW.out _ K4.out).mono ?_); rintro _ W5 ⟨A5, m5, c5, rfl, hr5, R5, B⟩; have K5 := Lib.hid R5; have H5 : Hid (m5 ≤ m2 + 1) := Lib.hid (by have h := R5.len; have h2 := HIL.out; omega); replace B1 := bon B1 B; clear B R5))
              go_roundw
              case rel => exact ⟨0 + 1, m5, c5, A5, by omega, rfl, rfl, by rw [HS1.out]; exact K5.out, hr5, by have := H5.out; omega, B1⟩
              case measure => decide
            · have HS1 : Hid (rco ts o x y z (0 + 1) = es) := Lib.hid (by rw [HST.out]; unfold rstepE; rw [if_neg (fun h => hu h.2)])
              obtain ⟨u, hu'⟩ : ∃ u, usesE ts ⟨min x y, max x y⟩ = u := ⟨_, rfl⟩
              have hun : ((u : Int) == 2) = false := by have h : u ≠ 2 := fun h => hu (hu'.trans h); simp; omega
              have CU2 : Hid (∀ W, RdT W W.heap.size (some ⟨b, off, none⟩) n ts → Calls Try.prog 34 #[.slice (some ⟨b, off, none⟩) n c, .agg #[.int .i64 (min x y), .int .i64 (max x y)]] W fun r w' => r = .returned (.int .i64 (u : Nat)) ∧ Below W.heap.size W w') := Lib.hid fun W R => by
                have h := CU1.out W R
                rw [hu'] at h
                exact h
              clear HST CU1 hu hu' heq
              go_wp2_with (first
                | ((with_reducible refine estore2L edK ?_ ?_ ?_ ?_); focus rfl; focus rfl; focus rfl)
                | ((refine wpList_ungd rfl ?_); (with_reducible refine eload2L edK VA ?_ ?_); focus rfl)
                | (go_at_call 34; (with_reducible refine (CU2.out _ ((KR.out.below B1).more B1.size)).mono ?_); rintro _ W3 ⟨rfl, B⟩; have K4 := Lib.hid (K3.out.on B); replace B1 := bon B1 B; clear B))
              go_roundw
              case rel => exact ⟨0 + 1, m2, cm2, A2, by omega, rfl, rfl, by rw [HS1.out]; exact K4.out, hmc, by omega, B1⟩
              case measure => decide
        · obtain ⟨es, hes⟩ : ∃ es, rco ts o x y z 1 = es := ⟨_, rfl⟩
          have HST : Hid (rco ts o x y z (1 + 1) = rstepE ts es y z) := Lib.hid (by rw [← hes]; rfl)
          rw [hes] at RM
          have KM := Lib.hid RM
          clear hes RM
          go_wp2_with fail
          have BL := B0
          clear B0
          have BB := Below.refl wx.heap.size wx
          have k_ca := cell_regrown ca
          have k_cb := cell_regrown cb
          have k_cc := cell_regrown cc
          refine wp_region_quiet_below (by kernel_rfl) (by kernel_rfl) ?_
          repeat (first | go_big_quiet_step ((first | fail)) | quiet_step ((first | fail)))
          refine wpQuiet_nil ?_
          intro W hw'
          have B := below_regrown' hw'
          clear hw' k_ca k_cb k_cc
          replace BB := bon BB B
          replace ca := cell_below B ca
          replace cb := cell_below B cb
          replace cc := cell_below B cc
          have K2 := Lib.hid (KM.out.on BB)
          have B0 := bon BL BB
          clear BL BB KM
          have VA : (W.alloc (.cells #[.int .i64 (min y z), .int .i64 (max y z)] 49)).rangeAt W.heap.size 0 [.int .i64 (min y z), .int .i64 (max y z)] := (EBox.made W #[.int .i64 (min y z), .int .i64 (max y z)] 49).1
          have BX := box_below W #[.int .i64 (min y z), .int .i64 (max y z)] 49
          have K3 := Lib.hid (K2.out.on BX)
          have B1 := bon B0 BX
          clear B0 K2 BX
          by_cases heq : y = z
          · have HS1 : Hid (rco ts o x y z (1 + 1) = es) := Lib.hid (by rw [HST.out]; unfold rstepE; rw [if_neg (fun h => h.1 heq)])
            have hne : (y != z) = false := by simpa using heq
            clear HST heq
            go_wp2_with (with_reducible refine estore2L edK ?_ ?_ ?_ ?_; focus rfl; focus rfl; focus rfl)
            go_roundw
            case rel => exact ⟨1 + 1, m2, cm2, A2, by omega, rfl, rfl, by rw [HS1.out]; exact K3.out, hmc, by omega, B1⟩
            case measure => decide
          · have hne : (y != z) = true := by simpa using heq
            have CU1 := Lib.hid (CU.out ⟨min y z, max y z⟩ (mkE_lt heq))
            by_cases hu : usesE ts (mkE y z) = 2
            · have HS1 : Hid (rco ts o x y z (1 + 1) = ins ⟨min y z, max y z⟩ es) := Lib.hid (by rw [HST.out]; unfold rstepE; rw [if_pos ⟨heq, hu⟩]; rfl)
              have CU2 : Hid (∀ W, RdT W W.heap.size (some ⟨b, off, none⟩) n ts → Calls Try.prog 34 #[.slice (some ⟨b, off, none⟩) n c, .agg #[.int .i64 (min y z), .int .i64 (max y z)]] W fun r w' => r = .returned (.int .i64 2) ∧ Below W.heap.size W w') := Lib.hid fun W R => by
                have h := CU1.out W R
                rw [show usesE ts ⟨min y z, max y z⟩ = 2 from hu] at h
                exact h
              have CW := Lib.hid (fun W R => with_b A2 m2 cm2 es ⟨min y z, max y z⟩ W R hmc (by omega))
              have HIL : Hid ((ins ⟨min y z, max y z⟩ es).length ≤ m2 + 1) := Lib.hid (by have h := ins_len ⟨min y z, max y z⟩ es; rw [K3.out.len] at h; exact h)
              clear HST CU1 hu heq
              go_wp2_with (first
                | ((with_reducible refine estore2L edK ?_ ?_ ?_ ?_); focus rfl; focus rfl; focus rfl)
                | ((with_reducible refine eload2L edK VA ?_ ?_); focus rfl)
                | ((refine wpList_ungd rfl ?_); (with_reducible refine eload2L edK VA ?_ ?_); focus rfl)
                | (go_at_call 34; (with_reducible refine (CU2.out _ ((KR.out.below B1).more B1.size)).mono ?_); rintro _ W3 ⟨rfl, B⟩; have K4 := Lib.hid (K3.out.on B); replace VA := rangeAt_on VA B; replace B1 := bon B1 B; clear B)
                | (go_at_call 35; (with_reducible refine (CW.out _ K4.out).mono ?_); rintro _ W5 ⟨A5, m5, c5, rfl, hr5, R5, B⟩; have K5 := Lib.hid R5; have H5 : Hid (m5 ≤ m2 + 1) := Lib.hid (by have h := R5.len; have h2 := HIL.out; omega); replace B1 := bon B1 B; clear B R5))
              go_roundw
              case rel => exact ⟨1 + 1, m5, c5, A5, by omega, rfl, rfl, by rw [HS1.out]; exact K5.out, hr5, by have := H5.out; omega, B1⟩
              case measure => decide
            · have HS1 : Hid (rco ts o x y z (1 + 1) = es) := Lib.hid (by rw [HST.out]; unfold rstepE; rw [if_neg (fun h => hu h.2)])
              obtain ⟨u, hu'⟩ : ∃ u, usesE ts ⟨min y z, max y z⟩ = u := ⟨_, rfl⟩
              have hun : ((u : Int) == 2) = false := by have h : u ≠ 2 := fun h => hu (hu'.trans h); simp; omega
              have CU2 : Hid (∀ W, RdT W W.heap.size (some ⟨b, off, none⟩) n ts → Calls Try.prog 34 #[.slice (some ⟨b, off, none⟩) n c, .agg #[.int .i64 (min y z), .int .i64 (max y z)]] W fun r w' => r = .returned (.int .i64 (u : Nat)) ∧ Below W.heap.size W w') := Lib.hid fun W R => by
                have h := CU1.out W R
                rw [hu'] at h
                exact h
              clear HST CU1 hu hu' heq
              go_wp2_with (first
                | ((with_reducible refine estore2L edK ?_ ?_ ?_ ?_); focus rfl; focus rfl; focus rfl)
                | ((refine wpList_ungd rfl ?_); (with_reducible refine eload2L edK VA ?_ ?_); focus rfl)
                | (go_at_call 34; (with_reducible refine (CU2.out _ ((KR.out.below B1).more B1.size)).mono ?_); rintro _ W3 ⟨rfl, B⟩; have K4 := Lib.hid (K3.out.on B); replace B1 := bon B1 B; clear B))
              go_roundw
              case rel => exact ⟨1 + 1, m2, cm2, A2, by omega, rfl, rfl, by rw [HS1.out]; exact K4.out, hmc, by omega, B1⟩
              case measure => decide
        · obtain ⟨es, hes⟩ : ∃ es, rco ts o x y z 2 = es := ⟨_, rfl⟩
          have HST : Hid (rco ts o x y z (2 + 1) = rstepE ts es z x) := Lib.hid (by rw [← hes]; rfl)
          rw [hes] at RM
          have KM := Lib.hid RM
          clear hes RM
          go_wp2_with fail
          have BL := B0
          clear B0
          have BB := Below.refl wx.heap.size wx
          have k_ca := cell_regrown ca
          have k_cb := cell_regrown cb
          have k_cc := cell_regrown cc
          refine wp_region_quiet_below (by kernel_rfl) (by kernel_rfl) ?_
          repeat (first | go_big_quiet_step ((first | fail)) | quiet_step ((first | fail)))
          refine wpQuiet_nil ?_
          intro W hw'
          have B := below_regrown' hw'
          clear hw' k_ca k_cb k_cc
          replace BB := bon BB B
          replace ca := cell_below B ca
          replace cb := cell_below B cb
          replace cc := cell_below B cc
          have K2 := Lib.hid (KM.out.on BB)
          have B0 := bon BL BB
          clear BL BB KM
          have VA : (W.alloc (.cells #[.int .i64 (min z x), .int .i64 (max z x)] 49)).rangeAt W.heap.size 0 [.int .i64 (min z x), .int .i64 (max z x)] := (EBox.made W #[.int .i64 (min z x), .int .i64 (max z x)] 49).1
          have BX := box_below W #[.int .i64 (min z x), .int .i64 (max z x)] 49
          have K3 := Lib.hid (K2.out.on BX)
          have B1 := bon B0 BX
          clear B0 K2 BX
          by_cases heq : z = x
          · have HS1 : Hid (rco ts o x y z (2 + 1) = es) := Lib.hid (by rw [HST.out]; unfold rstepE; rw [if_neg (fun h => h.1 heq)])
            have hne : (z != x) = false := by simpa using heq
            clear HST heq
            go_wp2_with (with_reducible refine estore2L edK ?_ ?_ ?_ ?_; focus rfl; focus rfl; focus rfl)
            go_roundw
            case rel => exact ⟨2 + 1, m2, cm2, A2, by omega, rfl, rfl, by rw [HS1.out]; exact K3.out, hmc, by omega, B1⟩
            case measure => decide
          · have hne : (z != x) = true := by simpa using heq
            have CU1 := Lib.hid (CU.out ⟨min z x, max z x⟩ (mkE_lt heq))
            by_cases hu : usesE ts (mkE z x) = 2
            · have HS1 : Hid (rco ts o x y z (2 + 1) = ins ⟨min z x, max z x⟩ es) := Lib.hid (by rw [HST.out]; unfold rstepE; rw [if_pos ⟨heq, hu⟩]; rfl)
              have CU2 : Hid (∀ W, RdT W W.heap.size (some ⟨b, off, none⟩) n ts → Calls Try.prog 34 #[.slice (some ⟨b, off, none⟩) n c, .agg #[.int .i64 (min z x), .int .i64 (max z x)]] W fun r w' => r = .returned (.int .i64 2) ∧ Below W.heap.size W w') := Lib.hid fun W R => by
                have h := CU1.out W R
                rw [show usesE ts ⟨min z x, max z x⟩ = 2 from hu] at h
                exact h
              have CW := Lib.hid (fun W R => with_b A2 m2 cm2 es ⟨min z x, max z x⟩ W R hmc (by omega))
              have HIL : Hid ((ins ⟨min z x, max z x⟩ es).length ≤ m2 + 1) := Lib.hid (by have h := ins_len ⟨min z x, max z x⟩ es; rw [K3.out.len] at h; exact h)
              clear HST CU1 hu heq
              go_wp2_with (first
                | ((with_reducible refine estore2L edK ?_ ?_ ?_ ?_); focus rfl; focus rfl; focus rfl)
                | ((with_reducible refine eload2L edK VA ?_ ?_); focus rfl)
                | ((refine wpList_ungd rfl ?_); (with_reducible refine eload2L edK VA ?_ ?_); focus rfl)
                | (go_at_call 34; (with_reducible refine (CU2.out _ ((KR.out.below B1).more B1.size)).mono ?_); rintro _ W3 ⟨rfl, B⟩; have K4 := Lib.hid (K3.out.on B); replace VA := rangeAt_on VA B; replace B1 := bon B1 B; clear B)
                | (go_at_call 35; (with_reducible refine (CW.out _ K4.out).mono ?_); rintro _ W5 ⟨A5, m5, c5, rfl, hr5, R5, B⟩; have K5 := Lib.hid R5; have H5 : Hid (m5 ≤ m2 + 1) := Lib.hid (by have h := R5.len; have h2 := HIL.out; omega); replace B1 := bon B1 B; clear B R5))
              go_roundw
              case rel => exact ⟨2 + 1, m5, c5, A5, by omega, rfl, rfl, by rw [HS1.out]; exact K5.out, hr5, by have := H5.out; omega, B1⟩
              case measure => decide
            · have HS1 : Hid (rco ts o x y z (2 + 1) = es) := Lib.hid (by rw [HST.out]; unfold rstepE; rw [if_neg (fun h => hu h.2)])
              obtain ⟨u, hu'⟩ : ∃ u, usesE ts ⟨min z x, max z x⟩ = u := ⟨_, rfl⟩
              have hun : ((u : Int) == 2) = false := by have h : u ≠ 2 := fun h => hu (hu'.trans h); simp; omega
              have CU2 : Hid (∀ W, RdT W W.heap.size (some ⟨b, off, none⟩) n ts → Calls Try.prog 34 #[.slice (some ⟨b, off, none⟩) n c, .agg #[.int .i64 (min z x), .int .i64 (max z x)]] W fun r w' => r = .returned (.int .i64 (u : Nat)) ∧ Below W.heap.size W w') := Lib.hid fun W R => by
                have h := CU1.out W R
                rw [hu'] at h
                exact h
              clear HST CU1 hu hu' heq
              go_wp2_with (first
                | ((with_reducible refine estore2L edK ?_ ?_ ?_ ?_); focus rfl; focus rfl; focus rfl)
                | ((refine wpList_ungd rfl ?_); (with_reducible refine eload2L edK VA ?_ ?_); focus rfl)
                | (go_at_call 34; (with_reducible refine (CU2.out _ ((KR.out.below B1).more B1.size)).mono ?_); rintro _ W3 ⟨rfl, B⟩; have K4 := Lib.hid (K3.out.on B); replace B1 := bon B1 B; clear B))
              go_roundw
              case rel => exact ⟨2 + 1, m2, cm2, A2, by omega, rfl, rfl, by rw [HS1.out]; exact K4.out, hmc, by omega, B1⟩
              case measure => decide
        · have KM := Lib.hid RM
          clear RM
          go_wp2
          go_roundw
          case rel => exact ⟨j + 1, m2, cm2, A2, by omega, by go_num, rfl, by rw [HSN.out]; exact KM.out, hmc, by omega, B0⟩
          case measure => simp [intOf] <;> omega
    · obtain rfl : j = n := by omega
      rw [HE.out] at RM
      have KM := Lib.hid RM
      clear RM
      go_wp2
      go_ret
      exact ⟨AM, m, cm, rfl, KM.out, B0⟩

end Go.Proofs.Ytepammildggnmaa
