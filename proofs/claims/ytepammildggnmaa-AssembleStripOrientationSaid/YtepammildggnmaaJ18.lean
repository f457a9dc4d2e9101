/- The walk of AssembleStripOrientation. -/
import Derived.Test.YtepammildggnmaaJ17
import Derived.Test.YtepammildggnmaaJSMath
import Derived.Test.YtepammildggnmaaJ6
namespace Go.Proofs.Ytepammildggnmaa
open Go.RowKit Go.Sort Go.ChangeShapes Go.WideShapes
set_option linter.unusedVariables false

theorem sts_get (f : Int) : ∀ (m j : Nat), j < m → (sts f m)[j]? = some (stt f j)
  | 0, j, h => by omega
  | m + 1, j, h => by
    rw [sts]
    by_cases q : j < m
    · rw [List.getElem?_append_left (by rw [sts_len]; exact q)]
      exact sts_get f m j q
    · obtain rfl : j = m := by omega
      rw [List.getElem?_append_right (by rw [sts_len]; exact Nat.le_refl _), sts_len, Nat.sub_self]
      rfl

set_option maxRecDepth 100000 in
set_option maxHeartbeats 4000000 in
theorem strip_walk (n f : Int) (w : World) (hn : 0 ≤ n ∧ n ≤ 255) (hf : 0 ≤ f ∧ f ≤ 65535) :
    Calls Try.prog 8 #[.int .u8 n, .int .u16 f] w fun e w' => e = .returned (.bool true) ∧ Below w.heap.size w w' := by
  obtain ⟨M, hM, hM2⟩ : ∃ M : Nat, n.tmod 40 = (M : Int) ∧ M ≤ 39 := ⟨(n % 40).toNat, by rw [Int.tmod_eq_emod_of_nonneg hn.1]; omega, by omega⟩
  have g1 : IntKind.u8.wrap (M : Int) = (M : Int) := by simp [IntKind.wrap, IntKind.bits, IntKind.signed]; omega
  have HT : Hid (tra 2 (rns (sti f M)) = sts f (M - 2)) := Lib.hid (sti_tra f hf.1 M)
  obtain ⟨hf0, hf1⟩ := hf
  have O0 := Lib.hid (Own.nil w 3 .i64)
  have B0 := Below.refl w.heap.size w
  clear hn
  go_enter Try.func8, Try.ntmps8
  go_wp2
  go_loopw [5, 6] (fun u i wr => ∃ (k m c5 : Nat) (A5 : Option Addr), k ≤ M ∧ i = .int .i64 (k : Int) ∧ u = .slice A5 m c5 ∧ OwnI wr w.heap.size A5 m c5 (sti f k) ∧ Below w.heap.size w wr) (fun _ i _ => M - (intOf i).toNat)
  case atStart => exact ⟨0, 0, 0, none, by omega, rfl, rfl, O0.out, B0⟩
  case round =>
    clear O0 B0
    obtain ⟨k, m, c5, A5, hk, rfl, rfl, own, B0⟩ := hrel
    rename World => wr
    have HM : Hid (m = k) := Lib.hid (by rw [← own.len, sti_len])
    have OW := Lib.hid own
    clear own
    by_cases hlt : k < M
    · go_wp2_with (refine wpList_app1 _ rfl _ _ _ rfl elInts OW.out rfl (by simp only [IntKind.min, IntKind.max]; first | decide | (constructor <;> simp [IntKind.bits, IntKind.signed] <;> omega)) rfl (by have := HM.out; simp only [maxLen]; omega) (by have := HM.out; omega) ?_; intro A7 n7 c7 W7 own7 B7; replace B0 := B0.trans B7; have OW7 := Lib.hid own7; clear own7 B7)
      go_roundw
      case rel => exact ⟨k + 1, n7, c7, A7, by omega, by go_num, rfl, OW7.out, B0⟩
      case measure => simp [intOf] <;> omega
    · obtain rfl : k = M := by omega
      have own_rd := OW.out.rd
      have C1 : Hid (∀ W, Rd W W.heap.size .i64 A5 m (sti f k) → Calls Try.prog 13 #[.int .i64 2, .slice A5 m c5] W (GivesT W (sts f (k - 2)))) := Lib.hid fun W R => by
        have h := tris_b A5 m c5 (sti f k) 2 W R (by have := HM.out; omega)
        rw [HT.out] at h
        exact h
      have HN3 : Hid ((sts f (k - 2)).length = k - 2) := Lib.hid (sts_len f _)
      have KM := Lib.hid own_rd
      obtain ⟨q, hq⟩ : ∃ q, k - 2 = q := ⟨_, rfl⟩
      have HE : Hid (q ≠ 0 → (redg (sts f q) (sts f q)).length = q - 1) := Lib.hid fun h => by
        have e := strip_edges f (q - 1)
        rw [show q - 1 + 1 = q by omega] at e
        exact e
      have HG := Lib.hid (fun i (h : i < q) => sts_get f q i h)
      rw [hq] at C1 HN3
      have hqk : q ≤ 37 := by omega
      have gmx : max 0 ((k : Int) - 2) = (q : Int) := by omega
      have HMK := HM.out
      subst HMK
      clear OW HM
      go_wp2_with (go_at_call 13; (with_reducible refine (C1.out _ KM.out).mono ?_); rintro _ W1 ⟨A2, n2, d2, rfl, R2, B⟩; replace B0 := bon B0 B; have K2 := Lib.hid R2; have H2 : Hid (n2 = q) := Lib.hid (by rw [← R2.len]; exact HN3.out); have g2 : ((n2 : Int) != (q : Int)) = false := (by have := H2.out; simp; omega); clear B R2)
      have B2 := Below.refl W1.heap.size W1
      have hq2 : n2 ≤ 37 := by have := H2.out; omega
      have HE2 : Hid (n2 ≠ 0 → (redg (sts f n2) (sts f n2)).length = n2 - 1) := Lib.hid (by rw [H2.out]; exact HE.out)
      have K3 : Hid (RdT W1 W1.heap.size A2 n2 (sts f n2)) := Lib.hid (by have h := K2.out; rw [H2.out] at h ⊢; exact h)
      have HG2 : Hid (∀ i, i < n2 → (sts f n2)[i]? = some (stt f i)) := Lib.hid (by rw [H2.out]; exact HG.out)
      clear K2 HE HG HN3 KM own_rd C1 HT gmx g2 g1 hM
      go_loopw [8] (fun i wx => ∃ i' : Nat, i' ≤ n2 ∧ i = .int .i64 (i' : Int) ∧ Below W1.heap.size W1 wx) (fun i _ => n2 - (intOf i).toNat)
      case atStart => exact ⟨0, by omega, rfl, B2⟩
      case round =>
        clear B2
        obtain ⟨i, hi, rfl, B2⟩ := hrel
        rename World => wx
        by_cases hlt2 : i + 1 < n2
        · obtain ⟨b1, o1, X1, rfl, l1, q1, hx1⟩ := (K3.out.below B2).at_ (show i < n2 by omega)
          obtain ⟨b2, o2, X2, e2, l2, q2, hx2⟩ := (K3.out.below B2).at_ hlt2
          injection e2 with e2
          injection e2 with e2 e2'
          subst e2
          subst e2'
          have h1 : stt f i = X1 := by have h := hx1.out; rw [HG2.out i (by omega)] at h; injection h
          have h2 : stt f (i + 1) = X2 := by have h := hx2.out; rw [HG2.out (i + 1) hlt2] at h; injection h
          have t1 : (i : Int) + 1 < (n2 : Int) := by omega
          clear hx1 hx2
          by_cases hp : i % 2 = 0
          · have s1 : stt f i = ⟨f + i, f + i + 1, f + i + 2⟩ := by unfold stt; rw [if_pos hp]
            have s2 : stt f (i + 1) = ⟨f + i + 1, f + i + 3, f + i + 2⟩ := by unfold stt; rw [if_neg (by omega), Tri.mk.injEq]; refine ⟨?_, ?_, ?_⟩ <;> omega
            rw [s1] at h1
            rw [s2] at h2
            subst h1
            subst h2
            have r1 : wx.rangeAt b1 (o1 + i * 3) [.int .i64 (f + i), .int .i64 (f + i + 1), .int .i64 (f + i + 2)] := q1
            have r2 : wx.rangeAt b1 (o1 + (i + 1) * 3) [.int .i64 (f + i + 1), .int .i64 (f + i + 3), .int .i64 (f + i + 2)] := q2
            have d1 := fun W => directed_b (f + i) (f + i + 1) (f + i + 2) (f + i + 1) (f + i + 2) W
            rw [show dirb (f + i) (f + i + 1) (f + i + 2) (f + i + 1) (f + i + 2) = true by unfold dirb; simp] at d1
            have Kd1 := Lib.hid d1
            have d2 := fun W => directed_b (f + i + 1) (f + i + 3) (f + i + 2) (f + i + 2) (f + i + 1) W
            rw [show dirb (f + i + 1) (f + i + 3) (f + i + 2) (f + i + 2) (f + i + 1) = true by unfold dirb; simp] at d2
            have Kd2 := Lib.hid d2
            clear q1 q2 s1 s2 d1 d2
            go_wp2_with (first
              | ((with_reducible refine eload3L triK r1 ?_ ?_); focus rfl)
              | ((refine wpList_ungd rfl ?_); (with_reducible refine eload3L triK r1 ?_ ?_); focus rfl)
              | ((with_reducible refine eload3L triK r2 ?_ ?_); focus rfl)
              | ((refine wpList_ungd rfl ?_); (with_reducible refine eload3L triK r2 ?_ ?_); focus rfl)
              | (go_at_call 26; (with_reducible refine (Kd1.out _).mono ?_); rintro _ W4 ⟨rfl, B⟩; replace r1 := rangeAt_on r1 B; replace r2 := rangeAt_on r2 B; replace B2 := bon B2 B; clear B)
              | (go_at_call 26; (with_reducible refine (Kd2.out _).mono ?_); rintro _ W4 ⟨rfl, B⟩; replace r1 := rangeAt_on r1 B; replace r2 := rangeAt_on r2 B; replace B2 := bon B2 B; clear B))
            go_roundw
            case rel => exact ⟨i + 1, by omega, by go_num, B2⟩
            case measure => simp [intOf] <;> omega
          · have s1 : stt f i = ⟨f + i, f + i + 2, f + i + 1⟩ := by unfold stt; rw [if_neg hp]
            have s2 : stt f (i + 1) = ⟨f + i + 1, f + i + 2, f + i + 3⟩ := by unfold stt; rw [if_pos (by omega), Tri.mk.injEq]; refine ⟨?_, ?_, ?_⟩ <;> omega
            rw [s1] at h1
            rw [s2] at h2
            subst h1
            subst h2
            have r1 : wx.rangeAt b1 (o1 + i * 3) [.int .i64 (f + i), .int .i64 (f + i + 2), .int .i64 (f + i + 1)] := q1
            have r2 : wx.rangeAt b1 (o1 + (i + 1) * 3) [.int .i64 (f + i + 1), .int .i64 (f + i + 2), .int .i64 (f + i + 3)] := q2
            have d1 := fun W => directed_b (f + i) (f + i + 2) (f + i + 1) (f + i + 1) (f + i + 2) W
            rw [show dirb (f + i) (f + i + 2) (f + i + 1) (f + i + 1) (f + i + 2) = false by unfold dirb; simp; omega] at d1
            have Kd1 := Lib.hid d1
            have d2 := fun W => directed_b (f + i) (f + i + 2) (f + i + 1) (f + i + 2) (f + i + 1) W
            rw [show dirb (f + i) (f + i + 2) (f + i + 1) (f + i + 2) (f + i + 1) = true by unfold dirb; simp] at d2
            have Kd2 := Lib.hid d2
            have d3 := fun W => directed_b (f + i + 1) (f + i + 2) (f + i + 3) (f + i + 1) (f + i + 2) W
            rw [show dirb (f + i + 1) (f + i + 2) (f + i + 3) (f + i + 1) (f + i + 2) = true by unfold dirb; simp] at d3
            have Kd3 := Lib.hid d3
            clear q1 q2 s1 s2 d1 d2 d3
            go_wp2_with (first
              | ((with_reducible refine eload3L triK r1 ?_ ?_); focus rfl)
              | ((refine wpList_ungd rfl ?_); (with_reducible refine eload3L triK r1 ?_ ?_); focus rfl)
              | ((with_reducible refine eload3L triK r2 ?_ ?_); focus rfl)
              | ((refine wpList_ungd rfl ?_); (with_reducible refine eload3L triK r2 ?_ ?_); focus rfl)
              | (go_at_call 26; (with_reducible refine (Kd1.out _).mono ?_); rintro _ W4 ⟨rfl, B⟩; replace r1 := rangeAt_on r1 B; replace r2 := rangeAt_on r2 B; replace B2 := bon B2 B; clear B)
              | (go_at_call 26; (with_reducible refine (Kd2.out _).mono ?_); rintro _ W4 ⟨rfl, B⟩; replace r1 := rangeAt_on r1 B; replace r2 := rangeAt_on r2 B; replace B2 := bon B2 B; clear B)
              | (go_at_call 26; (with_reducible refine (Kd3.out _).mono ?_); rintro _ W4 ⟨rfl, B⟩; replace r1 := rangeAt_on r1 B; replace r2 := rangeAt_on r2 B; replace B2 := bon B2 B; clear B))
            go_roundw
            case rel => exact ⟨i + 1, by omega, by go_num, B2⟩
            case measure => simp [intOf] <;> omega
        · have t1 : ¬ ((i : Int) + 1 < (n2 : Int)) := by omega
          have BF := bon B0 B2
          have KT := Lib.hid ((K3.out.below B2).more B2.size)
          clear B0 B2 HG2
          by_cases h0 : n2 = 0
          · have t2 : (n2 : Int) < 1 := by omega
            go_wp2_with (go_at_call 19; (with_reducible refine (example_b _).mono ?_); rintro _ W9 ⟨rfl, B⟩; replace BF := bon BF B; clear B)
            go_ret
            exact ⟨rfl, BF⟩
          · have t2 : ¬ (n2 : Int) < 1 := by omega
            have CE := fun W R => edges_b A2 n2 d2 (sts f n2) W R (by omega)
            have HLN := HE2.out h0
            obtain ⟨G, hG⟩ : ∃ G, redg (sts f n2) (sts f n2) = G := ⟨_, rfl⟩
            rw [hG] at HLN
            rw [hG] at CE
            have CE1 := Lib.hid CE
            have HL1 := Lib.hid HLN
            clear CE HLN hG HE2
            go_wp2_with (first
              | (go_at_call 24; (with_reducible refine (CE1.out _ KT.out).mono ?_); rintro _ W5 ⟨A6, n6, c6, rfl, R6, B⟩; have g6 : ((n6 : Int) == (n2 : Int) - 1) = true := (by have h1 := R6.len; have h2 := HL1.out; simp; omega); replace BF := bon BF B; clear B R6)
              | (go_at_call 19; (with_reducible refine (example_b _).mono ?_); rintro _ W9 ⟨rfl, B⟩; replace BF := bon BF B; clear B))
            go_ret
            exact ⟨rfl, BF⟩

theorem bnd8 {a : Int} (h : (Lit.int .u8 a).wf = true) : 0 ≤ a ∧ a ≤ 255 := by
  simp [Lit.wf, IntKind.min, IntKind.max, IntKind.bits, IntKind.signed] at h
  omega

theorem bnd16 {a : Int} (h : (Lit.int .u16 a).wf = true) : 0 ≤ a ∧ a ≤ 65535 := by
  simp [Lit.wf, IntKind.min, IntKind.max, IntKind.bits, IntKind.signed] at h
  omega

end Go.Proofs.Ytepammildggnmaa
