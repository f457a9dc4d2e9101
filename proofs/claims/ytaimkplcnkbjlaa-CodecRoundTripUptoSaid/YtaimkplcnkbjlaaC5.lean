/- What ReadInt, ReadBool, the lengths, ReadInts and ReadString return. -/
import Derived.Test.YtaimkplcnkbjlaaC4
import Derived.Laws.BytesArg
namespace Go.Proofs.Ytaimkplcnkbjlaa
open Go.RowKit Go.Sort

theorem isPosition_b (A : Option Addr) (n c : Nat) (a : Int) (w : World) :
    Calls Try.prog 38 #[.slice A n c, .int .i64 a] w fun e w' => e = .returned (.bool (decide (0 ≤ a ∧ a ≤ n))) ∧ Below w.heap.size w w' := by
  by_cases h0 : 0 ≤ a
  · go_enter Try.func38, Try.ntmps38
    go_wp2
    go_ret
    exact ⟨congrArg (fun b => Ending.returned (.bool b)) (by simp [h0]), Below.refl _ _⟩
  · go_enter Try.func38, Try.ntmps38
    go_wp2
    go_ret
    exact ⟨congrArg (fun b => Ending.returned (.bool b)) (by simp; omega), Below.refl _ _⟩

theorem isPosition_yes (A : Option Addr) (n c : Nat) (a : Int) (w : World) (h : 0 ≤ a) (h1 : a ≤ n) :
    Calls Try.prog 38 #[.slice A n c, .int .i64 a] w fun e w' => e = .returned (.bool true) ∧ Below w.heap.size w w' := by
  have h2 := isPosition_b A n c a w
  rwa [decide_eq_true (show 0 ≤ a ∧ a ≤ (n : Int) from ⟨h, h1⟩)] at h2

theorem isPosition_no (A : Option Addr) (n c : Nat) (a : Int) (w : World) (h : ¬ (0 ≤ a ∧ a ≤ n)) :
    Calls Try.prog 38 #[.slice A n c, .int .i64 a] w fun e w' => e = .returned (.bool false) ∧ Below w.heap.size w w' := by
  have h2 := isPosition_b A n c a w
  rwa [decide_eq_false h] at h2

/-- What ReadInt reads, of either text. -/
theorem ri_cases (l : List Int) (a v nx e : Int) (hl : ∀ x ∈ l, (0 : Int) ≤ x ∧ x ≤ 255) (h : ri l a = (v, nx, e)) :
    ((a < 0 ∨ (l.length : Int) < a) ∧ v = 0 ∧ nx = 0 ∧ e = 2) ∨
    (∃ p U K, a = ((p : Nat) : Int) ∧ p ≤ l.length ∧ vr (l.drop p) 0 0 = (U, K, e) ∧ ((e = 0 ∧ v = zag U ∧ nx = p + K ∧ 0 ≤ U ∧ U < 18446744073709551616) ∨ ((e = 3 ∨ e = 4) ∧ v = 0 ∧ nx = 0 ∧ U = 0))) := by
  by_cases ha : a < 0 ∨ (l.length : Int) < a
  · rw [ri_arg ha] at h
    simp only [Prod.mk.injEq] at h
    exact .inl (by omega)
  · obtain ⟨U, K, f, hu⟩ : ∃ U K f, vr (l.drop a.toNat) 0 0 = (U, K, f) := ⟨_, _, _, rfl⟩
    have hv := vr_rng (l.drop a.toNat) 0 0 (fun x hx => hl x (List.mem_of_mem_drop hx)) (by omega) (by omega) (by simp)
    rw [hu] at hv
    by_cases hf : f = 0
    · subst hf
      rw [ri_yes ha hu] at h
      simp only [Prod.mk.injEq] at h
      obtain ⟨rfl, rfl, rfl⟩ := h
      exact .inr ⟨a.toNat, U, K, by omega, by omega, hu, .inl ⟨rfl, rfl, by omega, by simp at hv; omega, by simp at hv; omega⟩⟩
    · rw [ri_no ha hu hf] at h
      simp only [Prod.mk.injEq] at h
      obtain ⟨rfl, rfl, rfl⟩ := h
      exact .inr ⟨a.toNat, U, K, by omega, by omega, hu, .inr ⟨by simp at hv; omega, rfl, rfl, by simp at hv; omega⟩⟩

theorem rd_bytes {w : World} {B n : Nat} {A : Option Addr} {l : List Int} (R : Rd w B .u8 A n l) : ∀ x ∈ l, (0 : Int) ≤ x ∧ x ≤ 255 := by
  intro x hx
  have := R.rng x hx
  rw [u8_min, u8_max] at this
  exact this

set_option maxRecDepth 100000 in
theorem readInt_b (A : Option Addr) (n c : Nat) (l : List Int) (a v nx er : Int) (w : World) (R : Rd w w.heap.size .u8 A n l) (hn : n ≤ 9223372036854775807) (h : ri l a = (v, nx, er)) :
    Calls Try.prog 21 #[.slice A n c, .int .i64 a] w fun e w' => e = .returned (.tuple #[.int .i64 v, .int .i64 nx, .int .i64 er]) ∧ Below w.heap.size w w' := by
  have hlen := R.len
  rcases ri_cases l a v nx er (rd_bytes R) h with ⟨ha, rfl, rfl, rfl⟩ | ⟨p, U, K, rfl, hp, hv, ⟨rfl, rfl, rfl, u0, u1⟩ | ⟨he, rfl, rfl, rfl⟩⟩
  · have hno := Lib.hid (show ¬ (0 ≤ a ∧ a ≤ (n : Int)) by omega)
    clear h
    go_enter Try.func21, Try.ntmps21
    go_wp2_with (go_at_call 38; refine (isPosition_no _ _ _ _ _ hno.out).mono ?_; rintro _ W1 ⟨rfl, B1⟩)
    go_ret3
    exact ⟨rfl, B1⟩
  · have hpn : p ≤ n := by omega
    have HV := Lib.hid hv
    clear h hv
    have U0 := Lib.hid u0
    have U1 := Lib.hid u1
    clear u0 u1
    go_enter Try.func21, Try.ntmps21
    go_wp2_with (first
      | (go_at_call 38; refine (isPosition_yes _ _ _ _ _ (by omega) (by omega)).mono ?_; rintro _ W1 ⟨rfl, B1⟩)
      | (go_at_call 39; refine (getVarint_b _ _ _ _ _ _ U K 0 (p + K) _ (R.on B1) hn hpn HV.out (by simp)).mono ?_; rintro _ W2 ⟨rfl, B2⟩)
      | (go_at_call 40; refine (unfold_b U _ U0.out U1.out).mono ?_; rintro _ W3 ⟨rfl, B3⟩))
    go_ret3
    exact ⟨rfl, bon (bon B1 B2) B3⟩
  · have hpn : p ≤ n := by omega
    have HV := Lib.hid hv
    clear h hv
    rcases he with rfl | rfl
    all_goals
      go_enter Try.func21, Try.ntmps21
      go_wp2_with (first
        | (go_at_call 38; refine (isPosition_yes _ _ _ _ _ (by omega) (by omega)).mono ?_; rintro _ W1 ⟨rfl, B1⟩)
        | (go_at_call 39; refine (getVarint_b _ _ _ _ _ _ 0 K _ 0 _ (R.on B1) hn hpn HV.out (by simp)).mono ?_; rintro _ W2 ⟨rfl, B2⟩))
      go_ret3
      exact ⟨rfl, bon B1 B2⟩

set_option maxRecDepth 100000 in
set_option maxHeartbeats 2000000 in
theorem rreadInt_b (A : Option Addr) (n c : Nat) (l : List Int) (a v nx er : Int) (w : World) (R : Rd w w.heap.size .u8 A n l) (hn : n ≤ 9223372036854775807) (h : ri l a = (v, nx, er)) :
    Calls Try.prog 22 #[.slice A n c, .int .i64 a] w fun e w' => e = .returned (.tuple #[.int .i64 v, .int .i64 nx, .int .i64 er]) ∧ Below w.heap.size w w' := by
  have hlen := R.len
  rcases ri_cases l a v nx er (rd_bytes R) h with ⟨ha, rfl, rfl, rfl⟩ | ⟨p0, U, K, rfl, hp0, hv, hE⟩
  · clear h R
    rcases ha with ha | ha
    · go_enter Try.func22, Try.ntmps22
      go_wp2
      go_ret3
      exact ⟨rfl, Below.refl _ _⟩
    · have ha0 : 0 ≤ a := by omega
      have ha1 : (n : Int) < a := by omega
      clear ha
      go_enter Try.func22, Try.ntmps22
      go_wp2
      go_ret3
      exact ⟨rfl, Below.refl _ _⟩
  · have HV0 := Lib.hid hv
    have HE := Lib.hid hE
    have HL := Lib.hid hlen
    have hpn : p0 ≤ n := by omega
    clear h hv hE hlen hp0
    go_enter Try.func22, Try.ntmps22
    go_wp2
    go_loop [7, 8] (fun u i => ∃ (k : Nat) (acc : Int), i = .int .i64 k ∧ u = .int .u64 acc ∧ k ≤ 9 ∧ p0 + k ≤ n ∧ 0 ≤ acc ∧ acc < 128 ^ k ∧ vr (l.drop (p0 + k)) k acc = (U, K, er)) (fun _ i => 10 - (intOf i).toNat)
    case atStart => exact ⟨0, 0, rfl, rfl, by omega, by omega, by omega, by simp, HV0.out⟩
    case round =>
      obtain ⟨k, acc, rfl, rfl, k9, hpn', a0, a1, hv⟩ := hrel
      have HV := Lib.hid hv
      have HA := Lib.hid a1
      clear hv a1 hpn
      by_cases hp : p0 + k < n
      · obtain ⟨b, off, x, rfl, cx, x0, x1, hx⟩ := R.byte hp
        clear R
        have hpi : (p0 : Int) + k < (n : Int) := by omega
        by_cases e9 : k = 9 ∧ 1 < x
        · obtain ⟨rfl, hx1⟩ := e9
          obtain ⟨rfl, rfl, rfl⟩ := at_nine HV hx hx1
          go_wp2
          go_ret3
          exact ⟨ret_t3 (by have := HE.out; simp at this; omega) (by have := HE.out; simp at this; omega) rfl, Below.refl _ _⟩
        · by_cases hlt : x < 128
          · by_cases hx0 : x = 0 ∧ 0 < k
            · obtain ⟨rfl, hk0⟩ := hx0
              obtain ⟨rfl, rfl, rfl⟩ := at_zero HV hx hk0
              have hki : (0 : Int) < (k : Int) := by omega
              by_cases k9' : k = 9
              · subst k9'
                go_wp2
                go_ret3
                exact ⟨ret_t3 (by have := HE.out; simp at this; omega) (by have := HE.out; simp at this; omega) rfl, Below.refl _ _⟩
              · have hne : ((k : Int) == 9) = false := by simp; omega
                go_wp2
                go_ret3
                exact ⟨ret_t3 (by have := HE.out; simp at this; omega) (by have := HE.out; simp at this; omega) rfl, Below.refl _ _⟩
            · obtain ⟨hU, hK, rfl⟩ := at_last HV hx e9 hlt hx0
              have hxm : x % 128 = x := by omega
              obtain ⟨g1, _, _, _, _, g6⟩ := group_on k x acc k9 a0 HA.out x0 hlt (by omega)
              have HU := Lib.hid hU
              have HK := Lib.hid hK
              obtain ⟨hv', hnx', U0, U1⟩ : v = zag U ∧ nx = p0 + K ∧ 0 ≤ U ∧ U < 18446744073709551616 := by have := HE.out; simp at this; exact this
              have HV' := Lib.hid hv'
              have HN := Lib.hid hnx'
              clear hv' hnx' hU hK HE
              by_cases k9' : k = 9
              · subst k9'
                obtain rfl : x = 1 := by omega
                have g7 : IntKind.u64.wrap (acc + 9223372036854775808) = U := by rw [HU.out]; exact g6
                clear g1 g6
                go_wp2
                all_goals go_ret3
                · have hodd : (U % 2 == 1) = true := by assumption
                  exact ⟨ret_t3 (by rw [HV'.out]; unfold zag; rw [if_pos (by simpa using hodd)]) (by rw [HN.out, HK.out]; omega) rfl, Below.refl _ _⟩
                · have hodd : (U % 2 == 1) = false := by assumption
                  exact ⟨ret_t3 (by rw [HV'.out]; unfold zag; rw [if_neg (by simpa using hodd)]) (by rw [HN.out, HK.out]; omega) rfl, Below.refl _ _⟩
              · have hne : ((k : Int) == 9) = false := by simp; omega
                obtain ⟨y, hy⟩ : ∃ y, y = x * 128 ^ k := ⟨_, rfl⟩
                have g7 : IntKind.u64.wrap (acc + y) = U := by rw [HU.out, hy]; exact g6
                rw [← hy, ← hxm] at g1
                have HX := Lib.hid hxm
                clear hxm hy g6
                by_cases hk0 : 0 < k
                · have hki : (0 : Int) < (k : Int) := by omega
                  have ex : (x == 0) = false := by simp; omega
                  go_wp2
                  all_goals go_ret3
                  · have hodd : (U % 2 == 1) = true := by assumption
                    exact ⟨ret_t3 (by rw [HV'.out]; unfold zag; rw [if_pos (by simpa using hodd)]) (by rw [HN.out, HK.out]; omega) rfl, Below.refl _ _⟩
                  · have hodd : (U % 2 == 1) = false := by assumption
                    exact ⟨ret_t3 (by rw [HV'.out]; unfold zag; rw [if_neg (by simpa using hodd)]) (by rw [HN.out, HK.out]; omega) rfl, Below.refl _ _⟩
                · have hki : (k : Int) ≤ 0 := by omega
                  go_wp2
                  all_goals go_ret3
                  · have hodd : (U % 2 == 1) = true := by assumption
                    exact ⟨ret_t3 (by rw [HV'.out]; unfold zag; rw [if_pos (by simpa using hodd)]) (by rw [HN.out, HK.out]; omega) rfl, Below.refl _ _⟩
                  · have hodd : (U % 2 == 1) = false := by assumption
                    exact ⟨ret_t3 (by rw [HV'.out]; unfold zag; rw [if_neg (by simpa using hodd)]) (by rw [HN.out, HK.out]; omega) rfl, Below.refl _ _⟩
          · have hlt' : 128 ≤ x := by omega
            have HV1 := at_more HV hx e9 hlt'
            obtain ⟨g1, _, g3, g4, _, g6⟩ := group_on k (x % 128) acc k9 a0 HA.out (by omega) (by omega) (by omega)
            obtain ⟨y, hy⟩ : ∃ y, y = x % 128 * 128 ^ k := ⟨_, rfl⟩
            rw [← hy] at g1 g3 g4 g6 HV1
            have HY := Lib.hid hy
            have G3 := Lib.hid g3
            have G4 := Lib.hid g4
            have hk9 : k < 9 := by omega
            have hne : ((k : Int) == 9) = false := by simp; omega
            have ex : (x == 0) = false := by simp; omega
            clear hy g3 g4
            by_cases hk0 : 0 < k
            · have hki : (0 : Int) < (k : Int) := by omega
              go_wp2
              go_round
              case rel => exact ⟨k + 1, acc + y, by go_num, rfl, by omega, by omega, G3.out, G4.out, HV1.out⟩
              case measure => simp [intOf]; omega
            · have hki : (k : Int) ≤ 0 := by omega
              go_wp2
              go_round
              case rel => exact ⟨k + 1, acc + y, by go_num, rfl, by omega, by omega, G3.out, G4.out, HV1.out⟩
              case measure => simp [intOf]; omega
      · obtain ⟨rfl, rfl, rfl⟩ := at_end HV (by rw [HL.out]; omega)
        have hpe : p0 + k = n := by omega
        have HPE := Lib.hid hpe
        clear hpe
        have hpi : (n : Int) ≤ (p0 : Int) + k := by omega
        go_wp2
        go_ret3
        exact ⟨ret_t3 (by have := HE.out; simp at this; omega) (by have := HE.out; simp at this; omega) rfl, Below.refl _ _⟩

end Go.Proofs.Ytaimkplcnkbjlaa
