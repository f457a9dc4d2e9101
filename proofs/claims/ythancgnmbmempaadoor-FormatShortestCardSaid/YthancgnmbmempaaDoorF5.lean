/- What IsName and FormatHash of the reference return. -/
import Derived.Test.YthancgnmbmempaaDoorF4
namespace Go.Proofs.YthancgnmbmempaaDoor
open Go.RowKit Go.Sort

/-- A later byte of a name. -/
def latB (y : Int) : Bool := letB y || (decide (48 ≤ y) && decide (y ≤ 57))

/-- Is it a name? -/
def namB (l : List Int) : Bool := decide (1 ≤ l.length) && decide (l.length ≤ 16) && letB (l.headD 0) && l.tail.all latB

theorem all_on {l : List Int} {k : Nat} {x : Int} {b : Bool} (h : Hid ((l.drop k).all latB = b)) (hx : l[k]? = some x) : (latB x && (l.drop (k + 1)).all latB) = b := by
  rw [← h.out, pnt_on.list_cut hx, List.all_cons]

set_option maxRecDepth 100000 in
theorem risName_b (s : ByteArray) (w : World) (hs : s.size ≤ 9223372036854775807) :
    Calls Tryd.prog 27 #[.string s] w fun e w' => e = .returned (.bool (namB (strL s))) ∧ Below w.heap.size w w' := by
  by_cases h0 : s.size = 0
  · have hb : Hid (namB (strL s) = false) := Lib.hid (by rw [head_none s h0]; rfl)
    have h0i : (s.size : Int) < 1 := by omega
    go_enter Tryd.func27, Tryd.ntmps27
    go_wp2
    go_ret
    exact ⟨ret_bool' hb.out.symm, Below.refl _ _⟩
  · have hpos : 0 < s.size := by omega
    have h1i : (1 : Int) ≤ (s.size : Int) := by omega
    have hpi : (0 : Int) < (s.size : Int) := by omega
    by_cases h16 : 16 < s.size
    · have hb : Hid (namB (strL s) = false) := Lib.hid (by unfold namB; rw [strL_len, decide_eq_false (show ¬ s.size ≤ 16 by omega)]; simp)
      have h16i : (16 : Int) < (s.size : Int) := by omega
      go_enter Tryd.func27, Tryd.ntmps27
      go_wp2
      go_ret
      exact ⟨ret_bool' hb.out.symm, Below.refl _ _⟩
    · have h16i : (s.size : Int) ≤ 16 := by omega
      have hb0 := (s[0]'hpos).toNat_lt
      have hhd : (strL s).headD 0 = ((s[0]'hpos).toNat : Int) := by rw [List.headD_eq_head?_getD, head_at s hpos]; rfl
      have hnam : namB (strL s) = (letB ((s[0]'hpos).toNat : Int) && ((strL s).drop 1).all latB) := by
        unfold namB
        rw [strL_len, decide_eq_true (show 1 ≤ s.size by omega), decide_eq_true (show s.size ≤ 16 by omega), hhd, List.drop_one]
        simp
      have HN := Lib.hid hnam
      clear hnam hhd
      cases hlet : letB ((s[0]'hpos).toNat : Int)
      · have hc := fun W => rletter_b ((s[0]'hpos).toNat : Int) W (by omega) (by omega)
        rw [hlet] at hc
        have HC := Lib.hid hc
        have hb : Hid (namB (strL s) = false) := Lib.hid (by rw [HN.out, hlet]; rfl)
        clear hc hlet
        go_enter Tryd.func27, Tryd.ntmps27
        go_wp2_with (go_at_call 54; refine (HC.out _).mono ?_; rintro _ W1 ⟨rfl, B⟩)
        go_ret
        exact ⟨ret_bool' hb.out.symm, B⟩
      · have hc := fun W => rletter_b ((s[0]'hpos).toNat : Int) W (by omega) (by omega)
        rw [hlet] at hc
        have HC := Lib.hid hc
        have hb : Hid (namB (strL s) = ((strL s).drop 1).all latB) := Lib.hid (by rw [HN.out, hlet]; rfl)
        clear hc hlet HN
        obtain ⟨nb, hnb⟩ : ∃ b, namB (strL s) = b := ⟨_, rfl⟩
        rw [hnb] at hb ⊢
        clear hnb
        go_enter Tryd.func27, Tryd.ntmps27
        go_wp2_with (go_at_call 54; refine (HC.out _).mono ?_; rintro _ W1 ⟨rfl, B⟩)
        go_loopw [3] (fun i wr => ∃ k : Nat, k ≤ s.size ∧ i = .int .i64 k ∧ ((strL s).drop k).all latB = nb ∧ Below w.heap.size w wr) (fun i _ => s.size - (intOf i).toNat)
        case atStart => exact ⟨1, by omega, rfl, hb.out.symm, B⟩
        case round =>
          clear B HC
          obtain ⟨k, hk, rfl, hall, BB⟩ := hrel
          have HA := Lib.hid hall
          clear hall
          by_cases hlt : k < s.size
          · have hbk := (s[k]).toNat_lt
            have ha := all_on HA (strL_at s k hlt)
            cases hlk : letB ((s[k]).toNat : Int)
            · have hc := fun W => rletter_b ((s[k]).toNat : Int) W (by omega) (by omega)
              rw [hlk] at hc
              have HC := Lib.hid hc
              unfold latB at ha
              rw [hlk] at ha
              by_cases hd0 : ((s[k]).toNat : Int) < 48
              · have e : nb = false := by rw [← ha, decide_eq_false (show ¬ (48 : Int) ≤ ((s[k]).toNat : Int) by omega)]; rfl
                subst e
                clear hc hlk ha
                go_wp2_with (go_at_call 54; refine (HC.out _).mono ?_; rintro _ W1 ⟨rfl, B⟩)
                go_ret
                exact ⟨rfl, bon BB B⟩
              · by_cases hd1 : 57 < ((s[k]).toNat : Int)
                · have e : nb = false := by rw [← ha, decide_eq_false (show ¬ ((s[k]).toNat : Int) ≤ 57 by omega)]; simp
                  subst e
                  have hd2 : (48 : Int) ≤ ((s[k]).toNat : Int) := by omega
                  clear hc hlk ha hd0
                  go_wp2_with (go_at_call 54; refine (HC.out _).mono ?_; rintro _ W1 ⟨rfl, B⟩)
                  go_ret
                  exact ⟨rfl, bon BB B⟩
                · have hd2 : (48 : Int) ≤ ((s[k]).toNat : Int) := by omega
                  have hd3 : ((s[k]).toNat : Int) ≤ 57 := by omega
                  rw [decide_eq_true hd2, decide_eq_true hd3] at ha
                  have HA2 : Hid (((strL s).drop (k + 1)).all latB = nb) := Lib.hid (by rw [← ha]; rfl)
                  clear hc hlk ha hd0 hd1
                  go_wp2_with (go_at_call 54; refine (HC.out _).mono ?_; rintro _ W1 ⟨rfl, B⟩)
                  go_roundw
                  case rel => exact ⟨k + 1, by omega, by go_num, HA2.out, bon BB B⟩
                  case measure => simp [intOf]; omega
            · have hc := fun W => rletter_b ((s[k]).toNat : Int) W (by omega) (by omega)
              rw [hlk] at hc
              have HC := Lib.hid hc
              unfold latB at ha
              rw [hlk] at ha
              have HA2 : Hid (((strL s).drop (k + 1)).all latB = nb) := Lib.hid (by rw [← ha]; rfl)
              clear hc hlk ha
              go_wp2_with (go_at_call 54; refine (HC.out _).mono ?_; rintro _ W1 ⟨rfl, B⟩)
              go_roundw
              case rel => exact ⟨k + 1, by omega, by go_num, HA2.out, bon BB B⟩
              case measure => simp [intOf]; omega
          · obtain rfl : k = s.size := by omega
            have e : nb = true := by rw [← HA.out, List.drop_eq_nil_of_le (by rw [strL_len]; exact Nat.le_refl _)]; rfl
            subst e
            clear HA
            go_wp2
            go_ret
            exact ⟨rfl, BB⟩

/-- A hexadecimal digit, and so many of them. -/
def hexd (x : Nat) : Int := if x < 10 then 48 + x else 87 + x
def hexs : Nat → Nat → List Int
  | 0, _ => []
  | k + 1, u => hexs k (u / 16) ++ [hexd (u % 16)]

theorem hexd_rng (x : Nat) (h : x < 16) : 0 ≤ hexd x ∧ hexd x ≤ 255 := by unfold hexd; split <;> omega

theorem hexs_on {k u : Nat} {s ds : ByteArray} (h : Hid (hexs (k + 1) u ++ strL s = strL ds)) : hexs k (u / 16) ++ strL (strOfNums [hexd (u % 16)] ++ s) = strL ds := by
  have hx := hexd_rng (u % 16) (by omega)
  rw [← h.out, hexs, strL_append, strL_of (by intro y hy; simp at hy; omega), List.append_assoc]

theorem hexs_len : ∀ k u : Nat, (hexs k u).length = k
  | 0, _ => rfl
  | k + 1, u => by rw [hexs, List.length_append, hexs_len k]; rfl

set_option maxRecDepth 100000 in
theorem run_index_hex (W : World) (u : Nat) : (Instr.index 9 (.string ⟨#[48, 49, 50, 51, 52, 53, 54, 55, 56, 57, 97, 98, 99, 100, 101, 102]⟩) (.int .u64 ((u : Int) % 16))).run Tryd.prog W = .ok (.int .u8 (hexd (u % 16))) W := by
  have hu : ∀ j : Nat, u % 16 = j → ((u : Int) % 16) = (j : Int) := by intro j hj; omega
  have hc : u % 16 = 0 ∨ u % 16 = 1 ∨ u % 16 = 2 ∨ u % 16 = 3 ∨ u % 16 = 4 ∨ u % 16 = 5 ∨ u % 16 = 6 ∨ u % 16 = 7 ∨ u % 16 = 8 ∨ u % 16 = 9 ∨ u % 16 = 10 ∨ u % 16 = 11 ∨ u % 16 = 12 ∨ u % 16 = 13 ∨ u % 16 = 14 ∨ u % 16 = 15 := by omega
  rcases hc with h | h | h | h | h | h | h | h | h | h | h | h | h | h | h | h <;> (rw [hu _ h, h]; rfl)

set_option maxRecDepth 100000 in
theorem rformatHash_b (u : Nat) (ds : ByteArray) (w : World) (hd : strL ds = hexs 16 u) (hu : u < 18446744073709551616) :
    Calls Tryd.prog 29 #[.int .u64 u] w fun e w' => e = .returned (.string ds) ∧ Below w.heap.size w w' := by
  have hs16 : ds.size ≤ 16 := by rw [← strL_len, hd, hexs_len]; exact Nat.le_refl _
  have HD := Lib.hid hd
  have HU := Lib.hid hu
  clear hd hu
  have hone := run_convert_one
  have hhex := run_index_hex
  have hsz : ∀ x : Int, (strOfNums [x]).size = 1 := fun x => strOfNums_size [x]
  go_enter Tryd.func29, Tryd.ntmps29
  go_wp2
  go_loopw [0, 3, 4] (fun v t i wr => ∃ (k j : Nat) (s : ByteArray), v = .int .u64 k ∧ t = .string s ∧ i = .int .i64 j ∧ j ≤ 16 ∧ k < 18446744073709551616 ∧ hexs (16 - j) k ++ strL s = strL ds ∧ Below w.heap.size w wr) (fun _ _ i _ => 16 - (intOf i).toNat)
  case atStart => exact ⟨u, 0, ⟨#[]⟩, rfl, rfl, rfl, by omega, HU.out, by rw [HD.out, strL_empty, List.append_nil], Below.refl _ _⟩
  case round =>
    obtain ⟨k, j, s, rfl, rfl, rfl, hj, hk, hs, BB⟩ := hrel
    have HS := Lib.hid hs
    have HK := Lib.hid hk
    have hq : IntKind.u64.wrap ((k : Int) / 16) = (k : Int) / 16 := by
      simp [IntKind.wrap, IntKind.bits, IntKind.signed]
      omega
    clear hs hk
    by_cases hlt : j < 16
    · have room : s.size ≤ 16 := by
        have := congrArg List.length HS.out
        rw [List.length_append, strL_len, strL_len] at this
        omega
      have HS2 : Hid (hexs (16 - (j + 1) + 1) k ++ strL s = strL ds) := Lib.hid (by rw [show 16 - (j + 1) + 1 = 16 - j by omega]; exact HS.out)
      have hx := hexd_rng (k % 16) (by omega)
      have BB1 := BB.trans ((box_below wr #[.int .u8 (hexd (k % 16))] 5).mono BB.size)
      clear HS
      go_wp2
      go_roundw
      case rel => exact ⟨k / 16, j + 1, _, by go_num, rfl, by go_num, by omega, by have := HK.out; omega, hexs_on HS2, BB1⟩
      case measure => simp [intOf]; omega
    · obtain rfl : j = 16 := by omega
      have e : s = ds := str_ext (by have := HS.out; simpa [hexs] using this)
      subst e
      go_wp2
      go_ret
      exact ⟨rfl, BB⟩

end Go.Proofs.YthancgnmbmempaaDoor
