/- What fold, unfold, putInt and AppendInt return, and whether an index is one. -/
import Derived.Test.YtnhnbblplnhmlaaGreatDoorC1
import Derived.Test.YtnhnbblplnhmlaaGreatDoorCMath
import Derived.IntWalk
namespace Go.Proofs.YtnhnbblplnhmlaaGreatDoor
set_option linter.unusedSimpArgs false
open Go.RowKit Go.Sort

theorem ret_u64 {a b : Int} (h : a = b) : Ending.returned (.int .u64 a) = .returned (.int .u64 b) := by rw [h]
theorem ret_i64 {a b : Int} (h : a = b) : Ending.returned (.int .i64 a) = .returned (.int .i64 b) := by rw [h]

/-- '^n' of an int. -/
theorem not_i64 (n : Int) (h0 : -9223372036854775808 ≤ n) (h1 : n ≤ 9223372036854775807) : bits .xor .i64 (-1) n = -1 - n := by
  show IntKind.i64.wrap ((BitVec.ofInt 64 (-1) ^^^ BitVec.ofInt 64 n).toNat : Int) = _
  have e : BitVec.ofInt 64 (-1) = BitVec.allOnes 64 := by decide
  rw [e, BitVec.allOnes_xor, BitVec.toNat_not, BitVec.toNat_ofInt, IntKind.wrap_i64]
  omega

theorem u64_in (n : Int) (h0 : 0 ≤ n) (h1 : n < 18446744073709551616) : IntKind.u64.wrap n = n := by
  simp [IntKind.wrap, IntKind.bits, IntKind.signed]
  omega

theorem or128 (x : Int) (h0 : 0 ≤ x) (h1 : x < 256) : bits .or .u8 x 128 = x % 128 + 128 := by
  have h : ∀ n : Fin 256, bits .or .u8 ((n.val : Nat) : Int) 128 = ((n.val : Nat) : Int) % 128 + 128 := by decide +kernel
  have e : ((x.toNat : Nat) : Int) = x := by omega
  have := h ⟨x.toNat, by omega⟩
  rwa [e] at this

theorem put_room {l' l e : List Int} {v n M : Nat} (hl : Hid (l' ++ vari v = l ++ e)) (hn : l'.length = n) (hb : Hid (l.length + e.length ≤ M)) : n + 1 ≤ M := by
  have h1 := congrArg List.length hl.out
  have h2 := vari_pos v
  have h3 := hb.out
  simp only [List.length_append] at h1
  omega

theorem put_end {l' l e : List Int} {v : Nat} (hl : Hid (l' ++ vari v = l ++ e)) (hv : v < 128) : l' ++ [(v : Int)] = l ++ e := by
  rw [← hl.out, vari_lt hv]

theorem put_on {l' l e : List Int} {v : Nat} (hl : Hid (l' ++ vari v = l ++ e)) (hv : 128 ≤ v) (x : Int) (hx : x = ((v % 128 + 128 : Nat) : Int)) : l' ++ [x] ++ vari (v / 128) = l ++ e := by
  rw [← hl.out, vari_ge hv, hx, List.append_assoc]
  rfl

theorem fold_b (n : Int) (w : World) (h0 : -9223372036854775808 ≤ n) (h1 : n ≤ 9223372036854775807) :
    Calls Tryz.prog 103 #[.int .i64 n] w fun e w' => e = .returned (.int .u64 (zig n)) ∧ Below w.heap.size w w' := by
  have hx := not_i64 n h0 h1
  go_enter Tryz.func103, Tryz.ntmps103
  go_wp2
  · have hn : n < 0 := by assumption
    go_ret
    refine ⟨ret_u64 ?_, Below.refl _ _⟩
    rw [u64_in (-1 - n) (by omega) (by omega), u64_in (2 * (-1 - n)) (by omega) (by omega), u64_in _ (by omega) (by omega)]
    unfold zig
    rw [if_pos hn]
    omega
  · have hn : 0 ≤ n := by assumption
    go_ret
    exact ⟨ret_u64 (by unfold zig; rw [if_neg (by omega)]), Below.refl _ _⟩

theorem unfold_b (u : Int) (w : World) (h0 : 0 ≤ u) (h1 : u < 18446744073709551616) :
    Calls Tryz.prog 128 #[.int .u64 u] w fun e w' => e = .returned (.int .i64 (zag u)) ∧ Below w.heap.size w w' := by
  have hx := not_i64 (u / 2) (by omega) (by omega)
  have HZ : Hid (zag u = if u % 2 = 1 then -(u / 2) - 1 else u / 2) := Lib.hid rfl
  go_enter Tryz.func128, Tryz.ntmps128
  go_wp2
  · have hn : (u % 2 == 1) = true := by assumption
    go_ret
    refine ⟨ret_i64 ?_, Below.refl _ _⟩
    rw [HZ.out, if_pos (by simpa using hn)]
    omega
  · have hn : (u % 2 == 1) = false := by assumption
    go_ret
    exact ⟨ret_i64 (by rw [HZ.out, if_neg (by simpa using hn)]), Below.refl _ _⟩

set_option maxRecDepth 100000 in
theorem putInt_b (A : Option Addr) (n c base : Nat) (l : List Int) (x : Int) (w : World) (own : Own w base 5 .u8 A n c l) (h0 : -9223372036854775808 ≤ x) (h1 : x ≤ 9223372036854775807)
    (hb : l.length + (encI x).length ≤ 140737488355328) :
    Calls Tryz.prog 73 #[.slice A n c, .int .i64 x] w (GivesOwn w base 5 .u8 (l ++ encI x)) := by
  have hz := Lib.hid (zig_rng x h0 h1)
  have HB := Lib.hid hb
  clear hb
  go_enter Tryz.func73, Tryz.ntmps73
  go_wp2_with (go_at_call 103; refine (fold_b _ _ h0 h1).mono ?_; rintro _ W1 ⟨rfl, B⟩)
  go_loopw [0, 5] (fun s u wr => ∃ (A' : Option Addr) (n' c' : Nat) (l' : List Int) (v : Nat), s = .slice A' n' c' ∧ u = .int .u64 v ∧ v < 18446744073709551616 ∧ l' ++ vari v = l ++ encI x ∧ Own wr base 5 .u8 A' n' c' l' ∧ Below base w wr) (fun _ u _ => (intOf u).toNat)
  case atStart =>
    have := hz.out
    exact ⟨A, n, c, l, (zig x).toNat, rfl, by rw [show (((zig x).toNat : Nat) : Int) = zig x by omega], by omega, rfl, own.on B, B.mono own.2.2⟩
  case round =>
    clear own B
    obtain ⟨A, n, c, l', v, rfl, rfl, hv, hl, own, BB⟩ := hrel
    have HL := Lib.hid hl
    have HV := Lib.hid hv
    clear hl hv
    have room := put_room HL own.len HB
    by_cases hlt : v < 128
    · have e1 : ((v : Nat) : Int) % 256 = v := by omega
      go_wp2_with (at_builtin; refine wpList_app1 _ rfl _ _ _ rfl eB own rfl (by rw [u8_min, u8_max]; omega) rfl (by simp only [maxLen]; omega) (by omega) ?_; intro A1 n1 c1 W1 own1 B1)
      go_ret
      exact ⟨A1, n1, c1, rfl, by rw [← put_end HL hlt]; exact own1, BB.trans B1⟩
    · have hor := or128 (v % 256) (by omega) (by omega)
      go_wp2_with (at_builtin; refine wpList_app1 _ rfl _ _ _ rfl eB own rfl (by rw [u8_min, u8_max]; omega) rfl (by simp only [maxLen]; omega) (by omega) ?_; intro A1 n1 c1 W1 own1 B1)
      go_roundw
      case rel => exact ⟨A1, n1, c1, _, v / 128, rfl, by go_num, by have := HV.out; omega, put_on HL (by omega) _ (by omega), own1, BB.trans B1⟩
      case measure => simp [intOf]; omega

theorem appendInt_b (A : Option Addr) (n c : Nat) (l : List Int) (x : Int) (w : World) (R : Rd w w.heap.size .u8 A n l) (h0 : -9223372036854775808 ≤ x) (h1 : x ≤ 9223372036854775807)
    (hb : l.length + (encI x).length ≤ 140737488355328) :
    Calls Tryz.prog 32 #[.slice A n c, .int .i64 x] w (GivesRd w .u8 (l ++ encI x)) := by
  have hn : n ≤ 140737488355328 := by rw [← R.len]; omega
  have HB := Lib.hid hb
  clear hb
  go_enter Tryz.func32, Tryz.ntmps32
  go_wp2_with (first
    | (go_at_call 74; refine (clone_b _ _ _ _ _ R hn).mono ?_; rintro _ W1 ⟨A1, n1, c1, rfl, own1, B1⟩)
    | (go_at_call 73; refine (putInt_b _ _ _ _ _ _ _ own1 h0 h1 HB.out).mono ?_; rintro _ W2 ⟨A2, n2, c2, rfl, own2, B2⟩))
  go_ret
  exact ⟨A2, n2, c2, rfl, own2.room, own2.rd, B1.trans B2⟩

set_option maxRecDepth 100000 in
theorem rappendInt_b (A : Option Addr) (n c : Nat) (l : List Int) (x : Int) (w : World) (R : Rd w w.heap.size .u8 A n l) (h0 : -9223372036854775808 ≤ x) (h1 : x ≤ 9223372036854775807)
    (hb : l.length + (encI x).length ≤ 140737488355328) :
    Calls Tryz.prog 36 #[.slice A n c, .int .i64 x] w (GivesOwn w w.heap.size 5 .u8 (l ++ encI x)) := by
  have hn : n ≤ 140737488355328 := by rw [← R.len]; omega
  have hz := Lib.hid (zig_rng x h0 h1)
  have HZ : Hid (zig x = if x < 0 then -2 * x - 1 else 2 * x) := Lib.hid rfl
  have own0 := Own.made w 5 .u8
  have B0 : Below w.heap.size w (w.alloc (.cells #[] 5)) := (Below.refl _ _).alloc (Nat.le_refl _) _
  have HB := Lib.hid hb
  clear hb
  have R0 := R.below B0
  by_cases hx : x < 0
  all_goals
    go_enter Tryz.func36, Tryz.ntmps36
    go_wp2_with (at_builtin; refine wpList_app _ rfl _ _ _ rfl eB own0 rfl R0 rfl (by simp only [maxLen]; omega) (by omega) ?_; intro A1 n1 c1 W1 own1 B1)
    go_loopw [5, 6] (fun u s wr => ∃ (A' : Option Addr) (n' c' : Nat) (l' : List Int) (v : Nat), s = .slice A' n' c' ∧ u = .int .u64 v ∧ v < 18446744073709551616 ∧ l' ++ vari v = l ++ encI x ∧ Own wr w.heap.size 5 .u8 A' n' c' l' ∧ Below w.heap.size w wr) (fun u _ _ => (intOf u).toNat)
    case atStart =>
      have h2 := hz.out
      have h3 := HZ.out
      first | rw [if_pos hx] at h3 | rw [if_neg (by omega)] at h3
      exact ⟨A1, n1, c1, [] ++ l, (zig x).toNat, rfl, by rw [show (((zig x).toNat : Nat) : Int) = zig x by omega]; exact congrArg _ (by omega), by omega, rfl, own1, B0.trans B1⟩
    case round =>
      clear own0 own1 B1 B0 R0 R
      obtain ⟨A, n, c, l', v, rfl, rfl, hv, hl, own, BB⟩ := hrel
      have HL := Lib.hid hl
      have HV := Lib.hid hv
      clear hl hv
      have room := put_room HL own.len HB
      by_cases hlt : v < 128
      · have e1 : ((v : Nat) : Int) % 256 = v := by omega
        go_wp2_with (at_builtin; refine wpList_app1 _ rfl _ _ _ rfl eB own rfl (by rw [u8_min, u8_max]; omega) rfl (by simp only [maxLen]; omega) (by omega) ?_; intro A1 n1 c1 W1 own1 B1)
        go_ret
        exact ⟨A1, n1, c1, rfl, by rw [← put_end HL hlt]; exact own1, BB.trans B1⟩
      · have hq : IntKind.u64.wrap ((v : Int) / 128) = (v : Int) / 128 := u64_in _ (by omega) (by have := HV.out; omega)
        go_wp2_with (at_builtin; refine wpList_app1 _ rfl _ _ _ rfl eB own rfl (by rw [u8_min, u8_max]; omega) rfl (by simp only [maxLen]; omega) (by omega) ?_; intro A1 n1 c1 W1 own1 B1)
        go_roundw
        case rel => exact ⟨A1, n1, c1, _, v / 128, rfl, by go_num, by have := HV.out; omega, put_on HL (by omega) _ (by omega), own1, BB.trans B1⟩
        case measure => simp [intOf]; omega

end Go.Proofs.YtnhnbblplnhmlaaGreatDoor
