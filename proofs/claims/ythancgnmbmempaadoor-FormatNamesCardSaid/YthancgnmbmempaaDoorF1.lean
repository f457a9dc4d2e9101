/- What digits, FormatInt, number, natural and ParseInt of the reference return. -/
import Derived.Test.YthancgnmbmempaaDoorFMath
import Derived.Test.YthancgnmbmempaaDoorBelow
import Derived.Test.YthancgnmbmempaaDoorChecked
import Derived.Deep.QuietTactic
import Derived.BigQuiet
import Derived.Outline
import Derived.IntWalk
namespace Go.Proofs.YthancgnmbmempaaDoor
open Go.RowKit Go.Sort

/-- A literal of one byte as a string. -/
theorem run_convert_one (W : World) (x : Int) : (convert 66 9 (.slice (some ⟨W.heap.size, 0, none⟩) 1 1)).run Tryd.prog (W.alloc (.cells #[.int .u8 x] 5)) = .ok (.string (strOfNums [x])) (W.alloc (.cells #[.int .u8 x] 5)) := by
  refine run_convert_bytes_arg (W.alloc (.cells #[.int .u8 x] 5)) 66 5 Tryd.underlying66 Tryd.underlying5 W.heap.size 0 1 1 [x] rfl (fun i hi => ?_) 9 Tryd.underlying9
  obtain rfl : i = 0 := by omega
  exact box_cell W #[.int .u8 x] 5 0 _ rfl

theorem ret_str {a b : ByteArray} (h : a = b) : Ending.returned (.string a) = .returned (.string b) := by rw [h]

theorem dg_step {u : Nat} {s ds : ByteArray} (h : Hid (dg u ++ strL s = strL ds)) (hu : 10 ≤ u) : dg (u / 10) ++ strL (strOfNums [48 + ((u % 10 : Nat) : Int)] ++ s) = strL ds := by
  rw [← h.out, dg_ge hu, strL_append, strL_of (by intro y hy; simp at hy; omega), List.append_assoc]

theorem dg_end {u : Nat} {s ds : ByteArray} (h : Hid (dg u ++ strL s = strL ds)) (hu : u < 10) : strOfNums [48 + (u : Int)] ++ s = ds := by
  refine str_ext ?_
  rw [← h.out, dg_lt hu, strL_append, strL_of (by intro y hy; simp at hy; omega)]

theorem dg_room {u : Nat} {s ds : ByteArray} (h : Hid (dg u ++ strL s = strL ds)) (hd : ds.size ≤ 20) : s.size ≤ 20 := by
  have := congrArg List.length h.out
  rw [List.length_append, strL_len, strL_len] at this
  omega

set_option maxRecDepth 100000 in
theorem rdigits_b (u : Nat) (ds : ByteArray) (w : World) (hd : strL ds = dg u) (hu : u < 18446744073709551616) :
    Calls Tryd.prog 43 #[.int .u64 u] w fun e w' => e = .returned (.string ds) ∧ Below w.heap.size w w' := by
  have hs20 : ds.size ≤ 20 := by rw [← strL_len, hd]; exact dg_len64 u hu
  have HD := Lib.hid hd
  have HU := Lib.hid hu
  clear hd hu
  have hone := run_convert_one
  go_enter Tryd.func43, Tryd.ntmps43
  go_wp2
  go_loopw [0, 3] (fun v t wr => ∃ (k : Nat) (s : ByteArray), v = .int .u64 k ∧ t = .string s ∧ k < 18446744073709551616 ∧ dg k ++ strL s = strL ds ∧ Below w.heap.size w wr) (fun v _ _ => (intOf v).toNat)
  case atStart => exact ⟨u, ⟨#[]⟩, rfl, rfl, HU.out, by rw [HD.out, strL_empty, List.append_nil], Below.refl _ _⟩
  case round =>
    obtain ⟨k, s, rfl, rfl, hk, hs, BB⟩ := hrel
    have HS := Lib.hid hs
    have room := dg_room HS hs20
    have HK := Lib.hid hk
    have hq : IntKind.u64.wrap ((k : Int) / 10) = (k : Int) / 10 := by
      simp [IntKind.wrap, IntKind.bits, IntKind.signed]
      omega
    clear hs hk
    have BB1 := BB.trans ((box_below wr #[.int .u8 (48 + (k : Int) % 10)] 5).mono BB.size)
    have hsz : ∀ x : Int, (strOfNums [x]).size = 1 := fun x => strOfNums_size [x]
    by_cases h10 : k < 10
    · have e0 : (k : Int) / 10 = 0 := by omega
      go_wp2
      go_ret
      exact ⟨ret_str (by rw [show (48 + (k : Int) % 10) = 48 + k by omega, dg_end HS h10]), BB1⟩
    · have e0 : ((k : Int) / 10 == 0) = false := by simp; omega
      go_wp2
      go_roundw
      case rel => exact ⟨k / 10, _, by go_num, rfl, by have := HK.out; omega, by have := dg_step HS (by omega); rw [show (((k % 10 : Nat) : Int)) = (k : Int) % 10 by omega] at this; exact this, BB1⟩
      case measure => simp [intOf]; omega

theorem fint_rng (n : Int) : ∀ x ∈ fint n, (0 : Int) ≤ x ∧ x ≤ 255 := by
  intro x hx
  unfold fint at hx
  split at hx
  · rcases List.mem_cons.1 hx with rfl | hx
    · omega
    · have := dg_rng _ x hx; omega
  · have := dg_rng _ x hx; omega

theorem rformatInt_b (n : Int) (w : World) (h0 : -9223372036854775808 ≤ n) (h1 : n ≤ 9223372036854775807) :
    Calls Tryd.prog 18 #[.int .i64 n] w fun e w' => e = .returned (.string (strOfNums (fint n))) ∧ Below w.heap.size w w' := by
  by_cases hn : n < 0
  · obtain ⟨u, rfl⟩ : ∃ u : Nat, n = -(u : Int) := ⟨(-n).toNat, by omega⟩
    obtain ⟨ds, hds⟩ : ∃ ds, strL ds = dg u := ⟨_, strL_of (x := dg u) fun y hy => by have := dg_rng u y hy; omega⟩
    have hu : u < 18446744073709551616 := by omega
    have hl : ds.size ≤ 20 := by rw [← strL_len, hds]; exact dg_len64 u hu
    have hw1 : IntKind.u64.wrap (-(u : Int)) = 18446744073709551616 - u := by
      simp [IntKind.wrap, IntKind.bits, IntKind.signed]
      omega
    have hw2 : IntKind.u64.wrap (-(18446744073709551616 - (u : Int))) = u := by
      simp [IntKind.wrap, IntKind.bits, IntKind.signed]
      omega
    have hf : Hid (strOfNums (fint (-(u : Int))) = ⟨#[45]⟩ ++ ds) := Lib.hid (by
      refine str_ext ?_
      rw [strL_of (fint_rng _), strL_append, hds]
      unfold fint
      rw [if_pos hn, show (- -(u : Int)).toNat = u by omega]
      rfl)
    have HD := Lib.hid hds
    have HU := Lib.hid hu
    clear hds hu
    go_enter Tryd.func18, Tryd.ntmps18
    go_wp2_with (go_at_call 43; refine (rdigits_b u ds _ HD.out HU.out).mono ?_; rintro _ W1 ⟨rfl, B1⟩)
    go_ret
    exact ⟨ret_str hf.out.symm, B1⟩
  · obtain ⟨u, rfl⟩ : ∃ u : Nat, n = (u : Int) := ⟨n.toNat, by omega⟩
    obtain ⟨ds, hds⟩ : ∃ ds, strL ds = dg u := ⟨_, strL_of (x := dg u) fun y hy => by have := dg_rng u y hy; omega⟩
    have hu : u < 18446744073709551616 := by omega
    have hf : Hid (strOfNums (fint (u : Int)) = ds) := Lib.hid (by
      refine str_ext ?_
      rw [strL_of (fint_rng _), hds]
      unfold fint
      rw [if_neg hn, Int.toNat_natCast])
    have HD := Lib.hid hds
    have HU := Lib.hid hu
    clear hds hu
    go_enter Tryd.func18, Tryd.ntmps18
    go_wp2_with (go_at_call 43; refine (rdigits_b u ds _ HD.out HU.out).mono ?_; rintro _ W1 ⟨rfl, B1⟩)
    go_ret
    exact ⟨ret_str hf.out.symm, B1⟩

theorem ret_ib {a a' : Int} {b b' : Bool} (h1 : a = a') (h2 : b = b') : Ending.returned (.tuple #[.int .i64 a, .bool b]) = .returned (.tuple #[.int .i64 a', .bool b']) := by rw [h1, h2]

theorem num_at {s : ByteArray} {k : Nat} {n V : Int} {ok : Bool} (h : Hid (rnum ((strL s).drop k) n = (V, ok))) (hk : k < s.size) : rnum (((s[k]).toNat : Int) :: (strL s).drop (k + 1)) n = (V, ok) := by
  rw [← strL_drop s k hk]; exact h.out

set_option maxRecDepth 100000 in
theorem rnumber_b (s : ByteArray) (V : Int) (ok : Bool) (w : World) (hs : s.size ≤ 9223372036854775807) (h : numb (strL s) = (V, ok)) :
    Calls Tryd.prog 45 #[.string s] w fun e w' => e = .returned (.tuple #[.int .i64 V, .bool ok]) ∧ Below w.heap.size w w' := by
  obtain ⟨v, q, hr⟩ : ∃ v q, rnum (strL s) 0 = (v, q) := ⟨_, _, rfl⟩
  have HR := Lib.hid hr
  have HV : Hid ((if q = true then (v, decide (0 < s.size)) else (0, false)) = (V, ok)) := Lib.hid (by rw [← h]; unfold numb; rw [hr, strL_len])
  clear h hr
  go_enter Tryd.func45, Tryd.ntmps45
  go_wp2
  go_loop [4, 5] (fun a i => ∃ (k : Nat) (n : Int), k ≤ s.size ∧ i = .int .i64 k ∧ a = .int .i64 n ∧ 0 ≤ n ∧ n ≤ 4611686018427387905 ∧ rnum ((strL s).drop k) n = (v, q)) (fun _ i => s.size - (intOf i).toNat)
  case atStart => exact ⟨0, 0, by omega, rfl, rfl, by omega, by omega, HR.out⟩
  case round =>
    obtain ⟨k, n, hk, rfl, rfl, n0, n1, hn⟩ := hrel
    have HN := Lib.hid hn
    clear hn
    by_cases hlt : k < s.size
    · have h1 := num_at HN hlt
      have hb := (s[k]).toNat_lt
      by_cases hd : ((s[k]).toNat : Int) < 48 ∨ 57 < ((s[k]).toNat : Int)
      · rw [rnum_no hd] at h1
        simp only [Prod.mk.injEq] at h1
        obtain ⟨rfl, rfl⟩ := h1
        have hv := HV.out
        simp only [Bool.false_eq_true, if_false, Prod.mk.injEq] at hv
        obtain ⟨rfl, rfl⟩ := hv
        clear HV HN
        rcases hd with hd | hd
        · go_wp2
          go_ret2
          exact ⟨rfl, Below.refl _ _⟩
        · have hd0 : (48 : Int) ≤ ((s[k]).toNat : Int) := by omega
          go_wp2
          go_ret2
          exact ⟨rfl, Below.refl _ _⟩
      · have hd0 : (48 : Int) ≤ ((s[k]).toNat : Int) := by omega
        have hd1 : ((s[k]).toNat : Int) ≤ 57 := by omega
        rw [rnum_on hd] at h1
        have H1 := Lib.hid h1
        have hc := capn_rng n0 n1 (d := ((s[k]).toNat : Int) - 48) (by omega) (by omega)
        clear h1 hd
        by_cases hcap : (4611686018427387905 - (((s[k]).toNat : Int) - 48)) / 10 < n
        · have hcv : Hid (capn n (((s[k]).toNat : Int) - 48) = 4611686018427387905) := Lib.hid (by unfold capn; rw [if_pos hcap])
          go_wp2
          go_round
          case rel => exact ⟨k + 1, _, by omega, by go_num, rfl, by omega, by omega, by rw [← hcv.out]; exact H1.out⟩
          case measure => simp [intOf]; omega
        · have hcv : Hid (capn n (((s[k]).toNat : Int) - 48) = n * 10 + (((s[k]).toNat : Int) - 48)) := Lib.hid (by unfold capn; rw [if_neg hcap])
          go_wp2
          go_round
          case rel => exact ⟨k + 1, _, by omega, by go_num, rfl, by omega, by omega, by rw [← hcv.out]; exact H1.out⟩
          case measure => simp [intOf]; omega
    · obtain rfl : k = s.size := by omega
      have h1 := HN.out
      rw [List.drop_eq_nil_of_le (by rw [strL_len]; exact Nat.le_refl _), rnum_nil] at h1
      simp only [Prod.mk.injEq] at h1
      obtain ⟨rfl, rfl⟩ := h1
      have hv := HV.out
      simp only [if_true, Prod.mk.injEq] at hv
      obtain ⟨rfl, rfl⟩ := hv
      clear HN HV
      go_wp2
      go_ret2
      exact ⟨ret_ib rfl (by simp), Below.refl _ _⟩

end Go.Proofs.YthancgnmbmempaaDoor
