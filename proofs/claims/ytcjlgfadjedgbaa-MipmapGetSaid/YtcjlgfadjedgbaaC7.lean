/- What Hash, Little and PutLittle return, of both. -/
import Derived.Test.YtcjlgfadjedgbaaC2
namespace Go.Proofs.Ytcjlgfadjedgbaa
open Go.RowKit Go.Sort

/-- One byte more of a hash. -/
def hstep (h x : Int) : Int := IntKind.u64.wrap (bits .xor .u64 h x * 1099511628211)
def hashL (l : List Int) : Int := l.foldl hstep 14695981039346656037

theorem hash_on {l : List Int} {k : Nat} {h x : Int} (hh : Hid ((l.take k).foldl hstep 14695981039346656037 = h)) (hx : Hid (l[k]? = some x)) : (l.take (k + 1)).foldl hstep 14695981039346656037 = hstep h x := by
  have hl : k < l.length := by
    rcases Nat.lt_or_ge k l.length with h' | h'
    · exact h'
    · have := hx.out; rw [List.getElem?_eq_none h'] at this; cases this
  have h1 := hx.out
  rw [List.getElem?_eq_getElem hl] at h1
  injection h1 with h1
  rw [List.take_succ_eq_append_getElem hl, List.foldl_append, hh.out, h1]
  rfl

set_option maxRecDepth 100000 in
theorem hash_b (A : Option Addr) (n c : Nat) (l : List Int) (w : World) (R : Rd w w.heap.size .u8 A n l) (hn : n ≤ 9223372036854775807) :
    Calls Try.prog 81 #[.slice A n c] w fun e w' => e = .returned (.int .u64 (hashL l)) ∧ Below w.heap.size w w' := by
  have HL := Lib.hid R.len
  go_enter Try.func81, Try.ntmps81
  go_wp2
  go_loop [3, 8] (fun u i => ∃ (k : Nat) (h : Int), k ≤ n ∧ i = .int .i64 k ∧ u = .int .u64 h ∧ (l.take k).foldl hstep 14695981039346656037 = h) (fun _ i => n - (intOf i).toNat)
  case atStart => exact ⟨0, _, by omega, rfl, rfl, by simp⟩
  case round =>
    obtain ⟨k, h, hk, rfl, rfl, hh⟩ := hrel
    have HH := Lib.hid hh
    clear hh
    by_cases hlt : k < n
    · obtain ⟨b, off, x, rfl, cx, x0, x1, hx⟩ := R.byte hlt
      have hs : IntKind.u64.wrap (bits .xor .u64 h x * 1099511628211) = hstep h x := rfl
      clear R
      go_wp2
      go_round
      case rel => exact ⟨k + 1, _, by omega, by go_num, rfl, hash_on HH hx⟩
      case measure => simp [intOf]; omega
    · obtain rfl : k = n := by omega
      clear R
      go_wp2
      go_ret
      exact ⟨ret_u64 (by rw [← HH.out, ← HL.out]; simp [hashL]), Below.refl _ _⟩

set_option maxRecDepth 100000 in
theorem rhash_b (A : Option Addr) (n c : Nat) (l : List Int) (w : World) (R : Rd w w.heap.size .u8 A n l) (hn : n ≤ 9223372036854775807) :
    Calls Try.prog 83 #[.slice A n c] w fun e w' => e = .returned (.int .u64 (hashL l)) ∧ Below w.heap.size w w' := by
  have HL := Lib.hid R.len
  go_enter Try.func83, Try.ntmps83
  go_wp2
  go_loop [3, 4] (fun u i => ∃ (k : Nat) (h : Int), k ≤ n ∧ i = .int .i64 k ∧ u = .int .u64 h ∧ (l.take k).foldl hstep 14695981039346656037 = h) (fun _ i => n - (intOf i).toNat)
  case atStart => exact ⟨0, _, by omega, rfl, rfl, by simp⟩
  case round =>
    obtain ⟨k, h, hk, rfl, rfl, hh⟩ := hrel
    have HH := Lib.hid hh
    clear hh
    by_cases hlt : k < n
    · obtain ⟨b, off, x, rfl, cx, x0, x1, hx⟩ := R.byte hlt
      have hs : IntKind.u64.wrap (bits .xor .u64 h x * 1099511628211) = hstep h x := rfl
      clear R
      go_wp2
      go_round
      case rel => exact ⟨k + 1, _, by omega, by go_num, rfl, hash_on HH hx⟩
      case measure => simp [intOf]; omega
    · obtain rfl : k = n := by omega
      clear R
      go_wp2
      go_ret
      exact ⟨ret_u64 (by rw [← HH.out, ← HL.out]; simp [hashL]), Below.refl _ _⟩

/-! ### Little -/

def fits (n : Nat) (a s : Int) : Prop := 1 ≤ s ∧ s ≤ 4 ∧ 0 ≤ a ∧ a ≤ n - s

theorem hasNumber_yes (A : Option Addr) (n c : Nat) (a s : Int) (w : World) (hn : n ≤ 9223372036854775807) (h : fits n a s) :
    Calls Try.prog 103 #[.slice A n c, .int .i64 a, .int .i64 s] w fun e w' => e = .returned (.bool true) ∧ Below w.heap.size w w' := by
  obtain ⟨h1, h2, h3, h4⟩ := h
  go_enter Try.func103, Try.ntmps103
  go_wp2
  go_ret
  exact ⟨congrArg (fun b => Ending.returned (.bool b)) (by simp <;> omega), Below.refl _ _⟩

theorem hasNumber_no (A : Option Addr) (n c : Nat) (a s : Int) (w : World) (hn : n ≤ 9223372036854775807) (h : ¬ fits n a s) :
    Calls Try.prog 103 #[.slice A n c, .int .i64 a, .int .i64 s] w fun e w' => e = .returned (.bool false) ∧ Below w.heap.size w w' := by
  unfold fits at h
  by_cases h1 : 1 ≤ s <;> by_cases h2 : s ≤ 4 <;> by_cases h3 : 0 ≤ a <;> by_cases h4 : a ≤ n - s
  all_goals first
    | (exfalso; omega)
    | (clear h
       go_enter Try.func103, Try.ntmps103
       go_wp2
       go_ret
       exact ⟨congrArg (fun b => Ending.returned (.bool b)) (by simp <;> omega), Below.refl _ _⟩)

end Go.Proofs.Ytcjlgfadjedgbaa
