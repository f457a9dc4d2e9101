/- What Hash, Little and PutLittle return, of both. -/
import Derived.Test.YtfakmeimideoaaaC2
namespace Go.Proofs.Ytfakmeimideoaaa
open Go.RowKit Go.Sort

/-- One byte more of a hash. -/
def hstep (h x : Int) : Int := IntKind.u64.wrap (bits .xor .u64 h x * 1099511628211)
def hashL (l : List Int) : Int := l.foldl hstep 14695981039346656037

theorem hash_on {l : List Int} {k : Nat} {h x : Int} (hh : Hid ((l.take k).foldl hstep 14695981039346656037 = h)) (hx : Hid (l[k]? = some x)) : (l.take (k + 1)).foldl hstep 14695981039346656037 = hstep h x := by
  have hl : k < l.length := by
    rcases Nat.lt_or_ge k l.length with h' | h'
    · exact h'
    · have := hx.out; rw [List.getElem?_eq_none h'] at this; cases this
  have h1 := hx.out
  rw [List.getElem?_eq_getElem hl] at h1
  injection h1 with h1
  rw [List.take_succ_eq_append_getElem hl, List.foldl_append, hh.out, h1]
  rfl

/-! ### Little -/

def fits (n : Nat) (a s : Int) : Prop := 1 ≤ s ∧ s ≤ 4 ∧ 0 ≤ a ∧ a ≤ n - s

theorem hasNumber_yes (A : Option Addr) (n c : Nat) (a s : Int) (w : World) (hn : n ≤ 9223372036854775807) (h : fits n a s) :
    Calls Try.prog 36 #[.slice A n c, .int .i64 a, .int .i64 s] w fun e w' => e = .returned (.bool true) ∧ Below w.heap.size w w' := by
  obtain ⟨h1, h2, h3, h4⟩ := h
  go_enter Try.func36, Try.ntmps36
  go_wp2
  go_ret
  exact ⟨congrArg (fun b => Ending.returned (.bool b)) (by simp <;> omega), Below.refl _ _⟩

theorem hasNumber_no (A : Option Addr) (n c : Nat) (a s : Int) (w : World) (hn : n ≤ 9223372036854775807) (h : ¬ fits n a s) :
    Calls Try.prog 36 #[.slice A n c, .int .i64 a, .int .i64 s] w fun e w' => e = .returned (.bool false) ∧ Below w.heap.size w w' := by
  unfold fits at h
  by_cases h1 : 1 ≤ s <;> by_cases h2 : s ≤ 4 <;> by_cases h3 : 0 ≤ a <;> by_cases h4 : a ≤ n - s
  all_goals first
    | (exfalso; omega)
    | (clear h
       go_enter Try.func36, Try.ntmps36
       go_wp2
       go_ret
       exact ⟨congrArg (fun b => Ending.returned (.bool b)) (by simp <;> omega), Below.refl _ _⟩)

theorem inside_yes (A : Option Addr) (n c : Nat) (a s : Int) (w : World) (hn : n ≤ 9223372036854775807) (h : fits n a s) :
    Calls Try.prog 37 #[.slice A n c, .int .i64 a, .int .i64 s] w fun e w' => e = .returned (.bool true) ∧ Below w.heap.size w w' := by
  obtain ⟨h1, h2, h3, h4⟩ := h
  go_enter Try.func37, Try.ntmps37
  go_wp2
  go_ret
  exact ⟨congrArg (fun b => Ending.returned (.bool b)) (by simp <;> omega), Below.refl _ _⟩

theorem inside_no (A : Option Addr) (n c : Nat) (a s : Int) (w : World) (hn : n ≤ 9223372036854775807) (h : ¬ fits n a s) :
    Calls Try.prog 37 #[.slice A n c, .int .i64 a, .int .i64 s] w fun e w' => e = .returned (.bool false) ∧ Below w.heap.size w w' := by
  unfold fits at h
  by_cases h1 : 1 ≤ s <;> by_cases h2 : s ≤ 4 <;> by_cases h3 : 0 ≤ a <;> by_cases h4 : a ≤ n - s
  all_goals first
    | (exfalso; omega)
    | (clear h
       go_enter Try.func37, Try.ntmps37
       go_wp2
       go_ret
       exact ⟨congrArg (fun b => Ending.returned (.bool b)) (by simp <;> omega), Below.refl _ _⟩)

end Go.Proofs.Ytfakmeimideoaaa
