/- What JoinFields of the reference returns. -/
import Derived.Test.YthancgnmbmempaaDoorF6
import Derived.Test.YthancgnmbmempaaDoorStrs
namespace Go.Proofs.YthancgnmbmempaaDoor
open Go.RowKit Go.Sort

/-- Fields with spaces between them; one in front of the first if there is a field before. -/
def jn : Bool → List ByteArray → List Int
  | _, [] => []
  | b, s :: r => (if b = true then [32] else []) ++ strL s ++ jn true r

theorem jn_room {b : Bool} {l : List ByteArray} {s acc out : ByteArray} {k : Nat} (h : strL acc ++ jn b (l.drop k) = strL out) (hs : l[k]? = some s) : acc.size + (if b = true then 1 else 0) + s.size ≤ out.size := by
  rw [drop_cut hs, jn] at h
  have := congrArg List.length h
  rw [List.length_append, List.length_append, List.length_append, strL_len, strL_len, strL_len] at this
  cases b
  · simp only [Bool.false_eq_true, if_false, List.length_nil] at this ⊢; omega
  · simp only [if_true, List.length_singleton] at this ⊢; omega

theorem jn_first {l : List ByteArray} {s acc out : ByteArray} {k : Nat} (h : Hid (strL acc ++ jn false (l.drop k) = strL out)) (hs : l[k]? = some s) : strL (acc ++ s) ++ jn true (l.drop (k + 1)) = strL out := by
  rw [← h.out, drop_cut hs, jn, strL_append]
  simp only [Bool.false_eq_true, if_false, List.nil_append, List.append_assoc]

theorem jn_next {l : List ByteArray} {s acc out : ByteArray} {k : Nat} (h : Hid (strL acc ++ jn true (l.drop k) = strL out)) (hs : l[k]? = some s) : strL (acc ++ ⟨#[32]⟩ ++ s) ++ jn true (l.drop (k + 1)) = strL out := by
  rw [← h.out, drop_cut hs, jn, strL_append, strL_append]
  simp only [if_true, List.append_assoc]
  rfl

set_option maxRecDepth 100000 in
theorem rjoinFields_b (A : Option Addr) (n c : Nat) (l : List ByteArray) (out : ByteArray) (w : World) (R : RdS w w.heap.size A n l) (hn : n ≤ 9223372036854775807) (hl : out.size ≤ 9223372036854775807) (ho : strL out = jn false l) :
    Calls Tryd.prog 21 #[.slice A n c] w fun e w' => e = .returned (.string out) ∧ Below w.heap.size w w' := by
  have BB : Below w.heap.size w w := Below.refl _ _
  have HL := Lib.hid R.len
  have HO := Lib.hid ho
  clear ho
  go_enter Tryd.func21, Tryd.ntmps21
  go_wp2
  go_loop [3, 4] (fun t i => ∃ (k : Nat) (acc : ByteArray), k ≤ n ∧ i = .int .i64 k ∧ t = .string acc ∧ strL acc ++ jn (decide (0 < k)) (l.drop k) = strL out) (fun _ i => n - (intOf i).toNat)
  case atStart => exact ⟨0, ⟨#[]⟩, by omega, rfl, rfl, by rw [HO.out]; rfl⟩
  case round =>
    obtain ⟨k, acc, hk, rfl, rfl, hh⟩ := hrel
    by_cases hlt : k < n
    · obtain ⟨b, off, s, rfl, _, cx, hx⟩ := R.at_ hlt
      have hr := jn_room hh hx.out
      by_cases hk0 : k = 0
      · subst hk0
        have H1 := Lib.hid (jn_first (Lib.hid (by simpa using hh)) hx.out)
        have hr2 : acc.size + s.size ≤ out.size := by simp at hr; omega
        simp only [Nat.add_zero] at cx
        clear hh hr R
        go_wp2
        go_round
        case rel => exact ⟨1, _, by omega, by go_num, rfl, H1.out⟩
        case measure => simp [intOf]; omega
      · have hd : decide (0 < k) = true := by simp; omega
        rw [hd] at hh hr
        have H1 := Lib.hid (jn_next (Lib.hid hh) hx.out)
        have hr2 : acc.size + 1 + s.size ≤ out.size := by simpa using hr
        clear hh hr hd R
        go_wp2
        go_round
        case rel => exact ⟨k + 1, _, by omega, by go_num, rfl, by rw [show decide (0 < k + 1) = true by simp]; exact H1.out⟩
        case measure => simp [intOf]; omega
    · obtain rfl : k = n := by omega
      have hf : acc = out := str_ext (by rw [← hh, List.drop_eq_nil_of_le (by rw [HL.out]; exact Nat.le_refl _), jn, List.append_nil])
      subst hf
      clear R hh
      go_wp2
      go_ret
      exact ⟨rfl, BB⟩

end Go.Proofs.YthancgnmbmempaaDoor
