/- What AppendInts, AppendString and AppendBool return. -/
import Derived.Test.YtfakmeimideoaaaC2
namespace Go.Proofs.Ytfakmeimideoaaa
open Go.RowKit Go.Sort

def encL (v : List Int) : List Int := encI v.length ++ v.flatMap encI
/-- A string's bytes. -/
def strL (s : ByteArray) : List Int := s.data.toList.map fun b => (b.toNat : Int)
def encS (s : ByteArray) : List Int := encI s.size ++ strL s
def encB (x : Bool) : List Int := [if x then 1 else 0]

theorem strL_len (s : ByteArray) : (strL s).length = s.size := by
  rw [strL, List.length_map, Array.length_toList]; rfl

theorem strL_drop (s : ByteArray) (k : Nat) (h : k < s.size) : (strL s).drop k = ((s[k]).toNat : Int) :: (strL s).drop (k + 1) := by
  have hl : k < (strL s).length := by rw [strL_len]; exact h
  rw [List.drop_eq_getElem_cons hl]
  congr 1
  simp [strL]
  rfl

/-- What is written of a list at its k-th element. -/
theorem list_step {v : List Int} {k : Nat} {x : Int} (hx : Hid (v[k]? = some x)) : v.drop k = x :: v.drop (k + 1) := by
  have h := hx.out
  have hl : k < v.length := by
    rcases Nat.lt_or_ge k v.length with h' | h'
    · exact h'
    · rw [List.getElem?_eq_none h'] at h; cases h
  rw [List.drop_eq_getElem_cons hl]
  rw [List.getElem?_eq_getElem hl] at h
  injection h with h
  rw [h]

theorem ints_on {d t v : List Int} {k : Nat} {x : Int} (h : Hid (d ++ (v.drop k).flatMap encI = t)) (hx : Hid (v[k]? = some x)) : (d ++ encI x) ++ (v.drop (k + 1)).flatMap encI = t := by
  rw [← h.out, list_step hx, List.flatMap_cons, List.append_assoc]

theorem ints_room {d t v : List Int} {k M : Nat} {x : Int} (h : Hid (d ++ (v.drop k).flatMap encI = t)) (hx : Hid (v[k]? = some x)) (ht : Hid (t.length ≤ M)) : d.length + (encI x).length ≤ M := by
  have h1 := congrArg List.length (ints_on h hx)
  have h2 := ht.out
  simp only [List.length_append] at h1
  omega

theorem ints_end {d t v : List Int} (h : Hid (d ++ (v.drop v.length).flatMap encI = t)) : d = t := by
  rw [← h.out]; simp

theorem encL_room {l v : List Int} {M : Nat} (h : Hid ((l ++ encL v).length ≤ M)) : l.length + (encI v.length).length ≤ M := by
  have := h.out
  unfold encL at this
  simp only [List.length_append] at this
  omega

theorem encL_start (l v : List Int) : (l ++ encI v.length) ++ (v.drop 0).flatMap encI = l ++ encL v := by
  unfold encL; simp

theorem encS_room {l : List Int} {s : ByteArray} {M : Nat} (h : Hid ((l ++ encS s).length ≤ M)) : l.length + (encI s.size).length ≤ M ∧ l.length + (encI s.size).length + s.size ≤ M := by
  have := h.out
  unfold encS at this
  simp only [List.length_append, strL_len] at this
  omega

theorem str_on {d t : List Int} {s : ByteArray} {k : Nat} (h : Hid (d ++ (strL s).drop k = t)) (hk : k < s.size) : (d ++ [((s[k]).toNat : Int)]) ++ (strL s).drop (k + 1) = t := by
  rw [← h.out, strL_drop s k hk, List.append_assoc]; rfl

theorem str_room {d t : List Int} {s : ByteArray} {k n M : Nat} (h : Hid (d ++ (strL s).drop k = t)) (hk : k < s.size) (hd : d.length = n) (ht : Hid (t.length ≤ M)) : n + 1 ≤ M := by
  have h1 := congrArg List.length h.out
  have h2 := ht.out
  simp only [List.length_append, List.length_drop, strL_len] at h1
  omega

theorem str_end {d t : List Int} {s : ByteArray} (h : Hid (d ++ (strL s).drop s.size = t)) : d = t := by
  rw [← h.out, ← strL_len s]; simp

end Go.Proofs.Ytfakmeimideoaaa
