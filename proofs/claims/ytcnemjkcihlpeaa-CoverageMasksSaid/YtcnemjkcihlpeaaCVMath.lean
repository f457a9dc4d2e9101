/- Samples and masks, in plain numbers. -/
import Derived.Test.YtcnemjkcihlpeaaEGC
import Derived.Test.YtcnemjkcihlpeaaRowE
import Derived.Test.YtcnemjkcihlpeaaPow
namespace Go.Proofs.Ytcnemjkcihlpeaa
set_option linter.unusedSimpArgs false
open Go.RowKit Go.Sort Go.ChangeShapes Go.WideShapes
set_option linter.unusedVariables false

def pt2 (p : Int × Int) : List Value := [.int .i64 p.1, .int .i64 p.2]

theorem ptEnc : Enc pt2 2 := ⟨fun _ => rfl, by decide, fun x v hv => by simp [pt2] at hv; rcases hv with rfl | rfl <;> rfl⟩

theorem OwnE.lit {α : Type} {enc : α → List Value} {k : Nat} (E : Enc enc k) (w : World) (e : TypeId) (l : List α) (hl : l.length ≤ maxLen) : OwnE enc k (w.alloc (.cells (l.flatMap enc).toArray e)) w.heap.size e (some ⟨w.heap.size, 0, none⟩) l.length l.length l :=
  ⟨⟨by simp [encs_len E], .inr ⟨w.heap.size, l.length, _, rfl, Nat.le_refl _, heap_alloc_new w _, Nat.le_refl _, hl, by simp [encs_len E], by rw [List.take_of_length_le (by simp [encs_len E])]⟩⟩, by simp, rfl⟩

/-- The sample positions. -/
def posl (n : Int) : List (Int × Int) :=
  if n = 1 then [(128, 128)] else if n = 2 then [(192, 192), (64, 64)] else if n = 4 then [(96, 32), (224, 96), (32, 160), (160, 224)] else
  if n = 8 then [(144, 80), (112, 176), (208, 144), (80, 48), (48, 208), (16, 112), (176, 240), (240, 16)] else []

theorem posl_len (n : Int) : (posl n).length ≤ 8 := by
  unfold posl
  split
  · simp
  · split
    · simp
    · split
      · simp
      · split <;> simp

theorem posl_bd (n : Int) : ∀ p ∈ posl n, (0 ≤ p.1 ∧ p.1 ≤ 255) ∧ (0 ≤ p.2 ∧ p.2 ≤ 255) := by
  intro p hp
  unfold posl at hp
  split at hp
  · simp at hp; subst hp; simp
  · split at hp
    · simp at hp; rcases hp with rfl | rfl <;> simp
    · split at hp
      · simp at hp; rcases hp with rfl | rfl | rfl | rfl <;> simp
      · split at hp
        · simp at hp; rcases hp with rfl | rfl | rfl | rfl | rfl | rfl | rfl | rfl <;> simp
        · simp at hp

def pixel (x y : Int) : Bool := decide (0 ≤ x) && (decide (x < 64) && (decide (0 ≤ y) && decide (y < 64)))

/-- The mask of the first k samples. -/
def mbits (a b c : SV) (x y : Int) : List (Int × Int) → Nat → Nat
  | [], _ => 0
  | p :: l, i => (if cov a b c (x * 256 + p.1) (y * 256 + p.2) = true then 2 ^ i else 0) + mbits a b c x y l (i + 1)

def maskv (a b c : SV) (x y n : Int) : Int := if pixel x y = true then (mbits a b c x y (posl n) 0 : Nat) else 0

theorem mbits_app (a b c : SV) (x y : Int) : ∀ (l m : List (Int × Int)) (i : Nat), mbits a b c x y (l ++ m) i = mbits a b c x y l i + mbits a b c x y m (i + l.length)
  | [], m, i => by simp [mbits]
  | p :: l, m, i => by
    simp only [List.cons_append, mbits, mbits_app a b c x y l m (i + 1), List.length_cons]
    rw [show i + 1 + l.length = i + (l.length + 1) by omega]
    omega

theorem mbits_lt (a b c : SV) (x y : Int) : ∀ (l : List (Int × Int)) (i : Nat), mbits a b c x y l i + 2 ^ i ≤ 2 ^ (i + l.length)
  | [], i => by simp [mbits]
  | p :: l, i => by
    have h := mbits_lt a b c x y l (i + 1)
    have e : 2 ^ (i + 1) = 2 * 2 ^ i := by rw [Nat.pow_succ]; omega
    simp only [mbits, List.length_cons]
    rw [show i + (l.length + 1) = i + 1 + l.length by omega]
    split <;> omega

theorem mbits_take (a b c : SV) (x y : Int) {l : List (Int × Int)} {k : Nat} {p : Int × Int} (h : l[k]? = some p) : mbits a b c x y (l.take (k + 1)) 0 = mbits a b c x y (l.take k) 0 + (if cov a b c (x * 256 + p.1) (y * 256 + p.2) = true then 2 ^ k else 0) := by
  have hk : k < l.length := (List.getElem?_eq_some_iff.1 h).1
  rw [List.take_add_one, h, mbits_app]
  simp [mbits, Nat.min_eq_left (Nat.le_of_lt hk)]

theorem mbits_small (a b c : SV) (x y : Int) (l : List (Int × Int)) (k : Nat) (hk : k ≤ l.length) : mbits a b c x y (l.take k) 0 < 2 ^ k := by
  have h := mbits_lt a b c x y (l.take k) 0
  rw [List.length_take, Nat.min_eq_left hk, Nat.zero_add] at h
  simp at h
  omega

/-- The next bit is set by 'or'. -/
theorem or_bit {m k : Nat} (h : m < 2 ^ k) : m ||| 2 ^ k = m + 2 ^ k := by
  have := Nat.two_pow_add_eq_or_of_lt h 1
  rw [Nat.mul_one] at this
  rw [Nat.or_comm, ← this, Nat.add_comm]

theorem mask_turn (a b c : SV) (x y n : Int) : maskv b c a x y n = maskv a b c x y n := by
  have h : ∀ (l : List (Int × Int)) (i : Nat), mbits b c a x y l i = mbits a b c x y l i := by
    intro l
    induction l with
    | nil => intro i; rfl
    | cons p l ih => intro i; simp only [mbits, cov_turn, ih]
  unfold maskv
  rw [h]

end Go.Proofs.Ytcnemjkcihlpeaa
