/- Tiles, in plain numbers. -/
import Derived.Test.YtaeocpjddhghdaaBelow
namespace Go.Proofs.Ytaeocpjddhghdaa
set_option linter.unusedSimpArgs false
set_option linter.unusedVariables false

/-- Tiles along one side. -/
def tls (n : Int) : Int := (n + 7) / 8

def szd (n : Int) : Bool := decide (1 ≤ n) && decide (n ≤ 64)

def cols (a b : Int) : Int := if szd a && szd b then tls a else 0

def rows (a b : Int) : Int := if szd a && szd b then tls b else 0

/-- A tile's rectangle. -/
def trx (a b t : Int) : Int := if t < 0 ∨ cols a b * rows a b ≤ t then 0 else t % cols a b * 8
def tryv (a b t : Int) : Int := if t < 0 ∨ cols a b * rows a b ≤ t then 0 else t / cols a b * 8
def trw (a b t : Int) : Int := if t < 0 ∨ cols a b * rows a b ≤ t then 0 else min 8 (a - t % cols a b * 8)
def trh (a b t : Int) : Int := if t < 0 ∨ cols a b * rows a b ≤ t then 0 else min 8 (b - t / cols a b * 8)

def tof (a b x y : Int) : Int := if (szd a && szd b) = false ∨ x < 0 ∨ a ≤ x ∨ y < 0 ∨ b ≤ y then -1 else y / 8 * cols a b + x / 8

theorem szd_ways (n : Int) : (1 ≤ n ∧ n ≤ 64 ∧ szd n = true) ∨ (n < 1 ∧ szd n = false) ∨ (1 ≤ n ∧ 64 < n ∧ szd n = false) := by
  unfold szd
  simp only [Bool.and_eq_true, Bool.and_eq_false_iff, decide_eq_true_eq, decide_eq_false_iff_not]
  omega

theorem tls_bd {n : Int} (h1 : 1 ≤ n) (h2 : n ≤ 64) : 1 ≤ tls n ∧ tls n ≤ 8 ∧ (tls n - 1) * 8 < n ∧ n ≤ tls n * 8 := by unfold tls; omega

theorem tls_t {n : Int} (h1 : 1 ≤ n) : (n + 7).tdiv 8 = tls n := by rw [Int.tdiv_eq_ediv_of_nonneg (by omega)]; rfl

theorem cols_yes {a b : Int} (h1 : szd a = true) (h2 : szd b = true) : cols a b = tls a ∧ rows a b = tls b := by simp [cols, rows, h1, h2]

theorem cols_no {a b : Int} (h : szd a = false ∨ szd b = false) : cols a b = 0 ∧ rows a b = 0 := by rcases h with h | h <;> simp [cols, rows, h]

theorem cols_bd (a b : Int) : (0 ≤ cols a b ∧ cols a b ≤ 8) ∧ (0 ≤ rows a b ∧ rows a b ≤ 8) ∧ 0 ≤ cols a b * rows a b ∧ cols a b * rows a b ≤ 64 := by
  have key : ∀ c r : Int, (0 ≤ c ∧ c ≤ 8) → (0 ≤ r ∧ r ≤ 8) → 0 ≤ c * r ∧ c * r ≤ 64 := fun c r hc hr => ⟨Int.mul_nonneg hc.1 hr.1, by have : c * r ≤ 8 * 8 := Int.mul_le_mul hc.2 hr.2 hr.1 (by omega); omega⟩
  have h : (0 ≤ cols a b ∧ cols a b ≤ 8) ∧ (0 ≤ rows a b ∧ rows a b ≤ 8) := by
    rcases szd_ways a with ⟨a1, a2, a3⟩ | ⟨_, a3⟩ | ⟨_, _, a3⟩
    · rcases szd_ways b with ⟨b1, b2, b3⟩ | ⟨_, b3⟩ | ⟨_, _, b3⟩
      · rw [(cols_yes a3 b3).1, (cols_yes a3 b3).2]
        have := tls_bd a1 a2
        have := tls_bd b1 b2
        omega
      · rw [(cols_no (.inr b3)).1, (cols_no (.inr b3)).2]; omega
      · rw [(cols_no (.inr b3)).1, (cols_no (.inr b3)).2]; omega
    · rw [(cols_no (.inl a3)).1, (cols_no (.inl a3)).2]; omega
    · rw [(cols_no (.inl a3)).1, (cols_no (.inl a3)).2]; omega
  exact ⟨h.1, h.2, key _ _ h.1 h.2⟩

/-- A tile below c * r has a column below c and a row below r. -/
theorem tile_parts {c r t : Int} (hc : 1 ≤ c) (hr : 0 ≤ r) (h0 : 0 ≤ t) (h1 : t < c * r) : 0 ≤ t % c ∧ t % c < c ∧ 0 ≤ t / c ∧ t / c < r ∧ t / c * c + t % c = t := by
  refine ⟨Int.emod_nonneg _ (by omega), Int.emod_lt_of_pos _ (by omega), Int.ediv_nonneg h0 (by omega), ?_, ?_⟩
  · exact Int.ediv_lt_of_lt_mul (by omega) (by rw [Int.mul_comm]; exact h1)
  · rw [Int.mul_comm]; exact Int.mul_ediv_add_emod t c

theorem tile_t {c t : Int} (hc : 1 ≤ c) (h0 : 0 ≤ t) : t.tmod c = t % c ∧ t.tdiv c = t / c := ⟨Int.tmod_eq_emod_of_nonneg h0, Int.tdiv_eq_ediv_of_nonneg h0⟩

/-- A pixel lies in its tile's rectangle alone. -/
theorem tile_in {a b x y t : Int} (ha : 1 ≤ a ∧ a ≤ 64) (hb : 1 ≤ b ∧ b ≤ 64) (hx : 0 ≤ x ∧ x < a) (hy : 0 ≤ y ∧ y < b) (h0 : 0 ≤ t) (h1 : t < tls a * tls b) :
    (t % tls a * 8 ≤ x ∧ x < t % tls a * 8 + min 8 (a - t % tls a * 8) ∧ t / tls a * 8 ≤ y ∧ y < t / tls a * 8 + min 8 (b - t / tls a * 8)) ↔ t = y / 8 * tls a + x / 8 := by
  have hta := tls_bd ha.1 ha.2
  obtain ⟨p1, p2, p3, p4, p5⟩ := tile_parts hta.1 (by have := tls_bd hb.1 hb.2; omega) h0 h1
  have hx8 : x / 8 < tls a := by omega
  constructor
  · intro ⟨q1, q2, q3, q4⟩
    have e1 : t % tls a = x / 8 := by omega
    have e2 : t / tls a = y / 8 := by omega
    rw [← e1, ← e2]
    exact p5.symm
  · intro h
    have e1 : t % tls a = x / 8 := by
      rw [h, Int.add_comm, Int.add_mul_emod_self_right]
      exact Int.emod_eq_of_lt (by omega) hx8
    have e2 : t / tls a = y / 8 := by
      rw [h, Int.add_comm, Int.add_mul_ediv_right _ _ (by omega), Int.ediv_eq_zero_of_lt (by omega) hx8]
      omega
    rw [e1, e2]
    omega

end Go.Proofs.Ytaeocpjddhghdaa
