/- What ReadBool, the lengths, ReadInts and ReadString return, of both. -/
import Derived.Test.YtaimkplcnkbjlaaC5
import Derived.Laws.BytesArg
namespace Go.Proofs.Ytaimkplcnkbjlaa
open Go.RowKit Go.Sort

theorem ret_b3 {a a' : Bool} {b c b' c' : Int} (h1 : a = a') (h2 : b = b') (h3 : c = c') :
    Ending.returned (.tuple #[.bool a, .int .i64 b, .int .i64 c]) = .returned (.tuple #[.bool a', .int .i64 b', .int .i64 c']) := by rw [h1, h2, h3]

/-- Reading a bool: it, the index behind it, the error. -/
def rb (l : List Int) (a : Int) : Bool × Int × Int :=
  if a < 0 ∨ (l.length : Int) < a then (false, 0, 2)
  else match l.drop a.toNat with
    | [] => (false, 0, 4)
    | x :: _ => if 1 < x then (false, 0, 3) else (decide (x = 1), a + 1, 0)

theorem rb_cases (l : List Int) (a nx er : Int) (v : Bool) (h : rb l a = (v, nx, er)) :
    ((a < 0 ∨ (l.length : Int) < a) ∧ v = false ∧ nx = 0 ∧ er = 2) ∨ (∃ p : Nat, a = p ∧ p ≤ l.length ∧
      ((p = l.length ∧ v = false ∧ nx = 0 ∧ er = 4) ∨ (∃ x, l[p]? = some x ∧ ((1 < x ∧ v = false ∧ nx = 0 ∧ er = 3) ∨ (x ≤ 1 ∧ v = decide (x = 1) ∧ nx = p + 1 ∧ er = 0))))) := by
  by_cases ha : a < 0 ∨ (l.length : Int) < a
  · rw [rb, if_pos ha] at h
    simp only [Prod.mk.injEq] at h
    exact .inl ⟨ha, h.1.symm, h.2.1.symm, h.2.2.symm⟩
  · refine .inr ⟨a.toNat, by omega, by omega, ?_⟩
    rw [rb, if_neg ha] at h
    by_cases hl : a.toNat = l.length
    · rw [List.drop_eq_nil_of_le (by omega)] at h
      simp only [Prod.mk.injEq] at h
      exact .inl ⟨hl, h.1.symm, h.2.1.symm, h.2.2.symm⟩
    · have hlt : a.toNat < l.length := by omega
      rw [List.drop_eq_getElem_cons hlt] at h
      refine .inr ⟨l[a.toNat], List.getElem?_eq_getElem hlt, ?_⟩
      simp only at h
      by_cases hx : 1 < l[a.toNat]
      · rw [if_pos hx] at h
        simp only [Prod.mk.injEq] at h
        exact .inl ⟨hx, h.1.symm, h.2.1.symm, h.2.2.symm⟩
      · rw [if_neg hx] at h
        simp only [Prod.mk.injEq] at h
        exact .inr ⟨by omega, h.1.symm, by omega, h.2.2.symm⟩

set_option maxRecDepth 100000 in
theorem readBool_b (A : Option Addr) (n c : Nat) (l : List Int) (a nx er : Int) (v : Bool) (w : World) (R : Rd w w.heap.size .u8 A n l) (hn : n ≤ 9223372036854775807) (h : rb l a = (v, nx, er)) :
    Calls Try.prog 23 #[.slice A n c, .int .i64 a] w fun e w' => e = .returned (.tuple #[.bool v, .int .i64 nx, .int .i64 er]) ∧ Below w.heap.size w w' := by
  have hlen := R.len
  rcases rb_cases l a nx er v h with ⟨ha, rfl, rfl, rfl⟩ | ⟨p, rfl, hp, ⟨hpl, rfl, rfl, rfl⟩ | ⟨x, hx, hE⟩⟩
  · have hno := Lib.hid (show ¬ (0 ≤ a ∧ a ≤ (n : Int)) by omega)
    clear h
    go_enter Try.func23, Try.ntmps23
    go_wp2_with (go_at_call 38; refine (isPosition_no _ _ _ _ _ hno.out).mono ?_; rintro _ W1 ⟨rfl, B1⟩)
    go_ret3
    exact ⟨rfl, B1⟩
  · obtain rfl : p = n := by omega
    clear h hlen hpl hp
    go_enter Try.func23, Try.ntmps23
    go_wp2_with (go_at_call 38; refine (isPosition_yes _ _ _ _ _ (by omega) (by omega)).mono ?_; rintro _ W1 ⟨rfl, B1⟩)
    go_ret3
    exact ⟨rfl, B1⟩
  · have hlt : p < n := by
      rcases Nat.lt_or_ge p l.length with h' | h'
      · omega
      · rw [List.getElem?_eq_none h'] at hx; cases hx
    obtain ⟨b, off, y, rfl, cx, x0, x1, hy⟩ := R.byte hlt
    obtain rfl : y = x := hid_some (Lib.hid hx) hy
    have hpe : ((p : Int) == (n : Int)) = false := by simp; omega
    have hpi : (p : Int) < (n : Int) := by omega
    clear h hlen hx hp
    rcases hE with ⟨h1, rfl, rfl, rfl⟩ | ⟨h1, rfl, rfl, rfl⟩
    · go_enter Try.func23, Try.ntmps23
      go_wp2_with (go_at_call 38; refine (isPosition_yes _ _ _ _ _ (by omega) (by omega)).mono ?_; rintro _ W1 ⟨rfl, B1⟩; replace cx := cell_below B1 cx)
      go_ret3
      exact ⟨rfl, B1⟩
    · go_enter Try.func23, Try.ntmps23
      go_wp2_with (go_at_call 38; refine (isPosition_yes _ _ _ _ _ (by omega) (by omega)).mono ?_; rintro _ W1 ⟨rfl, B1⟩; replace cx := cell_below B1 cx)
      go_ret3
      exact ⟨ret_b3 (by first | rfl | (rw [Bool.eq_iff_iff]; simp)) rfl rfl, B1⟩

set_option maxRecDepth 100000 in
theorem rreadBool_b (A : Option Addr) (n c : Nat) (l : List Int) (a nx er : Int) (v : Bool) (w : World) (R : Rd w w.heap.size .u8 A n l) (hn : n ≤ 9223372036854775807) (h : rb l a = (v, nx, er)) :
    Calls Try.prog 24 #[.slice A n c, .int .i64 a] w fun e w' => e = .returned (.tuple #[.bool v, .int .i64 nx, .int .i64 er]) ∧ Below w.heap.size w w' := by
  have hlen := R.len
  rcases rb_cases l a nx er v h with ⟨ha, rfl, rfl, rfl⟩ | ⟨p, rfl, hp, ⟨hpl, rfl, rfl, rfl⟩ | ⟨x, hx, hE⟩⟩
  · clear h
    rcases ha with ha | ha
    · go_enter Try.func24, Try.ntmps24
      go_wp2
      go_ret3
      exact ⟨rfl, Below.refl _ _⟩
    · have ha0 : 0 ≤ a := by omega
      have ha1 : (n : Int) < a := by omega
      clear ha
      go_enter Try.func24, Try.ntmps24
      go_wp2
      go_ret3
      exact ⟨rfl, Below.refl _ _⟩
  · obtain rfl : p = n := by omega
    clear h hlen hpl hp
    go_enter Try.func24, Try.ntmps24
    go_wp2
    go_ret3
    exact ⟨rfl, Below.refl _ _⟩
  · have hlt : p < n := by
      rcases Nat.lt_or_ge p l.length with h' | h'
      · omega
      · rw [List.getElem?_eq_none h'] at hx; cases hx
    obtain ⟨b, off, y, rfl, cx, x0, x1, hy⟩ := R.byte hlt
    obtain rfl : y = x := hid_some (Lib.hid hx) hy
    have hpe : ((p : Int) == (n : Int)) = false := by simp; omega
    have hpi : (p : Int) < (n : Int) := by omega
    clear h hlen hx hp
    rcases hE with ⟨h1, rfl, rfl, rfl⟩ | ⟨h1, rfl, rfl, rfl⟩
    · go_enter Try.func24, Try.ntmps24
      go_wp2
      go_ret3
      exact ⟨rfl, Below.refl _ _⟩
    · go_enter Try.func24, Try.ntmps24
      go_wp2
      go_ret3
      exact ⟨ret_b3 (by first | rfl | (rw [Bool.eq_iff_iff]; simp)) rfl rfl, Below.refl _ _⟩

/-! ### lengths -/

def rl (l : List Int) (a lim : Int) : Int × Int × Int :=
  if lim < 0 then (0, 0, 2)
  else if (ri l a).2.2 ≠ 0 then (0, 0, (ri l a).2.2)
  else if (ri l a).1 < 0 then (0, 0, 3)
  else if lim < (ri l a).1 then (0, 0, 5)
  else ((ri l a).1, (ri l a).2.1, 0)

theorem rl_cases (l : List Int) (a lim v nx er : Int) (hl : ∀ x ∈ l, (0 : Int) ≤ x ∧ x ≤ 255) (h : rl l a lim = (v, nx, er)) :
    (lim < 0 ∧ v = 0 ∧ nx = 0 ∧ er = 2) ∨
    (0 ≤ lim ∧ ∃ v0 nx0 e0, ri l a = (v0, nx0, e0) ∧
      (((e0 = 2 ∨ e0 = 3 ∨ e0 = 4) ∧ v = 0 ∧ nx = 0 ∧ er = e0) ∨ (e0 = 0 ∧ v0 < 0 ∧ v = 0 ∧ nx = 0 ∧ er = 3) ∨ (e0 = 0 ∧ 0 ≤ v0 ∧ lim < v0 ∧ v = 0 ∧ nx = 0 ∧ er = 5) ∨
        (e0 = 0 ∧ 0 ≤ v0 ∧ v0 ≤ lim ∧ v = v0 ∧ nx = nx0 ∧ er = 0))) := by
  by_cases h0 : lim < 0
  · rw [rl, if_pos h0] at h
    simp only [Prod.mk.injEq] at h
    exact .inl (by omega)
  · obtain ⟨v0, nx0, e0, hr⟩ : ∃ v0 nx0 e0, ri l a = (v0, nx0, e0) := ⟨_, _, _, rfl⟩
    have hg := ri_rng l a v0 nx0 e0 hl hr
    refine .inr ⟨by omega, v0, nx0, e0, hr, ?_⟩
    rw [rl, if_neg h0, hr] at h
    simp only at h
    split at h
    · simp only [Prod.mk.injEq] at h; omega
    · split at h
      · simp only [Prod.mk.injEq] at h; omega
      · split at h
        · simp only [Prod.mk.injEq] at h; omega
        · simp only [Prod.mk.injEq] at h; omega

set_option maxRecDepth 100000 in
theorem readLength_b (A : Option Addr) (n c : Nat) (l : List Int) (a lim v nx er : Int) (w : World) (R : Rd w w.heap.size .u8 A n l) (hn : n ≤ 9223372036854775807) (h : rl l a lim = (v, nx, er)) :
    Calls Try.prog 41 #[.slice A n c, .int .i64 a, .int .i64 lim] w fun e w' => e = .returned (.tuple #[.int .i64 v, .int .i64 nx, .int .i64 er]) ∧ Below w.heap.size w w' := by
  rcases rl_cases l a lim v nx er (rd_bytes R) h with ⟨h0, rfl, rfl, rfl⟩ | ⟨h0, v0, nx0, e0, hr, hE⟩
  · clear h R
    go_enter Try.func41, Try.ntmps41
    go_wp2
    go_ret3
    exact ⟨rfl, Below.refl _ _⟩
  · have HR := Lib.hid hr
    clear h hr
    rcases hE with ⟨rfl | rfl | rfl, rfl, rfl, rfl⟩ | ⟨rfl, h1, rfl, rfl, rfl⟩ | ⟨rfl, h1, h2, rfl, rfl, rfl⟩ | ⟨rfl, h1, h2, rfl, rfl, rfl⟩
    all_goals
      go_enter Try.func41, Try.ntmps41
      go_wp2_with (go_at_call 21; refine (readInt_b _ _ _ _ _ _ _ _ _ R hn HR.out).mono ?_; rintro _ W1 ⟨rfl, B1⟩)
      go_ret3
      exact ⟨rfl, B1⟩

set_option maxRecDepth 100000 in
theorem rlength_b (A : Option Addr) (n c : Nat) (l : List Int) (a lim v nx er : Int) (w : World) (R : Rd w w.heap.size .u8 A n l) (hn : n ≤ 9223372036854775807) (h : rl l a lim = (v, nx, er)) :
    Calls Try.prog 42 #[.slice A n c, .int .i64 a, .int .i64 lim] w fun e w' => e = .returned (.tuple #[.int .i64 v, .int .i64 nx, .int .i64 er]) ∧ Below w.heap.size w w' := by
  have hlen := R.len
  have hb := rd_bytes R
  rcases rl_cases l a lim v nx er hb h with ⟨h0, rfl, rfl, rfl⟩ | ⟨h0, v0, nx0, e0, hr, hE⟩
  · clear h R hb
    by_cases ha : a < 0
    · go_enter Try.func42, Try.ntmps42
      go_wp2
      go_ret3
      exact ⟨rfl, Below.refl _ _⟩
    · by_cases ha1 : (n : Int) < a
      all_goals
        go_enter Try.func42, Try.ntmps42
        go_wp2
        go_ret3
        exact ⟨rfl, Below.refl _ _⟩
  · have HR := Lib.hid hr
    rcases ri_cases l a v0 nx0 e0 hb hr with ⟨ha, rfl, rfl, rfl⟩ | ⟨p, U, K, rfl, hp, _, hE'⟩
    · obtain ⟨rfl, rfl, rfl⟩ : v = 0 ∧ nx = 0 ∧ er = 2 := by omega
      clear h hr hE hb
      rcases ha with ha | ha
      · go_enter Try.func42, Try.ntmps42
        go_wp2
        go_ret3
        exact ⟨rfl, Below.refl _ _⟩
      · have ha0 : 0 ≤ a := by omega
        have ha1 : (n : Int) < a := by omega
        go_enter Try.func42, Try.ntmps42
        go_wp2
        go_ret3
        exact ⟨rfl, Below.refl _ _⟩
    · clear h hr hb hE'
      have hpn : p ≤ n := by omega
      have hpi : (p : Int) ≤ n := by omega
      clear hlen hp
      rcases hE with ⟨rfl | rfl | rfl, rfl, rfl, rfl⟩ | ⟨rfl, h1, rfl, rfl, rfl⟩ | ⟨rfl, h1, h2, rfl, rfl, rfl⟩ | ⟨rfl, h1, h2, rfl, rfl, rfl⟩
      all_goals
        go_enter Try.func42, Try.ntmps42
        go_wp2_with (go_at_call 22; refine (rreadInt_b _ _ _ _ _ _ _ _ _ R hn HR.out).mono ?_; rintro _ W1 ⟨rfl, B1⟩)
        go_ret3
        exact ⟨rfl, B1⟩

end Go.Proofs.Ytaimkplcnkbjlaa
