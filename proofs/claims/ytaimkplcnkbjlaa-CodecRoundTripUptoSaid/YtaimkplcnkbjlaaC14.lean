/- What is read of lists and strings was written so, and what was written is read; the walk of CodecReadsList. -/
import Derived.Test.YtaimkplcnkbjlaaC9
import Derived.Test.YtaimkplcnkbjlaaC10
namespace Go.Proofs.Ytaimkplcnkbjlaa
open Go.RowKit Go.Sort

theorem part_append {l : List Int} {p q r : Nat} (h1 : p ≤ q) (h2 : q ≤ r) : part l p (q - p) ++ part l q (r - q) = part l p (r - p) := by
  unfold part
  have e : l.drop q = (l.drop p).drop (q - p) := by rw [List.drop_drop]; congr 1; omega
  rw [e, show r - p = (q - p) + (r - q) by omega, List.take_add]

theorem rints_ok (l : List Int) (hl : ∀ x ∈ l, (0 : Int) ≤ x ∧ x ≤ 255) : ∀ (m : Nat) (a : Int) (acc L : List Int) (nx : Int), rints l m a acc = (L, nx, 0) → 0 ≤ a → a ≤ l.length →
    ∃ v, L = acc ++ v ∧ v.length = m ∧ a + m ≤ nx ∧ nx ≤ l.length ∧ v.flatMap encI = part l a.toNat (nx.toNat - a.toNat) ∧ ∀ x ∈ v, IntKind.i64.min ≤ x ∧ x ≤ IntKind.i64.max := by
  intro m
  induction m with
  | zero =>
    intro a acc L nx h h0 h1
    simp only [rints, Prod.mk.injEq, and_true] at h
    obtain ⟨rfl, rfl⟩ := h
    exact ⟨[], by simp, rfl, by omega, h1, by simp [part], by simp⟩
  | succ m ih =>
    intro a acc L nx h h0 h1
    obtain ⟨x, nx1, e1, hr⟩ : ∃ x nx1 e1, ri l a = (x, nx1, e1) := ⟨_, _, _, rfl⟩
    by_cases he : e1 = 0
    · subst he
      rw [rints_on hr] at h
      obtain ⟨hu, g0, g1, g2⟩ := ri_unique l a x nx1 hl hr
      have hg := ri_rng l a x nx1 0 hl hr
      obtain ⟨v, rfl, hv, hn, hn2, hf, hrg⟩ := ih nx1 (acc ++ [x]) L nx h (by omega) (by omega)
      refine ⟨x :: v, by simp, by simp [hv], by omega, hn2, ?_, ?_⟩
      · rw [List.flatMap_cons, hf, hu]
        exact part_append (by omega) (by omega)
      · intro y hy
        rcases List.mem_cons.1 hy with rfl | hy
        · rw [i64_min, i64_max]; omega
        · exact hrg y hy
    · rw [rints_no hr he] at h
      simp only [Prod.mk.injEq] at h
      exact absurd h.2.2 he

theorem rints_len (l : List Int) (hl : ∀ x ∈ l, (0 : Int) ≤ x ∧ x ≤ 255) : ∀ (m : Nat) (a : Int) (acc L : List Int) (nx er : Int), rints l m a acc = (L, nx, er) → 0 ≤ a → a ≤ l.length → (acc.length : Int) ≤ a → (L.length : Int) ≤ l.length := by
  intro m
  induction m with
  | zero =>
    intro a acc L nx er h h0 h1 h2
    simp only [rints, Prod.mk.injEq] at h
    obtain ⟨rfl, _⟩ := h
    omega
  | succ m ih =>
    intro a acc L nx er h h0 h1 h2
    obtain ⟨x, nx1, e1, hr⟩ : ∃ x nx1 e1, ri l a = (x, nx1, e1) := ⟨_, _, _, rfl⟩
    by_cases he : e1 = 0
    · subst he
      rw [rints_on hr] at h
      have hg := ri_rng l a x nx1 0 hl hr
      exact ih nx1 _ L nx er h (by omega) (by omega) (by simp; omega)
    · rw [rints_no hr he] at h
      simp only [Prod.mk.injEq] at h
      rw [← h.1]; simp

theorem rI_len (l : List Int) (hl : ∀ x ∈ l, (0 : Int) ≤ x ∧ x ≤ 255) (a lim : Int) (L : List Int) (nx er : Int) (h : rI l a lim = (L, nx, er)) : L.length ≤ l.length := by
  obtain ⟨v, n0, e0, hr⟩ : ∃ v n0 e0, rl l a lim = (v, n0, e0) := ⟨_, _, _, rfl⟩
  have hg := rl_rng l a lim v n0 e0 hl hr
  by_cases he : e0 = 0
  · subst he
    rw [rI_yes hr] at h
    have := rints_len l hl _ n0 [] L nx er h (by omega) (by omega) (by simp; omega)
    omega
  · rw [rI_no hr he] at h
    simp only [Prod.mk.injEq] at h
    rw [← h.1]; simp

theorem rl_unique (l : List Int) (hl : ∀ x ∈ l, (0 : Int) ≤ x ∧ x ≤ 255) (a lim v nx : Int) (h : rl l a lim = (v, nx, 0)) :
    encI v = part l a.toNat (nx.toNat - a.toNat) ∧ 0 ≤ a ∧ a < nx ∧ nx ≤ l.length ∧ 0 ≤ v ∧ v ≤ 9223372036854775807 := by
  have hg := rl_rng l a lim v nx 0 hl h
  rcases rl_cases l a lim v nx 0 hl h with ⟨_, _, _, h0⟩ | ⟨_, v0, nx0, e0, hr, hE⟩
  · omega
  · obtain ⟨rfl, rfl, rfl⟩ : e0 = 0 ∧ v = v0 ∧ nx = nx0 := by omega
    have := (ri_unique l a v nx hl hr).1
    exact ⟨this, by omega, by omega, by omega, by omega, by omega⟩

/-- Bytes that are read as a list are its encoding. -/
theorem rI_unique (l : List Int) (hl : ∀ x ∈ l, (0 : Int) ≤ x ∧ x ≤ 255) (a lim : Int) (L : List Int) (nx : Int) (h : rI l a lim = (L, nx, 0)) :
    encL L = part l a.toNat (nx.toNat - a.toNat) ∧ 0 ≤ a ∧ a < nx ∧ nx ≤ l.length := by
  obtain ⟨v, n0, e0, hr⟩ : ∃ v n0 e0, rl l a lim = (v, n0, e0) := ⟨_, _, _, rfl⟩
  by_cases he : e0 = 0
  · subst he
    rw [rI_yes hr] at h
    obtain ⟨hu, g0, g1, g2, g3, _⟩ := rl_unique l hl a lim v n0 hr
    obtain ⟨w, rfl, hw, hn, hn2, hf, _⟩ := rints_ok l hl _ n0 [] L nx h (by omega) (by omega)
    refine ⟨?_, g0, by omega, hn2⟩
    unfold encL
    rw [hf, hw, show ((v.toNat : Nat) : Int) = v by omega, hu]
    exact part_append (by omega) (by omega)
  · rw [rI_no hr he] at h
    simp only [Prod.mk.injEq] at h
    exact absurd h.2.2 he

theorem strL_of {x : List Int} (h : ∀ y ∈ x, (0 : Int) ≤ y ∧ y ≤ 255) : strL (strOfNums x) = x := by
  unfold strL
  rw [strOfNums_data, List.map_map]
  have : ∀ y ∈ x, ((fun b : UInt8 => (b.toNat : Int)) ∘ fun n : Int => UInt8.ofNat n.toNat) y = y := by
    intro y hy
    have := h y hy
    simp only [Function.comp, UInt8.toNat_ofNat']
    omega
  rw [List.map_congr_left this, List.map_id']

/-- Bytes that are read as a string are its encoding. -/
theorem rS_unique (l : List Int) (hl : ∀ x ∈ l, (0 : Int) ≤ x ∧ x ≤ 255) (a lim : Int) (s : ByteArray) (nx : Int) (h : rS l a lim = (s, nx, 0)) :
    encS s = part l a.toNat (nx.toNat - a.toNat) ∧ 0 ≤ a ∧ a < nx ∧ nx ≤ l.length := by
  obtain ⟨v, n0, e0, hr⟩ : ∃ v n0 e0, rl l a lim = (v, n0, e0) := ⟨_, _, _, rfl⟩
  by_cases he : e0 = 0
  · subst he
    obtain ⟨hu, g0, g1, g2, g3, _⟩ := rl_unique l hl a lim v n0 hr
    obtain ⟨m, rfl⟩ : ∃ m : Nat, v = m := ⟨v.toNat, by omega⟩
    obtain ⟨p, rfl⟩ : ∃ p : Nat, n0 = p := ⟨n0.toNat, by omega⟩
    by_cases hs : (l.length : Int) - p < m
    · rw [rS_short hr hs] at h
      simp only [Prod.mk.injEq] at h
      omega
    · rw [rS_yes hr hs] at h
      simp only [Prod.mk.injEq, and_true] at h
      obtain ⟨rfl, rfl⟩ := h
      refine ⟨?_, g0, by omega, by omega⟩
      have hb := part_rng (p := p) (m := m) hl
      have hsz : (strOfNums (part l p m)).size = m := by rw [strOfNums_size, part_len (by omega)]
      show encS (strOfNums (part l p m)) = _
      unfold encS
      rw [strL_of hb, hsz, hu, Int.toNat_natCast, show ((p : Int) + m).toNat = p + m by omega]
      have := part_append (l := l) (p := a.toNat) (q := p) (r := p + m) (by omega) (by omega)
      rwa [show p + m - p = m by omega] at this
  · rw [rS_no hr he] at h
    simp only [Prod.mk.injEq] at h
    exact absurd h.2.2 he

set_option maxRecDepth 100000 in
theorem readsList_walk (A : Option Addr) (n c : Nat) (l : List Int) (a lim : Int) (w : World) (R : Rd w w.heap.size .u8 A n l) (hn : n ≤ 1048576) (hc : n ≤ c) (hcm : c ≤ maxLen) :
    Calls Try.prog 5 #[.slice A n c, .int .i64 a, .int .i64 lim] w fun e w' => e = .returned (.bool true) ∧ Below w.heap.size w w' := by
  have BB : Below w.heap.size w w := Below.refl _ _
  have hc2 : c ≤ 9223372036854775807 := by simpa [maxLen] using hcm
  obtain ⟨L, nx, er, hr⟩ : ∃ L nx er, rI l a lim = (L, nx, er) := ⟨_, _, _, rfl⟩
  obtain ⟨s, nx2, er2, hr2⟩ : ∃ s nx er, rS l a lim = (s, nx, er) := ⟨_, _, _, rfl⟩
  have hlen := rI_len l (rd_bytes R) a lim L nx er hr
  have HLN : Hid (L.length ≤ 1048576) := Lib.hid (by have := R.len; omega)
  have H1 := Lib.hid hr
  have H2 := Lib.hid hr2
  clear hr hr2 hlen
  go_enter Try.func5, Try.ntmps5
  go_wp2_with (first
    | (go_at_call 25; refine (readInts_b _ _ _ _ _ _ _ _ _ _ (R.on BB) (by omega) H1.out).mono ?_; rintro _ W1 ⟨A1, n1, c1, rfl, _, R1, B⟩; replace BB := bon BB B; clear B)
    | (go_at_call 26; refine (rreadInts_b _ _ _ _ _ _ _ _ _ _ (R.on BB) (by omega) H1.out).mono ?_; rintro _ W1 ⟨A2, n2, c2, rfl, _, R2, B⟩; replace R1 := R1.on B; replace BB := bon BB B; clear B)
    | (go_at_call 27; refine (sameInts_b _ _ _ _ _ _ _ _ _ _ R1 R2 (Nat.le_refl _) (Nat.le_refl _) (by have := R1.len; have := HLN.out; omega)).mono ?_; rintro _ W3 ⟨rfl, B⟩; replace BB := bon BB B; clear B R1 R2)
    | (go_at_call 28; refine (readString_b _ _ _ _ _ _ _ _ _ _ (R.on BB) (by omega) hc hc2 H2.out).mono ?_; rintro _ W1 ⟨rfl, B⟩; replace BB := bon BB B; clear B)
    | (go_at_call 29; refine (rreadString_b _ _ _ _ _ _ _ _ _ _ (R.on BB) (by omega) hc hc2 H2.out).mono ?_; rintro _ W1 ⟨rfl, B⟩; replace BB := bon BB B; clear B)
    | (go_at_call 20; refine (example_b _).mono ?_; rintro _ W1 ⟨rfl, B⟩; replace BB := bon BB B; clear B))
  go_ret
  exact ⟨rfl, BB⟩

end Go.Proofs.Ytaimkplcnkbjlaa
