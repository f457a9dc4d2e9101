/- Images as lists of bytes. No function of a program is named here. -/
import Derived.Test.YtcjlgfadjedgbaaTMath
import Derived.Test.YtcjlgfadjedgbaaTreeC
import Derived.Deep.RegionHeld
import Derived.Deep.Upon
import Derived.Laws.IdiomCopy
namespace Go.Proofs.Ytcjlgfadjedgbaa
open Go.RowKit Go.Sort

/-- An image. -/
structure Im where
  f : Int
  w : Int
  h : Int
  l : List Int
deriving DecidableEq

def Im.ok (m : Im) : Prop := nsz m.f ≠ 0 ∧ (1 ≤ m.w ∧ m.w ≤ 64) ∧ (1 ≤ m.h ∧ m.h ≤ 64) ∧ (m.l.length : Int) = m.w * m.h * nsz m.f
instance (m : Im) : Decidable m.ok := by unfold Im.ok; infer_instance
/-- There is a texel there. -/
def Im.ins (m : Im) (x y : Int) : Prop := m.ok ∧ (0 ≤ x ∧ x < m.w) ∧ (0 ≤ y ∧ y < m.h)
instance (m : Im) (x y : Int) : Decidable (m.ins x y) := by unfold Im.ins; infer_instance
def Im.off (m : Im) (x y : Int) : Int := if m.ins x y then (y * m.w + x) * nsz m.f else -1
/-- A texel's bytes. -/
def Im.txl (m : Im) (x y : Int) : List Int := part m.l (m.off x y).toNat (nsz m.f)
def Im.get (m : Im) (x y : Int) (i : Nat) : Int := if m.ins x y then dec m.f (m.txl x y) i else 0

/-- Bytes put into a list. -/
def lput (l : List Int) (p : Nat) (b : List Int) : List Int := l.take p ++ (b ++ l.drop (p + b.length))

theorem lput_len {l b : List Int} {p : Nat} (h : p + b.length ≤ l.length) : (lput l p b).length = l.length := by
  unfold lput
  rw [List.length_append, List.length_append, List.length_take, List.length_drop]
  omega
theorem lput_get {l b : List Int} {p : Nat} (h : p + b.length ≤ l.length) (k : Nat) : (lput l p b)[k]? = if p ≤ k ∧ k < p + b.length then b[k - p]? else l[k]? := by
  unfold lput
  rw [List.getElem?_append, List.length_take, Nat.min_eq_left (by omega)]
  by_cases h1 : k < p
  · rw [if_pos h1, if_neg (by omega), List.getElem?_take, if_pos h1]
  · rw [if_neg h1, List.getElem?_append]
    by_cases h2 : k - p < b.length
    · rw [if_pos h2, if_pos (by omega)]
    · rw [if_neg h2, if_neg (by omega), List.getElem?_drop]
      congr 1
      omega
theorem lput_rng {l b : List Int} {p : Nat} (hl : ∀ x ∈ l, (0 : Int) ≤ x ∧ x ≤ 255) (hb : ∀ x ∈ b, (0 : Int) ≤ x ∧ x ≤ 255) : ∀ x ∈ lput l p b, (0 : Int) ≤ x ∧ x ≤ 255 := by
  intro x hx
  unfold lput at hx
  simp only [List.mem_append] at hx
  rcases hx with hx | hx | hx
  · exact hl x (List.mem_of_mem_take hx)
  · exact hb x hx
  · exact hl x (List.mem_of_mem_drop hx)
theorem lput_nil {l : List Int} {p : Nat} : lput l p [] = l := by unfold lput; simp
/-- One more byte put. -/
theorem lput_snoc {l b : List Int} {p : Nat} {x : Int} (h : p + b.length < l.length) : (lput l p b).set (p + b.length) x = lput l p (b ++ [x]) := by
  apply List.ext_getElem?
  intro k
  rw [List.getElem?_set, lput_get (by omega), lput_get (by rw [List.length_append, List.length_singleton]; omega), lput_len (by omega), List.length_append, List.length_singleton]
  by_cases h1 : p + b.length = k
  · subst h1
    rw [if_pos rfl, if_pos h, if_pos (by omega), Nat.add_sub_cancel_left, List.getElem?_append_right (Nat.le_refl _), Nat.sub_self]
    rfl
  · rw [if_neg h1]
    by_cases h2 : p ≤ k ∧ k < p + b.length
    · rw [if_pos h2, if_pos (by omega), List.getElem?_append_left (by omega)]
    · rw [if_neg h2, if_neg (by omega)]

theorem part_get {l : List Int} {p m k : Nat} : (part l p m)[k]? = if k < m then l[p + k]? else none := by
  unfold part
  rw [List.getElem?_take]
  split
  · rw [List.getElem?_drop]
  · rfl
/-- The bytes just put; bytes beside them. -/
theorem part_put_same {l b : List Int} {p : Nat} (h : p + b.length ≤ l.length) : part (lput l p b) p b.length = b := by
  apply List.ext_getElem?
  intro k
  rw [part_get]
  by_cases hk : k < b.length
  · rw [if_pos hk, lput_get h, if_pos (by omega), Nat.add_sub_cancel_left]
  · rw [if_neg hk, List.getElem?_eq_none (by omega)]
theorem part_put_other {l b : List Int} {p q s : Nat} (h : p + b.length ≤ l.length) (hd : q + s ≤ p ∨ p + b.length ≤ q) : part (lput l p b) q s = part l q s := by
  apply List.ext_getElem?
  intro k
  rw [part_get, part_get]
  by_cases hk : k < s
  · rw [if_pos hk, if_pos hk, lput_get h, if_neg (by omega)]
  · rw [if_neg hk, if_neg hk]

/-- Where a texel lies. -/
theorem tix_in {W H s x y : Int} (hs : 0 ≤ s) (hx : 0 ≤ x ∧ x < W) (hy : 0 ≤ y ∧ y < H) : 0 ≤ (y * W + x) * s ∧ (y * W + x) * s + s ≤ W * H * s := by
  have h1 : 0 ≤ y * W := Int.mul_nonneg hy.1 (by omega)
  have h2 : (y + 1) * W ≤ H * W := Int.mul_le_mul_of_nonneg_right (by omega) (by omega)
  rw [Int.add_mul, Int.one_mul] at h2
  have h3 : y * W + x + 1 ≤ W * H := by rw [Int.mul_comm W H]; omega
  have h4 := Int.mul_le_mul_of_nonneg_right h3 hs
  rw [Int.add_mul (y * W + x) 1, Int.one_mul] at h4
  exact ⟨Int.mul_nonneg (by omega) hs, h4⟩
theorem tix_apart {W s x y u v : Int} (hs : 0 ≤ s) (hx : 0 ≤ x ∧ x < W) (hu : 0 ≤ u ∧ u < W) (hne : ¬ (u = x ∧ v = y)) : (v * W + u) * s + s ≤ (y * W + x) * s ∨ (y * W + x) * s + s ≤ (v * W + u) * s := by
  have key : ∀ a b : Int, a + 1 ≤ b → a * s + s ≤ b * s := fun a b h => by
    have := Int.mul_le_mul_of_nonneg_right h hs
    rwa [Int.add_mul, Int.one_mul] at this
  rcases Int.lt_trichotomy v y with h | h | h
  · have h2 : (v + 1) * W ≤ y * W := Int.mul_le_mul_of_nonneg_right (by omega) (by omega)
    rw [Int.add_mul, Int.one_mul] at h2
    exact .inl (key _ _ (by omega))
  · subst h
    rcases Int.lt_trichotomy u x with h3 | h3 | h3
    · exact .inl (key _ _ (by omega))
    · exact absurd ⟨h3, rfl⟩ hne
    · exact .inr (key _ _ (by omega))
  · have h2 : (y + 1) * W ≤ v * W := Int.mul_le_mul_of_nonneg_right (by omega) (by omega)
    rw [Int.add_mul, Int.one_mul] at h2
    exact .inr (key _ _ (by omega))

theorem Im.off_in {m : Im} {x y : Int} (h : m.ins x y) : ∃ p : Nat, m.off x y = p ∧ p + nsz m.f ≤ m.l.length ∧ (p : Int) = (y * m.w + x) * nsz m.f := by
  have h1 := tix_in (W := m.w) (H := m.h) (s := nsz m.f) (by omega) h.2.1 h.2.2
  have h2 := h.1.2.2.2
  refine ⟨((y * m.w + x) * nsz m.f).toNat, by unfold Im.off; rw [if_pos h]; omega, by omega, by omega⟩
theorem Im.off_out {m : Im} {x y : Int} (h : ¬ m.ins x y) : m.off x y = -1 := if_neg h
theorem Im.off_rng (m : Im) (x y : Int) : -1 ≤ m.off x y ∧ m.off x y ≤ m.l.length := by
  by_cases h : m.ins x y
  · obtain ⟨p, h1, h2, _⟩ := m.off_in h
    omega
  · rw [m.off_out h]; omega
theorem Im.len_le {m : Im} (h : m.ok) : m.l.length ≤ 32768 := by
  obtain ⟨_, h1, h2, h3⟩ := h
  have h8 := nsz_le m.f
  have h4 : m.w * m.h ≤ 64 * 64 := Int.mul_le_mul h1.2 h2.2 (by omega) (by omega)
  have h5 : m.w * m.h * nsz m.f ≤ 64 * 64 * 8 := Int.mul_le_mul h4 (by omega) (by omega) (by omega)
  omega

/-- A texel replaced. -/
def Im.put (m : Im) (p : Nat) (b : List Int) : Im := { m with l := lput m.l p b }
def Im.set (m : Im) (x y c0 c1 c2 c3 : Int) : Im := if m.ins x y then m.put (m.off x y).toNat (enc m.f c0 c1 c2 c3) else m

theorem Im.put_ok {m : Im} {p : Nat} {b : List Int} (h : m.ok) (hp : p + b.length ≤ m.l.length) : (m.put p b).ok := by
  obtain ⟨h1, h2, h3, h4⟩ := h
  exact ⟨h1, h2, h3, by show ((lput m.l p b).length : Int) = m.w * m.h * nsz m.f; rw [lput_len hp]; exact h4⟩
theorem Im.put_ins {m : Im} {p : Nat} {b : List Int} {u v : Int} (h : m.ok) (hp : p + b.length ≤ m.l.length) : (m.put p b).ins u v ↔ m.ins u v :=
  ⟨fun k => ⟨h, k.2⟩, fun k => ⟨m.put_ok h hp, k.2⟩⟩
/-- The texels behind a texel's bytes were put. -/
theorem Im.txl_put {m : Im} {x y u v : Int} {b : List Int} (h : m.ins x y) (hb : b.length = nsz m.f) (k : m.ins u v) : (m.put (m.off x y).toNat b).txl u v = if u = x ∧ v = y then b else m.txl u v := by
  obtain ⟨p, hp, hpl, hpe⟩ := m.off_in h
  obtain ⟨q, hq, hql, hqe⟩ := m.off_in k
  rw [hp, Int.toNat_natCast]
  have k' : (m.put p b).ins u v := (m.put_ins h.1 (by omega)).2 k
  have e : (m.put p b).off u v = q := by
    rw [← hq]
    unfold Im.off
    rw [if_pos k', if_pos k]
    rfl
  unfold Im.txl
  rw [e, hq, Int.toNat_natCast]
  show part (lput m.l p b) q (nsz m.f) = _
  by_cases he : u = x ∧ v = y
  · obtain ⟨rfl, rfl⟩ := he
    rw [if_pos ⟨rfl, rfl⟩]
    obtain rfl : q = p := by omega
    rw [← hb]
    exact part_put_same (by omega)
  · rw [if_neg he]
    refine part_put_other (by omega) ?_
    have := tix_apart (s := nsz m.f) (by omega) h.2.1 k.2.1 he
    omega

theorem Im.get_set {m : Im} {x y c0 c1 c2 c3 u v : Int} (k : m.ins u v) (i : Nat) : (m.set x y c0 c1 c2 c3).get u v i = if u = x ∧ v = y then qnt m.f c0 c1 c2 c3 i else m.get u v i := by
  unfold Im.set
  by_cases h : m.ins x y
  · rw [if_pos h]
    obtain ⟨p, hp, hpl, hpe⟩ := m.off_in h
    have hl := enc_len m.f c0 c1 c2 c3
    have k' : (m.put (m.off x y).toNat (enc m.f c0 c1 c2 c3)).ins u v := (m.put_ins h.1 (by rw [hp]; omega)).2 k
    unfold Im.get
    rw [if_pos k', if_pos k, m.txl_put h hl k]
    show dec m.f _ i = _
    split
    · rfl
    · rfl
  · rw [if_neg h]
    by_cases he : u = x ∧ v = y
    · obtain ⟨rfl, rfl⟩ := he
      exact absurd k h
    · rw [if_neg he]

/-- Two images of one shape are equal if their texels are. -/
theorem Im.ext_txl {m n : Im} (hm : m.ok) (hn : n.ok) (hf : n.f = m.f) (hw : n.w = m.w) (hh : n.h = m.h) (ht : ∀ u v, m.ins u v → n.txl u v = m.txl u v) : n = m := by
  obtain ⟨mf, mw, mh, ml⟩ := m
  obtain ⟨nf, nw, nh, nl⟩ := n
  simp only at hf hw hh
  subst hf hw hh
  congr 1
  have hm3 : (ml.length : Int) = nw * nh * nsz nf := hm.2.2.2
  have hn3 : (nl.length : Int) = nw * nh * nsz nf := hn.2.2.2
  have hs : nsz nf ≠ 0 := hm.1
  have hw1 : 1 ≤ nw := hm.2.1.1
  apply List.ext_getElem?
  intro k
  by_cases hk : k < ml.length
  · have hkt : (k : Int) < nw * nh * nsz nf := by omega
    obtain ⟨t, r, hr, hkr⟩ : ∃ t r : Nat, r < nsz nf ∧ k = t * nsz nf + r := ⟨k / nsz nf, k % nsz nf, Nat.mod_lt _ (by omega), by rw [Nat.mul_comm]; exact (Nat.div_add_mod _ _).symm⟩
    have ht1 : (t : Int) < nw * nh := by
      have : (t : Int) * nsz nf < nw * nh * nsz nf := by
        have : ((t * nsz nf : Nat) : Int) = (t : Int) * nsz nf := Int.natCast_mul _ _
        omega
      exact Int.lt_of_mul_lt_mul_right this (by omega)
    have hx := Int.emod_nonneg (t : Int) (show nw ≠ 0 by omega)
    have hx2 := Int.emod_lt_of_pos (t : Int) (show 0 < nw by omega)
    have hy := Int.ediv_nonneg (show 0 ≤ (t : Int) by omega) (show 0 ≤ nw by omega)
    have hy2 : (t : Int) / nw < nh := Int.ediv_lt_of_lt_mul (by omega) (by rw [Int.mul_comm]; exact ht1)
    have he : (t : Int) / nw * nw + t % nw = t := by rw [Int.mul_comm]; exact Int.mul_ediv_add_emod _ _
    have k1 : Im.ins ⟨nf, nw, nh, ml⟩ (t % nw) (t / nw) := ⟨hm, ⟨hx, hx2⟩, ⟨hy, hy2⟩⟩
    have k2 : Im.ins ⟨nf, nw, nh, nl⟩ (t % nw) (t / nw) := ⟨hn, ⟨hx, hx2⟩, ⟨hy, hy2⟩⟩
    have h := ht _ _ k1
    obtain ⟨p, hp, hpl, hpe⟩ := Im.off_in k1
    obtain ⟨q, hq, hql, hqe⟩ := Im.off_in k2
    unfold Im.txl at h
    rw [hp, hq] at h
    simp only [Int.toNat_natCast] at h
    simp only at hpe hqe
    rw [he] at hpe hqe
    have e1 : p = t * nsz nf := by
      have : ((t * nsz nf : Nat) : Int) = (t : Int) * nsz nf := Int.natCast_mul _ _
      omega
    have e2 : q = t * nsz nf := by
      have : ((t * nsz nf : Nat) : Int) = (t : Int) * nsz nf := Int.natCast_mul _ _
      omega
    have hg := congrArg (fun l : List Int => l[r]?) h
    simp only [part_get, if_pos hr] at hg
    rw [e1, e2] at hg
    rw [hkr]
    exact hg
  · rw [List.getElem?_eq_none (by omega), List.getElem?_eq_none (by omega)]

end Go.Proofs.Ytcjlgfadjedgbaa

/- Rectangles of images, copied row by row or texel by texel. No function of a program is named here. -/
namespace Go.Proofs.Ytcjlgfadjedgbaa
open Go.RowKit Go.Sort

theorem part_put_in {l b : List Int} {p q s : Nat} (h : p + b.length ≤ l.length) (h1 : p ≤ q) (h2 : q + s ≤ p + b.length) : part (lput l p b) q s = part b (q - p) s := by
  apply List.ext_getElem?
  intro k
  rw [part_get, part_get]
  by_cases hk : k < s
  · rw [if_pos hk, if_pos hk, lput_get h, if_pos (by omega)]
    congr 1
    omega
  · rw [if_neg hk, if_neg hk]

theorem part_part {l : List Int} {p m q s : Nat} (h : q + s ≤ m) : part (part l p m) q s = part l (p + q) s := by
  apply List.ext_getElem?
  intro k
  by_cases hk : k < s
  · rw [part_get, if_pos hk, part_get, if_pos (by omega), part_get, if_pos hk]
    congr 1
    omega
  · rw [part_get, if_neg hk, part_get, if_neg hk]

theorem Im.ins_shape {m d : Im} (hm : m.ok) (hd : d.ok) (hw : m.w = d.w) (hh : m.h = d.h) (u v : Int) : m.ins u v ↔ d.ins u v := by
  unfold Im.ins
  rw [hw, hh]
  exact ⟨fun k => ⟨hd, k.2⟩, fun k => ⟨hm, k.2⟩⟩

theorem Im.off_shape {m d : Im} (hm : m.ok) (hd : d.ok) (hf : m.f = d.f) (hw : m.w = d.w) (hh : m.h = d.h) (u v : Int) : m.off u v = d.off u v := by
  unfold Im.off
  by_cases h : d.ins u v
  · rw [if_pos h, if_pos ((Im.ins_shape hm hd hw hh u v).2 h), hw, hf]
  · rw [if_neg h, if_neg (fun k => h ((Im.ins_shape hm hd hw hh u v).1 k))]

theorem Im.txl_len {m : Im} {u v : Int} (h : m.ins u v) : (m.txl u v).length = nsz m.f := by
  obtain ⟨p, hp, hpl, _⟩ := m.off_in h
  unfold Im.txl
  rw [hp, Int.toNat_natCast]
  exact part_len hpl

/-- Image m has the shape of d; its texels are those of s where P holds, those of d elsewhere. -/
structure To (d s m : Im) (dx dy sx sy : Int) (P : Int → Int → Prop) : Prop where
  ok : m.ok
  f : m.f = d.f
  w : m.w = d.w
  h : m.h = d.h
  yes : ∀ u v, d.ins u v → P u v → m.txl u v = s.txl (sx + (u - dx)) (sy + (v - dy))
  no : ∀ u v, d.ins u v → ¬ P u v → m.txl u v = d.txl u v

theorem To.start {d s : Im} {dx dy sx sy : Int} {P : Int → Int → Prop} (hd : d.ok) (hP : ∀ u v, ¬ P u v) : To d s d dx dy sx sy P :=
  ⟨hd, rfl, rfl, rfl, fun u v _ h => absurd h (hP u v), fun _ _ _ _ => rfl⟩

theorem To.same {d s m : Im} {dx dy sx sy : Int} {P Q : Int → Int → Prop} (h : To d s m dx dy sx sy P) (hPQ : ∀ u v, d.ins u v → (P u v ↔ Q u v)) : To d s m dx dy sx sy Q :=
  ⟨h.ok, h.f, h.w, h.h, fun u v hi hq => h.yes u v hi ((hPQ u v hi).2 hq), fun u v hi hq => h.no u v hi (fun k => hq ((hPQ u v hi).1 k))⟩

theorem To.uniq {d s m n : Im} {dx dy sx sy : Int} {P : Int → Int → Prop} (hd : d.ok) (h : To d s m dx dy sx sy P) (k : To d s n dx dy sx sy P) : n = m :=
  Im.ext_txl h.ok k.ok (k.f.trans h.f.symm) (k.w.trans h.w.symm) (k.h.trans h.h.symm) fun u v hi => by
    have hi' := (Im.ins_shape h.ok hd h.w h.h u v).1 hi
    by_cases hp : P u v
    · rw [h.yes u v hi' hp, k.yes u v hi' hp]
    · rw [h.no u v hi' hp, k.no u v hi' hp]

/-- A texel more. -/
theorem To.one {d s m : Im} {dx dy sx sy x y : Int} {P Q : Int → Int → Prop} (hd : d.ok) (h : To d s m dx dy sx sy P) (hf : s.f = d.f) (hi : d.ins (dx + x) (dy + y)) (hs : s.ins (sx + x) (sy + y))
    (hQ : ∀ u v, d.ins u v → (Q u v ↔ P u v ∨ (u = dx + x ∧ v = dy + y))) : To d s (m.put (d.off (dx + x) (dy + y)).toNat (s.txl (sx + x) (sy + y))) dx dy sx sy Q := by
  have hm : m.ins (dx + x) (dy + y) := (Im.ins_shape h.ok hd h.w h.h _ _).2 hi
  have hl : (s.txl (sx + x) (sy + y)).length = nsz m.f := by rw [Im.txl_len hs, hf, h.f]
  rw [← Im.off_shape h.ok hd h.f h.w h.h]
  obtain ⟨p, hp, hpl, _⟩ := m.off_in hm
  have hok : (m.put (m.off (dx + x) (dy + y)).toNat (s.txl (sx + x) (sy + y))).ok := Im.put_ok h.ok (by rw [hp, Int.toNat_natCast, hl]; exact hpl)
  have key : ∀ u v, d.ins u v → (m.put (m.off (dx + x) (dy + y)).toNat (s.txl (sx + x) (sy + y))).txl u v = if u = dx + x ∧ v = dy + y then s.txl (sx + x) (sy + y) else m.txl u v :=
    fun u v hu => Im.txl_put hm hl ((Im.ins_shape h.ok hd h.w h.h u v).2 hu)
  refine ⟨hok, h.f, h.w, h.h, fun u v hu hq => ?_, fun u v hu hq => ?_⟩
  · rw [key u v hu]
    by_cases he : u = dx + x ∧ v = dy + y
    · rw [if_pos he, he.1, he.2]
      congr 1 <;> omega
    · rw [if_neg he]
      rcases (hQ u v hu).1 hq with hp | hp
      · exact h.yes u v hu hp
      · exact absurd hp he
  · rw [key u v hu, if_neg (fun he => hq ((hQ u v hu).2 (.inr he)))]
    exact h.no u v hu (fun hp => hq ((hQ u v hu).2 (.inl hp)))

/-- A row put. -/
def Im.row (d s : Im) (dx dy sx sy wd k : Int) (m : Im) : Im :=
  m.put (((dy + k) * d.w + dx) * nsz d.f).toNat (part s.l (((sy + k) * s.w + sx) * nsz s.f).toNat (wd * nsz s.f).toNat)
def Im.rows (d s : Im) (dx dy sx sy wd : Int) : Nat → Im
  | 0 => d
  | k + 1 => Im.row d s dx dy sx sy wd k (Im.rows d s dx dy sx sy wd k)

/-- A rectangle within both images. -/
structure Fit (d s : Im) (dx dy sx sy wd ht : Int) : Prop where
  dok : d.ok
  sok : s.ok
  ff : s.f = d.f
  wd0 : 0 ≤ wd
  ht0 : 0 ≤ ht
  hx : 0 ≤ dx ∧ dx + wd ≤ d.w
  hy : 0 ≤ dy ∧ dy + ht ≤ d.h
  kx : 0 ≤ sx ∧ sx + wd ≤ s.w
  ky : 0 ≤ sy ∧ sy + ht ≤ s.h

/-- The end of a run of texels in a row. -/
theorem run_in {W H s x y n : Int} (hs : 0 ≤ s) (hx : 0 ≤ x) (hn : 0 ≤ n) (hxn : x + n ≤ W) (hy : 0 ≤ y) (hy2 : y < H) : 0 ≤ (y * W + x) * s ∧ (y * W + x) * s + n * s ≤ W * H * s := by
  have h1 : 0 ≤ y * W := Int.mul_nonneg hy (by omega)
  have h2 : (y + 1) * W ≤ H * W := Int.mul_le_mul_of_nonneg_right (by omega) (by omega)
  rw [Int.add_mul, Int.one_mul] at h2
  have h3 : y * W + x + n ≤ W * H := by rw [Int.mul_comm W H]; omega
  have h4 := Int.mul_le_mul_of_nonneg_right h3 hs
  rw [Int.add_mul (y * W + x) n] at h4
  exact ⟨Int.mul_nonneg (by omega) hs, h4⟩

/-- The numbers of a row. -/
theorem Fit.row {d s m : Im} {dx dy sx sy wd ht : Int} (F : Fit d s dx dy sx sy wd ht) (hm : m.ok) (hf : m.f = d.f) (hw : m.w = d.w) (hh : m.h = d.h) {k : Int} (hk : 0 ≤ k) (hk2 : k < ht) :
    ∃ p q n : Nat, ((dy + k) * d.w + dx) * nsz d.f = p ∧ ((sy + k) * s.w + sx) * nsz s.f = q ∧ wd * nsz s.f = n ∧ p + n ≤ m.l.length ∧ q + n ≤ s.l.length := by
  have a := run_in (W := d.w) (H := d.h) (s := nsz d.f) (x := dx) (y := dy + k) (n := wd) (by omega) F.hx.1 F.wd0 F.hx.2 (by have := F.hy; omega) (by have := F.hy; omega)
  have b := run_in (W := s.w) (H := s.h) (s := nsz s.f) (x := sx) (y := sy + k) (n := wd) (by omega) F.kx.1 F.wd0 F.kx.2 (by have := F.ky; omega) (by have := F.ky; omega)
  have c := Int.mul_nonneg F.wd0 (show (0 : Int) ≤ nsz s.f by omega)
  have e1 := hm.2.2.2
  have e2 := F.sok.2.2.2
  rw [hf, hw, hh] at e1
  rw [← F.ff] at a e1
  refine ⟨(((dy + k) * d.w + dx) * nsz d.f).toNat, (((sy + k) * s.w + sx) * nsz s.f).toNat, (wd * nsz s.f).toNat, ?_, by omega, by omega, ?_, by omega⟩
  · rw [← F.ff]; omega
  · rw [← F.ff]; omega

theorem To.rows {d s : Im} {dx dy sx sy wd ht : Int} (F : Fit d s dx dy sx sy wd ht) (k : Nat) (hk : (k : Int) ≤ ht) :
    To d s (Im.rows d s dx dy sx sy wd k) dx dy sx sy (fun u v => (dx ≤ u ∧ u < dx + wd) ∧ (dy ≤ v ∧ v < dy + k)) := by
  induction k with
  | zero => exact To.start F.dok (fun u v h => by omega)
  | succ k ih =>
    have T := ih (by omega)
    obtain ⟨m, hm⟩ : ∃ m, Im.rows d s dx dy sx sy wd k = m := ⟨_, rfl⟩
    rw [hm] at T
    show To d s (Im.row d s dx dy sx sy wd k (Im.rows d s dx dy sx sy wd k)) dx dy sx sy _
    rw [hm]
    obtain ⟨p, q, n, hp, hq, hn, hpl, hql⟩ := F.row T.ok T.f T.w T.h (k := k) (by omega) (by omega)
    unfold Im.row
    rw [hp, hq, hn]
    simp only [Int.toNat_natCast]
    have hbl : (part s.l q n).length = n := part_len hql
    have hs0 : (0 : Int) ≤ nsz d.f := by omega
    have key : ∀ u v, d.ins u v → (m.put p (part s.l q n)).txl u v = if (dx ≤ u ∧ u < dx + wd) ∧ v = dy + k then s.txl (sx + (u - dx)) (sy + (v - dy)) else m.txl u v := by
      intro u v hu
      have hmu := (Im.ins_shape T.ok F.dok T.w T.h u v).2 hu
      have hok : (m.put p (part s.l q n)).ok := Im.put_ok T.ok (by rw [hbl]; exact hpl)
      have hof : (m.put p (part s.l q n)).off u v = d.off u v := Im.off_shape hok F.dok T.f T.w T.h u v
      obtain ⟨z, hz, hzl, hze⟩ := d.off_in hu
      have hml : m.l.length = d.l.length := by
        have e1 := T.ok.2.2.2
        have e2 := F.dok.2.2.2
        rw [T.f, T.w, T.h] at e1
        omega
      unfold Im.txl
      rw [hof, hz, Im.off_shape T.ok F.dok T.f T.w T.h, hz]
      simp only [Int.toNat_natCast]
      show part (lput m.l p (part s.l q n)) z (nsz m.f) = _
      rw [T.f]
      by_cases he : (dx ≤ u ∧ u < dx + wd) ∧ v = dy + k
      · rw [if_pos he]
        obtain ⟨⟨u1, u2⟩, rfl⟩ := he
        obtain ⟨t, ht⟩ : ∃ t : Nat, u - dx = t := ⟨(u - dx).toNat, by omega⟩
        have hze2 : z = p + t * nsz d.f := by
          have : (z : Int) = p + t * nsz d.f := by
            rw [hze, ← hp, ← ht, ← Int.add_mul]
            congr 1
            omega
          have e : ((t * nsz d.f : Nat) : Int) = (t : Int) * nsz d.f := Int.natCast_mul _ _
          omega
        have hts : t * nsz d.f + nsz d.f ≤ n := by
          have h1 : (t : Int) + 1 ≤ wd := by omega
          have h2 := Int.mul_le_mul_of_nonneg_right h1 hs0
          rw [Int.add_mul, Int.one_mul, ← F.ff, hn] at h2
          have e : ((t * nsz d.f : Nat) : Int) = (t : Int) * nsz d.f := Int.natCast_mul _ _
          rw [F.ff] at h2
          omega
        rw [part_put_in (by rw [hbl]; exact hpl) (by omega) (by rw [hbl]; omega), show z - p = t * nsz d.f by omega, part_part hts]
        have hsi : s.ins (sx + (u - dx)) (sy + (dy + k - dy)) := ⟨F.sok, ⟨by have := F.kx; omega, by have := F.kx; omega⟩, ⟨by have := F.ky; omega, by have := F.ky; omega⟩⟩
        obtain ⟨y, hy, _, hye⟩ := s.off_in hsi
        rw [hy, Int.toNat_natCast, F.ff]
        congr 1
        have : (y : Int) = q + t * nsz d.f := by
          rw [hye, ← hq, ← ht, ← F.ff, ← Int.add_mul]
          congr 1
          rw [show sy + (dy + (k : Int) - dy) = sy + k by omega]
          omega
        have e : ((t * nsz d.f : Nat) : Int) = (t : Int) * nsz d.f := Int.natCast_mul _ _
        omega
      · rw [if_neg he]
        refine part_put_other (by rw [hbl]; exact hpl) ?_
        rw [hbl]
        have hn' : (n : Int) = wd * nsz d.f := by rw [← hn, F.ff]
        -- in the row beside the run, or in another row
        have mul : ∀ a b : Int, a ≤ b → a * nsz d.f ≤ b * nsz d.f := fun a b h => Int.mul_le_mul_of_nonneg_right h hs0
        have goal2 : (z : Int) + nsz d.f ≤ p ∨ (p : Int) + n ≤ z := by
          rw [hze, ← hp, hn', ← Int.add_mul]
          have e1 : ((v * d.w + u) * (nsz d.f : Int)) + nsz d.f = (v * d.w + u + 1) * nsz d.f := by rw [Int.add_mul (v * d.w + u) 1, Int.one_mul]
          rw [e1]
          rcases Int.lt_trichotomy v (dy + k) with h | h | h
          · left
            have h2 : (v + 1) * d.w ≤ (dy + k) * d.w := Int.mul_le_mul_of_nonneg_right (by omega) (by have := F.dok.2.1; omega)
            rw [Int.add_mul, Int.one_mul] at h2
            exact mul _ _ (by have := hu.2.1; have := F.hx; omega)
          · subst h
            rcases (show u < dx ∨ dx + wd ≤ u by omega) with h3 | h3
            · left; exact mul _ _ (by omega)
            · right; exact mul _ _ (by omega)
          · right
            have h2 : (dy + k + 1) * d.w ≤ v * d.w := Int.mul_le_mul_of_nonneg_right (by omega) (by have := F.dok.2.1; omega)
            rw [Int.add_mul (dy + k) 1, Int.one_mul] at h2
            exact mul _ _ (by have := hu.2.1; have := F.hx; omega)
        omega
    refine ⟨Im.put_ok T.ok (by rw [hbl]; exact hpl), T.f, T.w, T.h, fun u v hu hq => ?_, fun u v hu hq => ?_⟩
    · rw [key u v hu]
      by_cases he : (dx ≤ u ∧ u < dx + wd) ∧ v = dy + k
      · rw [if_pos he]
      · rw [if_neg he]
        exact T.yes u v hu ⟨hq.1, by omega⟩
    · rw [key u v hu, if_neg (fun he => hq ⟨he.1, by omega⟩)]
      exact T.no u v hu (fun hp => hq ⟨hp.1, by omega⟩)

end Go.Proofs.Ytcjlgfadjedgbaa

/- A block that holds an image: three integers and a slice. No function of a program is named here. -/
namespace Go.Proofs.Ytcjlgfadjedgbaa
open Go.RowKit Go.Sort

section
variable {P : Program} {ops : Array Oper} {C : World → Prop}

/-- An image lies in block b. -/
def IAt (W : World) (b : Nat) (f w h : Int) (A : Option Addr) (n c : Nat) : Prop :=
  W.cell? ⟨b, 0, none⟩ = some (.int .i64 f) ∧ W.cell? ⟨b, 1, none⟩ = some (.int .i64 w) ∧ W.cell? ⟨b, 2, none⟩ = some (.int .i64 h) ∧ W.cell? ⟨b, 3, none⟩ = some (.slice A n c)
def IBox (W : World) (b : Nat) (f w h : Int) (A : Option Addr) (n c : Nat) : Prop := IAt W b f w h A n c ∧ ∀ i, W.frozen? ⟨b, i, none⟩ = false

variable {W V : World} {b B n c n' c' : Nat} {f w h f' w' h' : Int} {A A' : Option Addr}

theorem IAt.on (k : IAt W b f w h A n c) (B : Below W.heap.size W V) : IAt V b f w h A n c := ⟨cell_below B k.1, cell_below B k.2.1, cell_below B k.2.2.1, cell_below B k.2.2.2⟩
theorem IAt.below (k : IAt W b f w h A n c) (hb : b < B) (q : Below B W V) : IAt V b f w h A n c := ⟨(q.cell hb).trans k.1, (q.cell hb).trans k.2.1, (q.cell hb).trans k.2.2.1, (q.cell hb).trans k.2.2.2⟩
theorem IBox.lt (k : IBox W b f w h A n c) : b < W.heap.size := block_lt_of_cell k.1.1
theorem IBox.below (k : IBox W b f w h A n c) (hb : b < B) (q : Below B W V) : IBox V b f w h A n c := ⟨k.1.below hb q, fun i => (q.frozen (p := ⟨b, i, none⟩) hb).trans (k.2 i)⟩
theorem IBox.on (k : IBox W b f w h A n c) (q : Below W.heap.size W V) : IBox V b f w h A n c := k.below k.lt q
theorem IBox.made (W : World) (f w h : Int) (A : Option Addr) (n c : Nat) (t : TypeId) : IBox (W.alloc (.cells #[.int .i64 f, .int .i64 w, .int .i64 h, .slice A n c] t)) W.heap.size f w h A n c :=
  ⟨⟨by simp, by simp, by simp, by simp⟩, fun i => by rw [frozen?_alloc_cells]; unfold World.frozen?; simp⟩

theorem img_load {t : TypeId} (T : RowType P t 4) (k : IAt W b f w h A n c) : (loadVar t ⟨b, 0, none⟩).run P W = .ok (.agg #[.int .i64 f, .int .i64 w, .int .i64 h, .slice A n c]) W := by
  have hh := run_loadCellsFrom (P := P) W ⟨b, 0, none⟩ (fun i => if i = 0 then .int .i64 f else if i = 1 then .int .i64 w else if i = 2 then .int .i64 h else .slice A n c) 4 0 #[] (fun j hj => by
    have hadd : (⟨b, 0, none⟩ : Addr).add (0 + j) = ⟨b, j, none⟩ := by unfold Addr.add; split <;> simp_all
    rw [hadd, Nat.zero_add]
    match j, hj with
    | 0, _ => exact k.1
    | 1, _ => exact k.2.1
    | 2, _ => exact k.2.2.1
    | 3, _ => exact k.2.2.2)
  have h' : (loadCellsFrom ⟨b, 0, none⟩ 0 4 #[]).run P W = .ok #[.int .i64 f, .int .i64 w, .int .i64 h, .slice A n c] W := hh
  have hi := T.size
  cases hq : P.info? t with
  | none => simp [hq] at hi
  | some i =>
    have hz : i.size = 4 := by simpa [hq] using hi
    simp [loadVar, Sem.run_bind, T.agg W, sizeOf, typeInfo, hq, hz, loadCells, h', Result.andThen]

/-- An image stored into such a block: other blocks stay. -/
theorem wpList_iset {Q : Exit → Act → World → Prop} {rest : List Oper} {o : Oper} {a : Act} (hg : o.guard = none) (t : TypeId) (x y : Operand) (ho : o.op = .store t x y)
    (hx : a.eval x = .pointer (some ⟨b, 0, none⟩)) (hy : a.eval y = .agg #[.int .i64 f', .int .i64 w', .int .i64 h', .slice A' n' c']) (K : IBox W b f w h A n c) (T : (P.info? t).map (·.size) = some 4)
    (H : ∀ V, Below b W V → IBox V b f' w' h' A' n' c' → W.grownBy V (some b) → V.heap.size = W.heap.size → wpList P ops Q rest (a.put o.dst undef) V) : wpList P ops Q (o :: rest) a W := by
  refine wpList_plain hg fun K' hK => ?_
  have hc : ∀ j, j < 4 → (W.cell? ⟨b, j, none⟩).isSome = true := fun j hj => by
    match j, hj with
    | 0, _ => simp [K.1.1]
    | 1, _ => simp [K.1.2.1]
    | 2, _ => simp [K.1.2.2.1]
    | 3, _ => simp [K.1.2.2.2]
  have hs := run_storeCells_cells (P := P) b 0 [.int .i64 f', .int .i64 w', .int .i64 h', .slice A' n' c'] 0 W (fun j hj => by simpa using hc j (by simpa using hj)) (fun j _ => by simpa using K.2 j) (by simp [Value.oneCell'])
  have hB : ∀ (vs : List Value) (o : Nat) (V : World), Below b W V → Below b W (V.setCells b o vs) := by
    intro vs
    induction vs with
    | nil => intro o V h; exact h
    | cons v r ih => intro o V h; exact ih (o + 1) _ (h.setCell (Nat.le_refl _) v)
  have hz : ∀ (vs : List Value) (o : Nat) (V : World), (V.setCells b o vs).heap.size = V.heap.size := by
    intro vs
    induction vs with
    | nil => intro o V; rfl
    | cons v r ih => intro o V; exact (ih (o + 1) _).trans (by simp)
  have hv : (storeVar t ⟨b, 0, none⟩ (.agg #[.int .i64 f', .int .i64 w', .int .i64 h', .slice A' n' c'])).run P W = .ok () (W.setCells b (0 + 0) [.int .i64 f', .int .i64 w', .int .i64 h', .slice A' n' c']) := by
    cases hq : P.info? t with
    | none => simp [hq] at T
    | some i =>
      have hz : i.size = 4 := by simpa [hq] using T
      simpa [storeVar, sizeOf, typeInfo, hq, Value.cells, hz] using hs
  have hi := World.cell?_setCells_in b [.int .i64 f', .int .i64 w', .int .i64 h', .slice A' n' c'] 0 W (fun j hj => by simpa using hc j (by simpa using hj))
  unfold Oper.wp execOp
  simp only [ho, hx, hy, Instr.storeAt, Instr.sureAddr, Sem.run_bind, Sem.run_pure, Result.andThen_ok, hv]
  exact hK _ _ (H _ (hB _ _ _ (Below.refl _ _)) ⟨⟨hi 0 (by simp), hi 1 (by simp), hi 2 (by simp), hi 3 (by simp)⟩, fun i => (World.frozen?_setCells b _ _ _ _).trans (K.2 i)⟩ ⟨(hB _ _ _ (Below.refl _ _)).os, (hB _ _ _ (Below.refl _ _)).tape, (hB _ _ _ (Below.refl _ _)).output, (hB _ _ _ (Below.refl _ _)).size, fun k hk hne => World.heap_setCells_other W b _ _ hk (fun e => hne (by rw [e]))⟩ (hz _ _ _))

/-- A whole image loaded, in a region that draws its order. -/
theorem quiet_iload {K : Act → Prop} {o : Oper} {a : Act} (t : TypeId) (x : Operand) (ho : o.op = .load t x) (T : RowType P t 4)
    (k : ∀ W, C W → IAt W b f w h A n c) (hx : a.eval x = .pointer (some ⟨b, 0, none⟩)) (hk : K (a.put o.dst (.agg #[.int .i64 f, .int .i64 w, .int .i64 h, .slice A n c]))) : o.quiet P a C K :=
  ⟨_, fun W hW => by
    unfold Oper.quietAt execOp
    simp only [ho, hx, Instr.loadAt, Instr.sureAddr, Sem.run_bind, Sem.run_pure, Result.andThen_ok, img_load T (k W hW)]
    exact ⟨rfl, rfl⟩, hk⟩

/-- .. in a list of operations. -/
theorem wpList_iload {Q : Exit → Act → World → Prop} {rest : List Oper} {o : Oper} {a : Act} (hg : o.guard = none) (t : TypeId) (x : Operand) (ho : o.op = .load t x) (T : RowType P t 4) (k : IAt W b f w h A n c)
    (hx : a.eval x = .pointer (some ⟨b, 0, none⟩)) (H : wpList P ops Q rest (a.put o.dst (.agg #[.int .i64 f, .int .i64 w, .int .i64 h, .slice A n c])) W) : wpList P ops Q (o :: rest) a W :=
  wpList_plain hg fun _ hK => by
    unfold Oper.wp execOp
    simp only [ho, hx, Instr.loadAt, Instr.sureAddr, Sem.run_bind, Sem.run_pure, Result.andThen_ok, img_load T k]
    exact hK _ _ H

/-- The slice of an image in its block replaced. -/
theorem IBox.setData (k : IBox W b f w h A n c) (A' : Option Addr) (n' c' : Nat) : IBox (W.setCell ⟨b, 3, none⟩ (.slice A' n' c')) b f w h A' n' c' := by
  obtain ⟨⟨k0, k1, k2, k3⟩, kf⟩ := k
  refine ⟨⟨?_, ?_, ?_, ?_⟩, fun i => ?_⟩
  · simp [go_sem, k0]
  · simp [go_sem, k1]
  · simp [go_sem, k2]
  · simp [go_sem, k3]
  · simp [go_sem, kf i]

/-- Another block's cell written. -/
theorem IBox.setOther (k : IBox W b f w h A n c) {b' j : Nat} (hne : b' ≠ b) (v : Value) : IBox (W.setCell ⟨b', j, none⟩ v) b f w h A n c :=
  ⟨⟨(World.cell?_setCell_far W ⟨b', j, none⟩ ⟨b, 0, none⟩ v hne).trans k.1.1, (World.cell?_setCell_far W ⟨b', j, none⟩ ⟨b, 1, none⟩ v hne).trans k.1.2.1, (World.cell?_setCell_far W ⟨b', j, none⟩ ⟨b, 2, none⟩ v hne).trans k.1.2.2.1,
    (World.cell?_setCell_far W ⟨b', j, none⟩ ⟨b, 3, none⟩ v hne).trans k.1.2.2.2⟩, fun i => by rw [World.frozen?_setCell]; exact k.2 i⟩

/-- One block alone has changed, an older one than those of the row. -/
theorem Own.past {base : Nat} {e : TypeId} {k : IntKind} {l : List Int} (h : Own W base e k A n c l) (hg : W.grownBy V (some b)) (hb : b < base) : Own V base e k A n c l :=
  ⟨h.1.kept hg (.inr (fun e => by have := (h.1.lt _ e).1; omega)), h.2.1, Nat.le_trans h.2.2 hg.size⟩
theorem Own.past1 {base : Nat} {e : TypeId} {k : IntKind} {l : List Int} (h : Own W base e k A n c l) (hb : b < base) (j : Nat) (v : Value) : Own (W.setCell ⟨b, j, none⟩ v) base e k A n c l :=
  h.past ⟨rfl, rfl, rfl, by simp, fun k _ hne => Below.heap_setCell _ _ _ _ (fun e => hne (by rw [e]))⟩ hb
theorem Own.weak {base base' : Nat} {e : TypeId} {k : IntKind} {l : List Int} (h : Own W base e k A n c l) (hb : base' ≤ base) : Own W base' e k A n c l := by
  obtain ⟨⟨h1, h2⟩, h3, h4⟩ := h
  refine ⟨⟨h1, ?_⟩, h3, by omega⟩
  rcases h2 with h2 | ⟨g, cap, cur, e, h5, h6⟩
  · exact .inl h2
  · exact .inr ⟨g, cap, cur, e, by omega, h6⟩
/-- The row lies below the heap's end. -/
theorem Own.lt {base : Nat} {e : TypeId} {k : IntKind} {l : List Int} {g : Nat} (h : Own W base e k (some ⟨g, 0, none⟩) n c l) : g < W.heap.size := (h.1.lt g rfl).2

/-- A call that returns an image whose bytes are its own. -/
def GivesIO (W : World) (e : TypeId) (m : Im) (x : Ending) (w' : World) : Prop :=
  ∃ A n c, x = .returned (.agg #[.int .i64 m.f, .int .i64 m.w, .int .i64 m.h, .slice A n c]) ∧ Own w' W.heap.size e .u8 A n c m.l ∧ Below W.heap.size W w'
/-- .. and an error number. -/
def GivesIOE (W : World) (e : TypeId) (m : Im) (er : Int) (x : Ending) (w' : World) : Prop :=
  ∃ A n c, x = .returned (.tuple #[.agg #[.int .i64 m.f, .int .i64 m.w, .int .i64 m.h, .slice A n c], .int .i64 er]) ∧ Own w' W.heap.size e .u8 A n c m.l ∧ Below W.heap.size W w'

/-- A call that returns an image. -/
def GivesI (W : World) (m : Im) (x : Ending) (w' : World) : Prop :=
  ∃ A n c, x = .returned (.agg #[.int .i64 m.f, .int .i64 m.w, .int .i64 m.h, .slice A n c]) ∧ n ≤ c ∧ Rd w' w'.heap.size .u8 A n m.l ∧ Below W.heap.size W w'
theorem GivesIO.i {W : World} {e : TypeId} {m : Im} {x : Ending} {w' : World} (h : GivesIO W e m x w') : GivesI W m x w' := by
  obtain ⟨A, n, c, h1, h2, h3⟩ := h
  exact ⟨A, n, c, h1, h2.room, h2.rd, h3⟩
/-- .. and an error number. -/
def GivesIE (W : World) (m : Im) (e : Int) (x : Ending) (w' : World) : Prop :=
  ∃ A n c, x = .returned (.tuple #[.agg #[.int .i64 m.f, .int .i64 m.w, .int .i64 m.h, .slice A n c], .int .i64 e]) ∧ n ≤ c ∧ Rd w' w'.heap.size .u8 A n m.l ∧ Below W.heap.size W w'
end
end Go.Proofs.Ytcjlgfadjedgbaa

/- 'copy' into a slice of the call's own, at any place of it. No function of a program is named here. -/
namespace Go.Proofs.Ytcjlgfadjedgbaa
open Go.RowKit Go.Sort

theorem lput_cons {l r : List Int} {p : Nat} {x : Int} (h : p + (r.length + 1) ≤ l.length) : lput (l.set p x) (p + 1) r = lput l p (x :: r) := by
  apply List.ext_getElem?
  intro k
  rw [lput_get (by rw [List.length_set]; omega), lput_get (by rw [List.length_cons]; omega), List.length_cons, List.getElem?_set]
  by_cases h1 : p + 1 ≤ k ∧ k < p + 1 + r.length
  · rw [if_pos h1, if_pos (by omega), show k - p = k - (p + 1) + 1 by omega, List.getElem?_cons_succ]
  · rw [if_neg h1]
    by_cases h2 : p = k
    · subst h2
      rw [if_pos rfl, if_pos (by omega), if_pos (by omega), Nat.sub_self]
      rfl
    · rw [if_neg h2, if_neg (by omega)]

section
variable {P : Program} {ops : Array Oper} {rest : List Oper} {o : Oper} {a : Act} {Q : Exit → Act → World → Prop}

/-- Numbers stored one behind the other. -/
theorem Own.put {base n c b : Nat} {e : TypeId} {k : IntKind} : ∀ (xs : List Int) {w : World} {l : List Int} {p : Nat}, Own w base e k (some ⟨b, 0, none⟩) n c l → p + xs.length ≤ n → (∀ x ∈ xs, k.min ≤ x ∧ x ≤ k.max) →
    Own (w.setCells b p (xs.map (Value.int k))) base e k (some ⟨b, 0, none⟩) n c (lput l p xs) ∧ Below base w (w.setCells b p (xs.map (Value.int k)))
  | [], w, l, p, h, _, _ => by
    rw [lput_nil]
    exact ⟨h, Below.refl _ _⟩
  | x :: r, w, l, p, h, hp, hx => by
    rw [List.length_cons] at hp
    obtain ⟨b', hb', _, _, _, h1, B1⟩ := h.stored (j := p) (v := x) (by omega) (hx x (by simp))
    obtain rfl : b' = b := by injection hb' with hb'; injection hb' with hb'; exact hb'.symm
    have h2 := Own.put r h1 (show p + 1 + r.length ≤ n by omega) (fun y hy => hx y (by simp [hy]))
    rw [lput_cons (by rw [h.len]; omega)] at h2
    exact ⟨h2.1, B1.trans h2.2⟩

/-- 'copy(s[p:], x)'. -/
theorem wpList_copyO (W : World) (hgd : o.guard = none) (s x : Operand) (t : TypeId) (ho : o.op = .call { callee := .builtin .copy, args := #[s, x], argTypes := #[t, t] })
    {e : TypeId} {k : IntKind} {bytes : Nat} (E : Elem P t e k bytes) {base n c b p dn dc : Nat} {l : List Int} (own : Own W base e k (some ⟨b, 0, none⟩) n c l) (hs : a.eval s = .slice (some ⟨b, p, none⟩) dn dc) (hdn : dn + p = n)
    {B m mc : Nat} {A2 : Option Addr} {l2 : List Int} (R : Rd W B k A2 m l2) (hx : a.eval x = .slice A2 m mc) (hm : p + m ≤ n)
    (h : ∀ V, Own V base e k (some ⟨b, 0, none⟩) n c (lput l p l2) → Below base W V → W.grownBy V (some b) → wpList P ops Q rest (a.put o.dst (goInt m)) V) : wpList P ops Q (o :: rest) a W := by
  obtain ⟨hu, i, hi, _, hsz, _⟩ := E
  have hsz' : (P.info? e).map (·.size) = some 1 := by rw [hi]; exact congrArg some hsz
  refine wpList_plain hgd fun K hK => ?_
  by_cases h0 : m = 0
  · subst h0
    have hl : l2 = [] := List.eq_nil_of_length_eq_zero R.len
    subst hl
    have hrun := run_copy_none (P := P) W t t o.type e (some ⟨b, p, none⟩) A2 dn dc 0 mc hu hsz' (by simp)
    have := h W (by rw [lput_nil]; exact own) (Below.refl _ _) ⟨rfl, rfl, rfl, Nat.le_refl _, fun _ _ _ => rfl⟩
    unfold Oper.wp execOp
    simp only [ho, resolve, invoke, builtin, Sem.run_bind, Sem.run_pure, Result.andThen_ok, List.map_toArray, List.map_cons, List.map_nil, hs, hx]
    rw [hrun]
    exact hK _ _ this
  · obtain ⟨b2, off, y, rfl, _, _, _, _, _⟩ := R.at_ (j := 0) (by omega)
    have hcell : ∀ j, j < m → (W.cell? ⟨b, p + j, none⟩).isSome = true ∧ W.frozen? ⟨b, p + j, none⟩ = false := by
      intro j hj
      obtain ⟨b', hb', _, ⟨u, hu'⟩, hf, _, _⟩ := own.stored (j := p + j) (v := 0) (by omega) (by cases k <;> decide)
      obtain rfl : b' = b := by injection hb' with hb'; injection hb' with hb'; exact hb'.symm
      exact ⟨by rw [hu']; rfl, hf⟩
    have hlen : (l2.map (Value.int k)).length = m := by rw [List.length_map, R.len]
    have hrun := run_copy_cells (P := P) W t t o.type e b p dn dc ⟨b2, off, none⟩ m mc (l2.map (Value.int k)) hu hsz' (by rw [hlen]; exact (Nat.min_eq_left (by omega)).symm)
      (fun j v hj => by
        rw [List.getElem?_map] at hj
        cases hq : l2[j]? with
        | none => rw [hq] at hj; cases hj
        | some z =>
          rw [hq] at hj
          injection hj with hj
          subst hj
          have hjm : j < m := by
            rw [← R.len]
            exact (List.getElem?_eq_some_iff.1 hq).1
          obtain ⟨b3, off3, z3, he, _, hc, _, _, hz⟩ := R.at_ hjm
          injection he with he
          injection he with he1 he2
          subst he1 he2
          have : z3 = z := by have := hz.out; rw [hq] at this; injection this with this; exact this.symm
          subst this
          rw [add_plain']
          exact hc)
      (fun j hj => (hcell j (by rw [hlen] at hj; exact hj)).1) (fun j hj => (hcell j (by rw [hlen] at hj; exact hj)).2) (oneCell_ints k l2)
    have hp := Own.put l2 own (by rw [R.len]; exact hm) R.rng
    rw [hlen] at hrun
    unfold Oper.wp execOp
    simp only [ho, resolve, invoke, builtin, Sem.run_bind, Sem.run_pure, Result.andThen_ok, List.map_toArray, List.map_cons, List.map_nil, hs, hx]
    rw [hrun]
    exact hK _ _ (h _ hp.1 hp.2 ⟨hp.2.os, hp.2.tape, hp.2.output, hp.2.size, fun k hk hne => World.heap_setCells_other W b _ _ hk (fun e => hne (by rw [e]))⟩)

/-- One block alone has changed, another one. -/
theorem IBox.past {W V : World} {b b' n c : Nat} {f w h : Int} {A : Option Addr} (k : IBox W b f w h A n c) (hg : W.grownBy V (some b')) (hne : b ≠ b') : IBox V b f w h A n c := by
  have hb : V.heap[b]? = W.heap[b]? := hg.block b k.lt (fun e => hne (by injection e))
  have hc : ∀ i, V.cell? ⟨b, i, none⟩ = W.cell? ⟨b, i, none⟩ := fun i => World.cell?_of_block (a := ⟨b, i, none⟩) hb
  exact ⟨⟨(hc 0).trans k.1.1, (hc 1).trans k.1.2.1, (hc 2).trans k.1.2.2.1, (hc 3).trans k.1.2.2.2⟩, fun i => (World.frozen?_of_block (a := ⟨b, i, none⟩) hb).trans (k.2 i)⟩

end
end Go.Proofs.Ytcjlgfadjedgbaa

/- A buffer of bytes that is filled from its beginning by copies, of itself too; a list repeated. No function of a program is named here. -/
namespace Go.Proofs.Ytcjlgfadjedgbaa
open Go.RowKit Go.Sort

/-- The bytes l, k times. -/
def rpL (l : List Int) : Nat → List Int
  | 0 => []
  | k + 1 => rpL l k ++ l

theorem rpL_len (l : List Int) (k : Nat) : (rpL l k).length = k * l.length := by
  induction k with
  | zero => simp [rpL]
  | succ k ih => rw [rpL, List.length_append, ih, Nat.add_mul, Nat.one_mul]

theorem rpL_rng {l : List Int} (h : ∀ x ∈ l, (0 : Int) ≤ x ∧ x ≤ 255) (k : Nat) : ∀ x ∈ rpL l k, (0 : Int) ≤ x ∧ x ≤ 255 := by
  induction k with
  | zero => intro x hx; cases hx
  | succ k ih =>
    intro x hx
    rw [rpL, List.mem_append] at hx
    rcases hx with hx | hx
    · exact ih x hx
    · exact h x hx

theorem rpL_add (l : List Int) (i j : Nat) : rpL l (i + j) = rpL l i ++ rpL l j := by
  induction j with
  | zero => simp [rpL]
  | succ j ih => rw [← Nat.add_assoc, rpL, ih, rpL, List.append_assoc]

theorem rpL_take (l : List Int) (k : Nat) {i : Nat} (h : i ≤ k) : (rpL l k).take (i * l.length) = rpL l i := by
  obtain ⟨j, rfl⟩ : ∃ j, k = i + j := ⟨k - i, by omega⟩
  rw [rpL_add, List.take_append_of_le_length (by rw [rpL_len]; exact Nat.le_refl _), List.take_of_length_le (by rw [rpL_len]; exact Nat.le_refl _)]

/-- i copies of l, and j copies more of them, of which no more is taken than there is room for. -/
theorem rpL_more (l : List Int) {k i j : Nat} (hj : j ≤ i) (_hk : i < k) : rpL l i ++ ((rpL l i).take (j * l.length)).take (k * l.length - i * l.length) = rpL l (i + min j (k - i)) := by
  rw [rpL_take l i hj, ← Nat.sub_mul, rpL_add]
  rcases Nat.le_total j (k - i) with h | h
  · rw [Nat.min_eq_left h, List.take_of_length_le (by rw [rpL_len]; exact Nat.mul_le_mul_right _ h)]
  · rw [Nat.min_eq_right h, rpL_take l j h]

/-- The first bytes of the N in block h are those of L; none of them is frozen. -/
structure BufI (W : World) (h N : Nat) (L : List Int) : Prop where
  fits : L.length ≤ N
  rng : ∀ x ∈ L, (0 : Int) ≤ x ∧ x ≤ 255
  there : ∀ j, j < N → (W.cell? ⟨h, j, none⟩).isSome = true
  free : ∀ j, j < N → W.frozen? ⟨h, j, none⟩ = false
  holds : ∀ (j : Nat) x, L[j]? = some x → W.cell? ⟨h, j, none⟩ = some (.int .u8 x)

theorem BufI.made (W : World) (cs : Array Value) (e : TypeId) (N d : Nat) (hc : N ≤ cs.size) : BufI ((W.alloc (.cells cs e)).drewN d) W.heap.size N [] :=
  ⟨by simp, by simp, fun j hj => by
    have : ((W.alloc (.cells cs e)).drewN d).cell? ⟨W.heap.size, j, none⟩ = (W.alloc (.cells cs e)).cell? ⟨W.heap.size, j, none⟩ := rfl
    rw [this]
    have hj' : j < cs.size := by omega
    simp [hj'], fun j _ => by
    have : ((W.alloc (.cells cs e)).drewN d).frozen? ⟨W.heap.size, j, none⟩ = (W.alloc (.cells cs e)).frozen? ⟨W.heap.size, j, none⟩ := rfl
    rw [this, frozen?_alloc_cells]; unfold World.frozen?; simp, by simp⟩

theorem BufI.on {W V : World} {h N : Nat} {L : List Int} (k : BufI W h N L) (hh : h < W.heap.size) (B : Below W.heap.size W V) : BufI V h N L :=
  ⟨k.fits, k.rng, fun j hj => by rw [B.cell (p := ⟨h, j, none⟩) hh]; exact k.there j hj, fun j hj => (B.frozen (p := ⟨h, j, none⟩) hh).trans (k.free j hj), fun j x hx => (B.cell (p := ⟨h, j, none⟩) hh).trans (k.holds j x hx)⟩

/-- The first m of the buffer's bytes, as a slice. -/
theorem BufI.rd {W : World} {h N m : Nat} {L : List Int} (k : BufI W h N L) (hm : m ≤ L.length) {B : Nat} (hB : h < B) : Rd W B .u8 (some ⟨h, 0, none⟩) m (L.take m) :=
  ⟨by rw [List.length_take]; omega, fun x hx => by have := k.rng x (List.mem_of_mem_take hx); rw [u8_min, u8_max]; exact this, fun _ => ⟨h, 0, rfl, hB, fun j x hx => by
    rw [Nat.zero_add]
    rw [List.getElem?_take] at hx
    split at hx
    · exact k.holds j x hx
    · cases hx⟩⟩

/-- A call that returns a slice in a block of its own. -/
def GivesNew (W : World) (k : IntKind) (l : List Int) (x : Ending) (w' : World) : Prop :=
  ∃ b n c, x = .returned (.slice (some ⟨b, 0, none⟩) n c) ∧ n ≤ c ∧ W.heap.size ≤ b ∧ Rd w' w'.heap.size k (some ⟨b, 0, none⟩) n l ∧ Below W.heap.size W w'

/-- One block alone has changed, another one than the slice's. -/
theorem Rd.past {W V : World} {B b b' off n : Nat} {k : IntKind} {l : List Int} (R : Rd W B k (some ⟨b, off, none⟩) n l) (hB : B ≤ W.heap.size) (hg : W.grownBy V (some b')) (hne : b ≠ b') : Rd V B k (some ⟨b, off, none⟩) n l :=
  ⟨R.1, R.2.1, fun hn => by
    obtain ⟨b2, off2, he, hb, hc⟩ := R.2.2 hn
    injection he with he'
    injection he' with he1 he2
    subst he1 he2
    exact ⟨b, off, rfl, hb, fun j x hx => (World.cell?_of_block (a := ⟨b, off + j, none⟩) (hg.block b (by omega) (fun e => hne (by injection e)))).trans (hc j x hx)⟩⟩

theorem grownBy_setCell (W : World) (b j : Nat) (v : Value) : W.grownBy (W.setCell ⟨b, j, none⟩ v) (some b) :=
  ⟨rfl, rfl, rfl, by simp, fun k _ hne => Below.heap_setCell _ _ _ _ (fun e => hne (by rw [e]))⟩

section
variable {P : Program} {ops : Array Oper} {rest : List Oper} {o : Oper} {a : Act} {Q : Exit → Act → World → Prop}

/-- 'copy(b[p:], x)' into the buffer, at its first free place: as much as there is room for. -/
theorem wpList_copyB (W : World) (hgd : o.guard = none) (s x : Operand) (t : TypeId) (ho : o.op = .call { callee := .builtin .copy, args := #[s, x], argTypes := #[t, t] })
    {e : TypeId} {bytes : Nat} (E : Elem P t e .u8 bytes) {h N p dn dc : Nat} {L : List Int} (K : BufI W h N L) (hp : L.length = p) (hs : a.eval s = .slice (some ⟨h, p, none⟩) dn dc) (hdn : dn = N - p)
    {B m mc : Nat} {A2 : Option Addr} {l2 : List Int} (R : Rd W B .u8 A2 m l2) (hx : a.eval x = .slice A2 m mc) (hm : 1 ≤ m)
    (H : ∀ V, BufI V h N (L ++ l2.take (N - p)) → Below h W V → wpList P ops Q rest (a.put o.dst (.int .i64 ((min m (N - p) : Nat) : Int))) V) : wpList P ops Q (o :: rest) a W := by
  obtain ⟨hu, i, hi, _, hsz, _⟩ := E
  have hsz' : (P.info? e).map (·.size) = some 1 := by rw [hi]; exact congrArg some hsz
  obtain ⟨b2, off, y, rfl, _, _, _, _, _⟩ := R.at_ (j := 0) (by omega)
  refine wpList_plain hgd fun K' hK => ?_
  have hlen : ((l2.take (N - p)).map (Value.int .u8)).length = min m (N - p) := by rw [List.length_map, List.length_take, R.len, Nat.min_comm]
  have hfit := K.fits
  have hrun := run_copy_cells (P := P) W t t o.type e h p dn dc ⟨b2, off, none⟩ m mc ((l2.take (N - p)).map (Value.int .u8)) hu hsz' (by rw [hlen, hdn])
    (fun j v hj => by
      rw [List.getElem?_map] at hj
      cases hq : (l2.take (N - p))[j]? with
      | none => rw [hq] at hj; cases hj
      | some z =>
        rw [hq] at hj
        injection hj with hj
        subst hj
        rw [List.getElem?_take] at hq
        split at hq
        · have hjm : j < m := by
            rw [← R.len]
            exact (List.getElem?_eq_some_iff.1 hq).1
          obtain ⟨b3, off3, z3, he, _, hc, _, _, hz⟩ := R.at_ hjm
          injection he with he
          injection he with he1 he2
          subst he1 he2
          have : z3 = z := by have := hz.out; rw [hq] at this; injection this with this; exact this.symm
          subst this
          rw [add_plain']
          exact hc
        · cases hq)
    (fun j hj => K.there _ (by rw [hlen] at hj; omega)) (fun j hj => K.free _ (by rw [hlen] at hj; omega)) (oneCell_ints .u8 _)
  rw [hlen] at hrun
  have hin := World.cell?_setCells_in h ((l2.take (N - p)).map (Value.int .u8)) p W (fun j hj => K.there _ (by rw [hlen] at hj; omega))
  have hB : ∀ (vs : List Value) (o : Nat) (V : World), Below h W V → Below h W (V.setCells h o vs) := by
    intro vs
    induction vs with
    | nil => intro o V h; exact h
    | cons v r ih => intro o V h; exact ih (o + 1) _ (h.setCell (Nat.le_refl _) v)
  have hout := fun (q : Nat) (hq : q < p ∨ p + min m (N - p) ≤ q) => World.cell?_setCells_out h ((l2.take (N - p)).map (Value.int .u8)) p W ⟨h, q, none⟩ (fun _ _ => by rw [hlen]; exact hq)
  have key : BufI (W.setCells h p ((l2.take (N - p)).map (Value.int .u8))) h N (L ++ l2.take (N - p)) := by
    refine ⟨by rw [List.length_append, List.length_take]; omega, fun x hx => ?_, fun j hj => ?_, fun j hj => (World.frozen?_setCells h _ _ _ _).trans (K.free j hj), fun j x hx => ?_⟩
    · rw [List.mem_append] at hx
      rcases hx with hx | hx
      · exact K.rng x hx
      · have := R.rng x (List.mem_of_mem_take hx)
        rw [u8_min, u8_max] at this
        exact this
    · by_cases hq : j < p ∨ p + min m (N - p) ≤ j
      · rw [hout j hq]; exact K.there j hj
      · have := hin (j - p) (by rw [hlen]; omega)
        rw [show p + (j - p) = j by omega] at this
        rw [this]; rfl
    · rw [List.getElem?_append] at hx
      split at hx
      · rename_i hlt
        rw [hout j (by omega)]
        exact K.holds j x hx
      · rename_i hge
        rw [hp] at hx hge
        have hj2 : j - p < (l2.take (N - p)).length := (List.getElem?_eq_some_iff.1 hx).1
        have hj3 : j - p < ((l2.take (N - p)).map (Value.int .u8)).length := by rw [List.length_map]; exact hj2
        have := hin (j - p) hj3
        rw [show p + (j - p) = j by omega] at this
        rw [this]
        simp only [List.getElem_map]
        rw [List.getElem?_eq_getElem hj2] at hx
        injection hx with hx
        rw [hx]
  unfold Oper.wp execOp
  simp only [ho, resolve, invoke, builtin, Sem.run_bind, Sem.run_pure, Result.andThen_ok, List.map_toArray, List.map_cons, List.map_nil, hs, hx]
  rw [hrun]
  exact hK _ _ (H _ key (hB _ _ _ (Below.refl _ _)))

end
end Go.Proofs.Ytcjlgfadjedgbaa
