/- What the small functions of the reference of texel formats return; the statement's own comparison of bytes. -/
import Derived.Test.YtoipmldbjciinaaTMath
import Derived.Test.YtoipmldbjciinaaVec
import Derived.Test.YtoipmldbjciinaaMRef
import Derived.Test.YtoipmldbjciinaaTail
import Derived.Test.YtoipmldbjciinaaTreeC
import Derived.WalkSpells
namespace Go.Proofs.Ytoipmldbjciinaa
open Go.RowKit Go.Sort

/-- Is there such a format? -/
def isf (f : Int) : Bool := decide (nsz f ≠ 0)

/-- The numbers that UNorm and FromUNorm meet. -/
theorem unorm_steps {x b : Int} (h : 1 ≤ b ∧ b ≤ 16) : ∃ c p z : Int, clampv x 0 65536 = c ∧ pw b = p ∧ IntKind.i64.wrap (2 ^ b.toNat) = p ∧ 2 ≤ p ∧ p ≤ 65536 ∧ IntKind.i64.wrap (c * (p - 1)) = z ∧ rda z 65536 = unv x b := by
  have hp := pw_16b h
  have hc := clampv_in (x := x) (show (0 : Int) ≤ 65536 by omega)
  have hm := mul_bds hc.1 hc.2 (show 0 ≤ pw b - 1 by omega) (Int.le_refl _)
  refine ⟨_, _, _, rfl, rfl, pw_i64 b (by omega), hp.1, hp.2, IntWalk.i64_in _ (by omega), ?_⟩
  rw [rda_in _ _ (by omega) (by omega) (by omega) (by omega), unv_in h]
theorem fromu_steps {n b : Int} (h : 1 ≤ b ∧ b ≤ 16) : ∃ c p : Int, clampv n 0 (p - 1) = c ∧ IntKind.i64.wrap (2 ^ b.toNat) = p ∧ 2 ≤ p ∧ p ≤ 65536 ∧ 0 ≤ c ∧ c ≤ 65536 ∧ rda (c * 65536) (p - 1) = fromv n b := by
  have hp := pw_16b h
  have hc := clampv_in (x := n) (show (0 : Int) ≤ pw b - 1 by omega)
  refine ⟨_, pw b, rfl, pw_i64 b (by omega), hp.1, hp.2, hc.1, by omega, ?_⟩
  rw [rda_in _ _ (by omega) (by omega) (by omega) (by omega), fromv_in h]

theorem litv_take {l : List Int} {k : Nat} {x : Int} (hx : Hid (l[k]? = some x)) : litv (l.take (k + 1)) = litv (l.take k) + x * 256 ^ k := by
  have h := lit_on (l := l) (p := 0) (k := k) (n := l.length) rfl (by
    rcases Nat.lt_or_ge k l.length with h | h
    · omega
    · rw [List.getElem?_eq_none h] at hx; cases hx.out) (x := x) (by rw [Nat.zero_add]; exact hx)
  simpa [part] using h

/-- The widths of a format's fields. -/
def wds (f : Int) : List Int := if f = 1 then [8] else if f = 2 then [8, 8, 8, 8] else if f = 3 then [5, 6, 5] else if f = 4 then [10, 10, 10, 2] else []
theorem rd_block {w : World} {b B n : Nat} {l : List Int} (hl : l.length = n) (hb : b < B) (hr : ∀ x ∈ l, IntKind.i64.min ≤ x ∧ x ≤ IntKind.i64.max) (h : ∀ (j : Nat) x, l[j]? = some x → w.cell? ⟨b, j, none⟩ = some (.int .i64 x)) : Rd w B .i64 (some ⟨b, 0, none⟩) n l :=
  ⟨hl, hr, fun _ => ⟨b, 0, rfl, hb, fun j x hx => by rw [Nat.zero_add]; exact h j x hx⟩⟩

end Go.Proofs.Ytoipmldbjciinaa

/- What the reference's Encode of texel formats returns. -/
namespace Go.Proofs.Ytoipmldbjciinaa
open Go.RowKit Go.Sort

theorem vecT : RowType Try.prog 25 4 := ⟨fun W => by unfold isAgg; rw [Sem.run_bind, run_underlying Try.underlying25 W]; simp, by kernel_rfl⟩

/-- Halves one behind the other. -/
def hlf (x : Nat → Int) : Nat → List Int
  | 0 => []
  | k + 1 => hlf x k ++ lb 2 (hv (x k))
theorem hlf_len (x : Nat → Int) : ∀ k, (hlf x k).length = 2 * k
  | 0 => rfl
  | k + 1 => by rw [hlf, List.length_append, hlf_len x k, lb_len]; omega

/-- The components of a vector by their numbers. -/
def cmp4 (x0 x1 x2 x3 : Int) (k : Nat) : Int := compv x0 x1 x2 x3 (k : Int)
theorem enc_half {f x0 x1 x2 x3 : Int} (hf : f = 5 ∨ f = 6) : enc f x0 x1 x2 x3 = hlf (cmp4 x0 x1 x2 x3) (ncm f) := by
  rcases hf with rfl | rfl
  · show lb 2 (hv x0) = hlf (cmp4 x0 x1 x2 x3) 1
    simp [hlf, cmp4, compv]
  · show lb 2 (hv x0) ++ (lb 2 (hv x1) ++ (lb 2 (hv x2) ++ lb 2 (hv x3))) = hlf (cmp4 x0 x1 x2 x3) 4
    simp [hlf, cmp4, compv]

theorem compv4 (x0 x1 x2 x3 : Int) : compv x0 x1 x2 x3 0 = x0 ∧ compv x0 x1 x2 x3 1 = x1 ∧ compv x0 x1 x2 x3 2 = x2 ∧ compv x0 x1 x2 x3 3 = x3 := by simp [compv]

end Go.Proofs.Ytoipmldbjciinaa

/- What the reference's Encode of texel formats returns: the formats with integers; all formats. -/
namespace Go.Proofs.Ytoipmldbjciinaa
open Go.RowKit Go.Sort

/-- Where field k begins; the number of the first k fields. -/
def ats (l : List Int) (k : Nat) : Int := (l.take k).sum
def pks (y : Nat → Int) (l : List Int) : Nat → Int
  | 0 => 0
  | k + 1 => pks y l k + unv (y k) (l.getD k 0) * pw (ats l k)

theorem ats_succ {l : List Int} {k : Nat} {x : Int} (h : l[k]? = some x) : ats l (k + 1) = ats l k + x := by
  obtain ⟨hk, rfl⟩ := List.getElem?_eq_some_iff.1 h
  unfold ats
  rw [List.take_succ_eq_append_getElem hk, List.sum_append]
  simp
theorem ats_nonneg {l : List Int} (hw : ∀ x ∈ l, (1 : Int) ≤ x ∧ x ≤ 16) : ∀ k, 0 ≤ ats l k := by
  intro k
  induction k with
  | zero => simp [ats]
  | succ k ih =>
    rcases Nat.lt_or_ge k l.length with h | h
    · rw [ats_succ (List.getElem?_eq_getElem h)]
      have := hw _ (List.getElem_mem h)
      omega
    · unfold ats at *
      rw [List.take_of_length_le (by omega)]
      rwa [List.take_of_length_le h] at ih
theorem ats_le {l : List Int} (hw : ∀ x ∈ l, (1 : Int) ≤ x ∧ x ≤ 16) {k : Nat} : ats l k ≤ l.sum := by
  have e : l.sum = ats l k + (l.drop k).sum := by unfold ats; rw [← List.sum_append, List.take_append_drop]
  have h0 : ∀ m : List Int, (∀ x ∈ m, (1 : Int) ≤ x ∧ x ≤ 16) → 0 ≤ m.sum := by
    intro m
    induction m with
    | nil => intro _; simp
    | cons a r ih =>
      intro h
      have h1 := h a (by simp)
      have h2 := ih fun x hx => h x (by simp [hx])
      rw [List.sum_cons]
      omega
  have := h0 (l.drop k) fun x hx => hw x (List.mem_of_mem_drop hx)
  omega

/-- One field more. -/
theorem pks_step {y : Nat → Int} {l : List Int} {k : Nat} {x : Int} (hw : ∀ x ∈ l, (1 : Int) ≤ x ∧ x ≤ 16) (hs : l.sum ≤ 32) (hx : l[k]? = some x) (h1 : pks y l k < pw (ats l k)) :
    0 ≤ unv (y k) x * pw (ats l k) ∧ pks y l (k + 1) = pks y l k + unv (y k) x * pw (ats l k) ∧ pks y l (k + 1) < pw (ats l (k + 1)) ∧ pw (ats l (k + 1)) ≤ 4294967296 ∧ 0 ≤ ats l k ∧ ats l k ≤ 32 ∧ (1 ≤ x ∧ x ≤ 16) ∧ ats l (k + 1) = ats l k + x := by
  obtain ⟨hk, hxe⟩ := List.getElem?_eq_some_iff.1 hx
  have hx1 := hw x (by rw [← hxe]; exact List.getElem_mem hk)
  have ha := ats_nonneg hw k
  have hu := unv_rng (x := y k) hx1
  have hp := pw_pos (ats l k)
  have ea := ats_succ hx
  have hle := ats_le hw (k := k + 1)
  have hle0 := ats_le hw (k := k)
  have hpa := pw_add (ats l k) x ha (by omega)
  have hp32 := pw_le (ats l (k + 1)) 32 (by omega)
  have e32 : pw 32 = 4294967296 := by decide
  have ed : l.getD k 0 = x := by rw [List.getD, hx]; rfl
  have em := Int.mul_le_mul_of_nonneg_right hu.2 (show 0 ≤ pw (ats l k) by omega)
  rw [Int.sub_mul, Int.one_mul] at em
  have ec : pw (ats l k) * pw x = pw x * pw (ats l k) := Int.mul_comm _ _
  have e1 : pks y l (k + 1) = pks y l k + unv (y k) x * pw (ats l k) := by rw [pks, ed]
  refine ⟨Int.mul_nonneg hu.1 (by omega), e1, ?_, by omega, ha, by omega, hx1, ea⟩
  rw [e1, ea, hpa]
  omega

theorem wds_len {f : Int} (hf : f = 1 ∨ f = 2 ∨ f = 3 ∨ f = 4) : (wds f).length = ncm f := by rcases hf with rfl | rfl | rfl | rfl <;> rfl
theorem wds_rng {f : Int} (hf : f = 1 ∨ f = 2 ∨ f = 3 ∨ f = 4) : ∀ x ∈ wds f, (1 : Int) ≤ x ∧ x ≤ 16 := by rcases hf with rfl | rfl | rfl | rfl <;> decide
theorem wds_sum {f : Int} (hf : f = 1 ∨ f = 2 ∨ f = 3 ∨ f = 4) : (wds f).sum ≤ 32 := by rcases hf with rfl | rfl | rfl | rfl <;> decide

theorem pks_pack {f x0 x1 x2 x3 : Int} (hf : f = 1 ∨ f = 2 ∨ f = 3 ∨ f = 4) : pks (cmp4 (if f = 3 then x2 else x0) x1 (if f = 3 then x0 else x2) x3) (wds f) (ncm f) = pack f x0 x1 x2 x3 := by
  have p0 : pw 0 = 1 := by decide
  have p11 : pw 11 = 2048 := by decide
  have p16' : pw 16 = 65536 := by decide
  have p20 : pw 20 = 1048576 := by decide
  have p24 : pw 24 = 16777216 := by decide
  have p30 : pw 30 = 1073741824 := by decide
  rcases hf with rfl | rfl | rfl | rfl
  · show 0 + unv (compv x0 x1 x2 x3 0) 8 * pw 0 = unv x0 8
    rw [(compv4 x0 x1 x2 x3).1, p0]; omega
  · show 0 + unv (compv x0 x1 x2 x3 0) 8 * pw 0 + unv (compv x0 x1 x2 x3 1) 8 * pw 8 + unv (compv x0 x1 x2 x3 2) 8 * pw 16 + unv (compv x0 x1 x2 x3 3) 8 * pw 24 = unv x0 8 + unv x1 8 * 256 + unv x2 8 * 65536 + unv x3 8 * 16777216
    obtain ⟨h0, h1, h2, h3⟩ := compv4 x0 x1 x2 x3
    rw [h0, h1, h2, h3, p0, p8, p16', p24]; omega
  · show 0 + unv (compv x2 x1 x0 x3 0) 5 * pw 0 + unv (compv x2 x1 x0 x3 1) 6 * pw 5 + unv (compv x2 x1 x0 x3 2) 5 * pw 11 = unv x2 5 + unv x1 6 * 32 + unv x0 5 * 2048
    obtain ⟨h0, h1, h2, h3⟩ := compv4 x2 x1 x0 x3
    rw [h0, h1, h2, p0, p5, p11]; omega
  · show 0 + unv (compv x0 x1 x2 x3 0) 10 * pw 0 + unv (compv x0 x1 x2 x3 1) 10 * pw 10 + unv (compv x0 x1 x2 x3 2) 10 * pw 20 + unv (compv x0 x1 x2 x3 3) 2 * pw 30 = unv x0 10 + unv x1 10 * 1024 + unv x2 10 * 1048576 + unv x3 2 * 1073741824
    obtain ⟨h0, h1, h2, h3⟩ := compv4 x0 x1 x2 x3
    rw [h0, h1, h2, h3, p0, p10, p20, p30]; omega

theorem enc_int {f x0 x1 x2 x3 : Int} (hf : f = 1 ∨ f = 2 ∨ f = 3 ∨ f = 4) : enc f x0 x1 x2 x3 = lb (nsz f) (pack f x0 x1 x2 x3) := by
  unfold enc
  rw [if_neg (by omega), if_neg (by omega), if_neg (by rcases hf with rfl | rfl | rfl | rfl <;> decide)]

end Go.Proofs.Ytoipmldbjciinaa

/- What the reference's Decode of texel formats returns. -/
namespace Go.Proofs.Ytoipmldbjciinaa
open Go.RowKit Go.Sort

theorem rd_sub {w : World} {B n c p q b off : Nat} {l : List Int} (R : Rd w B .u8 (some ⟨b, off, none⟩) n l) (h1 : p < q) (h2 : q ≤ n) (h3 : n ≤ c) : Rd w B .u8 (some ⟨b, off + p, none⟩) (q - p) (part l p (q - p)) := by
  have h := R.cut (i := p) (j := q) (cap := c) (by omega) h2 h3
  rw [if_neg (by omega)] at h
  simpa [add_plain', part] using h

/-- The components so far. -/
def cHf (l : List Int) (k j : Nat) : Int := if j < k then dv (litv (part l (2 * j) 2)) else if j = 3 then 65536 else 0

theorem cHf_with {l : List Int} {k : Nat} {p : Int} (j : Nat) (hp : litv (part l (2 * k) 2) = p) : withv (k : Int) (dv p) (j : Int) (cHf l k j) = cHf l (k + 1) j := by
  unfold withv cHf
  by_cases h : k = j
  · subst h
    rw [if_pos rfl, if_pos (by omega), hp]
  · rw [if_neg (by omega)]
    by_cases h2 : j < k
    · rw [if_pos h2, if_pos (by omega)]
    · rw [if_neg h2, if_neg (show ¬ j < k + 1 by omega)]

theorem litv2 {l : List Int} {p n : Nat} (hl : l.length = n) (hr : ∀ x ∈ l, (0 : Int) ≤ x ∧ x ≤ 255) (hp : p + 2 ≤ n) : 0 ≤ litv (part l p 2) ∧ litv (part l p 2) < 65536 := by
  have h := litv_rng (part l p 2) (part_rng hr)
  rw [part_len (by omega)] at h
  exact h

theorem dec_half {f : Int} {l : List Int} (hf : f = 5 ∨ f = 6) (hl : l.length = nsz f) (i : Nat) (hi : i < 4) : dec f l i = cHf l (ncm f) i := by
  unfold dec
  rw [if_neg (by rw [hl]; rcases hf with rfl | rfl <;> simp [nsz])]
  rcases hf with rfl | rfl
  · have e : part l 0 2 = l := by unfold part; rw [List.drop_zero, List.take_of_length_le (by rw [hl]; decide)]
    show (if i = 0 then dv (litv l) else if i = 3 then (65536 : Int) else 0) = if i < 1 then _ else _
    by_cases h0 : i = 0
    · subst h0
      rw [if_pos rfl, if_pos (by omega), Nat.mul_zero, e]
    · rw [if_neg h0, if_neg (show ¬ i < 1 by omega)]
  · show dv (litv (part l (2 * i) 2)) = if i < 4 then _ else _
    rw [if_pos hi]

end Go.Proofs.Ytoipmldbjciinaa

/- What the reference's Decode of texel formats returns: the formats with integers; all formats; Quantize. -/
namespace Go.Proofs.Ytoipmldbjciinaa
open Go.RowKit Go.Sort

/-- The widths, in a block of their own. -/
def WGives (W : World) (l : List Int) (x : Ending) (w' : World) : Prop :=
  ∃ b, x = .returned (.slice (some ⟨b, 0, none⟩) l.length l.length) ∧ W.heap.size ≤ b ∧ (∀ (j : Nat) v, l[j]? = some v → w'.cell? ⟨b, j, none⟩ = some (.int .i64 v)) ∧ Below W.heap.size W w'

/-- The components so far. -/
def cIf (N : Int) (l : List Int) (k j : Nat) : Int := if j < k then fromv (N / pw (ats l j) % pw (l.getD j 0)) (l.getD j 0) else if j = 3 then 65536 else 0

theorem cIf_with {N : Int} {l : List Int} {k : Nat} {x g : Int} (j : Nat) (hx : l[k]? = some x) (hg : fromv (N / pw (ats l k) % pw x) x = g) : withv (k : Int) g (j : Int) (cIf N l k j) = cIf N l (k + 1) j := by
  have ed : l.getD k 0 = x := by rw [List.getD, hx]; rfl
  unfold withv cIf
  by_cases h : k = j
  · subst h
    rw [if_pos rfl, if_pos (by omega), ed, hg]
  · rw [if_neg (by omega)]
    by_cases h2 : j < k
    · rw [if_pos h2, if_pos (by omega)]
    · rw [if_neg h2, if_neg (show ¬ j < k + 1 by omega)]

theorem dec_int {f : Int} {l : List Int} (hf : f = 1 ∨ f = 2 ∨ f = 3 ∨ f = 4) (hl : l.length = nsz f) (hr : ∀ x ∈ l, (0 : Int) ≤ x ∧ x ≤ 255) :
    dec f l 0 = (if f = 3 then cIf (litv l) (wds f) (ncm f) 2 else cIf (litv l) (wds f) (ncm f) 0) ∧ dec f l 1 = cIf (litv l) (wds f) (ncm f) 1 ∧
    dec f l 2 = (if f = 3 then cIf (litv l) (wds f) (ncm f) 0 else cIf (litv l) (wds f) (ncm f) 2) ∧ dec f l 3 = cIf (litv l) (wds f) (ncm f) 3 := by
  have p0 : pw 0 = 1 := by decide
  have p11 : pw 11 = 2048 := by decide
  have p16' : pw 16 = 65536 := by decide
  have p20 : pw 20 = 1048576 := by decide
  have p24 : pw 24 = 16777216 := by decide
  have p30 : pw 30 = 1073741824 := by decide
  have e : ∀ i, dec f l i = fields f (litv l) i := fun i => by
    unfold dec
    rw [if_neg (by rw [hl]; rcases hf with rfl | rfl | rfl | rfl <;> simp [nsz]), if_neg (by omega), if_neg (by omega)]
  have hn := litv_rng l hr
  rw [hl] at hn
  rw [e, e, e, e]
  obtain ⟨n, hne⟩ : ∃ n, litv l = n := ⟨_, rfl⟩
  rw [hne] at hn ⊢
  rcases hf with rfl | rfl | rfl | rfl
  · have hn1 : n < 256 := hn.2
    refine ⟨?_, rfl, rfl, rfl⟩
    show fromv n 8 = fromv (n / pw 0 % pw 8) 8
    rw [p0, p8, Int.ediv_one, Int.emod_eq_of_lt hn.1 hn1]
  · refine ⟨?_, ?_, ?_, ?_⟩
    · show fromv (n / 1 % 256) 8 = fromv (n / pw 0 % pw 8) 8
      rw [p0, p8]
    · show fromv (n / 256 % 256) 8 = fromv (n / pw 8 % pw 8) 8
      rw [p8]
    · show fromv (n / 65536 % 256) 8 = fromv (n / pw 16 % pw 8) 8
      rw [p16', p8]
    · show fromv (n / 16777216 % 256) 8 = fromv (n / pw 24 % pw 8) 8
      rw [p24, p8]
  · refine ⟨?_, ?_, ?_, rfl⟩
    · show fromv (n / 2048 % 32) 5 = fromv (n / pw 11 % pw 5) 5
      rw [p11, p5]
    · show fromv (n / 32 % 64) 6 = fromv (n / pw 5 % pw 6) 6
      rw [p5, p6]
    · show fromv (n % 32) 5 = fromv (n / pw 0 % pw 5) 5
      rw [p0, p5, Int.ediv_one]
  · refine ⟨?_, ?_, ?_, ?_⟩
    · show fromv (n / 1 % 1024) 10 = fromv (n / pw 0 % pw 10) 10
      rw [p0, p10]
    · show fromv (n / 1024 % 1024) 10 = fromv (n / pw 10 % pw 10) 10
      rw [p10]
    · show fromv (n / 1048576 % 1024) 10 = fromv (n / pw 20 % pw 10) 10
      rw [p20, p10]
    · show fromv (n / 1073741824 % 4) 2 = fromv (n / pw 30 % pw 2) 2
      rw [p30, p2]

/-- A vector of a texel. -/
def GivesV (W : World) (y : Nat → Int) (x : Ending) (w' : World) : Prop := x = .returned (.agg #[.int .i64 (y 0), .int .i64 (y 1), .int .i64 (y 2), .int .i64 (y 3)]) ∧ Below W.heap.size W w'

end Go.Proofs.Ytoipmldbjciinaa
