/- number of the reference. Written by tools/gen/genZ13.py. -/
import Derived.Test.YtjpkcgepdfpbnaaGreatDoorZNMath
import Derived.Test.YtjpkcgepdfpbnaaGreatDoorZ12
namespace Go.Proofs.YtjpkcgepdfpbnaaGreatDoor
open Go.RowKit Go.Sort Go.ChangeShapes Go.WideShapes
set_option linter.unusedVariables false

/-- What number of the reference gives at the text r. -/
def GivesN (r : List Int) (p : Nat) (q : Int × Int × Nat × Int) (W : World) (e : Ending) (w' : World) : Prop :=
  ∃ (k v en : Int) (x : ByteArray), e = .returned (.tuple #[.agg #[.int .i64 k, .string x, .int .i64 v, .int .i64 0], .int .i64 en, .int .i64 q.1]) ∧ Below W.heap.size W w' ∧
    (q.1 = 0 → k = q.2.1 ∧ x = strOfNums (r.take q.2.2.1) ∧ v = q.2.2.2 ∧ en = ((p + q.2.2.1 : Nat) : Int))

theorem results_tok {P : Program} {fn : Func} {p u v : Tmp} {t : TypeId} {W : World} {b : Nat} {vs : List Value} {x y : Value} (h : fn.results = #[.cell p t, .tmp u, .tmp v]) (T : RowK P t 4) (c : W.rangeAt b 0 vs) (hv : vs.length = 4) (tmps : Array Value)
    (hp : tmps.getD p undef = .pointer (some ⟨b, 0, none⟩)) (hx : tmps.getD u undef = x) (hy : tmps.getD v undef = y) :
    (results fn tmps).run P W = .ok (.tuple #[.agg vs.toArray, x, y]) W := by
  have hp' : tmps[p]?.getD undef = .pointer (some ⟨b, 0, none⟩) := by simpa using hp
  have hx' : tmps[u]?.getD undef = x := by simpa using hx
  have hy' : tmps[v]?.getD undef = y := by simpa using hy
  obtain ⟨⟨d, h1, h2⟩, h3⟩ := T
  have hl := run_loadVar_mid W b 0 t vs d c h1 h2 (by rw [hv]; exact h3)
  simp [results, h, hp', hx', hy', asAddr, hl]

theorem rowTok : RowK Tryz.prog 60 4 := ⟨⟨_, Tryz.underlying60, rfl⟩, by kernel_rfl⟩

theorem EBox.rng {W : World} {b : Nat} {vs : List Value} (K : EBox W b vs) : W.rangeAt b 0 vs := K.1

theorem EBox.set {W : World} {b i : Nat} {vs : List Value} {v : Value} (K : EBox W b vs) (hi : i < vs.length) : EBox (W.setCell ⟨b, i, none⟩ v) b (vs.set i v) := by
  refine ⟨fun j u hu => ?_, fun j => by rw [World.frozen?_setCell]; exact K.2 j⟩
  rw [Nat.zero_add]
  by_cases h : i = j
  · subst h
    rw [List.getElem?_set_self hi] at hu
    injection hu with hu
    subst hu
    exact World.cell?_setCell_same _ _ _ (K.cell (List.getElem?_eq_getElem hi))
  · rw [List.getElem?_set_ne h] at hu
    rw [World.cell?_setCell_other _ _ _ _ (by intro e; injection e; omega)]
    exact K.cell hu
theorem EBox.far {W : World} {b c i : Nat} {vs : List Value} {v : Value} (K : EBox W b vs) (hne : b ≠ c) : EBox (W.setCell ⟨c, i, none⟩ v) b vs :=
  K.keep (c := c) hne (fun a ha => World.cell?_setCell_other _ _ _ _ (by intro e; rw [← e] at ha; exact ha rfl)) (fun a => World.frozen?_setCell _ _ _ _)

section
variable {P : Program} {ops : Array Oper} {Q : Exit → Act → World → Prop} {rest : List Oper} {a : Act} {W : World} {b : Nat}
/-- A token stored whole. -/
theorem esetT {dst : Option Tmp} {ty t : TypeId} {x y : Operand} {pos : String} {after : Array Edge} {u0 u1 u2 u3 : Value} {k v l : Int} {z : ByteArray} (T : RowK P t 4) (K : EBox W b [u0, u1, u2, u3]) (hx : a.eval x = .pointer (some ⟨b, 0, none⟩)) (hy : a.eval y = .agg #[.int .i64 k, .string z, .int .i64 v, .int .i64 l])
    (H : ∀ V, EBox V b [.int .i64 k, .string z, .int .i64 v, .int .i64 l] → Below b W V → (∀ a : Addr, a.block ≠ b → V.cell? a = W.cell? a) → (∀ a : Addr, V.frozen? a = W.frozen? a) → wpList P ops Q rest (a.put dst undef) V) :
    wpList P ops Q ({ dst := dst, op := .store t x y, type := ty, pos := pos, after := after, guard := none } :: rest) a W :=
  esetL T rfl rfl K hx hy (fun v hv => by simp at hv; rcases hv with rfl | rfl | rfl | rfl <;> rfl) H
end

abbrev tok0 : List Value := [.int .i64 0, .string ⟨#[]⟩, .int .i64 0, .int .i64 0]

/-- The two blocks as they are laid. -/
theorem tok_boxes (w : World) (t : TypeId) (k : Int) (x : ByteArray) :
    EBox ((w.alloc (.cells tok0.toArray t)).alloc (.cells #[.int .i64 k, .string x, .int .i64 0, .int .i64 0] t)) w.heap.size tok0 ∧
    EBox ((w.alloc (.cells tok0.toArray t)).alloc (.cells #[.int .i64 k, .string x, .int .i64 0, .int .i64 0] t)) (w.heap.size + 1) [.int .i64 k, .string x, .int .i64 0, .int .i64 0] ∧
    Below w.heap.size w ((w.alloc (.cells tok0.toArray t)).alloc (.cells #[.int .i64 k, .string x, .int .i64 0, .int .i64 0] t)) := by
  have z : (w.alloc (.cells tok0.toArray t)).heap.size = w.heap.size + 1 := by simp
  have h1 := EBox.made w tok0.toArray t
  have h2 := EBox.made (w.alloc (.cells tok0.toArray t)) #[.int .i64 k, .string x, .int .i64 0, .int .i64 0] t
  rw [z] at h2
  exact ⟨h1.on (by decide) (box_below _ _ _), h2, bon (box_below _ _ _) (box_below _ _ _)⟩

theorem bset0 {b B : Nat} {w W : World} (h : Below B w W) (hb : B ≤ b) (i : Nat) (v : Value) : Below B w (W.setCell ⟨b, i, none⟩ v) := h.setCell hb _

/-- Behind a call and a store of the value. -/
theorem tok_after (w : World) (t : TypeId) (k : Int) (x : ByteArray) {W1 : World}
    (B : Below ((w.alloc (.cells tok0.toArray t)).alloc (.cells #[.int .i64 k, .string x, .int .i64 0, .int .i64 0] t)).heap.size ((w.alloc (.cells tok0.toArray t)).alloc (.cells #[.int .i64 k, .string x, .int .i64 0, .int .i64 0] t)) W1) (v : Int) :
    W1.cell? ⟨w.heap.size + 1, 2, none⟩ = some (.int .i64 0) ∧ W1.frozen? ⟨w.heap.size + 1, 2, none⟩ = false ∧
      W1.cell? ⟨w.heap.size, 0, none⟩ = some (.int .i64 0) ∧ W1.cell? ⟨w.heap.size, 1, none⟩ = some (.string ⟨#[]⟩) ∧ W1.cell? ⟨w.heap.size, 2, none⟩ = some (.int .i64 0) ∧ W1.cell? ⟨w.heap.size, 3, none⟩ = some (.int .i64 0) ∧
      W1.frozen? ⟨w.heap.size, 0, none⟩ = false ∧ W1.frozen? ⟨w.heap.size, 1, none⟩ = false ∧ W1.frozen? ⟨w.heap.size, 2, none⟩ = false ∧ W1.frozen? ⟨w.heap.size, 3, none⟩ = false ∧
      EBox (W1.setCell ⟨w.heap.size + 1, 2, none⟩ (.int .i64 v)) (w.heap.size + 1) [.int .i64 k, .string x, .int .i64 v, .int .i64 0] ∧
      EBox (((((W1.setCell ⟨w.heap.size + 1, 2, none⟩ (.int .i64 v)).setCell ⟨w.heap.size, 0, none⟩ (.int .i64 k)).setCell ⟨w.heap.size, 1, none⟩ (.string x)).setCell ⟨w.heap.size, 2, none⟩ (.int .i64 v)).setCell ⟨w.heap.size, 3, none⟩ (.int .i64 0)) w.heap.size [.int .i64 k, .string x, .int .i64 v, .int .i64 0] ∧
      Below w.heap.size w (((((W1.setCell ⟨w.heap.size + 1, 2, none⟩ (.int .i64 v)).setCell ⟨w.heap.size, 0, none⟩ (.int .i64 k)).setCell ⟨w.heap.size, 1, none⟩ (.string x)).setCell ⟨w.heap.size, 2, none⟩ (.int .i64 v)).setCell ⟨w.heap.size, 3, none⟩ (.int .i64 0)) := by
  obtain ⟨h0, h1, h2⟩ := tok_boxes w t k x
  have E1 := h1.on (by simp) B
  have E0 := h0.on (by simp) B
  exact ⟨E1.cell (i := 2) rfl, E1.2 2, E0.cell (i := 0) rfl, E0.cell (i := 1) rfl, E0.cell (i := 2) rfl, E0.cell (i := 3) rfl, E0.2 0, E0.2 1, E0.2 2, E0.2 3, E1.set (i := 2) (v := .int .i64 v) (by simp),
    ((((E0.far (c := w.heap.size + 1) (i := 2) (v := .int .i64 v) (by omega)).set (i := 0) (v := .int .i64 k) (by simp)).set (i := 1) (v := .string x) (by simp)).set (i := 2) (v := .int .i64 v) (by simp)).set (i := 3) (v := .int .i64 0) (by simp),
    bset0 (bset0 (bset0 (bset0 (bset0 (bon h2 B) (by omega) 2 _) (Nat.le_refl _) 0 _) (Nat.le_refl _) 1 _) (Nat.le_refl _) 2 _) (Nat.le_refl _) 3 _⟩

/-- The two blocks behind an error. -/
theorem tok_done (w : World) (t : TypeId) (k : Int) (x : ByteArray) :
    EBox ((w.alloc (.cells #[.int .i64 k, .string x, .int .i64 0, .int .i64 0] t)).alloc (.cells #[.int .i64 k, .string x, .int .i64 0, .int .i64 0] t)) w.heap.size [.int .i64 k, .string x, .int .i64 0, .int .i64 0] ∧
    Below w.heap.size w ((w.alloc (.cells #[.int .i64 k, .string x, .int .i64 0, .int .i64 0] t)).alloc (.cells #[.int .i64 k, .string x, .int .i64 0, .int .i64 0] t)) :=
  ⟨(EBox.made w #[.int .i64 k, .string x, .int .i64 0, .int .i64 0] t).on (by simp) (box_below _ _ _), bon (box_below _ _ _) (box_below _ _ _)⟩

theorem zro_ways (s : ByteArray) (p q : Nat) (hp : p < s.size) (hq : p + spn isDig ((strL s).drop p) = q) :
    ((((s[p]).toNat : Int) == 48) = false ∧ zro ((strL s).drop p) = false) ∨ ((((s[p]).toNat : Int) == 48) = true ∧ ¬ (p : Int) + 1 < (q : Int) ∧ zro ((strL s).drop p) = false) ∨ ((((s[p]).toNat : Int) == 48) = true ∧ (p : Int) + 1 < (q : Int) ∧ zro ((strL s).drop p) = true) := by
  unfold zro
  rw [List.head?_drop, strL_at s p hp]
  by_cases h : ((s[p]).toNat : Int) = 48
  · right
    by_cases h2 : 1 < spn isDig ((strL s).drop p)
    · exact .inr ⟨by simpa using h, by omega, by simp [h, h2]⟩
    · exact .inl ⟨by simpa using h, by omega, by simp [h2]⟩
  · exact .inl ⟨by simpa using h, by simp [h]⟩

theorem fxd_ways2 (s : ByteArray) (p q : Nat) (hp : p ≤ s.size) (hq : p + spn isDig ((strL s).drop p) = q) :
    (¬ (q : Int) + 1 < (s.size : Int) ∧ fxd ((strL s).drop p) = false) ∨ (∃ h : q + 1 < s.size, (((s[q]).toNat : Int) == 46) = false ∧ fxd ((strL s).drop p) = false) ∨
     (∃ h : q + 1 < s.size, (((s[q]).toNat : Int) == 46) = true ∧ isDig ((s[q + 1]).toNat : Int) = fxd ((strL s).drop p)) := by
  unfold fxd
  rw [List.getElem?_drop, List.getElem?_drop, ← Nat.add_assoc, hq]
  by_cases h : q + 1 < s.size
  · have h1 := strL_at s q (by omega)
    have h2 := strL_at s (q + 1) h
    rw [h1, h2]
    by_cases h3 : ((s[q]).toNat : Int) = 46
    · exact .inr (.inr ⟨h, by simpa using h3, by simp [h3]⟩)
    · exact .inr (.inl ⟨h, by simpa using h3, by simp [h3]⟩)
  · exact .inl ⟨by omega, by rw [List.getElem?_eq_none (show (strL s).length ≤ q + 1 by rw [strL_len]; omega)]; simp⟩

theorem let_ways (s : ByteArray) (p m : Nat) : (¬ ((p + m : Nat) : Int) < (s.size : Int) ∧ (((strL s).drop p)[m]?).any isLet = false) ∨ (∃ h : p + m < s.size, isLet ((s[p + m]).toNat : Int) = (((strL s).drop p)[m]?).any isLet) := by
  rw [List.getElem?_drop]
  by_cases h : p + m < s.size
  · exact .inr ⟨h, by rw [strL_at s _ h]; rfl⟩
  · exact .inl ⟨by omega, by rw [List.getElem?_eq_none (by rw [strL_len]; omega)]; rfl⟩

theorem GivesN.no {r : List Int} {p : Nat} {c k v en : Int} {x : ByteArray} {W V : World} (hc : c ≠ 0) (B : Below W.heap.size W V) :
    GivesN r p (c, 0, 0, 0) W (.returned (.tuple #[.agg #[.int .i64 k, .string x, .int .i64 v, .int .i64 0], .int .i64 en, .int .i64 c])) V := ⟨k, v, en, x, rfl, B, fun h => absurd h hc⟩

theorem no3 {a : Prop} {b c : Bool} (h1 : ¬ a) (h2 : b = false) (h3 : c = false) : ¬ (a ∨ b = true ∨ c = true) := by subst h2; subst h3; simpa using h1

set_option maxRecDepth 100000 in
set_option maxHeartbeats 8000000 in
theorem rnum_fix (s : ByteArray) (p : Nat) (w : World) (hp : p < s.size) (hs : s.size ≤ 16384) (hd : (((strL s).drop p).head?).any isDig = true) (hf : fxd ((strL s).drop p) = true) : Calls Tryz.prog 84 #[.string s, .int .i64 (p : Int)] w (GivesN ((strL s).drop p) p (tkr ((strL s).drop p)) w) := by
  have ht := tkr_fix hd hf
  have hfl := fxd_lt hf
  rw [List.length_drop, strL_len] at hfl
  have hz1 := spn_le isDig (((strL s).drop p).drop (spn isDig ((strL s).drop p) + 1))
  rw [List.length_drop, List.length_drop, strL_len] at hz1
  have c1 := fun W => rdigits_b s p W (by omega) (by omega)
  have c2 := fun W => rdigits_b s (p + spn isDig ((strL s).drop p) + 1) W (by omega) (by omega)
  rw [show (strL s).drop (p + spn isDig ((strL s).drop p) + 1) = ((strL s).drop p).drop (spn isDig ((strL s).drop p) + 1) by rw [List.drop_drop, Nat.add_assoc]] at c2
  have hzz : zfr ((strL s).drop p) = spn isDig (((strL s).drop p).drop (spn isDig ((strL s).drop p) + 1)) := rfl
  have hway := fxd_ways2 s p _ (by omega) rfl
  have hzw := zro_ways s p _ hp rfl
  have hlw := let_ways s p (spn isDig ((strL s).drop p) + 1 + zfr ((strL s).drop p))
  rw [hf] at hway
  have hdp := dig_spn hd
  rw [← hzz] at c2 hz1
  have hx : strL (s.extract p (p + (spn isDig ((strL s).drop p) + 1 + zfr ((strL s).drop p)))) = ((strL s).drop p).take (spn isDig ((strL s).drop p) + 1 + zfr ((strL s).drop p)) := by rw [strL_extract, Nat.add_sub_cancel_left]
  obtain ⟨m, hm⟩ : ∃ m, spn isDig ((strL s).drop p) + 1 + zfr ((strL s).drop p) = m := ⟨_, rfl⟩
  obtain ⟨z, hz⟩ : ∃ z, zfr ((strL s).drop p) = z := ⟨_, rfl⟩
  obtain ⟨n1, hn1⟩ : ∃ n1, spn isDig ((strL s).drop p) = n1 := ⟨_, rfl⟩
  obtain ⟨e1, he1⟩ : ∃ e1, p + n1 = e1 := ⟨_, rfl⟩
  obtain ⟨e2, he2⟩ : ∃ e2, p + m = e2 := ⟨_, rfl⟩
  rw [hm] at ht hlw hx
  rw [hn1, hz] at hm
  rw [hz] at hz1 ht c2
  rw [hn1] at c1 c2 hway hzw hz1 hdp hfl
  rw [he1] at c1 c2 hway hzw
  rw [show e1 + 1 + z = e2 by omega] at c2
  rw [he2] at hx
  have hle1 : (p : Int) < (e1 : Int) ∧ (e1 : Int) + 1 ≤ (e2 : Int) ∧ (e2 : Int) ≤ (s.size : Int) := by omega
  have HT := Lib.hid ht
  have HX := Lib.hid hx
  have C1 := Lib.hid c1
  have C2 : Hid (∀ W, Calls Tryz.prog 103 #[.string s, .int .i64 ((e1 : Int) + 1)] W fun e w' => e = .returned (.int .i64 (e2 : Nat)) ∧ W = w') := Lib.hid c2
  have EL := Lib.hid (fun k x => tok_boxes w 60 k x)
  have ED := Lib.hid (fun k x => tok_done w 60 k x)
  obtain ⟨T, hT⟩ : ∃ T, tkr ((strL s).drop p) = T := ⟨_, rfl⟩
  rw [hT] at HT ⊢
  obtain ⟨v, er, hpf⟩ : ∃ v er, pfix (((strL s).drop p).take m) = (v, er) := ⟨_, _, rfl⟩
  have CP := Lib.hid (fun W => rparseFixed_b (s.extract p e2) v er W (by rw [ByteArray.size_extract]; omega) (by rw [hx]; exact hpf))
  rw [hpf] at HT
  rcases hway with ⟨_, h⟩ | ⟨_, _, h⟩ | ⟨hq, h46, hdg⟩
  · cases h
  · cases h
  have hqi : (e1 : Int) + 1 < (s.size : Int) := by omega
  have cd := fun W => rdigit_q ((s[e1 + 1]).toNat : Int) W
  rw [hdg] at cd
  have CD := Lib.hid cd
  clear c1 c2 cd hdg hx hpf hT ht hzz hf
  have HM : Hid (m = n1 + 1 + z ∧ e1 = p + n1 ∧ e2 = p + m) := Lib.hid ⟨hm.symm, he1.symm, he2.symm⟩
  have hbig : (5 < z ∧ (e1 : Int) + 6 < (e2 : Int)) ∨ (¬ 5 < z ∧ ¬ (e1 : Int) + 6 < (e2 : Int)) := by omega
  have hlw2 : (¬ (e2 : Int) < (s.size : Int) ∧ (((strL s).drop p)[m]?).any isLet = false) ∨ (∃ h : e2 < s.size, isLet ((s[e2]).toNat : Int) = (((strL s).drop p)[m]?).any isLet) := by subst he2; exact hlw
  clear hlw hm hz hn1 he1 he2
  rcases hbig with ⟨hb, hbi⟩ | ⟨hb, hbi⟩
  · obtain rfl : T = (3, 0, 0, 0) := HT.out.trans (if_pos (.inl hb))
    clear HT hlw2
    rcases hzw with ⟨hx0, _⟩ | ⟨hx0, hx1, _⟩ | ⟨hx0, hx1, _⟩
    · go_enter Tryz.func84, Tryz.ntmps84
      go_wp2_with (first | (go_at_call 103; (with_reducible refine (C1.out _).mono ?_); rintro _ _ ⟨rfl, rfl⟩) | (go_at_call 103; (with_reducible refine (C2.out _).mono ?_); rintro _ _ ⟨rfl, rfl⟩) | (go_at_call 57; (refine (CD.out _).mono ?_); rintro _ _ ⟨rfl, rfl⟩))
      refine bodyPost_ret (results_tok rfl rowTok (ED.out _ _).1.rng rfl _ rfl rfl rfl) rfl ?_
      exact GivesN.no (by decide) (ED.out _ _).2
    · go_enter Tryz.func84, Tryz.ntmps84
      go_wp2_with (first | (go_at_call 103; (with_reducible refine (C1.out _).mono ?_); rintro _ _ ⟨rfl, rfl⟩) | (go_at_call 103; (with_reducible refine (C2.out _).mono ?_); rintro _ _ ⟨rfl, rfl⟩) | (go_at_call 57; (refine (CD.out _).mono ?_); rintro _ _ ⟨rfl, rfl⟩))
      refine bodyPost_ret (results_tok rfl rowTok (ED.out _ _).1.rng rfl _ rfl rfl rfl) rfl ?_
      exact GivesN.no (by decide) (ED.out _ _).2
    · go_enter Tryz.func84, Tryz.ntmps84
      go_wp2_with (first | (go_at_call 103; (with_reducible refine (C1.out _).mono ?_); rintro _ _ ⟨rfl, rfl⟩) | (go_at_call 103; (with_reducible refine (C2.out _).mono ?_); rintro _ _ ⟨rfl, rfl⟩) | (go_at_call 57; (refine (CD.out _).mono ?_); rintro _ _ ⟨rfl, rfl⟩))
      refine bodyPost_ret (results_tok rfl rowTok (ED.out _ _).1.rng rfl _ rfl rfl rfl) rfl ?_
      exact GivesN.no (by decide) (ED.out _ _).2
  · rcases hzw with ⟨hx0, hzz⟩ | ⟨hx0, hx1, hzz⟩ | ⟨hx0, hx1, hzz⟩
    · rcases hlw2 with ⟨hlt, hl⟩ | ⟨hlt, hl⟩
      · by_cases he : er = 0
        · subst he
          obtain rfl : T = (0, 3, m, v) := HT.out.trans (by rw [if_neg (no3 hb hzz hl), if_neg (by simp)])
          clear HT
          go_enter Tryz.func84, Tryz.ntmps84
          go_wp2_with (first | (go_at_call 103; (with_reducible refine (C1.out _).mono ?_); rintro _ _ ⟨rfl, rfl⟩) | (go_at_call 103; (with_reducible refine (C2.out _).mono ?_); rintro _ _ ⟨rfl, rfl⟩) | (go_at_call 57; (refine (CD.out _).mono ?_); rintro _ _ ⟨rfl, rfl⟩) | (go_at_call 104; (refine (CP.out _).mono ?_); rintro _ W1 ⟨rfl, B⟩; obtain ⟨c2, z2, d0, d1, d2, d3, y0, y1, y2, y3, x1, xf, bf⟩ := tok_after w 60 3 (s.extract p e2) B v; have X1 := Lib.hid x1; have KV := Lib.hid xf; have BV := Lib.hid bf; clear x1 xf bf B) | ((with_reducible refine eload4L rowTok X1.out.rng ?_ ?_); focus rfl))
          refine bodyPost_ret (results_tok rfl rowTok KV.out.1 rfl _ rfl rfl rfl) rfl ?_
          exact ⟨_, _, _, _, rfl, BV.out, fun _ => ⟨rfl, by rw [← HX.out, strOf_strL], rfl, by rw [HM.out.2.2]⟩⟩
        · obtain rfl : T = (er, 0, 0, 0) := HT.out.trans (by rw [if_neg (no3 hb hzz hl), if_pos he])
          clear HT
          go_enter Tryz.func84, Tryz.ntmps84
          go_wp2_with (first | (go_at_call 103; (with_reducible refine (C1.out _).mono ?_); rintro _ _ ⟨rfl, rfl⟩) | (go_at_call 103; (with_reducible refine (C2.out _).mono ?_); rintro _ _ ⟨rfl, rfl⟩) | (go_at_call 57; (refine (CD.out _).mono ?_); rintro _ _ ⟨rfl, rfl⟩) | (go_at_call 104; (refine (CP.out _).mono ?_); rintro _ W1 ⟨rfl, B⟩; obtain ⟨c2, z2, d0, d1, d2, d3, y0, y1, y2, y3, x1, xf, bf⟩ := tok_after w 60 3 (s.extract p e2) B v; have X1 := Lib.hid x1; have KV := Lib.hid xf; have BV := Lib.hid bf; clear x1 xf bf B) | ((with_reducible refine eload4L rowTok X1.out.rng ?_ ?_); focus rfl))
          refine bodyPost_ret (results_tok rfl rowTok KV.out.1 rfl _ rfl rfl rfl) rfl ?_
          exact GivesN.no he BV.out
      · have cl := fun W => rletter_q ((s[e2]).toNat : Int) W
        rw [hl] at cl
        have hlti : (e2 : Int) < (s.size : Int) := by omega
        cases hl2 : (((strL s).drop p)[m]?).any isLet
        · rw [hl2] at cl hl
          have CL := Lib.hid cl
          replace hl := hl2
          clear cl
          by_cases he : er = 0
          · subst he
            obtain rfl : T = (0, 3, m, v) := HT.out.trans (by rw [if_neg (no3 hb hzz hl), if_neg (by simp)])
            clear HT
            go_enter Tryz.func84, Tryz.ntmps84
            go_wp2_with (first | (go_at_call 103; (with_reducible refine (C1.out _).mono ?_); rintro _ _ ⟨rfl, rfl⟩) | (go_at_call 103; (with_reducible refine (C2.out _).mono ?_); rintro _ _ ⟨rfl, rfl⟩) | (go_at_call 57; (refine (CD.out _).mono ?_); rintro _ _ ⟨rfl, rfl⟩) | (go_at_call 58; (refine (CL.out _).mono ?_); rintro _ _ ⟨rfl, rfl⟩) | (go_at_call 104; (refine (CP.out _).mono ?_); rintro _ W1 ⟨rfl, B⟩; obtain ⟨c2, z2, d0, d1, d2, d3, y0, y1, y2, y3, x1, xf, bf⟩ := tok_after w 60 3 (s.extract p e2) B v; have X1 := Lib.hid x1; have KV := Lib.hid xf; have BV := Lib.hid bf; clear x1 xf bf B) | ((with_reducible refine eload4L rowTok X1.out.rng ?_ ?_); focus rfl))
            refine bodyPost_ret (results_tok rfl rowTok KV.out.1 rfl _ rfl rfl rfl) rfl ?_
            exact ⟨_, _, _, _, rfl, BV.out, fun _ => ⟨rfl, by rw [← HX.out, strOf_strL], rfl, by rw [HM.out.2.2]⟩⟩
          · obtain rfl : T = (er, 0, 0, 0) := HT.out.trans (by rw [if_neg (no3 hb hzz hl), if_pos he])
            clear HT
            go_enter Tryz.func84, Tryz.ntmps84
            go_wp2_with (first | (go_at_call 103; (with_reducible refine (C1.out _).mono ?_); rintro _ _ ⟨rfl, rfl⟩) | (go_at_call 103; (with_reducible refine (C2.out _).mono ?_); rintro _ _ ⟨rfl, rfl⟩) | (go_at_call 57; (refine (CD.out _).mono ?_); rintro _ _ ⟨rfl, rfl⟩) | (go_at_call 58; (refine (CL.out _).mono ?_); rintro _ _ ⟨rfl, rfl⟩) | (go_at_call 104; (refine (CP.out _).mono ?_); rintro _ W1 ⟨rfl, B⟩; obtain ⟨c2, z2, d0, d1, d2, d3, y0, y1, y2, y3, x1, xf, bf⟩ := tok_after w 60 3 (s.extract p e2) B v; have X1 := Lib.hid x1; have KV := Lib.hid xf; have BV := Lib.hid bf; clear x1 xf bf B) | ((with_reducible refine eload4L rowTok X1.out.rng ?_ ?_); focus rfl))
            refine bodyPost_ret (results_tok rfl rowTok KV.out.1 rfl _ rfl rfl rfl) rfl ?_
            exact GivesN.no he BV.out
        · rw [hl2] at cl
          have CL := Lib.hid cl
          obtain rfl : T = (3, 0, 0, 0) := HT.out.trans (if_pos (.inr (.inr hl2)))
          clear cl HT
          go_enter Tryz.func84, Tryz.ntmps84
          go_wp2_with (first | (go_at_call 103; (with_reducible refine (C1.out _).mono ?_); rintro _ _ ⟨rfl, rfl⟩) | (go_at_call 103; (with_reducible refine (C2.out _).mono ?_); rintro _ _ ⟨rfl, rfl⟩) | (go_at_call 57; (refine (CD.out _).mono ?_); rintro _ _ ⟨rfl, rfl⟩) | (go_at_call 58; (refine (CL.out _).mono ?_); rintro _ _ ⟨rfl, rfl⟩))
          refine bodyPost_ret (results_tok rfl rowTok (ED.out _ _).1.rng rfl _ rfl rfl rfl) rfl ?_
          exact GivesN.no (by decide) (ED.out _ _).2
    · rcases hlw2 with ⟨hlt, hl⟩ | ⟨hlt, hl⟩
      · by_cases he : er = 0
        · subst he
          obtain rfl : T = (0, 3, m, v) := HT.out.trans (by rw [if_neg (no3 hb hzz hl), if_neg (by simp)])
          clear HT
          go_enter Tryz.func84, Tryz.ntmps84
          go_wp2_with (first | (go_at_call 103; (with_reducible refine (C1.out _).mono ?_); rintro _ _ ⟨rfl, rfl⟩) | (go_at_call 103; (with_reducible refine (C2.out _).mono ?_); rintro _ _ ⟨rfl, rfl⟩) | (go_at_call 57; (refine (CD.out _).mono ?_); rintro _ _ ⟨rfl, rfl⟩) | (go_at_call 104; (refine (CP.out _).mono ?_); rintro _ W1 ⟨rfl, B⟩; obtain ⟨c2, z2, d0, d1, d2, d3, y0, y1, y2, y3, x1, xf, bf⟩ := tok_after w 60 3 (s.extract p e2) B v; have X1 := Lib.hid x1; have KV := Lib.hid xf; have BV := Lib.hid bf; clear x1 xf bf B) | ((with_reducible refine eload4L rowTok X1.out.rng ?_ ?_); focus rfl))
          refine bodyPost_ret (results_tok rfl rowTok KV.out.1 rfl _ rfl rfl rfl) rfl ?_
          exact ⟨_, _, _, _, rfl, BV.out, fun _ => ⟨rfl, by rw [← HX.out, strOf_strL], rfl, by rw [HM.out.2.2]⟩⟩
        · obtain rfl : T = (er, 0, 0, 0) := HT.out.trans (by rw [if_neg (no3 hb hzz hl), if_pos he])
          clear HT
          go_enter Tryz.func84, Tryz.ntmps84
          go_wp2_with (first | (go_at_call 103; (with_reducible refine (C1.out _).mono ?_); rintro _ _ ⟨rfl, rfl⟩) | (go_at_call 103; (with_reducible refine (C2.out _).mono ?_); rintro _ _ ⟨rfl, rfl⟩) | (go_at_call 57; (refine (CD.out _).mono ?_); rintro _ _ ⟨rfl, rfl⟩) | (go_at_call 104; (refine (CP.out _).mono ?_); rintro _ W1 ⟨rfl, B⟩; obtain ⟨c2, z2, d0, d1, d2, d3, y0, y1, y2, y3, x1, xf, bf⟩ := tok_after w 60 3 (s.extract p e2) B v; have X1 := Lib.hid x1; have KV := Lib.hid xf; have BV := Lib.hid bf; clear x1 xf bf B) | ((with_reducible refine eload4L rowTok X1.out.rng ?_ ?_); focus rfl))
          refine bodyPost_ret (results_tok rfl rowTok KV.out.1 rfl _ rfl rfl rfl) rfl ?_
          exact GivesN.no he BV.out
      · have cl := fun W => rletter_q ((s[e2]).toNat : Int) W
        rw [hl] at cl
        have hlti : (e2 : Int) < (s.size : Int) := by omega
        cases hl2 : (((strL s).drop p)[m]?).any isLet
        · rw [hl2] at cl hl
          have CL := Lib.hid cl
          replace hl := hl2
          clear cl
          by_cases he : er = 0
          · subst he
            obtain rfl : T = (0, 3, m, v) := HT.out.trans (by rw [if_neg (no3 hb hzz hl), if_neg (by simp)])
            clear HT
            go_enter Tryz.func84, Tryz.ntmps84
            go_wp2_with (first | (go_at_call 103; (with_reducible refine (C1.out _).mono ?_); rintro _ _ ⟨rfl, rfl⟩) | (go_at_call 103; (with_reducible refine (C2.out _).mono ?_); rintro _ _ ⟨rfl, rfl⟩) | (go_at_call 57; (refine (CD.out _).mono ?_); rintro _ _ ⟨rfl, rfl⟩) | (go_at_call 58; (refine (CL.out _).mono ?_); rintro _ _ ⟨rfl, rfl⟩) | (go_at_call 104; (refine (CP.out _).mono ?_); rintro _ W1 ⟨rfl, B⟩; obtain ⟨c2, z2, d0, d1, d2, d3, y0, y1, y2, y3, x1, xf, bf⟩ := tok_after w 60 3 (s.extract p e2) B v; have X1 := Lib.hid x1; have KV := Lib.hid xf; have BV := Lib.hid bf; clear x1 xf bf B) | ((with_reducible refine eload4L rowTok X1.out.rng ?_ ?_); focus rfl))
            refine bodyPost_ret (results_tok rfl rowTok KV.out.1 rfl _ rfl rfl rfl) rfl ?_
            exact ⟨_, _, _, _, rfl, BV.out, fun _ => ⟨rfl, by rw [← HX.out, strOf_strL], rfl, by rw [HM.out.2.2]⟩⟩
          · obtain rfl : T = (er, 0, 0, 0) := HT.out.trans (by rw [if_neg (no3 hb hzz hl), if_pos he])
            clear HT
            go_enter Tryz.func84, Tryz.ntmps84
            go_wp2_with (first | (go_at_call 103; (with_reducible refine (C1.out _).mono ?_); rintro _ _ ⟨rfl, rfl⟩) | (go_at_call 103; (with_reducible refine (C2.out _).mono ?_); rintro _ _ ⟨rfl, rfl⟩) | (go_at_call 57; (refine (CD.out _).mono ?_); rintro _ _ ⟨rfl, rfl⟩) | (go_at_call 58; (refine (CL.out _).mono ?_); rintro _ _ ⟨rfl, rfl⟩) | (go_at_call 104; (refine (CP.out _).mono ?_); rintro _ W1 ⟨rfl, B⟩; obtain ⟨c2, z2, d0, d1, d2, d3, y0, y1, y2, y3, x1, xf, bf⟩ := tok_after w 60 3 (s.extract p e2) B v; have X1 := Lib.hid x1; have KV := Lib.hid xf; have BV := Lib.hid bf; clear x1 xf bf B) | ((with_reducible refine eload4L rowTok X1.out.rng ?_ ?_); focus rfl))
            refine bodyPost_ret (results_tok rfl rowTok KV.out.1 rfl _ rfl rfl rfl) rfl ?_
            exact GivesN.no he BV.out
        · rw [hl2] at cl
          have CL := Lib.hid cl
          obtain rfl : T = (3, 0, 0, 0) := HT.out.trans (if_pos (.inr (.inr hl2)))
          clear cl HT
          go_enter Tryz.func84, Tryz.ntmps84
          go_wp2_with (first | (go_at_call 103; (with_reducible refine (C1.out _).mono ?_); rintro _ _ ⟨rfl, rfl⟩) | (go_at_call 103; (with_reducible refine (C2.out _).mono ?_); rintro _ _ ⟨rfl, rfl⟩) | (go_at_call 57; (refine (CD.out _).mono ?_); rintro _ _ ⟨rfl, rfl⟩) | (go_at_call 58; (refine (CL.out _).mono ?_); rintro _ _ ⟨rfl, rfl⟩))
          refine bodyPost_ret (results_tok rfl rowTok (ED.out _ _).1.rng rfl _ rfl rfl rfl) rfl ?_
          exact GivesN.no (by decide) (ED.out _ _).2
    · obtain rfl : T = (3, 0, 0, 0) := HT.out.trans (if_pos (.inr (.inl hzz)))
      clear HT hlw2
      go_enter Tryz.func84, Tryz.ntmps84
      go_wp2_with (first | (go_at_call 103; (with_reducible refine (C1.out _).mono ?_); rintro _ _ ⟨rfl, rfl⟩) | (go_at_call 103; (with_reducible refine (C2.out _).mono ?_); rintro _ _ ⟨rfl, rfl⟩) | (go_at_call 57; (refine (CD.out _).mono ?_); rintro _ _ ⟨rfl, rfl⟩))
      refine bodyPost_ret (results_tok rfl rowTok (ED.out _ _).1.rng rfl _ rfl rfl rfl) rfl ?_
      exact GivesN.no (by decide) (ED.out _ _).2

end Go.Proofs.YtjpkcgepdfpbnaaGreatDoor
