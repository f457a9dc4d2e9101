/- The reference: loops, the open constructs behind an instruction. -/
import Derived.Test.YtnhnbblplnhmlaaGreatDoorUR1
import Derived.Test.YtnhnbblplnhmlaaGreatDoorC1
namespace Go.Proofs.YtnhnbblplnhmlaaGreatDoor
set_option linter.unusedSimpArgs false
open Go.RowKit Go.Sort Go.ChangeShapes Go.WideShapes
set_option linter.unusedVariables false

theorem cnt_on {l : List Int} {k : Nat} {x : Int} (h : l[k]? = some x) : (l.take (k + 1)).count 3 = (l.take k).count 3 + if x = 3 then 1 else 0 := by
  obtain ⟨hk, rfl⟩ := List.getElem?_eq_some_iff.1 h
  rw [List.take_succ_eq_append_getElem hk, List.count_append, List.count_singleton]
  simp

set_option maxRecDepth 100000 in
theorem rloops_b (A : Option Addr) (n c : Nat) (s : List Int) (w : World) (R : Rd w w.heap.size .i64 A n s) (hn : n ≤ 16384) :
    Calls Tryz.prog 104 #[.slice A n c] w fun e w' => e = .returned (.int .i64 (s.count 3 : Nat)) ∧ Below w.heap.size w w' := by
  have HR := Lib.hid R
  have HN := Lib.hid R.len
  clear R
  go_enter Tryz.func104, Tryz.ntmps104
  go_wp2
  go_loopw [3, 4] (fun u i wr => ∃ k : Nat, k ≤ n ∧ i = .int .i64 (k : Int) ∧ u = .int .i64 ((s.take k).count 3 : Nat) ∧ Below w.heap.size w wr) (fun _ i _ => n - (intOf i).toNat)
  case atStart => exact ⟨0, Nat.zero_le _, rfl, rfl, Below.refl _ _⟩
  case round =>
    obtain ⟨k, hk, rfl, rfl, BB⟩ := hrel
    have hb : (s.take k).count 3 ≤ k := Nat.le_trans List.count_le_length (by rw [List.length_take]; omega)
    by_cases hlt : k < n
    · obtain ⟨b1, o1, x, rfl, c1, _, _, hx⟩ := (HR.out.below BB).int hlt
      have HX := Lib.hid (cnt_on hx.out)
      obtain ⟨q, hq⟩ : ∃ q, (s.take k).count 3 = q := ⟨_, rfl⟩
      rw [hq] at HX hb ⊢
      clear hq hx
      by_cases hx3 : x = 3
      · subst hx3
        go_wp2
        go_roundw
        case rel => exact ⟨k + 1, by omega, by go_num, by rw [HX.out]; go_num, BB⟩
        case measure => simp [intOf]; omega
      · have h3 : (x == 3) = false := by simpa using hx3
        go_wp2
        go_roundw
        case rel => exact ⟨k + 1, by omega, by go_num, by rw [HX.out, if_neg hx3]; rfl, BB⟩
        case measure => simp [intOf]; omega
    · obtain rfl : k = n := by omega
      have e : s.take k = s := by rw [← HN.out, List.take_length]
      rw [e] at hb ⊢
      clear e
      go_wp2
      go_ret
      exact ⟨rfl, BB⟩

theorem bon2 {w V U : World} (h : Below w.heap.size w V) (B : Below V.heap.size V U) : Below w.heap.size w U := bon h B

/-- The open constructs, and whether they are allowed. -/
def GivesN (W : World) (o : Option (List Int)) (e : Ending) (w' : World) : Prop :=
  ∃ A n c, e = .returned (.tuple #[.slice A n c, .bool o.isSome]) ∧ Below W.heap.size W w' ∧ n ≤ c ∧ ∀ t, o = some t → Rd w' w'.heap.size .i64 A n t

/-! ### next -/

theorem givesN_of {W w' : World} {o : Option (List Int)} {A : Option Addr} {n c : Nat} {X : Bool} (hX : X = o.isSome) (B : Below W.heap.size W w') (hn : n ≤ c) (h : ∀ t, o = some t → Rd w' w'.heap.size .i64 A n t) : GivesN W o (.returned (.tuple #[.slice A n c, .bool X])) w' :=
  ⟨A, n, c, by rw [hX], B, hn, h⟩

section
variable {P : Program} {ops : Array Oper} {rest : List Oper} {o : Oper} {a : Act} {Q : Exit → Act → World → Prop}
/-- As wpList_app1, the heap's size a term. -/
theorem app1I (W : World) (hgd : o.guard = none) (s x : Operand) (t : TypeId) (ho : o.op = .call { callee := .builtin .append, args := #[s, x], argTypes := #[t, t] })
    {e : TypeId} {k : IntKind} {bytes : Nat} (E : Elem P t e k bytes) {base n c : Nat} {A : Option Addr} {l : List Int} (own : Own W base e k A n c l) (hs : a.eval s = .slice A n c)
    {v : Int} (hv : k.min ≤ v ∧ v ≤ k.max) {z : Nat} (hx : a.eval x = .slice (some ⟨z, 0, none⟩) 1 1) (hz : W.heap.size = z) (h63 : n + 1 ≤ maxLen) (hb : (n + 1) * bytes ≤ 140737488355328)
    (h : ∀ A' n' c' W1, Own W1 base e k A' n' c' (l ++ [v]) → Below base W W1 → wpList P ops Q rest (a.put o.dst (.slice A' n' c')) W1) : wpList P ops Q (o :: rest) a (W.alloc (.cells #[.int k v] e)) := by
  subst hz
  exact wpList_app1 W hgd s x t ho E own hs hv hx h63 hb h
end

theorem Rd.front {w : World} {B m c : Nat} {A : Option Addr} {s : List Int} (h : Rd w B .i64 A (m + 1) s) : Rd w B .i64 A m s.dropLast := by
  have hl := h.len
  refine ⟨by rw [List.length_dropLast, hl]; rfl, fun x hx => h.rng x (List.dropLast_subset _ hx), fun hm => ?_⟩
  obtain ⟨b, off, e, hb, hc⟩ := h.2.2 (by omega)
  refine ⟨b, off, e, hb, fun j x hx => hc j x ?_⟩
  rw [List.dropLast_eq_take, List.getElem?_take] at hx
  split at hx
  · exact hx
  · cases hx

set_option maxRecDepth 100000 in
set_option maxHeartbeats 2000000 in
theorem next43e (st : Int) (A : Option Addr) (n c : Nat) (w : World) (R : Rd w w.heap.size .i64 A n []) (hc : n ≤ c) (hn : n ≤ 16384) :
    Calls Tryz.prog 78 #[.int .i64 st, .int .i64 43, .slice A n c] w (GivesN w (stp st 43 [])) := by
  have HR := Lib.hid R
  have HS : Hid (stp st 43 [] = stp st 43 []) := Lib.hid rfl
  have own0 := Own.made w 3 .i64
  have BB0 : Below w.heap.size w (w.alloc (.cells #[] 3)) := (Below.refl _ _).alloc (Nat.le_refl _) _
  obtain rfl : n = 0 := R.len.symm
  clear R
  have own3 := Own.made (w.alloc (.cells #[] 3)) 3 .i64
  have BB2 : Below w.heap.size w ((w.alloc (.cells #[] 3)).alloc (.cells #[] 3)) := BB0.trans ((box_below _ _ _).mono BB0.size)
  have s2 : (w.alloc (.cells #[] 3)).heap.size = w.heap.size + 1 := by simp
  rw [s2] at own3
  all_goals
    go_enter Tryz.func78, Tryz.ntmps78
    go_wp2_with (first | (at_builtin; refine wpList_app _ rfl _ _ _ rfl eI own3 rfl (HR.out.below BB2) rfl (by unfold maxLen; omega) (by omega) ?_; intro A4 n4 c4 W4 own4 B4; have BB4 := BB2.trans (B4.mono (Nat.le_succ _))) | (at_builtin; refine wpList_app1 _ rfl _ _ _ rfl eI own4 rfl (by decide) rfl (by have q := own4.len; simp at q; unfold maxLen; omega) (by have q := own4.len; simp at q; omega) ?_; intro A6 n6 c6 W6 own6 B6; have BB6 := BB4.trans (B6.mono (Nat.le_trans (Nat.le_succ _) (Nat.le_refl _)))))
    all_goals
      go_ret2
      refine givesN_of ?_ (BB6) own6.room (fun t ht => ?_)
      · simp only [stp, Int.reduceEq, if_true, if_false, top_nil]
        first | rfl | (simp; done) | (split <;> simp <;> omega) | (split <;> simp_all; done) | (repeat' split) <;> simp_all
      · have e : t = [] ++ [1] := by
          simp only [stp, Int.reduceEq, if_true, if_false, top_nil] at ht
          first | exact (Option.some.inj ht).symm | (repeat' (split at ht)) <;> simp_all
        subst e
        exact own6.rd

set_option maxRecDepth 100000 in
set_option maxHeartbeats 2000000 in
theorem next43n (st : Int) (A : Option Addr) (n c : Nat) (s : List Int) (w : World) (R : Rd w w.heap.size .i64 A n s) (hc : n ≤ c) (hn : n ≤ 16384) (hk : Kn s) (hpos : 0 < n) :
    Calls Tryz.prog 78 #[.int .i64 st, .int .i64 43, .slice A n c] w (GivesN w (stp st 43 s)) := by
  have HR := Lib.hid R
  have HS : Hid (stp st 43 s = stp st 43 s) := Lib.hid rfl
  have own0 := Own.made w 3 .i64
  have BB0 : Below w.heap.size w (w.alloc (.cells #[] 3)) := (Below.refl _ _).alloc (Nat.le_refl _) _
  obtain ⟨m, rfl⟩ : ∃ m, n = m + 1 := ⟨n - 1, by omega⟩
  have HF := Lib.hid (R.front (c := c))
  obtain ⟨b1, o1, x, rfl, cx, _, _, hx⟩ := R.int (j := m) (by omega)
  have hxt : x = top s := by
    have h1 := hx.out
    have hl := R.len
    rw [show m = s.length - 1 by omega, ← List.getLast?_eq_getElem?] at h1
    rw [top, h1]; rfl
  have hl := R.len
  have HL := Lib.hid hl
  clear R hx
  have hxs := hk x (by rw [hxt]; exact (by rcases ends_of (show s ≠ [] from fun h => by subst h; simp at hl) with ⟨r, hr⟩; rw [hr, top_snoc]; simp))
  have HT := Lib.hid hxt.symm
  clear hxt hk hl
  have cx0 := cell_below (W := w) (W1 := w.alloc (.cells #[] 3)) (box_below _ _ _) cx
  all_goals
    go_enter Tryz.func78, Tryz.ntmps78
    go_wp2_with (first | (at_builtin; refine wpList_app _ rfl _ _ _ rfl eI own0 rfl (HF.out.below BB0) rfl (by unfold maxLen; omega) (by omega) ?_; intro A1 n1 c1 W1 own1 B1; have BB1 := BB0.trans B1; have BX := (Below.refl W1.heap.size W1).alloc (Nat.le_refl _) (.cells #[] 3); have own3 := Own.made W1 3 .i64; have BB2 := BB1.trans (BX.mono BB1.size)) | (at_builtin; refine wpList_app _ rfl _ _ _ rfl eI own3 rfl (HR.out.below BB2) rfl (by unfold maxLen; omega) (by omega) ?_; intro A4 n4 c4 W4 own4 B4; have BB4 := BB2.trans (B4.mono BB1.size)) | (at_builtin; refine wpList_app1 _ rfl _ _ _ rfl eI own4 rfl (by decide) rfl (by have q := own4.len; have q2 := HL.out; simp at q; unfold maxLen; omega) (by have q := own4.len; have q2 := HL.out; simp at q; omega) ?_; intro A6 n6 c6 W6 own6 B6; have BB6 := BB4.trans (B6.mono (Nat.le_trans BB1.size (Nat.le_refl _)))))
    all_goals
      go_ret2
      refine givesN_of ?_ (BB6) own6.room (fun t ht => ?_)
      · simp only [stp, Int.reduceEq, if_true, if_false, HT.out]
        first | rfl | (simp; done) | (split <;> simp <;> omega) | (split <;> simp_all; done) | (repeat' split) <;> simp_all
      · have e : t = s ++ [1] := by
          simp only [stp, Int.reduceEq, if_true, if_false, HT.out] at ht
          first | exact (Option.some.inj ht).symm | (repeat' (split at ht)) <;> simp_all
        subst e
        exact own6.rd

set_option maxRecDepth 100000 in
set_option maxHeartbeats 2000000 in
theorem next44e (st : Int) (A : Option Addr) (n c : Nat) (w : World) (R : Rd w w.heap.size .i64 A n []) (hc : n ≤ c) (hn : n ≤ 16384) :
    Calls Tryz.prog 78 #[.int .i64 st, .int .i64 44, .slice A n c] w (GivesN w (stp st 44 [])) := by
  have HR := Lib.hid R
  have HS : Hid (stp st 44 [] = stp st 44 []) := Lib.hid rfl
  have own0 := Own.made w 3 .i64
  have BB0 : Below w.heap.size w (w.alloc (.cells #[] 3)) := (Below.refl _ _).alloc (Nat.le_refl _) _
  obtain rfl : n = 0 := R.len.symm
  clear R
  have own3 := Own.made (w.alloc (.cells #[] 3)) 3 .i64
  have BB2 : Below w.heap.size w ((w.alloc (.cells #[] 3)).alloc (.cells #[] 3)) := BB0.trans ((box_below _ _ _).mono BB0.size)
  have s2 : (w.alloc (.cells #[] 3)).heap.size = w.heap.size + 1 := by simp
  rw [s2] at own3
  all_goals
    go_enter Tryz.func78, Tryz.ntmps78
    go_wp2_with (first | (at_builtin; refine wpList_app _ rfl _ _ _ rfl eI own3 rfl (HR.out.below BB2) rfl (by unfold maxLen; omega) (by omega) ?_; intro A4 n4 c4 W4 own4 B4; have BB4 := BB2.trans (B4.mono (Nat.le_succ _))) | (at_builtin; refine app1I _ rfl _ _ _ rfl eI own0 rfl (by decide) rfl (by first | rfl | simp) (by have q := own0.len; simp at q; unfold maxLen; omega) (by have q := own0.len; simp at q; omega) ?_; intro A6 n6 c6 W6 own6 B6; have BB6 := BB0.trans B6))
    all_goals
      go_ret2
      refine givesN_of ?_ (BB6) own6.room (fun t ht => ?_)
      · simp only [stp, Int.reduceEq, if_true, if_false, top_nil]
        first | rfl | (simp; done) | (split <;> simp <;> omega) | (split <;> simp_all; done) | (repeat' split) <;> simp_all
      · have e : t = [] ++ [2] := by
          simp only [stp, Int.reduceEq, if_true, if_false, top_nil] at ht
          first | exact (Option.some.inj ht).symm | (repeat' (split at ht)) <;> simp_all
        subst e
        exact own6.rd

set_option maxRecDepth 100000 in
set_option maxHeartbeats 2000000 in
theorem next44n (st : Int) (A : Option Addr) (n c : Nat) (s : List Int) (w : World) (R : Rd w w.heap.size .i64 A n s) (hc : n ≤ c) (hn : n ≤ 16384) (hk : Kn s) (hpos : 0 < n) :
    Calls Tryz.prog 78 #[.int .i64 st, .int .i64 44, .slice A n c] w (GivesN w (stp st 44 s)) := by
  have HR := Lib.hid R
  have HS : Hid (stp st 44 s = stp st 44 s) := Lib.hid rfl
  have own0 := Own.made w 3 .i64
  have BB0 : Below w.heap.size w (w.alloc (.cells #[] 3)) := (Below.refl _ _).alloc (Nat.le_refl _) _
  obtain ⟨m, rfl⟩ : ∃ m, n = m + 1 := ⟨n - 1, by omega⟩
  have HF := Lib.hid (R.front (c := c))
  obtain ⟨b1, o1, x, rfl, cx, _, _, hx⟩ := R.int (j := m) (by omega)
  have hxt : x = top s := by
    have h1 := hx.out
    have hl := R.len
    rw [show m = s.length - 1 by omega, ← List.getLast?_eq_getElem?] at h1
    rw [top, h1]; rfl
  have hl := R.len
  have HL := Lib.hid hl
  clear R hx
  have hxs := hk x (by rw [hxt]; exact (by rcases ends_of (show s ≠ [] from fun h => by subst h; simp at hl) with ⟨r, hr⟩; rw [hr, top_snoc]; simp))
  have HT := Lib.hid hxt.symm
  clear hxt hk hl
  have cx0 := cell_below (W := w) (W1 := w.alloc (.cells #[] 3)) (box_below _ _ _) cx
  rcases hxs with rfl | rfl | rfl
  all_goals
    go_enter Tryz.func78, Tryz.ntmps78
    go_wp2_with (first | (at_builtin; refine wpList_app _ rfl _ _ _ rfl eI own0 rfl (HF.out.below BB0) rfl (by unfold maxLen; omega) (by omega) ?_; intro A1 n1 c1 W1 own1 B1; have BB1 := BB0.trans B1; have BX := (Below.refl W1.heap.size W1).alloc (Nat.le_refl _) (.cells #[] 3); have own3 := Own.made W1 3 .i64; have BB2 := BB1.trans (BX.mono BB1.size)) | (at_builtin; refine wpList_app _ rfl _ _ _ rfl eI own3 rfl (HR.out.below BB2) rfl (by unfold maxLen; omega) (by omega) ?_; intro A4 n4 c4 W4 own4 B4; have BB4 := BB2.trans (B4.mono BB1.size)) | (at_builtin; refine app1I _ rfl _ _ _ rfl eI own1 rfl (by decide) rfl (by first | rfl | simp) (by have q := own1.len; have q2 := HL.out; simp at q; unfold maxLen; omega) (by have q := own1.len; have q2 := HL.out; simp at q; omega) ?_; intro A6 n6 c6 W6 own6 B6; have BB6 := BB1.trans B6))
    all_goals
      go_ret2
      refine givesN_of ?_ (BB6) own6.room (fun t ht => ?_)
      · simp only [stp, Int.reduceEq, if_true, if_false, HT.out]
        first | rfl | (simp; done) | (split <;> simp <;> omega) | (split <;> simp_all; done) | (repeat' split) <;> simp_all
      · have e : t = s.dropLast ++ [2] := by
          simp only [stp, Int.reduceEq, if_true, if_false, HT.out] at ht
          first | exact (Option.some.inj ht).symm | (repeat' (split at ht)) <;> simp_all
        subst e
        exact own6.rd

set_option maxRecDepth 100000 in
set_option maxHeartbeats 2000000 in
theorem next45e (st : Int) (A : Option Addr) (n c : Nat) (w : World) (R : Rd w w.heap.size .i64 A n []) (hc : n ≤ c) (hn : n ≤ 16384) :
    Calls Tryz.prog 78 #[.int .i64 st, .int .i64 45, .slice A n c] w (GivesN w (stp st 45 [])) := by
  have HR := Lib.hid R
  have HS : Hid (stp st 45 [] = stp st 45 []) := Lib.hid rfl
  have own0 := Own.made w 3 .i64
  have BB0 : Below w.heap.size w (w.alloc (.cells #[] 3)) := (Below.refl _ _).alloc (Nat.le_refl _) _
  obtain rfl : n = 0 := R.len.symm
  clear R
  have own3 := Own.made (w.alloc (.cells #[] 3)) 3 .i64
  have BB2 : Below w.heap.size w ((w.alloc (.cells #[] 3)).alloc (.cells #[] 3)) := BB0.trans ((box_below _ _ _).mono BB0.size)
  have s2 : (w.alloc (.cells #[] 3)).heap.size = w.heap.size + 1 := by simp
  rw [s2] at own3
  all_goals
    go_enter Tryz.func78, Tryz.ntmps78
    go_wp2_with (first | (at_builtin; refine wpList_app _ rfl _ _ _ rfl eI own3 rfl (HR.out.below BB2) rfl (by unfold maxLen; omega) (by omega) ?_; intro A4 n4 c4 W4 own4 B4; have BB4 := BB2.trans (B4.mono (Nat.le_succ _))))
    all_goals
      go_ret2
      refine givesN_of ?_ (BB0) own0.room (fun t ht => ?_)
      · simp only [stp, Int.reduceEq, if_true, if_false, top_nil]
        first | rfl | (simp; done) | (split <;> simp <;> omega) | (split <;> simp_all; done) | (repeat' split) <;> simp_all
      · have e : t = [] := by
          simp only [stp, Int.reduceEq, if_true, if_false, top_nil] at ht
          first | exact (Option.some.inj ht).symm | (repeat' (split at ht)) <;> simp_all
        subst e
        exact own0.rd

set_option maxRecDepth 100000 in
set_option maxHeartbeats 2000000 in
theorem next45n (st : Int) (A : Option Addr) (n c : Nat) (s : List Int) (w : World) (R : Rd w w.heap.size .i64 A n s) (hc : n ≤ c) (hn : n ≤ 16384) (hk : Kn s) (hpos : 0 < n) :
    Calls Tryz.prog 78 #[.int .i64 st, .int .i64 45, .slice A n c] w (GivesN w (stp st 45 s)) := by
  have HR := Lib.hid R
  have HS : Hid (stp st 45 s = stp st 45 s) := Lib.hid rfl
  have own0 := Own.made w 3 .i64
  have BB0 : Below w.heap.size w (w.alloc (.cells #[] 3)) := (Below.refl _ _).alloc (Nat.le_refl _) _
  obtain ⟨m, rfl⟩ : ∃ m, n = m + 1 := ⟨n - 1, by omega⟩
  have HF := Lib.hid (R.front (c := c))
  obtain ⟨b1, o1, x, rfl, cx, _, _, hx⟩ := R.int (j := m) (by omega)
  have hxt : x = top s := by
    have h1 := hx.out
    have hl := R.len
    rw [show m = s.length - 1 by omega, ← List.getLast?_eq_getElem?] at h1
    rw [top, h1]; rfl
  have hl := R.len
  have HL := Lib.hid hl
  clear R hx
  have hxs := hk x (by rw [hxt]; exact (by rcases ends_of (show s ≠ [] from fun h => by subst h; simp at hl) with ⟨r, hr⟩; rw [hr, top_snoc]; simp))
  have HT := Lib.hid hxt.symm
  clear hxt hk hl
  have cx0 := cell_below (W := w) (W1 := w.alloc (.cells #[] 3)) (box_below _ _ _) cx
  rcases hxs with rfl | rfl | rfl
  all_goals
    go_enter Tryz.func78, Tryz.ntmps78
    go_wp2_with (first | (at_builtin; refine wpList_app _ rfl _ _ _ rfl eI own0 rfl (HF.out.below BB0) rfl (by unfold maxLen; omega) (by omega) ?_; intro A1 n1 c1 W1 own1 B1; have BB1 := BB0.trans B1; have BX := (Below.refl W1.heap.size W1).alloc (Nat.le_refl _) (.cells #[] 3); have own3 := Own.made W1 3 .i64; have BB2 := BB1.trans (BX.mono BB1.size)) | (at_builtin; refine wpList_app _ rfl _ _ _ rfl eI own3 rfl (HR.out.below BB2) rfl (by unfold maxLen; omega) (by omega) ?_; intro A4 n4 c4 W4 own4 B4; have BB4 := BB2.trans (B4.mono BB1.size)))
    all_goals
      go_ret2
      refine givesN_of ?_ (BB1) own1.room (fun t ht => ?_)
      · simp only [stp, Int.reduceEq, if_true, if_false, HT.out]
        first | rfl | (simp; done) | (split <;> simp <;> omega) | (split <;> simp_all; done) | (repeat' split) <;> simp_all
      · have e : t = s.dropLast := by
          simp only [stp, Int.reduceEq, if_true, if_false, HT.out] at ht
          first | exact (Option.some.inj ht).symm | (repeat' (split at ht)) <;> simp_all
        subst e
        exact own1.rd

set_option maxRecDepth 100000 in
set_option maxHeartbeats 2000000 in
theorem next46e (st : Int) (A : Option Addr) (n c : Nat) (w : World) (R : Rd w w.heap.size .i64 A n []) (hc : n ≤ c) (hn : n ≤ 16384) :
    Calls Tryz.prog 78 #[.int .i64 st, .int .i64 46, .slice A n c] w (GivesN w (stp st 46 [])) := by
  have HR := Lib.hid R
  have HS : Hid (stp st 46 [] = stp st 46 []) := Lib.hid rfl
  have own0 := Own.made w 3 .i64
  have BB0 : Below w.heap.size w (w.alloc (.cells #[] 3)) := (Below.refl _ _).alloc (Nat.le_refl _) _
  obtain rfl : n = 0 := R.len.symm
  clear R
  have own3 := Own.made (w.alloc (.cells #[] 3)) 3 .i64
  have BB2 : Below w.heap.size w ((w.alloc (.cells #[] 3)).alloc (.cells #[] 3)) := BB0.trans ((box_below _ _ _).mono BB0.size)
  have s2 : (w.alloc (.cells #[] 3)).heap.size = w.heap.size + 1 := by simp
  rw [s2] at own3
  all_goals
    go_enter Tryz.func78, Tryz.ntmps78
    go_wp2_with (first | (at_builtin; refine wpList_app _ rfl _ _ _ rfl eI own3 rfl (HR.out.below BB2) rfl (by unfold maxLen; omega) (by omega) ?_; intro A4 n4 c4 W4 own4 B4; have BB4 := BB2.trans (B4.mono (Nat.le_succ _))) | (at_builtin; refine wpList_app1 _ rfl _ _ _ rfl eI own4 rfl (by decide) rfl (by have q := own4.len; simp at q; unfold maxLen; omega) (by have q := own4.len; simp at q; omega) ?_; intro A6 n6 c6 W6 own6 B6; have BB6 := BB4.trans (B6.mono (Nat.le_trans (Nat.le_succ _) (Nat.le_refl _)))) | (go_at_call 104; (with_reducible refine (rloops_b _ _ _ _ _ (HR.out.on BB6) (by omega)).mono ?_); rintro _ W5 ⟨rfl, B5⟩))
    all_goals
      go_ret2
      refine givesN_of ?_ (bon2 BB6 B5) own6.room (fun t ht => ?_)
      · simp only [stp, Int.reduceEq, if_true, if_false, top_nil]
        first | rfl | (simp; done) | (split <;> simp <;> omega) | (split <;> simp_all; done) | (repeat' split) <;> simp_all
      · have e : t = [] ++ [3] := by
          simp only [stp, Int.reduceEq, if_true, if_false, top_nil] at ht
          first | exact (Option.some.inj ht).symm | (repeat' (split at ht)) <;> simp_all
        subst e
        exact own6.rd.on B5

set_option maxRecDepth 100000 in
set_option maxHeartbeats 2000000 in
theorem next46n (st : Int) (A : Option Addr) (n c : Nat) (s : List Int) (w : World) (R : Rd w w.heap.size .i64 A n s) (hc : n ≤ c) (hn : n ≤ 16384) (hk : Kn s) (hpos : 0 < n) :
    Calls Tryz.prog 78 #[.int .i64 st, .int .i64 46, .slice A n c] w (GivesN w (stp st 46 s)) := by
  have HR := Lib.hid R
  have HS : Hid (stp st 46 s = stp st 46 s) := Lib.hid rfl
  have own0 := Own.made w 3 .i64
  have BB0 : Below w.heap.size w (w.alloc (.cells #[] 3)) := (Below.refl _ _).alloc (Nat.le_refl _) _
  obtain ⟨m, rfl⟩ : ∃ m, n = m + 1 := ⟨n - 1, by omega⟩
  have HF := Lib.hid (R.front (c := c))
  obtain ⟨b1, o1, x, rfl, cx, _, _, hx⟩ := R.int (j := m) (by omega)
  have hxt : x = top s := by
    have h1 := hx.out
    have hl := R.len
    rw [show m = s.length - 1 by omega, ← List.getLast?_eq_getElem?] at h1
    rw [top, h1]; rfl
  have hl := R.len
  have HL := Lib.hid hl
  clear R hx
  have hxs := hk x (by rw [hxt]; exact (by rcases ends_of (show s ≠ [] from fun h => by subst h; simp at hl) with ⟨r, hr⟩; rw [hr, top_snoc]; simp))
  have HT := Lib.hid hxt.symm
  clear hxt hk hl
  have cx0 := cell_below (W := w) (W1 := w.alloc (.cells #[] 3)) (box_below _ _ _) cx
  all_goals
    go_enter Tryz.func78, Tryz.ntmps78
    go_wp2_with (first | (at_builtin; refine wpList_app _ rfl _ _ _ rfl eI own0 rfl (HF.out.below BB0) rfl (by unfold maxLen; omega) (by omega) ?_; intro A1 n1 c1 W1 own1 B1; have BB1 := BB0.trans B1; have BX := (Below.refl W1.heap.size W1).alloc (Nat.le_refl _) (.cells #[] 3); have own3 := Own.made W1 3 .i64; have BB2 := BB1.trans (BX.mono BB1.size)) | (at_builtin; refine wpList_app _ rfl _ _ _ rfl eI own3 rfl (HR.out.below BB2) rfl (by unfold maxLen; omega) (by omega) ?_; intro A4 n4 c4 W4 own4 B4; have BB4 := BB2.trans (B4.mono BB1.size)) | (at_builtin; refine wpList_app1 _ rfl _ _ _ rfl eI own4 rfl (by decide) rfl (by have q := own4.len; have q2 := HL.out; simp at q; unfold maxLen; omega) (by have q := own4.len; have q2 := HL.out; simp at q; omega) ?_; intro A6 n6 c6 W6 own6 B6; have BB6 := BB4.trans (B6.mono (Nat.le_trans BB1.size (Nat.le_refl _)))) | (go_at_call 104; (with_reducible refine (rloops_b _ _ _ _ _ (HR.out.on BB6) (by omega)).mono ?_); rintro _ W5 ⟨rfl, B5⟩))
    all_goals
      go_ret2
      refine givesN_of ?_ (bon2 BB6 B5) own6.room (fun t ht => ?_)
      · simp only [stp, Int.reduceEq, if_true, if_false, HT.out]
        first | rfl | (simp; done) | (split <;> simp <;> omega) | (split <;> simp_all; done) | (repeat' split) <;> simp_all
      · have e : t = s ++ [3] := by
          simp only [stp, Int.reduceEq, if_true, if_false, HT.out] at ht
          first | exact (Option.some.inj ht).symm | (repeat' (split at ht)) <;> simp_all
        subst e
        exact own6.rd.on B5

set_option maxRecDepth 100000 in
set_option maxHeartbeats 2000000 in
theorem next47e (st : Int) (A : Option Addr) (n c : Nat) (w : World) (R : Rd w w.heap.size .i64 A n []) (hc : n ≤ c) (hn : n ≤ 16384) :
    Calls Tryz.prog 78 #[.int .i64 st, .int .i64 47, .slice A n c] w (GivesN w (stp st 47 [])) := by
  have HR := Lib.hid R
  have HS : Hid (stp st 47 [] = stp st 47 []) := Lib.hid rfl
  have own0 := Own.made w 3 .i64
  have BB0 : Below w.heap.size w (w.alloc (.cells #[] 3)) := (Below.refl _ _).alloc (Nat.le_refl _) _
  obtain rfl : n = 0 := R.len.symm
  clear R
  have own3 := Own.made (w.alloc (.cells #[] 3)) 3 .i64
  have BB2 : Below w.heap.size w ((w.alloc (.cells #[] 3)).alloc (.cells #[] 3)) := BB0.trans ((box_below _ _ _).mono BB0.size)
  have s2 : (w.alloc (.cells #[] 3)).heap.size = w.heap.size + 1 := by simp
  rw [s2] at own3
  all_goals
    go_enter Tryz.func78, Tryz.ntmps78
    go_wp2_with (first | (at_builtin; refine wpList_app _ rfl _ _ _ rfl eI own3 rfl (HR.out.below BB2) rfl (by unfold maxLen; omega) (by omega) ?_; intro A4 n4 c4 W4 own4 B4; have BB4 := BB2.trans (B4.mono (Nat.le_succ _))) | (go_at_call 104; (with_reducible refine (rloops_b _ _ _ _ _ (HR.out.on BB0) (by omega)).mono ?_); rintro _ W5 ⟨rfl, B5⟩))
    all_goals
      go_ret2
      refine givesN_of ?_ (bon2 BB0 B5) hc (fun t ht => ?_)
      · simp only [stp, Int.reduceEq, if_true, if_false, top_nil]
        first | rfl | (simp; done) | (split <;> simp <;> omega) | (split <;> simp_all; done) | (repeat' split) <;> simp_all
      · have e : t = [] := by
          simp only [stp, Int.reduceEq, if_true, if_false, top_nil] at ht
          first | exact (Option.some.inj ht).symm | (repeat' (split at ht)) <;> simp_all
        subst e
        exact HR.out.on (bon2 BB0 B5)

set_option maxRecDepth 100000 in
set_option maxHeartbeats 2000000 in
theorem next47n (st : Int) (A : Option Addr) (n c : Nat) (s : List Int) (w : World) (R : Rd w w.heap.size .i64 A n s) (hc : n ≤ c) (hn : n ≤ 16384) (hk : Kn s) (hpos : 0 < n) :
    Calls Tryz.prog 78 #[.int .i64 st, .int .i64 47, .slice A n c] w (GivesN w (stp st 47 s)) := by
  have HR := Lib.hid R
  have HS : Hid (stp st 47 s = stp st 47 s) := Lib.hid rfl
  have own0 := Own.made w 3 .i64
  have BB0 : Below w.heap.size w (w.alloc (.cells #[] 3)) := (Below.refl _ _).alloc (Nat.le_refl _) _
  obtain ⟨m, rfl⟩ : ∃ m, n = m + 1 := ⟨n - 1, by omega⟩
  have HF := Lib.hid (R.front (c := c))
  obtain ⟨b1, o1, x, rfl, cx, _, _, hx⟩ := R.int (j := m) (by omega)
  have hxt : x = top s := by
    have h1 := hx.out
    have hl := R.len
    rw [show m = s.length - 1 by omega, ← List.getLast?_eq_getElem?] at h1
    rw [top, h1]; rfl
  have hl := R.len
  have HL := Lib.hid hl
  clear R hx
  have hxs := hk x (by rw [hxt]; exact (by rcases ends_of (show s ≠ [] from fun h => by subst h; simp at hl) with ⟨r, hr⟩; rw [hr, top_snoc]; simp))
  have HT := Lib.hid hxt.symm
  clear hxt hk hl
  have cx0 := cell_below (W := w) (W1 := w.alloc (.cells #[] 3)) (box_below _ _ _) cx
  all_goals
    go_enter Tryz.func78, Tryz.ntmps78
    go_wp2_with (first | (at_builtin; refine wpList_app _ rfl _ _ _ rfl eI own0 rfl (HF.out.below BB0) rfl (by unfold maxLen; omega) (by omega) ?_; intro A1 n1 c1 W1 own1 B1; have BB1 := BB0.trans B1; have BX := (Below.refl W1.heap.size W1).alloc (Nat.le_refl _) (.cells #[] 3); have own3 := Own.made W1 3 .i64; have BB2 := BB1.trans (BX.mono BB1.size)) | (at_builtin; refine wpList_app _ rfl _ _ _ rfl eI own3 rfl (HR.out.below BB2) rfl (by unfold maxLen; omega) (by omega) ?_; intro A4 n4 c4 W4 own4 B4; have BB4 := BB2.trans (B4.mono BB1.size)) | (go_at_call 104; (with_reducible refine (rloops_b _ _ _ _ _ (HR.out.on BB1) (by omega)).mono ?_); rintro _ W5 ⟨rfl, B5⟩))
    all_goals
      go_ret2
      refine givesN_of ?_ (bon2 BB1 B5) hc (fun t ht => ?_)
      · simp only [stp, Int.reduceEq, if_true, if_false, HT.out]
        first | rfl | (simp; done) | (split <;> simp <;> omega) | (split <;> simp_all; done) | (repeat' split) <;> simp_all
      · have e : t = s := by
          simp only [stp, Int.reduceEq, if_true, if_false, HT.out] at ht
          first | exact (Option.some.inj ht).symm | (repeat' (split at ht)) <;> simp_all
        subst e
        exact HR.out.on (bon2 BB1 B5)

set_option maxRecDepth 100000 in
set_option maxHeartbeats 2000000 in
theorem next48e (st : Int) (A : Option Addr) (n c : Nat) (w : World) (R : Rd w w.heap.size .i64 A n []) (hc : n ≤ c) (hn : n ≤ 16384) :
    Calls Tryz.prog 78 #[.int .i64 st, .int .i64 48, .slice A n c] w (GivesN w (stp st 48 [])) := by
  have HR := Lib.hid R
  have HS : Hid (stp st 48 [] = stp st 48 []) := Lib.hid rfl
  have own0 := Own.made w 3 .i64
  have BB0 : Below w.heap.size w (w.alloc (.cells #[] 3)) := (Below.refl _ _).alloc (Nat.le_refl _) _
  obtain rfl : n = 0 := R.len.symm
  clear R
  have own3 := Own.made (w.alloc (.cells #[] 3)) 3 .i64
  have BB2 : Below w.heap.size w ((w.alloc (.cells #[] 3)).alloc (.cells #[] 3)) := BB0.trans ((box_below _ _ _).mono BB0.size)
  have s2 : (w.alloc (.cells #[] 3)).heap.size = w.heap.size + 1 := by simp
  rw [s2] at own3
  all_goals
    go_enter Tryz.func78, Tryz.ntmps78
    go_wp2_with (first | (at_builtin; refine wpList_app _ rfl _ _ _ rfl eI own3 rfl (HR.out.below BB2) rfl (by unfold maxLen; omega) (by omega) ?_; intro A4 n4 c4 W4 own4 B4; have BB4 := BB2.trans (B4.mono (Nat.le_succ _))) | (go_at_call 104; (with_reducible refine (rloops_b _ _ _ _ _ (HR.out.on BB0) (by omega)).mono ?_); rintro _ W5 ⟨rfl, B5⟩))
    all_goals
      go_ret2
      refine givesN_of ?_ (bon2 BB0 B5) hc (fun t ht => ?_)
      · simp only [stp, Int.reduceEq, if_true, if_false, top_nil]
        first | rfl | (simp; done) | (split <;> simp <;> omega) | (split <;> simp_all; done) | (repeat' split) <;> simp_all
      · have e : t = [] := by
          simp only [stp, Int.reduceEq, if_true, if_false, top_nil] at ht
          first | exact (Option.some.inj ht).symm | (repeat' (split at ht)) <;> simp_all
        subst e
        exact HR.out.on (bon2 BB0 B5)

set_option maxRecDepth 100000 in
set_option maxHeartbeats 2000000 in
theorem next48n (st : Int) (A : Option Addr) (n c : Nat) (s : List Int) (w : World) (R : Rd w w.heap.size .i64 A n s) (hc : n ≤ c) (hn : n ≤ 16384) (hk : Kn s) (hpos : 0 < n) :
    Calls Tryz.prog 78 #[.int .i64 st, .int .i64 48, .slice A n c] w (GivesN w (stp st 48 s)) := by
  have HR := Lib.hid R
  have HS : Hid (stp st 48 s = stp st 48 s) := Lib.hid rfl
  have own0 := Own.made w 3 .i64
  have BB0 : Below w.heap.size w (w.alloc (.cells #[] 3)) := (Below.refl _ _).alloc (Nat.le_refl _) _
  obtain ⟨m, rfl⟩ : ∃ m, n = m + 1 := ⟨n - 1, by omega⟩
  have HF := Lib.hid (R.front (c := c))
  obtain ⟨b1, o1, x, rfl, cx, _, _, hx⟩ := R.int (j := m) (by omega)
  have hxt : x = top s := by
    have h1 := hx.out
    have hl := R.len
    rw [show m = s.length - 1 by omega, ← List.getLast?_eq_getElem?] at h1
    rw [top, h1]; rfl
  have hl := R.len
  have HL := Lib.hid hl
  clear R hx
  have hxs := hk x (by rw [hxt]; exact (by rcases ends_of (show s ≠ [] from fun h => by subst h; simp at hl) with ⟨r, hr⟩; rw [hr, top_snoc]; simp))
  have HT := Lib.hid hxt.symm
  clear hxt hk hl
  have cx0 := cell_below (W := w) (W1 := w.alloc (.cells #[] 3)) (box_below _ _ _) cx
  all_goals
    go_enter Tryz.func78, Tryz.ntmps78
    go_wp2_with (first | (at_builtin; refine wpList_app _ rfl _ _ _ rfl eI own0 rfl (HF.out.below BB0) rfl (by unfold maxLen; omega) (by omega) ?_; intro A1 n1 c1 W1 own1 B1; have BB1 := BB0.trans B1; have BX := (Below.refl W1.heap.size W1).alloc (Nat.le_refl _) (.cells #[] 3); have own3 := Own.made W1 3 .i64; have BB2 := BB1.trans (BX.mono BB1.size)) | (at_builtin; refine wpList_app _ rfl _ _ _ rfl eI own3 rfl (HR.out.below BB2) rfl (by unfold maxLen; omega) (by omega) ?_; intro A4 n4 c4 W4 own4 B4; have BB4 := BB2.trans (B4.mono BB1.size)) | (go_at_call 104; (with_reducible refine (rloops_b _ _ _ _ _ (HR.out.on BB1) (by omega)).mono ?_); rintro _ W5 ⟨rfl, B5⟩))
    all_goals
      go_ret2
      refine givesN_of ?_ (bon2 BB1 B5) hc (fun t ht => ?_)
      · simp only [stp, Int.reduceEq, if_true, if_false, HT.out]
        first | rfl | (simp; done) | (split <;> simp <;> omega) | (split <;> simp_all; done) | (repeat' split) <;> simp_all
      · have e : t = s := by
          simp only [stp, Int.reduceEq, if_true, if_false, HT.out] at ht
          first | exact (Option.some.inj ht).symm | (repeat' (split at ht)) <;> simp_all
        subst e
        exact HR.out.on (bon2 BB1 B5)

set_option maxRecDepth 100000 in
set_option maxHeartbeats 2000000 in
theorem next49e (st : Int) (A : Option Addr) (n c : Nat) (w : World) (R : Rd w w.heap.size .i64 A n []) (hc : n ≤ c) (hn : n ≤ 16384) :
    Calls Tryz.prog 78 #[.int .i64 st, .int .i64 49, .slice A n c] w (GivesN w (stp st 49 [])) := by
  have HR := Lib.hid R
  have HS : Hid (stp st 49 [] = stp st 49 []) := Lib.hid rfl
  have own0 := Own.made w 3 .i64
  have BB0 : Below w.heap.size w (w.alloc (.cells #[] 3)) := (Below.refl _ _).alloc (Nat.le_refl _) _
  obtain rfl : n = 0 := R.len.symm
  clear R
  have own3 := Own.made (w.alloc (.cells #[] 3)) 3 .i64
  have BB2 : Below w.heap.size w ((w.alloc (.cells #[] 3)).alloc (.cells #[] 3)) := BB0.trans ((box_below _ _ _).mono BB0.size)
  have s2 : (w.alloc (.cells #[] 3)).heap.size = w.heap.size + 1 := by simp
  rw [s2] at own3
  all_goals
    go_enter Tryz.func78, Tryz.ntmps78
    go_wp2_with (first | (at_builtin; refine wpList_app _ rfl _ _ _ rfl eI own3 rfl (HR.out.below BB2) rfl (by unfold maxLen; omega) (by omega) ?_; intro A4 n4 c4 W4 own4 B4; have BB4 := BB2.trans (B4.mono (Nat.le_succ _))))
    all_goals
      go_ret2
      refine givesN_of ?_ (BB0) own0.room (fun t ht => ?_)
      · simp only [stp, Int.reduceEq, if_true, if_false, top_nil]
        first | rfl | (simp; done) | (split <;> simp <;> omega) | (split <;> simp_all; done) | (repeat' split) <;> simp_all
      · have e : t = [] := by
          simp only [stp, Int.reduceEq, if_true, if_false, top_nil] at ht
          first | exact (Option.some.inj ht).symm | (repeat' (split at ht)) <;> simp_all
        subst e
        exact own0.rd

set_option maxRecDepth 100000 in
set_option maxHeartbeats 2000000 in
theorem next49n (st : Int) (A : Option Addr) (n c : Nat) (s : List Int) (w : World) (R : Rd w w.heap.size .i64 A n s) (hc : n ≤ c) (hn : n ≤ 16384) (hk : Kn s) (hpos : 0 < n) :
    Calls Tryz.prog 78 #[.int .i64 st, .int .i64 49, .slice A n c] w (GivesN w (stp st 49 s)) := by
  have HR := Lib.hid R
  have HS : Hid (stp st 49 s = stp st 49 s) := Lib.hid rfl
  have own0 := Own.made w 3 .i64
  have BB0 : Below w.heap.size w (w.alloc (.cells #[] 3)) := (Below.refl _ _).alloc (Nat.le_refl _) _
  obtain ⟨m, rfl⟩ : ∃ m, n = m + 1 := ⟨n - 1, by omega⟩
  have HF := Lib.hid (R.front (c := c))
  obtain ⟨b1, o1, x, rfl, cx, _, _, hx⟩ := R.int (j := m) (by omega)
  have hxt : x = top s := by
    have h1 := hx.out
    have hl := R.len
    rw [show m = s.length - 1 by omega, ← List.getLast?_eq_getElem?] at h1
    rw [top, h1]; rfl
  have hl := R.len
  have HL := Lib.hid hl
  clear R hx
  have hxs := hk x (by rw [hxt]; exact (by rcases ends_of (show s ≠ [] from fun h => by subst h; simp at hl) with ⟨r, hr⟩; rw [hr, top_snoc]; simp))
  have HT := Lib.hid hxt.symm
  clear hxt hk hl
  have cx0 := cell_below (W := w) (W1 := w.alloc (.cells #[] 3)) (box_below _ _ _) cx
  rcases hxs with rfl | rfl | rfl
  all_goals
    go_enter Tryz.func78, Tryz.ntmps78
    go_wp2_with (first | (at_builtin; refine wpList_app _ rfl _ _ _ rfl eI own0 rfl (HF.out.below BB0) rfl (by unfold maxLen; omega) (by omega) ?_; intro A1 n1 c1 W1 own1 B1; have BB1 := BB0.trans B1; have BX := (Below.refl W1.heap.size W1).alloc (Nat.le_refl _) (.cells #[] 3); have own3 := Own.made W1 3 .i64; have BB2 := BB1.trans (BX.mono BB1.size)) | (at_builtin; refine wpList_app _ rfl _ _ _ rfl eI own3 rfl (HR.out.below BB2) rfl (by unfold maxLen; omega) (by omega) ?_; intro A4 n4 c4 W4 own4 B4; have BB4 := BB2.trans (B4.mono BB1.size)))
    all_goals
      go_ret2
      refine givesN_of ?_ (BB1) own1.room (fun t ht => ?_)
      · simp only [stp, Int.reduceEq, if_true, if_false, HT.out]
        first | rfl | (simp; done) | (split <;> simp <;> omega) | (split <;> simp_all; done) | (repeat' split) <;> simp_all
      · have e : t = s.dropLast := by
          simp only [stp, Int.reduceEq, if_true, if_false, HT.out] at ht
          first | exact (Option.some.inj ht).symm | (repeat' (split at ht)) <;> simp_all
        subst e
        exact own1.rd

set_option maxRecDepth 100000 in
set_option maxHeartbeats 2000000 in
theorem next50e (st : Int) (A : Option Addr) (n c : Nat) (w : World) (R : Rd w w.heap.size .i64 A n []) (hc : n ≤ c) (hn : n ≤ 16384) :
    Calls Tryz.prog 78 #[.int .i64 st, .int .i64 50, .slice A n c] w (GivesN w (stp st 50 [])) := by
  have HR := Lib.hid R
  have HS : Hid (stp st 50 [] = stp st 50 []) := Lib.hid rfl
  have own0 := Own.made w 3 .i64
  have BB0 : Below w.heap.size w (w.alloc (.cells #[] 3)) := (Below.refl _ _).alloc (Nat.le_refl _) _
  obtain rfl : n = 0 := R.len.symm
  clear R
  have own3 := Own.made (w.alloc (.cells #[] 3)) 3 .i64
  have BB2 : Below w.heap.size w ((w.alloc (.cells #[] 3)).alloc (.cells #[] 3)) := BB0.trans ((box_below _ _ _).mono BB0.size)
  have s2 : (w.alloc (.cells #[] 3)).heap.size = w.heap.size + 1 := by simp
  rw [s2] at own3
  all_goals
    go_enter Tryz.func78, Tryz.ntmps78
    go_wp2_with (first | (at_builtin; refine wpList_app _ rfl _ _ _ rfl eI own3 rfl (HR.out.below BB2) rfl (by unfold maxLen; omega) (by omega) ?_; intro A4 n4 c4 W4 own4 B4; have BB4 := BB2.trans (B4.mono (Nat.le_succ _))))
    all_goals
      go_ret2
      refine givesN_of ?_ (BB0) hc (fun t ht => ?_)
      · simp only [stp, Int.reduceEq, if_true, if_false, top_nil]
        first | rfl | (simp; done) | (split <;> simp <;> omega) | (split <;> simp_all; done) | (repeat' split) <;> simp_all
      · have e : t = [] := by
          simp only [stp, Int.reduceEq, if_true, if_false, top_nil] at ht
          first | exact (Option.some.inj ht).symm | (repeat' (split at ht)) <;> simp_all
        subst e
        exact HR.out.on BB0

set_option maxRecDepth 100000 in
set_option maxHeartbeats 2000000 in
theorem next50n (st : Int) (A : Option Addr) (n c : Nat) (s : List Int) (w : World) (R : Rd w w.heap.size .i64 A n s) (hc : n ≤ c) (hn : n ≤ 16384) (hk : Kn s) (hpos : 0 < n) :
    Calls Tryz.prog 78 #[.int .i64 st, .int .i64 50, .slice A n c] w (GivesN w (stp st 50 s)) := by
  have HR := Lib.hid R
  have HS : Hid (stp st 50 s = stp st 50 s) := Lib.hid rfl
  have own0 := Own.made w 3 .i64
  have BB0 : Below w.heap.size w (w.alloc (.cells #[] 3)) := (Below.refl _ _).alloc (Nat.le_refl _) _
  obtain ⟨m, rfl⟩ : ∃ m, n = m + 1 := ⟨n - 1, by omega⟩
  have HF := Lib.hid (R.front (c := c))
  obtain ⟨b1, o1, x, rfl, cx, _, _, hx⟩ := R.int (j := m) (by omega)
  have hxt : x = top s := by
    have h1 := hx.out
    have hl := R.len
    rw [show m = s.length - 1 by omega, ← List.getLast?_eq_getElem?] at h1
    rw [top, h1]; rfl
  have hl := R.len
  have HL := Lib.hid hl
  clear R hx
  have hxs := hk x (by rw [hxt]; exact (by rcases ends_of (show s ≠ [] from fun h => by subst h; simp at hl) with ⟨r, hr⟩; rw [hr, top_snoc]; simp))
  have HT := Lib.hid hxt.symm
  clear hxt hk hl
  have cx0 := cell_below (W := w) (W1 := w.alloc (.cells #[] 3)) (box_below _ _ _) cx
  all_goals
    go_enter Tryz.func78, Tryz.ntmps78
    go_wp2_with (first | (at_builtin; refine wpList_app _ rfl _ _ _ rfl eI own0 rfl (HF.out.below BB0) rfl (by unfold maxLen; omega) (by omega) ?_; intro A1 n1 c1 W1 own1 B1; have BB1 := BB0.trans B1; have BX := (Below.refl W1.heap.size W1).alloc (Nat.le_refl _) (.cells #[] 3); have own3 := Own.made W1 3 .i64; have BB2 := BB1.trans (BX.mono BB1.size)) | (at_builtin; refine wpList_app _ rfl _ _ _ rfl eI own3 rfl (HR.out.below BB2) rfl (by unfold maxLen; omega) (by omega) ?_; intro A4 n4 c4 W4 own4 B4; have BB4 := BB2.trans (B4.mono BB1.size)))
    all_goals
      go_ret2
      refine givesN_of ?_ (BB1) hc (fun t ht => ?_)
      · simp only [stp, Int.reduceEq, if_true, if_false, HT.out]
        first | rfl | (simp; done) | (split <;> simp <;> omega) | (split <;> simp_all; done) | (repeat' split) <;> simp_all
      · have e : t = s := by
          simp only [stp, Int.reduceEq, if_true, if_false, HT.out] at ht
          first | exact (Option.some.inj ht).symm | (repeat' (split at ht)) <;> simp_all
        subst e
        exact HR.out.on BB1

set_option maxRecDepth 100000 in
set_option maxHeartbeats 2000000 in
theorem next51e (st : Int) (A : Option Addr) (n c : Nat) (w : World) (R : Rd w w.heap.size .i64 A n []) (hc : n ≤ c) (hn : n ≤ 16384) :
    Calls Tryz.prog 78 #[.int .i64 st, .int .i64 51, .slice A n c] w (GivesN w (stp st 51 [])) := by
  have HR := Lib.hid R
  have HS : Hid (stp st 51 [] = stp st 51 []) := Lib.hid rfl
  have own0 := Own.made w 3 .i64
  have BB0 : Below w.heap.size w (w.alloc (.cells #[] 3)) := (Below.refl _ _).alloc (Nat.le_refl _) _
  obtain rfl : n = 0 := R.len.symm
  clear R
  have own3 := Own.made (w.alloc (.cells #[] 3)) 3 .i64
  have BB2 : Below w.heap.size w ((w.alloc (.cells #[] 3)).alloc (.cells #[] 3)) := BB0.trans ((box_below _ _ _).mono BB0.size)
  have s2 : (w.alloc (.cells #[] 3)).heap.size = w.heap.size + 1 := by simp
  rw [s2] at own3
  all_goals
    go_enter Tryz.func78, Tryz.ntmps78
    go_wp2_with (first | (at_builtin; refine wpList_app _ rfl _ _ _ rfl eI own3 rfl (HR.out.below BB2) rfl (by unfold maxLen; omega) (by omega) ?_; intro A4 n4 c4 W4 own4 B4; have BB4 := BB2.trans (B4.mono (Nat.le_succ _))))
    all_goals
      go_ret2
      refine givesN_of ?_ (BB0) hc (fun t ht => ?_)
      · simp only [stp, Int.reduceEq, if_true, if_false, top_nil]
        first | rfl | (simp; done) | (split <;> simp <;> omega) | (split <;> simp_all; done) | (repeat' split) <;> simp_all
      · have e : t = [] := by
          simp only [stp, Int.reduceEq, if_true, if_false, top_nil] at ht
          first | exact (Option.some.inj ht).symm | (repeat' (split at ht)) <;> simp_all
        subst e
        exact HR.out.on BB0

set_option maxRecDepth 100000 in
set_option maxHeartbeats 2000000 in
theorem next51n (st : Int) (A : Option Addr) (n c : Nat) (s : List Int) (w : World) (R : Rd w w.heap.size .i64 A n s) (hc : n ≤ c) (hn : n ≤ 16384) (hk : Kn s) (hpos : 0 < n) :
    Calls Tryz.prog 78 #[.int .i64 st, .int .i64 51, .slice A n c] w (GivesN w (stp st 51 s)) := by
  have HR := Lib.hid R
  have HS : Hid (stp st 51 s = stp st 51 s) := Lib.hid rfl
  have own0 := Own.made w 3 .i64
  have BB0 : Below w.heap.size w (w.alloc (.cells #[] 3)) := (Below.refl _ _).alloc (Nat.le_refl _) _
  obtain ⟨m, rfl⟩ : ∃ m, n = m + 1 := ⟨n - 1, by omega⟩
  have HF := Lib.hid (R.front (c := c))
  obtain ⟨b1, o1, x, rfl, cx, _, _, hx⟩ := R.int (j := m) (by omega)
  have hxt : x = top s := by
    have h1 := hx.out
    have hl := R.len
    rw [show m = s.length - 1 by omega, ← List.getLast?_eq_getElem?] at h1
    rw [top, h1]; rfl
  have hl := R.len
  have HL := Lib.hid hl
  clear R hx
  have hxs := hk x (by rw [hxt]; exact (by rcases ends_of (show s ≠ [] from fun h => by subst h; simp at hl) with ⟨r, hr⟩; rw [hr, top_snoc]; simp))
  have HT := Lib.hid hxt.symm
  clear hxt hk hl
  have cx0 := cell_below (W := w) (W1 := w.alloc (.cells #[] 3)) (box_below _ _ _) cx
  all_goals
    go_enter Tryz.func78, Tryz.ntmps78
    go_wp2_with (first | (at_builtin; refine wpList_app _ rfl _ _ _ rfl eI own0 rfl (HF.out.below BB0) rfl (by unfold maxLen; omega) (by omega) ?_; intro A1 n1 c1 W1 own1 B1; have BB1 := BB0.trans B1; have BX := (Below.refl W1.heap.size W1).alloc (Nat.le_refl _) (.cells #[] 3); have own3 := Own.made W1 3 .i64; have BB2 := BB1.trans (BX.mono BB1.size)) | (at_builtin; refine wpList_app _ rfl _ _ _ rfl eI own3 rfl (HR.out.below BB2) rfl (by unfold maxLen; omega) (by omega) ?_; intro A4 n4 c4 W4 own4 B4; have BB4 := BB2.trans (B4.mono BB1.size)))
    all_goals
      go_ret2
      refine givesN_of ?_ (BB1) hc (fun t ht => ?_)
      · simp only [stp, Int.reduceEq, if_true, if_false, HT.out]
        first | rfl | (simp; done) | (split <;> simp <;> omega) | (split <;> simp_all; done) | (repeat' split) <;> simp_all
      · have e : t = s := by
          simp only [stp, Int.reduceEq, if_true, if_false, HT.out] at ht
          first | exact (Option.some.inj ht).symm | (repeat' (split at ht)) <;> simp_all
        subst e
        exact HR.out.on BB1

set_option maxRecDepth 100000 in
set_option maxHeartbeats 2000000 in
theorem next52e (st : Int) (A : Option Addr) (n c : Nat) (w : World) (R : Rd w w.heap.size .i64 A n []) (hc : n ≤ c) (hn : n ≤ 16384) :
    Calls Tryz.prog 78 #[.int .i64 st, .int .i64 52, .slice A n c] w (GivesN w (stp st 52 [])) := by
  have HR := Lib.hid R
  have HS : Hid (stp st 52 [] = stp st 52 []) := Lib.hid rfl
  have own0 := Own.made w 3 .i64
  have BB0 : Below w.heap.size w (w.alloc (.cells #[] 3)) := (Below.refl _ _).alloc (Nat.le_refl _) _
  obtain rfl : n = 0 := R.len.symm
  clear R
  have own3 := Own.made (w.alloc (.cells #[] 3)) 3 .i64
  have BB2 : Below w.heap.size w ((w.alloc (.cells #[] 3)).alloc (.cells #[] 3)) := BB0.trans ((box_below _ _ _).mono BB0.size)
  have s2 : (w.alloc (.cells #[] 3)).heap.size = w.heap.size + 1 := by simp
  rw [s2] at own3
  all_goals
    go_enter Tryz.func78, Tryz.ntmps78
    go_wp2_with (first | (at_builtin; refine wpList_app _ rfl _ _ _ rfl eI own3 rfl (HR.out.below BB2) rfl (by unfold maxLen; omega) (by omega) ?_; intro A4 n4 c4 W4 own4 B4; have BB4 := BB2.trans (B4.mono (Nat.le_succ _))))
    all_goals
      go_ret2
      refine givesN_of ?_ (BB0) hc (fun t ht => ?_)
      · simp only [stp, Int.reduceEq, if_true, if_false, top_nil]
        first | rfl | (simp; done) | (split <;> simp <;> omega) | (split <;> simp_all; done) | (repeat' split) <;> simp_all
      · have e : t = [] := by
          simp only [stp, Int.reduceEq, if_true, if_false, top_nil] at ht
          first | exact (Option.some.inj ht).symm | (repeat' (split at ht)) <;> simp_all
        subst e
        exact HR.out.on BB0

set_option maxRecDepth 100000 in
set_option maxHeartbeats 2000000 in
theorem next52n (st : Int) (A : Option Addr) (n c : Nat) (s : List Int) (w : World) (R : Rd w w.heap.size .i64 A n s) (hc : n ≤ c) (hn : n ≤ 16384) (hk : Kn s) (hpos : 0 < n) :
    Calls Tryz.prog 78 #[.int .i64 st, .int .i64 52, .slice A n c] w (GivesN w (stp st 52 s)) := by
  have HR := Lib.hid R
  have HS : Hid (stp st 52 s = stp st 52 s) := Lib.hid rfl
  have own0 := Own.made w 3 .i64
  have BB0 : Below w.heap.size w (w.alloc (.cells #[] 3)) := (Below.refl _ _).alloc (Nat.le_refl _) _
  obtain ⟨m, rfl⟩ : ∃ m, n = m + 1 := ⟨n - 1, by omega⟩
  have HF := Lib.hid (R.front (c := c))
  obtain ⟨b1, o1, x, rfl, cx, _, _, hx⟩ := R.int (j := m) (by omega)
  have hxt : x = top s := by
    have h1 := hx.out
    have hl := R.len
    rw [show m = s.length - 1 by omega, ← List.getLast?_eq_getElem?] at h1
    rw [top, h1]; rfl
  have hl := R.len
  have HL := Lib.hid hl
  clear R hx
  have hxs := hk x (by rw [hxt]; exact (by rcases ends_of (show s ≠ [] from fun h => by subst h; simp at hl) with ⟨r, hr⟩; rw [hr, top_snoc]; simp))
  have HT := Lib.hid hxt.symm
  clear hxt hk hl
  have cx0 := cell_below (W := w) (W1 := w.alloc (.cells #[] 3)) (box_below _ _ _) cx
  all_goals
    go_enter Tryz.func78, Tryz.ntmps78
    go_wp2_with (first | (at_builtin; refine wpList_app _ rfl _ _ _ rfl eI own0 rfl (HF.out.below BB0) rfl (by unfold maxLen; omega) (by omega) ?_; intro A1 n1 c1 W1 own1 B1; have BB1 := BB0.trans B1; have BX := (Below.refl W1.heap.size W1).alloc (Nat.le_refl _) (.cells #[] 3); have own3 := Own.made W1 3 .i64; have BB2 := BB1.trans (BX.mono BB1.size)) | (at_builtin; refine wpList_app _ rfl _ _ _ rfl eI own3 rfl (HR.out.below BB2) rfl (by unfold maxLen; omega) (by omega) ?_; intro A4 n4 c4 W4 own4 B4; have BB4 := BB2.trans (B4.mono BB1.size)))
    all_goals
      go_ret2
      refine givesN_of ?_ (BB1) hc (fun t ht => ?_)
      · simp only [stp, Int.reduceEq, if_true, if_false, HT.out]
        first | rfl | (simp; done) | (split <;> simp <;> omega) | (split <;> simp_all; done) | (repeat' split) <;> simp_all
      · have e : t = s := by
          simp only [stp, Int.reduceEq, if_true, if_false, HT.out] at ht
          first | exact (Option.some.inj ht).symm | (repeat' (split at ht)) <;> simp_all
        subst e
        exact HR.out.on BB1

set_option maxRecDepth 100000 in
set_option maxHeartbeats 2000000 in
theorem next0e (st : Int) (o : Int) (h43 : o ≠ 43) (h44 : o ≠ 44) (h45 : o ≠ 45) (h46 : o ≠ 46) (h47 : o ≠ 47) (h48 : o ≠ 48) (h49 : o ≠ 49) (h50 : o ≠ 50) (h51 : o ≠ 51) (h52 : o ≠ 52) (A : Option Addr) (n c : Nat) (w : World) (R : Rd w w.heap.size .i64 A n []) (hc : n ≤ c) (hn : n ≤ 16384) :
    Calls Tryz.prog 78 #[.int .i64 st, .int .i64 o, .slice A n c] w (GivesN w (stp st o [])) := by
  have HR := Lib.hid R
  have n43 : (o == 43) = false := by simpa using h43
  have n44 : (o == 44) = false := by simpa using h44
  have n45 : (o == 45) = false := by simpa using h45
  have n46 : (o == 46) = false := by simpa using h46
  have n47 : (o == 47) = false := by simpa using h47
  have n48 : (o == 48) = false := by simpa using h48
  have n49 : (o == 49) = false := by simpa using h49
  have n50 : (o == 50) = false := by simpa using h50
  have n51 : (o == 51) = false := by simpa using h51
  have n52 : (o == 52) = false := by simpa using h52
  have HS : Hid (stp st o [] = some []) := Lib.hid (by unfold stp; rw [if_neg h43]; rw [if_neg h44]; rw [if_neg h45]; rw [if_neg h46]; rw [if_neg h49]; rw [if_neg h47]; rw [if_neg h48]; rw [if_neg h50]; rw [if_neg h51]; rw [if_neg h52])
  clear h43 h44 h45 h46 h47 h48 h49 h50 h51 h52
  have own0 := Own.made w 3 .i64
  have BB0 : Below w.heap.size w (w.alloc (.cells #[] 3)) := (Below.refl _ _).alloc (Nat.le_refl _) _
  obtain rfl : n = 0 := R.len.symm
  clear R
  have own3 := Own.made (w.alloc (.cells #[] 3)) 3 .i64
  have BB2 : Below w.heap.size w ((w.alloc (.cells #[] 3)).alloc (.cells #[] 3)) := BB0.trans ((box_below _ _ _).mono BB0.size)
  have s2 : (w.alloc (.cells #[] 3)).heap.size = w.heap.size + 1 := by simp
  rw [s2] at own3
  go_enter Tryz.func78, Tryz.ntmps78
  go_wp2_with (first | (at_builtin; refine wpList_app _ rfl _ _ _ rfl eI own3 rfl (HR.out.below BB2) rfl (by unfold maxLen; omega) (by omega) ?_; intro A4 n4 c4 W4 own4 B4; have BB4 := BB2.trans (B4.mono (Nat.le_succ _))))
  all_goals go_ret2
  all_goals (rw [HS.out]; exact givesN_of rfl (BB0) hc (fun t ht => by cases ht; exact HR.out.on BB0))

set_option maxRecDepth 100000 in
set_option maxHeartbeats 2000000 in
theorem next0n (st : Int) (o : Int) (h43 : o ≠ 43) (h44 : o ≠ 44) (h45 : o ≠ 45) (h46 : o ≠ 46) (h47 : o ≠ 47) (h48 : o ≠ 48) (h49 : o ≠ 49) (h50 : o ≠ 50) (h51 : o ≠ 51) (h52 : o ≠ 52) (A : Option Addr) (n c : Nat) (s : List Int) (w : World) (R : Rd w w.heap.size .i64 A n s) (hc : n ≤ c) (hn : n ≤ 16384) (hk : Kn s) (hpos : 0 < n) :
    Calls Tryz.prog 78 #[.int .i64 st, .int .i64 o, .slice A n c] w (GivesN w (stp st o s)) := by
  have HR := Lib.hid R
  have n43 : (o == 43) = false := by simpa using h43
  have n44 : (o == 44) = false := by simpa using h44
  have n45 : (o == 45) = false := by simpa using h45
  have n46 : (o == 46) = false := by simpa using h46
  have n47 : (o == 47) = false := by simpa using h47
  have n48 : (o == 48) = false := by simpa using h48
  have n49 : (o == 49) = false := by simpa using h49
  have n50 : (o == 50) = false := by simpa using h50
  have n51 : (o == 51) = false := by simpa using h51
  have n52 : (o == 52) = false := by simpa using h52
  have HS : Hid (stp st o s = some s) := Lib.hid (by unfold stp; rw [if_neg h43]; rw [if_neg h44]; rw [if_neg h45]; rw [if_neg h46]; rw [if_neg h49]; rw [if_neg h47]; rw [if_neg h48]; rw [if_neg h50]; rw [if_neg h51]; rw [if_neg h52])
  clear h43 h44 h45 h46 h47 h48 h49 h50 h51 h52
  have own0 := Own.made w 3 .i64
  have BB0 : Below w.heap.size w (w.alloc (.cells #[] 3)) := (Below.refl _ _).alloc (Nat.le_refl _) _
  obtain ⟨m, rfl⟩ : ∃ m, n = m + 1 := ⟨n - 1, by omega⟩
  have HF := Lib.hid (R.front (c := c))
  obtain ⟨b1, o1, x, rfl, cx, _, _, hx⟩ := R.int (j := m) (by omega)
  have hxt : x = top s := by
    have h1 := hx.out
    have hl := R.len
    rw [show m = s.length - 1 by omega, ← List.getLast?_eq_getElem?] at h1
    rw [top, h1]; rfl
  have hl := R.len
  have HL := Lib.hid hl
  clear R hx
  have hxs := hk x (by rw [hxt]; exact (by rcases ends_of (show s ≠ [] from fun h => by subst h; simp at hl) with ⟨r, hr⟩; rw [hr, top_snoc]; simp))
  have HT := Lib.hid hxt.symm
  clear hxt hk hl
  have cx0 := cell_below (W := w) (W1 := w.alloc (.cells #[] 3)) (box_below _ _ _) cx
  go_enter Tryz.func78, Tryz.ntmps78
  go_wp2_with (first | (at_builtin; refine wpList_app _ rfl _ _ _ rfl eI own0 rfl (HF.out.below BB0) rfl (by unfold maxLen; omega) (by omega) ?_; intro A1 n1 c1 W1 own1 B1; have BB1 := BB0.trans B1; have BX := (Below.refl W1.heap.size W1).alloc (Nat.le_refl _) (.cells #[] 3); have own3 := Own.made W1 3 .i64; have BB2 := BB1.trans (BX.mono BB1.size)) | (at_builtin; refine wpList_app _ rfl _ _ _ rfl eI own3 rfl (HR.out.below BB2) rfl (by unfold maxLen; omega) (by omega) ?_; intro A4 n4 c4 W4 own4 B4; have BB4 := BB2.trans (B4.mono BB1.size)))
  all_goals go_ret2
  all_goals (rw [HS.out]; exact givesN_of rfl (BB1) hc (fun t ht => by cases ht; exact HR.out.on BB1))

theorem rnext_b (st o : Int) (A : Option Addr) (n c : Nat) (s : List Int) (w : World) (R : Rd w w.heap.size .i64 A n s) (hc : n ≤ c) (hn : n ≤ 16384) (hk : Kn s) :
    Calls Tryz.prog 78 #[.int .i64 st, .int .i64 o, .slice A n c] w (GivesN w (stp st o s)) := by
  rcases Nat.eq_zero_or_pos n with h0 | h0
  · obtain rfl : s = [] := List.eq_nil_of_length_eq_zero (by rw [R.len]; exact h0)
    by_cases h43 : o = 43
    · subst h43; exact next43e st A n c w R hc hn
    by_cases h44 : o = 44
    · subst h44; exact next44e st A n c w R hc hn
    by_cases h45 : o = 45
    · subst h45; exact next45e st A n c w R hc hn
    by_cases h46 : o = 46
    · subst h46; exact next46e st A n c w R hc hn
    by_cases h47 : o = 47
    · subst h47; exact next47e st A n c w R hc hn
    by_cases h48 : o = 48
    · subst h48; exact next48e st A n c w R hc hn
    by_cases h49 : o = 49
    · subst h49; exact next49e st A n c w R hc hn
    by_cases h50 : o = 50
    · subst h50; exact next50e st A n c w R hc hn
    by_cases h51 : o = 51
    · subst h51; exact next51e st A n c w R hc hn
    by_cases h52 : o = 52
    · subst h52; exact next52e st A n c w R hc hn
    exact next0e st o h43 h44 h45 h46 h47 h48 h49 h50 h51 h52 A n c w R hc hn
  · by_cases h43 : o = 43
    · subst h43; exact next43n st A n c s w R hc hn hk h0
    by_cases h44 : o = 44
    · subst h44; exact next44n st A n c s w R hc hn hk h0
    by_cases h45 : o = 45
    · subst h45; exact next45n st A n c s w R hc hn hk h0
    by_cases h46 : o = 46
    · subst h46; exact next46n st A n c s w R hc hn hk h0
    by_cases h47 : o = 47
    · subst h47; exact next47n st A n c s w R hc hn hk h0
    by_cases h48 : o = 48
    · subst h48; exact next48n st A n c s w R hc hn hk h0
    by_cases h49 : o = 49
    · subst h49; exact next49n st A n c s w R hc hn hk h0
    by_cases h50 : o = 50
    · subst h50; exact next50n st A n c s w R hc hn hk h0
    by_cases h51 : o = 51
    · subst h51; exact next51n st A n c s w R hc hn hk h0
    by_cases h52 : o = 52
    · subst h52; exact next52n st A n c s w R hc hn hk h0
    exact next0n st o h43 h44 h45 h46 h47 h48 h49 h50 h51 h52 A n c s w R hc hn hk h0

end Go.Proofs.YtnhnbblplnhmlaaGreatDoor
