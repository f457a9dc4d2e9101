/- Name, a line of text, Format of package isa. -/
import Derived.Test.YtnhnbblplnhmlaaGreatDoorU7
import Derived.Test.YtnhnbblplnhmlaaGreatDoorUB
namespace Go.Proofs.YtnhnbblplnhmlaaGreatDoor
set_option linter.unusedSimpArgs false
open Go.RowKit Go.Sort Go.ChangeShapes Go.WideShapes
set_option linter.unusedVariables false

theorem jn_rng : ∀ (b : Bool) (l : List ByteArray), ∀ y ∈ jn b l, (0 : Int) ≤ y ∧ y ≤ 255
  | _, [], y, h => by simp [jn] at h
  | b, s :: r, y, h => by
    rw [jn] at h
    rcases List.mem_append.1 h with h | h
    · rcases List.mem_append.1 h with h | h
      · split at h <;> simp at h; omega
      · exact strL_rng s y h
    · exact jn_rng true r y h

theorem jn_le {K : Nat} : ∀ (b : Bool) (l : List ByteArray), (∀ s ∈ l, s.size ≤ K) → (jn b l).length ≤ l.length * (K + 1)
  | _, [], _ => by simp [jn]
  | b, s :: r, h => by
    have h1 := jn_le true r (fun x hx => h x (List.mem_cons_of_mem _ hx))
    have h2 := h s (List.mem_cons_self ..)
    rw [jn, List.length_append, List.length_append, strL_len, List.length_cons, Nat.succ_mul]
    have h3 : (if b = true then [(32 : Int)] else []).length ≤ 1 := by cases b <;> simp
    omega

section
variable {P : Program} {ops : Array Oper} {rest : List Oper} {o : Oper} {a : Act} {Q : Exit → Act → World → Prop}

/-- As wpList_app1S; a block that is not the own row's stays, and is not the new row's. -/
theorem app1SO (W : World) (hgd : o.guard = none) (s x : Operand) (t : TypeId) (ho : o.op = .call { callee := .builtin .append, args := #[s, x], argTypes := #[t, t] })
    {e : TypeId} (E : ElemS P t e) {base n c : Nat} {A : Option Addr} {l : List ByteArray} (own : OwnS W base e A n c l) (hs : a.eval s = .slice A n c) (b2 : Nat) (hb2 : b2 < W.heap.size) (hne : (Value.slice A n c).ownBlock ≠ some b2)
    {v : ByteArray} (hx : a.eval x = .slice (some ⟨W.heap.size, 0, none⟩) 1 1) (h63 : n + 1 ≤ maxLen) (hb : (n + 1) * 16 ≤ 140737488355328)
    (h : ∀ A' c' W1, OwnS W1 base e A' (n + 1) c' (l ++ [v]) → Below base W W1 → W1.heap[b2]? = W.heap[b2]? → W.heap.size ≤ W1.heap.size → (Value.slice A' (n + 1) c').ownBlock ≠ some b2 → wpList P ops Q rest (a.put o.dst (.slice A' (n + 1) c')) W1) : wpList P ops Q (o :: rest) a (W.alloc (.cells #[.string v] e)) := by
  have BW : Below W.heap.size W (W.alloc (.cells #[.string v] e)) := (Below.refl _ _).alloc (Nat.le_refl _) _
  refine wpList_plain hgd fun K hK => ?_
  obtain ⟨ht, i, hi, hz, hsize, hby⟩ := E
  have own2 := own.on BW
  obtain ⟨v', w', hrun, h2, h3, _, h5⟩ := run_append_own_at (P := P) (W.alloc (.cells #[.string v] e)) base t o.type e i (.string ⟨#[]⟩) 1 16 ht hi hz hsize hby rfl (by decide) _ n _ own2.1 ⟨W.heap.size, 0, none⟩ 1 1 [.string v] rfl
    (fun j u hu => by
      match j, hu with
      | 0, hu => simp only [List.getElem?_cons_zero, Option.some.injEq] at hu; subst hu; rw [add_plain']; simp) (fun u hu => by simp at hu; subst hu; rfl) h63 hb own2.2
  obtain ⟨A', c', rfl⟩ := form_of_own h2
  have hB := (Below.refl base (W.alloc (.cells #[.string v] e))).grown h3 own2.2 fun g hg => (own2.1.lt g hg).1
  have hlt : b2 < (W.alloc (.cells #[.string v] e)).heap.size := by simp; omega
  unfold Oper.wp execOp
  simp only [ho, resolve, invoke, builtin, Sem.run_bind, Sem.run_pure, Result.andThen_ok, List.map_toArray, List.map_cons, List.map_nil, hs, hx]
  rw [hrun]
  refine hK _ _ (h _ _ _ ⟨by simpa using h2, Nat.le_trans own2.2 h3.size⟩ ((BW.mono own.2).trans hB) ?_ (Nat.le_trans BW.size h3.size) ?_)
  · rw [h3.block b2 hlt (fun q => hne q.symm)]
    exact BW.block b2 hb2
  · rcases h5 with h5 | h5
    · rw [h5]; exact hne
    · rw [h5]
      intro q
      simp at q
      omega
end

theorem Rd.keep1 {W V : World} {b2 n : Nat} {k : IntKind} {A : Option Addr} {l : List Int} (h : Rd W W.heap.size k A n l) (hA : 0 < n → ∃ off, A = some ⟨b2, off, none⟩) (q : V.heap[b2]? = W.heap[b2]?) (hs : W.heap.size ≤ V.heap.size) : Rd V V.heap.size k A n l := by
  refine ⟨h.1, h.2.1, fun hn => ?_⟩
  obtain ⟨b, off, e, hb, hc⟩ := h.2.2 hn
  obtain ⟨off', e'⟩ := hA hn
  rw [e] at e'
  simp only [Option.some.injEq, Addr.mk.injEq] at e'
  obtain ⟨rfl, _, _⟩ := e'
  exact ⟨b, off, e, Nat.lt_of_lt_of_le hb hs, fun j x hx => by rw [World.cell?_of_block (a := ⟨b, off + j, none⟩) q]; exact hc j x hx⟩

/-- A number as a word, a register as a word; the words of an instruction's fields. -/
def fiS (n : Int) : ByteArray := strOfNums (fint n)
def frS (n : Int) : ByteArray := ⟨#[114]⟩ ++ fiS n
def wdl (m : Bool) : List Int → List ByteArray
  | [] => []
  | n :: r => (if m = true ∧ r.length = 0 then fiS n else frS n) :: wdl m r

theorem fint_len (n : Int) (h0 : -9223372036854775808 ≤ n) (h1 : n ≤ 9223372036854775807) : (fint n).length ≤ 21 := by
  unfold fint
  split
  · have := dg_len64 (-n).toNat (by omega)
    simp; omega
  · have := dg_len64 n.toNat (by omega)
    omega
theorem fiS_size (n : Int) (h0 : -9223372036854775808 ≤ n) (h1 : n ≤ 9223372036854775807) : (fiS n).size ≤ 21 := by
  have h := fint_len n h0 h1
  rw [← strL_len, fiS, strL_of (fint_rng n)]
  exact h
theorem frS_size (n : Int) (h0 : -9223372036854775808 ≤ n) (h1 : n ≤ 9223372036854775807) : (frS n).size ≤ 22 := by
  have h := fiS_size n h0 h1
  rw [frS, ← strL_len, strL_append, List.length_append, strL_len, strL_len]
  show 1 + _ ≤ _
  omega
theorem wdl_size (m : Bool) : ∀ l : List Int, (∀ x ∈ l, -9223372036854775808 ≤ x ∧ x ≤ 9223372036854775807) → ∀ s ∈ wdl m l, s.size ≤ 22
  | [], _, s, h => by simp [wdl] at h
  | n :: r, hl, s, h => by
    rw [wdl] at h
    have hn := hl n (List.mem_cons_self ..)
    rcases List.mem_cons.1 h with rfl | h
    · split
      · have := fiS_size n hn.1 hn.2; omega
      · exact frS_size n hn.1 hn.2
    · exact wdl_size m r (fun x hx => hl x (List.mem_cons_of_mem _ hx)) s h
theorem wdl_len (m : Bool) : ∀ l : List Int, (wdl m l).length = l.length
  | [] => rfl
  | n :: r => by rw [wdl, List.length_cons, List.length_cons, wdl_len m r]
theorem wdl_on {m : Bool} {l : List Int} {k : Nat} {n : Int} (h : l[k]? = some n) : wdl m (l.drop k) = (if m = true ∧ k + 1 = l.length then fiS n else frS n) :: wdl m (l.drop (k + 1)) := by
  obtain ⟨hk, rfl⟩ := List.getElem?_eq_some_iff.1 h
  rw [List.drop_eq_getElem_cons hk, wdl, List.length_drop]
  congr 1
  by_cases q : m = true ∧ k + 1 = l.length
  · rw [if_pos q, if_pos ⟨q.1, by omega⟩]
  · rw [if_neg q, if_neg (fun h => q ⟨h.1, by omega⟩)]

/-- The name of an opcode, as a string. -/
def namS (o : Int) : ByteArray := if okO o = true then nmB o.toNat else ⟨#[]⟩

set_option maxRecDepth 100000 in
theorem name_b (o : Int) (w : World) (LL : Lay6 w) : Calls Tryz.prog 100 #[.int .i64 o] w fun e w' => e = .returned (.string (namS o)) ∧ Below w.heap.size w w' := by
  have CV := Lib.hid (fun W => valid_q o W)
  have BB : Below w.heap.size w w := Below.refl _ _
  unfold namS
  cases h : okO o
  · rw [h] at CV
    go_enter Tryz.func100, Tryz.ntmps100
    go_wp2_with (go_at_call 84; (with_reducible refine (CV.out _).mono ?_); rintro _ _ ⟨rfl, rfl⟩)
    go_ret
    exact ⟨rfl, BB⟩
  · rw [h] at CV
    obtain ⟨k, rfl⟩ : ∃ k : Nat, o = k := ⟨o.toNat, by simp [okO] at h; omega⟩
    have hk : 1 ≤ k ∧ k ≤ 52 := by simp [okO] at h; omega
    have c := LL.nam k (by omega)
    rw [if_pos rfl, Int.toNat_natCast]
    clear h LL
    go_enter Tryz.func100, Tryz.ntmps100
    go_wp2_with (go_at_call 84; (with_reducible refine (CV.out _).mono ?_); rintro _ _ ⟨rfl, rfl⟩)
    go_ret
    exact ⟨rfl, BB⟩

/-- The words of an instruction's line; its line. -/
def wds (x : In) : List ByteArray := namS x.o :: wdl (fI (cl x.o)) (nums x)
def linS (x : In) : ByteArray := if okO x.o = true then strOfNums (jn false (wds x)) else ⟨#[63]⟩

theorem nmB_size : ∀ k, k < 53 → (nmB k).size ≤ 12 := by decide +kernel
theorem namS_size (o : Int) : (namS o).size ≤ 12 := by
  unfold namS
  split
  · rename_i h
    exact nmB_size _ (by simp [okO] at h; omega)
  · exact Nat.zero_le _

theorem uses_mem {x : In} (hw : x.wf) : ∀ y ∈ uses x, -9223372036854775808 ≤ y ∧ y ≤ 9223372036854775807 := by
  intro y hy
  unfold uses at hy
  rcases List.mem_append.1 hy with hy | hy
  · rcases List.mem_append.1 hy with hy | hy
    · split at hy <;> simp at hy; subst hy; exact hw.2.2.1
    · split at hy <;> simp at hy; subst hy; exact hw.2.2.2.1
  · split at hy <;> simp at hy; subst hy; exact hw.2.2.2.2.1
theorem nums_mem {x : In} (hw : x.wf) : ∀ y ∈ nums x, -9223372036854775808 ≤ y ∧ y ≤ 9223372036854775807 := by
  intro y hy
  unfold nums at hy
  rcases List.mem_append.1 hy with hy | hy
  · rcases List.mem_append.1 hy with hy | hy
    · split at hy <;> simp at hy; subst hy; exact hw.2.1
    · exact uses_mem hw y hy
  · split at hy <;> simp at hy; subst hy; exact hw.2.2.2.2.2

theorem linS_size {x : In} (hw : x.wf) : (linS x).size ≤ 138 := by
  unfold linS
  split
  · rw [← strL_len, strL_of (jn_rng _ _)]
    have h := jn_le (K := 22) false (wds x) (fun s hs => by
      rcases List.mem_cons.1 hs with rfl | hs
      · have := namS_size x.o; omega
      · exact wdl_size _ _ (nums_mem hw) s hs)
    have h2 : (wds x).length ≤ 6 := by rw [wds, List.length_cons, wdl_len]; have := nums_len x; omega
    omega
  · decide

set_option maxRecDepth 100000 in
set_option maxHeartbeats 2000000 in
theorem line_b (x : In) (w : World) (LL : Lay6 w) (hw : x.wf) : Calls Tryz.prog 68 #[.agg (inA x)] w fun e w' => e = .returned (.string (linS x)) ∧ Below w.heap.size w w' := by
  obtain ⟨c0, c1, c2, c3, c4, c5, BB⟩ := boxI w x 24
  have E0 := rngI w x 24
  have CV := Lib.hid (fun W => valid_q x.o W)
  have hz := linS_size hw
  unfold linS
  cases hok : okO x.o
  · rw [hok] at CV
    clear hz
    go_enter Tryz.func68, Tryz.ntmps68
    go_wp2_with (go_at_call 84; (with_reducible refine (CV.out _).mono ?_); rintro _ _ ⟨rfl, rfl⟩)
    go_ret
    exact ⟨rfl, BB⟩
  · rw [hok] at CV
    rw [linS, if_pos hok] at hz
    rw [if_pos rfl]
    obtain ⟨out, hout⟩ : ∃ out, strOfNums (jn false (wds x)) = out := ⟨_, rfl⟩
    have ho : strL out = jn false (wds x) := by rw [← hout, strL_of (jn_rng _ _)]
    rw [hout] at hz ⊢
    have HO := Lib.hid ho
    have HW : Hid (wds x = namS x.o :: wdl (fI (cl x.o)) (nums x)) := Lib.hid rfl
    have CO := Lib.hid (fun W => operands_q x.o W)
    have CN := Lib.hid (fun W => numbers_b x W hw)
    have CM := Lib.hid (fun W L => name_b x.o W L)
    have HM := Lib.hid (nums_mem hw)
    have HL := nums_len x
    obtain ⟨N, hN⟩ : ∃ N, nums x = N := ⟨_, rfl⟩
    obtain ⟨m, hm⟩ : ∃ m, fI (cl x.o) = m := ⟨_, rfl⟩
    rw [hN] at HW CN HM HL
    rw [hm] at HW
    simp only [flg] at CO
    rw [hm] at CO
    have HLL := Lib.hid (LL.on (w' := w.alloc (.cells (inA x) 24)) (box_below _ _ _))
    have HL0 := Lib.hid LL
    clear ho hout hN hm hok LL
    go_enter Tryz.func68, Tryz.ntmps68
    go_wp2_with (first
      | (go_at_call 84; (with_reducible refine (CV.out _).mono ?_); rintro _ _ ⟨rfl, rfl⟩)
      | (go_at_call 100; (with_reducible refine (CM.out _ HLL.out).mono ?_); rintro _ W1 ⟨rfl, B⟩; have own1 := OwnS.made1 W1 9 (namS x.o); have E1 := rangeAt_on (rangeAt_on E0 B) (box_below W1 #[.string (namS x.o)] 9); have d0 := cell_below (box_below W1 #[.string (namS x.o)] 9) (cell_below B c0); have HL1 := Lib.hid ((HLL.out.on B).on (box_below W1 #[.string (namS x.o)] 9)); have BB1 := bon (bon BB B) (box_below W1 #[.string (namS x.o)] 9); have hb1 := bon BB B; have hs1 := hb1.size)
      | (go_at_call 71; (with_reducible refine (CO.out _).mono ?_); rintro _ _ ⟨rfl, rfl⟩)
      | (with_reducible refine iload E1 rfl ?_; go_simp)
      | (go_at_call 31; (with_reducible refine (CN.out _).mono ?_); rintro _ W2 ⟨A2, n2, d2, rfl, own2, B2⟩; have own3 := own1.on B2; have HL2 := Lib.hid (HL1.out.on B2); have BB2 := bon BB1 B2; have K0 := own2.rd; have hn2 := own2.len))
    have HW0 := HW.out
    have hwlt : w.heap.size < W1.heap.size := Nat.lt_of_lt_of_le (by simp) B.size
    obtain ⟨b2, hb2, hA2, hne⟩ : ∃ b2, b2 < W2.heap.size ∧ (0 < n2 → ∃ off, A2 = some ⟨b2, off, none⟩) ∧ (Value.slice (some ⟨W1.heap.size, 0, none⟩) 1 1).ownBlock ≠ some b2 := by
      have hz2 := B2.size
      have hz1 : (W1.alloc (.cells #[.string (namS x.o)] 9)).heap.size = W1.heap.size + 1 := by simp
      rcases own2.1.2 with ⟨h0, h1⟩ | ⟨g, cap, cur, hv, hg, hh, _⟩
      · exact ⟨w.heap.size, by omega, fun h => by omega, fun q => by have q2 := Option.some.inj q; dsimp only at q2; omega⟩
      · simp only [Value.slice.injEq] at hv
        obtain ⟨rfl, _, _⟩ := hv
        have hlt : g < W2.heap.size := by
          rcases Nat.lt_or_ge g W2.heap.size with h' | h'
          · exact h'
          · rw [Array.getElem?_eq_none h'] at hh; cases hh
        exact ⟨g, hlt, fun _ => ⟨0, rfl⟩, fun q => by have q2 := Option.some.inj q; dsimp only at q2; omega⟩
    clear c0 c1 c2 c3 c4 c5 E0 E1 d0 CV CO CN CM HLL HL1
    go_loopw [3, 34] (fun u i wr => ∃ (k : Nat) (A' : Option Addr) (n' c' : Nat) (l' : List ByteArray), k ≤ n2 ∧ i = .int .i64 (k : Int) ∧ u = .slice A' n' c' ∧ n' = k + 1 ∧ OwnS wr W1.heap.size 9 A' n' c' l' ∧ l' ++ wdl m (N.drop k) = wds x ∧ b2 < wr.heap.size ∧ (Value.slice A' n' c').ownBlock ≠ some b2 ∧ Rd wr wr.heap.size .i64 A2 n2 N ∧ Below w.heap.size w wr) (fun _ i _ => n2 - (intOf i).toNat)
    case atStart => exact ⟨0, _, _, _, _, Nat.zero_le _, rfl, rfl, rfl, own3, by rw [HW0]; rfl, hb2, hne, K0, BB2⟩
    case round =>
      obtain ⟨k, A', n', c', l', hk, rfl, rfl, rfl, ownL, hl, hb2', hne', KN, BB⟩ := hrel
      clear own3 own1 K0 HL2 BB2 own2 hb2 hne
      have hn5 : n2 ≤ 5 := by omega
      have hwr := BB.size
      by_cases hlt : k < n2
      · obtain ⟨b1, o1, y, eA, cy, y0, y1, hy⟩ := KN.int hlt
        have hw1 := wdl_on (m := m) hy.out
        rw [hw1] at hl
        have CF := Lib.hid (fun W L => formatInt_b y W L y0 y1)
        obtain ⟨z, hz2⟩ : ∃ z, fiS y = z := ⟨_, rfl⟩
        have hfr : frS y = ⟨#[114]⟩ ++ z := by rw [← hz2]; rfl
        rw [hfr, hz2] at hl
        have hzs := fiS_size y y0 y1
        rw [hz2] at hzs
        unfold fiS at hz2
        rw [hz2] at CF
        rw [hn2] at hl
        have HLn := Lib.hid hl
        have HKN := Lib.hid KN
        have HA2 := Lib.hid hA2
        have HNE := Lib.hid hne'
        have HEA := Lib.hid eA
        subst eA
        clear hl hw1 hfr hz2 hy KN hne' hA2
        by_cases q : m = true ∧ k + 1 = n2
        · obtain ⟨rfl, hq⟩ := q
          have hg : (n2 : Int) - 1 ≤ (k : Int) := by omega
          have HQ := Lib.hid hq
          clear hq
          go_wp2_with (first
            | (go_at_call 101; (with_reducible refine (CF.out _ (HL0.out.on BB)).mono ?_); rintro _ W5 ⟨rfl, B5⟩; have own5 := ownL.on B5; have BB5 := bon BB B5; have hb5 := Nat.lt_of_lt_of_le hb2' B5.size)
            | (at_builtin; refine app1SO _ rfl _ _ _ rfl eS own5 rfl b2 hb5 HNE.out rfl (by unfold maxLen; omega) (by omega) ?_; intro A6 c6 W6 own6 B6 q6 z6 ne6))
          go_roundw
          case rel => exact ⟨k + 1, A6, k + 1 + 1, c6, l' ++ [z], by omega, by go_num, rfl, rfl, own6, by have h := HLn.out; have q2 := HQ.out; subst q2; simp at h ⊢; exact h, by omega, ne6, (HKN.out.on B5).keep1 HA2.out q6 z6, BB5.trans (B6.mono hs1)⟩
          case measure => simp [intOf]; omega
        · have HQ := Lib.hid q
          have hg : m = false ∨ m = true ∧ (k : Int) < (n2 : Int) - 1 := by cases m <;> simp at q ⊢ <;> omega
          clear q
          rcases hg with rfl | ⟨rfl, hg⟩
          all_goals
            go_wp2_with (first
              | (go_at_call 101; (with_reducible refine (CF.out _ (HL0.out.on BB)).mono ?_); rintro _ W5 ⟨rfl, B5⟩; have own5 := ownL.on B5; have BB5 := bon BB B5; have hb5 := Nat.lt_of_lt_of_le hb2' B5.size)
              | (at_builtin; refine app1SO _ rfl _ _ _ rfl eS own5 rfl b2 hb5 HNE.out rfl (by unfold maxLen; omega) (by omega) ?_; intro A6 c6 W6 own6 B6 q6 z6 ne6))
            go_roundw
            case rel => exact ⟨k + 1, A6, k + 1 + 1, c6, l' ++ [⟨#[114]⟩ ++ z], by omega, by go_num, rfl, rfl, own6, by have h := HLn.out; have h2 := HQ.out; simp_all, by omega, ne6, (HKN.out.on B5).keep1 HA2.out q6 z6, BB5.trans (B6.mono hs1)⟩
            case measure => simp [intOf]; omega
      · obtain rfl : k = n2 := by omega
        rw [List.drop_eq_nil_of_le (by omega), wdl, List.append_nil] at hl
        have CJ := Lib.hid (joinFields_b A' (k + 1) c' l' out wr ownL.rd ownL.room (by omega) (by omega) (by rw [hl]; exact HO.out))
        clear hl ownL KN hne'
        go_wp2_with (go_at_call 102; (with_reducible refine CJ.out.mono ?_); rintro _ W7 ⟨rfl, B7⟩)
        go_ret
        exact ⟨rfl, bon BB B7⟩

end Go.Proofs.YtnhnbblplnhmlaaGreatDoor
