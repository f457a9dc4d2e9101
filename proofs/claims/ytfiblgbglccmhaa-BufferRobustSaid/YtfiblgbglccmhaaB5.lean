/- What AppendAttribute returns, of both. -/
import Derived.Test.YtfiblgbglccmhaaB4
namespace Go.Proofs.Ytfiblgbglccmhaa
open Go.RowKit Go.Sort Go.ChangeShapes Go.WideShapes

theorem bbB : (Try.prog.info? 5).map (fun i => (i.zero, i.size, i.bytes)) = some (some (.int .u8 0), 1, 1) := by kernel_rfl

/-- The bytes b in the place of those from p on. -/
def ovr (l : List Int) (p : Nat) (b : List Int) : List Int := l.take p ++ (b ++ l.drop (p + b.length))

theorem ovr_get {l b : List Int} {p : Nat} (h : p + b.length ≤ l.length) (k : Nat) : (ovr l p b)[k]? = if p ≤ k ∧ k < p + b.length then b[k - p]? else l[k]? := by
  have hp : (l.take p).length = p := by rw [List.length_take]; omega
  unfold ovr
  rcases Nat.lt_or_ge k p with h1 | h1
  · rw [List.getElem?_append_left (by omega), List.getElem?_take, if_pos h1, if_neg (by omega)]
  · rw [List.getElem?_append_right (by omega), hp]
    rcases Nat.lt_or_ge k (p + b.length) with h2 | h2
    · rw [List.getElem?_append_left (by omega), if_pos ⟨h1, h2⟩]
    · rw [List.getElem?_append_right (by omega), List.getElem?_drop, if_neg (by omega)]
      congr 1
      omega

theorem ovr_cons {l r : List Int} {p : Nat} {x : Int} (h : p + (r.length + 1) ≤ l.length) : ovr (l.set p x) (p + 1) r = ovr l p (x :: r) := by
  apply List.ext_getElem?
  intro k
  rw [ovr_get (by rw [List.length_set]; omega), ovr_get (by rw [List.length_cons]; omega), List.length_cons, List.getElem?_set]
  by_cases h1 : p + 1 ≤ k ∧ k < p + 1 + r.length
  · rw [if_pos h1, if_pos (by omega), show k - p = k - (p + 1) + 1 by omega, List.getElem?_cons_succ]
  · rw [if_neg h1]
    by_cases h2 : p = k
    · subst h2
      rw [if_pos rfl, if_pos (by omega), if_pos (by omega), Nat.sub_self]
      rfl
    · rw [if_neg h2, if_neg (by omega)]

/-- Numbers stored one behind the other. -/
theorem Own.puts {base n c b : Nat} {e : TypeId} {k : IntKind} : ∀ (xs : List Int) {w : World} {l : List Int} {p : Nat}, Own w base e k (some ⟨b, 0, none⟩) n c l → p + xs.length ≤ n → (∀ x ∈ xs, k.min ≤ x ∧ x ≤ k.max) →
    Own (w.setCells b p (xs.map (Value.int k))) base e k (some ⟨b, 0, none⟩) n c (ovr l p xs) ∧ Below base w (w.setCells b p (xs.map (Value.int k)))
  | [], w, l, p, h, _, _ => by
    rw [show ovr l p [] = l by unfold ovr; simp]
    exact ⟨h, Below.refl _ _⟩
  | x :: r, w, l, p, h, hp, hx => by
    rw [List.length_cons] at hp
    obtain ⟨b', hb', _, _, _, h1, B1⟩ := h.stored (j := p) (v := x) (by omega) (hx x (by simp))
    obtain rfl : b' = b := by injection hb' with hb'; injection hb' with hb'; exact hb'.symm
    have h2 := Own.puts r h1 (show p + 1 + r.length ≤ n by omega) (fun y hy => hx y (by simp [hy]))
    rw [ovr_cons (by rw [h.len]; omega)] at h2
    exact ⟨h2.1, B1.trans h2.2⟩

section
variable {P : Program} {ops : Array Oper} {rest : List Oper} {o : Oper} {a : Act} {Q : Exit → Act → World → Prop}

/-- 'copy(s, x)' into a slice of the call's own: as many as both have. -/
theorem wpList_copyT (W : World) (hgd : o.guard = none) (s x : Operand) (t : TypeId) (ho : o.op = .call { callee := .builtin .copy, args := #[s, x], argTypes := #[t, t] })
    {e : TypeId} {k : IntKind} {bytes : Nat} (E : Elem P t e k bytes) {base n c b : Nat} {l : List Int} (own : Own W base e k (some ⟨b, 0, none⟩) n c l) (hs : a.eval s = .slice (some ⟨b, 0, none⟩) n c)
    {B m mc : Nat} {A2 : Option Addr} {l2 : List Int} (R : Rd W B k A2 m l2) (hx : a.eval x = .slice A2 m mc)
    (h : ∀ V, Own V base e k (some ⟨b, 0, none⟩) n c (ovr l 0 (l2.take n)) → Below base W V → wpList P ops Q rest (a.put o.dst (goInt (min m n : Nat))) V) : wpList P ops Q (o :: rest) a W := by
  obtain ⟨hu, i, hi, _, hsz, _⟩ := E
  have hsz' : (P.info? e).map (·.size) = some 1 := by rw [hi]; exact congrArg some hsz
  refine wpList_plain hgd fun K hK => ?_
  by_cases h0 : min m n = 0
  · have hrun := run_copy_none (P := P) W t t o.type e (some ⟨b, 0, none⟩) A2 n c m mc hu hsz' (by omega)
    have hl : l2.take n = [] := by
      refine List.eq_nil_of_length_eq_zero ?_
      rw [List.length_take, R.len, Nat.min_comm]
      exact h0
    have := h W (by rw [hl]; show Own W base e k _ n c (ovr l 0 []); rw [show ovr l 0 [] = l by unfold ovr; simp]; exact own) (Below.refl _ _)
    rw [h0] at this
    unfold Oper.wp execOp
    simp only [ho, resolve, invoke, builtin, Sem.run_bind, Sem.run_pure, Result.andThen_ok, List.map_toArray, List.map_cons, List.map_nil, hs, hx]
    rw [hrun]
    exact hK _ _ this
  · obtain ⟨b2, off, y, rfl, _, _, _, _, _⟩ := R.at_ (j := 0) (by omega)
    have hcell : ∀ j, j < n → (W.cell? ⟨b, 0 + j, none⟩).isSome = true ∧ W.frozen? ⟨b, 0 + j, none⟩ = false := by
      intro j hj
      obtain ⟨b', hb', _, ⟨u, hu'⟩, hf, _, _⟩ := own.stored (j := j) (v := 0) (by omega) (by cases k <;> decide)
      obtain rfl : b' = b := by injection hb' with hb'; injection hb' with hb'; exact hb'.symm
      rw [Nat.zero_add]
      exact ⟨by rw [hu']; rfl, hf⟩
    have hlt : (l2.take n).length = min m n := by rw [List.length_take, R.len, Nat.min_comm]
    have hlen : ((l2.take n).map (Value.int k)).length = min m n := by rw [List.length_map, hlt]
    have hrun := run_copy_cells (P := P) W t t o.type e b 0 n c ⟨b2, off, none⟩ m mc ((l2.take n).map (Value.int k)) hu hsz' hlen
      (fun j v hj => by
        rw [List.getElem?_map] at hj
        cases hq : (l2.take n)[j]? with
        | none => rw [hq] at hj; cases hj
        | some z =>
          rw [hq] at hj
          injection hj with hj
          subst hj
          have hjm : j < min m n := by
            rw [← hlt]
            exact (List.getElem?_eq_some_iff.1 hq).1
          have hq2 : l2[j]? = some z := by rw [List.getElem?_take, if_pos (by omega)] at hq; exact hq
          obtain ⟨b3, off3, z3, he, _, hc, _, _, hz⟩ := R.at_ (show j < m by omega)
          injection he with he
          injection he with he1 he2
          subst he1 he2
          have : z3 = z := by have := hz.out; rw [hq2] at this; injection this with this; exact this.symm
          subst this
          rw [add_plain']
          exact hc)
      (fun j hj => (hcell j (by rw [hlen] at hj; omega)).1) (fun j hj => (hcell j (by rw [hlen] at hj; omega)).2) (oneCell_ints k _)
    have hp := Own.puts (l2.take n) own (p := 0) (by rw [hlt]; omega) (fun x hx => R.rng x (List.mem_of_mem_take hx))
    rw [hlen] at hrun
    unfold Oper.wp execOp
    simp only [ho, resolve, invoke, builtin, Sem.run_bind, Sem.run_pure, Result.andThen_ok, List.map_toArray, List.map_cons, List.map_nil, hs, hx]
    rw [hrun]
    exact hK _ _ (h _ hp.1 hp.2)
end

/-- A slice of a call's own is one of the caller's. -/
theorem Own.weak' {W : World} {base base' n c : Nat} {A : Option Addr} {e : TypeId} {k : IntKind} {l : List Int} (h : Own W base e k A n c l) (hb : base' ≤ base) : Own W base' e k A n c l := by
  obtain ⟨⟨h1, h2⟩, h3, h4⟩ := h
  refine ⟨⟨h1, ?_⟩, h3, by omega⟩
  rcases h2 with h2 | ⟨g, cap, cur, e, h5, h6⟩
  · exact .inl h2
  · exact .inr ⟨g, cap, cur, e, by omega, h6⟩

/-- The first k values, 0 for those that are missing. -/
theorem comps_get {vs : List Int} {k j : Nat} (hj : j < k) : (ovr (List.replicate k 0) 0 (vs.take k))[j]? = some (vs.getD j 0) := by
  rw [ovr_get (by rw [List.length_take, List.length_replicate]; omega), List.length_take]
  rw [List.getD]
  rcases Nat.lt_or_ge j vs.length with h | h
  · rw [if_pos (by omega), Nat.sub_zero, List.getElem?_take, if_pos hj, List.getElem?_eq_getElem h]
    rfl
  · rw [if_neg (by omega), List.getElem?_replicate, if_pos hj, List.getElem?_eq_none h]
    rfl

set_option maxRecDepth 100000 in
set_option maxHeartbeats 1000000 in
theorem append_b (A A2 : Option Addr) (n c n2 c2 : Nat) (l vs : List Int) (f : Int) (w : World) (R : Rd w w.heap.size .u8 A n l) (R2 : Rd w w.heap.size .i64 A2 n2 vs) (hn : n ≤ 140737488351232) :
    Calls Try.prog 25 #[.slice A n c, .int .i64 f, .slice A2 n2 c2] w (GivesRd w .u8 (l ++ bts f vs (cps f))) := by
  have BB : Below w.heap.size w w := Below.refl _ _
  have K1 := R
  have K2 := R2
  have k4 := cps_le f
  have hc4 := csz_rng f
  have hsz : sizv f = cps f * csz f := rfl
  have hz16 := sizv_le f
  have cc := fun W => of_q (cps_q f W)
  have cz := fun W => of_q (csz_q f W)
  have cs := fun W => of_q (size_q f W)
  have ce := fun x W => encode_b f x W
  have hb0 : bts f vs 0 = [] := rfl
  have hput := bts_put f vs
  have hlen := bts_len f vs
  obtain ⟨E, hE⟩ : ∃ E : Int → Int, ecd f = E := ⟨_, rfl⟩
  rw [hE] at ce hput
  obtain ⟨BT, hBT⟩ : ∃ BT : Nat → List Int, bts f vs = BT := ⟨_, rfl⟩
  rw [hBT] at hb0 hput hlen ⊢
  obtain ⟨k, hk⟩ : ∃ k, cps f = k := ⟨_, rfl⟩
  obtain ⟨z, hz⟩ : ∃ z, csz f = z := ⟨_, rfl⟩
  obtain ⟨u, hu⟩ : ∃ u, sizv f = u := ⟨_, rfl⟩
  rw [hk] at cc k4 hsz ⊢
  rw [hz] at cz hc4 hsz hput hlen
  rw [hu] at cs hsz hz16
  have HLEN := Lib.hid hlen
  have CC := Lib.hid cc
  have CZ := Lib.hid cz
  have CS := Lib.hid cs
  have CE := Lib.hid ce
  have HB0 := Lib.hid hb0
  have HPUT := Lib.hid hput
  have HSZ := Lib.hid hsz
  clear cc cz cs ce hb0 hput hsz hlen hE hBT hk hz hu R R2
  go_enter Try.func25, Try.ntmps25
  go_wp2_with (first
    | (go_at_call 16; (with_reducible refine (CC.out _).mono ?_); rintro _ W1 ⟨rfl, B⟩; replace K1 := K1.on B; replace K2 := K2.on B; replace BB := bon BB B; clear B)
    | (refine wpList_makeV _ rfl _ _ _ rfl Try.underlying34 biI rfl .i64 .i64 k rfl rfl (by omega) (by simp only [maxLen]; omega) W1.heap.size (Nat.le_refl _) ?_; intro b2 W2 own2 BL hb2; replace own2 := own2.zeros)
    | (refine wpList_copyT _ rfl _ _ _ rfl eI own2 rfl (K2.on BL) rfl ?_; intro W3 own3 B; replace BL := BL.trans B; clear own2 B)
    | (go_at_call 34; (with_reducible refine (CZ.out _).mono ?_); rintro _ W4 ⟨rfl, B⟩; replace own3 := own3.on B; replace BL := bon BL B; clear B)
    | (go_at_call 18; (with_reducible refine (CS.out _).mono ?_); rintro _ W5 ⟨rfl, B⟩; replace own3 := own3.on B; replace BL := bon BL B; clear B)
    | (refine wpList_makeV _ rfl _ _ _ rfl Try.underlying22 bbB rfl .i64 .i64 u rfl rfl (by omega) (by simp only [maxLen]; omega) W1.heap.size BL.size ?_; intro b6 W6 own6 B hb6; replace own3 := own3.on B; replace BL := bon BL B; replace own6 := own6.zeros; clear B))
  have KV := Lib.hid own3.rd
  have BV := Lib.hid BL
  clear K2 CC CZ CS own3
  go_loopw [25, 9] (fun i t wr => ∃ (j m d : Nat) (A9 : Option Addr), j ≤ k ∧ i = .int .i64 j ∧ t = .slice A9 m d ∧ Own wr W1.heap.size 5 .u8 A9 m d (BT j ++ List.replicate ((k - j) * z) 0) ∧ Below W6.heap.size W6 wr) (fun i _ _ => k - (intOf i).toNat)
  case atStart => exact ⟨0, u, u, _, by omega, rfl, rfl, by rw [HB0.out, Nat.sub_zero, ← HSZ.out]; exact own6, Below.refl _ _⟩
  case round =>
    clear own6 BL
    obtain ⟨j, m, d, A9, hjk, rfl, rfl, own, BR⟩ := hrel
    by_cases hlt : j < k
    · have hw6 := BR.size
      obtain ⟨b1, off, x, hA1, _, cx, x0, x1, hxx⟩ := (KV.out.on BR).at_ hlt
      cases hA1
      rw [Nat.zero_add] at cx
      have hx := hxx.out
      rw [comps_get hlt] at hx
      have hget : vs.getD j 0 = x := by injection hx
      obtain ⟨q, hq⟩ : ∃ q, k - j = q + 1 := ⟨k - j - 1, by omega⟩
      have hq2 : k - (j + 1) = q := by omega
      have hS := HPUT.out j q x hget
      have hL := HLEN.out j
      have hZ := HSZ.out
      have h1 : j * z + z ≤ u := by
        have : (j + 1) * z ≤ k * z := Nat.mul_le_mul_right _ hlt
        rw [Nat.add_mul, Nat.one_mul] at this
        omega
      have hm : m = u := by
        have h2 := own.len
        rw [List.length_append, hL, List.length_replicate, ← Nat.add_mul] at h2
        rw [← h2, hZ]
        congr 1
        omega
      have g2 : IntKind.i64.wrap ((j : Int) * z) = ((j * z : Nat) : Int) := by rw [← Int.natCast_mul]; exact IntWalk.i64_in _ (by omega)
      rw [hq] at own
      obtain ⟨t, ht⟩ : ∃ t, j * z = t := ⟨_, rfl⟩
      rw [ht] at g2 h1 hS
      obtain ⟨y, hy⟩ : ∃ y, E x = y := ⟨_, rfl⟩
      have ce := fun W => CE.out x W
      rw [hy] at hS ce
      have cp := fun W (RW : Rd W W.heap.size .u8 A9 m _) => bput_at A9 m d (BT j ++ List.replicate ((q + 1) * z) 0) y W RW (t : Int) (z : Int) t z rfl rfl (by omega) hc4.1 hc4.2 (by omega)
      rw [hS] at cp
      have CEJ := Lib.hid ce
      have CPJ := Lib.hid cp
      have OWN := Lib.hid own
      have hbase := own.base_le
      clear hS hL hZ ht hy hx hxx hget ce cp own hm
      go_wp2_with (first
        | (go_at_call 41; (with_reducible refine (CEJ.out _).mono ?_); rintro _ V7 ⟨rfl, B⟩; have OWN7 := OWN.out.on B; replace BR := bon BR B; clear B)
        | (go_at_call 32; (with_reducible refine (CPJ.out _ OWN7.rd).mono ?_); rintro _ V8 ⟨A8, n8, c8, rfl, own8, B⟩))
      have own9 := own8.weak' OWN7.base_le
      have B9 : Below W6.heap.size W6 V8 := bon BR B
      go_roundw
      case rel => exact ⟨j + 1, n8, c8, A8, by omega, by go_num, rfl, by rw [hq2]; exact own9, B9⟩
      case measure => simp [intOf]; omega
    · obtain rfl : j = k := by omega
      rw [Nat.sub_self, Nat.zero_mul, List.replicate_zero, List.append_nil] at own
      have hl := K1.len
      have ho := own.len
      have hL := HLEN.out j
      have hZ := HSZ.out
      obtain rfl : m = u := by rw [← ho, hL, hZ]
      have OWN := Lib.hid own
      have KB := Lib.hid (K1.on (bon BV.out BR))
      have BX := bon (bon BB BV.out) BR
      clear own hl ho hL hZ BB
      go_wp2_with (first
        | (go_at_call 31; refine (clone_b _ _ _ _ _ KB.out (by omega)).mono ?_; rintro _ V7 ⟨A7, n7, c7, rfl, own7, B⟩; have OWN7 := OWN.out.on B; have HL7 := own7.len; have BY := bon BX B; clear B)
        | (refine wpList_app _ rfl _ _ _ rfl eB own7 rfl OWN7.rd rfl (by simp only [maxLen]; have := K1.len; omega) (by have := K1.len; omega) ?_; intro A8 n8 c8 V8 own8 B8))
      go_ret
      exact ⟨A8, n8, c8, rfl, own8.room, own8.rd, BY.trans (B8.mono (by have h1 := BX.size; omega))⟩

end Go.Proofs.Ytfiblgbglccmhaa
