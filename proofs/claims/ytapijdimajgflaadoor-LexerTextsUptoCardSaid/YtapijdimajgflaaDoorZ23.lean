/- Text of both. -/
import Derived.Test.YtapijdimajgflaaDoorZ21
import Derived.Test.YtapijdimajgflaaDoorF15
import Derived.Test.YtapijdimajgflaaDoorStrsOwn
namespace Go.Proofs.YtapijdimajgflaaDoor
open Go.RowKit Go.Sort Go.ChangeShapes Go.WideShapes
set_option linter.unusedVariables false

/-- The texts of the tokens that are no end. -/
def txs : List Tk → List ByteArray
  | [] => []
  | x :: r => if x.k = 5 then txs r else strOfNums x.t :: txs r

theorem txs_at {l : List Tk} {k : Nat} {x : Tk} (h : l[k]? = some x) : txs (l.drop k) = if x.k = 5 then txs (l.drop (k + 1)) else strOfNums x.t :: txs (l.drop (k + 1)) := by
  obtain ⟨hk, rfl⟩ := List.getElem?_eq_some_iff.1 h
  rw [List.drop_eq_getElem_cons hk, txs]

theorem txs_take {l : List Tk} {k : Nat} {x : Tk} (h : l[k]? = some x) : txs (l.take (k + 1)) = txs (l.take k) ++ if x.k = 5 then [] else [strOfNums x.t] := by
  obtain ⟨hk, rfl⟩ := List.getElem?_eq_some_iff.1 h
  have key : ∀ (a : List Tk) (y : Tk), txs (a ++ [y]) = txs a ++ if y.k = 5 then [] else [strOfNums y.t] := by
    intro a y
    induction a with
    | nil => simp only [List.nil_append, txs]
    | cons z a ih =>
      rw [List.cons_append, txs, txs]
      split
      · exact ih
      · rw [ih, List.cons_append]
  rw [List.take_succ_eq_append_getElem hk, key]

theorem txs_len (l : List Tk) : (txs l).length ≤ l.length := by
  induction l with
  | nil => simp [txs]
  | cons x r ih =>
    rw [txs]
    split
    · simp only [List.length_cons]; omega
    · simp only [List.length_cons]; omega

theorem jn_one (b : Bool) (l : List ByteArray) (acc out s : ByteArray) (h : strL acc ++ jn b (s :: l) = strL out) : strL ((if b = true then acc ++ ⟨#[32]⟩ else acc) ++ s) ++ jn true l = strL out ∧ acc.size + (if b = true then 1 else 0) + s.size ≤ out.size := by
  rw [jn] at h
  have hl := congrArg List.length h
  rw [List.length_append, List.length_append, List.length_append, strL_len, strL_len, strL_len] at hl
  cases b
  · simp only [Bool.false_eq_true, if_false, List.nil_append, List.length_nil] at h hl ⊢
    refine ⟨by rw [← h, strL_append, List.append_assoc], by omega⟩
  · simp only [if_true, List.length_singleton] at h hl ⊢
    refine ⟨?_, by omega⟩
    rw [← h, strL_append, strL_append, List.append_assoc, List.append_assoc, List.append_assoc]
    rfl

theorem join_z (A : Option Addr) (n c : Nat) (l : List ByteArray) (out : ByteArray) (w : World) (R : RdS w w.heap.size A n l) (hc : n ≤ c) (hl : out.size ≤ 140737488355328) (ho : strL out = jn false l) (hn : n ≤ 140737488355328) :
    Calls Tryd.prog 31 #[.slice A n c, .string ⟨#[32]⟩] w fun e w' => e = .returned (.string out) ∧ Below w.heap.size w w' := by
  have hlen := R.len
  have hj : nI (Lib.join (l.map (·.data.toList)) [32]) = strL out := by rw [nI_join, ho]
  rcases Nat.eq_zero_or_pos n with h0 | h0
  · subst h0
    obtain rfl : l = [] := List.eq_nil_of_length_eq_zero hlen
    have : out = ⟨#[]⟩ := str_ext (by rw [ho]; rfl)
    subst this
    exact (Any.strings_Join_none Tryd.lays156 Tryd.Builder_Extra_156 A c ⟨#[32]⟩ w).mono fun e w' ⟨he, hw⟩ => ⟨he, by rw [hw]; exact Below.refl _ _⟩
  · obtain ⟨b, off, rfl, hb, hcell⟩ := R.2 h0
    have hj2 : (Lib.join (l.map (·.data.toList)) [32]).length = out.size := by rw [← nI_len, hj, strL_len]
    subst hlen
    refine (Tryd.strings_Join b off c l ⟨#[32]⟩ w hcell hb hn hc (by show (Lib.join _ [32]).length ≤ _; rw [hj2]; omega)).mono fun e w' ⟨he, hw⟩ => ⟨?_, hw⟩
    rw [he]
    show Ending.returned (.string ⟨(Lib.join (l.map (·.data.toList)) [32]).toArray⟩) = _
    rw [mk_str hj]

theorem elStr : ElemS Tryd.prog 47 9 := elemS_of Tryd.underlying47 (by kernel_rfl)

theorem app1SZ {P : Program} {ops : Array Oper} {rest : List Oper} {o : Oper} {a : Act} {Q : Exit → Act → World → Prop} (W : World) (hgd : o.guard = none) (s x : Operand) (t : TypeId) (ho : o.op = .call { callee := .builtin .append, args := #[s, x], argTypes := #[t, t] })
    {e : TypeId} (E : ElemS P t e) {base n c : Nat} {A : Option Addr} {l : List ByteArray} (own : OwnS W base e A n c l) (hs : a.eval s = .slice A n c)
    {v : ByteArray} {z : Nat} (hx : a.eval x = .slice (some ⟨z, 0, none⟩) 1 1) (hz : W.heap.size = z) (h63 : n + 1 ≤ maxLen) (hb : (n + 1) * 16 ≤ 140737488355328)
    (h : ∀ A' c' W1, OwnS W1 base e A' (n + 1) c' (l ++ [v]) → Below base W W1 → wpList P ops Q rest (a.put o.dst (.slice A' (n + 1) c')) W1) : wpList P ops Q (o :: rest) a (W.alloc (.cells #[.string v] e)) := by
  subst hz
  exact wpList_app1S W hgd s x t ho E own hs hx h63 hb h

/-- A token's kind and text in a slice. -/
theorem tok_two {w : World} {B n j : Nat} {A : Option Addr} {l : List Tk} (R : RdT w B A n l) (hj : j < n) : ∃ b off x, A = some ⟨b, off, none⟩ ∧ w.rangeAt b (off + j * 4) (tokC x) ∧ w.cell? ⟨b, off + j * 4, none⟩ = some (.int .i64 x.k) ∧ w.cell? ⟨b, off + j * 4 + 1, none⟩ = some (.string (strOfNums x.t)) ∧ Hid (l[j]? = some x) := by
  obtain ⟨b, off, x, hA, _, hr, hx⟩ := R.at_ hj
  exact ⟨b, off, x, hA, hr, hr 0 _ rfl, hr 1 _ rfl, hx⟩

set_option maxRecDepth 100000 in
set_option maxHeartbeats 2000000 in
theorem rtext_b (A : Option Addr) (n c : Nat) (l : List Tk) (out : ByteArray) (w : World) (R : RdT w w.heap.size A n l) (hn : n ≤ 9223372036854775807) (hl : out.size ≤ 9223372036854775807) (ho : strL out = jn false (txs l)) :
    Calls Tryd.prog 22 #[.slice A n c] w fun e w' => e = .returned (.string out) ∧ Below w.heap.size w w' := by
  have HLn := Lib.hid R.len
  have HO := Lib.hid ho
  have KR := Lib.hid R
  clear ho R
  go_enter Tryd.func22, Tryd.ntmps22
  go_wp2
  go_loopw [3, 4, 5] (fun t f i wr => ∃ (k : Nat) (acc : ByteArray) (fst : Bool), k ≤ n ∧ i = .int .i64 k ∧ t = .string acc ∧ f = .bool fst ∧ strL acc ++ jn (!fst) (txs (l.drop k)) = strL out ∧ w = wr) (fun _ _ i _ => n - (intOf i).toNat)
  case atStart => exact ⟨0, ⟨#[]⟩, true, by omega, rfl, rfl, rfl, by rw [HO.out]; rfl, by simp⟩
  case round =>
    obtain ⟨k, acc, fst, hk, rfl, rfl, rfl, hh, rfl⟩ := hrel
    by_cases hlt : k < n
    · obtain ⟨b, off, x, rfl, -, ck, ct, hx⟩ := tok_two KR.out hlt
      rw [txs_at hx.out] at hh
      by_cases h5 : x.k = 5
      · rw [if_pos h5] at hh
        rw [h5] at ck
        have HH := Lib.hid hh
        clear hh hx KR
        go_wp2
        go_roundw
        case rel => exact ⟨k + 1, acc, fst, by omega, by go_num, rfl, rfl, HH.out, by simp⟩
        case measure => simp [intOf] <;> omega
      · rw [if_neg h5] at hh
        obtain ⟨h1, h2⟩ := jn_one _ _ _ _ _ hh
        have h5i : (x.k == 5) = false := by simpa using h5
        obtain ⟨tt, htt⟩ : ∃ tt, strOfNums x.t = tt := ⟨_, rfl⟩
        rw [htt] at ct h1 h2
        cases fst with
        | true =>
          simp only [Bool.not_true, Bool.false_eq_true, if_false, Nat.add_zero] at h1 h2
          have HH := Lib.hid h1
          clear hh hx KR h1 htt
          go_wp2
          go_roundw
          case rel => exact ⟨k + 1, _, false, by omega, by go_num, rfl, rfl, HH.out, by simp⟩
          case measure => simp [intOf] <;> omega
        | false =>
          simp only [Bool.not_false, if_true] at h1 h2
          have HH := Lib.hid h1
          clear hh hx KR h1 htt
          go_wp2
          go_roundw
          case rel => exact ⟨k + 1, _, false, by omega, by go_num, rfl, rfl, HH.out, by simp⟩
          case measure => simp [intOf] <;> omega
    · obtain rfl : k = n := by omega
      have hf : acc = out := str_ext (by rw [← hh, List.drop_eq_nil_of_le (by rw [HLn.out]; exact Nat.le_refl _), txs, jn, List.append_nil])
      subst hf
      clear KR hh
      go_wp2
      go_ret
      exact ⟨rfl, Below.refl _ _⟩

set_option maxRecDepth 100000 in
set_option maxHeartbeats 2000000 in
theorem text_b (A : Option Addr) (n c : Nat) (l : List Tk) (out : ByteArray) (w : World) (R : RdT w w.heap.size A n l) (hn : n ≤ 1099511627776) (hl : out.size ≤ 140737488355328) (ho : strL out = jn false (txs l)) :
    Calls Tryd.prog 21 #[.slice A n c] w fun e w' => e = .returned (.string out) ∧ Below w.heap.size w w' := by
  have HLn := Lib.hid R.len
  have HO := Lib.hid ho
  have KR := Lib.hid R
  have B0 := Below.refl w.heap.size w
  have O0 : Hid (OwnS w w.heap.size 9 none 0 0 []) := Lib.hid ⟨World.ownsRow_nil _ _ _ _, Nat.le_refl _⟩
  clear ho R
  go_enter Tryd.func21, Tryd.ntmps21
  go_wp2
  go_loopw [3, 8] (fun t i wr => ∃ (k c3 : Nat) (A3 : Option Addr) (g : List ByteArray), k ≤ n ∧ i = .int .i64 k ∧ t = .slice A3 g.length c3 ∧ OwnS wr w.heap.size 9 A3 g.length c3 g ∧ g = txs (l.take k) ∧ g.length ≤ k ∧ Below w.heap.size w wr) (fun _ i _ => n - (intOf i).toNat)
  case atStart => exact ⟨0, 0, none, [], by omega, rfl, rfl, O0.out, rfl, by simp, B0⟩
  case round =>
    clear O0 B0
    obtain ⟨k, c3, A3, g, hk, rfl, rfl, own, hg, hgk, BB⟩ := hrel
    rename World => wr
    have OW := Lib.hid own
    have HG := Lib.hid hg
    obtain ⟨G, hG⟩ : ∃ G, g.length = G := ⟨_, rfl⟩
    rw [hG] at OW hgk ⊢
    clear own hg
    by_cases hlt : k < n
    · obtain ⟨b, off, x, rfl, hr, ck, ct, hx⟩ := tok_two (KR.out.below BB) hlt
      have ht := Lib.hid (txs_take hx.out)
      have r1 : wr.rangeAt b (off + k * 4) [.int .i64 x.k, .string (strOfNums x.t), .int .i64 x.v, .int .i64 x.ln] := hr
      have cv : wr.cell? ⟨b, off + k * 4 + 2, none⟩ = some (.int .i64 x.v) := hr 2 _ rfl
      have cn : wr.cell? ⟨b, off + k * 4 + 3, none⟩ = some (.int .i64 x.ln) := hr 3 _ rfl
      obtain ⟨tt, htt⟩ : ∃ tt, strOfNums x.t = tt := ⟨_, rfl⟩
      rw [htt] at ct r1 ht
      have OW1 := Lib.hid (OW.out.on (box_below wr #[.int .i64 x.k, .string tt, .int .i64 x.v, .int .i64 x.ln] 36))
      have B1 := Lib.hid (bon BB (box_below wr #[.int .i64 x.k, .string tt, .int .i64 x.v, .int .i64 x.ln] 36))
      have HGL := Lib.hid hG
      by_cases h5 : x.k = 5
      · have hti := ht.out
        rw [if_pos h5, List.append_nil] at hti
        have HT := Lib.hid hti
        have OW2 := OW1
        have B2 := B1
        rw [h5] at OW2 B2
        have h5i : (x.k == 5) = true := by simpa using h5
        clear hti ht hx KR hr hG htt
        go_wp2_with (first | ((with_reducible refine eload4L rowTok r1 ?_ ?_); focus rfl) | ((with_reducible refine estore4L rowTok ?_ ?_ ?_ ?_); focus rfl; focus rfl; focus rfl))
        go_roundw
        case rel => exact ⟨k + 1, c3, A3, g, by omega, by go_num, by rw [HGL.out], by rw [HGL.out]; exact OW2.out, by rw [HT.out]; exact HG.out, by rw [HGL.out]; omega, B2.out⟩
        case measure => simp [intOf] <;> omega
      · have hti := ht.out
        rw [if_neg h5] at hti
        have HT := Lib.hid hti
        have h5i : (x.k == 5) = false := by simpa using h5
        clear hti ht hx KR hr hG htt
        go_wp2_with (first | ((with_reducible refine eload4L rowTok r1 ?_ ?_); focus rfl) | ((with_reducible refine estore4L rowTok ?_ ?_ ?_ ?_); focus rfl; focus rfl; focus rfl) | (at_builtin; refine app1SZ _ rfl _ _ _ rfl elStr OW1.out rfl rfl (by simp) (by simp only [maxLen]; omega) (by omega) ?_; intro A7 c7 W7 own7 B7; have OW7 := Lib.hid own7; have BW7 := Lib.hid (B1.out.trans B7); clear own7 B7))
        go_roundw
        case rel => exact ⟨k + 1, c7, A7, g ++ [tt], by omega, by go_num, by rw [List.length_append, HGL.out]; rfl, by rw [List.length_append, HGL.out]; exact OW7.out, by rw [HT.out, HG.out], by rw [List.length_append, HGL.out]; simp; omega, BW7.out⟩
        case measure => simp [intOf] <;> omega
    · obtain rfl : k = n := by omega
      have hg2 : g = txs l := by rw [HG.out, List.take_of_length_le (by rw [HLn.out]; exact Nat.le_refl _)]
      have CJ := Lib.hid (join_z A3 G c3 g out wr OW.out.rd OW.out.room hl (by rw [hg2]; exact HO.out) (by omega))
      have HGL := Lib.hid hG
      have B1 := Lib.hid BB
      clear KR hg2 hG BB
      go_wp2_with (go_at_call 31; (refine CJ.out.mono ?_); rintro _ W7 ⟨rfl, B7⟩; have BW7 := Lib.hid (bon B1.out B7); clear B7)
      go_ret
      exact ⟨rfl, BW7.out⟩

end Go.Proofs.YtapijdimajgflaaDoor
