/- What must lie in memory for the library's functions, that it stays, and what the library's functions return, in this package's words. -/
import Derived.Test.YthancgnmbmempaaDoorG4
import Derived.Test.YthancgnmbmempaaDoorShelf
import Derived.Lib.AppendIntMem
import Derived.Lib.AtoiErrMem
namespace Go.Proofs.YthancgnmbmempaaDoor
open Go.RowKit Go.Sort

theorem var_below {P : Program} {w w' : World} {n : String} {cs : Array Value} (h : w.var? P n = some cs) (B : Below w.heap.size w w') : w'.var? P n = some cs := by
  unfold World.var? at *
  cases hg : P.globalNamed n with
  | none => simp [hg] at h
  | some g =>
    simp only [hg, Option.bind_some] at h ⊢
    have hlt : g < w.heap.size := by
      rcases Nat.lt_or_ge g w.heap.size with h' | h'
      · exact h'
      · rw [Array.getElem?_eq_none h'] at h; simp at h
    rw [B.block g hlt]
    exact h

/-- What lies in memory that the library reads. -/
structure Lay6 (w : World) : Prop where
  tab : Lib.TabIs Tryd.prog w "internal/strconv.uint64pow10" .u64 Lib.pow10Tab
  err : ∃ tp p, w.var? Tryd.prog "strconv.ErrRange" = some #[.iface tp p]
  mxl : ∃ m, w.cell? ⟨2, 0, none⟩ = some (.int .i64 m)
  bru : w.cell? ⟨7, 15, none⟩ = some (.int .u8 4)

theorem Lay6.on {w w' : World} (h : Lay6 w) (B : Below w.heap.size w w') : Lay6 w' :=
  ⟨Lib.tabBelow_of_tabIs h.tab w' B, h.err.elim fun tp h => h.elim fun p h => ⟨tp, p, var_below h B⟩, h.mxl.elim fun m h => ⟨m, cell_below B h⟩, cell_below B h.bru⟩

theorem below_draws (w : World) (n : Nat) : Below w.heap.size w (w.drewN n) := ⟨rfl, rfl, rfl, Nat.le_refl _, fun _ _ => rfl⟩

theorem mk_str {l : List UInt8} {s : ByteArray} (h : nI l = strL s) : (⟨l.toArray⟩ : ByteArray) = s := str_ext (by rw [strL_mk, h])

theorem itoa_b (n : Int) (z : ByteArray) (w : World) (LL : Lay6 w) (h0 : -9223372036854775808 ≤ n) (h1 : n ≤ 9223372036854775807) (hz : strL z = fint n) :
    Calls Tryd.prog 32 #[.int .i64 n] w fun e w' => e = .returned (.string z) ∧ Below w.heap.size w w' :=
  (Tryd.strconv_Itoa n h0 h1 w LL.tab).mono fun e w' ⟨he, k, os, hw⟩ => ⟨by rw [he, mk_str (by rw [nI_itoa, hz])], by rw [hw]; exact Lib.below_grow _ _ (Nat.le_refl _) _ _⟩

theorem cutPre_yes (s t : ByteArray) (w : World) (h : (strL s).head? = some 45) (ht : strL t = (strL s).tail) :
    Calls Tryd.prog 33 #[.string s, .string ⟨#[45]⟩] w fun e w' => e = .returned (.tuple #[.string t, .bool true]) ∧ w = w' :=
  (Tryd.strings_CutPrefix s ⟨#[45]⟩ w).mono fun e w' ⟨he, hw⟩ => ⟨by
    have h1 : Lib.hasPrefix s.data.toList [45] = true := by rw [nI_hasPrefix]; exact decide_eq_true h
    have h2 : (⟨(Lib.trimPrefix s.data.toList [45]).toArray⟩ : ByteArray) = t := mk_str (by rw [nI_trimPrefix 45 _ h, ht]; rfl)
    rw [he]
    show Ending.returned (.tuple #[.string ⟨(Lib.trimPrefix s.data.toList [45]).toArray⟩, .bool (Lib.hasPrefix s.data.toList [45])]) = _
    rw [h1, h2], hw.symm⟩

theorem cutPre_no (s : ByteArray) (w : World) (h : (strL s).head? ≠ some 45) :
    Calls Tryd.prog 33 #[.string s, .string ⟨#[45]⟩] w fun e w' => e = .returned (.tuple #[.string s, .bool false]) ∧ w = w' :=
  (Tryd.strings_CutPrefix s ⟨#[45]⟩ w).mono fun e w' ⟨he, hw⟩ => ⟨by
    have h1 : Lib.hasPrefix s.data.toList [45] = false := by rw [nI_hasPrefix]; exact decide_eq_false h
    have h2 : (⟨(Lib.trimPrefix s.data.toList [45]).toArray⟩ : ByteArray) = s := mk_str (by rw [trimPrefix_no 45 _ h]; rfl)
    rw [he]
    show Ending.returned (.tuple #[.string ⟨(Lib.trimPrefix s.data.toList [45]).toArray⟩, .bool (Lib.hasPrefix s.data.toList [45])]) = _
    rw [h1, h2], hw.symm⟩

theorem cutSuf_yes (s t : ByteArray) (w : World) (hs : s.size ≤ 9223372036854775807) (h : (strL s).getLast? = some 10) (ht : strL t = (strL s).dropLast) :
    Calls Tryd.prog 50 #[.string s, .string ⟨#[10]⟩] w fun e w' => e = .returned (.tuple #[.string t, .bool true]) ∧ w = w' :=
  (Tryd.strings_CutSuffix s ⟨#[10]⟩ w hs).mono fun e w' ⟨he, hw⟩ => ⟨by
    have h1 : Lib.hasSuffix s.data.toList [10] = true := by rw [nI_hasSuffix]; exact decide_eq_true h
    have h2 : (⟨(Lib.trimSuffix s.data.toList [10]).toArray⟩ : ByteArray) = t := mk_str (by rw [nI_trimSuffix 10 _ h, ht]; rfl)
    rw [he]
    show Ending.returned (.tuple #[.string ⟨(Lib.trimSuffix s.data.toList [10]).toArray⟩, .bool (Lib.hasSuffix s.data.toList [10])]) = _
    rw [h1, h2], hw.symm⟩

theorem cutSuf_no (s : ByteArray) (w : World) (hs : s.size ≤ 9223372036854775807) (h : (strL s).getLast? ≠ some 10) :
    Calls Tryd.prog 50 #[.string s, .string ⟨#[10]⟩] w fun e w' => e = .returned (.tuple #[.string s, .bool false]) ∧ w = w' :=
  (Tryd.strings_CutSuffix s ⟨#[10]⟩ w hs).mono fun e w' ⟨he, hw⟩ => ⟨by
    have h1 : Lib.hasSuffix s.data.toList [10] = false := by rw [nI_hasSuffix]; exact decide_eq_false h
    have h2 : (⟨(Lib.trimSuffix s.data.toList [10]).toArray⟩ : ByteArray) = s := mk_str (by rw [trimSuffix_no 10 _ h]; rfl)
    rw [he]
    show Ending.returned (.tuple #[.string ⟨(Lib.trimSuffix s.data.toList [10]).toArray⟩, .bool (Lib.hasSuffix s.data.toList [10])]) = _
    rw [h1, h2], hw.symm⟩

theorem cut_no_b (s : ByteArray) (w : World) (LL : Lay6 w) (hs : s.size < 4294967281) (h : pnt (strL s) = s.size) :
    Calls Tryd.prog 34 #[.string s, .string ⟨#[46]⟩] w fun e w' => e = .returned (.tuple #[.string s, .string ⟨#[]⟩, .bool false]) ∧ Below w.heap.size w w' := by
  obtain ⟨m, hm⟩ := LL.mxl
  refine (Tryd.strings_Cut s ⟨#[46]⟩ m w hs hm).mono fun e w' ⟨he, n, hw⟩ => ⟨?_, by rw [hw]; exact below_draws w n⟩
  have h1 : Lib.cut s.data.toList [46] = (s.data.toList, [], false) := cut_no (by rw [← strL_nI, h, ← strL_len, strL_nI, nI_len])
  rw [he]
  show Ending.returned (.tuple #[.string ⟨(Lib.cut s.data.toList [46]).1.toArray⟩, .string ⟨(Lib.cut s.data.toList [46]).2.1.toArray⟩, .bool (Lib.cut s.data.toList [46]).2.2]) = _
  rw [h1, mk_str (s := s) (strL_nI s).symm]

theorem cut_yes_b (s a b : ByteArray) (w : World) (LL : Lay6 w) (hs : s.size < 4294967281) (h : pnt (strL s) < s.size) (ha : strL a = (strL s).take (pnt (strL s))) (hb : strL b = (strL s).drop (pnt (strL s) + 1)) :
    Calls Tryd.prog 34 #[.string s, .string ⟨#[46]⟩] w fun e w' => e = .returned (.tuple #[.string a, .string b, .bool true]) ∧ Below w.heap.size w w' := by
  obtain ⟨m, hm⟩ := LL.mxl
  refine (Tryd.strings_Cut s ⟨#[46]⟩ m w hs hm).mono fun e w' ⟨he, n, hw⟩ => ⟨?_, by rw [hw]; exact below_draws w n⟩
  have hl : s.size = s.data.toList.length := by rw [← strL_len, strL_nI, nI_len]
  have h1 : Lib.cut s.data.toList [46] = (s.data.toList.take (pnt (strL s)), s.data.toList.drop (pnt (strL s) + 1), true) := cut_yes (by rw [← strL_nI, ← hl]; exact h)
  rw [he]
  show Ending.returned (.tuple #[.string ⟨(Lib.cut s.data.toList [46]).1.toArray⟩, .string ⟨(Lib.cut s.data.toList [46]).2.1.toArray⟩, .bool (Lib.cut s.data.toList [46]).2.2]) = _
  rw [h1, mk_str (s := a) (by rw [ha, strL_nI]; simp [nI, List.map_take]), mk_str (s := b) (by rw [hb, strL_nI]; simp [nI, List.map_drop])]

theorem atoi_ok (s : ByteArray) (v : Int) (w : World) (hs : s.size ≤ 9223372036854775806) (h : Lib.atoiAll s.data.toList = .ok v) :
    Calls Tryd.prog 31 #[.string s] w fun e w' => e = .returned (.tuple #[.int .i64 v, .nilIface]) ∧ Below w.heap.size w w' :=
  (Tryd.strconv_Atoi_ok s hs v h w).mono fun e w' ⟨he, hw⟩ => ⟨he, by
    rcases hw with rfl | ⟨t, rfl⟩
    · exact Below.refl _ _
    · exact Lib.bytesWorld_below _ _ _⟩

/-- What Atoi gives where no int holds the number. -/
def Ranged (n : Int) (w : World) (e : Ending) (w' : World) : Prop := ∃ (t : TypeId) (N : Nat), e = .returned (.tuple #[.int .i64 n, .iface t (.pointer (some ⟨N, 0, none⟩))]) ∧ Below w.heap.size w w'

theorem atoi_range (s : ByteArray) (w : World) (LL : Lay6 w) (hs : s.size ≤ 281474976710656) (h : Lib.atoiAll s.data.toList = .range) :
    Calls Tryd.prog 31 #[.string s] w (Ranged (Lib.atoiSat s.data.toList) w) := by
  obtain ⟨tp, p, hv⟩ := LL.err
  refine (Tryd.strconv_Atoi_range_var s hs h tp p w hv).mono fun e w' he => ?_
  obtain ⟨N, he, _, _, hb⟩ := he
  exact ⟨_, N, he, hb⟩

theorem repeat_b (m : Nat) (z : ByteArray) (w : World) (hm : m ≤ 1000) (hz : strL z = List.replicate m 48) :
    Calls Tryd.prog 74 #[.string ⟨#[48]⟩, .int .i64 m] w fun e w' => e = .returned (.string z) ∧ Below w.heap.size w w' :=
  (Tryd.strings_Repeat ⟨#[48]⟩ m w (by omega) (by show 1 * m ≤ _; omega)).mono fun e w' ⟨he, hw⟩ => ⟨by
    rw [he]
    show Ending.returned (.string ⟨(Lib.repeatL [48] m).toArray⟩) = _
    rw [mk_str (s := z) (by rw [nI_repeat, hz]; rfl)], hw⟩

/-- What Split gives. -/
def GivesSp (W : World) (T : List (List Int)) (x : Ending) (w' : World) : Prop :=
  ∃ A n l, x = .returned (.slice A n n) ∧ RdS w' w'.heap.size A n l ∧ l.map strL = T ∧ Below W.heap.size W w'

theorem split_b (s : ByteArray) (c : UInt8) (w : World) (LL : Lay6 w) (hs : s.size < 4294967281) :
    Calls Tryd.prog 39 #[.string s, .string ⟨#[c]⟩] w (GivesSp w (sp (c.toNat : Int) (strL s) [])) := by
  obtain ⟨m, hm⟩ := LL.mxl
  refine (Tryd.strings_Split s ⟨#[c]⟩ m w hs hm (Nat.le_refl _)).mono fun e w' ⟨he, hw⟩ => ?_
  have hl := splitB_sp c s.size s (Nat.le_refl _)
  have hn := Lib.splitB_all ⟨#[c]⟩ (Nat.le_refl _) 0 _ s rfl
  subst hw
  refine ⟨_, _, Lib.splitB ⟨#[c]⟩ 0 (Lib.countB s ⟨#[c]⟩) s, he, ⟨hn, fun _ => ⟨_, 0, rfl, by simp, fun j x hx => ?_⟩⟩, hl, (Below.refl _ _).alloc (Nat.le_refl _) _⟩
  simp [hx]

theorem join_b (A : Option Addr) (n c : Nat) (l : List ByteArray) (out : ByteArray) (w : World) (R : RdS w w.heap.size A n l) (hc : n ≤ c) (hl : out.size ≤ 2000) (ho : strL out = jn false l) (hn : n ≤ 140737488355328) :
    Calls Tryd.prog 41 #[.slice A n c, .string ⟨#[32]⟩] w fun e w' => e = .returned (.string out) ∧ Below w.heap.size w w' := by
  have hlen := R.len
  have hj : nI (Lib.join (l.map (·.data.toList)) [32]) = strL out := by rw [nI_join, ho]
  rcases Nat.eq_zero_or_pos n with h0 | h0
  · subst h0
    obtain rfl : l = [] := List.eq_nil_of_length_eq_zero hlen
    have : out = ⟨#[]⟩ := str_ext (by rw [ho]; rfl)
    subst this
    exact (Any.strings_Join_none Tryd.lays156 Tryd.Builder_Extra_156 A c ⟨#[32]⟩ w).mono fun e w' ⟨he, hw⟩ => ⟨he, by rw [hw]; exact Below.refl _ _⟩
  · obtain ⟨b, off, rfl, hb, hcell⟩ := R.2 h0
    have hj2 : (Lib.join (l.map (·.data.toList)) [32]).length = out.size := by rw [← nI_len, hj, strL_len]
    subst hlen
    refine (Tryd.strings_Join b off c l ⟨#[32]⟩ w hcell hb hn hc (by show (Lib.join _ [32]).length ≤ _; rw [hj2]; omega)).mono fun e w' ⟨he, hw⟩ => ⟨?_, hw⟩
    rw [he]
    show Ending.returned (.string ⟨(Lib.join (l.map (·.data.toList)) [32]).toArray⟩) = _
    rw [mk_str hj]

end Go.Proofs.YthancgnmbmempaaDoor
