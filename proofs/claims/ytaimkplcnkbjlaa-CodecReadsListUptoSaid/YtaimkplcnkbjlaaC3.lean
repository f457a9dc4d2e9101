/- What AppendInts, AppendString and AppendBool return. -/
import Derived.Test.YtaimkplcnkbjlaaC2
namespace Go.Proofs.Ytaimkplcnkbjlaa
open Go.RowKit Go.Sort

def encL (v : List Int) : List Int := encI v.length ++ v.flatMap encI
/-- A string's bytes. -/
def strL (s : ByteArray) : List Int := s.data.toList.map fun b => (b.toNat : Int)
def encS (s : ByteArray) : List Int := encI s.size ++ strL s
def encB (x : Bool) : List Int := [if x then 1 else 0]

theorem strL_len (s : ByteArray) : (strL s).length = s.size := by
  rw [strL, List.length_map, Array.length_toList]; rfl

theorem strL_drop (s : ByteArray) (k : Nat) (h : k < s.size) : (strL s).drop k = ((s[k]).toNat : Int) :: (strL s).drop (k + 1) := by
  have hl : k < (strL s).length := by rw [strL_len]; exact h
  rw [List.drop_eq_getElem_cons hl]
  congr 1
  simp [strL]
  rfl

/-- What is written of a list at its k-th element. -/
theorem list_step {v : List Int} {k : Nat} {x : Int} (hx : Hid (v[k]? = some x)) : v.drop k = x :: v.drop (k + 1) := by
  have h := hx.out
  have hl : k < v.length := by
    rcases Nat.lt_or_ge k v.length with h' | h'
    · exact h'
    · rw [List.getElem?_eq_none h'] at h; cases h
  rw [List.drop_eq_getElem_cons hl]
  rw [List.getElem?_eq_getElem hl] at h
  injection h with h
  rw [h]

theorem ints_on {d t v : List Int} {k : Nat} {x : Int} (h : Hid (d ++ (v.drop k).flatMap encI = t)) (hx : Hid (v[k]? = some x)) : (d ++ encI x) ++ (v.drop (k + 1)).flatMap encI = t := by
  rw [← h.out, list_step hx, List.flatMap_cons, List.append_assoc]

theorem ints_room {d t v : List Int} {k M : Nat} {x : Int} (h : Hid (d ++ (v.drop k).flatMap encI = t)) (hx : Hid (v[k]? = some x)) (ht : Hid (t.length ≤ M)) : d.length + (encI x).length ≤ M := by
  have h1 := congrArg List.length (ints_on h hx)
  have h2 := ht.out
  simp only [List.length_append] at h1
  omega

theorem ints_end {d t v : List Int} (h : Hid (d ++ (v.drop v.length).flatMap encI = t)) : d = t := by
  rw [← h.out]; simp

theorem encL_room {l v : List Int} {M : Nat} (h : Hid ((l ++ encL v).length ≤ M)) : l.length + (encI v.length).length ≤ M := by
  have := h.out
  unfold encL at this
  simp only [List.length_append] at this
  omega

theorem encL_start (l v : List Int) : (l ++ encI v.length) ++ (v.drop 0).flatMap encI = l ++ encL v := by
  unfold encL; simp

set_option maxRecDepth 100000 in
theorem appendInts_b (A V : Option Addr) (n c m d : Nat) (l v : List Int) (w : World) (R : Rd w w.heap.size .u8 A n l) (RV : Rd w w.heap.size .i64 V m v) (hm : m ≤ 9223372036854775807)
    (hb : (l ++ encL v).length ≤ 140737488355328) :
    Calls Try.prog 14 #[.slice A n c, .slice V m d] w (GivesOwn w w.heap.size 5 .u8 (l ++ encL v)) := by
  have HB := Lib.hid hb
  clear hb
  have hr := encL_room HB
  have hn : n ≤ 140737488355328 := by rw [← R.len]; omega
  have HR := Lib.hid hr
  clear hr
  have HM : Hid (v.length = m) := Lib.hid RV.len
  rw [HM.out] at HR
  go_enter Try.func14, Try.ntmps14
  go_wp2_with (first
    | (go_at_call 37; refine (clone_b _ _ _ _ _ R hn).mono ?_; rintro _ W1 ⟨A1, n1, c1, rfl, own1, B1⟩)
    | (go_at_call 36; refine (putInt_b _ _ _ _ _ _ _ own1 (by omega) (by omega) HR.out).mono ?_; rintro _ W2 ⟨A2, n2, c2, rfl, own2, B2⟩))
  go_loopw [5, 15] (fun s i wr => ∃ (A' : Option Addr) (n' c' : Nat) (l' : List Int) (k : Nat), s = .slice A' n' c' ∧ k ≤ m ∧ i = .int .i64 k ∧ l' ++ (v.drop k).flatMap encI = l ++ encL v ∧ Own wr w.heap.size 5 .u8 A' n' c' l' ∧ Below w.heap.size w wr) (fun _ i _ => m - (intOf i).toNat)
  case atStart => exact ⟨A2, n2, c2, _, 0, rfl, Nat.zero_le _, rfl, by rw [← HM.out]; exact encL_start l v, own2, B1.trans B2⟩
  case round =>
    clear own1 own2 B1 B2
    obtain ⟨A', n', c', l', k, rfl, hk, rfl, hl, own, BB⟩ := hrel
    have HL := Lib.hid hl
    clear hl
    by_cases hlt : k < m
    · obtain ⟨b, off, x, rfl, cx, x0, x1, hx⟩ := (RV.below BB).int hlt
      have room := ints_room HL hx HB
      go_wp2_with (go_at_call 36; refine (putInt_b _ _ _ _ _ _ _ own x0 x1 room).mono ?_; rintro _ W2 ⟨A2, n2, c2, rfl, own2, B2⟩)
      go_roundw
      case rel => exact ⟨A2, n2, c2, _, k + 1, rfl, by omega, by go_num, ints_on HL hx, own2, BB.trans B2⟩
      case measure => simp [intOf]; omega
    · obtain rfl : k = m := by omega
      go_wp2
      go_ret
      exact ⟨A', n', c', rfl, by rw [← HM.out] at HL; rw [← ints_end HL]; exact own, BB⟩

set_option maxRecDepth 100000 in
theorem rappendInts_b (A V : Option Addr) (n c m d : Nat) (l v : List Int) (w : World) (R : Rd w w.heap.size .u8 A n l) (RV : Rd w w.heap.size .i64 V m v) (hm : m ≤ 9223372036854775807)
    (hb : (l ++ encL v).length ≤ 140737488355328) :
    Calls Try.prog 15 #[.slice A n c, .slice V m d] w (GivesRd w .u8 (l ++ encL v)) := by
  have HB := Lib.hid hb
  clear hb
  have HR := Lib.hid (encL_room HB)
  have HM : Hid (v.length = m) := Lib.hid RV.len
  rw [HM.out] at HR
  go_enter Try.func15, Try.ntmps15
  go_wp2_with (go_at_call 13; refine (rappendInt_b _ _ _ _ _ _ R (by omega) (by omega) HR.out).mono ?_; rintro _ W1 ⟨A1, n1, c1, rfl, own1, B1⟩)
  go_loopw [5, 6] (fun s i wr => ∃ (A' : Option Addr) (n' c' : Nat) (l' : List Int) (k : Nat), s = .slice A' n' c' ∧ k ≤ m ∧ i = .int .i64 k ∧ n' ≤ c' ∧ l' ++ (v.drop k).flatMap encI = l ++ encL v ∧ Rd wr wr.heap.size .u8 A' n' l' ∧ Below w.heap.size w wr) (fun _ i _ => m - (intOf i).toNat)
  case atStart => exact ⟨A1, n1, c1, _, 0, rfl, Nat.zero_le _, rfl, own1.room, by rw [← HM.out]; exact encL_start l v, own1.rd, B1⟩
  case round =>
    clear own1 B1
    obtain ⟨A', n', c', l', k, rfl, hk, rfl, hc, hl, R1, BB⟩ := hrel
    have HL := Lib.hid hl
    clear hl
    by_cases hlt : k < m
    · obtain ⟨b, off, x, rfl, cx, x0, x1, hx⟩ := (RV.below BB).int hlt
      have room := ints_room HL hx HB
      go_wp2_with (go_at_call 13; refine (rappendInt_b _ _ _ _ _ _ R1 x0 x1 room).mono ?_; rintro _ W2 ⟨A2, n2, c2, rfl, own2, B2⟩)
      go_roundw
      case rel => exact ⟨A2, n2, c2, _, k + 1, rfl, by omega, by go_num, own2.room, ints_on HL hx, own2.rd, bon BB B2⟩
      case measure => simp [intOf]; omega
    · obtain rfl : k = m := by omega
      go_wp2
      go_ret
      exact ⟨A', n', c', rfl, hc, by rw [← HM.out] at HL; rw [← ints_end HL]; exact R1, BB⟩

theorem encS_room {l : List Int} {s : ByteArray} {M : Nat} (h : Hid ((l ++ encS s).length ≤ M)) : l.length + (encI s.size).length ≤ M ∧ l.length + (encI s.size).length + s.size ≤ M := by
  have := h.out
  unfold encS at this
  simp only [List.length_append, strL_len] at this
  omega

set_option maxRecDepth 100000 in
theorem appendString_b (A : Option Addr) (n c : Nat) (l : List Int) (s : ByteArray) (w : World) (R : Rd w w.heap.size .u8 A n l) (hs : s.size ≤ 9223372036854775807) (hb : (l ++ encS s).length ≤ 140737488355328) :
    Calls Try.prog 16 #[.slice A n c, .string s] w (GivesOwn w w.heap.size 5 .u8 (l ++ encS s)) := by
  have HB := Lib.hid hb
  clear hb
  have hr := encS_room HB
  have hn : n ≤ 140737488355328 := by rw [← R.len]; omega
  have HR := Lib.hid hr
  clear hr
  go_enter Try.func16, Try.ntmps16
  go_wp2_with (first
    | (go_at_call 37; refine (clone_b _ _ _ _ _ R hn).mono ?_; rintro _ W1 ⟨A1, n1, c1, rfl, own1, B1⟩)
    | (go_at_call 36; refine (putInt_b _ _ _ _ _ _ _ own1 (by omega) (by omega) HR.out.1).mono ?_; rintro _ W2 ⟨A2, n2, c2, rfl, own2, B2⟩)
    | (at_builtin; refine wpList_apps _ rfl _ _ _ _ rfl eB Try.underlying9 own2 rfl s rfl (by have := own2.len; have := HR.out.2; simp only [List.length_append] at *; simp only [maxLen]; omega) (by have := own2.len; have := HR.out.2; simp only [List.length_append] at *; omega) ?_; intro A3 n3 c3 W3 own3 B3))
  go_ret
  exact ⟨A3, n3, c3, rfl, by rw [encS, ← List.append_assoc]; exact own3, (B1.trans B2).trans B3⟩

theorem str_on {d t : List Int} {s : ByteArray} {k : Nat} (h : Hid (d ++ (strL s).drop k = t)) (hk : k < s.size) : (d ++ [((s[k]).toNat : Int)]) ++ (strL s).drop (k + 1) = t := by
  rw [← h.out, strL_drop s k hk, List.append_assoc]; rfl

theorem str_room {d t : List Int} {s : ByteArray} {k n M : Nat} (h : Hid (d ++ (strL s).drop k = t)) (hk : k < s.size) (hd : d.length = n) (ht : Hid (t.length ≤ M)) : n + 1 ≤ M := by
  have h1 := congrArg List.length h.out
  have h2 := ht.out
  simp only [List.length_append, List.length_drop, strL_len] at h1
  omega

theorem str_end {d t : List Int} {s : ByteArray} (h : Hid (d ++ (strL s).drop s.size = t)) : d = t := by
  rw [← h.out, ← strL_len s]; simp

set_option maxRecDepth 100000 in
theorem rappendString_b (A : Option Addr) (n c : Nat) (l : List Int) (s : ByteArray) (w : World) (R : Rd w w.heap.size .u8 A n l) (hs : s.size ≤ 9223372036854775807) (hb : (l ++ encS s).length ≤ 140737488355328) :
    Calls Try.prog 17 #[.slice A n c, .string s] w (GivesOwn w w.heap.size 5 .u8 (l ++ encS s)) := by
  have HB := Lib.hid hb
  clear hb
  have HR := Lib.hid (encS_room HB)
  go_enter Try.func17, Try.ntmps17
  go_wp2_with (go_at_call 13; refine (rappendInt_b _ _ _ _ _ _ R (by omega) (by omega) HR.out.1).mono ?_; rintro _ W1 ⟨A1, n1, c1, rfl, own1, B1⟩)
  go_loopw [5, 6] (fun o i wr => ∃ (A' : Option Addr) (n' c' : Nat) (l' : List Int) (k : Nat), o = .slice A' n' c' ∧ k ≤ s.size ∧ i = .int .i64 k ∧ l' ++ (strL s).drop k = l ++ encS s ∧ Own wr w.heap.size 5 .u8 A' n' c' l' ∧ Below w.heap.size w wr) (fun _ i _ => s.size - (intOf i).toNat)
  case atStart => exact ⟨A1, n1, c1, _, 0, rfl, Nat.zero_le _, rfl, by unfold encS; simp, own1, B1⟩
  case round =>
    clear own1 B1
    obtain ⟨A', n', c', l', k, rfl, hk, rfl, hl, own, BB⟩ := hrel
    have HL := Lib.hid hl
    clear hl
    by_cases hlt : k < s.size
    · have room := str_room HL hlt own.len HB
      have hbyte := (s[k]).toNat_lt
      go_wp2_with (at_builtin; refine wpList_app1 _ rfl _ _ _ rfl eB own rfl (by rw [u8_min, u8_max]; omega) rfl (by simp only [maxLen]; omega) (by omega) ?_; intro A2 n2 c2 W2 own2 B2)
      go_roundw
      case rel => exact ⟨A2, n2, c2, _, k + 1, rfl, by omega, by go_num, str_on HL hlt, own2, BB.trans B2⟩
      case measure => simp [intOf]; omega
    · obtain rfl : k = s.size := by omega
      go_wp2
      go_ret
      exact ⟨A', n', c', rfl, by rw [← str_end HL]; exact own, BB⟩

set_option maxRecDepth 100000 in
theorem appendBool_b (A : Option Addr) (n c : Nat) (l : List Int) (x : Bool) (w : World) (R : Rd w w.heap.size .u8 A n l) (hb : l.length + 1 ≤ 140737488355328) :
    Calls Try.prog 18 #[.slice A n c, .bool x] w (GivesOwn w w.heap.size 5 .u8 (l ++ encB x)) := by
  have hn : n + 1 ≤ 140737488355328 := by rw [← R.len]; omega
  clear hb
  cases x
  all_goals
    go_enter Try.func18, Try.ntmps18
    go_wp2_with (first
      | (go_at_call 37; refine (clone_b _ _ _ _ _ R (by omega)).mono ?_; rintro _ W1 ⟨A1, n1, c1, rfl, own1, B1⟩)
      | (at_builtin; refine wpList_app1 _ rfl _ _ _ rfl eB own1 rfl (by rw [u8_min, u8_max]; omega) rfl (by have := own1.len; have := R.len; simp only [maxLen]; omega) (by have := own1.len; have := R.len; omega) ?_; intro A2 n2 c2 W2 own2 B2))
    go_ret
    exact ⟨A2, n2, c2, rfl, own2, B1.trans B2⟩

set_option maxRecDepth 100000 in
theorem rappendBool_b (A : Option Addr) (n c : Nat) (l : List Int) (x : Bool) (w : World) (R : Rd w w.heap.size .u8 A n l) (hb : l.length + 1 ≤ 140737488355328) :
    Calls Try.prog 19 #[.slice A n c, .bool x] w (GivesOwn w w.heap.size 5 .u8 (l ++ encB x)) := by
  have hn : n + 1 ≤ 140737488355328 := by rw [← R.len]; omega
  clear hb
  have own0 := Own.made w 5 .u8
  have B0 : Below w.heap.size w (w.alloc (.cells #[] 5)) := (Below.refl _ _).alloc (Nat.le_refl _) _
  have R0 := R.below B0
  cases x
  all_goals
    go_enter Try.func19, Try.ntmps19
    go_wp2_with (first
      | (at_builtin; refine wpList_app _ rfl (.tmp 6) (.tmp 7) _ rfl eB own0 rfl R0 rfl (by simp only [maxLen]; omega) (by omega) ?_; intro A1 n1 c1 W1 own1 B1)
      | (at_builtin; refine wpList_app1 _ rfl _ _ _ rfl eB own1 rfl (by rw [u8_min, u8_max]; omega) rfl (by have := own1.len; have := R.len; simp only [List.nil_append] at *; simp only [maxLen]; omega) (by have := own1.len; have := R.len; simp only [List.nil_append] at *; omega) ?_; intro A2 n2 c2 W2 own2 B2))
    go_ret
    exact ⟨A2, n2, c2, rfl, own2, (B0.trans B1).trans B2⟩

end Go.Proofs.Ytaimkplcnkbjlaa
