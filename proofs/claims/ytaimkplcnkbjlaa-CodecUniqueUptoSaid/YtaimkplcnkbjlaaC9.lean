/- What ReadInts and ReadString return, of both. -/
import Derived.Test.YtaimkplcnkbjlaaC6
import Derived.Laws.BytesArg
namespace Go.Proofs.Ytaimkplcnkbjlaa
open Go.RowKit Go.Sort

/-- Reading m ints from index a on, behind those of acc. -/
def rints (l : List Int) : Nat → Int → List Int → List Int × Int × Int
  | 0, a, acc => (acc, a, 0)
  | m + 1, a, acc => if (ri l a).2.2 = 0 then rints l m (ri l a).2.1 (acc ++ [(ri l a).1]) else ([], 0, (ri l a).2.2)

def rI (l : List Int) (a lim : Int) : List Int × Int × Int :=
  if (rl l a lim).2.2 = 0 then rints l (rl l a lim).1.toNat (rl l a lim).2.1 [] else ([], 0, (rl l a lim).2.2)

theorem rI_no {l : List Int} {a lim v nx er : Int} (h : rl l a lim = (v, nx, er)) (he : er ≠ 0) : rI l a lim = ([], 0, er) := by rw [rI, h, if_neg he]
theorem rI_yes {l : List Int} {a lim v nx : Int} (h : rl l a lim = (v, nx, 0)) : rI l a lim = rints l v.toNat nx [] := by rw [rI, h, if_pos rfl]

theorem rints_no {l : List Int} {m : Nat} {a v nx er : Int} {acc : List Int} (h : ri l a = (v, nx, er)) (he : er ≠ 0) : rints l (m + 1) a acc = ([], 0, er) := by rw [rints, h, if_neg he]
theorem rints_on {l : List Int} {m : Nat} {a v nx : Int} {acc : List Int} (h : ri l a = (v, nx, 0)) : rints l (m + 1) a acc = rints l m nx (acc ++ [v]) := by rw [rints, h, if_pos rfl]

/-- A call that returns a list of ints, an index, an error. -/
def GivesInts (W : World) (L : List Int) (nx er : Int) (x : Ending) (w' : World) : Prop :=
  ∃ A n c, x = .returned (.tuple #[.slice A n c, .int .i64 nx, .int .i64 er]) ∧ n ≤ c ∧ Rd w' w'.heap.size .i64 A n L ∧ Below W.heap.size W w'

theorem rl_rng (l : List Int) (a lim v nx er : Int) (hl : ∀ x ∈ l, (0 : Int) ≤ x ∧ x ≤ 255) (h : rl l a lim = (v, nx, er)) :
    (er = 0 ∧ 0 ≤ v ∧ v ≤ 9223372036854775807 ∧ 0 ≤ a ∧ a < nx ∧ nx ≤ l.length) ∨ ((er = 2 ∨ er = 3 ∨ er = 4 ∨ er = 5) ∧ v = 0 ∧ nx = 0) := by
  rcases rl_cases l a lim v nx er hl h with h | ⟨h0, v0, nx0, e0, hr, hE⟩
  · omega
  · have := ri_rng l a v0 nx0 e0 hl hr
    omega

set_option maxRecDepth 100000 in
set_option maxHeartbeats 1000000 in
theorem readInts_b (A : Option Addr) (n c : Nat) (l : List Int) (a lim : Int) (L : List Int) (NX ER : Int) (w : World) (R : Rd w w.heap.size .u8 A n l) (hn : n ≤ 17592186044416) (h : rI l a lim = (L, NX, ER)) :
    Calls Try.prog 25 #[.slice A n c, .int .i64 a, .int .i64 lim] w (GivesInts w L NX ER) := by
  have hn' : n ≤ 9223372036854775807 := by omega
  have HB := Lib.hid (rd_bytes R)
  have HL := Lib.hid R.len
  obtain ⟨v, nx, er, hr⟩ : ∃ v nx er, rl l a lim = (v, nx, er) := ⟨_, _, _, rfl⟩
  have hg := rl_rng l a lim v nx er HB.out hr
  have HR := Lib.hid hr
  by_cases he : er = 0
  · subst he
    rw [rI_yes hr] at h
    obtain ⟨m, rfl⟩ : ∃ m : Nat, v = m := ⟨v.toNat, by omega⟩
    simp only [Int.toNat_natCast] at h
    have HH := Lib.hid h
    have hm : (m : Int) ≤ 9223372036854775807 := by omega
    have HN : Hid (0 ≤ nx ∧ nx ≤ n) := Lib.hid (by rw [HL.out] at hg; omega)
    clear h hr hg
    go_enter Try.func25, Try.ntmps25
    go_wp2_with (go_at_call 41; refine (readLength_b _ _ _ _ _ _ _ _ _ _ R hn' HR.out).mono ?_; rintro _ W1 ⟨rfl, B1⟩)
    have HS := Lib.hid B1.size
    go_loopw [10, 12, 28] (fun p s i wr => ∃ (k : Nat) (q : Int) (A' : Option Addr) (n' c' : Nat) (d : List Int), k ≤ m ∧ i = .int .i64 k ∧ p = .int .i64 q ∧ s = .slice A' n' c' ∧ rints l (m - k) q d = (L, NX, ER) ∧ (0 ≤ q ∧ (d.length : Int) ≤ q ∧ q ≤ n) ∧ Own wr W1.heap.size 3 .i64 A' n' c' d ∧ Below w.heap.size w wr) (fun _ _ i _ => m - (intOf i).toNat)
    case atStart => exact ⟨0, nx, none, 0, 0, [], by omega, rfl, rfl, rfl, HH.out, ⟨HN.out.1, HN.out.1, HN.out.2⟩, Own.nil _ _ _, B1⟩
    case round =>
      clear B1
      obtain ⟨k, q, A', n', c', d, hk, rfl, rfl, rfl, hri, hq, own, BB⟩ := hrel
      have HRI := Lib.hid hri
      have HQ := Lib.hid hq
      clear hri hq
      have R1 := R.on BB
      by_cases hlt : k < m
      · obtain ⟨x, nx1, e1, hr1⟩ : ∃ x nx1 e1, ri l q = (x, nx1, e1) := ⟨_, _, _, rfl⟩
        have hg1 := ri_rng l q x nx1 e1 HB.out hr1
        have HR1 := Lib.hid hr1
        have hmk : m - k = (m - (k + 1)) + 1 := by omega
        rw [hmk] at HRI
        by_cases he1 : e1 = 0
        · subst he1
          have HRI2 := Lib.hid ((rints_on hr1).symm.trans HRI.out)
          have hxr : IntKind.i64.min ≤ x ∧ x ≤ IntKind.i64.max := by rw [i64_min, i64_max]; omega
          have HX := Lib.hid hxr
          have hnn : n' + 1 ≤ 17592186044416 := by have := HQ.out; have := own.len; rw [HL.out] at hg1; omega
          have HQ2 : Hid (0 ≤ nx1 ∧ (((d ++ [x]).length : Nat) : Int) ≤ nx1 ∧ nx1 ≤ n) := Lib.hid (by have := HQ.out; rw [HL.out] at hg1; simp; omega)
          clear hr1 hg1 hxr hmk
          go_wp2_with (first
            | (go_at_call 21; refine (readInt_b _ _ _ _ _ _ _ _ _ R1 hn' HR1.out).mono ?_; rintro _ W2 ⟨rfl, B2⟩)
            | (at_builtin; refine wpList_app1 _ rfl _ _ _ rfl eI (own.on B2) rfl HX.out rfl (by simp only [maxLen]; omega) (by omega) ?_; intro A3 n3 c3 W3 own3 B3))
          go_roundw
          case rel => exact ⟨k + 1, nx1, A3, n3, c3, _, by omega, by go_num, rfl, rfl, HRI2.out, HQ2.out, own3, (bon BB B2).trans (B3.mono HS.out)⟩
          case measure => simp [intOf]; omega
        · have h3 := (rints_no hr1 he1).symm.trans HRI.out
          simp only [Prod.mk.injEq] at h3
          obtain ⟨rfl, rfl, rfl⟩ := h3
          have he : e1 = 2 ∨ e1 = 3 ∨ e1 = 4 := by omega
          clear hr1 hg1 hmk he1 HRI
          rcases he with rfl | rfl | rfl
          all_goals
            go_wp2_with (go_at_call 21; refine (readInt_b _ _ _ _ _ _ _ _ _ R1 hn' HR1.out).mono ?_; rintro _ W2 ⟨rfl, B2⟩)
            go_ret3
            exact ⟨none, 0, 0, rfl, by omega, Rd.nil _ _ _ _, bon BB B2⟩
      · obtain rfl : k = m := by omega
        rw [Nat.sub_self] at HRI
        have h3 := HRI.out
        simp only [rints, Prod.mk.injEq] at h3
        obtain ⟨rfl, rfl, rfl⟩ := h3
        clear HRI
        go_wp2
        go_ret3
        exact ⟨A', n', c', rfl, own.room, own.rd, BB⟩
  · have h3 := (rI_no hr he).symm.trans h
    simp only [Prod.mk.injEq] at h3
    obtain ⟨rfl, rfl, rfl⟩ := h3
    have he2 : er = 2 ∨ er = 3 ∨ er = 4 ∨ er = 5 := by omega
    clear h hr hg he
    rcases he2 with rfl | rfl | rfl | rfl
    all_goals
      go_enter Try.func25, Try.ntmps25
      go_wp2_with (go_at_call 41; refine (readLength_b _ _ _ _ _ _ _ _ _ _ R hn' HR.out).mono ?_; rintro _ W1 ⟨rfl, B1⟩)
      go_ret3
      exact ⟨none, 0, 0, rfl, by omega, Rd.nil _ _ _ _, B1⟩

set_option maxRecDepth 100000 in
set_option maxHeartbeats 1000000 in
theorem rreadInts_b (A : Option Addr) (n c : Nat) (l : List Int) (a lim : Int) (L : List Int) (NX ER : Int) (w : World) (R : Rd w w.heap.size .u8 A n l) (hn : n ≤ 17592186044416) (h : rI l a lim = (L, NX, ER)) :
    Calls Try.prog 26 #[.slice A n c, .int .i64 a, .int .i64 lim] w (GivesInts w L NX ER) := by
  have hn' : n ≤ 9223372036854775807 := by omega
  have HB := Lib.hid (rd_bytes R)
  have HL := Lib.hid R.len
  obtain ⟨v, nx, er, hr⟩ : ∃ v nx er, rl l a lim = (v, nx, er) := ⟨_, _, _, rfl⟩
  have hg := rl_rng l a lim v nx er HB.out hr
  have HR := Lib.hid hr
  by_cases he : er = 0
  · subst he
    rw [rI_yes hr] at h
    obtain ⟨m, rfl⟩ : ∃ m : Nat, v = m := ⟨v.toNat, by omega⟩
    simp only [Int.toNat_natCast] at h
    have HH := Lib.hid h
    have hm : (m : Int) ≤ 9223372036854775807 := by omega
    have HN : Hid (0 ≤ nx ∧ nx ≤ n) := Lib.hid (by rw [HL.out] at hg; omega)
    clear h hr hg
    go_enter Try.func26, Try.ntmps26
    go_wp2_with (go_at_call 42; refine (rlength_b _ _ _ _ _ _ _ _ _ _ R hn' HR.out).mono ?_; rintro _ W1 ⟨rfl, B1⟩)
    have HS := Lib.hid B1.size
    go_loopw [10, 12, 13] (fun p s i wr => ∃ (k : Nat) (q : Int) (A' : Option Addr) (n' c' : Nat) (d : List Int), k ≤ m ∧ i = .int .i64 k ∧ p = .int .i64 q ∧ s = .slice A' n' c' ∧ rints l (m - k) q d = (L, NX, ER) ∧ (0 ≤ q ∧ (d.length : Int) ≤ q ∧ q ≤ n) ∧ Own wr W1.heap.size 3 .i64 A' n' c' d ∧ Below w.heap.size w wr) (fun _ _ i _ => m - (intOf i).toNat)
    case atStart => exact ⟨0, nx, _, 0, 0, [], by omega, by go_num, rfl, rfl, HH.out, ⟨HN.out.1, HN.out.1, HN.out.2⟩, Own.made _ _ _, bon B1 ((Below.refl _ _).alloc (Nat.le_refl _) _)⟩
    case round =>
      clear B1
      obtain ⟨k, q, A', n', c', d, hk, rfl, rfl, rfl, hri, hq, own, BB⟩ := hrel
      have HRI := Lib.hid hri
      have HQ := Lib.hid hq
      clear hri hq
      have R1 := R.on BB
      by_cases hlt : k < m
      · obtain ⟨x, nx1, e1, hr1⟩ : ∃ x nx1 e1, ri l q = (x, nx1, e1) := ⟨_, _, _, rfl⟩
        have hg1 := ri_rng l q x nx1 e1 HB.out hr1
        have HR1 := Lib.hid hr1
        have hmk : m - k = (m - (k + 1)) + 1 := by omega
        rw [hmk] at HRI
        by_cases he1 : e1 = 0
        · subst he1
          have HRI2 := Lib.hid ((rints_on hr1).symm.trans HRI.out)
          have hxr : IntKind.i64.min ≤ x ∧ x ≤ IntKind.i64.max := by rw [i64_min, i64_max]; omega
          have HX := Lib.hid hxr
          have hnn : n' + 1 ≤ 17592186044416 := by have := HQ.out; have := own.len; rw [HL.out] at hg1; omega
          have HQ2 : Hid (0 ≤ nx1 ∧ (((d ++ [x]).length : Nat) : Int) ≤ nx1 ∧ nx1 ≤ n) := Lib.hid (by have := HQ.out; rw [HL.out] at hg1; simp; omega)
          clear hr1 hg1 hxr hmk
          go_wp2_with (first
            | (go_at_call 22; refine (rreadInt_b _ _ _ _ _ _ _ _ _ R1 hn' HR1.out).mono ?_; rintro _ W2 ⟨rfl, B2⟩)
            | (at_builtin; refine wpList_app1 _ rfl _ _ _ rfl eI (own.on B2) rfl HX.out rfl (by simp only [maxLen]; omega) (by omega) ?_; intro A3 n3 c3 W3 own3 B3))
          go_roundw
          case rel => exact ⟨k + 1, nx1, A3, n3, c3, _, by omega, by go_num, rfl, rfl, HRI2.out, HQ2.out, own3, (bon BB B2).trans (B3.mono HS.out)⟩
          case measure => simp [intOf]; omega
        · have h3 := (rints_no hr1 he1).symm.trans HRI.out
          simp only [Prod.mk.injEq] at h3
          obtain ⟨rfl, rfl, rfl⟩ := h3
          have he : e1 = 2 ∨ e1 = 3 ∨ e1 = 4 := by omega
          clear hr1 hg1 hmk he1 HRI
          rcases he with rfl | rfl | rfl
          all_goals
            go_wp2_with (go_at_call 22; refine (rreadInt_b _ _ _ _ _ _ _ _ _ R1 hn' HR1.out).mono ?_; rintro _ W2 ⟨rfl, B2⟩)
            go_ret3
            exact ⟨none, 0, 0, rfl, by omega, Rd.nil _ _ _ _, bon BB B2⟩
      · obtain rfl : k = m := by omega
        rw [Nat.sub_self] at HRI
        have h3 := HRI.out
        simp only [rints, Prod.mk.injEq] at h3
        obtain ⟨rfl, rfl, rfl⟩ := h3
        clear HRI
        go_wp2
        go_ret3
        exact ⟨A', n', c', rfl, own.room, own.rd, BB⟩
  · have h3 := (rI_no hr he).symm.trans h
    simp only [Prod.mk.injEq] at h3
    obtain ⟨rfl, rfl, rfl⟩ := h3
    have he2 : er = 2 ∨ er = 3 ∨ er = 4 ∨ er = 5 := by omega
    clear h hr hg he
    rcases he2 with rfl | rfl | rfl | rfl
    all_goals
      go_enter Try.func26, Try.ntmps26
      go_wp2_with (go_at_call 42; refine (rlength_b _ _ _ _ _ _ _ _ _ _ R hn' HR.out).mono ?_; rintro _ W1 ⟨rfl, B1⟩)
      go_ret3
      exact ⟨none, 0, 0, rfl, by omega, Rd.nil _ _ _ _, B1⟩

/-! ### strings -/

/-- Reading a string: it, the index behind it, the error. -/
def rS (l : List Int) (a lim : Int) : ByteArray × Int × Int :=
  if (rl l a lim).2.2 ≠ 0 then (⟨#[]⟩, 0, (rl l a lim).2.2)
  else if (l.length : Int) - (rl l a lim).2.1 < (rl l a lim).1 then (⟨#[]⟩, 0, 4)
  else (strOfNums ((l.drop (rl l a lim).2.1.toNat).take (rl l a lim).1.toNat), (rl l a lim).2.1 + (rl l a lim).1, 0)

theorem rS_no {l : List Int} {a lim v nx er : Int} (h : rl l a lim = (v, nx, er)) (he : er ≠ 0) : rS l a lim = (⟨#[]⟩, 0, er) := by rw [rS, h, if_pos he]
theorem rS_short {l : List Int} {a lim v nx : Int} (h : rl l a lim = (v, nx, 0)) (hs : (l.length : Int) - nx < v) : rS l a lim = (⟨#[]⟩, 0, 4) := by rw [rS, h, if_neg (by simp), if_pos hs]
theorem rS_yes {l : List Int} {a lim : Int} {m p : Nat} (h : rl l a lim = ((m : Int), (p : Int), 0)) (hs : ¬ ((l.length : Int) - p < m)) : rS l a lim = (strOfNums ((l.drop p).take m), (p : Int) + m, 0) := by
  rw [rS, h, if_neg (by simp), if_neg hs]; simp

theorem run_convert_zero (W : World) (A : Option Addr) (c : Nat) : (convert 22 9 (.slice A 0 c)).run Try.prog W = .ok (.string ⟨#[]⟩) W := by
  rcases A with _ | a
  · exact run_convert_bytes_nil W 22 5 Try.underlying22 Try.underlying5 0 c 9 Try.underlying9
  · have hl : (loadCells a 0).run Try.prog W = .ok #[] W := by simp [loadCells, loadCellsFrom]
    rw [run_convert_bytes_string W 22 9 5 _ 0 c Try.underlying22 Try.underlying5 Try.underlying9, run_bytesToString W a 0 c [] (by simpa using hl)]
    rfl

set_option maxRecDepth 100000 in
theorem readString_b (A : Option Addr) (n c : Nat) (l : List Int) (a lim : Int) (s : ByteArray) (NX ER : Int) (w : World) (R : Rd w w.heap.size .u8 A n l) (hn : n ≤ 9223372036854775807) (hc : n ≤ c) (hc2 : c ≤ 9223372036854775807) (h : rS l a lim = (s, NX, ER)) :
    Calls Try.prog 28 #[.slice A n c, .int .i64 a, .int .i64 lim] w fun e w' => e = .returned (.tuple #[.string s, .int .i64 NX, .int .i64 ER]) ∧ Below w.heap.size w w' := by
  have HB := Lib.hid (rd_bytes R)
  have HL := Lib.hid R.len
  obtain ⟨v, nx, er, hr⟩ : ∃ v nx er, rl l a lim = (v, nx, er) := ⟨_, _, _, rfl⟩
  have hg := rl_rng l a lim v nx er HB.out hr
  have HR := Lib.hid hr
  by_cases he : er = 0
  · subst he
    obtain ⟨m, rfl⟩ : ∃ m : Nat, v = m := ⟨v.toNat, by omega⟩
    obtain ⟨p, rfl⟩ : ∃ p : Nat, nx = p := ⟨nx.toNat, by omega⟩
    have hp : p ≤ n := by rw [HL.out] at hg; omega
    have hm : (m : Int) ≤ 9223372036854775807 := by omega
    by_cases hs : (n : Int) - p < m
    · have h3 := (rS_short hr (by rw [HL.out]; exact hs)).symm.trans h
      simp only [Prod.mk.injEq] at h3
      obtain ⟨rfl, rfl, rfl⟩ := h3
      clear h hr hg
      go_enter Try.func28, Try.ntmps28
      go_wp2_with (go_at_call 41; refine (readLength_b _ _ _ _ _ _ _ _ _ _ R hn HR.out).mono ?_; rintro _ W1 ⟨rfl, B1⟩)
      go_ret3
      exact ⟨rfl, B1⟩
    · have h3 := (rS_yes hr (by rw [HL.out]; exact hs)).symm.trans h
      simp only [Prod.mk.injEq] at h3
      obtain ⟨hs1, rfl, rfl⟩ := h3
      have HS := Lib.hid hs1
      have hmn : (m : Int) ≤ (n : Int) - p := by omega
      have hpm : (p : Int) + m ≤ n := by omega
      clear h hr hg hs hs1
      by_cases hm0 : m = 0
      · subst hm0
        obtain rfl : s = ⟨#[]⟩ := by rw [← HS.out]; simp [strOfNums]
        have hz := run_convert_zero
        go_enter Try.func28, Try.ntmps28
        go_wp2_with (go_at_call 41; refine (readLength_b _ _ _ _ _ _ _ _ _ _ R hn HR.out).mono ?_; rintro _ W1 ⟨rfl, B1⟩)
        all_goals go_ret3
        all_goals exact ⟨rfl, B1⟩
      · obtain ⟨b, off, rfl, hb, hcell⟩ := R.2.2 (by omega)
        have hcp : ¬ c = p := by omega
        have hcv : ∀ W, Below w.heap.size w W → (convert 22 9 (.slice (some ⟨b, off + p, none⟩) m (c - p))).run Try.prog W = .ok (.string s) W := by
          intro W BW
          have hlen : ((l.drop p).take m).length = m := by rw [List.length_take, List.length_drop, HL.out]; omega
          rw [← HS.out]
          refine run_convert_bytes_arg W 22 5 Try.underlying22 Try.underlying5 b (off + p) m (c - p) ((l.drop p).take m) hlen (fun i hi => ?_) 9 Try.underlying9
          have e1 : (l.drop p)[i]? = l[p + i]? := by rw [List.getElem?_drop]
          have hl1 : p + i < l.length := by rw [HL.out]; omega
          rw [Nat.add_assoc, List.getD, List.getElem?_take, if_pos hi, e1, List.getElem?_eq_getElem hl1]
          exact (BW.cell (p := ⟨b, off + (p + i), none⟩) hb).trans (hcell _ _ (List.getElem?_eq_getElem hl1))
        have HCV := Lib.hid hcv
        clear hcv hcell
        go_enter Try.func28, Try.ntmps28
        go_wp2_with (go_at_call 41; refine (readLength_b _ _ _ _ _ _ _ _ _ _ R hn HR.out).mono ?_; rintro _ W1 ⟨rfl, B1⟩; have cv := HCV.out _ B1)
        all_goals go_ret3
        all_goals exact ⟨rfl, B1⟩
  · have h3 := (rS_no hr he).symm.trans h
    simp only [Prod.mk.injEq] at h3
    obtain ⟨rfl, rfl, rfl⟩ := h3
    have he2 : er = 2 ∨ er = 3 ∨ er = 4 ∨ er = 5 := by omega
    clear h hr hg he
    rcases he2 with rfl | rfl | rfl | rfl
    all_goals
      go_enter Try.func28, Try.ntmps28
      go_wp2_with (go_at_call 41; refine (readLength_b _ _ _ _ _ _ _ _ _ _ R hn HR.out).mono ?_; rintro _ W1 ⟨rfl, B1⟩)
      go_ret3
      exact ⟨rfl, B1⟩

set_option maxRecDepth 100000 in
theorem rreadString_b (A : Option Addr) (n c : Nat) (l : List Int) (a lim : Int) (s : ByteArray) (NX ER : Int) (w : World) (R : Rd w w.heap.size .u8 A n l) (hn : n ≤ 9223372036854775807) (hc : n ≤ c) (hc2 : c ≤ 9223372036854775807) (h : rS l a lim = (s, NX, ER)) :
    Calls Try.prog 29 #[.slice A n c, .int .i64 a, .int .i64 lim] w fun e w' => e = .returned (.tuple #[.string s, .int .i64 NX, .int .i64 ER]) ∧ Below w.heap.size w w' := by
  have HB := Lib.hid (rd_bytes R)
  have HL := Lib.hid R.len
  obtain ⟨v, nx, er, hr⟩ : ∃ v nx er, rl l a lim = (v, nx, er) := ⟨_, _, _, rfl⟩
  have hg := rl_rng l a lim v nx er HB.out hr
  have HR := Lib.hid hr
  by_cases he : er = 0
  · subst he
    obtain ⟨m, rfl⟩ : ∃ m : Nat, v = m := ⟨v.toNat, by omega⟩
    obtain ⟨p, rfl⟩ : ∃ p : Nat, nx = p := ⟨nx.toNat, by omega⟩
    have hp : p ≤ n := by rw [HL.out] at hg; omega
    have hm : (m : Int) ≤ 9223372036854775807 := by omega
    by_cases hs : (n : Int) - p < m
    · have h3 := (rS_short hr (by rw [HL.out]; exact hs)).symm.trans h
      simp only [Prod.mk.injEq] at h3
      obtain ⟨rfl, rfl, rfl⟩ := h3
      clear h hr hg
      go_enter Try.func29, Try.ntmps29
      go_wp2_with (go_at_call 42; refine (rlength_b _ _ _ _ _ _ _ _ _ _ R hn HR.out).mono ?_; rintro _ W1 ⟨rfl, B1⟩)
      go_ret3
      exact ⟨rfl, B1⟩
    · have h3 := (rS_yes hr (by rw [HL.out]; exact hs)).symm.trans h
      simp only [Prod.mk.injEq] at h3
      obtain ⟨hs1, rfl, rfl⟩ := h3
      have HS := Lib.hid hs1
      have hmn : (m : Int) ≤ (n : Int) - p := by omega
      have hpm : (p : Int) + m ≤ n := by omega
      clear h hr hg hs hs1
      by_cases hm0 : m = 0
      · subst hm0
        obtain rfl : s = ⟨#[]⟩ := by rw [← HS.out]; simp [strOfNums]
        have hz := run_convert_zero
        go_enter Try.func29, Try.ntmps29
        go_wp2_with (go_at_call 42; refine (rlength_b _ _ _ _ _ _ _ _ _ _ R hn HR.out).mono ?_; rintro _ W1 ⟨rfl, B1⟩)
        all_goals go_ret3
        all_goals exact ⟨rfl, B1⟩
      · obtain ⟨b, off, rfl, hb, hcell⟩ := R.2.2 (by omega)
        have hcp : ¬ c = p := by omega
        have hcv : ∀ W, Below w.heap.size w W → (convert 22 9 (.slice (some ⟨b, off + p, none⟩) m (c - p))).run Try.prog W = .ok (.string s) W := by
          intro W BW
          have hlen : ((l.drop p).take m).length = m := by rw [List.length_take, List.length_drop, HL.out]; omega
          rw [← HS.out]
          refine run_convert_bytes_arg W 22 5 Try.underlying22 Try.underlying5 b (off + p) m (c - p) ((l.drop p).take m) hlen (fun i hi => ?_) 9 Try.underlying9
          have e1 : (l.drop p)[i]? = l[p + i]? := by rw [List.getElem?_drop]
          have hl1 : p + i < l.length := by rw [HL.out]; omega
          rw [Nat.add_assoc, List.getD, List.getElem?_take, if_pos hi, e1, List.getElem?_eq_getElem hl1]
          exact (BW.cell (p := ⟨b, off + (p + i), none⟩) hb).trans (hcell _ _ (List.getElem?_eq_getElem hl1))
        have HCV := Lib.hid hcv
        clear hcv hcell
        go_enter Try.func29, Try.ntmps29
        go_wp2_with (go_at_call 42; refine (rlength_b _ _ _ _ _ _ _ _ _ _ R hn HR.out).mono ?_; rintro _ W1 ⟨rfl, B1⟩; have cv := HCV.out _ B1)
        all_goals go_ret3
        all_goals exact ⟨rfl, B1⟩
  · have h3 := (rS_no hr he).symm.trans h
    simp only [Prod.mk.injEq] at h3
    obtain ⟨rfl, rfl, rfl⟩ := h3
    have he2 : er = 2 ∨ er = 3 ∨ er = 4 ∨ er = 5 := by omega
    clear h hr hg he
    rcases he2 with rfl | rfl | rfl | rfl
    all_goals
      go_enter Try.func29, Try.ntmps29
      go_wp2_with (go_at_call 42; refine (rlength_b _ _ _ _ _ _ _ _ _ _ R hn HR.out).mono ?_; rintro _ W1 ⟨rfl, B1⟩)
      go_ret3
      exact ⟨rfl, B1⟩

end Go.Proofs.Ytaimkplcnkbjlaa
