/- What must lie in memory for the library's functions and for the names of the opcodes; what FormatInt and JoinFields of package format return there. -/
import Derived.Test.YtnhnbblplnhmlaaGreatDoorG1
import Derived.Test.YtnhnbblplnhmlaaGreatDoorUMath
import Derived.Test.YtnhnbblplnhmlaaGreatDoorShelf
import Derived.Test.YtnhnbblplnhmlaaGreatDoorStrsOwn
import Derived.Lib.AppendIntMem
namespace Go.Proofs.YtnhnbblplnhmlaaGreatDoor
set_option linter.unusedSimpArgs false
open Go.RowKit Go.Sort

/-- The names of the opcodes, by their numbers. -/
def nmT : List (List Int) := [[], [99, 111, 110, 115, 116], [109, 111, 118, 101], [97, 100, 100], [115, 117, 98], [109, 117, 108], [100, 105, 118], [97, 100, 100, 45, 105, 110, 116], [115, 117, 98, 45, 105, 110, 116], [109, 117, 108, 45, 105, 110, 116], [100, 105, 118, 45, 105, 110, 116], [109, 111, 100, 45, 105, 110, 116], [97, 110, 100], [111, 114], [120, 111, 114], [115, 104, 105, 102, 116, 45, 108, 101, 102, 116], [115, 104, 105, 102, 116, 45, 114, 105, 103, 104, 116], [108, 101, 115, 115], [108, 101, 115, 115, 45, 101, 113, 117, 97, 108], [101, 113, 117, 97, 108], [110, 111, 116, 45, 101, 113, 117, 97, 108], [109, 105, 110], [109, 97, 120], [97, 98, 115], [97, 98, 115, 45, 105, 110, 116], [110, 101, 103, 97, 116, 101], [110, 101, 103, 97, 116, 101, 45, 105, 110, 116], [110, 111, 116, 45, 105, 110, 116], [110, 111, 116, 45, 98, 111, 111, 108], [102, 108, 111, 111, 114], [102, 114, 97, 99, 116], [115, 113, 114, 116], [104, 97, 108, 102], [102, 105, 120, 101, 100, 45, 111, 102, 45, 105, 110, 116], [105, 110, 116, 45, 111, 102, 45, 102, 105, 120, 101, 100], [98, 111, 111, 108, 45, 111, 102, 45, 105, 110, 116], [115, 101, 108, 101, 99, 116], [105, 110, 112, 117, 116], [117, 110, 105, 102, 111, 114, 109], [111, 117, 116, 112, 117, 116], [115, 97, 109, 112, 108, 101], [102, 101, 116, 99, 104], [108, 111, 97, 100], [105, 102], [101, 108, 115, 101], [101, 110, 100, 45, 105, 102], [108, 111, 111, 112], [98, 114, 101, 97, 107], [99, 111, 110, 116, 105, 110, 117, 101], [101, 110, 100, 45, 108, 111, 111, 112], [100, 105, 115, 99, 97, 114, 100], [101, 109, 105, 116], [99, 117, 116]]
def nam (o : Int) : List Int := if okO o = true then nmT.getD o.toNat [] else []
def nmB (k : Nat) : ByteArray := ⟨((nmT.getD k []).map fun x => UInt8.ofNat x.toNat).toArray⟩

theorem var_below {P : Program} {w w' : World} {n : String} {cs : Array Value} (h : w.var? P n = some cs) (B : Below w.heap.size w w') : w'.var? P n = some cs := by
  unfold World.var? at *
  cases hg : P.globalNamed n with
  | none => simp [hg] at h
  | some g =>
    simp only [hg, Option.bind_some] at h ⊢
    have hlt : g < w.heap.size := by
      rcases Nat.lt_or_ge g w.heap.size with h' | h'
      · exact h'
      · rw [Array.getElem?_eq_none h'] at h; simp at h
    rw [B.block g hlt]
    exact h

/-- What lies in memory that the library and package isa read. -/
structure Lay6 (w : World) : Prop where
  tab : Lib.TabIs Tryz.prog w "internal/strconv.uint64pow10" .u64 Lib.pow10Tab
  nam : ∀ k, k < 53 → w.cell? ⟨0, k, none⟩ = some (.string (nmB k))

theorem Lay6.on {w w' : World} (h : Lay6 w) (B : Below w.heap.size w w') : Lay6 w' :=
  ⟨Lib.tabBelow_of_tabIs h.tab w' B, fun k hk => cell_below B (h.nam k hk)⟩

theorem mk_str {l : List UInt8} {s : ByteArray} (h : nI l = strL s) : (⟨l.toArray⟩ : ByteArray) = s := str_ext (by rw [strL_mk, h])

theorem itoa_b (n : Int) (z : ByteArray) (w : World) (LL : Lay6 w) (h0 : -9223372036854775808 ≤ n) (h1 : n ≤ 9223372036854775807) (hz : strL z = fint n) :
    Calls Tryz.prog 124 #[.int .i64 n] w fun e w' => e = .returned (.string z) ∧ Below w.heap.size w w' :=
  (Tryz.strconv_Itoa n h0 h1 w LL.tab).mono fun e w' ⟨he, k, os, hw⟩ => ⟨by rw [he, mk_str (by rw [nI_itoa, hz])], by rw [hw]; exact Lib.below_grow _ _ (Nat.le_refl _) _ _⟩

theorem join_b (A : Option Addr) (n c : Nat) (l : List ByteArray) (out : ByteArray) (w : World) (R : RdS w w.heap.size A n l) (hc : n ≤ c) (hl : out.size ≤ 2000) (ho : strL out = jn false l) (hn : n ≤ 140737488355328) :
    Calls Tryz.prog 125 #[.slice A n c, .string ⟨#[32]⟩] w fun e w' => e = .returned (.string out) ∧ Below w.heap.size w w' := by
  have hlen := R.len
  have hj : nI (Lib.join (l.map (·.data.toList)) [32]) = strL out := by rw [nI_join, ho]
  rcases Nat.eq_zero_or_pos n with h0 | h0
  · subst h0
    obtain rfl : l = [] := List.eq_nil_of_length_eq_zero hlen
    have : out = ⟨#[]⟩ := str_ext (by rw [ho]; rfl)
    subst this
    exact (Any.strings_Join_none Tryz.lays156 Tryz.Builder_Extra_156 A c ⟨#[32]⟩ w).mono fun e w' ⟨he, hw⟩ => ⟨he, by rw [hw]; exact Below.refl _ _⟩
  · obtain ⟨b, off, rfl, hb, hcell⟩ := R.2 h0
    have hj2 : (Lib.join (l.map (·.data.toList)) [32]).length = out.size := by rw [← nI_len, hj, strL_len]
    subst hlen
    refine (Tryz.strings_Join b off c l ⟨#[32]⟩ w hcell hb hn hc (by show (Lib.join _ [32]).length ≤ _; rw [hj2]; omega)).mono fun e w' ⟨he, hw⟩ => ⟨?_, hw⟩
    rw [he]
    show Ending.returned (.string ⟨(Lib.join (l.map (·.data.toList)) [32]).toArray⟩) = _
    rw [mk_str hj]

theorem formatInt_b (n : Int) (w : World) (LL : Lay6 w) (h0 : -9223372036854775808 ≤ n) (h1 : n ≤ 9223372036854775807) :
    Calls Tryz.prog 101 #[.int .i64 n] w fun e w' => e = .returned (.string (strOfNums (fint n))) ∧ Below w.heap.size w w' := by
  have c := fun W L => itoa_b n (strOfNums (fint n)) W L h0 h1 (strL_of (fint_rng n))
  obtain ⟨z, hz⟩ : ∃ z, strOfNums (fint n) = z := ⟨_, rfl⟩
  rw [hz] at c ⊢
  have C := Lib.hid c
  have HL := Lib.hid LL
  clear hz c LL
  go_enter Tryz.func101, Tryz.ntmps101
  go_wp2_with (go_at_call 124; refine (C.out _ HL.out).mono ?_; rintro _ W1 ⟨rfl, B⟩)
  go_ret
  exact ⟨rfl, B⟩

theorem joinFields_b (A : Option Addr) (n c : Nat) (l : List ByteArray) (out : ByteArray) (w : World) (R : RdS w w.heap.size A n l) (hc : n ≤ c) (hn : n ≤ 140737488355328) (hl : out.size ≤ 2000) (ho : strL out = jn false l) :
    Calls Tryz.prog 102 #[.slice A n c] w fun e w' => e = .returned (.string out) ∧ Below w.heap.size w w' := by
  have H := Lib.hid ho
  have RR := Lib.hid R
  have HC := Lib.hid hc
  clear ho R hc
  go_enter Tryz.func102, Tryz.ntmps102
  go_wp2_with (go_at_call 125; refine (join_b _ _ _ _ _ _ RR.out HC.out hl H.out hn).mono ?_; rintro _ W1 ⟨rfl, B⟩)
  go_ret
  exact ⟨rfl, B⟩

end Go.Proofs.YtnhnbblplnhmlaaGreatDoor
