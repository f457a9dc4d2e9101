/- Format of package isa; the chapter's example. -/
import Derived.Test.YtnhnbblplnhmlaaGreatDoorU8
import Derived.Test.YtnhnbblplnhmlaaGreatDoorU6
import Derived.Test.YtnhnbblplnhmlaaGreatDoorU2
namespace Go.Proofs.YtnhnbblplnhmlaaGreatDoor
set_option linter.unusedSimpArgs false
open Go.RowKit Go.Sort Go.ChangeShapes Go.WideShapes
set_option linter.unusedVariables false

theorem Bld.on {W V : World} {B b : Nat} {l : List UInt8} (h : Bld W B b l) (K : Below W.heap.size W V) : Bld V B b l := by
  have key : ∀ p, Lib.BuilderAt 84 5 B b p (Lib.byteCells l) W → Lib.BuilderAt 84 5 B b p (Lib.byteCells l) V := fun p q => by
    have hlt := q.lt
    obtain ⟨hB, v, hb, hown, hne⟩ := q
    exact ⟨hB, v, (K.block b hlt).trans hb, hown.kept (grown_of_below K) (by cases hv : v.ownBlock <;> simp), hne⟩
  exact h.elim (fun q => .inl (key _ q)) (fun q => .inr (key _ q))

theorem Bld.lt {W : World} {B b : Nat} {l : List UInt8} (h : Bld W B b l) : b < W.heap.size := h.elim (fun q => q.lt) (fun q => q.lt)

/-- A program's text. -/
def fmt (l : List In) : List Int := l.flatMap fun x => strL (linS x) ++ [10]
def fmtS (l : List In) : ByteArray := strOfNums (fmt l)

theorem fmt_on {l : List In} {k : Nat} {x : In} (h : l[k]? = some x) : fmt (l.take (k + 1)) = fmt (l.take k) ++ (strL (linS x) ++ [10]) := by
  obtain ⟨hk, rfl⟩ := List.getElem?_eq_some_iff.1 h
  unfold fmt
  rw [List.take_succ_eq_append_getElem hk, List.flatMap_append]
  simp

theorem lstr {l : List UInt8} {m : List Int} (h : nI l = m) : (⟨l.toArray⟩ : ByteArray) = strOfNums m := by
  rw [← h, ← strL_mk, strOf_strL]

set_option maxRecDepth 100000 in
set_option maxHeartbeats 2000000 in
theorem format_b (p : Pr) (A : Option Addr) (n c : Nat) (w : World) (LL : Lay6 w) (R : RdE inC 6 w w.heap.size A n p.cd) (hwf : ∀ x ∈ p.cd, x.wf) (hn : n ≤ 1000000) :
    Calls Tryz.prog 30 #[.agg (prA p A n c)] w fun e w' => e = .returned (.string (fmtS p.cd)) ∧ Below w.heap.size w w' := by
  obtain ⟨c0, c1, c2, c3, c4, c5, c6, c7, BB⟩ := boxP w p A n c 31
  have HR := Lib.hid R
  have HN := Lib.hid R.len
  have HL := Lib.hid LL
  have HW := Lib.hid hwf
  have bl := Bld.new (w.alloc (.cells (prA p A n c) 31))
  have BX := box_below (w.alloc (.cells (prA p A n c) 31)) #[.pointer none, .slice none 0 0] 84
  have c7b := cell_below BX c7
  have s2 : (w.alloc (.cells (prA p A n c) 31)).heap.size = w.heap.size + 1 := by simp
  have BB2 := bon BB BX
  rw [s2] at bl
  have HB := Lib.hid bl
  clear R LL hwf bl s2 c0 c1 c2 c3 c4 c5 c6
  go_enter Tryz.func30, Tryz.ntmps30
  go_wp2
  obtain ⟨U, hU⟩ : ∃ U, (w.alloc (.cells (prA p A n c) 31)).alloc (.cells #[.pointer none, .slice none 0 0] 84) = U := ⟨_, rfl⟩
  rw [hU] at HB BB2 ⊢
  clear hU c7 c7b BB BX
  go_loopw [9] (fun i wr => ∃ (k : Nat) (l : List UInt8), k ≤ n ∧ i = .int .i64 (k : Int) ∧ Bld wr (w.heap.size + 1) (w.heap.size + 1) l ∧ nI l = fmt (p.cd.take k) ∧ l.length ≤ 139 * k ∧ Below w.heap.size w wr) (fun i _ => n - (intOf i).toNat)
  case atStart => exact ⟨0, [], Nat.zero_le _, rfl, HB.out, rfl, by simp, BB2⟩
  case round =>
    obtain ⟨k, l, hk, rfl, bl, hl, hll, BB⟩ := hrel
    clear HB BB2
    by_cases hlt : k < n
    · have R1 := HR.out.below BB
      obtain ⟨b1, o1, x, rfl, hb1, E1, hx⟩ := R1.at_ hlt
      have hxw : x.wf := HW.out x (List.mem_of_getElem? hx.out)
      have hsz := linS_size hxw
      have hon := fmt_on hx.out
      have CL := Lib.hid (fun W L => line_b x W L hxw)
      obtain ⟨z, hz⟩ : ∃ z, linS x = z := ⟨_, rfl⟩
      rw [hz] at CL hsz hon
      have HON := Lib.hid hon
      have HZL : Hid (z.data.toList.length = z.size) := Lib.hid (by rw [Array.length_toList]; rfl)
      have HLE := Lib.hid hl
      have bwr := bl.lt
      clear R1 hx hz hon hl hxw
      go_wp2_with (first
        | (with_reducible refine iload E1 rfl ?_; go_simp)
        | ((with_reducible refine istore rfl rfl ?_); have E2 := rngI wr x 24; have BW := box_below wr (inA x) 24; have bl2 := bl.on BW; have BB2 := bon BB BW; go_simp)
        | (with_reducible refine iload E2 rfl ?_; go_simp)
        | (go_at_call 68; (with_reducible refine (CL.out _ (HL.out.on BB2)).mono ?_); rintro _ W3 ⟨rfl, B3⟩; have bl3 := bl2.on B3; have BB3 := bon BB2 B3)
        | (go_at_call 67; (with_reducible refine (writeString_b _ _ _ _ _ bl3 (by omega) (Nat.le_of_lt bl3.lt)).mono ?_); rintro _ W4 ⟨rfl, bl4, B4⟩; have BB4 := BB3.trans (B4.mono (Nat.le_succ _)))
        | (go_at_call 69; (with_reducible refine (writeNl_b _ _ _ _ bl4 (by have q := HZL.out; rw [List.length_append]; omega) (Nat.le_of_lt bl4.lt)).mono ?_); rintro _ W5 ⟨rfl, bl5, B5⟩; have BB5 := BB4.trans (B5.mono (Nat.le_succ _))))
      go_roundw
      case rel =>
        refine ⟨k + 1, l ++ z.data.toList ++ [10], by omega, by go_num, bl5, ?_, ?_, BB5⟩
        · rw [HON.out, ← HLE.out]
          simp [nI, strL]
        · have q := HZL.out
          simp only [List.length_append, List.length_singleton]
          omega
      case measure => simp [intOf]; omega
    · obtain rfl : k = n := by omega
      rw [List.take_of_length_le (by rw [HN.out]; exact Nat.le_refl _)] at hl
      have e := lstr hl
      have CS := Lib.hid (bstring_b _ _ l wr bl (Nat.le_of_lt bl.lt))
      rw [e] at CS
      clear hl e bl
      go_wp2_with (go_at_call 70; (with_reducible refine CS.out.mono ?_); rintro _ W7 ⟨rfl, B7⟩)
      go_ret
      exact ⟨rfl, BB.trans (B7.mono (Nat.le_succ _))⟩

/-- The names of the opcodes, as the reference lists them. -/
def nmA : Array Value := #[.string ⟨#[99, 111, 110, 115, 116]⟩, .string ⟨#[109, 111, 118, 101]⟩, .string ⟨#[97, 100, 100]⟩, .string ⟨#[115, 117, 98]⟩, .string ⟨#[109, 117, 108]⟩, .string ⟨#[100, 105, 118]⟩, .string ⟨#[97, 100, 100, 45, 105, 110, 116]⟩, .string ⟨#[115, 117, 98, 45, 105, 110, 116]⟩, .string ⟨#[109, 117, 108, 45, 105, 110, 116]⟩, .string ⟨#[100, 105, 118, 45, 105, 110, 116]⟩, .string ⟨#[109, 111, 100, 45, 105, 110, 116]⟩, .string ⟨#[97, 110, 100]⟩, .string ⟨#[111, 114]⟩, .string ⟨#[120, 111, 114]⟩, .string ⟨#[115, 104, 105, 102, 116, 45, 108, 101, 102, 116]⟩, .string ⟨#[115, 104, 105, 102, 116, 45, 114, 105, 103, 104, 116]⟩, .string ⟨#[108, 101, 115, 115]⟩, .string ⟨#[108, 101, 115, 115, 45, 101, 113, 117, 97, 108]⟩, .string ⟨#[101, 113, 117, 97, 108]⟩, .string ⟨#[110, 111, 116, 45, 101, 113, 117, 97, 108]⟩, .string ⟨#[109, 105, 110]⟩, .string ⟨#[109, 97, 120]⟩, .string ⟨#[97, 98, 115]⟩, .string ⟨#[97, 98, 115, 45, 105, 110, 116]⟩, .string ⟨#[110, 101, 103, 97, 116, 101]⟩, .string ⟨#[110, 101, 103, 97, 116, 101, 45, 105, 110, 116]⟩, .string ⟨#[110, 111, 116, 45, 105, 110, 116]⟩, .string ⟨#[110, 111, 116, 45, 98, 111, 111, 108]⟩, .string ⟨#[102, 108, 111, 111, 114]⟩, .string ⟨#[102, 114, 97, 99, 116]⟩, .string ⟨#[115, 113, 114, 116]⟩, .string ⟨#[104, 97, 108, 102]⟩, .string ⟨#[102, 105, 120, 101, 100, 45, 111, 102, 45, 105, 110, 116]⟩, .string ⟨#[105, 110, 116, 45, 111, 102, 45, 102, 105, 120, 101, 100]⟩, .string ⟨#[98, 111, 111, 108, 45, 111, 102, 45, 105, 110, 116]⟩, .string ⟨#[115, 101, 108, 101, 99, 116]⟩, .string ⟨#[105, 110, 112, 117, 116]⟩, .string ⟨#[117, 110, 105, 102, 111, 114, 109]⟩, .string ⟨#[111, 117, 116, 112, 117, 116]⟩, .string ⟨#[115, 97, 109, 112, 108, 101]⟩, .string ⟨#[102, 101, 116, 99, 104]⟩, .string ⟨#[108, 111, 97, 100]⟩, .string ⟨#[105, 102]⟩, .string ⟨#[101, 108, 115, 101]⟩, .string ⟨#[101, 110, 100, 45, 105, 102]⟩, .string ⟨#[108, 111, 111, 112]⟩, .string ⟨#[98, 114, 101, 97, 107]⟩, .string ⟨#[99, 111, 110, 116, 105, 110, 117, 101]⟩, .string ⟨#[101, 110, 100, 45, 108, 111, 111, 112]⟩, .string ⟨#[100, 105, 115, 99, 97, 114, 100]⟩, .string ⟨#[101, 109, 105, 116]⟩, .string ⟨#[99, 117, 116]⟩]

theorem nmA_at : ∀ j, j < 52 → nmA[j]? = some (.string (nmB (j + 1))) := by
  intro j hj
  rcases (show j = 0 ∨ j = 1 ∨ j = 2 ∨ j = 3 ∨ j = 4 ∨ j = 5 ∨ j = 6 ∨ j = 7 ∨ j = 8 ∨ j = 9 ∨ j = 10 ∨ j = 11 ∨ j = 12 ∨ j = 13 ∨ j = 14 ∨ j = 15 ∨ j = 16 ∨ j = 17 ∨ j = 18 ∨ j = 19 ∨ j = 20 ∨ j = 21 ∨ j = 22 ∨ j = 23 ∨ j = 24 ∨ j = 25 ∨ j = 26 ∨ j = 27 ∨ j = 28 ∨ j = 29 ∨ j = 30 ∨ j = 31 ∨ j = 32 ∨ j = 33 ∨ j = 34 ∨ j = 35 ∨ j = 36 ∨ j = 37 ∨ j = 38 ∨ j = 39 ∨ j = 40 ∨ j = 41 ∨ j = 42 ∨ j = 43 ∨ j = 44 ∨ j = 45 ∨ j = 46 ∨ j = 47 ∨ j = 48 ∨ j = 49 ∨ j = 50 ∨ j = 51 by omega) with rfl | rfl | rfl | rfl | rfl | rfl | rfl | rfl | rfl | rfl | rfl | rfl | rfl | rfl | rfl | rfl | rfl | rfl | rfl | rfl | rfl | rfl | rfl | rfl | rfl | rfl | rfl | rfl | rfl | rfl | rfl | rfl | rfl | rfl | rfl | rfl | rfl | rfl | rfl | rfl | rfl | rfl | rfl | rfl | rfl | rfl | rfl | rfl | rfl | rfl | rfl | rfl <;> rfl

/-- The example's instruction; its text. -/
def exI : In := ⟨3, 2, 0, 1, 0, 0⟩
theorem exT : fmtS [exI] = ⟨#[97, 100, 100, 32, 114, 50, 32, 114, 48, 32, 114, 49, 10]⟩ := by decide +kernel

end Go.Proofs.YtnhnbblplnhmlaaGreatDoor
