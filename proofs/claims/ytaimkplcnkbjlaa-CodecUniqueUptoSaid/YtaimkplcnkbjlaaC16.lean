/- The walk of CodecUnique. Written by tools/gen/genC16.py. -/
import Derived.Test.YtaimkplcnkbjlaaC14
import Derived.Test.YtaimkplcnkbjlaaC13
namespace Go.Proofs.Ytaimkplcnkbjlaa
open Go.RowKit Go.Sort

/-- A part of a slice that is not empty. -/
theorem rd_part {w : World} {B n c p q b off : Nat} {l : List Int} (R : Rd w B .u8 (some ⟨b, off, none⟩) n l) (h1 : p < q) (h2 : q ≤ n) (h3 : n ≤ c) : Rd w B .u8 (some ⟨b, off + p, none⟩) (q - p) (part l p (q - p)) := by
  have h := R.cut (i := p) (j := q) (cap := c) (by omega) h2 h3
  rw [if_neg (by omega)] at h
  simpa [add_plain', part] using h

theorem part_len_le (l : List Int) (p m : Nat) : (part l p m).length ≤ l.length := by
  unfold part; rw [List.length_take, List.length_drop]; omega

/-- What a read that is not refused leaves to be shown. -/
def Fits (l : List Int) (p n : Nat) (nx : Int) (e : List Int) : Prop := ∃ q : Nat, nx = q ∧ p < q ∧ q ≤ n ∧ e = part l p (q - p)

theorem fits_ri {l : List Int} {n p : Nat} {v nx : Int} (hl : l.length = n) (hb : ∀ x ∈ l, (0 : Int) ≤ x ∧ x ≤ 255) (h : ri l p = (v, nx, 0)) : Fits l p n nx (encI v) := by
  obtain ⟨h1, h2, h3, h4⟩ := ri_unique l p v nx hb h
  exact ⟨nx.toNat, by omega, by omega, by omega, by rw [h1]; rfl⟩

theorem fits_rI {l : List Int} {n p : Nat} {L : List Int} {lim nx : Int} (hl : l.length = n) (hb : ∀ x ∈ l, (0 : Int) ≤ x ∧ x ≤ 255) (h : rI l p lim = (L, nx, 0)) : Fits l p n nx (encL L) := by
  obtain ⟨h1, h2, h3, h4⟩ := rI_unique l hb p lim L nx h
  exact ⟨nx.toNat, by omega, by omega, by omega, by rw [h1]; rfl⟩

theorem fits_rS {l : List Int} {n p : Nat} {s : ByteArray} {lim nx : Int} (hl : l.length = n) (hb : ∀ x ∈ l, (0 : Int) ≤ x ∧ x ≤ 255) (h : rS l p lim = (s, nx, 0)) : Fits l p n nx (encS s) := by
  obtain ⟨h1, h2, h3, h4⟩ := rS_unique l hb p lim s nx h
  exact ⟨nx.toNat, by omega, by omega, by omega, by rw [h1]; rfl⟩

set_option maxRecDepth 100000 in
theorem unique_out (A : Option Addr) (n c : Nat) (a lim : Int) (w : World) (h : a < 0 ∨ (n : Int) < a) :
    Calls Try.prog 10 #[.slice A n c, .int .i64 a, .int .i64 lim] w fun e w' => e = .returned (.bool true) ∧ Below w.heap.size w w' := by
  by_cases ha : a < 0
  · clear h
    go_enter Try.func10, Try.ntmps10
    go_wp2_with (go_at_call 20; refine (example_b _).mono ?_; rintro _ W1 ⟨rfl, B⟩)
    go_ret
    exact ⟨rfl, B⟩
  · have ha0 : 0 ≤ a := by omega
    have ha1 : (n : Int) < a := by omega
    clear h ha
    go_enter Try.func10, Try.ntmps10
    go_wp2_with (go_at_call 20; refine (example_b _).mono ?_; rintro _ W1 ⟨rfl, B⟩)
    go_ret
    exact ⟨rfl, B⟩

end Go.Proofs.Ytaimkplcnkbjlaa
