/- What split of the reference returns. -/
import Derived.Test.YthancgnmbmempaaDoorF9
import Derived.Test.YthancgnmbmempaaDoorStrsOwn
import Derived.Test.YthancgnmbmempaaDoorTail
namespace Go.Proofs.YthancgnmbmempaaDoor
open Go.RowKit Go.Sort

theorem eS : ElemS Tryd.prog 27 9 := elemS_of Tryd.underlying27 (by kernel_rfl)

/-- The parts of a list between the bytes c; cur is the part under way. -/
def sp (c : Int) : List Int → List Int → List (List Int)
  | [], cur => [cur]
  | x :: r, cur => if x = c then cur :: sp c r [] else sp c r (cur ++ [x])

theorem sp_cut {s last : ByteArray} {f : List ByteArray} {k : Nat} {c : Int} {T : List (List Int)} (h : f.map strL ++ sp c ((strL s).drop k) (strL last) = T) (hk : k < s.size) (hc : ((s[k]).toNat : Int) = c) :
    (f ++ [last]).map strL ++ sp c ((strL s).drop (k + 1)) (strL ⟨#[]⟩) = T := by
  rw [← h, strL_drop s k hk, sp, if_pos hc, List.map_append]
  simp only [List.map_cons, List.map_nil, List.append_assoc, List.cons_append, List.nil_append]
  rfl

theorem sp_on {s last : ByteArray} {f : List ByteArray} {k : Nat} {c : Int} {T : List (List Int)} (h : f.map strL ++ sp c ((strL s).drop k) (strL last) = T) (hk : k < s.size) (hc : ¬ ((s[k]).toNat : Int) = c) :
    f.map strL ++ sp c ((strL s).drop (k + 1)) (strL (last ++ s.extract k (k + 1))) = T := by
  rw [← h, strL_drop s k hk, sp, if_neg hc, strL_append, strL_extract, strL_drop s k hk, show k + 1 - k = 1 by omega]
  rfl

/-- What a call of split gives. -/
def GivesS (W : World) (T : List (List Int)) (x : Ending) (w' : World) : Prop :=
  ∃ A n c l, x = .returned (.slice A n c) ∧ OwnS w' W.heap.size 9 A n c l ∧ l.map strL = T ∧ Below W.heap.size W w'

set_option maxRecDepth 100000 in
set_option maxHeartbeats 1000000 in
theorem rsplit_b (s : ByteArray) (c : Int) (w : World) (hs : s.size ≤ 1000000) :
    Calls Tryd.prog 49 #[.string s, .int .u8 c] w (GivesS w (sp c (strL s) [])) := by
  obtain ⟨T, hT⟩ : ∃ T, sp c (strL s) [] = T := ⟨_, rfl⟩
  rw [hT]
  have HT := Lib.hid hT
  clear hT
  go_enter Tryd.func49, Tryd.ntmps49
  go_wp2
  go_loopw [5, 6] (fun t i wr => ∃ (k m cap : Nat) (A : Option Addr) (f : List ByteArray) (last : ByteArray), k ≤ s.size ∧ m ≤ k ∧ last.size ≤ k ∧ i = .int .i64 k ∧ t = .slice A (m + 1) cap ∧ f.length = m ∧
      OwnS wr w.heap.size 9 A (m + 1) cap (f ++ [last]) ∧ f.map strL ++ sp c ((strL s).drop k) (strL last) = T ∧ Below w.heap.size w wr) (fun _ i _ => s.size - (intOf i).toNat)
  case atStart => exact ⟨0, 0, 1, _, [], ⟨#[]⟩, by omega, by omega, Nat.zero_le _, rfl, rfl, rfl, OwnS.made1 w _ _, by rw [← HT.out]; rfl, (Below.refl _ _).alloc (Nat.le_refl _) _⟩
  case round =>
    obtain ⟨k, m, cap, A, f, last, hk, hm, hl, rfl, rfl, hf, own, hh, BB⟩ := hrel
    have HF := Lib.hid hf
    have HB := Lib.hid own.base_le
    clear hf
    by_cases hlt : k < s.size
    · have hb := (s[k]).toNat_lt
      by_cases hc : ((s[k]).toNat : Int) = c
      · have H1 := Lib.hid (sp_cut hh hlt hc)
        clear hh
        go_wp2_with (at_builtin; refine wpList_app1S _ rfl _ _ _ rfl eS own rfl rfl (by simp only [maxLen]; omega) (by omega) ?_; intro A1 c1 W1 own1 B1)
        go_roundw
        case rel => exact ⟨k + 1, m + 1, _, _, f ++ [last], ⟨#[]⟩, by omega, by omega, Nat.zero_le _, by go_num, rfl, by rw [List.length_append, HF.out]; rfl, own1, H1.out, BB.trans B1⟩
        case measure => simp [intOf]; omega
      · have H1 := Lib.hid (sp_on hh hlt hc)
        clear hh
        obtain ⟨b, rfl, hb0, hb1, c1, z, hst⟩ := own.stored HF.out
        have HST := Lib.hid hst
        clear hst own
        have hlen : (s.extract k (k + 1)).size = 1 := by rw [ByteArray.size_extract]; omega
        go_wp2_with fail
        have k_c1 := cell_regrown c1
        refine wp_region_tail (n := 17) (by kernel_rfl) (by kernel_rfl) ?_
        simp only [List.take_succ_cons, List.take_zero, List.drop_succ_cons, List.drop_zero]
        repeat (first | go_big_quiet_step ((first | fail)) | quiet_step ((first | fail)))
        refine wpQuiet_nil ?_
        intro W hw'
        have B := below_regrown' hw'
        clear hw' k_c1
        replace BB := bon BB B
        replace z := frozen_below B c1 z
        replace c1 := cell_below B c1
        go_wp2
        go_roundw
        case rel => exact ⟨k + 1, m, cap, _, f, _, by omega, by omega, by rw [ByteArray.size_append, hlen]; omega, by go_num, rfl, HF.out, (HST.out _ _ B).1, H1.out, BB.trans (HST.out _ _ B).2⟩
        case measure => simp [intOf]; omega
    · obtain rfl : k = s.size := by omega
      have hf : (f ++ [last]).map strL = T := by
        rw [← hh, List.drop_eq_nil_of_le (by rw [strL_len]; exact Nat.le_refl _), sp, List.map_append]; rfl
      have HF2 := Lib.hid hf
      clear hf hh
      go_wp2
      go_ret
      exact ⟨_, _, _, _, rfl, own, HF2.out, BB⟩

end Go.Proofs.YthancgnmbmempaaDoor
