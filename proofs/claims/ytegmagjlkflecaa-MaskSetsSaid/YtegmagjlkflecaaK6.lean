/- What Text of package mask returns (the text of a trial: sixteen bytes, filled). -/
import Derived.Test.YtegmagjlkflecaaK5
import Derived.Test.YtegmagjlkflecaaMake
namespace Go.Proofs.Ytegmagjlkflecaa
open Go.RowKit Go.Sort

theorem iU8 : (Try.prog.info? 5).map (fun i => (i.zero, i.size, i.bytes)) = some (some (.int .u8 0), 1, 1) := by kernel_rfl

/-- The characters of a mask's first k lanes. -/
def tl (f : Nat → Bool) (k : Nat) : List Int := (List.range k).map fun i => if f i = true then (49 : Int) else 46
theorem tl_len (f : Nat → Bool) (k : Nat) : (tl f k).length = k := by simp [tl]
theorem tl_yes {f : Nat → Bool} {k : Nat} (h : f k = true) : tl f (k + 1) = tl f k ++ [49] := by simp [tl, List.range_succ, h]
theorem tl_no {f : Nat → Bool} {k : Nat} (h : f k = false) : tl f (k + 1) = tl f k ++ [46] := by simp [tl, List.range_succ, h]
theorem txtK_tl (f : Nat → Bool) (k : Nat) : txtK f k = strOfNums (tl f k) := rfl
/-- A row of sixteen, filled so far. -/
def fillT (f : Nat → Bool) (k : Nat) : List Value := (tl f k).map (Value.int .u8) ++ List.replicate (16 - k) (.int .u8 0)
theorem fillT_at {f : Nat → Bool} {k : Nat} (h : k < 16) : (fillT f k)[k]? = some (.int .u8 0) := by
  unfold fillT
  obtain ⟨m, hm⟩ : ∃ m, 16 - k = m + 1 := ⟨16 - k - 1, by omega⟩
  rw [hm, List.getElem?_append_right (by simp [tl_len]), List.length_map, tl_len, Nat.sub_self]
  rfl
theorem fillT_set {f : Nat → Bool} {k : Nat} {v : Int} (h : k < 16) (hv : tl f (k + 1) = tl f k ++ [v]) : (fillT f k).set k (.int .u8 v) = fillT f (k + 1) := by
  unfold fillT
  obtain ⟨m, hm⟩ : ∃ m, 16 - k = m + 1 := ⟨16 - k - 1, by omega⟩
  rw [hm, fill_set _ _ _ _ _ (by simp [tl_len]), hv, List.map_append, show 16 - (k + 1) = m by omega]
  rfl

set_option maxRecDepth 100000 in
theorem text_b (m : Nat) (w : World) (hm : m < 65536) :
    Calls Try.prog 26 #[.int .u16 m] w fun e w' => e = .returned (.string (txtK (fun i => m.testBit i) 16)) ∧ Below w.heap.size w w' := by
  have BB : Below w.heap.size w w := Below.refl _ _
  obtain ⟨f, hf⟩ : ∃ f : Nat → Bool, (fun i : Nat => m.testBit i) = f := ⟨_, rfl⟩
  have HF : Hid (∀ i : Nat, f i = m.testBit i) := Lib.hid (fun i => by rw [← hf])
  rw [hf]
  obtain ⟨T, hT⟩ : ∃ T, txtK f 16 = T := ⟨_, rfl⟩
  have HT := Lib.hid hT
  rw [hT]
  clear hf hT
  go_enter Try.func26, Try.ntmps26
  go_wp2_with (refine wpList_makeV _ rfl _ _ _ rfl Try.underlying35 iU8 rfl .i64 .i64 16 rfl rfl (by omega) (by simp only [maxLen]; omega) w.heap.size (Nat.le_refl _) ?_; intro b W1 own1 B1 hb)
  have OWN1 : Hid (OwnV W1 w.heap.size 5 b 16 16 (fillT f 0)) := Lib.hid own1
  replace BB := bon BB B1
  clear own1 B1
  go_loopw [8] (fun i wr => ∃ j : Nat, j ≤ 16 ∧ i = .int .i64 j ∧ OwnV wr w.heap.size 5 b 16 16 (fillT f j) ∧ Below w.heap.size w wr) (fun i _ => 16 - (intOf i).toNat)
  case atStart => exact ⟨0, by omega, rfl, OWN1.out, BB⟩
  case round =>
    clear OWN1 BB
    obtain ⟨j, hj, rfl, own, BB⟩ := hrel
    by_cases hlt : j < 16
    · have c1 := fun W => has_q m (j : Int) W hm
      rw [hasB_in hlt] at c1
      have cell1 := own.cell (fillT_at hlt)
      have f1 := own.frozen (j := j)
      have o2 := (own.set (j := j) (.int .u8 46)).1
      have b2 := (own.set (j := j) (.int .u8 46)).2
      cases hbit : Nat.testBit m j
      · rw [hbit] at c1
        have C1 := Lib.hid c1
        rw [fillT_set hlt (tl_no (by rw [HF.out]; exact hbit))] at o2
        have OWN2 := Lib.hid o2
        clear own o2 c1 hbit
        go_wp2_with (go_at_call 10; with_reducible refine (C1.out _).mono ?_; rintro _ _ ⟨rfl, rfl⟩)
        go_roundw
        case rel => exact ⟨j + 1, by omega, by go_num, OWN2.out, BB.trans b2⟩
        case measure => simp [intOf]; omega
      · rw [hbit] at c1
        have C1 := Lib.hid c1
        have cell2 := o2.cell (j := j) (v := .int .u8 46) (by rw [List.getElem?_set, if_pos rfl, if_pos (by rw [own.len]; exact hlt)])
        have f2 := o2.frozen (j := j)
        have o3 := (o2.set (j := j) (.int .u8 49)).1
        have b3 := (o2.set (j := j) (.int .u8 49)).2
        rw [List.set_set, fillT_set hlt (tl_yes (by rw [HF.out]; exact hbit))] at o3
        have OWN2 := Lib.hid o3
        clear own o2 o3 c1 hbit
        go_wp2_with (go_at_call 10; with_reducible refine (C1.out _).mono ?_; rintro _ _ ⟨rfl, rfl⟩)
        go_roundw
        case rel => exact ⟨j + 1, by omega, by go_num, OWN2.out, (BB.trans b2).trans b3⟩
        case measure => simp [intOf]; omega
    · obtain rfl : j = 16 := by omega
      have cv : (convert 35 9 (.slice (some ⟨b, 0, none⟩) 16 16)).run Try.prog wr = .ok (.string T) wr := by
        rw [← HT.out, txtK_tl]
        refine run_convert_bytes_arg wr 35 5 Try.underlying35 Try.underlying5 b 0 16 16 (tl f 16) (tl_len _ _) (fun i hi => ?_) 9 Try.underlying9
        have hl : i < (tl f 16).length := by rw [tl_len]; exact hi
        rw [Nat.zero_add, List.getD, List.getElem?_eq_getElem hl]
        exact own.cell (by unfold fillT; simp [List.getElem?_eq_getElem hl])
      clear own
      go_wp2
      go_ret
      exact ⟨rfl, BB⟩

end Go.Proofs.Ytegmagjlkflecaa
