/- What the library's FormatUint returns at the base 16, and FormatHash of package format. -/
import Derived.Test.YthancgnmbmempaaDoorG10
import Derived.Laws.IdiomStrings
namespace Go.Proofs.YthancgnmbmempaaDoor
open Go.RowKit Go.Sort

set_option maxRecDepth 100000 in
theorem run_index_36 (W : World) (u : Nat) (h : u < 16) : (Instr.index 9 (.string ⟨#[48, 49, 50, 51, 52, 53, 54, 55, 56, 57, 97, 98, 99, 100, 101, 102, 103, 104, 105, 106, 107, 108, 109, 110, 111, 112, 113, 114, 115, 116, 117, 118, 119, 120, 121, 122]⟩) (.int .u64 (u : Int))).run Tryd.prog W = .ok (.int .u8 (hexd u)) W := by
  have hc : u = 0 ∨ u = 1 ∨ u = 2 ∨ u = 3 ∨ u = 4 ∨ u = 5 ∨ u = 6 ∨ u = 7 ∨ u = 8 ∨ u = 9 ∨ u = 10 ∨ u = 11 ∨ u = 12 ∨ u = 13 ∨ u = 14 ∨ u = 15 := by omega
  rcases hc with h | h | h | h | h | h | h | h | h | h | h | h | h | h | h | h <;> (subst h; rfl)

theorem Arr.new (w : World) (cs : Array Value) (t : TypeId) (h : cs.size = 65) : Arr (w.alloc (.cells cs t)) w.heap.size := fun j hj =>
  ⟨⟨cs[j]'(by omega), box_cell w cs t j _ (Array.getElem?_eq_getElem (by omega))⟩, by rw [frozen?_alloc_cells]; unfold World.frozen?; simp⟩

theorem hxd_len (u : Nat) (h : u < 18446744073709551616) : (hxd u).length ≤ 16 := by
  have e : (16 : Nat) ^ 16 = 18446744073709551616 := by decide
  exact (pad_hexs 16 u (by omega) (by omega)).1

theorem dig_z {W : World} {b j : Nat} {T : List Int} {z : ByteArray} (h : Dig W b j T) (hz : strL z = T) (q : Nat) (hq : q < z.data.toList.length) : W.cell? ((⟨b, j, none⟩ : Addr).add q) = some (.int .u8 (z.data.toList[q].toNat : Int)) := by
  rw [add_plain']
  refine h q _ ?_
  rw [← hz]
  unfold strL
  rw [List.getElem?_map, List.getElem?_eq_getElem hq]
  rfl

set_option maxRecDepth 100000 in
set_option maxHeartbeats 1000000 in
theorem formatBits_b (u : Nat) (z : ByteArray) (w : World) (LL : Lay6 w) (hu : u < 18446744073709551616) (hz : strL z = hxd u) :
    Calls Tryd.prog 97 #[.slice none 0 0, .int .u64 u, .int .i64 16, .bool false, .bool false] w fun e w' => e = .returned (.tuple #[.slice none 0 0, .string z]) ∧ Below w.heap.size w w' := by
  have HZ := Lib.hid hz
  have HU := Lib.hid hu
  have HL := Lib.hid LL
  clear hz hu LL
  go_enter Tryd.func97, Tryd.ntmps97
  go_wp2_with (first
    | (go_at_call 115; refine (pow16_q _).mono ?_; rintro _ _ ⟨rfl, rfl⟩)
    | (go_at_call 116; refine (tz_q _ ((HL.out.on (box_below _ _ _)).bru)).mono ?_; rintro _ _ ⟨rfl, rfl⟩))
  have hT := hxd_len u HU.out
  have HT := Lib.hid hT
  clear hT
  go_loopw [1, 13] (fun v i wr => ∃ (k j : Nat) (D : List Int), v = .int .u64 k ∧ i = .int .i64 j ∧ k < 18446744073709551616 ∧ j + D.length = 65 ∧ hxd k ++ D = hxd u ∧ Arr wr w.heap.size ∧ Dig wr w.heap.size j D ∧ Below w.heap.size w wr) (fun v _ _ => (intOf v).toNat)
  case atStart => exact ⟨u, 65, [], rfl, rfl, HU.out, rfl, by rw [List.append_nil], Arr.new w _ _ (by kernel_rfl), fun q x hq => by simp at hq, box_below _ _ _⟩
  case round =>
    obtain ⟨k, j0, D, rfl, rfl, hk, hj, hD, arr, dig, BB⟩ := hrel
    have hlen := congrArg List.length hD
    rw [List.length_append] at hlen
    have hp := hxd_pos k
    have h16 := HT.out
    obtain ⟨j, rfl⟩ : ∃ j, j0 = j + 1 := ⟨j0 - 1, by omega⟩
    have hj1 : 49 ≤ j := by omega
    have hj2 : j < 65 := by omega
    obtain ⟨⟨v0, hc⟩, hf⟩ := arr j hj2
    have A2 := fun v => arr.set (v := v) hj2
    have D2 := fun x => dig.set (x := x) arr hj2
    have HA2 := Lib.hid A2
    have HD2 := Lib.hid D2
    have HD := Lib.hid hD
    have HJ := Lib.hid hj
    have HK := Lib.hid hk
    have ej : ((j + 1 : Nat) : Int) - 1 = (j : Int) := by omega
    by_cases hge : 16 ≤ k
    · have hand := and_15 k hk
      have hix : ∀ W : World, (Instr.index 9 (.string ⟨#[48, 49, 50, 51, 52, 53, 54, 55, 56, 57, 97, 98, 99, 100, 101, 102, 103, 104, 105, 106, 107, 108, 109, 110, 111, 112, 113, 114, 115, 116, 117, 118, 119, 120, 121, 122]⟩) (.int .u64 ((k : Int) % 16))).run Tryd.prog W = .ok (.int .u8 (hexd (k % 16))) W := fun W => by
        have := run_index_36 W (k % 16) (by omega)
        rwa [show ((k % 16 : Nat) : Int) = (k : Int) % 16 by omega] at this
      have HH : Hid (hxd (k / 16) ++ hexd (k % 16) :: D = hxd u) := Lib.hid (by rw [← hD, hxd_ge hge, List.append_assoc]; rfl)
      have hdiv : IntKind.u64.wrap ((k : Int) / 16) = (k : Int) / 16 := by rw [IntKind.wrap_u64]; omega
      clear hlen hp h16 arr dig hD hj hk A2 D2
      go_wp2
      go_roundw
      case rel => exact ⟨k / 16, j, hexd (k % 16) :: D, by go_num, by go_num, by have := HK.out; omega, by have := HJ.out; simp only [List.length_cons]; omega, HH.out, HA2.out _, HD2.out _, BB.setCell (Nat.le_refl _) _⟩
      case measure => simp [intOf]; omega
    · have hix := fun W => run_index_36 W k (by omega)
      have HH : Hid (hexd k :: D = hxd u) := Lib.hid (by rw [← hD, hxd_lt (by omega)]; rfl)
      have hzl : z.data.toList.length = 65 - j := by
        have e1 : z.data.toList.length = (strL z).length := by rw [strL, List.length_map]
        rw [e1, HZ.out, ← HH.out, List.length_cons]
        omega
      have hal : Tryd.prog.arrayLen 115 = 65 := by kernel_rfl
      have hsl : ∀ W : World, (Instr.sliceAt 115 (.pointer (some ⟨w.heap.size, 0, none⟩)) (some (.int .i64 (j : Int))) none none).run Tryd.prog W = .ok (.slice (some ⟨w.heap.size, j, none⟩) (65 - j) (65 - j)) W := fun W => by
        rw [run_sliceAt_array_l W 115 ⟨w.heap.size, 0, none⟩ Tryd.underlying115 .i64 (j : Int) (by omega) (by rw [hal]; omega)]
        go_simp
        omega
      have hcv : (convert 66 9 (.slice (some ⟨w.heap.size, j, none⟩) (65 - j) (65 - j))).run Tryd.prog (wr.setCell ⟨w.heap.size, j, none⟩ (.int .u8 (hexd k))) = .ok (.string z) (wr.setCell ⟨w.heap.size, j, none⟩ (.int .u8 (hexd k))) := by
        have h := run_convert_bytes_back (P := Tryd.prog) (wr.setCell ⟨w.heap.size, j, none⟩ (.int .u8 (hexd k))) 66 9 5 ⟨w.heap.size, j, none⟩ (65 - j) z.data.toList Tryd.underlying66 Tryd.underlying5 Tryd.underlying9
          (dig_z (HD2.out (hexd k)) (by rw [HZ.out, HH.out]))
        rw [hzl] at h
        exact h
      clear hlen hp h16 arr dig hD hj hk A2 D2 hzl hal
      go_wp2
      go_ret2
      exact ⟨rfl, BB.setCell (Nat.le_refl _) _⟩

theorem formatUint_b (u : Nat) (z : ByteArray) (w : World) (LL : Lay6 w) (hu : u < 18446744073709551616) (hz : strL z = hxd u) :
    Calls Tryd.prog 56 #[.int .u64 u, .int .i64 16] w fun e w' => e = .returned (.string z) ∧ Below w.heap.size w w' := by
  have c := fun W L => formatBits_b u z W L hu hz
  have C := Lib.hid c
  have HL := Lib.hid LL
  have c2 : ∀ W, Lay6 W → Calls Tryd.prog 75 #[.int .u64 u, .int .i64 16] W fun e w' => e = .returned (.string z) ∧ Below W.heap.size W w' := by
    intro W L
    have HL2 := Lib.hid L
    clear c L LL HL hz hu
    go_enter Tryd.func75, Tryd.ntmps75
    go_wp2_with (go_at_call 97; refine (C.out _ HL2.out).mono ?_; rintro _ W1 ⟨rfl, B⟩)
    go_ret
    exact ⟨rfl, B⟩
  have C2 := Lib.hid c2
  clear c c2 LL hz hu
  go_enter Tryd.func56, Tryd.ntmps56
  go_wp2_with (go_at_call 75; refine (C2.out _ HL.out).mono ?_; rintro _ W1 ⟨rfl, B⟩)
  go_ret
  exact ⟨rfl, B⟩

theorem formatHash_b (u : Nat) (ds : ByteArray) (w : World) (LL : Lay6 w) (hd : strL ds = hexs 16 u) (hu : u < 18446744073709551616) :
    Calls Tryd.prog 28 #[.int .u64 u] w fun e w' => e = .returned (.string ds) ∧ Below w.heap.size w w' := by
  have e : (16 : Nat) ^ 16 = 18446744073709551616 := by decide
  have hp := pad_hexs 16 u (by omega) (by omega)
  obtain ⟨z, hz⟩ : ∃ z : ByteArray, strL z = hxd u := ⟨strOfNums (hxd u), strL_of (hxd_rng u)⟩
  have c1 := fun W L => formatUint_b u z W L hu hz
  have c2 := fun W => padZeros_b z 16 (16 - z.size) ds W (by have := hp.1; rw [← hz, strL_len] at this; omega) (by omega) (by rw [hd, ← hp.2, ← hz, strL_len])
  have C1 := Lib.hid c1
  have C2 := Lib.hid c2
  have HL := Lib.hid LL
  clear c1 c2 LL hz hp hd e
  go_enter Tryd.func28, Tryd.ntmps28
  go_wp2_with (first
    | (go_at_call 56; refine (C1.out _ HL.out).mono ?_; rintro _ W1 ⟨rfl, B1⟩)
    | (go_at_call 55; refine (C2.out _).mono ?_; rintro _ W2 ⟨rfl, B2⟩))
  go_ret
  exact ⟨rfl, bon B1 B2⟩

end Go.Proofs.YthancgnmbmempaaDoor
