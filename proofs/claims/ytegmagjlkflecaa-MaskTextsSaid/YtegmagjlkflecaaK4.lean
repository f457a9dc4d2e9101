/- What single, Has, With, Without, And, Or, AndNot, All of package mask return. -/
import Derived.Test.YtegmagjlkflecaaK3
namespace Go.Proofs.Ytegmagjlkflecaa
open Go.RowKit Go.Sort

theorem ofNat16 (x : Nat) (h : x < 65536) : (BitVec.ofInt 16 (x : Int)).toNat = x := by rw [BitVec.toNat_ofInt]; omega
theorem w16 (x : Nat) (h : x < 65536) : IntKind.u16.wrap (x : Int) = (x : Int) := by rw [IntKind.wrap_u16]; omega
theorem e16 : (65536 : Nat) = 2 ^ 16 := by decide

theorem and_nat (x y : Nat) (hx : x < 65536) (hy : y < 65536) : bits .and .u16 (x : Int) (y : Int) = ((x &&& y : Nat) : Int) := by
  have key : (BitVec.ofInt 16 (x : Int) &&& BitVec.ofInt 16 (y : Int)).toNat = x &&& y := by rw [BitVec.toNat_and, ofNat16 x hx, ofNat16 y hy]
  show IntKind.u16.wrap ((BitVec.ofInt 16 (x : Int) &&& BitVec.ofInt 16 (y : Int)).toNat : Nat) = ((x &&& y : Nat) : Int)
  rw [key]
  exact w16 _ (Nat.lt_of_le_of_lt Nat.and_le_left hx)
theorem or_nat (x y : Nat) (hx : x < 65536) (hy : y < 65536) : bits .or .u16 (x : Int) (y : Int) = ((x ||| y : Nat) : Int) := by
  have key : (BitVec.ofInt 16 (x : Int) ||| BitVec.ofInt 16 (y : Int)).toNat = x ||| y := by rw [BitVec.toNat_or, ofNat16 x hx, ofNat16 y hy]
  show IntKind.u16.wrap ((BitVec.ofInt 16 (x : Int) ||| BitVec.ofInt 16 (y : Int)).toNat : Nat) = ((x ||| y : Nat) : Int)
  rw [key]
  exact w16 _ (by rw [e16] at hx hy ⊢; exact Nat.or_lt_two_pow hx hy)

theorem andNot_nat (x y : Nat) (hx : x < 65536) (hy : y < 65536) : bits .andNot .u16 (x : Int) (y : Int) = (msk (fun i => x.testBit i && !y.testBit i) 16 : Nat) := by
  obtain ⟨r, hr⟩ : ∃ r, (BitVec.ofInt 16 (x : Int) &&& ~~~BitVec.ofInt 16 (y : Int)).toNat = r := ⟨_, rfl⟩
  have hr1 : r < 65536 := by rw [← hr]; exact BitVec.isLt _
  have key : r = msk (fun i => x.testBit i && !y.testBit i) 16 := by
    refine eq_msk hr1 fun i hi => ?_
    rw [← hr, BitVec.toNat_and, Nat.testBit_and, ofNat16 x hx, BitVec.testBit_toNat, BitVec.getLsbD_not, ← BitVec.testBit_toNat, ofNat16 y hy]
    simp [hi]
  show IntKind.u16.wrap ((BitVec.ofInt 16 (x : Int) &&& ~~~BitVec.ofInt 16 (y : Int)).toNat : Nat) = _
  rw [hr, w16 r hr1, key]

/-- A lane's own bit. -/
theorem pow16 (i : Nat) (h : i < 16) : ∃ b : Nat, 2 ^ i = b ∧ b < 65536 ∧ IntKind.u16.wrap (2 ^ i) = (b : Int) := by
  have h1 : 2 ^ i < 65536 := Nat.lt_of_le_of_lt (Nat.pow_le_pow_right (by omega : 0 < 2) (by omega : i ≤ 15)) (by decide)
  refine ⟨_, rfl, h1, ?_⟩
  rw [← w16 _ h1]
  congr 1

theorem has_bit (m i : Nat) : ((m &&& 2 ^ i : Nat) != 0) = m.testBit i := by
  cases h : m.testBit i
  · have e : m &&& 2 ^ i = 0 := by
      apply Nat.eq_of_testBit_eq
      intro j
      rw [Nat.testBit_and, Nat.testBit_two_pow, Nat.zero_testBit]
      by_cases hj : i = j
      · subst hj; rw [h]; rfl
      · simp [hj]
    rw [e]
    rfl
  · have e : m &&& 2 ^ i ≠ 0 := by
      intro h0
      have h1 := congrArg (fun x => Nat.testBit x i) h0
      simp only [Nat.testBit_and, Nat.testBit_two_pow, Nat.zero_testBit, h] at h1
      simp at h1
    simpa using e

theorem and_msk (x y : Nat) (hx : x < 65536) : x &&& y = msk (fun i => x.testBit i && y.testBit i) 16 :=
  eq_msk (Nat.lt_of_le_of_lt Nat.and_le_left hx) (fun i _ => Nat.testBit_and x y i)
theorem or_msk (x y : Nat) (hx : x < 65536) (hy : y < 65536) : x ||| y = msk (fun i => x.testBit i || y.testBit i) 16 :=
  eq_msk (by rw [e16] at hx hy ⊢; exact Nat.or_lt_two_pow hx hy) (fun i _ => Nat.testBit_or x y i)

set_option maxRecDepth 100000 in
theorem and_q (a b : Nat) (w : World) (ha : a < 65536) (hb : b < 65536) :
    Calls Try.prog 17 #[.int .u16 a, .int .u16 b] w fun e w' => e = .returned (.int .u16 (msk (fun i : Nat => a.testBit i && b.testBit i) 16 : Nat)) ∧ w = w' := by
  have q := and_nat a b ha hb
  rw [and_msk a b ha] at q
  obtain ⟨r, hr⟩ : ∃ r, msk (fun i => a.testBit i && b.testBit i) 16 = r := ⟨_, rfl⟩
  rw [hr] at q ⊢
  clear hr
  go_enter Try.func17, Try.ntmps17
  go_wp2
  go_ret
  exact ⟨by rw [← q]; rfl, rfl⟩

set_option maxRecDepth 100000 in
theorem or_q (a b : Nat) (w : World) (ha : a < 65536) (hb : b < 65536) :
    Calls Try.prog 19 #[.int .u16 a, .int .u16 b] w fun e w' => e = .returned (.int .u16 (msk (fun i : Nat => a.testBit i || b.testBit i) 16 : Nat)) ∧ w = w' := by
  have q := or_nat a b ha hb
  rw [or_msk a b ha hb] at q
  obtain ⟨r, hr⟩ : ∃ r, msk (fun i => a.testBit i || b.testBit i) 16 = r := ⟨_, rfl⟩
  rw [hr] at q ⊢
  clear hr
  go_enter Try.func19, Try.ntmps19
  go_wp2
  go_ret
  exact ⟨by rw [← q]; rfl, rfl⟩

set_option maxRecDepth 100000 in
theorem andNot_q (a b : Nat) (w : World) (ha : a < 65536) (hb : b < 65536) :
    Calls Try.prog 21 #[.int .u16 a, .int .u16 b] w fun e w' => e = .returned (.int .u16 (msk (fun i : Nat => a.testBit i && !b.testBit i) 16 : Nat)) ∧ w = w' := by
  have q := andNot_nat a b ha hb
  obtain ⟨r, hr⟩ : ∃ r, msk (fun i => a.testBit i && !b.testBit i) 16 = r := ⟨_, rfl⟩
  rw [hr] at q ⊢
  clear hr
  go_enter Try.func21, Try.ntmps21
  go_wp2
  go_ret
  exact ⟨by rw [← q]; rfl, rfl⟩

/-- The mask of one lane. -/
def sng (lane : Int) : Nat := if 0 ≤ lane ∧ lane < 16 then 2 ^ lane.toNat else 0
theorem sng_in {i : Nat} (h : i < 16) : sng (i : Int) = 2 ^ i := by unfold sng; rw [if_pos (by omega), Int.toNat_natCast]
theorem sng_out {lane : Int} (h : ¬ (0 ≤ lane ∧ lane < 16)) : sng lane = 0 := by unfold sng; rw [if_neg h]
theorem sng_lt (lane : Int) : sng lane < 65536 := by
  by_cases h : 0 ≤ lane ∧ lane < 16
  · obtain ⟨i, rfl⟩ : ∃ i : Nat, lane = i := ⟨lane.toNat, by omega⟩
    obtain ⟨b, hb, hb1, _⟩ := pow16 i (by omega)
    rw [sng_in (by omega), hb]
    exact hb1
  · rw [sng_out h]; omega

theorem sng_bit (lane : Int) {j : Nat} (hj : j < 16) : (sng lane).testBit j = decide ((j : Int) = lane) := by
  by_cases h : 0 ≤ lane ∧ lane < 16
  · obtain ⟨i, rfl⟩ : ∃ i : Nat, lane = i := ⟨lane.toNat, by omega⟩
    rw [sng_in (by omega), Nat.testBit_two_pow]
    apply decide_eq_decide.2
    omega
  · have h2 : ¬ ((j : Int) = lane) := by omega
    rw [sng_out h, Nat.zero_testBit]
    simp [h2]

theorem hasB_sng (m : Nat) (lane : Int) : (((m &&& sng lane : Nat) : Int) != 0) = hasB m lane := by
  by_cases h : 0 ≤ lane ∧ lane < 16
  · obtain ⟨i, rfl⟩ : ∃ i : Nat, lane = i := ⟨lane.toNat, by omega⟩
    have hi : i < 16 := by omega
    have q2 := has_bit m i
    rw [sng_in hi, hasB_in hi, ← q2]
    cases h : (m &&& 2 ^ i != 0) <;> simp_all
  · rw [sng_out h, hasB_out h, Nat.and_zero]
    rfl

set_option maxRecDepth 100000 in
theorem single_q (lane : Int) (w : World) : Calls Try.prog 28 #[.int .i64 lane] w fun e w' => e = .returned (.int .u16 (sng lane : Nat)) ∧ w = w' := by
  by_cases hr : 0 ≤ lane ∧ lane < 16
  · obtain ⟨i, rfl⟩ : ∃ i : Nat, lane = i := ⟨lane.toNat, by omega⟩
    have hi : i < 16 := by omega
    obtain ⟨b, hb, hb1, hb2⟩ := pow16 i hi
    rw [sng_in hi, hb]
    clear hb hr
    go_enter Try.func28, Try.ntmps28
    go_wp2
    go_ret
    exact ⟨rfl, rfl⟩
  · rw [sng_out hr]
    by_cases h0 : lane < 0
    · clear hr
      go_enter Try.func28, Try.ntmps28
      go_wp2
      go_ret
      exact ⟨rfl, rfl⟩
    · have h1 : 16 ≤ lane := by omega
      have h2 : 0 ≤ lane := by omega
      clear hr
      go_enter Try.func28, Try.ntmps28
      go_wp2
      go_ret
      exact ⟨rfl, rfl⟩

set_option maxRecDepth 100000 in
theorem has_q (m : Nat) (lane : Int) (w : World) (hm : m < 65536) :
    Calls Try.prog 10 #[.int .u16 m, .int .i64 lane] w fun e w' => e = .returned (.bool (hasB m lane)) ∧ w = w' := by
  have c := fun W => single_q lane W
  have q := and_nat m (sng lane) hm (sng_lt lane)
  have q3 := hasB_sng m lane
  obtain ⟨r, hr⟩ : ∃ r, hasB m lane = r := ⟨_, rfl⟩
  rw [hr] at q3 ⊢
  obtain ⟨s, hs⟩ : ∃ s, sng lane = s := ⟨_, rfl⟩
  rw [hs] at c q q3
  obtain ⟨z, hz⟩ : ∃ z, ((m &&& s : Nat) : Int) = z := ⟨_, rfl⟩
  rw [hz] at q q3
  have C := Lib.hid c
  clear hr hs hz c
  go_enter Try.func10, Try.ntmps10
  go_wp2_with (go_at_call 28; with_reducible refine (C.out _).mono ?_; rintro _ _ ⟨rfl, rfl⟩)
  go_ret
  exact ⟨rfl, rfl⟩

/-- A lane added, a lane taken away. -/
def withF (m : Nat) (lane : Int) : Nat := msk (fun i : Nat => m.testBit i || decide ((i : Int) = lane)) 16
def withoutF (m : Nat) (lane : Int) : Nat := msk (fun i : Nat => decide ((i : Int) ≠ lane) && m.testBit i) 16

theorem withF_out {m : Nat} {lane : Int} (hm : m < 65536) (h : ¬ (0 ≤ lane ∧ lane < 16)) : withF m lane = m :=
  (eq_msk hm fun i hi => by
    have : ¬ ((i : Int) = lane) := by omega
    simp [this]).symm
theorem withoutF_out {m : Nat} {lane : Int} (hm : m < 65536) (h : ¬ (0 ≤ lane ∧ lane < 16)) : withoutF m lane = m :=
  (eq_msk hm fun i hi => by
    have : ((i : Int) ≠ lane) := by omega
    simp [this]).symm
theorem withF_sng {m : Nat} (lane : Int) (hm : m < 65536) : withF m lane = m ||| sng lane :=
  (eq_msk (by have h := sng_lt lane; rw [e16] at hm h ⊢; exact Nat.or_lt_two_pow hm h) fun j hj => by rw [Nat.testBit_or, sng_bit lane hj]).symm
theorem withoutF_sng {m : Nat} (lane : Int) (hm : m < 65536) : bits .andNot .u16 (m : Int) (sng lane : Int) = (withoutF m lane : Int) := by
  rw [andNot_nat m _ hm (sng_lt lane)]
  congr 1
  unfold withoutF
  refine msk_congr fun j hj => ?_
  rw [sng_bit lane hj, Bool.and_comm, ← decide_not]

set_option maxRecDepth 100000 in
theorem with_q (m : Nat) (lane : Int) (w : World) (hm : m < 65536) :
    Calls Try.prog 12 #[.int .u16 m, .int .i64 lane] w fun e w' => e = .returned (.int .u16 (withF m lane : Nat)) ∧ w = w' := by
  have c := fun W => single_q lane W
  have q := or_nat m (sng lane) hm (sng_lt lane)
  rw [← withF_sng lane hm] at q
  obtain ⟨r, hr⟩ : ∃ r, withF m lane = r := ⟨_, rfl⟩
  rw [hr] at q ⊢
  obtain ⟨s, hs⟩ : ∃ s, sng lane = s := ⟨_, rfl⟩
  rw [hs] at c q
  have C := Lib.hid c
  clear hr hs c
  go_enter Try.func12, Try.ntmps12
  go_wp2_with (go_at_call 28; with_reducible refine (C.out _).mono ?_; rintro _ _ ⟨rfl, rfl⟩)
  go_ret
  exact ⟨by rw [← q]; rfl, rfl⟩

set_option maxRecDepth 100000 in
theorem without_q (m : Nat) (lane : Int) (w : World) (hm : m < 65536) :
    Calls Try.prog 14 #[.int .u16 m, .int .i64 lane] w fun e w' => e = .returned (.int .u16 (withoutF m lane : Nat)) ∧ w = w' := by
  have c := fun W => single_q lane W
  have q := withoutF_sng lane hm
  obtain ⟨r, hr⟩ : ∃ r, withoutF m lane = r := ⟨_, rfl⟩
  rw [hr] at q ⊢
  obtain ⟨s, hs⟩ : ∃ s, sng lane = s := ⟨_, rfl⟩
  rw [hs] at c q
  have C := Lib.hid c
  clear hr hs c
  go_enter Try.func14, Try.ntmps14
  go_wp2_with (go_at_call 28; with_reducible refine (C.out _).mono ?_; rintro _ _ ⟨rfl, rfl⟩)
  go_ret
  exact ⟨by rw [← q]; rfl, rfl⟩

/-- The first lanes. -/
def allF (n : Int) : Nat := msk (fun i : Nat => decide ((i : Int) < n)) 16
theorem allF_none {n : Int} (h : n ≤ 0) : allF n = 0 := (eq_msk (by omega) fun i hi => by
  have : ¬ ((i : Int) < n) := by omega
  simp [this]).symm
theorem allF_full {n : Int} (h : 16 ≤ n) : allF n = 65535 := (eq_msk (by omega) fun i hi => by
  have h1 : ((i : Int) < n) := by omega
  rw [show (65535 : Nat) = 2 ^ 16 - 1 by decide, Nat.testBit_two_pow_sub_one]
  simp [h1, hi]).symm
theorem allF_in {n b : Nat} (h : n < 16) (hb : 2 ^ n = b) : allF (n : Int) = b - 1 := (eq_msk (by
    have : 2 ^ n < 65536 := Nat.lt_of_le_of_lt (Nat.pow_le_pow_right (by omega : 0 < 2) (by omega : n ≤ 15)) (by decide)
    omega) fun i hi => by
  rw [← hb, Nat.testBit_two_pow_sub_one]
  apply decide_eq_decide.2
  omega).symm

set_option maxRecDepth 100000 in
theorem all_q (n : Int) (w : World) : Calls Try.prog 8 #[.int .i64 n] w fun e w' => e = .returned (.int .u16 (allF n : Nat)) ∧ w = w' := by
  by_cases h0 : n ≤ 0
  · rw [allF_none h0]
    rcases (show n < 0 ∨ n = 0 by omega) with h | rfl
    · go_enter Try.func8, Try.ntmps8
      go_wp2
      all_goals go_ret
      all_goals exact ⟨rfl, rfl⟩
    · go_enter Try.func8, Try.ntmps8
      go_wp2
      all_goals go_ret
      all_goals exact ⟨rfl, rfl⟩
  · by_cases h1 : 16 ≤ n
    · rw [allF_full h1]
      have h2 : 0 < n := by omega
      rcases Classical.em (n = 16) with rfl | h
      · go_enter Try.func8, Try.ntmps8
        go_wp2
        all_goals go_ret
        all_goals exact ⟨rfl, rfl⟩
      · have h3 : 16 < n := by omega
        clear h1 h
        go_enter Try.func8, Try.ntmps8
        go_wp2
        all_goals go_ret
        all_goals exact ⟨rfl, rfl⟩
    · obtain ⟨i, rfl⟩ : ∃ i : Nat, n = i := ⟨n.toNat, by omega⟩
      have hi : i < 16 := by omega
      have hi0 : 0 < i := by omega
      obtain ⟨b, hb, hb1, hb2⟩ := pow16 i hi
      have hb3 : 1 ≤ b := by rw [← hb]; exact Nat.two_pow_pos i
      rw [allF_in hi hb]
      have q : IntKind.u16.wrap ((b : Int) - 1) = ((b - 1 : Nat) : Int) := by rw [IntKind.wrap_u16]; omega
      clear h0 h1 hb
      go_enter Try.func8, Try.ntmps8
      go_wp2
      go_ret
      exact ⟨by rw [← q]; rfl, rfl⟩

end Go.Proofs.Ytegmagjlkflecaa
