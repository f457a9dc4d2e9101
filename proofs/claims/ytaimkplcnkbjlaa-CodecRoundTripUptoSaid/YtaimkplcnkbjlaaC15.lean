/- The walk of CodecRoundTrip. -/
import Derived.Test.YtaimkplcnkbjlaaC14
import Derived.Test.YtaimkplcnkbjlaaC13
namespace Go.Proofs.Ytaimkplcnkbjlaa
open Go.RowKit Go.Sort

theorem Rd.pre {w : World} {B n j : Nat} {k : IntKind} {A : Option Addr} {l : List Int} (h : Rd w B k A n l) (hj : j ≤ n) : Rd w B k A j (l.take j) := by
  refine ⟨by rw [List.length_take, h.1]; omega, fun x hx => h.2.1 x (List.mem_of_mem_take hx), fun hn => ?_⟩
  obtain ⟨b, off, e, hlt, hc⟩ := h.2.2 (by omega)
  refine ⟨b, off, e, hlt, fun q x hx => ?_⟩
  rw [List.getElem?_take] at hx
  split at hx
  · exact hc q x hx
  · cases hx

theorem Own.cap {w : World} {base n c : Nat} {k : IntKind} {A : Option Addr} {l : List Int} {e : TypeId} (h : Own w base e k A n c l) : c ≤ 9223372036854775807 := by
  rcases h.1.2 with ⟨hv, _⟩ | ⟨g, cap, cur, hv, hb, hh, hnc, hcm, hcs, htake⟩
  · simp only [Value.slice.injEq] at hv
    omega
  · simp only [Value.slice.injEq] at hv
    simp only [maxLen] at hcm
    omega

theorem ri_at (pre tail : List Int) (n : Int) (h0 : -9223372036854775808 ≤ n) (h1 : n ≤ 9223372036854775807) (l : List Int) (hl : l = pre ++ encI n ++ tail) (a : Int) (ha : a = pre.length) :
    ri l a = (n, a + (encI n).length, 0) := by
  rw [hl, ha]; exact ri_back pre tail n h0 h1

theorem rl_back (l pre tail : List Int) (m : Nat) (hm : (m : Int) ≤ 9223372036854775807) (hl : l = pre ++ encI m ++ tail) (a lim : Int) (ha : a = pre.length) (h : (m : Int) ≤ lim) :
    rl l a lim = ((m : Int), a + (encI m).length, 0) := by
  have hr := ri_at pre tail m (by omega) hm l hl a ha
  unfold rl
  rw [hr, if_neg (by omega), if_neg (by simp), if_neg (by simp), if_neg (by simp; omega)]

theorem rints_back (l : List Int) : ∀ (v pre tail acc : List Int) (a : Int), (∀ x ∈ v, IntKind.i64.min ≤ x ∧ x ≤ IntKind.i64.max) → l = pre ++ v.flatMap encI ++ tail → a = pre.length →
    rints l v.length a acc = (acc ++ v, a + (v.flatMap encI).length, 0) := by
  intro v
  induction v with
  | nil => intro pre tail acc a _ _ _; simp [rints]
  | cons x r ih =>
    intro pre tail acc a hv hl ha
    have hx := hv x (by simp)
    rw [i64_min, i64_max] at hx
    have hr := ri_at pre (r.flatMap encI ++ tail) x hx.1 hx.2 l (by rw [hl]; simp) a ha
    rw [List.length_cons, rints_on hr, ih (pre ++ encI x) tail (acc ++ [x]) _ (fun y hy => hv y (by simp [hy])) (by rw [hl]; simp) (by rw [ha]; simp)]
    simp
    omega

theorem rI_back (l pre tail v : List Int) (hv : ∀ x ∈ v, IntKind.i64.min ≤ x ∧ x ≤ IntKind.i64.max) (hm : (v.length : Int) ≤ 9223372036854775807) (hl : l = pre ++ encL v ++ tail) (a lim : Int) (ha : a = pre.length) (h : (v.length : Int) ≤ lim) :
    rI l a lim = (v, a + (encL v).length, 0) := by
  have hr := rl_back l pre (v.flatMap encI ++ tail) v.length hm (by rw [hl]; unfold encL; simp) a lim ha h
  have h2 := rints_back l v (pre ++ encI v.length) tail [] (a + (encI v.length).length) hv (by rw [hl]; unfold encL; simp) (by rw [ha]; simp)
  rw [rI_yes hr, Int.toNat_natCast, h2]
  unfold encL
  simp
  omega

theorem strOf_strL (s : ByteArray) : strOfNums (strL s) = s := by
  obtain ⟨d⟩ := s
  unfold strOfNums strL
  congr 1
  apply Array.ext'
  simp only [List.map_map]
  have : ∀ y ∈ d.toList, ((fun n : Int => UInt8.ofNat n.toNat) ∘ fun b : UInt8 => (b.toNat : Int)) y = y := by
    intro y _
    simp only [Function.comp, Int.toNat_natCast, UInt8.ofNat_toNat]
  rw [List.map_congr_left this, List.map_id']

theorem rS_back (l pre tail : List Int) (s : ByteArray) (hm : (s.size : Int) ≤ 9223372036854775807) (hl : l = pre ++ encS s ++ tail) (a lim : Int) (ha : a = pre.length) (h : (s.size : Int) ≤ lim) :
    rS l a lim = (s, a + (encS s).length, 0) := by
  have hr := rl_back l pre (strL s ++ tail) s.size hm (by rw [hl]; unfold encS; simp) a lim ha h
  have hp : a + (encI s.size).length = (((pre ++ encI s.size).length : Nat) : Int) := by rw [ha]; simp
  rw [hp] at hr
  have hll : l.length = (pre ++ encI s.size).length + s.size + tail.length := by rw [hl]; unfold encS; simp [strL_len]; omega
  rw [rS_yes hr (by rw [hll]; omega)]
  have hd : (l.drop (pre ++ encI s.size).length).take s.size = strL s := by
    rw [hl]
    unfold encS
    rw [show pre ++ (encI ↑s.size ++ strL s) ++ tail = (pre ++ encI ↑s.size) ++ (strL s ++ tail) by simp, List.drop_left, ← strL_len s, List.take_left]
  rw [hd, strOf_strL]
  unfold encS
  simp [strL_len]
  omega

theorem rb_back (l pre tail : List Int) (x : Bool) (hl : l = pre ++ encB x ++ tail) (a : Int) (ha : a = pre.length) : rb l a = (x, a + 1, 0) := by
  have hll : l.length = pre.length + 1 + tail.length := by rw [hl]; simp [encB_len]; omega
  have hd : l.drop a.toNat = (if x then 1 else 0) :: tail := by
    rw [hl, ha, Int.toNat_natCast, List.append_assoc, List.drop_left]
    rfl
  rw [rb, if_neg (by rw [hll]; omega), hd]
  cases x <;> rfl

set_option maxRecDepth 100000 in
set_option maxHeartbeats 2000000 in
theorem roundTrip_walk (A V T : Option Addr) (n c m d t u : Nat) (l v tl : List Int) (s : ByteArray) (x : Bool) (w : World) (R : Rd w w.heap.size .u8 A n l) (RV : Rd w w.heap.size .i64 V m v) (RT : Rd w w.heap.size .u8 T t tl)
    (hn : n ≤ 1048576) (hm : m ≤ 1048576) (ht : t ≤ 1048576) (hs : s.size ≤ 1048576) :
    Calls Try.prog 9 #[.slice A n c, .slice V m d, .string s, .bool x, .slice T t u] w fun e w' => e = .returned (.bool true) ∧ Below w.heap.size w w' := by
  have BB : Below w.heap.size w w := Below.refl _ _
  have HL := Lib.hid R.len
  have HV := Lib.hid RV.len
  have HT := Lib.hid RT.len
  have e1 := encL_len v RV.rng (by rw [RV.len]; omega)
  have e2 := encS_len s (by omega)
  rw [RV.len] at e1
  have hc1 : (l ++ encL v).length ≤ 140737488355328 := by rw [List.length_append, R.len]; omega
  have hc2 : (l ++ encL v ++ encS s).length ≤ 140737488355328 := by rw [List.length_append, List.length_append, R.len]; omega
  have hc3 : (l ++ encL v ++ encS s).length + 1 ≤ 140737488355328 := by rw [List.length_append, List.length_append, R.len]; omega
  obtain ⟨q, hq⟩ : ∃ q, q = l ++ encL v ++ encS s ++ encB x := ⟨_, rfl⟩
  have hql : q.length = n + (encL v).length + (encS s).length + 1 := by rw [hq]; simp only [List.length_append, R.len, encB_len]
  have r1 := rI_back (q ++ tl) l (encS s ++ encB x ++ tl) v RV.rng (by rw [RV.len]; omega) (by rw [hq]; simp) n m (by rw [R.len]) (by rw [RV.len]; omega)
  have r2 := rS_back (q ++ tl) (l ++ encL v) (encB x ++ tl) s (by omega) (by rw [hq]; simp) (n + (encL v).length) s.size (by simp [R.len]) (by omega)
  have r3 := rb_back (q ++ tl) (l ++ encL v ++ encS s) tl x (by rw [hq]) (n + (encL v).length + (encS s).length) (by simp [R.len]; omega)
  obtain ⟨p1, hp1⟩ : ∃ p1 : Nat, n + (encL v).length = p1 := ⟨_, rfl⟩
  obtain ⟨p2, hp2⟩ : ∃ p2 : Nat, p1 + (encS s).length = p2 := ⟨_, rfl⟩
  have i1 : ((n : Int) + (encL v).length) = p1 := by omega
  rw [i1] at r1 r2 r3
  have i2 : ((p1 : Int) + (encS s).length) = p2 := by omega
  rw [i2] at r2 r3
  have hql' : q.length = p2 + 1 := by omega
  have hn2 : p2 + 1 ≤ 13631516 := by omega
  have hnp : n ≤ p2 := by omega
  have R1 := Lib.hid r1
  have R2 := Lib.hid r2
  have R3 := Lib.hid r3
  have C1 := Lib.hid hc1
  have C2 := Lib.hid hc2
  have C3 := Lib.hid hc3
  have HQ := Lib.hid hq
  have HQL := Lib.hid hql'
  have HTK : Hid (q.take n = l) := Lib.hid (by rw [hq, ← R.len]; simp)
  clear r1 r2 r3 hc1 hc2 hc3 hq hql hql' e1 e2 i1 i2 hp1 hp2
  go_enter Try.func9, Try.ntmps9
  go_wp2_with (first
    | (go_at_call 14; refine (appendInts_b _ _ _ _ _ _ _ _ _ (R.on BB) (RV.on BB) (by omega) C1.out).mono ?_; rintro _ W1 ⟨A1, n1, c1, rfl, own1, B⟩; have K1 := own1.rd; clear own1; replace BB := bon BB B; clear B)
    | (go_at_call 16; refine (appendString_b _ _ _ _ _ _ K1 (by omega) C2.out).mono ?_; rintro _ W2 ⟨A2, n2, c2, rfl, own2, B⟩; have K2 := own2.rd; clear own2 K1; replace BB := bon BB B; clear B)
    | (go_at_call 18; refine (appendBool_b _ _ _ _ _ _ K2 C3.out).mono ?_; rintro _ W3 ⟨A3, n3, c3, rfl, own3, B⟩; have K3 := own3.rd; have room := own3.room; rw [← HQ.out] at K3
       obtain rfl : n3 = p2 + 1 := by rw [← K3.len, HQL.out]
       clear own3 K2; replace BB := bon BB B; clear B)
    | (go_at_call 11; refine (same_b _ _ _ _ _ _ _ _ l _ (by have h := K3.pre (j := n) (by omega); rw [HTK.out] at h; exact h) (R.on BB) (Nat.le_refl _) (Nat.le_refl _) (by omega)).mono ?_; rintro _ W4 ⟨rfl, B⟩; replace K3 := K3.on B; replace BB := bon BB B; clear B)
    | (at_builtin; refine wpList_app _ rfl (.tmp 39) (.tmp 40) _ rfl eB (Own.made _ _ .u8) rfl (K3.below ((Below.refl _ _).alloc (Nat.le_refl _) _)) rfl (by simp only [maxLen]; omega) (by omega) ?_; intro A4 n4 c4 W4 own4 B; have sz := Lib.hid BB.size; replace BB := bon BB (((Below.refl _ _).alloc (Nat.le_refl _) _).trans B); obtain rfl : n4 = p2 + 1 := by rw [← own4.len, List.nil_append, HQL.out]
       clear B K3)
    | (at_builtin; refine wpList_app _ rfl (.tmp 42) (.tmp 43) _ rfl eB own4 rfl (RT.on BB) rfl (by simp only [maxLen]; omega) (by omega) ?_; intro A5 n5 c5 W5 own5 B; have K5 := own5.rd; have room5 := own5.room; have cap5 := own5.cap; rw [List.nil_append] at K5; obtain rfl : n5 = p2 + 1 + t := by rw [← K5.len, List.length_append, HQL.out, HT.out]
       replace BB := BB.trans (B.mono sz.out); clear B own4 own5)
    | (go_at_call 25; refine (readInts_b _ _ _ _ _ _ _ _ _ _ K5 (by omega) R1.out).mono ?_; rintro _ W6 ⟨A6, n6, c6, rfl, _, K6, B⟩; replace K5 := K5.on B; replace BB := bon BB B; clear B)
    | (go_at_call 27; refine (sameInts_b _ _ _ _ _ _ _ _ _ _ K6 (RV.on BB) (Nat.le_refl _) (Nat.le_refl _) (by have h1 := K6.len; have h2 := HV.out; omega)).mono ?_; rintro _ W7 ⟨rfl, B⟩; replace K5 := K5.on B; replace BB := bon BB B; clear B K6)
    | (go_at_call 28; refine (readString_b _ _ _ _ _ _ _ _ _ _ K5 (by omega) room5 cap5 R2.out).mono ?_; rintro _ W8 ⟨rfl, B⟩; replace K5 := K5.on B; replace BB := bon BB B; clear B)
    | (go_at_call 23; refine (readBool_b _ _ _ _ _ _ _ _ _ K5 (by omega) R3.out).mono ?_; rintro _ W9 ⟨rfl, B⟩; replace BB := bon BB B; clear B)
    | (go_at_call 20; refine (example_b _).mono ?_; rintro _ W1 ⟨rfl, B⟩; replace BB := bon BB B; clear B))
  go_ret
  exact ⟨rfl, BB⟩

end Go.Proofs.Ytaimkplcnkbjlaa
