/- The walk of CodecUnique, in parts. Written by tools/gen/genC16.py. -/
import Derived.Test.YtaimkplcnkbjlaaC16
namespace Go.Proofs.Ytaimkplcnkbjlaa
open Go.RowKit Go.Sort

set_option maxRecDepth 100000 in
set_option maxHeartbeats 2000000 in
theorem unique_yny (A : Option Addr) (n c p : Nat) (l : List Int) (lim v n1 n2 n3 e1 e2 e3 : Int) (L : List Int) (s : ByteArray) (w : World) (R : Rd w w.heap.size .u8 A n l) (hn : n ≤ 1048576) (hc : n ≤ c) (hcm : c ≤ 9223372036854775807) (hp : p ≤ n)
    (h1 : ri l p = (v, n1, e1)) (h2 : rI l p lim = (L, n2, e2)) (h3 : rS l p lim = (s, n3, e3)) (z1 : e1 = 0) (z2 : e2 ≠ 0) (z3 : e3 = 0) :
    Calls Try.prog 10 #[.slice A n c, .int .i64 p, .int .i64 lim] w fun e w' => e = .returned (.bool true) ∧ Below w.heap.size w w' := by
  have BB : Below w.heap.size w w := Below.refl _ _
  have HB := Lib.hid (rd_bytes R)
  have HL := Lib.hid R.len
  have H1 := Lib.hid h1
  have H2 := Lib.hid h2
  have H3 := Lib.hid h3
  clear h1 h2 h3
  subst z1
  obtain ⟨q1, rfl, pq1, qn1, ht1⟩ := fits_ri HL.out HB.out H1.out
  have T1 := Lib.hid ht1
  obtain ⟨b, off, rfl, _⟩ := R.2.2 (by omega)
  have P1 := rd_part R pq1 qn1 hc
  have M1 : Hid (([] ++ encI v).length ≤ 140737488355328) := Lib.hid (by have := part_len_le l p (q1 - p); rw [List.nil_append, ht1]; have := HL.out; omega)
  have pi1 : (p : Int) < (q1 : Int) := by omega
  have qi1 : (q1 : Int) ≤ (n : Int) := by omega
  have qc1 : q1 ≤ c := by omega
  have pp1 : p ≤ q1 := by omega
  clear ht1
  obtain ⟨v0, v1⟩ : -9223372036854775808 ≤ v ∧ v ≤ 9223372036854775807 := by
    have := ri_rng l p v q1 0 HB.out H1.out
    omega
  have x2 : (e2 == 0) = false := by simpa using z2
  clear z2
  subst z3
  obtain ⟨q3, rfl, pq3, qn3, ht3⟩ := fits_rS HL.out HB.out H3.out
  have T3 := Lib.hid ht3
  have P3 := rd_part R pq3 qn3 hc
  have M3 : Hid (([] ++ encS s).length ≤ 140737488355328) := Lib.hid (by have := part_len_le l p (q3 - p); rw [List.nil_append, ht3]; have := HL.out; omega)
  have pi3 : (p : Int) < (q3 : Int) := by omega
  have qi3 : (q3 : Int) ≤ (n : Int) := by omega
  have qc3 : q3 ≤ c := by omega
  have pp3 : p ≤ q3 := by omega
  clear ht3
  have SN : s.size ≤ 1048576 := by
    have h := congrArg List.length T3.out
    unfold encS at h
    rw [List.length_append, strL_len] at h
    have := part_len_le l p (q3 - p)
    have := HL.out
    omega
  have pi0 : (p : Int) ≤ (n : Int) := by omega
  have nci : (n : Int) ≤ (c : Int) := by omega
  have hcp : ¬ c = p := by omega
  go_enter Try.func10, Try.ntmps10
  go_wp2_with (go_at_call 21; refine (readInt_b _ _ _ _ _ _ _ _ _ (R.on BB) (by omega) H1.out).mono ?_; rintro _ V1 ⟨rfl, B⟩; replace BB := bon BB B; clear B)
  refine wp_region_grow [0, 1, 2, 3, 4, 5, 6, 7, 8, 9, 10, 11, 12, 13, 15, 16, 17, 18, 14, 19, 20, 21, 22] (by kernel_rfl) (by kernel_rfl) ?_
  intro W B
  replace BB := bon BB B
  clear B
  refine grow_read rfl rfl ?_
  (first | go_big_quiet_step (fail) | quiet_step (fail))
  refine wpQuiet_nil ?_
  refine grow_read rfl rfl ?_
  (first | go_big_quiet_step (fail) | quiet_step (fail))
  refine wpQuiet_nil ?_
  refine grow_read rfl rfl ?_
  (first | go_big_quiet_step (fail) | quiet_step (fail))
  refine wpQuiet_nil ?_
  refine grow_read rfl rfl ?_
  (first | go_big_quiet_step (fail) | quiet_step (fail))
  refine wpQuiet_nil ?_
  refine grow_read rfl rfl ?_
  (first | go_big_quiet_step (fail) | quiet_step (fail))
  refine wpQuiet_nil ?_
  refine grow_read rfl rfl ?_
  (first | go_big_quiet_step (fail) | quiet_step (fail))
  refine wpQuiet_nil ?_
  refine grow_read rfl rfl ?_
  (first | go_big_quiet_step (fail) | quiet_step (fail))
  refine wpQuiet_nil ?_
  refine grow_read rfl rfl ?_
  (first | go_big_quiet_step (fail) | quiet_step (fail))
  refine wpQuiet_nil ?_
  refine grow_read rfl rfl ?_
  (first | go_big_quiet_step (fail) | quiet_step (fail))
  refine wpQuiet_nil ?_
  refine grow_read rfl rfl ?_
  (first | go_big_quiet_step (fail) | quiet_step (fail))
  refine wpQuiet_nil ?_
  refine grow_read rfl rfl ?_
  (first | go_big_quiet_step (fail) | quiet_step (fail))
  refine wpQuiet_nil ?_
  refine grow_read rfl rfl ?_
  (first | go_big_quiet_step (fail) | quiet_step (fail))
  refine wpQuiet_nil ?_
  refine grow_read rfl rfl ?_
  (first | go_big_quiet_step (fail) | quiet_step (fail))
  refine wpQuiet_nil ?_
  refine grow_read rfl rfl ?_
  (first | go_big_quiet_step (fail) | quiet_step (fail))
  refine wpQuiet_nil ?_
  refine grow_read rfl rfl ?_
  (first | go_big_quiet_step (fail) | quiet_step (fail))
  refine wpQuiet_nil ?_
  refine grow_read rfl rfl ?_
  (first | go_big_quiet_step (fail) | quiet_step (fail))
  refine wpQuiet_nil ?_
  refine grow_read rfl rfl ?_
  (first | go_big_quiet_step (fail) | quiet_step (fail))
  refine wpQuiet_nil ?_
  refine grow_read rfl rfl ?_
  (first | go_big_quiet_step (fail) | quiet_step (fail))
  refine wpQuiet_nil ?_
  refine grow_call rfl rfl ?_
  go_wp2_with (go_at_call 12; refine (appendInt_b none 0 0 [] _ _ (Rd.nil _ _ _ _) v0 v1 (by have := M1.out; simpa using this)).mono ?_; rintro _ _ ⟨A1, m1, c1, rfl, _, G1, B⟩; rw [List.nil_append, T1.out] at G1; replace BB := bon BB B)
  refine ⟨Grows.of B, ?_⟩
  clear B
  refine grow_call rfl rfl ?_
  go_wp2_with (go_at_call 11; refine (same_b _ _ _ _ _ _ _ _ _ _ G1 (P1.on BB) (Nat.le_refl _) (Nat.le_refl _) (by have h1 := G1.len; have h2 := part_len_le l p (q1 - p); have := HL.out; omega)).mono ?_; rintro _ _ ⟨rfl, B⟩; replace BB := bon BB B)
  refine ⟨Grows.of B, ?_⟩
  clear B
  refine grow_read rfl rfl ?_
  (first | go_big_quiet_step (fail) | quiet_step (fail))
  refine wpQuiet_nil ?_
  refine grow_read rfl rfl ?_
  (first | go_big_quiet_step (fail) | quiet_step (fail))
  refine wpQuiet_nil ?_
  refine grow_read rfl rfl ?_
  (first | go_big_quiet_step (fail) | quiet_step (fail))
  refine wpQuiet_nil ?_
  refine grow_nil ?_
  go_wp2_with (go_at_call 25; refine (readInts_b _ _ _ _ _ _ _ _ _ _ (R.on BB) (by omega) H2.out).mono ?_; rintro _ V2 ⟨AL, nL, cL, rfl, _, KL, B⟩; replace BB := bon BB B; clear B)
  refine wp_region_quiet_below (by kernel_rfl) (by kernel_rfl) ?_
  repeat (first | go_big_quiet_step ((first | fail)) | quiet_step ((first | fail)))
  refine wpQuiet_nil ?_
  intro W hw'
  have B := below_regrown' hw'
  clear hw'
  replace BB := bon BB B
  go_wp2_with (go_at_call 28; refine (readString_b _ _ _ _ _ _ _ _ _ _ (R.on BB) (by omega) hc hcm H3.out).mono ?_; rintro _ V3 ⟨rfl, B⟩; replace BB := bon BB B; clear B)
  refine wp_region_grow [0, 1, 2, 3, 4, 5, 6, 7, 8, 9, 10, 11, 12, 13, 15, 16, 17, 18, 14, 19, 20, 21, 22] (by kernel_rfl) (by kernel_rfl) ?_
  intro W B
  replace BB := bon BB B
  clear B
  refine grow_read rfl rfl ?_
  (first | go_big_quiet_step (fail) | quiet_step (fail))
  refine wpQuiet_nil ?_
  refine grow_read rfl rfl ?_
  (first | go_big_quiet_step (fail) | quiet_step (fail))
  refine wpQuiet_nil ?_
  refine grow_read rfl rfl ?_
  (first | go_big_quiet_step (fail) | quiet_step (fail))
  refine wpQuiet_nil ?_
  refine grow_read rfl rfl ?_
  (first | go_big_quiet_step (fail) | quiet_step (fail))
  refine wpQuiet_nil ?_
  refine grow_read rfl rfl ?_
  (first | go_big_quiet_step (fail) | quiet_step (fail))
  refine wpQuiet_nil ?_
  refine grow_read rfl rfl ?_
  (first | go_big_quiet_step (fail) | quiet_step (fail))
  refine wpQuiet_nil ?_
  refine grow_read rfl rfl ?_
  (first | go_big_quiet_step (fail) | quiet_step (fail))
  refine wpQuiet_nil ?_
  refine grow_read rfl rfl ?_
  (first | go_big_quiet_step (fail) | quiet_step (fail))
  refine wpQuiet_nil ?_
  refine grow_read rfl rfl ?_
  (first | go_big_quiet_step (fail) | quiet_step (fail))
  refine wpQuiet_nil ?_
  refine grow_read rfl rfl ?_
  (first | go_big_quiet_step (fail) | quiet_step (fail))
  refine wpQuiet_nil ?_
  refine grow_read rfl rfl ?_
  (first | go_big_quiet_step (fail) | quiet_step (fail))
  refine wpQuiet_nil ?_
  refine grow_read rfl rfl ?_
  (first | go_big_quiet_step (fail) | quiet_step (fail))
  refine wpQuiet_nil ?_
  refine grow_read rfl rfl ?_
  (first | go_big_quiet_step (fail) | quiet_step (fail))
  refine wpQuiet_nil ?_
  refine grow_read rfl rfl ?_
  (first | go_big_quiet_step (fail) | quiet_step (fail))
  refine wpQuiet_nil ?_
  refine grow_read rfl rfl ?_
  (first | go_big_quiet_step (fail) | quiet_step (fail))
  refine wpQuiet_nil ?_
  refine grow_read rfl rfl ?_
  (first | go_big_quiet_step (fail) | quiet_step (fail))
  refine wpQuiet_nil ?_
  refine grow_read rfl rfl ?_
  (first | go_big_quiet_step (fail) | quiet_step (fail))
  refine wpQuiet_nil ?_
  refine grow_read rfl rfl ?_
  (first | go_big_quiet_step (fail) | quiet_step (fail))
  refine wpQuiet_nil ?_
  refine grow_call rfl rfl ?_
  go_wp2_with (go_at_call 16; refine (appendString_b none 0 0 [] _ _ (Rd.nil _ _ _ _) (by omega) M3.out).mono ?_; rintro _ _ ⟨A3, m3, c3, rfl, own3, B⟩; have G3 := own3.rd; clear own3; rw [List.nil_append, T3.out] at G3; replace BB := bon BB B)
  refine ⟨Grows.of B, ?_⟩
  clear B
  refine grow_call rfl rfl ?_
  go_wp2_with (go_at_call 11; refine (same_b _ _ _ _ _ _ _ _ _ _ G3 (P3.on BB) (Nat.le_refl _) (Nat.le_refl _) (by have h1 := G3.len; have h2 := part_len_le l p (q3 - p); have := HL.out; omega)).mono ?_; rintro _ _ ⟨rfl, B⟩; replace BB := bon BB B)
  refine ⟨Grows.of B, ?_⟩
  clear B
  refine grow_read rfl rfl ?_
  (first | go_big_quiet_step (fail) | quiet_step (fail))
  refine wpQuiet_nil ?_
  refine grow_read rfl rfl ?_
  (first | go_big_quiet_step (fail) | quiet_step (fail))
  refine wpQuiet_nil ?_
  refine grow_read rfl rfl ?_
  (first | go_big_quiet_step (fail) | quiet_step (fail))
  refine wpQuiet_nil ?_
  refine grow_nil ?_
  go_wp2_with (go_at_call 20; refine (example_b _).mono ?_; rintro _ V4 ⟨rfl, B⟩; replace BB := bon BB B; clear B)
  go_ret
  exact ⟨rfl, BB⟩

set_option maxRecDepth 100000 in
set_option maxHeartbeats 2000000 in
theorem unique_nny (A : Option Addr) (n c p : Nat) (l : List Int) (lim v n1 n2 n3 e1 e2 e3 : Int) (L : List Int) (s : ByteArray) (w : World) (R : Rd w w.heap.size .u8 A n l) (hn : n ≤ 1048576) (hc : n ≤ c) (hcm : c ≤ 9223372036854775807) (hp : p ≤ n)
    (h1 : ri l p = (v, n1, e1)) (h2 : rI l p lim = (L, n2, e2)) (h3 : rS l p lim = (s, n3, e3)) (z1 : e1 ≠ 0) (z2 : e2 ≠ 0) (z3 : e3 = 0) :
    Calls Try.prog 10 #[.slice A n c, .int .i64 p, .int .i64 lim] w fun e w' => e = .returned (.bool true) ∧ Below w.heap.size w w' := by
  have BB : Below w.heap.size w w := Below.refl _ _
  have HB := Lib.hid (rd_bytes R)
  have HL := Lib.hid R.len
  have H1 := Lib.hid h1
  have H2 := Lib.hid h2
  have H3 := Lib.hid h3
  clear h1 h2 h3
  have x1 : (e1 == 0) = false := by simpa using z1
  clear z1
  have x2 : (e2 == 0) = false := by simpa using z2
  clear z2
  subst z3
  obtain ⟨q3, rfl, pq3, qn3, ht3⟩ := fits_rS HL.out HB.out H3.out
  have T3 := Lib.hid ht3
  obtain ⟨b, off, rfl, _⟩ := R.2.2 (by omega)
  have P3 := rd_part R pq3 qn3 hc
  have M3 : Hid (([] ++ encS s).length ≤ 140737488355328) := Lib.hid (by have := part_len_le l p (q3 - p); rw [List.nil_append, ht3]; have := HL.out; omega)
  have pi3 : (p : Int) < (q3 : Int) := by omega
  have qi3 : (q3 : Int) ≤ (n : Int) := by omega
  have qc3 : q3 ≤ c := by omega
  have pp3 : p ≤ q3 := by omega
  clear ht3
  have SN : s.size ≤ 1048576 := by
    have h := congrArg List.length T3.out
    unfold encS at h
    rw [List.length_append, strL_len] at h
    have := part_len_le l p (q3 - p)
    have := HL.out
    omega
  have pi0 : (p : Int) ≤ (n : Int) := by omega
  have nci : (n : Int) ≤ (c : Int) := by omega
  have hcp : ¬ c = p := by omega
  go_enter Try.func10, Try.ntmps10
  go_wp2_with (go_at_call 21; refine (readInt_b _ _ _ _ _ _ _ _ _ (R.on BB) (by omega) H1.out).mono ?_; rintro _ V1 ⟨rfl, B⟩; replace BB := bon BB B; clear B)
  refine wp_region_quiet_below (by kernel_rfl) (by kernel_rfl) ?_
  repeat (first | go_big_quiet_step ((first | fail)) | quiet_step ((first | fail)))
  refine wpQuiet_nil ?_
  intro W hw'
  have B := below_regrown' hw'
  clear hw'
  replace BB := bon BB B
  go_wp2_with (go_at_call 25; refine (readInts_b _ _ _ _ _ _ _ _ _ _ (R.on BB) (by omega) H2.out).mono ?_; rintro _ V2 ⟨AL, nL, cL, rfl, _, KL, B⟩; replace BB := bon BB B; clear B)
  refine wp_region_quiet_below (by kernel_rfl) (by kernel_rfl) ?_
  repeat (first | go_big_quiet_step ((first | fail)) | quiet_step ((first | fail)))
  refine wpQuiet_nil ?_
  intro W hw'
  have B := below_regrown' hw'
  clear hw'
  replace BB := bon BB B
  go_wp2_with (go_at_call 28; refine (readString_b _ _ _ _ _ _ _ _ _ _ (R.on BB) (by omega) hc hcm H3.out).mono ?_; rintro _ V3 ⟨rfl, B⟩; replace BB := bon BB B; clear B)
  refine wp_region_grow [0, 1, 2, 3, 4, 5, 6, 7, 8, 9, 10, 11, 12, 13, 15, 16, 17, 18, 14, 19, 20, 21, 22] (by kernel_rfl) (by kernel_rfl) ?_
  intro W B
  replace BB := bon BB B
  clear B
  refine grow_read rfl rfl ?_
  (first | go_big_quiet_step (fail) | quiet_step (fail))
  refine wpQuiet_nil ?_
  refine grow_read rfl rfl ?_
  (first | go_big_quiet_step (fail) | quiet_step (fail))
  refine wpQuiet_nil ?_
  refine grow_read rfl rfl ?_
  (first | go_big_quiet_step (fail) | quiet_step (fail))
  refine wpQuiet_nil ?_
  refine grow_read rfl rfl ?_
  (first | go_big_quiet_step (fail) | quiet_step (fail))
  refine wpQuiet_nil ?_
  refine grow_read rfl rfl ?_
  (first | go_big_quiet_step (fail) | quiet_step (fail))
  refine wpQuiet_nil ?_
  refine grow_read rfl rfl ?_
  (first | go_big_quiet_step (fail) | quiet_step (fail))
  refine wpQuiet_nil ?_
  refine grow_read rfl rfl ?_
  (first | go_big_quiet_step (fail) | quiet_step (fail))
  refine wpQuiet_nil ?_
  refine grow_read rfl rfl ?_
  (first | go_big_quiet_step (fail) | quiet_step (fail))
  refine wpQuiet_nil ?_
  refine grow_read rfl rfl ?_
  (first | go_big_quiet_step (fail) | quiet_step (fail))
  refine wpQuiet_nil ?_
  refine grow_read rfl rfl ?_
  (first | go_big_quiet_step (fail) | quiet_step (fail))
  refine wpQuiet_nil ?_
  refine grow_read rfl rfl ?_
  (first | go_big_quiet_step (fail) | quiet_step (fail))
  refine wpQuiet_nil ?_
  refine grow_read rfl rfl ?_
  (first | go_big_quiet_step (fail) | quiet_step (fail))
  refine wpQuiet_nil ?_
  refine grow_read rfl rfl ?_
  (first | go_big_quiet_step (fail) | quiet_step (fail))
  refine wpQuiet_nil ?_
  refine grow_read rfl rfl ?_
  (first | go_big_quiet_step (fail) | quiet_step (fail))
  refine wpQuiet_nil ?_
  refine grow_read rfl rfl ?_
  (first | go_big_quiet_step (fail) | quiet_step (fail))
  refine wpQuiet_nil ?_
  refine grow_read rfl rfl ?_
  (first | go_big_quiet_step (fail) | quiet_step (fail))
  refine wpQuiet_nil ?_
  refine grow_read rfl rfl ?_
  (first | go_big_quiet_step (fail) | quiet_step (fail))
  refine wpQuiet_nil ?_
  refine grow_read rfl rfl ?_
  (first | go_big_quiet_step (fail) | quiet_step (fail))
  refine wpQuiet_nil ?_
  refine grow_call rfl rfl ?_
  go_wp2_with (go_at_call 16; refine (appendString_b none 0 0 [] _ _ (Rd.nil _ _ _ _) (by omega) M3.out).mono ?_; rintro _ _ ⟨A3, m3, c3, rfl, own3, B⟩; have G3 := own3.rd; clear own3; rw [List.nil_append, T3.out] at G3; replace BB := bon BB B)
  refine ⟨Grows.of B, ?_⟩
  clear B
  refine grow_call rfl rfl ?_
  go_wp2_with (go_at_call 11; refine (same_b _ _ _ _ _ _ _ _ _ _ G3 (P3.on BB) (Nat.le_refl _) (Nat.le_refl _) (by have h1 := G3.len; have h2 := part_len_le l p (q3 - p); have := HL.out; omega)).mono ?_; rintro _ _ ⟨rfl, B⟩; replace BB := bon BB B)
  refine ⟨Grows.of B, ?_⟩
  clear B
  refine grow_read rfl rfl ?_
  (first | go_big_quiet_step (fail) | quiet_step (fail))
  refine wpQuiet_nil ?_
  refine grow_read rfl rfl ?_
  (first | go_big_quiet_step (fail) | quiet_step (fail))
  refine wpQuiet_nil ?_
  refine grow_read rfl rfl ?_
  (first | go_big_quiet_step (fail) | quiet_step (fail))
  refine wpQuiet_nil ?_
  refine grow_nil ?_
  go_wp2_with (go_at_call 20; refine (example_b _).mono ?_; rintro _ V4 ⟨rfl, B⟩; replace BB := bon BB B; clear B)
  go_ret
  exact ⟨rfl, BB⟩

set_option maxRecDepth 100000 in
set_option maxHeartbeats 2000000 in
theorem unique_nyn (A : Option Addr) (n c p : Nat) (l : List Int) (lim v n1 n2 n3 e1 e2 e3 : Int) (L : List Int) (s : ByteArray) (w : World) (R : Rd w w.heap.size .u8 A n l) (hn : n ≤ 1048576) (hc : n ≤ c) (hcm : c ≤ 9223372036854775807) (hp : p ≤ n)
    (h1 : ri l p = (v, n1, e1)) (h2 : rI l p lim = (L, n2, e2)) (h3 : rS l p lim = (s, n3, e3)) (z1 : e1 ≠ 0) (z2 : e2 = 0) (z3 : e3 ≠ 0) :
    Calls Try.prog 10 #[.slice A n c, .int .i64 p, .int .i64 lim] w fun e w' => e = .returned (.bool true) ∧ Below w.heap.size w w' := by
  have BB : Below w.heap.size w w := Below.refl _ _
  have HB := Lib.hid (rd_bytes R)
  have HL := Lib.hid R.len
  have H1 := Lib.hid h1
  have H2 := Lib.hid h2
  have H3 := Lib.hid h3
  clear h1 h2 h3
  have x1 : (e1 == 0) = false := by simpa using z1
  clear z1
  subst z2
  obtain ⟨q2, rfl, pq2, qn2, ht2⟩ := fits_rI HL.out HB.out H2.out
  have T2 := Lib.hid ht2
  obtain ⟨b, off, rfl, _⟩ := R.2.2 (by omega)
  have P2 := rd_part R pq2 qn2 hc
  have M2 : Hid (([] ++ encL L).length ≤ 140737488355328) := Lib.hid (by have := part_len_le l p (q2 - p); rw [List.nil_append, ht2]; have := HL.out; omega)
  have pi2 : (p : Int) < (q2 : Int) := by omega
  have qi2 : (q2 : Int) ≤ (n : Int) := by omega
  have qc2 : q2 ≤ c := by omega
  have pp2 : p ≤ q2 := by omega
  clear ht2
  have LN : Hid (L.length ≤ 1048576) := Lib.hid (by have := rI_len l HB.out p lim L q2 0 H2.out; have := HL.out; omega)
  have x3 : (e3 == 0) = false := by simpa using z3
  clear z3
  have pi0 : (p : Int) ≤ (n : Int) := by omega
  have nci : (n : Int) ≤ (c : Int) := by omega
  have hcp : ¬ c = p := by omega
  go_enter Try.func10, Try.ntmps10
  go_wp2_with (go_at_call 21; refine (readInt_b _ _ _ _ _ _ _ _ _ (R.on BB) (by omega) H1.out).mono ?_; rintro _ V1 ⟨rfl, B⟩; replace BB := bon BB B; clear B)
  refine wp_region_quiet_below (by kernel_rfl) (by kernel_rfl) ?_
  repeat (first | go_big_quiet_step ((first | fail)) | quiet_step ((first | fail)))
  refine wpQuiet_nil ?_
  intro W hw'
  have B := below_regrown' hw'
  clear hw'
  replace BB := bon BB B
  go_wp2_with (go_at_call 25; refine (readInts_b _ _ _ _ _ _ _ _ _ _ (R.on BB) (by omega) H2.out).mono ?_; rintro _ V2 ⟨AL, nL, cL, rfl, _, KL, B⟩; replace BB := bon BB B; clear B)
  refine wp_region_grow [0, 1, 2, 3, 4, 5, 6, 7, 8, 9, 10, 11, 12, 13, 15, 16, 17, 18, 14, 19, 20, 21, 22] (by kernel_rfl) (by kernel_rfl) ?_
  intro W B
  replace BB := bon BB B
  replace KL := Rd.on KL B
  clear B
  refine grow_read rfl rfl ?_
  (first | go_big_quiet_step (fail) | quiet_step (fail))
  refine wpQuiet_nil ?_
  refine grow_read rfl rfl ?_
  (first | go_big_quiet_step (fail) | quiet_step (fail))
  refine wpQuiet_nil ?_
  refine grow_read rfl rfl ?_
  (first | go_big_quiet_step (fail) | quiet_step (fail))
  refine wpQuiet_nil ?_
  refine grow_read rfl rfl ?_
  (first | go_big_quiet_step (fail) | quiet_step (fail))
  refine wpQuiet_nil ?_
  refine grow_read rfl rfl ?_
  (first | go_big_quiet_step (fail) | quiet_step (fail))
  refine wpQuiet_nil ?_
  refine grow_read rfl rfl ?_
  (first | go_big_quiet_step (fail) | quiet_step (fail))
  refine wpQuiet_nil ?_
  refine grow_read rfl rfl ?_
  (first | go_big_quiet_step (fail) | quiet_step (fail))
  refine wpQuiet_nil ?_
  refine grow_read rfl rfl ?_
  (first | go_big_quiet_step (fail) | quiet_step (fail))
  refine wpQuiet_nil ?_
  refine grow_read rfl rfl ?_
  (first | go_big_quiet_step (fail) | quiet_step (fail))
  refine wpQuiet_nil ?_
  refine grow_read rfl rfl ?_
  (first | go_big_quiet_step (fail) | quiet_step (fail))
  refine wpQuiet_nil ?_
  refine grow_read rfl rfl ?_
  (first | go_big_quiet_step (fail) | quiet_step (fail))
  refine wpQuiet_nil ?_
  refine grow_read rfl rfl ?_
  (first | go_big_quiet_step (fail) | quiet_step (fail))
  refine wpQuiet_nil ?_
  refine grow_read rfl rfl ?_
  (first | go_big_quiet_step (fail) | quiet_step (fail))
  refine wpQuiet_nil ?_
  refine grow_read rfl rfl ?_
  (first | go_big_quiet_step (fail) | quiet_step (fail))
  refine wpQuiet_nil ?_
  refine grow_read rfl rfl ?_
  (first | go_big_quiet_step (fail) | quiet_step (fail))
  refine wpQuiet_nil ?_
  refine grow_read rfl rfl ?_
  (first | go_big_quiet_step (fail) | quiet_step (fail))
  refine wpQuiet_nil ?_
  refine grow_read rfl rfl ?_
  (first | go_big_quiet_step (fail) | quiet_step (fail))
  refine wpQuiet_nil ?_
  refine grow_read rfl rfl ?_
  (first | go_big_quiet_step (fail) | quiet_step (fail))
  refine wpQuiet_nil ?_
  refine grow_call rfl rfl ?_
  go_wp2_with (go_at_call 14; refine (appendInts_b none _ 0 0 _ _ [] _ _ (Rd.nil _ _ _ _) KL (by have := KL.len; have := LN.out; omega) M2.out).mono ?_; rintro _ _ ⟨A2, m2, c2, rfl, own2, B⟩; have G2 := own2.rd; clear own2; rw [List.nil_append, T2.out] at G2; replace BB := bon BB B; replace KL := Rd.on KL B)
  refine ⟨Grows.of B, ?_⟩
  clear B
  refine grow_call rfl rfl ?_
  go_wp2_with (go_at_call 11; refine (same_b _ _ _ _ _ _ _ _ _ _ G2 (P2.on BB) (Nat.le_refl _) (Nat.le_refl _) (by have h1 := G2.len; have h2 := part_len_le l p (q2 - p); have := HL.out; omega)).mono ?_; rintro _ _ ⟨rfl, B⟩; replace BB := bon BB B; replace KL := Rd.on KL B)
  refine ⟨Grows.of B, ?_⟩
  clear B
  refine grow_read rfl rfl ?_
  (first | go_big_quiet_step (fail) | quiet_step (fail))
  refine wpQuiet_nil ?_
  refine grow_read rfl rfl ?_
  (first | go_big_quiet_step (fail) | quiet_step (fail))
  refine wpQuiet_nil ?_
  refine grow_read rfl rfl ?_
  (first | go_big_quiet_step (fail) | quiet_step (fail))
  refine wpQuiet_nil ?_
  refine grow_nil ?_
  go_wp2_with (go_at_call 28; refine (readString_b _ _ _ _ _ _ _ _ _ _ (R.on BB) (by omega) hc hcm H3.out).mono ?_; rintro _ V3 ⟨rfl, B⟩; replace BB := bon BB B; clear B)
  refine wp_region_quiet_below (by kernel_rfl) (by kernel_rfl) ?_
  repeat (first | go_big_quiet_step ((first | fail)) | quiet_step ((first | fail)))
  refine wpQuiet_nil ?_
  intro W hw'
  have B := below_regrown' hw'
  clear hw'
  replace BB := bon BB B
  go_wp2_with (go_at_call 20; refine (example_b _).mono ?_; rintro _ V4 ⟨rfl, B⟩; replace BB := bon BB B; clear B)
  go_ret
  exact ⟨rfl, BB⟩

end Go.Proofs.Ytaimkplcnkbjlaa
