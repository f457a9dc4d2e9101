/- What the reference's Encode of texel formats returns: the formats with integers; all formats. -/
import Derived.Test.YtcjlgfadjedgbaaT2
namespace Go.Proofs.Ytcjlgfadjedgbaa
open Go.RowKit Go.Sort

/-- Where field k begins; the number of the first k fields. -/
def ats (l : List Int) (k : Nat) : Int := (l.take k).sum
def pks (y : Nat → Int) (l : List Int) : Nat → Int
  | 0 => 0
  | k + 1 => pks y l k + unv (y k) (l.getD k 0) * pw (ats l k)

theorem ats_succ {l : List Int} {k : Nat} {x : Int} (h : l[k]? = some x) : ats l (k + 1) = ats l k + x := by
  obtain ⟨hk, rfl⟩ := List.getElem?_eq_some_iff.1 h
  unfold ats
  rw [List.take_succ_eq_append_getElem hk, List.sum_append]
  simp
theorem ats_nonneg {l : List Int} (hw : ∀ x ∈ l, (1 : Int) ≤ x ∧ x ≤ 16) : ∀ k, 0 ≤ ats l k := by
  intro k
  induction k with
  | zero => simp [ats]
  | succ k ih =>
    rcases Nat.lt_or_ge k l.length with h | h
    · rw [ats_succ (List.getElem?_eq_getElem h)]
      have := hw _ (List.getElem_mem h)
      omega
    · unfold ats at *
      rw [List.take_of_length_le (by omega)]
      rwa [List.take_of_length_le h] at ih
theorem ats_le {l : List Int} (hw : ∀ x ∈ l, (1 : Int) ≤ x ∧ x ≤ 16) {k : Nat} : ats l k ≤ l.sum := by
  have e : l.sum = ats l k + (l.drop k).sum := by unfold ats; rw [← List.sum_append, List.take_append_drop]
  have h0 : ∀ m : List Int, (∀ x ∈ m, (1 : Int) ≤ x ∧ x ≤ 16) → 0 ≤ m.sum := by
    intro m
    induction m with
    | nil => intro _; simp
    | cons a r ih =>
      intro h
      have h1 := h a (by simp)
      have h2 := ih fun x hx => h x (by simp [hx])
      rw [List.sum_cons]
      omega
  have := h0 (l.drop k) fun x hx => hw x (List.mem_of_mem_drop hx)
  omega

/-- One field more. -/
theorem pks_step {y : Nat → Int} {l : List Int} {k : Nat} {x : Int} (hw : ∀ x ∈ l, (1 : Int) ≤ x ∧ x ≤ 16) (hs : l.sum ≤ 32) (hx : l[k]? = some x) (h1 : pks y l k < pw (ats l k)) :
    0 ≤ unv (y k) x * pw (ats l k) ∧ pks y l (k + 1) = pks y l k + unv (y k) x * pw (ats l k) ∧ pks y l (k + 1) < pw (ats l (k + 1)) ∧ pw (ats l (k + 1)) ≤ 4294967296 ∧ 0 ≤ ats l k ∧ ats l k ≤ 32 ∧ (1 ≤ x ∧ x ≤ 16) ∧ ats l (k + 1) = ats l k + x := by
  obtain ⟨hk, hxe⟩ := List.getElem?_eq_some_iff.1 hx
  have hx1 := hw x (by rw [← hxe]; exact List.getElem_mem hk)
  have ha := ats_nonneg hw k
  have hu := unv_rng (x := y k) hx1
  have hp := pw_pos (ats l k)
  have ea := ats_succ hx
  have hle := ats_le hw (k := k + 1)
  have hle0 := ats_le hw (k := k)
  have hpa := pw_add (ats l k) x ha (by omega)
  have hp32 := pw_le (ats l (k + 1)) 32 (by omega)
  have e32 : pw 32 = 4294967296 := by decide
  have ed : l.getD k 0 = x := by rw [List.getD, hx]; rfl
  have em := Int.mul_le_mul_of_nonneg_right hu.2 (show 0 ≤ pw (ats l k) by omega)
  rw [Int.sub_mul, Int.one_mul] at em
  have ec : pw (ats l k) * pw x = pw x * pw (ats l k) := Int.mul_comm _ _
  have e1 : pks y l (k + 1) = pks y l k + unv (y k) x * pw (ats l k) := by rw [pks, ed]
  refine ⟨Int.mul_nonneg hu.1 (by omega), e1, ?_, by omega, ha, by omega, hx1, ea⟩
  rw [e1, ea, hpa]
  omega

theorem wds_len {f : Int} (hf : f = 1 ∨ f = 2 ∨ f = 3 ∨ f = 4) : (wds f).length = ncm f := by rcases hf with rfl | rfl | rfl | rfl <;> rfl
theorem wds_rng {f : Int} (hf : f = 1 ∨ f = 2 ∨ f = 3 ∨ f = 4) : ∀ x ∈ wds f, (1 : Int) ≤ x ∧ x ≤ 16 := by rcases hf with rfl | rfl | rfl | rfl <;> decide
theorem wds_sum {f : Int} (hf : f = 1 ∨ f = 2 ∨ f = 3 ∨ f = 4) : (wds f).sum ≤ 32 := by rcases hf with rfl | rfl | rfl | rfl <;> decide

theorem pks_pack {f x0 x1 x2 x3 : Int} (hf : f = 1 ∨ f = 2 ∨ f = 3 ∨ f = 4) : pks (cmp4 (if f = 3 then x2 else x0) x1 (if f = 3 then x0 else x2) x3) (wds f) (ncm f) = pack f x0 x1 x2 x3 := by
  have p0 : pw 0 = 1 := by decide
  have p11 : pw 11 = 2048 := by decide
  have p16' : pw 16 = 65536 := by decide
  have p20 : pw 20 = 1048576 := by decide
  have p24 : pw 24 = 16777216 := by decide
  have p30 : pw 30 = 1073741824 := by decide
  rcases hf with rfl | rfl | rfl | rfl
  · show 0 + unv (compv x0 x1 x2 x3 0) 8 * pw 0 = unv x0 8
    rw [(compv4 x0 x1 x2 x3).1, p0]; omega
  · show 0 + unv (compv x0 x1 x2 x3 0) 8 * pw 0 + unv (compv x0 x1 x2 x3 1) 8 * pw 8 + unv (compv x0 x1 x2 x3 2) 8 * pw 16 + unv (compv x0 x1 x2 x3 3) 8 * pw 24 = unv x0 8 + unv x1 8 * 256 + unv x2 8 * 65536 + unv x3 8 * 16777216
    obtain ⟨h0, h1, h2, h3⟩ := compv4 x0 x1 x2 x3
    rw [h0, h1, h2, h3, p0, p8, p16', p24]; omega
  · show 0 + unv (compv x2 x1 x0 x3 0) 5 * pw 0 + unv (compv x2 x1 x0 x3 1) 6 * pw 5 + unv (compv x2 x1 x0 x3 2) 5 * pw 11 = unv x2 5 + unv x1 6 * 32 + unv x0 5 * 2048
    obtain ⟨h0, h1, h2, h3⟩ := compv4 x2 x1 x0 x3
    rw [h0, h1, h2, p0, p5, p11]; omega
  · show 0 + unv (compv x0 x1 x2 x3 0) 10 * pw 0 + unv (compv x0 x1 x2 x3 1) 10 * pw 10 + unv (compv x0 x1 x2 x3 2) 10 * pw 20 + unv (compv x0 x1 x2 x3 3) 2 * pw 30 = unv x0 10 + unv x1 10 * 1024 + unv x2 10 * 1048576 + unv x3 2 * 1073741824
    obtain ⟨h0, h1, h2, h3⟩ := compv4 x0 x1 x2 x3
    rw [h0, h1, h2, h3, p0, p10, p20, p30]; omega

theorem enc_int {f x0 x1 x2 x3 : Int} (hf : f = 1 ∨ f = 2 ∨ f = 3 ∨ f = 4) : enc f x0 x1 x2 x3 = lb (nsz f) (pack f x0 x1 x2 x3) := by
  unfold enc
  rw [if_neg (by omega), if_neg (by omega), if_neg (by rcases hf with rfl | rfl | rfl | rfl <;> decide)]

set_option maxRecDepth 100000 in
set_option maxHeartbeats 1000000 in
theorem rencode_int (f x0 x1 x2 x3 : Int) (w : World) (hf : f = 1 ∨ f = 2 ∨ f = 3 ∨ f = 4) :
    Calls Try.prog 41 #[.int .i64 f, .agg #[.int .i64 x0, .int .i64 x1, .int .i64 x2, .int .i64 x3]] w (GivesRd w .u8 (enc f x0 x1 x2 x3)) := by
  obtain ⟨a0, a1, a2, a3, BB⟩ := box4 w (.int .i64 x0) (.int .i64 x1) (.int .i64 x2) (.int .i64 x3) 44
  have hf5 : (f == 5) = false := by simp; omega
  have hf6 : (f == 6) = false := by simp; omega
  have cv := fun W => rvalid_q f W
  rw [show isf f = true by rcases hf with rfl | rfl | rfl | rfl <;> rfl] at cv
  have cs := fun W => rsize_q f W
  have cwd := fun W => rwidths_b f W hf
  have csw := fun W => rswap_b f x0 x1 x2 x3 W
  have cl := fun n W => rlb_b n (nsz f) W (nsz_le f)
  have hw := wds_rng hf
  have hs := wds_sum hf
  have hl4 : (wds f).length ≤ 4 := by rcases hf with rfl | rfl | rfl | rfl <;> decide
  have hpk := pks_pack (x0 := x0) (x1 := x1) (x2 := x2) (x3 := x3) hf
  rw [enc_int hf]
  rw [← wds_len hf] at hpk
  obtain ⟨y0, hy0⟩ : ∃ y, (if f = 3 then x2 else x0) = y := ⟨_, rfl⟩
  obtain ⟨y2, hy2⟩ : ∃ y, (if f = 3 then x0 else x2) = y := ⟨_, rfl⟩
  rw [hy0, hy2] at csw hpk
  obtain ⟨l, hl⟩ : ∃ l, wds f = l := ⟨_, rfl⟩
  rw [hl] at cwd hw hs hpk hl4
  obtain ⟨sz, hsz⟩ : ∃ s, nsz f = s := ⟨_, rfl⟩
  rw [hsz] at cs cl ⊢
  obtain ⟨T, hT⟩ : ∃ T, pack f x0 x1 x2 x3 = T := ⟨_, rfl⟩
  rw [hT] at hpk ⊢
  have CV := Lib.hid cv
  have CS := Lib.hid cs
  have CW := Lib.hid cwd
  have CSW := Lib.hid csw
  have CL := Lib.hid cl
  have HW := Lib.hid hw
  have HS := Lib.hid hs
  have HPK := Lib.hid hpk
  clear cv cs cwd csw cl hw hs hpk hy0 hy2 hl hsz hT hf
  go_enter Try.func41, Try.ntmps41
  go_wp2_with (first
    | (go_at_call 46; (with_reducible refine (CV.out _).mono ?_); rintro _ _ ⟨rfl, rfl⟩)
    | (go_at_call 68; (with_reducible refine (CW.out _).mono ?_); rintro _ W1 ⟨A1, n1, d1, rfl, _, R1, B⟩; replace a0 := cell_below B a0; replace a1 := cell_below B a1; replace a2 := cell_below B a2; replace a3 := cell_below B a3; replace BB := bon BB B; clear B)
    | (go_at_call 69; (with_reducible refine (CSW.out _).mono ?_); rintro _ W2 ⟨rfl, B⟩; replace R1 := R1.on B; replace BB := bon BB B; clear B a0 a1 a2 a3))
  obtain ⟨BA, v0, v1, v2, v3, BX⟩ := box4_on BB (.int .i64 y0) (.int .i64 x1) (.int .i64 y2) (.int .i64 x3) 44
  have hn1 := R1.len
  have hn4 : n1 ≤ 4 := by omega
  replace R1 := R1.on BA
  refine letter (S := fun U => VecAt U W2.heap.size y0 x1 y2 x3 ∧ Rd U U.heap.size .i64 A1 n1 l ∧ Below w.heap.size w U) ?_ ⟨⟨v0, v1, v2, v3⟩, R1, BX⟩
  clear BA v0 v1 v2 v3 BX R1 BB
  generalize W2.heap.size = vb
  rintro U ⟨V, R1, BX⟩
  obtain ⟨y, hy⟩ : ∃ y, cmp4 y0 x1 y2 x3 = y := ⟨_, rfl⟩
  rw [hy] at HPK
  have cm := fun (k : Nat) W => rcomp_b y0 x1 y2 x3 (k : Int) W
  have ecm : ∀ k : Nat, compv y0 x1 y2 x3 (k : Int) = y k := fun k => by rw [← hy]; rfl
  simp only [ecm] at cm
  have CM := Lib.hid cm
  clear cm hy ecm
  go_loopw [9, 10, 11] (fun t u i wr => ∃ (k : Nat) (n at_ : Int), k ≤ n1 ∧ i = .int .i64 k ∧ t = .int .i64 n ∧ u = .int .i64 at_ ∧ pks y l k = n ∧ ats l k = at_ ∧ 0 ≤ n ∧ n < pw at_ ∧ Below U.heap.size U wr) (fun _ _ i _ => n1 - (intOf i).toNat)
  case atStart => exact ⟨0, 0, 0, by omega, rfl, rfl, rfl, rfl, by simp [ats], by omega, by decide, Below.refl _ _⟩
  case round =>
    obtain ⟨k, n, at_, hk, rfl, rfl, rfl, hn, hat, n0, n2, BB⟩ := hrel
    by_cases hlt : k < n1
    · obtain ⟨c0, c1, c2, c3⟩ := V.on BB
      obtain ⟨b, off, x, rfl, cw, x0', x1', hx⟩ := (R1.on BB).int hlt
      obtain ⟨s1, s2, s3, s4, s5, s6, s7, s8⟩ := pks_step (y := y) HW.out HS.out hx.out (by rw [hn, hat]; exact n2)
      have cu := fun W => runorm_b (y k) x W
      obtain ⟨u, hu⟩ : ∃ u, unv (y k) x = u := ⟨_, rfl⟩
      rw [hu] at cu s1 s2
      rw [hn] at s2
      rw [hat] at s1 s2 s5 s6 s8
      have s3' := s3
      rw [s2] at s3'
      have hz := pw_i64_mul u at_ (by omega) (by omega)
      obtain ⟨z, hze⟩ : ∃ z, u * pw at_ = z := ⟨_, rfl⟩
      rw [hze] at hz s1 s2 s3'
      have z2 : n + z ≤ 4294967296 := by omega
      have CU := Lib.hid cu
      have S2 := Lib.hid s2
      have S3 := Lib.hid s3
      have S8 := Lib.hid s8
      clear cu s2 s3 s3' s4 s8 hu hze hx hn hat n2 R1 V
      go_wp2_with fail
      have k_c0 := cell_regrown c0
      have k_c1 := cell_regrown c1
      have k_c2 := cell_regrown c2
      have k_c3 := cell_regrown c3
      have k_cw := cell_regrown cw
      refine wp_region_quiet_below (by kernel_rfl) (by kernel_rfl) ?_
      repeat (first | go_big_quiet_step ((first | (go_at_call 67; exact Calls.regrown_of (CM.out _ _)) | (go_at_call 70; exact Calls.regrown_of (CU.out _)))) | quiet_step ((first | (go_at_call 67; exact Calls.regrown_of (CM.out _ _)) | (go_at_call 70; exact Calls.regrown_of (CU.out _)))))
      refine wpQuiet_nil ?_
      intro W hw'
      have B := below_regrown' hw'
      clear hw' k_c0 k_c1 k_c2 k_c3 k_cw
      replace BB := bon BB B
      replace c0 := cell_below B c0
      replace c1 := cell_below B c1
      replace c2 := cell_below B c2
      replace c3 := cell_below B c3
      replace cw := cell_below B cw
      go_wp2
      go_roundw
      case rel => exact ⟨k + 1, n + z, at_ + x, by omega, by go_num, by go_num, by go_num, S2.out, S8.out, by omega, by rw [← S2.out, ← S8.out]; exact S3.out, BB⟩
      case measure => simp [intOf]; omega
    · obtain rfl : k = n1 := by omega
      have hT : n = T := by rw [← hn, ← HPK.out, hn1]
      subst hT
      clear hn hat n2 V R1
      go_wp2_with (first
        | (go_at_call 48; (with_reducible refine (CS.out _).mono ?_); rintro _ _ ⟨rfl, rfl⟩)
        | (go_at_call 64; (with_reducible refine (CL.out _ _).mono ?_); rintro _ W5 ⟨A5, n5, d5, rfl, own5, B⟩))
      go_ret
      exact ⟨A5, n5, d5, rfl, own5.room, own5.rd, BX.trans ((BB.trans (B.mono BB.size)).mono BX.size)⟩

theorem rencode_b (f x0 x1 x2 x3 : Int) (w : World) :
    Calls Try.prog 41 #[.int .i64 f, .agg #[.int .i64 x0, .int .i64 x1, .int .i64 x2, .int .i64 x3]] w (GivesRd w .u8 (enc f x0 x1 x2 x3)) := by
  rcases fmt_cases f with h | h | h | h | h | h | h
  · exact rencode_int f x0 x1 x2 x3 w (by omega)
  · exact rencode_int f x0 x1 x2 x3 w (by omega)
  · exact rencode_int f x0 x1 x2 x3 w (by omega)
  · exact rencode_int f x0 x1 x2 x3 w (by omega)
  · exact rencode_half f x0 x1 x2 x3 w (by omega)
  · exact rencode_half f x0 x1 x2 x3 w (by omega)
  · obtain ⟨a0, a1, a2, a3, BB⟩ := box4 w (.int .i64 x0) (.int .i64 x1) (.int .i64 x2) (.int .i64 x3) 44
    have cv := fun W => rvalid_q f W
    rw [show isf f = false by unfold isf; rw [nsz_none h]; rfl] at cv
    have CV := Lib.hid cv
    rw [enc_none (nsz_none h)]
    clear cv h
    go_enter Try.func41, Try.ntmps41
    go_wp2_with (go_at_call 46; (with_reducible refine (CV.out _).mono ?_); rintro _ _ ⟨rfl, rfl⟩)
    go_ret
    exact ⟨none, 0, 0, rfl, Nat.le_refl _, Rd.nil _ _ _ _, BB⟩

end Go.Proofs.Ytcjlgfadjedgbaa
