/- What the reference's LoadAttribute returns. -/
import Derived.Test.YtfakmeimideoaaaB1
namespace Go.Proofs.Ytfakmeimideoaaa
open Go.RowKit Go.Sort Go.ChangeShapes Go.WideShapes

theorem biI : (Try.prog.info? 3).map (fun i => (i.zero, i.size, i.bytes)) = some (some (.int .i64 0), 1, 8) := by kernel_rfl

theorem OwnV.zeros {w : World} {base b n c : Nat} {e : TypeId} {k : IntKind} (h : OwnV w base e b n c (List.replicate n (.int k 0))) : Own w base e k (some ⟨b, 0, none⟩) n c (List.replicate n 0) :=
  OwnV.ints (by rw [List.map_replicate]; exact h) (fun x hx => by rw [List.eq_of_mem_replicate hx]; cases k <;> decide)

/-- The k-th component is stored. -/
theorem lat_set (f : Int) (l : List Int) (p k m : Nat) (x : Int) (h : dcd f (litv (part l (p + k * csz f) (csz f))) = x) : (lat f l p k ++ List.replicate (m + 1) 0).set k x = lat f l p (k + 1) ++ List.replicate m 0 := by
  rw [fill_set (lat f l p k) 0 x m k (lat_len f l p k), lat, h]

theorem dv_rng (n : Int) : -536870911 ≤ dv n ∧ dv n ≤ 536870911 := by
  have h := decu_bd 5 10 (pexp 5 10 n) (pman 10 n)
  have h2 : -536870911 ≤ decm 5 10 (pexp 5 10 n) (pman 10 n) ∧ decm 5 10 (pexp 5 10 n) (pman 10 n) ≤ 536870911 := by
    unfold decm
    split
    · split <;> omega
    · exact h
  unfold dv decv
  split <;> omega

theorem dcd_rng {f n : Int} (h0 : 0 ≤ n) (h1 : n < 4294967296) : -9223372036854775808 ≤ dcd f n ∧ dcd f n ≤ 9223372036854775807 := by
  unfold dcd
  split
  · have := rdv_near (n * 65536) 255 (by omega) (by omega)
    omega
  · split
    · have := dv_rng n
      omega
    · split
      · have := sg_rng h0 h1
        omega
      · have := sat_bd (sg n)
        omega

theorem part_lt {l : List Int} {p m : Nat} (h : ∀ x ∈ l, (0 : Int) ≤ x ∧ x ≤ 255) (hp : p + m ≤ l.length) : 0 ≤ litv (part l p m) ∧ litv (part l p m) < 256 ^ m := by
  have := litv_rng (part l p m) (part_rng h)
  rwa [part_len hp] at this

theorem part_lt4 {l : List Int} {p m : Nat} (h : ∀ x ∈ l, (0 : Int) ≤ x ∧ x ≤ 255) (hp : p + m ≤ l.length) (hm : m ≤ 4) : 0 ≤ litv (part l p m) ∧ litv (part l p m) < 4294967296 := by
  have h1 := part_lt h hp
  have h2 := pow256_le hm
  have e : (256 : Int) ^ 4 = 4294967296 := by decide
  omega

/-- Where a component lies. -/
theorem comp_in {f : Int} {p n j : Nat} (hfit : p + sizv f ≤ n) (hj : j < cps f) : p + j * csz f + csz f ≤ n := by
  have : (j + 1) * csz f ≤ cps f * csz f := Nat.mul_le_mul_right _ hj
  rw [Nat.add_mul, Nat.one_mul] at this
  unfold sizv at hfit
  omega

set_option maxRecDepth 100000 in
set_option maxHeartbeats 1000000 in
theorem rload_int1 (A : Option Addr) (n c : Nat) (l : List Int) (b o s f v q : Int) (p : Nat) (w : World) (R : Rd w w.heap.size .u8 A n l) (hn : n ≤ 9223372036854775807) (h : attr b o s f) (hv : 0 ≤ v ∧ v ≤ 65536) (hq : v * s = q) (hp : o + q = p) (hfit : p + sizv f ≤ n) (hf : f = 8) :
    Calls Try.prog 29 #[.slice A n c, .agg #[.int .i64 b, .int .i64 o, .int .i64 s, .int .i64 f], .int .i64 v] w (GivesRd w .i64 (lat f l p (cps f))) := by
  obtain ⟨a0, a1, a2, a3, BB⟩ := box4 w (.int .i64 b) (.int .i64 o) (.int .i64 s) (.int .i64 f) 45
  have K1 := R.on BB
  have hr := rd_rng255 R
  have hl := R.len
  have cv := fun W => rattr_b b o s f W
  rw [decide_eq_true h] at cv
  obtain ⟨-, ⟨o0, o1⟩, ⟨s0, s1⟩, k1⟩ := h
  have hqb := mul_bds hv.1 hv.2 s0 s1
  rw [hq] at hqb
  obtain ⟨q0, q1⟩ := hqb
  have g1 : IntKind.i64.wrap (v * s) = q := by rw [hq]; exact IntWalk.i64_in _ (by omega)
  obtain ⟨v0, v1⟩ := hv
  have hj := fun j => comp_in (f := f) (p := p) (n := n) (j := j) hfit
  have hst := lat_set f l p
  have hx := fun j (h : j < cps f) => part_lt4 (l := l) (p := p + j * csz f) (m := csz f) hr (by rw [hl]; exact hj j h) (csz_rng f).2
  have hcs : csz f = 4 := by exact csz_none (by omega)
  have hd : ∀ n, dcd f n = sg n := by intro n; subst hf; exact dcd_8 n
  have hrg : ∀ n, 0 ≤ n → n < 4294967296 → -9223372036854775808 ≤ sg n ∧ sg n ≤ 9223372036854775807 := by intro n h0 h1; rw [← hd]; exact dcd_rng h0 h1
  rw [hcs] at hj hst hx
  simp only [hd] at hst
  have k4 := cps_le f
  have CV := Lib.hid cv
  have cc := fun W => rcps_q f W
  have cz := fun W => rsize_q f W
  have hz := sizv_le f
  have k8 : f = 8 → cps f = 1 := by rintro rfl; rfl
  have hl0 : lat f l p 0 = [] := rfl
  obtain ⟨LT, hLT⟩ : ∃ LT : Nat → List Int, lat f l p = LT := ⟨_, rfl⟩
  rw [hLT] at hl0 hst ⊢
  obtain ⟨k, hk⟩ : ∃ k, cps f = k := ⟨_, rfl⟩
  obtain ⟨z, hz'⟩ : ∃ z, sizv f = z := ⟨_, rfl⟩
  rw [hk] at cc hj hx k1 k4 k8 ⊢
  rw [hz'] at cz hfit hz
  have CC := Lib.hid cc
  have CZ := Lib.hid cz
  have HJ := Lib.hid hj
  have HST := Lib.hid hst
  have HX := Lib.hid hx
  have HR := Lib.hid hr
  have HL := Lib.hid hl
  have HRG := Lib.hid hrg
  have HL0 := Lib.hid hl0
  clear cv cc cz hj hst hx hr hl R hq hk hz' hcs hd hrg hLT hl0
  have K8 := Lib.hid (k8 hf)
  clear k8
  subst hf
  all_goals
    go_enter Try.func29, Try.ntmps29
    go_wp2_with (first
      | (go_at_call 34; (with_reducible refine (CV.out _).mono ?_); rintro _ W1 ⟨rfl, B⟩; (replace BB := bon BB B; replace K1 := Rd.on K1 B; replace a0 := cell_below B a0; replace a1 := cell_below B a1; replace a2 := cell_below B a2; replace a3 := cell_below B a3); clear B)
      | (go_at_call 32; (with_reducible refine (CC.out _).mono ?_); rintro _ _ ⟨rfl, rfl⟩)
      | (go_at_call 41; (with_reducible refine (CZ.out _).mono ?_); rintro _ _ ⟨rfl, rfl⟩)
      | (refine wpList_makeV _ rfl _ _ _ rfl Try.underlying30 biI rfl .i64 .i64 k rfl rfl (by omega) (by simp only [maxLen]; omega) W1.heap.size (Nat.le_refl _) ?_; intro bb W2 own2 B2 hb2; have e0 := a0; have e1 := a1; have e2 := a2; have e3 := a3; replace a1 := cell_below B2 a1; replace a2 := cell_below B2 a2; replace a3 := cell_below B2 a3))
    replace own2 := own2.zeros
    clear a0 a1 a2 a3 CV CC CZ g1
    go_loopw [10] (fun i wr => ∃ j : Nat, j ≤ k ∧ i = .int .i64 j ∧ Own wr W1.heap.size 3 .i64 (some ⟨bb, 0, none⟩) k k (LT j ++ List.replicate (k - j) 0) ∧ Below W1.heap.size W1 wr) (fun i _ => k - (intOf i).toNat)
    case atStart => exact ⟨0, by omega, rfl, by rw [HL0.out]; exact own2, B2⟩
    case round =>
      clear own2 B2
      obtain ⟨j, hjk, rfl, own, BR⟩ := hrel
      by_cases hlt : j < k
      · have K := K1.on BR
        have d3 := cell_below BR e3
        have hJ := HJ.out j hlt
        have hX := HX.out j hlt
        obtain ⟨m, hm⟩ : ∃ m, k - j = m + 1 := ⟨k - j - 1, by omega⟩
        have hm2 : k - (j + 1) = m := by omega
        rw [hm] at own
        have hS := HST.out j m _ rfl
        have hY := HRG.out _ hX.1 hX.2
        obtain ⟨y, hy⟩ : ∃ y, litv (part l (p + j * 4) 4) = y := ⟨_, rfl⟩
        have cw := fun W (RW : Rd W W.heap.size .u8 A n l) q hq => rword_b A n c l q (p + j * 4) W hq RW hn hJ
        rw [hy] at hS hY cw
        have CW := Lib.hid cw
        have HS := Lib.hid hS
        clear hy hS cw hX
        have k1' := K8.out
        obtain rfl : j = 0 := by omega
        clear k1'
        go_wp2_with (first
          | (go_at_call 43; (refine (CW.out _ K _ (by omega)).mono ?_); rintro _ V ⟨rfl, B⟩; replace own := own.on B; replace BR := bon BR B; (obtain ⟨b9, hb9, _, ⟨u9, cu⟩, fu, own2, B2⟩ := own.stored (j := 0) (v := sg y) (by omega) (by rw [i64_min, i64_max]; exact hY); cases hb9)))
        go_roundw
        case rel => exact ⟨1, by omega, by go_num, by rw [hm2, ← HS.out]; exact own2, BR.trans B2⟩
        case measure => simp [intOf]; omega
      · obtain rfl : j = k := by omega
        rw [Nat.sub_self, List.replicate_zero, List.append_nil] at own
        go_wp2
        go_ret
        exact ⟨_, _, _, rfl, own.room, own.rd, bon BB BR⟩

set_option maxRecDepth 100000 in
set_option maxHeartbeats 1000000 in
theorem rload_unorm (A : Option Addr) (n c : Nat) (l : List Int) (b o s f v q : Int) (p : Nat) (w : World) (R : Rd w w.heap.size .u8 A n l) (hn : n ≤ 9223372036854775807) (h : attr b o s f) (hv : 0 ≤ v ∧ v ≤ 65536) (hq : v * s = q) (hp : o + q = p) (hfit : p + sizv f ≤ n) (hf : f = 5) :
    Calls Try.prog 29 #[.slice A n c, .agg #[.int .i64 b, .int .i64 o, .int .i64 s, .int .i64 f], .int .i64 v] w (GivesRd w .i64 (lat f l p (cps f))) := by
  obtain ⟨a0, a1, a2, a3, BB⟩ := box4 w (.int .i64 b) (.int .i64 o) (.int .i64 s) (.int .i64 f) 45
  have K1 := R.on BB
  have hr := rd_rng255 R
  have hl := R.len
  have cv := fun W => rattr_b b o s f W
  rw [decide_eq_true h] at cv
  obtain ⟨-, ⟨o0, o1⟩, ⟨s0, s1⟩, k1⟩ := h
  have hqb := mul_bds hv.1 hv.2 s0 s1
  rw [hq] at hqb
  obtain ⟨q0, q1⟩ := hqb
  have g1 : IntKind.i64.wrap (v * s) = q := by rw [hq]; exact IntWalk.i64_in _ (by omega)
  obtain ⟨v0, v1⟩ := hv
  have hj := fun j => comp_in (f := f) (p := p) (n := n) (j := j) hfit
  have hst := lat_set f l p
  have hx := fun j (h : j < cps f) => part_lt4 (l := l) (p := p + j * csz f) (m := csz f) hr (by rw [hl]; exact hj j h) (csz_rng f).2
  have hcs : csz f = 1 := by rw [hf]; rfl
  have hd : ∀ n, dcd f n = rdv (n * 65536) 255 := by intro n; subst hf; exact dcd_5 n
  have hrg : ∀ n, 0 ≤ n → n < 4294967296 → -9223372036854775808 ≤ rdv (n * 65536) 255 ∧ rdv (n * 65536) 255 ≤ 9223372036854775807 := by intro n h0 h1; rw [← hd]; exact dcd_rng h0 h1
  rw [hcs] at hj hst hx
  simp only [hd] at hst
  have k4 := cps_le f
  have CV := Lib.hid cv
  have cc := fun W => rcps_q f W
  have cz := fun W => rsize_q f W
  have hz := sizv_le f

  have hl0 : lat f l p 0 = [] := rfl
  obtain ⟨LT, hLT⟩ : ∃ LT : Nat → List Int, lat f l p = LT := ⟨_, rfl⟩
  rw [hLT] at hl0 hst ⊢
  obtain ⟨k, hk⟩ : ∃ k, cps f = k := ⟨_, rfl⟩
  obtain ⟨z, hz'⟩ : ∃ z, sizv f = z := ⟨_, rfl⟩
  rw [hk] at cc hj hx k1 k4 ⊢
  rw [hz'] at cz hfit hz
  have CC := Lib.hid cc
  have CZ := Lib.hid cz
  have HJ := Lib.hid hj
  have HST := Lib.hid hst
  have HX := Lib.hid hx
  have HR := Lib.hid hr
  have HL := Lib.hid hl
  have HRG := Lib.hid hrg

  have HL0 := Lib.hid hl0
  clear cv cc cz hj hst hx hr hl R hq hk hz' hcs hd hrg hLT hl0 
  subst hf
  all_goals
    go_enter Try.func29, Try.ntmps29
    go_wp2_with (first
      | (go_at_call 34; (with_reducible refine (CV.out _).mono ?_); rintro _ W1 ⟨rfl, B⟩; (replace BB := bon BB B; replace K1 := Rd.on K1 B; replace a0 := cell_below B a0; replace a1 := cell_below B a1; replace a2 := cell_below B a2; replace a3 := cell_below B a3); clear B)
      | (go_at_call 32; (with_reducible refine (CC.out _).mono ?_); rintro _ _ ⟨rfl, rfl⟩)
      | (go_at_call 41; (with_reducible refine (CZ.out _).mono ?_); rintro _ _ ⟨rfl, rfl⟩)
      | (refine wpList_makeV _ rfl _ _ _ rfl Try.underlying30 biI rfl .i64 .i64 k rfl rfl (by omega) (by simp only [maxLen]; omega) W1.heap.size (Nat.le_refl _) ?_; intro bb W2 own2 B2 hb2; have e0 := a0; have e1 := a1; have e2 := a2; have e3 := a3; replace a1 := cell_below B2 a1; replace a2 := cell_below B2 a2; replace a3 := cell_below B2 a3))
    replace own2 := own2.zeros
    clear a0 a1 a2 a3 CV CC CZ g1
    go_loopw [10] (fun i wr => ∃ j : Nat, j ≤ k ∧ i = .int .i64 j ∧ Own wr W1.heap.size 3 .i64 (some ⟨bb, 0, none⟩) k k (LT j ++ List.replicate (k - j) 0) ∧ Below W1.heap.size W1 wr) (fun i _ => k - (intOf i).toNat)
    case atStart => exact ⟨0, by omega, rfl, by rw [HL0.out]; exact own2, B2⟩
    case round =>
      clear own2 B2
      obtain ⟨j, hjk, rfl, own, BR⟩ := hrel
      by_cases hlt : j < k
      · have K := K1.on BR
        have d3 := cell_below BR e3
        have hJ := HJ.out j hlt
        have hX := HX.out j hlt
        obtain ⟨m, hm⟩ : ∃ m, k - j = m + 1 := ⟨k - j - 1, by omega⟩
        have hm2 : k - (j + 1) = m := by omega
        rw [hm] at own
        have hS := HST.out j m _ rfl
        have hY := HRG.out _ hX.1 hX.2
        obtain ⟨b1, off, x, rfl, cx, x0, x1, hxx⟩ := K.byte (j := p + j) (by omega)
        rw [Nat.mul_one, lit1_at hxx.out] at hS hY
        have hval : rdv (x * 65536) 255 = (x * 65536 * 2 + 255) / 510 := by unfold rdv; rw [if_pos (by omega)]; congr 1; omega
        rw [hval] at hS hY
        obtain ⟨b9, hb9, _, ⟨u9, cu⟩, fu, own2, B2⟩ := own.stored (j := j) (v := (x * 65536 * 2 + 255) / 510) (by omega) (by rw [i64_min, i64_max]; exact hY)
        cases hb9
        have HS := Lib.hid hS
        clear hS hval own hX K
        have hpj : (p : Int) + j < (n : Int) := by omega
        go_wp2
        go_roundw
        case rel => exact ⟨j + 1, by omega, by go_num, by rw [hm2, ← HS.out]; exact own2, BR.trans B2⟩
        case measure => simp [intOf]; omega
      · obtain rfl : j = k := by omega
        rw [Nat.sub_self, List.replicate_zero, List.append_nil] at own
        go_wp2
        go_ret
        exact ⟨_, _, _, rfl, own.room, own.rd, bon BB BR⟩

set_option maxRecDepth 100000 in
set_option maxHeartbeats 1000000 in
theorem rload_half (A : Option Addr) (n c : Nat) (l : List Int) (b o s f v q : Int) (p : Nat) (w : World) (R : Rd w w.heap.size .u8 A n l) (hn : n ≤ 9223372036854775807) (h : attr b o s f) (hv : 0 ≤ v ∧ v ≤ 65536) (hq : v * s = q) (hp : o + q = p) (hfit : p + sizv f ≤ n) (hf : f = 6 ∨ f = 7) :
    Calls Try.prog 29 #[.slice A n c, .agg #[.int .i64 b, .int .i64 o, .int .i64 s, .int .i64 f], .int .i64 v] w (GivesRd w .i64 (lat f l p (cps f))) := by
  obtain ⟨a0, a1, a2, a3, BB⟩ := box4 w (.int .i64 b) (.int .i64 o) (.int .i64 s) (.int .i64 f) 45
  have K1 := R.on BB
  have hr := rd_rng255 R
  have hl := R.len
  have cv := fun W => rattr_b b o s f W
  rw [decide_eq_true h] at cv
  obtain ⟨-, ⟨o0, o1⟩, ⟨s0, s1⟩, k1⟩ := h
  have hqb := mul_bds hv.1 hv.2 s0 s1
  rw [hq] at hqb
  obtain ⟨q0, q1⟩ := hqb
  have g1 : IntKind.i64.wrap (v * s) = q := by rw [hq]; exact IntWalk.i64_in _ (by omega)
  obtain ⟨v0, v1⟩ := hv
  have hj := fun j => comp_in (f := f) (p := p) (n := n) (j := j) hfit
  have hst := lat_set f l p
  have hx := fun j (h : j < cps f) => part_lt4 (l := l) (p := p + j * csz f) (m := csz f) hr (by rw [hl]; exact hj j h) (csz_rng f).2
  have hcs : csz f = 2 := by rcases hf with rfl | rfl <;> rfl
  have hd : ∀ n, dcd f n = dv n := dcd_half hf
  have hrg : ∀ n, 0 ≤ n → n < 4294967296 → -9223372036854775808 ≤ dv n ∧ dv n ≤ 9223372036854775807 := by intro n h0 h1; rw [← hd]; exact dcd_rng h0 h1
  rw [hcs] at hj hst hx
  simp only [hd] at hst
  have k4 := cps_le f
  have CV := Lib.hid cv
  have cc := fun W => rcps_q f W
  have cz := fun W => rsize_q f W
  have hz := sizv_le f

  have hl0 : lat f l p 0 = [] := rfl
  obtain ⟨LT, hLT⟩ : ∃ LT : Nat → List Int, lat f l p = LT := ⟨_, rfl⟩
  rw [hLT] at hl0 hst ⊢
  obtain ⟨k, hk⟩ : ∃ k, cps f = k := ⟨_, rfl⟩
  obtain ⟨z, hz'⟩ : ∃ z, sizv f = z := ⟨_, rfl⟩
  rw [hk] at cc hj hx k1 k4 ⊢
  rw [hz'] at cz hfit hz
  have CC := Lib.hid cc
  have CZ := Lib.hid cz
  have HJ := Lib.hid hj
  have HST := Lib.hid hst
  have HX := Lib.hid hx
  have HR := Lib.hid hr
  have HL := Lib.hid hl
  have HRG := Lib.hid hrg

  have HL0 := Lib.hid hl0
  clear cv cc cz hj hst hx hr hl R hq hk hz' hcs hd hrg hLT hl0 
  rcases hf with rfl | rfl
  all_goals
    go_enter Try.func29, Try.ntmps29
    go_wp2_with (first
      | (go_at_call 34; (with_reducible refine (CV.out _).mono ?_); rintro _ W1 ⟨rfl, B⟩; (replace BB := bon BB B; replace K1 := Rd.on K1 B; replace a0 := cell_below B a0; replace a1 := cell_below B a1; replace a2 := cell_below B a2; replace a3 := cell_below B a3); clear B)
      | (go_at_call 32; (with_reducible refine (CC.out _).mono ?_); rintro _ _ ⟨rfl, rfl⟩)
      | (go_at_call 41; (with_reducible refine (CZ.out _).mono ?_); rintro _ _ ⟨rfl, rfl⟩)
      | (refine wpList_makeV _ rfl _ _ _ rfl Try.underlying30 biI rfl .i64 .i64 k rfl rfl (by omega) (by simp only [maxLen]; omega) W1.heap.size (Nat.le_refl _) ?_; intro bb W2 own2 B2 hb2; have e0 := a0; have e1 := a1; have e2 := a2; have e3 := a3; replace a1 := cell_below B2 a1; replace a2 := cell_below B2 a2; replace a3 := cell_below B2 a3))
    replace own2 := own2.zeros
    clear a0 a1 a2 a3 CV CC CZ g1
    go_loopw [10] (fun i wr => ∃ j : Nat, j ≤ k ∧ i = .int .i64 j ∧ Own wr W1.heap.size 3 .i64 (some ⟨bb, 0, none⟩) k k (LT j ++ List.replicate (k - j) 0) ∧ Below W1.heap.size W1 wr) (fun i _ => k - (intOf i).toNat)
    case atStart => exact ⟨0, by omega, rfl, by rw [HL0.out]; exact own2, B2⟩
    case round =>
      clear own2 B2
      obtain ⟨j, hjk, rfl, own, BR⟩ := hrel
      by_cases hlt : j < k
      · have K := K1.on BR
        have d3 := cell_below BR e3
        have hJ := HJ.out j hlt
        have hX := HX.out j hlt
        obtain ⟨m, hm⟩ : ∃ m, k - j = m + 1 := ⟨k - j - 1, by omega⟩
        have hm2 : k - (j + 1) = m := by omega
        rw [hm] at own
        have hS := HST.out j m _ rfl
        have hY := HRG.out _ hX.1 hX.2
        have hh := part_lt (l := l) (p := p + j * 2) (m := 2) HR.out (by rw [HL.out]; exact hJ)
        have e2 : (256 : Int) ^ 2 = 65536 := by decide
        rw [e2] at hh
        have cl := fun W (RW : Rd W W.heap.size .u8 A n l) => rlittle_yes A n c (p + j * 2) 2 l W RW hn (by omega) (by omega) hJ
        rw [show ((p + j * 2 : Nat) : Int) = (p : Int) + 2 * (j : Int) by omega] at cl
        obtain ⟨y, hy⟩ : ∃ y, litv (part l (p + j * 2) 2) = y := ⟨_, rfl⟩
        have cd := fun W => rdecode_yes 5 10 y true W (by omega) (by omega) (by omega) (by omega) (by omega) (by rw [show pw (5 + 10 + sbit true) = 65536 by decide]; omega)
        rw [hy] at hS hY cl
        have CL := Lib.hid cl
        have CD := Lib.hid cd
        have HS := Lib.hid hS
        clear hy hS cl cd hX hh e2
        go_wp2_with (first
          | (go_at_call 45; (refine (rhalf_b _).mono ?_); rintro _ V ⟨rfl, B⟩; replace K := K.on B; replace own := own.on B; replace BR := bon BR B)
          | (go_at_call 26; (refine (CL.out _ K).mono ?_); rintro _ V ⟨rfl, B⟩; replace own := own.on B; replace BR := bon BR B)
          | (go_at_call 44; (with_reducible refine (CD.out _).mono ?_); rintro _ V ⟨rfl, B⟩; replace own := own.on B; replace BR := bon BR B; (obtain ⟨b9, hb9, _, ⟨u9, cu⟩, fu, own2, B2⟩ := own.stored (j := j) (v := dv y) (by omega) (by rw [i64_min, i64_max]; exact hY); cases hb9)))
        go_roundw
        case rel => exact ⟨j + 1, by omega, by go_num, by rw [hm2, ← HS.out]; exact own2, BR.trans B2⟩
        case measure => simp [intOf]; omega
      · obtain rfl : j = k := by omega
        rw [Nat.sub_self, List.replicate_zero, List.append_nil] at own
        go_wp2
        go_ret
        exact ⟨_, _, _, rfl, own.room, own.rd, bon BB BR⟩

/-- An attribute that is not loaded: not valid; out of the buffer. -/
theorem ldv_len (l : List Int) (b o s f v : Int) : (ldv l b o s f v).length ≤ 4 := by
  have h := cps_le f
  unfold ldv
  split
  · split
    · rw [lat_len]; exact h
    · rw [List.length_replicate]; exact h
  · simp

end Go.Proofs.Ytfakmeimideoaaa
