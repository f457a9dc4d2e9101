/- What follows of the nearest pattern: monotony, exactness, nearness. No program is named here. -/
import Derived.Test.YtfakmeimideoaaaMMath
namespace Go.Proofs.Ytfakmeimideoaaa
open Go.RowKit

def most (e m : Int) : Int := (pw e - 1) * pw m - 1

theorem sgn_same (z D y : Int) (h : z * D = 256 * y) (hD : 0 < D) : (0 < z ↔ 0 < y) ∧ (z = 0 ↔ y = 0) := by
  rcases Int.lt_trichotomy z 0 with h1 | h1 | h1
  · have := Int.mul_neg_of_neg_of_pos h1 hD
    constructor <;> constructor <;> intro <;> omega
  · subst h1; rw [Int.zero_mul] at h
    constructor <;> constructor <;> intro <;> omega
  · have := Int.mul_pos h1 hD
    constructor <;> constructor <;> intro <;> omega

/-- Is the pattern above the nearer one? -/
def upB (e m x : Int) : Prop := V e m (flo e m x + 1) - 256 * x < 256 * x - V e m (flo e m x) ∨ (V e m (flo e m x + 1) - 256 * x = 256 * x - V e m (flo e m x) ∧ flo e m x % 2 = 1)
instance (e m x : Int) : Decidable (upB e m x) := by unfold upB; exact inferInstance
theorem encm_eq (e m x : Int) (h1 : 2 ≤ e) (h2 : e ≤ 5) (h3 : 1 ≤ m) (h4 : m ≤ 10) (h5 : 0 ≤ x) (h6 : x < 536870912) :
    0 ≤ flo e m x ∧ (most e m ≤ flo e m x → encm e m x = most e m) ∧ (flo e m x < most e m → upB e m x → encm e m x = flo e m x + 1) ∧ (flo e m x < most e m → ¬ upB e m x → encm e m x = flo e m x) := by
  have F := flo_spec e m x h1 h2 h3 h4 h5 h6
  have bk := exq_bd e x h1 h2 h5 h6
  have D1 := pw_pos (biasv e + m)
  have M1 := pw_pos m
  obtain ⟨K, hK, hK1⟩ := pw_even m h3
  have ev : (exq e x - 1) * pw m = 2 * ((exq e x - 1) * K) := by rw [hK]; grind
  have nn : 0 ≤ (exq e x - 1) * pw m := Int.mul_nonneg (by omega) (by omega)
  have hd : dte (x * pw (biasv e + m)) (65536 * pw (exq e x)) = if upB e m x then x * pw (biasv e + m) / (65536 * pw (exq e x)) + 1 else x * pw (biasv e + m) / (65536 * pw (exq e x)) := by
    have e2 : V e m (flo e m x + 1) = V e m (flo e m x) + pw (24 - biasv e - m + exq e x) := by rw [F.v1, F.v, Int.add_mul]; omega
    have hs := sgn_same (2 * (256 * x - V e m (flo e m x)) - pw (24 - biasv e - m + exq e x)) (pw (biasv e + m)) (2 * (x * pw (biasv e + m) % (65536 * pw (exq e x))) - 65536 * pw (exq e x))
      (by rw [Int.sub_mul, Int.mul_assoc, F.rem, F.ulp]; omega) (by omega)
    have hp : flo e m x % 2 = x * pw (biasv e + m) / (65536 * pw (exq e x)) % 2 := by unfold flo; omega
    have hiff : upB e m x ↔ (65536 * pw (exq e x) < 2 * (x * pw (biasv e + m) % (65536 * pw (exq e x))) ∨ (2 * (x * pw (biasv e + m) % (65536 * pw (exq e x))) = 65536 * pw (exq e x) ∧ (x * pw (biasv e + m) / (65536 * pw (exq e x))) % 2 = 1)) := by
      unfold upB; rw [hp, e2]; omega
    unfold dte
    by_cases hu : upB e m x
    · rw [if_pos hu, if_pos (hiff.1 hu)]
    · rw [if_neg hu, if_neg (fun h => hu (hiff.2 h))]
  have q0 := F.q0
  have he : encm e m x = if (exq e x - 1) * pw m + dte (x * pw (biasv e + m)) (65536 * pw (exq e x)) ≤ most e m then (exq e x - 1) * pw m + dte (x * pw (biasv e + m)) (65536 * pw (exq e x)) else most e m := rfl
  rw [he, hd]
  unfold flo at *
  refine ⟨by omega, fun hm => ?_, fun hm hu => ?_, fun hm hu => ?_⟩
  · by_cases hu : upB e m x
    · rw [if_pos hu, if_neg (by omega)]
    · rw [if_neg hu]; split <;> omega
  · rw [if_pos hu, if_pos (by omega)]; omega
  · rw [if_neg hu, if_pos (by omega)]

theorem most_bd (e m : Int) (h1 : 2 ≤ e) (h3 : 1 ≤ m) : 0 ≤ most e m ∧ most e m < pw e * pw m ∧ most e m + pw m + 1 = pw e * pw m := by
  have p1 := pw_pos m
  have p2 : 4 ≤ pw e := pw_le 2 e h1
  have p3 : 2 ≤ pw m := pw_le 1 m h3
  have m1 : (pw e - 1) * pw m = pw e * pw m - pw m := by rw [Int.sub_mul]; omega
  have m2 : 4 * pw m ≤ pw e * pw m := Int.mul_le_mul_of_nonneg_right p2 (by omega)
  unfold most; omega

theorem encm_in (e m x : Int) (h1 : 2 ≤ e) (h2 : e ≤ 5) (h3 : 1 ≤ m) (h4 : m ≤ 10) (h5 : 0 ≤ x) (h6 : x < 536870912) : 0 ≤ encm e m x ∧ encm e m x ≤ most e m := by
  obtain ⟨f0, f1, f2, f3⟩ := encm_eq e m x h1 h2 h3 h4 h5 h6
  have mb := most_bd e m h1 h3
  by_cases hm : most e m ≤ flo e m x
  · rw [f1 hm]; omega
  · by_cases hu : upB e m x
    · rw [f2 (by omega) hu]; omega
    · rw [f3 (by omega) hu]; omega

/-- Below and above x there is no pattern between. -/
theorem V_split (e m x p : Int) (h1 : 2 ≤ e) (h2 : e ≤ 5) (h3 : 1 ≤ m) (h4 : m ≤ 10) (h5 : 0 ≤ x) (h6 : x < 536870912) (hp : 0 ≤ p) : (p ≤ flo e m x ↔ V e m p ≤ 256 * x) := by
  have F := flo_spec e m x h1 h2 h3 h4 h5 h6
  have bb := biasv_bd h1 h2
  have f0 := (encm_eq e m x h1 h2 h3 h4 h5 h6).1
  constructor
  · intro h
    have := V_le e m p (flo e m x) (by omega) hp h
    have := F.lo; omega
  · intro h
    apply Classical.byContradiction; intro hn
    have := V_le e m (flo e m x + 1) p (by omega) (by omega) (by omega)
    have := F.hi; omega

theorem encm_mono (e m x y : Int) (h1 : 2 ≤ e) (h2 : e ≤ 5) (h3 : 1 ≤ m) (h4 : m ≤ 10) (h5 : 0 ≤ x) (hxy : x ≤ y) (h6 : y < 536870912) : encm e m x ≤ encm e m y := by
  obtain ⟨f0, f1, f2, f3⟩ := encm_eq e m x h1 h2 h3 h4 h5 (by omega)
  obtain ⟨g0, g1, g2, g3⟩ := encm_eq e m y h1 h2 h3 h4 (by omega) h6
  have F := flo_spec e m x h1 h2 h3 h4 h5 (by omega)
  have G := flo_spec e m y h1 h2 h3 h4 (by omega) h6
  have hf : flo e m x ≤ flo e m y := (V_split e m y _ h1 h2 h3 h4 (by omega) h6 f0).2 (by have := F.lo; omega)
  have bx := encm_in e m x h1 h2 h3 h4 h5 (by omega)
  by_cases hm : most e m ≤ flo e m y
  · rw [g1 hm]; exact bx.2
  · by_cases hu : upB e m x
    · rw [f2 (by omega) hu]
      by_cases hv : upB e m y
      · rw [g2 (by omega) hv]; omega
      · rw [g3 (by omega) hv]
        apply Classical.byContradiction; intro hn
        have he : flo e m x = flo e m y := by omega
        apply hv
        unfold upB at *
        rw [he] at hu
        have := G.hi
        rcases Int.lt_or_le x y with h | h
        · omega
        · obtain rfl : x = y := by omega
          exact hu
    · rw [f3 (by omega) hu]
      by_cases hv : upB e m y
      · rw [g2 (by omega) hv]; omega
      · rw [g3 (by omega) hv]; omega

/-- A number that a pattern denotes has that pattern. -/
theorem encm_exact (e m x p : Int) (h1 : 2 ≤ e) (h2 : e ≤ 5) (h3 : 1 ≤ m) (h4 : m ≤ 10) (h5 : 0 ≤ x) (h6 : x < 536870912) (hp : 0 ≤ p) (hm : p ≤ most e m) (hv : V e m p = 256 * x) : encm e m x = p := by
  obtain ⟨f0, f1, f2, f3⟩ := encm_eq e m x h1 h2 h3 h4 h5 h6
  have F := flo_spec e m x h1 h2 h3 h4 h5 h6
  have bb := biasv_bd h1 h2
  have a : p ≤ flo e m x := (V_split e m x p h1 h2 h3 h4 h5 h6 hp).2 (by omega)
  have b : flo e m x = p := by
    apply Classical.byContradiction; intro hn
    have := V_lt e m p (flo e m x) (by omega) hp (by omega)
    have := F.lo; omega
  have hu : ¬ upB e m x := by
    unfold upB; rw [b, hv]
    have := F.hi; rw [b] at this
    omega
  rcases Int.lt_or_le (flo e m x) (most e m) with h | h
  · rw [f3 h hu, b]
  · rw [f1 h]; omega

/-- No pattern is nearer. -/
theorem encm_near (e m x p : Int) (h1 : 2 ≤ e) (h2 : e ≤ 5) (h3 : 1 ≤ m) (h4 : m ≤ 10) (h5 : 0 ≤ x) (h6 : x < 536870912) (hp : 0 ≤ p) (hm : p ≤ most e m) :
    V e m (encm e m x) - 256 * x ≤ V e m p - 256 * x ∨ V e m (encm e m x) - 256 * x ≤ 256 * x - V e m p := by
  obtain ⟨f0, f1, f2, f3⟩ := encm_eq e m x h1 h2 h3 h4 h5 h6
  have F := flo_spec e m x h1 h2 h3 h4 h5 h6
  have bb := biasv_bd h1 h2
  have lo := F.lo
  have hi := F.hi
  rcases Int.lt_or_le (flo e m x) p with h | h
  · left
    have := V_le e m (flo e m x + 1) p (by omega) (by omega) (by omega)
    by_cases hu : upB e m x
    · rw [f2 (by omega) hu]; omega
    · rw [f3 (by omega) hu]; omega
  · have := V_le e m p (flo e m x) (by omega) hp h
    right
    by_cases hmm : most e m ≤ flo e m x
    · rw [f1 hmm]
      have := V_le e m (most e m) (flo e m x) (by omega) (by have := most_bd e m h1 h3; omega) hmm
      omega
    · by_cases hu : upB e m x
      · rw [f2 (by omega) hu]; unfold upB at hu; omega
      · rw [f3 (by omega) hu]; omega
theorem encm_near' (e m x p : Int) (h1 : 2 ≤ e) (h2 : e ≤ 5) (h3 : 1 ≤ m) (h4 : m ≤ 10) (h5 : 0 ≤ x) (h6 : x < 536870912) (hp : 0 ≤ p) (hm : p ≤ most e m) :
    256 * x - V e m (encm e m x) ≤ V e m p - 256 * x ∨ 256 * x - V e m (encm e m x) ≤ 256 * x - V e m p := by
  obtain ⟨f0, f1, f2, f3⟩ := encm_eq e m x h1 h2 h3 h4 h5 h6
  have F := flo_spec e m x h1 h2 h3 h4 h5 h6
  have bb := biasv_bd h1 h2
  have lo := F.lo
  have hi := F.hi
  rcases Int.lt_or_le (flo e m x) p with h | h
  · have := V_le e m (flo e m x + 1) p (by omega) (by omega) (by omega)
    left
    by_cases hu : upB e m x
    · rw [f2 (by omega) hu]; omega
    · rw [f3 (by omega) hu]; unfold upB at hu; omega
  · have := V_le e m p (flo e m x) (by omega) hp h
    right
    by_cases hmm : most e m ≤ flo e m x
    · rw [f1 hmm]
      have := V_le e m p (most e m) (by omega) hp hm
      omega
    · by_cases hu : upB e m x
      · rw [f2 (by omega) hu]; omega
      · rw [f3 (by omega) hu]; omega

/-! ### decoding -/
def dq (e m p : Int) : Int := sat ((V e m p + 128) / 256)

theorem fld_bd (e m E M : Int) (h1 : 2 ≤ e) (h2 : e ≤ 5) (h3 : 1 ≤ m) (h4 : m ≤ 10) (hE : 0 ≤ E) (hE2 : E < pw e) (hM : 0 ≤ M) (hM2 : M < pw m) : 0 ≤ fld e m E M ∧ fld e m E M ≤ 2251799813685248 := by
  have bb := biasv_bd h1 h2
  have p1 : pw m ≤ 1024 := pw_le m 10 h4
  have b1 : 1 ≤ (if E = 0 then 1 else E) := by split <;> omega
  have b2 : (if E = 0 then 1 else E) + 0 < pw e := by have : 4 ≤ pw e := pw_le 2 e h1; split <;> omega
  have b3 : 24 + (if E = 0 then 1 else E) - biasv e - m ≤ 39 := by
    have : e = 2 ∨ e = 3 ∨ e = 4 ∨ e = 5 := by omega
    have t2 : pw 2 = 4 := rfl
    have t3 : pw 3 = 8 := rfl
    have t4 : pw 4 = 16 := rfl
    have t5 : pw 5 = 32 := rfl
    have t1 : pw 1 = 2 := rfl
    unfold biasv at *
    rcases this with rfl | rfl | rfl | rfl <;> simp only [show (2:Int) - 1 = 1 from rfl, show (3:Int) - 1 = 2 from rfl, show (4:Int) - 1 = 3 from rfl, show (5:Int) - 1 = 4 from rfl] at * <;> omega
  have b4 : pw (24 + (if E = 0 then 1 else E) - biasv e - m) ≤ 549755813888 := pw_le _ 39 b3
  have b5 := pw_pos (24 + (if E = 0 then 1 else E) - biasv e - m)
  have b6 : 0 ≤ (if E = 0 then M else M + pw m) ∧ (if E = 0 then M else M + pw m) ≤ 2048 := by split <;> omega
  have := mul_bd (if E = 0 then M else M + pw m) (pw (24 + (if E = 0 then 1 else E) - biasv e - m)) 2048 549755813888 b6.1 b6.2 (by omega) b4
  unfold fld; omega

theorem decu_eq (e m E M : Int) (h1 : 2 ≤ e) (h2 : e ≤ 5) (h3 : 1 ≤ m) (h4 : m ≤ 10) (hE : 0 ≤ E) (hE2 : E < pw e) (hM : 0 ≤ M) (hM2 : M < pw m) : decu e m E M = sat ((fld e m E M + 128) / 256) := by
  have bb := biasv_bd h1 h2
  have p1 : pw m ≤ 1024 := pw_le m 10 h4
  have p2 : pw e ≤ 32 := pw_le e 5 h2
  have D1 := pw_pos (biasv e + m)
  have D2 : pw (biasv e + m) ≤ 33554432 := pw_le _ 25 (by omega)
  have ek : (if 1 < E then E else 1) = (if E = 0 then 1 else E) := by split <;> split <;> omega
  obtain ⟨k, hk⟩ : ∃ k, k = (if E = 0 then 1 else E) := ⟨_, rfl⟩
  obtain ⟨g, hg⟩ : ∃ g, g = (if E = 0 then M else M + pw m) := ⟨_, rfl⟩
  have k1 : 1 ≤ k ∧ k ≤ 31 := by rw [hk]; split <;> omega
  have g1 : 0 ≤ g ∧ g ≤ 2048 := by rw [hg]; split <;> omega
  unfold decu fld
  rw [ek, ← hk, ← hg]
  have K1 := pw_pos k
  have K2 : pw k ≤ 2147483648 := pw_le k 31 k1.2
  have m1 := mul_bd g (65536 * pw k) 2048 140737488355328 g1.1 g1.2 (by omega) (by omega)
  rw [rda_in _ _ (by omega) (by omega) (by omega) (by omega)]
  congr 1
  unfold rdv
  rw [if_pos m1.1]
  have hu : pw (24 + k - biasv e - m) * pw (biasv e + m) = 256 * (65536 * pw k) := by
    rw [← pw_add _ _ (by omega) (by omega), show 24 + k - biasv e - m + (biasv e + m) = 24 + k by omega, pw_24 k (by omega)]
  have e1 : (2 * (g * (65536 * pw k)) + pw (biasv e + m)) * 128 = (g * pw (24 + k - biasv e - m) + 128) * pw (biasv e + m) := by
    rw [Int.add_mul (g * _), Int.mul_assoc g, hu]; grind
  rw [← Int.mul_ediv_mul_of_pos_left (2 * (g * (65536 * pw k)) + pw (biasv e + m)) (2 * pw (biasv e + m)) (show (0 : Int) < 128 by omega), e1,
    show 2 * pw (biasv e + m) * 128 = 256 * pw (biasv e + m) by omega, Int.mul_ediv_mul_of_pos_left _ _ (show 0 < pw (biasv e + m) by omega)]

end Go.Proofs.Ytfakmeimideoaaa
