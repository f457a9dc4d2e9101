/- What Orthographic and Perspective return, of the code and of the reference. -/
import Derived.Test.YtlchecnencbamaaM4
namespace Go.Proofs.Ytlchecnencbamaa
open Go.RowKit Go.Sort

def zm : Nat → Int := fun _ => 0
/-- The bounds of a side; a factor; the arguments of a perspective. -/
def iv (a b : Int) : Prop := sat a = a ∧ sat b = b ∧ 256 ≤ b - a
def fac (x : Int) : Prop := 256 ≤ x ∧ x ≤ 16777216
instance (a b : Int) : Decidable (iv a b) := by unfold iv; infer_instance
instance (x : Int) : Decidable (fac x) := by unfold fac; infer_instance
def orthm (l r b t n f : Int) : Nat → Int := ofl (divv 131072 (subv r l)) 0 0 (divv (-(addv r l)) (subv r l)) 0 (divv 131072 (subv t b)) 0 (divv (-(addv t b)) (subv t b)) 0 0 (divv 65536 (subv f n)) (divv (-n) (subv f n)) 0 0 0 65536
def perm (fo ra ne fa : Int) : Nat → Int := ofl (divv fo ra) 0 0 0 0 fo 0 0 0 0 (divv fa (subv fa ne)) (-(divv (mulv fa ne) (subv fa ne))) 0 0 65536 0

theorem results_mat2 {P : Program} {fn : Func} {p u : Tmp} {t : TypeId} {W : World} {b : Nat} {m : Nat → Int} {v : Value} (h : fn.results = #[.cell p t, .tmp u]) (T : MatType P t) (c : (∀ i, i < 16 → W.cell? ⟨b, i, none⟩ = some (.int .i64 (m i)))) (tmps : Array Value) (hp : tmps.getD p undef = .pointer (some ⟨b, 0, none⟩)) (hu : tmps.getD u undef = v) :
    (results fn tmps).run P W = .ok (.tuple #[.agg (mats m), v]) W := by
  have hp' : tmps[p]?.getD undef = .pointer (some ⟨b, 0, none⟩) := by simpa using hp
  have hu' : tmps[u]?.getD undef = v := by simpa using hu
  simp [results, h, hp', hu', asAddr, mat_load T c]

theorem issat_b (x : Int) (w : World) : Calls Try.prog 57 #[.int .i64 x] w fun e w' => e = .returned (.bool (decide (sat x = x))) ∧ Below w.heap.size w w' := by
  have BB : Below w.heap.size w w := Below.refl _ _
  by_cases h : sat x = x
  all_goals
    go_enter Try.func57, Try.ntmps57
    go_wp2_with (first | (go_at_call 49; refine (saturate_b _ _).mono ?_; rintro _ _ ⟨rfl, B⟩; replace BB := bon BB B))
    go_ret
    exact ⟨ret_bool (by simp [h]), BB⟩

set_option maxRecDepth 100000 in
theorem isside_b (x y : Int) (w : World) : Calls Try.prog 40 #[.int .i64 x, .int .i64 y] w fun e w' => e = .returned (.bool (decide (iv x y))) ∧ Below w.heap.size w w' := by
  have BB : Below w.heap.size w w := Below.refl _ _
  by_cases h1 : sat x = x
  · by_cases h2 : sat y = y
    · have b1 := sat_bd x
      have b2 := sat_bd y
      have e1 : IntKind.i64.wrap (y - x) = y - x := IntWalk.i64_in _ (by omega)
      clear b1 b2
      by_cases h3 : 256 ≤ y - x
      · rw [show decide (iv x y) = true from decide_eq_true ⟨h1, h2, h3⟩]
        have d1 : decide (sat x = x) = true := decide_eq_true h1
        have d2 : decide (sat y = y) = true := decide_eq_true h2
        clear h1 h2
        go_enter Try.func40, Try.ntmps40
        go_wp2_with (first | (go_at_call 57; refine (issat_b _ _).mono ?_; rintro _ _ ⟨rfl, B⟩; replace BB := bon BB B))
        go_ret
        exact ⟨ret_bool (by simp <;> omega), BB⟩
      · rw [show decide (iv x y) = false from decide_eq_false (fun h => h3 h.2.2)]
        have d1 : decide (sat x = x) = true := decide_eq_true h1
        have d2 : decide (sat y = y) = true := decide_eq_true h2
        clear h1 h2
        go_enter Try.func40, Try.ntmps40
        go_wp2_with (first | (go_at_call 57; refine (issat_b _ _).mono ?_; rintro _ _ ⟨rfl, B⟩; replace BB := bon BB B))
        go_ret
        exact ⟨ret_bool (by simp <;> omega), BB⟩
    · rw [show decide (iv x y) = false from decide_eq_false (fun h => h2 h.2.1)]
      have d1 : decide (sat x = x) = true := decide_eq_true h1
      have d2 : decide (sat y = y) = false := decide_eq_false h2
      clear h1 h2
      go_enter Try.func40, Try.ntmps40
      go_wp2_with (first | (go_at_call 57; refine (issat_b _ _).mono ?_; rintro _ _ ⟨rfl, B⟩; replace BB := bon BB B))
      go_ret
      exact ⟨rfl, BB⟩
  · rw [show decide (iv x y) = false from decide_eq_false (fun h => h1 h.1)]
    have d1 : decide (sat x = x) = false := decide_eq_false h1
    clear h1
    go_enter Try.func40, Try.ntmps40
    go_wp2_with (first | (go_at_call 57; refine (issat_b _ _).mono ?_; rintro _ _ ⟨rfl, B⟩; replace BB := bon BB B))
    go_ret
    exact ⟨rfl, BB⟩

set_option maxRecDepth 100000 in
theorem interval_b (x y : Int) (w : World) : Calls Try.prog 43 #[.int .i64 x, .int .i64 y] w fun e w' => e = .returned (.bool (decide (iv x y))) ∧ Below w.heap.size w w' := by
  have BB : Below w.heap.size w w := Below.refl _ _
  by_cases h1 : sat x = x
  · by_cases h2 : sat y = y
    · have b1 := sat_bd x
      have b2 := sat_bd y
      have e1 : IntKind.i64.wrap (y - x) = y - x := IntWalk.i64_in _ (by omega)
      clear b1 b2
      by_cases h3 : 256 ≤ y - x
      · rw [show decide (iv x y) = true from decide_eq_true ⟨h1, h2, h3⟩]
        skip
        skip
        skip
        go_enter Try.func43, Try.ntmps43
        go_wp2_with (first | (go_at_call 50; refine (rsaturate_b _ _).mono ?_; rintro _ _ ⟨rfl, B⟩; replace BB := bon BB B))
        go_ret
        exact ⟨ret_bool (by simp <;> omega), BB⟩
      · rw [show decide (iv x y) = false from decide_eq_false (fun h => h3 h.2.2)]
        skip
        skip
        skip
        go_enter Try.func43, Try.ntmps43
        go_wp2_with (first | (go_at_call 50; refine (rsaturate_b _ _).mono ?_; rintro _ _ ⟨rfl, B⟩; replace BB := bon BB B))
        go_ret
        exact ⟨ret_bool (by simp <;> omega), BB⟩
    · rw [show decide (iv x y) = false from decide_eq_false (fun h => h2 h.2.1)]
      skip
      skip
      skip
      go_enter Try.func43, Try.ntmps43
      go_wp2_with (first | (go_at_call 50; refine (rsaturate_b _ _).mono ?_; rintro _ _ ⟨rfl, B⟩; replace BB := bon BB B))
      go_ret
      exact ⟨rfl, BB⟩
  · rw [show decide (iv x y) = false from decide_eq_false (fun h => h1 h.1)]
    skip
    skip
    go_enter Try.func43, Try.ntmps43
    go_wp2_with (first | (go_at_call 50; refine (rsaturate_b _ _).mono ?_; rintro _ _ ⟨rfl, B⟩; replace BB := bon BB B))
    go_ret
    exact ⟨rfl, BB⟩

theorem isfactor_b (x : Int) (w : World) : Calls Try.prog 47 #[.int .i64 x] w fun e w' => e = .returned (.bool (decide (fac x))) ∧ Below w.heap.size w w' := by
  have BB : Below w.heap.size w w := Below.refl _ _
  by_cases h1 : 256 ≤ x
  all_goals by_cases h2 : x ≤ 16777216
  all_goals
    go_enter Try.func47, Try.ntmps47
    go_wp2_with fail
    go_ret
    exact ⟨ret_bool (by first | exact (decide_eq_true (p := fac x) ⟨by omega, by omega⟩).symm | exact (decide_eq_false (p := fac x) (fun h => by have := h.1; have := h.2; omega)).symm | (simp [fac]; omega)), BB⟩

set_option maxRecDepth 100000 in
set_option maxHeartbeats 4000000 in
theorem ortho_yes (l r b t n f : Int) (w : World) (h : iv l r ∧ iv b t ∧ iv n f) :
    Calls Try.prog 19 #[.int .i64 l, .int .i64 r, .int .i64 b, .int .i64 t, .int .i64 n, .int .i64 f] w fun e w' => e = .returned (.tuple #[.agg (mats (orthm l r b t n f)), .int .i64 0]) ∧ Below w.heap.size w w' := by
  obtain ⟨BB, M0, Z0⟩ := argsZ w 23
  obtain ⟨h1, h2, h3⟩ := h
  have d1 : decide (iv l r) = true := decide_eq_true h1
  have d2 : decide (iv b t) = true := decide_eq_true h2
  have d3 : decide (iv n f) = true := decide_eq_true h3
  have e1 : IntKind.i64.wrap (-(addv r l)) = -(addv r l) := IntWalk.i64_in _ (by have := addv_bd r l; omega)
  have e2 : IntKind.i64.wrap (-(addv t b)) = -(addv t b) := IntWalk.i64_in _ (by have := addv_bd t b; omega)
  have e3 : IntKind.i64.wrap (-n) = -n := IntWalk.i64_in _ (by have := sat_bd n; have := h3.1; omega)
  clear h1 h2 h3
  go_enter Try.func19, Try.ntmps19
  go_wp2_with (first | (refine wpList_mstore rfl _ _ _ rfl (orthm l r b t n f) rfl rfl (m0 := fun _ => 0) M0 Z0 BB (by omega) matT ?_; intro W' BB' M' Z' _ _ _; clear M0 Z0 BB) | (first | (refine wpList_mload rfl _ _ rfl matT M0 rfl ?_; go_simp) | (go_at_call 40; refine (isside_b _ _ _).mono ?_; rintro _ _ ⟨rfl, B⟩; replace BB := bon BB B; replace Z0 := matz_below B M0 Z0; replace M0 := mat_below B M0) | (go_at_call 41; refine (sub_b _ _ _).mono ?_; rintro _ _ ⟨rfl, B⟩; replace BB := bon BB B; replace Z0 := matz_below B M0 Z0; replace M0 := mat_below B M0) | (go_at_call 31; refine (add_b _ _ _).mono ?_; rintro _ _ ⟨rfl, B⟩; replace BB := bon BB B; replace Z0 := matz_below B M0 Z0; replace M0 := mat_below B M0) | (go_at_call 34; refine (div_b _ _ _).mono ?_; rintro _ _ ⟨rfl, B⟩; replace BB := bon BB B; replace Z0 := matz_below B M0 Z0; replace M0 := mat_below B M0) | (go_at_call 42; refine (ofrows_b _ _ _ _ _ _ _ _ _ _ _ _ _ _ _ _ _).mono ?_; rintro _ _ ⟨rfl, B⟩; replace BB := bon BB B; replace Z0 := matz_below B M0 Z0; replace M0 := mat_below B M0)))
  exact bodyPost_ret (results_mat2 Try.results19 matT M' _ rfl rfl) rfl ⟨rfl, BB'⟩

set_option maxRecDepth 100000 in
set_option maxHeartbeats 4000000 in
theorem ortho_no (l r b t n f : Int) (w : World) (h : ¬ (iv l r ∧ iv b t ∧ iv n f)) :
    Calls Try.prog 19 #[.int .i64 l, .int .i64 r, .int .i64 b, .int .i64 t, .int .i64 n, .int .i64 f] w fun e w' => e = .returned (.tuple #[.agg (mats zm), .int .i64 2]) ∧ Below w.heap.size w w' := by
  obtain ⟨BB, M0, Z0⟩ := argsZ w 23
  have hc : decide (iv l r) = false ∨ (decide (iv l r) = true ∧ decide (iv b t) = false) ∨ (decide (iv l r) = true ∧ decide (iv b t) = true ∧ decide (iv n f) = false) := by
    by_cases h1 : iv l r <;> by_cases h2 : iv b t <;> by_cases h3 : iv n f <;> simp_all
  clear h
  rcases hc with d1 | ⟨d1, d2⟩ | ⟨d1, d2, d3⟩
  all_goals
    go_enter Try.func19, Try.ntmps19
    go_wp2_with (first | (refine wpList_mstore rfl _ _ _ rfl zm rfl rfl (m0 := fun _ => 0) M0 Z0 BB (by omega) matT ?_; intro W' BB' M' Z' _ _ _; clear M0 Z0 BB) | (first | (refine wpList_mload rfl _ _ rfl matT M0 rfl ?_; go_simp) | (go_at_call 40; refine (isside_b _ _ _).mono ?_; rintro _ _ ⟨rfl, B⟩; replace BB := bon BB B; replace Z0 := matz_below B M0 Z0; replace M0 := mat_below B M0)))
    exact bodyPost_ret (results_mat2 Try.results19 matT M' _ rfl rfl) rfl ⟨rfl, BB'⟩

set_option maxRecDepth 100000 in
set_option maxHeartbeats 4000000 in
theorem rortho_yes (l r b t n f : Int) (w : World) (h : iv l r ∧ iv b t ∧ iv n f) :
    Calls Try.prog 20 #[.int .i64 l, .int .i64 r, .int .i64 b, .int .i64 t, .int .i64 n, .int .i64 f] w fun e w' => e = .returned (.tuple #[.agg (mats (orthm l r b t n f)), .int .i64 0]) ∧ Below w.heap.size w w' := by
  obtain ⟨BB, M0, Z0⟩ := argsZ w 23
  obtain ⟨h1, h2, h3⟩ := h
  have d1 : decide (iv l r) = true := decide_eq_true h1
  have d2 : decide (iv b t) = true := decide_eq_true h2
  have d3 : decide (iv n f) = true := decide_eq_true h3
  have e1 : IntKind.i64.wrap (-(addv r l)) = -(addv r l) := IntWalk.i64_in _ (by have := addv_bd r l; omega)
  have e2 : IntKind.i64.wrap (-(addv t b)) = -(addv t b) := IntWalk.i64_in _ (by have := addv_bd t b; omega)
  have e3 : IntKind.i64.wrap (-n) = -n := IntWalk.i64_in _ (by have := sat_bd n; have := h3.1; omega)
  clear h1 h2 h3
  go_enter Try.func20, Try.ntmps20
  go_wp2_with (first | (refine wpList_mstore rfl _ _ _ rfl (orthm l r b t n f) rfl rfl (m0 := fun _ => 0) M0 Z0 BB (by omega) matT ?_; intro W' BB' M' Z' _ _ _; clear M0 Z0 BB) | (first | (refine wpList_mload rfl _ _ rfl matT M0 rfl ?_; go_simp) | (go_at_call 43; refine (interval_b _ _ _).mono ?_; rintro _ _ ⟨rfl, B⟩; replace BB := bon BB B; replace Z0 := matz_below B M0 Z0; replace M0 := mat_below B M0) | (go_at_call 44; refine (rsub_b _ _ _).mono ?_; rintro _ _ ⟨rfl, B⟩; replace BB := bon BB B; replace Z0 := matz_below B M0 Z0; replace M0 := mat_below B M0) | (go_at_call 46; refine (radd_b _ _ _).mono ?_; rintro _ _ ⟨rfl, B⟩; replace BB := bon BB B; replace Z0 := matz_below B M0 Z0; replace M0 := mat_below B M0) | (go_at_call 45; refine (rdiv_b _ _ _).mono ?_; rintro _ _ ⟨rfl, B⟩; replace BB := bon BB B; replace Z0 := matz_below B M0 Z0; replace M0 := mat_below B M0)))
  exact bodyPost_ret (results_mat2 Try.results20 matT M' _ rfl rfl) rfl ⟨rfl, BB'⟩

set_option maxRecDepth 100000 in
set_option maxHeartbeats 4000000 in
theorem rortho_no (l r b t n f : Int) (w : World) (h : ¬ (iv l r ∧ iv b t ∧ iv n f)) :
    Calls Try.prog 20 #[.int .i64 l, .int .i64 r, .int .i64 b, .int .i64 t, .int .i64 n, .int .i64 f] w fun e w' => e = .returned (.tuple #[.agg (mats zm), .int .i64 2]) ∧ Below w.heap.size w w' := by
  obtain ⟨BB, M0, Z0⟩ := argsZ w 23
  have hc : decide (iv l r) = false ∨ (decide (iv l r) = true ∧ decide (iv b t) = false) ∨ (decide (iv l r) = true ∧ decide (iv b t) = true ∧ decide (iv n f) = false) := by
    by_cases h1 : iv l r <;> by_cases h2 : iv b t <;> by_cases h3 : iv n f <;> simp_all
  clear h
  rcases hc with d1 | ⟨d1, d2⟩ | ⟨d1, d2, d3⟩
  all_goals
    go_enter Try.func20, Try.ntmps20
    go_wp2_with (first | (refine wpList_mstore rfl _ _ _ rfl zm rfl rfl (m0 := fun _ => 0) M0 Z0 BB (by omega) matT ?_; intro W' BB' M' Z' _ _ _; clear M0 Z0 BB) | (first | (refine wpList_mload rfl _ _ rfl matT M0 rfl ?_; go_simp) | (go_at_call 43; refine (interval_b _ _ _).mono ?_; rintro _ _ ⟨rfl, B⟩; replace BB := bon BB B; replace Z0 := matz_below B M0 Z0; replace M0 := mat_below B M0)))
    exact bodyPost_ret (results_mat2 Try.results20 matT M' _ rfl rfl) rfl ⟨rfl, BB'⟩

def good (fo ra ne fa : Int) : Prop := fac fo ∧ fac ra ∧ fac ne ∧ ne + 256 ≤ fa ∧ fa ≤ 268435456
instance (fo ra ne fa : Int) : Decidable (good fo ra ne fa) := by unfold good; infer_instance

theorem bad_cases (fo ra ne fa : Int) (h : ¬ good fo ra ne fa) : ¬ fac fo ∨ (fac fo ∧ ¬ fac ra) ∨ (fac fo ∧ fac ra ∧ ¬ fac ne) ∨ (fac fo ∧ fac ra ∧ fac ne ∧ fa < ne + 256) ∨ (fac fo ∧ fac ra ∧ fac ne ∧ ne + 256 ≤ fa ∧ 268435456 < fa) := by
  unfold good at h
  by_cases h1 : fac fo
  · by_cases h2 : fac ra
    · by_cases h3 : fac ne
      · by_cases h4 : ne + 256 ≤ fa
        · exact .inr (.inr (.inr (.inr ⟨h1, h2, h3, h4, Decidable.byContradiction fun h5 => h ⟨h1, h2, h3, h4, by omega⟩⟩)))
        · exact .inr (.inr (.inr (.inl ⟨h1, h2, h3, by omega⟩)))
      · exact .inr (.inr (.inl ⟨h1, h2, h3⟩))
    · exact .inr (.inl ⟨h1, h2⟩)
  · exact .inl h1

set_option maxRecDepth 100000 in
set_option maxHeartbeats 4000000 in
theorem persp_yes (fo ra ne fa : Int) (w : World) (h : good fo ra ne fa) :
    Calls Try.prog 21 #[.int .i64 fo, .int .i64 ra, .int .i64 ne, .int .i64 fa] w fun e w' => e = .returned (.tuple #[.agg (mats (perm fo ra ne fa)), .int .i64 0]) ∧ Below w.heap.size w w' := by
  obtain ⟨BB, M0, Z0⟩ := argsZ w 23
  obtain ⟨h1, h2, h3, h4, h5⟩ := h
  have d1 : decide (fac fo) = true := decide_eq_true h1
  have d2 : decide (fac ra) = true := decide_eq_true h2
  have d3 : decide (fac ne) = true := decide_eq_true h3
  have e1 : IntKind.i64.wrap (ne + 256) = ne + 256 := IntWalk.i64_in _ (by obtain ⟨g1, g2⟩ := h3; omega)
  have e2 : IntKind.i64.wrap (-(divv (mulv fa ne) (subv fa ne))) = -(divv (mulv fa ne) (subv fa ne)) := IntWalk.i64_in _ (by have := divv_bd (mulv fa ne) (subv fa ne); omega)
  have g4 : ¬ fa < ne + 256 := by omega
  have g5 : ¬ 268435456 < fa := by omega
  clear h1 h2 h3 h4 h5
  go_enter Try.func21, Try.ntmps21
  go_wp2_with (first | (refine wpList_mstore rfl _ _ _ rfl (perm fo ra ne fa) rfl rfl (m0 := fun _ => 0) M0 Z0 BB (by omega) matT ?_; intro W' BB' M' Z' _ _ _; clear M0 Z0 BB) | (first | (refine wpList_mload rfl _ _ rfl matT M0 rfl ?_; go_simp) | (go_at_call 47; refine (isfactor_b _ _).mono ?_; rintro _ _ ⟨rfl, B⟩; replace BB := bon BB B; replace Z0 := matz_below B M0 Z0; replace M0 := mat_below B M0) | (go_at_call 41; refine (sub_b _ _ _).mono ?_; rintro _ _ ⟨rfl, B⟩; replace BB := bon BB B; replace Z0 := matz_below B M0 Z0; replace M0 := mat_below B M0) | (go_at_call 32; refine (mul_b _ _ _).mono ?_; rintro _ _ ⟨rfl, B⟩; replace BB := bon BB B; replace Z0 := matz_below B M0 Z0; replace M0 := mat_below B M0) | (go_at_call 34; refine (div_b _ _ _).mono ?_; rintro _ _ ⟨rfl, B⟩; replace BB := bon BB B; replace Z0 := matz_below B M0 Z0; replace M0 := mat_below B M0) | (go_at_call 42; refine (ofrows_b _ _ _ _ _ _ _ _ _ _ _ _ _ _ _ _ _).mono ?_; rintro _ _ ⟨rfl, B⟩; replace BB := bon BB B; replace Z0 := matz_below B M0 Z0; replace M0 := mat_below B M0)))
  exact bodyPost_ret (results_mat2 Try.results21 matT M' _ rfl rfl) rfl ⟨rfl, BB'⟩

set_option maxRecDepth 100000 in
set_option maxHeartbeats 4000000 in
theorem persp_no (fo ra ne fa : Int) (w : World) (h : ¬ good fo ra ne fa) :
    Calls Try.prog 21 #[.int .i64 fo, .int .i64 ra, .int .i64 ne, .int .i64 fa] w fun e w' => e = .returned (.tuple #[.agg (mats zm), .int .i64 2]) ∧ Below w.heap.size w w' := by
  obtain ⟨BB, M0, Z0⟩ := argsZ w 23
  have hc : decide (fac fo) = false ∨ (decide (fac fo) = true ∧ decide (fac ra) = false) ∨ (decide (fac fo) = true ∧ decide (fac ra) = true ∧ decide (fac ne) = false) ∨
      (decide (fac fo) = true ∧ decide (fac ra) = true ∧ decide (fac ne) = true ∧ IntKind.i64.wrap (ne + 256) = ne + 256 ∧ fa < ne + 256) ∨ (decide (fac fo) = true ∧ decide (fac ra) = true ∧ decide (fac ne) = true ∧ IntKind.i64.wrap (ne + 256) = ne + 256 ∧ ¬ fa < ne + 256 ∧ 268435456 < fa) := by
    rcases bad_cases fo ra ne fa h with h1 | ⟨h1, h2⟩ | ⟨h1, h2, h3⟩ | ⟨h1, h2, h3, h4⟩ | ⟨h1, h2, h3, h4, h5⟩
    · exact .inl (decide_eq_false h1)
    · exact .inr (.inl ⟨decide_eq_true h1, decide_eq_false h2⟩)
    · exact .inr (.inr (.inl ⟨decide_eq_true h1, decide_eq_true h2, decide_eq_false h3⟩))
    · exact .inr (.inr (.inr (.inl ⟨decide_eq_true h1, decide_eq_true h2, decide_eq_true h3, IntWalk.i64_in _ (by obtain ⟨g1, g2⟩ := h3; omega), h4⟩)))
    · exact .inr (.inr (.inr (.inr ⟨decide_eq_true h1, decide_eq_true h2, decide_eq_true h3, IntWalk.i64_in _ (by obtain ⟨g1, g2⟩ := h3; omega), by omega, h5⟩)))
  clear h
  rcases hc with d1 | ⟨d1, d2⟩ | ⟨d1, d2, d3⟩ | ⟨d1, d2, d3, e1, h4⟩ | ⟨d1, d2, d3, e1, h4, h5⟩
  all_goals
    go_enter Try.func21, Try.ntmps21
    go_wp2_with (first | (refine wpList_mstore rfl _ _ _ rfl zm rfl rfl (m0 := fun _ => 0) M0 Z0 BB (by omega) matT ?_; intro W' BB' M' Z' _ _ _; clear M0 Z0 BB) | (first | (refine wpList_mload rfl _ _ rfl matT M0 rfl ?_; go_simp) | (go_at_call 47; refine (isfactor_b _ _).mono ?_; rintro _ _ ⟨rfl, B⟩; replace BB := bon BB B; replace Z0 := matz_below B M0 Z0; replace M0 := mat_below B M0)))
    exact bodyPost_ret (results_mat2 Try.results21 matT M' _ rfl rfl) rfl ⟨rfl, BB'⟩

def PS (w : World) (fo ra ne : Int) (W : World) : Prop := Below w.heap.size w W ∧ (∀ i, i < 16 → W.cell? ⟨w.heap.size, i, none⟩ = some (.int .i64 0)) ∧ (∀ i, i < 16 → W.frozen? ⟨w.heap.size, i, none⟩ = false) ∧ W.cell? ⟨w.heap.size + 1, 0, none⟩ = some (.int .i64 fo) ∧ W.cell? ⟨w.heap.size + 1, 1, none⟩ = some (.int .i64 ra) ∧ W.cell? ⟨w.heap.size + 1, 2, none⟩ = some (.int .i64 ne)

set_option maxRecDepth 100000 in
set_option maxHeartbeats 4000000 in
theorem rpersp_yes (fo ra ne fa : Int) (w : World) (h : good fo ra ne fa) :
    Calls Try.prog 22 #[.int .i64 fo, .int .i64 ra, .int .i64 ne, .int .i64 fa] w fun e w' => e = .returned (.tuple #[.agg (mats (perm fo ra ne fa)), .int .i64 0]) ∧ Below w.heap.size w w' := by
  obtain ⟨BB, M0, Z0⟩ := argsZ w 23
  obtain ⟨B, BB⟩ := box_on BB #[.int .i64 fo, .int .i64 ra, .int .i64 ne] 3
  have hz : (w.alloc (.cells #[.int .i64 ((fun _ => 0) 0), .int .i64 ((fun _ => 0) 1), .int .i64 ((fun _ => 0) 2), .int .i64 ((fun _ => 0) 3), .int .i64 ((fun _ => 0) 4), .int .i64 ((fun _ => 0) 5), .int .i64 ((fun _ => 0) 6), .int .i64 ((fun _ => 0) 7), .int .i64 ((fun _ => 0) 8), .int .i64 ((fun _ => 0) 9), .int .i64 ((fun _ => 0) 10), .int .i64 ((fun _ => 0) 11), .int .i64 ((fun _ => 0) 12), .int .i64 ((fun _ => 0) 13), .int .i64 ((fun _ => 0) 14), .int .i64 ((fun _ => 0) 15)] 23)).heap.size = w.heap.size + 1 := by simp
  replace Z0 := matz_below B M0 Z0
  replace M0 := mat_below B M0
  have l0 := box_cell (w.alloc (.cells #[.int .i64 ((fun _ => 0) 0), .int .i64 ((fun _ => 0) 1), .int .i64 ((fun _ => 0) 2), .int .i64 ((fun _ => 0) 3), .int .i64 ((fun _ => 0) 4), .int .i64 ((fun _ => 0) 5), .int .i64 ((fun _ => 0) 6), .int .i64 ((fun _ => 0) 7), .int .i64 ((fun _ => 0) 8), .int .i64 ((fun _ => 0) 9), .int .i64 ((fun _ => 0) 10), .int .i64 ((fun _ => 0) 11), .int .i64 ((fun _ => 0) 12), .int .i64 ((fun _ => 0) 13), .int .i64 ((fun _ => 0) 14), .int .i64 ((fun _ => 0) 15)] 23)) #[.int .i64 fo, .int .i64 ra, .int .i64 ne] 3 0 _ rfl
  have l1 := box_cell (w.alloc (.cells #[.int .i64 ((fun _ => 0) 0), .int .i64 ((fun _ => 0) 1), .int .i64 ((fun _ => 0) 2), .int .i64 ((fun _ => 0) 3), .int .i64 ((fun _ => 0) 4), .int .i64 ((fun _ => 0) 5), .int .i64 ((fun _ => 0) 6), .int .i64 ((fun _ => 0) 7), .int .i64 ((fun _ => 0) 8), .int .i64 ((fun _ => 0) 9), .int .i64 ((fun _ => 0) 10), .int .i64 ((fun _ => 0) 11), .int .i64 ((fun _ => 0) 12), .int .i64 ((fun _ => 0) 13), .int .i64 ((fun _ => 0) 14), .int .i64 ((fun _ => 0) 15)] 23)) #[.int .i64 fo, .int .i64 ra, .int .i64 ne] 3 1 _ rfl
  have l2 := box_cell (w.alloc (.cells #[.int .i64 ((fun _ => 0) 0), .int .i64 ((fun _ => 0) 1), .int .i64 ((fun _ => 0) 2), .int .i64 ((fun _ => 0) 3), .int .i64 ((fun _ => 0) 4), .int .i64 ((fun _ => 0) 5), .int .i64 ((fun _ => 0) 6), .int .i64 ((fun _ => 0) 7), .int .i64 ((fun _ => 0) 8), .int .i64 ((fun _ => 0) 9), .int .i64 ((fun _ => 0) 10), .int .i64 ((fun _ => 0) 11), .int .i64 ((fun _ => 0) 12), .int .i64 ((fun _ => 0) 13), .int .i64 ((fun _ => 0) 14), .int .i64 ((fun _ => 0) 15)] 23)) #[.int .i64 fo, .int .i64 ra, .int .i64 ne] 3 2 _ rfl
  rw [hz] at l0 l1 l2
  have HS := Lib.hid (show PS w fo ra ne _ from ⟨BB, M0, Z0, l0, l1, l2⟩)
  have HG := Lib.hid h
  clear BB M0 Z0 l0 l1 l2 B hz h
  go_enter Try.func22, Try.ntmps22
  go_wp2_with fail
  go_loopw [11] (fun i W => (i = .int .i64 0 ∧ PS w fo ra ne W) ∨ (i = .int .i64 1 ∧ fac fo ∧ PS w fo ra ne W) ∨ (i = .int .i64 2 ∧ fac fo ∧ fac ra ∧ PS w fo ra ne W) ∨ (i = .int .i64 3 ∧ fac fo ∧ fac ra ∧ fac ne ∧ PS w fo ra ne W)) (fun i _ => (3 - intOf i).toNat)
  case atStart => exact .inl ⟨rfl, HS.out⟩
  case round =>
    clear HS
    rcases hrel with ⟨rfl, hS⟩ | ⟨rfl, g1, hS⟩ | ⟨rfl, g1, g2, hS⟩ | ⟨rfl, g1, g2, g3, hS⟩
    · obtain ⟨BB, M0, Z0, l0, l1, l2⟩ := hS
      have n1 : ¬ fo < 256 := by have := HG.out.1.1; omega
      have n2 : ¬ 16777216 < fo := by have := HG.out.1.2; omega
      skip
      go_wp2_with fail
      go_roundw
      case rel => exact .inr (.inl ⟨rfl, HG.out.1, BB, M0, Z0, l0, l1, l2⟩)
      case measure => simp [intOf]
    · obtain ⟨BB, M0, Z0, l0, l1, l2⟩ := hS
      have n1 : ¬ ra < 256 := by have := HG.out.2.1.1; omega
      have n2 : ¬ 16777216 < ra := by have := HG.out.2.1.2; omega
      clear g1
      go_wp2_with fail
      go_roundw
      case rel => exact .inr (.inr (.inl ⟨rfl, HG.out.1, HG.out.2.1, BB, M0, Z0, l0, l1, l2⟩))
      case measure => simp [intOf]
    · obtain ⟨BB, M0, Z0, l0, l1, l2⟩ := hS
      have n1 : ¬ ne < 256 := by have := HG.out.2.2.1.1; omega
      have n2 : ¬ 16777216 < ne := by have := HG.out.2.2.1.2; omega
      clear g1 g2
      go_wp2_with fail
      go_roundw
      case rel => exact .inr (.inr (.inr (⟨rfl, HG.out.1, HG.out.2.1, HG.out.2.2.1, BB, M0, Z0, l0, l1, l2⟩)))
      case measure => simp [intOf]
    · obtain ⟨BB, M0, Z0, l0, l1, l2⟩ := hS
      have e1 : IntKind.i64.wrap (ne + 256) = ne + 256 := IntWalk.i64_in _ (by obtain ⟨g1, g2⟩ := HG.out.2.2.1; omega)
      have e2 : IntKind.i64.wrap (-(divv (mulv fa ne) (subv fa ne))) = -(divv (mulv fa ne) (subv fa ne)) := IntWalk.i64_in _ (by have := divv_bd (mulv fa ne) (subv fa ne); omega)
      have g4 : ¬ fa < ne + 256 := by have := HG.out.2.2.2.1; omega
      have g5 : ¬ 268435456 < fa := by have := HG.out.2.2.2.2; omega
      clear g1 g2 g3 l0 l1 l2
      go_wp2_with (first | (refine wpList_mstore rfl _ _ _ rfl (perm fo ra ne fa) rfl rfl (m0 := fun _ => 0) M0 Z0 BB (by omega) matT ?_; intro W' BB' M' Z' _ _ _; clear M0 Z0 BB) | (first | (refine wpList_mload rfl _ _ rfl matT M0 rfl ?_; go_simp) | (go_at_call 44; refine (rsub_b _ _ _).mono ?_; rintro _ _ ⟨rfl, B⟩; replace BB := bon BB B; replace Z0 := matz_below B M0 Z0; replace M0 := mat_below B M0) | (go_at_call 48; refine (rmul_b _ _ _).mono ?_; rintro _ _ ⟨rfl, B⟩; replace BB := bon BB B; replace Z0 := matz_below B M0 Z0; replace M0 := mat_below B M0) | (go_at_call 45; refine (rdiv_b _ _ _).mono ?_; rintro _ _ ⟨rfl, B⟩; replace BB := bon BB B; replace Z0 := matz_below B M0 Z0; replace M0 := mat_below B M0)))
      exact bodyPost_ret (results_mat2 Try.results22 matT M' _ rfl rfl) rfl ⟨rfl, BB'⟩

set_option maxRecDepth 100000 in
set_option maxHeartbeats 4000000 in
theorem rpersp_no (fo ra ne fa : Int) (w : World) (h : ¬ good fo ra ne fa) :
    Calls Try.prog 22 #[.int .i64 fo, .int .i64 ra, .int .i64 ne, .int .i64 fa] w fun e w' => e = .returned (.tuple #[.agg (mats zm), .int .i64 2]) ∧ Below w.heap.size w w' := by
  obtain ⟨BB, M0, Z0⟩ := argsZ w 23
  obtain ⟨B, BB⟩ := box_on BB #[.int .i64 fo, .int .i64 ra, .int .i64 ne] 3
  have hz : (w.alloc (.cells #[.int .i64 ((fun _ => 0) 0), .int .i64 ((fun _ => 0) 1), .int .i64 ((fun _ => 0) 2), .int .i64 ((fun _ => 0) 3), .int .i64 ((fun _ => 0) 4), .int .i64 ((fun _ => 0) 5), .int .i64 ((fun _ => 0) 6), .int .i64 ((fun _ => 0) 7), .int .i64 ((fun _ => 0) 8), .int .i64 ((fun _ => 0) 9), .int .i64 ((fun _ => 0) 10), .int .i64 ((fun _ => 0) 11), .int .i64 ((fun _ => 0) 12), .int .i64 ((fun _ => 0) 13), .int .i64 ((fun _ => 0) 14), .int .i64 ((fun _ => 0) 15)] 23)).heap.size = w.heap.size + 1 := by simp
  replace Z0 := matz_below B M0 Z0
  replace M0 := mat_below B M0
  have l0 := box_cell (w.alloc (.cells #[.int .i64 ((fun _ => 0) 0), .int .i64 ((fun _ => 0) 1), .int .i64 ((fun _ => 0) 2), .int .i64 ((fun _ => 0) 3), .int .i64 ((fun _ => 0) 4), .int .i64 ((fun _ => 0) 5), .int .i64 ((fun _ => 0) 6), .int .i64 ((fun _ => 0) 7), .int .i64 ((fun _ => 0) 8), .int .i64 ((fun _ => 0) 9), .int .i64 ((fun _ => 0) 10), .int .i64 ((fun _ => 0) 11), .int .i64 ((fun _ => 0) 12), .int .i64 ((fun _ => 0) 13), .int .i64 ((fun _ => 0) 14), .int .i64 ((fun _ => 0) 15)] 23)) #[.int .i64 fo, .int .i64 ra, .int .i64 ne] 3 0 _ rfl
  have l1 := box_cell (w.alloc (.cells #[.int .i64 ((fun _ => 0) 0), .int .i64 ((fun _ => 0) 1), .int .i64 ((fun _ => 0) 2), .int .i64 ((fun _ => 0) 3), .int .i64 ((fun _ => 0) 4), .int .i64 ((fun _ => 0) 5), .int .i64 ((fun _ => 0) 6), .int .i64 ((fun _ => 0) 7), .int .i64 ((fun _ => 0) 8), .int .i64 ((fun _ => 0) 9), .int .i64 ((fun _ => 0) 10), .int .i64 ((fun _ => 0) 11), .int .i64 ((fun _ => 0) 12), .int .i64 ((fun _ => 0) 13), .int .i64 ((fun _ => 0) 14), .int .i64 ((fun _ => 0) 15)] 23)) #[.int .i64 fo, .int .i64 ra, .int .i64 ne] 3 1 _ rfl
  have l2 := box_cell (w.alloc (.cells #[.int .i64 ((fun _ => 0) 0), .int .i64 ((fun _ => 0) 1), .int .i64 ((fun _ => 0) 2), .int .i64 ((fun _ => 0) 3), .int .i64 ((fun _ => 0) 4), .int .i64 ((fun _ => 0) 5), .int .i64 ((fun _ => 0) 6), .int .i64 ((fun _ => 0) 7), .int .i64 ((fun _ => 0) 8), .int .i64 ((fun _ => 0) 9), .int .i64 ((fun _ => 0) 10), .int .i64 ((fun _ => 0) 11), .int .i64 ((fun _ => 0) 12), .int .i64 ((fun _ => 0) 13), .int .i64 ((fun _ => 0) 14), .int .i64 ((fun _ => 0) 15)] 23)) #[.int .i64 fo, .int .i64 ra, .int .i64 ne] 3 2 _ rfl
  rw [hz] at l0 l1 l2
  have HS := Lib.hid (show PS w fo ra ne _ from ⟨BB, M0, Z0, l0, l1, l2⟩)
  have HG := Lib.hid h
  clear BB M0 Z0 l0 l1 l2 B hz h
  go_enter Try.func22, Try.ntmps22
  go_wp2_with fail
  go_loopw [11] (fun i W => (i = .int .i64 0 ∧ PS w fo ra ne W) ∨ (i = .int .i64 1 ∧ fac fo ∧ PS w fo ra ne W) ∨ (i = .int .i64 2 ∧ fac fo ∧ fac ra ∧ PS w fo ra ne W) ∨ (i = .int .i64 3 ∧ fac fo ∧ fac ra ∧ fac ne ∧ PS w fo ra ne W)) (fun i _ => (3 - intOf i).toNat)
  case atStart => exact .inl ⟨rfl, HS.out⟩
  case round =>
    clear HS
    rcases hrel with ⟨rfl, hS⟩ | ⟨rfl, g1, hS⟩ | ⟨rfl, g1, g2, hS⟩ | ⟨rfl, g1, g2, g3, hS⟩
    · obtain ⟨BB, M0, Z0, l0, l1, l2⟩ := hS
      by_cases n1 : fo < 256
      · go_wp2_with (refine wpList_mstore rfl _ _ _ rfl zm rfl rfl (m0 := fun _ => 0) M0 Z0 BB (by omega) matT ?_; intro W' BB' M' Z' _ _ _; clear M0 Z0 BB)
        exact bodyPost_ret (results_mat2 Try.results22 matT M' _ rfl rfl) rfl ⟨rfl, BB'⟩
      · by_cases n2 : 16777216 < fo
        · go_wp2_with (refine wpList_mstore rfl _ _ _ rfl zm rfl rfl (m0 := fun _ => 0) M0 Z0 BB (by omega) matT ?_; intro W' BB' M' Z' _ _ _; clear M0 Z0 BB)
          exact bodyPost_ret (results_mat2 Try.results22 matT M' _ rfl rfl) rfl ⟨rfl, BB'⟩
        · go_wp2_with fail
          go_roundw
          case rel => exact .inr (.inl ⟨rfl, ⟨by omega, by omega⟩, BB, M0, Z0, l0, l1, l2⟩)
          case measure => simp [intOf]
    · obtain ⟨BB, M0, Z0, l0, l1, l2⟩ := hS
      have G1 := Lib.hid g1
      clear g1
      by_cases n1 : ra < 256
      · go_wp2_with (refine wpList_mstore rfl _ _ _ rfl zm rfl rfl (m0 := fun _ => 0) M0 Z0 BB (by omega) matT ?_; intro W' BB' M' Z' _ _ _; clear M0 Z0 BB)
        exact bodyPost_ret (results_mat2 Try.results22 matT M' _ rfl rfl) rfl ⟨rfl, BB'⟩
      · by_cases n2 : 16777216 < ra
        · go_wp2_with (refine wpList_mstore rfl _ _ _ rfl zm rfl rfl (m0 := fun _ => 0) M0 Z0 BB (by omega) matT ?_; intro W' BB' M' Z' _ _ _; clear M0 Z0 BB)
          exact bodyPost_ret (results_mat2 Try.results22 matT M' _ rfl rfl) rfl ⟨rfl, BB'⟩
        · go_wp2_with fail
          go_roundw
          case rel => exact .inr (.inr (.inl ⟨rfl, G1.out, ⟨by omega, by omega⟩, BB, M0, Z0, l0, l1, l2⟩))
          case measure => simp [intOf]
    · obtain ⟨BB, M0, Z0, l0, l1, l2⟩ := hS
      have G1 := Lib.hid g1
      clear g1
      have G2 := Lib.hid g2
      clear g2
      by_cases n1 : ne < 256
      · go_wp2_with (refine wpList_mstore rfl _ _ _ rfl zm rfl rfl (m0 := fun _ => 0) M0 Z0 BB (by omega) matT ?_; intro W' BB' M' Z' _ _ _; clear M0 Z0 BB)
        exact bodyPost_ret (results_mat2 Try.results22 matT M' _ rfl rfl) rfl ⟨rfl, BB'⟩
      · by_cases n2 : 16777216 < ne
        · go_wp2_with (refine wpList_mstore rfl _ _ _ rfl zm rfl rfl (m0 := fun _ => 0) M0 Z0 BB (by omega) matT ?_; intro W' BB' M' Z' _ _ _; clear M0 Z0 BB)
          exact bodyPost_ret (results_mat2 Try.results22 matT M' _ rfl rfl) rfl ⟨rfl, BB'⟩
        · go_wp2_with fail
          go_roundw
          case rel => exact .inr (.inr (.inr (⟨rfl, G1.out, G2.out, ⟨by omega, by omega⟩, BB, M0, Z0, l0, l1, l2⟩)))
          case measure => simp [intOf]
    · obtain ⟨BB, M0, Z0, l0, l1, l2⟩ := hS
      have e1 : IntKind.i64.wrap (ne + 256) = ne + 256 := IntWalk.i64_in _ (by obtain ⟨q1, q2⟩ := g3; omega)
      have hc : fa < ne + 256 ∨ (¬ fa < ne + 256 ∧ 268435456 < fa) := by
        by_cases n1 : fa < ne + 256
        · exact .inl n1
        · exact .inr ⟨n1, Decidable.byContradiction fun n2 => HG.out ⟨g1, g2, g3, by omega, by omega⟩⟩
      clear g1 g2 g3 l0 l1 l2
      rcases hc with n1 | ⟨n1, n2⟩
      all_goals
        go_wp2_with (refine wpList_mstore rfl _ _ _ rfl zm rfl rfl (m0 := fun _ => 0) M0 Z0 BB (by omega) matT ?_; intro W' BB' M' Z' _ _ _; clear M0 Z0 BB)
        exact bodyPost_ret (results_mat2 Try.results22 matT M' _ rfl rfl) rfl ⟨rfl, BB'⟩

end Go.Proofs.Ytlchecnencbamaa
