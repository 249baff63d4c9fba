/- WHAT IS PROVED: what bits.Check, Wrap, Promote, Usual, Convert, Compare and Range return for every argument, and Binary for types that are not valid. CONDITIONS: values are int64. -/
import Derived.Test.YtfgmfkiknogdeaaDoorD
namespace Go.Proofs.YtfgmfkiknogdeaaDoor
open Go Go.RowKit Go.QrBits
attribute [local go_sem] reg_cell reg_frozen reg_setCell reg_lt reg_lt_add reg_drew reg_of_drew

set_option maxHeartbeats 1000000 in
set_option maxRecDepth 20000 in
theorem check_c (s : Int) (g : Bool) (w : World) (h : vB s = true) : Calls Tryd.prog 24 #[.agg #[.int .i64 s, .bool g]] w fun e w' => e = .returned (.int .i64 0) ∧ Below w.heap.size w w' := by
  go_enter Tryd.func24, Tryd.ntmps24
  go_wp2_with (go_at_call 44; refine (valid_c _ _ _).mono ?_; rintro e w' ⟨rfl, hq⟩; (first | obtain ⟨p, rfl⟩ := regrown2 hq | obtain ⟨p, rfl⟩ := regrown hq); clear hq)
  go_ret
  exact ⟨rfl, by repeat (first | exact Below.refl _ _ | apply b_alloc | apply b_reg)⟩
set_option maxHeartbeats 1000000 in
set_option maxRecDepth 20000 in
theorem check_no (s : Int) (g : Bool) (w : World) (h : vB s = false) : Calls Tryd.prog 24 #[.agg #[.int .i64 s, .bool g]] w fun e w' => e = .returned (.int .i64 10) ∧ Below w.heap.size w w' := by
  go_enter Tryd.func24, Tryd.ntmps24
  go_wp2_with (go_at_call 44; refine (valid_c _ _ _).mono ?_; rintro e w' ⟨rfl, hq⟩; (first | obtain ⟨p, rfl⟩ := regrown2 hq | obtain ⟨p, rfl⟩ := regrown hq); clear hq)
  go_ret
  exact ⟨rfl, by repeat (first | exact Below.refl _ _ | apply b_alloc | apply b_reg)⟩
set_option maxHeartbeats 1000000 in
set_option maxRecDepth 20000 in
theorem Wrap_c (s : Int) (g : Bool) (v : Int) (w : World) (h : vB s = true) (hv : I64 v) : Calls Tryd.prog 20 #[.agg #[.int .i64 s, .bool g], .int .i64 v] w fun e w' => e = .returned (.tuple #[.int .i64 (wr s g v), .int .i64 0]) ∧ Below w.heap.size w w' := by
  go_enter Tryd.func20, Tryd.ntmps20
  go_wp2_with (first | (go_at_call 44; refine (valid_c _ _ _).mono ?_; rintro e w' ⟨rfl, hq⟩; (first | obtain ⟨p, rfl⟩ := regrown2 hq | obtain ⟨p, rfl⟩ := regrown hq); clear hq) | (go_at_call 45; refine (wrap_c _ _ _ _ (by assumption) (by assumption)).mono ?_; rintro e w' ⟨rfl, hq⟩; (first | obtain ⟨p, rfl⟩ := regrown2 hq | obtain ⟨p, rfl⟩ := regrown hq); clear hq))
  go_returns
  exact ⟨rfl, by repeat (first | exact Below.refl _ _ | apply b_alloc | apply b_reg)⟩
set_option maxHeartbeats 1000000 in
set_option maxRecDepth 20000 in
theorem Wrap_no (s : Int) (g : Bool) (v : Int) (w : World) (h : vB s = false) : Calls Tryd.prog 20 #[.agg #[.int .i64 s, .bool g], .int .i64 v] w fun e w' => e = .returned (.tuple #[.int .i64 0, .int .i64 10]) ∧ Below w.heap.size w w' := by
  go_enter Tryd.func20, Tryd.ntmps20
  go_wp2_with (go_at_call 44; refine (valid_c _ _ _).mono ?_; rintro e w' ⟨rfl, hq⟩; (first | obtain ⟨p, rfl⟩ := regrown2 hq | obtain ⟨p, rfl⟩ := regrown hq); clear hq)
  go_returns
  exact ⟨rfl, by repeat (first | exact Below.refl _ _ | apply b_alloc | apply b_reg)⟩
set_option maxHeartbeats 1000000 in
set_option maxRecDepth 20000 in
theorem Promote_c (s : Int) (g : Bool) (w : World) (hp : PlainAt w) (h : vB s = true) : Calls Tryd.prog 16 #[.agg #[.int .i64 s, .bool g]] w fun e w' => e = .returned (.tuple #[.agg #[.int .i64 (pS s), .bool (pG s g)], .int .i64 0]) ∧ Below w.heap.size w w' := by
  go_enter Tryd.func16, Tryd.ntmps16
  go_wp2_with (first | (go_at_call 44; refine (valid_c _ _ _).mono ?_; rintro e w' ⟨rfl, hq⟩; (first | obtain ⟨p, rfl⟩ := regrown2 hq | obtain ⟨p, rfl⟩ := regrown hq); clear hq) | (go_at_call 48; refine (promoted_c _ _ _ (hp.below (by repeat (first | exact Below.refl _ _ | apply b_alloc | apply b_reg)))).mono ?_; rintro e w' ⟨rfl, hq⟩; (first | obtain ⟨p, rfl⟩ := regrown2 hq | obtain ⟨p, rfl⟩ := regrown hq); clear hq))
  go_returns
  exact ⟨rfl, by repeat (first | exact Below.refl _ _ | apply b_alloc | apply b_reg)⟩
set_option maxHeartbeats 1000000 in
set_option maxRecDepth 20000 in
theorem Promote_no (s : Int) (g : Bool) (w : World) (h : vB s = false) : Calls Tryd.prog 16 #[.agg #[.int .i64 s, .bool g]] w fun e w' => e = .returned (.tuple #[.agg #[.int .i64 0, .bool false], .int .i64 10]) ∧ Below w.heap.size w w' := by
  go_enter Tryd.func16, Tryd.ntmps16
  go_wp2_with (go_at_call 44; refine (valid_c _ _ _).mono ?_; rintro e w' ⟨rfl, hq⟩; (first | obtain ⟨p, rfl⟩ := regrown2 hq | obtain ⟨p, rfl⟩ := regrown hq); clear hq)
  go_returns
  exact ⟨rfl, by repeat (first | exact Below.refl _ _ | apply b_alloc | apply b_reg)⟩
set_option maxHeartbeats 1000000 in
set_option maxRecDepth 20000 in
theorem Usual_c (s1 : Int) (g1 : Bool) (s2 : Int) (g2 : Bool) (w : World) (hp : PlainAt w) (h1 : vB s1 = true) (h2 : vB s2 = true) : Calls Tryd.prog 18 #[.agg #[.int .i64 s1, .bool g1], .agg #[.int .i64 s2, .bool g2]] w fun e w' => e = .returned (.tuple #[.agg #[.int .i64 (cS s1 g1 s2), .bool (cG s1 g1 s2 g2)], .int .i64 0]) ∧ Below w.heap.size w w' := by
  go_enter Tryd.func18, Tryd.ntmps18
  go_wp2_with (first | (go_at_call 44; refine (valid_c _ _ _).mono ?_; rintro e w' ⟨rfl, hq⟩; (first | obtain ⟨p, rfl⟩ := regrown2 hq | obtain ⟨p, rfl⟩ := regrown hq); clear hq) | (go_at_call 50; refine (common_c _ _ _ _ _ (hp.below (by repeat (first | exact Below.refl _ _ | apply b_alloc | apply b_reg)))).mono ?_; rintro e w' ⟨rfl, hq⟩; (first | obtain ⟨p, rfl⟩ := regrown2 hq | obtain ⟨p, rfl⟩ := regrown hq); clear hq))
  go_returns
  exact ⟨rfl, by repeat (first | exact Below.refl _ _ | apply b_alloc | apply b_reg)⟩
set_option maxHeartbeats 1000000 in
set_option maxRecDepth 20000 in
theorem Usual_no1 (s1 : Int) (g1 : Bool) (s2 : Int) (g2 : Bool) (w : World) (h1 : vB s1 = false) : Calls Tryd.prog 18 #[.agg #[.int .i64 s1, .bool g1], .agg #[.int .i64 s2, .bool g2]] w fun e w' => e = .returned (.tuple #[.agg #[.int .i64 0, .bool false], .int .i64 10]) ∧ Below w.heap.size w w' := by
  go_enter Tryd.func18, Tryd.ntmps18
  go_wp2_with (go_at_call 44; refine (valid_c _ _ _).mono ?_; rintro e w' ⟨rfl, hq⟩; (first | obtain ⟨p, rfl⟩ := regrown2 hq | obtain ⟨p, rfl⟩ := regrown hq); clear hq)
  go_returns
  exact ⟨rfl, by repeat (first | exact Below.refl _ _ | apply b_alloc | apply b_reg)⟩
set_option maxHeartbeats 1000000 in
set_option maxRecDepth 20000 in
theorem Usual_no2 (s1 : Int) (g1 : Bool) (s2 : Int) (g2 : Bool) (w : World) (h1 : vB s1 = true) (h2 : vB s2 = false) : Calls Tryd.prog 18 #[.agg #[.int .i64 s1, .bool g1], .agg #[.int .i64 s2, .bool g2]] w fun e w' => e = .returned (.tuple #[.agg #[.int .i64 0, .bool false], .int .i64 10]) ∧ Below w.heap.size w w' := by
  go_enter Tryd.func18, Tryd.ntmps18
  go_wp2_with (go_at_call 44; refine (valid_c _ _ _).mono ?_; rintro e w' ⟨rfl, hq⟩; (first | obtain ⟨p, rfl⟩ := regrown2 hq | obtain ⟨p, rfl⟩ := regrown hq); clear hq)
  go_returns
  exact ⟨rfl, by repeat (first | exact Below.refl _ _ | apply b_alloc | apply b_reg)⟩
set_option maxHeartbeats 1000000 in
set_option maxRecDepth 20000 in
theorem Convert_c (s1 : Int) (g1 : Bool) (s2 : Int) (g2 : Bool) (v : Int) (w : World) (h1 : vB s1 = true) (h2 : vB s2 = true) (hv : I64 v) : Calls Tryd.prog 22 #[.agg #[.int .i64 s1, .bool g1], .agg #[.int .i64 s2, .bool g2], .int .i64 v] w fun e w' => e = .returned (.tuple #[.int .i64 (wr s2 g2 (wr s1 g1 v)), .int .i64 0]) ∧ Below w.heap.size w w' := by
  have hv1 := wr_I64 (g := g1) h1 hv
  go_enter Tryd.func22, Tryd.ntmps22
  go_wp2_with (go_at_call 44; refine (valid_c _ _ _).mono ?_; rintro e w' ⟨rfl, hq⟩; (first | obtain ⟨p, rfl⟩ := regrown2 hq | obtain ⟨p, rfl⟩ := regrown hq); clear hq)
  with_reducible refine wp_quietR (by kernel_rfl) (by kernel_rfl) ?_
  repeat (quiet_step (((go_at_call 45; exact reg_call (wrap_c _ _ _ _ (by assumption) (by assumption))))))
  refine wpQuiet_nil ?_
  intro _ hw'; obtain ⟨p, rfl⟩ := hw'
  go_wp2
  go_returns
  exact ⟨rfl, by repeat (first | exact Below.refl _ _ | apply b_alloc | apply b_reg)⟩
set_option maxHeartbeats 1000000 in
set_option maxRecDepth 20000 in
theorem Convert_no1 (s1 : Int) (g1 : Bool) (s2 : Int) (g2 : Bool) (v : Int) (w : World) (h1 : vB s1 = false) : Calls Tryd.prog 22 #[.agg #[.int .i64 s1, .bool g1], .agg #[.int .i64 s2, .bool g2], .int .i64 v] w fun e w' => e = .returned (.tuple #[.int .i64 0, .int .i64 10]) ∧ Below w.heap.size w w' := by
  go_enter Tryd.func22, Tryd.ntmps22
  go_wp2_with (go_at_call 44; refine (valid_c _ _ _).mono ?_; rintro e w' ⟨rfl, hq⟩; (first | obtain ⟨p, rfl⟩ := regrown2 hq | obtain ⟨p, rfl⟩ := regrown hq); clear hq)
  go_returns
  exact ⟨rfl, by repeat (first | exact Below.refl _ _ | apply b_alloc | apply b_reg)⟩
set_option maxHeartbeats 1000000 in
set_option maxRecDepth 20000 in
theorem Convert_no2 (s1 : Int) (g1 : Bool) (s2 : Int) (g2 : Bool) (v : Int) (w : World) (h1 : vB s1 = true) (h2 : vB s2 = false) : Calls Tryd.prog 22 #[.agg #[.int .i64 s1, .bool g1], .agg #[.int .i64 s2, .bool g2], .int .i64 v] w fun e w' => e = .returned (.tuple #[.int .i64 0, .int .i64 10]) ∧ Below w.heap.size w w' := by
  go_enter Tryd.func22, Tryd.ntmps22
  go_wp2_with (go_at_call 44; refine (valid_c _ _ _).mono ?_; rintro e w' ⟨rfl, hq⟩; (first | obtain ⟨p, rfl⟩ := regrown2 hq | obtain ⟨p, rfl⟩ := regrown hq); clear hq)
  go_returns
  exact ⟨rfl, by repeat (first | exact Below.refl _ _ | apply b_alloc | apply b_reg)⟩
set_option maxHeartbeats 1000000 in
set_option maxRecDepth 20000 in
theorem Compare_c (s : Int) (g : Bool) (a b : Int) (w : World) (h : vB s = true) (ha : I64 a) (hb : I64 b) : Calls Tryd.prog 30 #[.agg #[.int .i64 s, .bool g], .int .i64 a, .int .i64 b] w fun e w' => e = .returned (.tuple #[.int .i64 (ordV g (wr s g a) (wr s g b)), .int .i64 0]) ∧ Below w.heap.size w w' := by
  go_enter Tryd.func30, Tryd.ntmps30
  go_wp2_with (go_at_call 44; refine (valid_c _ _ _).mono ?_; rintro e w' ⟨rfl, hq⟩; (first | obtain ⟨p, rfl⟩ := regrown2 hq | obtain ⟨p, rfl⟩ := regrown hq); clear hq)
  with_reducible refine wp_quietR (by kernel_rfl) (by kernel_rfl) ?_
  repeat (quiet_step ((first | (go_at_call 45; exact reg_call (wrap_c _ _ _ _ (by assumption) (by assumption))) | (go_at_call 60; exact reg_call (order_c _ _ _ _ _)))))
  refine wpQuiet_nil ?_
  intro _ hw'; obtain ⟨p, rfl⟩ := hw'
  go_wp2
  go_returns
  exact ⟨rfl, by repeat (first | exact Below.refl _ _ | apply b_alloc | apply b_reg)⟩
set_option maxHeartbeats 1000000 in
set_option maxRecDepth 20000 in
theorem Compare_no (s : Int) (g : Bool) (a b : Int) (w : World) (h : vB s = false) : Calls Tryd.prog 30 #[.agg #[.int .i64 s, .bool g], .int .i64 a, .int .i64 b] w fun e w' => e = .returned (.tuple #[.int .i64 0, .int .i64 10]) ∧ Below w.heap.size w w' := by
  go_enter Tryd.func30, Tryd.ntmps30
  go_wp2_with (go_at_call 44; refine (valid_c _ _ _).mono ?_; rintro e w' ⟨rfl, hq⟩; (first | obtain ⟨p, rfl⟩ := regrown2 hq | obtain ⟨p, rfl⟩ := regrown hq); clear hq)
  go_returns
  exact ⟨rfl, by repeat (first | exact Below.refl _ _ | apply b_alloc | apply b_reg)⟩
theorem I64_m1 : I64 (-1) := by unfold I64; omega
/-- The least value of a signed type. -/
def loV (s : Int) : Int := -(2 ^ (8 * s - 1).toNat)
set_option maxHeartbeats 1000000 in
set_option maxRecDepth 20000 in
theorem Range_u (s : Int) (w : World) (h : vB s = true) : Calls Tryd.prog 14 #[.agg #[.int .i64 s, .bool false]] w fun e w' => e = .returned (.tuple #[.int .i64 0, .int .i64 (wr s false (-1)), .int .i64 0]) ∧ Below w.heap.size w w' := by
  have hm := I64_m1
  go_enter Tryd.func14, Tryd.ntmps14
  go_wp2_with (first | (go_at_call 44; refine (valid_c _ _ _).mono ?_; rintro e w' ⟨rfl, hq⟩; (first | obtain ⟨p, rfl⟩ := regrown2 hq | obtain ⟨p, rfl⟩ := regrown hq); clear hq) | (go_at_call 45; refine (wrap_c _ _ _ _ (by assumption) (by assumption)).mono ?_; rintro e w' ⟨rfl, hq⟩; (first | obtain ⟨p, rfl⟩ := regrown2 hq | obtain ⟨p, rfl⟩ := regrown hq); clear hq))
  go_returns
  exact ⟨rfl, by repeat (first | exact Below.refl _ _ | apply b_alloc | apply b_reg)⟩
set_option maxHeartbeats 1000000 in
set_option maxRecDepth 20000 in
theorem Range_no (s : Int) (g : Bool) (w : World) (h : vB s = false) : Calls Tryd.prog 14 #[.agg #[.int .i64 s, .bool g]] w fun e w' => e = .returned (.tuple #[.int .i64 0, .int .i64 0, .int .i64 10]) ∧ Below w.heap.size w w' := by
  go_enter Tryd.func14, Tryd.ntmps14
  go_wp2_with (go_at_call 44; refine (valid_c _ _ _).mono ?_; rintro e w' ⟨rfl, hq⟩; (first | obtain ⟨p, rfl⟩ := regrown2 hq | obtain ⟨p, rfl⟩ := regrown hq); clear hq)
  go_returns
  exact ⟨rfl, by repeat (first | exact Below.refl _ _ | apply b_alloc | apply b_reg)⟩
set_option maxHeartbeats 1000000 in
set_option maxRecDepth 20000 in
theorem Range_1 (w : World) : Calls Tryd.prog 14 #[.agg #[.int .i64 1, .bool true]] w fun e w' => e = .returned (.tuple #[.int .i64 (-128), .int .i64 127, .int .i64 0]) ∧ Below w.heap.size w w' := by
  have h : vB 1 = true := rfl
  go_enter Tryd.func14, Tryd.ntmps14
  go_wp2_with (first | (go_at_call 44; refine (valid_c _ _ _).mono ?_; rintro e w' ⟨rfl, hq⟩; (first | obtain ⟨p, rfl⟩ := regrown2 hq | obtain ⟨p, rfl⟩ := regrown hq); clear hq) | (go_at_call 46; refine (width_c _ _ _ (by assumption)).mono ?_; rintro e w' ⟨rfl, hq⟩; (first | obtain ⟨p, rfl⟩ := regrown2 hq | obtain ⟨p, rfl⟩ := regrown hq); clear hq))
  go_returns
  exact ⟨rfl, by repeat (first | exact Below.refl _ _ | apply b_alloc | apply b_reg)⟩
set_option maxHeartbeats 1000000 in
set_option maxRecDepth 20000 in
theorem Range_2 (w : World) : Calls Tryd.prog 14 #[.agg #[.int .i64 2, .bool true]] w fun e w' => e = .returned (.tuple #[.int .i64 (-32768), .int .i64 32767, .int .i64 0]) ∧ Below w.heap.size w w' := by
  have h : vB 2 = true := rfl
  go_enter Tryd.func14, Tryd.ntmps14
  go_wp2_with (first | (go_at_call 44; refine (valid_c _ _ _).mono ?_; rintro e w' ⟨rfl, hq⟩; (first | obtain ⟨p, rfl⟩ := regrown2 hq | obtain ⟨p, rfl⟩ := regrown hq); clear hq) | (go_at_call 46; refine (width_c _ _ _ (by assumption)).mono ?_; rintro e w' ⟨rfl, hq⟩; (first | obtain ⟨p, rfl⟩ := regrown2 hq | obtain ⟨p, rfl⟩ := regrown hq); clear hq))
  go_returns
  exact ⟨rfl, by repeat (first | exact Below.refl _ _ | apply b_alloc | apply b_reg)⟩
set_option maxHeartbeats 1000000 in
set_option maxRecDepth 20000 in
theorem Range_4 (w : World) : Calls Tryd.prog 14 #[.agg #[.int .i64 4, .bool true]] w fun e w' => e = .returned (.tuple #[.int .i64 (-2147483648), .int .i64 2147483647, .int .i64 0]) ∧ Below w.heap.size w w' := by
  have h : vB 4 = true := rfl
  go_enter Tryd.func14, Tryd.ntmps14
  go_wp2_with (first | (go_at_call 44; refine (valid_c _ _ _).mono ?_; rintro e w' ⟨rfl, hq⟩; (first | obtain ⟨p, rfl⟩ := regrown2 hq | obtain ⟨p, rfl⟩ := regrown hq); clear hq) | (go_at_call 46; refine (width_c _ _ _ (by assumption)).mono ?_; rintro e w' ⟨rfl, hq⟩; (first | obtain ⟨p, rfl⟩ := regrown2 hq | obtain ⟨p, rfl⟩ := regrown hq); clear hq))
  go_returns
  exact ⟨rfl, by repeat (first | exact Below.refl _ _ | apply b_alloc | apply b_reg)⟩
set_option maxHeartbeats 1000000 in
set_option maxRecDepth 20000 in
theorem Range_8 (w : World) : Calls Tryd.prog 14 #[.agg #[.int .i64 8, .bool true]] w fun e w' => e = .returned (.tuple #[.int .i64 (-9223372036854775808), .int .i64 9223372036854775807, .int .i64 0]) ∧ Below w.heap.size w w' := by
  have h : vB 8 = true := rfl
  go_enter Tryd.func14, Tryd.ntmps14
  go_wp2_with (first | (go_at_call 44; refine (valid_c _ _ _).mono ?_; rintro e w' ⟨rfl, hq⟩; (first | obtain ⟨p, rfl⟩ := regrown2 hq | obtain ⟨p, rfl⟩ := regrown hq); clear hq) | (go_at_call 46; refine (width_c _ _ _ (by assumption)).mono ?_; rintro e w' ⟨rfl, hq⟩; (first | obtain ⟨p, rfl⟩ := regrown2 hq | obtain ⟨p, rfl⟩ := regrown hq); clear hq))
  go_returns
  exact ⟨rfl, by repeat (first | exact Below.refl _ _ | apply b_alloc | apply b_reg)⟩
set_option maxHeartbeats 2000000 in
set_option maxRecDepth 100000 in
theorem bin_no1 (op s1 : Int) (g1 : Bool) (a s2 : Int) (g2 : Bool) (b : Int) (w : World) (h1 : vB s1 = false) : Calls Tryd.prog 28 #[.int .i64 op, .agg #[.int .i64 s1, .bool g1], .int .i64 a, .agg #[.int .i64 s2, .bool g2], .int .i64 b] w fun e w' => e = .returned (.tuple #[.agg #[.int .i64 0, .bool false], .int .i64 0, .int .i64 10]) ∧ Below w.heap.size w w' := by
  go_enter Tryd.func28, Tryd.ntmps28
  go_wp2_with (go_at_call 44; refine (valid_c _ _ _).mono ?_; rintro e w' ⟨rfl, hq⟩; (first | obtain ⟨p, rfl⟩ := regrown2 hq | obtain ⟨p, rfl⟩ := regrown hq); clear hq)
  go_returns
  exact ⟨rfl, by repeat (first | exact Below.refl _ _ | apply b_alloc | apply b_reg)⟩
set_option maxHeartbeats 2000000 in
set_option maxRecDepth 100000 in
theorem bin_no2 (op s1 : Int) (g1 : Bool) (a s2 : Int) (g2 : Bool) (b : Int) (w : World) (h1 : vB s1 = true) (h2 : vB s2 = false) : Calls Tryd.prog 28 #[.int .i64 op, .agg #[.int .i64 s1, .bool g1], .int .i64 a, .agg #[.int .i64 s2, .bool g2], .int .i64 b] w fun e w' => e = .returned (.tuple #[.agg #[.int .i64 0, .bool false], .int .i64 0, .int .i64 10]) ∧ Below w.heap.size w w' := by
  go_enter Tryd.func28, Tryd.ntmps28
  go_wp2_with (go_at_call 44; refine (valid_c _ _ _).mono ?_; rintro e w' ⟨rfl, hq⟩; (first | obtain ⟨p, rfl⟩ := regrown2 hq | obtain ⟨p, rfl⟩ := regrown hq); clear hq)
  go_returns
  exact ⟨rfl, by repeat (first | exact Below.refl _ _ | apply b_alloc | apply b_reg)⟩
end Go.Proofs.YtfgmfkiknogdeaaDoor
