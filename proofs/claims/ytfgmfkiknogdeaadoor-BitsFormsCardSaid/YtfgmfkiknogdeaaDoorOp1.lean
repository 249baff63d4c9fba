/- WHAT IS PROVED: the reference's Order, quotient, truth, arithmetic and shifted. CONDITIONS: int64 operands; the package variable 'promoted' holds what its initialiser lays. -/
import Derived.Test.YtfgmfkiknogdeaaDoorRa
import Derived.Test.YtfgmfkiknogdeaaDoorSh
namespace Go.Proofs.YtfgmfkiknogdeaaDoor
open Go Go.RowKit Go.QrBits
attribute [local go_sem] reg_cell reg_frozen reg_setCell reg_lt reg_lt_add reg_drew reg_of_drew

theorem cmp_l {a b : Int} (h : a < b) : cmpV a b = -1 := by unfold cmpV; rw [if_pos h]
theorem cmp_g {a b : Int} (h : b < a) : cmpV a b = 1 := by unfold cmpV; rw [if_neg (by omega), if_pos h]
theorem cmp_e {a b : Int} (h1 : ¬ a < b) (h2 : ¬ b < a) : cmpV a b = 0 := by unfold cmpV; rw [if_neg h1, if_neg h2]
theorem ord_f {a b : Int} (ha : I64 a) (hb : I64 b) : ordV false a b = if (decide (a < 0) != decide (b < 0)) then cmpV b a else cmpV a b := by
  unfold I64 at ha hb
  show cmpV (uN a) (uN b) = _
  by_cases h1 : a < 0 <;> by_cases h2 : b < 0 <;> simp only [h1, h2, decide_true, decide_false, bne_self_eq_false, Bool.false_eq_true, if_false, Bool.true_bne, Bool.false_bne, Bool.not_false, if_true] <;> unfold cmpV uN <;> repeat' split
  all_goals first | rfl | omega
set_option maxHeartbeats 2000000 in
set_option maxRecDepth 20000 in
theorem rOrder_t (s : Int) (a b : Int) (w : World) : Calls Tryd.prog 62 #[.agg #[.int .i64 s, .bool true], .int .i64 a, .int .i64 b] w fun e w' => e = .returned (.int .i64 (ordV true a b)) ∧ Below w.heap.size w w' := by
  show Calls _ _ _ _ fun e w' => e = .returned (.int .i64 (cmpV a b)) ∧ _
  by_cases h3 : a < b
  · rw [cmp_l h3]; go_enter Tryd.func62, Tryd.ntmps62; go_wp2; go_ret; exact ⟨rfl, by go_grown⟩
  by_cases h4 : b < a
  · rw [cmp_g h4]; go_enter Tryd.func62, Tryd.ntmps62; go_wp2; go_ret; exact ⟨rfl, by go_grown⟩
  · rw [cmp_e h3 h4]; go_enter Tryd.func62, Tryd.ntmps62; go_wp2; go_ret; exact ⟨rfl, by go_grown⟩
set_option maxHeartbeats 2000000 in
set_option maxRecDepth 20000 in
theorem rOrder_f (s : Int) (a b : Int) (w : World) (ha : I64 a) (hb : I64 b) : Calls Tryd.prog 62 #[.agg #[.int .i64 s, .bool false], .int .i64 a, .int .i64 b] w fun e w' => e = .returned (.int .i64 (ordV false a b)) ∧ Below w.heap.size w w' := by
  rw [ord_f ha hb]
  clear ha hb
  by_cases h1 : a < 0 <;> by_cases h2 : b < 0 <;> by_cases h3 : a < b <;> by_cases h4 : b < a
  all_goals first | (exfalso; omega) | skip
  all_goals
    simp only [h1, h2, decide_true, decide_false, bne_self_eq_false, Bool.false_eq_true, if_false, Bool.true_bne, Bool.false_bne, Bool.not_false, if_true]
    first | rw [cmp_l h3] | rw [cmp_l h4] | rw [cmp_g h3] | rw [cmp_g h4] | rw [cmp_e h3 h4] | rw [cmp_e h4 h3]
    go_enter Tryd.func62, Tryd.ntmps62; go_wp2; go_ret; exact ⟨rfl, by go_grown⟩
theorem rOrder_c (s : Int) (g : Bool) (a b : Int) (w : World) (ha : I64 a) (hb : I64 b) : Calls Tryd.prog 62 #[.agg #[.int .i64 s, .bool g], .int .i64 a, .int .i64 b] w fun e w' => e = .returned (.int .i64 (ordV g a b)) ∧ Below w.heap.size w w' := by
  cases g
  · exact rOrder_f s a b w ha hb
  · exact rOrder_t s a b w
theorem i64_w64 (x : Int) : IntKind.i64.wrap x = wrap64 x := by rw [IntKind.wrap_i64]; unfold wrap64; omega
theorem quo_m1 (a : Int) : qV true a (-1) = wrap64 (-a) := by unfold qV; rw [if_pos rfl, Int.tdiv_neg, Int.tdiv_one]
theorem rem_m1 (a : Int) : rV true a (-1) = 0 := by unfold rV; rw [if_pos rfl]; simp [Int.tmod_neg]
set_option maxHeartbeats 2000000 in
set_option maxRecDepth 20000 in
theorem rquot_c (s : Int) (g : Bool) (a b : Int) (w : World) (hb : I64 b) (h0 : ¬ b = 0) : Calls Tryd.prog 100 #[.agg #[.int .i64 s, .bool g], .int .i64 a, .int .i64 b] w fun e w' => e = .returned (.tuple #[.int .i64 (qV g a b), .int .i64 (rV g a b)]) ∧ Below w.heap.size w w' := by
  have h2 := uN_ne hb h0
  cases g
  · go_enter Tryd.func100, Tryd.ntmps100
    go_wp2_with fail
    refine wp_quiet (by kernel_rfl) (by kernel_rfl) ?_
    repeat (quiet_step (fail))
    refine wpQuiet_nil ?_
    intro _ hw'; obtain ⟨p, rfl⟩ := hw'
    go_wp2
    go_ret2
    exact ⟨by simp [qV, rV, u64_uN, tdiv_uN, tmod_uN, i64_w64], by repeat (first | exact Below.refl _ _ | apply b_alloc | apply b_reg)⟩
  · by_cases h1 : b = -1
    · subst h1
      rw [quo_m1, rem_m1]
      go_enter Tryd.func100, Tryd.ntmps100
      go_wp2
      go_ret2
      exact ⟨rfl, by go_grown⟩
    · have h1 : (b == -1) = false := beq_eq_false_iff_ne.2 h1
      go_enter Tryd.func100, Tryd.ntmps100
      go_wp2_with fail
      refine wp_quiet (by kernel_rfl) (by kernel_rfl) ?_
      repeat (quiet_step (fail))
      refine wpQuiet_nil ?_
      intro _ hw'; obtain ⟨p, rfl⟩ := hw'
      go_wp2
      go_ret2
      refine ⟨?_, by repeat (first | exact Below.refl _ _ | apply b_alloc | apply b_reg)⟩
      show Ending.returned (.tuple #[.int .i64 (IntKind.i64.wrap (a.tdiv b)), .int .i64 (a.tmod b)]) = _
      rw [i64_w64]; rfl
set_option maxHeartbeats 2000000 in
set_option maxRecDepth 20000 in
theorem rtruth_c (x : Bool) (w : World) (hr : PromAt w) : Calls Tryd.prog 54 #[.bool x] w fun e w' => e = .returned (.agg #[.int .i64 4, .bool true, .int .i64 (tV x), .int .i64 0]) ∧ Below w.heap.size w w' := by
  cases x
  all_goals
    go_enter Tryd.func54, Tryd.ntmps54
    go_wp2_with (go_at_call 42; refine (I4_c _ (hr.below (by repeat (first | exact Below.refl _ _ | apply b_alloc | apply b_reg)))).mono ?_; rintro e w' ⟨rfl, hq⟩; (first | obtain ⟨p, rfl⟩ := regrown2 hq | obtain ⟨p, rfl⟩ := regrown hq); clear hq)
    go_returns
    exact ⟨rfl, by repeat (first | exact Below.refl _ _ | apply b_alloc | apply b_reg)⟩
set_option maxHeartbeats 2000000 in
set_option maxRecDepth 20000 in
theorem rarith_1 (s : Int) (g : Bool) (a b : Int) (w : World) (h : vB s = true) : Calls Tryd.prog 63 #[.int .i64 1, .agg #[.int .i64 s, .bool g], .int .i64 a, .int .i64 b] w fun e w' => e = .returned (.agg #[.int .i64 s, .bool g, .int .i64 (wr s g (wrap64 (a + b))), .int .i64 0]) ∧ Below w.heap.size w w' := by

  go_enter Tryd.func63, Tryd.ntmps63
  go_wp2_with fail
  with_reducible refine wp_quiet_tail 5 (by kernel_rfl) (by kernel_rfl) ?_
  simp only [List.take_succ_cons, List.take_zero, List.drop_succ_cons, List.drop_zero]
  repeat (quiet_step ((go_at_call 47; exact reg_call (rWrapped_c _ _ _ _ h))))
  refine wpQuiet_nil ?_
  intro _ hw'; obtain ⟨p, rfl⟩ := hw'
  go_wp2
  go_returns
  exact ⟨rfl, by repeat (first | exact Below.refl _ _ | apply b_alloc | apply b_reg)⟩
set_option maxHeartbeats 2000000 in
set_option maxRecDepth 20000 in
theorem rarith_2 (s : Int) (g : Bool) (a b : Int) (w : World) (h : vB s = true) : Calls Tryd.prog 63 #[.int .i64 2, .agg #[.int .i64 s, .bool g], .int .i64 a, .int .i64 b] w fun e w' => e = .returned (.agg #[.int .i64 s, .bool g, .int .i64 (wr s g (wrap64 (a - b))), .int .i64 0]) ∧ Below w.heap.size w w' := by

  go_enter Tryd.func63, Tryd.ntmps63
  go_wp2_with fail
  with_reducible refine wp_quiet_tail 5 (by kernel_rfl) (by kernel_rfl) ?_
  simp only [List.take_succ_cons, List.take_zero, List.drop_succ_cons, List.drop_zero]
  repeat (quiet_step ((go_at_call 47; exact reg_call (rWrapped_c _ _ _ _ h))))
  refine wpQuiet_nil ?_
  intro _ hw'; obtain ⟨p, rfl⟩ := hw'
  go_wp2
  go_returns
  exact ⟨rfl, by repeat (first | exact Below.refl _ _ | apply b_alloc | apply b_reg)⟩
set_option maxHeartbeats 2000000 in
set_option maxRecDepth 20000 in
theorem rarith_3 (s : Int) (g : Bool) (a b : Int) (w : World) (h : vB s = true) : Calls Tryd.prog 63 #[.int .i64 3, .agg #[.int .i64 s, .bool g], .int .i64 a, .int .i64 b] w fun e w' => e = .returned (.agg #[.int .i64 s, .bool g, .int .i64 (wr s g (wrap64 (a * b))), .int .i64 0]) ∧ Below w.heap.size w w' := by

  go_enter Tryd.func63, Tryd.ntmps63
  go_wp2_with fail
  with_reducible refine wp_quiet_tail 5 (by kernel_rfl) (by kernel_rfl) ?_
  simp only [List.take_succ_cons, List.take_zero, List.drop_succ_cons, List.drop_zero]
  repeat (quiet_step ((go_at_call 47; exact reg_call (rWrapped_c _ _ _ _ h))))
  refine wpQuiet_nil ?_
  intro _ hw'; obtain ⟨p, rfl⟩ := hw'
  go_wp2
  go_returns
  exact ⟨rfl, by repeat (first | exact Below.refl _ _ | apply b_alloc | apply b_reg)⟩
set_option maxHeartbeats 2000000 in
set_option maxRecDepth 20000 in
theorem rarith_6 (s : Int) (g : Bool) (a b : Int) (w : World) (h : vB s = true) : Calls Tryd.prog 63 #[.int .i64 6, .agg #[.int .i64 s, .bool g], .int .i64 a, .int .i64 b] w fun e w' => e = .returned (.agg #[.int .i64 s, .bool g, .int .i64 (wr s g (bits .and .i64 a b)), .int .i64 0]) ∧ Below w.heap.size w w' := by

  go_enter Tryd.func63, Tryd.ntmps63
  go_wp2_with fail
  with_reducible refine wp_quiet_tail 5 (by kernel_rfl) (by kernel_rfl) ?_
  simp only [List.take_succ_cons, List.take_zero, List.drop_succ_cons, List.drop_zero]
  repeat (quiet_step ((go_at_call 47; exact reg_call (rWrapped_c _ _ _ _ h))))
  refine wpQuiet_nil ?_
  intro _ hw'; obtain ⟨p, rfl⟩ := hw'
  go_wp2
  go_returns
  exact ⟨rfl, by repeat (first | exact Below.refl _ _ | apply b_alloc | apply b_reg)⟩
set_option maxHeartbeats 2000000 in
set_option maxRecDepth 20000 in
theorem rarith_7 (s : Int) (g : Bool) (a b : Int) (w : World) (h : vB s = true) : Calls Tryd.prog 63 #[.int .i64 7, .agg #[.int .i64 s, .bool g], .int .i64 a, .int .i64 b] w fun e w' => e = .returned (.agg #[.int .i64 s, .bool g, .int .i64 (wr s g (bits .or .i64 a b)), .int .i64 0]) ∧ Below w.heap.size w w' := by

  go_enter Tryd.func63, Tryd.ntmps63
  go_wp2_with fail
  with_reducible refine wp_quiet_tail 5 (by kernel_rfl) (by kernel_rfl) ?_
  simp only [List.take_succ_cons, List.take_zero, List.drop_succ_cons, List.drop_zero]
  repeat (quiet_step ((go_at_call 47; exact reg_call (rWrapped_c _ _ _ _ h))))
  refine wpQuiet_nil ?_
  intro _ hw'; obtain ⟨p, rfl⟩ := hw'
  go_wp2
  go_returns
  exact ⟨rfl, by repeat (first | exact Below.refl _ _ | apply b_alloc | apply b_reg)⟩
set_option maxHeartbeats 2000000 in
set_option maxRecDepth 20000 in
theorem rarith_8 (s : Int) (g : Bool) (a b : Int) (w : World) (h : vB s = true) : Calls Tryd.prog 63 #[.int .i64 8, .agg #[.int .i64 s, .bool g], .int .i64 a, .int .i64 b] w fun e w' => e = .returned (.agg #[.int .i64 s, .bool g, .int .i64 (wr s g (bits .xor .i64 a b)), .int .i64 0]) ∧ Below w.heap.size w w' := by

  go_enter Tryd.func63, Tryd.ntmps63
  go_wp2_with fail
  with_reducible refine wp_quiet_tail 5 (by kernel_rfl) (by kernel_rfl) ?_
  simp only [List.take_succ_cons, List.take_zero, List.drop_succ_cons, List.drop_zero]
  repeat (quiet_step ((go_at_call 47; exact reg_call (rWrapped_c _ _ _ _ h))))
  refine wpQuiet_nil ?_
  intro _ hw'; obtain ⟨p, rfl⟩ := hw'
  go_wp2
  go_returns
  exact ⟨rfl, by repeat (first | exact Below.refl _ _ | apply b_alloc | apply b_reg)⟩
set_option maxHeartbeats 2000000 in
set_option maxRecDepth 20000 in
theorem rarith_4 (s : Int) (g : Bool) (a b : Int) (w : World) (h : vB s = true) (hb : I64 b) (h0 : ¬ b = 0) : Calls Tryd.prog 63 #[.int .i64 4, .agg #[.int .i64 s, .bool g], .int .i64 a, .int .i64 b] w fun e w' => e = .returned (.agg #[.int .i64 s, .bool g, .int .i64 (wr s g (qV g a b)), .int .i64 0]) ∧ Below w.heap.size w w' := by
  have h1 : (b == 0) = false := beq_eq_false_iff_ne.2 h0
  go_enter Tryd.func63, Tryd.ntmps63
  go_wp2_with (go_at_call 100; refine (rquot_c s g a b _ hb h0).mono ?_; rintro e w' ⟨rfl, hq⟩; (first | obtain ⟨p, rfl⟩ := regrown2 hq | obtain ⟨p, rfl⟩ := regrown hq); clear hq)
  with_reducible refine wp_quiet_tailR 5 (by kernel_rfl) (by kernel_rfl) ?_
  simp only [List.take_succ_cons, List.take_zero, List.drop_succ_cons, List.drop_zero]
  repeat (quiet_step ((go_at_call 47; exact reg_call (rWrapped_c _ _ _ _ h))))
  refine wpQuiet_nil ?_
  intro _ hw'; obtain ⟨p, rfl⟩ := hw'
  go_wp2
  go_returns
  exact ⟨rfl, by repeat (first | exact Below.refl _ _ | apply b_alloc | apply b_reg)⟩
set_option maxHeartbeats 2000000 in
set_option maxRecDepth 20000 in
theorem rarith_5 (s : Int) (g : Bool) (a b : Int) (w : World) (h : vB s = true) (hb : I64 b) (h0 : ¬ b = 0) : Calls Tryd.prog 63 #[.int .i64 5, .agg #[.int .i64 s, .bool g], .int .i64 a, .int .i64 b] w fun e w' => e = .returned (.agg #[.int .i64 s, .bool g, .int .i64 (wr s g (rV g a b)), .int .i64 0]) ∧ Below w.heap.size w w' := by
  have h1 : (b == 0) = false := beq_eq_false_iff_ne.2 h0
  go_enter Tryd.func63, Tryd.ntmps63
  go_wp2_with (go_at_call 100; refine (rquot_c s g a b _ hb h0).mono ?_; rintro e w' ⟨rfl, hq⟩; (first | obtain ⟨p, rfl⟩ := regrown2 hq | obtain ⟨p, rfl⟩ := regrown hq); clear hq)
  with_reducible refine wp_quiet_tailR 5 (by kernel_rfl) (by kernel_rfl) ?_
  simp only [List.take_succ_cons, List.take_zero, List.drop_succ_cons, List.drop_zero]
  repeat (quiet_step ((go_at_call 47; exact reg_call (rWrapped_c _ _ _ _ h))))
  refine wpQuiet_nil ?_
  intro _ hw'; obtain ⟨p, rfl⟩ := hw'
  go_wp2
  go_returns
  exact ⟨rfl, by repeat (first | exact Below.refl _ _ | apply b_alloc | apply b_reg)⟩
set_option maxHeartbeats 2000000 in
set_option maxRecDepth 20000 in
theorem rarith_4z (s : Int) (g : Bool) (a : Int) (w : World) : Calls Tryd.prog 63 #[.int .i64 4, .agg #[.int .i64 s, .bool g], .int .i64 a, .int .i64 0] w fun e w' => e = .returned (.agg #[.int .i64 0, .bool false, .int .i64 0, .int .i64 12]) ∧ Below w.heap.size w w' := by
  go_enter Tryd.func63, Tryd.ntmps63
  go_wp2
  go_returns
  exact ⟨rfl, by repeat (first | exact Below.refl _ _ | apply b_alloc | apply b_reg)⟩
set_option maxHeartbeats 2000000 in
set_option maxRecDepth 20000 in
theorem rarith_5z (s : Int) (g : Bool) (a : Int) (w : World) : Calls Tryd.prog 63 #[.int .i64 5, .agg #[.int .i64 s, .bool g], .int .i64 a, .int .i64 0] w fun e w' => e = .returned (.agg #[.int .i64 0, .bool false, .int .i64 0, .int .i64 12]) ∧ Below w.heap.size w w' := by
  go_enter Tryd.func63, Tryd.ntmps63
  go_wp2
  go_returns
  exact ⟨rfl, by repeat (first | exact Below.refl _ _ | apply b_alloc | apply b_reg)⟩
end Go.Proofs.YtfgmfkiknogdeaaDoor
