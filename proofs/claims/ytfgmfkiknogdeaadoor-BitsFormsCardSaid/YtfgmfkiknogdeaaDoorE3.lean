/- WHAT IS PROVED: what bits.Binary returns for relations. CONDITIONS: valid types, int64 operands. -/
import Derived.Test.YtfgmfkiknogdeaaDoorD
namespace Go.Proofs.YtfgmfkiknogdeaaDoor
open Go Go.RowKit Go.QrBits
attribute [local go_sem] reg_cell reg_frozen reg_setCell reg_lt reg_lt_add reg_drew reg_of_drew

set_option maxHeartbeats 2000000 in
set_option maxRecDepth 100000 in
theorem bin_lt (s1 : Int) (g1 : Bool) (a s2 : Int) (g2 : Bool) (b : Int) (w : World) (hp : PlainAt w) (h1 : vB s1 = true) (h2 : vB s2 = true) (ha : I64 a) (hb : I64 b) :
    Calls Tryd.prog 28 #[.int .i64 11, .agg #[.int .i64 s1, .bool g1], .int .i64 a, .agg #[.int .i64 s2, .bool g2], .int .i64 b] w fun e w' =>
      e = .returned (.tuple #[.agg #[.int .i64 4, .bool true], .int .i64 (tV (relV 0 (ordV (cG s1 g1 s2 g2) (wr (cS s1 g1 s2) (cG s1 g1 s2 g2) (wr s1 g1 a)) (wr (cS s1 g1 s2) (cG s1 g1 s2 g2) (wr s2 g2 b))))), .int .i64 0]) ∧ Below w.heap.size w w' := by
  have hm := shifts_miss 11 rfl
  have hc := cS_ok (g1 := g1) h1 h2
  have ha1 := wr_I64 (g := g1) h1 ha
  have hb1 := wr_I64 (g := g2) h2 hb
  have ha2 := wr_I64 (g := cG s1 g1 s2 g2) hc ha1
  have hb2 := wr_I64 (g := cG s1 g1 s2 g2) hc hb1
  have hma := arith_miss 11 rfl
  have hlk := relations_hit 11 0 (.func (.func 92) #[] #[]) rfl
  have hp1 := hp.1
  have hp2 := hp.2.1
  have hp3 := hp.2.2
  go_enter Tryd.func28, Tryd.ntmps28
  go_wp2_with (go_at_call 44; refine (valid_c _ _ _).mono ?_; rintro e w' ⟨rfl, hq⟩; (first | obtain ⟨p, rfl⟩ := regrown2 hq | obtain ⟨p, rfl⟩ := regrown hq); clear hq)
  with_reducible refine wp_quietR (by kernel_rfl) (by kernel_rfl) ?_
  repeat (quiet_step ((go_at_call 45; exact reg_call (wrap_c _ _ _ _ (by assumption) (by assumption)))))
  refine wpQuiet_nil ?_
  intro _ hw'; obtain ⟨p, rfl⟩ := hw'
  go_wp2_with (first
    | (go_at_call 55; refine (hm _).mono ?_; rintro e w' ⟨b, rfl, hq, hl⟩; (first | obtain ⟨p, rfl⟩ := regrown2 hq | obtain ⟨p, rfl⟩ := regrown hq); clear hq)
    | (go_at_call 50; refine (common_c _ _ _ _ _ (hp.below (by repeat (first | exact Below.refl _ _ | apply b_alloc | apply b_reg)))).mono ?_; rintro e w' ⟨rfl, hq⟩; (first | obtain ⟨p, rfl⟩ := regrown2 hq | obtain ⟨p, rfl⟩ := regrown hq); clear hq))
  with_reducible refine wp_quiet (by kernel_rfl) (by kernel_rfl) ?_
  repeat (quiet_step ((go_at_call 45; exact reg_call (wrap_c _ _ _ _ (by assumption) (by assumption)))))
  refine wpQuiet_nil ?_
  intro _ hw'; obtain ⟨p, rfl⟩ := hw'
  go_wp2_with (first
    | (go_at_call 57; refine (hma _).mono ?_; rintro e w' ⟨b, rfl, hq, hl⟩; (first | obtain ⟨p, rfl⟩ := regrown2 hq | obtain ⟨p, rfl⟩ := regrown hq); clear hq)
    | (go_at_call 58; refine (hlk _).mono ?_; rintro e w' ⟨b, rfl, hq, hl⟩; (first | obtain ⟨p, rfl⟩ := regrown2 hq | obtain ⟨p, rfl⟩ := regrown hq); clear hq))
  with_reducible refine wp_quiet_tailR 8 (by kernel_rfl) (by kernel_rfl) ?_
  simp only [List.take_succ_cons, List.take_zero, List.drop_succ_cons, List.drop_zero]
  repeat (quiet_step ((first
    | (go_at_call 60; exact reg_call (order_c _ _ _ _ _))
    | (go_at_call 92; exact reg_call (rel0_c _ _))
    | (go_at_call 59; exact reg_call (truth_c _ _)))))
  refine wpQuiet_nil ?_
  intro _ hw'; obtain ⟨p, rfl⟩ := hw'
  go_wp2
  go_returns
  exact ⟨rfl, by repeat (first | exact Below.refl _ _ | apply b_alloc | apply b_reg)⟩
set_option maxHeartbeats 2000000 in
set_option maxRecDepth 100000 in
theorem bin_le (s1 : Int) (g1 : Bool) (a s2 : Int) (g2 : Bool) (b : Int) (w : World) (hp : PlainAt w) (h1 : vB s1 = true) (h2 : vB s2 = true) (ha : I64 a) (hb : I64 b) :
    Calls Tryd.prog 28 #[.int .i64 12, .agg #[.int .i64 s1, .bool g1], .int .i64 a, .agg #[.int .i64 s2, .bool g2], .int .i64 b] w fun e w' =>
      e = .returned (.tuple #[.agg #[.int .i64 4, .bool true], .int .i64 (tV (relV 1 (ordV (cG s1 g1 s2 g2) (wr (cS s1 g1 s2) (cG s1 g1 s2 g2) (wr s1 g1 a)) (wr (cS s1 g1 s2) (cG s1 g1 s2 g2) (wr s2 g2 b))))), .int .i64 0]) ∧ Below w.heap.size w w' := by
  have hm := shifts_miss 12 rfl
  have hc := cS_ok (g1 := g1) h1 h2
  have ha1 := wr_I64 (g := g1) h1 ha
  have hb1 := wr_I64 (g := g2) h2 hb
  have ha2 := wr_I64 (g := cG s1 g1 s2 g2) hc ha1
  have hb2 := wr_I64 (g := cG s1 g1 s2 g2) hc hb1
  have hma := arith_miss 12 rfl
  have hlk := relations_hit 12 1 (.func (.func 93) #[] #[]) rfl
  have hp1 := hp.1
  have hp2 := hp.2.1
  have hp3 := hp.2.2
  go_enter Tryd.func28, Tryd.ntmps28
  go_wp2_with (go_at_call 44; refine (valid_c _ _ _).mono ?_; rintro e w' ⟨rfl, hq⟩; (first | obtain ⟨p, rfl⟩ := regrown2 hq | obtain ⟨p, rfl⟩ := regrown hq); clear hq)
  with_reducible refine wp_quietR (by kernel_rfl) (by kernel_rfl) ?_
  repeat (quiet_step ((go_at_call 45; exact reg_call (wrap_c _ _ _ _ (by assumption) (by assumption)))))
  refine wpQuiet_nil ?_
  intro _ hw'; obtain ⟨p, rfl⟩ := hw'
  go_wp2_with (first
    | (go_at_call 55; refine (hm _).mono ?_; rintro e w' ⟨b, rfl, hq, hl⟩; (first | obtain ⟨p, rfl⟩ := regrown2 hq | obtain ⟨p, rfl⟩ := regrown hq); clear hq)
    | (go_at_call 50; refine (common_c _ _ _ _ _ (hp.below (by repeat (first | exact Below.refl _ _ | apply b_alloc | apply b_reg)))).mono ?_; rintro e w' ⟨rfl, hq⟩; (first | obtain ⟨p, rfl⟩ := regrown2 hq | obtain ⟨p, rfl⟩ := regrown hq); clear hq))
  with_reducible refine wp_quiet (by kernel_rfl) (by kernel_rfl) ?_
  repeat (quiet_step ((go_at_call 45; exact reg_call (wrap_c _ _ _ _ (by assumption) (by assumption)))))
  refine wpQuiet_nil ?_
  intro _ hw'; obtain ⟨p, rfl⟩ := hw'
  go_wp2_with (first
    | (go_at_call 57; refine (hma _).mono ?_; rintro e w' ⟨b, rfl, hq, hl⟩; (first | obtain ⟨p, rfl⟩ := regrown2 hq | obtain ⟨p, rfl⟩ := regrown hq); clear hq)
    | (go_at_call 58; refine (hlk _).mono ?_; rintro e w' ⟨b, rfl, hq, hl⟩; (first | obtain ⟨p, rfl⟩ := regrown2 hq | obtain ⟨p, rfl⟩ := regrown hq); clear hq))
  with_reducible refine wp_quiet_tailR 8 (by kernel_rfl) (by kernel_rfl) ?_
  simp only [List.take_succ_cons, List.take_zero, List.drop_succ_cons, List.drop_zero]
  repeat (quiet_step ((first
    | (go_at_call 60; exact reg_call (order_c _ _ _ _ _))
    | (go_at_call 93; exact reg_call (rel1_c _ _))
    | (go_at_call 59; exact reg_call (truth_c _ _)))))
  refine wpQuiet_nil ?_
  intro _ hw'; obtain ⟨p, rfl⟩ := hw'
  go_wp2
  go_returns
  exact ⟨rfl, by repeat (first | exact Below.refl _ _ | apply b_alloc | apply b_reg)⟩
set_option maxHeartbeats 2000000 in
set_option maxRecDepth 100000 in
theorem bin_gt (s1 : Int) (g1 : Bool) (a s2 : Int) (g2 : Bool) (b : Int) (w : World) (hp : PlainAt w) (h1 : vB s1 = true) (h2 : vB s2 = true) (ha : I64 a) (hb : I64 b) :
    Calls Tryd.prog 28 #[.int .i64 13, .agg #[.int .i64 s1, .bool g1], .int .i64 a, .agg #[.int .i64 s2, .bool g2], .int .i64 b] w fun e w' =>
      e = .returned (.tuple #[.agg #[.int .i64 4, .bool true], .int .i64 (tV (relV 2 (ordV (cG s1 g1 s2 g2) (wr (cS s1 g1 s2) (cG s1 g1 s2 g2) (wr s1 g1 a)) (wr (cS s1 g1 s2) (cG s1 g1 s2 g2) (wr s2 g2 b))))), .int .i64 0]) ∧ Below w.heap.size w w' := by
  have hm := shifts_miss 13 rfl
  have hc := cS_ok (g1 := g1) h1 h2
  have ha1 := wr_I64 (g := g1) h1 ha
  have hb1 := wr_I64 (g := g2) h2 hb
  have ha2 := wr_I64 (g := cG s1 g1 s2 g2) hc ha1
  have hb2 := wr_I64 (g := cG s1 g1 s2 g2) hc hb1
  have hma := arith_miss 13 rfl
  have hlk := relations_hit 13 2 (.func (.func 94) #[] #[]) rfl
  have hp1 := hp.1
  have hp2 := hp.2.1
  have hp3 := hp.2.2
  go_enter Tryd.func28, Tryd.ntmps28
  go_wp2_with (go_at_call 44; refine (valid_c _ _ _).mono ?_; rintro e w' ⟨rfl, hq⟩; (first | obtain ⟨p, rfl⟩ := regrown2 hq | obtain ⟨p, rfl⟩ := regrown hq); clear hq)
  with_reducible refine wp_quietR (by kernel_rfl) (by kernel_rfl) ?_
  repeat (quiet_step ((go_at_call 45; exact reg_call (wrap_c _ _ _ _ (by assumption) (by assumption)))))
  refine wpQuiet_nil ?_
  intro _ hw'; obtain ⟨p, rfl⟩ := hw'
  go_wp2_with (first
    | (go_at_call 55; refine (hm _).mono ?_; rintro e w' ⟨b, rfl, hq, hl⟩; (first | obtain ⟨p, rfl⟩ := regrown2 hq | obtain ⟨p, rfl⟩ := regrown hq); clear hq)
    | (go_at_call 50; refine (common_c _ _ _ _ _ (hp.below (by repeat (first | exact Below.refl _ _ | apply b_alloc | apply b_reg)))).mono ?_; rintro e w' ⟨rfl, hq⟩; (first | obtain ⟨p, rfl⟩ := regrown2 hq | obtain ⟨p, rfl⟩ := regrown hq); clear hq))
  with_reducible refine wp_quiet (by kernel_rfl) (by kernel_rfl) ?_
  repeat (quiet_step ((go_at_call 45; exact reg_call (wrap_c _ _ _ _ (by assumption) (by assumption)))))
  refine wpQuiet_nil ?_
  intro _ hw'; obtain ⟨p, rfl⟩ := hw'
  go_wp2_with (first
    | (go_at_call 57; refine (hma _).mono ?_; rintro e w' ⟨b, rfl, hq, hl⟩; (first | obtain ⟨p, rfl⟩ := regrown2 hq | obtain ⟨p, rfl⟩ := regrown hq); clear hq)
    | (go_at_call 58; refine (hlk _).mono ?_; rintro e w' ⟨b, rfl, hq, hl⟩; (first | obtain ⟨p, rfl⟩ := regrown2 hq | obtain ⟨p, rfl⟩ := regrown hq); clear hq))
  with_reducible refine wp_quiet_tailR 8 (by kernel_rfl) (by kernel_rfl) ?_
  simp only [List.take_succ_cons, List.take_zero, List.drop_succ_cons, List.drop_zero]
  repeat (quiet_step ((first
    | (go_at_call 60; exact reg_call (order_c _ _ _ _ _))
    | (go_at_call 94; exact reg_call (rel2_c _ _))
    | (go_at_call 59; exact reg_call (truth_c _ _)))))
  refine wpQuiet_nil ?_
  intro _ hw'; obtain ⟨p, rfl⟩ := hw'
  go_wp2
  go_returns
  exact ⟨rfl, by repeat (first | exact Below.refl _ _ | apply b_alloc | apply b_reg)⟩
set_option maxHeartbeats 2000000 in
set_option maxRecDepth 100000 in
theorem bin_ge (s1 : Int) (g1 : Bool) (a s2 : Int) (g2 : Bool) (b : Int) (w : World) (hp : PlainAt w) (h1 : vB s1 = true) (h2 : vB s2 = true) (ha : I64 a) (hb : I64 b) :
    Calls Tryd.prog 28 #[.int .i64 14, .agg #[.int .i64 s1, .bool g1], .int .i64 a, .agg #[.int .i64 s2, .bool g2], .int .i64 b] w fun e w' =>
      e = .returned (.tuple #[.agg #[.int .i64 4, .bool true], .int .i64 (tV (relV 3 (ordV (cG s1 g1 s2 g2) (wr (cS s1 g1 s2) (cG s1 g1 s2 g2) (wr s1 g1 a)) (wr (cS s1 g1 s2) (cG s1 g1 s2 g2) (wr s2 g2 b))))), .int .i64 0]) ∧ Below w.heap.size w w' := by
  have hm := shifts_miss 14 rfl
  have hc := cS_ok (g1 := g1) h1 h2
  have ha1 := wr_I64 (g := g1) h1 ha
  have hb1 := wr_I64 (g := g2) h2 hb
  have ha2 := wr_I64 (g := cG s1 g1 s2 g2) hc ha1
  have hb2 := wr_I64 (g := cG s1 g1 s2 g2) hc hb1
  have hma := arith_miss 14 rfl
  have hlk := relations_hit 14 3 (.func (.func 95) #[] #[]) rfl
  have hp1 := hp.1
  have hp2 := hp.2.1
  have hp3 := hp.2.2
  go_enter Tryd.func28, Tryd.ntmps28
  go_wp2_with (go_at_call 44; refine (valid_c _ _ _).mono ?_; rintro e w' ⟨rfl, hq⟩; (first | obtain ⟨p, rfl⟩ := regrown2 hq | obtain ⟨p, rfl⟩ := regrown hq); clear hq)
  with_reducible refine wp_quietR (by kernel_rfl) (by kernel_rfl) ?_
  repeat (quiet_step ((go_at_call 45; exact reg_call (wrap_c _ _ _ _ (by assumption) (by assumption)))))
  refine wpQuiet_nil ?_
  intro _ hw'; obtain ⟨p, rfl⟩ := hw'
  go_wp2_with (first
    | (go_at_call 55; refine (hm _).mono ?_; rintro e w' ⟨b, rfl, hq, hl⟩; (first | obtain ⟨p, rfl⟩ := regrown2 hq | obtain ⟨p, rfl⟩ := regrown hq); clear hq)
    | (go_at_call 50; refine (common_c _ _ _ _ _ (hp.below (by repeat (first | exact Below.refl _ _ | apply b_alloc | apply b_reg)))).mono ?_; rintro e w' ⟨rfl, hq⟩; (first | obtain ⟨p, rfl⟩ := regrown2 hq | obtain ⟨p, rfl⟩ := regrown hq); clear hq))
  with_reducible refine wp_quiet (by kernel_rfl) (by kernel_rfl) ?_
  repeat (quiet_step ((go_at_call 45; exact reg_call (wrap_c _ _ _ _ (by assumption) (by assumption)))))
  refine wpQuiet_nil ?_
  intro _ hw'; obtain ⟨p, rfl⟩ := hw'
  go_wp2_with (first
    | (go_at_call 57; refine (hma _).mono ?_; rintro e w' ⟨b, rfl, hq, hl⟩; (first | obtain ⟨p, rfl⟩ := regrown2 hq | obtain ⟨p, rfl⟩ := regrown hq); clear hq)
    | (go_at_call 58; refine (hlk _).mono ?_; rintro e w' ⟨b, rfl, hq, hl⟩; (first | obtain ⟨p, rfl⟩ := regrown2 hq | obtain ⟨p, rfl⟩ := regrown hq); clear hq))
  with_reducible refine wp_quiet_tailR 8 (by kernel_rfl) (by kernel_rfl) ?_
  simp only [List.take_succ_cons, List.take_zero, List.drop_succ_cons, List.drop_zero]
  repeat (quiet_step ((first
    | (go_at_call 60; exact reg_call (order_c _ _ _ _ _))
    | (go_at_call 95; exact reg_call (rel3_c _ _))
    | (go_at_call 59; exact reg_call (truth_c _ _)))))
  refine wpQuiet_nil ?_
  intro _ hw'; obtain ⟨p, rfl⟩ := hw'
  go_wp2
  go_returns
  exact ⟨rfl, by repeat (first | exact Below.refl _ _ | apply b_alloc | apply b_reg)⟩
set_option maxHeartbeats 2000000 in
set_option maxRecDepth 100000 in
theorem bin_eq (s1 : Int) (g1 : Bool) (a s2 : Int) (g2 : Bool) (b : Int) (w : World) (hp : PlainAt w) (h1 : vB s1 = true) (h2 : vB s2 = true) (ha : I64 a) (hb : I64 b) :
    Calls Tryd.prog 28 #[.int .i64 15, .agg #[.int .i64 s1, .bool g1], .int .i64 a, .agg #[.int .i64 s2, .bool g2], .int .i64 b] w fun e w' =>
      e = .returned (.tuple #[.agg #[.int .i64 4, .bool true], .int .i64 (tV (relV 4 (ordV (cG s1 g1 s2 g2) (wr (cS s1 g1 s2) (cG s1 g1 s2 g2) (wr s1 g1 a)) (wr (cS s1 g1 s2) (cG s1 g1 s2 g2) (wr s2 g2 b))))), .int .i64 0]) ∧ Below w.heap.size w w' := by
  have hm := shifts_miss 15 rfl
  have hc := cS_ok (g1 := g1) h1 h2
  have ha1 := wr_I64 (g := g1) h1 ha
  have hb1 := wr_I64 (g := g2) h2 hb
  have ha2 := wr_I64 (g := cG s1 g1 s2 g2) hc ha1
  have hb2 := wr_I64 (g := cG s1 g1 s2 g2) hc hb1
  have hma := arith_miss 15 rfl
  have hlk := relations_hit 15 4 (.func (.func 96) #[] #[]) rfl
  have hp1 := hp.1
  have hp2 := hp.2.1
  have hp3 := hp.2.2
  go_enter Tryd.func28, Tryd.ntmps28
  go_wp2_with (go_at_call 44; refine (valid_c _ _ _).mono ?_; rintro e w' ⟨rfl, hq⟩; (first | obtain ⟨p, rfl⟩ := regrown2 hq | obtain ⟨p, rfl⟩ := regrown hq); clear hq)
  with_reducible refine wp_quietR (by kernel_rfl) (by kernel_rfl) ?_
  repeat (quiet_step ((go_at_call 45; exact reg_call (wrap_c _ _ _ _ (by assumption) (by assumption)))))
  refine wpQuiet_nil ?_
  intro _ hw'; obtain ⟨p, rfl⟩ := hw'
  go_wp2_with (first
    | (go_at_call 55; refine (hm _).mono ?_; rintro e w' ⟨b, rfl, hq, hl⟩; (first | obtain ⟨p, rfl⟩ := regrown2 hq | obtain ⟨p, rfl⟩ := regrown hq); clear hq)
    | (go_at_call 50; refine (common_c _ _ _ _ _ (hp.below (by repeat (first | exact Below.refl _ _ | apply b_alloc | apply b_reg)))).mono ?_; rintro e w' ⟨rfl, hq⟩; (first | obtain ⟨p, rfl⟩ := regrown2 hq | obtain ⟨p, rfl⟩ := regrown hq); clear hq))
  with_reducible refine wp_quiet (by kernel_rfl) (by kernel_rfl) ?_
  repeat (quiet_step ((go_at_call 45; exact reg_call (wrap_c _ _ _ _ (by assumption) (by assumption)))))
  refine wpQuiet_nil ?_
  intro _ hw'; obtain ⟨p, rfl⟩ := hw'
  go_wp2_with (first
    | (go_at_call 57; refine (hma _).mono ?_; rintro e w' ⟨b, rfl, hq, hl⟩; (first | obtain ⟨p, rfl⟩ := regrown2 hq | obtain ⟨p, rfl⟩ := regrown hq); clear hq)
    | (go_at_call 58; refine (hlk _).mono ?_; rintro e w' ⟨b, rfl, hq, hl⟩; (first | obtain ⟨p, rfl⟩ := regrown2 hq | obtain ⟨p, rfl⟩ := regrown hq); clear hq))
  with_reducible refine wp_quiet_tailR 8 (by kernel_rfl) (by kernel_rfl) ?_
  simp only [List.take_succ_cons, List.take_zero, List.drop_succ_cons, List.drop_zero]
  repeat (quiet_step ((first
    | (go_at_call 60; exact reg_call (order_c _ _ _ _ _))
    | (go_at_call 96; exact reg_call (rel4_c _ _))
    | (go_at_call 59; exact reg_call (truth_c _ _)))))
  refine wpQuiet_nil ?_
  intro _ hw'; obtain ⟨p, rfl⟩ := hw'
  go_wp2
  go_returns
  exact ⟨rfl, by repeat (first | exact Below.refl _ _ | apply b_alloc | apply b_reg)⟩
set_option maxHeartbeats 2000000 in
set_option maxRecDepth 100000 in
theorem bin_ne (s1 : Int) (g1 : Bool) (a s2 : Int) (g2 : Bool) (b : Int) (w : World) (hp : PlainAt w) (h1 : vB s1 = true) (h2 : vB s2 = true) (ha : I64 a) (hb : I64 b) :
    Calls Tryd.prog 28 #[.int .i64 16, .agg #[.int .i64 s1, .bool g1], .int .i64 a, .agg #[.int .i64 s2, .bool g2], .int .i64 b] w fun e w' =>
      e = .returned (.tuple #[.agg #[.int .i64 4, .bool true], .int .i64 (tV (relV 5 (ordV (cG s1 g1 s2 g2) (wr (cS s1 g1 s2) (cG s1 g1 s2 g2) (wr s1 g1 a)) (wr (cS s1 g1 s2) (cG s1 g1 s2 g2) (wr s2 g2 b))))), .int .i64 0]) ∧ Below w.heap.size w w' := by
  have hm := shifts_miss 16 rfl
  have hc := cS_ok (g1 := g1) h1 h2
  have ha1 := wr_I64 (g := g1) h1 ha
  have hb1 := wr_I64 (g := g2) h2 hb
  have ha2 := wr_I64 (g := cG s1 g1 s2 g2) hc ha1
  have hb2 := wr_I64 (g := cG s1 g1 s2 g2) hc hb1
  have hma := arith_miss 16 rfl
  have hlk := relations_hit 16 5 (.func (.func 97) #[] #[]) rfl
  have hp1 := hp.1
  have hp2 := hp.2.1
  have hp3 := hp.2.2
  go_enter Tryd.func28, Tryd.ntmps28
  go_wp2_with (go_at_call 44; refine (valid_c _ _ _).mono ?_; rintro e w' ⟨rfl, hq⟩; (first | obtain ⟨p, rfl⟩ := regrown2 hq | obtain ⟨p, rfl⟩ := regrown hq); clear hq)
  with_reducible refine wp_quietR (by kernel_rfl) (by kernel_rfl) ?_
  repeat (quiet_step ((go_at_call 45; exact reg_call (wrap_c _ _ _ _ (by assumption) (by assumption)))))
  refine wpQuiet_nil ?_
  intro _ hw'; obtain ⟨p, rfl⟩ := hw'
  go_wp2_with (first
    | (go_at_call 55; refine (hm _).mono ?_; rintro e w' ⟨b, rfl, hq, hl⟩; (first | obtain ⟨p, rfl⟩ := regrown2 hq | obtain ⟨p, rfl⟩ := regrown hq); clear hq)
    | (go_at_call 50; refine (common_c _ _ _ _ _ (hp.below (by repeat (first | exact Below.refl _ _ | apply b_alloc | apply b_reg)))).mono ?_; rintro e w' ⟨rfl, hq⟩; (first | obtain ⟨p, rfl⟩ := regrown2 hq | obtain ⟨p, rfl⟩ := regrown hq); clear hq))
  with_reducible refine wp_quiet (by kernel_rfl) (by kernel_rfl) ?_
  repeat (quiet_step ((go_at_call 45; exact reg_call (wrap_c _ _ _ _ (by assumption) (by assumption)))))
  refine wpQuiet_nil ?_
  intro _ hw'; obtain ⟨p, rfl⟩ := hw'
  go_wp2_with (first
    | (go_at_call 57; refine (hma _).mono ?_; rintro e w' ⟨b, rfl, hq, hl⟩; (first | obtain ⟨p, rfl⟩ := regrown2 hq | obtain ⟨p, rfl⟩ := regrown hq); clear hq)
    | (go_at_call 58; refine (hlk _).mono ?_; rintro e w' ⟨b, rfl, hq, hl⟩; (first | obtain ⟨p, rfl⟩ := regrown2 hq | obtain ⟨p, rfl⟩ := regrown hq); clear hq))
  with_reducible refine wp_quiet_tailR 8 (by kernel_rfl) (by kernel_rfl) ?_
  simp only [List.take_succ_cons, List.take_zero, List.drop_succ_cons, List.drop_zero]
  repeat (quiet_step ((first
    | (go_at_call 60; exact reg_call (order_c _ _ _ _ _))
    | (go_at_call 97; exact reg_call (rel5_c _ _))
    | (go_at_call 59; exact reg_call (truth_c _ _)))))
  refine wpQuiet_nil ?_
  intro _ hw'; obtain ⟨p, rfl⟩ := hw'
  go_wp2
  go_returns
  exact ⟨rfl, by repeat (first | exact Below.refl _ _ | apply b_alloc | apply b_reg)⟩
end Go.Proofs.YtfgmfkiknogdeaaDoor
