/- WHAT IS PROVED: what bits.Binary returns for sums, differences, products and bitwise operations. CONDITIONS: valid types, int64 operands. -/
import Derived.Test.YtfgmfkiknogdeaaDoorD
namespace Go.Proofs.YtfgmfkiknogdeaaDoor
open Go Go.RowKit Go.QrBits
attribute [local go_sem] reg_cell reg_frozen reg_setCell reg_lt reg_lt_add reg_drew reg_of_drew

set_option maxHeartbeats 2000000 in
set_option maxRecDepth 100000 in
theorem bin_add (s1 : Int) (g1 : Bool) (a s2 : Int) (g2 : Bool) (b : Int) (w : World) (hp : PlainAt w) (h1 : vB s1 = true) (h2 : vB s2 = true) (ha : I64 a) (hb : I64 b) :
    Calls Tryd.prog 28 #[.int .i64 1, .agg #[.int .i64 s1, .bool g1], .int .i64 a, .agg #[.int .i64 s2, .bool g2], .int .i64 b] w fun e w' =>
      e = .returned (.tuple #[.agg #[.int .i64 (cS s1 g1 s2), .bool (cG s1 g1 s2 g2)], .int .i64 (wr (cS s1 g1 s2) (cG s1 g1 s2 g2) (wrap64 ((wr (cS s1 g1 s2) (cG s1 g1 s2 g2) (wr s1 g1 a)) + (wr (cS s1 g1 s2) (cG s1 g1 s2 g2) (wr s2 g2 b))))), .int .i64 0]) ∧ Below w.heap.size w w' := by
  have hm := shifts_miss 1 rfl
  have hc := cS_ok (g1 := g1) h1 h2
  have ha1 := wr_I64 (g := g1) h1 ha
  have hb1 := wr_I64 (g := g2) h2 hb
  have ha2 := wr_I64 (g := cG s1 g1 s2 g2) hc ha1
  have hb2 := wr_I64 (g := cG s1 g1 s2 g2) hc hb1
  have hlk := arith_hit 1 0 (.func (.func 84) #[] #[]) rfl
  go_enter Tryd.func28, Tryd.ntmps28
  go_wp2_with (go_at_call 44; refine (valid_c _ _ _).mono ?_; rintro e w' ⟨rfl, hq⟩; (first | obtain ⟨p, rfl⟩ := regrown2 hq | obtain ⟨p, rfl⟩ := regrown hq); clear hq)
  with_reducible refine wp_quietR (by kernel_rfl) (by kernel_rfl) ?_
  repeat (quiet_step ((go_at_call 45; exact reg_call (wrap_c _ _ _ _ (by assumption) (by assumption)))))
  refine wpQuiet_nil ?_
  intro _ hw'; obtain ⟨p, rfl⟩ := hw'
  go_wp2_with (first
    | (go_at_call 55; refine (hm _).mono ?_; rintro e w' ⟨b, rfl, hq, hl⟩; (first | obtain ⟨p, rfl⟩ := regrown2 hq | obtain ⟨p, rfl⟩ := regrown hq); clear hq)
    | (go_at_call 50; refine (common_c _ _ _ _ _ (hp.below (by repeat (first | exact Below.refl _ _ | apply b_alloc | apply b_reg)))).mono ?_; rintro e w' ⟨rfl, hq⟩; (first | obtain ⟨p, rfl⟩ := regrown2 hq | obtain ⟨p, rfl⟩ := regrown hq); clear hq))
  with_reducible refine wp_quiet (by kernel_rfl) (by kernel_rfl) ?_
  repeat (quiet_step ((go_at_call 45; exact reg_call (wrap_c _ _ _ _ (by assumption) (by assumption)))))
  refine wpQuiet_nil ?_
  intro _ hw'; obtain ⟨p, rfl⟩ := hw'
  go_wp2_with (first
    | (go_at_call 57; refine (hlk _).mono ?_; rintro e w' ⟨b, rfl, hq, hl⟩; (first | obtain ⟨p, rfl⟩ := regrown2 hq | obtain ⟨p, rfl⟩ := regrown hq); clear hq)
    | (go_at_call 84; refine (add_c _ _ _ _ _).mono ?_; rintro e w' ⟨rfl, hq⟩; (first | obtain ⟨p, rfl⟩ := regrown2 hq | obtain ⟨p, rfl⟩ := regrown hq); clear hq))
  with_reducible refine wp_quiet_tailR 4 (by kernel_rfl) (by kernel_rfl) ?_
  simp only [List.take_succ_cons, List.take_zero, List.drop_succ_cons, List.drop_zero]
  repeat (quiet_step ((go_at_call 45; exact reg_call (wrap_c _ _ _ _ (by assumption) (by first | exact I64_wrap64 _ | exact bits_I64 _ _ _ | exact qV_I64 _ _ _ | exact rV_I64 (by assumption) (by assumption))))))
  refine wpQuiet_nil ?_
  intro _ hw'; obtain ⟨p, rfl⟩ := hw'
  go_wp2
  go_returns
  exact ⟨rfl, by repeat (first | exact Below.refl _ _ | apply b_alloc | apply b_reg)⟩
set_option maxHeartbeats 2000000 in
set_option maxRecDepth 100000 in
theorem bin_sub (s1 : Int) (g1 : Bool) (a s2 : Int) (g2 : Bool) (b : Int) (w : World) (hp : PlainAt w) (h1 : vB s1 = true) (h2 : vB s2 = true) (ha : I64 a) (hb : I64 b) :
    Calls Tryd.prog 28 #[.int .i64 2, .agg #[.int .i64 s1, .bool g1], .int .i64 a, .agg #[.int .i64 s2, .bool g2], .int .i64 b] w fun e w' =>
      e = .returned (.tuple #[.agg #[.int .i64 (cS s1 g1 s2), .bool (cG s1 g1 s2 g2)], .int .i64 (wr (cS s1 g1 s2) (cG s1 g1 s2 g2) (wrap64 ((wr (cS s1 g1 s2) (cG s1 g1 s2 g2) (wr s1 g1 a)) - (wr (cS s1 g1 s2) (cG s1 g1 s2 g2) (wr s2 g2 b))))), .int .i64 0]) ∧ Below w.heap.size w w' := by
  have hm := shifts_miss 2 rfl
  have hc := cS_ok (g1 := g1) h1 h2
  have ha1 := wr_I64 (g := g1) h1 ha
  have hb1 := wr_I64 (g := g2) h2 hb
  have ha2 := wr_I64 (g := cG s1 g1 s2 g2) hc ha1
  have hb2 := wr_I64 (g := cG s1 g1 s2 g2) hc hb1
  have hlk := arith_hit 2 1 (.func (.func 85) #[] #[]) rfl
  go_enter Tryd.func28, Tryd.ntmps28
  go_wp2_with (go_at_call 44; refine (valid_c _ _ _).mono ?_; rintro e w' ⟨rfl, hq⟩; (first | obtain ⟨p, rfl⟩ := regrown2 hq | obtain ⟨p, rfl⟩ := regrown hq); clear hq)
  with_reducible refine wp_quietR (by kernel_rfl) (by kernel_rfl) ?_
  repeat (quiet_step ((go_at_call 45; exact reg_call (wrap_c _ _ _ _ (by assumption) (by assumption)))))
  refine wpQuiet_nil ?_
  intro _ hw'; obtain ⟨p, rfl⟩ := hw'
  go_wp2_with (first
    | (go_at_call 55; refine (hm _).mono ?_; rintro e w' ⟨b, rfl, hq, hl⟩; (first | obtain ⟨p, rfl⟩ := regrown2 hq | obtain ⟨p, rfl⟩ := regrown hq); clear hq)
    | (go_at_call 50; refine (common_c _ _ _ _ _ (hp.below (by repeat (first | exact Below.refl _ _ | apply b_alloc | apply b_reg)))).mono ?_; rintro e w' ⟨rfl, hq⟩; (first | obtain ⟨p, rfl⟩ := regrown2 hq | obtain ⟨p, rfl⟩ := regrown hq); clear hq))
  with_reducible refine wp_quiet (by kernel_rfl) (by kernel_rfl) ?_
  repeat (quiet_step ((go_at_call 45; exact reg_call (wrap_c _ _ _ _ (by assumption) (by assumption)))))
  refine wpQuiet_nil ?_
  intro _ hw'; obtain ⟨p, rfl⟩ := hw'
  go_wp2_with (first
    | (go_at_call 57; refine (hlk _).mono ?_; rintro e w' ⟨b, rfl, hq, hl⟩; (first | obtain ⟨p, rfl⟩ := regrown2 hq | obtain ⟨p, rfl⟩ := regrown hq); clear hq)
    | (go_at_call 85; refine (sub_c _ _ _ _ _).mono ?_; rintro e w' ⟨rfl, hq⟩; (first | obtain ⟨p, rfl⟩ := regrown2 hq | obtain ⟨p, rfl⟩ := regrown hq); clear hq))
  with_reducible refine wp_quiet_tailR 4 (by kernel_rfl) (by kernel_rfl) ?_
  simp only [List.take_succ_cons, List.take_zero, List.drop_succ_cons, List.drop_zero]
  repeat (quiet_step ((go_at_call 45; exact reg_call (wrap_c _ _ _ _ (by assumption) (by first | exact I64_wrap64 _ | exact bits_I64 _ _ _ | exact qV_I64 _ _ _ | exact rV_I64 (by assumption) (by assumption))))))
  refine wpQuiet_nil ?_
  intro _ hw'; obtain ⟨p, rfl⟩ := hw'
  go_wp2
  go_returns
  exact ⟨rfl, by repeat (first | exact Below.refl _ _ | apply b_alloc | apply b_reg)⟩
set_option maxHeartbeats 2000000 in
set_option maxRecDepth 100000 in
theorem bin_mul (s1 : Int) (g1 : Bool) (a s2 : Int) (g2 : Bool) (b : Int) (w : World) (hp : PlainAt w) (h1 : vB s1 = true) (h2 : vB s2 = true) (ha : I64 a) (hb : I64 b) :
    Calls Tryd.prog 28 #[.int .i64 3, .agg #[.int .i64 s1, .bool g1], .int .i64 a, .agg #[.int .i64 s2, .bool g2], .int .i64 b] w fun e w' =>
      e = .returned (.tuple #[.agg #[.int .i64 (cS s1 g1 s2), .bool (cG s1 g1 s2 g2)], .int .i64 (wr (cS s1 g1 s2) (cG s1 g1 s2 g2) (wrap64 ((wr (cS s1 g1 s2) (cG s1 g1 s2 g2) (wr s1 g1 a)) * (wr (cS s1 g1 s2) (cG s1 g1 s2 g2) (wr s2 g2 b))))), .int .i64 0]) ∧ Below w.heap.size w w' := by
  have hm := shifts_miss 3 rfl
  have hc := cS_ok (g1 := g1) h1 h2
  have ha1 := wr_I64 (g := g1) h1 ha
  have hb1 := wr_I64 (g := g2) h2 hb
  have ha2 := wr_I64 (g := cG s1 g1 s2 g2) hc ha1
  have hb2 := wr_I64 (g := cG s1 g1 s2 g2) hc hb1
  have hlk := arith_hit 3 2 (.func (.func 86) #[] #[]) rfl
  go_enter Tryd.func28, Tryd.ntmps28
  go_wp2_with (go_at_call 44; refine (valid_c _ _ _).mono ?_; rintro e w' ⟨rfl, hq⟩; (first | obtain ⟨p, rfl⟩ := regrown2 hq | obtain ⟨p, rfl⟩ := regrown hq); clear hq)
  with_reducible refine wp_quietR (by kernel_rfl) (by kernel_rfl) ?_
  repeat (quiet_step ((go_at_call 45; exact reg_call (wrap_c _ _ _ _ (by assumption) (by assumption)))))
  refine wpQuiet_nil ?_
  intro _ hw'; obtain ⟨p, rfl⟩ := hw'
  go_wp2_with (first
    | (go_at_call 55; refine (hm _).mono ?_; rintro e w' ⟨b, rfl, hq, hl⟩; (first | obtain ⟨p, rfl⟩ := regrown2 hq | obtain ⟨p, rfl⟩ := regrown hq); clear hq)
    | (go_at_call 50; refine (common_c _ _ _ _ _ (hp.below (by repeat (first | exact Below.refl _ _ | apply b_alloc | apply b_reg)))).mono ?_; rintro e w' ⟨rfl, hq⟩; (first | obtain ⟨p, rfl⟩ := regrown2 hq | obtain ⟨p, rfl⟩ := regrown hq); clear hq))
  with_reducible refine wp_quiet (by kernel_rfl) (by kernel_rfl) ?_
  repeat (quiet_step ((go_at_call 45; exact reg_call (wrap_c _ _ _ _ (by assumption) (by assumption)))))
  refine wpQuiet_nil ?_
  intro _ hw'; obtain ⟨p, rfl⟩ := hw'
  go_wp2_with (first
    | (go_at_call 57; refine (hlk _).mono ?_; rintro e w' ⟨b, rfl, hq, hl⟩; (first | obtain ⟨p, rfl⟩ := regrown2 hq | obtain ⟨p, rfl⟩ := regrown hq); clear hq)
    | (go_at_call 86; refine (mul_c _ _ _ _ _).mono ?_; rintro e w' ⟨rfl, hq⟩; (first | obtain ⟨p, rfl⟩ := regrown2 hq | obtain ⟨p, rfl⟩ := regrown hq); clear hq))
  with_reducible refine wp_quiet_tailR 4 (by kernel_rfl) (by kernel_rfl) ?_
  simp only [List.take_succ_cons, List.take_zero, List.drop_succ_cons, List.drop_zero]
  repeat (quiet_step ((go_at_call 45; exact reg_call (wrap_c _ _ _ _ (by assumption) (by first | exact I64_wrap64 _ | exact bits_I64 _ _ _ | exact qV_I64 _ _ _ | exact rV_I64 (by assumption) (by assumption))))))
  refine wpQuiet_nil ?_
  intro _ hw'; obtain ⟨p, rfl⟩ := hw'
  go_wp2
  go_returns
  exact ⟨rfl, by repeat (first | exact Below.refl _ _ | apply b_alloc | apply b_reg)⟩
set_option maxHeartbeats 2000000 in
set_option maxRecDepth 100000 in
theorem bin_and (s1 : Int) (g1 : Bool) (a s2 : Int) (g2 : Bool) (b : Int) (w : World) (hp : PlainAt w) (h1 : vB s1 = true) (h2 : vB s2 = true) (ha : I64 a) (hb : I64 b) :
    Calls Tryd.prog 28 #[.int .i64 6, .agg #[.int .i64 s1, .bool g1], .int .i64 a, .agg #[.int .i64 s2, .bool g2], .int .i64 b] w fun e w' =>
      e = .returned (.tuple #[.agg #[.int .i64 (cS s1 g1 s2), .bool (cG s1 g1 s2 g2)], .int .i64 (wr (cS s1 g1 s2) (cG s1 g1 s2 g2) (bits .and .i64 (wr (cS s1 g1 s2) (cG s1 g1 s2 g2) (wr s1 g1 a)) (wr (cS s1 g1 s2) (cG s1 g1 s2 g2) (wr s2 g2 b)))), .int .i64 0]) ∧ Below w.heap.size w w' := by
  have hm := shifts_miss 6 rfl
  have hc := cS_ok (g1 := g1) h1 h2
  have ha1 := wr_I64 (g := g1) h1 ha
  have hb1 := wr_I64 (g := g2) h2 hb
  have ha2 := wr_I64 (g := cG s1 g1 s2 g2) hc ha1
  have hb2 := wr_I64 (g := cG s1 g1 s2 g2) hc hb1
  have hlk := arith_hit 6 5 (.func (.func 89) #[] #[]) rfl
  go_enter Tryd.func28, Tryd.ntmps28
  go_wp2_with (go_at_call 44; refine (valid_c _ _ _).mono ?_; rintro e w' ⟨rfl, hq⟩; (first | obtain ⟨p, rfl⟩ := regrown2 hq | obtain ⟨p, rfl⟩ := regrown hq); clear hq)
  with_reducible refine wp_quietR (by kernel_rfl) (by kernel_rfl) ?_
  repeat (quiet_step ((go_at_call 45; exact reg_call (wrap_c _ _ _ _ (by assumption) (by assumption)))))
  refine wpQuiet_nil ?_
  intro _ hw'; obtain ⟨p, rfl⟩ := hw'
  go_wp2_with (first
    | (go_at_call 55; refine (hm _).mono ?_; rintro e w' ⟨b, rfl, hq, hl⟩; (first | obtain ⟨p, rfl⟩ := regrown2 hq | obtain ⟨p, rfl⟩ := regrown hq); clear hq)
    | (go_at_call 50; refine (common_c _ _ _ _ _ (hp.below (by repeat (first | exact Below.refl _ _ | apply b_alloc | apply b_reg)))).mono ?_; rintro e w' ⟨rfl, hq⟩; (first | obtain ⟨p, rfl⟩ := regrown2 hq | obtain ⟨p, rfl⟩ := regrown hq); clear hq))
  with_reducible refine wp_quiet (by kernel_rfl) (by kernel_rfl) ?_
  repeat (quiet_step ((go_at_call 45; exact reg_call (wrap_c _ _ _ _ (by assumption) (by assumption)))))
  refine wpQuiet_nil ?_
  intro _ hw'; obtain ⟨p, rfl⟩ := hw'
  go_wp2_with (first
    | (go_at_call 57; refine (hlk _).mono ?_; rintro e w' ⟨b, rfl, hq, hl⟩; (first | obtain ⟨p, rfl⟩ := regrown2 hq | obtain ⟨p, rfl⟩ := regrown hq); clear hq)
    | (go_at_call 89; refine (and_c _ _ _ _ _).mono ?_; rintro e w' ⟨rfl, hq⟩; (first | obtain ⟨p, rfl⟩ := regrown2 hq | obtain ⟨p, rfl⟩ := regrown hq); clear hq))
  with_reducible refine wp_quiet_tailR 4 (by kernel_rfl) (by kernel_rfl) ?_
  simp only [List.take_succ_cons, List.take_zero, List.drop_succ_cons, List.drop_zero]
  repeat (quiet_step ((go_at_call 45; exact reg_call (wrap_c _ _ _ _ (by assumption) (by first | exact I64_wrap64 _ | exact bits_I64 _ _ _ | exact qV_I64 _ _ _ | exact rV_I64 (by assumption) (by assumption))))))
  refine wpQuiet_nil ?_
  intro _ hw'; obtain ⟨p, rfl⟩ := hw'
  go_wp2
  go_returns
  exact ⟨rfl, by repeat (first | exact Below.refl _ _ | apply b_alloc | apply b_reg)⟩
set_option maxHeartbeats 2000000 in
set_option maxRecDepth 100000 in
theorem bin_or (s1 : Int) (g1 : Bool) (a s2 : Int) (g2 : Bool) (b : Int) (w : World) (hp : PlainAt w) (h1 : vB s1 = true) (h2 : vB s2 = true) (ha : I64 a) (hb : I64 b) :
    Calls Tryd.prog 28 #[.int .i64 7, .agg #[.int .i64 s1, .bool g1], .int .i64 a, .agg #[.int .i64 s2, .bool g2], .int .i64 b] w fun e w' =>
      e = .returned (.tuple #[.agg #[.int .i64 (cS s1 g1 s2), .bool (cG s1 g1 s2 g2)], .int .i64 (wr (cS s1 g1 s2) (cG s1 g1 s2 g2) (bits .or .i64 (wr (cS s1 g1 s2) (cG s1 g1 s2 g2) (wr s1 g1 a)) (wr (cS s1 g1 s2) (cG s1 g1 s2 g2) (wr s2 g2 b)))), .int .i64 0]) ∧ Below w.heap.size w w' := by
  have hm := shifts_miss 7 rfl
  have hc := cS_ok (g1 := g1) h1 h2
  have ha1 := wr_I64 (g := g1) h1 ha
  have hb1 := wr_I64 (g := g2) h2 hb
  have ha2 := wr_I64 (g := cG s1 g1 s2 g2) hc ha1
  have hb2 := wr_I64 (g := cG s1 g1 s2 g2) hc hb1
  have hlk := arith_hit 7 6 (.func (.func 90) #[] #[]) rfl
  go_enter Tryd.func28, Tryd.ntmps28
  go_wp2_with (go_at_call 44; refine (valid_c _ _ _).mono ?_; rintro e w' ⟨rfl, hq⟩; (first | obtain ⟨p, rfl⟩ := regrown2 hq | obtain ⟨p, rfl⟩ := regrown hq); clear hq)
  with_reducible refine wp_quietR (by kernel_rfl) (by kernel_rfl) ?_
  repeat (quiet_step ((go_at_call 45; exact reg_call (wrap_c _ _ _ _ (by assumption) (by assumption)))))
  refine wpQuiet_nil ?_
  intro _ hw'; obtain ⟨p, rfl⟩ := hw'
  go_wp2_with (first
    | (go_at_call 55; refine (hm _).mono ?_; rintro e w' ⟨b, rfl, hq, hl⟩; (first | obtain ⟨p, rfl⟩ := regrown2 hq | obtain ⟨p, rfl⟩ := regrown hq); clear hq)
    | (go_at_call 50; refine (common_c _ _ _ _ _ (hp.below (by repeat (first | exact Below.refl _ _ | apply b_alloc | apply b_reg)))).mono ?_; rintro e w' ⟨rfl, hq⟩; (first | obtain ⟨p, rfl⟩ := regrown2 hq | obtain ⟨p, rfl⟩ := regrown hq); clear hq))
  with_reducible refine wp_quiet (by kernel_rfl) (by kernel_rfl) ?_
  repeat (quiet_step ((go_at_call 45; exact reg_call (wrap_c _ _ _ _ (by assumption) (by assumption)))))
  refine wpQuiet_nil ?_
  intro _ hw'; obtain ⟨p, rfl⟩ := hw'
  go_wp2_with (first
    | (go_at_call 57; refine (hlk _).mono ?_; rintro e w' ⟨b, rfl, hq, hl⟩; (first | obtain ⟨p, rfl⟩ := regrown2 hq | obtain ⟨p, rfl⟩ := regrown hq); clear hq)
    | (go_at_call 90; refine (or_c _ _ _ _ _).mono ?_; rintro e w' ⟨rfl, hq⟩; (first | obtain ⟨p, rfl⟩ := regrown2 hq | obtain ⟨p, rfl⟩ := regrown hq); clear hq))
  with_reducible refine wp_quiet_tailR 4 (by kernel_rfl) (by kernel_rfl) ?_
  simp only [List.take_succ_cons, List.take_zero, List.drop_succ_cons, List.drop_zero]
  repeat (quiet_step ((go_at_call 45; exact reg_call (wrap_c _ _ _ _ (by assumption) (by first | exact I64_wrap64 _ | exact bits_I64 _ _ _ | exact qV_I64 _ _ _ | exact rV_I64 (by assumption) (by assumption))))))
  refine wpQuiet_nil ?_
  intro _ hw'; obtain ⟨p, rfl⟩ := hw'
  go_wp2
  go_returns
  exact ⟨rfl, by repeat (first | exact Below.refl _ _ | apply b_alloc | apply b_reg)⟩
set_option maxHeartbeats 2000000 in
set_option maxRecDepth 100000 in
theorem bin_xor (s1 : Int) (g1 : Bool) (a s2 : Int) (g2 : Bool) (b : Int) (w : World) (hp : PlainAt w) (h1 : vB s1 = true) (h2 : vB s2 = true) (ha : I64 a) (hb : I64 b) :
    Calls Tryd.prog 28 #[.int .i64 8, .agg #[.int .i64 s1, .bool g1], .int .i64 a, .agg #[.int .i64 s2, .bool g2], .int .i64 b] w fun e w' =>
      e = .returned (.tuple #[.agg #[.int .i64 (cS s1 g1 s2), .bool (cG s1 g1 s2 g2)], .int .i64 (wr (cS s1 g1 s2) (cG s1 g1 s2 g2) (bits .xor .i64 (wr (cS s1 g1 s2) (cG s1 g1 s2 g2) (wr s1 g1 a)) (wr (cS s1 g1 s2) (cG s1 g1 s2 g2) (wr s2 g2 b)))), .int .i64 0]) ∧ Below w.heap.size w w' := by
  have hm := shifts_miss 8 rfl
  have hc := cS_ok (g1 := g1) h1 h2
  have ha1 := wr_I64 (g := g1) h1 ha
  have hb1 := wr_I64 (g := g2) h2 hb
  have ha2 := wr_I64 (g := cG s1 g1 s2 g2) hc ha1
  have hb2 := wr_I64 (g := cG s1 g1 s2 g2) hc hb1
  have hlk := arith_hit 8 7 (.func (.func 91) #[] #[]) rfl
  go_enter Tryd.func28, Tryd.ntmps28
  go_wp2_with (go_at_call 44; refine (valid_c _ _ _).mono ?_; rintro e w' ⟨rfl, hq⟩; (first | obtain ⟨p, rfl⟩ := regrown2 hq | obtain ⟨p, rfl⟩ := regrown hq); clear hq)
  with_reducible refine wp_quietR (by kernel_rfl) (by kernel_rfl) ?_
  repeat (quiet_step ((go_at_call 45; exact reg_call (wrap_c _ _ _ _ (by assumption) (by assumption)))))
  refine wpQuiet_nil ?_
  intro _ hw'; obtain ⟨p, rfl⟩ := hw'
  go_wp2_with (first
    | (go_at_call 55; refine (hm _).mono ?_; rintro e w' ⟨b, rfl, hq, hl⟩; (first | obtain ⟨p, rfl⟩ := regrown2 hq | obtain ⟨p, rfl⟩ := regrown hq); clear hq)
    | (go_at_call 50; refine (common_c _ _ _ _ _ (hp.below (by repeat (first | exact Below.refl _ _ | apply b_alloc | apply b_reg)))).mono ?_; rintro e w' ⟨rfl, hq⟩; (first | obtain ⟨p, rfl⟩ := regrown2 hq | obtain ⟨p, rfl⟩ := regrown hq); clear hq))
  with_reducible refine wp_quiet (by kernel_rfl) (by kernel_rfl) ?_
  repeat (quiet_step ((go_at_call 45; exact reg_call (wrap_c _ _ _ _ (by assumption) (by assumption)))))
  refine wpQuiet_nil ?_
  intro _ hw'; obtain ⟨p, rfl⟩ := hw'
  go_wp2_with (first
    | (go_at_call 57; refine (hlk _).mono ?_; rintro e w' ⟨b, rfl, hq, hl⟩; (first | obtain ⟨p, rfl⟩ := regrown2 hq | obtain ⟨p, rfl⟩ := regrown hq); clear hq)
    | (go_at_call 91; refine (xor_c _ _ _ _ _).mono ?_; rintro e w' ⟨rfl, hq⟩; (first | obtain ⟨p, rfl⟩ := regrown2 hq | obtain ⟨p, rfl⟩ := regrown hq); clear hq))
  with_reducible refine wp_quiet_tailR 4 (by kernel_rfl) (by kernel_rfl) ?_
  simp only [List.take_succ_cons, List.take_zero, List.drop_succ_cons, List.drop_zero]
  repeat (quiet_step ((go_at_call 45; exact reg_call (wrap_c _ _ _ _ (by assumption) (by first | exact I64_wrap64 _ | exact bits_I64 _ _ _ | exact qV_I64 _ _ _ | exact rV_I64 (by assumption) (by assumption))))))
  refine wpQuiet_nil ?_
  intro _ hw'; obtain ⟨p, rfl⟩ := hw'
  go_wp2
  go_returns
  exact ⟨rfl, by repeat (first | exact Below.refl _ _ | apply b_alloc | apply b_reg)⟩
end Go.Proofs.YtfgmfkiknogdeaaDoor
