/- WHAT IS PROVED: what bits.Binary returns for shifts and divisions. CONDITIONS: valid types, int64 operands. -/
import Derived.Test.YtfgmfkiknogdeaaDoorD
namespace Go.Proofs.YtfgmfkiknogdeaaDoor
open Go Go.RowKit Go.QrBits
attribute [local go_sem] reg_cell reg_frozen reg_setCell reg_lt reg_lt_add reg_drew reg_of_drew

set_option maxHeartbeats 2000000 in
set_option maxRecDepth 100000 in
theorem bin_shl (s1 : Int) (g1 : Bool) (a s2 : Int) (g2 : Bool) (b : Int) (w : World) (hp : PlainAt w) (h1 : vB s1 = true) (h2 : vB s2 = true) (ha : I64 a) (hb : I64 b) :
    Calls Tryd.prog 28 #[.int .i64 9, .agg #[.int .i64 s1, .bool g1], .int .i64 a, .agg #[.int .i64 s2, .bool g2], .int .i64 b] w fun e w' =>
      e = .returned (.tuple #[.agg #[.int .i64 (pS s1), .bool (pG s1 g1)], .int .i64 (wr (pS s1) (pG s1 g1) (wrap64 ((wr (pS s1) (pG s1 g1) (wr s1 g1 a)) * 2 ^ (ctV (pS s1) (wr s2 g2 b)).toNat))), .int .i64 0]) ∧ Below w.heap.size w w' := by
  have hlk := shifts_hit 9 0 (.func (.func 82) #[] #[]) rfl
  have h3 := pS_ok h1
  have ha1 := wr_I64 (g := g1) h1 ha
  have hb1 := wr_I64 (g := g2) h2 hb
  have ha2 := wr_I64 (g := pG s1 g1) h3 ha1
  have hc := ctV_bd h3 (wr s2 g2 b)
  obtain ⟨hc0, hc1⟩ := hc
  go_enter Tryd.func28, Tryd.ntmps28
  go_wp2_with (go_at_call 44; refine (valid_c _ _ _).mono ?_; rintro e w' ⟨rfl, hq⟩; (first | obtain ⟨p, rfl⟩ := regrown2 hq | obtain ⟨p, rfl⟩ := regrown hq); clear hq)
  with_reducible refine wp_quietR (by kernel_rfl) (by kernel_rfl) ?_
  repeat (quiet_step ((go_at_call 45; exact reg_call (wrap_c _ _ _ _ (by assumption) (by assumption)))))
  refine wpQuiet_nil ?_
  intro _ hw'; obtain ⟨p, rfl⟩ := hw'
  go_wp2_with (first
    | (go_at_call 55; refine (hlk _).mono ?_; rintro e w' ⟨b, rfl, hq, hl⟩; (first | obtain ⟨p, rfl⟩ := regrown2 hq | obtain ⟨p, rfl⟩ := regrown hq); clear hq)
    | (go_at_call 48; refine (promoted_c _ _ _ (hp.below (by repeat (first | exact Below.refl _ _ | apply b_alloc | apply b_reg)))).mono ?_; rintro e w' ⟨rfl, hq⟩; (first | obtain ⟨p, rfl⟩ := regrown2 hq | obtain ⟨p, rfl⟩ := regrown hq); clear hq))
  with_reducible refine wp_quiet_tail 12 (by kernel_rfl) (by kernel_rfl) ?_
  simp only [List.take_succ_cons, List.take_zero, List.drop_succ_cons, List.drop_zero]
  repeat (quiet_step ((first
    | (go_at_call 45; exact reg_call (wrap_c _ _ _ _ (by assumption) (by first | assumption | exact I64_wrap64 _ | exact shrV_I64 (by assumption))))
    | (go_at_call 56; exact reg_call (count_c _ _ _ _ (by assumption)))
    | (go_at_call 82; exact reg_call (shl_c _ _ _ _ _ hc0 hc1)))))
  refine wpQuiet_nil ?_
  intro _ hw'; obtain ⟨p, rfl⟩ := hw'
  go_wp2
  go_returns
  exact ⟨rfl, by repeat (first | exact Below.refl _ _ | apply b_alloc | apply b_reg)⟩
set_option maxHeartbeats 2000000 in
set_option maxRecDepth 100000 in
theorem bin_shr (s1 : Int) (g1 : Bool) (a s2 : Int) (g2 : Bool) (b : Int) (w : World) (hp : PlainAt w) (h1 : vB s1 = true) (h2 : vB s2 = true) (ha : I64 a) (hb : I64 b) :
    Calls Tryd.prog 28 #[.int .i64 10, .agg #[.int .i64 s1, .bool g1], .int .i64 a, .agg #[.int .i64 s2, .bool g2], .int .i64 b] w fun e w' =>
      e = .returned (.tuple #[.agg #[.int .i64 (pS s1), .bool (pG s1 g1)], .int .i64 (wr (pS s1) (pG s1 g1) (shrV (pG s1 g1) (wr (pS s1) (pG s1 g1) (wr s1 g1 a)) (ctV (pS s1) (wr s2 g2 b)))), .int .i64 0]) ∧ Below w.heap.size w w' := by
  have hlk := shifts_hit 10 1 (.func (.func 83) #[] #[]) rfl
  have h3 := pS_ok h1
  have ha1 := wr_I64 (g := g1) h1 ha
  have hb1 := wr_I64 (g := g2) h2 hb
  have ha2 := wr_I64 (g := pG s1 g1) h3 ha1
  have hc := ctV_bd h3 (wr s2 g2 b)
  obtain ⟨hc0, hc1⟩ := hc
  go_enter Tryd.func28, Tryd.ntmps28
  go_wp2_with (go_at_call 44; refine (valid_c _ _ _).mono ?_; rintro e w' ⟨rfl, hq⟩; (first | obtain ⟨p, rfl⟩ := regrown2 hq | obtain ⟨p, rfl⟩ := regrown hq); clear hq)
  with_reducible refine wp_quietR (by kernel_rfl) (by kernel_rfl) ?_
  repeat (quiet_step ((go_at_call 45; exact reg_call (wrap_c _ _ _ _ (by assumption) (by assumption)))))
  refine wpQuiet_nil ?_
  intro _ hw'; obtain ⟨p, rfl⟩ := hw'
  go_wp2_with (first
    | (go_at_call 55; refine (hlk _).mono ?_; rintro e w' ⟨b, rfl, hq, hl⟩; (first | obtain ⟨p, rfl⟩ := regrown2 hq | obtain ⟨p, rfl⟩ := regrown hq); clear hq)
    | (go_at_call 48; refine (promoted_c _ _ _ (hp.below (by repeat (first | exact Below.refl _ _ | apply b_alloc | apply b_reg)))).mono ?_; rintro e w' ⟨rfl, hq⟩; (first | obtain ⟨p, rfl⟩ := regrown2 hq | obtain ⟨p, rfl⟩ := regrown hq); clear hq))
  with_reducible refine wp_quiet_tail 12 (by kernel_rfl) (by kernel_rfl) ?_
  simp only [List.take_succ_cons, List.take_zero, List.drop_succ_cons, List.drop_zero]
  repeat (quiet_step ((first
    | (go_at_call 45; exact reg_call (wrap_c _ _ _ _ (by assumption) (by first | assumption | exact I64_wrap64 _ | exact shrV_I64 (by assumption))))
    | (go_at_call 56; exact reg_call (count_c _ _ _ _ (by assumption)))
    | (go_at_call 83; exact reg_call (shr_c' _ _ _ _ _ hc0 hc1)))))
  refine wpQuiet_nil ?_
  intro _ hw'; obtain ⟨p, rfl⟩ := hw'
  go_wp2
  go_returns
  exact ⟨rfl, by repeat (first | exact Below.refl _ _ | apply b_alloc | apply b_reg)⟩
set_option maxHeartbeats 2000000 in
set_option maxRecDepth 100000 in
theorem bin_div0 (s1 : Int) (g1 : Bool) (a s2 : Int) (g2 : Bool) (b : Int) (w : World) (hp : PlainAt w) (h1 : vB s1 = true) (h2 : vB s2 = true) (ha : I64 a) (hb : I64 b) (h0 : (wr (cS s1 g1 s2) (cG s1 g1 s2 g2) (wr s2 g2 b)) = 0) :
    Calls Tryd.prog 28 #[.int .i64 4, .agg #[.int .i64 s1, .bool g1], .int .i64 a, .agg #[.int .i64 s2, .bool g2], .int .i64 b] w fun e w' =>
      e = .returned (.tuple #[.agg #[.int .i64 0, .bool false], .int .i64 0, .int .i64 12]) ∧ Below w.heap.size w w' := by
  have hm := shifts_miss 4 rfl
  have hc := cS_ok (g1 := g1) h1 h2
  have ha1 := wr_I64 (g := g1) h1 ha
  have hb1 := wr_I64 (g := g2) h2 hb
  have ha2 := wr_I64 (g := cG s1 g1 s2 g2) hc ha1
  have hb2 := wr_I64 (g := cG s1 g1 s2 g2) hc hb1
  have H0 := Lib.hid h0; clear h0
  have hlk := arith_hit 4 3 (.func (.func 87) #[] #[]) rfl
  go_enter Tryd.func28, Tryd.ntmps28
  go_wp2_with (go_at_call 44; refine (valid_c _ _ _).mono ?_; rintro e w' ⟨rfl, hq⟩; (first | obtain ⟨p, rfl⟩ := regrown2 hq | obtain ⟨p, rfl⟩ := regrown hq); clear hq)
  with_reducible refine wp_quietR (by kernel_rfl) (by kernel_rfl) ?_
  repeat (quiet_step ((go_at_call 45; exact reg_call (wrap_c _ _ _ _ (by assumption) (by assumption)))))
  refine wpQuiet_nil ?_
  intro _ hw'; obtain ⟨p, rfl⟩ := hw'
  go_wp2_with (first
    | (go_at_call 55; refine (hm _).mono ?_; rintro e w' ⟨b, rfl, hq, hl⟩; (first | obtain ⟨p, rfl⟩ := regrown2 hq | obtain ⟨p, rfl⟩ := regrown hq); clear hq)
    | (go_at_call 50; refine (common_c _ _ _ _ _ (hp.below (by repeat (first | exact Below.refl _ _ | apply b_alloc | apply b_reg)))).mono ?_; rintro e w' ⟨rfl, hq⟩; (first | obtain ⟨p, rfl⟩ := regrown2 hq | obtain ⟨p, rfl⟩ := regrown hq); clear hq))
  with_reducible refine wp_quiet (by kernel_rfl) (by kernel_rfl) ?_
  repeat (quiet_step ((go_at_call 45; exact reg_call (wrap_c _ _ _ _ (by assumption) (by assumption)))))
  refine wpQuiet_nil ?_
  intro _ hw'; obtain ⟨p, rfl⟩ := hw'
  go_wp2_with (first
    | (go_at_call 57; refine (hlk _).mono ?_; rintro e w' ⟨b, rfl, hq, hl⟩; (first | obtain ⟨p, rfl⟩ := regrown2 hq | obtain ⟨p, rfl⟩ := regrown hq); clear hq)
    | (go_at_call 87; rw [H0.out]; refine (quo0_c _ _ _ _).mono ?_; rintro e w' ⟨rfl, hq⟩; (first | obtain ⟨p, rfl⟩ := regrown2 hq | obtain ⟨p, rfl⟩ := regrown hq); clear hq))
  go_returns
  exact ⟨rfl, by repeat (first | exact Below.refl _ _ | apply b_alloc | apply b_reg)⟩
set_option maxHeartbeats 2000000 in
set_option maxRecDepth 100000 in
theorem bin_mod0 (s1 : Int) (g1 : Bool) (a s2 : Int) (g2 : Bool) (b : Int) (w : World) (hp : PlainAt w) (h1 : vB s1 = true) (h2 : vB s2 = true) (ha : I64 a) (hb : I64 b) (h0 : (wr (cS s1 g1 s2) (cG s1 g1 s2 g2) (wr s2 g2 b)) = 0) :
    Calls Tryd.prog 28 #[.int .i64 5, .agg #[.int .i64 s1, .bool g1], .int .i64 a, .agg #[.int .i64 s2, .bool g2], .int .i64 b] w fun e w' =>
      e = .returned (.tuple #[.agg #[.int .i64 0, .bool false], .int .i64 0, .int .i64 12]) ∧ Below w.heap.size w w' := by
  have hm := shifts_miss 5 rfl
  have hc := cS_ok (g1 := g1) h1 h2
  have ha1 := wr_I64 (g := g1) h1 ha
  have hb1 := wr_I64 (g := g2) h2 hb
  have ha2 := wr_I64 (g := cG s1 g1 s2 g2) hc ha1
  have hb2 := wr_I64 (g := cG s1 g1 s2 g2) hc hb1
  have H0 := Lib.hid h0; clear h0
  have hlk := arith_hit 5 4 (.func (.func 88) #[] #[]) rfl
  go_enter Tryd.func28, Tryd.ntmps28
  go_wp2_with (go_at_call 44; refine (valid_c _ _ _).mono ?_; rintro e w' ⟨rfl, hq⟩; (first | obtain ⟨p, rfl⟩ := regrown2 hq | obtain ⟨p, rfl⟩ := regrown hq); clear hq)
  with_reducible refine wp_quietR (by kernel_rfl) (by kernel_rfl) ?_
  repeat (quiet_step ((go_at_call 45; exact reg_call (wrap_c _ _ _ _ (by assumption) (by assumption)))))
  refine wpQuiet_nil ?_
  intro _ hw'; obtain ⟨p, rfl⟩ := hw'
  go_wp2_with (first
    | (go_at_call 55; refine (hm _).mono ?_; rintro e w' ⟨b, rfl, hq, hl⟩; (first | obtain ⟨p, rfl⟩ := regrown2 hq | obtain ⟨p, rfl⟩ := regrown hq); clear hq)
    | (go_at_call 50; refine (common_c _ _ _ _ _ (hp.below (by repeat (first | exact Below.refl _ _ | apply b_alloc | apply b_reg)))).mono ?_; rintro e w' ⟨rfl, hq⟩; (first | obtain ⟨p, rfl⟩ := regrown2 hq | obtain ⟨p, rfl⟩ := regrown hq); clear hq))
  with_reducible refine wp_quiet (by kernel_rfl) (by kernel_rfl) ?_
  repeat (quiet_step ((go_at_call 45; exact reg_call (wrap_c _ _ _ _ (by assumption) (by assumption)))))
  refine wpQuiet_nil ?_
  intro _ hw'; obtain ⟨p, rfl⟩ := hw'
  go_wp2_with (first
    | (go_at_call 57; refine (hlk _).mono ?_; rintro e w' ⟨b, rfl, hq, hl⟩; (first | obtain ⟨p, rfl⟩ := regrown2 hq | obtain ⟨p, rfl⟩ := regrown hq); clear hq)
    | (go_at_call 88; rw [H0.out]; refine (rem0_c _ _ _ _).mono ?_; rintro e w' ⟨rfl, hq⟩; (first | obtain ⟨p, rfl⟩ := regrown2 hq | obtain ⟨p, rfl⟩ := regrown hq); clear hq))
  go_returns
  exact ⟨rfl, by repeat (first | exact Below.refl _ _ | apply b_alloc | apply b_reg)⟩
set_option maxHeartbeats 2000000 in
set_option maxRecDepth 100000 in
theorem bin_div (s1 : Int) (g1 : Bool) (a s2 : Int) (g2 : Bool) (b : Int) (w : World) (hp : PlainAt w) (h1 : vB s1 = true) (h2 : vB s2 = true) (ha : I64 a) (hb : I64 b) (h0 : ¬ (wr (cS s1 g1 s2) (cG s1 g1 s2 g2) (wr s2 g2 b)) = 0) :
    Calls Tryd.prog 28 #[.int .i64 4, .agg #[.int .i64 s1, .bool g1], .int .i64 a, .agg #[.int .i64 s2, .bool g2], .int .i64 b] w fun e w' =>
      e = .returned (.tuple #[.agg #[.int .i64 (cS s1 g1 s2), .bool (cG s1 g1 s2 g2)], .int .i64 (wr (cS s1 g1 s2) (cG s1 g1 s2 g2) (qV (cG s1 g1 s2 g2) (wr (cS s1 g1 s2) (cG s1 g1 s2 g2) (wr s1 g1 a)) (wr (cS s1 g1 s2) (cG s1 g1 s2 g2) (wr s2 g2 b)))), .int .i64 0]) ∧ Below w.heap.size w w' := by
  have hm := shifts_miss 4 rfl
  have hc := cS_ok (g1 := g1) h1 h2
  have ha1 := wr_I64 (g := g1) h1 ha
  have hb1 := wr_I64 (g := g2) h2 hb
  have ha2 := wr_I64 (g := cG s1 g1 s2 g2) hc ha1
  have hb2 := wr_I64 (g := cG s1 g1 s2 g2) hc hb1
  have H0 := Lib.hid h0; clear h0
  have hlk := arith_hit 4 3 (.func (.func 87) #[] #[]) rfl
  go_enter Tryd.func28, Tryd.ntmps28
  go_wp2_with (go_at_call 44; refine (valid_c _ _ _).mono ?_; rintro e w' ⟨rfl, hq⟩; (first | obtain ⟨p, rfl⟩ := regrown2 hq | obtain ⟨p, rfl⟩ := regrown hq); clear hq)
  with_reducible refine wp_quietR (by kernel_rfl) (by kernel_rfl) ?_
  repeat (quiet_step ((go_at_call 45; exact reg_call (wrap_c _ _ _ _ (by assumption) (by assumption)))))
  refine wpQuiet_nil ?_
  intro _ hw'; obtain ⟨p, rfl⟩ := hw'
  go_wp2_with (first
    | (go_at_call 55; refine (hm _).mono ?_; rintro e w' ⟨b, rfl, hq, hl⟩; (first | obtain ⟨p, rfl⟩ := regrown2 hq | obtain ⟨p, rfl⟩ := regrown hq); clear hq)
    | (go_at_call 50; refine (common_c _ _ _ _ _ (hp.below (by repeat (first | exact Below.refl _ _ | apply b_alloc | apply b_reg)))).mono ?_; rintro e w' ⟨rfl, hq⟩; (first | obtain ⟨p, rfl⟩ := regrown2 hq | obtain ⟨p, rfl⟩ := regrown hq); clear hq))
  with_reducible refine wp_quiet (by kernel_rfl) (by kernel_rfl) ?_
  repeat (quiet_step ((go_at_call 45; exact reg_call (wrap_c _ _ _ _ (by assumption) (by assumption)))))
  refine wpQuiet_nil ?_
  intro _ hw'; obtain ⟨p, rfl⟩ := hw'
  go_wp2_with (first
    | (go_at_call 57; refine (hlk _).mono ?_; rintro e w' ⟨b, rfl, hq, hl⟩; (first | obtain ⟨p, rfl⟩ := regrown2 hq | obtain ⟨p, rfl⟩ := regrown hq); clear hq)
    | (go_at_call 87; refine (quo_c _ _ _ _ _ (by assumption) H0.out).mono ?_; rintro e w' ⟨rfl, hq⟩; (first | obtain ⟨p, rfl⟩ := regrown2 hq | obtain ⟨p, rfl⟩ := regrown hq); clear hq))
  with_reducible refine wp_quiet_tailR 4 (by kernel_rfl) (by kernel_rfl) ?_
  simp only [List.take_succ_cons, List.take_zero, List.drop_succ_cons, List.drop_zero]
  repeat (quiet_step ((go_at_call 45; exact reg_call (wrap_c _ _ _ _ (by assumption) (by first | exact I64_wrap64 _ | exact bits_I64 _ _ _ | exact qV_I64 _ _ _ | exact rV_I64 (by assumption) (by assumption))))))
  refine wpQuiet_nil ?_
  intro _ hw'; obtain ⟨p, rfl⟩ := hw'
  go_wp2
  go_returns
  exact ⟨rfl, by repeat (first | exact Below.refl _ _ | apply b_alloc | apply b_reg)⟩
set_option maxHeartbeats 2000000 in
set_option maxRecDepth 100000 in
theorem bin_mod (s1 : Int) (g1 : Bool) (a s2 : Int) (g2 : Bool) (b : Int) (w : World) (hp : PlainAt w) (h1 : vB s1 = true) (h2 : vB s2 = true) (ha : I64 a) (hb : I64 b) (h0 : ¬ (wr (cS s1 g1 s2) (cG s1 g1 s2 g2) (wr s2 g2 b)) = 0) :
    Calls Tryd.prog 28 #[.int .i64 5, .agg #[.int .i64 s1, .bool g1], .int .i64 a, .agg #[.int .i64 s2, .bool g2], .int .i64 b] w fun e w' =>
      e = .returned (.tuple #[.agg #[.int .i64 (cS s1 g1 s2), .bool (cG s1 g1 s2 g2)], .int .i64 (wr (cS s1 g1 s2) (cG s1 g1 s2 g2) (rV (cG s1 g1 s2 g2) (wr (cS s1 g1 s2) (cG s1 g1 s2 g2) (wr s1 g1 a)) (wr (cS s1 g1 s2) (cG s1 g1 s2 g2) (wr s2 g2 b)))), .int .i64 0]) ∧ Below w.heap.size w w' := by
  have hm := shifts_miss 5 rfl
  have hc := cS_ok (g1 := g1) h1 h2
  have ha1 := wr_I64 (g := g1) h1 ha
  have hb1 := wr_I64 (g := g2) h2 hb
  have ha2 := wr_I64 (g := cG s1 g1 s2 g2) hc ha1
  have hb2 := wr_I64 (g := cG s1 g1 s2 g2) hc hb1
  have H0 := Lib.hid h0; clear h0
  have hlk := arith_hit 5 4 (.func (.func 88) #[] #[]) rfl
  go_enter Tryd.func28, Tryd.ntmps28
  go_wp2_with (go_at_call 44; refine (valid_c _ _ _).mono ?_; rintro e w' ⟨rfl, hq⟩; (first | obtain ⟨p, rfl⟩ := regrown2 hq | obtain ⟨p, rfl⟩ := regrown hq); clear hq)
  with_reducible refine wp_quietR (by kernel_rfl) (by kernel_rfl) ?_
  repeat (quiet_step ((go_at_call 45; exact reg_call (wrap_c _ _ _ _ (by assumption) (by assumption)))))
  refine wpQuiet_nil ?_
  intro _ hw'; obtain ⟨p, rfl⟩ := hw'
  go_wp2_with (first
    | (go_at_call 55; refine (hm _).mono ?_; rintro e w' ⟨b, rfl, hq, hl⟩; (first | obtain ⟨p, rfl⟩ := regrown2 hq | obtain ⟨p, rfl⟩ := regrown hq); clear hq)
    | (go_at_call 50; refine (common_c _ _ _ _ _ (hp.below (by repeat (first | exact Below.refl _ _ | apply b_alloc | apply b_reg)))).mono ?_; rintro e w' ⟨rfl, hq⟩; (first | obtain ⟨p, rfl⟩ := regrown2 hq | obtain ⟨p, rfl⟩ := regrown hq); clear hq))
  with_reducible refine wp_quiet (by kernel_rfl) (by kernel_rfl) ?_
  repeat (quiet_step ((go_at_call 45; exact reg_call (wrap_c _ _ _ _ (by assumption) (by assumption)))))
  refine wpQuiet_nil ?_
  intro _ hw'; obtain ⟨p, rfl⟩ := hw'
  go_wp2_with (first
    | (go_at_call 57; refine (hlk _).mono ?_; rintro e w' ⟨b, rfl, hq, hl⟩; (first | obtain ⟨p, rfl⟩ := regrown2 hq | obtain ⟨p, rfl⟩ := regrown hq); clear hq)
    | (go_at_call 88; refine (rem_c _ _ _ _ _ (by assumption) H0.out).mono ?_; rintro e w' ⟨rfl, hq⟩; (first | obtain ⟨p, rfl⟩ := regrown2 hq | obtain ⟨p, rfl⟩ := regrown hq); clear hq))
  with_reducible refine wp_quiet_tailR 4 (by kernel_rfl) (by kernel_rfl) ?_
  simp only [List.take_succ_cons, List.take_zero, List.drop_succ_cons, List.drop_zero]
  repeat (quiet_step ((go_at_call 45; exact reg_call (wrap_c _ _ _ _ (by assumption) (by first | exact I64_wrap64 _ | exact bits_I64 _ _ _ | exact qV_I64 _ _ _ | exact rV_I64 (by assumption) (by assumption))))))
  refine wpQuiet_nil ?_
  intro _ hw'; obtain ⟨p, rfl⟩ := hw'
  go_wp2
  go_returns
  exact ⟨rfl, by repeat (first | exact Below.refl _ _ | apply b_alloc | apply b_reg)⟩
end Go.Proofs.YtfgmfkiknogdeaaDoor
