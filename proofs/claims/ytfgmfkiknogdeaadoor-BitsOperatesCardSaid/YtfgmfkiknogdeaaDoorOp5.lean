/- WHAT IS PROVED: the reference's Binary at shifts, at operators that are none and at types that are not valid; Unary of both; bits.Binary at operators that are none. CONDITIONS: int64 operands; the package variables 'plain' and 'promoted' hold what their initialisers lay. -/
import Derived.Test.YtfgmfkiknogdeaaDoorOp3
import Derived.Test.YtfgmfkiknogdeaaDoorV
namespace Go.Proofs.YtfgmfkiknogdeaaDoor
open Go Go.RowKit Go.QrBits
attribute [local go_sem] reg_cell reg_frozen reg_setCell reg_lt reg_lt_add reg_drew reg_of_drew quietR yieldsR

set_option maxHeartbeats 4000000 in
set_option maxRecDepth 100000 in
theorem rbin_9 (s1 : Int) (g1 : Bool) (a s2 : Int) (g2 : Bool) (b : Int) (w : World) (hr : PromAt w) (h1 : vB s1 = true) (h2 : vB s2 = true) (ha : I64 a) : Calls Tryd.prog 29 #[.int .i64 9, .agg #[.int .i64 s1, .bool g1], .int .i64 a, .agg #[.int .i64 s2, .bool g2], .int .i64 b] w fun e w' => e = .returned (.agg #[.int .i64 (pS s1), .bool (pG s1 g1), .int .i64 (wr (pS s1) (pG s1 g1) (wrap64 (wr s1 g1 a * 2 ^ (ctV (pS s1) (wr s2 g2 b)).toNat))), .int .i64 0]) ∧ Below w.heap.size w w' := by
  have i1 := wr_I64 (g := g1) h1 ha
  have hwp := wr_promS (g := g1) h1 a
  have hpb := pB_pS h1
  have hsh := fun w => rsh_9_c (pS s1) (pG s1 g1) (wr s1 g1 a) (wr s2 g2 b) w hpb i1 hwp
  clear hwp hpb
  go_enter Tryd.func29, Tryd.ntmps29
  go_wp2_with (first
    | (go_at_call 51; refine (both_c _ _ _ _ _ h1 h2).mono ?_; rintro e w' ⟨rfl, hq⟩; (first | obtain ⟨p, rfl⟩ := regrown2 hq | obtain ⟨p, rfl⟩ := regrown hq); clear hq)
    | (go_at_call 47; (first | (with_reducible refine (rWrapped_c s1 g1 a _ h1).mono ?_) | (with_reducible refine (rWrapped_c s2 g2 b _ h2).mono ?_)); rintro e w' ⟨rfl, hq⟩; (first | obtain ⟨p, rfl⟩ := regrown2 hq | obtain ⟨p, rfl⟩ := regrown hq); clear hq)
    | (go_at_call 49; refine (rPromoted_c _ _ _ (hr.below (by repeat (first | exact Below.refl _ _ | apply b_alloc | apply b_reg)))).mono ?_; rintro e w' ⟨rfl, hq⟩; (first | obtain ⟨p, rfl⟩ := regrown2 hq | obtain ⟨p, rfl⟩ := regrown hq); clear hq))
  with_reducible first | refine wp_quiet_tailR 7 (by kernel_rfl) (by kernel_rfl) ?_ | refine wp_quiet_tail 7 (by kernel_rfl) (by kernel_rfl) ?_
  simp only [List.take_succ_cons, List.take_zero, List.drop_succ_cons, List.drop_zero]
  repeat (quiet_step ((go_at_call 61; exact reg_call (hsh _))))
  refine wpQuiet_nil ?_
  intro _ hw'; obtain ⟨p, rfl⟩ := hw'
  go_wp2
  go_returns
  exact ⟨rfl, by repeat (first | exact Below.refl _ _ | apply b_alloc | apply b_reg)⟩
set_option maxHeartbeats 4000000 in
set_option maxRecDepth 100000 in
theorem rbin_10 (s1 : Int) (g1 : Bool) (a s2 : Int) (g2 : Bool) (b : Int) (w : World) (hr : PromAt w) (h1 : vB s1 = true) (h2 : vB s2 = true) (ha : I64 a) : Calls Tryd.prog 29 #[.int .i64 10, .agg #[.int .i64 s1, .bool g1], .int .i64 a, .agg #[.int .i64 s2, .bool g2], .int .i64 b] w fun e w' => e = .returned (.agg #[.int .i64 (pS s1), .bool (pG s1 g1), .int .i64 (shrV (pG s1 g1) (wr s1 g1 a) (ctV (pS s1) (wr s2 g2 b))), .int .i64 0]) ∧ Below w.heap.size w w' := by
  have i1 := wr_I64 (g := g1) h1 ha
  have hwp := wr_promS (g := g1) h1 a
  have hpb := pB_pS h1
  have hsh := fun w => rsh_10_c (pS s1) (pG s1 g1) (wr s1 g1 a) (wr s2 g2 b) w hpb i1 hwp
  clear hwp hpb
  go_enter Tryd.func29, Tryd.ntmps29
  go_wp2_with (first
    | (go_at_call 51; refine (both_c _ _ _ _ _ h1 h2).mono ?_; rintro e w' ⟨rfl, hq⟩; (first | obtain ⟨p, rfl⟩ := regrown2 hq | obtain ⟨p, rfl⟩ := regrown hq); clear hq)
    | (go_at_call 47; (first | (with_reducible refine (rWrapped_c s1 g1 a _ h1).mono ?_) | (with_reducible refine (rWrapped_c s2 g2 b _ h2).mono ?_)); rintro e w' ⟨rfl, hq⟩; (first | obtain ⟨p, rfl⟩ := regrown2 hq | obtain ⟨p, rfl⟩ := regrown hq); clear hq)
    | (go_at_call 49; refine (rPromoted_c _ _ _ (hr.below (by repeat (first | exact Below.refl _ _ | apply b_alloc | apply b_reg)))).mono ?_; rintro e w' ⟨rfl, hq⟩; (first | obtain ⟨p, rfl⟩ := regrown2 hq | obtain ⟨p, rfl⟩ := regrown hq); clear hq))
  with_reducible first | refine wp_quiet_tailR 7 (by kernel_rfl) (by kernel_rfl) ?_ | refine wp_quiet_tail 7 (by kernel_rfl) (by kernel_rfl) ?_
  simp only [List.take_succ_cons, List.take_zero, List.drop_succ_cons, List.drop_zero]
  repeat (quiet_step ((go_at_call 61; exact reg_call (hsh _))))
  refine wpQuiet_nil ?_
  intro _ hw'; obtain ⟨p, rfl⟩ := hw'
  go_wp2
  go_returns
  exact ⟨rfl, by repeat (first | exact Below.refl _ _ | apply b_alloc | apply b_reg)⟩
set_option maxHeartbeats 4000000 in
set_option maxRecDepth 100000 in
theorem rbin_lo (op : Int) (s1 : Int) (g1 : Bool) (a s2 : Int) (g2 : Bool) (b : Int) (w : World) (h1 : vB s1 = true) (h2 : vB s2 = true) (ho : op < 1) : Calls Tryd.prog 29 #[.int .i64 op, .agg #[.int .i64 s1, .bool g1], .int .i64 a, .agg #[.int .i64 s2, .bool g2], .int .i64 b] w fun e w' => e = .returned (.agg #[.int .i64 0, .bool false, .int .i64 0, .int .i64 11]) ∧ Below w.heap.size w w' := by
  go_enter Tryd.func29, Tryd.ntmps29
  go_wp2_with (go_at_call 51; refine (both_c _ _ _ _ _ h1 h2).mono ?_; rintro e w' ⟨rfl, hq⟩; (first | obtain ⟨p, rfl⟩ := regrown2 hq | obtain ⟨p, rfl⟩ := regrown hq); clear hq)
  go_returns
  exact ⟨rfl, by repeat (first | exact Below.refl _ _ | apply b_alloc | apply b_reg)⟩
set_option maxHeartbeats 4000000 in
set_option maxRecDepth 100000 in
theorem rbin_hi (op : Int) (s1 : Int) (g1 : Bool) (a s2 : Int) (g2 : Bool) (b : Int) (w : World) (h1 : vB s1 = true) (h2 : vB s2 = true) (hn : ¬ op < 1) (ho : 16 < op) : Calls Tryd.prog 29 #[.int .i64 op, .agg #[.int .i64 s1, .bool g1], .int .i64 a, .agg #[.int .i64 s2, .bool g2], .int .i64 b] w fun e w' => e = .returned (.agg #[.int .i64 0, .bool false, .int .i64 0, .int .i64 11]) ∧ Below w.heap.size w w' := by
  go_enter Tryd.func29, Tryd.ntmps29
  go_wp2_with (go_at_call 51; refine (both_c _ _ _ _ _ h1 h2).mono ?_; rintro e w' ⟨rfl, hq⟩; (first | obtain ⟨p, rfl⟩ := regrown2 hq | obtain ⟨p, rfl⟩ := regrown hq); clear hq)
  go_returns
  exact ⟨rfl, by repeat (first | exact Below.refl _ _ | apply b_alloc | apply b_reg)⟩
set_option maxHeartbeats 4000000 in
set_option maxRecDepth 100000 in
theorem rbin_no1 (op : Int) (s1 : Int) (g1 : Bool) (a s2 : Int) (g2 : Bool) (b : Int) (w : World) (h1 : vB s1 = false) : Calls Tryd.prog 29 #[.int .i64 op, .agg #[.int .i64 s1, .bool g1], .int .i64 a, .agg #[.int .i64 s2, .bool g2], .int .i64 b] w fun e w' => e = .returned (.agg #[.int .i64 0, .bool false, .int .i64 0, .int .i64 10]) ∧ Below w.heap.size w w' := by
  go_enter Tryd.func29, Tryd.ntmps29
  go_wp2_with (go_at_call 51; refine (both_no1 _ _ _ _ _ h1).mono ?_; rintro e w' ⟨rfl, hq⟩; (first | obtain ⟨p, rfl⟩ := regrown2 hq | obtain ⟨p, rfl⟩ := regrown hq); clear hq)
  go_returns
  exact ⟨rfl, by repeat (first | exact Below.refl _ _ | apply b_alloc | apply b_reg)⟩
set_option maxHeartbeats 4000000 in
set_option maxRecDepth 100000 in
theorem rbin_no2 (op : Int) (s1 : Int) (g1 : Bool) (a s2 : Int) (g2 : Bool) (b : Int) (w : World) (h1 : vB s1 = true) (h2 : vB s2 = false) : Calls Tryd.prog 29 #[.int .i64 op, .agg #[.int .i64 s1, .bool g1], .int .i64 a, .agg #[.int .i64 s2, .bool g2], .int .i64 b] w fun e w' => e = .returned (.agg #[.int .i64 0, .bool false, .int .i64 0, .int .i64 10]) ∧ Below w.heap.size w w' := by
  go_enter Tryd.func29, Tryd.ntmps29
  go_wp2_with (go_at_call 51; refine (both_no2 _ _ _ _ _ h1 h2).mono ?_; rintro e w' ⟨rfl, hq⟩; (first | obtain ⟨p, rfl⟩ := regrown2 hq | obtain ⟨p, rfl⟩ := regrown hq); clear hq)
  go_returns
  exact ⟨rfl, by repeat (first | exact Below.refl _ _ | apply b_alloc | apply b_reg)⟩
theorem find_none (op : Int) (es : List MapEntry) (i : Nat) (ks : List Int) (he : es.map (fun e => e.key) = ks.map (Value.int .i64)) (hne : ∀ k ∈ ks, ¬ op = k) : Instr.findNow (.int .i64) (.int .i64 op) es i = some none := by
  induction es generalizing i ks with
  | nil => exact findNow_nil _ _ _
  | cons e es ih =>
    cases ks with
    | nil => cases he
    | cons k ks =>
      simp only [List.map_cons, List.cons.injEq] at he
      obtain ⟨ek, ev, eb⟩ := e
      simp only at he
      obtain ⟨rfl, he⟩ := he
      rw [findNow_int, show (op == k) = false from beq_eq_false_iff_ne.2 (hne k List.mem_cons_self)]
      exact ih (i + 1) ks he fun k' hk => hne k' (List.mem_cons_of_mem _ hk)
theorem shifts_none {op : Int} (h : op < 1 ∨ 16 < op) : MapAt 55 84 op .nilFunc false := shifts_miss op (find_none op _ 0 [9, 10] rfl (by intro k hk; simp at hk; omega))
theorem arith_none {op : Int} (h : op < 1 ∨ 16 < op) : MapAt 57 89 op .nilFunc false := arith_miss op (find_none op _ 0 [1, 2, 3, 4, 5, 6, 7, 8] rfl (by intro k hk; simp at hk; omega))
theorem relations_none {op : Int} (h : op < 1 ∨ 16 < op) : MapAt 58 93 op .nilFunc false := relations_miss op (find_none op _ 0 [11, 12, 13, 14, 15, 16] rfl (by intro k hk; simp at hk; omega))
theorem unaries_none {op : Int} (h : op < 1 ∨ 3 < op) : MapAt 53 79 op .nilFunc false := unaries_miss op (find_none op _ 0 [1, 2, 3] rfl (by intro k hk; simp at hk; omega))
set_option maxHeartbeats 4000000 in
set_option maxRecDepth 100000 in
theorem bin_bad (op s1 : Int) (g1 : Bool) (a s2 : Int) (g2 : Bool) (b : Int) (w : World) (hp : PlainAt w) (h1 : vB s1 = true) (h2 : vB s2 = true) (ha : I64 a) (hb : I64 b) (ho : op < 1 ∨ 16 < op) :
    Calls Tryd.prog 28 #[.int .i64 op, .agg #[.int .i64 s1, .bool g1], .int .i64 a, .agg #[.int .i64 s2, .bool g2], .int .i64 b] w fun e w' =>
      e = .returned (.tuple #[.agg #[.int .i64 0, .bool false], .int .i64 0, .int .i64 11]) ∧ Below w.heap.size w w' := by
  have hm := shifts_none ho
  have hc := cS_ok (g1 := g1) h1 h2
  have ha1 := wr_I64 (g := g1) h1 ha
  have hb1 := wr_I64 (g := g2) h2 hb
  have ha2 := wr_I64 (g := cG s1 g1 s2 g2) hc ha1
  have hb2 := wr_I64 (g := cG s1 g1 s2 g2) hc hb1
  have hma := arith_none ho
  have hlk := relations_none ho
  clear ho
  go_enter Tryd.func28, Tryd.ntmps28
  go_wp2_with (go_at_call 44; refine (valid_c _ _ _).mono ?_; rintro e w' ⟨rfl, hq⟩; (first | obtain ⟨p, rfl⟩ := regrown2 hq | obtain ⟨p, rfl⟩ := regrown hq); clear hq)
  with_reducible refine wp_quietR (by kernel_rfl) (by kernel_rfl) ?_
  repeat (quiet_step ((go_at_call 45; exact reg_call (wrap_c _ _ _ _ (by assumption) (by assumption)))))
  refine wpQuiet_nil ?_
  intro _ hw'; obtain ⟨p, rfl⟩ := hw'
  go_wp2_with (first
    | (go_at_call 55; refine (hm _).mono ?_; rintro e w' ⟨b, rfl, hq, hl⟩; (first | obtain ⟨p, rfl⟩ := regrown2 hq | obtain ⟨p, rfl⟩ := regrown hq); clear hq)
    | (go_at_call 50; refine (common_c _ _ _ _ _ (hp.below (by repeat (first | exact Below.refl _ _ | apply b_alloc | apply b_reg)))).mono ?_; rintro e w' ⟨rfl, hq⟩; (first | obtain ⟨p, rfl⟩ := regrown2 hq | obtain ⟨p, rfl⟩ := regrown hq); clear hq))
  with_reducible refine wp_quiet (by kernel_rfl) (by kernel_rfl) ?_
  repeat (quiet_step ((go_at_call 45; exact reg_call (wrap_c _ _ _ _ (by assumption) (by assumption)))))
  refine wpQuiet_nil ?_
  intro _ hw'; obtain ⟨p, rfl⟩ := hw'
  go_wp2_with (first
    | (go_at_call 57; refine (hma _).mono ?_; rintro e w' ⟨b, rfl, hq, hl⟩; (first | obtain ⟨p, rfl⟩ := regrown2 hq | obtain ⟨p, rfl⟩ := regrown hq); clear hq)
    | (go_at_call 58; refine (hlk _).mono ?_; rintro e w' ⟨b, rfl, hq, hl⟩; (first | obtain ⟨p, rfl⟩ := regrown2 hq | obtain ⟨p, rfl⟩ := regrown hq); clear hq))
  go_returns
  exact ⟨rfl, by repeat (first | exact Below.refl _ _ | apply b_alloc | apply b_reg)⟩
set_option maxHeartbeats 4000000 in
set_option maxRecDepth 100000 in
theorem runary_1 (s : Int) (g : Bool) (v : Int) (w : World) (hr : PromAt w) (h : vB s = true) : Calls Tryd.prog 27 #[.int .i64 1, .agg #[.int .i64 s, .bool g], .int .i64 v] w fun e w' => e = .returned (.agg #[.int .i64 (pS s), .bool (pG s g), .int .i64 (wr (pS s) (pG s g) (wrap64 (-(wr s g v)))), .int .i64 0]) ∧ Below w.heap.size w w' := by
  have h3 := pS_ok h
  go_enter Tryd.func27, Tryd.ntmps27
  go_wp2_with (first
    | (go_at_call 25; refine (rCheck_c _ _ _ h).mono ?_; rintro e w' ⟨rfl, hq⟩; (first | obtain ⟨p, rfl⟩ := regrown2 hq | obtain ⟨p, rfl⟩ := regrown hq); clear hq)
    | (go_at_call 47; with_reducible refine (rWrapped_c s g v _ h).mono ?_; rintro e w' ⟨rfl, hq⟩; (first | obtain ⟨p, rfl⟩ := regrown2 hq | obtain ⟨p, rfl⟩ := regrown hq); clear hq)
    | (go_at_call 49; refine (rPromoted_c _ _ _ (hr.below (by repeat (first | exact Below.refl _ _ | apply b_alloc | apply b_reg)))).mono ?_; rintro e w' ⟨rfl, hq⟩; (first | obtain ⟨p, rfl⟩ := regrown2 hq | obtain ⟨p, rfl⟩ := regrown hq); clear hq))
  with_reducible first | refine wp_quiet_tailR 6 (by kernel_rfl) (by kernel_rfl) ?_ | refine wp_quiet_tail 6 (by kernel_rfl) (by kernel_rfl) ?_
  simp only [List.take_succ_cons, List.take_zero, List.drop_succ_cons, List.drop_zero]
  repeat (quiet_step ((go_at_call 47; exact reg_call (rWrapped_c _ _ _ _ h3))))
  refine wpQuiet_nil ?_
  intro _ hw'; obtain ⟨p1, hw1⟩ := hw'; obtain ⟨p, hw2⟩ := regrown2 (Below.tail (b_alloc (Below.refl _ _)) (below_reg _ p1)); rw [hw2] at hw1; subst hw1; clear hw2
  go_wp2
  go_returns
  exact ⟨rfl, by repeat (first | exact Below.refl _ _ | apply b_alloc | apply b_reg)⟩
set_option maxHeartbeats 4000000 in
set_option maxRecDepth 100000 in
theorem runary_2 (s : Int) (g : Bool) (v : Int) (w : World) (hr : PromAt w) (h : vB s = true) : Calls Tryd.prog 27 #[.int .i64 2, .agg #[.int .i64 s, .bool g], .int .i64 v] w fun e w' => e = .returned (.agg #[.int .i64 (pS s), .bool (pG s g), .int .i64 (wr (pS s) (pG s g) (wrap64 (wrap64 (-(wr s g v)) - 1))), .int .i64 0]) ∧ Below w.heap.size w w' := by
  have h3 := pS_ok h
  go_enter Tryd.func27, Tryd.ntmps27
  go_wp2_with (first
    | (go_at_call 25; refine (rCheck_c _ _ _ h).mono ?_; rintro e w' ⟨rfl, hq⟩; (first | obtain ⟨p, rfl⟩ := regrown2 hq | obtain ⟨p, rfl⟩ := regrown hq); clear hq)
    | (go_at_call 47; with_reducible refine (rWrapped_c s g v _ h).mono ?_; rintro e w' ⟨rfl, hq⟩; (first | obtain ⟨p, rfl⟩ := regrown2 hq | obtain ⟨p, rfl⟩ := regrown hq); clear hq)
    | (go_at_call 49; refine (rPromoted_c _ _ _ (hr.below (by repeat (first | exact Below.refl _ _ | apply b_alloc | apply b_reg)))).mono ?_; rintro e w' ⟨rfl, hq⟩; (first | obtain ⟨p, rfl⟩ := regrown2 hq | obtain ⟨p, rfl⟩ := regrown hq); clear hq))
  with_reducible first | refine wp_quiet_tailR 7 (by kernel_rfl) (by kernel_rfl) ?_ | refine wp_quiet_tail 7 (by kernel_rfl) (by kernel_rfl) ?_
  simp only [List.take_succ_cons, List.take_zero, List.drop_succ_cons, List.drop_zero]
  repeat (quiet_step ((go_at_call 47; exact reg_call (rWrapped_c _ _ _ _ h3))))
  refine wpQuiet_nil ?_
  intro _ hw'; obtain ⟨p1, hw1⟩ := hw'; obtain ⟨p, hw2⟩ := regrown2 (Below.tail (b_alloc (Below.refl _ _)) (below_reg _ p1)); rw [hw2] at hw1; subst hw1; clear hw2
  go_wp2
  go_returns
  exact ⟨rfl, by repeat (first | exact Below.refl _ _ | apply b_alloc | apply b_reg)⟩
set_option maxHeartbeats 4000000 in
set_option maxRecDepth 100000 in
theorem runary_3 (s : Int) (g : Bool) (v : Int) (w : World) (hr : PromAt w) (h : vB s = true) : Calls Tryd.prog 27 #[.int .i64 3, .agg #[.int .i64 s, .bool g], .int .i64 v] w fun e w' => e = .returned (.agg #[.int .i64 4, .bool true, .int .i64 (tV (wr s g v == 0)), .int .i64 0]) ∧ Below w.heap.size w w' := by
  go_enter Tryd.func27, Tryd.ntmps27
  go_wp2_with (first
    | (go_at_call 25; refine (rCheck_c _ _ _ h).mono ?_; rintro e w' ⟨rfl, hq⟩; (first | obtain ⟨p, rfl⟩ := regrown2 hq | obtain ⟨p, rfl⟩ := regrown hq); clear hq)
    | (go_at_call 47; with_reducible refine (rWrapped_c s g v _ h).mono ?_; rintro e w' ⟨rfl, hq⟩; (first | obtain ⟨p, rfl⟩ := regrown2 hq | obtain ⟨p, rfl⟩ := regrown hq); clear hq)
    | (go_at_call 49; refine (rPromoted_c _ _ _ (hr.below (by repeat (first | exact Below.refl _ _ | apply b_alloc | apply b_reg)))).mono ?_; rintro e w' ⟨rfl, hq⟩; (first | obtain ⟨p, rfl⟩ := regrown2 hq | obtain ⟨p, rfl⟩ := regrown hq); clear hq)
    | (go_at_call 54; refine (rtruth_c _ _ (hr.below (by repeat (first | exact Below.refl _ _ | apply b_alloc | apply b_reg)))).mono ?_; rintro e w' ⟨rfl, hq⟩; (obtain ⟨p, rfl⟩ := regrown2 (Below.tail (b_alloc (Below.refl _ _)) hq)); clear hq))
  go_returns
  exact ⟨rfl, by repeat (first | exact Below.refl _ _ | apply b_alloc | apply b_reg)⟩
set_option maxHeartbeats 4000000 in
set_option maxRecDepth 100000 in
theorem runary_bad (op : Int) (s : Int) (g : Bool) (v : Int) (w : World) (hr : PromAt w) (h : vB s = true) (ho : op < 1 ∨ 3 < op) : Calls Tryd.prog 27 #[.int .i64 op, .agg #[.int .i64 s, .bool g], .int .i64 v] w fun e w' => e = .returned (.agg #[.int .i64 0, .bool false, .int .i64 0, .int .i64 11]) ∧ Below w.heap.size w w' := by
  have e1 : (op == 1) = false := beq_eq_false_iff_ne.2 (by omega)
  have e2 : (op == 2) = false := beq_eq_false_iff_ne.2 (by omega)
  have e3 : (op == 3) = false := beq_eq_false_iff_ne.2 (by omega)
  clear ho
  go_enter Tryd.func27, Tryd.ntmps27
  go_wp2_with (first
    | (go_at_call 25; refine (rCheck_c _ _ _ h).mono ?_; rintro e w' ⟨rfl, hq⟩; (first | obtain ⟨p, rfl⟩ := regrown2 hq | obtain ⟨p, rfl⟩ := regrown hq); clear hq)
    | (go_at_call 47; with_reducible refine (rWrapped_c s g v _ h).mono ?_; rintro e w' ⟨rfl, hq⟩; (first | obtain ⟨p, rfl⟩ := regrown2 hq | obtain ⟨p, rfl⟩ := regrown hq); clear hq)
    | (go_at_call 49; refine (rPromoted_c _ _ _ (hr.below (by repeat (first | exact Below.refl _ _ | apply b_alloc | apply b_reg)))).mono ?_; rintro e w' ⟨rfl, hq⟩; (first | obtain ⟨p, rfl⟩ := regrown2 hq | obtain ⟨p, rfl⟩ := regrown hq); clear hq))
  go_returns
  exact ⟨rfl, by repeat (first | exact Below.refl _ _ | apply b_alloc | apply b_reg)⟩
set_option maxHeartbeats 4000000 in
set_option maxRecDepth 100000 in
theorem runary_no (op : Int) (s : Int) (g : Bool) (v : Int) (w : World) (h : vB s = false) : Calls Tryd.prog 27 #[.int .i64 op, .agg #[.int .i64 s, .bool g], .int .i64 v] w fun e w' => e = .returned (.agg #[.int .i64 0, .bool false, .int .i64 0, .int .i64 10]) ∧ Below w.heap.size w w' := by
  go_enter Tryd.func27, Tryd.ntmps27
  go_wp2_with (go_at_call 25; refine (rCheck_no _ _ _ h).mono ?_; rintro e w' ⟨rfl, hq⟩; (first | obtain ⟨p, rfl⟩ := regrown2 hq | obtain ⟨p, rfl⟩ := regrown hq); clear hq)
  go_returns
  exact ⟨rfl, by repeat (first | exact Below.refl _ _ | apply b_alloc | apply b_reg)⟩
theorem not_val (v : Int) : bits .xor .i64 (-1) v = wrap64 (-v - 1) := by
  refine I64_eq (bits_I64 _ _ _) (I64_wrap64 _) ?_
  show IntKind.i64.wrap ((BitVec.ofInt 64 (-1) ^^^ BitVec.ofInt 64 v).toNat : Int) % _ = _
  rw [i64_mod (by omega), wrap64_modk (by omega), show BitVec.ofInt 64 (-1) = BitVec.allOnes 64 from rfl, BitVec.allOnes_xor, BitVec.toNat_not, ofInt64]
  have h1 := rs_lt 64 v
  have h2 := rs_cast 64 v
  have h3 : ((2 ^ 64 - 1 - rs 64 v : Nat) : Int) = 18446744073709551615 - (rs 64 v : Int) := by omega
  rw [h3, h2]
  show (18446744073709551615 - v % 18446744073709551616) % 18446744073709551616 = (-v - 1) % 18446744073709551616
  omega
set_option maxHeartbeats 4000000 in
set_option maxRecDepth 100000 in
theorem un_1 (s : Int) (g : Bool) (v : Int) (w : World) (hp : PlainAt w) (h : vB s = true) : Calls Tryd.prog 79 #[.agg #[.int .i64 s, .bool g], .int .i64 v] w fun e w' => e = .returned (.tuple #[.agg #[.int .i64 (pS s), .bool (pG s g)], .int .i64 (wr (pS s) (pG s g) (IntKind.i64.wrap (-v)))]) ∧ Below w.heap.size w w' := by
  have h3 := pS_ok h
  have hp1 := hp.1
  have hp2 := hp.2.1
  have hp3 := hp.2.2
  go_enter Tryd.func79, Tryd.ntmps79
  go_wp2_with fail
  with_reducible first | refine wp_quiet_tailR 7 (by kernel_rfl) (by kernel_rfl) ?_ | refine wp_quiet_tail 7 (by kernel_rfl) (by kernel_rfl) ?_
  simp only [List.take_succ_cons, List.take_zero, List.drop_succ_cons, List.drop_zero]
  repeat (quiet_step ((first
    | (go_at_call 48; exact reg_call (promoted_c _ _ _ (((hp.below (b_alloc (Below.refl _ _))).below (b_alloc (Below.refl _ _))).below (below_reg _ _))))
    | (go_at_call 45; exact reg_call (wrap_c _ _ _ _ h3 (by first | exact I64_wrap64 _ | exact I64_wrap _ | exact bits_I64 _ _ _))))))
  refine wpQuiet_nil ?_
  intro _ hw'; obtain ⟨p, rfl⟩ := hw'
  go_wp2
  go_returns
  exact ⟨rfl, by repeat (first | exact Below.refl _ _ | apply b_alloc | apply b_reg)⟩
set_option maxHeartbeats 4000000 in
set_option maxRecDepth 100000 in
theorem un_2 (s : Int) (g : Bool) (v : Int) (w : World) (hp : PlainAt w) (h : vB s = true) : Calls Tryd.prog 80 #[.agg #[.int .i64 s, .bool g], .int .i64 v] w fun e w' => e = .returned (.tuple #[.agg #[.int .i64 (pS s), .bool (pG s g)], .int .i64 (wr (pS s) (pG s g) (bits .xor .i64 (-1) v))]) ∧ Below w.heap.size w w' := by
  have h3 := pS_ok h
  have hp1 := hp.1
  have hp2 := hp.2.1
  have hp3 := hp.2.2
  go_enter Tryd.func80, Tryd.ntmps80
  go_wp2_with fail
  with_reducible first | refine wp_quiet_tailR 7 (by kernel_rfl) (by kernel_rfl) ?_ | refine wp_quiet_tail 7 (by kernel_rfl) (by kernel_rfl) ?_
  simp only [List.take_succ_cons, List.take_zero, List.drop_succ_cons, List.drop_zero]
  repeat (quiet_step ((first
    | (go_at_call 48; exact reg_call (promoted_c _ _ _ (((hp.below (b_alloc (Below.refl _ _))).below (b_alloc (Below.refl _ _))).below (below_reg _ _))))
    | (go_at_call 45; exact reg_call (wrap_c _ _ _ _ h3 (by first | exact I64_wrap64 _ | exact I64_wrap _ | exact bits_I64 _ _ _))))))
  refine wpQuiet_nil ?_
  intro _ hw'; obtain ⟨p, rfl⟩ := hw'
  go_wp2
  go_returns
  exact ⟨rfl, by repeat (first | exact Below.refl _ _ | apply b_alloc | apply b_reg)⟩
set_option maxHeartbeats 4000000 in
set_option maxRecDepth 100000 in
theorem un_3 (s : Int) (g : Bool) (v : Int) (w : World) (hp : PlainAt w) : Calls Tryd.prog 81 #[.agg #[.int .i64 s, .bool g], .int .i64 v] w fun e w' => e = .returned (.tuple #[.agg #[.int .i64 4, .bool true], .int .i64 (tV (v == 0))]) ∧ Below w.heap.size w w' := by

  have hp1 := hp.1
  have hp2 := hp.2.1
  have hp3 := hp.2.2
  go_enter Tryd.func81, Tryd.ntmps81
  go_wp2_with fail
  with_reducible first | refine wp_quiet_tailR 4 (by kernel_rfl) (by kernel_rfl) ?_ | refine wp_quiet_tail 4 (by kernel_rfl) (by kernel_rfl) ?_
  simp only [List.take_succ_cons, List.take_zero, List.drop_succ_cons, List.drop_zero]
  repeat (quiet_step ((first
    | (go_at_call 59; exact reg_call (truth_c _ _)))))
  refine wpQuiet_nil ?_
  intro _ hw'; obtain ⟨p, rfl⟩ := hw'
  go_wp2
  go_returns
  exact ⟨rfl, by repeat (first | exact Below.refl _ _ | apply b_alloc | apply b_reg)⟩
theorem wp_own23R {id n ia is : Nat} {w : World} {q : Regrown} {d x : Tmp} {l : List Oper} {oa os : Oper} {s : Int} {g : Bool} {Q : Exit → Act → World → Prop} {a : Act} {N : Nat} (hN : a.tmps.size = N) (hd : d < N) (hdx : d ≠ x) (hB : ownB .any l.toArray n ia is d x = true)
    (hia : l[ia]? = some oa) (his : l[is]? = some os) (h1 : oa.op = .alloc 23) (h2 : oa.dst = some d) (h3 : oa.guard = none) (h4 : os.op = .store 23 (.tmp d) (.tmp x)) (h5 : os.dst = none) (h6 : os.guard = none)
    (h : wpX Tryd.prog l.toArray (fun w' => ∃ p, w' = reg w p) ia is (fun a' => a'.eval (.tmp x) = .agg #[.int .i64 s, .bool g] ∧ ∀ p1 p2, wpList Tryd.prog l.toArray Q (l.drop n) (a'.put (some d) (ptrOf w p1)) (reg ((reg w p1).alloc (.cells #[.int .i64 s, .bool g] 23)) p2)) 0 (l.take n) a) :
    (Code.region id l.toArray true).wp Tryd.prog Q a (reg w q) :=
  wp_region_own q hN (by kernel_rfl) hB hia his h3 h6 (fun a p K hK => alloc23 h1 h2 a p K hK) (fun a p1 p2 K ha hv hK => store23 h4 h5 hdx hd a p1 p2 K ha hv hK) h
set_option maxHeartbeats 4000000 in
set_option maxRecDepth 100000 in
theorem Unary_1 (s : Int) (g : Bool) (v : Int) (w : World) (hp : PlainAt w) (h : vB s = true) (hv : I64 v) : Calls Tryd.prog 26 #[.int .i64 1, .agg #[.int .i64 s, .bool g], .int .i64 v] w fun e w' => e = .returned (.tuple #[.agg #[.int .i64 (pS s), .bool (pG s g)], .int .i64 (wr (pS s) (pG s g) (IntKind.i64.wrap (-(wr s g v)))), .int .i64 0]) ∧ Below w.heap.size w w' := by
  have hlk := unaries_hit 1 0 (.func (.func 79) #[] #[]) rfl
  have hun := fun w' hb => un_1 s g (wr s g v) w' (hp.below hb) h
  go_enter Tryd.func26, Tryd.ntmps26
  go_wp2_with (first
    | (go_at_call 44; refine (valid_c _ _ _).mono ?_; rintro e w' ⟨rfl, hq⟩; (first | obtain ⟨p, rfl⟩ := regrown2 hq | obtain ⟨p, rfl⟩ := regrown hq); clear hq)
    | (go_at_call 53; refine (hlk _).mono ?_; rintro e w' ⟨b, rfl, hq, hl⟩; (first | obtain ⟨p, rfl⟩ := regrown2 hq | obtain ⟨p, rfl⟩ := regrown hq); clear hq))
  clear hlk hl
  refine wp_own23R (n := 11) (ia := 9) (is := 10) (d := 11) (x := 33) (s := (pS s)) (g := (pG s g)) (N := 37) rfl (by decide) (by decide) (by kernel_rfl) rfl rfl rfl rfl rfl rfl rfl rfl ?_
  simp only [List.take_succ_cons, List.take_zero, List.drop_succ_cons, List.drop_zero]
  repeat (first
    | (refine wpX_out (by decide) ?_)
    | (refine wpX_step (by decide) (fun K hK => ?_); go_simp; first | (refine hK _ ?_; clear hK K) | (apply Exists.intro; refine ⟨fun p => ?_, hK _ ?_⟩; (first | (go_at_call 45; exact wrap_c _ _ _ _ h hv) | (go_at_call 79; exact hun _ (Below.tail (b_alloc (b_alloc (Below.refl _ _))) (below_reg _ _)))); clear hK K)))
  refine wpX_nil ⟨rfl, fun p1 p2 => ?_⟩
  simp only [Act.put, ptrOf, List.setIfInBounds_toArray, List.set_cons_zero, List.set_cons_succ]
  have HK := (Known.start ((w.alloc (.cells #[.int .i64 s, .bool g] 23)).alloc (.cells #[.int .i64 0, .bool false] 23))).own (vs := [.int .i64 (pS s), .bool (pG s g)]) (t := 23) (p1 := p1) (p2 := p2)
  obtain ⟨q, hw⟩ := regrown HK.base
  have h0 := HK.get 0 0 rfl rfl
  have h1 := HK.get 0 1 rfl rfl
  clear HK hun
  rw [hw] at h0 h1
  rw [hw]
  clear hw
  generalize (reg ((w.alloc (.cells #[.int .i64 s, .bool g] 23)).alloc (.cells #[.int .i64 0, .bool false] 23)) p1).heap.size = b11 at *
  go_wp2
  go_returns
  exact ⟨rfl, by repeat (first | exact Below.refl _ _ | apply b_alloc | apply b_reg)⟩
set_option maxHeartbeats 4000000 in
set_option maxRecDepth 100000 in
theorem Unary_2 (s : Int) (g : Bool) (v : Int) (w : World) (hp : PlainAt w) (h : vB s = true) (hv : I64 v) : Calls Tryd.prog 26 #[.int .i64 2, .agg #[.int .i64 s, .bool g], .int .i64 v] w fun e w' => e = .returned (.tuple #[.agg #[.int .i64 (pS s), .bool (pG s g)], .int .i64 (wr (pS s) (pG s g) (bits .xor .i64 (-1) (wr s g v))), .int .i64 0]) ∧ Below w.heap.size w w' := by
  have hlk := unaries_hit 2 1 (.func (.func 80) #[] #[]) rfl
  have hun := fun w' hb => un_2 s g (wr s g v) w' (hp.below hb) h
  go_enter Tryd.func26, Tryd.ntmps26
  go_wp2_with (first
    | (go_at_call 44; refine (valid_c _ _ _).mono ?_; rintro e w' ⟨rfl, hq⟩; (first | obtain ⟨p, rfl⟩ := regrown2 hq | obtain ⟨p, rfl⟩ := regrown hq); clear hq)
    | (go_at_call 53; refine (hlk _).mono ?_; rintro e w' ⟨b, rfl, hq, hl⟩; (first | obtain ⟨p, rfl⟩ := regrown2 hq | obtain ⟨p, rfl⟩ := regrown hq); clear hq))
  clear hlk hl
  refine wp_own23R (n := 11) (ia := 9) (is := 10) (d := 11) (x := 33) (s := (pS s)) (g := (pG s g)) (N := 37) rfl (by decide) (by decide) (by kernel_rfl) rfl rfl rfl rfl rfl rfl rfl rfl ?_
  simp only [List.take_succ_cons, List.take_zero, List.drop_succ_cons, List.drop_zero]
  repeat (first
    | (refine wpX_out (by decide) ?_)
    | (refine wpX_step (by decide) (fun K hK => ?_); go_simp; first | (refine hK _ ?_; clear hK K) | (apply Exists.intro; refine ⟨fun p => ?_, hK _ ?_⟩; (first | (go_at_call 45; exact wrap_c _ _ _ _ h hv) | (go_at_call 80; exact hun _ (Below.tail (b_alloc (b_alloc (Below.refl _ _))) (below_reg _ _)))); clear hK K)))
  refine wpX_nil ⟨rfl, fun p1 p2 => ?_⟩
  simp only [Act.put, ptrOf, List.setIfInBounds_toArray, List.set_cons_zero, List.set_cons_succ]
  have HK := (Known.start ((w.alloc (.cells #[.int .i64 s, .bool g] 23)).alloc (.cells #[.int .i64 0, .bool false] 23))).own (vs := [.int .i64 (pS s), .bool (pG s g)]) (t := 23) (p1 := p1) (p2 := p2)
  obtain ⟨q, hw⟩ := regrown HK.base
  have h0 := HK.get 0 0 rfl rfl
  have h1 := HK.get 0 1 rfl rfl
  clear HK hun
  rw [hw] at h0 h1
  rw [hw]
  clear hw
  generalize (reg ((w.alloc (.cells #[.int .i64 s, .bool g] 23)).alloc (.cells #[.int .i64 0, .bool false] 23)) p1).heap.size = b11 at *
  go_wp2
  go_returns
  exact ⟨rfl, by repeat (first | exact Below.refl _ _ | apply b_alloc | apply b_reg)⟩
set_option maxHeartbeats 4000000 in
set_option maxRecDepth 100000 in
theorem Unary_3 (s : Int) (g : Bool) (v : Int) (w : World) (hp : PlainAt w) (h : vB s = true) (hv : I64 v) : Calls Tryd.prog 26 #[.int .i64 3, .agg #[.int .i64 s, .bool g], .int .i64 v] w fun e w' => e = .returned (.tuple #[.agg #[.int .i64 4, .bool true], .int .i64 (tV (wr s g v == 0)), .int .i64 0]) ∧ Below w.heap.size w w' := by
  have hlk := unaries_hit 3 2 (.func (.func 81) #[] #[]) rfl
  have hun := fun w' hb => un_3 s g (wr s g v) w' (hp.below hb)
  go_enter Tryd.func26, Tryd.ntmps26
  go_wp2_with (first
    | (go_at_call 44; refine (valid_c _ _ _).mono ?_; rintro e w' ⟨rfl, hq⟩; (first | obtain ⟨p, rfl⟩ := regrown2 hq | obtain ⟨p, rfl⟩ := regrown hq); clear hq)
    | (go_at_call 53; refine (hlk _).mono ?_; rintro e w' ⟨b, rfl, hq, hl⟩; (first | obtain ⟨p, rfl⟩ := regrown2 hq | obtain ⟨p, rfl⟩ := regrown hq); clear hq))
  clear hlk hl
  refine wp_own23R (n := 11) (ia := 9) (is := 10) (d := 11) (x := 33) (s := 4) (g := true) (N := 37) rfl (by decide) (by decide) (by kernel_rfl) rfl rfl rfl rfl rfl rfl rfl rfl ?_
  simp only [List.take_succ_cons, List.take_zero, List.drop_succ_cons, List.drop_zero]
  repeat (first
    | (refine wpX_out (by decide) ?_)
    | (refine wpX_step (by decide) (fun K hK => ?_); go_simp; first | (refine hK _ ?_; clear hK K) | (apply Exists.intro; refine ⟨fun p => ?_, hK _ ?_⟩; (first | (go_at_call 45; exact wrap_c _ _ _ _ h hv) | (go_at_call 81; exact hun _ (Below.tail (b_alloc (b_alloc (Below.refl _ _))) (below_reg _ _)))); clear hK K)))
  refine wpX_nil ⟨rfl, fun p1 p2 => ?_⟩
  simp only [Act.put, ptrOf, List.setIfInBounds_toArray, List.set_cons_zero, List.set_cons_succ]
  have HK := (Known.start ((w.alloc (.cells #[.int .i64 s, .bool g] 23)).alloc (.cells #[.int .i64 0, .bool false] 23))).own (vs := [.int .i64 4, .bool true]) (t := 23) (p1 := p1) (p2 := p2)
  obtain ⟨q, hw⟩ := regrown HK.base
  have h0 := HK.get 0 0 rfl rfl
  have h1 := HK.get 0 1 rfl rfl
  clear HK hun
  rw [hw] at h0 h1
  rw [hw]
  clear hw
  generalize (reg ((w.alloc (.cells #[.int .i64 s, .bool g] 23)).alloc (.cells #[.int .i64 0, .bool false] 23)) p1).heap.size = b11 at *
  go_wp2
  go_returns
  exact ⟨rfl, by repeat (first | exact Below.refl _ _ | apply b_alloc | apply b_reg)⟩
set_option maxHeartbeats 4000000 in
set_option maxRecDepth 100000 in
theorem Unary_bad (op : Int) (s : Int) (g : Bool) (v : Int) (w : World) (h : vB s = true) (ho : op < 1 ∨ 3 < op) : Calls Tryd.prog 26 #[.int .i64 op, .agg #[.int .i64 s, .bool g], .int .i64 v] w fun e w' => e = .returned (.tuple #[.agg #[.int .i64 0, .bool false], .int .i64 0, .int .i64 11]) ∧ Below w.heap.size w w' := by
  have hlk := unaries_none ho
  clear ho
  go_enter Tryd.func26, Tryd.ntmps26
  go_wp2_with (first
    | (go_at_call 44; refine (valid_c _ _ _).mono ?_; rintro e w' ⟨rfl, hq⟩; (first | obtain ⟨p, rfl⟩ := regrown2 hq | obtain ⟨p, rfl⟩ := regrown hq); clear hq)
    | (go_at_call 53; refine (hlk _).mono ?_; rintro e w' ⟨b, rfl, hq, hl⟩; (first | obtain ⟨p, rfl⟩ := regrown2 hq | obtain ⟨p, rfl⟩ := regrown hq); clear hq))
  go_returns
  exact ⟨rfl, by repeat (first | exact Below.refl _ _ | apply b_alloc | apply b_reg)⟩
set_option maxHeartbeats 4000000 in
set_option maxRecDepth 100000 in
theorem Unary_no (op : Int) (s : Int) (g : Bool) (v : Int) (w : World) (h : vB s = false) : Calls Tryd.prog 26 #[.int .i64 op, .agg #[.int .i64 s, .bool g], .int .i64 v] w fun e w' => e = .returned (.tuple #[.agg #[.int .i64 0, .bool false], .int .i64 0, .int .i64 10]) ∧ Below w.heap.size w w' := by
  go_enter Tryd.func26, Tryd.ntmps26
  go_wp2_with (go_at_call 44; refine (valid_c _ _ _).mono ?_; rintro e w' ⟨rfl, hq⟩; (first | obtain ⟨p, rfl⟩ := regrown2 hq | obtain ⟨p, rfl⟩ := regrown hq); clear hq)
  go_returns
  exact ⟨rfl, by repeat (first | exact Below.refl _ _ | apply b_alloc | apply b_reg)⟩
end Go.Proofs.YtfgmfkiknogdeaaDoor
