/- WHAT IS PROVED: the reference's Check, Wrapped, Wrap, Promoted, Promote, rank, Common, both, Usual and Convert answer as the program's do. CONDITIONS: the package variable 'promoted' holds what its initialiser lays. -/
import Derived.Test.YtfgmfkiknogdeaaDoorOrA
namespace Go.Proofs.YtfgmfkiknogdeaaDoor
open Go Go.RowKit Go.QrBits
attribute [local go_sem] reg_cell reg_frozen reg_setCell reg_lt reg_lt_add reg_drew reg_of_drew

set_option maxHeartbeats 2000000 in
set_option maxRecDepth 20000 in
theorem rCheck_c (s : Int) (g : Bool) (w : World) (h : vB s = true) : Calls Tryd.prog 25 #[.agg #[.int .i64 s, .bool g]] w fun e w' => e = .returned (.int .i64 0) ∧ Below w.heap.size w w' := by
  rcases vB_cases h with rfl | rfl | rfl | rfl
  all_goals (clear h; go_enter Tryd.func25, Tryd.ntmps25; go_wp2; go_ret; exact ⟨rfl, by go_grown⟩)
set_option maxHeartbeats 2000000 in
set_option maxRecDepth 20000 in
theorem rCheck_no (s : Int) (g : Bool) (w : World) (h : vB s = false) : Calls Tryd.prog 25 #[.agg #[.int .i64 s, .bool g]] w fun e w' => e = .returned (.int .i64 10) ∧ Below w.heap.size w w' := by
  have h1 : (s != 1) = true := by cases e : s == 1 <;> simp_all [vB]
  have h2 : (s != 2) = true := by cases e : s == 2 <;> simp_all [vB]
  have h4 : (s != 4) = true := by cases e : s == 4 <;> simp_all [vB]
  have h8 : (s != 8) = true := by cases e : s == 8 <;> simp_all [vB]
  clear h
  go_enter Tryd.func25, Tryd.ntmps25; go_wp2; go_ret; exact ⟨rfl, by go_grown⟩
set_option maxHeartbeats 2000000 in
set_option maxRecDepth 20000 in
theorem rWrapped_c (s : Int) (g : Bool) (v : Int) (w : World) (h : vB s = true) : Calls Tryd.prog 47 #[.agg #[.int .i64 s, .bool g], .int .i64 v] w fun e w' => e = .returned (.int .i64 (wr s g v)) ∧ Below w.heap.size w w' := by
  rcases vB_cases h with rfl | rfl | rfl | rfl
  all_goals clear h
  all_goals cases g
  all_goals
    go_enter Tryd.func47, Tryd.ntmps47
    go_wp2
    go_ret
    exact ⟨by first | exact rfl | exact ret_int (w64_i8 v) | exact ret_int (w64_i16 v) | exact ret_int (w64_u16 v) | exact ret_int (w64_w32 v), by go_grown⟩
set_option maxHeartbeats 2000000 in
set_option maxRecDepth 20000 in
theorem rWrap_c (s : Int) (g : Bool) (v : Int) (w : World) (h : vB s = true) : Calls Tryd.prog 21 #[.agg #[.int .i64 s, .bool g], .int .i64 v] w fun e w' => e = .returned (.tuple #[.int .i64 (wr s g v), .int .i64 0]) ∧ Below w.heap.size w w' := by
  go_enter Tryd.func21, Tryd.ntmps21
  go_wp2_with (first | (go_at_call 25; refine (rCheck_c _ _ _ (by assumption)).mono ?_; rintro e w' ⟨rfl, hq⟩; (first | obtain ⟨p, rfl⟩ := regrown2 hq | obtain ⟨p, rfl⟩ := regrown hq); clear hq) | (go_at_call 47; refine (rWrapped_c _ _ _ _ (by assumption)).mono ?_; rintro e w' ⟨rfl, hq⟩; (first | obtain ⟨p, rfl⟩ := regrown2 hq | obtain ⟨p, rfl⟩ := regrown hq); clear hq))
  go_returns
  exact ⟨rfl, by repeat (first | exact Below.refl _ _ | apply b_alloc | apply b_reg)⟩
set_option maxHeartbeats 2000000 in
set_option maxRecDepth 20000 in
theorem rWrap_no (s : Int) (g : Bool) (v : Int) (w : World) (h : vB s = false) : Calls Tryd.prog 21 #[.agg #[.int .i64 s, .bool g], .int .i64 v] w fun e w' => e = .returned (.tuple #[.int .i64 0, .int .i64 10]) ∧ Below w.heap.size w w' := by
  go_enter Tryd.func21, Tryd.ntmps21
  go_wp2_with (go_at_call 25; refine (rCheck_no _ _ _ (by assumption)).mono ?_; rintro e w' ⟨rfl, hq⟩; (first | obtain ⟨p, rfl⟩ := regrown2 hq | obtain ⟨p, rfl⟩ := regrown hq); clear hq)
  go_returns
  exact ⟨rfl, by repeat (first | exact Below.refl _ _ | apply b_alloc | apply b_reg)⟩
set_option maxHeartbeats 2000000 in
set_option maxRecDepth 20000 in
theorem rPromoted_c (s : Int) (g : Bool) (w : World) (hr : PromAt w) : Calls Tryd.prog 49 #[.agg #[.int .i64 s, .bool g]] w fun e w' => e = .returned (.agg #[.int .i64 (pS s), .bool (pG s g)]) ∧ Below w.heap.size w w' := by
  by_cases h : s < 4
  · rw [show pS s = 4 by simp [pS, h], show pG s g = true by simp [pG, h]]
    go_enter Tryd.func49, Tryd.ntmps49
    go_wp2_with (go_at_call 42; refine (I4_c _ (hr.below (by repeat (first | exact Below.refl _ _ | apply b_alloc | apply b_reg)))).mono ?_; rintro e w' ⟨rfl, hq⟩; (first | obtain ⟨p, rfl⟩ := regrown2 hq | obtain ⟨p, rfl⟩ := regrown hq); clear hq)
    go_returns
    exact ⟨rfl, by repeat (first | exact Below.refl _ _ | apply b_alloc | apply b_reg)⟩
  · rw [show pS s = s by simp [pS, h], show pG s g = g by simp [pG, h]]
    go_enter Tryd.func49, Tryd.ntmps49
    go_wp2
    go_returns
    exact ⟨rfl, by repeat (first | exact Below.refl _ _ | apply b_alloc | apply b_reg)⟩
set_option maxHeartbeats 2000000 in
set_option maxRecDepth 20000 in
theorem rPromote_c (s : Int) (g : Bool) (w : World) (hr : PromAt w) (h : vB s = true) : Calls Tryd.prog 17 #[.agg #[.int .i64 s, .bool g]] w fun e w' => e = .returned (.tuple #[.agg #[.int .i64 (pS s), .bool (pG s g)], .int .i64 0]) ∧ Below w.heap.size w w' := by
  go_enter Tryd.func17, Tryd.ntmps17
  go_wp2_with (first | (go_at_call 25; refine (rCheck_c _ _ _ (by assumption)).mono ?_; rintro e w' ⟨rfl, hq⟩; (first | obtain ⟨p, rfl⟩ := regrown2 hq | obtain ⟨p, rfl⟩ := regrown hq); clear hq) | (go_at_call 49; refine (rPromoted_c _ _ _ (hr.below (by repeat (first | exact Below.refl _ _ | apply b_alloc | apply b_reg)))).mono ?_; rintro e w' ⟨rfl, hq⟩; (first | obtain ⟨p, rfl⟩ := regrown2 hq | obtain ⟨p, rfl⟩ := regrown hq); clear hq))
  go_returns
  exact ⟨rfl, by repeat (first | exact Below.refl _ _ | apply b_alloc | apply b_reg)⟩
set_option maxHeartbeats 2000000 in
set_option maxRecDepth 20000 in
theorem rPromote_no (s : Int) (g : Bool) (w : World) (h : vB s = false) : Calls Tryd.prog 17 #[.agg #[.int .i64 s, .bool g]] w fun e w' => e = .returned (.tuple #[.agg #[.int .i64 0, .bool false], .int .i64 10]) ∧ Below w.heap.size w w' := by
  go_enter Tryd.func17, Tryd.ntmps17
  go_wp2_with (go_at_call 25; refine (rCheck_no _ _ _ (by assumption)).mono ?_; rintro e w' ⟨rfl, hq⟩; (first | obtain ⟨p, rfl⟩ := regrown2 hq | obtain ⟨p, rfl⟩ := regrown hq); clear hq)
  go_returns
  exact ⟨rfl, by repeat (first | exact Below.refl _ _ | apply b_alloc | apply b_reg)⟩
set_option maxHeartbeats 2000000 in
set_option maxRecDepth 20000 in
theorem both_c (s1 : Int) (g1 : Bool) (s2 : Int) (g2 : Bool) (w : World) (h1 : vB s1 = true) (h2 : vB s2 = true) : Calls Tryd.prog 51 #[.agg #[.int .i64 s1, .bool g1], .agg #[.int .i64 s2, .bool g2]] w fun e w' => e = .returned (.int .i64 0) ∧ Below w.heap.size w w' := by
  go_enter Tryd.func51, Tryd.ntmps51
  go_wp2_with (go_at_call 25; refine (rCheck_c _ _ _ (by assumption)).mono ?_; rintro e w' ⟨rfl, hq⟩; (first | obtain ⟨p, rfl⟩ := regrown2 hq | obtain ⟨p, rfl⟩ := regrown hq); clear hq)
  go_returns
  exact ⟨rfl, by repeat (first | exact Below.refl _ _ | apply b_alloc | apply b_reg)⟩
set_option maxHeartbeats 2000000 in
set_option maxRecDepth 20000 in
theorem both_no1 (s1 : Int) (g1 : Bool) (s2 : Int) (g2 : Bool) (w : World) (h1 : vB s1 = false) : Calls Tryd.prog 51 #[.agg #[.int .i64 s1, .bool g1], .agg #[.int .i64 s2, .bool g2]] w fun e w' => e = .returned (.int .i64 10) ∧ Below w.heap.size w w' := by
  go_enter Tryd.func51, Tryd.ntmps51
  go_wp2_with (go_at_call 25; refine (rCheck_no _ _ _ (by assumption)).mono ?_; rintro e w' ⟨rfl, hq⟩; (first | obtain ⟨p, rfl⟩ := regrown2 hq | obtain ⟨p, rfl⟩ := regrown hq); clear hq)
  go_returns
  exact ⟨rfl, by repeat (first | exact Below.refl _ _ | apply b_alloc | apply b_reg)⟩
set_option maxHeartbeats 2000000 in
set_option maxRecDepth 20000 in
theorem both_no2 (s1 : Int) (g1 : Bool) (s2 : Int) (g2 : Bool) (w : World) (h1 : vB s1 = true) (h2 : vB s2 = false) : Calls Tryd.prog 51 #[.agg #[.int .i64 s1, .bool g1], .agg #[.int .i64 s2, .bool g2]] w fun e w' => e = .returned (.int .i64 10) ∧ Below w.heap.size w w' := by
  go_enter Tryd.func51, Tryd.ntmps51
  go_wp2_with (first | (go_at_call 25; refine (rCheck_c _ _ _ (by assumption)).mono ?_; rintro e w' ⟨rfl, hq⟩; (first | obtain ⟨p, rfl⟩ := regrown2 hq | obtain ⟨p, rfl⟩ := regrown hq); clear hq) | (go_at_call 25; refine (rCheck_no _ _ _ (by assumption)).mono ?_; rintro e w' ⟨rfl, hq⟩; (first | obtain ⟨p, rfl⟩ := regrown2 hq | obtain ⟨p, rfl⟩ := regrown hq); clear hq))
  go_returns
  exact ⟨rfl, by repeat (first | exact Below.refl _ _ | apply b_alloc | apply b_reg)⟩
set_option maxHeartbeats 2000000 in
set_option maxRecDepth 20000 in
theorem rConvert_c (s1 : Int) (g1 : Bool) (s2 : Int) (g2 : Bool) (v : Int) (w : World) (h1 : vB s1 = true) (h2 : vB s2 = true) : Calls Tryd.prog 23 #[.agg #[.int .i64 s1, .bool g1], .agg #[.int .i64 s2, .bool g2], .int .i64 v] w fun e w' => e = .returned (.tuple #[.int .i64 (wr s2 g2 (wr s1 g1 v)), .int .i64 0]) ∧ Below w.heap.size w w' := by
  go_enter Tryd.func23, Tryd.ntmps23
  go_wp2_with (go_at_call 51; refine (both_c _ _ _ _ _ (by assumption) (by assumption)).mono ?_; rintro e w' ⟨rfl, hq⟩; (first | obtain ⟨p, rfl⟩ := regrown2 hq | obtain ⟨p, rfl⟩ := regrown hq); clear hq)
  with_reducible first | refine wp_quietR (by kernel_rfl) (by kernel_rfl) ?_ | refine wp_quiet (by kernel_rfl) (by kernel_rfl) ?_
  repeat (quiet_step ((go_at_call 47; exact reg_call (rWrapped_c _ _ _ _ (by assumption)))))
  refine wpQuiet_nil ?_
  intro _ hw'; obtain ⟨p, rfl⟩ := hw'
  go_wp2
  go_returns
  exact ⟨rfl, by repeat (first | exact Below.refl _ _ | apply b_alloc | apply b_reg)⟩
set_option maxHeartbeats 2000000 in
set_option maxRecDepth 20000 in
theorem rConvert_no1 (s1 : Int) (g1 : Bool) (s2 : Int) (g2 : Bool) (v : Int) (w : World) (h1 : vB s1 = false) : Calls Tryd.prog 23 #[.agg #[.int .i64 s1, .bool g1], .agg #[.int .i64 s2, .bool g2], .int .i64 v] w fun e w' => e = .returned (.tuple #[.int .i64 0, .int .i64 10]) ∧ Below w.heap.size w w' := by
  go_enter Tryd.func23, Tryd.ntmps23
  go_wp2_with (go_at_call 51; refine (both_no1 _ _ _ _ _ h1).mono ?_; rintro e w' ⟨rfl, hq⟩; (first | obtain ⟨p, rfl⟩ := regrown2 hq | obtain ⟨p, rfl⟩ := regrown hq); clear hq)
  go_returns
  exact ⟨rfl, by repeat (first | exact Below.refl _ _ | apply b_alloc | apply b_reg)⟩
set_option maxHeartbeats 2000000 in
set_option maxRecDepth 20000 in
theorem rConvert_no2 (s1 : Int) (g1 : Bool) (s2 : Int) (g2 : Bool) (v : Int) (w : World) (h1 : vB s1 = true) (h2 : vB s2 = false) : Calls Tryd.prog 23 #[.agg #[.int .i64 s1, .bool g1], .agg #[.int .i64 s2, .bool g2], .int .i64 v] w fun e w' => e = .returned (.tuple #[.int .i64 0, .int .i64 10]) ∧ Below w.heap.size w w' := by
  go_enter Tryd.func23, Tryd.ntmps23
  go_wp2_with (go_at_call 51; refine (both_no2 _ _ _ _ _ h1 h2).mono ?_; rintro e w' ⟨rfl, hq⟩; (first | obtain ⟨p, rfl⟩ := regrown2 hq | obtain ⟨p, rfl⟩ := regrown hq); clear hq)
  go_returns
  exact ⟨rfl, by repeat (first | exact Below.refl _ _ | apply b_alloc | apply b_reg)⟩
set_option maxHeartbeats 2000000 in
set_option maxRecDepth 20000 in
theorem rank_0 (w : World) (hr : PromAt w) : Calls Tryd.prog 78 #[.agg #[.int .i64 4, .bool true]] w fun e w' => e = .returned (.int .i64 0) ∧ Below w.heap.size w w' := by
  go_enter Tryd.func78, Tryd.ntmps78
  go_wp2_with fail
  go_loopw [3] (fun v3 wr => ∃ (k : Nat) (w1 : World), w1 = wr ∧ k ≤ 0 ∧ v3 = .int .i64 k ∧ Hid (Below (w.alloc (Obj.cells #[.int .i64 4, .bool true] 23)).heap.size (w.alloc (Obj.cells #[.int .i64 4, .bool true] 23)) w1)) (fun v3 _ => 4 - (intOf v3).toNat)
  case atStart => exact ⟨0, _, rfl, by omega, rfl, Below.refl _ _⟩
  case round =>
  obtain ⟨k, w1, hw1, hk, hv, hqh⟩ := hrel
  subst hw1; subst hv
  have hq := hqh.out
  have HR := hr.next hq
  have HA := At.fresh (s := 4) (g := true) hq
  have HB : Hid (Below w.heap.size w w1) := Below.tail (b_alloc (Below.refl _ _)) hq
  clear hq
  obtain ⟨c0, c1, c2, c3, c4, c5, c6, c7, c8⟩ := HR
  obtain ⟨a0, a1, a2⟩ := HA
  rcases (by omega : k = 0) with rfl
  · clear hr
    go_wp2_with fail
    with_reducible first | refine wp_quiet (by kernel_rfl) (by kernel_rfl) ?_ | refine wp_quietR (by kernel_rfl) (by kernel_rfl) ?_
    repeat (quiet_step (fail))
    refine wpQuiet_nil ?_
    intro _ hw'; obtain ⟨p, rfl⟩ := hw'
    go_wp2
    go_ret
    exact ⟨rfl, b_reg HB.out⟩
set_option maxHeartbeats 2000000 in
set_option maxRecDepth 20000 in
theorem rank_1 (w : World) (hr : PromAt w) : Calls Tryd.prog 78 #[.agg #[.int .i64 4, .bool false]] w fun e w' => e = .returned (.int .i64 1) ∧ Below w.heap.size w w' := by
  go_enter Tryd.func78, Tryd.ntmps78
  go_wp2_with fail
  go_loopw [3] (fun v3 wr => ∃ (k : Nat) (w1 : World), w1 = wr ∧ k ≤ 1 ∧ v3 = .int .i64 k ∧ Hid (Below (w.alloc (Obj.cells #[.int .i64 4, .bool false] 23)).heap.size (w.alloc (Obj.cells #[.int .i64 4, .bool false] 23)) w1)) (fun v3 _ => 4 - (intOf v3).toNat)
  case atStart => exact ⟨0, _, rfl, by omega, rfl, Below.refl _ _⟩
  case round =>
  obtain ⟨k, w1, hw1, hk, hv, hqh⟩ := hrel
  subst hw1; subst hv
  have hq := hqh.out
  have HR := hr.next hq
  have HA := At.fresh (s := 4) (g := false) hq
  have HB : Hid (Below w.heap.size w w1) := Below.tail (b_alloc (Below.refl _ _)) hq
  clear hq
  obtain ⟨c0, c1, c2, c3, c4, c5, c6, c7, c8⟩ := HR
  obtain ⟨a0, a1, a2⟩ := HA
  rcases (by omega : k = 0 ∨ k = 1) with rfl | rfl
  · clear hr
    go_wp2_with fail
    with_reducible first | refine wp_quiet (by kernel_rfl) (by kernel_rfl) ?_ | refine wp_quietR (by kernel_rfl) (by kernel_rfl) ?_
    repeat (quiet_step (fail))
    refine wpQuiet_nil ?_
    intro _ hw'; obtain ⟨p, rfl⟩ := hw'
    go_wp2_with fail
    go_roundw
    case rel => exact ⟨1, _, rfl, by omega, by go_num, b_reg hqh.out⟩
    case measure => simp [intOf]
  · clear hr
    go_wp2_with fail
    with_reducible first | refine wp_quiet (by kernel_rfl) (by kernel_rfl) ?_ | refine wp_quietR (by kernel_rfl) (by kernel_rfl) ?_
    repeat (quiet_step (fail))
    refine wpQuiet_nil ?_
    intro _ hw'; obtain ⟨p, rfl⟩ := hw'
    go_wp2
    go_ret
    exact ⟨rfl, b_reg HB.out⟩
set_option maxHeartbeats 2000000 in
set_option maxRecDepth 20000 in
theorem rank_2 (w : World) (hr : PromAt w) : Calls Tryd.prog 78 #[.agg #[.int .i64 8, .bool true]] w fun e w' => e = .returned (.int .i64 2) ∧ Below w.heap.size w w' := by
  go_enter Tryd.func78, Tryd.ntmps78
  go_wp2_with fail
  go_loopw [3] (fun v3 wr => ∃ (k : Nat) (w1 : World), w1 = wr ∧ k ≤ 2 ∧ v3 = .int .i64 k ∧ Hid (Below (w.alloc (Obj.cells #[.int .i64 8, .bool true] 23)).heap.size (w.alloc (Obj.cells #[.int .i64 8, .bool true] 23)) w1)) (fun v3 _ => 4 - (intOf v3).toNat)
  case atStart => exact ⟨0, _, rfl, by omega, rfl, Below.refl _ _⟩
  case round =>
  obtain ⟨k, w1, hw1, hk, hv, hqh⟩ := hrel
  subst hw1; subst hv
  have hq := hqh.out
  have HR := hr.next hq
  have HA := At.fresh (s := 8) (g := true) hq
  have HB : Hid (Below w.heap.size w w1) := Below.tail (b_alloc (Below.refl _ _)) hq
  clear hq
  obtain ⟨c0, c1, c2, c3, c4, c5, c6, c7, c8⟩ := HR
  obtain ⟨a0, a1, a2⟩ := HA
  rcases (by omega : k = 0 ∨ k = 1 ∨ k = 2) with rfl | rfl | rfl
  · clear hr
    go_wp2_with fail
    with_reducible first | refine wp_quiet (by kernel_rfl) (by kernel_rfl) ?_ | refine wp_quietR (by kernel_rfl) (by kernel_rfl) ?_
    repeat (quiet_step (fail))
    refine wpQuiet_nil ?_
    intro _ hw'; obtain ⟨p, rfl⟩ := hw'
    go_wp2_with fail
    go_roundw
    case rel => exact ⟨1, _, rfl, by omega, by go_num, b_reg hqh.out⟩
    case measure => simp [intOf]
  · clear hr
    go_wp2_with fail
    with_reducible first | refine wp_quiet (by kernel_rfl) (by kernel_rfl) ?_ | refine wp_quietR (by kernel_rfl) (by kernel_rfl) ?_
    repeat (quiet_step (fail))
    refine wpQuiet_nil ?_
    intro _ hw'; obtain ⟨p, rfl⟩ := hw'
    go_wp2_with fail
    go_roundw
    case rel => exact ⟨2, _, rfl, by omega, by go_num, b_reg hqh.out⟩
    case measure => simp [intOf]
  · clear hr
    go_wp2_with fail
    with_reducible first | refine wp_quiet (by kernel_rfl) (by kernel_rfl) ?_ | refine wp_quietR (by kernel_rfl) (by kernel_rfl) ?_
    repeat (quiet_step (fail))
    refine wpQuiet_nil ?_
    intro _ hw'; obtain ⟨p, rfl⟩ := hw'
    go_wp2
    go_ret
    exact ⟨rfl, b_reg HB.out⟩
set_option maxHeartbeats 2000000 in
set_option maxRecDepth 20000 in
theorem rank_3 (w : World) (hr : PromAt w) : Calls Tryd.prog 78 #[.agg #[.int .i64 8, .bool false]] w fun e w' => e = .returned (.int .i64 3) ∧ Below w.heap.size w w' := by
  go_enter Tryd.func78, Tryd.ntmps78
  go_wp2_with fail
  go_loopw [3] (fun v3 wr => ∃ (k : Nat) (w1 : World), w1 = wr ∧ k ≤ 3 ∧ v3 = .int .i64 k ∧ Hid (Below (w.alloc (Obj.cells #[.int .i64 8, .bool false] 23)).heap.size (w.alloc (Obj.cells #[.int .i64 8, .bool false] 23)) w1)) (fun v3 _ => 4 - (intOf v3).toNat)
  case atStart => exact ⟨0, _, rfl, by omega, rfl, Below.refl _ _⟩
  case round =>
  obtain ⟨k, w1, hw1, hk, hv, hqh⟩ := hrel
  subst hw1; subst hv
  have hq := hqh.out
  have HR := hr.next hq
  have HA := At.fresh (s := 8) (g := false) hq
  have HB : Hid (Below w.heap.size w w1) := Below.tail (b_alloc (Below.refl _ _)) hq
  clear hq
  obtain ⟨c0, c1, c2, c3, c4, c5, c6, c7, c8⟩ := HR
  obtain ⟨a0, a1, a2⟩ := HA
  rcases (by omega : k = 0 ∨ k = 1 ∨ k = 2 ∨ k = 3) with rfl | rfl | rfl | rfl
  · clear hr
    go_wp2_with fail
    with_reducible first | refine wp_quiet (by kernel_rfl) (by kernel_rfl) ?_ | refine wp_quietR (by kernel_rfl) (by kernel_rfl) ?_
    repeat (quiet_step (fail))
    refine wpQuiet_nil ?_
    intro _ hw'; obtain ⟨p, rfl⟩ := hw'
    go_wp2_with fail
    go_roundw
    case rel => exact ⟨1, _, rfl, by omega, by go_num, b_reg hqh.out⟩
    case measure => simp [intOf]
  · clear hr
    go_wp2_with fail
    with_reducible first | refine wp_quiet (by kernel_rfl) (by kernel_rfl) ?_ | refine wp_quietR (by kernel_rfl) (by kernel_rfl) ?_
    repeat (quiet_step (fail))
    refine wpQuiet_nil ?_
    intro _ hw'; obtain ⟨p, rfl⟩ := hw'
    go_wp2_with fail
    go_roundw
    case rel => exact ⟨2, _, rfl, by omega, by go_num, b_reg hqh.out⟩
    case measure => simp [intOf]
  · clear hr
    go_wp2_with fail
    with_reducible first | refine wp_quiet (by kernel_rfl) (by kernel_rfl) ?_ | refine wp_quietR (by kernel_rfl) (by kernel_rfl) ?_
    repeat (quiet_step (fail))
    refine wpQuiet_nil ?_
    intro _ hw'; obtain ⟨p, rfl⟩ := hw'
    go_wp2_with fail
    go_roundw
    case rel => exact ⟨3, _, rfl, by omega, by go_num, b_reg hqh.out⟩
    case measure => simp [intOf]
  · clear hr
    go_wp2_with fail
    with_reducible first | refine wp_quiet (by kernel_rfl) (by kernel_rfl) ?_ | refine wp_quietR (by kernel_rfl) (by kernel_rfl) ?_
    repeat (quiet_step (fail))
    refine wpQuiet_nil ?_
    intro _ hw'; obtain ⟨p, rfl⟩ := hw'
    go_wp2
    go_ret
    exact ⟨rfl, b_reg HB.out⟩
end Go.Proofs.YtfgmfkiknogdeaaDoor
