/- WHAT IS PROVED: the reference's Common, Usual and Range answer as the program's do. CONDITIONS: the package variable 'promoted' holds what its initialiser lays. -/
import Derived.Test.YtfgmfkiknogdeaaDoorRa
import Derived.Test.YtfgmfkiknogdeaaDoorOrA
namespace Go.Proofs.YtfgmfkiknogdeaaDoor
open Go Go.RowKit Go.QrBits
attribute [local go_sem] reg_cell reg_frozen reg_setCell reg_lt reg_lt_add reg_drew reg_of_drew

/-- What a call answers where 'promoted' is laid. -/
def GivesR (f : Nat) (args : Array Value) (v : Value) : Prop := ∀ w, PromAt w → Calls Tryd.prog f args w fun e w' => e = .returned v ∧ Below w.heap.size w w'
set_option maxHeartbeats 2000000 in
set_option maxRecDepth 20000 in
theorem rcommon_00 (s1 : Int) (g1 : Bool) (s2 : Int) (g2 : Bool) (w : World) (hr : PromAt w) (hA : GivesR 49 #[.agg #[.int .i64 s1, .bool g1]] (.agg #[.int .i64 4, .bool true])) (hB : GivesR 49 #[.agg #[.int .i64 s2, .bool g2]] (.agg #[.int .i64 4, .bool true])) : Calls Tryd.prog 52 #[.agg #[.int .i64 s1, .bool g1], .agg #[.int .i64 s2, .bool g2]] w fun e w' => e = .returned (.agg #[.int .i64 4, .bool true]) ∧ Below w.heap.size w w' := by
  have hR := Lib.hid hr
  have hD := (hr.alloc (o := .cells #[.int .i64 s1, .bool g1] 23)).alloc (o := .cells #[.int .i64 s2, .bool g2] 23)
  clear hr
  obtain ⟨c0, c1, c2, c3, c4, c5, c6, c7, c8⟩ := hD
  go_enter Tryd.func52, Tryd.ntmps52
  go_wp2_with fail
  with_reducible refine wp_quiet_tail 9 (by kernel_rfl) (by kernel_rfl) ?_
  simp only [List.take_succ_cons, List.take_zero, List.drop_succ_cons, List.drop_zero]
  quiet_step (fail)
  quiet_step ((go_at_call 49; exact reg_call (hA _ (hR.out.alloc.alloc.alloc.below (below_reg _ _)))))
  quiet_step ((go_at_call 78; exact reg_call (rank_0 _ (hR.out.alloc.alloc.alloc.below (below_reg _ _)))))
  quiet_step (fail)
  quiet_step ((go_at_call 49; exact reg_call (hB _ (hR.out.alloc.alloc.alloc.below (below_reg _ _)))))
  quiet_step ((go_at_call 78; exact reg_call (rank_0 _ (hR.out.alloc.alloc.alloc.below (below_reg _ _)))))
  quiet_step (fail)
  quiet_step (fail)
  quiet_step (fail)
  refine wpQuiet_nil ?_
  intro _ hw'; obtain ⟨p, rfl⟩ := hw'
  go_wp2
  go_returns
  exact ⟨rfl, by repeat (first | exact Below.refl _ _ | apply b_alloc | apply b_reg)⟩
set_option maxHeartbeats 2000000 in
set_option maxRecDepth 20000 in
theorem rcommon_01 (s1 : Int) (g1 : Bool) (s2 : Int) (g2 : Bool) (w : World) (hr : PromAt w) (hA : GivesR 49 #[.agg #[.int .i64 s1, .bool g1]] (.agg #[.int .i64 4, .bool true])) (hB : GivesR 49 #[.agg #[.int .i64 s2, .bool g2]] (.agg #[.int .i64 4, .bool false])) : Calls Tryd.prog 52 #[.agg #[.int .i64 s1, .bool g1], .agg #[.int .i64 s2, .bool g2]] w fun e w' => e = .returned (.agg #[.int .i64 4, .bool false]) ∧ Below w.heap.size w w' := by
  have hR := Lib.hid hr
  have hD := (hr.alloc (o := .cells #[.int .i64 s1, .bool g1] 23)).alloc (o := .cells #[.int .i64 s2, .bool g2] 23)
  clear hr
  obtain ⟨c0, c1, c2, c3, c4, c5, c6, c7, c8⟩ := hD
  go_enter Tryd.func52, Tryd.ntmps52
  go_wp2_with fail
  with_reducible refine wp_quiet_tail 9 (by kernel_rfl) (by kernel_rfl) ?_
  simp only [List.take_succ_cons, List.take_zero, List.drop_succ_cons, List.drop_zero]
  quiet_step (fail)
  quiet_step ((go_at_call 49; exact reg_call (hA _ (hR.out.alloc.alloc.alloc.below (below_reg _ _)))))
  quiet_step ((go_at_call 78; exact reg_call (rank_0 _ (hR.out.alloc.alloc.alloc.below (below_reg _ _)))))
  quiet_step (fail)
  quiet_step ((go_at_call 49; exact reg_call (hB _ (hR.out.alloc.alloc.alloc.below (below_reg _ _)))))
  quiet_step ((go_at_call 78; exact reg_call (rank_1 _ (hR.out.alloc.alloc.alloc.below (below_reg _ _)))))
  quiet_step (fail)
  quiet_step (fail)
  quiet_step (fail)
  refine wpQuiet_nil ?_
  intro _ hw'; obtain ⟨p, rfl⟩ := hw'
  go_wp2
  go_returns
  exact ⟨rfl, by repeat (first | exact Below.refl _ _ | apply b_alloc | apply b_reg)⟩
set_option maxHeartbeats 2000000 in
set_option maxRecDepth 20000 in
theorem rcommon_02 (s1 : Int) (g1 : Bool) (s2 : Int) (g2 : Bool) (w : World) (hr : PromAt w) (hA : GivesR 49 #[.agg #[.int .i64 s1, .bool g1]] (.agg #[.int .i64 4, .bool true])) (hB : GivesR 49 #[.agg #[.int .i64 s2, .bool g2]] (.agg #[.int .i64 8, .bool true])) : Calls Tryd.prog 52 #[.agg #[.int .i64 s1, .bool g1], .agg #[.int .i64 s2, .bool g2]] w fun e w' => e = .returned (.agg #[.int .i64 8, .bool true]) ∧ Below w.heap.size w w' := by
  have hR := Lib.hid hr
  have hD := (hr.alloc (o := .cells #[.int .i64 s1, .bool g1] 23)).alloc (o := .cells #[.int .i64 s2, .bool g2] 23)
  clear hr
  obtain ⟨c0, c1, c2, c3, c4, c5, c6, c7, c8⟩ := hD
  go_enter Tryd.func52, Tryd.ntmps52
  go_wp2_with fail
  with_reducible refine wp_quiet_tail 9 (by kernel_rfl) (by kernel_rfl) ?_
  simp only [List.take_succ_cons, List.take_zero, List.drop_succ_cons, List.drop_zero]
  quiet_step (fail)
  quiet_step ((go_at_call 49; exact reg_call (hA _ (hR.out.alloc.alloc.alloc.below (below_reg _ _)))))
  quiet_step ((go_at_call 78; exact reg_call (rank_0 _ (hR.out.alloc.alloc.alloc.below (below_reg _ _)))))
  quiet_step (fail)
  quiet_step ((go_at_call 49; exact reg_call (hB _ (hR.out.alloc.alloc.alloc.below (below_reg _ _)))))
  quiet_step ((go_at_call 78; exact reg_call (rank_2 _ (hR.out.alloc.alloc.alloc.below (below_reg _ _)))))
  quiet_step (fail)
  quiet_step (fail)
  quiet_step (fail)
  refine wpQuiet_nil ?_
  intro _ hw'; obtain ⟨p, rfl⟩ := hw'
  go_wp2
  go_returns
  exact ⟨rfl, by repeat (first | exact Below.refl _ _ | apply b_alloc | apply b_reg)⟩
set_option maxHeartbeats 2000000 in
set_option maxRecDepth 20000 in
theorem rcommon_03 (s1 : Int) (g1 : Bool) (s2 : Int) (g2 : Bool) (w : World) (hr : PromAt w) (hA : GivesR 49 #[.agg #[.int .i64 s1, .bool g1]] (.agg #[.int .i64 4, .bool true])) (hB : GivesR 49 #[.agg #[.int .i64 s2, .bool g2]] (.agg #[.int .i64 8, .bool false])) : Calls Tryd.prog 52 #[.agg #[.int .i64 s1, .bool g1], .agg #[.int .i64 s2, .bool g2]] w fun e w' => e = .returned (.agg #[.int .i64 8, .bool false]) ∧ Below w.heap.size w w' := by
  have hR := Lib.hid hr
  have hD := (hr.alloc (o := .cells #[.int .i64 s1, .bool g1] 23)).alloc (o := .cells #[.int .i64 s2, .bool g2] 23)
  clear hr
  obtain ⟨c0, c1, c2, c3, c4, c5, c6, c7, c8⟩ := hD
  go_enter Tryd.func52, Tryd.ntmps52
  go_wp2_with fail
  with_reducible refine wp_quiet_tail 9 (by kernel_rfl) (by kernel_rfl) ?_
  simp only [List.take_succ_cons, List.take_zero, List.drop_succ_cons, List.drop_zero]
  quiet_step (fail)
  quiet_step ((go_at_call 49; exact reg_call (hA _ (hR.out.alloc.alloc.alloc.below (below_reg _ _)))))
  quiet_step ((go_at_call 78; exact reg_call (rank_0 _ (hR.out.alloc.alloc.alloc.below (below_reg _ _)))))
  quiet_step (fail)
  quiet_step ((go_at_call 49; exact reg_call (hB _ (hR.out.alloc.alloc.alloc.below (below_reg _ _)))))
  quiet_step ((go_at_call 78; exact reg_call (rank_3 _ (hR.out.alloc.alloc.alloc.below (below_reg _ _)))))
  quiet_step (fail)
  quiet_step (fail)
  quiet_step (fail)
  refine wpQuiet_nil ?_
  intro _ hw'; obtain ⟨p, rfl⟩ := hw'
  go_wp2
  go_returns
  exact ⟨rfl, by repeat (first | exact Below.refl _ _ | apply b_alloc | apply b_reg)⟩
set_option maxHeartbeats 2000000 in
set_option maxRecDepth 20000 in
theorem rcommon_10 (s1 : Int) (g1 : Bool) (s2 : Int) (g2 : Bool) (w : World) (hr : PromAt w) (hA : GivesR 49 #[.agg #[.int .i64 s1, .bool g1]] (.agg #[.int .i64 4, .bool false])) (hB : GivesR 49 #[.agg #[.int .i64 s2, .bool g2]] (.agg #[.int .i64 4, .bool true])) : Calls Tryd.prog 52 #[.agg #[.int .i64 s1, .bool g1], .agg #[.int .i64 s2, .bool g2]] w fun e w' => e = .returned (.agg #[.int .i64 4, .bool false]) ∧ Below w.heap.size w w' := by
  have hR := Lib.hid hr
  have hD := (hr.alloc (o := .cells #[.int .i64 s1, .bool g1] 23)).alloc (o := .cells #[.int .i64 s2, .bool g2] 23)
  clear hr
  obtain ⟨c0, c1, c2, c3, c4, c5, c6, c7, c8⟩ := hD
  go_enter Tryd.func52, Tryd.ntmps52
  go_wp2_with fail
  with_reducible refine wp_quiet_tail 9 (by kernel_rfl) (by kernel_rfl) ?_
  simp only [List.take_succ_cons, List.take_zero, List.drop_succ_cons, List.drop_zero]
  quiet_step (fail)
  quiet_step ((go_at_call 49; exact reg_call (hA _ (hR.out.alloc.alloc.alloc.below (below_reg _ _)))))
  quiet_step ((go_at_call 78; exact reg_call (rank_1 _ (hR.out.alloc.alloc.alloc.below (below_reg _ _)))))
  quiet_step (fail)
  quiet_step ((go_at_call 49; exact reg_call (hB _ (hR.out.alloc.alloc.alloc.below (below_reg _ _)))))
  quiet_step ((go_at_call 78; exact reg_call (rank_0 _ (hR.out.alloc.alloc.alloc.below (below_reg _ _)))))
  quiet_step (fail)
  quiet_step (fail)
  quiet_step (fail)
  refine wpQuiet_nil ?_
  intro _ hw'; obtain ⟨p, rfl⟩ := hw'
  go_wp2
  go_returns
  exact ⟨rfl, by repeat (first | exact Below.refl _ _ | apply b_alloc | apply b_reg)⟩
set_option maxHeartbeats 2000000 in
set_option maxRecDepth 20000 in
theorem rcommon_11 (s1 : Int) (g1 : Bool) (s2 : Int) (g2 : Bool) (w : World) (hr : PromAt w) (hA : GivesR 49 #[.agg #[.int .i64 s1, .bool g1]] (.agg #[.int .i64 4, .bool false])) (hB : GivesR 49 #[.agg #[.int .i64 s2, .bool g2]] (.agg #[.int .i64 4, .bool false])) : Calls Tryd.prog 52 #[.agg #[.int .i64 s1, .bool g1], .agg #[.int .i64 s2, .bool g2]] w fun e w' => e = .returned (.agg #[.int .i64 4, .bool false]) ∧ Below w.heap.size w w' := by
  have hR := Lib.hid hr
  have hD := (hr.alloc (o := .cells #[.int .i64 s1, .bool g1] 23)).alloc (o := .cells #[.int .i64 s2, .bool g2] 23)
  clear hr
  obtain ⟨c0, c1, c2, c3, c4, c5, c6, c7, c8⟩ := hD
  go_enter Tryd.func52, Tryd.ntmps52
  go_wp2_with fail
  with_reducible refine wp_quiet_tail 9 (by kernel_rfl) (by kernel_rfl) ?_
  simp only [List.take_succ_cons, List.take_zero, List.drop_succ_cons, List.drop_zero]
  quiet_step (fail)
  quiet_step ((go_at_call 49; exact reg_call (hA _ (hR.out.alloc.alloc.alloc.below (below_reg _ _)))))
  quiet_step ((go_at_call 78; exact reg_call (rank_1 _ (hR.out.alloc.alloc.alloc.below (below_reg _ _)))))
  quiet_step (fail)
  quiet_step ((go_at_call 49; exact reg_call (hB _ (hR.out.alloc.alloc.alloc.below (below_reg _ _)))))
  quiet_step ((go_at_call 78; exact reg_call (rank_1 _ (hR.out.alloc.alloc.alloc.below (below_reg _ _)))))
  quiet_step (fail)
  quiet_step (fail)
  quiet_step (fail)
  refine wpQuiet_nil ?_
  intro _ hw'; obtain ⟨p, rfl⟩ := hw'
  go_wp2
  go_returns
  exact ⟨rfl, by repeat (first | exact Below.refl _ _ | apply b_alloc | apply b_reg)⟩
set_option maxHeartbeats 2000000 in
set_option maxRecDepth 20000 in
theorem rcommon_12 (s1 : Int) (g1 : Bool) (s2 : Int) (g2 : Bool) (w : World) (hr : PromAt w) (hA : GivesR 49 #[.agg #[.int .i64 s1, .bool g1]] (.agg #[.int .i64 4, .bool false])) (hB : GivesR 49 #[.agg #[.int .i64 s2, .bool g2]] (.agg #[.int .i64 8, .bool true])) : Calls Tryd.prog 52 #[.agg #[.int .i64 s1, .bool g1], .agg #[.int .i64 s2, .bool g2]] w fun e w' => e = .returned (.agg #[.int .i64 8, .bool true]) ∧ Below w.heap.size w w' := by
  have hR := Lib.hid hr
  have hD := (hr.alloc (o := .cells #[.int .i64 s1, .bool g1] 23)).alloc (o := .cells #[.int .i64 s2, .bool g2] 23)
  clear hr
  obtain ⟨c0, c1, c2, c3, c4, c5, c6, c7, c8⟩ := hD
  go_enter Tryd.func52, Tryd.ntmps52
  go_wp2_with fail
  with_reducible refine wp_quiet_tail 9 (by kernel_rfl) (by kernel_rfl) ?_
  simp only [List.take_succ_cons, List.take_zero, List.drop_succ_cons, List.drop_zero]
  quiet_step (fail)
  quiet_step ((go_at_call 49; exact reg_call (hA _ (hR.out.alloc.alloc.alloc.below (below_reg _ _)))))
  quiet_step ((go_at_call 78; exact reg_call (rank_1 _ (hR.out.alloc.alloc.alloc.below (below_reg _ _)))))
  quiet_step (fail)
  quiet_step ((go_at_call 49; exact reg_call (hB _ (hR.out.alloc.alloc.alloc.below (below_reg _ _)))))
  quiet_step ((go_at_call 78; exact reg_call (rank_2 _ (hR.out.alloc.alloc.alloc.below (below_reg _ _)))))
  quiet_step (fail)
  quiet_step (fail)
  quiet_step (fail)
  refine wpQuiet_nil ?_
  intro _ hw'; obtain ⟨p, rfl⟩ := hw'
  go_wp2
  go_returns
  exact ⟨rfl, by repeat (first | exact Below.refl _ _ | apply b_alloc | apply b_reg)⟩
set_option maxHeartbeats 2000000 in
set_option maxRecDepth 20000 in
theorem rcommon_13 (s1 : Int) (g1 : Bool) (s2 : Int) (g2 : Bool) (w : World) (hr : PromAt w) (hA : GivesR 49 #[.agg #[.int .i64 s1, .bool g1]] (.agg #[.int .i64 4, .bool false])) (hB : GivesR 49 #[.agg #[.int .i64 s2, .bool g2]] (.agg #[.int .i64 8, .bool false])) : Calls Tryd.prog 52 #[.agg #[.int .i64 s1, .bool g1], .agg #[.int .i64 s2, .bool g2]] w fun e w' => e = .returned (.agg #[.int .i64 8, .bool false]) ∧ Below w.heap.size w w' := by
  have hR := Lib.hid hr
  have hD := (hr.alloc (o := .cells #[.int .i64 s1, .bool g1] 23)).alloc (o := .cells #[.int .i64 s2, .bool g2] 23)
  clear hr
  obtain ⟨c0, c1, c2, c3, c4, c5, c6, c7, c8⟩ := hD
  go_enter Tryd.func52, Tryd.ntmps52
  go_wp2_with fail
  with_reducible refine wp_quiet_tail 9 (by kernel_rfl) (by kernel_rfl) ?_
  simp only [List.take_succ_cons, List.take_zero, List.drop_succ_cons, List.drop_zero]
  quiet_step (fail)
  quiet_step ((go_at_call 49; exact reg_call (hA _ (hR.out.alloc.alloc.alloc.below (below_reg _ _)))))
  quiet_step ((go_at_call 78; exact reg_call (rank_1 _ (hR.out.alloc.alloc.alloc.below (below_reg _ _)))))
  quiet_step (fail)
  quiet_step ((go_at_call 49; exact reg_call (hB _ (hR.out.alloc.alloc.alloc.below (below_reg _ _)))))
  quiet_step ((go_at_call 78; exact reg_call (rank_3 _ (hR.out.alloc.alloc.alloc.below (below_reg _ _)))))
  quiet_step (fail)
  quiet_step (fail)
  quiet_step (fail)
  refine wpQuiet_nil ?_
  intro _ hw'; obtain ⟨p, rfl⟩ := hw'
  go_wp2
  go_returns
  exact ⟨rfl, by repeat (first | exact Below.refl _ _ | apply b_alloc | apply b_reg)⟩
set_option maxHeartbeats 2000000 in
set_option maxRecDepth 20000 in
theorem rcommon_20 (s1 : Int) (g1 : Bool) (s2 : Int) (g2 : Bool) (w : World) (hr : PromAt w) (hA : GivesR 49 #[.agg #[.int .i64 s1, .bool g1]] (.agg #[.int .i64 8, .bool true])) (hB : GivesR 49 #[.agg #[.int .i64 s2, .bool g2]] (.agg #[.int .i64 4, .bool true])) : Calls Tryd.prog 52 #[.agg #[.int .i64 s1, .bool g1], .agg #[.int .i64 s2, .bool g2]] w fun e w' => e = .returned (.agg #[.int .i64 8, .bool true]) ∧ Below w.heap.size w w' := by
  have hR := Lib.hid hr
  have hD := (hr.alloc (o := .cells #[.int .i64 s1, .bool g1] 23)).alloc (o := .cells #[.int .i64 s2, .bool g2] 23)
  clear hr
  obtain ⟨c0, c1, c2, c3, c4, c5, c6, c7, c8⟩ := hD
  go_enter Tryd.func52, Tryd.ntmps52
  go_wp2_with fail
  with_reducible refine wp_quiet_tail 9 (by kernel_rfl) (by kernel_rfl) ?_
  simp only [List.take_succ_cons, List.take_zero, List.drop_succ_cons, List.drop_zero]
  quiet_step (fail)
  quiet_step ((go_at_call 49; exact reg_call (hA _ (hR.out.alloc.alloc.alloc.below (below_reg _ _)))))
  quiet_step ((go_at_call 78; exact reg_call (rank_2 _ (hR.out.alloc.alloc.alloc.below (below_reg _ _)))))
  quiet_step (fail)
  quiet_step ((go_at_call 49; exact reg_call (hB _ (hR.out.alloc.alloc.alloc.below (below_reg _ _)))))
  quiet_step ((go_at_call 78; exact reg_call (rank_0 _ (hR.out.alloc.alloc.alloc.below (below_reg _ _)))))
  quiet_step (fail)
  quiet_step (fail)
  quiet_step (fail)
  refine wpQuiet_nil ?_
  intro _ hw'; obtain ⟨p, rfl⟩ := hw'
  go_wp2
  go_returns
  exact ⟨rfl, by repeat (first | exact Below.refl _ _ | apply b_alloc | apply b_reg)⟩
set_option maxHeartbeats 2000000 in
set_option maxRecDepth 20000 in
theorem rcommon_21 (s1 : Int) (g1 : Bool) (s2 : Int) (g2 : Bool) (w : World) (hr : PromAt w) (hA : GivesR 49 #[.agg #[.int .i64 s1, .bool g1]] (.agg #[.int .i64 8, .bool true])) (hB : GivesR 49 #[.agg #[.int .i64 s2, .bool g2]] (.agg #[.int .i64 4, .bool false])) : Calls Tryd.prog 52 #[.agg #[.int .i64 s1, .bool g1], .agg #[.int .i64 s2, .bool g2]] w fun e w' => e = .returned (.agg #[.int .i64 8, .bool true]) ∧ Below w.heap.size w w' := by
  have hR := Lib.hid hr
  have hD := (hr.alloc (o := .cells #[.int .i64 s1, .bool g1] 23)).alloc (o := .cells #[.int .i64 s2, .bool g2] 23)
  clear hr
  obtain ⟨c0, c1, c2, c3, c4, c5, c6, c7, c8⟩ := hD
  go_enter Tryd.func52, Tryd.ntmps52
  go_wp2_with fail
  with_reducible refine wp_quiet_tail 9 (by kernel_rfl) (by kernel_rfl) ?_
  simp only [List.take_succ_cons, List.take_zero, List.drop_succ_cons, List.drop_zero]
  quiet_step (fail)
  quiet_step ((go_at_call 49; exact reg_call (hA _ (hR.out.alloc.alloc.alloc.below (below_reg _ _)))))
  quiet_step ((go_at_call 78; exact reg_call (rank_2 _ (hR.out.alloc.alloc.alloc.below (below_reg _ _)))))
  quiet_step (fail)
  quiet_step ((go_at_call 49; exact reg_call (hB _ (hR.out.alloc.alloc.alloc.below (below_reg _ _)))))
  quiet_step ((go_at_call 78; exact reg_call (rank_1 _ (hR.out.alloc.alloc.alloc.below (below_reg _ _)))))
  quiet_step (fail)
  quiet_step (fail)
  quiet_step (fail)
  refine wpQuiet_nil ?_
  intro _ hw'; obtain ⟨p, rfl⟩ := hw'
  go_wp2
  go_returns
  exact ⟨rfl, by repeat (first | exact Below.refl _ _ | apply b_alloc | apply b_reg)⟩
set_option maxHeartbeats 2000000 in
set_option maxRecDepth 20000 in
theorem rcommon_22 (s1 : Int) (g1 : Bool) (s2 : Int) (g2 : Bool) (w : World) (hr : PromAt w) (hA : GivesR 49 #[.agg #[.int .i64 s1, .bool g1]] (.agg #[.int .i64 8, .bool true])) (hB : GivesR 49 #[.agg #[.int .i64 s2, .bool g2]] (.agg #[.int .i64 8, .bool true])) : Calls Tryd.prog 52 #[.agg #[.int .i64 s1, .bool g1], .agg #[.int .i64 s2, .bool g2]] w fun e w' => e = .returned (.agg #[.int .i64 8, .bool true]) ∧ Below w.heap.size w w' := by
  have hR := Lib.hid hr
  have hD := (hr.alloc (o := .cells #[.int .i64 s1, .bool g1] 23)).alloc (o := .cells #[.int .i64 s2, .bool g2] 23)
  clear hr
  obtain ⟨c0, c1, c2, c3, c4, c5, c6, c7, c8⟩ := hD
  go_enter Tryd.func52, Tryd.ntmps52
  go_wp2_with fail
  with_reducible refine wp_quiet_tail 9 (by kernel_rfl) (by kernel_rfl) ?_
  simp only [List.take_succ_cons, List.take_zero, List.drop_succ_cons, List.drop_zero]
  quiet_step (fail)
  quiet_step ((go_at_call 49; exact reg_call (hA _ (hR.out.alloc.alloc.alloc.below (below_reg _ _)))))
  quiet_step ((go_at_call 78; exact reg_call (rank_2 _ (hR.out.alloc.alloc.alloc.below (below_reg _ _)))))
  quiet_step (fail)
  quiet_step ((go_at_call 49; exact reg_call (hB _ (hR.out.alloc.alloc.alloc.below (below_reg _ _)))))
  quiet_step ((go_at_call 78; exact reg_call (rank_2 _ (hR.out.alloc.alloc.alloc.below (below_reg _ _)))))
  quiet_step (fail)
  quiet_step (fail)
  quiet_step (fail)
  refine wpQuiet_nil ?_
  intro _ hw'; obtain ⟨p, rfl⟩ := hw'
  go_wp2
  go_returns
  exact ⟨rfl, by repeat (first | exact Below.refl _ _ | apply b_alloc | apply b_reg)⟩
set_option maxHeartbeats 2000000 in
set_option maxRecDepth 20000 in
theorem rcommon_23 (s1 : Int) (g1 : Bool) (s2 : Int) (g2 : Bool) (w : World) (hr : PromAt w) (hA : GivesR 49 #[.agg #[.int .i64 s1, .bool g1]] (.agg #[.int .i64 8, .bool true])) (hB : GivesR 49 #[.agg #[.int .i64 s2, .bool g2]] (.agg #[.int .i64 8, .bool false])) : Calls Tryd.prog 52 #[.agg #[.int .i64 s1, .bool g1], .agg #[.int .i64 s2, .bool g2]] w fun e w' => e = .returned (.agg #[.int .i64 8, .bool false]) ∧ Below w.heap.size w w' := by
  have hR := Lib.hid hr
  have hD := (hr.alloc (o := .cells #[.int .i64 s1, .bool g1] 23)).alloc (o := .cells #[.int .i64 s2, .bool g2] 23)
  clear hr
  obtain ⟨c0, c1, c2, c3, c4, c5, c6, c7, c8⟩ := hD
  go_enter Tryd.func52, Tryd.ntmps52
  go_wp2_with fail
  with_reducible refine wp_quiet_tail 9 (by kernel_rfl) (by kernel_rfl) ?_
  simp only [List.take_succ_cons, List.take_zero, List.drop_succ_cons, List.drop_zero]
  quiet_step (fail)
  quiet_step ((go_at_call 49; exact reg_call (hA _ (hR.out.alloc.alloc.alloc.below (below_reg _ _)))))
  quiet_step ((go_at_call 78; exact reg_call (rank_2 _ (hR.out.alloc.alloc.alloc.below (below_reg _ _)))))
  quiet_step (fail)
  quiet_step ((go_at_call 49; exact reg_call (hB _ (hR.out.alloc.alloc.alloc.below (below_reg _ _)))))
  quiet_step ((go_at_call 78; exact reg_call (rank_3 _ (hR.out.alloc.alloc.alloc.below (below_reg _ _)))))
  quiet_step (fail)
  quiet_step (fail)
  quiet_step (fail)
  refine wpQuiet_nil ?_
  intro _ hw'; obtain ⟨p, rfl⟩ := hw'
  go_wp2
  go_returns
  exact ⟨rfl, by repeat (first | exact Below.refl _ _ | apply b_alloc | apply b_reg)⟩
set_option maxHeartbeats 2000000 in
set_option maxRecDepth 20000 in
theorem rcommon_30 (s1 : Int) (g1 : Bool) (s2 : Int) (g2 : Bool) (w : World) (hr : PromAt w) (hA : GivesR 49 #[.agg #[.int .i64 s1, .bool g1]] (.agg #[.int .i64 8, .bool false])) (hB : GivesR 49 #[.agg #[.int .i64 s2, .bool g2]] (.agg #[.int .i64 4, .bool true])) : Calls Tryd.prog 52 #[.agg #[.int .i64 s1, .bool g1], .agg #[.int .i64 s2, .bool g2]] w fun e w' => e = .returned (.agg #[.int .i64 8, .bool false]) ∧ Below w.heap.size w w' := by
  have hR := Lib.hid hr
  have hD := (hr.alloc (o := .cells #[.int .i64 s1, .bool g1] 23)).alloc (o := .cells #[.int .i64 s2, .bool g2] 23)
  clear hr
  obtain ⟨c0, c1, c2, c3, c4, c5, c6, c7, c8⟩ := hD
  go_enter Tryd.func52, Tryd.ntmps52
  go_wp2_with fail
  with_reducible refine wp_quiet_tail 9 (by kernel_rfl) (by kernel_rfl) ?_
  simp only [List.take_succ_cons, List.take_zero, List.drop_succ_cons, List.drop_zero]
  quiet_step (fail)
  quiet_step ((go_at_call 49; exact reg_call (hA _ (hR.out.alloc.alloc.alloc.below (below_reg _ _)))))
  quiet_step ((go_at_call 78; exact reg_call (rank_3 _ (hR.out.alloc.alloc.alloc.below (below_reg _ _)))))
  quiet_step (fail)
  quiet_step ((go_at_call 49; exact reg_call (hB _ (hR.out.alloc.alloc.alloc.below (below_reg _ _)))))
  quiet_step ((go_at_call 78; exact reg_call (rank_0 _ (hR.out.alloc.alloc.alloc.below (below_reg _ _)))))
  quiet_step (fail)
  quiet_step (fail)
  quiet_step (fail)
  refine wpQuiet_nil ?_
  intro _ hw'; obtain ⟨p, rfl⟩ := hw'
  go_wp2
  go_returns
  exact ⟨rfl, by repeat (first | exact Below.refl _ _ | apply b_alloc | apply b_reg)⟩
set_option maxHeartbeats 2000000 in
set_option maxRecDepth 20000 in
theorem rcommon_31 (s1 : Int) (g1 : Bool) (s2 : Int) (g2 : Bool) (w : World) (hr : PromAt w) (hA : GivesR 49 #[.agg #[.int .i64 s1, .bool g1]] (.agg #[.int .i64 8, .bool false])) (hB : GivesR 49 #[.agg #[.int .i64 s2, .bool g2]] (.agg #[.int .i64 4, .bool false])) : Calls Tryd.prog 52 #[.agg #[.int .i64 s1, .bool g1], .agg #[.int .i64 s2, .bool g2]] w fun e w' => e = .returned (.agg #[.int .i64 8, .bool false]) ∧ Below w.heap.size w w' := by
  have hR := Lib.hid hr
  have hD := (hr.alloc (o := .cells #[.int .i64 s1, .bool g1] 23)).alloc (o := .cells #[.int .i64 s2, .bool g2] 23)
  clear hr
  obtain ⟨c0, c1, c2, c3, c4, c5, c6, c7, c8⟩ := hD
  go_enter Tryd.func52, Tryd.ntmps52
  go_wp2_with fail
  with_reducible refine wp_quiet_tail 9 (by kernel_rfl) (by kernel_rfl) ?_
  simp only [List.take_succ_cons, List.take_zero, List.drop_succ_cons, List.drop_zero]
  quiet_step (fail)
  quiet_step ((go_at_call 49; exact reg_call (hA _ (hR.out.alloc.alloc.alloc.below (below_reg _ _)))))
  quiet_step ((go_at_call 78; exact reg_call (rank_3 _ (hR.out.alloc.alloc.alloc.below (below_reg _ _)))))
  quiet_step (fail)
  quiet_step ((go_at_call 49; exact reg_call (hB _ (hR.out.alloc.alloc.alloc.below (below_reg _ _)))))
  quiet_step ((go_at_call 78; exact reg_call (rank_1 _ (hR.out.alloc.alloc.alloc.below (below_reg _ _)))))
  quiet_step (fail)
  quiet_step (fail)
  quiet_step (fail)
  refine wpQuiet_nil ?_
  intro _ hw'; obtain ⟨p, rfl⟩ := hw'
  go_wp2
  go_returns
  exact ⟨rfl, by repeat (first | exact Below.refl _ _ | apply b_alloc | apply b_reg)⟩
set_option maxHeartbeats 2000000 in
set_option maxRecDepth 20000 in
theorem rcommon_32 (s1 : Int) (g1 : Bool) (s2 : Int) (g2 : Bool) (w : World) (hr : PromAt w) (hA : GivesR 49 #[.agg #[.int .i64 s1, .bool g1]] (.agg #[.int .i64 8, .bool false])) (hB : GivesR 49 #[.agg #[.int .i64 s2, .bool g2]] (.agg #[.int .i64 8, .bool true])) : Calls Tryd.prog 52 #[.agg #[.int .i64 s1, .bool g1], .agg #[.int .i64 s2, .bool g2]] w fun e w' => e = .returned (.agg #[.int .i64 8, .bool false]) ∧ Below w.heap.size w w' := by
  have hR := Lib.hid hr
  have hD := (hr.alloc (o := .cells #[.int .i64 s1, .bool g1] 23)).alloc (o := .cells #[.int .i64 s2, .bool g2] 23)
  clear hr
  obtain ⟨c0, c1, c2, c3, c4, c5, c6, c7, c8⟩ := hD
  go_enter Tryd.func52, Tryd.ntmps52
  go_wp2_with fail
  with_reducible refine wp_quiet_tail 9 (by kernel_rfl) (by kernel_rfl) ?_
  simp only [List.take_succ_cons, List.take_zero, List.drop_succ_cons, List.drop_zero]
  quiet_step (fail)
  quiet_step ((go_at_call 49; exact reg_call (hA _ (hR.out.alloc.alloc.alloc.below (below_reg _ _)))))
  quiet_step ((go_at_call 78; exact reg_call (rank_3 _ (hR.out.alloc.alloc.alloc.below (below_reg _ _)))))
  quiet_step (fail)
  quiet_step ((go_at_call 49; exact reg_call (hB _ (hR.out.alloc.alloc.alloc.below (below_reg _ _)))))
  quiet_step ((go_at_call 78; exact reg_call (rank_2 _ (hR.out.alloc.alloc.alloc.below (below_reg _ _)))))
  quiet_step (fail)
  quiet_step (fail)
  quiet_step (fail)
  refine wpQuiet_nil ?_
  intro _ hw'; obtain ⟨p, rfl⟩ := hw'
  go_wp2
  go_returns
  exact ⟨rfl, by repeat (first | exact Below.refl _ _ | apply b_alloc | apply b_reg)⟩
set_option maxHeartbeats 2000000 in
set_option maxRecDepth 20000 in
theorem rcommon_33 (s1 : Int) (g1 : Bool) (s2 : Int) (g2 : Bool) (w : World) (hr : PromAt w) (hA : GivesR 49 #[.agg #[.int .i64 s1, .bool g1]] (.agg #[.int .i64 8, .bool false])) (hB : GivesR 49 #[.agg #[.int .i64 s2, .bool g2]] (.agg #[.int .i64 8, .bool false])) : Calls Tryd.prog 52 #[.agg #[.int .i64 s1, .bool g1], .agg #[.int .i64 s2, .bool g2]] w fun e w' => e = .returned (.agg #[.int .i64 8, .bool false]) ∧ Below w.heap.size w w' := by
  have hR := Lib.hid hr
  have hD := (hr.alloc (o := .cells #[.int .i64 s1, .bool g1] 23)).alloc (o := .cells #[.int .i64 s2, .bool g2] 23)
  clear hr
  obtain ⟨c0, c1, c2, c3, c4, c5, c6, c7, c8⟩ := hD
  go_enter Tryd.func52, Tryd.ntmps52
  go_wp2_with fail
  with_reducible refine wp_quiet_tail 9 (by kernel_rfl) (by kernel_rfl) ?_
  simp only [List.take_succ_cons, List.take_zero, List.drop_succ_cons, List.drop_zero]
  quiet_step (fail)
  quiet_step ((go_at_call 49; exact reg_call (hA _ (hR.out.alloc.alloc.alloc.below (below_reg _ _)))))
  quiet_step ((go_at_call 78; exact reg_call (rank_3 _ (hR.out.alloc.alloc.alloc.below (below_reg _ _)))))
  quiet_step (fail)
  quiet_step ((go_at_call 49; exact reg_call (hB _ (hR.out.alloc.alloc.alloc.below (below_reg _ _)))))
  quiet_step ((go_at_call 78; exact reg_call (rank_3 _ (hR.out.alloc.alloc.alloc.below (below_reg _ _)))))
  quiet_step (fail)
  quiet_step (fail)
  quiet_step (fail)
  refine wpQuiet_nil ?_
  intro _ hw'; obtain ⟨p, rfl⟩ := hw'
  go_wp2
  go_returns
  exact ⟨rfl, by repeat (first | exact Below.refl _ _ | apply b_alloc | apply b_reg)⟩
theorem pr_cases {s : Int} {g : Bool} (h : vB s = true) : (pS s = 4 ∧ pG s g = true) ∨ (pS s = 4 ∧ pG s g = false) ∨ (pS s = 8 ∧ pG s g = true) ∨ (pS s = 8 ∧ pG s g = false) := by
  rcases vB_cases h with rfl | rfl | rfl | rfl <;> cases g <;> simp [pS, pG]
set_option maxHeartbeats 2000000 in
set_option maxRecDepth 20000 in
theorem rCommon_c (s1 : Int) (g1 : Bool) (s2 : Int) (g2 : Bool) (w : World) (hr : PromAt w) (h1 : vB s1 = true) (h2 : vB s2 = true) : Calls Tryd.prog 52 #[.agg #[.int .i64 s1, .bool g1], .agg #[.int .i64 s2, .bool g2]] w fun e w' => e = .returned (.agg #[.int .i64 (cS s1 g1 s2), .bool (cG s1 g1 s2 g2)]) ∧ Below w.heap.size w w' := by
  have hA : GivesR 49 #[.agg #[.int .i64 s1, .bool g1]] _ := fun w hr => rPromoted_c s1 g1 w hr
  have hB : GivesR 49 #[.agg #[.int .i64 s2, .bool g2]] _ := fun w hr => rPromoted_c s2 g2 w hr
  rcases pr_cases (g := g1) h1 with ⟨e1, e2⟩ | ⟨e1, e2⟩ | ⟨e1, e2⟩ | ⟨e1, e2⟩ <;> rcases pr_cases (g := g2) h2 with ⟨e3, e4⟩ | ⟨e3, e4⟩ | ⟨e3, e4⟩ | ⟨e3, e4⟩ <;> rw [e1, e2] at hA <;> rw [e3, e4] at hB <;> simp only [cS, cG, cF, e1, e2, e3, e4]
  · exact rcommon_00 s1 g1 s2 g2 w hr hA hB
  · exact rcommon_01 s1 g1 s2 g2 w hr hA hB
  · exact rcommon_02 s1 g1 s2 g2 w hr hA hB
  · exact rcommon_03 s1 g1 s2 g2 w hr hA hB
  · exact rcommon_10 s1 g1 s2 g2 w hr hA hB
  · exact rcommon_11 s1 g1 s2 g2 w hr hA hB
  · exact rcommon_12 s1 g1 s2 g2 w hr hA hB
  · exact rcommon_13 s1 g1 s2 g2 w hr hA hB
  · exact rcommon_20 s1 g1 s2 g2 w hr hA hB
  · exact rcommon_21 s1 g1 s2 g2 w hr hA hB
  · exact rcommon_22 s1 g1 s2 g2 w hr hA hB
  · exact rcommon_23 s1 g1 s2 g2 w hr hA hB
  · exact rcommon_30 s1 g1 s2 g2 w hr hA hB
  · exact rcommon_31 s1 g1 s2 g2 w hr hA hB
  · exact rcommon_32 s1 g1 s2 g2 w hr hA hB
  · exact rcommon_33 s1 g1 s2 g2 w hr hA hB
set_option maxHeartbeats 2000000 in
set_option maxRecDepth 20000 in
theorem rUsual_c (s1 : Int) (g1 : Bool) (s2 : Int) (g2 : Bool) (w : World) (hr : PromAt w) (h1 : vB s1 = true) (h2 : vB s2 = true) : Calls Tryd.prog 19 #[.agg #[.int .i64 s1, .bool g1], .agg #[.int .i64 s2, .bool g2]] w fun e w' => e = .returned (.tuple #[.agg #[.int .i64 (cS s1 g1 s2), .bool (cG s1 g1 s2 g2)], .int .i64 0]) ∧ Below w.heap.size w w' := by
  go_enter Tryd.func19, Tryd.ntmps19
  go_wp2_with (first | (go_at_call 51; refine (both_c _ _ _ _ _ (by assumption) (by assumption)).mono ?_; rintro e w' ⟨rfl, hq⟩; (first | obtain ⟨p, rfl⟩ := regrown2 hq | obtain ⟨p, rfl⟩ := regrown hq); clear hq) | (go_at_call 52; refine (rCommon_c _ _ _ _ _ (hr.below (by repeat (first | exact Below.refl _ _ | apply b_alloc | apply b_reg))) (by assumption) (by assumption)).mono ?_; rintro e w' ⟨rfl, hq⟩; (first | obtain ⟨p, rfl⟩ := regrown2 hq | obtain ⟨p, rfl⟩ := regrown hq); clear hq))
  go_returns
  exact ⟨rfl, by repeat (first | exact Below.refl _ _ | apply b_alloc | apply b_reg)⟩
set_option maxHeartbeats 2000000 in
set_option maxRecDepth 20000 in
theorem rUsual_no1 (s1 : Int) (g1 : Bool) (s2 : Int) (g2 : Bool) (w : World) (h1 : vB s1 = false) : Calls Tryd.prog 19 #[.agg #[.int .i64 s1, .bool g1], .agg #[.int .i64 s2, .bool g2]] w fun e w' => e = .returned (.tuple #[.agg #[.int .i64 0, .bool false], .int .i64 10]) ∧ Below w.heap.size w w' := by
  go_enter Tryd.func19, Tryd.ntmps19
  go_wp2_with (go_at_call 51; refine (both_no1 _ _ _ _ _ h1).mono ?_; rintro e w' ⟨rfl, hq⟩; (first | obtain ⟨p, rfl⟩ := regrown2 hq | obtain ⟨p, rfl⟩ := regrown hq); clear hq)
  go_returns
  exact ⟨rfl, by repeat (first | exact Below.refl _ _ | apply b_alloc | apply b_reg)⟩
set_option maxHeartbeats 2000000 in
set_option maxRecDepth 20000 in
theorem rUsual_no2 (s1 : Int) (g1 : Bool) (s2 : Int) (g2 : Bool) (w : World) (h1 : vB s1 = true) (h2 : vB s2 = false) : Calls Tryd.prog 19 #[.agg #[.int .i64 s1, .bool g1], .agg #[.int .i64 s2, .bool g2]] w fun e w' => e = .returned (.tuple #[.agg #[.int .i64 0, .bool false], .int .i64 10]) ∧ Below w.heap.size w w' := by
  go_enter Tryd.func19, Tryd.ntmps19
  go_wp2_with (go_at_call 51; refine (both_no2 _ _ _ _ _ h1 h2).mono ?_; rintro e w' ⟨rfl, hq⟩; (first | obtain ⟨p, rfl⟩ := regrown2 hq | obtain ⟨p, rfl⟩ := regrown hq); clear hq)
  go_returns
  exact ⟨rfl, by repeat (first | exact Below.refl _ _ | apply b_alloc | apply b_reg)⟩
set_option maxHeartbeats 2000000 in
set_option maxRecDepth 20000 in
theorem rRange_no (s : Int) (g : Bool) (w : World) (h : vB s = false) : Calls Tryd.prog 15 #[.agg #[.int .i64 s, .bool g]] w fun e w' => e = .returned (.tuple #[.int .i64 0, .int .i64 0, .int .i64 10]) ∧ Below w.heap.size w w' := by
  go_enter Tryd.func15, Tryd.ntmps15
  go_wp2_with (go_at_call 25; refine (rCheck_no _ _ _ (by assumption)).mono ?_; rintro e w' ⟨rfl, hq⟩; (first | obtain ⟨p, rfl⟩ := regrown2 hq | obtain ⟨p, rfl⟩ := regrown hq); clear hq)
  go_returns
  exact ⟨rfl, by repeat (first | exact Below.refl _ _ | apply b_alloc | apply b_reg)⟩
set_option maxHeartbeats 2000000 in
set_option maxRecDepth 20000 in
theorem rRange_u (s : Int) (w : World) (h : vB s = true) : Calls Tryd.prog 15 #[.agg #[.int .i64 s, .bool false]] w fun e w' => e = .returned (.tuple #[.int .i64 0, .int .i64 (wr s false (-1)), .int .i64 0]) ∧ Below w.heap.size w w' := by
  go_enter Tryd.func15, Tryd.ntmps15
  go_wp2_with (first | (go_at_call 25; refine (rCheck_c _ _ _ (by assumption)).mono ?_; rintro e w' ⟨rfl, hq⟩; (first | obtain ⟨p, rfl⟩ := regrown2 hq | obtain ⟨p, rfl⟩ := regrown hq); clear hq) | (go_at_call 47; refine (rWrapped_c _ _ _ _ (by assumption)).mono ?_; rintro e w' ⟨rfl, hq⟩; (first | obtain ⟨p, rfl⟩ := regrown2 hq | obtain ⟨p, rfl⟩ := regrown hq); clear hq))
  go_returns
  exact ⟨rfl, by repeat (first | exact Below.refl _ _ | apply b_alloc | apply b_reg)⟩
theorem twice {k N : Nat} (h : k < N) (hN : N ≤ 63) : wrap64 (-(2 ^ k : Int) * 2) = -(2 ^ (k + 1) : Int) := by
  have e : (2 : Int) ^ (k + 1) = 2 ^ k * 2 := by rw [Int.pow_succ]
  have p : (0 : Int) < 2 ^ k := Int.pow_pos (by omega)
  have q : (2 : Int) ^ (k + 1) ≤ 2 ^ 63 := by
    have := Nat.pow_le_pow_right (n := 2) (by omega) (show k + 1 ≤ 63 by omega)
    exact_mod_cast this
  have r : (2 : Int) ^ 63 = 9223372036854775808 := by decide
  rw [e] at *
  generalize (2 : Int) ^ k = x at *
  rw [w64_in (by unfold I64; omega)]; omega
set_option maxHeartbeats 2000000 in
set_option maxRecDepth 20000 in
theorem rRange_1 (w : World) : Calls Tryd.prog 15 #[.agg #[.int .i64 1, .bool true]] w fun e w' => e = .returned (.tuple #[.int .i64 (-128), .int .i64 127, .int .i64 0]) ∧ Below w.heap.size w w' := by
  go_enter Tryd.func15, Tryd.ntmps15
  go_wp2_with (go_at_call 25; refine (rCheck_c _ _ _ rfl).mono ?_; rintro e w' ⟨rfl, hq⟩; (first | obtain ⟨p, rfl⟩ := regrown2 hq | obtain ⟨p, rfl⟩ := regrown hq); clear hq)
  go_loop [6, 7] (fun v6 v7 => ∃ k : Nat, k ≤ 7 ∧ v7 = .int .i64 k ∧ v6 = .int .i64 (-(2 ^ k : Int))) (fun _ v7 => 7 - (intOf v7).toNat)
  case atStart => exact ⟨0, by omega, rfl, rfl⟩
  case round =>
  obtain ⟨k, hk, rfl, rfl⟩ := hrel
  by_cases hlt : k < 7
  · have ht := Lib.hid (twice hlt (by omega))
    go_wp2
    go_round
    case rel => exact ⟨k + 1, by omega, by go_num, by rw [ht.out]⟩
    case measure => simp [intOf]; omega
  · have e : k = 7 := by omega
    subst e
    go_wp2
    go_returns
    exact ⟨rfl, by repeat (first | exact Below.refl _ _ | apply b_alloc | apply b_reg)⟩
set_option maxHeartbeats 2000000 in
set_option maxRecDepth 20000 in
theorem rRange_2 (w : World) : Calls Tryd.prog 15 #[.agg #[.int .i64 2, .bool true]] w fun e w' => e = .returned (.tuple #[.int .i64 (-32768), .int .i64 32767, .int .i64 0]) ∧ Below w.heap.size w w' := by
  go_enter Tryd.func15, Tryd.ntmps15
  go_wp2_with (go_at_call 25; refine (rCheck_c _ _ _ rfl).mono ?_; rintro e w' ⟨rfl, hq⟩; (first | obtain ⟨p, rfl⟩ := regrown2 hq | obtain ⟨p, rfl⟩ := regrown hq); clear hq)
  go_loop [6, 7] (fun v6 v7 => ∃ k : Nat, k ≤ 15 ∧ v7 = .int .i64 k ∧ v6 = .int .i64 (-(2 ^ k : Int))) (fun _ v7 => 15 - (intOf v7).toNat)
  case atStart => exact ⟨0, by omega, rfl, rfl⟩
  case round =>
  obtain ⟨k, hk, rfl, rfl⟩ := hrel
  by_cases hlt : k < 15
  · have ht := Lib.hid (twice hlt (by omega))
    go_wp2
    go_round
    case rel => exact ⟨k + 1, by omega, by go_num, by rw [ht.out]⟩
    case measure => simp [intOf]; omega
  · have e : k = 15 := by omega
    subst e
    go_wp2
    go_returns
    exact ⟨rfl, by repeat (first | exact Below.refl _ _ | apply b_alloc | apply b_reg)⟩
set_option maxHeartbeats 2000000 in
set_option maxRecDepth 20000 in
theorem rRange_4 (w : World) : Calls Tryd.prog 15 #[.agg #[.int .i64 4, .bool true]] w fun e w' => e = .returned (.tuple #[.int .i64 (-2147483648), .int .i64 2147483647, .int .i64 0]) ∧ Below w.heap.size w w' := by
  go_enter Tryd.func15, Tryd.ntmps15
  go_wp2_with (go_at_call 25; refine (rCheck_c _ _ _ rfl).mono ?_; rintro e w' ⟨rfl, hq⟩; (first | obtain ⟨p, rfl⟩ := regrown2 hq | obtain ⟨p, rfl⟩ := regrown hq); clear hq)
  go_loop [6, 7] (fun v6 v7 => ∃ k : Nat, k ≤ 31 ∧ v7 = .int .i64 k ∧ v6 = .int .i64 (-(2 ^ k : Int))) (fun _ v7 => 31 - (intOf v7).toNat)
  case atStart => exact ⟨0, by omega, rfl, rfl⟩
  case round =>
  obtain ⟨k, hk, rfl, rfl⟩ := hrel
  by_cases hlt : k < 31
  · have ht := Lib.hid (twice hlt (by omega))
    go_wp2
    go_round
    case rel => exact ⟨k + 1, by omega, by go_num, by rw [ht.out]⟩
    case measure => simp [intOf]; omega
  · have e : k = 31 := by omega
    subst e
    go_wp2
    go_returns
    exact ⟨rfl, by repeat (first | exact Below.refl _ _ | apply b_alloc | apply b_reg)⟩
set_option maxHeartbeats 2000000 in
set_option maxRecDepth 20000 in
theorem rRange_8 (w : World) : Calls Tryd.prog 15 #[.agg #[.int .i64 8, .bool true]] w fun e w' => e = .returned (.tuple #[.int .i64 (-9223372036854775808), .int .i64 9223372036854775807, .int .i64 0]) ∧ Below w.heap.size w w' := by
  go_enter Tryd.func15, Tryd.ntmps15
  go_wp2_with (go_at_call 25; refine (rCheck_c _ _ _ rfl).mono ?_; rintro e w' ⟨rfl, hq⟩; (first | obtain ⟨p, rfl⟩ := regrown2 hq | obtain ⟨p, rfl⟩ := regrown hq); clear hq)
  go_loop [6, 7] (fun v6 v7 => ∃ k : Nat, k ≤ 63 ∧ v7 = .int .i64 k ∧ v6 = .int .i64 (-(2 ^ k : Int))) (fun _ v7 => 63 - (intOf v7).toNat)
  case atStart => exact ⟨0, by omega, rfl, rfl⟩
  case round =>
  obtain ⟨k, hk, rfl, rfl⟩ := hrel
  by_cases hlt : k < 63
  · have ht := Lib.hid (twice hlt (by omega))
    go_wp2
    go_round
    case rel => exact ⟨k + 1, by omega, by go_num, by rw [ht.out]⟩
    case measure => simp [intOf]; omega
  · have e : k = 63 := by omega
    subst e
    go_wp2
    go_returns
    exact ⟨rfl, by repeat (first | exact Below.refl _ _ | apply b_alloc | apply b_reg)⟩
end Go.Proofs.YtfgmfkiknogdeaaDoor
