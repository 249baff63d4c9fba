/- WHAT IS PROVED: the common type of two types, as package bits finds it. CONDITIONS: the package variable 'plain' holds the signed type of 4 bytes. -/
import Derived.Test.YtfgmfkiknogdeaaDoorA
namespace Go.Proofs.YtfgmfkiknogdeaaDoor
open Go Go.RowKit Go.QrBits
attribute [local go_sem] reg_cell reg_frozen reg_setCell reg_lt reg_lt_add reg_reg reg_drew reg_of_drew


theorem cF_1 {s1 : Int} {g1 : Bool} {s2 : Int} (h : pS s2 < pS s1) : cF s1 g1 s2 = true := by simp [cF, h]
theorem cF_2 {s1 : Int} {g1 : Bool} {s2 : Int} (h : ¬ pS s2 < pS s1) (h2 : ¬ pS s1 = pS s2) : cF s1 g1 s2 = false := by simp [cF, h2]; omega
theorem cF_3 {s1 : Int} {g1 : Bool} {s2 : Int} (h2 : pS s1 = pS s2) : cF s1 g1 s2 = !pG s1 g1 := by simp [cF, h2]

set_option maxHeartbeats 1000000 in
theorem common_c (s1 : Int) (g1 : Bool) (s2 : Int) (g2 : Bool) (w : World) (hp : PlainAt w) :
    Calls Tryd.prog 50 #[.agg #[.int .i64 s1, .bool g1], .agg #[.int .i64 s2, .bool g2]] w fun e w' => e = .returned (.agg #[.int .i64 (cS s1 g1 s2), .bool (cG s1 g1 s2 g2)]) ∧ Below w.heap.size w w' := by
  by_cases h1 : pS s2 < pS s1
  · have hS : cS s1 g1 s2 = pS s1 := by simp [cS, cF_1 h1]
    have hG : cG s1 g1 s2 g2 = pG s1 g1 := by simp [cG, cF_1 h1]
    rw [hS, hG]; clear hS hG
    go_enter Tryd.func50, Tryd.ntmps50
    go_wp2_with fail
    refine wp_quiet_tail 4 (by kernel_rfl) (by kernel_rfl) ?_
    simp only [List.take_succ_cons, List.take_zero, List.drop_succ_cons, List.drop_zero]
    repeat (quiet_step ((first | (go_at_call 48; exact reg_call (promoted_c _ _ _ (hp.below (Below.tail (by go_grown) (below_reg _ _))))))))
    refine wpQuiet_nil ?_
    intro _ hw'; obtain ⟨p, rfl⟩ := hw'
    go_wp2
    go_returns
    exact ⟨rfl, by repeat (first | exact Below.refl _ _ | apply b_alloc | apply b_reg)⟩
  by_cases h2 : pS s1 = pS s2
  · have hS : cS s1 g1 s2 = pS s1 := by simp [cS, h2]
    have hG : cG s1 g1 s2 g2 = if pG s1 g1 = true then pG s2 g2 else false := by simp only [cG, cF_3 h2]; cases pG s1 g1 <;> simp
    rw [hS, hG]; clear hS hG
    have h3 : (pS s1 == pS s2) = true := by simp [h2]
    have h4 : decide (pS s2 < pS s1) = false := by simp [h1]
    rcases hg : pG s1 g1 with _ | _
    all_goals
      go_enter Tryd.func50, Tryd.ntmps50
      go_wp2_with fail
      refine wp_quiet_tail 4 (by kernel_rfl) (by kernel_rfl) ?_
      simp only [List.take_succ_cons, List.take_zero, List.drop_succ_cons, List.drop_zero]
      repeat (quiet_step ((first | (go_at_call 48; exact reg_call (promoted_c _ _ _ (hp.below (Below.tail (by go_grown) (below_reg _ _))))))))
      refine wpQuiet_nil ?_
      intro _ hw'; obtain ⟨p, rfl⟩ := hw'
      go_wp2
      go_returns
      exact ⟨rfl, by repeat (first | exact Below.refl _ _ | apply b_alloc | apply b_reg)⟩
  · have hS : cS s1 g1 s2 = pS s2 := by simp [cS, cF_2 h1 h2]
    have hG : cG s1 g1 s2 g2 = pG s2 g2 := by simp [cG, cF_2 h1 h2]
    rw [hS, hG]; clear hS hG
    have h3 : (pS s1 == pS s2) = false := by simp [h2]
    have h4 : decide (pS s2 < pS s1) = false := by simp [h1]
    go_enter Tryd.func50, Tryd.ntmps50
    go_wp2_with fail
    refine wp_quiet_tail 4 (by kernel_rfl) (by kernel_rfl) ?_
    simp only [List.take_succ_cons, List.take_zero, List.drop_succ_cons, List.drop_zero]
    repeat (quiet_step ((first | (go_at_call 48; exact reg_call (promoted_c _ _ _ (hp.below (Below.tail (by go_grown) (below_reg _ _))))))))
    refine wpQuiet_nil ?_
    intro _ hw'; obtain ⟨p, rfl⟩ := hw'
    go_wp2
    go_returns
    exact ⟨rfl, by repeat (first | exact Below.refl _ _ | apply b_alloc | apply b_reg)⟩
end Go.Proofs.YtfgmfkiknogdeaaDoor
