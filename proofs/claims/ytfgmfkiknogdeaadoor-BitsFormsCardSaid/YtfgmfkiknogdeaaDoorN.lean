/- WHAT IS PROVED: the number of a value, its text, the pattern of a number, and a digit's value. CONDITIONS: int64 values; valid types for a text. -/
import Derived.Test.YtfgmfkiknogdeaaDoorD
import Derived.Test.YtfgmfkiknogdeaaDoorT
namespace Go.Proofs.YtfgmfkiknogdeaaDoor
open Go Go.RowKit Go.QrBits
attribute [local go_sem] reg_cell reg_frozen reg_setCell reg_lt reg_lt_add reg_drew reg_of_drew

/-- Is the number of a value negative? And its size. -/
def nmN (g : Bool) (v : Int) : Bool := g && decide (v < 0)
def nmS (g : Bool) (v : Int) : Int := if nmN g v then -v else uN v
theorem nmS_bd {g : Bool} {v : Int} (hv : I64 v) : 0 ≤ nmS g v ∧ nmS g v ≤ 18446744073709551615 := by
  unfold nmS nmN I64 uN at *; split
  · rename_i h; simp at h; omega
  · omega
def pat (neg : Bool) (m : Int) : Int := if neg then wrap64 (-(wrap64 m)) else wrap64 m

set_option maxHeartbeats 1000000 in
set_option maxRecDepth 20000 in
theorem numberOf_c (s : Int) (g : Bool) (v : Int) (w : World) (hv : I64 v) : Calls Tryd.prog 65 #[.agg #[.int .i64 s, .bool g], .int .i64 v] w fun e w' => e = .returned (.agg #[.bool (nmN g v), .int .u64 (nmS g v)]) ∧ Below w.heap.size w w' := by
  cases g
  · have e1 : nmN false v = false := rfl
    have e2 : nmS false v = IntKind.u64.wrap v := by rw [u64_uN]; rfl
    rw [e1, e2]; clear e1 e2
    go_enter Tryd.func65, Tryd.ntmps65
    go_wp2
    go_returns
    exact ⟨rfl, by go_grown⟩
  · by_cases h : v < 0
    · have e1 : nmN true v = true := by simp [nmN, h]
      have e2 : nmS true v = IntKind.u64.wrap (-(IntKind.u64.wrap v)) := by
        unfold nmS; rw [e1, IntKind.wrap_u64, IntKind.wrap_u64]; unfold I64 at hv; simp; omega
      have hd : decide (v < 0) = true := by simp [h]
      rw [e1, e2]; clear e1 e2
      go_enter Tryd.func65, Tryd.ntmps65
      go_wp2
      go_returns
      exact ⟨rfl, by go_grown⟩
    · have e1 : nmN true v = false := by simp [nmN]; omega
      have e2 : nmS true v = IntKind.u64.wrap v := by unfold nmS; rw [e1, u64_uN]; rfl
      have hd : decide (v < 0) = false := by simp [h]
      rw [e1, e2]; clear e1 e2
      go_enter Tryd.func65, Tryd.ntmps65
      go_wp2
      go_returns
      exact ⟨rfl, by go_grown⟩

theorem text_c' (neg : Bool) (m : Int) (w : World) (h0 : 0 ≤ m) (hm : m ≤ 18446744073709551615) :
    Calls Tryd.prog 64 #[.agg #[.bool neg, .int .u64 m]] w fun e w' => e = .returned (.string (strOf (txL neg m.toNat))) ∧ Below w.heap.size w w' := by
  have := text_c neg m.toNat w (by omega)
  rwa [Int.toNat_of_nonneg h0] at this

/-- The text of a value. -/
def txV (s : Int) (g : Bool) (v : Int) : ByteArray := strOf (txL (nmN g (wr s g v)) (nmS g (wr s g v)).toNat)

set_option maxHeartbeats 1000000 in
set_option maxRecDepth 20000 in
theorem Text_c (s : Int) (g : Bool) (v : Int) (w : World) (h : vB s = true) (hv : I64 v) : Calls Tryd.prog 36 #[.agg #[.int .i64 s, .bool g], .int .i64 v] w fun e w' => e = .returned (.tuple #[.string (txV s g v), .int .i64 0]) ∧ Below w.heap.size w w' := by
  have hv1 := wr_I64 (g := g) h hv
  have hb := nmS_bd (g := g) hv1
  obtain ⟨b1, b2⟩ := hb
  have B1 := Lib.hid b1; have B2 := Lib.hid b2; clear b1 b2
  go_enter Tryd.func36, Tryd.ntmps36
  go_wp2_with (go_at_call 44; refine (valid_c _ _ _).mono ?_; rintro e w' ⟨rfl, hq⟩; (first | obtain ⟨p, rfl⟩ := regrown2 hq | obtain ⟨p, rfl⟩ := regrown hq); clear hq)
  with_reducible refine wp_quietR (by kernel_rfl) (by kernel_rfl) ?_
  repeat (quiet_step ((first
    | (go_at_call 45; exact reg_call (wrap_c _ _ _ _ (by assumption) (by assumption)))
    | (go_at_call 65; exact reg_call (numberOf_c _ _ _ _ (by assumption)))
    | (go_at_call 64; exact reg_call (text_c' _ _ _ B1.out B2.out)))))
  refine wpQuiet_nil ?_
  intro _ hw'; obtain ⟨p, rfl⟩ := hw'
  go_wp2
  go_returns
  exact ⟨rfl, by repeat (first | exact Below.refl _ _ | apply b_alloc | apply b_reg)⟩
set_option maxHeartbeats 1000000 in
theorem Text_no (s : Int) (g : Bool) (v : Int) (w : World) (h : vB s = false) : Calls Tryd.prog 36 #[.agg #[.int .i64 s, .bool g], .int .i64 v] w fun e w' => e = .returned (.tuple #[.string ByteArray.empty, .int .i64 10]) ∧ Below w.heap.size w w' := by
  go_enter Tryd.func36, Tryd.ntmps36
  go_wp2_with (go_at_call 44; refine (valid_c _ _ _).mono ?_; rintro e w' ⟨rfl, hq⟩; (first | obtain ⟨p, rfl⟩ := regrown2 hq | obtain ⟨p, rfl⟩ := regrown hq); clear hq)
  go_returns
  exact ⟨rfl, by repeat (first | exact Below.refl _ _ | apply b_alloc | apply b_reg)⟩

theorem pattern_c (neg : Bool) (m : Int) (w : World) : Calls Tryd.prog 68 #[.agg #[.bool neg, .int .u64 m]] w fun e w' => e = .returned (.int .i64 (pat neg m)) ∧ Below w.heap.size w w' := by
  cases neg
  · rw [show pat false m = wrap64 m from rfl]
    go_enter Tryd.func68, Tryd.ntmps68; go_wp2; go_ret; exact ⟨rfl, by go_grown⟩
  · rw [show pat true m = wrap64 (-(wrap64 m)) from rfl]
    go_enter Tryd.func68, Tryd.ntmps68; go_wp2; go_ret; exact ⟨rfl, by go_grown⟩

def dOk (c : Int) : Bool := (decide (48 ≤ c) && decide (c ≤ 57)) || (decide (97 ≤ c) && decide (c ≤ 102)) || (decide (65 ≤ c) && decide (c ≤ 70))
def dV (c : Int) : Int := if 48 ≤ c ∧ c ≤ 57 then c - 48 else if 97 ≤ c ∧ c ≤ 102 then c - 87 else if 65 ≤ c ∧ c ≤ 70 then c - 55 else 0
theorem dV_bd (c : Int) : 0 ≤ dV c ∧ dV c ≤ 15 := by unfold dV; repeat' split
                                                     all_goals omega
set_option maxHeartbeats 1000000 in
theorem digit_c (c : Int) (w : World) (h0 : 0 ≤ c) (h1 : c ≤ 255) : Calls Tryd.prog 108 #[.int .u8 c] w fun e w' => e = .returned (.tuple #[.int .u64 (dV c), .bool (dOk c)]) ∧ Below w.heap.size w w' := by
  by_cases a1 : 48 ≤ c
  · by_cases a2 : c ≤ 57
    · rw [show dV c = c - 48 by simp [dV, a1, a2], show dOk c = true by simp [dOk, a1, a2]]
      go_enter Tryd.func108, Tryd.ntmps108; go_wp2; go_ret2; exact ⟨rfl, by go_grown⟩
    · by_cases a3 : 97 ≤ c
      · by_cases a4 : c ≤ 102
        · rw [show dV c = c - 97 + 10 by simp [dV, a2, a3, a4]; omega, show dOk c = true by simp [dOk, a3, a4]]
          go_enter Tryd.func108, Tryd.ntmps108; go_wp2; go_ret2; exact ⟨rfl, by go_grown⟩
        · rw [show dV c = 0 by simp [dV, a2, a4]; omega, show dOk c = false by simp [dOk, a2, a4]; omega]
          have a5 : 65 ≤ c := by omega
          have a6 : ¬ c ≤ 70 := by omega
          go_enter Tryd.func108, Tryd.ntmps108; go_wp2; go_ret2; exact ⟨rfl, by go_grown⟩
      · by_cases a5 : 65 ≤ c
        · by_cases a6 : c ≤ 70
          · rw [show dV c = c - 65 + 10 by simp [dV, a2, a3, a5, a6]; omega, show dOk c = true by simp [dOk, a5, a6]]
            go_enter Tryd.func108, Tryd.ntmps108; go_wp2; go_ret2; exact ⟨rfl, by go_grown⟩
          · rw [show dV c = 0 by simp [dV, a2, a3, a6], show dOk c = false by simp [dOk, a2, a3, a6]]
            go_enter Tryd.func108, Tryd.ntmps108; go_wp2; go_ret2; exact ⟨rfl, by go_grown⟩
        · rw [show dV c = 0 by simp [dV, a2, a3, a5], show dOk c = false by simp [dOk, a2, a3, a5]]
          go_enter Tryd.func108, Tryd.ntmps108; go_wp2; go_ret2; exact ⟨rfl, by go_grown⟩
  · have a3 : ¬ 97 ≤ c := by omega
    have a5 : ¬ 65 ≤ c := by omega
    rw [show dV c = 0 by simp [dV, a1, a3, a5], show dOk c = false by simp [dOk, a1, a3, a5]]
    go_enter Tryd.func108, Tryd.ntmps108; go_wp2; go_ret2; exact ⟨rfl, by go_grown⟩
end Go.Proofs.YtfgmfkiknogdeaaDoor
