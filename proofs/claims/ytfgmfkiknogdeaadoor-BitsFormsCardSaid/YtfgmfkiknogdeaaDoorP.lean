/- WHAT IS PROVED: what bits.Parse returns. CONDITIONS: the string is one that can be. -/
import Derived.Test.YtfgmfkiknogdeaaDoorH
namespace Go.Proofs.YtfgmfkiknogdeaaDoor
open Go Go.RowKit Go.QrBits
attribute [local go_sem] reg_cell reg_frozen reg_setCell reg_lt reg_lt_add reg_drew reg_of_drew

theorem pat_I64 (neg : Bool) (m : Int) : I64 (pat neg m) := by unfold pat; split <;> exact I64_wrap64 _
/-- The value that Parse finds, before it is compared with the number. -/
def pv (s : Int) (g : Bool) (str : ByteArray) : Int := wr s g (pat (rN str) (rS str))
/-- Is there a value with this number? -/
def pO (s : Int) (g : Bool) (str : ByteArray) : Bool := rO str && ((nmN g (pv s g str) == rN str) && (nmS g (pv s g str) == rS str))

set_option maxHeartbeats 1000000 in
set_option maxRecDepth 100000 in
theorem Parse_no (s : Int) (g : Bool) (str : ByteArray) (w : World) (h : vB s = false) :
    Calls Tryd.prog 38 #[.agg #[.int .i64 s, .bool g], .string str] w fun e w' => e = .returned (.tuple #[.int .i64 0, .int .i64 10]) ∧ Below w.heap.size w w' := by
  go_enter Tryd.func38, Tryd.ntmps38
  go_wp2_with (go_at_call 44; refine (valid_c _ _ _).mono ?_; rintro e w' ⟨rfl, hq⟩; (first | obtain ⟨p, rfl⟩ := regrown2 hq | obtain ⟨p, rfl⟩ := regrown hq); clear hq)
  go_returns
  exact ⟨rfl, by repeat (first | exact Below.refl _ _ | apply b_alloc | apply b_reg)⟩
set_option maxHeartbeats 1000000 in
set_option maxRecDepth 100000 in
theorem Parse_bad (s : Int) (g : Bool) (str : ByteArray) (w : World) (h : vB s = true) (hs : str.size ≤ maxLen) (ho : rO str = false) :
    Calls Tryd.prog 38 #[.agg #[.int .i64 s, .bool g], .string str] w fun e w' => e = .returned (.tuple #[.int .i64 0, .int .i64 13]) ∧ Below w.heap.size w w' := by
  go_enter Tryd.func38, Tryd.ntmps38
  go_wp2_with (first
    | (go_at_call 44; refine (valid_c _ _ _).mono ?_; rintro e w' ⟨rfl, hq⟩; (first | obtain ⟨p, rfl⟩ := regrown2 hq | obtain ⟨p, rfl⟩ := regrown hq); clear hq)
    | (go_at_call 67; refine (read_c _ _ hs).mono ?_; rintro e w' ⟨rfl, hq⟩; (first | obtain ⟨p, rfl⟩ := regrown2 hq | obtain ⟨p, rfl⟩ := regrown hq); clear hq))
  go_returns
  exact ⟨rfl, by repeat (first | exact Below.refl _ _ | apply b_alloc | apply b_reg)⟩

set_option maxHeartbeats 1000000 in
set_option maxRecDepth 100000 in
theorem Parse_n1 (s : Int) (g : Bool) (str : ByteArray) (w : World) (h : vB s = true) (hs : str.size ≤ maxLen) (ho : rO str = true) (h1 : (nmN g (wr s g (pat (rN str) (rS str))) == rN str) = false) :
    Calls Tryd.prog 38 #[.agg #[.int .i64 s, .bool g], .string str] w fun e w' => e = .returned (.tuple #[.int .i64 0, .int .i64 13]) ∧ Below w.heap.size w w' := by
  have hpt := pat_I64 (rN str) (rS str)
  have hpv : I64 (wr s g (pat (rN str) (rS str))) := wr_I64 h hpt
  go_enter Tryd.func38, Tryd.ntmps38
  go_wp2_with (first
    | (go_at_call 44; refine (valid_c _ _ _).mono ?_; rintro e w' ⟨rfl, hq⟩; (first | obtain ⟨p, rfl⟩ := regrown2 hq | obtain ⟨p, rfl⟩ := regrown hq); clear hq)
    | (go_at_call 67; refine (read_c _ _ hs).mono ?_; rintro e w' ⟨rfl, hq⟩; (first | obtain ⟨p, rfl⟩ := regrown2 hq | obtain ⟨p, rfl⟩ := regrown hq); clear hq))
  with_reducible refine wp_quiet (by kernel_rfl) (by kernel_rfl) ?_
  repeat (quiet_step ((first
    | (go_at_call 68; exact reg_call (pattern_c _ _ _))
    | (go_at_call 45; exact reg_call (wrap_c _ _ _ _ (by assumption) (by assumption))))))
  refine wpQuiet_nil ?_
  intro _ hw'; obtain ⟨p, rfl⟩ := hw'
  go_wp2_with fail
  with_reducible refine wp_quietR (by kernel_rfl) (by kernel_rfl) ?_
  repeat (quiet_step ((go_at_call 65; exact reg_call (numberOf_c _ _ _ _ (by assumption)))))
  refine wpQuiet_nil ?_
  intro _ hw'; obtain ⟨p, rfl⟩ := hw'
  go_wp2
  go_returns
  exact ⟨rfl, by repeat (first | exact Below.refl _ _ | apply b_alloc | apply b_reg)⟩
set_option maxHeartbeats 1000000 in
set_option maxRecDepth 100000 in
theorem Parse_n2 (s : Int) (g : Bool) (str : ByteArray) (w : World) (h : vB s = true) (hs : str.size ≤ maxLen) (ho : rO str = true) (h1 : (nmN g (wr s g (pat (rN str) (rS str))) == rN str) = true) (h2 : (nmS g (wr s g (pat (rN str) (rS str))) == rS str) = false) :
    Calls Tryd.prog 38 #[.agg #[.int .i64 s, .bool g], .string str] w fun e w' => e = .returned (.tuple #[.int .i64 0, .int .i64 13]) ∧ Below w.heap.size w w' := by
  have hpt := pat_I64 (rN str) (rS str)
  have hpv : I64 (wr s g (pat (rN str) (rS str))) := wr_I64 h hpt
  go_enter Tryd.func38, Tryd.ntmps38
  go_wp2_with (first
    | (go_at_call 44; refine (valid_c _ _ _).mono ?_; rintro e w' ⟨rfl, hq⟩; (first | obtain ⟨p, rfl⟩ := regrown2 hq | obtain ⟨p, rfl⟩ := regrown hq); clear hq)
    | (go_at_call 67; refine (read_c _ _ hs).mono ?_; rintro e w' ⟨rfl, hq⟩; (first | obtain ⟨p, rfl⟩ := regrown2 hq | obtain ⟨p, rfl⟩ := regrown hq); clear hq))
  with_reducible refine wp_quiet (by kernel_rfl) (by kernel_rfl) ?_
  repeat (quiet_step ((first
    | (go_at_call 68; exact reg_call (pattern_c _ _ _))
    | (go_at_call 45; exact reg_call (wrap_c _ _ _ _ (by assumption) (by assumption))))))
  refine wpQuiet_nil ?_
  intro _ hw'; obtain ⟨p, rfl⟩ := hw'
  go_wp2_with fail
  with_reducible refine wp_quietR (by kernel_rfl) (by kernel_rfl) ?_
  repeat (quiet_step ((go_at_call 65; exact reg_call (numberOf_c _ _ _ _ (by assumption)))))
  refine wpQuiet_nil ?_
  intro _ hw'; obtain ⟨p, rfl⟩ := hw'
  go_wp2
  go_returns
  exact ⟨rfl, by repeat (first | exact Below.refl _ _ | apply b_alloc | apply b_reg)⟩
set_option maxHeartbeats 1000000 in
set_option maxRecDepth 100000 in
theorem Parse_y (s : Int) (g : Bool) (str : ByteArray) (w : World) (h : vB s = true) (hs : str.size ≤ maxLen) (ho : rO str = true) (h1 : (nmN g (wr s g (pat (rN str) (rS str))) == rN str) = true) (h2 : (nmS g (wr s g (pat (rN str) (rS str))) == rS str) = true) :
    Calls Tryd.prog 38 #[.agg #[.int .i64 s, .bool g], .string str] w fun e w' => e = .returned (.tuple #[.int .i64 (wr s g (pat (rN str) (rS str))), .int .i64 0]) ∧ Below w.heap.size w w' := by
  have hpt := pat_I64 (rN str) (rS str)
  have hpv : I64 (wr s g (pat (rN str) (rS str))) := wr_I64 h hpt
  go_enter Tryd.func38, Tryd.ntmps38
  go_wp2_with (first
    | (go_at_call 44; refine (valid_c _ _ _).mono ?_; rintro e w' ⟨rfl, hq⟩; (first | obtain ⟨p, rfl⟩ := regrown2 hq | obtain ⟨p, rfl⟩ := regrown hq); clear hq)
    | (go_at_call 67; refine (read_c _ _ hs).mono ?_; rintro e w' ⟨rfl, hq⟩; (first | obtain ⟨p, rfl⟩ := regrown2 hq | obtain ⟨p, rfl⟩ := regrown hq); clear hq))
  with_reducible refine wp_quiet (by kernel_rfl) (by kernel_rfl) ?_
  repeat (quiet_step ((first
    | (go_at_call 68; exact reg_call (pattern_c _ _ _))
    | (go_at_call 45; exact reg_call (wrap_c _ _ _ _ (by assumption) (by assumption))))))
  refine wpQuiet_nil ?_
  intro _ hw'; obtain ⟨p, rfl⟩ := hw'
  go_wp2_with fail
  with_reducible refine wp_quietR (by kernel_rfl) (by kernel_rfl) ?_
  repeat (quiet_step ((go_at_call 65; exact reg_call (numberOf_c _ _ _ _ (by assumption)))))
  refine wpQuiet_nil ?_
  intro _ hw'; obtain ⟨p, rfl⟩ := hw'
  go_wp2
  go_returns
  exact ⟨rfl, by repeat (first | exact Below.refl _ _ | apply b_alloc | apply b_reg)⟩

/-- What Parse returns. -/
def pV (s : Int) (g : Bool) (str : ByteArray) : Int := if pO s g str then pv s g str else 0
def pE (s : Int) (g : Bool) (str : ByteArray) : Int := if pO s g str then 0 else 13
theorem Parse_c (s : Int) (g : Bool) (str : ByteArray) (w : World) (h : vB s = true) (hs : str.size ≤ maxLen) :
    Calls Tryd.prog 38 #[.agg #[.int .i64 s, .bool g], .string str] w fun e w' => e = .returned (.tuple #[.int .i64 (pV s g str), .int .i64 (pE s g str)]) ∧ Below w.heap.size w w' := by
  have no : pO s g str = false → pV s g str = 0 ∧ pE s g str = 13 := fun e => by simp [pV, pE, e]
  cases ho : rO str
  · obtain ⟨e1, e2⟩ := no (by unfold pO; rw [ho]; rfl)
    rw [e1, e2]; exact Parse_bad s g str w h hs ho
  · cases h1 : (nmN g (pv s g str) == rN str)
    · obtain ⟨e1, e2⟩ := no (by unfold pO; rw [ho, h1]; rfl)
      rw [e1, e2]; exact Parse_n1 s g str w h hs ho h1
    · cases h2 : (nmS g (pv s g str) == rS str)
      · obtain ⟨e1, e2⟩ := no (by unfold pO; rw [ho, h1, h2]; rfl)
        rw [e1, e2]; exact Parse_n2 s g str w h hs ho h1 h2
      · have e : pO s g str = true := by unfold pO; rw [ho, h1, h2]; rfl
        rw [show pV s g str = pv s g str by simp [pV, e], show pE s g str = 0 by simp [pE, e]]
        exact Parse_y s g str w h hs ho h1 h2
end Go.Proofs.YtfgmfkiknogdeaaDoor
