/- WHAT IS PROVED: contracts of the small functions of package bits (valid, width, wrap, promoted, count, order, truth ..) for every argument. CONDITIONS: a value is an int64; the package variable 'plain' holds the signed type of 4 bytes. -/
import Derived.Test.YtfgmfkiknogdeaaDoorChecked
import Derived.Test.YtfgmfkiknogdeaaDoorQr
import Derived.Handy
import Derived.PlainAid
import Derived.WalkSpells
import Derived.WalkLawsBesides
import Derived.Lib.Hide
import Derived.BigQuiet
namespace Go.Proofs.YtfgmfkiknogdeaaDoor
open Go Go.RowKit Go.QrBits

/-- Is the size that of an integer type? -/
def vB (s : Int) : Bool := s == 1 || s == 2 || s == 4 || s == 8
theorem vB_cases {s : Int} (h : vB s = true) : s = 1 ∨ s = 2 ∨ s = 4 ∨ s = 8 := by
  simp [vB] at h; rcases h with ((h | h) | h) | h <;> simp [h]
/-- An int64. -/
def I64 (v : Int) : Prop := -9223372036854775808 ≤ v ∧ v ≤ 9223372036854775807

/-- A number wrapped to the type of size s and sign g. -/
def wr (s : Int) (g : Bool) (v : Int) : Int :=
  if s = 1 then (if g then (v + 128) % 256 - 128 else v % 256)
  else if s = 2 then (if g then (v + 32768) % 65536 - 32768 else v % 65536)
  else if s = 4 then (if g then (v + 2147483648) % 4294967296 - 2147483648 else v % 4294967296)
  else v
/-- The promoted type. -/
def pS (s : Int) : Int := if s < 4 then 4 else s
def pG (s : Int) (g : Bool) : Bool := if s < 4 then true else g
/-- Is the first of two types the common one? -/
def cF (s1 : Int) (g1 : Bool) (s2 : Int) : Bool := decide (pS s2 < pS s1) || (pS s1 == pS s2 && !pG s1 g1)
def cS (s1 : Int) (g1 : Bool) (s2 : Int) : Int := if cF s1 g1 s2 then pS s1 else pS s2
def cG (s1 : Int) (g1 : Bool) (s2 : Int) (g2 : Bool) : Bool := if cF s1 g1 s2 then pG s1 g1 else pG s2 g2

theorem wr_I64 {s : Int} {g : Bool} {v : Int} (h : vB s = true) (hv : I64 v) : I64 (wr s g v) := by
  unfold I64 at *
  rcases vB_cases h with rfl | rfl | rfl | rfl <;> cases g <;> simp only [wr] <;> simp <;> omega

theorem ret_int {k : IntKind} {a b : Int} (h : a = b) : Ending.returned (.int k a) = .returned (.int k b) := by rw [h]
theorem i8_eq (v : Int) : IntKind.i8.wrap v = (v + 128) % 256 - 128 := by simp [IntKind.wrap, IntKind.bits, IntKind.signed]; omega
theorem i16_eq (v : Int) : IntKind.i16.wrap v = (v + 32768) % 65536 - 32768 := by simp [IntKind.wrap, IntKind.bits, IntKind.signed]; omega
theorem u64_eq (v : Int) : IntKind.u64.wrap v = v % 18446744073709551616 := by rw [IntKind.wrap_u64]
theorem w64_in {v : Int} (h : I64 v) : wrap64 v = v := IntWalk.wrap64_in _ h

theorem w64_i8 (v : Int) : wrap64 (IntKind.i8.wrap v) = (v + 128) % 256 - 128 := by rw [i8_eq]; exact IntWalk.wrap64_in _ ⟨by omega, by omega⟩
theorem w64_i16 (v : Int) : wrap64 (IntKind.i16.wrap v) = (v + 32768) % 65536 - 32768 := by rw [i16_eq]; exact IntWalk.wrap64_in _ ⟨by omega, by omega⟩
theorem w64_u16 (v : Int) : wrap64 (IntKind.u16.wrap v) = v % 65536 := by rw [IntKind.wrap_u16]; exact IntWalk.wrap64_in _ ⟨by omega, by omega⟩
theorem w64_w32 (v : Int) : wrap64 (wrap32 v) = (v + 2147483648) % 4294967296 - 2147483648 := by unfold wrap32; exact IntWalk.wrap64_in _ ⟨by omega, by omega⟩
theorem w64_u64 {v : Int} (h : I64 v) : wrap64 (IntKind.u64.wrap v) = v := by
  unfold I64 at h; rw [u64_eq]; unfold wrap64; omega

/-- What the package variable 'plain' holds. -/
def PlainAt (w : World) : Prop := w.cell? ⟨0, 0, none⟩ = some (.int .i64 4) ∧ w.cell? ⟨0, 1, none⟩ = some (.bool true) ∧ 0 < w.heap.size
theorem PlainAt.below {w w' : World} (h : PlainAt w) (hb : Below w.heap.size w w') : PlainAt w' :=
  ⟨by rw [below_cell hb 0 0 h.2.2]; exact h.1, by rw [below_cell hb 0 1 h.2.2]; exact h.2.1, Nat.lt_of_lt_of_le h.2.2 hb.size⟩

set_option maxHeartbeats 400000 in
theorem valid_c (s : Int) (g : Bool) (w : World) :
    Calls Tryd.prog 44 #[.agg #[.int .i64 s, .bool g]] w fun e w' => e = .returned (.bool (vB s)) ∧ Below w.heap.size w w' := by
  by_cases h1 : s = 1
  · subst h1; go_enter Tryd.func44, Tryd.ntmps44; go_wp2; go_ret; exact ⟨rfl, by go_grown⟩
  by_cases h2 : s = 2
  · subst h2; go_enter Tryd.func44, Tryd.ntmps44; go_wp2; go_ret; exact ⟨rfl, by go_grown⟩
  by_cases h4 : s = 4
  · subst h4; go_enter Tryd.func44, Tryd.ntmps44; go_wp2; go_ret; exact ⟨rfl, by go_grown⟩
  by_cases h8 : s = 8
  · subst h8; go_enter Tryd.func44, Tryd.ntmps44; go_wp2; go_ret; exact ⟨rfl, by go_grown⟩
  have e : vB s = false := by simp [vB, *]
  rw [e]
  have h1 := beq_eq_false_iff_ne.2 h1
  have h2 := beq_eq_false_iff_ne.2 h2
  have h4 := beq_eq_false_iff_ne.2 h4
  have h8 := beq_eq_false_iff_ne.2 h8
  clear e
  go_enter Tryd.func44, Tryd.ntmps44; go_wp2; go_ret; exact ⟨rfl, by go_grown⟩

theorem width_c (s : Int) (g : Bool) (w : World) (h : vB s = true) :
    Calls Tryd.prog 46 #[.agg #[.int .i64 s, .bool g]] w fun e w' => e = .returned (.int .u64 (8 * s)) ∧ Below w.heap.size w w' := by
  rcases vB_cases h with rfl | rfl | rfl | rfl
  all_goals (go_enter Tryd.func46, Tryd.ntmps46; go_wp2; go_ret; exact ⟨rfl, by go_grown⟩)

theorem through_i8 (v : Int) (w : World) : Calls Tryd.prog 70 #[.int .i64 v] w fun e w' => e = .returned (.int .i64 ((v + 128) % 256 - 128)) ∧ Below w.heap.size w w' := by
  go_enter Tryd.func70, Tryd.ntmps70; go_wp2; go_ret; exact ⟨ret_int (w64_i8 v), by go_grown⟩
theorem through_u8 (v : Int) (w : World) : Calls Tryd.prog 71 #[.int .i64 v] w fun e w' => e = .returned (.int .i64 (v % 256)) ∧ Below w.heap.size w w' := by
  go_enter Tryd.func71, Tryd.ntmps71; go_wp2; go_ret; exact ⟨rfl, by go_grown⟩
theorem through_i16 (v : Int) (w : World) : Calls Tryd.prog 72 #[.int .i64 v] w fun e w' => e = .returned (.int .i64 ((v + 32768) % 65536 - 32768)) ∧ Below w.heap.size w w' := by
  go_enter Tryd.func72, Tryd.ntmps72; go_wp2; go_ret; exact ⟨ret_int (w64_i16 v), by go_grown⟩
theorem through_u16 (v : Int) (w : World) : Calls Tryd.prog 73 #[.int .i64 v] w fun e w' => e = .returned (.int .i64 (v % 65536)) ∧ Below w.heap.size w w' := by
  go_enter Tryd.func73, Tryd.ntmps73; go_wp2; go_ret; exact ⟨ret_int (w64_u16 v), by go_grown⟩
theorem through_i32 (v : Int) (w : World) : Calls Tryd.prog 74 #[.int .i64 v] w fun e w' => e = .returned (.int .i64 ((v + 2147483648) % 4294967296 - 2147483648)) ∧ Below w.heap.size w w' := by
  go_enter Tryd.func74, Tryd.ntmps74; go_wp2; go_ret; exact ⟨ret_int (w64_w32 v), by go_grown⟩
theorem through_u32 (v : Int) (w : World) : Calls Tryd.prog 75 #[.int .i64 v] w fun e w' => e = .returned (.int .i64 (v % 4294967296)) ∧ Below w.heap.size w w' := by
  go_enter Tryd.func75, Tryd.ntmps75; go_wp2; go_ret; exact ⟨rfl, by go_grown⟩
theorem through_i64 (v : Int) (w : World) : Calls Tryd.prog 76 #[.int .i64 v] w fun e w' => e = .returned (.int .i64 v) ∧ Below w.heap.size w w' := by
  go_enter Tryd.func76, Tryd.ntmps76; go_wp2; go_ret; exact ⟨rfl, by go_grown⟩
theorem through_u64 (v : Int) (w : World) (hv : I64 v) : Calls Tryd.prog 77 #[.int .i64 v] w fun e w' => e = .returned (.int .i64 v) ∧ Below w.heap.size w w' := by
  go_enter Tryd.func77, Tryd.ntmps77; go_wp2; go_ret; exact ⟨ret_int (w64_u64 hv), by go_grown⟩

set_option maxHeartbeats 2000000 in
theorem wrap_c (s : Int) (g : Bool) (v : Int) (w : World) (h : vB s = true) (hv : I64 v) :
    Calls Tryd.prog 45 #[.agg #[.int .i64 s, .bool g], .int .i64 v] w fun e w' => e = .returned (.int .i64 (wr s g v)) ∧ Below w.heap.size w w' := by
  rcases vB_cases h with rfl | rfl | rfl | rfl
  all_goals clear h
  all_goals cases g
  all_goals
    go_enter Tryd.func45, Tryd.ntmps45
    go_wp2_with (first
      | (go_at_call 70; refine (through_i8 _ _).mono ?_; rintro e w' ⟨rfl, hb⟩)
      | (go_at_call 71; refine (through_u8 _ _).mono ?_; rintro e w' ⟨rfl, hb⟩)
      | (go_at_call 72; refine (through_i16 _ _).mono ?_; rintro e w' ⟨rfl, hb⟩)
      | (go_at_call 73; refine (through_u16 _ _).mono ?_; rintro e w' ⟨rfl, hb⟩)
      | (go_at_call 74; refine (through_i32 _ _).mono ?_; rintro e w' ⟨rfl, hb⟩)
      | (go_at_call 75; refine (through_u32 _ _).mono ?_; rintro e w' ⟨rfl, hb⟩)
      | (go_at_call 76; refine (through_i64 _ _).mono ?_; rintro e w' ⟨rfl, hb⟩)
      | (go_at_call 77; refine (through_u64 _ _ hv).mono ?_; rintro e w' ⟨rfl, hb⟩))
    go_ret
    exact ⟨rfl, Below.tail (by go_grown) hb⟩

theorem promoted_c (s : Int) (g : Bool) (w : World) (hp : PlainAt w) :
    Calls Tryd.prog 48 #[.agg #[.int .i64 s, .bool g]] w fun e w' => e = .returned (.agg #[.int .i64 (pS s), .bool (pG s g)]) ∧ Below w.heap.size w w' := by
  obtain ⟨c0, c1, hz⟩ := hp
  by_cases h : s < 4
  · rw [show pS s = 4 by simp [pS, h], show pG s g = true by simp [pG, h]]
    go_enter Tryd.func48, Tryd.ntmps48
    go_wp2
    go_returns
    exact ⟨rfl, by go_grown⟩
  · rw [show pS s = s by simp [pS, h], show pG s g = g by simp [pG, h]]
    go_enter Tryd.func48, Tryd.ntmps48
    go_wp2
    go_returns
    exact ⟨rfl, by go_grown⟩
end Go.Proofs.YtfgmfkiknogdeaaDoor
