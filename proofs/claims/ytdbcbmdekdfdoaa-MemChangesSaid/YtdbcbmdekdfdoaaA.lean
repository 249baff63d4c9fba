/- WHAT IS PROVED: contracts of the small functions of package bits (valid, width, wrap, promoted, count, order, truth ..) for every argument. CONDITIONS: a value is an int64; the package variable 'plain' holds the signed type of 4 bytes. -/
import Derived.Test.YtdbcbmdekdfdoaaChecked
import Derived.Test.YtdbcbmdekdfdoaaQr
import Derived.Handy
import Derived.PlainAid
import Derived.WalkSpells
import Derived.WalkLawsBesides
import Derived.Lib.Hide
import Derived.BigQuiet
namespace Go.Proofs.Ytdbcbmdekdfdoaa
open Go Go.RowKit Go.QrBits

/-- Is the size that of an integer type? -/
def vB (s : Int) : Bool := s == 1 || s == 2 || s == 4 || s == 8
theorem vB_cases {s : Int} (h : vB s = true) : s = 1 ∨ s = 2 ∨ s = 4 ∨ s = 8 := by
  simp [vB] at h; rcases h with ((h | h) | h) | h <;> simp [h]
/-- An int64. -/
def I64 (v : Int) : Prop := -9223372036854775808 ≤ v ∧ v ≤ 9223372036854775807

/-- A number wrapped to the type of size s and sign g. -/
def wr (s : Int) (g : Bool) (v : Int) : Int :=
  if s = 1 then (if g then (v + 128) % 256 - 128 else v % 256)
  else if s = 2 then (if g then (v + 32768) % 65536 - 32768 else v % 65536)
  else if s = 4 then (if g then (v + 2147483648) % 4294967296 - 2147483648 else v % 4294967296)
  else v
/-- The promoted type. -/
def pS (s : Int) : Int := if s < 4 then 4 else s
def pG (s : Int) (g : Bool) : Bool := if s < 4 then true else g
/-- Is the first of two types the common one? -/
def cF (s1 : Int) (g1 : Bool) (s2 : Int) : Bool := decide (pS s2 < pS s1) || (pS s1 == pS s2 && !pG s1 g1)
def cS (s1 : Int) (g1 : Bool) (s2 : Int) : Int := if cF s1 g1 s2 then pS s1 else pS s2
def cG (s1 : Int) (g1 : Bool) (s2 : Int) (g2 : Bool) : Bool := if cF s1 g1 s2 then pG s1 g1 else pG s2 g2

theorem wr_I64 {s : Int} {g : Bool} {v : Int} (h : vB s = true) (hv : I64 v) : I64 (wr s g v) := by
  unfold I64 at *
  rcases vB_cases h with rfl | rfl | rfl | rfl <;> cases g <;> simp only [wr] <;> simp <;> omega

theorem ret_int {k : IntKind} {a b : Int} (h : a = b) : Ending.returned (.int k a) = .returned (.int k b) := by rw [h]
theorem i8_eq (v : Int) : IntKind.i8.wrap v = (v + 128) % 256 - 128 := by simp [IntKind.wrap, IntKind.bits, IntKind.signed]; omega
theorem i16_eq (v : Int) : IntKind.i16.wrap v = (v + 32768) % 65536 - 32768 := by simp [IntKind.wrap, IntKind.bits, IntKind.signed]; omega
theorem u64_eq (v : Int) : IntKind.u64.wrap v = v % 18446744073709551616 := by rw [IntKind.wrap_u64]
theorem w64_in {v : Int} (h : I64 v) : wrap64 v = v := IntWalk.wrap64_in _ h

theorem w64_i8 (v : Int) : wrap64 (IntKind.i8.wrap v) = (v + 128) % 256 - 128 := by rw [i8_eq]; exact IntWalk.wrap64_in _ ⟨by omega, by omega⟩
theorem w64_i16 (v : Int) : wrap64 (IntKind.i16.wrap v) = (v + 32768) % 65536 - 32768 := by rw [i16_eq]; exact IntWalk.wrap64_in _ ⟨by omega, by omega⟩
theorem w64_u16 (v : Int) : wrap64 (IntKind.u16.wrap v) = v % 65536 := by rw [IntKind.wrap_u16]; exact IntWalk.wrap64_in _ ⟨by omega, by omega⟩
theorem w64_w32 (v : Int) : wrap64 (wrap32 v) = (v + 2147483648) % 4294967296 - 2147483648 := by unfold wrap32; exact IntWalk.wrap64_in _ ⟨by omega, by omega⟩
theorem w64_u64 {v : Int} (h : I64 v) : wrap64 (IntKind.u64.wrap v) = v := by
  unfold I64 at h; rw [u64_eq]; unfold wrap64; omega

/-- What the package variable 'plain' holds. -/
def PlainAt (w : World) : Prop := w.cell? ⟨0, 0, none⟩ = some (.int .i64 4) ∧ w.cell? ⟨0, 1, none⟩ = some (.bool true) ∧ 0 < w.heap.size
theorem PlainAt.below {w w' : World} (h : PlainAt w) (hb : Below w.heap.size w w') : PlainAt w' :=
  ⟨by rw [below_cell hb 0 0 h.2.2]; exact h.1, by rw [below_cell hb 0 1 h.2.2]; exact h.2.1, Nat.lt_of_lt_of_le h.2.2 hb.size⟩

set_option maxHeartbeats 400000 in
theorem valid_c (s : Int) (g : Bool) (w : World) :
    Calls Try.prog 75 #[.agg #[.int .i64 s, .bool g]] w fun e w' => e = .returned (.bool (vB s)) ∧ Below w.heap.size w w' := by
  by_cases h1 : s = 1
  · subst h1; go_enter Try.func75, Try.ntmps75; go_wp2; go_ret; exact ⟨rfl, by go_grown⟩
  by_cases h2 : s = 2
  · subst h2; go_enter Try.func75, Try.ntmps75; go_wp2; go_ret; exact ⟨rfl, by go_grown⟩
  by_cases h4 : s = 4
  · subst h4; go_enter Try.func75, Try.ntmps75; go_wp2; go_ret; exact ⟨rfl, by go_grown⟩
  by_cases h8 : s = 8
  · subst h8; go_enter Try.func75, Try.ntmps75; go_wp2; go_ret; exact ⟨rfl, by go_grown⟩
  have e : vB s = false := by simp [vB, *]
  rw [e]
  have h1 := beq_eq_false_iff_ne.2 h1
  have h2 := beq_eq_false_iff_ne.2 h2
  have h4 := beq_eq_false_iff_ne.2 h4
  have h8 := beq_eq_false_iff_ne.2 h8
  clear e
  go_enter Try.func75, Try.ntmps75; go_wp2; go_ret; exact ⟨rfl, by go_grown⟩

theorem through_i8 (v : Int) (w : World) : Calls Try.prog 83 #[.int .i64 v] w fun e w' => e = .returned (.int .i64 ((v + 128) % 256 - 128)) ∧ Below w.heap.size w w' := by
  go_enter Try.func83, Try.ntmps83; go_wp2; go_ret; exact ⟨ret_int (w64_i8 v), by go_grown⟩
theorem through_u8 (v : Int) (w : World) : Calls Try.prog 84 #[.int .i64 v] w fun e w' => e = .returned (.int .i64 (v % 256)) ∧ Below w.heap.size w w' := by
  go_enter Try.func84, Try.ntmps84; go_wp2; go_ret; exact ⟨rfl, by go_grown⟩
theorem through_i16 (v : Int) (w : World) : Calls Try.prog 85 #[.int .i64 v] w fun e w' => e = .returned (.int .i64 ((v + 32768) % 65536 - 32768)) ∧ Below w.heap.size w w' := by
  go_enter Try.func85, Try.ntmps85; go_wp2; go_ret; exact ⟨ret_int (w64_i16 v), by go_grown⟩
theorem through_u16 (v : Int) (w : World) : Calls Try.prog 86 #[.int .i64 v] w fun e w' => e = .returned (.int .i64 (v % 65536)) ∧ Below w.heap.size w w' := by
  go_enter Try.func86, Try.ntmps86; go_wp2; go_ret; exact ⟨ret_int (w64_u16 v), by go_grown⟩
theorem through_i32 (v : Int) (w : World) : Calls Try.prog 87 #[.int .i64 v] w fun e w' => e = .returned (.int .i64 ((v + 2147483648) % 4294967296 - 2147483648)) ∧ Below w.heap.size w w' := by
  go_enter Try.func87, Try.ntmps87; go_wp2; go_ret; exact ⟨ret_int (w64_w32 v), by go_grown⟩
theorem through_u32 (v : Int) (w : World) : Calls Try.prog 88 #[.int .i64 v] w fun e w' => e = .returned (.int .i64 (v % 4294967296)) ∧ Below w.heap.size w w' := by
  go_enter Try.func88, Try.ntmps88; go_wp2; go_ret; exact ⟨rfl, by go_grown⟩
theorem through_i64 (v : Int) (w : World) : Calls Try.prog 89 #[.int .i64 v] w fun e w' => e = .returned (.int .i64 v) ∧ Below w.heap.size w w' := by
  go_enter Try.func89, Try.ntmps89; go_wp2; go_ret; exact ⟨rfl, by go_grown⟩
theorem through_u64 (v : Int) (w : World) (hv : I64 v) : Calls Try.prog 90 #[.int .i64 v] w fun e w' => e = .returned (.int .i64 v) ∧ Below w.heap.size w w' := by
  go_enter Try.func90, Try.ntmps90; go_wp2; go_ret; exact ⟨ret_int (w64_u64 hv), by go_grown⟩

set_option maxHeartbeats 2000000 in
theorem wrap_c (s : Int) (g : Bool) (v : Int) (w : World) (h : vB s = true) (hv : I64 v) :
    Calls Try.prog 76 #[.agg #[.int .i64 s, .bool g], .int .i64 v] w fun e w' => e = .returned (.int .i64 (wr s g v)) ∧ Below w.heap.size w w' := by
  rcases vB_cases h with rfl | rfl | rfl | rfl
  all_goals clear h
  all_goals cases g
  all_goals
    go_enter Try.func76, Try.ntmps76
    go_wp2_with (first
      | (go_at_call 83; refine (through_i8 _ _).mono ?_; rintro e w' ⟨rfl, hb⟩)
      | (go_at_call 84; refine (through_u8 _ _).mono ?_; rintro e w' ⟨rfl, hb⟩)
      | (go_at_call 85; refine (through_i16 _ _).mono ?_; rintro e w' ⟨rfl, hb⟩)
      | (go_at_call 86; refine (through_u16 _ _).mono ?_; rintro e w' ⟨rfl, hb⟩)
      | (go_at_call 87; refine (through_i32 _ _).mono ?_; rintro e w' ⟨rfl, hb⟩)
      | (go_at_call 88; refine (through_u32 _ _).mono ?_; rintro e w' ⟨rfl, hb⟩)
      | (go_at_call 89; refine (through_i64 _ _).mono ?_; rintro e w' ⟨rfl, hb⟩)
      | (go_at_call 90; refine (through_u64 _ _ hv).mono ?_; rintro e w' ⟨rfl, hb⟩))
    go_ret
    exact ⟨rfl, Below.tail (by go_grown) hb⟩

end Go.Proofs.Ytdbcbmdekdfdoaa
