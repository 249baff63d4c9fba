/- WHAT IS PROVED: what the functions of package bits' tables of operations return: sums, products, quotients, remainders, bitwise operations, shifts, orders, relations. CONDITIONS: int64 operands; a divisor that is not 0, where one is; counts from 0 to 63. -/
import Derived.Test.YtfgmfkiknogdeaaDoorM
namespace Go.Proofs.YtfgmfkiknogdeaaDoor
open Go Go.RowKit Go.QrBits
attribute [local go_sem] reg_cell reg_frozen reg_setCell reg_lt reg_lt_add reg_reg reg_drew reg_of_drew

theorem add_c (s : Int) (g : Bool) (a b : Int) (w : World) : Calls Tryd.prog 84 #[.agg #[.int .i64 s, .bool g], .int .i64 a, .int .i64 b] w fun e w' => e = .returned (.tuple #[.int .i64 (wrap64 (a + b)), .int .i64 0]) ∧ Below w.heap.size w w' := by
  go_enter Tryd.func84, Tryd.ntmps84; go_wp2; go_ret2; exact ⟨rfl, by go_grown⟩
theorem sub_c (s : Int) (g : Bool) (a b : Int) (w : World) : Calls Tryd.prog 85 #[.agg #[.int .i64 s, .bool g], .int .i64 a, .int .i64 b] w fun e w' => e = .returned (.tuple #[.int .i64 (wrap64 (a - b)), .int .i64 0]) ∧ Below w.heap.size w w' := by
  go_enter Tryd.func85, Tryd.ntmps85; go_wp2; go_ret2; exact ⟨rfl, by go_grown⟩
theorem mul_c (s : Int) (g : Bool) (a b : Int) (w : World) : Calls Tryd.prog 86 #[.agg #[.int .i64 s, .bool g], .int .i64 a, .int .i64 b] w fun e w' => e = .returned (.tuple #[.int .i64 (wrap64 (a * b)), .int .i64 0]) ∧ Below w.heap.size w w' := by
  go_enter Tryd.func86, Tryd.ntmps86; go_wp2; go_ret2; exact ⟨rfl, by go_grown⟩
theorem and_c (s : Int) (g : Bool) (a b : Int) (w : World) : Calls Tryd.prog 89 #[.agg #[.int .i64 s, .bool g], .int .i64 a, .int .i64 b] w fun e w' => e = .returned (.tuple #[.int .i64 (bits .and .i64 a b), .int .i64 0]) ∧ Below w.heap.size w w' := by
  go_enter Tryd.func89, Tryd.ntmps89; go_wp2; go_ret2; exact ⟨rfl, by go_grown⟩
theorem or_c (s : Int) (g : Bool) (a b : Int) (w : World) : Calls Tryd.prog 90 #[.agg #[.int .i64 s, .bool g], .int .i64 a, .int .i64 b] w fun e w' => e = .returned (.tuple #[.int .i64 (bits .or .i64 a b), .int .i64 0]) ∧ Below w.heap.size w w' := by
  go_enter Tryd.func90, Tryd.ntmps90; go_wp2; go_ret2; exact ⟨rfl, by go_grown⟩
theorem xor_c (s : Int) (g : Bool) (a b : Int) (w : World) : Calls Tryd.prog 91 #[.agg #[.int .i64 s, .bool g], .int .i64 a, .int .i64 b] w fun e w' => e = .returned (.tuple #[.int .i64 (bits .xor .i64 a b), .int .i64 0]) ∧ Below w.heap.size w w' := by
  go_enter Tryd.func91, Tryd.ntmps91; go_wp2; go_ret2; exact ⟨rfl, by go_grown⟩

/-- A value's number in the unsigned type of 8 bytes. -/
def uN (v : Int) : Int := v % 18446744073709551616
theorem u64_uN (v : Int) : IntKind.u64.wrap v = uN v := u64_eq v
def qV (g : Bool) (a b : Int) : Int := if g then wrap64 (a.tdiv b) else wrap64 (uN a / uN b)
def rV (g : Bool) (a b : Int) : Int := if g then a.tmod b else wrap64 (uN a % uN b)
def cmpV (a b : Int) : Int := if a < b then -1 else if b < a then 1 else 0
def ordV (g : Bool) (a b : Int) : Int := if g then cmpV a b else cmpV (uN a) (uN b)

theorem uN_bd (a : Int) : 0 ≤ uN a ∧ uN a < 18446744073709551616 := by unfold uN; omega
theorem uN_uN (a : Int) (h0 : 0 ≤ a) (h1 : a < 18446744073709551616) : uN a = a := by unfold uN; omega
theorem tdiv_uN (a b : Int) : uN ((uN a).tdiv (uN b)) = uN a / uN b := by
  have ha := uN_bd a; have hb := uN_bd b
  rw [Int.tdiv_eq_ediv_of_nonneg ha.1]
  have h1 : 0 ≤ uN a / uN b := Int.ediv_nonneg ha.1 hb.1
  have h2 : uN a / uN b ≤ uN a := Int.ediv_le_self _ ha.1
  exact uN_uN _ h1 (by omega)
theorem tmod_uN (a b : Int) : (uN a).tmod (uN b) = uN a % uN b := by
  rw [Int.tmod_eq_emod_of_nonneg (uN_bd a).1]
theorem uN_ne {b : Int} (hb : I64 b) (h : ¬ b = 0) : ¬ IntKind.u64.wrap b = 0 := by unfold I64 at hb; rw [u64_uN]; unfold uN; omega

theorem quo_c (s : Int) (g : Bool) (a b : Int) (w : World) (hb : I64 b) (h0 : ¬ b = 0) : Calls Tryd.prog 87 #[.agg #[.int .i64 s, .bool g], .int .i64 a, .int .i64 b] w fun e w' => e = .returned (.tuple #[.int .i64 (qV g a b), .int .i64 0]) ∧ Below w.heap.size w w' := by
  have h1 : (b == 0) = false := beq_eq_false_iff_ne.2 h0
  have h2 := uN_ne hb h0
  cases g
  · go_enter Tryd.func87, Tryd.ntmps87; go_wp2; go_ret2; exact ⟨by simp [qV, u64_uN, tdiv_uN], by go_grown⟩
  · go_enter Tryd.func87, Tryd.ntmps87; go_wp2; go_ret2; exact ⟨rfl, by go_grown⟩
theorem quo0_c (s : Int) (g : Bool) (a : Int) (w : World) : Calls Tryd.prog 87 #[.agg #[.int .i64 s, .bool g], .int .i64 a, .int .i64 0] w fun e w' => e = .returned (.tuple #[.int .i64 0, .int .i64 12]) ∧ Below w.heap.size w w' := by
  go_enter Tryd.func87, Tryd.ntmps87; go_wp2; go_ret2; exact ⟨rfl, by go_grown⟩
theorem rem_c (s : Int) (g : Bool) (a b : Int) (w : World) (hb : I64 b) (h0 : ¬ b = 0) : Calls Tryd.prog 88 #[.agg #[.int .i64 s, .bool g], .int .i64 a, .int .i64 b] w fun e w' => e = .returned (.tuple #[.int .i64 (rV g a b), .int .i64 0]) ∧ Below w.heap.size w w' := by
  have h1 : (b == 0) = false := beq_eq_false_iff_ne.2 h0
  have h2 := uN_ne hb h0
  cases g
  · go_enter Tryd.func88, Tryd.ntmps88; go_wp2; go_ret2; exact ⟨by simp [rV, u64_uN, tmod_uN], by go_grown⟩
  · go_enter Tryd.func88, Tryd.ntmps88; go_wp2; go_ret2; exact ⟨rfl, by go_grown⟩
theorem rem0_c (s : Int) (g : Bool) (a : Int) (w : World) : Calls Tryd.prog 88 #[.agg #[.int .i64 s, .bool g], .int .i64 a, .int .i64 0] w fun e w' => e = .returned (.tuple #[.int .i64 0, .int .i64 12]) ∧ Below w.heap.size w w' := by
  go_enter Tryd.func88, Tryd.ntmps88; go_wp2; go_ret2; exact ⟨rfl, by go_grown⟩

/-- 1 or 0. -/
def tV (x : Bool) : Int := if x then 1 else 0
theorem truth_c (x : Bool) (w : World) : Calls Tryd.prog 59 #[.bool x] w fun e w' => e = .returned (.int .i64 (tV x)) ∧ Below w.heap.size w w' := by
  cases x
  all_goals (go_enter Tryd.func59, Tryd.ntmps59; go_wp2; go_ret; exact ⟨rfl, by go_grown⟩)

theorem cmpI_c (a b : Int) (w : World) : Calls Tryd.prog 98 #[.int .i64 a, .int .i64 b] w fun e w' => e = .returned (.int .i64 (cmpV a b)) ∧ Below w.heap.size w w' := by
  by_cases h1 : a < b
  · rw [show cmpV a b = -1 by simp [cmpV, h1]]; go_enter Tryd.func98, Tryd.ntmps98; go_wp2; go_ret; exact ⟨rfl, by go_grown⟩
  · by_cases h2 : b < a
    · rw [show cmpV a b = 1 by simp [cmpV, h1, h2]]; go_enter Tryd.func98, Tryd.ntmps98; go_wp2; go_ret; exact ⟨rfl, by go_grown⟩
    · rw [show cmpV a b = 0 by simp [cmpV, h1, h2]]; go_enter Tryd.func98, Tryd.ntmps98; go_wp2; go_ret; exact ⟨rfl, by go_grown⟩
theorem cmpU_c (a b : Int) (w : World) : Calls Tryd.prog 99 #[.int .u64 a, .int .u64 b] w fun e w' => e = .returned (.int .i64 (cmpV a b)) ∧ Below w.heap.size w w' := by
  by_cases h1 : a < b
  · rw [show cmpV a b = -1 by simp [cmpV, h1]]; go_enter Tryd.func99, Tryd.ntmps99; go_wp2; go_ret; exact ⟨rfl, by go_grown⟩
  · by_cases h2 : b < a
    · rw [show cmpV a b = 1 by simp [cmpV, h1, h2]]; go_enter Tryd.func99, Tryd.ntmps99; go_wp2; go_ret; exact ⟨rfl, by go_grown⟩
    · rw [show cmpV a b = 0 by simp [cmpV, h1, h2]]; go_enter Tryd.func99, Tryd.ntmps99; go_wp2; go_ret; exact ⟨rfl, by go_grown⟩

theorem order_c (s : Int) (g : Bool) (a b : Int) (w : World) : Calls Tryd.prog 60 #[.agg #[.int .i64 s, .bool g], .int .i64 a, .int .i64 b] w fun e w' => e = .returned (.int .i64 (ordV g a b)) ∧ Below w.heap.size w w' := by
  cases g
  · go_enter Tryd.func60, Tryd.ntmps60
    go_wp2_with (go_at_call 99; refine (cmpU_c _ _ _).mono ?_; rintro e w' ⟨rfl, hb⟩)
    go_ret; exact ⟨by simp [ordV, u64_uN], Below.tail (by go_grown) hb⟩
  · go_enter Tryd.func60, Tryd.ntmps60
    go_wp2_with (go_at_call 98; refine (cmpI_c _ _ _).mono ?_; rintro e w' ⟨rfl, hb⟩)
    go_ret; exact ⟨by simp [ordV], Below.tail (by go_grown) hb⟩

def relV (k : Nat) (o : Int) : Bool := match k with
  | 0 => decide (o < 0) | 1 => decide (o ≤ 0) | 2 => decide (0 < o) | 3 => decide (0 ≤ o) | 4 => o == 0 | _ => o != 0
theorem rel0_c (o : Int) (w : World) : Calls Tryd.prog 92 #[.int .i64 o] w fun e w' => e = .returned (.bool (relV 0 o)) ∧ Below w.heap.size w w' := by
  go_enter Tryd.func92, Tryd.ntmps92; go_wp2; go_ret; exact ⟨rfl, by go_grown⟩
theorem rel1_c (o : Int) (w : World) : Calls Tryd.prog 93 #[.int .i64 o] w fun e w' => e = .returned (.bool (relV 1 o)) ∧ Below w.heap.size w w' := by
  go_enter Tryd.func93, Tryd.ntmps93; go_wp2; go_ret; exact ⟨rfl, by go_grown⟩
theorem rel2_c (o : Int) (w : World) : Calls Tryd.prog 94 #[.int .i64 o] w fun e w' => e = .returned (.bool (relV 2 o)) ∧ Below w.heap.size w w' := by
  go_enter Tryd.func94, Tryd.ntmps94; go_wp2; go_ret; exact ⟨rfl, by go_grown⟩
theorem rel3_c (o : Int) (w : World) : Calls Tryd.prog 95 #[.int .i64 o] w fun e w' => e = .returned (.bool (relV 3 o)) ∧ Below w.heap.size w w' := by
  go_enter Tryd.func95, Tryd.ntmps95; go_wp2; go_ret; exact ⟨rfl, by go_grown⟩
theorem rel4_c (o : Int) (w : World) : Calls Tryd.prog 96 #[.int .i64 o] w fun e w' => e = .returned (.bool (relV 4 o)) ∧ Below w.heap.size w w' := by
  go_enter Tryd.func96, Tryd.ntmps96; go_wp2; go_ret; exact ⟨rfl, by go_grown⟩
theorem rel5_c (o : Int) (w : World) : Calls Tryd.prog 97 #[.int .i64 o] w fun e w' => e = .returned (.bool (relV 5 o)) ∧ Below w.heap.size w w' := by
  go_enter Tryd.func97, Tryd.ntmps97; go_wp2; go_ret; exact ⟨rfl, by go_grown⟩

theorem count_c (s : Int) (g : Bool) (b : Int) (w : World) (h : vB s = true) : Calls Tryd.prog 56 #[.agg #[.int .i64 s, .bool g], .int .i64 b] w fun e w' => e = .returned (.int .u64 (uN b % (8 * s))) ∧ Below w.heap.size w w' := by
  rcases vB_cases h with rfl | rfl | rfl | rfl
  all_goals
    go_enter Tryd.func56, Tryd.ntmps56
    go_wp2_with (go_at_call 46; refine (width_c _ _ _ h).mono ?_; rintro e w' ⟨rfl, hb⟩)
    go_ret
    exact ⟨by simp [u64_uN, Int.tmod_eq_emod_of_nonneg (uN_bd b).1], Below.tail (by go_grown) hb⟩
theorem shl_c (s : Int) (g : Bool) (a n : Int) (w : World) (h0 : 0 ≤ n) (h1 : n < 64) : Calls Tryd.prog 82 #[.agg #[.int .i64 s, .bool g], .int .i64 a, .int .u64 n] w fun e w' => e = .returned (.int .i64 (wrap64 (a * 2 ^ n.toNat))) ∧ Below w.heap.size w w' := by
  go_enter Tryd.func82, Tryd.ntmps82; go_wp2; go_ret; exact ⟨rfl, by go_grown⟩
theorem shr_c (s : Int) (g : Bool) (a n : Int) (w : World) (h0 : 0 ≤ n) (h1 : n < 64) : Calls Tryd.prog 83 #[.agg #[.int .i64 s, .bool g], .int .i64 a, .int .u64 n] w fun e w' => e = .returned (.int .i64 (if g then a / 2 ^ n.toNat else wrap64 (uN a / 2 ^ n.toNat))) ∧ Below w.heap.size w w' := by
  cases g
  all_goals (go_enter Tryd.func83, Tryd.ntmps83; go_wp2; go_ret; exact ⟨rfl, by go_grown⟩)
end Go.Proofs.YtfgmfkiknogdeaaDoor
