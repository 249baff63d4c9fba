/- WHAT IS PROVED: ranges of the values of package bits' operations. CONDITIONS: none. -/
import Derived.Test.YtfgmfkiknogdeaaDoorC
namespace Go.Proofs.YtfgmfkiknogdeaaDoor
open Go Go.RowKit Go.QrBits
attribute [local go_sem] reg_cell reg_frozen reg_setCell reg_lt reg_lt_add reg_drew reg_of_drew

theorem I64_wrap64 (v : Int) : I64 (wrap64 v) := by unfold I64 wrap64; omega
/-- The count of a shift. -/
def ctV (s b : Int) : Int := uN b % (8 * s)
theorem ctV_bd {s : Int} (h : vB s = true) (b : Int) : 0 ≤ ctV s b ∧ ctV s b < 64 := by
  unfold ctV
  rcases vB_cases h with rfl | rfl | rfl | rfl <;> omega
theorem pS_ok {s : Int} (h : vB s = true) : vB (pS s) = true := by
  rcases vB_cases h with rfl | rfl | rfl | rfl <;> rfl
theorem cS_ok {s1 s2 : Int} {g1 : Bool} (h1 : vB s1 = true) (h2 : vB s2 = true) : vB (cS s1 g1 s2) = true := by
  unfold cS; split
  · exact pS_ok h1
  · exact pS_ok h2
theorem bits_I64 (o : BinOp) (a b : Int) : I64 (bits o .i64 a b) := by
  unfold bits I64; rw [IntKind.wrap_i64]; omega
theorem rV_I64 {g : Bool} {a b : Int} (ha : I64 a) (hb : I64 b) : I64 (rV g a b) := by
  unfold rV; split
  · unfold I64 at *
    have h1 := Int.natAbs_tmod a b
    have h2 : (a.tmod b).natAbs ≤ a.natAbs := by rw [h1]; exact Nat.mod_le _ _
    by_cases h : b = 0
    · subst h; simp; omega
    have h3 : (a.tmod b).natAbs < b.natAbs := by rw [h1]; exact Nat.mod_lt _ (by omega)
    omega
  · unfold I64 wrap64; omega
theorem ediv_pow_bd (a : Int) (n : Nat) (h : -9223372036854775808 ≤ a ∧ a ≤ 9223372036854775807) : -9223372036854775808 ≤ a / 2 ^ n ∧ a / 2 ^ n ≤ 9223372036854775807 := by
  have hp : (0:Int) < 2 ^ n := Int.pow_pos (by omega)
  constructor
  · rw [Int.le_ediv_iff_mul_le hp]
    have : (1:Int) ≤ 2 ^ n := by omega
    have := Int.mul_le_mul_of_nonpos_left (a := -9223372036854775808) (by omega) this
    omega
  · have := Int.ediv_le_ediv (a := a) (b := 9223372036854775807) hp (by omega)
    have h2 := Int.ediv_le_self (a := 9223372036854775807) (2 ^ n) (by omega)
    omega
def shrV (g : Bool) (a n : Int) : Int := if g then a / 2 ^ n.toNat else wrap64 (uN a / 2 ^ n.toNat)
theorem qV_I64 (g : Bool) (a b : Int) : I64 (qV g a b) := by unfold qV; split <;> exact I64_wrap64 _
theorem shrV_I64 {g : Bool} {a n : Int} (h : I64 a) : I64 (shrV g a n) := by
  unfold shrV; split
  · exact ediv_pow_bd a _ h
  · exact I64_wrap64 _
theorem shr_c' (s : Int) (g : Bool) (a n : Int) (w : World) (h0 : 0 ≤ n) (h1 : n < 64) : Calls Tryd.prog 83 #[.agg #[.int .i64 s, .bool g], .int .i64 a, .int .u64 n] w fun e w' => e = .returned (.int .i64 (shrV g a n)) ∧ Below w.heap.size w w' := shr_c s g a n w h0 h1
end Go.Proofs.YtfgmfkiknogdeaaDoor
