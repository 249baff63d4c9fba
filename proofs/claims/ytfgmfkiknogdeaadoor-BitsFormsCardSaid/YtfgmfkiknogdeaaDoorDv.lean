/- WHAT IS PROVED: the quotient times the divisor plus the remainder is the dividend, in the arithmetic of a type; the remainder's sign and size. CONDITIONS: valid types; a divisor that is not 0. -/
import Derived.Test.YtfgmfkiknogdeaaDoorR
namespace Go.Proofs.YtfgmfkiknogdeaaDoor
open Go Go.RowKit Go.QrBits

/-- How many values a type has. -/
def md (s : Int) : Int := if s = 1 then 256 else if s = 2 then 65536 else if s = 4 then 4294967296 else 18446744073709551616
section
variable {s : Int} {g : Bool}
theorem wr_mod (h : vB s = true) (x : Int) : wr s g x % md s = x % md s := by
  rcases vB_cases h with rfl | rfl | rfl | rfl <;> cases g <;> simp only [wr, md] <;> simp <;> omega
theorem wrap64_mod (h : vB s = true) (x : Int) : wrap64 x % md s = x % md s := by
  rcases vB_cases h with rfl | rfl | rfl | rfl <;> simp only [wrap64, md] <;> simp <;> omega
theorem uN_mod (h : vB s = true) (x : Int) : uN x % md s = x % md s := by
  rcases vB_cases h with rfl | rfl | rfl | rfl <;> simp only [uN, md] <;> simp <;> omega
theorem wr_congr (h : vB s = true) {x y : Int} (hx : I64 x) (hy : I64 y) (e : x % md s = y % md s) : wr s g x = wr s g y := by
  unfold I64 at *
  rcases vB_cases h with rfl | rfl | rfl | rfl <;> cases g <;> simp only [wr, md] at * <;> simp at * <;> omega
/-- The sum of product and remainder. -/
theorem sum_back (h : vB s = true) {B q r a : Int} (ha : I64 a) (e : (q * B + r) % md s = a % md s) :
    wr s g (wrap64 (wr s g (wr s g (wrap64 (wr s g (wr s g q) * wr s g B))) + wr s g (wr s g r))) = wr s g a := by
  refine wr_congr h (I64_wrap64 _) ha ?_
  rw [wrap64_mod h, Int.add_emod, wr_mod h, wr_mod h, wr_mod h, wr_mod h, wrap64_mod h, Int.mul_emod, wr_mod h, wr_mod h, wr_mod h, ← Int.mul_emod, ← Int.add_emod, e]
theorem sum_back' (h : vB s = true) {a b : Int} (hi : I64 a) (ha : wr s g a = a) :
    wr s g (wrap64 (wr s g (wr s g (wrap64 (wr s g (wr s g (qV g a b)) * wr s g b))) + wr s g (wr s g (rV g a b)))) = a := by
  refine (sum_back h hi ?_).trans ha
  cases g
  · show (wrap64 (uN a / uN b) * b + wrap64 (uN a % uN b)) % md s = a % md s
    rw [Int.add_emod, Int.mul_emod, wrap64_mod h, wrap64_mod h, ← uN_mod h b, ← Int.mul_emod, ← Int.add_emod, Int.mul_comm, Int.mul_ediv_add_emod, uN_mod h]
  · show (wrap64 (a.tdiv b) * b + a.tmod b) % md s = a % md s
    rw [Int.add_emod, Int.mul_emod, wrap64_mod h, ← Int.mul_emod, ← Int.add_emod, Int.mul_comm, Int.mul_tdiv_add_tmod]
end

/-- The signed remainder is the remainder. -/
theorem rem_bd (a b : Int) (h0 : ¬ b = 0) : (a.tmod b).natAbs < b.natAbs := by
  rw [Int.natAbs_tmod]; exact Nat.mod_lt _ (by omega)
theorem rem_sign (a b : Int) : (0 ≤ a → 0 ≤ a.tmod b) ∧ (a ≤ 0 → a.tmod b ≤ 0) := by
  refine ⟨fun h => Int.tmod_nonneg b h, fun h => ?_⟩
  have := Int.tmod_nonneg b (a := -a) (by omega)
  rw [Int.neg_tmod] at this; omega
theorem wr_keep_rem {s a b : Int} (h : vB s = true) (hb : wr s true b = b) (h0 : ¬ b = 0) : wr s true (a.tmod b) = a.tmod b := by
  have h1 := rem_bd a b h0
  have h2 : wr s true b = b := hb
  generalize a.tmod b = r at *
  rcases vB_cases h with rfl | rfl | rfl | rfl <;> simp only [wr] at * <;> simp at * <;> omega
theorem wr_keep_urem {s a b : Int} (h : vB s = true) (hbi : I64 b) (ha : wr s false a = a) (hb : wr s false b = b) (h0 : ¬ b = 0) : ordV false (wr s false (wr s false (rV false a b))) (wr s false b) = -1 := by
  have e2 : rV false a b = wrap64 (uN a % uN b) := rfl
  have hb0 : ¬ uN b = 0 := by
    intro e
    unfold I64 at hbi
    rcases vB_cases h with rfl | rfl | rfl | rfl <;> simp only [wr, uN] at * <;> simp at * <;> omega
  have h1 : uN a % uN b < uN b := Int.emod_lt_of_pos _ (by have := (uN_bd b).1; omega)
  have h2 : 0 ≤ uN a % uN b := Int.emod_nonneg _ hb0
  have h3 := uN_bd b
  rw [e2, hb]
  generalize hr : uN a % uN b = r at *
  have k : uN (wr s false (wr s false (wrap64 r))) = r := by
    rcases vB_cases h with rfl | rfl | rfl | rfl <;> simp only [wr, uN, wrap64] at * <;> simp at * <;> omega
  unfold ordV
  simp only [Bool.false_eq_true, if_false]
  rw [k]
  unfold cmpV
  rw [if_pos h1]
end Go.Proofs.YtfgmfkiknogdeaaDoor
