/- WHAT IS PROVED: the reference's Unary and Binary, and the program's Unary, for all operators. CONDITIONS: int64 operands; the package variables 'plain' and 'promoted' hold what their initialisers lay. -/
import Derived.Test.YtfgmfkiknogdeaaDoorOp2
import Derived.Test.YtfgmfkiknogdeaaDoorRc
import Derived.Test.YtfgmfkiknogdeaaDoorE1
import Derived.Test.YtfgmfkiknogdeaaDoorE2
import Derived.Test.YtfgmfkiknogdeaaDoorE3
namespace Go.Proofs.YtfgmfkiknogdeaaDoor
open Go Go.RowKit Go.QrBits
attribute [local go_sem] reg_cell reg_frozen reg_setCell reg_lt reg_lt_add reg_drew reg_of_drew

/-- The count of a shift, as a remainder. -/
theorem ct_rem {S : Int} (h : pB S) (b : Int) : (b.tmod (8 * S) < 0 → ctV S b = b.tmod (8 * S) + 8 * S) ∧ (¬ b.tmod (8 * S) < 0 → ctV S b = b.tmod (8 * S)) := by
  have e : ctV S b = b % (8 * S) := by
    unfold ctV uN
    rcases h with rfl | rfl
    · show b % 18446744073709551616 % 32 = b % 32; omega
    · show b % 18446744073709551616 % 64 = b % 64; omega
  rw [e]
  have hp : 0 < 8 * S := by rcases h with rfl | rfl <;> omega
  have h1 := Int.mul_tdiv_add_tmod b (8 * S)
  have h2 : (b.tmod (8 * S)).natAbs < (8 * S).natAbs := by rw [Int.natAbs_tmod]; exact Nat.mod_lt _ (by omega)
  generalize b.tmod (8 * S) = r at *
  constructor
  · intro hr
    have : b = (r + 8 * S) + (8 * S) * (b.tdiv (8 * S) - 1) := by rw [Int.mul_sub]; omega
    rw [this, Int.add_mul_emod_self_left, Int.emod_eq_of_lt (by omega) (by omega)]
  · intro hr
    have : b = r + (8 * S) * (b.tdiv (8 * S)) := by omega
    rw [this, Int.add_mul_emod_self_left, Int.emod_eq_of_lt (by omega) (by omega)]
theorem and_one {x : Int} : bits .and .i64 x 1 = x % 2 := by
  refine I64_eq (bits_I64 _ _ _) (by unfold I64; omega) ?_
  rw [and_mod (by omega)]
  have e : rs 64 1 = 1 := rfl
  have h := rs_mod (k := 1) (m := 64) (by omega) x
  rw [e, Nat.and_one_is_mod]
  have h3 : rs 64 x % 2 = rs 1 x := h
  rw [h3, rs_cast]
  show x % 2 = x % 2 % 18446744073709551616
  omega
theorem half_step {x : Int} (hx : I64 x) : wrap64 ((wrap64 (x - bits .and .i64 x 1)).tdiv 2) = x / 2 := by
  rw [and_one]
  unfold I64 at hx
  have e : wrap64 (x - x % 2) = x - x % 2 := w64_in (by unfold I64; omega)
  rw [e]
  have h2 : x - x % 2 = 2 * (x / 2) := by omega
  rw [h2, Int.mul_tdiv_cancel_left _ (by omega)]
  exact w64_in (by unfold I64; omega)
theorem pow_s (i : Nat) : (2:Int) ^ (i + 1) = 2 ^ i * 2 := Int.pow_succ ..
theorem fl_step {S : Int} {G : Bool} (h : pB S) (v : Int) (i : Nat) : wr S G (wrap64 (wr S G (wrap64 (v * 2 ^ i)) + wr S G (wrap64 (v * 2 ^ i)))) = wr S G (wrap64 (v * 2 ^ (i + 1))) := by
  have hv := pB_ok h
  refine wr_eq hv (I64_wrap64 _) (I64_wrap64 _) ?_
  have hl := mk_le S
  rw [wrap64_modk hl, wrap64_modk hl, Int.add_emod, wr_modk hv (Nat.le_refl _), wrap64_modk hl, ← Int.add_emod, pow_s, ← Int.mul_assoc, show v * 2 ^ i + v * 2 ^ i = v * 2 ^ i * 2 by omega]
/-- How far a value has been shifted to the right. -/
def shF (G : Bool) (v : Int) (i : Nat) : Int := if G then v / 2 ^ i else wrap64 (uN v / 2 ^ i)
theorem shF_I64 {G : Bool} {v : Int} (h : I64 v) (i : Nat) : I64 (shF G v i) := by
  unfold shF; split
  · exact ediv_pow_bd v _ h
  · exact I64_wrap64 _
theorem fr_t {v : Int} (h : I64 v) (i : Nat) : wrap64 ((wrap64 (shF true v i - bits .and .i64 (shF true v i) 1)).tdiv 2) = shF true v (i + 1) := by
  rw [half_step (shF_I64 h i)]
  show v / 2 ^ i / 2 = v / 2 ^ (i + 1)
  rw [pow_s, Int.ediv_ediv, if_neg (by have := pow_pos2 i; omega), Int.sub_zero]
theorem fr_f (v : Int) (i : Nat) : wrap64 (uN (shF false v i) / 2) = shF false v (i + 1) := by
  show wrap64 (uN (wrap64 (uN v / 2 ^ i)) / 2) = wrap64 (uN v / 2 ^ (i + 1))
  have hu := uN_bd v
  have hd := div_bd i hu.1
  rw [uN_wrap64 hd.1 (by omega), pow_s, Int.ediv_ediv, if_neg (by have := pow_pos2 i; omega), Int.sub_zero]
theorem shF_0 {G : Bool} {v : Int} (h : I64 v) : v = shF G v 0 := by
  unfold shF I64 at *
  have hu := uN_bd v
  cases G
  · simp only [Bool.false_eq_true, if_false, Int.pow_zero, Int.ediv_one]; unfold uN wrap64 at *; omega
  · simp
theorem shF_shr (G : Bool) (v n : Int) : shF G v n.toNat = shrV G v n := rfl
theorem tm_bd {S : Int} (h : pB S) (b : Int) : -(8 * S) < b.tmod (8 * S) ∧ b.tmod (8 * S) < 8 * S := by
  have hp : 0 < 8 * S := by rcases h with rfl | rfl <;> omega
  have h2 : (b.tmod (8 * S)).natAbs < (8 * S).natAbs := by rw [Int.natAbs_tmod]; exact Nat.mod_lt _ (by omega)
  omega
theorem rsh_9_c (S : Int) (G : Bool) (v b : Int) (w : World) (h : pB S) (hv : I64 v) (hw : wr S G v = v) : Calls Tryd.prog 61 #[.int .i64 9, .agg #[.int .i64 S, .bool G], .int .i64 v, .int .i64 b] w fun e w' => e = .returned (.int .i64 (wr S G (wrap64 (v * 2 ^ (ctV S b).toNat)))) ∧ Below w.heap.size w w' := by
  obtain ⟨c1, c2⟩ := ct_rem h b
  obtain ⟨b1, b2⟩ := tm_bd h b
  by_cases hr : b.tmod (8 * S) < 0
  · rw [c1 hr]
    rcases h with rfl | rfl <;> cases G
    · exact rsh_9_4f1 v b _ w hv rfl hr b1 (fun i => wr 4 false (wrap64 (v * 2 ^ i))) (by show v = wr 4 false (wrap64 (v * 2 ^ 0)); rw [Int.pow_zero, Int.mul_one, w64_in hv, hw]) (fun i => wr_I64 rfl (I64_wrap64 _)) (fun i => fl_step (.inl rfl) v i)
    · exact rsh_9_4t1 v b _ w hv rfl hr b1 (fun i => wr 4 true (wrap64 (v * 2 ^ i))) (by show v = wr 4 true (wrap64 (v * 2 ^ 0)); rw [Int.pow_zero, Int.mul_one, w64_in hv, hw]) (fun i => wr_I64 rfl (I64_wrap64 _)) (fun i => fl_step (.inl rfl) v i)
    · exact rsh_9_8f1 v b _ w hv rfl hr b1 (fun i => wr 8 false (wrap64 (v * 2 ^ i))) (by show v = wr 8 false (wrap64 (v * 2 ^ 0)); rw [Int.pow_zero, Int.mul_one, w64_in hv, hw]) (fun i => wr_I64 rfl (I64_wrap64 _)) (fun i => fl_step (.inr rfl) v i)
    · exact rsh_9_8t1 v b _ w hv rfl hr b1 (fun i => wr 8 true (wrap64 (v * 2 ^ i))) (by show v = wr 8 true (wrap64 (v * 2 ^ 0)); rw [Int.pow_zero, Int.mul_one, w64_in hv, hw]) (fun i => wr_I64 rfl (I64_wrap64 _)) (fun i => fl_step (.inr rfl) v i)
  · rw [c2 hr]
    rcases h with rfl | rfl <;> cases G
    · exact rsh_9_4f0 v b _ w hv rfl hr b2 (fun i => wr 4 false (wrap64 (v * 2 ^ i))) (by show v = wr 4 false (wrap64 (v * 2 ^ 0)); rw [Int.pow_zero, Int.mul_one, w64_in hv, hw]) (fun i => wr_I64 rfl (I64_wrap64 _)) (fun i => fl_step (.inl rfl) v i)
    · exact rsh_9_4t0 v b _ w hv rfl hr b2 (fun i => wr 4 true (wrap64 (v * 2 ^ i))) (by show v = wr 4 true (wrap64 (v * 2 ^ 0)); rw [Int.pow_zero, Int.mul_one, w64_in hv, hw]) (fun i => wr_I64 rfl (I64_wrap64 _)) (fun i => fl_step (.inl rfl) v i)
    · exact rsh_9_8f0 v b _ w hv rfl hr b2 (fun i => wr 8 false (wrap64 (v * 2 ^ i))) (by show v = wr 8 false (wrap64 (v * 2 ^ 0)); rw [Int.pow_zero, Int.mul_one, w64_in hv, hw]) (fun i => wr_I64 rfl (I64_wrap64 _)) (fun i => fl_step (.inr rfl) v i)
    · exact rsh_9_8t0 v b _ w hv rfl hr b2 (fun i => wr 8 true (wrap64 (v * 2 ^ i))) (by show v = wr 8 true (wrap64 (v * 2 ^ 0)); rw [Int.pow_zero, Int.mul_one, w64_in hv, hw]) (fun i => wr_I64 rfl (I64_wrap64 _)) (fun i => fl_step (.inr rfl) v i)
theorem rsh_10_c (S : Int) (G : Bool) (v b : Int) (w : World) (h : pB S) (hv : I64 v) (hw : wr S G v = v) : Calls Tryd.prog 61 #[.int .i64 10, .agg #[.int .i64 S, .bool G], .int .i64 v, .int .i64 b] w fun e w' => e = .returned (.int .i64 (shrV G v (ctV S b))) ∧ Below w.heap.size w w' := by
  obtain ⟨c1, c2⟩ := ct_rem h b
  obtain ⟨b1, b2⟩ := tm_bd h b
  by_cases hr : b.tmod (8 * S) < 0
  · rw [c1 hr]
    rcases h with rfl | rfl <;> cases G
    · exact rsh_10_4f1 v b _ w hv rfl hr b1 (shF false v) (shF_0 hv) (fun i => shF_I64 hv i) (fun i => fr_f v i)
    · exact rsh_10_4t1 v b _ w hv rfl hr b1 (shF true v) (shF_0 hv) (fun i => shF_I64 hv i) (fun i => fr_t hv i)
    · exact rsh_10_8f1 v b _ w hv rfl hr b1 (shF false v) (shF_0 hv) (fun i => shF_I64 hv i) (fun i => fr_f v i)
    · exact rsh_10_8t1 v b _ w hv rfl hr b1 (shF true v) (shF_0 hv) (fun i => shF_I64 hv i) (fun i => fr_t hv i)
  · rw [c2 hr]
    rcases h with rfl | rfl <;> cases G
    · exact rsh_10_4f0 v b _ w hv rfl hr b2 (shF false v) (shF_0 hv) (fun i => shF_I64 hv i) (fun i => fr_f v i)
    · exact rsh_10_4t0 v b _ w hv rfl hr b2 (shF true v) (shF_0 hv) (fun i => shF_I64 hv i) (fun i => fr_t hv i)
    · exact rsh_10_8f0 v b _ w hv rfl hr b2 (shF false v) (shF_0 hv) (fun i => shF_I64 hv i) (fun i => fr_f v i)
    · exact rsh_10_8t0 v b _ w hv rfl hr b2 (shF true v) (shF_0 hv) (fun i => shF_I64 hv i) (fun i => fr_t hv i)
end Go.Proofs.YtfgmfkiknogdeaaDoor
