/- WHAT IS PROVED: sums, differences, products and bitwise operations of numbers modulo 256, 65536, 2^32 and 2^64. CONDITIONS: none. -/
import Derived.Test.YtdbcbmdekdfdoaaA
import Derived.Laws.BitsAllLaws
namespace Go.Proofs.Ytdbcbmdekdfdoaa
open Go Go.RowKit Go.QrBits

theorem I64_wrap64 (v : Int) : I64 (wrap64 v) := by unfold I64 wrap64; omega
theorem bits_I64 (o : BinOp) (a b : Int) : I64 (bits o .i64 a b) := by
  unfold bits I64; rw [IntKind.wrap_i64]; omega
def okB (l : List Int) : Prop := ∀ n ∈ l, 0 ≤ n ∧ n ≤ 255

/-- How many values a type has. -/
def md (s : Int) : Int := if s = 1 then 256 else if s = 2 then 65536 else if s = 4 then 4294967296 else 18446744073709551616
section
variable {s : Int} {g : Bool}
theorem wr_mod (h : vB s = true) (x : Int) : wr s g x % md s = x % md s := by
  rcases vB_cases h with rfl | rfl | rfl | rfl <;> cases g <;> simp only [wr, md] <;> simp <;> omega
theorem wrap64_mod (h : vB s = true) (x : Int) : wrap64 x % md s = x % md s := by
  rcases vB_cases h with rfl | rfl | rfl | rfl <;> simp only [wrap64, md] <;> simp <;> omega
theorem wr_congr (h : vB s = true) {x y : Int} (hx : I64 x) (hy : I64 y) (e : x % md s = y % md s) : wr s g x = wr s g y := by
  unfold I64 at *
  rcases vB_cases h with rfl | rfl | rfl | rfl <;> cases g <;> simp only [wr, md] at * <;> simp at * <;> omega
end

/-- The operations of the ring, by number: 1 +, 2 -, 3 *, 6 and, 7 or, 8 xor. -/
def opV (n a b : Int) : Int := if n = 1 then wrap64 (a + b) else if n = 2 then wrap64 (a - b) else if n = 3 then wrap64 (a * b) else if n = 6 then bits .and .i64 a b else if n = 7 then bits .or .i64 a b else bits .xor .i64 a b
theorem opV_I64 (n a b : Int) : I64 (opV n a b) := by
  unfold opV; repeat' split
  all_goals first | exact I64_wrap64 _ | exact bits_I64 _ _ _
theorem I64_wrap (v : Int) : I64 (IntKind.i64.wrap v) := by unfold I64; rw [IntKind.wrap_i64]; omega
theorem dvd2 {k m : Nat} (h : k ≤ m) : (2 : Int) ^ k ∣ 2 ^ m := ⟨2 ^ (m - k), by rw [← Int.pow_add]; congr 1; omega⟩
/-- A number's residue. -/
def rs (k : Nat) (a : Int) : Nat := (a % (2 : Int) ^ k).toNat
theorem rs_lt (k : Nat) (a : Int) : rs k a < 2 ^ k := by
  unfold rs
  have h0 : (0 : Int) < 2 ^ k := Int.pow_pos (by omega)
  have h1 := Int.emod_lt_of_pos a h0
  have h2 := Int.emod_nonneg a (Int.ne_of_gt h0)
  have : ((a % 2 ^ k).toNat : Int) < ((2 ^ k : Nat) : Int) := by rw [Int.toNat_of_nonneg h2]; simpa using h1
  exact Int.ofNat_lt.1 this
theorem rs_cast (k : Nat) (a : Int) : ((rs k a : Nat) : Int) = a % 2 ^ k := by
  unfold rs
  have h0 : (0 : Int) < 2 ^ k := Int.pow_pos (by omega)
  exact Int.toNat_of_nonneg (Int.emod_nonneg a (Int.ne_of_gt h0))
theorem rs_mod {k m : Nat} (h : k ≤ m) (a : Int) : rs m a % 2 ^ k = rs k a := by
  have : ((rs m a % 2 ^ k : Nat) : Int) = ((rs k a : Nat) : Int) := by
    rw [rs_cast, Int.natCast_emod, rs_cast]
    push_cast
    exact Int.emod_emod_of_dvd a (dvd2 h)
  exact Int.ofNat_inj.1 this
theorem ofInt64 (a : Int) : (BitVec.ofInt 64 a).toNat = rs 64 a := by
  rw [BitVec.toNat_ofInt]; rfl
theorem i64_mod {k : Nat} (h : k ≤ 64) (v : Int) : IntKind.i64.wrap v % 2 ^ k = v % 2 ^ k := by
  rw [IntKind.wrap_i64]
  have e : ((v + 9223372036854775808) % 18446744073709551616 - 9223372036854775808) % (2:Int) ^ 64 = v % 2 ^ 64 := by
    show _ % (18446744073709551616 : Int) = v % (18446744073709551616 : Int)
    omega
  rw [← Int.emod_emod_of_dvd _ (dvd2 h), e, Int.emod_emod_of_dvd _ (dvd2 h)]
theorem and_mod {k : Nat} (h : k ≤ 64) (a b : Int) : bits .and .i64 a b % 2 ^ k = ((rs k a &&& rs k b : Nat) : Int) := by
  show IntKind.i64.wrap ((BitVec.ofInt 64 a &&& BitVec.ofInt 64 b).toNat : Int) % _ = _
  rw [i64_mod h, BitVec.toNat_and, ofInt64, ofInt64, ← rs_mod h a, ← rs_mod h b, ← Nat.and_mod_two_pow]; push_cast; rfl
theorem or_mod {k : Nat} (h : k ≤ 64) (a b : Int) : bits .or .i64 a b % 2 ^ k = ((rs k a ||| rs k b : Nat) : Int) := by
  show IntKind.i64.wrap ((BitVec.ofInt 64 a ||| BitVec.ofInt 64 b).toNat : Int) % _ = _
  rw [i64_mod h, BitVec.toNat_or, ofInt64, ofInt64, ← rs_mod h a, ← rs_mod h b, ← Nat.or_mod_two_pow]; push_cast; rfl
theorem xor_mod {k : Nat} (h : k ≤ 64) (a b : Int) : bits .xor .i64 a b % 2 ^ k = ((rs k a ^^^ rs k b : Nat) : Int) := by
  show IntKind.i64.wrap ((BitVec.ofInt 64 a ^^^ BitVec.ofInt 64 b).toNat : Int) % _ = _
  rw [i64_mod h, BitVec.toNat_xor, ofInt64, ofInt64, ← rs_mod h a, ← rs_mod h b, ← Nat.xor_mod_two_pow]; push_cast; rfl
theorem rs_eq {k : Nat} {a b : Int} (h : a % 2 ^ k = b % 2 ^ k) : rs k a = rs k b := by unfold rs; rw [h]
theorem wrap64_modk {k : Nat} (h : k ≤ 64) (v : Int) : wrap64 v % 2 ^ k = v % 2 ^ k := by
  have := i64_mod h v
  rw [show IntKind.i64.wrap v = wrap64 v by rw [IntKind.wrap_i64]; unfold wrap64; omega] at this
  exact this
/-- What an operation comes to modulo 2^k hangs on its operands modulo 2^k alone. -/
theorem opV_mod {k : Nat} (h : k ≤ 64) (n : Int) {a b a' b' : Int} (ha : a % 2 ^ k = a' % 2 ^ k) (hb : b % 2 ^ k = b' % 2 ^ k) : opV n a b % 2 ^ k = opV n a' b' % 2 ^ k := by
  unfold opV
  by_cases h1 : n = 1
  · simp only [h1, if_true]; rw [wrap64_modk h, wrap64_modk h, Int.add_emod, ha, hb, ← Int.add_emod]
  by_cases h2 : n = 2
  · subst h2; simp only [if_true]; rw [if_neg (by omega), if_neg (by omega), wrap64_modk h, wrap64_modk h, Int.sub_emod, ha, hb, ← Int.sub_emod]
  by_cases h3 : n = 3
  · subst h3; simp only [if_true]; rw [if_neg (by omega), if_neg (by omega), if_neg (by omega), if_neg (by omega), wrap64_modk h, wrap64_modk h, Int.mul_emod, ha, hb, ← Int.mul_emod]
  rw [if_neg h1, if_neg h2, if_neg h3, if_neg h1, if_neg h2, if_neg h3]
  by_cases h6 : n = 6
  · rw [if_pos h6, if_pos h6, and_mod h, and_mod h, rs_eq ha, rs_eq hb]
  by_cases h7 : n = 7
  · rw [if_neg h6, if_pos h7, if_neg h6, if_pos h7, or_mod h, or_mod h, rs_eq ha, rs_eq hb]
  · rw [if_neg h6, if_neg h7, if_neg h6, if_neg h7, xor_mod h, xor_mod h, rs_eq ha, rs_eq hb]
theorem I64_eq {a b : Int} (ha : I64 a) (hb : I64 b) (h : a % 2 ^ 64 = b % 2 ^ 64) : a = b := by
  unfold I64 at *
  have h : a % (18446744073709551616 : Int) = b % (18446744073709551616 : Int) := h
  omega
theorem opV_comm {n : Int} (h : ¬ n = 2) (a b : Int) : opV n a b = opV n b a := by
  refine I64_eq (opV_I64 _ _ _) (opV_I64 _ _ _) ?_
  unfold opV
  by_cases h1 : n = 1
  · simp only [h1, if_true]; rw [Int.add_comm]
  by_cases h3 : n = 3
  · subst h3; simp only [if_true, if_neg (show ¬ (3 : Int) = 1 by omega), if_neg (show ¬ (3 : Int) = 2 by omega)]; rw [Int.mul_comm]
  rw [if_neg h1, if_neg h, if_neg h3, if_neg h1, if_neg h, if_neg h3]
  by_cases h6 : n = 6
  · rw [if_pos h6, if_pos h6, and_mod (by omega), and_mod (by omega), Nat.and_comm]
  by_cases h7 : n = 7
  · rw [if_neg h6, if_pos h7, if_neg h6, if_pos h7, or_mod (by omega), or_mod (by omega), Nat.or_comm]
  · rw [if_neg h6, if_neg h7, if_neg h6, if_neg h7, xor_mod (by omega), xor_mod (by omega), Nat.xor_comm]
theorem rs_of {k : Nat} {a : Int} {m : Nat} (h : a % 2 ^ k = (m : Int)) : rs k a = m := by unfold rs; rw [h]; rfl
theorem opV_assoc {n : Int} (h : ¬ n = 2) (a b c : Int) : opV n (opV n a b) c = opV n a (opV n b c) := by
  refine I64_eq (opV_I64 _ _ _) (opV_I64 _ _ _) ?_
  by_cases h1 : n = 1
  · simp only [opV, h1, if_true]; rw [wrap64_modk (by omega), wrap64_modk (by omega), Int.add_emod, wrap64_modk (by omega), ← Int.add_emod, Int.add_emod a, wrap64_modk (by omega), ← Int.add_emod, Int.add_assoc]
  by_cases h3 : n = 3
  · subst h3; simp only [opV, if_true]; simp only [if_neg (show ¬ (3 : Int) = 1 by omega), if_neg (show ¬ (3 : Int) = 2 by omega)]
    rw [wrap64_modk (by omega), wrap64_modk (by omega), Int.mul_emod, wrap64_modk (by omega), ← Int.mul_emod, Int.mul_emod a, wrap64_modk (by omega), ← Int.mul_emod, Int.mul_assoc]
  by_cases h6 : n = 6
  · simp only [opV, if_neg h1, if_neg h, if_neg h3, if_pos h6]; rw [and_mod (by omega), and_mod (by omega), rs_of (and_mod (by omega) a b), rs_of (and_mod (by omega) b c), Nat.and_assoc]
  by_cases h7 : n = 7
  · simp only [opV, if_neg h1, if_neg h, if_neg h3, if_neg h6, if_pos h7]; rw [or_mod (by omega), or_mod (by omega), rs_of (or_mod (by omega) a b), rs_of (or_mod (by omega) b c), Nat.or_assoc]
  · simp only [opV, if_neg h1, if_neg h, if_neg h3, if_neg h6, if_neg h7]; rw [xor_mod (by omega), xor_mod (by omega), rs_of (xor_mod (by omega) a b), rs_of (xor_mod (by omega) b c), Nat.xor_assoc]

section
variable {s t : Int} {g gt : Bool}
/-- How many bits. -/
def mk (s : Int) : Nat := if s = 1 then 8 else if s = 2 then 16 else if s = 4 then 32 else 64
theorem md_mk (h : vB s = true) : md s = 2 ^ mk s := by rcases vB_cases h with rfl | rfl | rfl | rfl <;> rfl
theorem mk_le (s : Int) : mk s ≤ 64 := by unfold mk; repeat' split
                                          all_goals omega
theorem mk_mono (hs : vB s = true) (ht : vB t = true) (h : t ≤ s) : mk t ≤ mk s := by
  rcases vB_cases hs with rfl | rfl | rfl | rfl <;> rcases vB_cases ht with rfl | rfl | rfl | rfl <;> simp [mk] at * <;> omega
theorem wr_modk (h : vB s = true) {k : Nat} (hk : k ≤ mk s) (x : Int) : wr s g x % 2 ^ k = x % 2 ^ k := by
  have e := wr_mod (g := g) h x
  rw [md_mk h] at e
  rw [← Int.emod_emod_of_dvd _ (dvd2 hk), e, Int.emod_emod_of_dvd _ (dvd2 hk)]
theorem wr_eq (h : vB s = true) {x y : Int} (hx : I64 x) (hy : I64 y) (e : x % 2 ^ mk s = y % 2 ^ mk s) : wr s g x = wr s g y := wr_congr h hx hy (by rw [md_mk h]; exact e)
end
end Go.Proofs.Ytdbcbmdekdfdoaa
