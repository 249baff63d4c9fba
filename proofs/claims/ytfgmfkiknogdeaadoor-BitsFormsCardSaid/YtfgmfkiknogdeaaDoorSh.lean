/- WHAT IS PROVED: shifts as products and quotients by powers of 2, in the arithmetic of a promoted type. CONDITIONS: promoted types; counts below the width. -/
import Derived.Test.YtfgmfkiknogdeaaDoorRg
namespace Go.Proofs.YtfgmfkiknogdeaaDoor
open Go Go.RowKit Go.QrBits

/-- The number by which a value is shifted to the right. -/
def keyS (g : Bool) (v : Int) : Int := if g then v else uN v
theorem keyS_inj {g : Bool} {a b : Int} (ha : I64 a) (hb : I64 b) (h : keyS g a = keyS g b) : a = b := by
  unfold I64 at ha hb
  cases g
  · simp only [keyS, uN, Bool.false_eq_true, if_false] at h; omega
  · simpa [keyS] using h
/-- A promoted type's size. -/
def pB (S : Int) : Prop := S = 4 ∨ S = 8
theorem pB_pS {s : Int} (h : vB s = true) : pB (pS s) := by rcases vB_cases h with rfl | rfl | rfl | rfl <;> simp [pB, pS]
theorem pB_ok {S : Int} (h : pB S) : vB S = true := by rcases h with rfl | rfl <;> rfl
theorem wr_promS {s : Int} {g : Bool} (h : vB s = true) (v : Int) : wr (pS s) (pG s g) (wr s g v) = wr s g v := by
  rcases vB_cases h with rfl | rfl | rfl | rfl <;> cases g <;> simp [wr, pS, pG] <;> omega
/-- A value of type (S, G): a range of numbers. -/
theorem key_range {S : Int} {G : Bool} (h : pB S) {W : Int} (hi : I64 W) (hw : wr S G W = W) :
    if G then (if S = 4 then -2147483648 ≤ W ∧ W ≤ 2147483647 else I64 W) else (if S = 4 then 0 ≤ W ∧ W ≤ 4294967295 else I64 W) := by
  rcases h with rfl | rfl <;> cases G <;> simp [wr] at * <;> first | exact hi | omega
theorem key_u {W : Int} (h0 : 0 ≤ W) (h1 : W ≤ 4294967295) : uN W = W := uN_uN W h0 (by omega)
theorem div_bd {x : Int} (n : Nat) (h : 0 ≤ x) : 0 ≤ x / 2 ^ n ∧ x / 2 ^ n ≤ x :=
  ⟨Int.ediv_nonneg h (Int.le_of_lt (Int.pow_pos (by omega))), Int.ediv_le_self _ h⟩
theorem div_bd' {x lo hi : Int} (n : Nat) (h0 : lo ≤ x) (h1 : x ≤ hi) (hl : lo ≤ 0) (hh : 0 ≤ hi) : lo ≤ x / 2 ^ n ∧ x / 2 ^ n ≤ hi := by
  have hp : (0:Int) < 2 ^ n := Int.pow_pos (by omega)
  constructor
  · rw [Int.le_ediv_iff_mul_le hp]
    have : (1:Int) ≤ 2 ^ n := by omega
    have := Int.mul_le_mul_of_nonpos_left (a := lo) hl this
    omega
  · have := Int.ediv_le_ediv (a := x) (b := hi) hp h1
    have h2 := Int.ediv_le_self (a := hi) (2 ^ n) hh
    omega
/-- A number in the range of the type is left alone. -/
theorem wr_in {S : Int} {G : Bool} (h : pB S) {x : Int} (_hx : I64 x) (hr : S = 4 → if G then -2147483648 ≤ x ∧ x ≤ 2147483647 else 0 ≤ x ∧ x ≤ 4294967295) : wr S G x = x := by
  rcases h with rfl | rfl
  · have := hr rfl
    cases G <;> simp [wr] at * <;> omega
  · simp [wr]
theorem uN_wrap64 {x : Int} (h0 : 0 ≤ x) (h1 : x < 18446744073709551616) : uN (wrap64 x) = x := by unfold uN wrap64; omega
theorem I64_in4 {x : Int} (h0 : 0 ≤ x) (h1 : x ≤ 4294967295) : I64 x := by unfold I64; omega
/-- What a shift to the right gives. -/
theorem shr_key {S : Int} {G : Bool} (h : pB S) {W : Int} (hi : I64 W) (hw : wr S G W = W) (n : Int) :
    wr S G (shrV G W n) = shrV G W n ∧ keyS G (shrV G W n) = keyS G W / 2 ^ n.toNat := by
  have hr := key_range h hi hw
  cases G
  · simp only [Bool.false_eq_true, if_false, shrV, keyS] at *
    have hu := uN_bd W
    have hd := div_bd n.toNat hu.1
    have hk : uN (wrap64 (uN W / 2 ^ n.toNat)) = uN W / 2 ^ n.toNat := uN_wrap64 hd.1 (by omega)
    refine ⟨wr_in h (I64_wrap64 _) fun h4 => ?_, hk⟩
    subst h4
    simp only [if_true] at hr
    rw [key_u hr.1 hr.2]
    rw [key_u hr.1 hr.2] at hd
    have : wrap64 (W / 2 ^ n.toNat) = W / 2 ^ n.toNat := w64_in (I64_in4 hd.1 (by omega))
    simp only [Bool.false_eq_true, if_false]
    rw [this]; exact ⟨hd.1, by omega⟩
  · simp only [if_true, shrV, keyS] at *
    refine ⟨wr_in h (ediv_pow_bd W _ hi) fun h4 => ?_, trivial⟩
    subst h4
    simp only [if_true] at hr ⊢
    exact div_bd' n.toNat hr.1 hr.2 (by omega) (by omega)
theorem pow_bd {n : Int} (k : Nat) (B : Int) (hB : (2:Int) ^ k = B) (h1 : n ≤ k) : (2:Int) ^ n.toNat ≤ B := by
  have h : n.toNat ≤ k := by omega
  have : ((2 ^ n.toNat : Nat) : Int) ≤ ((2 ^ k : Nat) : Int) := Int.ofNat_le.2 (Nat.pow_le_pow_right (n := 2) (by omega) h)
  rw [← hB]
  push_cast at this
  exact this
theorem pow_pos2 (n : Nat) : (0:Int) < 2 ^ n := Int.pow_pos (by omega)
theorem wrap64_nz {x : Int} (h0 : 0 < x) (h1 : x ≤ 9223372036854775808) : ¬ wrap64 x = 0 := by unfold wrap64; omega
theorem keyS_f (v : Int) : keyS false v = uN v := by simp only [keyS, Bool.false_eq_true, if_false]
theorem keyS_t (v : Int) : keyS true v = v := by simp only [keyS, if_true]
theorem wrap64_lo {x : Int} (h0 : 0 ≤ x) (h1 : x ≤ 4611686018427387904) : wrap64 x = x := by unfold wrap64; omega
theorem pw4 {n : Int} (h1 : n < 32) : (2:Int) ^ n.toNat ≤ 2147483648 := pow_bd 31 _ (by simp) (by omega)
theorem pw4' {n : Int} (h1 : n < 31) : (2:Int) ^ n.toNat ≤ 1073741824 := pow_bd 30 _ (by simp) (by omega)
theorem pw8 {n : Int} (h1 : n < 64) : (2:Int) ^ n.toNat ≤ 9223372036854775808 := pow_bd 63 _ (by simp) (by omega)
theorem pw8' {n : Int} (h1 : n < 63) : (2:Int) ^ n.toNat ≤ 4611686018427387904 := pow_bd 62 _ (by simp) (by omega)
theorem wr4f {x : Int} (h0 : 0 ≤ x) (h1 : x ≤ 4294967295) : wr 4 false x = x := wr_in (.inl rfl) (I64_in4 h0 h1) fun _ => by simp; omega
theorem wr4t {x : Int} (h0 : 0 ≤ x) (h1 : x ≤ 2147483647) : wr 4 true x = x := wr_in (.inl rfl) (I64_in4 h0 (by omega)) fun _ => by simp; omega
theorem wr8 (g : Bool) (x : Int) : wr 8 g x = x := by simp [wr]
/-- The power of 2, as a value of the type. -/
theorem pow_val {S : Int} {G : Bool} (h : pB S) {n : Int} (h1 : n < 8 * S) (h2 : G = true → n < 8 * S - 1) :
    wr S G (wrap64 (2 ^ n.toNat)) = wrap64 (2 ^ n.toNat) ∧ keyS G (wrap64 (2 ^ n.toNat)) = 2 ^ n.toNat ∧ ¬ wrap64 ((2:Int) ^ n.toNat) = 0 := by
  have hp := pow_pos2 n.toNat
  rcases h with rfl | rfl
  · have hb := pw4 (n := n) (by omega)
    generalize hx : (2:Int) ^ n.toNat = x at *
    have e : wrap64 x = x := wrap64_lo (by omega) (by omega)
    rw [e]
    cases G
    · rw [keyS_f]
      exact ⟨wr4f (by omega) (by omega), key_u (by omega) (by omega), by omega⟩
    · have hb := pw4' (n := n) (by have := h2 rfl; omega)
      rw [hx] at hb
      rw [keyS_t]
      exact ⟨wr4t (by omega) (by omega), rfl, by omega⟩
  · have hb := pw8 (n := n) (by omega)
    generalize hx : (2:Int) ^ n.toNat = x at *
    rw [wr8]
    refine ⟨rfl, ?_, wrap64_nz hp hb⟩
    cases G
    · rw [keyS_f]; exact uN_wrap64 (by omega) (by omega)
    · have hb := pw8' (n := n) (by have := h2 rfl; omega)
      rw [hx] at hb
      rw [keyS_t]; exact wrap64_lo (by omega) hb
/-- A quotient by a power of 2. -/
theorem quo_key {S : Int} {G : Bool} (h : pB S) {W : Int} (hi : I64 W) (hw : wr S G W = W) (hpos : G = true → 0 ≤ W) {n : Int} (h1 : n < 8 * S) (h2 : G = true → n < 8 * S - 1) :
    wr S G (qV G W (wrap64 (2 ^ n.toNat))) = wr S G (shrV G W n) := by
  obtain ⟨e1, e2, e3⟩ := pow_val (G := G) h h1 h2
  cases G
  · simp only [keyS, Bool.false_eq_true, if_false] at e2
    simp only [qV, shrV, Bool.false_eq_true, if_false, e2]
  · simp only [keyS, if_true] at e2
    have hd := div_bd n.toNat (hpos rfl)
    simp only [qV, shrV, if_true, e2]
    rw [Int.tdiv_eq_ediv_of_nonneg (hpos rfl)]
    rw [w64_in (by unfold I64 at *; omega)]
/-- Two shifts to the right are one. -/
theorem shr_shr {S : Int} {G : Bool} (h : pB S) {W : Int} (hi : I64 W) (hw : wr S G W = W) {m n : Int} (h0 : 0 ≤ m) (h1 : 0 ≤ n) :
    wr S G (shrV G (wr S G (shrV G W m)) n) = wr S G (shrV G W (m + n)) := by
  obtain ⟨a1, a2⟩ := shr_key h hi hw m
  rw [a1]
  obtain ⟨b1, b2⟩ := shr_key h (shrV_I64 hi) a1 n
  obtain ⟨c1, c2⟩ := shr_key h hi hw (m + n)
  rw [b1, c1]
  refine keyS_inj (g := G) (shrV_I64 (shrV_I64 hi)) (shrV_I64 hi) ?_
  rw [b2, a2, c2, show (m + n).toNat = m.toNat + n.toNat by omega, Int.pow_add, Int.ediv_ediv, if_neg (by have := pow_pos2 m.toNat; omega), Int.sub_zero]
/-- A shift to the left is a product. -/
theorem shl_mul {S : Int} {G : Bool} (h : pB S) (W : Int) (n : Nat) : wr S G (wrap64 (W * 2 ^ n)) = wr S G (wrap64 (W * wr S G (wrap64 (2 ^ n)))) := by
  have hv := pB_ok h
  refine wr_eq hv (I64_wrap64 _) (I64_wrap64 _) ?_
  have hl := mk_le S
  rw [wrap64_modk hl, wrap64_modk hl, Int.mul_emod, Int.mul_emod W (wr S G _), wr_modk hv (Nat.le_refl _), wrap64_modk hl]
theorem shl_shl {S : Int} {G : Bool} (h : pB S) (W : Int) {m n : Int} (h0 : 0 ≤ m) (h1 : 0 ≤ n) :
    wr S G (wrap64 (wr S G (wrap64 (W * 2 ^ m.toNat)) * 2 ^ n.toNat)) = wr S G (wrap64 (W * 2 ^ (m + n).toNat)) := by
  have hv := pB_ok h
  refine wr_eq hv (I64_wrap64 _) (I64_wrap64 _) ?_
  have hl := mk_le S
  rw [wrap64_modk hl, wrap64_modk hl, Int.mul_emod, wr_modk hv (Nat.le_refl _), wrap64_modk hl, ← Int.mul_emod, show (m + n).toNat = m.toNat + n.toNat by omega, Int.pow_add, Int.mul_assoc]
/-- The count of a shift, where it is below the width. -/
theorem ct_in {S n : Int} (h : pB S) (h0 : 0 ≤ n) (h1 : n < 8 * S) : ctV S (wr 4 true n) = n := by
  have e : wr 4 true n = n := by rcases h with rfl | rfl <;> simp [wr] <;> omega
  rw [e]; unfold ctV
  rw [uN_uN n h0 (by rcases h with rfl | rfl <;> omega)]
  exact Int.emod_eq_of_lt h0 h1
end Go.Proofs.YtfgmfkiknogdeaaDoor
