/- WHAT IS PROVED: the text of a number is read back as that number; wrapping twice is wrapping once. CONDITIONS: numbers of at most 64 bits; valid types. -/
import Derived.Test.YtfgmfkiknogdeaaDoorL
import Derived.Test.YtfgmfkiknogdeaaDoorP
namespace Go.Proofs.YtfgmfkiknogdeaaDoor
open Go Go.RowKit Go.QrBits

theorem dOk_digit {c : Int} (h0 : 48 ≤ c) (h1 : c ≤ 57) : dOk c = true := by simp [dOk, h0, h1]
theorem dV_digit {c : Int} (h0 : 48 ≤ c) (h1 : c ≤ 57) : dV c = c - 48 := by simp [dV, h0, h1]
/-- The digits of a number are read as that number. -/
theorem dgs_decL : ∀ (k n : Nat), n < 10 ^ (k + 1) → (n : Int) ≤ 18446744073709551615 → dgs 10 (decL n) 0 = some (n : Int)
  | 0, n, h, hm => by
    have h9 : (n : Int) < 10 := by omega
    rw [decL_lt h9]
    have e := dStep_yes (base := 10) (n := 0) (c := 48 + (n : Int) % 10) (dOk_digit (by omega) (by omega)) (by rw [dV_digit (by omega) (by omega)]; omega) (by rw [dV_digit (by omega) (by omega)]; omega)
    simp only [dgs, e, Option.bind_some]
    rw [dV_digit (by omega) (by omega)]
    congr 1; omega
  | k + 1, n, h, hm => by
    by_cases h9 : (n : Int) < 10
    · exact dgs_decL 0 n (by omega) hm
    · rw [decL_ge h9]
      have ih := dgs_decL k (n / 10) (by rw [Nat.pow_succ] at h; omega) (by omega)
      have e := dStep_yes (base := 10) (n := ((n / 10 : Nat) : Int)) (c := 48 + (n : Int) % 10) (dOk_digit (by omega) (by omega)) (by rw [dV_digit (by omega) (by omega)]; omega) (by rw [dV_digit (by omega) (by omega)]; omega)
      rw [dgs_step ih e, dV_digit (by omega) (by omega)]
      congr 1; omega
/-- The first digit. -/
theorem decL_head : ∀ (k n : Nat), n < 10 ^ (k + 1) → ∃ d l, decL n = d :: l ∧ 48 ≤ d ∧ d ≤ 57 ∧ (n ≠ 0 → d ≠ 48)
  | 0, n, h => by rw [decL_lt (by omega)]; exact ⟨_, _, rfl, by omega, by omega, by omega⟩
  | k + 1, n, h => by
    by_cases h9 : (n : Int) < 10
    · rw [decL_lt h9]; exact ⟨_, _, rfl, by omega, by omega, by omega⟩
    · rw [decL_ge h9]
      obtain ⟨d, l, hd, h1, h2, h3⟩ := decL_head k (n / 10) (by rw [Nat.pow_succ] at h; omega)
      rw [hd]
      exact ⟨d, l ++ [48 + (n : Int) % 10], by simp, h1, h2, fun _ => h3 (by omega)⟩

theorem ten20 {n : Nat} (h : (n : Int) ≤ 18446744073709551615) : n < 10 ^ (19 + 1) := by
  have : (10 : Nat) ^ (19 + 1) = 100000000000000000000 := by decide
  omega

theorem read_text {neg : Bool} {n : Nat} (hm : (n : Int) ≤ 18446744073709551615) (hneg : neg = true → n ≠ 0) :
    rOL (txL neg n) = true ∧ rNL (txL neg n) = neg ∧ rSL (txL neg n) = n := by
  obtain ⟨d, l, hd, d1, d2, d3⟩ := decL_head 19 n (ten20 hm)
  have hdg := dgs_decL 19 n (ten20 hm) hm
  have hall := decL_ok 19 n (ten20 hm)
  have hdgL : dgL 10 (decL n) = some (n : Int) := by unfold dgL; rw [hdg, hd]; rfl
  have hx : hxL (txL neg n) = false := by
    unfold hxL txL
    cases neg
    · simp only [Bool.false_eq_true, if_false, List.nil_append]
      rw [hd] at hall ⊢
      cases l with
      | nil => simp
      | cons c l =>
        have := hall c (by simp)
        simp; omega
    · simp
  have hmi : miL (txL neg n) = neg := by
    unfold miL txL
    cases neg
    · simp only [Bool.false_eq_true, if_false, List.nil_append]
      rw [hd]; simp; omega
    · simp
  have hmD : mDL (txL neg n) = decL n := by
    unfold mDL; rw [hmi]; unfold txL; cases neg <;> simp
  have hb : bad0L (txL neg n) = false := by
    unfold bad0L
    rw [hmD, hd]
    simp only [List.getD_cons_zero, Bool.and_eq_false_iff, Bool.not_eq_false', beq_eq_false_iff_ne, ne_eq, beq_iff_eq]
    by_cases h0 : n = 0
    · right
      subst h0
      cases neg
      · unfold txL; rw [decL_lt (by omega)]; rfl
      · exact absurd rfl (hneg rfl)
    · exact .inl (d3 h0)
  refine ⟨?_, ?_, ?_⟩
  · unfold rOL; rw [hx, hmD, hdgL, hb]; rfl
  · unfold rNL; rw [hx, hmD, hdgL, hb, hmi]; rfl
  · unfold rSL; rw [hx, hmD, hdgL, hb]; rfl

theorem txL_ok {neg : Bool} {n : Nat} (hm : (n : Int) ≤ 18446744073709551615) : okB (txL neg n) := by
  intro c hc
  unfold txL at hc
  rcases List.mem_append.1 hc with hc | hc
  · cases neg <;> simp at hc; omega
  · have := decL_ok 19 n (ten20 hm) c hc; omega
theorem txL_len {neg : Bool} {n : Nat} (hm : (n : Int) ≤ 18446744073709551615) : (txL neg n).length ≤ 22 := by
  unfold txL
  rw [List.length_append]
  have := decL_len 20 n (ten20 hm)
  cases neg <;> simp <;> omega

theorem wr_wr {s : Int} {g : Bool} {v : Int} (h : vB s = true) : wr s g (wr s g v) = wr s g v := by
  rcases vB_cases h with rfl | rfl | rfl | rfl <;> cases g <;> simp only [wr] <;> simp <;> omega
theorem wr_back {s1 s2 : Int} {g1 g2 : Bool} {v : Int} (h1 : vB s1 = true) (h2 : vB s2 = true) (hle : ¬ s2 < s1) : wr s1 g1 (wr s2 g2 (wr s1 g1 v)) = wr s1 g1 v := by
  rcases vB_cases h1 with rfl | rfl | rfl | rfl <;> rcases vB_cases h2 with rfl | rfl | rfl | rfl <;> first | omega | (cases g1 <;> cases g2 <;> simp only [wr] <;> simp <;> omega)

/-- The number of a value, as a pattern, is the value. -/
theorem pat_num {g : Bool} {v : Int} (hv : I64 v) : pat (nmN g v) (nmS g v) = v := by
  unfold pat nmS
  split
  · rename_i h
    unfold nmN at h
    simp at h
    unfold I64 at hv
    unfold wrap64; omega
  · unfold I64 at hv
    unfold uN wrap64; omega
theorem nm_pos {g : Bool} {v : Int} (h : nmN g v = true) : (nmS g v).toNat ≠ 0 := by
  unfold nmS; rw [if_pos h]
  unfold nmN at h; simp at h; omega

section
variable {s : Int} {g : Bool} {v : Int}
theorem txV_bts (hs : vB s = true) (hv : I64 v) : bts (txV s g v) = txL (nmN g (wr s g v)) (nmS g (wr s g v)).toNat := by
  unfold txV
  have := nmS_bd (g := g) (wr_I64 (g := g) hs hv)
  exact bts_strOf (txL_ok (by omega))
theorem txV_read (hs : vB s = true) (hv : I64 v) : rO (txV s g v) = true ∧ rN (txV s g v) = nmN g (wr s g v) ∧ rS (txV s g v) = nmS g (wr s g v) := by
  have hb := nmS_bd (g := g) (wr_I64 (g := g) hs hv)
  rw [rO_eq, rN_eq, rS_eq, txV_bts hs hv]
  have := read_text (neg := nmN g (wr s g v)) (n := (nmS g (wr s g v)).toNat) (by omega) nm_pos
  rw [this.1, this.2.1, this.2.2]
  exact ⟨rfl, rfl, Int.toNat_of_nonneg hb.1⟩
theorem txV_size (hs : vB s = true) (hv : I64 v) : (txV s g v).size ≤ maxLen := by
  have hb := nmS_bd (g := g) (wr_I64 (g := g) hs hv)
  rw [← bts_len, txV_bts hs hv]
  have := txL_len (neg := nmN g (wr s g v)) (n := (nmS g (wr s g v)).toNat) (by omega)
  unfold maxLen; omega
/-- The text of a value, read at another type. -/
theorem pv_tx {s2 : Int} {g2 : Bool} (hs : vB s = true) (hv : I64 v) : pv s2 g2 (txV s g v) = wr s2 g2 (wr s g v) := by
  obtain ⟨_, h2, h3⟩ := txV_read (g := g) hs hv
  unfold pv; rw [h2, h3, pat_num (wr_I64 hs hv)]
theorem pO_tx {s2 : Int} {g2 : Bool} (hs : vB s = true) (hv : I64 v) : pO s2 g2 (txV s g v) = ((nmN g2 (wr s2 g2 (wr s g v)) == nmN g (wr s g v)) && (nmS g2 (wr s2 g2 (wr s g v)) == nmS g (wr s g v))) := by
  obtain ⟨h1, h2, h3⟩ := txV_read (g := g) hs hv
  unfold pO; rw [pv_tx hs hv, h1, h2, h3]; rfl
end
end Go.Proofs.YtfgmfkiknogdeaaDoor
