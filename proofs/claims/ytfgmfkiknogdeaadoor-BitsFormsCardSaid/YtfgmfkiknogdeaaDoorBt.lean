/- WHAT IS PROVED: the text of the number that a decimal string represents is the string. CONDITIONS: the string is one that Parse takes, and not a hexadecimal one. -/
import Derived.Test.YtfgmfkiknogdeaaDoorRb
import Derived.Test.YtfgmfkiknogdeaaDoorP
namespace Go.Proofs.YtfgmfkiknogdeaaDoor
open Go Go.RowKit Go.QrBits

theorem dec_digit {c : Int} (h1 : dOk c = true) (h2 : dV c < 10) : 48 ≤ c ∧ c ≤ 57 ∧ dV c = c - 48 := by
  unfold dOk at h1
  unfold dV at h2 ⊢
  by_cases h : 48 ≤ c ∧ c ≤ 57
  · rw [if_pos h]; exact ⟨h.1, h.2, rfl⟩
  · rw [if_neg h] at h2
    by_cases h3 : 97 ≤ c ∧ c ≤ 102
    · rw [if_pos h3] at h2; omega
    · rw [if_neg h3] at h2
      by_cases h4 : 65 ≤ c ∧ c ≤ 70
      · rw [if_pos h4] at h2; omega
      · exfalso
        simp only [Bool.or_eq_true, Bool.and_eq_true, decide_eq_true_eq] at h1
        rcases h1 with (h1 | h1) | h1
        · exact h h1
        · exact h3 h1
        · exact h4 h1
theorem dStep_some {n c m : Int} (h : dStep 10 n c = some m) : 48 ≤ c ∧ c ≤ 57 ∧ m = n * 10 + (c - 48) := by
  unfold dStep at h
  split at h
  · cases h
  · rename_i hc
    simp only [Bool.or_eq_true, Bool.not_eq_true', decide_eq_true_eq, not_or, Bool.not_eq_false] at hc
    obtain ⟨⟨h1, h2⟩, _⟩ := hc
    obtain ⟨a, b, e⟩ := dec_digit h1 (by omega)
    cases h
    exact ⟨a, b, by rw [e]⟩
theorem dgs_one (base c : Int) : dgs base [c] 0 = dStep base 0 c := by
  show (dStep base 0 c).bind _ = _
  cases dStep base 0 c <;> rfl
/-- Digits are the decimal digits of their number. -/
theorem dec_back : ∀ (k : Nat) (l : List Int) (m : Int), l.length = k → l ≠ [] → (l = [48] ∨ l.getD 0 0 ≠ 48) → dgs 10 l 0 = some m → 0 ≤ m ∧ decL m.toNat = l
  | 0, l, _, hk, hne, _, _ => absurd (List.length_eq_zero_iff.1 hk) hne
  | k + 1, l, m, hk, hne, hz, h => by
    obtain ⟨l', c, rfl⟩ : ∃ l' c, l = l' ++ [c] := ⟨l.dropLast, l.getLast hne, (List.dropLast_concat_getLast hne).symm⟩
    by_cases he : l' = []
    · subst he
      rw [List.nil_append, dgs_one] at h
      obtain ⟨a, b, rfl⟩ := dStep_some h
      refine ⟨by omega, ?_⟩
      rw [decL_lt (by omega), List.nil_append]
      congr 1; omega
    · have hlen : l'.length = k := by simp at hk; exact hk
      obtain ⟨d, l2, rfl⟩ : ∃ d l2, l' = d :: l2 := by cases l' with
        | nil => exact absurd rfl he
        | cons d l2 => exact ⟨d, l2, rfl⟩
      have hd : d ≠ 48 := by
        rcases hz with hz | hz
        · exfalso; have := congrArg List.length hz; simp at this
        · simpa using hz
      rw [dgs_append] at h
      cases hm : dgs 10 (d :: l2) 0 with
      | none => rw [hm] at h; cases h
      | some m' =>
        rw [hm] at h
        obtain ⟨i0, i1⟩ := dec_back k (d :: l2) m' hlen he (.inr (by simpa using hd)) hm
        have h2 : dStep 10 m' c = some m := by
          have : dgs 10 [c] m' = some m := h
          have e : dgs 10 [c] m' = dStep 10 m' c := by
            show (dStep 10 m' c).bind _ = _
            cases dStep 10 m' c <;> rfl
          rwa [e] at this
        obtain ⟨a, b, rfl⟩ := dStep_some h2
        have hpos : m' ≠ 0 := by
          intro e
          subst e
          have : decL 0 = [48] := by rw [show (0 : Nat) = 0 from rfl, decL_lt (by omega)]; rfl
          rw [show (0 : Int).toNat = 0 from rfl, this] at i1
          cases i1; exact hd rfl
        refine ⟨by omega, ?_⟩
        have e1 : (m' * 10 + (c - 48)).toNat / 10 = m'.toNat := by omega
        rw [decL_ge (by omega), e1, i1]
        congr 1
        congr 1; omega
theorem bts_ok (s : ByteArray) : okB (bts s) := by
  intro n hn
  obtain ⟨b, _, rfl⟩ := List.mem_map.1 hn
  have := b.toNat_lt
  omega
/-- The text of a decimal string's number. -/
theorem dec_text {str : ByteArray} (hO : rO str = true) (hx : hxL (bts str) = false) : txL (rN str) (rS str).toNat = bts str := by
  rw [rO_eq] at hO
  rw [rN_eq, rS_eq]
  generalize bts str = l at *
  unfold rOL at hO
  rw [hx] at hO
  simp only [Bool.false_eq_true, if_false] at hO
  by_cases hs : (dgL 10 (mDL l)).isSome = true
  case neg => rw [if_neg hs] at hO; cases hO
  rw [if_pos hs] at hO
  have hb : bad0L l = false := by simpa using hO
  unfold rNL rSL
  rw [hx, hb]
  simp only [Bool.false_eq_true, if_false, hs, if_true]
  obtain ⟨m, hm⟩ := Option.isSome_iff_exists.1 hs
  rw [hm]
  have hne : mDL l ≠ [] := by
    intro e
    rw [e] at hm
    cases hm
  have hd : dgs 10 (mDL l) 0 = some m := by
    unfold dgL at hm
    rwa [if_neg (by simpa using hne)] at hm
  have hz : mDL l = [48] ∨ (mDL l).getD 0 0 ≠ 48 := by
    unfold bad0L at hb
    simp only [Bool.and_eq_false_iff, beq_eq_false_iff_ne, Bool.not_eq_false', beq_iff_eq] at hb
    rcases hb with h | h
    · exact .inr h
    · subst h; exact .inl rfl
  obtain ⟨_, e⟩ := dec_back _ _ _ rfl hne hz hd
  show (if miL l then [45] else []) ++ decL m.toNat = l
  rw [e]
  unfold mDL
  by_cases hmi : miL l = true
  · rw [if_pos hmi, if_pos hmi]
    unfold miL at hmi
    have := List.take_append_drop 1 l
    rw [beq_iff_eq.1 hmi] at this
    exact this
  · rw [if_neg hmi, if_neg hmi]; rfl
theorem strOf_bts (str : ByteArray) : strOf (bts str) = str := ba_ext (bts_strOf (bts_ok str))
/-- Text of what Parse returns. -/
theorem text_back {s : Int} {g : Bool} (h : vB s = true) {str : ByteArray} (hO : pO s g str = true) (hx : hxL (bts str) = false) : txV s g (pv s g str) = str := by
  unfold pO at hO
  simp only [Bool.and_eq_true, beq_iff_eq] at hO
  obtain ⟨h1, h2, h3⟩ := hO
  have e : wr s g (pv s g str) = pv s g str := wr_wr h
  unfold txV
  rw [e, h2, h3, dec_text h1 hx, strOf_bts]
end Go.Proofs.YtfgmfkiknogdeaaDoor
