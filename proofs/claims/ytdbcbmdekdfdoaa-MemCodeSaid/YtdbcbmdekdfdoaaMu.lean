/- WHAT IS PROVED: taplinelaw03.MemStrings answers true, for every space and part. CONDITIONS: the arguments read as lists of numbers. -/
import Derived.Test.YtdbcbmdekdfdoaaMt
import Derived.Test.YtdbcbmdekdfdoaaMg
namespace Go.Proofs.Ytdbcbmdekdfdoaa
open Go Go.RowKit Go.QrBits Go.QrMem

theorem rd_take {B : List Int} {t : Int} {k n : Nat} (h : k ≤ n) : (rd B t n).take k = rd B t k := by
  unfold rd
  rw [← List.map_take, List.take_range, Nat.min_eq_left h]
theorem zi_none {b : List Int} (h : ∀ x ∈ b, x ≠ 0) : zi b = -1 := by
  rcases zi_cases b with ⟨h1, _⟩ | ⟨k, _, h2, h3, _⟩
  · exact h1
  · exact (h 0 (List.mem_of_getElem? h3) rfl).elim
theorem zi_first {b : List Int} {k : Nat} (h0 : b[k]? = some 0) (h : ∀ x ∈ b.take k, x ≠ 0) : zi b = k := by
  rcases zi_cases b with ⟨_, h2⟩ | ⟨j, h1, h2, h3, h4⟩
  · exact (h2 0 (List.mem_of_getElem? h0) rfl).elim
  · rcases Nat.lt_trichotomy j k with hl | hl | hl
    · exact (h 0 (List.mem_of_getElem? (i := j) (by rw [List.getElem?_take_of_lt hl]; exact h3)) rfl).elim
    · rw [h1, hl]
    · exact (h4 0 (List.mem_of_getElem? (i := k) (by rw [List.getElem?_take_of_lt hl]; exact h0)) rfl).elim
theorem good_any {P B : List Int} {x : Int} (h : good P B 1 x = true) : good P B 0 x = true := by
  simp only [good, Bool.and_eq_true, decide_eq_true_eq] at h ⊢
  refine ⟨h.1, ?_⟩
  have h2 := h.2
  cases hp : P[x.toNat / 64]? with
  | none => rw [hp] at h2; cases h2
  | some q => show mayB q 0 = true; unfold mayB; simp [bits]; decide
theorem kN_any {P B : List Int} {t : Int} {k n : Nat} (h : k ≤ kN P B t 1 n) : kN P B t 0 k = k :=
  lead_uniq _ k k (Nat.le_refl _) (fun j hj => good_any (kN_all (Nat.lt_of_lt_of_le hj h))) (fun h => by omega)
theorem kN_succ (P B : List Int) (t q : Int) (n : Nat) : (kN P B t q n < n → kN P B t q (n + 1) = kN P B t q n) ∧ (kN P B t q n = n → kN P B t q (n + 1) = n ∨ kN P B t q (n + 1) = n + 1) := by
  refine ⟨fun h => ?_, fun h => ?_⟩
  · show lead _ (n + 1) = _; rw [lead]; exact if_pos h
  · have : kN P B t q (n + 1) = if kN P B t q n < n then kN P B t q n else if good P B q (t + (n : Int)) then n + 1 else n := rfl
    rw [this, if_neg (by omega)]
    split
    · exact .inr rfl
    · exact .inl rfl
theorem str_nz {L : List Int} (hok : okB L) (h : ∀ x ∈ L, x ≠ 0) : ∀ (i : Nat) (hi : i < (strB L).size), ((((strB L)[i]'hi).toNat : Int) == 0) = false := by
  intro i hi
  have hi' : i < L.length := by rw [strB_size] at hi; exact hi
  have e : ((strB L)[i]'hi) = UInt8.ofNat (L[i]).toNat := by
    show ((L.map fun n => UInt8.ofNat n.toNat).toArray)[i]'(by simpa using hi') = _
    rw [List.getElem_toArray, List.getElem_map]
  have h1 := hok L[i] (List.getElem_mem hi')
  have h2 := h L[i] (List.getElem_mem hi')
  rw [e]
  refine beq_eq_false_iff_ne.2 ?_
  simp only [UInt8.toNat_ofNat']
  omega
theorem str_pre (L M : List Int) : (((strB (L ++ M)).extract 0 (strB L).size).toList == (strB L).toList) = true := by
  rw [ByteArray.toList_eq, ByteArray.toList_eq, strB_size]
  simp [strB, ByteArray.extract, ByteArray.copySlice]
theorem str_pre0 (L : List Int) : (((strB L).extract 0 (strB L).size).toList == (strB L).toList) = true := by
  have := str_pre L []
  rwa [List.append_nil] at this
theorem memStrings_walk (a : Option Addr) (c : Nat) (a2 : Option Addr) (c2 : Nat) (P B : List Int) (t n q : Int) (w : World) (hS : SpIn w a c a2 c2 P B) (hok : okB B) (ht : I64 t) :
    Calls Try.prog 13 #[.agg #[.slice a P.length c, .slice a2 B.length c2], .agg #[.int .i64 t, .int .i64 n, .int .i64 q]] w fun e w' => e = .returned (.bool true) ∧ Below w.heap.size w w' := by
  cases hc : chk P B.length with
  | false => exact mt_a a c a2 c2 P B t q w hS n ⟨#[]⟩ 0 0 30 (fun w hs => string_n a c a2 c2 P B t n w hs hc) rfl
  | true =>
  by_cases hlo : n < 0
  · exact mt_a a c a2 c2 P B t q w hS n ⟨#[]⟩ 0 0 1 (fun w hs => string_lo a c a2 c2 P B t n w hs hc hlo) rfl
  by_cases hhi : 64 < n
  · exact mt_a a c a2 c2 P B t q w hS n ⟨#[]⟩ 0 0 1 (fun w hs => string_hi a c a2 c2 P B t n w hs hc hhi) rfl
  obtain ⟨n, rfl⟩ := Int.eq_ofNat_of_zero_le (show 0 ≤ n by omega)
  have hn : n ≤ 64 := by omega
  have hkn := kN_le P B t 1 n
  obtain ⟨ks, kt⟩ := kN_succ P B t 1 n
  have okr := fun k => rd_ok hok t k
  have pk : ∀ k : Nat, k ≤ kN P B t 1 n → ∀ L : List Int, L = rd B t k → PkG a c a2 c2 P B t ((strB L).size : Int) L := by
    intro k hk L hL w hs
    have hl : (strB L).size = k := by rw [strB_size, hL, rd_len]
    rw [hl, hL]
    have h3 := peek_y a c a2 c2 P B t k w hs hc (by omega) ht (kN_any hk)
    rwa [kN_any hk] at h3
  have hB1 : ¬ n + 1 ≤ 64 → StrG a c a2 c2 P B t ((n : Int) + 1) ⟨#[]⟩ 0 0 1 := fun h w hs => string_hi a c a2 c2 P B t ((n : Int) + 1) w hs hc (by omega)
  rcases zi_cases (rd B t (kN P B t 1 n)) with ⟨hz, hnz⟩ | ⟨k, hzk, hkl, hk0, hnz⟩
  · by_cases hk : kN P B t 1 n < n
    · exact mt_b a c a2 c2 P B t q w hS n ⟨#[]⟩ _ _ (fun w hs => string_f a c a2 c2 P B t n w hs hc hn ht (okr _) hz hk) (fK_ne hk)
    · have hk' : kN P B t 1 n = n := by omega
      have hA : StrG a c a2 c2 P B t (n : Int) (strB (rd B t n)) 0 0 0 := fun w hs => by
        have := string_y a c a2 c2 P B t n w hs hc hn ht (okr _) hz hk'
        rwa [hk'] at this
      rw [hk'] at hz hnz
      have hsz : (strB (rd B t n)).size = n := by rw [strB_size, rd_len]
      have hp := pk n (by omega) (rd B t n) rfl
      by_cases h1 : n + 1 ≤ 64
      · rcases kt hk' with e | e
        · have hB : StrG a c a2 c2 P B t ((n : Int) + 1) ⟨#[]⟩ (fK P B t 1 (n + 1)) (wrap64 (t + (n : Int))) 0 := fun w hs => by
            have h2 := string_f a c a2 c2 P B t (n + 1) w hs hc h1 ht (okr _) (by rw [e]; exact hz) (by omega)
            have hw := w64_at (q := 1) (n := n + 1) (i := n) hc ht (by omega)
            have hfx : fX P B t 1 (n + 1) = wrap64 (t + (n : Int)) := by rw [hw, fX, if_pos (by omega), e]
            rw [hfx] at h2
            exact h2
          exact mt_c2 a c a2 c2 P B t q w hS n _ ⟨#[]⟩ _ hn (by omega) hA (str_nz (okr n) hnz) rfl (okr n) hp _ hB (fK_ne (by omega)) hsz
        · have hrd : rd B t (n + 1) = rd B t n ++ [B[(t + (n : Int)).toNat]?.getD 0] := rd_succ B t n
          by_cases hy : B[(t + (n : Int)).toNat]?.getD 0 = 0
          · have hzz : zi (rd B t (n + 1)) = n := by
              refine zi_first ?_ (by rw [rd_take (by omega)]; exact hnz)
              rw [hrd, List.getElem?_append_right (by rw [rd_len]; exact Nat.le_refl _), rd_len, hy]; simp
            have hB : StrG a c a2 c2 P B t ((n : Int) + 1) (strB (rd B t n)) 0 0 0 := fun w hs => by
              have h2 := string_z a c a2 c2 P B t (n + 1) w hs hc h1 ht (okr _) n (by rw [e]; exact hzz) (by rw [e, rd_len]; omega)
              rw [e, rd_take (by omega)] at h2
              exact h2
            exact mt_c3 a c a2 c2 P B t q w hS n _ _ _ hn (by omega) hA (str_nz (okr n) hnz) rfl (okr n) hp hB (Nat.le_refl _) (str_pre0 _) hsz
          · have hzz : zi (rd B t (n + 1)) = -1 := by
              refine zi_none fun x hx => ?_
              rw [hrd, List.mem_append] at hx
              rcases hx with hx | hx
              · exact hnz x hx
              · rw [List.mem_singleton] at hx; rw [hx]; exact hy
            have hB : StrG a c a2 c2 P B t ((n : Int) + 1) (strB (rd B t (n + 1))) 0 0 0 := fun w hs => by
              have h2 := string_y a c a2 c2 P B t (n + 1) w hs hc h1 ht (okr _) (by rw [e]; exact hzz) e
              rw [e] at h2
              exact h2
            refine mt_c3 a c a2 c2 P B t q w hS n _ _ _ hn (by omega) hA (str_nz (okr n) hnz) rfl (okr n) hp hB ?_ ?_ hsz
            · rw [strB_size, strB_size, rd_len, rd_len]; omega
            · rw [hrd]; exact str_pre _ _
      · exact mt_c1 a c a2 c2 P B t q w hS n _ ⟨#[]⟩ _ hn (by omega) hA (str_nz (okr n) hnz) rfl (okr n) hp (hB1 h1)
  · rw [rd_len] at hkl
    have hA : StrG a c a2 c2 P B t (n : Int) (strB (rd B t k)) 0 0 0 := fun w hs => by
      have := string_z a c a2 c2 P B t n w hs hc hn ht (okr _) k hzk (by rw [rd_len]; exact hkl)
      rwa [rd_take (by omega)] at this
    rw [rd_take (by omega)] at hnz
    have hsz : (strB (rd B t k)).size = k := by rw [strB_size, rd_len]
    have hp := pk k (by omega) (rd B t k) rfl
    by_cases h1 : n + 1 ≤ 64
    · have hkk : kN P B t 1 n ≤ kN P B t 1 (n + 1) := by
        by_cases h : kN P B t 1 n < n
        · rw [ks h]; exact Nat.le_refl _
        · rcases kt (by omega) with e | e <;> omega
      have hk0' : (rd B t (kN P B t 1 (n + 1)))[k]? = some 0 := by
        rw [← rd_take hkk, List.getElem?_take_of_lt hkl] at hk0; exact hk0
      have hzz : zi (rd B t (kN P B t 1 (n + 1))) = k := zi_first hk0' (by rw [rd_take (by omega)]; exact hnz)
      have hB : StrG a c a2 c2 P B t ((n : Int) + 1) (strB (rd B t k)) 0 0 0 := fun w hs => by
        have h2 := string_z a c a2 c2 P B t (n + 1) w hs hc h1 ht (okr _) k hzz (by rw [rd_len]; omega)
        rw [rd_take (by omega)] at h2
        exact h2
      exact mt_c4 a c a2 c2 P B t q w hS n _ _ _ hn (by omega) hA (str_nz (okr k) hnz) rfl (okr k) hp hB (Nat.le_refl _) (str_pre0 _) (by omega) (by simp)
    · exact mt_c1 a c a2 c2 P B t q w hS n _ ⟨#[]⟩ _ hn (by omega) hA (str_nz (okr k) hnz) rfl (okr k) hp (hB1 h1)
end Go.Proofs.Ytdbcbmdekdfdoaa
