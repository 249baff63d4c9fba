/- WHAT IS PROVED: taplinelaw03.MemFaults answers true, for every space, part and word. CONDITIONS: the arguments read as lists of numbers. -/
import Derived.Test.YtdbcbmdekdfdoaaMf
namespace Go.Proofs.Ytdbcbmdekdfdoaa
open Go Go.RowKit Go.QrBits Go.QrMem

section
variable {a : Option Addr} {c : Nat} {a2 : Option Addr} {c2 : Nat} {perm bytes : List Int}
theorem acc_ok {t q : Int} {n : Nat} (hc : chk perm bytes.length = true) (hn : n ≤ 2048) (ht : I64 t) (hq : q = 1 ∨ q = 2 ∨ q = 4) :
    AccG a c a2 c2 perm bytes t n q (fK perm bytes t q n) (fX perm bytes t q n) 0 := by
  intro w hs
  rcases hq with rfl | rfl | rfl
  · exact access_r a c a2 c2 perm bytes t n w hs hc hn ht
  · exact access_w a c a2 c2 perm bytes t n w hs hc hn ht
  · exact access_x a c a2 c2 perm bytes t n w hs hc hn ht
theorem load_ok {t : Int} {n : Nat} {g : Bool} (hc : chk perm bytes.length = true) (hv : vB (n : Int) = true) (ht : I64 t) (hok : okB bytes) :
    ∃ r : Int, LoadG a c a2 c2 perm bytes t n g r (fK perm bytes t 1 n) (fX perm bytes t 1 n) 0 ∧ (kN perm bytes t 1 n = n → r = ldV n g bytes t) := by
  by_cases hk : kN perm bytes t 1 n < n
  · exact ⟨0, fun w hs => load_f a c a2 c2 perm bytes t n g w hs hc hv ht hk, fun h => by omega⟩
  · have hk' : kN perm bytes t 1 n = n := by have := lead_le (fun i => good perm bytes 1 (t + i)) n; unfold kN at hk ⊢; omega
    refine ⟨ldV n g bytes t, fun w hs => ?_, fun _ => rfl⟩
    rw [fK, fX, if_neg hk, if_neg hk]
    exact load_y a c a2 c2 perm bytes t n g w hs hc hv ht hok hk'
theorem store_ok {t v : Int} {n : Nat} {g : Bool} (hc : chk perm bytes.length = true) (hv : vB (n : Int) = true) (ht : I64 t) :
    StoreG a c a2 c2 perm bytes t n g v (fK perm bytes t 2 n) (fX perm bytes t 2 n) 0 := by
  intro w hs
  by_cases hk : kN perm bytes t 2 n < n
  · exact (store_f a c a2 c2 perm bytes t v n g w hs hc hv ht hk).mono fun e w' ⟨he, hb⟩ => ⟨none, 0, 0, none, 0, 0, he, hb⟩
  · have hk' : kN perm bytes t 2 n = n := by have := lead_le (fun i => good perm bytes 2 (t + i)) n; unfold kN at hk ⊢; omega
    rw [fK, fX, if_neg hk, if_neg hk]
    refine (store_y a c a2 c2 perm bytes t v n g w hs hc hv ht hk').mono fun e w' h => ?_
    obtain ⟨a, c, a2, c2, he, _, _, hb⟩ := spOut3_of h
    exact ⟨a, _, c, a2, _, c2, he, hb⟩
theorem kN_le (perm bytes : List Int) (t q : Int) (n : Nat) : kN perm bytes t q n ≤ n := lead_le _ _
theorem kN_all {t q : Int} {n i : Nat} (h : i < kN perm bytes t q n) : good perm bytes q (t + i) = true := lead_all _ n i h
theorem kN_stop {t q : Int} {n : Nat} (h : kN perm bytes t q n < n) : good perm bytes q (t + (kN perm bytes t q n : Nat)) = false := lead_stop _ n h
theorem good_range {q x : Int} (h : good perm bytes q x = true) : 0 ≤ x ∧ x < bytes.length := by
  simp only [good, Bool.and_eq_true, decide_eq_true_eq] at h; exact h.1
theorem w64_at {t q : Int} {n i : Nat} (hc : chk perm bytes.length = true) (ht : I64 t) (hi : i ≤ kN perm bytes t q n) : wrap64 (t + (i : Int)) = t + i := by
  refine w64_in ?_
  cases i with
  | zero => simpa using ht
  | succ i =>
    have h1 := good_range (kN_all (i := i) (n := n) hi)
    have h2 := chk_len4 hc
    unfold I64; omega
theorem vB_nat {s : Int} (h : vB s = true) : ∃ n : Nat, s = n ∧ n ≤ 8 := by
  rcases vB_cases h with rfl | rfl | rfl | rfl
  · exact ⟨1, rfl, by omega⟩
  · exact ⟨2, rfl, by omega⟩
  · exact ⟨4, rfl, by omega⟩
  · exact ⟨8, rfl, by omega⟩
theorem one_at {t q : Int} {n i : Nat} (hi : i < n) (hk : i ≤ kN perm bytes t q n) :
    fK perm bytes (t + i) q 1 = (if kN perm bytes t q n < i + 1 then fK perm bytes t q n else 0) ∧ fX perm bytes (t + i) q 1 = (if kN perm bytes t q n < i + 1 then fX perm bytes t q n else 0) := by
  by_cases h : i < kN perm bytes t q n
  · have h1 : kN perm bytes (t + i) q 1 = 1 := lead_uniq _ 1 1 (Nat.le_refl _) (fun j hj => by
      obtain rfl : j = 0 := by omega
      simpa using kN_all h) (fun h => by omega)
    rw [if_neg (by omega), if_neg (by omega)]
    simp only [fK, fX, h1]
    exact ⟨if_neg (by omega), if_neg (by omega)⟩
  · have e : kN perm bytes t q n = i := by omega
    have hlt : kN perm bytes t q n < n := by omega
    have h1 : kN perm bytes (t + i) q 1 = 0 := lead_uniq _ 1 0 (by omega) (fun j hj => by omega) (fun _ => by have := kN_stop hlt; rw [e] at this; simpa using this)
    rw [if_pos (by omega), if_pos (by omega)]
    simp only [fK, fX, h1, e, if_pos hi]
    simp
end
theorem memFaults_walk (a : Option Addr) (c : Nat) (a2 : Option Addr) (c2 : Nat) (perm bytes : List Int) (t n q at' s v : Int) (g : Bool) (w : World) (hS : SpIn w a c a2 c2 perm bytes) (hok : okB bytes) (ht : I64 t) (hat : I64 at') :
    Calls Try.prog 9 #[.agg #[.slice a perm.length c, .slice a2 bytes.length c2], .agg #[.int .i64 t, .int .i64 n, .int .i64 q], .agg #[.int .i64 at', .int .i64 s, .bool g, .int .i64 v]] w fun e w' => e = .returned (.bool true) ∧ Below w.heap.size w w' := by
  cases hc : chk perm bytes.length with
  | false => exact mf_a a c a2 c2 perm bytes t n q at' s v 30 g w hS (fun w hs => access_n a c a2 c2 perm bytes t n q w hs hc) rfl
  | true =>
  by_cases hn : n < 0 ∨ 2048 < n
  · exact mf_a a c a2 c2 perm bytes t n q at' s v 1 g w hS (fun w hs => access_p a c a2 c2 perm bytes t n q w hs hc hn) rfl
  obtain ⟨n, rfl⟩ := Int.eq_ofNat_of_zero_le (show 0 ≤ n by omega)
  have hn' : n ≤ 2048 := by omega
  by_cases hq : q = 1 ∨ q = 2 ∨ q = 4
  rotate_left
  · exact mf_a a c a2 c2 perm bytes t n q at' s v 1 g w hS (fun w hs => access_q a c a2 c2 perm bytes t n q w hs hc hn' (by simp; omega) (by simp; omega) (by simp; omega)) rfl
  have hA : AccG a c a2 c2 perm bytes t n q _ _ 0 := acc_ok hc hn' ht hq
  have hSt : ∀ i : Nat, i < n → (if kN perm bytes t q n < i then fK perm bytes t q n else 0) = 0 → AccG a c a2 c2 perm bytes (wrap64 (t + (i : Int))) 1 q (if kN perm bytes t q n < i + 1 then fK perm bytes t q n else 0) (if kN perm bytes t q n < i + 1 then fX perm bytes t q n else 0) 0 := by
    intro i hi h0
    have hk : i ≤ kN perm bytes t q n := by
      by_cases h : kN perm bytes t q n < i
      · rw [if_pos h] at h0
        have := fK_ne (perm := perm) (bytes := bytes) (t := t) (need := q) (n := n) (by omega)
        rw [h0] at this; cases this
      · omega
    have hw := w64_at hc ht hk
    obtain ⟨e1, e2⟩ := one_at hi hk
    rw [← e1, ← e2, hw]
    refine acc_ok (n := 1) hc (by omega) ?_ hq
    rw [← hw]; exact I64_wrap64 _
  have hEn : (if kN perm bytes t q n < n then fK perm bytes t q n else 0) = fK perm bytes t q n ∧ (if kN perm bytes t q n < n then fX perm bytes t q n else 0) = fX perm bytes t q n := by
    by_cases h : kN perm bytes t q n < n
    · rw [if_pos h, if_pos h]; exact ⟨rfl, rfl⟩
    · rw [if_neg h, if_neg h, fK, fX, if_neg h, if_neg h]; exact ⟨rfl, rfl⟩
  have hSp : ∀ i : Nat, i ≤ n → (if kN perm bytes t q n < i then fK perm bytes t q n else 0) ≠ 0 → (if kN perm bytes t q n < i then fK perm bytes t q n else 0) = fK perm bytes t q n ∧ (if kN perm bytes t q n < i then fX perm bytes t q n else 0) = fX perm bytes t q n := by
    intro i _ h
    by_cases h1 : kN perm bytes t q n < i
    · rw [if_pos h1, if_pos h1]; exact ⟨rfl, rfl⟩
    · rw [if_neg h1] at h; exact (h rfl).elim
  cases hv : vB s with
  | false =>
    exact mf_b a c a2 c2 perm bytes t q at' s v _ _ 0 0 0 0 n g w hS hn' hA (fun i => if kN perm bytes t q n < i then fK perm bytes t q n else 0) (fun i => if kN perm bytes t q n < i then fX perm bytes t q n else 0) (if_neg (by omega)) (if_neg (by omega)) hSt hEn hSp
      (fun w hs => load_p a c a2 c2 perm bytes at' s g w hs hc hv) (fun w hs => (store_p a c a2 c2 perm bytes at' s v g w hs hc hv).mono fun e w' ⟨he, hb⟩ => ⟨none, 0, 0, none, 0, 0, he, hb⟩)
  | true =>
    obtain ⟨m, rfl, hm⟩ := vB_nat hv
    obtain ⟨r, hL, _⟩ := load_ok (a := a) (c := c) (a2 := a2) (c2 := c2) (perm := perm) (t := at') (g := g) hc hv hat hok
    exact mf_c a c a2 c2 perm bytes t q at' m v r _ _ _ _ _ _ n g w hS hn' hA (fun i => if kN perm bytes t q n < i then fK perm bytes t q n else 0) (fun i => if kN perm bytes t q n < i then fX perm bytes t q n else 0) (if_neg (by omega)) (if_neg (by omega)) hSt hEn hSp
      hL (store_ok hc hv hat) (acc_ok hc (by omega) hat (by simp)) (acc_ok hc (by omega) hat (by simp))
end Go.Proofs.Ytdbcbmdekdfdoaa
