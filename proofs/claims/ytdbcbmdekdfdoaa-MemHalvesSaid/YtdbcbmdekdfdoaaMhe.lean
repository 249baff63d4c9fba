/- WHAT IS PROVED: taplinelaw03.MemHalves answers true, for every space and word. CONDITIONS: the arguments read as lists of numbers. -/
import Derived.Test.YtdbcbmdekdfdoaaMha
import Derived.Test.YtdbcbmdekdfdoaaMhb
import Derived.Test.YtdbcbmdekdfdoaaMhc
import Derived.Test.YtdbcbmdekdfdoaaMhd
import Derived.Test.YtdbcbmdekdfdoaaMb
namespace Go.Proofs.Ytdbcbmdekdfdoaa
open Go Go.RowKit Go.QrBits Go.QrMem

theorem half_all {P B : List Int} {t q : Int} {h : Nat} (hk : kN P B t q (h + h) = h + h) : kN P B t q h = h ∧ kN P B (t + (h : Int)) q h = h :=
  ⟨lead_uniq _ h h (Nat.le_refl _) (fun j hj => kN_all (n := h + h) (i := j) (by omega)) (fun h => by omega),
   lead_uniq _ h h (Nat.le_refl _) (fun j hj => by
     have := kN_all (perm := P) (bytes := B) (t := t) (q := q) (n := h + h) (i := h + j) (by omega)
     rwa [Int.natCast_add, ← Int.add_assoc] at this) (fun h => by omega)⟩
theorem all_half {P B : List Int} {t q : Int} {h : Nat} (h1 : kN P B t q h = h) (h2 : kN P B (t + (h : Int)) q h = h) : kN P B t q (h + h) = h + h :=
  lead_uniq _ (h + h) (h + h) (Nat.le_refl _) (fun j hj => by
    by_cases hj2 : j < h
    · exact kN_all (n := h) (i := j) (by omega)
    · obtain ⟨i, rfl⟩ : ∃ i, j = h + i := ⟨j - h, by omega⟩
      have := kN_all (perm := P) (bytes := B) (t := t + (h : Int)) (q := q) (n := h) (i := i) (by omega)
      show good P B q (t + ((h + i : Nat) : Int)) = true
      rwa [Int.natCast_add, ← Int.add_assoc]) (fun h => by omega)
theorem rd_halves (B : List Int) (t : Int) (h m : Nat) : rd B t (h + m) = rd B t h ++ rd B (t + (h : Int)) m := by
  refine List.ext_getElem (by simp [rd_len]) fun j h2 h3 => ?_
  simp only [rd, List.getElem_map, List.getElem_range, List.getElem_append, List.length_map, List.length_range]
  split
  · rfl
  · rename_i hj
    rw [show (t + (h : Int) + ((j - h : Nat) : Int)) = t + (j : Int) by omega]
theorem fbS_append : ∀ (l m : List Int), fbS (l ++ m) = fbS l + 256 ^ l.length * fbS m
  | [], m => by simp [fbS]
  | x :: l, m => by
    have := fbS_append l m
    simp only [List.cons_append, fbS, List.length_cons, this, Int.pow_succ]
    rw [Int.mul_add, Int.mul_comm (256 ^ l.length) 256, Int.mul_assoc, ← Int.add_assoc]
theorem byL_halves : ∀ (h m : Nat) (v : Int), byL (h + m) v = byL h v ++ byL m (v / 256 ^ h)
  | 0, m, v => by simp [byL]
  | h + 1, m, v => by
    have := byL_halves h m (v / 256)
    rw [show h + 1 + m = (h + m) + 1 by omega]
    simp only [byL, List.cons_append, this]
    rw [Int.ediv_ediv_of_nonneg (by omega), Int.pow_succ, Int.mul_comm (256 ^ h) 256]
theorem wr_halves {B : List Int} {t v : Int} {h : Nat} (h0 : 0 ≤ t) (h1 : t + (h + h : Nat) ≤ B.length) : wrB (wrB B t (byL h v) h) (t + (h : Int)) (byL h (v / 256 ^ h)) h = wrB B t (byL (h + h) v) (h + h) := by
  have e := byL_halves h h v
  have hl := byL_len h v
  refine List.ext_getElem? fun j => ?_
  have l1 : (wrB B t (byL h v) h).length = B.length := wrB_len _ _ _ _
  rw [wrB_get (by omega) h j (by rw [l1]; omega), wrB_get h0 h j (by omega), wrB_get h0 (h + h) j (by omega), e]
  by_cases c1 : t + (h : Int) ≤ j ∧ (j : Int) < t + h + h
  · rw [if_pos c1, if_pos (by omega), List.getElem?_append_right (by omega), hl, show j - (t + (h : Int)).toNat = j - t.toNat - h by omega]
  · rw [if_neg c1]
    by_cases c2 : t ≤ j ∧ (j : Int) < t + h
    · rw [if_pos c2, if_pos (by omega), List.getElem?_append_left (by omega)]
    · rw [if_neg c2, if_neg (by omega)]
theorem wr_u {n : Nat} {x : Int} (hn : n = 1 ∨ n = 2 ∨ n = 4) (h0 : 0 ≤ x) (h1 : x < 256 ^ n) : wr n false (wrap64 x) = x := by
  rcases hn with rfl | rfl | rfl <;> (simp only [Int.reducePow] at h1; simp [wr, wrap64]; omega)
/-- The value of a load is put together of those of its halves. -/
theorem ld_halves {B : List Int} {t : Int} {h : Nat} (hok : okB B) (hh : h = 1 ∨ h = 2 ∨ h = 4) : ldV (h + h) false B t = wrap64 (ldV h false B t + wrap64 (ldV h false B (t + (h : Int)) * 256 ^ h)) := by
  have o1 := rd_ok hok t h
  have o2 := rd_ok hok (t + (h : Int)) h
  have b1 := fbS_bd o1
  have b2 := fbS_bd o2
  rw [rd_len] at b1 b2
  unfold ldV
  rw [rd_halves, fbS_append, rd_len, wr_u hh b1.1 b1.2, wr_u hh b2.1 b2.2]
  generalize fbS (rd B t h) = x at *
  generalize fbS (rd B (t + (h : Int)) h) = y at *
  rcases hh with rfl | rfl | rfl <;> (simp only [Int.reducePow, Int.reducePow] at *; simp [wr, wrap64]; omega)
theorem ld_h {a : Option Addr} {c : Nat} {a2 : Option Addr} {c2 : Nat} {P B : List Int} {t : Int} {n : Nat} (hc : chk P B.length = true) (hv : vB (n : Int) = true) (ht : I64 t) (hok : okB B) :
    ∃ r, LdH a c a2 c2 P B t n r (fK P B t 1 n) (fX P B t 1 n) ∧ (kN P B t 1 n = n → r = ldV n false B t) := by
  obtain ⟨r, h1, h2⟩ := load_ok (a := a) (c := c) (a2 := a2) (c2 := c2) (perm := P) (bytes := B) (g := false) hc hv ht hok
  exact ⟨r, h1, h2⟩
theorem fK_z {P B : List Int} {t : Int} {n : Nat} (h : kN P B t 1 n = n) : fK P B t 1 n = 0 ∧ fX P B t 1 n = 0 := by
  unfold fK fX; rw [if_neg (by omega), if_neg (by omega)]; exact ⟨rfl, rfl⟩
theorem fK_nz {P B : List Int} {t : Int} {n : Nat} (h : kN P B t 1 n < n) : (fK P B t 1 n == 0) = false := by
  have := fK_ne h; simpa using this
/-- What the walk of a size asks of its letters. -/
theorem halves_way {a : Option Addr} {c : Nat} {a2 : Option Addr} {c2 : Nat} {P B : List Int} {t v : Int} {h : Nat} (hc : chk P B.length = true) (hok : okB B) (ht : I64 t) (hh : h = 1 ∨ h = 2 ∨ h = 4) :
    ∃ (r1 r2 r3 kf xf kg xg ki xi k4 x4 : Int) (Bt Bu : List Int), LdH a c a2 c2 P B t ((h + h : Nat) : Int) r1 kf xf ∧ LdH a c a2 c2 P B t h r2 kg xg ∧ LdH a c a2 c2 P B (wrap64 (t + (h : Int))) h r3 ki xi ∧
      LdWay kf kg ki (r1 = wrap64 (r2 + wrap64 (r3 * 256 ^ h))) ∧ ((StF P B t ((h + h : Nat) : Int) false v k4 x4 ∧ (k4 != 0) = true) ∨ (StY P B t ((h + h : Nat) : Int) false v Bt ∧ StY P B t h false v Bu ∧ StY P Bu (wrap64 (t + (h : Int))) h false (v / 256 ^ h) Bt)) ∧ okB Bt := by
  have hv : vB (h : Int) = true := by rcases hh with rfl | rfl | rfl <;> decide
  have hv2 : vB ((h + h : Nat) : Int) = true := by rcases hh with rfl | rfl | rfl <;> decide
  have hp : 0 < h := by omega
  have ht' : I64 (wrap64 (t + (h : Int))) := I64_wrap64 _
  obtain ⟨r1, f1, e1⟩ := ld_h (a := a) (c := c) (a2 := a2) (c2 := c2) hc hv2 ht hok
  obtain ⟨r2, f2, e2⟩ := ld_h (a := a) (c := c) (a2 := a2) (c2 := c2) hc hv ht hok
  obtain ⟨r3, f3, e3⟩ := ld_h (a := a) (c := c) (a2 := a2) (c2 := c2) hc hv ht' hok
  have n1 := kN_le P B t 1 (h + h)
  have n2 := kN_le P B t 1 h
  have n3 := kN_le P B (wrap64 (t + (h : Int))) 1 h
  have hl := chk_le hc
  have hW : LdWay (fK P B t 1 (h + h)) (fK P B t 1 h) (fK P B (wrap64 (t + (h : Int))) 1 h) (r1 = wrap64 (r2 + wrap64 (r3 * 256 ^ h))) := by
    by_cases c2 : kN P B t 1 h < h
    · refine .inr (.inl ⟨fK_nz ?_, fK_nz c2⟩)
      by_cases c1 : kN P B t 1 (h + h) < h + h
      · exact c1
      · have := (half_all (P := P) (B := B) (t := t) (q := 1) (h := h) (by omega)).1; omega
    · have c2 : kN P B t 1 h = h := by omega
      obtain ⟨x0, x1⟩ := in_range (q := 1) (perm := P) (B := B) (t := t) (n := h) c2 hp
      have ew : wrap64 (t + (h : Int)) = t + h := w64_in (by unfold I64; omega)
      rw [ew] at n3 e3 ⊢
      by_cases c3 : kN P B (t + (h : Int)) 1 h < h
      · refine .inr (.inr ⟨fK_nz ?_, (fK_z c2).1, fK_nz c3⟩)
        by_cases c1 : kN P B t 1 (h + h) < h + h
        · exact c1
        · have := (half_all (P := P) (B := B) (t := t) (q := 1) (h := h) (by omega)).2; omega
      · have c3 : kN P B (t + (h : Int)) 1 h = h := by omega
        have c1 := all_half c2 c3
        refine .inl ⟨(fK_z c1).1, (fK_z c2).1, (fK_z c3).1, ?_⟩
        rw [e1 c1, e2 c2, e3 c3]
        exact ld_halves hok hh
  have s1 := kN_le P B t 2 (h + h)
  by_cases k : kN P B t 2 (h + h) < h + h
  · exact ⟨r1, r2, r3, _, _, _, _, _, _, _, _, [], [], f1, f2, f3, hW, .inl ⟨st_f (v := v) (g := false) hc hv2 ht k, fK_ne k⟩, fun n h => by cases h⟩
  · have k : kN P B t 2 (h + h) = h + h := by omega
    obtain ⟨k1, k2⟩ := half_all k
    obtain ⟨x0, x1⟩ := in_range (q := 2) (perm := P) (B := B) (t := t) (n := h + h) k (by omega)
    have ew : wrap64 (t + (h : Int)) = t + h := w64_in (by unfold I64; omega)
    have lu : (wrB B t (byL h v) h).length = B.length := wrB_len _ _ _ _
    have q1 := st_y (v := v) (g := false) hc hv2 ht k
    have q2 := st_y (v := v) (g := false) hc hv ht k1
    have q3 := st_y (P := P) (B := wrB B t (byL h v) h) (t := t + (h : Int)) (v := v / 256 ^ h) (n := h) (g := false) (by rw [lu]; exact hc) hv (by unfold I64; omega) (by rw [kN_len lu]; exact k2)
    rw [wr_halves x0 x1] at q3
    refine ⟨r1, r2, r3, _, _, _, _, _, _, 0, 0, _, _, f1, f2, f3, hW, .inr ⟨q1, q2, by rw [ew]; exact q3⟩, wrB_ok t hok (byL_ok _ v) _⟩
theorem memHalves_walk (a : Option Addr) (c : Nat) (a2 : Option Addr) (c2 : Nat) (P B : List Int) (t s v : Int) (gx : Bool) (w : World) (hS : SpIn w a c a2 c2 P B) (hok : okB B) (ht : I64 t) :
    Calls Try.prog 10 #[.agg #[.slice a P.length c, .slice a2 B.length c2], .agg #[.int .i64 t, .int .i64 s, .bool gx, .int .i64 v]] w fun e w' => e = .returned (.bool true) ∧ Below w.heap.size w w' := by
  cases hc : chk P B.length with
  | false => exact mh_1 a c a2 c2 P B t v gx w hS s (ck_n hc)
  | true =>
  cases hx : vB s with
  | false => exact mh_2 a c a2 c2 P B t v gx w hS s (ck_y hc) (fun w => rcheck_n s false w hx)
  | true =>
  rcases vB_cases hx with rfl | rfl | rfl | rfl
  · exact mh_3 a c a2 c2 P B t v gx w hS (ck_y hc) (fun w => rcheck_y 1 false w hx)
  · obtain ⟨r1, r2, r3, kf, xf, kg, xg, ki, xi, k4, x4, Bt, Bu, f1, f2, f3, hW, hst, hb⟩ := halves_way (a := a) (c := c) (a2 := a2) (c2 := c2) (v := v) (h := 1) hc hok ht (.inl rfl)
    exact mh_w2 a c a2 c2 P B t v gx w hS r1 r2 r3 kf xf kg xg ki xi k4 x4 Bt Bu (ck_y hc) (fun w => rcheck_y 2 false w hx) f1 f2 f3 hW hst (sm_y hb)
  · obtain ⟨r1, r2, r3, kf, xf, kg, xg, ki, xi, k4, x4, Bt, Bu, f1, f2, f3, hW, hst, hb⟩ := halves_way (a := a) (c := c) (a2 := a2) (c2 := c2) (v := v) (h := 2) hc hok ht (.inr (.inl rfl))
    exact mh_w4 a c a2 c2 P B t v gx w hS r1 r2 r3 kf xf kg xg ki xi k4 x4 Bt Bu (ck_y hc) (fun w => rcheck_y 4 false w hx) f1 f2 f3 hW hst (sm_y hb)
  · obtain ⟨r1, r2, r3, kf, xf, kg, xg, ki, xi, k4, x4, Bt, Bu, f1, f2, f3, hW, hst, hb⟩ := halves_way (a := a) (c := c) (a2 := a2) (c2 := c2) (v := v) (h := 4) hc hok ht (.inr (.inr rfl))
    exact mh_w8 a c a2 c2 P B t v gx w hS r1 r2 r3 kf xf kg xg ki xi k4 x4 Bt Bu (ck_y hc) (fun w => rcheck_y 8 false w hx) f1 f2 f3 hW hst (sm_y hb)
end Go.Proofs.Ytdbcbmdekdfdoaa
