/- WHAT IS PROVED: taplinelaw03.MemCode answers true, for every space, part and word. CONDITIONS: the arguments read as lists of numbers. -/
import Derived.Test.YtdbcbmdekdfdoaaMc
import Derived.Test.YtdbcbmdekdfdoaaMw
import Derived.Test.YtdbcbmdekdfdoaaMb
namespace Go.Proofs.Ytdbcbmdekdfdoaa
open Go Go.RowKit Go.QrBits Go.QrMem

/-- Code pages keep their permission and their bytes. -/
def Keep (P B P' B' : List Int) : Prop := P'.length = P.length ∧ chk P' B'.length = true ∧ okB B' ∧ ∀ k : Nat, P[k]? = some 4 → P'[k]? = some 4 ∧ pg B' k = pg B k
theorem keep_refl {P B : List Int} (hc : chk P B.length = true) (hok : okB B) : Keep P B P B := ⟨rfl, hc, hok, fun _ h => ⟨h, rfl⟩⟩
theorem keep_trans {P B P1 B1 P2 B2 : List Int} (h : Keep P B P1 B1) (h2 : Keep P1 B1 P2 B2) : Keep P B P2 B2 :=
  ⟨by rw [h2.1, h.1], h2.2.1, h2.2.2.1, fun k hk => ⟨(h2.2.2.2 k (h.2.2.2 k hk).1).1, by rw [(h2.2.2.2 k (h.2.2.2 k hk).1).2, (h.2.2.2 k hk).2]⟩⟩
theorem chk_set {P : List Int} {n k : Nat} {q : Int} (hc : chk P n = true) (hq : pB q = true) : chk (P.set k q) n = true := by
  simp only [chk, Bool.and_eq_true, List.all_eq_true, List.length_set] at hc ⊢
  refine ⟨hc.1, fun x hx => ?_⟩
  rcases List.mem_or_eq_of_mem_set hx with h | h
  · exact hc.2 x h
  · rw [h]; exact hq
theorem keep_set {P B : List Int} {k : Nat} {q : Int} (hc : chk P B.length = true) (hok : okB B) (hq : pB q = true) (h : P[k]? ≠ some 4 ∨ q = 4) : Keep P B (P.set k q) B := by
  refine ⟨by simp, chk_set hc hq, hok, fun j hj => ⟨?_, rfl⟩⟩
  rw [List.getElem?_set]
  by_cases e : k = j
  · subst e
    have hlt := (List.getElem?_eq_some_iff.1 hj).1
    rw [if_pos rfl, if_pos hlt]
    rcases h with h | h
    · exact (h hj).elim
    · rw [h]
  · rw [if_neg e]; exact hj
theorem keep_store {P B : List Int} {u v : Int} {n : Nat} (hc : chk P B.length = true) (hok : okB B) (hk : kN P B u 2 n = n) (hn : 0 < n) : Keep P B P (wrB B u (byL n v) n) := by
  obtain ⟨h0, h1⟩ := in_range hk hn
  refine ⟨rfl, by rw [wrB_len]; exact hc, wrB_ok u hok (byL_ok n v) n, fun k hp => ⟨hp, ?_⟩⟩
  unfold pg
  refine List.ext_getElem? fun i => ?_
  by_cases hi : i < 64
  · rw [List.getElem?_take_of_lt hi, List.getElem?_take_of_lt hi, List.getElem?_drop, List.getElem?_drop, wrB_get h0 n _ h1]
    split
    · rename_i hr
      exfalso
      have hg := kN_all (perm := P) (bytes := B) (t := u) (q := 2) (n := n) (i := k * 64 + i - u.toNat) (by omega)
      obtain ⟨_, _, p, x, hp1, hx, hm⟩ := good_out hg
      have e : p = k := by omega
      subst e
      rw [hp] at hx
      cases hx
      exact absurd hm (by decide)
    · rfl
  · rw [List.getElem?_eq_none (by simp; omega), List.getElem?_eq_none (by simp; omega)]
theorem ow2_no {er : Int} {w w' : World} {e : Ending} (h : e = .returned (.tuple #[.agg #[.slice none 0 0, .slice none 0 0], .int .i64 er]) ∧ Below w.heap.size w w') : SpOw2 [] [] er w e w' :=
  ⟨none, 0, none, 0, h.1, World.ownsRow_nil _ _ _ _, World.ownsRow_nil _ _ _ _, h.2⟩
theorem ow2_y {P B : List Int} {w w' : World} {e : Ending} (h : SpPost P B w e w') : SpOw2 P B 0 w e w' := by
  obtain ⟨v, he, ⟨a, c, a2, c2, rfl, h1, h2⟩, hb⟩ := h
  exact ⟨a, c, a2, c2, he, h1, h2, hb⟩
theorem ow3_no {k x er : Int} {w w' : World} {e : Ending} (h : e = .returned (.tuple #[.agg #[.slice none 0 0, .slice none 0 0], .agg #[.int .i64 k, .int .i64 x], .int .i64 er]) ∧ Below w.heap.size w w') : SpOw3 [] [] k x er w e w' :=
  ⟨none, 0, none, 0, h.1, World.ownsRow_nil _ _ _ _, World.ownsRow_nil _ _ _ _, h.2⟩
theorem ow3_y {P B : List Int} {w w' : World} {e : Ending} (h : StPost P B w e w') : SpOw3 P B 0 0 0 w e w' := by
  obtain ⟨v, he, ⟨a, c, a2, c2, rfl, h1, h2⟩, hb⟩ := h
  exact ⟨a, c, a2, c2, he, h1, h2, hb⟩
theorem pr_way {P B : List Int} (n q : Int) (hc : chk P B.length = true) (hok : okB B) : ∃ Pp Bp ep P1 B1, PrO P B n q Pp Bp ep ∧ Goes (ep == 0) P B Pp Bp P1 B1 ∧ Keep P B P1 B1 := by
  have no : (∀ (a : Option Addr) (c : Nat) (a2 : Option Addr) (c2 : Nat) (w : World), SpIn w a c a2 c2 P B → Calls Try.prog 16 #[.agg #[.slice a P.length c, .slice a2 B.length c2], .int .i64 n, .int .i64 q] w fun e w' => e = .returned (.tuple #[noSp, .int .i64 31]) ∧ Below w.heap.size w w') →
      ∃ Pp Bp ep P1 B1, PrO P B n q Pp Bp ep ∧ Goes (ep == 0) P B Pp Bp P1 B1 ∧ Keep P B P1 B1 := fun h =>
    ⟨[], [], 31, P, B, fun a c a2 c2 w hs => (h a c a2 c2 w hs).mono fun _ _ h => ow2_no h, .inr ⟨rfl, rfl, rfl⟩, keep_refl hc hok⟩
  by_cases h0 : 0 ≤ n ∧ n < P.length
  rotate_left
  · exact no fun a c a2 c2 w hs => protect_p a c a2 c2 P B n q w hs hc h0
  obtain ⟨k, rfl⟩ : ∃ k : Nat, n = k := ⟨n.toNat, by omega⟩
  have hk : k < P.length := by omega
  obtain ⟨x, hx⟩ : ∃ x, P[k]? = some x := ⟨P[k], by simp [hk]⟩
  by_cases h4 : x = 4
  · subst h4
    exact no fun a c a2 c2 w hs => protect_4 a c a2 c2 P B k q w hs hc hk hx
  have h4' : (x == 4) = false := beq_eq_false_iff_ne.2 h4
  cases hd : dB q with
  | false => exact no fun a c a2 c2 w hs => protect_d a c a2 c2 P B k x q w hs hc hk hx h4' hd
  | true =>
    exact ⟨P.set k q, B, 0, P.set k q, B, fun a c a2 c2 w hs => (protect_y a c a2 c2 P B k x q w hs hc hk hx h4' hd).mono fun _ _ h => ow2_y h, .inl ⟨rfl, rfl, rfl⟩,
      keep_set hc hok (by simp [pB, hd]) (.inl (by rw [hx]; simpa using h4))⟩
theorem se_way {P B : List Int} (q : Int) (hc : chk P B.length = true) (hok : okB B) : ∃ Pp Bp ep P1 B1, SeO P B q Pp Bp ep ∧ Goes (ep == 0) P B Pp Bp P1 B1 ∧ Keep P B P1 B1 := by
  by_cases h0 : 0 ≤ q ∧ q < P.length
  · obtain ⟨k, rfl⟩ : ∃ k : Nat, q = k := ⟨q.toNat, by omega⟩
    exact ⟨P.set k 4, B, 0, P.set k 4, B, fun a c a2 c2 w hs => (seal_y a c a2 c2 P B k w hs hc (by omega)).mono fun _ _ h => ow2_y h, .inl ⟨rfl, rfl, rfl⟩, keep_set hc hok (by decide) (.inr rfl)⟩
  · exact ⟨[], [], 31, P, B, fun a c a2 c2 w hs => (seal_p a c a2 c2 P B q w hs hc h0).mono fun _ _ h => ow2_no h, .inr ⟨rfl, rfl, rfl⟩, keep_refl hc hok⟩
theorem st_way {P B : List Int} (u s v : Int) (g : Bool) (hc : chk P B.length = true) (hok : okB B) (hu : I64 u) : ∃ Pp Bp k x er bb P1 B1, StO P B u s g v Pp Bp k x er ∧ (er == 0 && k == 0) = bb ∧ Goes bb P B Pp Bp P1 B1 ∧ Keep P B P1 B1 := by
  cases hv : vB s with
  | false => exact ⟨[], [], 0, 0, 10, false, P, B, fun a c a2 c2 w hs => (store_p a c a2 c2 P B u s v g w hs hc hv).mono fun _ _ h => ow3_no h, rfl, .inr ⟨rfl, rfl, rfl⟩, keep_refl hc hok⟩
  | true =>
  obtain ⟨n, rfl, hn8⟩ := vB_nat hv
  by_cases hk : kN P B u 2 n < n
  · have hne := fK_ne hk
    refine ⟨[], [], fK P B u 2 n, fX P B u 2 n, 0, false, P, B, fun a c a2 c2 w hs => (store_f a c a2 c2 P B u v n g w hs hc hv hu hk).mono fun _ _ h => ow3_no h, ?_, .inr ⟨rfl, rfl, rfl⟩, keep_refl hc hok⟩
    rw [bne_iff_ne] at hne
    simp [hne]
  · have hk2 : kN P B u 2 n = n := by have := kN_le P B u 2 n; omega
    exact ⟨P, _, 0, 0, 0, true, P, _, fun a c a2 c2 w hs => (store_y a c a2 c2 P B u v n g w hs hc hv hu hk2).mono fun _ _ h => ow3_y h, rfl, .inl ⟨rfl, rfl, rfl⟩, keep_store hc hok hk2 (vB_le hv).1⟩
theorem good_any4 {P B : List Int} {q x : Int} (h : good P B q x = true) : good P B 0 x = true := by
  simp only [good, Bool.and_eq_true, decide_eq_true_eq] at h ⊢
  refine ⟨h.1, ?_⟩
  have h2 := h.2
  cases hp : P[x.toNat / 64]? with
  | none => rw [hp] at h2; cases h2
  | some q => exact may0 q
theorem kN_lead {P B : List Int} {t q : Int} {k n : Nat} (h : k ≤ kN P B t q n) : kN P B t q k = k :=
  lead_uniq _ k k (Nat.le_refl _) (fun j hj => kN_all (Nat.lt_of_lt_of_le hj h)) (fun h => by omega)
theorem kN_lead0 {P B : List Int} {t q : Int} {k n : Nat} (h : k ≤ kN P B t q n) : kN P B t 0 k = k :=
  lead_uniq _ k k (Nat.le_refl _) (fun j hj => good_any4 (kN_all (Nat.lt_of_lt_of_le hj h))) (fun h => by omega)
theorem fet_way (a : Option Addr) (c : Nat) (a2 : Option Addr) (c2 : Nat) {P B : List Int} (t n : Int) (hc : chk P B.length = true) (hok : okB B) (ht : I64 t) : ∃ L ef, okB L ∧ FeG a c a2 c2 P B t n L ef ∧ FetWay a c a2 c2 P B t n L ef := by
  by_cases hn : n < 0 ∨ 2048 < n
  · exact ⟨[], 1, okB_nil, fun w h => (fetch_p a c a2 c2 P B t n w h hc hn).mono fun _ _ h => bs2_nil h, .inl rfl⟩
  · obtain ⟨n, rfl, hn8⟩ := nat_of hn
    have hle := kN_le P B t 4 n
    have hl : (rd B t (kN P B t 4 n)).length = kN P B t 4 n := rd_len _ _ _
    refine ⟨_, 0, rd_ok hok _ _, fun w h => (fetch_y a c a2 c2 P B t n w h hc hn8 ht).mono fun _ _ h => bs2_of h, .inr ⟨rfl, ?_, ?_, ?_⟩⟩
    · rw [hl]
      intro w h
      have h0 := kN_lead0 (P := P) (B := B) (t := t) (q := 4) (k := kN P B t 4 n) (n := n) (Nat.le_refl _)
      have := peek_y a c a2 c2 P B t (kN P B t 4 n) w h hc (by omega) ht h0
      rw [h0] at this
      exact this.mono fun _ _ h => bs3_of h
    · rw [hl]
      intro w h
      have h0 := kN_lead (P := P) (B := B) (t := t) (q := 4) (k := kN P B t 4 n) (n := n) (Nat.le_refl _)
      have := access_x a c a2 c2 P B t (kN P B t 4 n) w h hc (by omega) ht
      obtain ⟨e1, e2⟩ := fK_end h0
      rwa [e1, e2] at this
    · rw [hl]
      rcases Nat.lt_or_ge (kN P B t 4 n) n with h | h
      · right
        have hb := kN_in (q := 4) (P := P) (B := B) (t := t) (n := n) (k := kN P B t 4 n) (by have := chk_len4 hc; omega) ht (Nat.le_refl _)
        have ht2 : I64 (t + (kN P B t 4 n : Nat)) := ⟨hb.1, hb.2⟩
        have hst := kN_stop (perm := P) (bytes := B) h
        refine ⟨by omega, fK P B (t + (kN P B t 4 n : Nat)) 4 1, fX P B (t + (kN P B t 4 n : Nat)) 4 1, fun w h => ?_, ?_⟩
        · rw [w64_in ht2]
          exact access_x a c a2 c2 P B (t + (kN P B t 4 n : Nat)) 1 w h hc (by omega) ht2
        · have := fK_ne (perm := P) (bytes := B) (t := t + (kN P B t 4 n : Nat)) (need := 4) (n := 1) (by rw [kN_one, hst]; decide)
          simpa using this
      · left; omega
theorem memCode_walk (a : Option Addr) (c : Nat) (a2 : Option Addr) (c2 : Nat) (P B : List Int) (t n q u s v : Int) (g : Bool) (w : World) (hS : SpIn w a c a2 c2 P B) (hok : okB B) (ht : I64 t) (hu : I64 u) :
    Calls Try.prog 11 #[.agg #[.slice a P.length c, .slice a2 B.length c2], .agg #[.int .i64 t, .int .i64 n, .int .i64 q], .agg #[.int .i64 u, .int .i64 s, .bool g, .int .i64 v]] w fun e w' => e = .returned (.bool true) ∧ Below w.heap.size w w' := by
  cases hc : chk P B.length with
  | false => exact mc_n a c a2 c2 P B t n q u s v g w hS (ck_n hc)
  | true =>
  obtain ⟨L, ef, okL, hF, hfw⟩ := fet_way a c a2 c2 t n hc hok ht
  obtain ⟨Pp, Bp, ep, P1, B1, hPr, hG1, k1⟩ := pr_way n q hc hok
  obtain ⟨Pq, Bq, kq, xq, eq, bb, P2, B2, hSt, hbb, hG2, k2⟩ := st_way u s v g k1.2.1 k1.2.2.1 hu
  obtain ⟨Pr, Br, er, P3, B3, hSe, hG3, k3⟩ := se_way q k2.2.1 k2.2.2.1
  have k := keep_trans k1 (keep_trans k2 k3)
  exact mc_walk a c a2 c2 P B t n q u s v g w hS L ef Pp Bp P1 B1 Pq Bq P2 B2 Pr Br P3 B3 ep kq xq eq er bb okL (ck_y hc) hF hfw hPr hG1 hSt hbb hG2 hSe hG3 (ck_y k.2.1) k.1 hc k.2.1 hok k.2.2.1 k.2.2.2
end Go.Proofs.Ytdbcbmdekdfdoaa
