/- WHAT IS PROVED: taplinelaw03.MemReads answers true, for every space and part. CONDITIONS: the arguments read as lists of numbers. -/
import Derived.Test.YtdbcbmdekdfdoaaMv
namespace Go.Proofs.Ytdbcbmdekdfdoaa
open Go Go.RowKit Go.QrBits Go.QrMem

variable (a : Option Addr) (c : Nat) (a2 : Option Addr) (c2 : Nat) (P B : List Int)
theorem slV_nil : SlV none 0 0 := ⟨Nat.le_refl _, Nat.zero_le _, fun _ => ⟨rfl, rfl⟩⟩
theorem bs2_nil {er : Int} {w w' : World} {e : Ending} (h : e = .returned (.tuple #[.slice none 0 0, .int .i64 er]) ∧ Below w.heap.size w w') : BsOut2 [] er w e w' := ⟨none, 0, h.1, slV_nil, SlAt.nil _ _, h.2⟩
theorem bs3_nil {k x er : Int} {w w' : World} {e : Ending} (h : e = .returned (.tuple #[.slice none 0 0, .agg #[.int .i64 k, .int .i64 x], .int .i64 er]) ∧ Below w.heap.size w w') : BsOut3 [] k x er w e w' := ⟨none, 0, h.1, slV_nil, SlAt.nil _ _, h.2⟩
theorem bs4_nil {k x er : Int} {w w' : World} {e : Ending} (h : e = .returned (.agg #[.slice none 0 0, .int .i64 k, .int .i64 x, .int .i64 er]) ∧ Below w.heap.size w w') : BsOut4 [] k x er w e w' := ⟨none, 0, h.1, slV_nil, SlAt.nil _ _, h.2⟩
theorem bs2_of {L : List Int} {w w' : World} {e : Ending} (h : BytesPost L w e w') : BsOut2 L 0 w e w' := by
  obtain ⟨a, c, h1, h2, h3⟩ := h
  exact ⟨a, c, h1, spIn_own2 h2, SlAt.own h2, h3⟩
theorem bs3_of {L : List Int} {w w' : World} {e : Ending} (h : BytesPost3 L w e w') : BsOut3 L 0 0 0 w e w' := by
  obtain ⟨a, c, h1, h2, h3⟩ := h
  exact ⟨a, c, h1, spIn_own2 h2, SlAt.own h2, h3⟩
theorem bs4_of {L : List Int} {w w' : World} {e : Ending} (h : BytesPost4 L w e w') : BsOut4 L 0 0 0 w e w' := by
  obtain ⟨a, c, h1, h2, h3⟩ := h
  exact ⟨a, c, h1, spIn_own2 h2, SlAt.own h2, h3⟩
theorem nat_of {n : Int} (h : ¬ (n < 0 ∨ 2048 < n)) : ∃ k : Nat, n = k ∧ k ≤ 2048 := ⟨n.toNat, by omega, by omega⟩

theorem acc_both (t n q : Int) (ht : I64 t) : ∃ k x er, AcG a c a2 c2 P B t n q k x er ∧ RAcG a c a2 c2 P B t n q k x er := by
  cases hc : chk P B.length with
  | false => exact ⟨0, 0, 30, fun w h => access_n a c a2 c2 P B t n q w h hc, fun w h => racc_n a c a2 c2 P B t n q w h hc⟩
  | true =>
  by_cases hn : n < 0 ∨ 2048 < n
  · refine ⟨0, 0, 1, fun w h => access_p a c a2 c2 P B t n q w h hc hn, fun w h => ?_⟩
    rcases hn with hn | hn
    · exact racc_lo a c a2 c2 P B t n q w h hc hn
    · exact racc_hi a c a2 c2 P B t n q w h hc hn
  · obtain ⟨n, rfl, hn8⟩ := nat_of hn
    replace hn := hn8
    by_cases q1 : q = 1
    · subst q1; exact ⟨_, _, 0, fun w h => access_r a c a2 c2 P B t n w h hc hn ht, fun w h => racc_1 a c a2 c2 P B t n w h hc hn ht⟩
    by_cases q2 : q = 2
    · subst q2; exact ⟨_, _, 0, fun w h => access_w a c a2 c2 P B t n w h hc hn ht, fun w h => racc_2 a c a2 c2 P B t n w h hc hn ht⟩
    by_cases q4 : q = 4
    · subst q4; exact ⟨_, _, 0, fun w h => access_x a c a2 c2 P B t n w h hc hn ht, fun w h => racc_4 a c a2 c2 P B t n w h hc hn ht⟩
    have q1 := bne_iff_ne.2 q1
    have q2 := bne_iff_ne.2 q2
    have q4 := bne_iff_ne.2 q4
    exact ⟨0, 0, 1, fun w h => access_q a c a2 c2 P B t n q w h hc hn q1 q2 q4, fun w h => racc_q a c a2 c2 P B t n q w h hc hn q1 q2 q4⟩
theorem okB_nil : okB [] := fun n h => by cases h
theorem fet_both (t n : Int) (ht : I64 t) (hok : okB B) : ∃ L er, okB L ∧ FeG a c a2 c2 P B t n L er ∧ RFeG a c a2 c2 P B t n L er := by
  cases hc : chk P B.length with
  | false => exact ⟨[], 30, okB_nil, fun w h => (fetch_n a c a2 c2 P B t n w h hc).mono fun _ _ h => bs2_nil h, fun w h => (rfet_n a c a2 c2 P B t n w h hc).mono fun _ _ h => bs4_nil h⟩
  | true =>
  by_cases hn : n < 0 ∨ 2048 < n
  · refine ⟨[], 1, okB_nil, fun w h => (fetch_p a c a2 c2 P B t n w h hc hn).mono fun _ _ h => bs2_nil h, fun w h => ?_⟩
    rcases hn with hn | hn
    · exact (rfet_lo a c a2 c2 P B t n w h hc hn).mono fun _ _ h => bs4_nil h
    · exact (rfet_hi a c a2 c2 P B t n w h hc hn).mono fun _ _ h => bs4_nil h
  · obtain ⟨n, rfl, hn8⟩ := nat_of hn
    replace hn := hn8
    exact ⟨_, 0, rd_ok hok _ _, fun w h => (fetch_y a c a2 c2 P B t n w h hc hn ht).mono fun _ _ h => bs2_of h, fun w h => (rfet_y a c a2 c2 P B t n w h hc hn ht).mono fun _ _ h => bs4_of h⟩
theorem pek_both (t n : Int) (ht : I64 t) (hok : okB B) : ∃ L k x er, okB L ∧ PeG a c a2 c2 P B t n L k x er ∧ RPeG a c a2 c2 P B t n L k x er := by
  cases hc : chk P B.length with
  | false => exact ⟨[], 0, 0, 30, okB_nil, fun w h => (peek_n a c a2 c2 P B t n w h hc).mono fun _ _ h => bs3_nil h, fun w h => (rpek_n a c a2 c2 P B t n w h hc).mono fun _ _ h => bs4_nil h⟩
  | true =>
  by_cases hn : n < 0 ∨ 2048 < n
  · refine ⟨[], 0, 0, 1, okB_nil, fun w h => (peek_p a c a2 c2 P B t n w h hc hn).mono fun _ _ h => bs3_nil h, fun w h => ?_⟩
    rcases hn with hn | hn
    · exact (rpek_lo a c a2 c2 P B t n w h hc hn).mono fun _ _ h => bs4_nil h
    · exact (rpek_hi a c a2 c2 P B t n w h hc hn).mono fun _ _ h => bs4_nil h
  · obtain ⟨n, rfl, hn8⟩ := nat_of hn
    replace hn := hn8
    by_cases hk : kN P B t 0 n < n
    · exact ⟨[], _, _, 0, okB_nil, fun w h => (peek_f a c a2 c2 P B t n w h hc hn ht hk).mono fun _ _ h => bs3_nil h, fun w h => (rpek_f a c a2 c2 P B t n w h hc hn ht hk).mono fun _ _ h => bs4_nil h⟩
    · have hk2 : kN P B t 0 n = n := by have := kN_le P B t 0 n; omega
      refine ⟨rd B t n, 0, 0, 0, rd_ok hok _ _, fun w h => (peek_y a c a2 c2 P B t n w h hc hn ht hk2).mono fun _ _ h => bs3_of ?_, fun w h => (rpek_y a c a2 c2 P B t n w h hc hn ht hk2).mono fun _ _ h => bs4_of h⟩
      rwa [hk2] at h
theorem str_both (t n : Int) (ht : I64 t) (hok : okB B) : ∃ S k x er, StrG a c a2 c2 P B t n S k x er ∧ RStrG a c a2 c2 P B t n S k x er := by
  cases hc : chk P B.length with
  | false => exact ⟨⟨#[]⟩, 0, 0, 30, fun w h => string_n a c a2 c2 P B t n w h hc, fun w h => rstr_n a c a2 c2 P B t n w h hc⟩
  | true =>
  by_cases h0 : n < 0
  · exact ⟨⟨#[]⟩, 0, 0, 1, fun w h => string_lo a c a2 c2 P B t n w h hc h0, fun w h => rstr_lo a c a2 c2 P B t n w h hc h0⟩
  by_cases h1 : 64 < n
  · exact ⟨⟨#[]⟩, 0, 0, 1, fun w h => string_hi a c a2 c2 P B t n w h hc h1, fun w h => rstr_hi a c a2 c2 P B t n w h hc h1⟩
  obtain ⟨n, rfl⟩ : ∃ k : Nat, n = k := ⟨n.toNat, by omega⟩
  have hn : n ≤ 64 := by omega
  have hokR := rd_ok hok t (kN P B t 1 n)
  have hle := kN_le P B t 1 n
  rcases zi_cases (rd B t (kN P B t 1 n)) with ⟨hz, _⟩ | ⟨j, hz, hj, _, _⟩
  · by_cases hk : kN P B t 1 n < n
    · refine ⟨_, _, _, 0, fun w h => string_f a c a2 c2 P B t n w h hc hn ht hokR hz hk, fun w h => (rstr_c a c a2 c2 P B t n w h hc hn ht hok).mono fun e w' ⟨⟨S, k, x, he, hI⟩, hb⟩ => ⟨?_, hb⟩⟩
      rcases hI with ⟨j, h2, _⟩ | ⟨_, _, rfl, rfl, rfl⟩ | ⟨_, h3, _⟩
      · rw [hz] at h2; omega
      · exact he
      · omega
    · have hk2 : kN P B t 1 n = n := by omega
      refine ⟨_, _, _, 0, fun w h => string_y a c a2 c2 P B t n w h hc hn ht hokR hz hk2, fun w h => (rstr_c a c a2 c2 P B t n w h hc hn ht hok).mono fun e w' ⟨⟨S, k, x, he, hI⟩, hb⟩ => ⟨?_, hb⟩⟩
      rcases hI with ⟨j, h2, _⟩ | ⟨_, h3, _⟩ | ⟨_, _, rfl, rfl, rfl⟩
      · rw [hz] at h2; omega
      · omega
      · exact he
  · refine ⟨_, _, _, 0, fun w h => string_z a c a2 c2 P B t n w h hc hn ht hokR j hz hj, fun w h => (rstr_c a c a2 c2 P B t n w h hc hn ht hok).mono fun e w' ⟨⟨S, k, x, he, hI⟩, hb⟩ => ⟨?_, hb⟩⟩
    rcases hI with ⟨j', h2, _, rfl, rfl, rfl⟩ | ⟨h2, _⟩ | ⟨h2, _⟩
    · have : j' = j := by rw [hz] at h2; omega
      subst this; exact he
    · rw [hz] at h2; omega
    · rw [hz] at h2; omega
theorem memReads_walk (t n q : Int) (w : World) (hS : SpIn w a c a2 c2 P B) (hok : okB B) (ht : I64 t) :
    Calls Try.prog 4 #[.agg #[.slice a P.length c, .slice a2 B.length c2], .agg #[.int .i64 t, .int .i64 n, .int .i64 q]] w fun e w' => e = .returned (.bool true) ∧ Below w.heap.size w w' := by
  obtain ⟨ka, xa, ea, hA, hRA⟩ := acc_both a c a2 c2 P B t n q ht
  obtain ⟨LF, ef, ok1, hF, hRF⟩ := fet_both a c a2 c2 P B t n ht hok
  obtain ⟨LP, kp, xp, ep, ok2, hP, hRP⟩ := pek_both a c a2 c2 P B t n ht hok
  obtain ⟨St, kt, xt, et, hT, hRT⟩ := str_both a c a2 c2 P B t n ht hok
  exact mr_walk a c a2 c2 P B t n q w hS ka xa ea ef kp xp ep kt xt et LF LP St ok1 ok2 hA hF hP hT hRA hRF hRP hRT
end Go.Proofs.Ytdbcbmdekdfdoaa
