/- WHAT IS PROVED: taplinelaw03.MemMoves answers true, for every space, word and slice of bytes. CONDITIONS: the arguments read as lists of numbers. -/
import Derived.Test.YtdbcbmdekdfdoaaMm
import Derived.Test.YtdbcbmdekdfdoaaMb
namespace Go.Proofs.Ytdbcbmdekdfdoaa
open Go Go.RowKit Go.QrBits Go.QrMem

theorem rsm_y {P B : List Int} (hok : okB B) : RsmY P B := fun a c a2 c2 a' c' a2' c2' w h h' => by
  have := rsame_c a c a2 c2 P B a' c' a2' c2' P B w h h' hok hok
  simpa using this
theorem okB_nil' : okB [] := fun n h => by cases h
theorem sog_no {k x er : Int} {w w' : World} {e : Ending} (h : e = .returned (.tuple #[.agg #[.slice none 0 0, .slice none 0 0], .agg #[.int .i64 k, .int .i64 x], .int .i64 er]) ∧ Below w.heap.size w w') : SpOutG [] [] k x er w e w' :=
  ⟨none, 0, none, 0, h.1, spIn_nil _, h.2⟩
theorem sog_y {P B : List Int} {w w' : World} {e : Ending} (h : StPost P B w e w') : SpOutG P B 0 0 0 w e w' := by
  obtain ⟨v, he, ⟨a, c, a2, c2, rfl, h1, h2⟩, hb⟩ := h
  exact ⟨a, c, a2, c2, he, spIn_own h1 h2, hb⟩
variable (a : Option Addr) (c : Nat) (a2 : Option Addr) (c2 : Nat) (P B : List Int)
theorem load_both (t s : Int) (gx : Bool) (ht : I64 t) (hok : okB B) : ∃ v k x er, LoG a c a2 c2 P B t s gx v k x er ∧ RLoG a c a2 c2 P B t s gx v k x er := by
  cases hc : chk P B.length with
  | false => exact ⟨0, 0, 0, 30, fun w h => load_n a c a2 c2 P B t s gx w h hc, fun w h => rload_n a c a2 c2 P B t s gx w h hc⟩
  | true =>
  cases hv : vB s with
  | false => exact ⟨0, 0, 0, 10, fun w h => load_p a c a2 c2 P B t s gx w h hc hv, fun w h => rload_p a c a2 c2 P B t s gx w h hc hv⟩
  | true =>
  obtain ⟨n, rfl, hn8⟩ := vB_nat hv
  by_cases hk : kN P B t 1 n < n
  · exact ⟨0, _, _, 0, fun w h => load_f a c a2 c2 P B t n gx w h hc hv ht hk, fun w h => rload_f a c a2 c2 P B t n gx w h hc hv ht hk⟩
  · have hk2 : kN P B t 1 n = n := by have := kN_le P B t 1 n; omega
    exact ⟨_, 0, 0, 0, fun w h => load_y a c a2 c2 P B t n gx w h hc hv ht hok hk2, fun w h => rload_y a c a2 c2 P B t n gx w h hc hv ht hok hk2⟩
theorem store_both (t s v : Int) (gx : Bool) (ht : I64 t) (hv64 : I64 v) (hok : okB B) : ∃ P' B' k x er, okB B' ∧ SoG a c a2 c2 P B t s gx v P' B' k x er ∧ RSoG a c a2 c2 P B t s gx v P' B' k x er := by
  cases hc : chk P B.length with
  | false => exact ⟨[], [], 0, 0, 30, okB_nil', fun w h => (store_n a c a2 c2 P B t s v gx w h hc).mono fun _ _ h => sog_no h, fun w h => (rstore_n a c a2 c2 P B t s v gx w h hc).mono fun _ _ h => rsp_no h⟩
  | true =>
  cases hv : vB s with
  | false => exact ⟨[], [], 0, 0, 10, okB_nil', fun w h => (store_p a c a2 c2 P B t s v gx w h hc hv).mono fun _ _ h => sog_no h, fun w h => (rstore_p a c a2 c2 P B t s v gx w h hc hv).mono fun _ _ h => rsp_no h⟩
  | true =>
  obtain ⟨n, rfl, hn8⟩ := vB_nat hv
  by_cases hk : kN P B t 2 n < n
  · exact ⟨[], [], _, _, 0, okB_nil', fun w h => (store_f a c a2 c2 P B t v n gx w h hc hv ht hk).mono fun _ _ h => sog_no h, fun w h => (rstore_f a c a2 c2 P B t v n gx w h hc hv ht hk).mono fun _ _ h => rsp_no h⟩
  · have hk2 : kN P B t 2 n = n := by have := kN_le P B t 2 n; omega
    exact ⟨P, _, 0, 0, 0, wrB_ok t hok (byL_ok n v) n, fun w h => (store_y a c a2 c2 P B t v n gx w h hc hv ht hk2).mono fun _ _ h => sog_y h, fun w h => rstore_y a c a2 c2 P B t v n gx w h hc hv ht hv64 hk2⟩
theorem poke_both (t : Int) (ab : Option Addr) (nb cb : Nat) (bs : List Int) (hl : bs.length = nb) (ht : I64 t) (hok : okB B) (hokb : okB bs) : ∃ P' B' k x er, okB B' ∧ PoG a c a2 c2 P B t ab nb cb bs P' B' k x er ∧ RPoG a c a2 c2 P B t ab nb cb bs P' B' k x er := by
  cases hc : chk P B.length with
  | false => exact ⟨[], [], 0, 0, 30, okB_nil', fun w h _ => (poke_n a c a2 c2 P B t ab nb cb w h hc).mono fun _ _ h => sog_no h, fun w h _ => (rpoke_n a c a2 c2 P B t ab nb cb w h hc).mono fun _ _ h => rsp_no h⟩
  | true =>
  by_cases hn : 2048 < nb
  · exact ⟨[], [], 0, 0, 2, okB_nil', fun w h _ => (poke_l a c a2 c2 P B t ab nb cb w h hc hn).mono fun _ _ h => sog_no h, fun w h _ => (rpoke_l a c a2 c2 P B t ab nb cb w h hc hn).mono fun _ _ h => rsp_no h⟩
  have hn : nb ≤ 2048 := by omega
  by_cases hk : kN P B t 0 nb < nb
  · exact ⟨[], [], _, _, 0, okB_nil', fun w h hb => (poke_f a c a2 c2 P B t ab nb cb bs w h hb hl hc hn ht hk).mono fun _ _ h => sog_no h, fun w h _ => (rpoke_f a c a2 c2 P B t ab nb cb w h hc hn ht hk).mono fun _ _ h => rsp_no h⟩
  · have hk2 : kN P B t 0 nb = nb := by have := kN_le P B t 0 nb; omega
    refine ⟨P, wrB B t bs nb, 0, 0, 0, wrB_ok t hok hokb nb, fun w h hb => (poke_y a c a2 c2 P B t ab nb cb bs w h hb hl hc hn ht hk2).mono fun _ _ h => sog_y h, fun w h hb => ?_⟩
    by_cases h0 : 0 < nb
    · exact rpoke_y a c a2 c2 P B t ab nb cb bs w h hb hl h0 hc hn ht hk2
    · obtain rfl : nb = 0 := by omega
      exact rpoke_z a c a2 c2 P B t ab cb w h hc ht hk2
theorem memMoves_walk (t s v : Int) (gx : Bool) (ab : Option Addr) (cb : Nat) (bs : List Int) (w : World) (hS : SpIn w a c a2 c2 P B) (hok : okB B) (ht : I64 t) (hv : I64 v) (hb : SlAt w ab (bV bs)) (hokb : okB bs) :
    Calls Try.prog 5 #[.agg #[.slice a P.length c, .slice a2 B.length c2], .agg #[.int .i64 t, .int .i64 s, .bool gx, .int .i64 v], .slice ab bs.length cb] w fun e w' => e = .returned (.bool true) ∧ Below w.heap.size w w' := by
  obtain ⟨vl, kl, xl, el, hL, hRL⟩ := load_both a c a2 c2 P B t s gx ht hok
  obtain ⟨P1, B1, ks, xs, es, ok1, hSt, hRS⟩ := store_both a c a2 c2 P B t s v gx ht hv hok
  obtain ⟨P2, B2, kp, xp, ep, ok2, hPo, hRP⟩ := poke_both a c a2 c2 P B t ab bs.length cb bs rfl ht hok hokb
  exact mm_walk a c a2 c2 P B t s v gx ab bs.length cb w hS bs P1 B1 P2 B2 hb vl kl xl el ks xs es kp xp ep hL hSt hPo hRL hRS hRP (rsm_y ok1) (rsm_y ok2)
end Go.Proofs.Ytdbcbmdekdfdoaa
